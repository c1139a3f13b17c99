/- Law FnCertQuorum holds for every input; no conditions of our own. -/
import Derived.Test.YteglefchkecfjaaRows
import Derived.Test.YteglefchkecfjaaBu0
import Derived.Test.YteglefchkecfjaaBu1
namespace Go.Proofs.Yteglefchkecfjaa
open Go.ChangeShapes Go.WideShapes Go.ChangeAt Go.RowKit

set_option maxHeartbeats 1000000 in
theorem fnCertQuorum_walk (a : Option Addr) (cap : Nat) (zs : List Int) (a' : Option Addr) (cap' : Nat) (ms : List Int) (w : World) (hk : zs.length ≤ cap) (_hm : zs.length ≤ maxLen) (hi : zs = [] ∨ ∃ b off, a = some ⟨b, off, none⟩ ∧ b < w.heap.size ∧ ∀ j (h : j < zs.length), w.cell? ⟨b, off + j, none⟩ = some (.int .u8 zs[j])) (hw : ∀ z ∈ zs, (Lit.int .u8 z).wf = true)
    (_hk' : ms.length ≤ cap') (hm' : ms.length ≤ maxLen) (_hi' : ms = [] ∨ ∃ b off, a' = some ⟨b, off, none⟩ ∧ b < w.heap.size ∧ ∀ j (h : j < ms.length), w.cell? ⟨b, off + j, none⟩ = some (.int .u8 ms[j])) (_hw' : ∀ z ∈ ms, (Lit.int .u8 z).wf = true) :
    Calls Try.prog 8 #[.slice a zs.length cap, .slice a' ms.length cap'] w fun e w' => e = .returned (.bool true) ∧ Below w.heap.size w w' := by
  unfold maxLen at hm'
  by_cases hl : 1048576 < zs.length
  · go_enter Try.func8, Try.ntmps8
    go_wp2
    go_ret
    exact ⟨rfl, Below.refl _ _⟩
  by_cases hl' : 1048576 < ms.length
  · go_enter Try.func8, Try.ntmps8
    go_wp2
    go_ret
    exact ⟨rfl, Below.refl _ _⟩
  have hcode := codeAt_of hk (by omega) hi hw
  have Hcode := Lib.hid hcode; clear hcode hi hw
  go_enter Try.func8, Try.ntmps8
  go_wp2_with fail
  refine (spec_DrawCertMake a cap zs _ Hcode.out).mono ?_
  rintro e w1 ⟨vc, c, vk, keys, d, vs, sigs, rfl, hoc, hcl, hok, hkl, hos, hsl, hb1⟩
  obtain ⟨ac, cc, rfl, hc, _⟩ := hoc.ints
  obtain ⟨ak, ck, rfl, hk, _⟩ := hok.ints
  obtain ⟨ag, cg, rfl, hg, hgs, hgc⟩ := hos.src
  have hI := impl_CertMake ac cc c ak ck keys d ag cg sigs w1 (by omega) (by omega) (by omega) hc hk hg
  have hS := fun W (h : Below w1.heap.size w1 W) => spec_CertMake ac cc c ak ck keys d ag cg sigs W (by omega) (by omega) (by omega) (hc.below h) (hk.below h) (hg.below h)
  have hml := cmL_len c keys d sigs
  have Hc := Lib.hid hc; clear hc hoc
  have Hk := Lib.hid hk; clear hk hok
  have Hg := Lib.hid hg; clear hg
  have Hkl := Lib.hid hkl; clear hkl
  have hs1 := hb1.size
  cases hq : cmB c keys d sigs with
  | false =>
    generalize hD : cmD c keys d sigs = D at *
    generalize hLL : cmL c keys d sigs = L at *
    generalize hSS : cmS c keys d sigs = S at *
    rw [hq] at hI hS
    have HI := Lib.hid hI; clear hI
    have HS := Lib.hid hS; clear hS
    have Hq := Lib.hid hq; clear hq
    have HD := Lib.hid hD; clear hD
    have HL := Lib.hid hLL; clear hLL
    have HSS := Lib.hid hSS; clear hSS
    go_wp2_with fail
    refine HI.out.mono ?_
    rintro e w2 ⟨vo, rfl, ho, hb2⟩
    obtain ⟨ao, co, rfl, hio, _⟩ := ho.ints
    have hz2 := hb2.size
    have sX := Str.new w2 37 #[.int .i64 D, .slice ao L.length co, .int .i64 S]
    have hb2' : Below w1.heap.size w1 (w2.alloc (.cells #[.int .i64 D, .slice ao L.length co, .int .i64 S] 37)) := hb2.alloc hz2 _
    have hio2 : IntsAt (w2.alloc (.cells #[.int .i64 D, .slice ao L.length co, .int .i64 S] 37)) ao L := hio.below ((Below.refl _ _).alloc (Nat.le_refl _) _)
    have hz2' : (w2.alloc (.cells #[.int .i64 D, .slice ao L.length co, .int .i64 S] 37)).heap.size = w2.heap.size + 1 := by simp
    have HX := Lib.hid sX; clear sX
    have Hb2 := Lib.hid hb2'; clear hb2'
    have Hio := Lib.hid hio2; clear hio2 hio ho hb2
    go_wp2_with fail
    generalize w2.alloc (.cells #[.int .i64 D, .slice ao L.length co, .int .i64 S] 37) = W2 at *
    refine (HS.out _ Hb2.out).mono ?_
    rintro e w3 ⟨vw, rfl, ho3, hb3⟩
    obtain ⟨aw, cw, rfl, hiw, _⟩ := ho3.ints
    have hz3 := hb3.size
    have sX3 := show Str w3 w2.heap.size 37 #[.int .i64 D, .slice ao L.length co, .int .i64 S] from (hb3.block _ (by omega)).trans HX.out
    have sX3' := sX3.alloc (.cells #[.int .i64 D, .slice aw L.length cw, .int .i64 S] 37)
    have sW3 := Str.new w3 37 #[.int .i64 D, .slice aw L.length cw, .int .i64 S]
    have hb3a : Below w3.heap.size w3 (w3.alloc (.cells #[.int .i64 D, .slice aw L.length cw, .int .i64 S] 37)) := (Below.refl _ _).alloc (Nat.le_refl _) _
    have hb3' := (below_step Hb2.out (by omega) hb3).trans (hb3a.mono (by omega))
    have Hio3 := Lib.hid ((Hio.out.below hb3).below hb3a)
    have Hiw3 := Lib.hid (hiw.below hb3a)
    have hz3' : (w3.alloc (.cells #[.int .i64 D, .slice aw L.length cw, .int .i64 S] 37)).heap.size = w3.heap.size + 1 := by simp
    have HX3 := Lib.hid sX3'; clear sX3 sX3'
    have HW3 := Lib.hid sW3; clear sW3
    have Hb3 := Lib.hid hb3'; clear hb3' hb3a hiw ho3 hb3
    have Hsame := Lib.hid (fun W (h : IntsAt W ao L) (h' : IntsAt W aw L) => laws_sameCert' D S ao aw co cw L W (by omega) h h')
    have k0 := HX3.out.cell 0 (v := .int .i64 D) rfl
    have k1 := HX3.out.cell 1 (v := .slice ao L.length co) rfl
    have k2 := HX3.out.cell 2 (v := .int .i64 S) rfl
    have j0 := HW3.out.cell 0 (v := .int .i64 D) rfl
    have j1 := HW3.out.cell 1 (v := .slice aw L.length cw) rfl
    have j2 := HW3.out.cell 2 (v := .int .i64 S) rfl
    have l1 := HX3.out.lt
    have l2 := HW3.out.lt
    go_wp2_with fail
    generalize w3.alloc (.cells #[.int .i64 D, .slice aw L.length cw, .int .i64 S] 37) = W3 at *
    refine (Hsame.out _ Hio3.out Hiw3.out).mono ?_
    rintro e w5 ⟨rfl, hb5⟩
    have hz5 := hb5.size
    have Hio5 := Lib.hid (Hio3.out.below hb5)
    have i0 := (hb5.cell (p := ⟨w2.heap.size, 0, none⟩) l1).trans k0
    have i1 := (hb5.cell (p := ⟨w2.heap.size, 1, none⟩) l1).trans k1
    have i2 := (hb5.cell (p := ⟨w2.heap.size, 2, none⟩) l1).trans k2
    have Hiw5 := Lib.hid (Hiw3.out.below hb5)
    have n0 := (hb5.cell (p := ⟨w3.heap.size, 0, none⟩) l2).trans j0
    have n1 := (hb5.cell (p := ⟨w3.heap.size, 1, none⟩) l2).trans j1
    have n2 := (hb5.cell (p := ⟨w3.heap.size, 2, none⟩) l2).trans j2
    have Hb5 := Lib.hid (below_step Hb3.out (by omega) hb5)
    clear k0 k1 k2 j0 j1 j2 hb5
    go_wp2_with fail
    refine (Hsame.out _ Hio5.out Hiw5.out).mono ?_
    rintro e w6 ⟨rfl, hb6⟩
    have Hb6 := Lib.hid (below_step Hb5.out (by omega) hb6)
    go_wp2
    go_ret
    exact ⟨rfl, below_step hb1 hs1 Hb6.out⟩
  | true =>
    generalize hD : cmD c keys d sigs = D at *
    generalize hLL : cmL c keys d sigs = L at *
    generalize hSS : cmS c keys d sigs = S at *
    rw [hq] at hI hS
    have HI := Lib.hid hI; clear hI
    have HS := Lib.hid hS; clear hS
    have Hq := Lib.hid hq; clear hq
    have HD := Lib.hid hD; clear hD
    have HL := Lib.hid hLL; clear hLL
    have HSS := Lib.hid hSS; clear hSS
    go_wp2_with fail
    refine HI.out.mono ?_
    rintro e w2 ⟨vo, rfl, ho, hb2⟩
    obtain ⟨ao, co, rfl, hio, _⟩ := ho.ints
    have hz2 := hb2.size
    have sX := Str.new w2 37 #[.int .i64 D, .slice ao L.length co, .int .i64 S]
    have hb2' : Below w1.heap.size w1 (w2.alloc (.cells #[.int .i64 D, .slice ao L.length co, .int .i64 S] 37)) := hb2.alloc hz2 _
    have hio2 : IntsAt (w2.alloc (.cells #[.int .i64 D, .slice ao L.length co, .int .i64 S] 37)) ao L := hio.below ((Below.refl _ _).alloc (Nat.le_refl _) _)
    have hz2' : (w2.alloc (.cells #[.int .i64 D, .slice ao L.length co, .int .i64 S] 37)).heap.size = w2.heap.size + 1 := by simp
    have HX := Lib.hid sX; clear sX
    have Hb2 := Lib.hid hb2'; clear hb2'
    have Hio := Lib.hid hio2; clear hio2 hio ho hb2
    go_wp2_with fail
    generalize w2.alloc (.cells #[.int .i64 D, .slice ao L.length co, .int .i64 S] 37) = W2 at *
    refine (HS.out _ Hb2.out).mono ?_
    rintro e w3 ⟨vw, rfl, ho3, hb3⟩
    obtain ⟨aw, cw, rfl, hiw, _⟩ := ho3.ints
    have hz3 := hb3.size
    have sX3 := show Str w3 w2.heap.size 37 #[.int .i64 D, .slice ao L.length co, .int .i64 S] from (hb3.block _ (by omega)).trans HX.out
    have sX3' := sX3.alloc (.cells #[.int .i64 D, .slice aw L.length cw, .int .i64 S] 37)
    have sW3 := Str.new w3 37 #[.int .i64 D, .slice aw L.length cw, .int .i64 S]
    have hb3a : Below w3.heap.size w3 (w3.alloc (.cells #[.int .i64 D, .slice aw L.length cw, .int .i64 S] 37)) := (Below.refl _ _).alloc (Nat.le_refl _) _
    have hb3' := (below_step Hb2.out (by omega) hb3).trans (hb3a.mono (by omega))
    have Hio3 := Lib.hid ((Hio.out.below hb3).below hb3a)
    have Hiw3 := Lib.hid (hiw.below hb3a)
    have hz3' : (w3.alloc (.cells #[.int .i64 D, .slice aw L.length cw, .int .i64 S] 37)).heap.size = w3.heap.size + 1 := by simp
    have HX3 := Lib.hid sX3'; clear sX3 sX3'
    have HW3 := Lib.hid sW3; clear sW3
    have Hb3 := Lib.hid hb3'; clear hb3' hb3a hiw ho3 hb3
    have Hsame := Lib.hid (fun W (h : IntsAt W ao L) (h' : IntsAt W aw L) => laws_sameCert' D S ao aw co cw L W (by omega) h h')
    have k0 := HX3.out.cell 0 (v := .int .i64 D) rfl
    have k1 := HX3.out.cell 1 (v := .slice ao L.length co) rfl
    have k2 := HX3.out.cell 2 (v := .int .i64 S) rfl
    have j0 := HW3.out.cell 0 (v := .int .i64 D) rfl
    have j1 := HW3.out.cell 1 (v := .slice aw L.length cw) rfl
    have j2 := HW3.out.cell 2 (v := .int .i64 S) rfl
    have l1 := HX3.out.lt
    have l2 := HW3.out.lt
    go_wp2_with fail
    generalize w3.alloc (.cells #[.int .i64 D, .slice aw L.length cw, .int .i64 S] 37) = W3 at *
    refine (Hsame.out _ Hio3.out Hiw3.out).mono ?_
    rintro e w5 ⟨rfl, hb5⟩
    have hz5 := hb5.size
    have Hio5 := Lib.hid (Hio3.out.below hb5)
    have i0 := (hb5.cell (p := ⟨w2.heap.size, 0, none⟩) l1).trans k0
    have i1 := (hb5.cell (p := ⟨w2.heap.size, 1, none⟩) l1).trans k1
    have i2 := (hb5.cell (p := ⟨w2.heap.size, 2, none⟩) l1).trans k2
    have HX5 := Lib.hid (show Str w5 w2.heap.size 37 #[.int .i64 D, .slice ao L.length co, .int .i64 S] from (hb5.block _ l1).trans HX3.out)
    have Hb5 := Lib.hid (below_step Hb3.out (by omega) hb5)
    clear k0 k1 k2 j0 j1 j2 hb5
    have hl5 := HX5.out.lt
    obtain rfl : d = D := by have := HD.out; rw [(cm_yes Hq.out).1] at this; exact this
    have HL' := Lib.hid ((cm_yes Hq.out).2.1.symm.trans HL.out)
    have HS' := Lib.hid ((cm_yes Hq.out).2.2.symm.trans HSS.out)

    have hlk := (cm_iff Hq.out).1
    have hls := (cm_iff Hq.out).2.2.1
    have hV := (lkB_iff hlk).1
    have htb := totalZ_bd hV
    have hcl' := validB_len hV
    obtain ⟨q, hqe, hq2⟩ : ∃ q : Nat, ms.length % 2 = q ∧ q < 2 := ⟨_, rfl, by omega⟩
    have Hqe := Lib.hid hqe; clear hqe
    have hmk := cm_mask Hq.out q
    have Hml2 := Lib.hid (maskZ_len sigs q)
    have Hmk := Lib.hid hmk; clear hmk hlk
    have Hls := Lib.hid hls; clear hls
    have Hsrc := Lib.hid (show SrcAt (w5.alloc (.cells #[] 3)) ag cg sigs from (hgs.grown Hg.out (below_grown Hb5.out) (by intro b _; simp)).grown (Hg.out.below Hb5.out) (World.grownBy_alloc _ _ none) (by intro b _; simp))
    have hz5' : w1.heap.size ≤ w5.heap.size := Hb5.out.size
    have hsp : 0 < sigs.length := by have := Hls.out; omega
    clear i0 i1 i2 HX5 Hio5
    go_wp2_with (at_builtin; refine wpList_appI TIu rfl (.tmp 70) (.tmp 71) rfl w1.heap.size _ [] sigs _ _ rfl (own_empty _ _ (by omega)) rfl Hsrc.out (by simp; omega) (by simp; omega) ?_; intro v8 w8 hown8 hg8; rw [List.nil_append] at hown8; have hz8 := hg8.size; have Hb8 := Lib.hid (Hb5.out.trans (((Below.refl _ w5).alloc (Nat.le_refl _) _).mono hz5' |>.trans (show Below w1.heap.size _ w8 from (Below.refl _ _).grown hg8 (by simp; omega) (fun g e => by have e' : some w5.heap.size = some g := e; injection e' with e'; omega)))); obtain ⟨g4, c4, rfl, hgB, hgs4, hc4, _, _⟩ := hown8.row hsp; have Ho8 := Lib.hid (hown8.alloc (.cells #[] 3)); clear hg8 hown8)
    have hz8' := Hb8.out.size
    go_loopw [14, 15] (fun vs vi wr => ∃ k : Nat, k ≤ sigs.length ∧ vi = .int .i64 k ∧ Own 3 wr w1.heap.size (.slice (some ⟨g4, 0, none⟩) sigs.length c4) (maskZ sigs q k) ∧ Own 3 wr w8.heap.size vs (rangeF (sgnF (maskZ sigs q sigs.length)) k) ∧ Below w1.heap.size w1 wr ∧ w8.heap.size ≤ wr.heap.size) (fun _ vi _ => sigs.length - (intOf vi).toNat)
    case atStart => exact ⟨0, by omega, rfl, by rw [maskZ_zero]; exact Ho8.out, own_empty _ _ (Nat.le_refl _), Hb8.out.alloc hz8' _, by simp⟩
    case round =>
      obtain ⟨k, hkk, rfl, hol, hos2, hbw, hzw⟩ := hrel
      have hrl := rangeF_len (sgnF (maskZ sigs q sigs.length)) k
      by_cases hlt : k < sigs.length
      · have hlt' : k < (maskZ sigs q k).length := by rw [Hml2.out]; exact hlt
        obtain ⟨g5, c5, he5, _, hg5s, hc5, hcells, hfz⟩ := hol.row (by rw [Hml2.out]; omega)
        simp only [Value.slice.injEq, Option.some.injEq, Addr.mk.injEq, and_true] at he5
        obtain ⟨rfl, h9, rfl⟩ := he5
        clear h9
        have hcg := hcells k hlt'
        have hfg := hfz k
        have hat := maskZ_at sigs q k sigs.length hlt (by omega)
        have hBw : w8.heap.size ≤ wr.heap.size := hzw
        have hne5 : ∀ (v : Value) (xs : List Int) (W : World), Own 3 W w8.heap.size v xs → v.ownBlock ≠ some g4 := fun v xs W h e => by have := (h.lt g4 e).1; omega
        clear hcells hfz
        by_cases hk2 : k % 2 = q
        · have hst := hol.store (Hml2.out k).symm k 0
          rw [← maskZ_yes hlt hk2] at hst
          have hP : sgnF (maskZ sigs q sigs.length) k = false := by unfold sgnF; rw [hat, maskZ_get _ _ _ _ hlt, if_pos ⟨by omega, hk2⟩]; rfl
          have Hst := Lib.hid hst; clear hst
          have Hr := Lib.hid (rangeF_no hP); clear hP hat
          have hb6 := hbw.grown Hst.out.2 (by have := hbw.size; omega) (fun g e => by cases e; exact hgB)
          have Ho6 := Lib.hid (hos2.kept Hst.out.2 (.inr (hne5 _ _ _ hos2)))
          have Hb6 := Lib.hid hb6; clear hb6 hos2 hbw hol hne5
          have hcond : (((k : Int) % 2) == ((ms.length : Int) % 2)) = true := by rw [beq_iff_eq]; have := Hqe.out; omega
          clear hk2
          go_wp2
          go_roundw
          case rel => exact ⟨k + 1, by omega, by go_num, Hst.out.1, by rw [Hr.out]; exact Ho6.out, Hb6.out, by simp; omega⟩
          case measure => simp [intOf]; omega
        · have hmn := maskZ_no (q := q) hlt hk2
          have hx : (maskZ sigs q k)[k] = sigs[k] := by rw [← getD_get hlt', maskZ_get _ _ _ _ hlt, if_neg (by omega), getD_get hlt]
          have hPx : sgnF (maskZ sigs q sigs.length) k = (sigs[k] != 0) := by unfold sgnF; rw [hat, maskZ_get _ _ _ _ hlt, if_neg (by omega), getD_get hlt]
          rw [hx] at hcg
          have Hmn := Lib.hid hmn; clear hmn hat hx
          have hcond : (((k : Int) % 2) == ((ms.length : Int) % 2)) = false := by rw [beq_eq_false_iff_ne]; have := Hqe.out; omega
          clear hk2
          by_cases hx0 : sigs[k] = 0
          · rw [hx0] at hcg hPx
            have Hr := Lib.hid (rangeF_no (show sgnF (maskZ sigs q sigs.length) k = false from hPx)); clear hPx hx0
            have Hol := Lib.hid hol; clear hol
            have Hos := Lib.hid hos2; clear hos2
            have Hbw := Lib.hid hbw; clear hbw
            clear hne5
            go_wp2
            go_roundw
            case rel => exact ⟨k + 1, by omega, by go_num, by rw [Hmn.out]; exact Hol.out, by rw [Hr.out]; exact Hos.out, Hbw.out, hzw⟩
            case measure => simp [intOf]; omega
          · have hx1 : (sigs[k] != 0) = true := by rw [bne_iff_ne]; exact hx0
            have hx2 : (sigs[k] == 0) = false := by rw [beq_eq_false_iff_ne]; exact hx0
            rw [hx1] at hPx
            have Hr := Lib.hid (rangeF_yes hPx); clear hPx hx0
            have Hol := Lib.hid hol; clear hol
            have Hos := Lib.hid hos2; clear hos2
            have Hbw := Lib.hid hbw; clear hbw
            have Hne5 := Lib.hid hne5; clear hne5
            generalize sigs[k] = x at *
            go_wp2_with (at_builtin; refine wpList_push TIu rfl (.tmp 94) (.tmp 96) rfl w8.heap.size _ (rangeF (sgnF (maskZ sigs q sigs.length)) k) _ rfl Hos.out (by omega) rfl hzw ?_; intro v' w9 hown9 hg9; have Hol9 := Lib.hid (Hol.out.kept hg9 (.inr (fun e => Hne5.out _ _ _ Hos.out e.symm))); have Hb9 := Lib.hid (Hbw.out.grown hg9 (by have := Hbw.out.size; omega) (fun g e => by have := (Hos.out.lt g e).1; omega)); have hz9 := hg9.size; have Ho9 := Lib.hid hown9; clear hown9 hg9)
            go_roundw
            case rel => exact ⟨k + 1, by omega, by go_num, by rw [Hmn.out]; exact Hol9.out, by rw [Hr.out]; exact Ho9.out, Hb9.out, by omega⟩
            case measure => simp [intOf]; omega
      · have hkn : k = sigs.length := by omega
        subst hkn
        have hmem : membersB c.length (rangeF (sgnF (maskZ sigs q sigs.length)) sigs.length) = true := by rw [← Hls.out]; exact of_ascP (ascP_rangeF _ _)
        have hcq := Hmk.out
        have hcL : cmB c keys d (maskZ sigs q sigs.length) = true → cmL c keys d (maskZ sigs q sigs.length) = rangeF (sgnF (maskZ sigs q sigs.length)) sigs.length := fun h => by rw [(cm_yes h).2.1, Hml2.out]
        have hlen := cmL_len c keys d (maskZ sigs q sigs.length)
        rw [Hml2.out] at hlen
        have hwb := weight_bd hV (ascP_of hmem)
        generalize rangeF (sgnF (maskZ sigs q sigs.length)) sigs.length = P at *
        obtain ⟨aP, cP, rfl, hiP, _⟩ := hos2.ints
        have hil := IntsAt_own hol
        have hm := Hml2.out sigs.length
        generalize maskZ sigs q sigs.length = M at *
        have hJ := impl_CertMake ac cc c ak ck keys d (some ⟨g4, 0, none⟩) c4 M wr (by omega) (by have := Hkl.out; omega) (by omega) (Hc.out.below hbw) (Hk.out.below hbw) hil
        have hW := fun W (h : Below w1.heap.size w1 W) (h' : IntsAt W aP P) => impl_MembersWeight ac cc c aP cP P W (by omega) (by omega) (Hc.out.below h) h'
        rw [mwZ_yes (by rw [mvB_yes hV]; exact hmem)] at hW
        have hQ := fun W (h : Below w1.heap.size w1 W) => impl_CommitteeQuorum ac cc c W (by omega) (Hc.out.below h)
        rw [orNo_yes hV] at hQ
        have Hw := Lib.hid hW; clear hW
        have HQ := Lib.hid hQ; clear hQ hmem
        have HP := Lib.hid hiP; clear hiP hos2 hol hil
        have Hbw := Lib.hid hbw; clear hbw
        rw [hm] at hJ
        rw [hcq] at hJ hcL
        cases hqb : qB c P with
        | false =>
          have hqd := hqb; unfold qB at hqd; rw [decide_eq_false_iff_not] at hqd
          have hqf := decide_eq_false hqd
          rw [hqb] at hJ
          clear hcL hqb
          generalize cmD c keys d M = D2 at *
          generalize cmL c keys d M = L2 at *
          generalize cmS c keys d M = S2 at *
          have HJ := Lib.hid hJ; clear hJ hcq
          go_wp2_with fail
          refine HJ.out.mono ?_
          rintro e w10 ⟨v10, rfl, ho10, hb10⟩
          obtain ⟨a10, c10, rfl, _, _⟩ := ho10.ints
          have hb11 := (below_step Hbw.out (by omega) hb10).alloc (by have := hb10.size; omega) (.cells #[.int .i64 D2, .slice a10 L2.length c10, .int .i64 S2] 37)
          have Hb11 := Lib.hid hb11
          have HP11 := Lib.hid ((HP.out.below hb10).below ((Below.refl _ _).alloc (Nat.le_refl _) (.cells #[.int .i64 D2, .slice a10 L2.length c10, .int .i64 S2] 37)))
          clear hb10 ho10 hb11
          go_wp2_with fail
          refine (Hw.out _ Hb11.out HP11.out).mono ?_
          rintro e w12 ⟨rfl, rfl⟩
          go_wp2_with fail
          refine (HQ.out _ Hb11.out).mono ?_
          rintro e w12 ⟨rfl, rfl⟩
          go_wp2
          go_ret
          exact ⟨by first | rfl | exact ret_bool (by rw [decide_eq_false hqd]; rfl), below_step hb1 hs1 Hb11.out⟩
        | true =>
          have hqd := hqb; unfold qB at hqd; rw [decide_eq_true_eq] at hqd
          have hqf := decide_eq_true hqd
          rw [hqb] at hJ
          rw [hcL hqb] at hJ
          clear hcL hqb hlen
          generalize cmD c keys d M = D2 at *
          generalize cmS c keys d M = S2 at *
          have HJ := Lib.hid hJ; clear hJ hcq
          go_wp2_with fail
          refine HJ.out.mono ?_
          rintro e w10 ⟨v10, rfl, ho10, hb10⟩
          obtain ⟨a10, c10, rfl, hi10, _⟩ := ho10.ints
          have hba : Below w10.heap.size w10 (w10.alloc (.cells #[.int .i64 D2, .slice a10 P.length c10, .int .i64 S2] 37)) := (Below.refl _ _).alloc (Nat.le_refl _) _
          have hb11 := (below_step Hbw.out (by omega) hb10).alloc (by have := hb10.size; omega) (.cells #[.int .i64 D2, .slice a10 P.length c10, .int .i64 S2] 37)
          have Hb11 := Lib.hid hb11
          have HP11 := Lib.hid ((HP.out.below hb10).below hba)
          have Hi11 := Lib.hid (hi10.below hba)
          have sX := Str.new w10 37 #[.int .i64 D2, .slice a10 P.length c10, .int .i64 S2]
          have x1 := sX.cell 1 (v := .slice a10 P.length c10) rfl
          have Hsm := Lib.hid (fun W (h : IntsAt W a10 P) (h' : IntsAt W aP P) => laws_sameInts' a10 aP c10 cP P W (by omega) h h')
          clear hb10 ho10 hb11 sX hba hi10
          go_wp2_with fail
          refine (Hw.out _ Hb11.out HP11.out).mono ?_
          rintro e w12 ⟨rfl, rfl⟩
          go_wp2_with fail
          refine (HQ.out _ Hb11.out).mono ?_
          rintro e w12 ⟨rfl, rfl⟩
          go_wp2_with fail
          refine (Hsm.out _ Hi11.out HP11.out).mono ?_
          rintro e w12 ⟨rfl, hd12⟩
          have Hb12 := Lib.hid (Hb11.out.trans (hd12.below _))
          go_wp2
          go_ret
          exact ⟨by first | rfl | exact ret_bool (by rw [decide_eq_true hqd]; rfl), below_step hb1 hs1 Hb12.out⟩

theorem fnCertQuorum_own : ownKnob Try.prog.godebug = none := by kernel_rfl
theorem fnCertQuorum_laidOut : laidOutB Try.prog = true := by kernel_rfl

set_option maxRecDepth 8000 in
theorem fnCertQuorum_lifted (os : Os) (started : os.Started) (H : Type) (enc : TypeId × Value → H) :
    ReturnsInHanded {} Try.checked os 8 .any (Rows.fnCertQuorumSpec.pre6 enc Try.prog Try.f8 Rows.fnCertQuorumRow.domain false) (Rows.fnCertQuorumSpec.post enc Try.prog Try.f8 false true false false) := by
  refine law_lifted (C := Try.checked) (tb := 4) fnCertQuorum_own fnCertQuorum_laidOut started (by kernel_rfl) Try.func8 rfl Try.underlying4 rfl (by rw [Try.params8]; exact of_decide_eq_true (by kernel_rfl)) ?_
    (ChangeSpec.witness6 (enc := enc) (C := Try.checked) false ⟨#[], #[.slice none 0 0, .slice none 0 0], []⟩ 8 (by kernel_rfl) (by kernel_rfl) (by kernel_rfl) (by kernel_rfl)) ?_
  · intro ds hds
    rw [Try.params8] at hds
    match ds, hds with
    | [d0, d1], _ => rfl
  · intro W base args ds p hval0 hA0
    have hval : ∀ (j : Nat) t v, Try.f8.params[j]? = some t → args[j]? = some v → Value.okWide Try.prog W .any base t v := hval0
    have hA : DataW.TrodAll enc Try.prog W 0 (fun _ => true) true Try.f8.params.toList args.toList ds p := hA0
    rw [Try.params8] at hA hval
    obtain ⟨v0, vs0, d0, ds0, p0, q0, hargs0, rfl, rfl, h0, r0⟩ := trodAll_cons hA
    obtain ⟨v1, vs1, d1, ds1, p1, q1, hargs1, rfl, rfl, h1, r1⟩ := trodAll_cons r0
    obtain ⟨hnil, rfl, rfl⟩ := trodAll_nil r1
    subst hnil
    subst hargs1
    obtain rfl : args = #[v0, v1] := by cases args; simp_all
    obtain ⟨a0, cap0, zs0, rfl, hk0, hm0, hi0, hw0⟩ := open_slice_ints Try.underlying22 Try.underlying5 (by kernel_rfl) (hval 0 22 v0 rfl rfl) h0
    obtain ⟨a1, cap1, zs1, rfl, hk1, hm1, hi1, hw1⟩ := open_slice_ints Try.underlying22 Try.underlying5 (by kernel_rfl) (hval 1 22 v1 rfl rfl) h1
    exact fnCertQuorum_walk a0 cap0 zs0 a1 cap1 zs1 W hk0 hm0 hi0 hw0 hk1 hm1 hi1 hw1

set_option maxRecDepth 8000 in
theorem fnCertQuorum_holds : Rows.FnCertQuorumSaid :=
  OpenClaim.holds_of_wide 8 Try.f8 rfl rfl rfl rfl rfl rfl rfl ⟨rfl, rfl, rfl, rfl, rfl⟩ rfl rfl rfl rfl rfl (by kernel_rfl) Try.func8 (by kernel_rfl)
    (of_decide_eq_true (by kernel_rfl)) (by unfold Func.isWrapper; first | (rw [if_pos (by decide +kernel)]; kernel_rfl) | (rw [if_neg (by decide +kernel)]; exact ⟨rfl, rfl⟩))
    (fun os started H enc _ => fnCertQuorum_lifted os started H enc)

end Go.Proofs.Yteglefchkecfjaa
