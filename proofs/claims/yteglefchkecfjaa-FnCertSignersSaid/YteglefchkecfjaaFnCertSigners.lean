/- Law FnCertSigners holds for every input; no conditions of our own. -/
import Derived.Test.YteglefchkecfjaaRows
import Derived.Test.YteglefchkecfjaaBu0
import Derived.Test.YteglefchkecfjaaBu1
namespace Go.Proofs.Yteglefchkecfjaa
open Go.ChangeShapes Go.WideShapes Go.ChangeAt Go.RowKit

set_option maxHeartbeats 1000000 in
theorem fnCertSigners_walk (a : Option Addr) (cap : Nat) (zs : List Int) (w : World) (hk : zs.length ≤ cap) (_hm : zs.length ≤ maxLen) (hi : zs = [] ∨ ∃ b off, a = some ⟨b, off, none⟩ ∧ b < w.heap.size ∧ ∀ j (h : j < zs.length), w.cell? ⟨b, off + j, none⟩ = some (.int .u8 zs[j])) (hw : ∀ z ∈ zs, (Lit.int .u8 z).wf = true) :
    Calls Try.prog 5 #[.slice a zs.length cap] w fun e w' => e = .returned (.bool true) ∧ Below w.heap.size w w' := by
  by_cases hl : 1048576 < zs.length
  · go_enter Try.func5, Try.ntmps5
    go_wp2
    go_ret
    exact ⟨rfl, Below.refl _ _⟩
  have hcode := codeAt_of hk (by omega) hi hw
  have Hcode := Lib.hid hcode; clear hcode hi hw
  go_enter Try.func5, Try.ntmps5
  go_wp2_with fail
  refine (spec_DrawCertMake a cap zs _ Hcode.out).mono ?_
  rintro e w1 ⟨vc, c, vk, keys, d, vs, sigs, rfl, hoc, hcl, hok, hkl, hos, hsl, hb1⟩
  obtain ⟨ac, cc, rfl, hc, _⟩ := hoc.ints
  obtain ⟨ak, ck, rfl, hk, _⟩ := hok.ints
  obtain ⟨ag, cg, rfl, hg, hgs, hgc⟩ := hos.src
  have hI := impl_CertMake ac cc c ak ck keys d ag cg sigs w1 (by omega) (by omega) (by omega) hc hk hg
  have hS := fun W (h : Below w1.heap.size w1 W) => spec_CertMake ac cc c ak ck keys d ag cg sigs W (by omega) (by omega) (by omega) (hc.below h) (hk.below h) (hg.below h)
  have hml := cmL_len c keys d sigs
  have Hc := Lib.hid hc; clear hc hoc
  have Hk := Lib.hid hk; clear hk hok
  have Hg := Lib.hid hg; clear hg
  have Hkl := Lib.hid hkl; clear hkl
  have hs1 := hb1.size
  cases hq : cmB c keys d sigs with
  | false =>
    generalize hD : cmD c keys d sigs = D at *
    generalize hLL : cmL c keys d sigs = L at *
    generalize hSS : cmS c keys d sigs = S at *
    rw [hq] at hI hS
    have HI := Lib.hid hI; clear hI
    have HS := Lib.hid hS; clear hS
    have Hq := Lib.hid hq; clear hq
    have HD := Lib.hid hD; clear hD
    have HL := Lib.hid hLL; clear hLL
    have HSS := Lib.hid hSS; clear hSS
    go_wp2_with fail
    refine HI.out.mono ?_
    rintro e w2 ⟨vo, rfl, ho, hb2⟩
    obtain ⟨ao, co, rfl, hio, _⟩ := ho.ints
    have hz2 := hb2.size
    have sX := Str.new w2 37 #[.int .i64 D, .slice ao L.length co, .int .i64 S]
    have hb2' : Below w1.heap.size w1 (w2.alloc (.cells #[.int .i64 D, .slice ao L.length co, .int .i64 S] 37)) := hb2.alloc hz2 _
    have hio2 : IntsAt (w2.alloc (.cells #[.int .i64 D, .slice ao L.length co, .int .i64 S] 37)) ao L := hio.below ((Below.refl _ _).alloc (Nat.le_refl _) _)
    have hz2' : (w2.alloc (.cells #[.int .i64 D, .slice ao L.length co, .int .i64 S] 37)).heap.size = w2.heap.size + 1 := by simp
    have HX := Lib.hid sX; clear sX
    have Hb2 := Lib.hid hb2'; clear hb2'
    have Hio := Lib.hid hio2; clear hio2 hio ho hb2
    go_wp2_with fail
    generalize w2.alloc (.cells #[.int .i64 D, .slice ao L.length co, .int .i64 S] 37) = W2 at *
    refine (HS.out _ Hb2.out).mono ?_
    rintro e w3 ⟨vw, rfl, ho3, hb3⟩
    obtain ⟨aw, cw, rfl, hiw, _⟩ := ho3.ints
    have hz3 := hb3.size
    have sX3 := show Str w3 w2.heap.size 37 #[.int .i64 D, .slice ao L.length co, .int .i64 S] from (hb3.block _ (by omega)).trans HX.out
    have sX3' := sX3.alloc (.cells #[.int .i64 D, .slice aw L.length cw, .int .i64 S] 37)
    have sW3 := Str.new w3 37 #[.int .i64 D, .slice aw L.length cw, .int .i64 S]
    have hb3a : Below w3.heap.size w3 (w3.alloc (.cells #[.int .i64 D, .slice aw L.length cw, .int .i64 S] 37)) := (Below.refl _ _).alloc (Nat.le_refl _) _
    have hb3' := (below_step Hb2.out (by omega) hb3).trans (hb3a.mono (by omega))
    have Hio3 := Lib.hid ((Hio.out.below hb3).below hb3a)
    have Hiw3 := Lib.hid (hiw.below hb3a)
    have hz3' : (w3.alloc (.cells #[.int .i64 D, .slice aw L.length cw, .int .i64 S] 37)).heap.size = w3.heap.size + 1 := by simp
    have HX3 := Lib.hid sX3'; clear sX3 sX3'
    have HW3 := Lib.hid sW3; clear sW3
    have Hb3 := Lib.hid hb3'; clear hb3' hb3a hiw ho3 hb3
    have Hsame := Lib.hid (fun W (h : IntsAt W ao L) (h' : IntsAt W aw L) => laws_sameCert' D S ao aw co cw L W (by omega) h h')
    have k0 := HX3.out.cell 0 (v := .int .i64 D) rfl
    have k1 := HX3.out.cell 1 (v := .slice ao L.length co) rfl
    have k2 := HX3.out.cell 2 (v := .int .i64 S) rfl
    have j0 := HW3.out.cell 0 (v := .int .i64 D) rfl
    have j1 := HW3.out.cell 1 (v := .slice aw L.length cw) rfl
    have j2 := HW3.out.cell 2 (v := .int .i64 S) rfl
    have l1 := HX3.out.lt
    have l2 := HW3.out.lt
    go_wp2_with fail
    generalize w3.alloc (.cells #[.int .i64 D, .slice aw L.length cw, .int .i64 S] 37) = W3 at *
    refine (Hsame.out _ Hio3.out Hiw3.out).mono ?_
    rintro e w5 ⟨rfl, hb5⟩
    have hz5 := hb5.size
    have Hio5 := Lib.hid (Hio3.out.below hb5)
    have i0 := (hb5.cell (p := ⟨w2.heap.size, 0, none⟩) l1).trans k0
    have i1 := (hb5.cell (p := ⟨w2.heap.size, 1, none⟩) l1).trans k1
    have i2 := (hb5.cell (p := ⟨w2.heap.size, 2, none⟩) l1).trans k2
    have Hiw5 := Lib.hid (Hiw3.out.below hb5)
    have n0 := (hb5.cell (p := ⟨w3.heap.size, 0, none⟩) l2).trans j0
    have n1 := (hb5.cell (p := ⟨w3.heap.size, 1, none⟩) l2).trans j1
    have n2 := (hb5.cell (p := ⟨w3.heap.size, 2, none⟩) l2).trans j2
    have Hb5 := Lib.hid (below_step Hb3.out (by omega) hb5)
    clear k0 k1 k2 j0 j1 j2 hb5
    go_wp2_with fail
    refine (Hsame.out _ Hio5.out Hiw5.out).mono ?_
    rintro e w6 ⟨rfl, hb6⟩
    have Hb6 := Lib.hid (below_step Hb5.out (by omega) hb6)
    go_wp2
    go_ret
    exact ⟨rfl, below_step hb1 hs1 Hb6.out⟩
  | true =>
    generalize hD : cmD c keys d sigs = D at *
    generalize hLL : cmL c keys d sigs = L at *
    generalize hSS : cmS c keys d sigs = S at *
    rw [hq] at hI hS
    have HI := Lib.hid hI; clear hI
    have HS := Lib.hid hS; clear hS
    have Hq := Lib.hid hq; clear hq
    have HD := Lib.hid hD; clear hD
    have HL := Lib.hid hLL; clear hLL
    have HSS := Lib.hid hSS; clear hSS
    go_wp2_with fail
    refine HI.out.mono ?_
    rintro e w2 ⟨vo, rfl, ho, hb2⟩
    obtain ⟨ao, co, rfl, hio, _⟩ := ho.ints
    have hz2 := hb2.size
    have sX := Str.new w2 37 #[.int .i64 D, .slice ao L.length co, .int .i64 S]
    have hb2' : Below w1.heap.size w1 (w2.alloc (.cells #[.int .i64 D, .slice ao L.length co, .int .i64 S] 37)) := hb2.alloc hz2 _
    have hio2 : IntsAt (w2.alloc (.cells #[.int .i64 D, .slice ao L.length co, .int .i64 S] 37)) ao L := hio.below ((Below.refl _ _).alloc (Nat.le_refl _) _)
    have hz2' : (w2.alloc (.cells #[.int .i64 D, .slice ao L.length co, .int .i64 S] 37)).heap.size = w2.heap.size + 1 := by simp
    have HX := Lib.hid sX; clear sX
    have Hb2 := Lib.hid hb2'; clear hb2'
    have Hio := Lib.hid hio2; clear hio2 hio ho hb2
    go_wp2_with fail
    generalize w2.alloc (.cells #[.int .i64 D, .slice ao L.length co, .int .i64 S] 37) = W2 at *
    refine (HS.out _ Hb2.out).mono ?_
    rintro e w3 ⟨vw, rfl, ho3, hb3⟩
    obtain ⟨aw, cw, rfl, hiw, _⟩ := ho3.ints
    have hz3 := hb3.size
    have sX3 := show Str w3 w2.heap.size 37 #[.int .i64 D, .slice ao L.length co, .int .i64 S] from (hb3.block _ (by omega)).trans HX.out
    have sX3' := sX3.alloc (.cells #[.int .i64 D, .slice aw L.length cw, .int .i64 S] 37)
    have sW3 := Str.new w3 37 #[.int .i64 D, .slice aw L.length cw, .int .i64 S]
    have hb3a : Below w3.heap.size w3 (w3.alloc (.cells #[.int .i64 D, .slice aw L.length cw, .int .i64 S] 37)) := (Below.refl _ _).alloc (Nat.le_refl _) _
    have hb3' := (below_step Hb2.out (by omega) hb3).trans (hb3a.mono (by omega))
    have Hio3 := Lib.hid ((Hio.out.below hb3).below hb3a)
    have Hiw3 := Lib.hid (hiw.below hb3a)
    have hz3' : (w3.alloc (.cells #[.int .i64 D, .slice aw L.length cw, .int .i64 S] 37)).heap.size = w3.heap.size + 1 := by simp
    have HX3 := Lib.hid sX3'; clear sX3 sX3'
    have HW3 := Lib.hid sW3; clear sW3
    have Hb3 := Lib.hid hb3'; clear hb3' hb3a hiw ho3 hb3
    have Hsame := Lib.hid (fun W (h : IntsAt W ao L) (h' : IntsAt W aw L) => laws_sameCert' D S ao aw co cw L W (by omega) h h')
    have k0 := HX3.out.cell 0 (v := .int .i64 D) rfl
    have k1 := HX3.out.cell 1 (v := .slice ao L.length co) rfl
    have k2 := HX3.out.cell 2 (v := .int .i64 S) rfl
    have j0 := HW3.out.cell 0 (v := .int .i64 D) rfl
    have j1 := HW3.out.cell 1 (v := .slice aw L.length cw) rfl
    have j2 := HW3.out.cell 2 (v := .int .i64 S) rfl
    have l1 := HX3.out.lt
    have l2 := HW3.out.lt
    go_wp2_with fail
    generalize w3.alloc (.cells #[.int .i64 D, .slice aw L.length cw, .int .i64 S] 37) = W3 at *
    refine (Hsame.out _ Hio3.out Hiw3.out).mono ?_
    rintro e w5 ⟨rfl, hb5⟩
    have hz5 := hb5.size
    have Hio5 := Lib.hid (Hio3.out.below hb5)
    have i0 := (hb5.cell (p := ⟨w2.heap.size, 0, none⟩) l1).trans k0
    have i1 := (hb5.cell (p := ⟨w2.heap.size, 1, none⟩) l1).trans k1
    have i2 := (hb5.cell (p := ⟨w2.heap.size, 2, none⟩) l1).trans k2
    have HX5 := Lib.hid (show Str w5 w2.heap.size 37 #[.int .i64 D, .slice ao L.length co, .int .i64 S] from (hb5.block _ l1).trans HX3.out)
    have Hb5 := Lib.hid (below_step Hb3.out (by omega) hb5)
    clear k0 k1 k2 j0 j1 j2 hb5
    have hl5 := HX5.out.lt
    obtain rfl : d = D := by have := HD.out; rw [(cm_yes Hq.out).1] at this; exact this
    have HL' := Lib.hid ((cm_yes Hq.out).2.1.symm.trans HL.out)
    have HS' := Lib.hid ((cm_yes Hq.out).2.2.symm.trans HSS.out)

    have hlk := (cm_iff Hq.out).1
    have hls := (cm_iff Hq.out).2.2.1
    obtain ⟨hmb, hqu⟩ := cm_sigs Hq.out
    rw [HL'.out] at hmb hqu
    have hcl' := validB_len (lkB_iff hlk).1
    have htb := totalZ_bd (lkB_iff hlk).1
    have hV := (lkB_iff hlk).1
    have hW := fun W (h : Below w1.heap.size w1 W) (h' : IntsAt W ao L) => impl_MembersWeight ac cc c ao co L W (by omega) (by omega) (Hc.out.below h) h'
    rw [mwZ_yes (by rw [mvB_yes hV]; exact hmb)] at hW
    have hQ := fun W (h : Below w1.heap.size w1 W) => impl_CommitteeQuorum ac cc c W (by omega) (Hc.out.below h)
    rw [orNo_yes hV] at hQ
    have Hw := Lib.hid hW; clear hW
    have HQ := Lib.hid hQ; clear hQ
    have Hls := Lib.hid hls; clear hls hV hmb hlk
    have HX5' := Lib.hid (fun q => show Str (w5.drewN q) w2.heap.size 37 #[.int .i64 d, .slice ao L.length co, .int .i64 S] from HX5.out)
    have Hb5' := Lib.hid (fun q => show Below w1.heap.size w1 (w5.drewN q) from Hb5.out.trans (Drawn.below ⟨q, rfl⟩ _))
    have Hio5' := Lib.hid (fun q => show IntsAt (w5.drewN q) ao L from Hio5.out)
    clear i0 i1 i2
    go_wp2_with fail
    go_loopw [11] (fun vi wr => ∃ k q : Nat, k ≤ c.length ∧ vi = .int .i64 k ∧ wr = w5.drewN q) (fun vi _ => c.length - (intOf vi).toNat)
    case atStart => exact ⟨0, 0, by omega, rfl, rfl⟩
    case round =>
      obtain ⟨k, q, hkk, rfl, rfl⟩ := hrel
      have sX := HX5'.out q
      have hbw := Hb5'.out q
      have hiw := Hio5'.out q
      have hzq : w2.heap.size < (w5.drewN q).heap.size := hl5
      generalize hwq : w5.drewN q = wq at *
      have Hwq := Lib.hid hwq; clear hwq
      have x1 := sX.cell 1 (v := .slice ao L.length co) rfl
      clear sX
      by_cases hlt : k < c.length
      · have hls2 : k < sigs.length := by rw [Hls.out]; exact hlt
        obtain ⟨b, off, hag, hb, hcs⟩ := (Hg.out.below hbw).cell (by omega)
        have hcell := hcs k hls2
        have hh := fun q => laws_hasInt ao co L k (wq.drewN q) (by omega) (show IntsAt (wq.drewN q) ao L from hiw)
        have hhb := has_rangeF (sgnF sigs) sigs.length k hls2
        rw [HL'.out] at hhb
        have hse : sgnF sigs k = (sigs[k] != 0) := by unfold sgnF; rw [getD_get hls2]
        rw [hse] at hhb
        rw [hhb] at hh
        have Hh := Lib.hid hh; clear hh hhb hse hcs
        subst hag
        generalize sigs[k] = x at *
        have Hbw := Lib.hid hbw; clear hbw hiw
        go_wp2_with fail
        go_quiet ((go_at_call 22; exact Calls.quiet_of_same (turned (Hh.out _))))
        have hqq : wq.drewN nq = w5.drewN (q + nq) := by rw [← Hwq.out, World.drewN_drewN]
        clear hcell x1
        go_wp2
        go_roundw
        case rel => exact ⟨k + 1, q + nq, by omega, by go_num, by first | rfl | exact hqq⟩
        case measure => simp [intOf]; omega
      · have hwb : Below w1.heap.size w1 wq := hbw
        have Hbw := Lib.hid hbw; clear hbw
        go_wp2_with fail
        refine (Hw.out _ hwb hiw).mono ?_
        rintro e w6 ⟨rfl, rfl⟩
        go_wp2_with fail
        refine (HQ.out _ hwb).mono ?_
        rintro e w6 ⟨rfl, rfl⟩
        go_wp2
        go_ret
        exact ⟨by first | rfl | exact ret_bool (decide_eq_true (by omega)), below_step hb1 hs1 Hbw.out⟩

theorem fnCertSigners_own : ownKnob Try.prog.godebug = none := by kernel_rfl
theorem fnCertSigners_laidOut : laidOutB Try.prog = true := by kernel_rfl

set_option maxRecDepth 8000 in
theorem fnCertSigners_lifted (os : Os) (started : os.Started) (H : Type) (enc : TypeId × Value → H) :
    ReturnsInHanded {} Try.checked os 5 .any (Rows.fnCertSignersSpec.pre6 enc Try.prog Try.f5 Rows.fnCertSignersRow.domain false) (Rows.fnCertSignersSpec.post enc Try.prog Try.f5 false true false false) := by
  refine law_lifted (C := Try.checked) (tb := 4) fnCertSigners_own fnCertSigners_laidOut started (by kernel_rfl) Try.func5 rfl Try.underlying4 rfl (by rw [Try.params5]; exact of_decide_eq_true (by kernel_rfl)) ?_
    (ChangeSpec.witness6 (enc := enc) (C := Try.checked) false ⟨#[], #[.slice none 0 0], []⟩ 8 (by kernel_rfl) (by kernel_rfl) (by kernel_rfl) (by kernel_rfl)) ?_
  · intro ds hds
    rw [Try.params5] at hds
    match ds, hds with
    | [d0], _ => rfl
  · intro W base args ds p hval0 hA0
    have hval : ∀ (j : Nat) t v, Try.f5.params[j]? = some t → args[j]? = some v → Value.okWide Try.prog W .any base t v := hval0
    have hA : DataW.TrodAll enc Try.prog W 0 (fun _ => true) true Try.f5.params.toList args.toList ds p := hA0
    rw [Try.params5] at hA hval
    obtain ⟨v0, vs0, d0, ds0, p0, q0, hargs0, rfl, rfl, h0, r0⟩ := trodAll_cons hA
    obtain ⟨hnil, rfl, rfl⟩ := trodAll_nil r0
    subst hnil
    obtain rfl : args = #[v0] := by cases args; simp_all
    obtain ⟨a0, cap0, zs0, rfl, hk0, hm0, hi0, hw0⟩ := open_slice_ints Try.underlying22 Try.underlying5 (by kernel_rfl) (hval 0 22 v0 rfl rfl) h0
    exact fnCertSigners_walk a0 cap0 zs0 W hk0 hm0 hi0 hw0

set_option maxRecDepth 8000 in
theorem fnCertSigners_holds : Rows.FnCertSignersSaid :=
  OpenClaim.holds_of_wide 5 Try.f5 rfl rfl rfl rfl rfl rfl rfl ⟨rfl, rfl, rfl, rfl, rfl⟩ rfl rfl rfl rfl rfl (by kernel_rfl) Try.func5 (by kernel_rfl)
    (of_decide_eq_true (by kernel_rfl)) (by unfold Func.isWrapper; first | (rw [if_pos (by decide +kernel)]; kernel_rfl) | (rw [if_neg (by decide +kernel)]; exact ⟨rfl, rfl⟩))
    (fun os started H enc _ => fnCertSigners_lifted os started H enc)

end Go.Proofs.Yteglefchkecfjaa
