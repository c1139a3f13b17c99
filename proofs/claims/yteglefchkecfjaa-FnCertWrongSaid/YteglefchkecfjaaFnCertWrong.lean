/- Law FnCertWrong holds for every input; no conditions of our own. -/
import Derived.Test.YteglefchkecfjaaRows
import Derived.Test.YteglefchkecfjaaBu0
import Derived.Test.YteglefchkecfjaaBu1
namespace Go.Proofs.Yteglefchkecfjaa
open Go.ChangeShapes Go.WideShapes Go.ChangeAt Go.RowKit

set_option maxHeartbeats 1000000 in
theorem fnCertWrong_walk (a : Option Addr) (cap : Nat) (zs : List Int) (a' : Option Addr) (cap' : Nat) (ms : List Int) (w : World) (hk : zs.length ≤ cap) (_hm : zs.length ≤ maxLen) (hi : zs = [] ∨ ∃ b off, a = some ⟨b, off, none⟩ ∧ b < w.heap.size ∧ ∀ j (h : j < zs.length), w.cell? ⟨b, off + j, none⟩ = some (.int .u8 zs[j])) (hw : ∀ z ∈ zs, (Lit.int .u8 z).wf = true)
    (_hk' : ms.length ≤ cap') (hm' : ms.length ≤ maxLen) (_hi' : ms = [] ∨ ∃ b off, a' = some ⟨b, off, none⟩ ∧ b < w.heap.size ∧ ∀ j (h : j < ms.length), w.cell? ⟨b, off + j, none⟩ = some (.int .u8 ms[j])) (_hw' : ∀ z ∈ ms, (Lit.int .u8 z).wf = true) :
    Calls Try.prog 7 #[.slice a zs.length cap, .slice a' ms.length cap'] w fun e w' => e = .returned (.bool true) ∧ Below w.heap.size w w' := by
  unfold maxLen at hm'
  by_cases hl : 1048576 < zs.length
  · go_enter Try.func7, Try.ntmps7
    go_wp2
    go_ret
    exact ⟨rfl, Below.refl _ _⟩
  by_cases hl' : 1048576 < ms.length
  · go_enter Try.func7, Try.ntmps7
    go_wp2
    go_ret
    exact ⟨rfl, Below.refl _ _⟩
  have hcode := codeAt_of hk (by omega) hi hw
  have Hcode := Lib.hid hcode; clear hcode hi hw
  go_enter Try.func7, Try.ntmps7
  go_wp2_with fail
  refine (spec_DrawCertMake a cap zs _ Hcode.out).mono ?_
  rintro e w1 ⟨vc, c, vk, keys, d, vs, sigs, rfl, hoc, hcl, hok, hkl, hos, hsl, hb1⟩
  obtain ⟨ac, cc, rfl, hc, _⟩ := hoc.ints
  obtain ⟨ak, ck, rfl, hk, _⟩ := hok.ints
  obtain ⟨ag, cg, rfl, hg, hgs, hgc⟩ := hos.src
  have hI := impl_CertMake ac cc c ak ck keys d ag cg sigs w1 (by omega) (by omega) (by omega) hc hk hg
  have hS := fun W (h : Below w1.heap.size w1 W) => spec_CertMake ac cc c ak ck keys d ag cg sigs W (by omega) (by omega) (by omega) (hc.below h) (hk.below h) (hg.below h)
  have hml := cmL_len c keys d sigs
  have Hc := Lib.hid hc; clear hc hoc
  have Hk := Lib.hid hk; clear hk hok
  have Hg := Lib.hid hg; clear hg
  have Hkl := Lib.hid hkl; clear hkl
  have hs1 := hb1.size
  cases hq : cmB c keys d sigs with
  | false =>
    generalize hD : cmD c keys d sigs = D at *
    generalize hLL : cmL c keys d sigs = L at *
    generalize hSS : cmS c keys d sigs = S at *
    rw [hq] at hI hS
    have HI := Lib.hid hI; clear hI
    have HS := Lib.hid hS; clear hS
    have Hq := Lib.hid hq; clear hq
    have HD := Lib.hid hD; clear hD
    have HL := Lib.hid hLL; clear hLL
    have HSS := Lib.hid hSS; clear hSS
    go_wp2_with fail
    refine HI.out.mono ?_
    rintro e w2 ⟨vo, rfl, ho, hb2⟩
    obtain ⟨ao, co, rfl, hio, _⟩ := ho.ints
    have hz2 := hb2.size
    have sX := Str.new w2 37 #[.int .i64 D, .slice ao L.length co, .int .i64 S]
    have hb2' : Below w1.heap.size w1 (w2.alloc (.cells #[.int .i64 D, .slice ao L.length co, .int .i64 S] 37)) := hb2.alloc hz2 _
    have hio2 : IntsAt (w2.alloc (.cells #[.int .i64 D, .slice ao L.length co, .int .i64 S] 37)) ao L := hio.below ((Below.refl _ _).alloc (Nat.le_refl _) _)
    have hz2' : (w2.alloc (.cells #[.int .i64 D, .slice ao L.length co, .int .i64 S] 37)).heap.size = w2.heap.size + 1 := by simp
    have HX := Lib.hid sX; clear sX
    have Hb2 := Lib.hid hb2'; clear hb2'
    have Hio := Lib.hid hio2; clear hio2 hio ho hb2
    go_wp2_with fail
    generalize w2.alloc (.cells #[.int .i64 D, .slice ao L.length co, .int .i64 S] 37) = W2 at *
    refine (HS.out _ Hb2.out).mono ?_
    rintro e w3 ⟨vw, rfl, ho3, hb3⟩
    obtain ⟨aw, cw, rfl, hiw, _⟩ := ho3.ints
    have hz3 := hb3.size
    have sX3 := show Str w3 w2.heap.size 37 #[.int .i64 D, .slice ao L.length co, .int .i64 S] from (hb3.block _ (by omega)).trans HX.out
    have sX3' := sX3.alloc (.cells #[.int .i64 D, .slice aw L.length cw, .int .i64 S] 37)
    have sW3 := Str.new w3 37 #[.int .i64 D, .slice aw L.length cw, .int .i64 S]
    have hb3a : Below w3.heap.size w3 (w3.alloc (.cells #[.int .i64 D, .slice aw L.length cw, .int .i64 S] 37)) := (Below.refl _ _).alloc (Nat.le_refl _) _
    have hb3' := (below_step Hb2.out (by omega) hb3).trans (hb3a.mono (by omega))
    have Hio3 := Lib.hid ((Hio.out.below hb3).below hb3a)
    have Hiw3 := Lib.hid (hiw.below hb3a)
    have hz3' : (w3.alloc (.cells #[.int .i64 D, .slice aw L.length cw, .int .i64 S] 37)).heap.size = w3.heap.size + 1 := by simp
    have HX3 := Lib.hid sX3'; clear sX3 sX3'
    have HW3 := Lib.hid sW3; clear sW3
    have Hb3 := Lib.hid hb3'; clear hb3' hb3a hiw ho3 hb3
    have Hsame := Lib.hid (fun W (h : IntsAt W ao L) (h' : IntsAt W aw L) => laws_sameCert' D S ao aw co cw L W (by omega) h h')
    have k0 := HX3.out.cell 0 (v := .int .i64 D) rfl
    have k1 := HX3.out.cell 1 (v := .slice ao L.length co) rfl
    have k2 := HX3.out.cell 2 (v := .int .i64 S) rfl
    have j0 := HW3.out.cell 0 (v := .int .i64 D) rfl
    have j1 := HW3.out.cell 1 (v := .slice aw L.length cw) rfl
    have j2 := HW3.out.cell 2 (v := .int .i64 S) rfl
    have l1 := HX3.out.lt
    have l2 := HW3.out.lt
    go_wp2_with fail
    generalize w3.alloc (.cells #[.int .i64 D, .slice aw L.length cw, .int .i64 S] 37) = W3 at *
    refine (Hsame.out _ Hio3.out Hiw3.out).mono ?_
    rintro e w5 ⟨rfl, hb5⟩
    have hz5 := hb5.size
    have Hio5 := Lib.hid (Hio3.out.below hb5)
    have i0 := (hb5.cell (p := ⟨w2.heap.size, 0, none⟩) l1).trans k0
    have i1 := (hb5.cell (p := ⟨w2.heap.size, 1, none⟩) l1).trans k1
    have i2 := (hb5.cell (p := ⟨w2.heap.size, 2, none⟩) l1).trans k2
    have Hiw5 := Lib.hid (Hiw3.out.below hb5)
    have n0 := (hb5.cell (p := ⟨w3.heap.size, 0, none⟩) l2).trans j0
    have n1 := (hb5.cell (p := ⟨w3.heap.size, 1, none⟩) l2).trans j1
    have n2 := (hb5.cell (p := ⟨w3.heap.size, 2, none⟩) l2).trans j2
    have Hb5 := Lib.hid (below_step Hb3.out (by omega) hb5)
    clear k0 k1 k2 j0 j1 j2 hb5
    go_wp2_with fail
    refine (Hsame.out _ Hio5.out Hiw5.out).mono ?_
    rintro e w6 ⟨rfl, hb6⟩
    have Hb6 := Lib.hid (below_step Hb5.out (by omega) hb6)
    go_wp2
    go_ret
    exact ⟨rfl, below_step hb1 hs1 Hb6.out⟩
  | true =>
    generalize hD : cmD c keys d sigs = D at *
    generalize hLL : cmL c keys d sigs = L at *
    generalize hSS : cmS c keys d sigs = S at *
    rw [hq] at hI hS
    have HI := Lib.hid hI; clear hI
    have HS := Lib.hid hS; clear hS
    have Hq := Lib.hid hq; clear hq
    have HD := Lib.hid hD; clear hD
    have HL := Lib.hid hLL; clear hLL
    have HSS := Lib.hid hSS; clear hSS
    go_wp2_with fail
    refine HI.out.mono ?_
    rintro e w2 ⟨vo, rfl, ho, hb2⟩
    obtain ⟨ao, co, rfl, hio, _⟩ := ho.ints
    have hz2 := hb2.size
    have sX := Str.new w2 37 #[.int .i64 D, .slice ao L.length co, .int .i64 S]
    have hb2' : Below w1.heap.size w1 (w2.alloc (.cells #[.int .i64 D, .slice ao L.length co, .int .i64 S] 37)) := hb2.alloc hz2 _
    have hio2 : IntsAt (w2.alloc (.cells #[.int .i64 D, .slice ao L.length co, .int .i64 S] 37)) ao L := hio.below ((Below.refl _ _).alloc (Nat.le_refl _) _)
    have hz2' : (w2.alloc (.cells #[.int .i64 D, .slice ao L.length co, .int .i64 S] 37)).heap.size = w2.heap.size + 1 := by simp
    have HX := Lib.hid sX; clear sX
    have Hb2 := Lib.hid hb2'; clear hb2'
    have Hio := Lib.hid hio2; clear hio2 hio ho hb2
    go_wp2_with fail
    generalize w2.alloc (.cells #[.int .i64 D, .slice ao L.length co, .int .i64 S] 37) = W2 at *
    refine (HS.out _ Hb2.out).mono ?_
    rintro e w3 ⟨vw, rfl, ho3, hb3⟩
    obtain ⟨aw, cw, rfl, hiw, _⟩ := ho3.ints
    have hz3 := hb3.size
    have sX3 := show Str w3 w2.heap.size 37 #[.int .i64 D, .slice ao L.length co, .int .i64 S] from (hb3.block _ (by omega)).trans HX.out
    have sX3' := sX3.alloc (.cells #[.int .i64 D, .slice aw L.length cw, .int .i64 S] 37)
    have sW3 := Str.new w3 37 #[.int .i64 D, .slice aw L.length cw, .int .i64 S]
    have hb3a : Below w3.heap.size w3 (w3.alloc (.cells #[.int .i64 D, .slice aw L.length cw, .int .i64 S] 37)) := (Below.refl _ _).alloc (Nat.le_refl _) _
    have hb3' := (below_step Hb2.out (by omega) hb3).trans (hb3a.mono (by omega))
    have Hio3 := Lib.hid ((Hio.out.below hb3).below hb3a)
    have Hiw3 := Lib.hid (hiw.below hb3a)
    have hz3' : (w3.alloc (.cells #[.int .i64 D, .slice aw L.length cw, .int .i64 S] 37)).heap.size = w3.heap.size + 1 := by simp
    have HX3 := Lib.hid sX3'; clear sX3 sX3'
    have HW3 := Lib.hid sW3; clear sW3
    have Hb3 := Lib.hid hb3'; clear hb3' hb3a hiw ho3 hb3
    have Hsame := Lib.hid (fun W (h : IntsAt W ao L) (h' : IntsAt W aw L) => laws_sameCert' D S ao aw co cw L W (by omega) h h')
    have k0 := HX3.out.cell 0 (v := .int .i64 D) rfl
    have k1 := HX3.out.cell 1 (v := .slice ao L.length co) rfl
    have k2 := HX3.out.cell 2 (v := .int .i64 S) rfl
    have j0 := HW3.out.cell 0 (v := .int .i64 D) rfl
    have j1 := HW3.out.cell 1 (v := .slice aw L.length cw) rfl
    have j2 := HW3.out.cell 2 (v := .int .i64 S) rfl
    have l1 := HX3.out.lt
    have l2 := HW3.out.lt
    go_wp2_with fail
    generalize w3.alloc (.cells #[.int .i64 D, .slice aw L.length cw, .int .i64 S] 37) = W3 at *
    refine (Hsame.out _ Hio3.out Hiw3.out).mono ?_
    rintro e w5 ⟨rfl, hb5⟩
    have hz5 := hb5.size
    have Hio5 := Lib.hid (Hio3.out.below hb5)
    have i0 := (hb5.cell (p := ⟨w2.heap.size, 0, none⟩) l1).trans k0
    have i1 := (hb5.cell (p := ⟨w2.heap.size, 1, none⟩) l1).trans k1
    have i2 := (hb5.cell (p := ⟨w2.heap.size, 2, none⟩) l1).trans k2
    have HX5 := Lib.hid (show Str w5 w2.heap.size 37 #[.int .i64 D, .slice ao L.length co, .int .i64 S] from (hb5.block _ l1).trans HX3.out)
    have Hb5 := Lib.hid (below_step Hb3.out (by omega) hb5)
    clear k0 k1 k2 j0 j1 j2 hb5
    have hl5 := HX5.out.lt
    obtain rfl : d = D := by have := HD.out; rw [(cm_yes Hq.out).1] at this; exact this
    have HL' := Lib.hid ((cm_yes Hq.out).2.1.symm.trans HL.out)
    have HS' := Lib.hid ((cm_yes Hq.out).2.2.symm.trans HSS.out)

    have hpos := cm_some Hq.out
    rw [HL'.out] at hpos
    obtain ⟨j, hjl, hje⟩ : ∃ j : Nat, j < L.length ∧ (ms.length : Int) % L.length = j := ⟨ms.length % L.length, Nat.mod_lt _ hpos, rfl⟩
    obtain ⟨k, hkj, hks, hk0, hksc⟩ : ∃ k : Nat, L[j] = (k : Int) ∧ k < sigs.length ∧ sigs.getD k 0 ≠ 0 ∧ scB (keys.getD k 0) d (sigs.getD k 0) = true := by
      have := HL'.out; subst this; exact cm_signer Hq.out hjl
    obtain ⟨b, off, rfl, hb, hcs⟩ := Hio5.out.cell hpos
    have hcell := hcs j hjl
    rw [hkj] at hcell
    have hje2 : (ms.length : Int).tmod L.length = j := by rw [Int.tmod_eq_emod_of_nonneg (by omega)]; exact hje
    have hje3 : ((L.length : Int) == 0) = false := by rw [beq_eq_false_iff_ne]; omega
    have hje4 : ¬ (L.length : Int) = 0 := by omega
    have hxs := signB_bd (sc_args hksc).2.2
    have hzz : ∃ z : Int, 1 + sigs.getD k 0 % 996 = z ∧ 1 ≤ z ∧ z ≤ 996 ∧ z ≠ sigs.getD k 0 := ⟨_, rfl, by omega, by omega, by omega⟩
    obtain ⟨z, hz, hz1, hz2, hz3⟩ := hzz
    have hno := cm_other (c := c) hks hksc hz1 hz2 hz3
    rw [getD_get hks] at hxs hz
    have hl2 : (sigs.set k z).length = sigs.length := List.length_set
    have Hno := Lib.hid hno; clear hno hcs
    have Hsrc := Lib.hid (hgs.grown Hg.out (below_grown Hb5.out) (by intro b _; simp))
    clear hkj hk0 hksc hje HX5 i0 i2
    go_wp2_with fail
    go_quiet (fail)
    have Hsrc := Lib.hid (show SrcAt ((w5.drewN nq).alloc (.cells #[] 3)) ag cg sigs from (show SrcAt (w5.drewN nq) ag cg sigs from Hsrc.out).grown (show IntsAt (w5.drewN nq) ag sigs from (show IntsAt w5 ag sigs from Hg.out.below Hb5.out)) (World.grownBy_alloc _ _ none) (by intro b _; simp))
    have Hb6 := Lib.hid (show Below w1.heap.size w1 (w5.drewN nq) from Hb5.out.trans (Drawn.below ⟨nq, rfl⟩ _))
    have hz6 : w1.heap.size ≤ (w5.drewN nq).heap.size := Hb6.out.size
    generalize w5.drewN nq = w6 at *
    go_wp2_with (at_builtin; refine wpList_appI TIu rfl (.tmp 79) (.tmp 80) rfl w1.heap.size _ [] sigs _ _ rfl (own_empty _ _ (by omega)) rfl Hsrc.out (by simp; omega) (by simp; omega) ?_; intro v8 w8 hown8 hg8; rw [List.nil_append] at hown8; have hz8 := hg8.size; have Hb8 := Lib.hid (Hb6.out.trans (((Below.refl _ w6).alloc (Nat.le_refl _) _).mono hz6 |>.trans (show Below w1.heap.size _ w8 from (Below.refl _ _).grown hg8 (by simp; omega) (fun g e => by have e' : some w6.heap.size = some g := e; injection e' with e'; omega)))); obtain ⟨g4, c4, rfl, hgB, hgs4, hc4, hcells, hfz⟩ := hown8.row (by omega); have hcg := hcells k hks; have hfg := hfz k; have Hst := Lib.hid (hown8.store rfl k z); clear hcells hfz hg8)
    have ho9 := Hst.out.1
    have hg9 := Hst.out.2
    have hb9 := Hb8.out.grown hg9 (by have := Hb8.out.size; omega) (fun g e => by cases e; exact hgB)
    generalize hl2e : sigs.set k z = l2 at *
    rw [← hl2] at ho9
    obtain ⟨a9, c9, he9, hi9, _⟩ := ho9.ints
    simp only [Value.slice.injEq, true_and] at he9
    obtain ⟨rfl, rfl⟩ := he9
    have hJ := impl_CertMake ac cc c ak ck keys d (some ⟨g4, 0, none⟩) c4 l2 (w8.setCell ⟨g4, k, none⟩ (.int .i64 z)) (by omega) (by have := Hkl.out; omega) (by omega) (Hc.out.below hb9) (Hk.out.below hb9) hi9
    rw [Hno.out, hl2] at hJ
    generalize cmD c keys d l2 = D2 at *
    generalize cmL c keys d l2 = L2 at *
    generalize cmS c keys d l2 = S2 at *
    have HJ := Lib.hid hJ; clear hJ hi9 ho9 hg9 hcg hfg
    have Hb9 := Lib.hid hb9; clear hb9 hl2e
    generalize w8.setCell ⟨g4, k, none⟩ (.int .i64 z) = w9 at *
    have hz9 := Hb9.out.size
    go_wp2_with fail
    refine HJ.out.mono ?_
    rintro e w10 ⟨v10, rfl, ho10, hb10⟩
    obtain ⟨a10, c10, rfl, _, _⟩ := ho10.ints
    have Hb10 := Lib.hid (below_step Hb9.out hz9 hb10)
    clear hb10 ho10
    go_wp2_with fail
    go_quiet (fail)
    go_wp2
    go_ret
    exact ⟨rfl, below_step hb1 hs1 ((Hb10.out.alloc Hb10.out.size _).trans (Drawn.below ⟨_, rfl⟩ _))⟩

theorem fnCertWrong_own : ownKnob Try.prog.godebug = none := by kernel_rfl
theorem fnCertWrong_laidOut : laidOutB Try.prog = true := by kernel_rfl

set_option maxRecDepth 8000 in
theorem fnCertWrong_lifted (os : Os) (started : os.Started) (H : Type) (enc : TypeId × Value → H) :
    ReturnsInHanded {} Try.checked os 7 .any (Rows.fnCertWrongSpec.pre6 enc Try.prog Try.f7 Rows.fnCertWrongRow.domain false) (Rows.fnCertWrongSpec.post enc Try.prog Try.f7 false true false false) := by
  refine law_lifted (C := Try.checked) (tb := 4) fnCertWrong_own fnCertWrong_laidOut started (by kernel_rfl) Try.func7 rfl Try.underlying4 rfl (by rw [Try.params7]; exact of_decide_eq_true (by kernel_rfl)) ?_
    (ChangeSpec.witness6 (enc := enc) (C := Try.checked) false ⟨#[], #[.slice none 0 0, .slice none 0 0], []⟩ 8 (by kernel_rfl) (by kernel_rfl) (by kernel_rfl) (by kernel_rfl)) ?_
  · intro ds hds
    rw [Try.params7] at hds
    match ds, hds with
    | [d0, d1], _ => rfl
  · intro W base args ds p hval0 hA0
    have hval : ∀ (j : Nat) t v, Try.f7.params[j]? = some t → args[j]? = some v → Value.okWide Try.prog W .any base t v := hval0
    have hA : DataW.TrodAll enc Try.prog W 0 (fun _ => true) true Try.f7.params.toList args.toList ds p := hA0
    rw [Try.params7] at hA hval
    obtain ⟨v0, vs0, d0, ds0, p0, q0, hargs0, rfl, rfl, h0, r0⟩ := trodAll_cons hA
    obtain ⟨v1, vs1, d1, ds1, p1, q1, hargs1, rfl, rfl, h1, r1⟩ := trodAll_cons r0
    obtain ⟨hnil, rfl, rfl⟩ := trodAll_nil r1
    subst hnil
    subst hargs1
    obtain rfl : args = #[v0, v1] := by cases args; simp_all
    obtain ⟨a0, cap0, zs0, rfl, hk0, hm0, hi0, hw0⟩ := open_slice_ints Try.underlying22 Try.underlying5 (by kernel_rfl) (hval 0 22 v0 rfl rfl) h0
    obtain ⟨a1, cap1, zs1, rfl, hk1, hm1, hi1, hw1⟩ := open_slice_ints Try.underlying22 Try.underlying5 (by kernel_rfl) (hval 1 22 v1 rfl rfl) h1
    exact fnCertWrong_walk a0 cap0 zs0 a1 cap1 zs1 W hk0 hm0 hi0 hw0 hk1 hm1 hi1 hw1

set_option maxRecDepth 8000 in
theorem fnCertWrong_holds : Rows.FnCertWrongSaid :=
  OpenClaim.holds_of_wide 7 Try.f7 rfl rfl rfl rfl rfl rfl rfl ⟨rfl, rfl, rfl, rfl, rfl⟩ rfl rfl rfl rfl rfl (by kernel_rfl) Try.func7 (by kernel_rfl)
    (of_decide_eq_true (by kernel_rfl)) (by unfold Func.isWrapper; first | (rw [if_pos (by decide +kernel)]; kernel_rfl) | (rw [if_neg (by decide +kernel)]; exact ⟨rfl, rfl⟩))
    (fun os started H enc _ => fnCertWrong_lifted os started H enc)

end Go.Proofs.Yteglefchkecfjaa
