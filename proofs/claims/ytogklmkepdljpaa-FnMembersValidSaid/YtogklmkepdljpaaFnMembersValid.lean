/- Law FnMembersValid holds for every input; no conditions of our own. -/
import Derived.Test.YtogklmkepdljpaaRows
import Derived.Test.YtogklmkepdljpaaBase
import Derived.Test.YtogklmkepdljpaaLift
import Derived.Test.YtogklmkepdljpaaC1
import Derived.Test.YtogklmkepdljpaaL1
import Derived.Test.YtogklmkepdljpaaM1
import Derived.Test.YtogklmkepdljpaaRd
import Derived.Test.YtogklmkepdljpaaD1
import Derived.Test.YtogklmkepdljpaaApp
namespace Go.Proofs.Ytogklmkepdljpaa
open Go.ChangeShapes Go.WideShapes Go.ChangeAt Go.RowKit

theorem fnMembersValid_walk (a : Option Addr) (cap : Nat) (zs : List Int) (a' : Option Addr) (cap' : Nat) (ms : List Int) (w : World) (hk : zs.length ≤ cap) (_hm : zs.length ≤ maxLen) (hi : zs = [] ∨ ∃ b off, a = some ⟨b, off, none⟩ ∧ b < w.heap.size ∧ ∀ j (h : j < zs.length), w.cell? ⟨b, off + j, none⟩ = some (.int .u8 zs[j])) (hw : ∀ z ∈ zs, (Lit.int .u8 z).wf = true)
    (_hk' : ms.length ≤ cap') (hm' : ms.length ≤ maxLen) (_hi' : ms = [] ∨ ∃ b off, a' = some ⟨b, off, none⟩ ∧ b < w.heap.size ∧ ∀ j (h : j < ms.length), w.cell? ⟨b, off + j, none⟩ = some (.int .u8 ms[j])) (_hw' : ∀ z ∈ ms, (Lit.int .u8 z).wf = true) :
    Calls Try.prog 10 #[.slice a zs.length cap, .slice a' ms.length cap'] w fun e w' => e = .returned (.bool true) ∧ Below w.heap.size w w' := by
  unfold maxLen at hm'
  by_cases hl : 1048576 < zs.length
  · go_enter Try.func10, Try.ntmps10
    go_wp2
    go_ret
    exact ⟨rfl, Below.refl _ _⟩
  by_cases hl' : 1048576 < ms.length
  · go_enter Try.func10, Try.ntmps10
    go_wp2
    go_ret
    exact ⟨rfl, Below.refl _ _⟩
  have hcode := codeAt_of hk (by omega) hi hw
  have Hcode := Lib.hid hcode; clear hcode hi hw
  go_enter Try.func10, Try.ntmps10
  go_wp2_with fail
  refine (spec_DrawMembersValid a cap zs _ Hcode.out).mono ?_
  rintro e w1 ⟨v, xs, v', ys, rfl, hown, hxl, hsm, hown', hyl, hb1⟩
  obtain ⟨ac, cc, rfl, hic, _⟩ := hown.ints
  obtain ⟨ay, cy, rfl, hiy, _⟩ := hown'.ints
  have Hc := Lib.hid hic; clear hic hown
  have Hy := Lib.hid hiy; clear hiy
  have Hyo := Lib.hid hown'; clear hown'
  clear hsm
  have hI := impl_MembersValid ac cc xs ay cy ys w1 (by omega) (by omega) Hc.out Hy.out
  have hS := spec_MembersValid ac cc xs ay cy ys w1 (by omega) (by omega) Hc.out Hy.out
  have hV := impl_MembersValid
  have HV := Lib.hid hV; clear hV
  cases hv : mvB xs ys with
  | false =>
    rw [hv] at hI hS
    have HI := Lib.hid hI; clear hI
    have HS := Lib.hid hS; clear hS
    clear hv
    go_wp2_with fail
    refine HI.out.mono ?_
    rintro e w2 ⟨rfl, rfl⟩
    go_wp2_with fail
    refine HS.out.mono ?_
    rintro e w2 ⟨rfl, hd2⟩
    have Hd := Lib.hid (below_step hb1 hb1.size (hd2.below _)); clear hd2
    go_wp2
    go_ret
    exact ⟨rfl, Hd.out⟩
  | true =>
    rw [hv] at hI hS
    have hva := mvB_valid hv
    have hA := ascP_of (mvB_members hv)
    clear hv
    have HA := Lib.hid hA; clear hA
    have Hva := Lib.hid hva; clear hva
    have HI := Lib.hid hI; clear hI
    have HS := Lib.hid hS; clear hS
    by_cases h0 : ys.length = 0
    · have h0' : ((ys.length : Int) == 0) = true := by rw [beq_iff_eq]; omega
      have H0 := Lib.hid h0; clear h0
      go_wp2_with fail
      refine HI.out.mono ?_
      rintro e w2 ⟨rfl, rfl⟩
      go_wp2_with fail
      refine HS.out.mono ?_
      rintro e w2 ⟨rfl, hd2⟩
      have Hd := Lib.hid (below_step hb1 hb1.size (hd2.below _)); clear hd2
      go_wp2
      go_ret
      exact ⟨rfl, Hd.out⟩
    have h0' : ((ys.length : Int) == 0) = false := by rw [beq_eq_false_iff_ne]; omega
    go_wp2_with fail
    refine HI.out.mono ?_
    rintro e w2 ⟨rfl, rfl⟩
    go_wp2_with fail
    refine HS.out.mono ?_
    rintro e w2 ⟨rfl, hd2⟩
    have Hc2 := Lib.hid (hd2.ints Hc.out)
    obtain ⟨q2, rfl⟩ := hd2
    have Hyo2 := Lib.hid (Hyo.out.drewN q2)
    have hb2 := below_step hb1 hb1.size (Drawn.below ⟨q2, rfl⟩ _ : Below w1.heap.size w1 (w1.drewN q2))
    generalize w1.drewN q2 = w2 at *
    obtain ⟨g, cap2, hv2, hgB, hgs, hcap2, hcells, hfz⟩ := Hyo2.out.row (by omega)
    simp only [Value.slice.injEq, true_and] at hv2
    obtain ⟨rfl, rfl⟩ := hv2
    have Hcells := Lib.hid hcells; clear hcells hfz
    obtain ⟨k, hkl, hke⟩ : ∃ k : Nat, k < ys.length ∧ (ms.length : Int) % ys.length = k := ⟨ms.length % ys.length, Nat.mod_lt _ (by omega), rfl⟩
    have Hke := Lib.hid hke; clear hke
    go_wp2_with fail
    rw [Hke.out]
    have hB1 := hb2.size
    have Hcd := Lib.hid (show ∀ (o : Obj) j (h : j < ys.length), (w2.alloc o).drew.cell? ⟨g, j, none⟩ = some (.int .i64 ys[j]) from fun o j h => (World.cell?_alloc_past _ _ _ hgs).trans (Hcells.out j h))
    obtain ⟨o2, hif, hz2⟩ : ∃ o2, (if cy = k + 1 then some (⟨g, 0, none⟩ : Addr) else some ⟨g, k + 1, none⟩) = some ⟨g, o2, none⟩ ∧ ∀ (o : Obj) j (h : j < (ys.drop (k + 1)).length), (w2.alloc o).drew.cell? ⟨g, o2 + j, none⟩ = some (.int .i64 (ys.drop (k + 1))[j]) := by
      by_cases hkc : cy = k + 1
      · exact ⟨0, by rw [if_pos hkc], fun o j h => by rw [List.length_drop] at h; omega⟩
      · exact ⟨k + 1, by rw [if_neg hkc], fun o j h => by rw [List.length_drop] at h; rw [Hcd.out o (k + 1 + j) (by omega), List.getElem_drop]⟩
    have Hz2 := Lib.hid hz2; clear hz2
    have Htk := Lib.hid (show (ys.take k).length = k by rw [List.length_take]; omega)
    have Hdl := Lib.hid (show (ys.drop (k + 1)).length = ys.length - (k + 1) from List.length_drop)
    have Hll := Lib.hid (show (ys.take k).length + (ys.drop (k + 1)).length ≤ 12 by rw [List.length_take, List.length_drop]; omega)
    have hcne : ¬ cy = k := by omega
    have i1 : (k : Int) < ys.length := by omega
    have i2 : (k : Int) + 1 ≤ ys.length := by omega
    have i3 : (k : Int) ≤ cy := by omega
    have i4 : (k : Int) + 1 ≤ cy := by omega
    have i5 : k ≤ ys.length := by omega
    have e1 : IntKind.i64.wrap ((k : Int) + 1) = (k : Int) + 1 := IntWalk.i64_in _ (by omega)
    have e2 : ((k : Int) + 1).toNat = k + 1 := by omega
    have e3 : 0 ≤ (k : Int) + 1 := by omega
    go_region_law (first
      | (refine step_app TI' rfl (.tmp 51) (.tmp 54) rfl w2.heap.size (.slice (some ⟨w2.heap.size, 0, none⟩) 0 0) [] (ys.take k) ⟨g, 0, none⟩ _ _ Htk.out.symm rfl (own_empty _ _ (Nat.le_refl _)) rfl (fun j hj => by rw [addr_add]; rw [Htk.out] at hj; exact (Hcd.out _ j (Nat.lt_trans hj hkl)).trans (by rw [List.getElem_take])) (by have := Hll.out; simp only [List.length_nil]; omega) (by simp) ?_; intro v2 wa hown2 hg2; have hs2 := hg2.size)
      | (refine step_app TI' rfl (.tmp 55) (.tmp 59) rfl w2.heap.size v2 _ (ys.drop (k + 1)) ⟨g, o2, none⟩ _ _ Hdl.out.symm rfl hown2 rfl (fun j hj => by rw [addr_add']; exact hg2.cell (Hz2.out _ j hj) (by simp [Value.ownBlock]; omega)) (by have := Hll.out; simp only [List.nil_append]; omega) (by simp at hs2; omega) ?_; intro v3 w3 hown3 hg3))
    rw [List.nil_append] at hown3
    have hba : Below w2.heap.size w2 wa := ⟨hg2.os, hg2.tape, hg2.output, Nat.le_trans (by simp) hg2.size, fun i hi => (hg2.block i (by simp; omega) (by simp [Value.ownBlock]; omega)).trans (Below.heap_alloc w2 _ i hi)⟩
    have hb3 : Below w2.heap.size w2 w3 := hba.grown hg3 hba.size (fun i e => (hown2.lt i e).1)
    have hs3 := hb3.size
    have Hcd3 := Lib.hid (show ∀ (o : Obj) j (h : j < ys.length), (w3.alloc o).drew.cell? ⟨g, j, none⟩ = some (.int .i64 ys[j]) from fun o j h => (World.cell?_alloc_past _ _ _ (by show g < w3.heap.size; omega)).trans ((hb3.cell (p := ⟨g, j, none⟩) hgs).trans (Hcells.out j h)))
    have hll3 : (ys.take k ++ ys.drop (k + 1)).length ≤ 12 := by have := Hll.out; rw [List.length_append]; exact this
    have hvl := (mvB_yes Hva.out (ys.take k ++ ys.drop (k + 1))).trans (of_ascP (members_less HA.out))
    generalize ys.take k ++ ys.drop (k + 1) = us at hown3 hll3 hvl
    have Hl3 := Lib.hid hvl; clear hvl
    obtain ⟨a3, c3, rfl, hi3, _⟩ := hown3.ints
    have Hi3 := Lib.hid hi3; clear hi3
    clear hown3 hg2 hg3 hown2 hs2 hif
    have Htk2 := Lib.hid (show (ys.take (k + 1)).length = k + 1 by rw [List.length_take]; omega)
    have Hdl2 := Lib.hid (show (ys.drop k).length = ys.length - k from List.length_drop)
    have Hll2 := Lib.hid (show (ys.take (k + 1)).length + (ys.drop k).length ≤ 13 by rw [List.length_take, List.length_drop]; omega)
    go_wp2_with fail
    go_region_law (first
      | (refine step_app TI' rfl (.tmp 61) (.tmp 65) rfl w3.heap.size (.slice (some ⟨w3.heap.size, 0, none⟩) 0 0) [] (ys.take (k + 1)) ⟨g, 0, none⟩ _ _ Htk2.out.symm rfl (own_empty _ _ (Nat.le_refl _)) rfl (fun j hj => by rw [addr_add]; rw [Htk2.out] at hj; exact (Hcd3.out _ j (Nat.lt_of_lt_of_le hj hkl)).trans (by rw [List.getElem_take])) (by have := Hll2.out; simp only [List.length_nil]; omega) (by simp) ?_; intro v5 wb hown5 hg5; have hs5 := hg5.size)
      | (refine step_app TI' rfl (.tmp 66) (.tmp 69) rfl w3.heap.size v5 _ (ys.drop k) ⟨g, k, none⟩ _ _ Hdl2.out.symm rfl hown5 rfl (fun j hj => by rw [addr_add']; rw [Hdl2.out] at hj; exact (hg5.cell (Hcd3.out _ (k + j) (Nat.add_lt_of_lt_sub' hj)) (by simp [Value.ownBlock]; omega)).trans (by rw [List.getElem_drop])) (by have := Hll2.out; simp only [List.nil_append]; omega) (by simp at hs5; omega) ?_; intro v6 w6 hown6 hg6))
    clear e1 e2 e3 i1 i2 i3 i4
    rw [List.nil_append] at hown6
    have hbb : Below w3.heap.size w3 wb := ⟨hg5.os, hg5.tape, hg5.output, Nat.le_trans (by simp) hg5.size, fun i hi => (hg5.block i (by simp; omega) (by simp [Value.ownBlock]; omega)).trans (Below.heap_alloc w3 _ i hi)⟩
    have hb6 : Below w3.heap.size w3 w6 := hbb.grown hg6 hbb.size (fun i e => (hown5.lt i e).1)
    have hll6 : (ys.take (k + 1) ++ ys.drop k).length ≤ 13 := by have := Hll2.out; rw [List.length_append]; exact this
    have hvt := (mvB_yes Hva.out (ys.take (k + 1) ++ ys.drop k)).trans (members_twice hkl)
    generalize ys.take (k + 1) ++ ys.drop k = ts at hown6 hll6 hvt
    obtain ⟨a6, c6, rfl, hi6, _⟩ := hown6.ints
    have hb36 := hb3.trans (hb6.mono hs3)
    have hV1 := HV.out ac cc xs a3 c3 us w6 (by omega) (by omega) (Hc2.out.below hb36) (Hi3.out.below hb6)
    have hV2 := HV.out ac cc xs a6 c6 ts w6 (by omega) (by omega) (Hc2.out.below hb36) hi6
    rw [Hl3.out] at hV1
    rw [hvt] at hV2
    have HV1 := Lib.hid hV1; clear hV1
    have HV2 := Lib.hid hV2; clear hV2
    have Hb6 := Lib.hid (below_step hb2 hb2.size hb36)
    clear hvt hown6 hi6 hg5 hg6 hown5
    go_wp2_with fail
    refine HV1.out.mono ?_
    rintro e w7 ⟨rfl, rfl⟩
    go_wp2_with fail
    refine HV2.out.mono ?_
    rintro e w7 ⟨rfl, rfl⟩
    go_wp2
    go_ret
    exact ⟨rfl, Hb6.out⟩

theorem fnMembersValid_own : ownKnob Try.prog.godebug = none := by kernel_rfl
theorem fnMembersValid_laidOut : laidOutB Try.prog = true := by kernel_rfl

theorem fnMembersValid_lifted (os : Os) (started : os.Started) (H : Type) (enc : TypeId × Value → H) :
    ReturnsInHanded {} Try.checked os 10 .any (Rows.fnMembersValidSpec.pre6 enc Try.prog Try.f10 Rows.fnMembersValidRow.domain false) (Rows.fnMembersValidSpec.post enc Try.prog Try.f10 false true false false) := by
  refine law_lifted (C := Try.checked) (tb := 4) fnMembersValid_own fnMembersValid_laidOut started (by kernel_rfl) Try.func10 rfl Try.underlying4 rfl (by rw [Try.params10]; exact of_decide_eq_true (by kernel_rfl)) ?_
    (ChangeSpec.witness6 (enc := enc) (C := Try.checked) false ⟨#[], #[.slice none 0 0, .slice none 0 0], []⟩ 8 (by kernel_rfl) (by kernel_rfl) (by kernel_rfl) (by kernel_rfl)) ?_
  · intro ds hds
    rw [Try.params10] at hds
    match ds, hds with
    | [d0, d1], _ => rfl
  · intro W base args ds p hval0 hA0
    have hval : ∀ (j : Nat) t v, Try.f10.params[j]? = some t → args[j]? = some v → Value.okWide Try.prog W .any base t v := hval0
    have hA : DataW.TrodAll enc Try.prog W 0 (fun _ => true) true Try.f10.params.toList args.toList ds p := hA0
    rw [Try.params10] at hA hval
    obtain ⟨v0, vs0, d0, ds0, p0, q0, hargs0, rfl, rfl, h0, r0⟩ := trodAll_cons hA
    obtain ⟨v1, vs1, d1, ds1, p1, q1, hargs1, rfl, rfl, h1, r1⟩ := trodAll_cons r0
    obtain ⟨hnil, rfl, rfl⟩ := trodAll_nil r1
    subst hnil
    subst hargs1
    obtain rfl : args = #[v0, v1] := by cases args; simp_all
    obtain ⟨a0, cap0, zs0, rfl, hk0, hm0, hi0, hw0⟩ := open_slice_ints Try.underlying22 Try.underlying5 (by kernel_rfl) (hval 0 22 v0 rfl rfl) h0
    obtain ⟨a1, cap1, zs1, rfl, hk1, hm1, hi1, hw1⟩ := open_slice_ints Try.underlying22 Try.underlying5 (by kernel_rfl) (hval 1 22 v1 rfl rfl) h1
    exact fnMembersValid_walk a0 cap0 zs0 a1 cap1 zs1 W hk0 hm0 hi0 hw0 hk1 hm1 hi1 hw1

theorem fnMembersValid_holds : Rows.FnMembersValidSaid :=
  OpenClaim.holds_of_wide 10 Try.f10 rfl rfl rfl rfl rfl rfl rfl ⟨rfl, rfl, rfl, rfl, rfl⟩ rfl rfl rfl rfl rfl (by kernel_rfl) Try.func10 (by kernel_rfl)
    (of_decide_eq_true (by kernel_rfl)) (by unfold Func.isWrapper; first | (rw [if_pos (by decide +kernel)]; kernel_rfl) | (rw [if_neg (by decide +kernel)]; exact ⟨rfl, rfl⟩))
    (fun os started H enc _ => fnMembersValid_lifted os started H enc)

end Go.Proofs.Ytogklmkepdljpaa
