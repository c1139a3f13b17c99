/- Law FnCommitteePart holds for every input; no conditions of our own. -/
import Derived.Test.YtogklmkepdljpaaRows
import Derived.Test.YtogklmkepdljpaaBase
import Derived.Test.YtogklmkepdljpaaLift
import Derived.Test.YtogklmkepdljpaaC1
import Derived.Test.YtogklmkepdljpaaL1
import Derived.Test.YtogklmkepdljpaaM1
import Derived.Test.YtogklmkepdljpaaRd
import Derived.Test.YtogklmkepdljpaaD1
import Derived.Test.YtogklmkepdljpaaApp
namespace Go.Proofs.Ytogklmkepdljpaa
open Go.ChangeShapes Go.WideShapes Go.ChangeAt Go.RowKit

theorem fnCommitteePart_walk (a : Option Addr) (cap : Nat) (zs : List Int) (a' : Option Addr) (cap' : Nat) (ms : List Int) (w : World) (hk : zs.length ≤ cap) (_hm : zs.length ≤ maxLen) (hi : zs = [] ∨ ∃ b off, a = some ⟨b, off, none⟩ ∧ b < w.heap.size ∧ ∀ j (h : j < zs.length), w.cell? ⟨b, off + j, none⟩ = some (.int .u8 zs[j])) (hw : ∀ z ∈ zs, (Lit.int .u8 z).wf = true)
    (_hk' : ms.length ≤ cap') (hm' : ms.length ≤ maxLen) (_hi' : ms = [] ∨ ∃ b off, a' = some ⟨b, off, none⟩ ∧ b < w.heap.size ∧ ∀ j (h : j < ms.length), w.cell? ⟨b, off + j, none⟩ = some (.int .u8 ms[j])) (_hw' : ∀ z ∈ ms, (Lit.int .u8 z).wf = true) :
    Calls Try.prog 11 #[.slice a zs.length cap, .slice a' ms.length cap'] w fun e w' => e = .returned (.bool true) ∧ Below w.heap.size w w' := by
  unfold maxLen at hm'
  by_cases hl : 1048576 < zs.length
  · go_enter Try.func11, Try.ntmps11
    go_wp2
    go_ret
    exact ⟨rfl, Below.refl _ _⟩
  by_cases hl' : 1048576 < ms.length
  · go_enter Try.func11, Try.ntmps11
    go_wp2
    go_ret
    exact ⟨rfl, Below.refl _ _⟩
  have hcode := codeAt_of hk (by omega) hi hw
  have Hcode := Lib.hid hcode; clear hcode hi hw
  go_enter Try.func11, Try.ntmps11
  go_wp2_with fail
  refine (spec_DrawCommitteeValid a cap zs _ Hcode.out).mono ?_
  rintro e w1 ⟨v, xs, rfl, hown, hxl, hsm, hb1⟩
  obtain ⟨ac, cc, rfl, hic, _⟩ := hown.ints
  have Hc := Lib.hid hic; clear hic
  have Hown := Lib.hid hown; clear hown
  clear hsm
  have hI := impl_CommitteeValid ac cc xs w1 (by omega) Hc.out
  have hS := spec_CommitteeValid ac cc xs w1 (by omega) Hc.out
  have hV := impl_CommitteeValid
  have HV := Lib.hid hV; clear hV
  cases hv : validB xs with
  | false =>
    rw [hv] at hI hS
    have HI := Lib.hid hI; clear hI
    have HS := Lib.hid hS; clear hS
    clear hv
    go_wp2_with fail
    refine HI.out.mono ?_
    rintro e w2 ⟨rfl, rfl⟩
    go_wp2_with fail
    refine HS.out.mono ?_
    rintro e w2 ⟨rfl, rfl⟩
    go_wp2
    go_ret
    exact ⟨rfl, hb1⟩
  | true =>
    rw [hv] at hI hS
    have hl := validB_len hv
    have Hv := Lib.hid hv; clear hv
    have HI := Lib.hid hI; clear hI
    have HS := Lib.hid hS; clear hS
    obtain ⟨hl1, hl7⟩ := hl
    by_cases h1 : xs.length = 1
    · have h1' : ((xs.length : Int) == 1) = true := by rw [beq_iff_eq]; omega
      have H1 := Lib.hid h1; clear h1
      go_wp2_with fail
      refine HI.out.mono ?_
      rintro e w2 ⟨rfl, rfl⟩
      go_wp2_with fail
      refine HS.out.mono ?_
      rintro e w2 ⟨rfl, rfl⟩
      go_wp2
      go_ret
      exact ⟨rfl, hb1⟩
    have h1' : ((xs.length : Int) == 1) = false := by rw [beq_eq_false_iff_ne]; omega
    obtain ⟨g, cap2, hv2, hgB, hgs, hcap2, hcells, hfz⟩ := Hown.out.row (by omega)
    simp only [Value.slice.injEq, true_and] at hv2
    obtain ⟨rfl, rfl⟩ := hv2
    have Hcells := Lib.hid hcells; clear hcells hfz
    obtain ⟨k, hkl, hke⟩ : ∃ k : Nat, k < xs.length ∧ (ms.length : Int) % xs.length = k := ⟨ms.length % xs.length, Nat.mod_lt _ (by omega), rfl⟩
    have Hke := Lib.hid hke; clear hke
    go_wp2_with fail
    refine HI.out.mono ?_
    rintro e w2 ⟨rfl, rfl⟩
    go_wp2_with fail
    refine HS.out.mono ?_
    rintro e w2 ⟨rfl, rfl⟩
    go_wp2_with fail
    rw [Hke.out]
    have hB1 := hb1.size
    have Hcd := Lib.hid (show ∀ (o : Obj) j (h : j < xs.length), (w1.alloc o).drew.cell? ⟨g, j, none⟩ = some (.int .i64 xs[j]) from fun o j h => (World.cell?_alloc_past _ _ _ hgs).trans (Hcells.out j h))
    obtain ⟨o2, hif, hz2⟩ : ∃ o2, (if cc = k + 1 then some (⟨g, 0, none⟩ : Addr) else some ⟨g, k + 1, none⟩) = some ⟨g, o2, none⟩ ∧ ∀ (o : Obj) j (h : j < (xs.drop (k + 1)).length), (w1.alloc o).drew.cell? ⟨g, o2 + j, none⟩ = some (.int .i64 (xs.drop (k + 1))[j]) := by
      by_cases hkc : cc = k + 1
      · exact ⟨0, by rw [if_pos hkc], fun o j h => by rw [List.length_drop] at h; omega⟩
      · exact ⟨k + 1, by rw [if_neg hkc], fun o j h => by rw [List.length_drop] at h; rw [Hcd.out o (k + 1 + j) (by omega), List.getElem_drop]⟩
    have Hz2 := Lib.hid hz2; clear hz2
    have htk : (xs.take k).length = k := by rw [List.length_take]; omega
    have Htk := Lib.hid htk; clear htk
    have Hdl := Lib.hid (show (xs.drop (k + 1)).length = xs.length - (k + 1) from List.length_drop)
    have Hll := Lib.hid (show (xs.take k).length + (xs.drop (k + 1)).length ≤ 11 by rw [List.length_take, List.length_drop]; omega)
    have i1 : (k : Int) < xs.length := by omega
    have i2 : (k : Int) + 1 ≤ xs.length := by omega
    have i3 : (k : Int) ≤ cc := by omega
    have e1 : IntKind.i64.wrap ((k : Int) + 1) = (k : Int) + 1 := IntWalk.i64_in _ (by omega)
    have e2 : ((k : Int) + 1).toNat = k + 1 := by omega
    have e3 : 0 ≤ (k : Int) + 1 := by omega
    go_region_law (first
      | (refine step_app TI' rfl (.tmp 45) (.tmp 48) rfl w1.heap.size (.slice (some ⟨w1.heap.size, 0, none⟩) 0 0) [] (xs.take k) ⟨g, 0, none⟩ _ _ Htk.out.symm rfl (own_empty _ _ (Nat.le_refl _)) rfl (fun j hj => by rw [addr_add]; rw [Htk.out] at hj; exact (Hcd.out _ j (Nat.lt_trans hj hkl)).trans (by rw [List.getElem_take])) (by have := Hll.out; simp only [List.length_nil]; omega) (by simp) ?_; intro v2 w2 hown2 hg2; have hs2 := hg2.size)
      | (refine step_app TI' rfl (.tmp 49) (.tmp 53) rfl w1.heap.size v2 _ (xs.drop (k + 1)) ⟨g, o2, none⟩ _ _ Hdl.out.symm rfl hown2 rfl (fun j hj => by rw [addr_add']; exact hg2.cell (Hz2.out _ j hj) (by simp [Value.ownBlock]; omega)) (by have := Hll.out; simp only [List.nil_append]; omega) (by simp at hs2; omega) ?_; intro v3 w3 hown3 hg3))
    clear e1 e2 e3 i1 i2 i3 hif
    rw [List.nil_append] at hown3
    have hb2 : Below w1.heap.size w1 w2 := ⟨hg2.os, hg2.tape, hg2.output, Nat.le_trans (by simp) hg2.size, fun i hi => (hg2.block i (by simp; omega) (by simp [Value.ownBlock]; omega)).trans (Below.heap_alloc w1 _ i hi)⟩
    have hb3 : Below w1.heap.size w1 w3 := hb2.grown hg3 hb2.size (fun i e => (hown2.lt i e).1)
    have hs3 := hb3.size
    have Hcells3 := Lib.hid (show ∀ (o : Obj) j (h : j < xs.length), (w3.alloc o).cell? ((⟨g, 0, none⟩ : Addr).add j) = some (.int .i64 xs[j]) from fun o j h => by
      rw [addr_add]; exact (World.cell?_alloc_past _ _ _ (by show g < w3.heap.size; omega)).trans ((hb3.cell (p := ⟨g, j, none⟩) hgs).trans (Hcells.out j h)))
    have hll3 : (xs.take k ++ xs.drop (k + 1)).length ≤ 11 := by have := Hll.out; rw [List.length_append]; exact this
    have hvl := valid_less Hv.out hkl h1
    generalize xs.take k ++ xs.drop (k + 1) = ys at hown3 hll3 hvl
    have Hl3 := Lib.hid hvl; clear hvl
    obtain ⟨a3, c3, rfl, hi3, _⟩ := hown3.ints
    have Hi3 := Lib.hid hi3; clear hi3
    have Hz3 := Lib.hid (valid_zero (c := xs) hkl)
    clear hown3 hg2 hg3 hown2 hs2
    have hown4 := own_empty 3 w3 (Nat.le_refl _)
    have Hown4 := Lib.hid hown4; clear hown4
    go_wp2_with (at_builtin; refine wpList_app TI' rfl (.tmp 55) (.tmp 56) rfl w3.heap.size (.slice (some ⟨w3.heap.size, 0, none⟩) 0 0) [] xs ⟨g, 0, none⟩ _ _ rfl rfl Hown4.out rfl (Hcells3.out _) (by simp only [List.length_nil]; omega) (by simp) ?_; intro v5 w5 hown5 hg5; rw [List.nil_append] at hown5; obtain ⟨g5, c5, rfl, hgB5, hgs5, hcap5, hcells5, hfz5⟩ := hown5.row (by omega); have hold := hcells5 k hkl; have hfr := hfz5 k; clear hcells5 hfz5)
    have hst := hown5.store rfl k 0
    have hb5 : Below w3.heap.size w3 w5 := ⟨hg5.os, hg5.tape, hg5.output, Nat.le_trans (by simp) hg5.size, fun i hi => (hg5.block i (by simp; omega) (by simp [Value.ownBlock]; omega)).trans (Below.heap_alloc w3 _ i hi)⟩
    have hb6 : Below w3.heap.size w3 (w5.setCell ⟨g5, k, none⟩ (.int .i64 0)) := hb5.setCell hgB5 _
    have hV1 := HV.out a3 c3 ys _ (by omega) (Hi3.out.below hb6)
    rw [Hl3.out] at hV1
    obtain ⟨a6, c6, he6, hi6, _⟩ := hst.1.ints
    have hlen6 : (xs.set k 0).length = xs.length := List.length_set
    have hV2 := HV.out a6 c6 (xs.set k 0) _ (by omega) hi6
    rw [Hz3.out, ← he6] at hV2
    have HV1 := Lib.hid hV1; clear hV1
    have HV2 := Lib.hid hV2; clear hV2
    have Hb6 := Lib.hid (below_step (below_step hb1 hb1.size hb3) (by omega) hb6)
    clear hst hb5 hb6 he6 hi6 hlen6 hown5 hg5 hold hfr
    go_wp2_with fail
    refine HV1.out.mono ?_
    rintro e w7 ⟨rfl, rfl⟩
    go_wp2_with fail
    refine HV2.out.mono ?_
    rintro e w7 ⟨rfl, rfl⟩
    go_wp2
    go_ret
    exact ⟨rfl, Hb6.out⟩

theorem fnCommitteePart_own : ownKnob Try.prog.godebug = none := by kernel_rfl
theorem fnCommitteePart_laidOut : laidOutB Try.prog = true := by kernel_rfl

theorem fnCommitteePart_lifted (os : Os) (started : os.Started) (H : Type) (enc : TypeId × Value → H) :
    ReturnsInHanded {} Try.checked os 11 .any (Rows.fnCommitteePartSpec.pre6 enc Try.prog Try.f11 Rows.fnCommitteePartRow.domain false) (Rows.fnCommitteePartSpec.post enc Try.prog Try.f11 false true false false) := by
  refine law_lifted (C := Try.checked) (tb := 4) fnCommitteePart_own fnCommitteePart_laidOut started (by kernel_rfl) Try.func11 rfl Try.underlying4 rfl (by rw [Try.params11]; exact of_decide_eq_true (by kernel_rfl)) ?_
    (ChangeSpec.witness6 (enc := enc) (C := Try.checked) false ⟨#[], #[.slice none 0 0, .slice none 0 0], []⟩ 8 (by kernel_rfl) (by kernel_rfl) (by kernel_rfl) (by kernel_rfl)) ?_
  · intro ds hds
    rw [Try.params11] at hds
    match ds, hds with
    | [d0, d1], _ => rfl
  · intro W base args ds p hval0 hA0
    have hval : ∀ (j : Nat) t v, Try.f11.params[j]? = some t → args[j]? = some v → Value.okWide Try.prog W .any base t v := hval0
    have hA : DataW.TrodAll enc Try.prog W 0 (fun _ => true) true Try.f11.params.toList args.toList ds p := hA0
    rw [Try.params11] at hA hval
    obtain ⟨v0, vs0, d0, ds0, p0, q0, hargs0, rfl, rfl, h0, r0⟩ := trodAll_cons hA
    obtain ⟨v1, vs1, d1, ds1, p1, q1, hargs1, rfl, rfl, h1, r1⟩ := trodAll_cons r0
    obtain ⟨hnil, rfl, rfl⟩ := trodAll_nil r1
    subst hnil
    subst hargs1
    obtain rfl : args = #[v0, v1] := by cases args; simp_all
    obtain ⟨a0, cap0, zs0, rfl, hk0, hm0, hi0, hw0⟩ := open_slice_ints Try.underlying22 Try.underlying5 (by kernel_rfl) (hval 0 22 v0 rfl rfl) h0
    obtain ⟨a1, cap1, zs1, rfl, hk1, hm1, hi1, hw1⟩ := open_slice_ints Try.underlying22 Try.underlying5 (by kernel_rfl) (hval 1 22 v1 rfl rfl) h1
    exact fnCommitteePart_walk a0 cap0 zs0 a1 cap1 zs1 W hk0 hm0 hi0 hw0 hk1 hm1 hi1 hw1

theorem fnCommitteePart_holds : Rows.FnCommitteePartSaid :=
  OpenClaim.holds_of_wide 11 Try.f11 rfl rfl rfl rfl rfl rfl rfl ⟨rfl, rfl, rfl, rfl, rfl⟩ rfl rfl rfl rfl rfl (by kernel_rfl) Try.func11 (by kernel_rfl)
    (of_decide_eq_true (by kernel_rfl)) (by unfold Func.isWrapper; first | (rw [if_pos (by decide +kernel)]; kernel_rfl) | (rw [if_neg (by decide +kernel)]; exact ⟨rfl, rfl⟩))
    (fun os started H enc _ => fnCommitteePart_lifted os started H enc)

end Go.Proofs.Ytogklmkepdljpaa
