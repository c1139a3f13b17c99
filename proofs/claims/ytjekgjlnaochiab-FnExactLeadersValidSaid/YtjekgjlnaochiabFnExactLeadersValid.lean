/- The exact law of LeadersValid holds at every argument; no conditions of our own. -/
import Derived.Test.YtjekgjlnaochiabRows
import Derived.Test.YtjekgjlnaochiabBu0
namespace Go.Proofs.Ytjekgjlnaochiab
open Go.ChangeShapes Go.WideShapes Go.ChangeAt Go.RowKit

set_option maxHeartbeats 2000000 in
theorem fnExactLeadersValid_walk (ac : Option Addr) (capc : Nat) (xc : List Int) (al : Option Addr) (capl : Nat) (xl : List Int) (w : World) (_hkc : xc.length ≤ capc) (hmc : xc.length ≤ maxLen) (hic : IntsAt w ac xc) (_hwc : ∀ z ∈ xc, (Lit.int .i64 z).wf = true) (_hkl : xl.length ≤ capl) (hml : xl.length ≤ maxLen) (hil : IntsAt w al xl) (_hwl : ∀ z ∈ xl, (Lit.int .i64 z).wf = true) :
    Calls Try.prog 3 #[.slice ac xc.length capc, .slice al xl.length capl] w fun e w' => e = .returned (.bool true) ∧ Below w.heap.size w w' := by
  unfold maxLen at hmc
  unfold maxLen at hml
  by_cases hlc : xc.length ≤ 1048576
  case neg =>
    go_enter Try.func3, Try.ntmps3
    go_wp2
    go_ret
    exact ⟨rfl, Below.refl _ _⟩
  by_cases hll : xl.length ≤ 1048576
  case neg =>
    go_enter Try.func3, Try.ntmps3
    go_wp2
    go_ret
    exact ⟨rfl, Below.refl _ _⟩
  have Hic := Lib.hid hic; clear hic
  have Hil := Lib.hid hil; clear hil
  have Hb0 := Lib.hid (Below.refl w.heap.size w)
  have Hspec := Lib.hid (fun ac cc al cl w (_hcc : xc.length ≤ cc) (h : IntsAt w ac xc) (_hlc : xl.length ≤ cl) (h' : IntsAt w al xl) => sameBelow (spec_LeadersValid ac cc xc al cl xl w (by omega) (by omega) h h'))
  have Himpl := Lib.hid (fun ac cc al cl w (_hcc : xc.length ≤ cc) (h : IntsAt w ac xc) (_hlc : xl.length ≤ cl) (h' : IntsAt w al xl) => sameBelow (impl_LeadersValid ac cc xc al cl xl w (by omega) (by omega) h h'))
  generalize lvB xc xl = N at *
  go_enter Try.func3, Try.ntmps3
  go_wp2_with fail
  refine (laws_toIntS ac capc xc _ (by omega) (Hic.out.below Hb0.out)).mono ?_
  rintro e w1 ⟨vcs, rfl, hocs, hb1⟩
  have Hb1 := Lib.hid (below_step Hb0.out Hb0.out.size hb1)
  have hz1 := (hb1).size
  have Hcs := Lib.hid (OwnI.of hocs); clear hocs
  obtain ⟨acs, ccs, rfl, _, _⟩ := Hcs.out.ints
  have hccs := Hcs.out.cap
  have hhcs : w.heap.size ≤ w.heap.size := Nat.le_refl _
  have hjcs : w1.heap.size ≤ w1.heap.size := Nat.le_refl _
  go_wp2_with fail
  refine (laws_toIntS al capl xl _ (by omega) (Hil.out.below Hb1.out)).mono ?_
  rintro e w2 ⟨vls, rfl, hols, hb2⟩
  have Hb2 := Lib.hid (below_step Hb1.out Hb1.out.size hb2)
  have Hcs := Lib.hid (Hcs.out.below hb2)
  have hz2 := (hb2).size
  have Hls := Lib.hid (OwnI.of hols); clear hols
  obtain ⟨als, cls, rfl, _, _⟩ := Hls.out.ints
  have hcls := Hls.out.cap
  have hhls : w1.heap.size ≤ w1.heap.size := Nat.le_refl _
  have hjls : w2.heap.size ≤ w2.heap.size := Nat.le_refl _
  go_wp2_with fail
  refine (Hspec.out acs ccs als cls _ hccs Hcs.out.at hcls Hls.out.at).mono ?_
  rintro e w3 ⟨rfl, hb3⟩
  have Hb3 := Lib.hid (below_step Hb2.out Hb2.out.size hb3)
  have Hcs := Lib.hid (Hcs.out.below hb3)
  have Hls := Lib.hid (Hls.out.below hb3)
  have hz3 := (hb3).size
  clear Hcs
  clear Hls
  go_wp2_with fail
  refine (laws_toIntS ac capc xc _ (by omega) (Hic.out.below Hb3.out)).mono ?_
  rintro e w4 ⟨vcx, rfl, hocx, hb4⟩
  have Hb4 := Lib.hid (below_step Hb3.out Hb3.out.size hb4)
  have hz4 := (hb4).size
  have Hcx := Lib.hid (OwnI.of hocx); clear hocx
  obtain ⟨acx, ccx, rfl, _, _⟩ := Hcx.out.ints
  have hccx := Hcx.out.cap
  have hhcx : w3.heap.size ≤ w3.heap.size := Nat.le_refl _
  have hjcx : w4.heap.size ≤ w4.heap.size := Nat.le_refl _
  go_wp2_with fail
  refine (laws_toIntS al capl xl _ (by omega) (Hil.out.below Hb4.out)).mono ?_
  rintro e w5 ⟨vlx, rfl, holx, hb5⟩
  have Hb5 := Lib.hid (below_step Hb4.out Hb4.out.size hb5)
  have Hcx := Lib.hid (Hcx.out.below hb5)
  have hz5 := (hb5).size
  have Hlx := Lib.hid (OwnI.of holx); clear holx
  obtain ⟨alx, clx, rfl, _, _⟩ := Hlx.out.ints
  have hclx := Hlx.out.cap
  have hhlx : w4.heap.size ≤ w4.heap.size := Nat.le_refl _
  have hjlx : w5.heap.size ≤ w5.heap.size := Nat.le_refl _
  go_wp2_with fail
  refine (Himpl.out acx ccx alx clx _ hccx Hcx.out.at hclx Hlx.out.at).mono ?_
  rintro e w6 ⟨rfl, hb6⟩
  have Hb6 := Lib.hid (below_step Hb5.out Hb5.out.size hb6)
  have Hcx := Lib.hid (Hcx.out.below hb6)
  have Hlx := Lib.hid (Hlx.out.below hb6)
  have hz6 := (hb6).size
  go_wp2_with fail
  refine (laws_toIntS ac capc xc _ (by omega) (Hic.out.below Hb6.out)).mono ?_
  rintro e w7 ⟨vcy, rfl, hocy, hb7⟩
  have Hb7 := Lib.hid (below_step Hb6.out Hb6.out.size hb7)
  have Hcx := Lib.hid (Hcx.out.below hb7)
  have Hlx := Lib.hid (Hlx.out.below hb7)
  have hz7 := (hb7).size
  have Hcy := Lib.hid (OwnI.of hocy); clear hocy
  obtain ⟨acy, ccy, rfl, _, _⟩ := Hcy.out.ints
  have hccy := Hcy.out.cap
  have hhcy : w6.heap.size ≤ w6.heap.size := Nat.le_refl _
  have hjcy : w7.heap.size ≤ w7.heap.size := Nat.le_refl _
  go_wp2_with fail
  refine (laws_eqIntS' acx acy ccx ccy xc w7 (by omega) Hcx.out.at Hcy.out.at).mono ?_
  rintro e w8 ⟨rfl, hb8⟩
  have Hb8 := Lib.hid (below_step Hb7.out Hb7.out.size (hb8.below w7.heap.size))
  have Hcx := Lib.hid (Hcx.out.below (hb8.below w7.heap.size))
  have Hlx := Lib.hid (Hlx.out.below (hb8.below w7.heap.size))
  have Hcy := Lib.hid (Hcy.out.below (hb8.below w7.heap.size))
  have hz8 := ((hb8.below w7.heap.size)).size
  clear Hcy
  go_wp2_with fail
  refine (laws_toIntS al capl xl _ (by omega) (Hil.out.below Hb8.out)).mono ?_
  rintro e w9 ⟨vly, rfl, holy, hb9⟩
  have Hb9 := Lib.hid (below_step Hb8.out Hb8.out.size hb9)
  have Hcx := Lib.hid (Hcx.out.below hb9)
  have Hlx := Lib.hid (Hlx.out.below hb9)
  have hz9 := (hb9).size
  have Hly := Lib.hid (OwnI.of holy); clear holy
  obtain ⟨aly, cly, rfl, _, _⟩ := Hly.out.ints
  have hcly := Hly.out.cap
  have hhly : w8.heap.size ≤ w8.heap.size := Nat.le_refl _
  have hjly : w9.heap.size ≤ w9.heap.size := Nat.le_refl _
  go_wp2_with fail
  refine (laws_eqIntS' alx aly clx cly xl w9 (by omega) Hlx.out.at Hly.out.at).mono ?_
  rintro e w10 ⟨rfl, hb10⟩
  have Hb10 := Lib.hid (below_step Hb9.out Hb9.out.size (hb10.below w9.heap.size))
  have Hcx := Lib.hid (Hcx.out.below (hb10.below w9.heap.size))
  have Hlx := Lib.hid (Hlx.out.below (hb10.below w9.heap.size))
  have Hly := Lib.hid (Hly.out.below (hb10.below w9.heap.size))
  have hz10 := ((hb10.below w9.heap.size)).size
  clear Hly
  go_wp2
  go_ret
  exact ⟨by first | rfl | exact ret_bool (by simp), Hb10.out⟩

theorem fnExactLeadersValid_own : ownKnob Try.prog.godebug = none := by kernel_rfl
theorem fnExactLeadersValid_laidOut : laidOutB Try.prog = true := by kernel_rfl

set_option maxRecDepth 8000 in
theorem fnExactLeadersValid_lifted (os : Os) (started : os.Started) (H : Type) (enc : TypeId × Value → H) :
    ReturnsInHanded {} Try.checked os 3 .any (Rows.fnExactLeadersValidSpec.pre6 enc Try.prog Try.f3 Rows.fnExactLeadersValidRow.domain false) (Rows.fnExactLeadersValidSpec.post enc Try.prog Try.f3 false true false false) := by
  refine law_lifted (C := Try.checked) (tb := 4) fnExactLeadersValid_own fnExactLeadersValid_laidOut started (by kernel_rfl) Try.func3 rfl Try.underlying4 rfl (by rw [Try.params3]; exact of_decide_eq_true (by kernel_rfl)) ?_
    (ChangeSpec.witness6 (enc := enc) (C := Try.checked) false ⟨#[], #[.slice none 0 0, .slice none 0 0], []⟩ 8 (by kernel_rfl) (by kernel_rfl) (by kernel_rfl) (by kernel_rfl)) ?_
  · intro ds hds
    rw [Try.params3] at hds
    match ds, hds with
    | [d0, d1], _ => rfl
  · intro W base args ds p hval0 hA0
    have hval : ∀ (j : Nat) t v, Try.f3.params[j]? = some t → args[j]? = some v → Value.okWide Try.prog W .any base t v := hval0
    have hA : DataW.TrodAll enc Try.prog W 0 (fun _ => true) true Try.f3.params.toList args.toList ds p := hA0
    rw [Try.params3] at hA hval
    obtain ⟨v0, vs0, d0, ds0, p0, q0, hargs0, rfl, rfl, h0, r0⟩ := trodAll_cons hA
    obtain ⟨v1, vs1, d1, ds1, p1, q1, hargs1, rfl, rfl, h1, r1⟩ := trodAll_cons r0
    obtain ⟨hnil, rfl, rfl⟩ := trodAll_nil r1
    subst hnil
    subst hargs1
    obtain rfl : args = #[v0, v1] := by cases args; simp_all
    obtain ⟨a0, cap0, zs0, rfl, hk0, hm0, hi0, hw0⟩ := open_slice_ints Try.underlying22 Try.underlying3 (by kernel_rfl) (hval 0 22 v0 rfl rfl) h0
    obtain ⟨a1, cap1, zs1, rfl, hk1, hm1, hi1, hw1⟩ := open_slice_ints Try.underlying22 Try.underlying3 (by kernel_rfl) (hval 1 22 v1 rfl rfl) h1
    exact fnExactLeadersValid_walk a0 cap0 zs0 a1 cap1 zs1 W hk0 hm0 hi0 hw0 hk1 hm1 hi1 hw1

set_option maxRecDepth 8000 in
theorem fnExactLeadersValid_holds : Rows.FnExactLeadersValidSaid :=
  OpenClaim.holds_of_wide 3 Try.f3 rfl rfl rfl rfl rfl rfl rfl ⟨rfl, rfl, rfl, rfl, rfl⟩ rfl rfl rfl rfl rfl (by kernel_rfl) Try.func3 (by kernel_rfl)
    (of_decide_eq_true (by kernel_rfl)) (by unfold Func.isWrapper; first | (rw [if_pos (by decide +kernel)]; kernel_rfl) | (rw [if_neg (by decide +kernel)]; exact ⟨rfl, rfl⟩))
    (fun os started H enc _ => fnExactLeadersValid_lifted os started H enc)

end Go.Proofs.Ytjekgjlnaochiab
