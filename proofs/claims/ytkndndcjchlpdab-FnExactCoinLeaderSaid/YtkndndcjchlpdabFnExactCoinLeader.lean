/- The exact law of CoinLeader holds at every argument; no conditions of our own. -/
import Derived.Test.YtkndndcjchlpdabRows
import Derived.Test.YtkndndcjchlpdabBase
import Derived.Test.YtkndndcjchlpdabLift
import Derived.Test.YtkndndcjchlpdabApp
import Derived.Test.YtkndndcjchlpdabDt
import Derived.Test.YtkndndcjchlpdabOwR
import Derived.Test.YtkndndcjchlpdabOwS
import Derived.Test.YtkndndcjchlpdabRow
import Derived.Test.YtkndndcjchlpdabEx
import Derived.Test.YtkndndcjchlpdabL1
import Derived.Test.YtkndndcjchlpdabL2
import Derived.Test.YtkndndcjchlpdabC1
import Derived.Test.YtkndndcjchlpdabC2
import Derived.Test.YtkndndcjchlpdabM3
import Derived.Test.YtkndndcjchlpdabCo3
import Derived.Test.YtkndndcjchlpdabHeld
namespace Go.Proofs.Ytkndndcjchlpdab
open Go.ChangeShapes Go.WideShapes Go.ChangeAt Go.RowKit

set_option maxHeartbeats 2000000 in
theorem fnExactCoinLeader_walk (ac : Option Addr) (capc : Nat) (xc : List Int) (v : Int) (w : World) (_hkc : xc.length ≤ capc) (hmc : xc.length ≤ maxLen) (hic : IntsAt w ac xc) (_hwc : ∀ z ∈ xc, (Lit.int .i64 z).wf = true) (_hv : -9223372036854775808 ≤ v ∧ v ≤ 9223372036854775807) :
    Calls Try.prog 9 #[.slice ac xc.length capc, .int .i64 v] w fun e w' => e = .returned (.bool true) ∧ Below w.heap.size w w' := by
  unfold maxLen at hmc
  obtain ⟨_hv1, _hv2⟩ := _hv
  by_cases hlc : xc.length ≤ 1048576
  case neg =>
    go_enter Try.func9, Try.ntmps9
    go_wp2
    go_ret
    exact ⟨rfl, Below.refl _ _⟩
  have Hic := Lib.hid hic; clear hic
  have Hb0 := Lib.hid (Below.refl w.heap.size w)
  have Hspec := Lib.hid (fun a_ cc w (_hcc : xc.length ≤ cc) (h : IntsAt w a_ xc) => same_below (spec_CoinLeader a_ cc xc v w (by omega) h))
  have Himpl := Lib.hid (fun a_ cc w (_hcc : xc.length ≤ cc) (h : IntsAt w a_ xc) => same_below (impl_CoinLeader a_ cc xc v w (by omega) h))
  generalize clZ xc v = N at *
  go_enter Try.func9, Try.ntmps9
  go_wp2_with fail
  refine (laws_toIntS ac capc xc _ (by omega) (Hic.out.below Hb0.out)).mono ?_
  rintro e w1 ⟨vcs, rfl, hocs, hb1⟩
  have Hb1 := Lib.hid (below_step Hb0.out Hb0.out.size hb1)
  have hz1 := (hb1).size
  have Hcs := Lib.hid (OwnI.of hocs); clear hocs
  obtain ⟨acs, ccs, rfl, _, _⟩ := Hcs.out.ints
  have hccs := Hcs.out.cap
  have hhcs : w.heap.size ≤ w.heap.size := Nat.le_refl _
  have hjcs : w1.heap.size ≤ w1.heap.size := Nat.le_refl _
  go_wp2_with fail
  refine (Hspec.out acs ccs _ hccs Hcs.out.at).mono ?_
  rintro e w2 ⟨rfl, hb2⟩
  have Hb2 := Lib.hid (below_step Hb1.out Hb1.out.size hb2)
  have Hcs := Lib.hid (Hcs.out.below hb2)
  have hz2 := (hb2).size
  clear Hcs
  go_wp2_with fail
  refine (laws_toIntS ac capc xc _ (by omega) (Hic.out.below Hb2.out)).mono ?_
  rintro e w3 ⟨vcx, rfl, hocx, hb3⟩
  have Hb3 := Lib.hid (below_step Hb2.out Hb2.out.size hb3)
  have hz3 := (hb3).size
  have Hcx := Lib.hid (OwnI.of hocx); clear hocx
  obtain ⟨acx, ccx, rfl, _, _⟩ := Hcx.out.ints
  have hccx := Hcx.out.cap
  have hhcx : w2.heap.size ≤ w2.heap.size := Nat.le_refl _
  have hjcx : w3.heap.size ≤ w3.heap.size := Nat.le_refl _
  go_wp2_with fail
  refine (Himpl.out acx ccx _ hccx Hcx.out.at).mono ?_
  rintro e w4 ⟨rfl, hb4⟩
  have Hb4 := Lib.hid (below_step Hb3.out Hb3.out.size hb4)
  have Hcx := Lib.hid (Hcx.out.below hb4)
  have hz4 := (hb4).size
  go_wp2_with fail
  refine (laws_toIntS ac capc xc _ (by omega) (Hic.out.below Hb4.out)).mono ?_
  rintro e w5 ⟨vcy, rfl, hocy, hb5⟩
  have Hb5 := Lib.hid (below_step Hb4.out Hb4.out.size hb5)
  have Hcx := Lib.hid (Hcx.out.below hb5)
  have hz5 := (hb5).size
  have Hcy := Lib.hid (OwnI.of hocy); clear hocy
  obtain ⟨acy, ccy, rfl, _, _⟩ := Hcy.out.ints
  have hccy := Hcy.out.cap
  have hhcy : w4.heap.size ≤ w4.heap.size := Nat.le_refl _
  have hjcy : w5.heap.size ≤ w5.heap.size := Nat.le_refl _
  go_wp2_with fail
  refine (laws_eqIntS' acx acy ccx ccy xc w5 (by omega) Hcx.out.at Hcy.out.at).mono ?_
  rintro e w6 ⟨rfl, hb6⟩
  have Hb6 := Lib.hid (below_step Hb5.out Hb5.out.size (hb6.below w5.heap.size))
  have Hcx := Lib.hid (Hcx.out.below (hb6.below w5.heap.size))
  have Hcy := Lib.hid (Hcy.out.below (hb6.below w5.heap.size))
  have hz6 := ((hb6.below w5.heap.size)).size
  clear Hcy
  go_wp2
  go_ret
  exact ⟨by first | rfl | exact ret_bool (by simp), Hb6.out⟩

theorem fnExactCoinLeader_own : ownKnob Try.prog.godebug = none := by kernel_rfl
theorem fnExactCoinLeader_laidOut : laidOutB Try.prog = true := by kernel_rfl

set_option maxRecDepth 8000 in
theorem fnExactCoinLeader_lifted (os : Os) (started : os.Started) (H : Type) (enc : TypeId × Value → H) :
    ReturnsInHanded {} Try.checked os 9 .any (Rows.fnExactCoinLeaderSpec.pre6 enc Try.prog Try.f9 Rows.fnExactCoinLeaderRow.domain false) (Rows.fnExactCoinLeaderSpec.post enc Try.prog Try.f9 false true false false) := by
  refine law_lifted (C := Try.checked) (tb := 4) fnExactCoinLeader_own fnExactCoinLeader_laidOut started (by kernel_rfl) Try.func9 rfl Try.underlying4 rfl (by rw [Try.params9]; exact of_decide_eq_true (by kernel_rfl)) ?_
    (ChangeSpec.witness6 (enc := enc) (C := Try.checked) false ⟨#[], #[.slice none 0 0, .int .i64 0], []⟩ 8 (by kernel_rfl) (by kernel_rfl) (by kernel_rfl) (by kernel_rfl)) ?_
  · intro ds hds
    rw [Try.params9] at hds
    match ds, hds with
    | [d0, d1], _ => rfl
  · intro W base args ds p hval0 hA0
    have hval : ∀ (j : Nat) t v, Try.f9.params[j]? = some t → args[j]? = some v → Value.okWide Try.prog W .any base t v := hval0
    have hA : DataW.TrodAll enc Try.prog W 0 (fun _ => true) true Try.f9.params.toList args.toList ds p := hA0
    rw [Try.params9] at hA hval
    obtain ⟨v0, vs0, d0, ds0, p0, q0, hargs0, rfl, rfl, h0, r0⟩ := trodAll_cons hA
    obtain ⟨v1, vs1, d1, ds1, p1, q1, hargs1, rfl, rfl, h1, r1⟩ := trodAll_cons r0
    obtain ⟨hnil, rfl, rfl⟩ := trodAll_nil r1
    subst hnil
    subst hargs1
    obtain rfl : args = #[v0, v1] := by cases args; simp_all
    obtain ⟨a0, cap0, zs0, rfl, hk0, hm0, hi0, hw0⟩ := open_slice_ints Try.underlying30 Try.underlying3 (by kernel_rfl) (hval 0 30 v0 rfl rfl) h0
    obtain ⟨n1, rfl, _, _, hw1⟩ := open_int Try.underlying3 (hval 1 3 v1 rfl rfl) h1
    exact fnExactCoinLeader_walk a0 cap0 zs0 n1 W hk0 hm0 hi0 hw0 (wf_i64 hw1)

theorem fnExactCoinLeader_holds : Rows.FnExactCoinLeaderSaid :=
  OpenClaim.holds_of_wide 9 Try.f9 rfl rfl rfl rfl rfl rfl rfl ⟨rfl, rfl, rfl, rfl, rfl⟩ rfl rfl rfl rfl rfl (by kernel_rfl) Try.func9 (by kernel_rfl)
    (of_decide_eq_true (by kernel_rfl)) (by unfold Func.isWrapper; first | (rw [if_pos (by decide +kernel)]; kernel_rfl) | (rw [if_neg (by decide +kernel)]; exact ⟨rfl, rfl⟩))
    (fun os started H enc _ => fnExactCoinLeader_lifted os started H enc)

end Go.Proofs.Ytkndndcjchlpdab
