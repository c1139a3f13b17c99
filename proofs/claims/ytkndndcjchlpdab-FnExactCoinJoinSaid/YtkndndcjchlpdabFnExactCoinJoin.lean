/- The exact law of CoinJoin holds at every argument; no conditions of our own. -/
import Derived.Test.YtkndndcjchlpdabRows
import Derived.Test.YtkndndcjchlpdabBase
import Derived.Test.YtkndndcjchlpdabLift
import Derived.Test.YtkndndcjchlpdabApp
import Derived.Test.YtkndndcjchlpdabDt
import Derived.Test.YtkndndcjchlpdabOwR
import Derived.Test.YtkndndcjchlpdabOwS
import Derived.Test.YtkndndcjchlpdabRow
import Derived.Test.YtkndndcjchlpdabEx
import Derived.Test.YtkndndcjchlpdabL1
import Derived.Test.YtkndndcjchlpdabL2
import Derived.Test.YtkndndcjchlpdabC1
import Derived.Test.YtkndndcjchlpdabC2
import Derived.Test.YtkndndcjchlpdabRCoinPart
import Derived.Test.YtkndndcjchlpdabCo8
import Derived.Test.YtkndndcjchlpdabCo9
import Derived.Test.YtkndndcjchlpdabCoe
import Derived.Test.YtkndndcjchlpdabHeld
namespace Go.Proofs.Ytkndndcjchlpdab
open Go.ChangeShapes Go.WideShapes Go.ChangeAt Go.RowKit

set_option maxHeartbeats 2000000 in
theorem fnExactCoinJoin_walk (n : Int) (vp : Value) (esp : List (List Fd)) (fpp : List Nat) (w : World) (_hn : -9223372036854775808 ≤ n ∧ n ≤ 9223372036854775807) (hrp : Rd w (rowsD esp) vp fpp) (hmp : esp.length ≤ maxLen) (hpp : ∀ e ∈ esp, coinPartP e ∧ fitE e) :
    Calls Try.prog 7 #[.int .i64 n, vp] w fun e w' => e = .returned (.bool true) ∧ Below w.heap.size w w' := by
  obtain ⟨_hn1, _hn2⟩ := _hn
  unfold maxLen at hmp
  have Hrp := Lib.hid hrp; clear hrp
  have hpp1 : ∀ e ∈ esp, coinPartP e := fun e he => (hpp e he).1
  have Hfp := Lib.hid (fun e he => (hpp e he).2); clear hpp
  have Hb0 := Lib.hid (Below.refl w.heap.size w)
  have Hszp := Lib.hid (fun w (hr : Rd w (rowsD esp) vp fpp) => laws_szCoinPartSR esp vp fpp (1048576) w (by omega) (by omega) hpp1 hr)
  go_enter Try.func7, Try.ntmps7
  go_wp2_with fail
  refine (Hszp.out _ (Hrp.out.under Hb0.out)).mono ?_
  rintro e w1 ⟨rfl, hb1⟩
  have Hb1 := Lib.hid (below_step Hb0.out Hb0.out.size hb1)
  have hz1 := (hb1).size
  have hklp := kTo_bd (coinPartP_len hpp1) 1 esp.length (Nat.le_refl _)
  clear hklp
  by_cases hlp : esp.length + lnTo esp esp.length ≤ 1048576
  case neg =>
    rw [if_neg hlp]
    go_wp2
    go_ret
    exact ⟨rfl, Hb1.out⟩
  rw [if_pos hlp]
  have hnegp : decide ((((1048576 - esp.length - lnTo esp esp.length : Nat)) : Int) < 0) = false := decide_eq_false (by omega)
  have hngep : ¬ (((1048576 - esp.length - lnTo esp esp.length : Nat) : Int) < 0) := by omega
  have hinp := lnTo_in (es := esp) (m := 1048576) (by omega)
  have hkbp := fun k => kTo_bd (coinPartP_len hpp1) k esp.length (Nat.le_refl _)
  have Hlnp := Lib.hid (show ∀ e ∈ esp, lnE e ≤ 1099511627776 from fun e he => Nat.le_trans (hinp e he) (by omega))
  obtain ⟨g, rfl⟩ := rows_cp hpp1
  have hL : (g.map cpF).length = g.length := by simp
  have Hspec := Lib.hid (fun v f w (h : Rd w (rowsD (g.map cpF)) v f) => spec_CoinJoin n g v f w (by omega) h)
  have Himpl := Lib.hid (fun v f w (h : Rd w (rowsD (g.map cpF)) v f) => impl_CoinJoin n g v f w (by omega) h)
  generalize cjV n g = N at *
  generalize cjB n g = ok at *
  clear hL
  generalize g.map cpF = esp at *
  have Hinp := Lib.hid hinp; clear hinp
  have Hkbp := Lib.hid hkbp; clear hkbp
  have Hpp := Lib.hid hpp1; clear hpp1
  go_wp2_with fail
  refine (laws_toCoinPartSR esp vp fpp _ (by omega) Hpp.out Hinp.out (Hrp.out.under Hb1.out)).mono ?_
  rintro e w2 ⟨vps, rfl, hops, hb2⟩
  have Hb2 := Lib.hid (below_step Hb1.out Hb1.out.size hb2)
  have hz2 := (hb2).size
  have Hps := Lib.hid hops; clear hops
  have hhps : w1.heap.size ≤ w1.heap.size := Nat.le_refl _
  have hjps : w2.heap.size ≤ w2.heap.size := Nat.le_refl _
  obtain ⟨fps, hrps⟩ := Hps.out.reads
  go_wp2_with fail
  refine (Hspec.out vps fps _ hrps).mono ?_
  rintro e w3 ⟨rfl, hb3⟩
  have Hb3 := Lib.hid (below_step Hb2.out Hb2.out.size hb3)
  have Hps := Lib.hid (Hps.out.below hb3 (by omega))
  have hz3 := (hb3).size
  clear hrps
  clear Hps
  go_wp2_with fail
  refine (laws_toCoinPartSR esp vp fpp _ (by omega) Hpp.out Hinp.out (Hrp.out.under Hb3.out)).mono ?_
  rintro e w4 ⟨vpx, rfl, hopx, hb4⟩
  have Hb4 := Lib.hid (below_step Hb3.out Hb3.out.size hb4)
  have hz4 := (hb4).size
  have Hpx := Lib.hid hopx; clear hopx
  have hhpx : w3.heap.size ≤ w3.heap.size := Nat.le_refl _
  have hjpx : w4.heap.size ≤ w4.heap.size := Nat.le_refl _
  obtain ⟨fpx, hrpx⟩ := Hpx.out.reads
  go_wp2_with fail
  refine (Himpl.out vpx fpx _ hrpx).mono ?_
  rintro e w5 ⟨rfl, hb5⟩
  have Hb5 := Lib.hid (below_step Hb4.out Hb4.out.size hb5)
  have Hpx := Lib.hid (Hpx.out.below hb5 (by omega))
  have hz5 := (hb5).size
  clear hrpx
  go_wp2_with fail
  refine (laws_toCoinPartSR esp vp fpp _ (by omega) Hpp.out Hinp.out (Hrp.out.under Hb5.out)).mono ?_
  rintro e w6 ⟨vpy, rfl, hopy, hb6⟩
  have Hb6 := Lib.hid (below_step Hb5.out Hb5.out.size hb6)
  have Hpx := Lib.hid (Hpx.out.below hb6 (by omega))
  have hz6 := (hb6).size
  have Hpy := Lib.hid hopy; clear hopy
  have hhpy : w5.heap.size ≤ w5.heap.size := Nat.le_refl _
  have hjpy : w6.heap.size ≤ w6.heap.size := Nat.le_refl _
  obtain ⟨fpx, hrpx⟩ := Hpx.out.reads
  obtain ⟨fpy, hrpy⟩ := Hpy.out.reads
  go_wp2_with fail
  refine (laws_eqCoinPartSR esp _ _ fpx fpy w6 (by omega) Hpp.out Hlnp.out hrpx hrpy).mono ?_
  rintro e w7 ⟨rfl, hb7⟩
  have Hb7 := Lib.hid (below_step Hb6.out Hb6.out.size hb7)
  have Hpx := Lib.hid (Hpx.out.below hb7 (by omega))
  have Hpy := Lib.hid (Hpy.out.below hb7 (by omega))
  have hz7 := (hb7).size
  clear hrpx hrpy
  clear Hpy
  go_wp2
  go_ret
  exact ⟨by first | rfl | exact ret_bool (by simp), Hb7.out⟩

theorem fnExactCoinJoin_own : ownKnob Try.prog.godebug = none := by kernel_rfl
theorem fnExactCoinJoin_laidOut : laidOutB Try.prog = true := by kernel_rfl

set_option maxRecDepth 8000 in
theorem fnExactCoinJoin_lifted (os : Os) (started : os.Started) (H : Type) (enc : TypeId × Value → H) :
    ReturnsInHanded {} Try.checked os 7 .any (Rows.fnExactCoinJoinSpec.pre6 enc Try.prog Try.f7 Rows.fnExactCoinJoinRow.domain false) (Rows.fnExactCoinJoinSpec.post enc Try.prog Try.f7 false true false false) := by
  refine law_lifted (C := Try.checked) (tb := 4) fnExactCoinJoin_own fnExactCoinJoin_laidOut started (by kernel_rfl) Try.func7 rfl Try.underlying4 rfl (by rw [Try.params7]; exact of_decide_eq_true (by kernel_rfl)) ?_
    (ChangeSpec.witness6 (enc := enc) (C := Try.checked) false ⟨#[], #[.int .i64 0, .slice none 0 0], []⟩ 8 (by kernel_rfl) (by kernel_rfl) (by kernel_rfl) (by kernel_rfl)) ?_
  · intro ds hds
    rw [Try.params7] at hds
    match ds, hds with
    | [d0, d1], _ => rfl
  · intro W base args ds p hval0 hA0
    have hval : ∀ (j : Nat) t v, Try.f7.params[j]? = some t → args[j]? = some v → Value.okWide Try.prog W .any base t v := hval0
    have hA : DataW.TrodAll enc Try.prog W 0 (fun _ => true) true Try.f7.params.toList args.toList ds p := hA0
    rw [Try.params7] at hA hval
    obtain ⟨v0, vs0, d0, ds0, p0, q0, hargs0, rfl, rfl, h0, r0⟩ := trodAll_cons hA
    obtain ⟨v1, vs1, d1, ds1, p1, q1, hargs1, rfl, rfl, h1, r1⟩ := trodAll_cons r0
    obtain ⟨hnil, rfl, rfl⟩ := trodAll_nil r1
    subst hnil
    subst hargs1
    obtain rfl : args = #[v0, v1] := by cases args; simp_all
    obtain ⟨n0, rfl, _, _, hw0⟩ := open_int Try.underlying3 (hval 0 3 v0 rfl rfl) h0
    obtain ⟨es1, fp1, hr1, hm1, hp1⟩ := open_CoinPartS (hval 1 42 v1 rfl rfl) h1
    exact fnExactCoinJoin_walk n0 v1 es1 fp1 W (wf_i64 hw0) hr1 hm1 hp1

theorem fnExactCoinJoin_holds : Rows.FnExactCoinJoinSaid :=
  OpenClaim.holds_of_wide 7 Try.f7 rfl rfl rfl rfl rfl rfl rfl ⟨rfl, rfl, rfl, rfl, rfl⟩ rfl rfl rfl rfl rfl (by kernel_rfl) Try.func7 (by kernel_rfl)
    (of_decide_eq_true (by kernel_rfl)) (by unfold Func.isWrapper; first | (rw [if_pos (by decide +kernel)]; kernel_rfl) | (rw [if_neg (by decide +kernel)]; exact ⟨rfl, rfl⟩))
    (fun os started H enc _ => fnExactCoinJoin_lifted os started H enc)

end Go.Proofs.Ytkndndcjchlpdab
