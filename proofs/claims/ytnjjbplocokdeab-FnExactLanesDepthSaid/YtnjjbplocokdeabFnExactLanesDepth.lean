/- The exact law of LanesDepth holds at every argument; no conditions of our own. -/
import Derived.Test.YtnjjbplocokdeabRows
import Derived.Test.YtnjjbplocokdeabBu0
import Derived.Test.YtnjjbplocokdeabBu1
import Derived.Test.YtnjjbplocokdeabBu2
import Derived.Test.YtnjjbplocokdeabBu3
namespace Go.Proofs.Ytnjjbplocokdeab
open Go.ChangeShapes Go.WideShapes Go.ChangeAt Go.RowKit

set_option maxHeartbeats 4000000 in
theorem fnExactLanesDepth_walk (vt : Value) (est : List (List Fd)) (fpt : List Nat) (w : World) (hrt : Rd w (rowsD est) vt fpt) (hmt : est.length ≤ maxLen) (hpt : ∀ e ∈ est, txnP e ∧ fitE e) :
    Calls Try.prog 5 #[vt] w fun e w' => e = .returned (.bool true) ∧ Below w.heap.size w w' := by
  unfold maxLen at hmt
  have Hrt := Lib.hid hrt; clear hrt
  have hpt1 : ∀ e ∈ est, txnP e := fun e he => (hpt e he).1
  have Hft := Lib.hid (fun e he => (hpt e he).2); clear hpt
  have Hb0 := Lib.hid (Below.refl w.heap.size w)
  have Hszt := Lib.hid (fun w (hr : Rd w (rowsD est) vt fpt) => laws_szTxnSR est vt fpt (1048576) w (by omega) (by omega) hpt1 hr)
  go_enter Try.func5, Try.ntmps5
  go_wp2_with fail
  refine (Hszt.out _ (Hrt.out.under Hb0.out)).mono ?_
  rintro e w1 ⟨rfl, hb1⟩
  have Hb1 := Lib.hid (below_step Hb0.out Hb0.out.size hb1)
  have hz1 := (hb1).size
  have hklt := kTo_bd (txnP_len hpt1) 1 est.length (Nat.le_refl _)
  clear hklt
  by_cases hlt : est.length + lnTo est est.length ≤ 1048576
  case neg =>
    rw [if_neg hlt]
    go_wp2
    go_ret
    exact ⟨rfl, Hb1.out⟩
  rw [if_pos hlt]
  have hnegt : decide ((((1048576 - est.length - lnTo est est.length : Nat)) : Int) < 0) = false := decide_eq_false (by omega)
  have hnget : ¬ (((1048576 - est.length - lnTo est est.length : Nat) : Int) < 0) := by omega
  have hint := lnTo_in (es := est) (m := 1048576) (by omega)
  have hkbt := fun k => kTo_bd (txnP_len hpt1) k est.length (Nat.le_refl _)
  have Hlnt := Lib.hid (show ∀ e ∈ est, lnE e ≤ 1099511627776 from fun e he => Nat.le_trans (hint e he) (by omega))
  obtain ⟨g, rfl⟩ := rows_tx hpt1
  have hLg : (g.map txF).length = g.length := by simp
  have Hspec := Lib.hid (show ∀ (v_ : Value) (f_ : List Nat) (w : World) (h' : Rd w (rowsD (g.map txF)) v_ f_), Calls Try.prog 19 #[v_] w fun e w' => e = .returned (.int .i64 (dpZ g)) ∧ Below w.heap.size w w' from fun v_ f_ w h' => by obtain ⟨a_, c_, rfl, _⟩ := Txs.slice (l := g) h'; exact spec_LanesDepth g a_ c_ f_ w (by omega) h')
  have Himpl := Lib.hid (show ∀ (v_ : Value) (f_ : List Nat) (w : World) (h' : Rd w (rowsD (g.map txF)) v_ f_), Calls Try.prog 20 #[v_] w fun e w' => e = .returned (.int .i64 (dpZ g)) ∧ Below w.heap.size w w' from fun v_ f_ w h' => by obtain ⟨a_, c_, rfl, _⟩ := Txs.slice (l := g) h'; exact impl_LanesDepth g a_ c_ f_ w (by omega) h')
  have Hspec := Hspec; have Himpl := Himpl
  generalize dpZ g = Z at *
  clear hLg
  generalize g.map txF = est at *
  have Hint := Lib.hid hint; clear hint
  have Hkbt := Lib.hid hkbt; clear hkbt
  have Hpt := Lib.hid hpt1; clear hpt1
  go_wp2_with fail
  refine (laws_toTxnSR est vt fpt _ (by omega) Hpt.out Hint.out (Hrt.out.under Hb1.out)).mono ?_
  rintro e w2 ⟨vts, rfl, hots, hb2⟩
  have Hb2 := Lib.hid (below_step Hb1.out Hb1.out.size hb2)
  have hz2 := (hb2).size
  have Hts := Lib.hid hots; clear hots
  have hhts : w1.heap.size ≤ w1.heap.size := Nat.le_refl _
  have hjts : w2.heap.size ≤ w2.heap.size := Nat.le_refl _
  obtain ⟨fts, hrts⟩ := Hts.out.reads
  go_wp2_with fail
  refine (Hspec.out vts fts _ hrts).mono ?_
  rintro e w3 ⟨rfl, hb3⟩
  have Hb3 := Lib.hid (below_step Hb2.out Hb2.out.size hb3)
  have Hts := Lib.hid (Hts.out.below hb3 (by omega))
  have hz3 := (hb3).size
  clear hrts
  clear Hts
  go_wp2_with fail
  refine (laws_toTxnSR est vt fpt _ (by omega) Hpt.out Hint.out (Hrt.out.under Hb3.out)).mono ?_
  rintro e w4 ⟨vtx, rfl, hotx, hb4⟩
  have Hb4 := Lib.hid (below_step Hb3.out Hb3.out.size hb4)
  have hz4 := (hb4).size
  have Htx := Lib.hid hotx; clear hotx
  have hhtx : w3.heap.size ≤ w3.heap.size := Nat.le_refl _
  have hjtx : w4.heap.size ≤ w4.heap.size := Nat.le_refl _
  obtain ⟨ftx, hrtx⟩ := Htx.out.reads
  go_wp2_with fail
  refine (Himpl.out vtx ftx _ hrtx).mono ?_
  rintro e w5 ⟨rfl, hb5⟩
  have Hb5 := Lib.hid (below_step Hb4.out Hb4.out.size hb5)
  have Htx := Lib.hid (Htx.out.below hb5 (by omega))
  have hz5 := (hb5).size
  clear hrtx
  go_wp2_with fail
  refine (laws_toTxnSR est vt fpt _ (by omega) Hpt.out Hint.out (Hrt.out.under Hb5.out)).mono ?_
  rintro e w6 ⟨vty, rfl, hoty, hb6⟩
  have Hb6 := Lib.hid (below_step Hb5.out Hb5.out.size hb6)
  have Htx := Lib.hid (Htx.out.below hb6 (by omega))
  have hz6 := (hb6).size
  have Hty := Lib.hid hoty; clear hoty
  have hhty : w5.heap.size ≤ w5.heap.size := Nat.le_refl _
  have hjty : w6.heap.size ≤ w6.heap.size := Nat.le_refl _
  obtain ⟨ftx, hrtx⟩ := Htx.out.reads
  obtain ⟨fty, hrty⟩ := Hty.out.reads
  go_wp2_with fail
  refine (laws_eqTxnSR est _ _ ftx fty w6 (by omega) Hpt.out Hlnt.out hrtx hrty).mono ?_
  rintro e w7 ⟨rfl, hb7⟩
  have Hb7 := Lib.hid (below_step Hb6.out Hb6.out.size hb7)
  have Htx := Lib.hid (Htx.out.below hb7 (by omega))
  have Hty := Lib.hid (Hty.out.below hb7 (by omega))
  have hz7 := (hb7).size
  clear hrtx hrty
  clear Hty
  go_wp2
  go_ret
  exact ⟨by first | rfl | exact ret_bool (by simp), Hb7.out⟩

theorem fnExactLanesDepth_own : ownKnob Try.prog.godebug = none := by kernel_rfl
theorem fnExactLanesDepth_laidOut : laidOutB Try.prog = true := by kernel_rfl

set_option maxRecDepth 8000 in
theorem fnExactLanesDepth_lifted (os : Os) (started : os.Started) (H : Type) (enc : TypeId × Value → H) :
    ReturnsInHanded {} Try.checked os 5 .any (Rows.fnExactLanesDepthSpec.pre6 enc Try.prog Try.f5 Rows.fnExactLanesDepthRow.domain false) (Rows.fnExactLanesDepthSpec.post enc Try.prog Try.f5 false true false false) := by
  refine law_lifted (C := Try.checked) (tb := 4) fnExactLanesDepth_own fnExactLanesDepth_laidOut started (by kernel_rfl) Try.func5 rfl Try.underlying4 rfl (by rw [Try.params5]; exact of_decide_eq_true (by kernel_rfl)) ?_
    (ChangeSpec.witness6 (enc := enc) (C := Try.checked) false ⟨#[], #[.slice none 0 0], []⟩ 8 (by kernel_rfl) (by kernel_rfl) (by kernel_rfl) (by kernel_rfl)) ?_
  · intro ds hds
    rw [Try.params5] at hds
    match ds, hds with
    | [d0], _ => rfl
  · intro W base args ds p hval0 hA0
    have hval : ∀ (j : Nat) t v, Try.f5.params[j]? = some t → args[j]? = some v → Value.okWide Try.prog W .any base t v := hval0
    have hA : DataW.TrodAll enc Try.prog W 0 (fun _ => true) true Try.f5.params.toList args.toList ds p := hA0
    rw [Try.params5] at hA hval
    obtain ⟨v0, vs0, d0, ds0, p0, q0, hargs0, rfl, rfl, h0, r0⟩ := trodAll_cons hA
    obtain ⟨hnil, rfl, rfl⟩ := trodAll_nil r0
    subst hnil
    obtain rfl : args = #[v0] := by cases args; simp_all
    obtain ⟨es0, fp0, hr0, hm0, hp0⟩ := open_TxnS (hval 0 28 v0 rfl rfl) h0
    exact fnExactLanesDepth_walk v0 es0 fp0 W hr0 hm0 hp0

set_option maxRecDepth 8000 in
theorem fnExactLanesDepth_holds : Rows.FnExactLanesDepthSaid :=
  OpenClaim.holds_of_wide 5 Try.f5 rfl rfl rfl rfl rfl rfl rfl ⟨rfl, rfl, rfl, rfl, rfl⟩ rfl rfl rfl rfl rfl (by kernel_rfl) Try.func5 (by kernel_rfl)
    (of_decide_eq_true (by kernel_rfl)) (by unfold Func.isWrapper; first | (rw [if_pos (by decide +kernel)]; kernel_rfl) | (rw [if_neg (by decide +kernel)]; exact ⟨rfl, rfl⟩))
    (fun os started H enc _ => fnExactLanesDepth_lifted os started H enc)

end Go.Proofs.Ytnjjbplocokdeab
