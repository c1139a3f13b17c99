/- The exact law of LanesOf holds at every argument; no conditions of our own. -/
import Derived.Test.YtnjjbplocokdeabRows
import Derived.Test.YtnjjbplocokdeabBu0
import Derived.Test.YtnjjbplocokdeabBu3
import Derived.Test.YtnjjbplocokdeabBu1
import Derived.Test.YtnjjbplocokdeabBu2
namespace Go.Proofs.Ytnjjbplocokdeab
open Go.ChangeShapes Go.WideShapes Go.ChangeAt Go.RowKit

set_option maxHeartbeats 4000000 in
theorem fnExactLanesOf_walk (vt : Value) (est : List (List Fd)) (fpt : List Nat) (w : World) (hrt : Rd w (rowsD est) vt fpt) (hmt : est.length ≤ maxLen) (hpt : ∀ e ∈ est, txnP e ∧ fitE e) :
    Calls Try.prog 4 #[vt] w fun e w' => e = .returned (.bool true) ∧ Below w.heap.size w w' := by
  unfold maxLen at hmt
  have Hrt := Lib.hid hrt; clear hrt
  have hpt1 : ∀ e ∈ est, txnP e := fun e he => (hpt e he).1
  have Hft := Lib.hid (fun e he => (hpt e he).2); clear hpt
  have Hb0 := Lib.hid (Below.refl w.heap.size w)
  have Hszt := Lib.hid (fun w (hr : Rd w (rowsD est) vt fpt) => laws_szTxnSR est vt fpt (1048576) w (by omega) (by omega) hpt1 hr)
  go_enter Try.func4, Try.ntmps4
  go_wp2_with fail
  refine (Hszt.out _ (Hrt.out.under Hb0.out)).mono ?_
  rintro e w1 ⟨rfl, hb1⟩
  have Hb1 := Lib.hid (below_step Hb0.out Hb0.out.size hb1)
  have hz1 := (hb1).size
  have hklt := kTo_bd (txnP_len hpt1) 1 est.length (Nat.le_refl _)
  clear hklt
  by_cases hlt : est.length + lnTo est est.length ≤ 1048576
  case neg =>
    rw [if_neg hlt]
    go_wp2
    go_ret
    exact ⟨rfl, Hb1.out⟩
  rw [if_pos hlt]
  have hnegt : decide ((((1048576 - est.length - lnTo est est.length : Nat)) : Int) < 0) = false := decide_eq_false (by omega)
  have hnget : ¬ (((1048576 - est.length - lnTo est est.length : Nat) : Int) < 0) := by omega
  have hint := lnTo_in (es := est) (m := 1048576) (by omega)
  have hkbt := fun k => kTo_bd (txnP_len hpt1) k est.length (Nat.le_refl _)
  have Hlnt := Lib.hid (show ∀ e ∈ est, lnE e ≤ 1099511627776 from fun e he => Nat.le_trans (hint e he) (by omega))
  obtain ⟨g, rfl⟩ := rows_tx hpt1
  have hLg : (g.map txF).length = g.length := by simp
  have Hspec := Lib.hid (show ∀ (v_ : Value) (f_ : List Nat) (w : World) (h' : Rd w (rowsD (g.map txF)) v_ f_), Calls Try.prog 11 #[v_] w fun e w' => ∃ u, e = .returned u ∧ OwnR 40 3 1 w' w.heap.size w'.heap.size u ((lnsN g).map lnF) ∧ Below w.heap.size w w' from fun v_ f_ w h' => by obtain ⟨a_, c_, rfl, _⟩ := Txs.slice (l := g) h'; exact spec_LanesOf g a_ c_ f_ w (by omega) h')
  have Himpl := Lib.hid (show ∀ (v_ : Value) (f_ : List Nat) (w : World) (h' : Rd w (rowsD (g.map txF)) v_ f_), Calls Try.prog 13 #[v_] w fun e w' => ∃ u, e = .returned u ∧ OwnR 40 3 1 w' w.heap.size w'.heap.size u ((lnsN g).map lnF) ∧ Below w.heap.size w w' from fun v_ f_ w h' => by obtain ⟨a_, c_, rfl, _⟩ := Txs.slice (l := g) h'; exact impl_LanesOf g a_ c_ f_ w (by omega) h')
  obtain ⟨hs1, hs2⟩ := lns_small g
  obtain ⟨hRa, hRb, hRc, hRd⟩ := ln_answer hs1 hs2
  clear hs1 hs2
  generalize (lnsN g).map lnF = R at *
  have Hrp0 := Lib.hid hRb; clear hRb
  have Hrl0 := Lib.hid hRc; clear hRc
  have Hrk0 := Lib.hid hRd; clear hRd
  clear hLg
  generalize g.map txF = est at *
  have Hint := Lib.hid hint; clear hint
  have Hkbt := Lib.hid hkbt; clear hkbt
  have Hpt := Lib.hid hpt1; clear hpt1
  go_wp2_with fail
  refine (laws_toTxnSR est vt fpt _ (by omega) Hpt.out Hint.out (Hrt.out.under Hb1.out)).mono ?_
  rintro e w2 ⟨vts, rfl, hots, hb2⟩
  have Hb2 := Lib.hid (below_step Hb1.out Hb1.out.size hb2)
  have hz2 := (hb2).size
  have Hts := Lib.hid hots; clear hots
  have hhts : w1.heap.size ≤ w1.heap.size := Nat.le_refl _
  have hjts : w2.heap.size ≤ w2.heap.size := Nat.le_refl _
  obtain ⟨fts, hrts⟩ := Hts.out.reads
  go_wp2_with fail
  refine (Hspec.out vts fts _ hrts).mono ?_
  rintro e w3 ⟨vw0, rfl, how0, hb3⟩
  have Hb3 := Lib.hid (below_step Hb2.out Hb2.out.size hb3)
  have Hts := Lib.hid (Hts.out.below hb3 (by omega))
  have hz3 := (hb3).size
  have Hw0 := Lib.hid how0; clear how0
  have hhw0 : w2.heap.size ≤ w2.heap.size := Nat.le_refl _
  have hjw0 : w3.heap.size ≤ w3.heap.size := Nat.le_refl _
  clear hrts
  clear Hts
  go_wp2_with fail
  refine (laws_toTxnSR est vt fpt _ (by omega) Hpt.out Hint.out (Hrt.out.under Hb3.out)).mono ?_
  rintro e w4 ⟨vtx, rfl, hotx, hb4⟩
  have Hb4 := Lib.hid (below_step Hb3.out Hb3.out.size hb4)
  have Hw0 := Lib.hid (Hw0.out.below hb4 (by omega))
  have hz4 := (hb4).size
  have Htx := Lib.hid hotx; clear hotx
  have hhtx : w3.heap.size ≤ w3.heap.size := Nat.le_refl _
  have hjtx : w4.heap.size ≤ w4.heap.size := Nat.le_refl _
  obtain ⟨ftx, hrtx⟩ := Htx.out.reads
  go_wp2_with fail
  refine (Himpl.out vtx ftx _ hrtx).mono ?_
  rintro e w5 ⟨vg0, rfl, hog0, hb5⟩
  have Hb5 := Lib.hid (below_step Hb4.out Hb4.out.size hb5)
  have Hw0 := Lib.hid (Hw0.out.below hb5 (by omega))
  have Htx := Lib.hid (Htx.out.below hb5 (by omega))
  have hz5 := (hb5).size
  have Hg0 := Lib.hid hog0; clear hog0
  have hhg0 : w4.heap.size ≤ w4.heap.size := Nat.le_refl _
  have hjg0 : w5.heap.size ≤ w5.heap.size := Nat.le_refl _
  clear hrtx
  obtain ⟨fg0, hrg0⟩ := Hg0.out.reads
  obtain ⟨fw0, hrw0⟩ := Hw0.out.reads
  go_wp2_with fail
  refine (laws_eqIntSSR R _ _ fg0 fw0 w5 (by omega) Hrp0.out Hrl0.out hrg0 hrw0).mono ?_
  rintro e w6 ⟨rfl, hb6⟩
  have Hb6 := Lib.hid (below_step Hb5.out Hb5.out.size hb6)
  have Hw0 := Lib.hid (Hw0.out.below hb6 (by omega))
  have Htx := Lib.hid (Htx.out.below hb6 (by omega))
  have Hg0 := Lib.hid (Hg0.out.below hb6 (by omega))
  have hz6 := (hb6).size
  clear hrg0 hrw0
  go_wp2_with fail
  refine (laws_toTxnSR est vt fpt _ (by omega) Hpt.out Hint.out (Hrt.out.under Hb6.out)).mono ?_
  rintro e w7 ⟨vty, rfl, hoty, hb7⟩
  have Hb7 := Lib.hid (below_step Hb6.out Hb6.out.size hb7)
  have Hw0 := Lib.hid (Hw0.out.below hb7 (by omega))
  have Htx := Lib.hid (Htx.out.below hb7 (by omega))
  have Hg0 := Lib.hid (Hg0.out.below hb7 (by omega))
  have hz7 := (hb7).size
  have Hty := Lib.hid hoty; clear hoty
  have hhty : w6.heap.size ≤ w6.heap.size := Nat.le_refl _
  have hjty : w7.heap.size ≤ w7.heap.size := Nat.le_refl _
  obtain ⟨ftx, hrtx⟩ := Htx.out.reads
  obtain ⟨fty, hrty⟩ := Hty.out.reads
  go_wp2_with fail
  refine (laws_eqTxnSR est _ _ ftx fty w7 (by omega) Hpt.out Hlnt.out hrtx hrty).mono ?_
  rintro e w8 ⟨rfl, hb8⟩
  have Hb8 := Lib.hid (below_step Hb7.out Hb7.out.size hb8)
  have Hw0 := Lib.hid (Hw0.out.below hb8 (by omega))
  have Htx := Lib.hid (Htx.out.below hb8 (by omega))
  have Hg0 := Lib.hid (Hg0.out.below hb8 (by omega))
  have Hty := Lib.hid (Hty.out.below hb8 (by omega))
  have hz8 := (hb8).size
  clear hrtx hrty
  clear Hty
  go_wp2_with fail
  have hkk := Hkbt.out (1)
  refine (laws_markTxnSR est _ (1) w3.heap.size w4.heap.size w8 (by omega) Hpt.out Htx.out).mono ?_
  rintro e w9 ⟨rfl, ho, hbt⟩
  have Hb9 := Lib.hid ((hbt).below Hb8.out Hb8.out.size (by omega))
  have hz9 := (hbt).size
  have Hw0 := Lib.hid ((hbt).ownR Hw0.out (by omega) (by first | exact .inl (by omega) | exact .inr (by omega) | omega))
  have Hg0 := Lib.hid ((hbt).ownR Hg0.out (by omega) (by first | exact .inl (by omega) | exact .inr (by omega) | omega))
  have Htx := Lib.hid (ho)
  clear ho hbt
  generalize kTo est (1) est.length = k1 at *
  have hkn : decide (((k1 : Nat) : Int) < 0) = false := decide_eq_false (by omega)
  have hkn' : ¬ ((k1 : Nat) : Int) < 0 := by omega
  obtain ⟨fg0, hrg0⟩ := Hg0.out.reads
  obtain ⟨fw0, hrw0⟩ := Hw0.out.reads
  go_wp2_with fail
  refine (laws_eqIntSSR R _ _ fg0 fw0 w9 (by omega) Hrp0.out Hrl0.out hrg0 hrw0).mono ?_
  rintro e w10 ⟨rfl, hb10⟩
  have Hb10 := Lib.hid (below_step Hb9.out Hb9.out.size hb10)
  have Hw0 := Lib.hid (Hw0.out.below hb10 (by omega))
  have Htx := Lib.hid (Htx.out.below hb10 (by omega))
  have Hg0 := Lib.hid (Hg0.out.below hb10 (by omega))
  have hz10 := (hb10).size
  clear hrg0 hrw0
  go_wp2_with fail
  have hkk := Hrk0.out (1)
  refine (laws_markIntSSR R _ (1) w4.heap.size w5.heap.size w10 (by omega) Hrp0.out Hg0.out).mono ?_
  rintro e w11 ⟨rfl, ho, hbt⟩
  have Hb11 := Lib.hid ((hbt).below Hb10.out Hb10.out.size (by omega))
  have hz11 := (hbt).size
  have Hw0 := Lib.hid ((hbt).ownR Hw0.out (by omega) (by first | exact .inl (by omega) | exact .inr (by omega) | omega))
  have Htx := Lib.hid ((hbt).ownR Htx.out (by omega) (by first | exact .inl (by omega) | exact .inr (by omega) | omega))
  have Hg0 := Lib.hid (ho)
  clear ho hbt
  generalize hm1 : kTo R (1) R.length = m1 at *
  have Hm1 := Lib.hid hm1; clear hm1
  have hmn : decide (((m1 : Nat) : Int) < 0) = false := decide_eq_false (by omega)
  have hmn' : ¬ ((m1 : Nat) : Int) < 0 := by omega
  have hhe := laws_heldIntSSR R _ (1) _ _ w11 (by have := Hrk0.out (1); omega) Hrp0.out Hg0.out
  rw [Hm1.out] at hhe
  have Hhe := Lib.hid hhe; clear hhe
  go_wp2_with fail
  refine (Hhe.out).mono ?_
  rintro e w12 ⟨rfl, hb12⟩
  have Hb12 := Lib.hid (below_step Hb11.out Hb11.out.size (hb12.below w11.heap.size))
  have Hw0 := Lib.hid (Hw0.out.below (hb12.below w11.heap.size) (by omega))
  have Htx := Lib.hid (Htx.out.below (hb12.below w11.heap.size) (by omega))
  have Hg0 := Lib.hid (Hg0.out.below (hb12.below w11.heap.size) (by omega))
  have hz12 := ((hb12.below w11.heap.size)).size
  clear Hhe
  clear Htx
  go_wp2_with fail
  refine (laws_toTxnSR est vt fpt _ (by omega) Hpt.out Hint.out (Hrt.out.under Hb12.out)).mono ?_
  rintro e w13 ⟨vtz, rfl, hotz, hb13⟩
  have Hb13 := Lib.hid (below_step Hb12.out Hb12.out.size hb13)
  have Hw0 := Lib.hid (Hw0.out.below hb13 (by omega))
  have Hg0 := Lib.hid (Hg0.out.below hb13 (by omega))
  have hz13 := (hb13).size
  have Htz := Lib.hid hotz; clear hotz
  have hhtz : w12.heap.size ≤ w12.heap.size := Nat.le_refl _
  have hjtz : w13.heap.size ≤ w13.heap.size := Nat.le_refl _
  obtain ⟨ftz, hrtz⟩ := Htz.out.reads
  go_wp2_with fail
  refine (Himpl.out vtz ftz _ hrtz).mono ?_
  rintro e w14 ⟨vh0, rfl, hoh0, hb14⟩
  have Hb14 := Lib.hid (below_step Hb13.out Hb13.out.size hb14)
  have Hw0 := Lib.hid (Hw0.out.below hb14 (by omega))
  have Hg0 := Lib.hid (Hg0.out.below hb14 (by omega))
  have Htz := Lib.hid (Htz.out.below hb14 (by omega))
  have hz14 := (hb14).size
  have Hh0 := Lib.hid hoh0; clear hoh0
  have hhh0 : w13.heap.size ≤ w13.heap.size := Nat.le_refl _
  have hjh0 : w14.heap.size ≤ w14.heap.size := Nat.le_refl _
  clear hrtz
  obtain ⟨fh0, hrh0⟩ := Hh0.out.reads
  obtain ⟨fw0, hrw0⟩ := Hw0.out.reads
  go_wp2_with fail
  refine (laws_eqIntSSR R _ _ fh0 fw0 w14 (by omega) Hrp0.out Hrl0.out hrh0 hrw0).mono ?_
  rintro e w15 ⟨rfl, hb15⟩
  have Hb15 := Lib.hid (below_step Hb14.out Hb14.out.size hb15)
  have Hw0 := Lib.hid (Hw0.out.below hb15 (by omega))
  have Hg0 := Lib.hid (Hg0.out.below hb15 (by omega))
  have Htz := Lib.hid (Htz.out.below hb15 (by omega))
  have Hh0 := Lib.hid (Hh0.out.below hb15 (by omega))
  have hz15 := (hb15).size
  clear hrh0 hrw0
  have hhe := laws_heldIntSSR R _ (1) _ _ w15 (by have := Hrk0.out (1); omega) Hrp0.out Hg0.out
  rw [Hm1.out] at hhe
  have Hhe := Lib.hid hhe; clear hhe
  go_wp2_with fail
  refine (Hhe.out).mono ?_
  rintro e w16 ⟨rfl, hb16⟩
  have Hb16 := Lib.hid (below_step Hb15.out Hb15.out.size (hb16.below w15.heap.size))
  have Hw0 := Lib.hid (Hw0.out.below (hb16.below w15.heap.size) (by omega))
  have Hg0 := Lib.hid (Hg0.out.below (hb16.below w15.heap.size) (by omega))
  have Htz := Lib.hid (Htz.out.below (hb16.below w15.heap.size) (by omega))
  have Hh0 := Lib.hid (Hh0.out.below (hb16.below w15.heap.size) (by omega))
  have hz16 := ((hb16.below w15.heap.size)).size
  clear Hhe
  go_wp2
  go_ret
  exact ⟨by first | rfl | exact ret_bool (by simp), Hb16.out⟩

theorem fnExactLanesOf_own : ownKnob Try.prog.godebug = none := by kernel_rfl
theorem fnExactLanesOf_laidOut : laidOutB Try.prog = true := by kernel_rfl

set_option maxRecDepth 8000 in
theorem fnExactLanesOf_lifted (os : Os) (started : os.Started) (H : Type) (enc : TypeId × Value → H) :
    ReturnsInHanded {} Try.checked os 4 .any (Rows.fnExactLanesOfSpec.pre6 enc Try.prog Try.f4 Rows.fnExactLanesOfRow.domain false) (Rows.fnExactLanesOfSpec.post enc Try.prog Try.f4 false true false false) := by
  refine law_lifted (C := Try.checked) (tb := 4) fnExactLanesOf_own fnExactLanesOf_laidOut started (by kernel_rfl) Try.func4 rfl Try.underlying4 rfl (by rw [Try.params4]; exact of_decide_eq_true (by kernel_rfl)) ?_
    (ChangeSpec.witness6 (enc := enc) (C := Try.checked) false ⟨#[], #[.slice none 0 0], []⟩ 8 (by kernel_rfl) (by kernel_rfl) (by kernel_rfl) (by kernel_rfl)) ?_
  · intro ds hds
    rw [Try.params4] at hds
    match ds, hds with
    | [d0], _ => rfl
  · intro W base args ds p hval0 hA0
    have hval : ∀ (j : Nat) t v, Try.f4.params[j]? = some t → args[j]? = some v → Value.okWide Try.prog W .any base t v := hval0
    have hA : DataW.TrodAll enc Try.prog W 0 (fun _ => true) true Try.f4.params.toList args.toList ds p := hA0
    rw [Try.params4] at hA hval
    obtain ⟨v0, vs0, d0, ds0, p0, q0, hargs0, rfl, rfl, h0, r0⟩ := trodAll_cons hA
    obtain ⟨hnil, rfl, rfl⟩ := trodAll_nil r0
    subst hnil
    obtain rfl : args = #[v0] := by cases args; simp_all
    obtain ⟨es0, fp0, hr0, hm0, hp0⟩ := open_TxnS (hval 0 28 v0 rfl rfl) h0
    exact fnExactLanesOf_walk v0 es0 fp0 W hr0 hm0 hp0

set_option maxRecDepth 8000 in
theorem fnExactLanesOf_holds : Rows.FnExactLanesOfSaid :=
  OpenClaim.holds_of_wide 4 Try.f4 rfl rfl rfl rfl rfl rfl rfl ⟨rfl, rfl, rfl, rfl, rfl⟩ rfl rfl rfl rfl rfl (by kernel_rfl) Try.func4 (by kernel_rfl)
    (of_decide_eq_true (by kernel_rfl)) (by unfold Func.isWrapper; first | (rw [if_pos (by decide +kernel)]; kernel_rfl) | (rw [if_neg (by decide +kernel)]; exact ⟨rfl, rfl⟩))
    (fun os started H enc _ => fnExactLanesOf_lifted os started H enc)

end Go.Proofs.Ytnjjbplocokdeab
