/- The exact law of LedgerRun holds at every argument; no conditions of our own. -/
import Derived.Test.YtfnhafgjdnlhiaaRows
import Derived.Test.YtfnhafgjdnlhiaaBu0
import Derived.Test.YtfnhafgjdnlhiaaBu1
import Derived.Test.YtfnhafgjdnlhiaaBu2
namespace Go.Proofs.Ytfnhafgjdnlhiaa
open Go.ChangeShapes Go.WideShapes Go.ChangeAt Go.RowKit

set_option maxHeartbeats 16000000 in
theorem fnExactLedgerRun_walk (ax0 : Option Addr) (capx0 : Nat) (xx0 : List Int) (x1 : Int) (vt : Value) (est : List (List Fd)) (fpt : List Nat) (w : World) (hmxx0 : xx0.length ≤ maxLen ∧ ∀ x ∈ xx0, -9223372036854775808 ≤ x ∧ x ≤ 9223372036854775807) (hixx0 : IntsAt w ax0 xx0) (_hx1 : -9223372036854775808 ≤ x1 ∧ x1 ≤ 9223372036854775807) (hrt : Rd w (rowsD est) vt fpt) (hmt : est.length ≤ maxLen) (hpt : ∀ e ∈ est, txnP e ∧ fitE e) :
    Calls Try.prog 7 #[.agg #[.slice ax0 xx0.length capx0, .int .i64 x1], vt] w fun e w' => e = .returned (.bool true) ∧ Below w.heap.size w w' := by
  obtain ⟨hmxx0, _hbxx0⟩ := hmxx0
  unfold maxLen at hmxx0
  obtain ⟨_hx11, _hx12⟩ := _hx1
  unfold maxLen at hmt
  have hbx0 : Below w.heap.size w (w.alloc (.cells #[.slice ax0 xx0.length capx0, .int .i64 x1] 42)) := (Below.refl w.heap.size w).alloc (by first | exact Nat.le_refl _ | (simp only [World.size_alloc]; omega)) _
  have hsx0 := Str.new (w) 42 #[.slice ax0 xx0.length capx0, .int .i64 x1]
  have Hrt := Lib.hid hrt; clear hrt
  have hpt1 : ∀ e ∈ est, txnP e := fun e he => (hpt e he).1
  have Hft := Lib.hid (fun e he => (hpt e he).2); clear hpt
  have Hixx0 := Lib.hid hixx0; clear hixx0
  have hzx : (w.alloc (.cells #[.slice ax0 xx0.length capx0, .int .i64 x1] 42)).heap.size = w.heap.size + 1 := by simp
  have Sxb := Lib.hid (show Str (w.alloc (.cells #[.slice ax0 xx0.length capx0, .int .i64 x1] 42)) (w.heap.size) 42 #[.slice ax0 xx0.length capx0, .int .i64 x1] by simpa using hsx0)
  clear hsx0
  have Hb0 := Lib.hid hbx0
  clear hbx0
  have Hszx := Lib.hid (fun w => laws_szLedgerR ax0 capx0 xx0 x1 (1048576) w (by omega) (by omega))
  go_enter Try.func7, Try.ntmps7
  have qxb_0 := Sxb.out.cell 0 (v := .slice ax0 xx0.length capx0) rfl
  have qxb_1 := Sxb.out.cell 1 (v := .int .i64 x1) rfl
  go_wp2_with fail
  generalize (w.alloc (.cells #[.slice ax0 xx0.length capx0, .int .i64 x1] 42)) = w0 at *
  refine (Hszx.out _).mono ?_
  rintro e w1 ⟨rfl, hb1⟩
  have Hb1 := Lib.hid (below_step Hb0.out Hb0.out.size hb1)
  have Sxb := Lib.hid (show Str w1 w.heap.size 42 #[.slice ax0 xx0.length capx0, .int .i64 x1] from ((hb1).block _ Sxb.out.lt).trans Sxb.out)
  have hz1 := (hb1).size
  clear qxb_0 qxb_1
  by_cases hlxx0 : xx0.length ≤ 1048576
  case neg =>
    rw [if_neg hlxx0]
    go_wp2
    go_ret
    exact ⟨rfl, Hb1.out⟩
  rw [if_pos hlxx0]
  have hnegx : decide ((((1048576 - xx0.length : Nat)) : Int) < 0) = false := decide_eq_false (by omega)
  have hngex : ¬ (((1048576 - xx0.length : Nat) : Int) < 0) := by omega
  have Hszt := Lib.hid (fun w (hr : Rd w (rowsD est) vt fpt) => laws_szTxnSR est vt fpt (1048576 - xx0.length) w (by omega) (by omega) hpt1 hr)
  go_wp2_with fail
  refine (Hszt.out _ (Hrt.out.under Hb1.out)).mono ?_
  rintro e w2 ⟨rfl, hb2⟩
  have Hb2 := Lib.hid (below_step Hb1.out Hb1.out.size hb2)
  have Sxb := Lib.hid (show Str w2 w.heap.size 42 #[.slice ax0 xx0.length capx0, .int .i64 x1] from ((hb2).block _ Sxb.out.lt).trans Sxb.out)
  have hz2 := (hb2).size
  have hklt := kTo_bd (txnP_len hpt1) 1 est.length (Nat.le_refl _)
  clear hklt
  by_cases hlt : est.length + lnTo est est.length ≤ 1048576 - xx0.length
  case neg =>
    rw [if_neg hlt]
    go_wp2
    go_ret
    exact ⟨rfl, Hb2.out⟩
  rw [if_pos hlt]
  have hnegt : decide ((((1048576 - xx0.length - est.length - lnTo est est.length : Nat)) : Int) < 0) = false := decide_eq_false (by omega)
  have hnget : ¬ (((1048576 - xx0.length - est.length - lnTo est est.length : Nat) : Int) < 0) := by omega
  have hint := lnTo_in (es := est) (m := 1048576) (by omega)
  have hkbt := fun k => kTo_bd (txnP_len hpt1) k est.length (Nat.le_refl _)
  have Hlnt := Lib.hid (show ∀ e ∈ est, lnE e ≤ 1099511627776 from fun e he => Nat.le_trans (hint e he) (by omega))
  obtain ⟨g, rfl⟩ := rows_tx hpt1
  have hLg : (g.map txF).length = g.length := by simp
  have Hspec := Lib.hid (fun a_ c_ v_ f_ w (_hc : xx0.length ≤ c_) (h : IntsAt w a_ xx0) (hs : SrcAt w a_ c_ xx0) (h' : Rd w (rowsD (g.map txF)) v_ f_) => spec_LedgerRun a_ c_ xx0 x1 g v_ f_ w (by omega) (by omega) h hs h')
  have Himpl := Lib.hid (fun a_ c_ v_ f_ w (_hc : xx0.length ≤ c_) (h : IntsAt w a_ xx0) (hs : SrcAt w a_ c_ xx0) (h' : Rd w (rowsD (g.map txF)) v_ f_) => impl_LedgerRun a_ c_ xx0 x1 g v_ f_ w (by omega) (by omega) h h')
  unfold RuP at Hspec Himpl
  have hL2 : (ruL xx0 x1 g).length ≤ 1048576 := Nat.le_trans (ru_len xx0 x1 g) (by omega)
  have hZ2 : (ruO xx0 x1 g).length ≤ 1048576 := Nat.le_trans (ru_lenO xx0 x1 g) (by omega)
  generalize ruL xx0 x1 g = L at *
  generalize ruF xx0 x1 g = N at *
  generalize ruO xx0 x1 g = Z at *
  clear hLg
  generalize g.map txF = est at *
  have Hint := Lib.hid hint; clear hint
  have Hkbt := Lib.hid hkbt; clear hkbt
  have Hpt := Lib.hid hpt1; clear hpt1
  have qxb_0 := Sxb.out.cell 0 (v := .slice ax0 xx0.length capx0) rfl
  have qxb_1 := Sxb.out.cell 1 (v := .int .i64 x1) rfl
  go_wp2_with fail
  refine (laws_toLedgerR ax0 capx0 xx0 x1 _ (by omega) (Hixx0.out.below Hb2.out)).mono ?_
  rintro e w3 ⟨vxs, rfl, hoxs, hb3⟩
  have Hb3 := Lib.hid (below_step Hb2.out Hb2.out.size hb3)
  have Sxb := Lib.hid (show Str w3 w.heap.size 42 #[.slice ax0 xx0.length capx0, .int .i64 x1] from ((hb3).block _ Sxb.out.lt).trans Sxb.out)
  have hz3 := (hb3).size
  have Hxs := Lib.hid (OwnI.of hoxs); clear hoxs
  obtain ⟨axs, cxs, rfl, _, _⟩ := Hxs.out.ints
  have hcxs := Hxs.out.cap
  have hhxs : w2.heap.size ≤ w2.heap.size := Nat.le_refl _
  have hjxs : w3.heap.size ≤ w3.heap.size := Nat.le_refl _
  clear qxb_0 qxb_1
  go_wp2_with fail
  refine (laws_toTxnSR est vt fpt _ (by omega) Hpt.out Hint.out (Hrt.out.under Hb3.out)).mono ?_
  rintro e w4 ⟨vts, rfl, hots, hb4⟩
  have Hb4 := Lib.hid (below_step Hb3.out Hb3.out.size hb4)
  have Hxs := Lib.hid (Hxs.out.below hb4)
  have Sxb := Lib.hid (show Str w4 w.heap.size 42 #[.slice ax0 xx0.length capx0, .int .i64 x1] from ((hb4).block _ Sxb.out.lt).trans Sxb.out)
  have hz4 := (hb4).size
  have Hts := Lib.hid hots; clear hots
  have hhts : w3.heap.size ≤ w3.heap.size := Nat.le_refl _
  have hjts : w4.heap.size ≤ w4.heap.size := Nat.le_refl _
  obtain ⟨fts, hrts⟩ := Hts.out.reads
  go_wp2_with fail
  refine (Hspec.out axs cxs vts fts _ hcxs Hxs.out.at (own_src Hxs.out.own) hrts).mono ?_
  rintro e w5 ⟨vw0_0, vw1, rfl, how0_0, how1, hb5⟩
  have Hb5 := Lib.hid (below_step Hb4.out Hb4.out.size hb5)
  have Hxs := Lib.hid (Hxs.out.below hb5)
  have Hts := Lib.hid (Hts.out.below hb5 (by omega))
  have Sxb := Lib.hid (show Str w5 w.heap.size 42 #[.slice ax0 xx0.length capx0, .int .i64 x1] from ((hb5).block _ Sxb.out.lt).trans Sxb.out)
  have hz5 := (hb5).size
  have Hw0_0 := Lib.hid (OwnI.of how0_0); clear how0_0
  obtain ⟨aw0_0, cw0_0, rfl, _, _⟩ := Hw0_0.out.ints
  have hcw0_0 := Hw0_0.out.cap
  have hhw0_0 : w4.heap.size ≤ w4.heap.size := Nat.le_refl _
  have hjw0_0 : w5.heap.size ≤ w5.heap.size := Nat.le_refl _
  have Hw1 := Lib.hid (OwnZ.of how1); clear how1
  obtain ⟨aw1, cw1, rfl, _⟩ := Hw1.out.bls
  have hhw1 : w4.heap.size ≤ w4.heap.size := Nat.le_refl _
  have hjw1 : w5.heap.size ≤ w5.heap.size := Nat.le_refl _
  clear hrts
  clear Hxs
  clear Hts
  have hAw0 : Below w5.heap.size w5 (w5.alloc (.cells #[.slice aw0_0 L.length cw0_0, .int .i64 N] 25)) := (Below.refl _ _).alloc (Nat.le_refl _) _
  have sNw0 := Str.new w5 25 #[.slice aw0_0 L.length cw0_0, .int .i64 N]
  have hzAw0 : (w5.alloc (.cells #[.slice aw0_0 L.length cw0_0, .int .i64 N] 25)).heap.size = w5.heap.size + 1 := by simp
  have hbsw0 : w5.heap.size ≤ w5.heap.size := Nat.le_refl _
  have Hb6 := Lib.hid (below_step Hb5.out Hb5.out.size hAw0)
  have Hw0_0 := Lib.hid (Hw0_0.out.below hAw0)
  have Hw1 := Lib.hid (Hw1.out.below hAw0)
  have Sxb := Lib.hid (show Str (w5.alloc (.cells #[.slice aw0_0 L.length cw0_0, .int .i64 N] 25)) w.heap.size 42 #[.slice ax0 xx0.length capx0, .int .i64 x1] from (hAw0.block _ Sxb.out.lt).trans Sxb.out)
  have Sw0 := Lib.hid sNw0; clear sNw0
  clear hAw0
  have qxb_0 := Sxb.out.cell 0 (v := .slice ax0 xx0.length capx0) rfl
  have qxb_1 := Sxb.out.cell 1 (v := .int .i64 x1) rfl
  go_wp2_with fail
  generalize w5.alloc (.cells #[.slice aw0_0 L.length cw0_0, .int .i64 N] 25) = w6 at *
  refine (laws_toLedgerR ax0 capx0 xx0 x1 _ (by omega) (Hixx0.out.below Hb6.out)).mono ?_
  rintro e w7 ⟨vxx, rfl, hoxx, hb7⟩
  have Hb7 := Lib.hid (below_step Hb6.out Hb6.out.size hb7)
  have Hw0_0 := Lib.hid (Hw0_0.out.below hb7)
  have Hw1 := Lib.hid (Hw1.out.below hb7)
  have Sxb := Lib.hid (show Str w7 w.heap.size 42 #[.slice ax0 xx0.length capx0, .int .i64 x1] from ((hb7).block _ Sxb.out.lt).trans Sxb.out)
  have Sw0 := Lib.hid (show Str w7 w5.heap.size 25 #[.slice aw0_0 L.length cw0_0, .int .i64 N] from ((hb7).block _ Sw0.out.lt).trans Sw0.out)
  have hz7 := (hb7).size
  have Hxx := Lib.hid (OwnI.of hoxx); clear hoxx
  obtain ⟨axx, cxx, rfl, _, _⟩ := Hxx.out.ints
  have hcxx := Hxx.out.cap
  have hhxx : w6.heap.size ≤ w6.heap.size := Nat.le_refl _
  have hjxx : w7.heap.size ≤ w7.heap.size := Nat.le_refl _
  clear qxb_0 qxb_1
  have hAxxv : Below w7.heap.size w7 (w7.alloc (.cells #[.slice axx xx0.length cxx, .int .i64 x1] 25)) := (Below.refl _ _).alloc (Nat.le_refl _) _
  have sNxxv := Str.new w7 25 #[.slice axx xx0.length cxx, .int .i64 x1]
  have hzAxxv : (w7.alloc (.cells #[.slice axx xx0.length cxx, .int .i64 x1] 25)).heap.size = w7.heap.size + 1 := by simp
  have hbsxxv : w7.heap.size ≤ w7.heap.size := Nat.le_refl _
  have Hb8 := Lib.hid (below_step Hb7.out Hb7.out.size hAxxv)
  have Hw0_0 := Lib.hid (Hw0_0.out.below hAxxv)
  have Hw1 := Lib.hid (Hw1.out.below hAxxv)
  have Hxx := Lib.hid (Hxx.out.below hAxxv)
  have Sxb := Lib.hid (show Str (w7.alloc (.cells #[.slice axx xx0.length cxx, .int .i64 x1] 25)) w.heap.size 42 #[.slice ax0 xx0.length capx0, .int .i64 x1] from (hAxxv.block _ Sxb.out.lt).trans Sxb.out)
  have Sw0 := Lib.hid (show Str (w7.alloc (.cells #[.slice axx xx0.length cxx, .int .i64 x1] 25)) w5.heap.size 25 #[.slice aw0_0 L.length cw0_0, .int .i64 N] from (hAxxv.block _ Sw0.out.lt).trans Sw0.out)
  have Sxxv := Lib.hid sNxxv; clear sNxxv
  clear hAxxv
  have qxb_0 := Sxb.out.cell 0 (v := .slice ax0 xx0.length capx0) rfl
  have qxb_1 := Sxb.out.cell 1 (v := .int .i64 x1) rfl
  have qxxv_0 := Sxxv.out.cell 0 (v := .slice axx xx0.length cxx) rfl
  have qxxv_1 := Sxxv.out.cell 1 (v := .int .i64 x1) rfl
  go_wp2_with fail
  generalize w7.alloc (.cells #[.slice axx xx0.length cxx, .int .i64 x1] 25) = w8 at *
  refine (laws_toTxnSR est vt fpt _ (by omega) Hpt.out Hint.out (Hrt.out.under Hb8.out)).mono ?_
  rintro e w9 ⟨vtx, rfl, hotx, hb9⟩
  have Hb9 := Lib.hid (below_step Hb8.out Hb8.out.size hb9)
  have Hw0_0 := Lib.hid (Hw0_0.out.below hb9)
  have Hw1 := Lib.hid (Hw1.out.below hb9)
  have Hxx := Lib.hid (Hxx.out.below hb9)
  have Sxb := Lib.hid (show Str w9 w.heap.size 42 #[.slice ax0 xx0.length capx0, .int .i64 x1] from ((hb9).block _ Sxb.out.lt).trans Sxb.out)
  have Sw0 := Lib.hid (show Str w9 w5.heap.size 25 #[.slice aw0_0 L.length cw0_0, .int .i64 N] from ((hb9).block _ Sw0.out.lt).trans Sw0.out)
  have Sxxv := Lib.hid (show Str w9 w7.heap.size 25 #[.slice axx xx0.length cxx, .int .i64 x1] from ((hb9).block _ Sxxv.out.lt).trans Sxxv.out)
  have hz9 := (hb9).size
  have Htx := Lib.hid hotx; clear hotx
  have hhtx : w8.heap.size ≤ w8.heap.size := Nat.le_refl _
  have hjtx : w9.heap.size ≤ w9.heap.size := Nat.le_refl _
  clear qxb_0 qxb_1 qxxv_0 qxxv_1
  obtain ⟨ftx, hrtx⟩ := Htx.out.reads
  have qxxv_0 := Sxxv.out.cell 0 (v := .slice axx xx0.length cxx) rfl
  have qxxv_1 := Sxxv.out.cell 1 (v := .int .i64 x1) rfl
  go_wp2_with fail
  refine (Himpl.out axx cxx vtx ftx _ hcxx Hxx.out.at (own_src Hxx.out.own) hrtx).mono ?_
  rintro e w10 ⟨vg0_0, vg1, rfl, hog0_0, hog1, hb10⟩
  have Hb10 := Lib.hid (below_step Hb9.out Hb9.out.size hb10)
  have Hw0_0 := Lib.hid (Hw0_0.out.below hb10)
  have Hw1 := Lib.hid (Hw1.out.below hb10)
  have Hxx := Lib.hid (Hxx.out.below hb10)
  have Htx := Lib.hid (Htx.out.below hb10 (by omega))
  have Sxb := Lib.hid (show Str w10 w.heap.size 42 #[.slice ax0 xx0.length capx0, .int .i64 x1] from ((hb10).block _ Sxb.out.lt).trans Sxb.out)
  have Sw0 := Lib.hid (show Str w10 w5.heap.size 25 #[.slice aw0_0 L.length cw0_0, .int .i64 N] from ((hb10).block _ Sw0.out.lt).trans Sw0.out)
  have Sxxv := Lib.hid (show Str w10 w7.heap.size 25 #[.slice axx xx0.length cxx, .int .i64 x1] from ((hb10).block _ Sxxv.out.lt).trans Sxxv.out)
  have hz10 := (hb10).size
  have Hg0_0 := Lib.hid (OwnI.of hog0_0); clear hog0_0
  obtain ⟨ag0_0, cg0_0, rfl, _, _⟩ := Hg0_0.out.ints
  have hcg0_0 := Hg0_0.out.cap
  have hhg0_0 : w9.heap.size ≤ w9.heap.size := Nat.le_refl _
  have hjg0_0 : w10.heap.size ≤ w10.heap.size := Nat.le_refl _
  have Hg1 := Lib.hid (OwnZ.of hog1); clear hog1
  obtain ⟨ag1, cg1, rfl, _⟩ := Hg1.out.bls
  have hhg1 : w9.heap.size ≤ w9.heap.size := Nat.le_refl _
  have hjg1 : w10.heap.size ≤ w10.heap.size := Nat.le_refl _
  clear qxxv_0 qxxv_1
  clear hrtx
  have hAg0 : Below w10.heap.size w10 (w10.alloc (.cells #[.slice ag0_0 L.length cg0_0, .int .i64 N] 25)) := (Below.refl _ _).alloc (Nat.le_refl _) _
  have sNg0 := Str.new w10 25 #[.slice ag0_0 L.length cg0_0, .int .i64 N]
  have hzAg0 : (w10.alloc (.cells #[.slice ag0_0 L.length cg0_0, .int .i64 N] 25)).heap.size = w10.heap.size + 1 := by simp
  have hbsg0 : w10.heap.size ≤ w10.heap.size := Nat.le_refl _
  have Hb11 := Lib.hid (below_step Hb10.out Hb10.out.size hAg0)
  have Hw0_0 := Lib.hid (Hw0_0.out.below hAg0)
  have Hw1 := Lib.hid (Hw1.out.below hAg0)
  have Hxx := Lib.hid (Hxx.out.below hAg0)
  have Htx := Lib.hid (Htx.out.below hAg0 (by omega))
  have Hg0_0 := Lib.hid (Hg0_0.out.below hAg0)
  have Hg1 := Lib.hid (Hg1.out.below hAg0)
  have Sxb := Lib.hid (show Str (w10.alloc (.cells #[.slice ag0_0 L.length cg0_0, .int .i64 N] 25)) w.heap.size 42 #[.slice ax0 xx0.length capx0, .int .i64 x1] from (hAg0.block _ Sxb.out.lt).trans Sxb.out)
  have Sw0 := Lib.hid (show Str (w10.alloc (.cells #[.slice ag0_0 L.length cg0_0, .int .i64 N] 25)) w5.heap.size 25 #[.slice aw0_0 L.length cw0_0, .int .i64 N] from (hAg0.block _ Sw0.out.lt).trans Sw0.out)
  have Sxxv := Lib.hid (show Str (w10.alloc (.cells #[.slice ag0_0 L.length cg0_0, .int .i64 N] 25)) w7.heap.size 25 #[.slice axx xx0.length cxx, .int .i64 x1] from (hAg0.block _ Sxxv.out.lt).trans Sxxv.out)
  have Sg0 := Lib.hid sNg0; clear sNg0
  clear hAg0
  have qg0_0 := Sg0.out.cell 0 (v := .slice ag0_0 L.length cg0_0) rfl
  have qg0_1 := Sg0.out.cell 1 (v := .int .i64 N) rfl
  have qw0_0 := Sw0.out.cell 0 (v := .slice aw0_0 L.length cw0_0) rfl
  have qw0_1 := Sw0.out.cell 1 (v := .int .i64 N) rfl
  go_wp2_with fail
  generalize w10.alloc (.cells #[.slice ag0_0 L.length cg0_0, .int .i64 N] 25) = w11 at *
  refine (laws_eqLedgerR ag0_0 aw0_0 cg0_0 cw0_0 L ( N) w11 (by omega) Hg0_0.out.at Hw0_0.out.at).mono ?_
  rintro e w12 ⟨rfl, hb12⟩
  have Hb12 := Lib.hid (below_step Hb11.out Hb11.out.size hb12)
  have Hw0_0 := Lib.hid (Hw0_0.out.below hb12)
  have Hw1 := Lib.hid (Hw1.out.below hb12)
  have Hxx := Lib.hid (Hxx.out.below hb12)
  have Htx := Lib.hid (Htx.out.below hb12 (by omega))
  have Hg0_0 := Lib.hid (Hg0_0.out.below hb12)
  have Hg1 := Lib.hid (Hg1.out.below hb12)
  have Sxb := Lib.hid (show Str w12 w.heap.size 42 #[.slice ax0 xx0.length capx0, .int .i64 x1] from ((hb12).block _ Sxb.out.lt).trans Sxb.out)
  have Sw0 := Lib.hid (show Str w12 w5.heap.size 25 #[.slice aw0_0 L.length cw0_0, .int .i64 N] from ((hb12).block _ Sw0.out.lt).trans Sw0.out)
  have Sxxv := Lib.hid (show Str w12 w7.heap.size 25 #[.slice axx xx0.length cxx, .int .i64 x1] from ((hb12).block _ Sxxv.out.lt).trans Sxxv.out)
  have Sg0 := Lib.hid (show Str w12 w10.heap.size 25 #[.slice ag0_0 L.length cg0_0, .int .i64 N] from ((hb12).block _ Sg0.out.lt).trans Sg0.out)
  have hz12 := (hb12).size
  clear qg0_0 qg0_1 qw0_0 qw0_1
  go_wp2_with fail
  refine (laws_eqBoolS ag1 aw1 cg1 cw1 Z w12 (by omega) Hg1.out.at Hw1.out.at).mono ?_
  rintro e w13 ⟨rfl, hb13⟩
  have Hb13 := Lib.hid (below_step Hb12.out Hb12.out.size (hb13.below w12.heap.size))
  have Hw0_0 := Lib.hid (Hw0_0.out.below (hb13.below w12.heap.size))
  have Hw1 := Lib.hid (Hw1.out.below (hb13.below w12.heap.size))
  have Hxx := Lib.hid (Hxx.out.below (hb13.below w12.heap.size))
  have Htx := Lib.hid (Htx.out.below (hb13.below w12.heap.size) (by omega))
  have Hg0_0 := Lib.hid (Hg0_0.out.below (hb13.below w12.heap.size))
  have Hg1 := Lib.hid (Hg1.out.below (hb13.below w12.heap.size))
  have Sxb := Lib.hid (show Str w13 w.heap.size 42 #[.slice ax0 xx0.length capx0, .int .i64 x1] from (((hb13.below w12.heap.size)).block _ Sxb.out.lt).trans Sxb.out)
  have Sw0 := Lib.hid (show Str w13 w5.heap.size 25 #[.slice aw0_0 L.length cw0_0, .int .i64 N] from (((hb13.below w12.heap.size)).block _ Sw0.out.lt).trans Sw0.out)
  have Sxxv := Lib.hid (show Str w13 w7.heap.size 25 #[.slice axx xx0.length cxx, .int .i64 x1] from (((hb13.below w12.heap.size)).block _ Sxxv.out.lt).trans Sxxv.out)
  have Sg0 := Lib.hid (show Str w13 w10.heap.size 25 #[.slice ag0_0 L.length cg0_0, .int .i64 N] from (((hb13.below w12.heap.size)).block _ Sg0.out.lt).trans Sg0.out)
  have hz13 := ((hb13.below w12.heap.size)).size
  have qxxv_0 := Sxxv.out.cell 0 (v := .slice axx xx0.length cxx) rfl
  have qxxv_1 := Sxxv.out.cell 1 (v := .int .i64 x1) rfl
  have qxb_0 := Sxb.out.cell 0 (v := .slice ax0 xx0.length capx0) rfl
  have qxb_1 := Sxb.out.cell 1 (v := .int .i64 x1) rfl
  go_wp2_with fail
  clear qxxv_0 qxxv_1 qxb_0 qxb_1
  have hdr : Below w13.heap.size w13 w13.drew := (Below.refl _ _).drew
  refine wp_region_held_drew (S := fun w' => w'.cell? ⟨w7.heap.size, 0, none⟩ = some (.slice axx xx0.length cxx) ∧ w'.cell? ⟨w7.heap.size, 1, none⟩ = some (.int .i64 x1) ∧ w'.cell? ⟨w.heap.size, 0, none⟩ = some (.slice ax0 xx0.length capx0) ∧ w'.cell? ⟨w.heap.size, 1, none⟩ = some (.int .i64 x1)) (by kernel_rfl) ⟨Sxxv.out.cell 0 (v := .slice axx xx0.length cxx) rfl, Sxxv.out.cell 1 (v := .int .i64 x1) rfl, Sxb.out.cell 0 (v := .slice ax0 xx0.length capx0) rfl, Sxb.out.cell 1 (v := .int .i64 x1) rfl⟩ (fun hH => ?_)
  generalize w13.drew = w14 at *
  have Hb14 := Lib.hid (below_step Hb13.out Hb13.out.size hdr)
  have Hw0_0 := Lib.hid (Hw0_0.out.below hdr)
  have Hw1 := Lib.hid (Hw1.out.below hdr)
  have Hxx := Lib.hid (Hxx.out.below hdr)
  have Htx := Lib.hid (Htx.out.below hdr (by omega))
  have Hg0_0 := Lib.hid (Hg0_0.out.below hdr)
  have Hg1 := Lib.hid (Hg1.out.below hdr)
  have Sxb := Lib.hid (show Str w14 w.heap.size 42 #[.slice ax0 xx0.length capx0, .int .i64 x1] from ((hdr).block _ Sxb.out.lt).trans Sxb.out)
  have Sw0 := Lib.hid (show Str w14 w5.heap.size 25 #[.slice aw0_0 L.length cw0_0, .int .i64 N] from ((hdr).block _ Sw0.out.lt).trans Sw0.out)
  have Sxxv := Lib.hid (show Str w14 w7.heap.size 25 #[.slice axx xx0.length cxx, .int .i64 x1] from ((hdr).block _ Sxxv.out.lt).trans Sxxv.out)
  have Sg0 := Lib.hid (show Str w14 w10.heap.size 25 #[.slice ag0_0 L.length cg0_0, .int .i64 N] from ((hdr).block _ Sg0.out.lt).trans Sg0.out)
  have hz14 := (hdr).size
  clear hdr
  refine takeH 0 (v := ?vqx0) rfl (by kernel_rfl) (by kernel_rfl) (by kernel_rfl) (fun _ _ _ h => h) hH rfl ?yqx0 ?rqx0
  case yqx0 => intro W hSw; go_simp; try with_reducible rfl
  try simp only [Act.put, List.setIfInBounds_toArray, List.set_cons_zero, List.set_cons_succ]
  refine takeH 1 (v := ?vqx1) rfl (by kernel_rfl) (by kernel_rfl) (by kernel_rfl) (fun _ _ _ h => h) hH rfl ?yqx1 ?rqx1
  case yqx1 => intro W hSw; go_simp; try with_reducible rfl
  try simp only [Act.put, List.setIfInBounds_toArray, List.set_cons_zero, List.set_cons_succ]
  refine callH 2 rfl (by kernel_rfl) rfl (fun K hK => ?_)
  go_simp
  refine (laws_toLedgerR ax0 capx0 xx0 x1 _ (by omega) (Hixx0.out.below Hb14.out)).mono ?_
  rintro e w15 ⟨vxy, rfl, hoxy, hb15⟩
  have Hb15 := Lib.hid (below_step Hb14.out Hb14.out.size hb15)
  have Hw0_0 := Lib.hid (Hw0_0.out.below hb15)
  have Hw1 := Lib.hid (Hw1.out.below hb15)
  have Hxx := Lib.hid (Hxx.out.below hb15)
  have Htx := Lib.hid (Htx.out.below hb15 (by omega))
  have Hg0_0 := Lib.hid (Hg0_0.out.below hb15)
  have Hg1 := Lib.hid (Hg1.out.below hb15)
  have Sxb := Lib.hid (show Str w15 w.heap.size 42 #[.slice ax0 xx0.length capx0, .int .i64 x1] from ((hb15).block _ Sxb.out.lt).trans Sxb.out)
  have Sw0 := Lib.hid (show Str w15 w5.heap.size 25 #[.slice aw0_0 L.length cw0_0, .int .i64 N] from ((hb15).block _ Sw0.out.lt).trans Sw0.out)
  have Sxxv := Lib.hid (show Str w15 w7.heap.size 25 #[.slice axx xx0.length cxx, .int .i64 x1] from ((hb15).block _ Sxxv.out.lt).trans Sxxv.out)
  have Sg0 := Lib.hid (show Str w15 w10.heap.size 25 #[.slice ag0_0 L.length cg0_0, .int .i64 N] from ((hb15).block _ Sg0.out.lt).trans Sg0.out)
  have hz15 := (hb15).size
  have Hxy := Lib.hid (OwnI.of hoxy); clear hoxy
  obtain ⟨axy, cxy, rfl, _, _⟩ := Hxy.out.ints
  have hcxy := Hxy.out.cap
  have hhxy : w14.heap.size ≤ w14.heap.size := Nat.le_refl _
  have hjxy : w15.heap.size ≤ w15.heap.size := Nat.le_refl _
  dsimp only
  refine hK.out _ _ ⟨Sxxv.out.cell 0 (v := .slice axx xx0.length cxx) rfl, Sxxv.out.cell 1 (v := .int .i64 x1) rfl, Sxb.out.cell 0 (v := .slice ax0 xx0.length capx0) rfl, Sxb.out.cell 1 (v := .int .i64 x1) rfl⟩ (fun hH => ?_)
  clear hK K
  try simp only [Act.put, List.setIfInBounds_toArray, List.set_cons_zero, List.set_cons_succ]
  refine callH 3 rfl (by kernel_rfl) rfl (fun K hK => ?_)
  go_simp
  refine (laws_eqLedgerR axx axy cxx cxy xx0 x1 w15 (by omega) Hxx.out.at Hxy.out.at).mono ?_
  rintro e w16 ⟨rfl, hb16⟩
  have Hb16 := Lib.hid (below_step Hb15.out Hb15.out.size hb16)
  have Hw0_0 := Lib.hid (Hw0_0.out.below hb16)
  have Hw1 := Lib.hid (Hw1.out.below hb16)
  have Hxx := Lib.hid (Hxx.out.below hb16)
  have Htx := Lib.hid (Htx.out.below hb16 (by omega))
  have Hg0_0 := Lib.hid (Hg0_0.out.below hb16)
  have Hg1 := Lib.hid (Hg1.out.below hb16)
  have Hxy := Lib.hid (Hxy.out.below hb16)
  have Sxb := Lib.hid (show Str w16 w.heap.size 42 #[.slice ax0 xx0.length capx0, .int .i64 x1] from ((hb16).block _ Sxb.out.lt).trans Sxb.out)
  have Sw0 := Lib.hid (show Str w16 w5.heap.size 25 #[.slice aw0_0 L.length cw0_0, .int .i64 N] from ((hb16).block _ Sw0.out.lt).trans Sw0.out)
  have Sxxv := Lib.hid (show Str w16 w7.heap.size 25 #[.slice axx xx0.length cxx, .int .i64 x1] from ((hb16).block _ Sxxv.out.lt).trans Sxxv.out)
  have Sg0 := Lib.hid (show Str w16 w10.heap.size 25 #[.slice ag0_0 L.length cg0_0, .int .i64 N] from ((hb16).block _ Sg0.out.lt).trans Sg0.out)
  have hz16 := (hb16).size
  dsimp only
  refine hK.out _ _ ⟨Sxxv.out.cell 0 (v := .slice axx xx0.length cxx) rfl, Sxxv.out.cell 1 (v := .int .i64 x1) rfl, Sxb.out.cell 0 (v := .slice ax0 xx0.length capx0) rfl, Sxb.out.cell 1 (v := .int .i64 x1) rfl⟩ (fun hH => ?_)
  clear hK K
  try simp only [Act.put, List.setIfInBounds_toArray, List.set_cons_zero, List.set_cons_succ]
  refine takeH 4 (v := ?vqx4) rfl (by kernel_rfl) (by kernel_rfl) (by kernel_rfl) (fun _ _ _ h => h) hH rfl ?yqx4 ?rqx4
  case yqx4 => intro W hSw; go_simp; try with_reducible rfl
  try simp only [Act.put, List.setIfInBounds_toArray, List.set_cons_zero, List.set_cons_succ]
  refine wpAnyH_done (by kernel_rfl) ?_ _
  try simp only [Act.put]
  clear hH
  clear Hxy
  go_wp2_with fail
  refine (laws_toTxnSR est vt fpt _ (by omega) Hpt.out Hint.out (Hrt.out.under Hb16.out)).mono ?_
  rintro e w17 ⟨vty, rfl, hoty, hb17⟩
  have Hb17 := Lib.hid (below_step Hb16.out Hb16.out.size hb17)
  have Hw0_0 := Lib.hid (Hw0_0.out.below hb17)
  have Hw1 := Lib.hid (Hw1.out.below hb17)
  have Hxx := Lib.hid (Hxx.out.below hb17)
  have Htx := Lib.hid (Htx.out.below hb17 (by omega))
  have Hg0_0 := Lib.hid (Hg0_0.out.below hb17)
  have Hg1 := Lib.hid (Hg1.out.below hb17)
  have Sxb := Lib.hid (show Str w17 w.heap.size 42 #[.slice ax0 xx0.length capx0, .int .i64 x1] from ((hb17).block _ Sxb.out.lt).trans Sxb.out)
  have Sw0 := Lib.hid (show Str w17 w5.heap.size 25 #[.slice aw0_0 L.length cw0_0, .int .i64 N] from ((hb17).block _ Sw0.out.lt).trans Sw0.out)
  have Sxxv := Lib.hid (show Str w17 w7.heap.size 25 #[.slice axx xx0.length cxx, .int .i64 x1] from ((hb17).block _ Sxxv.out.lt).trans Sxxv.out)
  have Sg0 := Lib.hid (show Str w17 w10.heap.size 25 #[.slice ag0_0 L.length cg0_0, .int .i64 N] from ((hb17).block _ Sg0.out.lt).trans Sg0.out)
  have hz17 := (hb17).size
  have Hty := Lib.hid hoty; clear hoty
  have hhty : w16.heap.size ≤ w16.heap.size := Nat.le_refl _
  have hjty : w17.heap.size ≤ w17.heap.size := Nat.le_refl _
  obtain ⟨ftx, hrtx⟩ := Htx.out.reads
  obtain ⟨fty, hrty⟩ := Hty.out.reads
  go_wp2_with fail
  refine (laws_eqTxnSR est _ _ ftx fty w17 (by omega) Hpt.out Hlnt.out hrtx hrty).mono ?_
  rintro e w18 ⟨rfl, hb18⟩
  have Hb18 := Lib.hid (below_step Hb17.out Hb17.out.size hb18)
  have Hw0_0 := Lib.hid (Hw0_0.out.below hb18)
  have Hw1 := Lib.hid (Hw1.out.below hb18)
  have Hxx := Lib.hid (Hxx.out.below hb18)
  have Htx := Lib.hid (Htx.out.below hb18 (by omega))
  have Hg0_0 := Lib.hid (Hg0_0.out.below hb18)
  have Hg1 := Lib.hid (Hg1.out.below hb18)
  have Hty := Lib.hid (Hty.out.below hb18 (by omega))
  have Sxb := Lib.hid (show Str w18 w.heap.size 42 #[.slice ax0 xx0.length capx0, .int .i64 x1] from ((hb18).block _ Sxb.out.lt).trans Sxb.out)
  have Sw0 := Lib.hid (show Str w18 w5.heap.size 25 #[.slice aw0_0 L.length cw0_0, .int .i64 N] from ((hb18).block _ Sw0.out.lt).trans Sw0.out)
  have Sxxv := Lib.hid (show Str w18 w7.heap.size 25 #[.slice axx xx0.length cxx, .int .i64 x1] from ((hb18).block _ Sxxv.out.lt).trans Sxxv.out)
  have Sg0 := Lib.hid (show Str w18 w10.heap.size 25 #[.slice ag0_0 L.length cg0_0, .int .i64 N] from ((hb18).block _ Sg0.out.lt).trans Sg0.out)
  have hz18 := (hb18).size
  clear hrtx hrty
  clear Hty
  have qxxv_0 := Sxxv.out.cell 0 (v := .slice axx xx0.length cxx) rfl
  have qxxv_1 := Sxxv.out.cell 1 (v := .int .i64 x1) rfl
  go_wp2_with fail
  refine (laws_markLedgerR x1 _ xx0 (1) w6.heap.size w18 (by omega) (by omega) Hxx.out.own).mono ?_
  rintro e w19 ⟨rfl, ho, hg⟩
  have hbt := Hxx.out.marks (grownBy_trans (World.grownBy_alloc w18 (.cells #[.slice axx xx0.length cxx, .int .i64 x1] 25) _) hg)
  clear qxxv_0 qxxv_1
  have Hb19 := Lib.hid ((hbt).below Hb18.out Hb18.out.size (by omega))
  have hz19 := (hbt).size
  have Hw0_0 := Lib.hid (Hw0_0.out.btw (hbt) (by first | exact .inl (by omega) | exact .inr (by omega) | omega))
  have Hw1 := Lib.hid (Hw1.out.btw (hbt) (by first | exact .inl (by omega) | exact .inr (by omega) | omega))
  have Htx := Lib.hid ((hbt).ownR Htx.out (by omega) (by first | exact .inl (by omega) | exact .inr (by omega) | omega))
  have Hg0_0 := Lib.hid (Hg0_0.out.btw (hbt) (by first | exact .inl (by omega) | exact .inr (by omega) | omega))
  have Hg1 := Lib.hid (Hg1.out.btw (hbt) (by first | exact .inl (by omega) | exact .inr (by omega) | omega))
  have Sxb := Lib.hid (Sxb.out.btw (hbt) (by first | exact .inl (by omega) | exact .inr (by omega) | omega))
  have Sw0 := Lib.hid (Sw0.out.btw (hbt) (by first | exact .inl (by omega) | exact .inr (by omega) | omega))
  have Sxxv := Lib.hid (Sxxv.out.btw (hbt) (by first | exact .inl (by omega) | exact .inr (by omega) | omega))
  have Sg0 := Lib.hid (Sg0.out.btw (hbt) (by first | exact .inl (by omega) | exact .inr (by omega) | omega))
  have Hxx := Lib.hid (Hxx.out.mark ho)
  clear ho hg hbt
  go_wp2_with fail
  have hkk := Hkbt.out (1 + xx0.length)
  refine (laws_markTxnSR est _ (1 + xx0.length) w8.heap.size w9.heap.size w19 (by omega) Hpt.out Htx.out).mono ?_
  rintro e w20 ⟨rfl, ho, hbt⟩
  have Hb20 := Lib.hid ((hbt).below Hb19.out Hb19.out.size (by omega))
  have hz20 := (hbt).size
  have Hw0_0 := Lib.hid (Hw0_0.out.btw (hbt) (by first | exact .inl (by omega) | exact .inr (by omega) | omega))
  have Hw1 := Lib.hid (Hw1.out.btw (hbt) (by first | exact .inl (by omega) | exact .inr (by omega) | omega))
  have Hxx := Lib.hid (Hxx.out.btw (hbt) (by first | exact .inl (by omega) | exact .inr (by omega) | omega))
  have Hg0_0 := Lib.hid (Hg0_0.out.btw (hbt) (by first | exact .inl (by omega) | exact .inr (by omega) | omega))
  have Hg1 := Lib.hid (Hg1.out.btw (hbt) (by first | exact .inl (by omega) | exact .inr (by omega) | omega))
  have Sxb := Lib.hid (Sxb.out.btw (hbt) (by first | exact .inl (by omega) | exact .inr (by omega) | omega))
  have Sw0 := Lib.hid (Sw0.out.btw (hbt) (by first | exact .inl (by omega) | exact .inr (by omega) | omega))
  have Sxxv := Lib.hid (Sxxv.out.btw (hbt) (by first | exact .inl (by omega) | exact .inr (by omega) | omega))
  have Sg0 := Lib.hid (Sg0.out.btw (hbt) (by first | exact .inl (by omega) | exact .inr (by omega) | omega))
  have Htx := Lib.hid (ho)
  clear ho hbt
  generalize kTo est (1 + xx0.length) est.length = k1 at *
  have hkn : decide (((k1 : Nat) : Int) < 0) = false := decide_eq_false (by omega)
  have hkn' : ¬ ((k1 : Nat) : Int) < 0 := by omega
  have qg0_0 := Sg0.out.cell 0 (v := .slice ag0_0 L.length cg0_0) rfl
  have qg0_1 := Sg0.out.cell 1 (v := .int .i64 N) rfl
  have qw0_0 := Sw0.out.cell 0 (v := .slice aw0_0 L.length cw0_0) rfl
  have qw0_1 := Sw0.out.cell 1 (v := .int .i64 N) rfl
  go_wp2_with fail
  refine (laws_eqLedgerR ag0_0 aw0_0 cg0_0 cw0_0 L ( N) w20 (by omega) Hg0_0.out.at Hw0_0.out.at).mono ?_
  rintro e w21 ⟨rfl, hb21⟩
  have Hb21 := Lib.hid (below_step Hb20.out Hb20.out.size hb21)
  have Hw0_0 := Lib.hid (Hw0_0.out.below hb21)
  have Hw1 := Lib.hid (Hw1.out.below hb21)
  have Hxx := Lib.hid (Hxx.out.below hb21)
  have Htx := Lib.hid (Htx.out.below hb21 (by omega))
  have Hg0_0 := Lib.hid (Hg0_0.out.below hb21)
  have Hg1 := Lib.hid (Hg1.out.below hb21)
  have Sxb := Lib.hid (show Str w21 w.heap.size 42 #[.slice ax0 xx0.length capx0, .int .i64 x1] from ((hb21).block _ Sxb.out.lt).trans Sxb.out)
  have Sw0 := Lib.hid (show Str w21 w5.heap.size 25 #[.slice aw0_0 L.length cw0_0, .int .i64 N] from ((hb21).block _ Sw0.out.lt).trans Sw0.out)
  have Sxxv := Lib.hid (show Str w21 w7.heap.size 25 #[.slice axx xx0.length cxx, .int .i64 x1] from ((hb21).block _ Sxxv.out.lt).trans Sxxv.out)
  have Sg0 := Lib.hid (show Str w21 w10.heap.size 25 #[.slice ag0_0 L.length cg0_0, .int .i64 N] from ((hb21).block _ Sg0.out.lt).trans Sg0.out)
  have hz21 := (hb21).size
  clear qg0_0 qg0_1 qw0_0 qw0_1
  go_wp2_with fail
  refine (laws_eqBoolS ag1 aw1 cg1 cw1 Z w21 (by omega) Hg1.out.at Hw1.out.at).mono ?_
  rintro e w22 ⟨rfl, hb22⟩
  have Hb22 := Lib.hid (below_step Hb21.out Hb21.out.size (hb22.below w21.heap.size))
  have Hw0_0 := Lib.hid (Hw0_0.out.below (hb22.below w21.heap.size))
  have Hw1 := Lib.hid (Hw1.out.below (hb22.below w21.heap.size))
  have Hxx := Lib.hid (Hxx.out.below (hb22.below w21.heap.size))
  have Htx := Lib.hid (Htx.out.below (hb22.below w21.heap.size) (by omega))
  have Hg0_0 := Lib.hid (Hg0_0.out.below (hb22.below w21.heap.size))
  have Hg1 := Lib.hid (Hg1.out.below (hb22.below w21.heap.size))
  have Sxb := Lib.hid (show Str w22 w.heap.size 42 #[.slice ax0 xx0.length capx0, .int .i64 x1] from (((hb22.below w21.heap.size)).block _ Sxb.out.lt).trans Sxb.out)
  have Sw0 := Lib.hid (show Str w22 w5.heap.size 25 #[.slice aw0_0 L.length cw0_0, .int .i64 N] from (((hb22.below w21.heap.size)).block _ Sw0.out.lt).trans Sw0.out)
  have Sxxv := Lib.hid (show Str w22 w7.heap.size 25 #[.slice axx xx0.length cxx, .int .i64 x1] from (((hb22.below w21.heap.size)).block _ Sxxv.out.lt).trans Sxxv.out)
  have Sg0 := Lib.hid (show Str w22 w10.heap.size 25 #[.slice ag0_0 L.length cg0_0, .int .i64 N] from (((hb22.below w21.heap.size)).block _ Sg0.out.lt).trans Sg0.out)
  have hz22 := ((hb22.below w21.heap.size)).size
  have qg0_0 := Sg0.out.cell 0 (v := .slice ag0_0 L.length cg0_0) rfl
  have qg0_1 := Sg0.out.cell 1 (v := .int .i64 N) rfl
  go_wp2_with fail
  refine (laws_markLedgerR ( N) _ L (1) w9.heap.size w22 (by omega) (by omega) Hg0_0.out.own).mono ?_
  rintro e w23 ⟨rfl, ho, hg⟩
  have hbt := Hg0_0.out.marks (grownBy_trans (World.grownBy_alloc w22 (.cells #[.slice ag0_0 L.length cg0_0, .int .i64 N] 25) _) hg)
  clear qg0_0 qg0_1
  have Hb23 := Lib.hid ((hbt).below Hb22.out Hb22.out.size (by omega))
  have hz23 := (hbt).size
  have Hw0_0 := Lib.hid (Hw0_0.out.btw (hbt) (by first | exact .inl (by omega) | exact .inr (by omega) | omega))
  have Hw1 := Lib.hid (Hw1.out.btw (hbt) (by first | exact .inl (by omega) | exact .inr (by omega) | omega))
  have Hxx := Lib.hid (Hxx.out.btw (hbt) (by first | exact .inl (by omega) | exact .inr (by omega) | omega))
  have Htx := Lib.hid ((hbt).ownR Htx.out (by omega) (by first | exact .inl (by omega) | exact .inr (by omega) | omega))
  have Hg1 := Lib.hid (Hg1.out.beside Hg0_0.out (by decide) (grownBy_trans (World.grownBy_alloc w22 (.cells #[.slice ag0_0 L.length cg0_0, .int .i64 N] 25) _) hg))
  have Sxb := Lib.hid (Sxb.out.btw (hbt) (by first | exact .inl (by omega) | exact .inr (by omega) | omega))
  have Sw0 := Lib.hid (Sw0.out.btw (hbt) (by first | exact .inl (by omega) | exact .inr (by omega) | omega))
  have Sxxv := Lib.hid (Sxxv.out.btw (hbt) (by first | exact .inl (by omega) | exact .inr (by omega) | omega))
  have Sg0 := Lib.hid (Sg0.out.btw (hbt) (by first | exact .inl (by omega) | exact .inr (by omega) | omega))
  have Hg0_0 := Lib.hid (Hg0_0.out.mark ho)
  clear ho hg hbt
  go_wp2_with fail
  refine (laws_markBoolS _ Z (1 + L.length) w9.heap.size w23 (by omega) (by omega) Hg1.out.own).mono ?_
  rintro e w24 ⟨rfl, ho, hg⟩
  have hbt := Hg1.out.marks hg
  have Hb24 := Lib.hid ((hbt).below Hb23.out Hb23.out.size (by omega))
  have hz24 := (hbt).size
  have Hw0_0 := Lib.hid (Hw0_0.out.btw (hbt) (by first | exact .inl (by omega) | exact .inr (by omega) | omega))
  have Hw1 := Lib.hid (Hw1.out.btw (hbt) (by first | exact .inl (by omega) | exact .inr (by omega) | omega))
  have Hxx := Lib.hid (Hxx.out.btw (hbt) (by first | exact .inl (by omega) | exact .inr (by omega) | omega))
  have Htx := Lib.hid ((hbt).ownR Htx.out (by omega) (by first | exact .inl (by omega) | exact .inr (by omega) | omega))
  have Hg0_0 := Lib.hid (Hg0_0.out.besideZ Hg1.out (by decide) hg)
  have Sxb := Lib.hid (Sxb.out.btw (hbt) (by first | exact .inl (by omega) | exact .inr (by omega) | omega))
  have Sw0 := Lib.hid (Sw0.out.btw (hbt) (by first | exact .inl (by omega) | exact .inr (by omega) | omega))
  have Sxxv := Lib.hid (Sxxv.out.btw (hbt) (by first | exact .inl (by omega) | exact .inr (by omega) | omega))
  have Sg0 := Lib.hid (Sg0.out.btw (hbt) (by first | exact .inl (by omega) | exact .inr (by omega) | omega))
  have Hg1 := Lib.hid (Hg1.out.mark ho)
  clear ho hg hbt
  have hmn : decide (((1 + L.length + Z.length : Nat) : Int) < 0) = false := decide_eq_false (by omega)
  have hmn' : ¬ ((1 + L.length + Z.length : Nat) : Int) < 0 := by omega
  have qg0_0 := Sg0.out.cell 0 (v := .slice ag0_0 L.length cg0_0) rfl
  have qg0_1 := Sg0.out.cell 1 (v := .int .i64 N) rfl
  go_wp2_with fail
  refine (laws_heldLedgerR ( N) ag0_0 cg0_0 (1) L.length w24 (by omega) (by omega) Hg0_0.out.at).mono ?_
  rintro e w25 ⟨rfl, hb25⟩
  have Hb25 := Lib.hid (below_step Hb24.out Hb24.out.size hb25)
  have Hw0_0 := Lib.hid (Hw0_0.out.below hb25)
  have Hw1 := Lib.hid (Hw1.out.below hb25)
  have Hxx := Lib.hid (Hxx.out.below hb25)
  have Htx := Lib.hid (Htx.out.below hb25 (by omega))
  have Hg0_0 := Lib.hid (Hg0_0.out.below hb25)
  have Hg1 := Lib.hid (Hg1.out.below hb25)
  have Sxb := Lib.hid (show Str w25 w.heap.size 42 #[.slice ax0 xx0.length capx0, .int .i64 x1] from ((hb25).block _ Sxb.out.lt).trans Sxb.out)
  have Sw0 := Lib.hid (show Str w25 w5.heap.size 25 #[.slice aw0_0 L.length cw0_0, .int .i64 N] from ((hb25).block _ Sw0.out.lt).trans Sw0.out)
  have Sxxv := Lib.hid (show Str w25 w7.heap.size 25 #[.slice axx xx0.length cxx, .int .i64 x1] from ((hb25).block _ Sxxv.out.lt).trans Sxxv.out)
  have Sg0 := Lib.hid (show Str w25 w10.heap.size 25 #[.slice ag0_0 L.length cg0_0, .int .i64 N] from ((hb25).block _ Sg0.out.lt).trans Sg0.out)
  have hz25 := (hb25).size
  clear qg0_0 qg0_1
  have hqn0 : decide (((1 + L.length : Nat) : Int) < 0) = false := decide_eq_false (by omega)
  go_wp2_with fail
  refine (laws_heldBoolS ag1 cg1 (1 + L.length) Z.length w25 (by omega) (by omega) Hg1.out.at).mono ?_
  rintro e w26 ⟨rfl, hb26⟩
  have Hb26 := Lib.hid (below_step Hb25.out Hb25.out.size (hb26.below w25.heap.size))
  have Hw0_0 := Lib.hid (Hw0_0.out.below (hb26.below w25.heap.size))
  have Hw1 := Lib.hid (Hw1.out.below (hb26.below w25.heap.size))
  have Hxx := Lib.hid (Hxx.out.below (hb26.below w25.heap.size))
  have Htx := Lib.hid (Htx.out.below (hb26.below w25.heap.size) (by omega))
  have Hg0_0 := Lib.hid (Hg0_0.out.below (hb26.below w25.heap.size))
  have Hg1 := Lib.hid (Hg1.out.below (hb26.below w25.heap.size))
  have Sxb := Lib.hid (show Str w26 w.heap.size 42 #[.slice ax0 xx0.length capx0, .int .i64 x1] from (((hb26.below w25.heap.size)).block _ Sxb.out.lt).trans Sxb.out)
  have Sw0 := Lib.hid (show Str w26 w5.heap.size 25 #[.slice aw0_0 L.length cw0_0, .int .i64 N] from (((hb26.below w25.heap.size)).block _ Sw0.out.lt).trans Sw0.out)
  have Sxxv := Lib.hid (show Str w26 w7.heap.size 25 #[.slice axx xx0.length cxx, .int .i64 x1] from (((hb26.below w25.heap.size)).block _ Sxxv.out.lt).trans Sxxv.out)
  have Sg0 := Lib.hid (show Str w26 w10.heap.size 25 #[.slice ag0_0 L.length cg0_0, .int .i64 N] from (((hb26.below w25.heap.size)).block _ Sg0.out.lt).trans Sg0.out)
  have hz26 := ((hb26.below w25.heap.size)).size
  clear Hxx
  clear Htx
  have qxb_0 := Sxb.out.cell 0 (v := .slice ax0 xx0.length capx0) rfl
  have qxb_1 := Sxb.out.cell 1 (v := .int .i64 x1) rfl
  go_wp2_with fail
  refine (laws_toLedgerR ax0 capx0 xx0 x1 _ (by omega) (Hixx0.out.below Hb26.out)).mono ?_
  rintro e w27 ⟨vxz, rfl, hoxz, hb27⟩
  have Hb27 := Lib.hid (below_step Hb26.out Hb26.out.size hb27)
  have Hw0_0 := Lib.hid (Hw0_0.out.below hb27)
  have Hw1 := Lib.hid (Hw1.out.below hb27)
  have Hg0_0 := Lib.hid (Hg0_0.out.below hb27)
  have Hg1 := Lib.hid (Hg1.out.below hb27)
  have Sxb := Lib.hid (show Str w27 w.heap.size 42 #[.slice ax0 xx0.length capx0, .int .i64 x1] from ((hb27).block _ Sxb.out.lt).trans Sxb.out)
  have Sw0 := Lib.hid (show Str w27 w5.heap.size 25 #[.slice aw0_0 L.length cw0_0, .int .i64 N] from ((hb27).block _ Sw0.out.lt).trans Sw0.out)
  have Sxxv := Lib.hid (show Str w27 w7.heap.size 25 #[.slice axx xx0.length cxx, .int .i64 x1] from ((hb27).block _ Sxxv.out.lt).trans Sxxv.out)
  have Sg0 := Lib.hid (show Str w27 w10.heap.size 25 #[.slice ag0_0 L.length cg0_0, .int .i64 N] from ((hb27).block _ Sg0.out.lt).trans Sg0.out)
  have hz27 := (hb27).size
  have Hxz := Lib.hid (OwnI.of hoxz); clear hoxz
  obtain ⟨axz, cxz, rfl, _, _⟩ := Hxz.out.ints
  have hcxz := Hxz.out.cap
  have hhxz : w26.heap.size ≤ w26.heap.size := Nat.le_refl _
  have hjxz : w27.heap.size ≤ w27.heap.size := Nat.le_refl _
  clear qxb_0 qxb_1
  go_wp2_with fail
  refine (laws_toTxnSR est vt fpt _ (by omega) Hpt.out Hint.out (Hrt.out.under Hb27.out)).mono ?_
  rintro e w28 ⟨vtz, rfl, hotz, hb28⟩
  have Hb28 := Lib.hid (below_step Hb27.out Hb27.out.size hb28)
  have Hw0_0 := Lib.hid (Hw0_0.out.below hb28)
  have Hw1 := Lib.hid (Hw1.out.below hb28)
  have Hg0_0 := Lib.hid (Hg0_0.out.below hb28)
  have Hg1 := Lib.hid (Hg1.out.below hb28)
  have Hxz := Lib.hid (Hxz.out.below hb28)
  have Sxb := Lib.hid (show Str w28 w.heap.size 42 #[.slice ax0 xx0.length capx0, .int .i64 x1] from ((hb28).block _ Sxb.out.lt).trans Sxb.out)
  have Sw0 := Lib.hid (show Str w28 w5.heap.size 25 #[.slice aw0_0 L.length cw0_0, .int .i64 N] from ((hb28).block _ Sw0.out.lt).trans Sw0.out)
  have Sxxv := Lib.hid (show Str w28 w7.heap.size 25 #[.slice axx xx0.length cxx, .int .i64 x1] from ((hb28).block _ Sxxv.out.lt).trans Sxxv.out)
  have Sg0 := Lib.hid (show Str w28 w10.heap.size 25 #[.slice ag0_0 L.length cg0_0, .int .i64 N] from ((hb28).block _ Sg0.out.lt).trans Sg0.out)
  have hz28 := (hb28).size
  have Htz := Lib.hid hotz; clear hotz
  have hhtz : w27.heap.size ≤ w27.heap.size := Nat.le_refl _
  have hjtz : w28.heap.size ≤ w28.heap.size := Nat.le_refl _
  obtain ⟨ftz, hrtz⟩ := Htz.out.reads
  go_wp2_with fail
  refine (Himpl.out axz cxz vtz ftz _ hcxz Hxz.out.at (own_src Hxz.out.own) hrtz).mono ?_
  rintro e w29 ⟨vh0_0, vh1, rfl, hoh0_0, hoh1, hb29⟩
  have Hb29 := Lib.hid (below_step Hb28.out Hb28.out.size hb29)
  have Hw0_0 := Lib.hid (Hw0_0.out.below hb29)
  have Hw1 := Lib.hid (Hw1.out.below hb29)
  have Hg0_0 := Lib.hid (Hg0_0.out.below hb29)
  have Hg1 := Lib.hid (Hg1.out.below hb29)
  have Hxz := Lib.hid (Hxz.out.below hb29)
  have Htz := Lib.hid (Htz.out.below hb29 (by omega))
  have Sxb := Lib.hid (show Str w29 w.heap.size 42 #[.slice ax0 xx0.length capx0, .int .i64 x1] from ((hb29).block _ Sxb.out.lt).trans Sxb.out)
  have Sw0 := Lib.hid (show Str w29 w5.heap.size 25 #[.slice aw0_0 L.length cw0_0, .int .i64 N] from ((hb29).block _ Sw0.out.lt).trans Sw0.out)
  have Sxxv := Lib.hid (show Str w29 w7.heap.size 25 #[.slice axx xx0.length cxx, .int .i64 x1] from ((hb29).block _ Sxxv.out.lt).trans Sxxv.out)
  have Sg0 := Lib.hid (show Str w29 w10.heap.size 25 #[.slice ag0_0 L.length cg0_0, .int .i64 N] from ((hb29).block _ Sg0.out.lt).trans Sg0.out)
  have hz29 := (hb29).size
  have Hh0_0 := Lib.hid (OwnI.of hoh0_0); clear hoh0_0
  obtain ⟨ah0_0, ch0_0, rfl, _, _⟩ := Hh0_0.out.ints
  have hch0_0 := Hh0_0.out.cap
  have hhh0_0 : w28.heap.size ≤ w28.heap.size := Nat.le_refl _
  have hjh0_0 : w29.heap.size ≤ w29.heap.size := Nat.le_refl _
  have Hh1 := Lib.hid (OwnZ.of hoh1); clear hoh1
  obtain ⟨ah1, ch1, rfl, _⟩ := Hh1.out.bls
  have hhh1 : w28.heap.size ≤ w28.heap.size := Nat.le_refl _
  have hjh1 : w29.heap.size ≤ w29.heap.size := Nat.le_refl _
  clear hrtz
  have hAh0 : Below w29.heap.size w29 (w29.alloc (.cells #[.slice ah0_0 L.length ch0_0, .int .i64 N] 25)) := (Below.refl _ _).alloc (Nat.le_refl _) _
  have sNh0 := Str.new w29 25 #[.slice ah0_0 L.length ch0_0, .int .i64 N]
  have hzAh0 : (w29.alloc (.cells #[.slice ah0_0 L.length ch0_0, .int .i64 N] 25)).heap.size = w29.heap.size + 1 := by simp
  have hbsh0 : w29.heap.size ≤ w29.heap.size := Nat.le_refl _
  have Hb30 := Lib.hid (below_step Hb29.out Hb29.out.size hAh0)
  have Hw0_0 := Lib.hid (Hw0_0.out.below hAh0)
  have Hw1 := Lib.hid (Hw1.out.below hAh0)
  have Hg0_0 := Lib.hid (Hg0_0.out.below hAh0)
  have Hg1 := Lib.hid (Hg1.out.below hAh0)
  have Hxz := Lib.hid (Hxz.out.below hAh0)
  have Htz := Lib.hid (Htz.out.below hAh0 (by omega))
  have Hh0_0 := Lib.hid (Hh0_0.out.below hAh0)
  have Hh1 := Lib.hid (Hh1.out.below hAh0)
  have Sxb := Lib.hid (show Str (w29.alloc (.cells #[.slice ah0_0 L.length ch0_0, .int .i64 N] 25)) w.heap.size 42 #[.slice ax0 xx0.length capx0, .int .i64 x1] from (hAh0.block _ Sxb.out.lt).trans Sxb.out)
  have Sw0 := Lib.hid (show Str (w29.alloc (.cells #[.slice ah0_0 L.length ch0_0, .int .i64 N] 25)) w5.heap.size 25 #[.slice aw0_0 L.length cw0_0, .int .i64 N] from (hAh0.block _ Sw0.out.lt).trans Sw0.out)
  have Sxxv := Lib.hid (show Str (w29.alloc (.cells #[.slice ah0_0 L.length ch0_0, .int .i64 N] 25)) w7.heap.size 25 #[.slice axx xx0.length cxx, .int .i64 x1] from (hAh0.block _ Sxxv.out.lt).trans Sxxv.out)
  have Sg0 := Lib.hid (show Str (w29.alloc (.cells #[.slice ah0_0 L.length ch0_0, .int .i64 N] 25)) w10.heap.size 25 #[.slice ag0_0 L.length cg0_0, .int .i64 N] from (hAh0.block _ Sg0.out.lt).trans Sg0.out)
  have Sh0 := Lib.hid sNh0; clear sNh0
  clear hAh0
  have qh0_0 := Sh0.out.cell 0 (v := .slice ah0_0 L.length ch0_0) rfl
  have qh0_1 := Sh0.out.cell 1 (v := .int .i64 N) rfl
  have qw0_0 := Sw0.out.cell 0 (v := .slice aw0_0 L.length cw0_0) rfl
  have qw0_1 := Sw0.out.cell 1 (v := .int .i64 N) rfl
  go_wp2_with fail
  generalize w29.alloc (.cells #[.slice ah0_0 L.length ch0_0, .int .i64 N] 25) = w30 at *
  refine (laws_eqLedgerR ah0_0 aw0_0 ch0_0 cw0_0 L ( N) w30 (by omega) Hh0_0.out.at Hw0_0.out.at).mono ?_
  rintro e w31 ⟨rfl, hb31⟩
  have Hb31 := Lib.hid (below_step Hb30.out Hb30.out.size hb31)
  have Hw0_0 := Lib.hid (Hw0_0.out.below hb31)
  have Hw1 := Lib.hid (Hw1.out.below hb31)
  have Hg0_0 := Lib.hid (Hg0_0.out.below hb31)
  have Hg1 := Lib.hid (Hg1.out.below hb31)
  have Hxz := Lib.hid (Hxz.out.below hb31)
  have Htz := Lib.hid (Htz.out.below hb31 (by omega))
  have Hh0_0 := Lib.hid (Hh0_0.out.below hb31)
  have Hh1 := Lib.hid (Hh1.out.below hb31)
  have Sxb := Lib.hid (show Str w31 w.heap.size 42 #[.slice ax0 xx0.length capx0, .int .i64 x1] from ((hb31).block _ Sxb.out.lt).trans Sxb.out)
  have Sw0 := Lib.hid (show Str w31 w5.heap.size 25 #[.slice aw0_0 L.length cw0_0, .int .i64 N] from ((hb31).block _ Sw0.out.lt).trans Sw0.out)
  have Sxxv := Lib.hid (show Str w31 w7.heap.size 25 #[.slice axx xx0.length cxx, .int .i64 x1] from ((hb31).block _ Sxxv.out.lt).trans Sxxv.out)
  have Sg0 := Lib.hid (show Str w31 w10.heap.size 25 #[.slice ag0_0 L.length cg0_0, .int .i64 N] from ((hb31).block _ Sg0.out.lt).trans Sg0.out)
  have Sh0 := Lib.hid (show Str w31 w29.heap.size 25 #[.slice ah0_0 L.length ch0_0, .int .i64 N] from ((hb31).block _ Sh0.out.lt).trans Sh0.out)
  have hz31 := (hb31).size
  clear qh0_0 qh0_1 qw0_0 qw0_1
  go_wp2_with fail
  refine (laws_eqBoolS ah1 aw1 ch1 cw1 Z w31 (by omega) Hh1.out.at Hw1.out.at).mono ?_
  rintro e w32 ⟨rfl, hb32⟩
  have Hb32 := Lib.hid (below_step Hb31.out Hb31.out.size (hb32.below w31.heap.size))
  have Hw0_0 := Lib.hid (Hw0_0.out.below (hb32.below w31.heap.size))
  have Hw1 := Lib.hid (Hw1.out.below (hb32.below w31.heap.size))
  have Hg0_0 := Lib.hid (Hg0_0.out.below (hb32.below w31.heap.size))
  have Hg1 := Lib.hid (Hg1.out.below (hb32.below w31.heap.size))
  have Hxz := Lib.hid (Hxz.out.below (hb32.below w31.heap.size))
  have Htz := Lib.hid (Htz.out.below (hb32.below w31.heap.size) (by omega))
  have Hh0_0 := Lib.hid (Hh0_0.out.below (hb32.below w31.heap.size))
  have Hh1 := Lib.hid (Hh1.out.below (hb32.below w31.heap.size))
  have Sxb := Lib.hid (show Str w32 w.heap.size 42 #[.slice ax0 xx0.length capx0, .int .i64 x1] from (((hb32.below w31.heap.size)).block _ Sxb.out.lt).trans Sxb.out)
  have Sw0 := Lib.hid (show Str w32 w5.heap.size 25 #[.slice aw0_0 L.length cw0_0, .int .i64 N] from (((hb32.below w31.heap.size)).block _ Sw0.out.lt).trans Sw0.out)
  have Sxxv := Lib.hid (show Str w32 w7.heap.size 25 #[.slice axx xx0.length cxx, .int .i64 x1] from (((hb32.below w31.heap.size)).block _ Sxxv.out.lt).trans Sxxv.out)
  have Sg0 := Lib.hid (show Str w32 w10.heap.size 25 #[.slice ag0_0 L.length cg0_0, .int .i64 N] from (((hb32.below w31.heap.size)).block _ Sg0.out.lt).trans Sg0.out)
  have Sh0 := Lib.hid (show Str w32 w29.heap.size 25 #[.slice ah0_0 L.length ch0_0, .int .i64 N] from (((hb32.below w31.heap.size)).block _ Sh0.out.lt).trans Sh0.out)
  have hz32 := ((hb32.below w31.heap.size)).size
  have qg0_0 := Sg0.out.cell 0 (v := .slice ag0_0 L.length cg0_0) rfl
  have qg0_1 := Sg0.out.cell 1 (v := .int .i64 N) rfl
  go_wp2_with fail
  refine (laws_heldLedgerR ( N) ag0_0 cg0_0 (1) L.length w32 (by omega) (by omega) Hg0_0.out.at).mono ?_
  rintro e w33 ⟨rfl, hb33⟩
  have Hb33 := Lib.hid (below_step Hb32.out Hb32.out.size hb33)
  have Hw0_0 := Lib.hid (Hw0_0.out.below hb33)
  have Hw1 := Lib.hid (Hw1.out.below hb33)
  have Hg0_0 := Lib.hid (Hg0_0.out.below hb33)
  have Hg1 := Lib.hid (Hg1.out.below hb33)
  have Hxz := Lib.hid (Hxz.out.below hb33)
  have Htz := Lib.hid (Htz.out.below hb33 (by omega))
  have Hh0_0 := Lib.hid (Hh0_0.out.below hb33)
  have Hh1 := Lib.hid (Hh1.out.below hb33)
  have Sxb := Lib.hid (show Str w33 w.heap.size 42 #[.slice ax0 xx0.length capx0, .int .i64 x1] from ((hb33).block _ Sxb.out.lt).trans Sxb.out)
  have Sw0 := Lib.hid (show Str w33 w5.heap.size 25 #[.slice aw0_0 L.length cw0_0, .int .i64 N] from ((hb33).block _ Sw0.out.lt).trans Sw0.out)
  have Sxxv := Lib.hid (show Str w33 w7.heap.size 25 #[.slice axx xx0.length cxx, .int .i64 x1] from ((hb33).block _ Sxxv.out.lt).trans Sxxv.out)
  have Sg0 := Lib.hid (show Str w33 w10.heap.size 25 #[.slice ag0_0 L.length cg0_0, .int .i64 N] from ((hb33).block _ Sg0.out.lt).trans Sg0.out)
  have Sh0 := Lib.hid (show Str w33 w29.heap.size 25 #[.slice ah0_0 L.length ch0_0, .int .i64 N] from ((hb33).block _ Sh0.out.lt).trans Sh0.out)
  have hz33 := (hb33).size
  clear qg0_0 qg0_1
  go_wp2_with fail
  refine (laws_heldBoolS ag1 cg1 (1 + L.length) Z.length w33 (by omega) (by omega) Hg1.out.at).mono ?_
  rintro e w34 ⟨rfl, hb34⟩
  have Hb34 := Lib.hid (below_step Hb33.out Hb33.out.size (hb34.below w33.heap.size))
  have Hw0_0 := Lib.hid (Hw0_0.out.below (hb34.below w33.heap.size))
  have Hw1 := Lib.hid (Hw1.out.below (hb34.below w33.heap.size))
  have Hg0_0 := Lib.hid (Hg0_0.out.below (hb34.below w33.heap.size))
  have Hg1 := Lib.hid (Hg1.out.below (hb34.below w33.heap.size))
  have Hxz := Lib.hid (Hxz.out.below (hb34.below w33.heap.size))
  have Htz := Lib.hid (Htz.out.below (hb34.below w33.heap.size) (by omega))
  have Hh0_0 := Lib.hid (Hh0_0.out.below (hb34.below w33.heap.size))
  have Hh1 := Lib.hid (Hh1.out.below (hb34.below w33.heap.size))
  have Sxb := Lib.hid (show Str w34 w.heap.size 42 #[.slice ax0 xx0.length capx0, .int .i64 x1] from (((hb34.below w33.heap.size)).block _ Sxb.out.lt).trans Sxb.out)
  have Sw0 := Lib.hid (show Str w34 w5.heap.size 25 #[.slice aw0_0 L.length cw0_0, .int .i64 N] from (((hb34.below w33.heap.size)).block _ Sw0.out.lt).trans Sw0.out)
  have Sxxv := Lib.hid (show Str w34 w7.heap.size 25 #[.slice axx xx0.length cxx, .int .i64 x1] from (((hb34.below w33.heap.size)).block _ Sxxv.out.lt).trans Sxxv.out)
  have Sg0 := Lib.hid (show Str w34 w10.heap.size 25 #[.slice ag0_0 L.length cg0_0, .int .i64 N] from (((hb34.below w33.heap.size)).block _ Sg0.out.lt).trans Sg0.out)
  have Sh0 := Lib.hid (show Str w34 w29.heap.size 25 #[.slice ah0_0 L.length ch0_0, .int .i64 N] from (((hb34.below w33.heap.size)).block _ Sh0.out.lt).trans Sh0.out)
  have hz34 := ((hb34.below w33.heap.size)).size
  go_wp2
  go_ret
  exact ⟨by first | rfl | exact ret_bool (by simp), Hb34.out⟩

theorem fnExactLedgerRun_own : ownKnob Try.prog.godebug = none := by kernel_rfl
theorem fnExactLedgerRun_laidOut : laidOutB Try.prog = true := by kernel_rfl

set_option maxRecDepth 8000 in
theorem fnExactLedgerRun_lifted (os : Os) (started : os.Started) (H : Type) (enc : TypeId × Value → H) :
    ReturnsInHanded {} Try.checked os 7 .any (Rows.fnExactLedgerRunSpec.pre6 enc Try.prog Try.f7 Rows.fnExactLedgerRunRow.domain false) (Rows.fnExactLedgerRunSpec.post enc Try.prog Try.f7 false true false false) := by
  refine law_lifted (C := Try.checked) (tb := 4) fnExactLedgerRun_own fnExactLedgerRun_laidOut started (by kernel_rfl) Try.func7 rfl Try.underlying4 rfl (by rw [Try.params7]; exact of_decide_eq_true (by kernel_rfl)) ?_
    (ChangeSpec.witness6 (enc := enc) (C := Try.checked) false ⟨#[], #[.agg #[.slice none 0 0, .int .i64 0], .slice none 0 0], []⟩ 8 (by kernel_rfl) (by kernel_rfl) (by kernel_rfl) (by kernel_rfl)) ?_
  · intro ds hds
    rw [Try.params7] at hds
    match ds, hds with
    | [d0, d1], _ => rfl
  · intro W base args ds p hval0 hA0
    have hval : ∀ (j : Nat) t v, Try.f7.params[j]? = some t → args[j]? = some v → Value.okWide Try.prog W .any base t v := hval0
    have hA : DataW.TrodAll enc Try.prog W 0 (fun _ => true) true Try.f7.params.toList args.toList ds p := hA0
    rw [Try.params7] at hA hval
    obtain ⟨v0, vs0, d0, ds0, p0, q0, hargs0, rfl, rfl, h0, r0⟩ := trodAll_cons hA
    obtain ⟨v1, vs1, d1, ds1, p1, q1, hargs1, rfl, rfl, h1, r1⟩ := trodAll_cons r0
    obtain ⟨hnil, rfl, rfl⟩ := trodAll_nil r1
    subst hnil
    subst hargs1
    obtain rfl : args = #[v0, v1] := by cases args; simp_all
    obtain ⟨a0_0, c0_0, x0_0, x0_1, rfl, b0_0, i0_0, b0_1⟩ := open_Ledger (hval 0 42 v0 rfl rfl) h0
    obtain ⟨es1, fp1, hr1, hm1, hp1⟩ := open_TxnS (hval 1 43 v1 rfl rfl) h1
    exact fnExactLedgerRun_walk a0_0 c0_0 x0_0 x0_1 v1 es1 fp1 W b0_0 i0_0 b0_1 hr1 hm1 hp1

set_option maxRecDepth 8000 in
theorem fnExactLedgerRun_holds : Rows.FnExactLedgerRunSaid :=
  OpenClaim.holds_of_wide 7 Try.f7 rfl rfl rfl rfl rfl rfl rfl ⟨rfl, rfl, rfl, rfl, rfl⟩ rfl rfl rfl rfl rfl (by kernel_rfl) Try.func7 (by kernel_rfl)
    (of_decide_eq_true (by kernel_rfl)) (by unfold Func.isWrapper; first | (rw [if_pos (by decide +kernel)]; kernel_rfl) | (rw [if_neg (by decide +kernel)]; exact ⟨rfl, rfl⟩))
    (fun os started H enc _ => fnExactLedgerRun_lifted os started H enc)

end Go.Proofs.Ytfnhafgjdnlhiaa
