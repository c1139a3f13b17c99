/- impl.TallyAdd, by a walk of its text; condition: lists are shorter than 2^40. -/
import Derived.Test.YtkndndcjchlpdaaRows
import Derived.Test.YtkndndcjchlpdaaTa2
import Derived.Test.YtkndndcjchlpdaaVt3
import Derived.Test.YtkndndcjchlpdaaVt4
import Derived.Test.YtkndndcjchlpdaaHeld
import Derived.Test.YtkndndcjchlpdaaEx
import Derived.Test.YtkndndcjchlpdaaTa3
import Derived.Test.YtkndndcjchlpdaaTa4
import Derived.Test.YtkndndcjchlpdaaVp0
import Derived.Test.YtkndndcjchlpdaaLeq
import Derived.Deep.QuietTactic
import Derived.BigQuiet
namespace Go.Proofs.Ytkndndcjchlpdaa
open Go.RowKit

set_option maxHeartbeats 8000000 in
set_option maxRecDepth 8000 in
theorem impl_TallyAdd (ac : Option Addr) (capc : Nat) (c : List Int) (r a d : Int) (am : Option Addr) (cm : Nat) (ms : List Int) (x : Int) (w : World) (hn : c.length ≤ 1099511627776) (hbig : ms.length ≤ 1048576) (_hcm : ms.length ≤ cm) (hc : IntsAt w ac c) (hm : IntsAt w am ms) (hsrc : SrcAt w am cm ms) :
    Calls Try.prog 29 #[.slice ac c.length capc, .agg #[.int .i64 r, .int .i64 a, .int .i64 d, .slice am ms.length cm], .int .i64 x] w fun e w' => ∃ vv, e = .returned (.tuple #[.agg #[.int .i64 (taV c ⟨r, a, d⟩ ms x).r, .int .i64 (taV c ⟨r, a, d⟩ ms x).a, .int .i64 (taV c ⟨r, a, d⟩ ms x).d, vv], .bool (taK c ⟨r, a, d⟩ ms x)]) ∧ Own 3 w' w.heap.size vv (taL c ⟨r, a, d⟩ ms x) ∧ Below w.heap.size w w' := by
  have hb0 : Below w.heap.size w ((w.alloc (.cells #[.int .i64 r, .int .i64 a, .int .i64 d, .slice am ms.length cm] 54)).alloc (.cells #[.int .i64 0, .int .i64 0, .int .i64 0, .slice none 0 0] 54)) := ((Below.refl _ _).alloc (Nat.le_refl _) _).alloc (by simp) _
  have sx := (Str.new w 54 #[.int .i64 r, .int .i64 a, .int .i64 d, .slice am ms.length cm]).alloc (.cells #[.int .i64 0, .int .i64 0, .int .i64 0, .slice none 0 0] 54)
  have sr := Str.new (w.alloc (.cells #[.int .i64 r, .int .i64 a, .int .i64 d, .slice am ms.length cm] 54)) 54 #[.int .i64 0, .int .i64 0, .int .i64 0, .slice none 0 0]
  have hz0 : ((w.alloc (.cells #[.int .i64 r, .int .i64 a, .int .i64 d, .slice am ms.length cm] 54)).alloc (.cells #[.int .i64 0, .int .i64 0, .int .i64 0, .slice none 0 0] 54)).heap.size = w.heap.size + 2 := by simp
  simp only [World.size_alloc] at sr
  have SX := Lib.hid (show Str ((w.alloc (.cells #[.int .i64 r, .int .i64 a, .int .i64 d, .slice am ms.length cm] 54)).alloc (.cells #[.int .i64 0, .int .i64 0, .int .i64 0, .slice none 0 0] 54)) (w.heap.size) 54 #[.int .i64 r, .int .i64 a, .int .i64 d, .slice am ms.length cm] from sx)
  have SR := Lib.hid (show Str ((w.alloc (.cells #[.int .i64 r, .int .i64 a, .int .i64 d, .slice am ms.length cm] 54)).alloc (.cells #[.int .i64 0, .int .i64 0, .int .i64 0, .slice none 0 0] 54)) (w.heap.size + 1) 54 #[.int .i64 0, .int .i64 0, .int .i64 0, .slice none 0 0] from sr)
  have Hb := Lib.hid hb0
  have Hc := Lib.hid hc; have Hm := Lib.hid hm; have Hsrc := Lib.hid hsrc
  clear sx sr hb0 hc hm hsrc
  go_enter Try.func29, Try.ntmps29
  have cX_0 := SX.out.cell 0 (v := .int .i64 r) rfl
  have cX_1 := SX.out.cell 1 (v := .int .i64 a) rfl
  have cX_2 := SX.out.cell 2 (v := .int .i64 d) rfl
  have cX_3 := SX.out.cell 3 (v := .slice am ms.length cm) rfl
  go_wp2_with fail
  generalize ((w.alloc (.cells #[.int .i64 r, .int .i64 a, .int .i64 d, .slice am ms.length cm] 54)).alloc (.cells #[.int .i64 0, .int .i64 0, .int .i64 0, .slice none 0 0] 54)) = W0 at *
  refine (tally_fits ac capc c r a d am cm ms _ hn (by omega) (Hc.out.below Hb.out) (Hm.out.below Hb.out)).mono ?_
  rintro e w1 ⟨rfl, hb1⟩
  clear cX_0 cX_1 cX_2 cX_3
  have SX := Lib.hid (show Str w1 (w.heap.size) 54 #[.int .i64 r, .int .i64 a, .int .i64 d, .slice am ms.length cm] from (hb1.block _ SX.out.lt).trans SX.out)
  have SR := Lib.hid (show Str w1 (w.heap.size + 1) 54 #[.int .i64 0, .int .i64 0, .int .i64 0, .slice none 0 0] from (hb1.block _ SR.out.lt).trans SR.out)
  have hsw1 := hb1.size
  have Hb := Lib.hid (below_step Hb.out Hb.out.size hb1)
  clear hb1
  cases h1 : tallyB c ⟨r, a, d⟩ ms with
  | false =>
    obtain ⟨z1, z2, z3⟩ := ta_no (c := c) (v := ⟨r, a, d⟩) (ms := ms) (x := x) (by unfold taB; rw [h1]; rfl)
    have Z1 := Lib.hid z1; have Z2 := Lib.hid z2; have Z3 := Lib.hid z3; clear z1 z2 z3
    have cX_0 := SX.out.cell 0 (v := .int .i64 r) rfl
    have cX_1 := SX.out.cell 1 (v := .int .i64 a) rfl
    have cX_2 := SX.out.cell 2 (v := .int .i64 d) rfl
    have cX_3 := SX.out.cell 3 (v := .slice am ms.length cm) rfl
    have cR_0 := SR.out.cell 0 (v := .int .i64 0) rfl
    have cR_1 := SR.out.cell 1 (v := .int .i64 0) rfl
    have cR_2 := SR.out.cell 2 (v := .int .i64 0) rfl
    have cR_3 := SR.out.cell 3 (v := .slice none 0 0) rfl
    have fR_0 := SR.out.frozen 0
    have fR_1 := SR.out.frozen 1
    have fR_2 := SR.out.frozen 2
    have fR_3 := SR.out.frozen 3
    have sF := (((SR.out.set 0 (.int .i64 0)).set 1 (.int .i64 0)).set 2 (.int .i64 0)).set 3 (.slice none 0 0)
    have e0 := sF.cell 0 (v := .int .i64 0) rfl
    have e1 := sF.cell 1 (v := .int .i64 0) rfl
    have e2 := sF.cell 2 (v := .int .i64 0) rfl
    have e3 := sF.cell 3 (v := .slice none 0 0) rfl
    clear sF
    go_wp2
    refine bodyPost_ret (v := .tuple #[.agg #[.int .i64 0, .int .i64 0, .int .i64 0, .slice none 0 0], .bool false]) (by simp [results, Try.f29, go_sem, e0, e1, e2, e3]) rfl ?_
    rw [Z1.out, Z2.out, Z3.out]
    exact ⟨_, rfl, Own.nil _ _ _, (((Hb.out.setCell (p := ⟨w.heap.size + 1, 0, none⟩) (by simp only; omega) _).setCell (p := ⟨w.heap.size + 1, 1, none⟩) (by simp only; omega) _).setCell (p := ⟨w.heap.size + 1, 2, none⟩) (by simp only; omega) _).setCell (p := ⟨w.heap.size + 1, 3, none⟩) (by simp only; omega) _⟩
  | true =>
  have Has := Lib.hid (ta_asc h1)
  by_cases hq1 : x < 0
  case pos =>
    obtain ⟨z1, z2, z3⟩ := ta_no (c := c) (v := ⟨r, a, d⟩) (ms := ms) (x := x) (by unfold taB; rw [h1, decide_eq_false (by omega)]; rfl)
    have Z1 := Lib.hid z1; have Z2 := Lib.hid z2; have Z3 := Lib.hid z3; clear z1 z2 z3
    have cX_0 := SX.out.cell 0 (v := .int .i64 r) rfl
    have cX_1 := SX.out.cell 1 (v := .int .i64 a) rfl
    have cX_2 := SX.out.cell 2 (v := .int .i64 d) rfl
    have cX_3 := SX.out.cell 3 (v := .slice am ms.length cm) rfl
    have cR_0 := SR.out.cell 0 (v := .int .i64 0) rfl
    have cR_1 := SR.out.cell 1 (v := .int .i64 0) rfl
    have cR_2 := SR.out.cell 2 (v := .int .i64 0) rfl
    have cR_3 := SR.out.cell 3 (v := .slice none 0 0) rfl
    have fR_0 := SR.out.frozen 0
    have fR_1 := SR.out.frozen 1
    have fR_2 := SR.out.frozen 2
    have fR_3 := SR.out.frozen 3
    have sF := (((SR.out.set 0 (.int .i64 0)).set 1 (.int .i64 0)).set 2 (.int .i64 0)).set 3 (.slice none 0 0)
    have e0 := sF.cell 0 (v := .int .i64 0) rfl
    have e1 := sF.cell 1 (v := .int .i64 0) rfl
    have e2 := sF.cell 2 (v := .int .i64 0) rfl
    have e3 := sF.cell 3 (v := .slice none 0 0) rfl
    clear sF
    go_wp2
    refine bodyPost_ret (v := .tuple #[.agg #[.int .i64 0, .int .i64 0, .int .i64 0, .slice none 0 0], .bool false]) (by simp [results, Try.f29, go_sem, e0, e1, e2, e3]) rfl ?_
    rw [Z1.out, Z2.out, Z3.out]
    exact ⟨_, rfl, Own.nil _ _ _, (((Hb.out.setCell (p := ⟨w.heap.size + 1, 0, none⟩) (by simp only; omega) _).setCell (p := ⟨w.heap.size + 1, 1, none⟩) (by simp only; omega) _).setCell (p := ⟨w.heap.size + 1, 2, none⟩) (by simp only; omega) _).setCell (p := ⟨w.heap.size + 1, 3, none⟩) (by simp only; omega) _⟩
  by_cases hq2 : (c.length : Int) ≤ x
  case pos =>
    obtain ⟨z1, z2, z3⟩ := ta_no (c := c) (v := ⟨r, a, d⟩) (ms := ms) (x := x) (by unfold taB; rw [h1, decide_eq_false (by omega)]; rfl)
    have Z1 := Lib.hid z1; have Z2 := Lib.hid z2; have Z3 := Lib.hid z3; clear z1 z2 z3
    have cX_0 := SX.out.cell 0 (v := .int .i64 r) rfl
    have cX_1 := SX.out.cell 1 (v := .int .i64 a) rfl
    have cX_2 := SX.out.cell 2 (v := .int .i64 d) rfl
    have cX_3 := SX.out.cell 3 (v := .slice am ms.length cm) rfl
    have cR_0 := SR.out.cell 0 (v := .int .i64 0) rfl
    have cR_1 := SR.out.cell 1 (v := .int .i64 0) rfl
    have cR_2 := SR.out.cell 2 (v := .int .i64 0) rfl
    have cR_3 := SR.out.cell 3 (v := .slice none 0 0) rfl
    have fR_0 := SR.out.frozen 0
    have fR_1 := SR.out.frozen 1
    have fR_2 := SR.out.frozen 2
    have fR_3 := SR.out.frozen 3
    have sF := (((SR.out.set 0 (.int .i64 0)).set 1 (.int .i64 0)).set 2 (.int .i64 0)).set 3 (.slice none 0 0)
    have e0 := sF.cell 0 (v := .int .i64 0) rfl
    have e1 := sF.cell 1 (v := .int .i64 0) rfl
    have e2 := sF.cell 2 (v := .int .i64 0) rfl
    have e3 := sF.cell 3 (v := .slice none 0 0) rfl
    clear sF
    go_wp2
    refine bodyPost_ret (v := .tuple #[.agg #[.int .i64 0, .int .i64 0, .int .i64 0, .slice none 0 0], .bool false]) (by simp [results, Try.f29, go_sem, e0, e1, e2, e3]) rfl ?_
    rw [Z1.out, Z2.out, Z3.out]
    exact ⟨_, rfl, Own.nil _ _ _, (((Hb.out.setCell (p := ⟨w.heap.size + 1, 0, none⟩) (by simp only; omega) _).setCell (p := ⟨w.heap.size + 1, 1, none⟩) (by simp only; omega) _).setCell (p := ⟨w.heap.size + 1, 2, none⟩) (by simp only; omega) _).setCell (p := ⟨w.heap.size + 1, 3, none⟩) (by simp only; omega) _⟩
  obtain ⟨z1, z2, z3⟩ := ta_yes (c := c) (v := ⟨r, a, d⟩) (ms := ms) (x := x) (by unfold taB; rw [h1, decide_eq_true (by omega)]; rfl)
  have Z1 := Lib.hid z1; have Z2 := Lib.hid z2; have Z3 := Lib.hid z3; clear z1 z2 z3 h1
  obtain ⟨k, hk, hlo, hup⟩ := place_ex ms x
  have Hlo := Lib.hid hlo; have Hup := Lib.hid hup; clear hlo hup
  have cX_0 := SX.out.cell 0 (v := .int .i64 r) rfl
  have cX_1 := SX.out.cell 1 (v := .int .i64 a) rfl
  have cX_2 := SX.out.cell 2 (v := .int .i64 d) rfl
  have cX_3 := SX.out.cell 3 (v := .slice am ms.length cm) rfl
  go_wp2_with fail
  refine (lib_Clone TIa am cm ms _ (by omega) (Hsrc.out.lies Hm.out Hb.out) (Hm.out.below Hb.out)).mono ?_
  rintro e w3 ⟨vl, rfl, hol, hb3⟩
  clear cX_0 cX_1 cX_2 cX_3
  have SX := Lib.hid (show Str w3 (w.heap.size) 54 #[.int .i64 r, .int .i64 a, .int .i64 d, .slice am ms.length cm] from (hb3.block _ SX.out.lt).trans SX.out)
  have SR := Lib.hid (show Str w3 (w.heap.size + 1) 54 #[.int .i64 0, .int .i64 0, .int .i64 0, .slice none 0 0] from (hb3.block _ SR.out.lt).trans SR.out)
  have hsw3 := hb3.size
  have Hb := Lib.hid (below_step Hb.out Hb.out.size hb3)
  clear hb3
  have Ho := Lib.hid hol; clear hol
  go_wp2_with fail
  refine (search_own _ k _ ms x _ Ho.out Has.out hk Hlo.out Hup.out hbig).mono ?_
  rintro e w4 ⟨rfl, hb4⟩
  have Ho := Lib.hid (Ho.out.below hb4)
  have SX := Lib.hid (show Str w4 (w.heap.size) 54 #[.int .i64 r, .int .i64 a, .int .i64 d, .slice am ms.length cm] from (hb4.block _ SX.out.lt).trans SX.out)
  have SR := Lib.hid (show Str w4 (w.heap.size + 1) 54 #[.int .i64 0, .int .i64 0, .int .i64 0, .slice none 0 0] from (hb4.block _ SR.out.lt).trans SR.out)
  have hsw4 := hb4.size
  have Hb := Lib.hid (below_step Hb.out Hb.out.size hb4)
  clear hb4
  cases hh : hasB ms x with
  | true =>
    have hL : addZ ms x = ms := by unfold addZ; rw [if_pos hh]
    rw [← hL] at Ho
    generalize addZ ms x = L at *
    clear hL
    obtain ⟨al, cl, rfl, _, _⟩ := Ho.out.ints
    have cX_0 := SX.out.cell 0 (v := .int .i64 r) rfl
    have cX_1 := SX.out.cell 1 (v := .int .i64 a) rfl
    have cX_2 := SX.out.cell 2 (v := .int .i64 d) rfl
    have cX_3 := SX.out.cell 3 (v := .slice am ms.length cm) rfl
    have cR_0 := SR.out.cell 0 (v := .int .i64 0) rfl
    have cR_1 := SR.out.cell 1 (v := .int .i64 0) rfl
    have cR_2 := SR.out.cell 2 (v := .int .i64 0) rfl
    have cR_3 := SR.out.cell 3 (v := .slice none 0 0) rfl
    have fR_0 := SR.out.frozen 0
    have fR_1 := SR.out.frozen 1
    have fR_2 := SR.out.frozen 2
    have fR_3 := SR.out.frozen 3
    have sF := (((SR.out.set 0 (.int .i64 r)).set 1 (.int .i64 a)).set 2 (.int .i64 d)).set 3 (.slice al L.length cl)
    have e0 := sF.cell 0 (v := .int .i64 r) rfl
    have e1 := sF.cell 1 (v := .int .i64 a) rfl
    have e2 := sF.cell 2 (v := .int .i64 d) rfl
    have e3 := sF.cell 3 (v := .slice al L.length cl) rfl
    have hbt : Btw (w.heap.size + 1) (w.heap.size + 1 + 1) w4 ((((w4.setCell ⟨w.heap.size + 1, 0, none⟩ (.int .i64 r)).setCell ⟨w.heap.size + 1, 1, none⟩ (.int .i64 a)).setCell ⟨w.heap.size + 1, 2, none⟩ (.int .i64 d)).setCell ⟨w.heap.size + 1, 3, none⟩ (.slice al L.length cl)) := ((((Btw.set w4 (Nat.le_refl (w.heap.size + 1)) (Nat.lt_succ_self _) 0 (.int .i64 r)).trans (Btw.set (w4.setCell ⟨w.heap.size + 1, 0, none⟩ (.int .i64 r)) (Nat.le_refl (w.heap.size + 1)) (Nat.lt_succ_self _) 1 (.int .i64 a))).trans (Btw.set ((w4.setCell ⟨w.heap.size + 1, 0, none⟩ (.int .i64 r)).setCell ⟨w.heap.size + 1, 1, none⟩ (.int .i64 a)) (Nat.le_refl (w.heap.size + 1)) (Nat.lt_succ_self _) 2 (.int .i64 d))).trans (Btw.set (((w4.setCell ⟨w.heap.size + 1, 0, none⟩ (.int .i64 r)).setCell ⟨w.heap.size + 1, 1, none⟩ (.int .i64 a)).setCell ⟨w.heap.size + 1, 2, none⟩ (.int .i64 d)) (Nat.le_refl (w.heap.size + 1)) (Nat.lt_succ_self _) 3 (.slice al L.length cl)))
    have Hbt := Lib.hid hbt
    clear sF hbt
    go_wp2
    refine bodyPost_ret (v := .tuple #[.agg #[.int .i64 r, .int .i64 a, .int .i64 d, .slice al L.length cl], .bool (!hasB ms x)]) (by simp [results, Try.f29, go_sem, e0, e1, e2, e3, hh]) rfl ?_
    rw [Z1.out, Z2.out, Z3.out]
    refine ⟨_, rfl, Own.mono (Hbt.out.own Ho.out (fun g e => by have := (Ho.out.lt g e).1; omega)) ?_, Hbt.out.below Hb.out Hb.out.size (by omega)⟩
    omega
  | false =>
  have hgt := gt_of_lacks hh Hup.out
  obtain ⟨_, hL⟩ := ins_no Has.out hk Hlo.out hgt
  have HL := Lib.hid (show insL ms k x = addZ ms x from hL.symm)
  clear hgt hL
  have hnb := Ho.out.lt
  have hal : Below w4.heap.size w4 (w4.alloc (.cells #[.int .i64 x] 3)) := (Below.refl _ _).alloc (Nat.le_refl _) _
  have SP := Lib.hid (Str.new w4 3 #[.int .i64 x])
  have Ho := Lib.hid (Ho.out.below hal)
  have hz5 : (w4.alloc (.cells #[.int .i64 x] 3)).heap.size = w4.heap.size + 1 := by simp
  have hnp : vl.ownBlock ≠ some w4.heap.size := fun e => by have := (hnb _ e).2; omega
  have SX := Lib.hid (show Str (w4.alloc (.cells #[.int .i64 x] 3)) (w.heap.size) 54 #[.int .i64 r, .int .i64 a, .int .i64 d, .slice am ms.length cm] from SX.out.alloc _)
  have SR := Lib.hid (show Str (w4.alloc (.cells #[.int .i64 x] 3)) (w.heap.size + 1) 54 #[.int .i64 0, .int .i64 0, .int .i64 0, .slice none 0 0] from SR.out.alloc _)
  have Hb := Lib.hid (below_step Hb.out Hb.out.size hal)
  clear hal
  go_wp2_with fail
  generalize (w4.alloc (.cells #[.int .i64 x] 3)) = w5 at *
  refine (ins_own _ w4.heap.size k vl ms x w5 Ho.out SP.out hk hnp (by omega) hbig).mono ?_
  rintro e w6 ⟨vn, rfl, hon, hg6⟩
  rw [HL.out] at hon
  generalize addZ ms x = L at *
  obtain ⟨al, cl, rfl, _, _⟩ := hon.ints
  have SX := Lib.hid (show Str w6 (w.heap.size) 54 #[.int .i64 r, .int .i64 a, .int .i64 d, .slice am ms.length cm] from SX.out.kept hg6 (fun e => by have := (Ho.out.lt _ e.symm).1; omega))
  have SR := Lib.hid (show Str w6 (w.heap.size + 1) 54 #[.int .i64 0, .int .i64 0, .int .i64 0, .slice none 0 0] from SR.out.kept hg6 (fun e => by have := (Ho.out.lt _ e.symm).1; omega))
  have hs6 := hg6.size
  have Hb := Lib.hid (Hb.out.grown hg6 Hb.out.size (fun q e => by have := (Ho.out.lt _ e).1; omega))
  have Ho := Lib.hid hon
  clear hon hg6 hnp hnb
  have cX_0 := SX.out.cell 0 (v := .int .i64 r) rfl
  have cX_1 := SX.out.cell 1 (v := .int .i64 a) rfl
  have cX_2 := SX.out.cell 2 (v := .int .i64 d) rfl
  have cX_3 := SX.out.cell 3 (v := .slice am ms.length cm) rfl
  have cR_0 := SR.out.cell 0 (v := .int .i64 0) rfl
  have cR_1 := SR.out.cell 1 (v := .int .i64 0) rfl
  have cR_2 := SR.out.cell 2 (v := .int .i64 0) rfl
  have cR_3 := SR.out.cell 3 (v := .slice none 0 0) rfl
  have fR_0 := SR.out.frozen 0
  have fR_1 := SR.out.frozen 1
  have fR_2 := SR.out.frozen 2
  have fR_3 := SR.out.frozen 3
  have sF := (((SR.out.set 0 (.int .i64 r)).set 1 (.int .i64 a)).set 2 (.int .i64 d)).set 3 (.slice al L.length cl)
  have e0 := sF.cell 0 (v := .int .i64 r) rfl
  have e1 := sF.cell 1 (v := .int .i64 a) rfl
  have e2 := sF.cell 2 (v := .int .i64 d) rfl
  have e3 := sF.cell 3 (v := .slice al L.length cl) rfl
  have hbt : Btw (w.heap.size + 1) (w.heap.size + 1 + 1) w6 ((((w6.setCell ⟨w.heap.size + 1, 0, none⟩ (.int .i64 r)).setCell ⟨w.heap.size + 1, 1, none⟩ (.int .i64 a)).setCell ⟨w.heap.size + 1, 2, none⟩ (.int .i64 d)).setCell ⟨w.heap.size + 1, 3, none⟩ (.slice al L.length cl)) := ((((Btw.set w6 (Nat.le_refl (w.heap.size + 1)) (Nat.lt_succ_self _) 0 (.int .i64 r)).trans (Btw.set (w6.setCell ⟨w.heap.size + 1, 0, none⟩ (.int .i64 r)) (Nat.le_refl (w.heap.size + 1)) (Nat.lt_succ_self _) 1 (.int .i64 a))).trans (Btw.set ((w6.setCell ⟨w.heap.size + 1, 0, none⟩ (.int .i64 r)).setCell ⟨w.heap.size + 1, 1, none⟩ (.int .i64 a)) (Nat.le_refl (w.heap.size + 1)) (Nat.lt_succ_self _) 2 (.int .i64 d))).trans (Btw.set (((w6.setCell ⟨w.heap.size + 1, 0, none⟩ (.int .i64 r)).setCell ⟨w.heap.size + 1, 1, none⟩ (.int .i64 a)).setCell ⟨w.heap.size + 1, 2, none⟩ (.int .i64 d)) (Nat.le_refl (w.heap.size + 1)) (Nat.lt_succ_self _) 3 (.slice al L.length cl)))
  have Hbt := Lib.hid hbt
  clear sF hbt
  go_wp2
  refine bodyPost_ret (v := .tuple #[.agg #[.int .i64 r, .int .i64 a, .int .i64 d, .slice al L.length cl], .bool (!hasB ms x)]) (by simp [results, Try.f29, go_sem, e0, e1, e2, e3, hh]) rfl ?_
  rw [Z1.out, Z2.out, Z3.out]
  refine ⟨_, rfl, Own.mono (Hbt.out.own Ho.out (fun g e => by have := (Ho.out.lt g e).1; omega)) ?_, Hbt.out.below Hb.out Hb.out.size (by omega)⟩
  omega

end Go.Proofs.Ytkndndcjchlpdaa
