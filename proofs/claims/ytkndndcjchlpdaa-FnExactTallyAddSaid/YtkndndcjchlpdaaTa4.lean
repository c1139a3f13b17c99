/- The reference's TallyAdd, by a walk of its text; condition: lists are shorter than 2^40. -/
import Derived.Test.YtkndndcjchlpdaaRows
import Derived.Test.YtkndndcjchlpdaaTa2
import Derived.Test.YtkndndcjchlpdaaVt3
import Derived.Test.YtkndndcjchlpdaaVt4
import Derived.Test.YtkndndcjchlpdaaHeld
import Derived.Test.YtkndndcjchlpdaaEx
import Derived.Deep.QuietTactic
import Derived.BigQuiet
namespace Go.Proofs.Ytkndndcjchlpdaa
open Go.RowKit

/-- What TallyAdd answers. -/
def taB (c : List Int) (v : Vt) (ms : List Int) (x : Int) : Bool := tallyB c v ms && decide (0 ≤ x ∧ x ≤ (c.length : Int) - 1)
def taV (c : List Int) (v : Vt) (ms : List Int) (x : Int) : Vt := if taB c v ms x then v else ⟨0, 0, 0⟩
def taL (c : List Int) (v : Vt) (ms : List Int) (x : Int) : List Int := if taB c v ms x then addZ ms x else []
def taK (c : List Int) (v : Vt) (ms : List Int) (x : Int) : Bool := taB c v ms x && !hasB ms x
theorem ta_no {c : List Int} {v : Vt} {ms : List Int} {x : Int} (h : taB c v ms x = false) : taV c v ms x = ⟨0, 0, 0⟩ ∧ taL c v ms x = [] ∧ taK c v ms x = false := by unfold taV taL taK; rw [h]; exact ⟨rfl, rfl, rfl⟩
theorem ta_yes {c : List Int} {v : Vt} {ms : List Int} {x : Int} (h : taB c v ms x = true) : taV c v ms x = v ∧ taL c v ms x = addZ ms x ∧ taK c v ms x = !hasB ms x := by unfold taV taL taK; rw [h]; exact ⟨rfl, rfl, rfl⟩
theorem ta_len (c : List Int) (v : Vt) (ms : List Int) (x : Int) : (taL c v ms x).length ≤ ms.length + 1 := by
  unfold taL
  split
  · exact ins_len ms x
  · exact Nat.zero_le _
theorem ta_asc {c : List Int} {v : Vt} {ms : List Int} (h : tallyB c v ms = true) : ms.Pairwise (· < ·) := by
  unfold tallyB at h
  simp only [Bool.and_eq_true] at h
  exact (ascP_of h.2.2).1

set_option maxHeartbeats 8000000 in
set_option maxRecDepth 8000 in
theorem spec_TallyAdd (ac : Option Addr) (capc : Nat) (c : List Int) (r a d : Int) (am : Option Addr) (cm : Nat) (ms : List Int) (x : Int) (w : World) (hn : c.length ≤ 1099511627776) (hbig : ms.length ≤ 1048576) (hcm : ms.length ≤ cm) (hc : IntsAt w ac c) (hm : IntsAt w am ms) (hsrc : SrcAt w am cm ms) :
    Calls Try.prog 26 #[.slice ac c.length capc, .agg #[.int .i64 r, .int .i64 a, .int .i64 d, .slice am ms.length cm], .int .i64 x] w fun e w' => ∃ vv, e = .returned (.tuple #[.agg #[.int .i64 (taV c ⟨r, a, d⟩ ms x).r, .int .i64 (taV c ⟨r, a, d⟩ ms x).a, .int .i64 (taV c ⟨r, a, d⟩ ms x).d, vv], .bool (taK c ⟨r, a, d⟩ ms x)]) ∧ Own 3 w' w.heap.size vv (taL c ⟨r, a, d⟩ ms x) ∧ Below w.heap.size w w' := by
  have hb0 : Below w.heap.size w ((w.alloc (.cells #[.int .i64 r, .int .i64 a, .int .i64 d, .slice am ms.length cm] 54)).alloc (.cells #[.int .i64 0, .int .i64 0, .int .i64 0, .slice none 0 0] 54)) := ((Below.refl _ _).alloc (Nat.le_refl _) _).alloc (by simp) _
  have sx := (Str.new w 54 #[.int .i64 r, .int .i64 a, .int .i64 d, .slice am ms.length cm]).alloc (.cells #[.int .i64 0, .int .i64 0, .int .i64 0, .slice none 0 0] 54)
  have sr := Str.new (w.alloc (.cells #[.int .i64 r, .int .i64 a, .int .i64 d, .slice am ms.length cm] 54)) 54 #[.int .i64 0, .int .i64 0, .int .i64 0, .slice none 0 0]
  have hz0 : ((w.alloc (.cells #[.int .i64 r, .int .i64 a, .int .i64 d, .slice am ms.length cm] 54)).alloc (.cells #[.int .i64 0, .int .i64 0, .int .i64 0, .slice none 0 0] 54)).heap.size = w.heap.size + 2 := by simp
  simp only [World.size_alloc] at sr
  have SX := Lib.hid (show Str ((w.alloc (.cells #[.int .i64 r, .int .i64 a, .int .i64 d, .slice am ms.length cm] 54)).alloc (.cells #[.int .i64 0, .int .i64 0, .int .i64 0, .slice none 0 0] 54)) (w.heap.size) 54 #[.int .i64 r, .int .i64 a, .int .i64 d, .slice am ms.length cm] from sx)
  have SR := Lib.hid (show Str ((w.alloc (.cells #[.int .i64 r, .int .i64 a, .int .i64 d, .slice am ms.length cm] 54)).alloc (.cells #[.int .i64 0, .int .i64 0, .int .i64 0, .slice none 0 0] 54)) (w.heap.size + 1) 54 #[.int .i64 0, .int .i64 0, .int .i64 0, .slice none 0 0] from sr)
  have Hb := Lib.hid hb0
  have Hc := Lib.hid hc; have Hm := Lib.hid hm; have Hsrc := Lib.hid hsrc
  clear sx sr hb0 hc hm hsrc
  go_enter Try.func26, Try.ntmps26
  have cX_0 := SX.out.cell 0 (v := .int .i64 r) rfl
  have cX_1 := SX.out.cell 1 (v := .int .i64 a) rfl
  have cX_2 := SX.out.cell 2 (v := .int .i64 d) rfl
  have cX_3 := SX.out.cell 3 (v := .slice am ms.length cm) rfl
  go_wp2_with fail
  generalize ((w.alloc (.cells #[.int .i64 r, .int .i64 a, .int .i64 d, .slice am ms.length cm] 54)).alloc (.cells #[.int .i64 0, .int .i64 0, .int .i64 0, .slice none 0 0] 54)) = W0 at *
  refine (spec_l12Tally ac capc c r a d am cm ms _ hn (by omega) (Hc.out.below Hb.out) (Hm.out.below Hb.out)).mono ?_
  rintro e w1 ⟨rfl, hb1⟩
  clear cX_0 cX_1 cX_2 cX_3
  have SX := Lib.hid (show Str w1 (w.heap.size) 54 #[.int .i64 r, .int .i64 a, .int .i64 d, .slice am ms.length cm] from (hb1.block _ SX.out.lt).trans SX.out)
  have SR := Lib.hid (show Str w1 (w.heap.size + 1) 54 #[.int .i64 0, .int .i64 0, .int .i64 0, .slice none 0 0] from (hb1.block _ SR.out.lt).trans SR.out)
  have hsw1 := hb1.size
  have Hb := Lib.hid (below_step Hb.out Hb.out.size hb1)
  clear hb1
  cases h1 : tallyB c ⟨r, a, d⟩ ms with
  | false =>
    obtain ⟨z1, z2, z3⟩ := ta_no (c := c) (v := ⟨r, a, d⟩) (ms := ms) (x := x) (by unfold taB; rw [h1]; rfl)
    have Z1 := Lib.hid z1; have Z2 := Lib.hid z2; have Z3 := Lib.hid z3; clear z1 z2 z3
    have cX_0 := SX.out.cell 0 (v := .int .i64 r) rfl
    have cX_1 := SX.out.cell 1 (v := .int .i64 a) rfl
    have cX_2 := SX.out.cell 2 (v := .int .i64 d) rfl
    have cX_3 := SX.out.cell 3 (v := .slice am ms.length cm) rfl
    have cR_0 := SR.out.cell 0 (v := .int .i64 0) rfl
    have cR_1 := SR.out.cell 1 (v := .int .i64 0) rfl
    have cR_2 := SR.out.cell 2 (v := .int .i64 0) rfl
    have cR_3 := SR.out.cell 3 (v := .slice none 0 0) rfl
    have fR_0 := SR.out.frozen 0
    have fR_1 := SR.out.frozen 1
    have fR_2 := SR.out.frozen 2
    have fR_3 := SR.out.frozen 3
    have sF := (((SR.out.set 0 (.int .i64 0)).set 1 (.int .i64 0)).set 2 (.int .i64 0)).set 3 (.slice none 0 0)
    have e0 := sF.cell 0 (v := .int .i64 0) rfl
    have e1 := sF.cell 1 (v := .int .i64 0) rfl
    have e2 := sF.cell 2 (v := .int .i64 0) rfl
    have e3 := sF.cell 3 (v := .slice none 0 0) rfl
    clear sF
    go_wp2
    refine bodyPost_ret (v := .tuple #[.agg #[.int .i64 0, .int .i64 0, .int .i64 0, .slice none 0 0], .bool false]) (by simp [results, Try.f26, go_sem, e0, e1, e2, e3]) rfl ?_
    rw [Z1.out, Z2.out, Z3.out]
    exact ⟨_, rfl, Own.nil _ _ _, (((Hb.out.setCell (p := ⟨w.heap.size + 1, 0, none⟩) (by simp only; omega) _).setCell (p := ⟨w.heap.size + 1, 1, none⟩) (by simp only; omega) _).setCell (p := ⟨w.heap.size + 1, 2, none⟩) (by simp only; omega) _).setCell (p := ⟨w.heap.size + 1, 3, none⟩) (by simp only; omega) _⟩
  | true =>
  have Has := Lib.hid (ta_asc h1)
  have cX_0 := SX.out.cell 0 (v := .int .i64 r) rfl
  have cX_1 := SX.out.cell 1 (v := .int .i64 a) rfl
  have cX_2 := SX.out.cell 2 (v := .int .i64 d) rfl
  have cX_3 := SX.out.cell 3 (v := .slice am ms.length cm) rfl
  go_wp2_with fail
  clear cX_0 cX_1 cX_2 cX_3
  refine (spec_l6In x 0 ((c.length : Int) - 1) _).mono ?_
  rintro e w2 ⟨rfl, rfl⟩
  cases h2 : decide (0 ≤ x ∧ x ≤ (c.length : Int) - 1) with
  | false =>
    obtain ⟨z1, z2, z3⟩ := ta_no (c := c) (v := ⟨r, a, d⟩) (ms := ms) (x := x) (by unfold taB; rw [h1, h2]; rfl)
    have Z1 := Lib.hid z1; have Z2 := Lib.hid z2; have Z3 := Lib.hid z3; clear z1 z2 z3
    have cX_0 := SX.out.cell 0 (v := .int .i64 r) rfl
    have cX_1 := SX.out.cell 1 (v := .int .i64 a) rfl
    have cX_2 := SX.out.cell 2 (v := .int .i64 d) rfl
    have cX_3 := SX.out.cell 3 (v := .slice am ms.length cm) rfl
    have cR_0 := SR.out.cell 0 (v := .int .i64 0) rfl
    have cR_1 := SR.out.cell 1 (v := .int .i64 0) rfl
    have cR_2 := SR.out.cell 2 (v := .int .i64 0) rfl
    have cR_3 := SR.out.cell 3 (v := .slice none 0 0) rfl
    have fR_0 := SR.out.frozen 0
    have fR_1 := SR.out.frozen 1
    have fR_2 := SR.out.frozen 2
    have fR_3 := SR.out.frozen 3
    have sF := (((SR.out.set 0 (.int .i64 0)).set 1 (.int .i64 0)).set 2 (.int .i64 0)).set 3 (.slice none 0 0)
    have e0 := sF.cell 0 (v := .int .i64 0) rfl
    have e1 := sF.cell 1 (v := .int .i64 0) rfl
    have e2 := sF.cell 2 (v := .int .i64 0) rfl
    have e3 := sF.cell 3 (v := .slice none 0 0) rfl
    clear sF
    go_wp2
    refine bodyPost_ret (v := .tuple #[.agg #[.int .i64 0, .int .i64 0, .int .i64 0, .slice none 0 0], .bool false]) (by simp [results, Try.f26, go_sem, e0, e1, e2, e3]) rfl ?_
    rw [Z1.out, Z2.out, Z3.out]
    exact ⟨_, rfl, Own.nil _ _ _, (((Hb.out.setCell (p := ⟨w.heap.size + 1, 0, none⟩) (by simp only; omega) _).setCell (p := ⟨w.heap.size + 1, 1, none⟩) (by simp only; omega) _).setCell (p := ⟨w.heap.size + 1, 2, none⟩) (by simp only; omega) _).setCell (p := ⟨w.heap.size + 1, 3, none⟩) (by simp only; omega) _⟩
  | true =>
  obtain ⟨z1, z2, z3⟩ := ta_yes (c := c) (v := ⟨r, a, d⟩) (ms := ms) (x := x) (by unfold taB; rw [h1, h2]; rfl)
  have Z1 := Lib.hid z1; have Z2 := Lib.hid z2; have Z3 := Lib.hid z3; clear z1 z2 z3 h1
  have cX_0 := SX.out.cell 0 (v := .int .i64 r) rfl
  have cX_1 := SX.out.cell 1 (v := .int .i64 a) rfl
  have cX_2 := SX.out.cell 2 (v := .int .i64 d) rfl
  have cX_3 := SX.out.cell 3 (v := .slice am ms.length cm) rfl
  go_wp2_with fail
  clear cX_0 cX_1 cX_2 cX_3
  have SX := Lib.hid (show Str w1.drew (w.heap.size) 54 #[.int .i64 r, .int .i64 a, .int .i64 d, .slice am ms.length cm] from SX.out)
  have SR := Lib.hid (show Str w1.drew (w.heap.size + 1) 54 #[.int .i64 0, .int .i64 0, .int .i64 0, .slice none 0 0] from SR.out)
  have Hb := Lib.hid Hb.out.drew
  have hzwd : w1.drew.heap.size = w1.heap.size := rfl
  refine wp_region_L 13 (fun w' => w'.cell? ⟨w.heap.size, 0, none⟩ = some (.int .i64 r) ∧ w'.cell? ⟨w.heap.size, 1, none⟩ = some (.int .i64 a) ∧ w'.cell? ⟨w.heap.size, 2, none⟩ = some (.int .i64 d) ∧ w'.cell? ⟨w.heap.size, 3, none⟩ = some (.slice am ms.length cm)) (by kernel_rfl) ⟨SX.out.cell 0 (v := .int .i64 r) rfl, SX.out.cell 1 (v := .int .i64 a) rfl, SX.out.cell 2 (v := .int .i64 d) rfl, SX.out.cell 3 (v := .slice am ms.length cm) rfl⟩ (fun hH => ?_)
  generalize w1.drew = wd at *
  refine takeL 0 (v := ?vt1) rfl (by kernel_rfl) (by kernel_rfl) (by kernel_rfl) (by kernel_rfl) (by kernel_rfl) (fun _ _ _ h => h) hH rfl ?yt1 ?rt1
  case yt1 => intro W hSw; go_simp; try with_reducible rfl
  try simp only [Act.put, List.setIfInBounds_toArray, List.set_cons_zero, List.set_cons_succ]
  refine takeL 1 (v := ?vt2) rfl (by kernel_rfl) (by kernel_rfl) (by kernel_rfl) (by kernel_rfl) (by kernel_rfl) (fun _ _ _ h => h) hH rfl ?yt2 ?rt2
  case yt2 => intro W hSw; go_simp; try with_reducible rfl
  try simp only [Act.put, List.setIfInBounds_toArray, List.set_cons_zero, List.set_cons_succ]
  refine takeL 2 (v := ?vt3) rfl (by kernel_rfl) (by kernel_rfl) (by kernel_rfl) (by kernel_rfl) (by kernel_rfl) (fun _ _ _ h => h) hH rfl ?yt3 ?rt3
  case yt3 => intro W hSw; go_simp; try with_reducible rfl
  try simp only [Act.put, List.setIfInBounds_toArray, List.set_cons_zero, List.set_cons_succ]
  refine takeL 3 (v := ?vt4) rfl (by kernel_rfl) (by kernel_rfl) (by kernel_rfl) (by kernel_rfl) (by kernel_rfl) (fun _ _ _ h => h) hH rfl ?yt4 ?rt4
  case yt4 => intro W hSw; go_simp; try with_reducible rfl
  try simp only [Act.put, List.setIfInBounds_toArray, List.set_cons_zero, List.set_cons_succ]
  refine takeL 4 (v := ?vt5) rfl (by kernel_rfl) (by kernel_rfl) (by kernel_rfl) (by kernel_rfl) (by kernel_rfl) (fun _ _ _ h => h) hH rfl ?yt5 ?rt5
  case yt5 => intro W hSw; go_simp; try with_reducible rfl
  try simp only [Act.put, List.setIfInBounds_toArray, List.set_cons_zero, List.set_cons_succ]
  refine takeL 7 (v := ?vt6) rfl (by kernel_rfl) (by kernel_rfl) (by kernel_rfl) (by kernel_rfl) (by kernel_rfl) (fun _ _ _ h => h) hH rfl ?yt6 ?rt6
  case yt6 => intro W hSw; go_simp; try with_reducible rfl
  try simp only [Act.put, List.setIfInBounds_toArray, List.set_cons_zero, List.set_cons_succ]
  refine takeL 8 (v := ?vt7) rfl (by kernel_rfl) (by kernel_rfl) (by kernel_rfl) (by kernel_rfl) (by kernel_rfl) (fun _ _ _ h => h) hH rfl ?yt7 ?rt7
  case yt7 => intro W hSw; go_simp; try with_reducible rfl
  try simp only [Act.put, List.setIfInBounds_toArray, List.set_cons_zero, List.set_cons_succ]
  refine takeL 9 (v := ?vt8) rfl (by kernel_rfl) (by kernel_rfl) (by kernel_rfl) (by kernel_rfl) (by kernel_rfl) (fun _ _ _ h => h) hH rfl ?yt8 ?rt8
  case yt8 => intro W hSw; go_simp; try with_reducible rfl
  try simp only [Act.put, List.setIfInBounds_toArray, List.set_cons_zero, List.set_cons_succ]
  have hln := ins_len ms x
  refine callL 5 rfl (by kernel_rfl) rfl (fun K hK => ?_)
  go_simp
  go_at_call 58
  refine (spec_l1Insert am cm ms x _ hbig Has.out hcm (Hm.out.below Hb.out) (Hsrc.out.lies Hm.out Hb.out)).mono ?_
  rintro e w5 ⟨vl, rfl, hol, hb5⟩
  generalize hL : addZ ms x = L at *
  obtain ⟨al, cl, rfl, _, _⟩ := hol.ints
  have SX := Lib.hid (show Str w5 (w.heap.size) 54 #[.int .i64 r, .int .i64 a, .int .i64 d, .slice am ms.length cm] from (hb5.block _ SX.out.lt).trans SX.out)
  have SR := Lib.hid (show Str w5 (w.heap.size + 1) 54 #[.int .i64 0, .int .i64 0, .int .i64 0, .slice none 0 0] from (hb5.block _ SR.out.lt).trans SR.out)
  have hsw5 := hb5.size
  have Hb := Lib.hid (below_step Hb.out Hb.out.size hb5)
  have Ho := Lib.hid hol; clear hol hb5
  refine hK.out _ _ ⟨SX.out.cell 0 (v := .int .i64 r) rfl, SX.out.cell 1 (v := .int .i64 a) rfl, SX.out.cell 2 (v := .int .i64 d) rfl, SX.out.cell 3 (v := .slice am ms.length cm) rfl⟩ (fun hH => ?_)
  clear hK K
  try simp only [Act.put, List.setIfInBounds_toArray, List.set_cons_zero, List.set_cons_succ]
  refine takeL 6 (v := ?vt9) rfl (by kernel_rfl) (by kernel_rfl) (by kernel_rfl) (by kernel_rfl) (by kernel_rfl) (fun _ _ _ h => h) hH rfl ?yt9 ?rt9
  case yt9 => intro W hSw; go_simp; try with_reducible rfl
  try simp only [Act.put, List.setIfInBounds_toArray, List.set_cons_zero, List.set_cons_succ]
  refine callL 10 rfl (by kernel_rfl) rfl (fun K hK => ?_)
  go_simp
  go_at_call 59
  refine (spec_l1Has am cm ms x _ (by omega) (Hm.out.below Hb.out)).mono ?_
  rintro e w6 ⟨rfl, rfl⟩
  refine hK.out _ _ ⟨SX.out.cell 0 (v := .int .i64 r) rfl, SX.out.cell 1 (v := .int .i64 a) rfl, SX.out.cell 2 (v := .int .i64 d) rfl, SX.out.cell 3 (v := .slice am ms.length cm) rfl⟩ (fun hH => ?_)
  clear hK K
  try simp only [Act.put, List.setIfInBounds_toArray, List.set_cons_zero, List.set_cons_succ]
  refine takeL 11 (v := ?vt10) rfl (by kernel_rfl) (by kernel_rfl) (by kernel_rfl) (by kernel_rfl) (by kernel_rfl) (fun _ _ _ h => h) hH rfl ?yt10 ?rt10
  case yt10 => intro W hSw; go_simp; try with_reducible rfl
  try simp only [Act.put, List.setIfInBounds_toArray, List.set_cons_zero, List.set_cons_succ]
  have cR_0 := SR.out.cell 0 (v := .int .i64 0) rfl
  have cR_1 := SR.out.cell 1 (v := .int .i64 0) rfl
  have cR_2 := SR.out.cell 2 (v := .int .i64 0) rfl
  have cR_3 := SR.out.cell 3 (v := .slice none 0 0) rfl
  have fR_0 := SR.out.frozen 0
  have fR_1 := SR.out.frozen 1
  have fR_2 := SR.out.frozen 2
  have fR_3 := SR.out.frozen 3
  refine callL 12 rfl (by kernel_rfl) rfl (fun K hK => ?_)
  go_simp
  clear cR_0 cR_1 cR_2 cR_3 fR_0 fR_1 fR_2 fR_3
  have sF := (((SR.out.set 0 (.int .i64 r)).set 1 (.int .i64 a)).set 2 (.int .i64 d)).set 3 (.slice al L.length cl)
  have hbt : Btw (w.heap.size + 1) (w.heap.size + 1 + 1) w5 ((((w5.setCell ⟨w.heap.size + 1, 0, none⟩ (.int .i64 r)).setCell ⟨w.heap.size + 1, 1, none⟩ (.int .i64 a)).setCell ⟨w.heap.size + 1, 2, none⟩ (.int .i64 d)).setCell ⟨w.heap.size + 1, 3, none⟩ (.slice al L.length cl)) := ((((Btw.set w5 (Nat.le_refl (w.heap.size + 1)) (Nat.lt_succ_self _) 0 (.int .i64 r)).trans (Btw.set (w5.setCell ⟨w.heap.size + 1, 0, none⟩ (.int .i64 r)) (Nat.le_refl (w.heap.size + 1)) (Nat.lt_succ_self _) 1 (.int .i64 a))).trans (Btw.set ((w5.setCell ⟨w.heap.size + 1, 0, none⟩ (.int .i64 r)).setCell ⟨w.heap.size + 1, 1, none⟩ (.int .i64 a)) (Nat.le_refl (w.heap.size + 1)) (Nat.lt_succ_self _) 2 (.int .i64 d))).trans (Btw.set (((w5.setCell ⟨w.heap.size + 1, 0, none⟩ (.int .i64 r)).setCell ⟨w.heap.size + 1, 1, none⟩ (.int .i64 a)).setCell ⟨w.heap.size + 1, 2, none⟩ (.int .i64 d)) (Nat.le_refl (w.heap.size + 1)) (Nat.lt_succ_self _) 3 (.slice al L.length cl)))
  have SX := Lib.hid (SX.out.btw hbt (by omega))
  have Ho := Lib.hid (hbt.own Ho.out (fun g e => by have := (Ho.out.lt g e).1; omega))
  have Hb := Lib.hid (hbt.below Hb.out Hb.out.size (by omega))
  refine hK.out _ _ ⟨SX.out.cell 0 (v := .int .i64 r) rfl, SX.out.cell 1 (v := .int .i64 a) rfl, SX.out.cell 2 (v := .int .i64 d) rfl, SX.out.cell 3 (v := .slice am ms.length cm) rfl⟩ (fun hH => ?_)
  generalize ((((w5.setCell ⟨w.heap.size + 1, 0, none⟩ (.int .i64 r)).setCell ⟨w.heap.size + 1, 1, none⟩ (.int .i64 a)).setCell ⟨w.heap.size + 1, 2, none⟩ (.int .i64 d)).setCell ⟨w.heap.size + 1, 3, none⟩ (.slice al L.length cl)) = w8 at *
  clear hK K hbt
  try simp only [Act.put, List.setIfInBounds_toArray, List.set_cons_zero, List.set_cons_succ]
  refine lastL rfl (by kernel_rfl) (by kernel_rfl) (by kernel_rfl) rfl (fun K hK => ?_)
  go_simp
  refine hK.out _ _ ?_
  clear hK K hH
  try simp only [Act.put]
  have e0 := sF.cell 0 (v := .int .i64 r) rfl
  have e1 := sF.cell 1 (v := .int .i64 a) rfl
  have e2 := sF.cell 2 (v := .int .i64 d) rfl
  have e3 := sF.cell 3 (v := .slice al L.length cl) rfl
  clear sF
  go_wp2
  refine bodyPost_ret (v := .tuple #[.agg #[.int .i64 r, .int .i64 a, .int .i64 d, .slice al L.length cl], .bool (!hasB ms x)]) (by simp [results, Try.f26, go_sem, e0, e1, e2, e3]) rfl ?_
  rw [Z1.out, Z2.out, Z3.out]
  exact ⟨_, rfl, Ho.out.mono (by omega), Hb.out⟩

end Go.Proofs.Ytkndndcjchlpdaa
