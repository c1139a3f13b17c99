/- The order of two votes as impl compares them (cmp.Compare, cmp.Or, the method compare), each by a walk of its text; no conditions. -/
import Derived.Test.YtkndndcjchlpdaaRows
import Derived.Test.YtkndndcjchlpdaaVp0
import Derived.Test.YtkndndcjchlpdaaSched
import Derived.Deep.QuietTactic
import Derived.BigQuiet
namespace Go.Proofs.Ytkndndcjchlpdaa
open Go.RowKit

def cmpZ (a b : Int) : Int := if a < b then -1 else if b < a then 1 else 0
def vcmpZ (x y : Vt) : Int := if cmpZ x.r y.r ≠ 0 then cmpZ x.r y.r else cmpZ x.a y.a

theorem cmp_isNaN (n : Int) (w : World) : Calls Try.prog 84 #[.int .i64 n] w fun e w' => e = .returned (.bool false) ∧ w = w' := by
  go_enter Try.func84, Try.ntmps84
  go_wp2
  go_ret
  exact ⟨by first | rfl | exact ret_bool (by simp), rfl⟩

theorem cmp_Compare (a b : Int) (w : World) : Calls Try.prog 81 #[.int .i64 a, .int .i64 b] w fun e w' => e = .returned (.int .i64 (cmpZ a b)) ∧ w = w' := by
  have H1 := Lib.hid (fun W => cmp_isNaN a W)
  have H2 := Lib.hid (fun W => cmp_isNaN b W)
  by_cases h1 : a < b
  · have Hz := Lib.hid (show cmpZ a b = -1 by unfold cmpZ; rw [if_pos h1])
    go_enter Try.func81, Try.ntmps81
    go_wp2_with fail
    refine (H1.out _).mono ?_
    rintro e w1 ⟨rfl, rfl⟩
    go_wp2_with fail
    refine (H2.out _).mono ?_
    rintro e w1 ⟨rfl, rfl⟩
    go_wp2
    go_ret
    exact ⟨ret_int (by rw [Hz.out]), rfl⟩
  · by_cases h2 : b < a
    · have Hz := Lib.hid (show cmpZ a b = 1 by unfold cmpZ; rw [if_neg h1, if_pos h2])
      go_enter Try.func81, Try.ntmps81
      go_wp2_with fail
      refine (H1.out _).mono ?_
      rintro e w1 ⟨rfl, rfl⟩
      go_wp2_with fail
      refine (H2.out _).mono ?_
      rintro e w1 ⟨rfl, rfl⟩
      go_wp2
      go_ret
      exact ⟨ret_int (by rw [Hz.out]), rfl⟩
    · have Hz := Lib.hid (show cmpZ a b = 0 by unfold cmpZ; rw [if_neg h1, if_neg h2])
      go_enter Try.func81, Try.ntmps81
      go_wp2_with fail
      refine (H1.out _).mono ?_
      rintro e w1 ⟨rfl, rfl⟩
      go_wp2_with fail
      refine (H2.out _).mono ?_
      rintro e w1 ⟨rfl, rfl⟩
      go_wp2
      go_ret
      exact ⟨ret_int (by rw [Hz.out]), rfl⟩

/-- The first of two numbers that is not 0. -/
theorem cmp_Or2 (b off : Nat) (p q : Int) (w : World) (h0 : w.cell? ⟨b, off, none⟩ = some (.int .i64 p)) (h1 : w.cell? ⟨b, off + 1, none⟩ = some (.int .i64 q)) :
    Calls Try.prog 80 #[.slice (some ⟨b, off, none⟩) 2 2] w fun e w' => e = .returned (.int .i64 (if p ≠ 0 then p else q)) ∧ w = w' := by
  by_cases hp : p = 0
  · have hp' : (p == 0) = true := by simpa using hp
    by_cases hq : q = 0
    · have hq' : (q == 0) = true := by simpa using hq
      go_enter Try.func80, Try.ntmps80
      go_wp2
      refine wp_loop_rounds 3 ?_
      rw [rounds_succ]
      go_wp2
      rw [rounds_succ]
      go_wp2
      rw [rounds_succ]
      go_wp2
      go_ret
      exact ⟨ret_int (by simp), rfl⟩
    · have hq' : (q == 0) = false := by simpa using hq
      go_enter Try.func80, Try.ntmps80
      go_wp2
      refine wp_loop_rounds 3 ?_
      rw [rounds_succ]
      go_wp2
      rw [rounds_succ]
      go_wp2
      go_ret
      exact ⟨ret_int (by simp), rfl⟩
  · have hp' : (p == 0) = false := by simpa using hp
    go_enter Try.func80, Try.ntmps80
    go_wp2
    refine wp_loop_rounds 3 ?_
    rw [rounds_succ]
    go_wp2
    go_ret
    exact ⟨ret_int (by simp), rfl⟩

theorem below_cell {w w' : World} (h : Below w.heap.size w w') {p : Addr} {v : Value} (hc : w.cell? p = some v) : w'.cell? p = some v := (h.cell (World.block_lt_of_cell? w _ hc)).trans hc

set_option maxHeartbeats 2000000 in
theorem vote_compare (x y : Vt) (w : World) :
    Calls Try.prog 67 #[.agg #[.int .i64 x.r, .int .i64 x.a, .int .i64 x.d], .agg #[.int .i64 y.r, .int .i64 y.a, .int .i64 y.d]] w fun e w' => e = .returned (.int .i64 (vcmpZ x y)) ∧
      w' = (((w.alloc (.cells #[.int .i64 x.r, .int .i64 x.a, .int .i64 x.d] 27)).alloc (.cells #[.int .i64 y.r, .int .i64 y.a, .int .i64 y.d] 27)).drew).alloc (.cells #[.int .i64 (cmpZ x.r y.r), .int .i64 (cmpZ x.a y.a)] 3) := by
  have s0 := (Str.new w 27 #[.int .i64 x.r, .int .i64 x.a, .int .i64 x.d]).alloc (.cells #[.int .i64 y.r, .int .i64 y.a, .int .i64 y.d] 27)
  have s1 := Str.new (w.alloc (.cells #[.int .i64 x.r, .int .i64 x.a, .int .i64 x.d] 27)) 27 #[.int .i64 y.r, .int .i64 y.a, .int .i64 y.d]
  simp only [World.size_alloc] at s1
  have k0 := s0.cell 0 (v := .int .i64 x.r) rfl
  have k1 := s0.cell 1 (v := .int .i64 x.a) rfl
  have j0 := s1.cell 0 (v := .int .i64 y.r) rfl
  have j1 := s1.cell 1 (v := .int .i64 y.a) rfl
  have H0 := Lib.hid (fun W => cmp_Compare x.r y.r W)
  have H1 := Lib.hid (fun W => cmp_Compare x.a y.a W)
  have H2 := Lib.hid (fun b W h h' => show Calls Try.prog 80 #[.slice (some ⟨b, 0, none⟩) 2 2] W fun e w' => e = .returned (.int .i64 (vcmpZ x y)) ∧ W = w' from cmp_Or2 b 0 (cmpZ x.r y.r) (cmpZ x.a y.a) W h h')
  clear s0 s1
  go_enter Try.func67, Try.ntmps67
  go_wp2_with fail
  generalize hW0 : (w.alloc (.cells #[.int .i64 x.r, .int .i64 x.a, .int .i64 x.d] 27)).alloc (.cells #[.int .i64 y.r, .int .i64 y.a, .int .i64 y.d] 27) = W0 at *
  have HW0 := Lib.hid hW0; clear hW0
  refine wp_region_held_drew (S := fun w' => w'.cell? ⟨w.heap.size, 0, none⟩ = some (.int .i64 x.r) ∧ w'.cell? ⟨w.heap.size, 1, none⟩ = some (.int .i64 x.a) ∧ w'.cell? ⟨w.heap.size + 1, 0, none⟩ = some (.int .i64 y.r) ∧ w'.cell? ⟨w.heap.size + 1, 1, none⟩ = some (.int .i64 y.a)) (by kernel_rfl) ⟨k0, k1, j0, j1⟩ (fun hH => ?_)
  refine takeH 0 (v := ?v0) rfl (by kernel_rfl) (by kernel_rfl) (by kernel_rfl) (fun _ _ _ h => h) hH rfl ?y0 ?r0
  case y0 => intro W hSw; go_simp; try with_reducible rfl
  try simp only [Act.put, List.setIfInBounds_toArray, List.set_cons_zero, List.set_cons_succ]
  refine takeH 1 (v := ?v1) rfl (by kernel_rfl) (by kernel_rfl) (by kernel_rfl) (fun _ _ _ h => h) hH rfl ?y1 ?r1
  case y1 => intro W hSw; go_simp; try with_reducible rfl
  try simp only [Act.put, List.setIfInBounds_toArray, List.set_cons_zero, List.set_cons_succ]
  refine takeH 2 (v := ?v2) rfl (by kernel_rfl) (by kernel_rfl) (by kernel_rfl) (fun _ _ _ h => h) hH rfl ?y2 ?r2
  case y2 => intro W hSw; go_simp; try with_reducible rfl
  try simp only [Act.put, List.setIfInBounds_toArray, List.set_cons_zero, List.set_cons_succ]
  refine takeH 3 (v := ?v3) rfl (by kernel_rfl) (by kernel_rfl) (by kernel_rfl) (fun _ _ _ h => h) hH rfl ?y3 ?r3
  case y3 => intro W hSw; go_simp; try with_reducible rfl
  try simp only [Act.put, List.setIfInBounds_toArray, List.set_cons_zero, List.set_cons_succ]
  refine takeH 5 (v := ?v5) rfl (by kernel_rfl) (by kernel_rfl) (by kernel_rfl) (fun _ _ _ h => h) hH rfl ?y5 ?r5
  case y5 => intro W hSw; go_simp; try with_reducible rfl
  try simp only [Act.put, List.setIfInBounds_toArray, List.set_cons_zero, List.set_cons_succ]
  refine takeH 6 (v := ?v6) rfl (by kernel_rfl) (by kernel_rfl) (by kernel_rfl) (fun _ _ _ h => h) hH rfl ?y6 ?r6
  case y6 => intro W hSw; go_simp; try with_reducible rfl
  try simp only [Act.put, List.setIfInBounds_toArray, List.set_cons_zero, List.set_cons_succ]
  refine takeH 7 (v := ?v7) rfl (by kernel_rfl) (by kernel_rfl) (by kernel_rfl) (fun _ _ _ h => h) hH rfl ?y7 ?r7
  case y7 => intro W hSw; go_simp; try with_reducible rfl
  try simp only [Act.put, List.setIfInBounds_toArray, List.set_cons_zero, List.set_cons_succ]
  refine takeH 8 (v := ?v8) rfl (by kernel_rfl) (by kernel_rfl) (by kernel_rfl) (fun _ _ _ h => h) hH rfl ?y8 ?r8
  case y8 => intro W hSw; go_simp; try with_reducible rfl
  try simp only [Act.put, List.setIfInBounds_toArray, List.set_cons_zero, List.set_cons_succ]
  refine callH 4 rfl (by kernel_rfl) rfl (fun K hK => ?_)
  go_simp
  go_at_call 81
  refine (H0.out _).mono ?_
  rintro e wx ⟨rfl, rfl⟩
  refine hK.out _ _ hH (fun hH => ?_)
  clear hK K
  try simp only [Act.put, List.setIfInBounds_toArray, List.set_cons_zero, List.set_cons_succ]
  refine callH 9 rfl (by kernel_rfl) rfl (fun K hK => ?_)
  go_simp
  go_at_call 81
  refine (H1.out _).mono ?_
  rintro e wx ⟨rfl, rfl⟩
  refine hK.out _ _ hH (fun hH => ?_)
  clear hK K
  try simp only [Act.put, List.setIfInBounds_toArray, List.set_cons_zero, List.set_cons_succ]
  have sL := Str.new W0.drew 3 #[.int .i64 (cmpZ x.r y.r), .int .i64 (cmpZ x.a y.a)]
  have l0 := sL.cell 0 (v := .int .i64 (cmpZ x.r y.r)) rfl
  have l1 := sL.cell 1 (v := .int .i64 (cmpZ x.a y.a)) rfl
  have hal : Below W0.drew.heap.size W0.drew (W0.drew.alloc (.cells #[.int .i64 (cmpZ x.r y.r), .int .i64 (cmpZ x.a y.a)] 3)) := (Below.refl _ _).alloc (Nat.le_refl _) _
  clear sL
  refine callH 10 rfl (by kernel_rfl) rfl (fun K hK => ?_)
  go_simp
  refine hK.out _ _ ⟨below_cell hal hH.1, below_cell hal hH.2.1, below_cell hal hH.2.2.1, below_cell hal hH.2.2.2⟩ (fun hH => ?_)
  clear hK K
  try simp only [Act.put, List.setIfInBounds_toArray, List.set_cons_zero, List.set_cons_succ]
  refine callH 11 rfl (by kernel_rfl) rfl (fun K hK => ?_)
  go_simp
  go_at_call 80
  refine (H2.out _ _ l0 l1).mono ?_
  rintro e wx ⟨rfl, rfl⟩
  refine hK.out _ _ hH (fun hH => ?_)
  clear hK K
  try simp only [Act.put, List.setIfInBounds_toArray, List.set_cons_zero, List.set_cons_succ]
  refine takeH 12 (v := ?v12) rfl (by kernel_rfl) (by kernel_rfl) (by kernel_rfl) (fun _ _ _ h => h) hH rfl ?y12 ?r12
  case y12 => intro W hSw; go_simp; try with_reducible rfl
  try simp only [Act.put, List.setIfInBounds_toArray, List.set_cons_zero, List.set_cons_succ]
  refine wpAnyH_done (by kernel_rfl) ?_ _
  try simp only [Act.put]
  clear hH hal l0 l1
  go_wp2
  go_ret
  exact ⟨rfl, by rw [HW0.out]⟩

end Go.Proofs.Ytkndndcjchlpdaa
