/- impl's small functions of votes and tallies, each by a walk of its text; conditions: lists are shorter than 2^40, and where the text asks it, the committee is valid. -/
import Derived.Test.YthhikgibmmhcjaaRows
import Derived.Test.YthhikgibmmhcjaaVt1
import Derived.Test.YthhikgibmmhcjaaC1
import Derived.Test.YthhikgibmmhcjaaL1
import Derived.Test.YthhikgibmmhcjaaHeld
import Derived.Deep.QuietTactic
import Derived.BigQuiet
namespace Go.Proofs.Ythhikgibmmhcjaa
open Go.RowKit

theorem vt_isRound (n : Int) (w : World) : Calls Try.prog 48 #[.int .i64 n] w fun e w' => e = .returned (.bool (vtRB n)) ∧ w = w' := by
  by_cases h : 0 ≤ n
  · have Hf := Lib.hid (show vtRB n = decide (n ≤ 30) by unfold vtRB; rw [Bool.eq_iff_iff]; simp only [decide_eq_true_eq]; omega)
    go_enter Try.func48, Try.ntmps48
    go_wp2
    go_ret
    exact ⟨ret_bool Hf.out.symm, rfl⟩
  · have Hf := Lib.hid (show vtRB n = false by unfold vtRB; exact decide_eq_false (by omega))
    go_enter Try.func48, Try.ntmps48
    go_wp2
    go_ret
    exact ⟨ret_bool Hf.out.symm, rfl⟩

theorem vt_isDigest (n : Int) (w : World) : Calls Try.prog 49 #[.int .i64 n] w fun e w' => e = .returned (.bool (digB n)) ∧ w = w' := by
  by_cases h : 0 ≤ n
  · have Hf := Lib.hid (show digB n = decide (n < 991) by unfold digB; rw [Bool.eq_iff_iff]; simp only [decide_eq_true_eq]; omega)
    go_enter Try.func49, Try.ntmps49
    go_wp2
    go_ret
    exact ⟨ret_bool Hf.out.symm, rfl⟩
  · have Hf := Lib.hid (show digB n = false by unfold digB; exact decide_eq_false (by omega))
    go_enter Try.func49, Try.ntmps49
    go_wp2
    go_ret
    exact ⟨ret_bool Hf.out.symm, rfl⟩

theorem vote_valid (r a d : Int) (w : World) :
    Calls Try.prog 30 #[.agg #[.int .i64 r, .int .i64 a, .int .i64 d]] w fun e w' => e = .returned (.bool (voteB ⟨r, a, d⟩)) ∧ Below w.heap.size w w' := by
  have hb0 : Below w.heap.size w (w.alloc (.cells #[.int .i64 r, .int .i64 a, .int .i64 d] 27)) := (Below.refl _ _).alloc (Nat.le_refl _) _
  have s0 := Str.new w 27 #[.int .i64 r, .int .i64 a, .int .i64 d]
  have k0 := s0.cell 0 (v := .int .i64 r) rfl
  have k1 := s0.cell 1 (v := .int .i64 a) rfl
  have k2 := s0.cell 2 (v := .int .i64 d) rfl
  have H1 := Lib.hid (fun W => vt_isRound r W)
  have H4 := Lib.hid (fun W => vt_isDigest d W)
  have Hb0 := Lib.hid hb0; clear hb0 s0
  have Hres := Lib.hid (show voteB ⟨r, a, d⟩ = (vtRB r && (vtAB a && digB d)) from rfl)
  go_enter Try.func30, Try.ntmps30
  go_wp2_with fail
  generalize w.alloc (.cells #[.int .i64 r, .int .i64 a, .int .i64 d] 27) = W0 at *
  refine (H1.out W0).mono ?_
  rintro e w1 ⟨rfl, rfl⟩
  cases h1 : vtRB r with
  | false =>
    go_wp2
    go_ret
    exact ⟨ret_bool (by rw [Hres.out, h1]; rfl), Hb0.out⟩
  | true =>
  by_cases ha : 0 ≤ a
  case neg =>
    have h2 : vtAB a = false := decide_eq_false (by omega)
    go_wp2
    go_ret
    exact ⟨ret_bool (by rw [Hres.out, h1, h2]; rfl), Hb0.out⟩
  by_cases ha' : a < 7
  case neg =>
    have h2 : vtAB a = false := decide_eq_false (by omega)
    go_wp2
    go_ret
    exact ⟨ret_bool (by rw [Hres.out, h1, h2]; rfl), Hb0.out⟩
  have h2 : vtAB a = true := decide_eq_true (by omega)
  go_wp2_with fail
  refine (H4.out W0).mono ?_
  rintro e w1 ⟨rfl, rfl⟩
  go_wp2
  go_ret
  exact ⟨ret_bool (by rw [Hres.out, h1, h2]; rfl), Hb0.out⟩

theorem vote_place (r a d : Int) (w : World) :
    Calls Try.prog 32 #[.agg #[.int .i64 r, .int .i64 a, .int .i64 d]] w fun e w' => e = .returned (.agg #[.int .i64 r, .int .i64 a]) ∧ Below w.heap.size w w' := by
  have hb0 : Below w.heap.size w ((w.alloc (.cells #[.int .i64 r, .int .i64 a, .int .i64 d] 27)).alloc (.cells #[.int .i64 0, .int .i64 0] 61)) := ((Below.refl _ w).alloc (Nat.le_refl _) _).alloc (by simp) _
  have s0 := (Str.new w 27 #[.int .i64 r, .int .i64 a, .int .i64 d]).alloc (.cells #[.int .i64 0, .int .i64 0] 61)
  have s1 := Str.new (w.alloc (.cells #[.int .i64 r, .int .i64 a, .int .i64 d] 27)) 61 #[.int .i64 0, .int .i64 0]
  simp only [World.size_alloc] at s1
  have k0 := s0.cell 0 (v := .int .i64 r) rfl
  have k1 := s0.cell 1 (v := .int .i64 a) rfl
  have g0 := s1.frozen 0
  have g1 := s1.frozen 1
  have j0 := s1.cell 0 (v := .int .i64 0) rfl
  have j1 := s1.cell 1 (v := .int .i64 0) rfl
  have u := (s1.set 0 (.int .i64 r)).set 1 (.int .i64 a)
  have e0 := u.cell 0 (v := .int .i64 r) rfl
  have e1 := u.cell 1 (v := .int .i64 a) rfl
  clear u s0 s1
  clear hb0
  go_enter Try.func32, Try.ntmps32
  go_wp2
  refine bodyPost_ret (v := .agg #[.int .i64 r, .int .i64 a]) (by simp [results, Try.f32, go_sem]) rfl ?_
  exact ⟨rfl, ((Below.refl _ w).alloc (Nat.le_refl _) _).alloc (by simp) _⟩

