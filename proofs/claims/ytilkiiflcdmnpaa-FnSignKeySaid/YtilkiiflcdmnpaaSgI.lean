/- What impl's functions of keys and signatures answer, each by a walk of its text: the answers are those of plain functions on numbers; no conditions of our own. -/
import Derived.Test.YtilkiiflcdmnpaaRows
import Derived.Test.YtilkiiflcdmnpaaBase
import Derived.Test.YtilkiiflcdmnpaaM2
import Derived.Test.YtilkiiflcdmnpaaSgM
import Derived.Test.YtilkiiflcdmnpaaC1
import Derived.Test.YtilkiiflcdmnpaaI2
import Derived.Deep.QuietTactic
import Derived.BigQuiet
namespace Go.Proofs.Ytilkiiflcdmnpaa
open Go.RowKit

theorem impl_isSignNumber (n : Int) (w : World) : Calls Try.prog 23 #[.int .i64 n] w fun e w' => e = .returned (.bool (signB n)) ∧ w = w' := by
  by_cases h : 1 ≤ n
  · have Hf := Lib.hid (show signB n = decide (n < 997) by unfold signB; rw [Bool.eq_iff_iff]; simp only [decide_eq_true_eq]; omega)
    go_enter Try.func23, Try.ntmps23
    go_wp2
    go_ret
    exact ⟨ret_bool Hf.out.symm, rfl⟩
  · have Hf := Lib.hid (show signB n = false by unfold signB; exact decide_eq_false (by omega))
    go_enter Try.func23, Try.ntmps23
    go_wp2
    go_ret
    exact ⟨ret_bool Hf.out.symm, rfl⟩

theorem impl_KeyPublic (n : Int) (w : World) : Calls Try.prog 15 #[.int .i64 n] w fun e w' => e = .returned (.int .i64 (kpZ n)) ∧ w = w' := by
  have h1 := impl_isSignNumber n w
  by_cases h : signB n = true
  · rw [h] at h1
    have hf : kpZ n = n * 5 % 997 := by unfold kpZ; rw [if_pos h]
    have hb := signB_bd h
    have Hf := Lib.hid hf; clear hf
    have H1 := Lib.hid h1; clear h1 h
    go_enter Try.func15, Try.ntmps15
    go_wp2_with fail
    refine H1.out.mono ?_
    rintro e w' ⟨rfl, rfl⟩
    go_wp2
    go_ret
    exact ⟨ret_int (by rw [Hf.out]), rfl⟩
  · rw [Bool.not_eq_true] at h
    rw [h] at h1
    have hf : kpZ n = 0 := by unfold kpZ; rw [if_neg (by simp [h])]
    have Hf := Lib.hid hf; clear hf
    have H1 := Lib.hid h1; clear h1 h
    go_enter Try.func15, Try.ntmps15
    go_wp2_with fail
    refine H1.out.mono ?_
    rintro e w' ⟨rfl, rfl⟩
    go_wp2
    go_ret
    exact ⟨ret_int Hf.out.symm, rfl⟩

theorem impl_SignMake (n d : Int) (w : World) : Calls Try.prog 12 #[.int .i64 n, .int .i64 d] w fun e w' => e = .returned (.int .i64 (smZ n d)) ∧ w = w' := by
  have h1 := impl_isSignNumber n w
  have h2 := impl_isDigest d w
  have hf : smZ n d = if signB n = true ∧ digB d = true then n * (d + 1) % 997 else 0 := rfl
  cases hn : signB n <;> cases hd : digB d <;> rw [hn] at h1 hf <;> rw [hd] at h2 hf <;> simp only [Bool.false_eq_true, and_false, false_and, and_self, if_true, if_false] at hf <;>
    (try have hb := prod_sign (p := n) (d := d) (by have := signB_bd hn; omega) (by have := signB_bd hn; omega) (digB_bd hd).1 (digB_bd hd).2) <;>
    (try have hb2 := digB_bd hd) <;>
    have Hf := Lib.hid hf <;> clear hf <;> have H1 := Lib.hid h1 <;> clear h1 hn <;> have H2 := Lib.hid h2 <;> clear h2 hd <;>
    go_enter Try.func12, Try.ntmps12 <;>
    go_wp2_with (first | (go_at_call 23; refine H1.out.mono ?_; rintro e w' ⟨rfl, rfl⟩) | (go_at_call 24; refine H2.out.mono ?_; rintro e w' ⟨rfl, rfl⟩))
  all_goals go_ret
  all_goals exact ⟨ret_int (by first | exact Hf.out.symm | (rw [Hf.out]; omega)), rfl⟩

theorem single_key (p s : Int) (w : World) : Calls Try.prog 55 #[.agg #[.int .i64 p, .int .i64 s]] w fun e w' => e = .returned (.int .i64 p) ∧ Below w.heap.size w w' := by
  go_enter Try.func55, Try.ntmps55
  go_wp2
  go_ret
  exact ⟨rfl, (Below.refl _ _).alloc (Nat.le_refl _) _⟩

theorem single_sum (p s : Int) (w : World) : Calls Try.prog 56 #[.agg #[.int .i64 p, .int .i64 s]] w fun e w' => e = .returned (.int .i64 s) ∧ Below w.heap.size w w' := by
  go_enter Try.func56, Try.ntmps56
  go_wp2
  go_ret
  exact ⟨rfl, (Below.refl _ _).alloc (Nat.le_refl _) _⟩

theorem asSS (v : Value) (w : World) : (Instr.typeAssert (.iface 40 v) 45 40 true).run Try.prog w = .ok (.tuple #[v, .bool true]) w := by kernel_rfl

theorem isComplete_single (p s : Int) (w : World) : Calls Try.prog 31 #[.iface 40 (.agg #[.int .i64 p, .int .i64 s])] w fun e w' => e = .returned (.bool (signB p && signB s)) ∧ Below w.heap.size w w' := by
  have h1 := fun w => impl_isSignNumber p w
  have h2 := fun w => impl_isSignNumber s w
  have hs := asSS
  cases hp : signB p with
  | false =>
    rw [hp] at h1
    have H1 := Lib.hid h1; clear h1 hp h2
    go_enter Try.func31, Try.ntmps31
    go_wp2_with fail
    refine (H1.out _).mono ?_
    rintro e w' ⟨rfl, rfl⟩
    go_wp2
    go_ret
    exact ⟨rfl, (Below.refl _ _).alloc (Nat.le_refl _) _⟩
  | true =>
    rw [hp] at h1
    have H1 := Lib.hid h1; clear h1 hp
    have H2 := Lib.hid h2; clear h2
    go_enter Try.func31, Try.ntmps31
    go_wp2_with fail
    refine (H1.out _).mono ?_
    rintro e w' ⟨rfl, rfl⟩
    go_wp2_with fail
    refine (H2.out _).mono ?_
    rintro e w' ⟨rfl, rfl⟩
    go_wp2
    go_ret
    exact ⟨rfl, (Below.refl _ _).alloc (Nat.le_refl _) _⟩

theorem sumS (n : Nat) (x : Value) (w : World) : (method (n + 1) 40 x "loop.example/dagconsensus/impl.sum").run Try.prog w = .ok (56, x) w := by kernel_rfl
theorem keyS (n : Nat) (x : Value) (w : World) : (method (n + 1) 40 x "loop.example/dagconsensus/impl.key").run Try.prog w = .ok (55, x) w := by kernel_rfl
theorem sumS' (x : Array Value) (w : World) : (callFunc 56 x).run Try.prog w = .ok (.enter 56 x) w := by kernel_rfl
theorem keyS' (x : Array Value) (w : World) : (callFunc 55 x).run Try.prog w = .ok (.enter 55 x) w := by kernel_rfl

theorem certifies_single (p d s : Int) (w : World) : Calls Try.prog 27 #[.iface 40 (.agg #[.int .i64 p, .int .i64 s]), .int .i64 d] w fun e w' => e = .returned (.bool (scB p d s)) ∧ Below w.heap.size w w' := by
  have h1 := isComplete_single p s w
  have h2 := fun w => impl_isDigest d w
  cases hc : (signB p && signB s) with
  | false =>
    have hf : scB p d s = false := by unfold scB; cases hp : signB p <;> cases hs : signB s <;> simp_all
    rw [hc] at h1
    have Hf := Lib.hid hf; clear hf
    have H1 := Lib.hid h1; clear h1 hc
    go_enter Try.func27, Try.ntmps27
    go_wp2_with fail
    refine H1.out.mono ?_
    rintro e w1 ⟨rfl, hb1⟩
    go_wp2
    go_ret
    exact ⟨ret_bool Hf.out.symm, hb1⟩
  | true =>
    rw [hc] at h1
    rw [Bool.and_eq_true] at hc
    obtain ⟨hp1, hp2⟩ := signB_bd hc.1
    obtain ⟨hs1, hs2⟩ := signB_bd hc.2
    cases hd : digB d with
    | false =>
      rw [hd] at h2
      have Hf := Lib.hid (show scB p d s = false by unfold scB; simp [hd])
      have H1 := Lib.hid h1; clear h1 hc
      have H2 := Lib.hid h2; clear h2 hd
      go_enter Try.func27, Try.ntmps27
      go_wp2_with fail
      refine H1.out.mono ?_
      rintro e w1 ⟨rfl, hb1⟩
      go_wp2_with fail
      refine (H2.out _).mono ?_
      rintro e w2 ⟨rfl, rfl⟩
      go_wp2
      go_ret
      exact ⟨ret_bool Hf.out.symm, hb1⟩
    | true =>
      rw [hd] at h2
      have hf : scB p d s = equB p d s := by unfold scB; rw [hc.1, hc.2, hd]; rfl
      obtain ⟨hd1, hd2⟩ := digB_bd hd
      have hpr := prod_sign (p := p) (d := d) (by omega) (by omega) hd1 hd2
      have Hf := Lib.hid hf; clear hf
      have H1 := Lib.hid h1; clear h1 hc
      have H2 := Lib.hid h2; clear h2 hd
      have i1 := sumS
      have i2 := keyS
      have i3 := sumS'
      have i4 := keyS'
      go_enter Try.func27, Try.ntmps27
      go_wp2_with fail
      refine H1.out.mono ?_
      rintro e w1 ⟨rfl, hb1⟩
      go_wp2_with fail
      refine (H2.out _).mono ?_
      rintro e w2 ⟨rfl, rfl⟩
      go_wp2_with fail
      refine (single_sum p s _).mono ?_
      rintro e w3 ⟨rfl, hb3⟩
      go_wp2_with fail
      refine (single_key p s _).mono ?_
      rintro e w4 ⟨rfl, hb4⟩
      go_wp2
      go_ret
      have hs1 := hb1.size
      have hs3 := hb3.size
      exact ⟨ret_bool (by rw [Hf.out]; unfold equB; rw [Bool.eq_iff_iff]; simp only [beq_iff_eq, decide_eq_true_eq]), below_step (below_step hb1 hs1 hb3) (by omega) hb4⟩

theorem impl_SignCheck (p d s : Int) (w : World) : Calls Try.prog 14 #[.int .i64 p, .int .i64 d, .int .i64 s] w fun e w' => e = .returned (.bool (scB p d s)) ∧ Below w.heap.size w w' := by
  have hm : ∀ x w, (Instr.makeInterface 40 x).run Try.prog w = .ok (.iface 40 x) w := fun x w => run_makeInterface w 40 x (by kernel_rfl)
  go_enter Try.func14, Try.ntmps14
  go_wp2_with fail
  refine (certifies_single p d s _).mono ?_
  rintro e w1 ⟨rfl, hb1⟩
  go_wp2
  go_ret
  exact ⟨rfl, hb1⟩

end Go.Proofs.Ytilkiiflcdmnpaa
