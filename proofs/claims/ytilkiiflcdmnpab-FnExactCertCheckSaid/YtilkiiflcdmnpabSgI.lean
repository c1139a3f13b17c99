/- What impl's functions of keys and signatures answer, each by a walk of its text: the answers are those of plain functions on numbers; no conditions of our own. -/
import Derived.Test.YtilkiiflcdmnpabRows
import Derived.Test.YtilkiiflcdmnpabBase
import Derived.Test.YtilkiiflcdmnpabM2
import Derived.Test.YtilkiiflcdmnpabSgM
import Derived.Test.YtilkiiflcdmnpabC1
import Derived.Test.YtilkiiflcdmnpabI2
import Derived.Deep.QuietTactic
import Derived.BigQuiet
namespace Go.Proofs.Ytilkiiflcdmnpab
open Go.RowKit

theorem impl_isSignNumber (n : Int) (w : World) : Calls Try.prog 66 #[.int .i64 n] w fun e w' => e = .returned (.bool (signB n)) ∧ w = w' := by
  by_cases h : 1 ≤ n
  · have Hf := Lib.hid (show signB n = decide (n < 997) by unfold signB; rw [Bool.eq_iff_iff]; simp only [decide_eq_true_eq]; omega)
    go_enter Try.func66, Try.ntmps66
    go_wp2
    go_ret
    exact ⟨ret_bool Hf.out.symm, rfl⟩
  · have Hf := Lib.hid (show signB n = false by unfold signB; exact decide_eq_false (by omega))
    go_enter Try.func66, Try.ntmps66
    go_wp2
    go_ret
    exact ⟨ret_bool Hf.out.symm, rfl⟩

theorem single_key (p s : Int) (w : World) : Calls Try.prog 88 #[.agg #[.int .i64 p, .int .i64 s]] w fun e w' => e = .returned (.int .i64 p) ∧ Below w.heap.size w w' := by
  go_enter Try.func88, Try.ntmps88
  go_wp2
  go_ret
  exact ⟨rfl, (Below.refl _ _).alloc (Nat.le_refl _) _⟩

theorem single_sum (p s : Int) (w : World) : Calls Try.prog 89 #[.agg #[.int .i64 p, .int .i64 s]] w fun e w' => e = .returned (.int .i64 s) ∧ Below w.heap.size w w' := by
  go_enter Try.func89, Try.ntmps89
  go_wp2
  go_ret
  exact ⟨rfl, (Below.refl _ _).alloc (Nat.le_refl _) _⟩

theorem asSS (v : Value) (w : World) : (Instr.typeAssert (.iface 67 v) 69 67 true).run Try.prog w = .ok (.tuple #[v, .bool true]) w := by kernel_rfl

theorem isComplete_single (p s : Int) (w : World) : Calls Try.prog 60 #[.iface 67 (.agg #[.int .i64 p, .int .i64 s])] w fun e w' => e = .returned (.bool (signB p && signB s)) ∧ Below w.heap.size w w' := by
  have h1 := fun w => impl_isSignNumber p w
  have h2 := fun w => impl_isSignNumber s w
  have hs := asSS
  cases hp : signB p with
  | false =>
    rw [hp] at h1
    have H1 := Lib.hid h1; clear h1 hp h2
    go_enter Try.func60, Try.ntmps60
    go_wp2_with fail
    refine (H1.out _).mono ?_
    rintro e w' ⟨rfl, rfl⟩
    go_wp2
    go_ret
    exact ⟨rfl, (Below.refl _ _).alloc (Nat.le_refl _) _⟩
  | true =>
    rw [hp] at h1
    have H1 := Lib.hid h1; clear h1 hp
    have H2 := Lib.hid h2; clear h2
    go_enter Try.func60, Try.ntmps60
    go_wp2_with fail
    refine (H1.out _).mono ?_
    rintro e w' ⟨rfl, rfl⟩
    go_wp2_with fail
    refine (H2.out _).mono ?_
    rintro e w' ⟨rfl, rfl⟩
    go_wp2
    go_ret
    exact ⟨rfl, (Below.refl _ _).alloc (Nat.le_refl _) _⟩

theorem sumS (n : Nat) (x : Value) (w : World) : (method (n + 1) 67 x "loop.example/dagconsensus/impl.sum").run Try.prog w = .ok (89, x) w := by kernel_rfl
theorem keyS (n : Nat) (x : Value) (w : World) : (method (n + 1) 67 x "loop.example/dagconsensus/impl.key").run Try.prog w = .ok (88, x) w := by kernel_rfl
theorem sumS' (x : Array Value) (w : World) : (callFunc 89 x).run Try.prog w = .ok (.enter 89 x) w := by kernel_rfl
theorem keyS' (x : Array Value) (w : World) : (callFunc 88 x).run Try.prog w = .ok (.enter 88 x) w := by kernel_rfl

theorem certifies_single (p d s : Int) (w : World) : Calls Try.prog 44 #[.iface 67 (.agg #[.int .i64 p, .int .i64 s]), .int .i64 d] w fun e w' => e = .returned (.bool (scB p d s)) ∧ Below w.heap.size w w' := by
  have h1 := isComplete_single p s w
  have h2 := fun w => impl_isDigest d w
  cases hc : (signB p && signB s) with
  | false =>
    have hf : scB p d s = false := by unfold scB; cases hp : signB p <;> cases hs : signB s <;> simp_all
    rw [hc] at h1
    have Hf := Lib.hid hf; clear hf
    have H1 := Lib.hid h1; clear h1 hc
    go_enter Try.func44, Try.ntmps44
    go_wp2_with fail
    refine H1.out.mono ?_
    rintro e w1 ⟨rfl, hb1⟩
    go_wp2
    go_ret
    exact ⟨ret_bool Hf.out.symm, hb1⟩
  | true =>
    rw [hc] at h1
    rw [Bool.and_eq_true] at hc
    obtain ⟨hp1, hp2⟩ := signB_bd hc.1
    obtain ⟨hs1, hs2⟩ := signB_bd hc.2
    cases hd : digB d with
    | false =>
      rw [hd] at h2
      have Hf := Lib.hid (show scB p d s = false by unfold scB; simp [hd])
      have H1 := Lib.hid h1; clear h1 hc
      have H2 := Lib.hid h2; clear h2 hd
      go_enter Try.func44, Try.ntmps44
      go_wp2_with fail
      refine H1.out.mono ?_
      rintro e w1 ⟨rfl, hb1⟩
      go_wp2_with fail
      refine (H2.out _).mono ?_
      rintro e w2 ⟨rfl, rfl⟩
      go_wp2
      go_ret
      exact ⟨ret_bool Hf.out.symm, hb1⟩
    | true =>
      rw [hd] at h2
      have hf : scB p d s = equB p d s := by unfold scB; rw [hc.1, hc.2, hd]; rfl
      obtain ⟨hd1, hd2⟩ := digB_bd hd
      have hpr := prod_sign (p := p) (d := d) (by omega) (by omega) hd1 hd2
      have Hf := Lib.hid hf; clear hf
      have H1 := Lib.hid h1; clear h1 hc
      have H2 := Lib.hid h2; clear h2 hd
      have i1 := sumS
      have i2 := keyS
      have i3 := sumS'
      have i4 := keyS'
      go_enter Try.func44, Try.ntmps44
      go_wp2_with fail
      refine H1.out.mono ?_
      rintro e w1 ⟨rfl, hb1⟩
      go_wp2_with fail
      refine (H2.out _).mono ?_
      rintro e w2 ⟨rfl, rfl⟩
      go_wp2_with fail
      refine (single_sum p s _).mono ?_
      rintro e w3 ⟨rfl, hb3⟩
      go_wp2_with fail
      refine (single_key p s _).mono ?_
      rintro e w4 ⟨rfl, hb4⟩
      go_wp2
      go_ret
      have hs1 := hb1.size
      have hs3 := hb3.size
      exact ⟨ret_bool (by rw [Hf.out]; unfold equB; rw [Bool.eq_iff_iff]; simp only [beq_iff_eq, decide_eq_true_eq]), below_step (below_step hb1 hs1 hb3) (by omega) hb4⟩

theorem impl_SignCheck (p d s : Int) (w : World) : Calls Try.prog 38 #[.int .i64 p, .int .i64 d, .int .i64 s] w fun e w' => e = .returned (.bool (scB p d s)) ∧ Below w.heap.size w w' := by
  have hm : ∀ x w, (Instr.makeInterface 67 x).run Try.prog w = .ok (.iface 67 x) w := fun x w => run_makeInterface w 67 x (by kernel_rfl)
  go_enter Try.func38, Try.ntmps38
  go_wp2_with fail
  refine (certifies_single p d s _).mono ?_
  rintro e w1 ⟨rfl, hb1⟩
  go_wp2
  go_ret
  exact ⟨rfl, hb1⟩

end Go.Proofs.Ytilkiiflcdmnpab
