/- What spec's functions of keys and signatures answer, each by a walk of its text: the answers are those of plain functions on numbers; no conditions of our own. -/
import Derived.Test.YtilkiiflcdmnpabRows
import Derived.Test.YtilkiiflcdmnpabBase
import Derived.Test.YtilkiiflcdmnpabM2
import Derived.Test.YtilkiiflcdmnpabSgM
import Derived.Test.YtilkiiflcdmnpabC1
import Derived.Test.YtilkiiflcdmnpabC2
import Derived.Deep.QuietTactic
import Derived.BigQuiet
namespace Go.Proofs.Ytilkiiflcdmnpab
open Go.RowKit

theorem spec_l4Key (n : Int) (w : World) : Calls Try.prog 56 #[.int .i64 n] w fun e w' => e = .returned (.bool (signB n)) ∧ w = w' := by
  go_enter Try.func56, Try.ntmps56
  go_wp2_with (go_at_call 52; refine (spec_l6In _ _ _ _).mono ?_; rintro e w' ⟨rfl, rfl⟩)
  go_ret
  exact ⟨ret_bool (by unfold signB; simp), rfl⟩

theorem spec_KeyPublic (n : Int) (w : World) : Calls Try.prog 57 #[.int .i64 n] w fun e w' => e = .returned (.int .i64 (kpZ n)) ∧ w = w' := by
  have h1 := spec_l4Key n w
  by_cases h : signB n = true
  · rw [h] at h1
    have hf : kpZ n = n * 5 % 997 := by unfold kpZ; rw [if_pos h]
    have hb := signB_bd h
    have Hf := Lib.hid hf; clear hf
    have H1 := Lib.hid h1; clear h1 h
    go_enter Try.func57, Try.ntmps57
    go_wp2_with fail
    refine H1.out.mono ?_
    rintro e w' ⟨rfl, rfl⟩
    go_wp2
    go_ret
    exact ⟨ret_int (by rw [Hf.out]), rfl⟩
  · rw [Bool.not_eq_true] at h
    rw [h] at h1
    have hf : kpZ n = 0 := by unfold kpZ; rw [if_neg (by simp [h])]
    have Hf := Lib.hid hf; clear hf
    have H1 := Lib.hid h1; clear h1 h
    go_enter Try.func57, Try.ntmps57
    go_wp2_with fail
    refine H1.out.mono ?_
    rintro e w' ⟨rfl, rfl⟩
    go_wp2
    go_ret
    exact ⟨ret_int Hf.out.symm, rfl⟩

theorem spec_SignMake (n d : Int) (w : World) : Calls Try.prog 34 #[.int .i64 n, .int .i64 d] w fun e w' => e = .returned (.int .i64 (smZ n d)) ∧ w = w' := by
  have h1 := spec_l4Key n w
  have h2 := spec_l2Digest d w
  have hf : smZ n d = if signB n = true ∧ digB d = true then n * (d + 1) % 997 else 0 := rfl
  cases hn : signB n <;> cases hd : digB d <;> rw [hn] at h1 hf <;> rw [hd] at h2 hf <;> simp only [Bool.false_eq_true, and_false, false_and, and_self, if_true, if_false] at hf <;>
    (try have hb := prod_sign (p := n) (d := d) (by have := signB_bd hn; omega) (by have := signB_bd hn; omega) (digB_bd hd).1 (digB_bd hd).2) <;>
    (try have hb2 := digB_bd hd) <;>
    have Hf := Lib.hid hf <;> clear hf <;> have H1 := Lib.hid h1 <;> clear h1 hn <;> have H2 := Lib.hid h2 <;> clear h2 hd <;>
    go_enter Try.func34, Try.ntmps34 <;>
    go_wp2_with (first | (go_at_call 56; refine H1.out.mono ?_; rintro e w' ⟨rfl, rfl⟩) | (go_at_call 40; refine H2.out.mono ?_; rintro e w' ⟨rfl, rfl⟩))
  all_goals go_ret
  all_goals exact ⟨ret_int (by first | exact Hf.out.symm | (rw [Hf.out]; omega)), rfl⟩

theorem spec_l4Check (p d s : Int) (hp0 : 0 ≤ p) (hp : p ≤ 996) (hd0 : 0 ≤ d) (hd : d ≤ 990) (hs0 : 0 ≤ s) (hs : s ≤ 996) (w : World) : Calls Try.prog 53 #[.int .i64 p, .int .i64 d, .int .i64 s] w fun e w' => e = .returned (.bool (equB p d s)) ∧ w = w' := by
  have hb := prod_sign hp0 (by omega) hd0 hd
  go_enter Try.func53, Try.ntmps53
  go_wp2
  go_ret
  exact ⟨ret_bool (by unfold equB; rw [Bool.eq_iff_iff]; simp only [beq_iff_eq, decide_eq_true_eq]), rfl⟩

theorem spec_SignCheck (p d s : Int) (w : World) : Calls Try.prog 41 #[.int .i64 p, .int .i64 d, .int .i64 s] w fun e w' => e = .returned (.bool (scB p d s)) ∧ w = w' := by
  have h1 := spec_l4Key p w
  have h2 := spec_l2Digest d w
  have h3 := spec_l4Key s w
  have hf : scB p d s = (signB p && (digB d && (signB s && equB p d s))) := rfl
  cases hp : signB p <;> cases hd : digB d <;> cases hs : signB s <;> rw [hp] at h1 hf <;> rw [hd] at h2 hf <;> rw [hs] at h3 hf <;> simp only [Bool.true_and, Bool.false_and] at hf <;>
    (try have h4 := spec_l4Check p d s (by have := signB_bd hp; omega) (by have := signB_bd hp; omega) (digB_bd hd).1 (digB_bd hd).2 (by have := signB_bd hs; omega) (by have := signB_bd hs; omega) w) <;>
    (try have H4 := Lib.hid h4) <;> (try clear h4) <;>
    have Hf := Lib.hid hf <;> clear hf <;> have H1 := Lib.hid h1 <;> clear h1 hp <;> have H2 := Lib.hid h2 <;> clear h2 hd <;> have H3 := Lib.hid h3 <;> clear h3 hs <;>
    go_enter Try.func41, Try.ntmps41 <;>
    go_wp2_with (first | (go_at_call 56; first | (refine H1.out.mono ?_; rintro e w' ⟨rfl, rfl⟩) | (refine H3.out.mono ?_; rintro e w' ⟨rfl, rfl⟩)) | (go_at_call 40; refine H2.out.mono ?_; rintro e w' ⟨rfl, rfl⟩) | (go_at_call 53; refine H4.out.mono ?_; rintro e w' ⟨rfl, rfl⟩))
  all_goals go_ret
  all_goals exact ⟨ret_bool Hf.out.symm, rfl⟩

end Go.Proofs.Ytilkiiflcdmnpab
