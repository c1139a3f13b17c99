/- The coin's small functions, of both sides, each by a walk of its text; no conditions but that the numbers are ints. -/
import Derived.Test.YtkndndcjchlpdabRows
import Derived.Test.YtkndndcjchlpdabCo1
import Derived.Test.YtkndndcjchlpdabC1
import Derived.Test.YtkndndcjchlpdabI3
import Derived.Deep.QuietTactic
import Derived.BigQuiet
namespace Go.Proofs.Ytkndndcjchlpdab
open Go.RowKit

theorem impl_isThreshold (n : Int) (w : World) : Calls Try.prog 33 #[.int .i64 n] w fun e w' => e = .returned (.bool (decide (1 ≤ n ∧ n ≤ 7))) ∧ w = w' := by
  by_cases h : 1 ≤ n
  · go_enter Try.func33, Try.ntmps33
    go_wp2
    go_ret
    exact ⟨ret_bool (by rw [Bool.eq_iff_iff]; simp only [decide_eq_true_eq]; omega), rfl⟩
  · go_enter Try.func33, Try.ntmps33
    go_wp2
    go_ret
    exact ⟨ret_bool (by rw [Bool.eq_iff_iff]; simp only [Bool.and_eq_true, decide_eq_true_eq, Bool.false_eq_true, false_iff]; omega), rfl⟩

theorem impl_isWave (n : Int) (w : World) : Calls Try.prog 52 #[.int .i64 n] w fun e w' => e = .returned (.bool (decide (1 ≤ n ∧ n ≤ 15))) ∧ w = w' := by
  by_cases h : 1 ≤ n
  · go_enter Try.func52, Try.ntmps52
    go_wp2
    go_ret
    exact ⟨ret_bool (by rw [Bool.eq_iff_iff]; simp only [decide_eq_true_eq]; omega), rfl⟩
  · go_enter Try.func52, Try.ntmps52
    go_wp2
    go_ret
    exact ⟨ret_bool (by rw [Bool.eq_iff_iff]; simp only [Bool.and_eq_true, decide_eq_true_eq, Bool.false_eq_true, false_iff]; omega), rfl⟩

theorem impl_numberOf (n : Int) (w : World) (h0 : -1 ≤ n) (h1 : n ≤ 100) : Calls Try.prog 55 #[.int .i64 n] w fun e w' => e = .returned (.int .i64 (n + 1)) ∧ w = w' := by
  go_enter Try.func55, Try.ntmps55
  go_wp2
  go_ret
  exact ⟨rfl, rfl⟩

theorem impl_CoinMake (s wv : Int) (w : World) : Calls Try.prog 25 #[.int .i64 s, .int .i64 wv] w fun e w' => e = .returned (.int .i64 (cmZ s wv)) ∧ w = w' := by
  have HS := Lib.hid (impl_isSymbol s w)
  have HW := Lib.hid (impl_isWave wv w)
  cases h1 : symB s with
  | false =>
    rw [h1] at HS
    have Hf := Lib.hid (cmZ_no (s := s) (wv := wv) (by simp [h1]))
    clear h1
    go_enter Try.func25, Try.ntmps25
    go_wp2_with fail
    refine HS.out.mono ?_
    rintro e w' ⟨rfl, rfl⟩
    go_wp2
    go_ret
    exact ⟨ret_int Hf.out.symm, rfl⟩
  | true =>
    rw [h1] at HS
    by_cases h2 : 1 ≤ wv ∧ wv ≤ 15
    · rw [decide_eq_true h2] at HW
      obtain ⟨h3, h4⟩ := h2
      have Hf := Lib.hid (cmZ_yes h1 h3 h4)
      obtain ⟨h5, h6⟩ := symB_bd h1
      have hm := cm_bd h5 h6 h3 h4
      clear h1
      generalize hq : s * (7 * wv + 1) = q at *
      obtain ⟨h7, h8⟩ := hm
      go_enter Try.func25, Try.ntmps25
      go_wp2_with fail
      refine HS.out.mono ?_
      rintro e w' ⟨rfl, rfl⟩
      go_wp2_with fail
      refine HW.out.mono ?_
      rintro e w' ⟨rfl, rfl⟩
      go_wp2
      go_ret
      exact ⟨ret_int Hf.out.symm, rfl⟩
    · rw [decide_eq_false h2] at HW
      have Hf := Lib.hid (cmZ_no (s := s) (wv := wv) (fun h => h2 h.2))
      clear h1 h2
      go_enter Try.func25, Try.ntmps25
      go_wp2_with fail
      refine HS.out.mono ?_
      rintro e w' ⟨rfl, rfl⟩
      go_wp2_with fail
      refine HW.out.mono ?_
      rintro e w' ⟨rfl, rfl⟩
      go_wp2
      go_ret
      exact ⟨ret_int Hf.out.symm, rfl⟩

theorem impl_CoinValue (s wv : Int) (w : World) : Calls Try.prog 30 #[.int .i64 s, .int .i64 wv] w fun e w' => e = .returned (.int .i64 (cmZ s wv)) ∧ w = w' := by
  have H := Lib.hid (impl_CoinMake s wv w)
  go_enter Try.func30, Try.ntmps30
  go_wp2_with fail
  refine H.out.mono ?_
  rintro e w' ⟨rfl, rfl⟩
  go_wp2
  go_ret
  exact ⟨rfl, rfl⟩

theorem spec_CoinMake (s wv : Int) (w : World) : Calls Try.prog 24 #[.int .i64 s, .int .i64 wv] w fun e w' => e = .returned (.int .i64 (cmZ s wv)) ∧ w = w' := by
  have HS := Lib.hid (spec_l6In s 0 250 w)
  have HW := Lib.hid (spec_l6In wv 1 15 w)
  by_cases h1 : 0 ≤ s ∧ s ≤ 250
  · rw [decide_eq_true h1] at HS
    by_cases h2 : 1 ≤ wv ∧ wv ≤ 15
    · rw [decide_eq_true h2] at HW
      obtain ⟨h3, h4⟩ := h2
      obtain ⟨h5, h6⟩ := h1
      have Hf := Lib.hid (cmZ_yes (symB_yes ⟨h5, h6⟩) h3 h4)
      have hm := cm_bd h5 h6 h3 h4
      generalize hq : s * (7 * wv + 1) = q at *
      obtain ⟨h7, h8⟩ := hm
      go_enter Try.func24, Try.ntmps24
      go_wp2_with fail
      refine HS.out.mono ?_
      rintro e w' ⟨rfl, rfl⟩
      go_wp2_with fail
      refine HW.out.mono ?_
      rintro e w' ⟨rfl, rfl⟩
      go_wp2
      go_ret
      exact ⟨ret_int Hf.out.symm, rfl⟩
    · rw [decide_eq_false h2] at HW
      have Hf := Lib.hid (cmZ_no (s := s) (wv := wv) (fun h => h2 h.2))
      clear h1 h2
      go_enter Try.func24, Try.ntmps24
      go_wp2_with fail
      refine HS.out.mono ?_
      rintro e w' ⟨rfl, rfl⟩
      go_wp2_with fail
      refine HW.out.mono ?_
      rintro e w' ⟨rfl, rfl⟩
      go_wp2
      go_ret
      exact ⟨ret_int Hf.out.symm, rfl⟩
  · rw [decide_eq_false h1] at HS
    have Hf := Lib.hid (cmZ_no (s := s) (wv := wv) (fun h => by rw [symB_no h1] at h; simp at h))
    clear h1
    go_enter Try.func24, Try.ntmps24
    go_wp2_with fail
    refine HS.out.mono ?_
    rintro e w' ⟨rfl, rfl⟩
    go_wp2
    go_ret
    exact ⟨ret_int Hf.out.symm, rfl⟩

theorem spec_CoinValue (s wv : Int) (w : World) : Calls Try.prog 29 #[.int .i64 s, .int .i64 wv] w fun e w' => e = .returned (.int .i64 (cmZ s wv)) ∧ w = w' := by
  have H := Lib.hid (spec_CoinMake s wv w)
  go_enter Try.func29, Try.ntmps29
  go_wp2_with fail
  refine H.out.mono ?_
  rintro e w' ⟨rfl, rfl⟩
  go_wp2
  go_ret
  exact ⟨rfl, rfl⟩

end Go.Proofs.Ytkndndcjchlpdab
