/- What the functions of committees answer, each by a walk of its text: the answers are those of plain functions on lists; conditions: a list that is read has fewer than 2^40 elements. -/
import Derived.Test.YtkndndcjchlpdabRows
import Derived.Test.YtkndndcjchlpdabBase
import Derived.Deep.QuietTactic
import Derived.BigQuiet
namespace Go.Proofs.Ytkndndcjchlpdab
open Go.RowKit

theorem spec_l6In (n lo hi : Int) (w : World) : Calls Try.prog 45 #[.int .i64 n, .int .i64 lo, .int .i64 hi] w fun e w' => e = .returned (.bool (decide (lo ≤ n ∧ n ≤ hi))) ∧ w = w' := by
  by_cases h1 : lo ≤ n
  · go_enter Try.func45, Try.ntmps45
    go_wp2
    go_ret
    exact ⟨ret_bool (by simp [h1]), rfl⟩
  · go_enter Try.func45, Try.ntmps45
    go_wp2
    go_ret
    exact ⟨ret_bool (by simp; omega), rfl⟩
theorem spec_l6In_yes {n lo hi : Int} (h : lo ≤ n ∧ n ≤ hi) (w : World) : Calls Try.prog 45 #[.int .i64 n, .int .i64 lo, .int .i64 hi] w fun e w' => e = .returned (.bool true) ∧ w = w' := by
  have := spec_l6In n lo hi w
  rwa [decide_eq_true h] at this
theorem spec_l6In_no {n lo hi : Int} (h : ¬ (lo ≤ n ∧ n ≤ hi)) (w : World) : Calls Try.prog 45 #[.int .i64 n, .int .i64 lo, .int .i64 hi] w fun e w' => e = .returned (.bool false) ∧ w = w' := by
  have := spec_l6In n lo hi w
  rwa [decide_eq_false h] at this

theorem committee_valid (a : Option Addr) (cap : Nat) (c : List Int) (w : World) (hbig : c.length ≤ 1099511627776) (hc : IntsAt w a c) :
    Calls Try.prog 64 #[.slice a c.length cap] w fun e w' => e = .returned (.bool (validB c)) ∧ w = w' := by
  by_cases hl : 1 ≤ c.length ∧ c.length ≤ 7
  · obtain ⟨h1, h2⟩ := hl
    rcases hc with rfl | ⟨b, off, rfl, hb, hc⟩
    · simp at h1
    go_enter Try.func64, Try.ntmps64
    go_wp2
    go_loop [15] (fun i => ∃ k : Nat, k ≤ c.length ∧ i = .int .i64 k ∧ Pre goodB c k) (fun i => c.length - (intOf i).toNat)
    case atStart => exact ⟨0, by omega, rfl, pre_zero _ _⟩
    case round =>
      obtain ⟨k, hk, rfl, hg⟩ := hrel
      by_cases hlt : k < c.length
      · have hcell := hc k hlt
        have Hc := Lib.hid hc; clear hc
        by_cases h : 1 ≤ c[k] ∧ c[k] ≤ 9
        · obtain ⟨g1, g2⟩ := h
          go_wp2
          go_round
          case rel => exact ⟨k + 1, by omega, by go_num, pre_step hg hlt (goodB_yes g1 g2)⟩
          case measure => simp [intOf]; omega
        · go_wp2
          all_goals (go_ret; exact ⟨ret_bool (validB_bad hlt (goodB_no (by omega))).symm, rfl⟩)
      · have Hc := Lib.hid hc; clear hc
        go_wp2
        go_ret
        exact ⟨ret_bool (validB_yes h1 h2 hg (by omega)).symm, rfl⟩
  · by_cases h0 : c.length < 1
    all_goals
      go_enter Try.func64, Try.ntmps64
      go_wp2
      go_ret
      exact ⟨ret_bool (validB_no (by omega)).symm, rfl⟩

theorem spec_CommitteeValid (a : Option Addr) (cap : Nat) (c : List Int) (w : World) (hbig : c.length ≤ 1099511627776) (hc : IntsAt w a c) :
    Calls Try.prog 44 #[.slice a c.length cap] w fun e w' => e = .returned (.bool (validB c)) ∧ w = w' := by
  rcases hc with rfl | ⟨b, off, rfl, hb, hc⟩
  · go_enter Try.func44, Try.ntmps44
    go_wp2
    refine wp_loop_rounds 1 ?_
    rw [rounds_succ]
    go_wp2_with (go_at_call 45; refine (spec_l6In_no (by simp) _).mono ?_; rintro e w' ⟨rfl, rfl⟩)
    go_ret
    exact ⟨ret_bool (validB_no (by simp)).symm, rfl⟩
  go_enter Try.func44, Try.ntmps44
  go_wp2
  go_loop [3] (fun i => ∃ k : Nat, k ≤ c.length ∧ i = .int .i64 k ∧ Pre goodB c k) (fun i => c.length - (intOf i).toNat)
  case atStart => exact ⟨0, by omega, rfl, pre_zero _ _⟩
  case round =>
    obtain ⟨k, hk, rfl, hg⟩ := hrel
    by_cases hlt : k < c.length
    · have hcell := hc k hlt
      have Hc := Lib.hid hc; clear hc
      by_cases h : 1 ≤ c[k] ∧ c[k] ≤ 9
      · go_wp2_with (go_at_call 45; refine (spec_l6In_yes h _).mono ?_; rintro e w' ⟨rfl, rfl⟩)
        go_round
        case rel => exact ⟨k + 1, by omega, by go_num, pre_step hg hlt (goodB_yes h.1 h.2)⟩
        case measure => simp [intOf]; omega
      · go_wp2_with (go_at_call 45; refine (spec_l6In_no h _).mono ?_; rintro e w' ⟨rfl, rfl⟩)
        go_ret
        exact ⟨ret_bool (validB_bad hlt (goodB_no (by omega))).symm, rfl⟩
    · have Hc := Lib.hid hc; clear hc
      by_cases hl : 1 ≤ c.length ∧ c.length ≤ 7
      · go_wp2_with (go_at_call 45; refine (spec_l6In_yes (by omega) _).mono ?_; rintro e w' ⟨rfl, rfl⟩)
        go_ret
        exact ⟨ret_bool (validB_yes hl.1 hl.2 hg (by omega)).symm, rfl⟩
      · go_wp2_with (go_at_call 45; refine (spec_l6In_no (by omega) _).mono ?_; rintro e w' ⟨rfl, rfl⟩)
        go_ret
        exact ⟨ret_bool (validB_no hl).symm, rfl⟩

theorem committee_total (a : Option Addr) (cap : Nat) (c : List Int) (w : World) (hv : validB c = true) (hc : IntsAt w a c) :
    Calls Try.prog 43 #[.slice a c.length cap] w fun e w' => e = .returned (.int .i64 (totalZ c)) ∧ w = w' := by
  obtain ⟨h1, h2⟩ := validB_len hv
  rcases hc with rfl | ⟨b, off, rfl, hb, hc⟩
  · simp at h1
  have Hv := Lib.hid hv; clear hv
  go_enter Try.func43, Try.ntmps43
  go_wp2
  go_loop [3, 8] (fun s i => ∃ k : Nat, k ≤ c.length ∧ i = .int .i64 k ∧ s = .int .i64 (sumTo c k)) (fun _ i => c.length - (intOf i).toNat)
  case atStart => exact ⟨0, by omega, rfl, rfl⟩
  case round =>
    obtain ⟨k, hk, rfl, rfl⟩ := hrel
    have hbd := sumTo_bd Hv.out k hk
    by_cases hlt : k < c.length
    · have hcell := hc k hlt
      have Hc := Lib.hid hc; clear hc
      have g := validB_good Hv.out k hlt
      go_wp2
      go_round
      case rel => exact ⟨k + 1, by omega, by go_num, int_eq (sumTo_succ hlt).symm⟩
      case measure => simp [intOf]; omega
    · have Hc := Lib.hid hc; clear hc
      go_wp2
      go_ret
      exact ⟨ret_int (by unfold totalZ; rw [show c.length = k by omega]), rfl⟩

theorem spec_l1Total (a : Option Addr) (cap : Nat) (c : List Int) (w : World) (hv : validB c = true) (hc : IntsAt w a c) :
    Calls Try.prog 46 #[.slice a c.length cap] w fun e w' => e = .returned (.int .i64 (totalZ c)) ∧ w = w' := by
  obtain ⟨h1, h2⟩ := validB_len hv
  rcases hc with rfl | ⟨b, off, rfl, hb, hc⟩
  · simp at h1
  have Hv := Lib.hid hv; clear hv
  go_enter Try.func46, Try.ntmps46
  go_wp2
  go_loop [3, 4] (fun s i => ∃ k : Nat, k ≤ c.length ∧ i = .int .i64 k ∧ s = .int .i64 (sumTo c k)) (fun _ i => c.length - (intOf i).toNat)
  case atStart => exact ⟨0, by omega, rfl, rfl⟩
  case round =>
    obtain ⟨k, hk, rfl, rfl⟩ := hrel
    have hbd := sumTo_bd Hv.out k hk
    by_cases hlt : k < c.length
    · have hcell := hc k hlt
      have Hc := Lib.hid hc; clear hc
      have g := validB_good Hv.out k hlt
      go_wp2
      go_round
      case rel => exact ⟨k + 1, by omega, by go_num, int_eq (sumTo_succ hlt).symm⟩
      case measure => simp [intOf]; omega
    · have Hc := Lib.hid hc; clear hc
      go_wp2
      go_ret
      exact ⟨ret_int (by unfold totalZ; rw [show c.length = k by omega]), rfl⟩

theorem impl_CommitteeValid (a : Option Addr) (cap : Nat) (c : List Int) (w : World) (hbig : c.length ≤ 1099511627776) (hc : IntsAt w a c) :
    Calls Try.prog 40 #[.slice a c.length cap] w fun e w' => e = .returned (.bool (validB c)) ∧ w = w' := by
  have Hc := Lib.hid hc; clear hc
  go_enter Try.func40, Try.ntmps40
  go_wp2_with (go_at_call 64; refine (committee_valid _ _ c _ hbig Hc.out).mono ?_; rintro e w' ⟨rfl, rfl⟩)
  go_ret
  exact ⟨ret_bool rfl, rfl⟩

theorem impl_CommitteeTotal (a : Option Addr) (cap : Nat) (c : List Int) (w : World) (hbig : c.length ≤ 1099511627776) (hc : IntsAt w a c) :
    Calls Try.prog 17 #[.slice a c.length cap] w fun e w' => e = .returned (.int .i64 (orNo c (totalZ c))) ∧ w = w' := by
  have hv' := impl_CommitteeValid a cap c w hbig hc
  by_cases hv : validB c = true
  · rw [hv] at hv'
    have hbd := totalZ_bd hv
    have ht := committee_total a cap c w hv hc
    have hfin := orNo_yes hv (totalZ c)
    have Hf := Lib.hid hfin; clear hfin
    have Ht := Lib.hid ht; clear ht
    have Hv := Lib.hid hv'; clear hv'
    clear hv hc
    go_enter Try.func17, Try.ntmps17
    go_wp2_with (first | (go_at_call 40; refine Hv.out.mono ?_; rintro e w' ⟨rfl, rfl⟩) | (go_at_call 43; refine Ht.out.mono ?_; rintro e w' ⟨rfl, rfl⟩))
    go_ret
    exact ⟨ret_int Hf.out.symm, rfl⟩
  · rw [Bool.not_eq_true] at hv
    rw [hv] at hv'
    have hfin := orNo_no hv (totalZ c)
    have Hf := Lib.hid hfin; clear hfin
    have Hv := Lib.hid hv'; clear hv'
    clear hv hc
    go_enter Try.func17, Try.ntmps17
    go_wp2_with (go_at_call 40; refine Hv.out.mono ?_; rintro e w' ⟨rfl, rfl⟩)
    go_ret
    exact ⟨ret_int Hf.out.symm, rfl⟩

