/- What the functions of committees answer, each by a walk of its text: the answers are those of plain functions on lists; conditions: a list that is read has fewer than 2^40 elements. -/
import Derived.Test.YtkndndcjchlpdaaRows
import Derived.Test.YtkndndcjchlpdaaBase
import Derived.Deep.QuietTactic
import Derived.BigQuiet
namespace Go.Proofs.Ytkndndcjchlpdaa
open Go.RowKit

theorem spec_l6In (n lo hi : Int) (w : World) : Calls Try.prog 49 #[.int .i64 n, .int .i64 lo, .int .i64 hi] w fun e w' => e = .returned (.bool (decide (lo ≤ n ∧ n ≤ hi))) ∧ w = w' := by
  by_cases h1 : lo ≤ n
  · go_enter Try.func49, Try.ntmps49
    go_wp2
    go_ret
    exact ⟨ret_bool (by simp [h1]), rfl⟩
  · go_enter Try.func49, Try.ntmps49
    go_wp2
    go_ret
    exact ⟨ret_bool (by simp; omega), rfl⟩
theorem spec_l6In_yes {n lo hi : Int} (h : lo ≤ n ∧ n ≤ hi) (w : World) : Calls Try.prog 49 #[.int .i64 n, .int .i64 lo, .int .i64 hi] w fun e w' => e = .returned (.bool true) ∧ w = w' := by
  have := spec_l6In n lo hi w
  rwa [decide_eq_true h] at this
theorem spec_l6In_no {n lo hi : Int} (h : ¬ (lo ≤ n ∧ n ≤ hi)) (w : World) : Calls Try.prog 49 #[.int .i64 n, .int .i64 lo, .int .i64 hi] w fun e w' => e = .returned (.bool false) ∧ w = w' := by
  have := spec_l6In n lo hi w
  rwa [decide_eq_false h] at this

theorem committee_valid (a : Option Addr) (cap : Nat) (c : List Int) (w : World) (hbig : c.length ≤ 1099511627776) (hc : IntsAt w a c) :
    Calls Try.prog 74 #[.slice a c.length cap] w fun e w' => e = .returned (.bool (validB c)) ∧ w = w' := by
  by_cases hl : 1 ≤ c.length ∧ c.length ≤ 7
  · obtain ⟨h1, h2⟩ := hl
    rcases hc with rfl | ⟨b, off, rfl, hb, hc⟩
    · simp at h1
    go_enter Try.func74, Try.ntmps74
    go_wp2
    go_loop [15] (fun i => ∃ k : Nat, k ≤ c.length ∧ i = .int .i64 k ∧ Pre goodB c k) (fun i => c.length - (intOf i).toNat)
    case atStart => exact ⟨0, by omega, rfl, pre_zero _ _⟩
    case round =>
      obtain ⟨k, hk, rfl, hg⟩ := hrel
      by_cases hlt : k < c.length
      · have hcell := hc k hlt
        have Hc := Lib.hid hc; clear hc
        by_cases h : 1 ≤ c[k] ∧ c[k] ≤ 9
        · obtain ⟨g1, g2⟩ := h
          go_wp2
          go_round
          case rel => exact ⟨k + 1, by omega, by go_num, pre_step hg hlt (goodB_yes g1 g2)⟩
          case measure => simp [intOf]; omega
        · go_wp2
          all_goals (go_ret; exact ⟨ret_bool (validB_bad hlt (goodB_no (by omega))).symm, rfl⟩)
      · have Hc := Lib.hid hc; clear hc
        go_wp2
        go_ret
        exact ⟨ret_bool (validB_yes h1 h2 hg (by omega)).symm, rfl⟩
  · by_cases h0 : c.length < 1
    all_goals
      go_enter Try.func74, Try.ntmps74
      go_wp2
      go_ret
      exact ⟨ret_bool (validB_no (by omega)).symm, rfl⟩

theorem spec_CommitteeValid (a : Option Addr) (cap : Nat) (c : List Int) (w : World) (hbig : c.length ≤ 1099511627776) (hc : IntsAt w a c) :
    Calls Try.prog 72 #[.slice a c.length cap] w fun e w' => e = .returned (.bool (validB c)) ∧ w = w' := by
  rcases hc with rfl | ⟨b, off, rfl, hb, hc⟩
  · go_enter Try.func72, Try.ntmps72
    go_wp2
    refine wp_loop_rounds 1 ?_
    rw [rounds_succ]
    go_wp2_with (go_at_call 49; refine (spec_l6In_no (by simp) _).mono ?_; rintro e w' ⟨rfl, rfl⟩)
    go_ret
    exact ⟨ret_bool (validB_no (by simp)).symm, rfl⟩
  go_enter Try.func72, Try.ntmps72
  go_wp2
  go_loop [3] (fun i => ∃ k : Nat, k ≤ c.length ∧ i = .int .i64 k ∧ Pre goodB c k) (fun i => c.length - (intOf i).toNat)
  case atStart => exact ⟨0, by omega, rfl, pre_zero _ _⟩
  case round =>
    obtain ⟨k, hk, rfl, hg⟩ := hrel
    by_cases hlt : k < c.length
    · have hcell := hc k hlt
      have Hc := Lib.hid hc; clear hc
      by_cases h : 1 ≤ c[k] ∧ c[k] ≤ 9
      · go_wp2_with (go_at_call 49; refine (spec_l6In_yes h _).mono ?_; rintro e w' ⟨rfl, rfl⟩)
        go_round
        case rel => exact ⟨k + 1, by omega, by go_num, pre_step hg hlt (goodB_yes h.1 h.2)⟩
        case measure => simp [intOf]; omega
      · go_wp2_with (go_at_call 49; refine (spec_l6In_no h _).mono ?_; rintro e w' ⟨rfl, rfl⟩)
        go_ret
        exact ⟨ret_bool (validB_bad hlt (goodB_no (by omega))).symm, rfl⟩
    · have Hc := Lib.hid hc; clear hc
      by_cases hl : 1 ≤ c.length ∧ c.length ≤ 7
      · go_wp2_with (go_at_call 49; refine (spec_l6In_yes (by omega) _).mono ?_; rintro e w' ⟨rfl, rfl⟩)
        go_ret
        exact ⟨ret_bool (validB_yes hl.1 hl.2 hg (by omega)).symm, rfl⟩
      · go_wp2_with (go_at_call 49; refine (spec_l6In_no (by omega) _).mono ?_; rintro e w' ⟨rfl, rfl⟩)
        go_ret
        exact ⟨ret_bool (validB_no hl).symm, rfl⟩

theorem committee_hasMembers (ac : Option Addr) (capc : Nat) (n : Nat) (am : Option Addr) (cap : Nat) (ms : List Int) (w : World) (_hn : n ≤ 1099511627776) (hbig : ms.length ≤ 1099511627776) (hc : IntsAt w am ms) :
    Calls Try.prog 75 #[.slice ac n capc, .slice am ms.length cap] w fun e w' => e = .returned (.bool (membersB n ms)) ∧ w = w' := by
  rcases hc with rfl | ⟨b, off, rfl, hb, hc⟩
  · go_enter Try.func75, Try.ntmps75
    go_wp2
    refine wp_loop_rounds 1 ?_
    rw [rounds_succ]
    go_wp2
    go_ret
    exact ⟨ret_bool rfl, rfl⟩
  go_enter Try.func75, Try.ntmps75
  go_wp2
  go_loop [5, 10] (fun p i => ∃ k : Nat, k ≤ ms.length ∧ i = .int .i64 k ∧ p = .int .i64 (prevZ ms k) ∧ Upto (okAt n ms) k) (fun _ i => ms.length - (intOf i).toNat)
  case atStart => exact ⟨0, by omega, rfl, rfl, upto_zero _⟩
  case round =>
    obtain ⟨k, hk, rfl, rfl, hg⟩ := hrel
    have hlo := prevZ_lo hg hk
    have Hg := Lib.hid hg; clear hg
    by_cases hlt : k < ms.length
    · have hcell := hc k hlt
      have Hc := Lib.hid hc; clear hc
      by_cases h1 : prevZ ms k < ms[k]
      · by_cases h2 : ms[k] < n
        · go_wp2
          go_round
          case rel => exact ⟨k + 1, by omega, by go_num, int_eq (prevZ_succ hlt).symm, upto_step Hg.out (okAt_prev hlt hlo h1 h2)⟩
          case measure => simp [intOf]; omega
        · go_wp2
          go_ret
          exact ⟨ret_bool (allB_no hlt (okAt_prev_no hlt (by omega))).symm, rfl⟩
      · go_wp2
        go_ret
        exact ⟨ret_bool (allB_no hlt (okAt_prev_no hlt (by omega))).symm, rfl⟩
    · have Hc := Lib.hid hc; clear hc
      go_wp2
      go_ret
      exact ⟨ret_bool (allB_yes Hg.out (by omega)).symm, rfl⟩

theorem spec_l1Members (ac : Option Addr) (capc : Nat) (n : Nat) (am : Option Addr) (cap : Nat) (ms : List Int) (w : World) (_hn : n ≤ 1099511627776) (hbig : ms.length ≤ 1099511627776) (hc : IntsAt w am ms) :
    Calls Try.prog 73 #[.slice ac n capc, .slice am ms.length cap] w fun e w' => e = .returned (.bool (membersB n ms)) ∧ Drawn w w' := by
  rcases hc with rfl | ⟨b, off, rfl, hb, hc⟩
  · go_enter Try.func73, Try.ntmps73
    go_wp2
    refine wp_loop_rounds 1 ?_
    rw [rounds_succ]
    go_wp2
    go_ret
    exact ⟨ret_bool rfl, Drawn.refl _⟩
  go_enter Try.func73, Try.ntmps73
  go_wp2
  go_loopw [5] (fun i wr => ∃ k : Nat, k ≤ ms.length ∧ i = .int .i64 k ∧ Upto (okAt n ms) k ∧ Drawn w wr) (fun i _ => ms.length - (intOf i).toNat)
  case atStart => exact ⟨0, by omega, rfl, upto_zero _, Drawn.refl _⟩
  case round =>
    obtain ⟨k, hk, rfl, hg, hwr⟩ := hrel
    by_cases hlt : k < ms.length
    · have hcell := hc k hlt
      rw [← hwr.cell] at hcell
      by_cases h1 : 0 ≤ ms[k] ∧ ms[k] ≤ (n : Int) - 1
      · by_cases h0 : 0 < k
        · have hd : decide ((0 : Int) < (k : Int)) = true := by simpa using h0
          have hcell2 := hc (k - 1) (by omega)
          have hprev : ms.getD (k - 1) 0 = ms[k - 1] := getD_get (by omega)
          rw [← hwr.cell] at hcell2
          generalize ms[k - 1] = p at hcell2 hprev
          have Hp := Lib.hid hprev; clear hprev
          have Hc := Lib.hid hc; clear hc
          have e1 : IntKind.i64.wrap ((n : Int) - 1) = n - 1 := IntWalk.i64_in _ (by omega)
          have e2 : IntKind.i64.wrap ((k : Int) - 1) = k - 1 := IntWalk.i64_in _ (by omega)
          have e3 : ((k : Int) - 1).toNat = k - 1 := by omega
          have e4 : 0 ≤ (k : Int) - 1 := by omega
          have e5 : 1 ≤ (k : Int) := by omega
          have e6 : (k : Int) - 1 < ms.length := by omega
          by_cases h2 : p < ms[k]
          · have hd2 : decide (ms[k] ≤ p) = false := by simpa using h2
            go_wp2_with fail
            go_quiet ((go_at_call 49; exact Calls.quiet_of_same (turned (spec_l6In_yes h1 _))))
            clear e1 e2 e3
            go_wp2
            go_roundw
            case rel => exact ⟨k + 1, by omega, by go_num, upto_step hg (okAt_yes hlt h1.1 (by omega) (.inr (by rw [Hp.out]; exact h2))), hwr.drewN _⟩
            case measure => simp [intOf]; omega
          · have hd2 : decide (ms[k] ≤ p) = true := by simpa using h2
            go_wp2_with fail
            go_quiet ((go_at_call 49; exact Calls.quiet_of_same (turned (spec_l6In_yes h1 _))))
            clear e1 e2 e3
            go_wp2
            go_ret
            exact ⟨ret_bool (allB_no hlt (okAt_no hlt (by rw [Hp.out]; omega))).symm, hwr.drewN _⟩
        · have hd : decide ((0 : Int) < (k : Int)) = false := by simpa using h0
          have Hc := Lib.hid hc; clear hc
          have e1 : IntKind.i64.wrap ((n : Int) - 1) = n - 1 := IntWalk.i64_in _ (by omega)
          go_wp2_with fail
          go_quiet ((go_at_call 49; exact Calls.quiet_of_same (turned (spec_l6In_yes h1 _))))
          clear e1
          go_wp2
          go_roundw
          case rel => exact ⟨k + 1, by omega, by go_num, upto_step hg (okAt_yes hlt h1.1 (by omega) (.inl (by omega))), hwr.drewN _⟩
          case measure => simp [intOf]; omega
      · have Hc := Lib.hid hc; clear hc
        have e1 : IntKind.i64.wrap ((n : Int) - 1) = n - 1 := IntWalk.i64_in _ (by omega)
        go_wp2_with fail
        go_quiet ((go_at_call 49; exact Calls.quiet_of_same (turned (spec_l6In_no h1 _))))
        clear e1
        go_wp2
        go_ret
        exact ⟨ret_bool (allB_no hlt (okAt_no hlt (by omega))).symm, hwr.drewN _⟩
    · have Hc := Lib.hid hc; clear hc
      go_wp2
      go_ret
      exact ⟨ret_bool (allB_yes hg (by omega)).symm, hwr⟩

