/- Texts that the laws of this folder share, one behind another; no conditions. -/
import Derived.Test.YtjaacdapibokiabDoorRows
import Derived.Test.YtjaacdapibokiabDoorBu0
import Derived.Deep.QuietTactic
import Derived.BigQuiet
import Derived.Deep.RegionHeld3
import Derived.Maps.AppendAt

/- What the functions of committees answer, each by a walk of its text: the answers are those of plain functions on lists; conditions: a list that is read has fewer than 2^40 elements. -/
namespace Go.Proofs.YtjaacdapibokiabDoor
open Go.RowKit

theorem spec_l6In (n lo hi : Int) (w : World) : Calls Tryd.prog 44 #[.int .i64 n, .int .i64 lo, .int .i64 hi] w fun e w' => e = .returned (.bool (decide (lo ≤ n ∧ n ≤ hi))) ∧ w = w' := by
  by_cases h1 : lo ≤ n
  · go_enter Tryd.func44, Tryd.ntmps44
    go_wp2
    go_ret
    exact ⟨ret_bool (by simp [h1]), rfl⟩
  · go_enter Tryd.func44, Tryd.ntmps44
    go_wp2
    go_ret
    exact ⟨ret_bool (by simp; omega), rfl⟩
theorem spec_l6In_yes {n lo hi : Int} (h : lo ≤ n ∧ n ≤ hi) (w : World) : Calls Tryd.prog 44 #[.int .i64 n, .int .i64 lo, .int .i64 hi] w fun e w' => e = .returned (.bool true) ∧ w = w' := by
  have := spec_l6In n lo hi w
  rwa [decide_eq_true h] at this
theorem spec_l6In_no {n lo hi : Int} (h : ¬ (lo ≤ n ∧ n ≤ hi)) (w : World) : Calls Tryd.prog 44 #[.int .i64 n, .int .i64 lo, .int .i64 hi] w fun e w' => e = .returned (.bool false) ∧ w = w' := by
  have := spec_l6In n lo hi w
  rwa [decide_eq_false h] at this

theorem committee_valid (a : Option Addr) (cap : Nat) (c : List Int) (w : World) (hbig : c.length ≤ 1099511627776) (hc : IntsAt w a c) :
    Calls Tryd.prog 71 #[.slice a c.length cap] w fun e w' => e = .returned (.bool (validB c)) ∧ w = w' := by
  by_cases hl : 1 ≤ c.length ∧ c.length ≤ 7
  · obtain ⟨h1, h2⟩ := hl
    rcases hc with rfl | ⟨b, off, rfl, hb, hc⟩
    · simp at h1
    go_enter Tryd.func71, Tryd.ntmps71
    go_wp2
    go_loop [15] (fun i => ∃ k : Nat, k ≤ c.length ∧ i = .int .i64 k ∧ Pre goodB c k) (fun i => c.length - (intOf i).toNat)
    case atStart => exact ⟨0, by omega, rfl, pre_zero _ _⟩
    case round =>
      obtain ⟨k, hk, rfl, hg⟩ := hrel
      by_cases hlt : k < c.length
      · have hcell := hc k hlt
        have Hc := Lib.hid hc; clear hc
        by_cases h : 1 ≤ c[k] ∧ c[k] ≤ 9
        · obtain ⟨g1, g2⟩ := h
          go_wp2
          go_round
          case rel => exact ⟨k + 1, by omega, by go_num, pre_step hg hlt (goodB_yes g1 g2)⟩
          case measure => simp [intOf]; omega
        · go_wp2
          all_goals (go_ret; exact ⟨ret_bool (validB_bad hlt (goodB_no (by omega))).symm, rfl⟩)
      · have Hc := Lib.hid hc; clear hc
        go_wp2
        go_ret
        exact ⟨ret_bool (validB_yes h1 h2 hg (by omega)).symm, rfl⟩
  · by_cases h0 : c.length < 1
    all_goals
      go_enter Tryd.func71, Tryd.ntmps71
      go_wp2
      go_ret
      exact ⟨ret_bool (validB_no (by omega)).symm, rfl⟩

theorem spec_CommitteeValid (a : Option Addr) (cap : Nat) (c : List Int) (w : World) (hbig : c.length ≤ 1099511627776) (hc : IntsAt w a c) :
    Calls Tryd.prog 40 #[.slice a c.length cap] w fun e w' => e = .returned (.bool (validB c)) ∧ w = w' := by
  rcases hc with rfl | ⟨b, off, rfl, hb, hc⟩
  · go_enter Tryd.func40, Tryd.ntmps40
    go_wp2
    refine wp_loop_rounds 1 ?_
    rw [rounds_succ]
    go_wp2_with (go_at_call 44; refine (spec_l6In_no (by simp) _).mono ?_; rintro e w' ⟨rfl, rfl⟩)
    go_ret
    exact ⟨ret_bool (validB_no (by simp)).symm, rfl⟩
  go_enter Tryd.func40, Tryd.ntmps40
  go_wp2
  go_loop [3] (fun i => ∃ k : Nat, k ≤ c.length ∧ i = .int .i64 k ∧ Pre goodB c k) (fun i => c.length - (intOf i).toNat)
  case atStart => exact ⟨0, by omega, rfl, pre_zero _ _⟩
  case round =>
    obtain ⟨k, hk, rfl, hg⟩ := hrel
    by_cases hlt : k < c.length
    · have hcell := hc k hlt
      have Hc := Lib.hid hc; clear hc
      by_cases h : 1 ≤ c[k] ∧ c[k] ≤ 9
      · go_wp2_with (go_at_call 44; refine (spec_l6In_yes h _).mono ?_; rintro e w' ⟨rfl, rfl⟩)
        go_round
        case rel => exact ⟨k + 1, by omega, by go_num, pre_step hg hlt (goodB_yes h.1 h.2)⟩
        case measure => simp [intOf]; omega
      · go_wp2_with (go_at_call 44; refine (spec_l6In_no h _).mono ?_; rintro e w' ⟨rfl, rfl⟩)
        go_ret
        exact ⟨ret_bool (validB_bad hlt (goodB_no (by omega))).symm, rfl⟩
    · have Hc := Lib.hid hc; clear hc
      by_cases hl : 1 ≤ c.length ∧ c.length ≤ 7
      · go_wp2_with (go_at_call 44; refine (spec_l6In_yes (by omega) _).mono ?_; rintro e w' ⟨rfl, rfl⟩)
        go_ret
        exact ⟨ret_bool (validB_yes hl.1 hl.2 hg (by omega)).symm, rfl⟩
      · go_wp2_with (go_at_call 44; refine (spec_l6In_no (by omega) _).mono ?_; rintro e w' ⟨rfl, rfl⟩)
        go_ret
        exact ⟨ret_bool (validB_no hl).symm, rfl⟩

theorem committee_total (a : Option Addr) (cap : Nat) (c : List Int) (w : World) (hv : validB c = true) (hc : IntsAt w a c) :
    Calls Tryd.prog 75 #[.slice a c.length cap] w fun e w' => e = .returned (.int .i64 (totalZ c)) ∧ w = w' := by
  obtain ⟨h1, h2⟩ := validB_len hv
  rcases hc with rfl | ⟨b, off, rfl, hb, hc⟩
  · simp at h1
  have Hv := Lib.hid hv; clear hv
  go_enter Tryd.func75, Tryd.ntmps75
  go_wp2
  go_loop [3, 8] (fun s i => ∃ k : Nat, k ≤ c.length ∧ i = .int .i64 k ∧ s = .int .i64 (sumTo c k)) (fun _ i => c.length - (intOf i).toNat)
  case atStart => exact ⟨0, by omega, rfl, rfl⟩
  case round =>
    obtain ⟨k, hk, rfl, rfl⟩ := hrel
    have hbd := sumTo_bd Hv.out k hk
    by_cases hlt : k < c.length
    · have hcell := hc k hlt
      have Hc := Lib.hid hc; clear hc
      have g := validB_good Hv.out k hlt
      go_wp2
      go_round
      case rel => exact ⟨k + 1, by omega, by go_num, int_eq (sumTo_succ hlt).symm⟩
      case measure => simp [intOf]; omega
    · have Hc := Lib.hid hc; clear hc
      go_wp2
      go_ret
      exact ⟨ret_int (by unfold totalZ; rw [show c.length = k by omega]), rfl⟩

theorem spec_l1Total (a : Option Addr) (cap : Nat) (c : List Int) (w : World) (hv : validB c = true) (hc : IntsAt w a c) :
    Calls Tryd.prog 70 #[.slice a c.length cap] w fun e w' => e = .returned (.int .i64 (totalZ c)) ∧ w = w' := by
  obtain ⟨h1, h2⟩ := validB_len hv
  rcases hc with rfl | ⟨b, off, rfl, hb, hc⟩
  · simp at h1
  have Hv := Lib.hid hv; clear hv
  go_enter Tryd.func70, Tryd.ntmps70
  go_wp2
  go_loop [3, 4] (fun s i => ∃ k : Nat, k ≤ c.length ∧ i = .int .i64 k ∧ s = .int .i64 (sumTo c k)) (fun _ i => c.length - (intOf i).toNat)
  case atStart => exact ⟨0, by omega, rfl, rfl⟩
  case round =>
    obtain ⟨k, hk, rfl, rfl⟩ := hrel
    have hbd := sumTo_bd Hv.out k hk
    by_cases hlt : k < c.length
    · have hcell := hc k hlt
      have Hc := Lib.hid hc; clear hc
      have g := validB_good Hv.out k hlt
      go_wp2
      go_round
      case rel => exact ⟨k + 1, by omega, by go_num, int_eq (sumTo_succ hlt).symm⟩
      case measure => simp [intOf]; omega
    · have Hc := Lib.hid hc; clear hc
      go_wp2
      go_ret
      exact ⟨ret_int (by unfold totalZ; rw [show c.length = k by omega]), rfl⟩

theorem committee_hasMembers (ac : Option Addr) (capc : Nat) (n : Nat) (am : Option Addr) (cap : Nat) (ms : List Int) (w : World) (_hn : n ≤ 1099511627776) (hbig : ms.length ≤ 1099511627776) (hc : IntsAt w am ms) :
    Calls Tryd.prog 85 #[.slice ac n capc, .slice am ms.length cap] w fun e w' => e = .returned (.bool (membersB n ms)) ∧ w = w' := by
  rcases hc with rfl | ⟨b, off, rfl, hb, hc⟩
  · go_enter Tryd.func85, Tryd.ntmps85
    go_wp2
    refine wp_loop_rounds 1 ?_
    rw [rounds_succ]
    go_wp2
    go_ret
    exact ⟨ret_bool rfl, rfl⟩
  go_enter Tryd.func85, Tryd.ntmps85
  go_wp2
  go_loop [5, 10] (fun p i => ∃ k : Nat, k ≤ ms.length ∧ i = .int .i64 k ∧ p = .int .i64 (prevZ ms k) ∧ Upto (okAt n ms) k) (fun _ i => ms.length - (intOf i).toNat)
  case atStart => exact ⟨0, by omega, rfl, rfl, upto_zero _⟩
  case round =>
    obtain ⟨k, hk, rfl, rfl, hg⟩ := hrel
    have hlo := prevZ_lo hg hk
    have Hg := Lib.hid hg; clear hg
    by_cases hlt : k < ms.length
    · have hcell := hc k hlt
      have Hc := Lib.hid hc; clear hc
      by_cases h1 : prevZ ms k < ms[k]
      · by_cases h2 : ms[k] < n
        · go_wp2
          go_round
          case rel => exact ⟨k + 1, by omega, by go_num, int_eq (prevZ_succ hlt).symm, upto_step Hg.out (okAt_prev hlt hlo h1 h2)⟩
          case measure => simp [intOf]; omega
        · go_wp2
          go_ret
          exact ⟨ret_bool (allB_no hlt (okAt_prev_no hlt (by omega))).symm, rfl⟩
      · go_wp2
        go_ret
        exact ⟨ret_bool (allB_no hlt (okAt_prev_no hlt (by omega))).symm, rfl⟩
    · have Hc := Lib.hid hc; clear hc
      go_wp2
      go_ret
      exact ⟨ret_bool (allB_yes Hg.out (by omega)).symm, rfl⟩

theorem committee_weight (a : Option Addr) (capc : Nat) (c : List Int) (am : Option Addr) (cap : Nat) (ms : List Int) (w : World) (hv : validB c = true) (hm : membersB c.length ms = true) (hbig : ms.length ≤ 1099511627776) (hcc : IntsAt w a c) (hc : IntsAt w am ms) :
    Calls Tryd.prog 86 #[.slice a c.length capc, .slice am ms.length cap] w fun e w' => e = .returned (.int .i64 (weightZ c ms)) ∧ w = w' := by
  obtain ⟨h1, h2⟩ := validB_len hv
  rcases hcc with rfl | ⟨b', off', rfl, hb', hcc⟩
  · simp at h1
  have Hv := Lib.hid hv; clear hv
  have Hm := Lib.hid hm; clear hm
  have Hcc := Lib.hid hcc; clear hcc
  rcases hc with rfl | ⟨b, off, rfl, hb, hc⟩
  · go_enter Tryd.func86, Tryd.ntmps86
    go_wp2
    refine wp_loop_rounds 1 ?_
    rw [rounds_succ]
    go_wp2
    go_ret
    exact ⟨ret_int rfl, rfl⟩
  go_enter Tryd.func86, Tryd.ntmps86
  go_wp2
  go_loop [5, 10] (fun s i => ∃ k : Nat, k ≤ ms.length ∧ i = .int .i64 k ∧ s = .int .i64 (weightTo c ms k)) (fun _ i => ms.length - (intOf i).toNat)
  case atStart => exact ⟨0, by omega, rfl, rfl⟩
  case round =>
    obtain ⟨k, hk, rfl, rfl⟩ := hrel
    have hbd := weightTo_bd Hv.out Hm.out k hk
    by_cases hlt : k < ms.length
    · have hcell := hc k hlt
      have Hc := Lib.hid hc; clear hc
      have g := membersB_at Hm.out k hlt
      have hcell2 := Hcc.out ms[k].toNat (by omega)
      have g2 := validB_good Hv.out ms[k].toNat (by omega)
      go_wp2
      go_round
      case rel => exact ⟨k + 1, by omega, by go_num, int_eq (by rw [weightTo_succ hlt, getD_get (by omega)])⟩
      case measure => simp [intOf]; omega
    · have Hc := Lib.hid hc; clear hc
      go_wp2
      go_ret
      exact ⟨ret_int (by unfold weightZ; rw [show ms.length = k by omega]), rfl⟩

theorem spec_l1Weight (a : Option Addr) (capc : Nat) (c : List Int) (am : Option Addr) (cap : Nat) (ms : List Int) (w : World) (hv : validB c = true) (hm : membersB c.length ms = true) (hbig : ms.length ≤ 1099511627776) (hcc : IntsAt w a c) (hc : IntsAt w am ms) :
    Calls Tryd.prog 56 #[.slice a c.length capc, .slice am ms.length cap] w fun e w' => e = .returned (.int .i64 (weightZ c ms)) ∧ w = w' := by
  obtain ⟨h1, h2⟩ := validB_len hv
  rcases hcc with rfl | ⟨b', off', rfl, hb', hcc⟩
  · simp at h1
  have Hv := Lib.hid hv; clear hv
  have Hm := Lib.hid hm; clear hm
  have Hcc := Lib.hid hcc; clear hcc
  rcases hc with rfl | ⟨b, off, rfl, hb, hc⟩
  · go_enter Tryd.func56, Tryd.ntmps56
    go_wp2
    refine wp_loop_rounds 1 ?_
    rw [rounds_succ]
    go_wp2
    go_ret
    exact ⟨ret_int rfl, rfl⟩
  go_enter Tryd.func56, Tryd.ntmps56
  go_wp2
  go_loop [5, 6] (fun s i => ∃ k : Nat, k ≤ ms.length ∧ i = .int .i64 k ∧ s = .int .i64 (weightTo c ms k)) (fun _ i => ms.length - (intOf i).toNat)
  case atStart => exact ⟨0, by omega, rfl, rfl⟩
  case round =>
    obtain ⟨k, hk, rfl, rfl⟩ := hrel
    have hbd := weightTo_bd Hv.out Hm.out k hk
    by_cases hlt : k < ms.length
    · have hcell := hc k hlt
      have Hc := Lib.hid hc; clear hc
      have g := membersB_at Hm.out k hlt
      have hcell2 := Hcc.out ms[k].toNat (by omega)
      have g2 := validB_good Hv.out ms[k].toNat (by omega)
      go_wp2
      go_round
      case rel => exact ⟨k + 1, by omega, by go_num, int_eq (by rw [weightTo_succ hlt, getD_get (by omega)])⟩
      case measure => simp [intOf]; omega
    · have Hc := Lib.hid hc; clear hc
      go_wp2
      go_ret
      exact ⟨ret_int (by unfold weightZ; rw [show ms.length = k by omega]), rfl⟩

theorem impl_CommitteeValid (a : Option Addr) (cap : Nat) (c : List Int) (w : World) (hbig : c.length ≤ 1099511627776) (hc : IntsAt w a c) :
    Calls Tryd.prog 58 #[.slice a c.length cap] w fun e w' => e = .returned (.bool (validB c)) ∧ w = w' := by
  have Hc := Lib.hid hc; clear hc
  go_enter Tryd.func58, Tryd.ntmps58
  go_wp2_with (go_at_call 71; refine (committee_valid _ _ c _ hbig Hc.out).mono ?_; rintro e w' ⟨rfl, rfl⟩)
  go_ret
  exact ⟨ret_bool rfl, rfl⟩

theorem committee_quorum (a : Option Addr) (cap : Nat) (c : List Int) (w : World) (hv : validB c = true) (hc : IntsAt w a c) :
    Calls Tryd.prog 87 #[.slice a c.length cap] w fun e w' => e = .returned (.int .i64 (2 * totalZ c / 3 + 1)) ∧ w = w' := by
  have hbd := totalZ_bd hv
  have Hv := Lib.hid hv; clear hv
  have Hc := Lib.hid hc; clear hc
  go_enter Tryd.func87, Tryd.ntmps87
  go_wp2_with (go_at_call 75; refine (committee_total _ _ c _ Hv.out Hc.out).mono ?_; rintro e w' ⟨rfl, rfl⟩)
  go_ret
  exact ⟨ret_int rfl, rfl⟩

theorem spec_l1Quorum (a : Option Addr) (cap : Nat) (c : List Int) (w : World) (hv : validB c = true) (hc : IntsAt w a c) :
    Calls Tryd.prog 57 #[.slice a c.length cap] w fun e w' => e = .returned (.int .i64 (2 * totalZ c / 3 + 1)) ∧ w = w' := by
  have hbd := totalZ_bd hv
  have Hv := Lib.hid hv; clear hv
  have Hc := Lib.hid hc; clear hc
  go_enter Tryd.func57, Tryd.ntmps57
  go_wp2_with (go_at_call 70; refine (spec_l1Total _ _ c _ Hv.out Hc.out).mono ?_; rintro e w' ⟨rfl, rfl⟩)
  go_ret
  exact ⟨ret_int rfl, rfl⟩

theorem committee_support (a : Option Addr) (cap : Nat) (c : List Int) (w : World) (hv : validB c = true) (hc : IntsAt w a c) :
    Calls Tryd.prog 63 #[.slice a c.length cap] w fun e w' => e = .returned (.int .i64 (totalZ c / 3 + 1)) ∧ w = w' := by
  have hbd := totalZ_bd hv
  have Hv := Lib.hid hv; clear hv
  have Hc := Lib.hid hc; clear hc
  go_enter Tryd.func63, Tryd.ntmps63
  go_wp2_with (go_at_call 75; refine (committee_total _ _ c _ Hv.out Hc.out).mono ?_; rintro e w' ⟨rfl, rfl⟩)
  go_ret
  exact ⟨ret_int rfl, rfl⟩

theorem spec_l1Support (a : Option Addr) (cap : Nat) (c : List Int) (w : World) (hv : validB c = true) (hc : IntsAt w a c) :
    Calls Tryd.prog 53 #[.slice a c.length cap] w fun e w' => e = .returned (.int .i64 (totalZ c / 3 + 1)) ∧ w = w' := by
  have hbd := totalZ_bd hv
  have Hv := Lib.hid hv; clear hv
  have Hc := Lib.hid hc; clear hc
  go_enter Tryd.func53, Tryd.ntmps53
  go_wp2_with (go_at_call 70; refine (spec_l1Total _ _ c _ Hv.out Hc.out).mono ?_; rintro e w' ⟨rfl, rfl⟩)
  go_ret
  exact ⟨ret_int rfl, rfl⟩

theorem spec_l1Members (ac : Option Addr) (capc : Nat) (n : Nat) (am : Option Addr) (cap : Nat) (ms : List Int) (w : World) (_hn : n ≤ 1099511627776) (hbig : ms.length ≤ 1099511627776) (hc : IntsAt w am ms) :
    Calls Tryd.prog 54 #[.slice ac n capc, .slice am ms.length cap] w fun e w' => e = .returned (.bool (membersB n ms)) ∧ Drawn w w' := by
  rcases hc with rfl | ⟨b, off, rfl, hb, hc⟩
  · go_enter Tryd.func54, Tryd.ntmps54
    go_wp2
    refine wp_loop_rounds 1 ?_
    rw [rounds_succ]
    go_wp2
    go_ret
    exact ⟨ret_bool rfl, Drawn.refl _⟩
  go_enter Tryd.func54, Tryd.ntmps54
  go_wp2
  go_loopw [5] (fun i wr => ∃ k : Nat, k ≤ ms.length ∧ i = .int .i64 k ∧ Upto (okAt n ms) k ∧ Drawn w wr) (fun i _ => ms.length - (intOf i).toNat)
  case atStart => exact ⟨0, by omega, rfl, upto_zero _, Drawn.refl _⟩
  case round =>
    obtain ⟨k, hk, rfl, hg, hwr⟩ := hrel
    by_cases hlt : k < ms.length
    · have hcell := hc k hlt
      rw [← hwr.cell] at hcell
      by_cases h1 : 0 ≤ ms[k] ∧ ms[k] ≤ (n : Int) - 1
      · by_cases h0 : 0 < k
        · have hd : decide ((0 : Int) < (k : Int)) = true := by simpa using h0
          have hcell2 := hc (k - 1) (by omega)
          have hprev : ms.getD (k - 1) 0 = ms[k - 1] := getD_get (by omega)
          rw [← hwr.cell] at hcell2
          generalize ms[k - 1] = p at hcell2 hprev
          have Hp := Lib.hid hprev; clear hprev
          have Hc := Lib.hid hc; clear hc
          have e1 : IntKind.i64.wrap ((n : Int) - 1) = n - 1 := IntWalk.i64_in _ (by omega)
          have e2 : IntKind.i64.wrap ((k : Int) - 1) = k - 1 := IntWalk.i64_in _ (by omega)
          have e3 : ((k : Int) - 1).toNat = k - 1 := by omega
          have e4 : 0 ≤ (k : Int) - 1 := by omega
          have e5 : 1 ≤ (k : Int) := by omega
          have e6 : (k : Int) - 1 < ms.length := by omega
          by_cases h2 : p < ms[k]
          · have hd2 : decide (ms[k] ≤ p) = false := by simpa using h2
            go_wp2_with fail
            go_quiet ((go_at_call 44; exact Calls.quiet_of_same (turned (spec_l6In_yes h1 _))))
            clear e1 e2 e3
            go_wp2
            go_roundw
            case rel => exact ⟨k + 1, by omega, by go_num, upto_step hg (okAt_yes hlt h1.1 (by omega) (.inr (by rw [Hp.out]; exact h2))), hwr.drewN _⟩
            case measure => simp [intOf]; omega
          · have hd2 : decide (ms[k] ≤ p) = true := by simpa using h2
            go_wp2_with fail
            go_quiet ((go_at_call 44; exact Calls.quiet_of_same (turned (spec_l6In_yes h1 _))))
            clear e1 e2 e3
            go_wp2
            go_ret
            exact ⟨ret_bool (allB_no hlt (okAt_no hlt (by rw [Hp.out]; omega))).symm, hwr.drewN _⟩
        · have hd : decide ((0 : Int) < (k : Int)) = false := by simpa using h0
          have Hc := Lib.hid hc; clear hc
          have e1 : IntKind.i64.wrap ((n : Int) - 1) = n - 1 := IntWalk.i64_in _ (by omega)
          go_wp2_with fail
          go_quiet ((go_at_call 44; exact Calls.quiet_of_same (turned (spec_l6In_yes h1 _))))
          clear e1
          go_wp2
          go_roundw
          case rel => exact ⟨k + 1, by omega, by go_num, upto_step hg (okAt_yes hlt h1.1 (by omega) (.inl (by omega))), hwr.drewN _⟩
          case measure => simp [intOf]; omega
      · have Hc := Lib.hid hc; clear hc
        have e1 : IntKind.i64.wrap ((n : Int) - 1) = n - 1 := IntWalk.i64_in _ (by omega)
        go_wp2_with fail
        go_quiet ((go_at_call 44; exact Calls.quiet_of_same (turned (spec_l6In_no h1 _))))
        clear e1
        go_wp2
        go_ret
        exact ⟨ret_bool (allB_no hlt (okAt_no hlt (by omega))).symm, hwr.drewN _⟩
    · have Hc := Lib.hid hc; clear hc
      go_wp2
      go_ret
      exact ⟨ret_bool (allB_yes hg (by omega)).symm, hwr⟩

end Go.Proofs.YtjaacdapibokiabDoor

/- What spec's functions of digests and hash trees answer, each by a walk of its text: the answers are those of plain functions on lists; conditions: a list that is read has fewer than 2^40 elements, numbers that are paired are digests. -/
namespace Go.Proofs.YtjaacdapibokiabDoor
open Go.RowKit

theorem TI2 : IntT Tryd.prog 22 3 := ⟨Tryd.underlying22, by kernel_rfl⟩

theorem spec_l2Digest (n : Int) (w : World) : Calls Tryd.prog 55 #[.int .i64 n] w fun e w' => e = .returned (.bool (digB n)) ∧ w = w' := by
  go_enter Tryd.func55, Tryd.ntmps55
  go_wp2_with (go_at_call 44; refine (spec_l6In _ _ _ _).mono ?_; rintro e w' ⟨rfl, rfl⟩)
  go_ret
  exact ⟨ret_bool (by unfold digB; simp), rfl⟩

end Go.Proofs.YtjaacdapibokiabDoor

/- A region that draws its order, operation by operation: an operation that yields its value in every world that meets S, or is left out by its guard, is taken first; a call is met where it alone may come up. General steps; nothing here speaks of the program. -/
namespace Go.Proofs.YtjaacdapibokiabDoor
open Go.RowKit

section
variable {P : Program} {md : Region.Mode} {l : List Oper} {Q : Exit → Act → World → Prop} {S : World → Prop} {oi : Oper} {rest : List Oper} {fuel : Nat} {listed : Array Bool} {a : Act} {w : World}

theorem drop_at {i : Nat} (hi : l.drop i = oi :: rest) : l.toArray[i]? = some oi := by
  have h : (l.drop i)[0]? = some oi := by rw [hi]; rfl
  rw [List.getElem?_drop] at h
  simpa using h
/-- Take number i first: it is carried out and yields v in every world that meets S. -/
theorem takeH (i : Nat) {v : Value} (hi : l.drop i = oi :: rest) (hs : Region.noSelect l.toArray = true) (hf : Region.free md l.toArray listed i = true) (hr : (Region.ready md l.toArray listed).contains i = true)
    (hQ : ∀ c a w, Q (.panic c) (a.put oi.dst v) w → Q (.panic c) a w) (hS : S w) (hw : Region.wanted oi (yielded l.toArray a.tmps) = true)
    (hy : ∀ w, S w → (execOp a.eval oi).run P w = .ok (.value v) w)
    (h : wpAnyH P md l.toArray Q S fuel (listed.setIfInBounds i true) (a.put oi.dst v) w) : wpAnyH P md l.toArray Q S (fuel + 1) listed a w :=
  wpAnyH_take (drop_at hi) hs hf hr hQ (.inl ⟨hw, hy⟩) hS h
/-- Number i is left out by its guard. -/
theorem skipH (i : Nat) (hi : l.drop i = oi :: rest) (hs : Region.noSelect l.toArray = true) (hf : Region.free md l.toArray listed i = true) (hr : (Region.ready md l.toArray listed).contains i = true)
    (hQ : ∀ c a w, Q (.panic c) (a.put oi.dst undef) w → Q (.panic c) a w) (hS : S w) (hw : Region.wanted oi (yielded l.toArray a.tmps) = false)
    (h : wpAnyH P md l.toArray Q S fuel (listed.setIfInBounds i true) (a.put oi.dst undef) w) : wpAnyH P md l.toArray Q S (fuel + 1) listed a w :=
  wpAnyH_take (drop_at hi) hs hf hr hQ (.inr ⟨hw, rfl⟩) hS h
/-- Number i alone may come up: it is carried out, and S is shown behind it. -/
theorem callH (i : Nat) (hi : l.drop i = oi :: rest) (hr : Region.ready md l.toArray listed = [i]) (hw : Region.wanted oi (yielded l.toArray a.tmps) = true)
    (h : ∀ K' : Act → World → Prop, Shut (∀ a w, S w → (S w → wpAnyH P md l.toArray Q S fuel (listed.setIfInBounds i true) a w) → K' a w) → Oper.wp P oi a w K' Q) : wpAnyH P md l.toArray Q S (fuel + 1) listed a w :=
  wpAnyH_ready hr (by simp) (AllReadyH.cons (drop_at hi) (fun K' hK => by rw [if_pos hw]; exact h K' hK) AllReadyH.nil)
/-- Either of two may come up next. -/
theorem twoH {oj : Oper} {rest2 : List Oper} (i j : Nat) (hi : l.drop i = oi :: rest) (hj : l.drop j = oj :: rest2) (hr : Region.ready md l.toArray listed = [i, j]) (hw : Region.wanted oi (yielded l.toArray a.tmps) = true) (hw' : Region.wanted oj (yielded l.toArray a.tmps) = true)
    (h : ∀ K' : Act → World → Prop, Shut (∀ a w, S w → (S w → wpAnyH P md l.toArray Q S fuel (listed.setIfInBounds i true) a w) → K' a w) → Oper.wp P oi a w K' Q)
    (h' : ∀ K' : Act → World → Prop, Shut (∀ a w, S w → (S w → wpAnyH P md l.toArray Q S fuel (listed.setIfInBounds j true) a w) → K' a w) → Oper.wp P oj a w K' Q) : wpAnyH P md l.toArray Q S (fuel + 1) listed a w :=
  wpAnyH_ready hr (by simp) (AllReadyH.cons (drop_at hi) (fun K' hK => by rw [if_pos hw]; exact h K' hK) (AllReadyH.cons (drop_at hj) (fun K' hK => by rw [if_pos hw']; exact h' K' hK) AllReadyH.nil))
end

end Go.Proofs.YtjaacdapibokiabDoor

/- The exact laws' functions on values and lists of Vertex: sameness, copies, sizes, marks, each by a walk of its text; conditions: the lists are no longer than the laws' bound. -/
namespace Go.Proofs.YtjaacdapibokiabDoor
open Go.RowKit

def vertexP (e : List Fd) : Prop := ∃ (x0 : Int) (x1 : Int) (x2 : List Int) (x3 : Int), e = [.i x0, .i x1, .l x2, .i x3]
theorem vertexP_len {es : List (List Fd)} (h : ∀ e ∈ es, vertexP e) : ∀ e ∈ es, e.length = 4 := by
  intro e he
  obtain ⟨_, _, _, _, rfl⟩ := h e he
  rfl

theorem vertex_inf : (Tryd.prog.info? 44).map (fun i => (i.zero, i.size, i.bytes)) = some (some (.agg #[.int .i64 0, .int .i64 0, .slice none 0 0, .int .i64 0]), 4, 48) := by kernel_rfl
theorem vertex_new {B hi : Nat} {w : World} (x0 : Int) (x1 : Int) (x3 : Int) {a2 : Option Addr} {c2 : Nat} {x2 : List Int} (h : Own 3 w hi (.slice a2 x2.length c2) x2) (hB : B ≤ hi) :
    (∀ j (hj : j < [Fd.i x0, Fd.i x1, .l x2, Fd.i x3].length), ∃ c, [Value.int .i64 x0, Value.int .i64 x1, Value.slice a2 x2.length c2, Value.int .i64 x3][j]? = some c ∧ FdOk 3 w B c ([Fd.i x0, Fd.i x1, .l x2, Fd.i x3])[j]) ∧ (∀ (p q : Nat) c d, [Value.int .i64 x0, Value.int .i64 x1, Value.slice a2 x2.length c2, Value.int .i64 x3][p]? = some c → [Value.int .i64 x0, Value.int .i64 x1, Value.slice a2 x2.length c2, Value.int .i64 x3][q]? = some d → p ≠ q → Apart c d) ∧ ∀ c ∈ [Value.int .i64 x0, Value.int .i64 x1, Value.slice a2 x2.length c2, Value.int .i64 x3], ∀ g, c.ownBlock = some g → hi ≤ g := by
  refine ⟨fun j hj => ?_, fun p q c d hp hq hne g hc hd => ?_, fun c hc g hg => ?_⟩
  · match j, hj with
    | 0, _ => exact ⟨_, rfl, rfl⟩
    | 1, _ => exact ⟨_, rfl, rfl⟩
    | 2, _ => exact ⟨_, rfl, h.mono hB⟩
    | 3, _ => exact ⟨_, rfl, rfl⟩
  · have no : ∀ (p : Nat) c, p ≠ 2 → [Value.int .i64 x0, Value.int .i64 x1, Value.slice a2 x2.length c2, Value.int .i64 x3][p]? = some c → c.ownBlock = none := by
      intro p c hp hc
      match p, hc with
      | 0, hc => cases hc; rfl
      | 1, hc => cases hc; rfl
      | 2, hc => exact absurd rfl hp
      | 3, hc => cases hc; rfl
      | p + 4, hc => simp at hc
    by_cases e : p = 2
    · have := no q d (fun h => hne (e.trans h.symm)) hq
      rw [this] at hd; cases hd
    · have := no p c e hp
      rw [this] at hc; cases hc
  · simp only [List.mem_cons, List.not_mem_nil, or_false] at hc
    rcases hc with rfl | rfl | rfl | rfl
    · cases hg
    · cases hg
    · exact (h.lt g hg).1
    · cases hg

set_option maxRecDepth 8000 in
/-- A list of Vertex that came in. -/
theorem open_VertexS {H : Type} {enc : TypeId × Value → H} {W : World} {base : Nat} {v : Value} {d : DataW H} {p : List MemPlace} (hv : Value.okWide Tryd.prog W .any base 23 v) (h : DataW.Trod enc Tryd.prog W 0 (fun _ => true) true 23 v d p) :
    ∃ es fp, Rd W (rowsD es) v fp ∧ es.length ≤ maxLen ∧ ∀ e ∈ es, vertexP e ∧ fitE e := by
  obtain ⟨a, len, cap, rfl⟩ := Go.WideShapes.okWide_slice Tryd.underlying23 hv
  obtain ⟨d, fp, hr, hg⟩ := open_cell (opens_slice_struct (Gs := [IntG, IntG, RowsG [IntG], IntG]) Tryd.underlying23 (by kernel_rfl) Tryd.underlying42 (by kernel_rfl) (by decide) rfl (fun j h h' => by
    match j, h, h' with
    | 0, _, _ => exact ⟨rfl, opens_int Tryd.underlying3 (by kernel_rfl)⟩
    | 1, _, _ => exact ⟨rfl, opens_int Tryd.underlying3 (by kernel_rfl)⟩
    | 2, _, _ => exact ⟨rfl, opens_slice Tryd.underlying22 (by kernel_rfl) (opens_int Tryd.underlying3 (by kernel_rfl))⟩
    | 3, _, _ => exact ⟨rfl, opens_int Tryd.underlying3 (by kernel_rfl)⟩)) rfl h
  obtain ⟨es, rfl, hl, hp⟩ := rows_of hg (P := fun e => vertexP e ∧ fitE e) (fun e he hf => by
    match e, he with
    | [d0, d1, d2, d3], _ =>
      obtain ⟨x0, rfl, b0⟩ := hf 0 (by simp) (by simp)
      obtain ⟨x1, rfl, b1⟩ := hf 1 (by simp) (by simp)
      obtain ⟨x2, rfl, b2⟩ := ints_of (hf 2 (by simp) (by simp))
      obtain ⟨x3, rfl, b3⟩ := hf 3 (by simp) (by simp)
      exact ⟨[.i x0, .i x1, .l x2, .i x3], rfl, ⟨x0, x1, x2, x3, rfl⟩, fun _ hx => by
        simp at hx
        rcases hx with rfl | rfl | rfl
        · exact b0
        · exact b1
        · exact b3,
      fun _ hx => by
        simp at hx
        subst hx; exact b2⟩)
  exact ⟨es, fp, hr, hl, hp⟩

set_option maxRecDepth 8000 in
/-- A Vertex that came in by value. -/
theorem open_Vertex {H : Type} {enc : TypeId × Value → H} {W : World} {base : Nat} {v : Value} {d : DataW H} {p : List MemPlace} (hv : Value.okWide Tryd.prog W .any base 42 v) (h : DataW.Trod enc Tryd.prog W 0 (fun _ => true) true 42 v d p) :
    ∃ x0 x1 a2 c2 x2 x3, v = .agg #[.int .i64 x0, .int .i64 x1, .slice a2 x2.length c2, .int .i64 x3] ∧ (-9223372036854775808 ≤ x0 ∧ x0 ≤ 9223372036854775807) ∧ (-9223372036854775808 ≤ x1 ∧ x1 ≤ 9223372036854775807) ∧ (x2.length ≤ maxLen ∧ ∀ x ∈ x2, -9223372036854775808 ≤ x ∧ x ≤ 9223372036854775807) ∧ IntsAt W a2 x2 ∧ (-9223372036854775808 ≤ x3 ∧ x3 ≤ 9223372036854775807) := by
  obtain ⟨cs, rfl, hl, hf⟩ := open_struct (Gs := [IntG, IntG, RowsG [IntG], IntG]) Tryd.underlying42 (by kernel_rfl) rfl (fun j h h' => by
    match j, h, h' with
    | 0, _, _ => exact ⟨rfl, opens_int Tryd.underlying3 (by kernel_rfl)⟩
    | 1, _, _ => exact ⟨rfl, opens_int Tryd.underlying3 (by kernel_rfl)⟩
    | 2, _, _ => exact ⟨rfl, opens_slice Tryd.underlying22 (by kernel_rfl) (opens_int Tryd.underlying3 (by kernel_rfl))⟩
    | 3, _, _ => exact ⟨rfl, opens_int Tryd.underlying3 (by kernel_rfl)⟩) hv h
  match cs, hl with
  | [u0, u1, u2, u3], _ =>
    obtain ⟨d0, f0, r0, x0, rfl, b0⟩ := hf 0 (by simp) (by simp)
    obtain ⟨rfl, _⟩ := Rd.int (show Rd W (.i x0) u0 f0 from r0)
    obtain ⟨d1, f1, r1, x1, rfl, b1⟩ := hf 1 (by simp) (by simp)
    obtain ⟨rfl, _⟩ := Rd.int (show Rd W (.i x1) u1 f1 from r1)
    obtain ⟨d2, f2, r2, g2⟩ := hf 2 (by simp) (by simp)
    obtain ⟨x2, rfl, b2⟩ := ints_of g2
    obtain ⟨a2, c2, rfl, _, i2⟩ := Rd.ints (show Rd W (intsD x2) u2 f2 from r2)
    obtain ⟨d3, f3, r3, x3, rfl, b3⟩ := hf 3 (by simp) (by simp)
    obtain ⟨rfl, _⟩ := Rd.int (show Rd W (.i x3) u3 f3 from r3)
    exact ⟨x0, x1, a2, c2, x2, x3, rfl, b0, b1, b2, i2, b3⟩

theorem laws_eqVertexR (x0 : Int) (x1 : Int) (a2 a2' : Option Addr) (c2 c2' : Nat) (x2 : List Int) (x3 : Int) (w : World) (n2 : x2.length ≤ 1099511627776) (h2 : IntsAt w a2 x2) (h2' : IntsAt w a2' x2) :
    Calls Tryd.prog 23 #[.agg #[.int .i64 x0, .int .i64 x1, .slice a2 x2.length c2, .int .i64 x3], .agg #[.int .i64 x0, .int .i64 x1, .slice a2' x2.length c2', .int .i64 x3]] w fun e w' => e = .returned (.bool true) ∧ Below w.heap.size w w' := by
  have hb : Below w.heap.size w ((w.alloc (.cells #[.int .i64 x0, .int .i64 x1, .slice a2 x2.length c2, .int .i64 x3] 44)).alloc (.cells #[.int .i64 x0, .int .i64 x1, .slice a2' x2.length c2', .int .i64 x3] 44)) := ((Below.refl _ w).alloc (Nat.le_refl _) _).alloc (by simp) _
  have s0 := (Str.new w 44 #[.int .i64 x0, .int .i64 x1, .slice a2 x2.length c2, .int .i64 x3]).alloc (.cells #[.int .i64 x0, .int .i64 x1, .slice a2' x2.length c2', .int .i64 x3] 44)
  have s1 : Str ((w.alloc (.cells #[.int .i64 x0, .int .i64 x1, .slice a2 x2.length c2, .int .i64 x3] 44)).alloc (.cells #[.int .i64 x0, .int .i64 x1, .slice a2' x2.length c2', .int .i64 x3] 44)) (w.heap.size + 1) 44 #[.int .i64 x0, .int .i64 x1, .slice a2' x2.length c2', .int .i64 x3] := by
    rw [← (by simp : (w.alloc (.cells #[.int .i64 x0, .int .i64 x1, .slice a2 x2.length c2, .int .i64 x3] 44)).heap.size = w.heap.size + 1)]
    exact Str.new _ _ _
  have k0 := s0.cell 0 (v := .int .i64 x0) rfl
  have k1 := s0.cell 1 (v := .int .i64 x1) rfl
  have k2 := s0.cell 2 (v := .slice a2 x2.length c2) rfl
  have k3 := s0.cell 3 (v := .int .i64 x3) rfl
  have j0 := s1.cell 0 (v := .int .i64 x0) rfl
  have j1 := s1.cell 1 (v := .int .i64 x1) rfl
  have j2 := s1.cell 2 (v := .slice a2' x2.length c2') rfl
  have j3 := s1.cell 3 (v := .int .i64 x3) rfl
  have H2 := Lib.hid (fun W (h : Below w.heap.size w W) => laws_eqIntS' a2 a2' c2 c2' x2 W n2 (h2.below h) (h2'.below h))
  have Hb0 := Lib.hid hb; clear hb s0 s1 h2 h2'
  go_enter Tryd.func23, Tryd.ntmps23
  go_wp2_with fail
  generalize ((w.alloc (.cells #[.int .i64 x0, .int .i64 x1, .slice a2 x2.length c2, .int .i64 x3] 44)).alloc (.cells #[.int .i64 x0, .int .i64 x1, .slice a2' x2.length c2', .int .i64 x3] 44)) = W0 at *
  refine (H2.out _ Hb0.out).mono ?_
  rintro e W1 ⟨rfl, hd⟩
  have Hb1 := Lib.hid (Hb0.out.trans (hd.below _))
  have k0 := (hd.cell _).trans k0
  have k1 := (hd.cell _).trans k1
  have k2 := (hd.cell _).trans k2
  have k3 := (hd.cell _).trans k3
  have j0 := (hd.cell _).trans j0
  have j1 := (hd.cell _).trans j1
  have j2 := (hd.cell _).trans j2
  have j3 := (hd.cell _).trans j3
  clear hd
  go_wp2
  go_ret
  exact ⟨rfl, Hb1.out⟩

set_option maxHeartbeats 1000000 in
theorem laws_eqVertexSR (es : List (List Fd)) (v v' : Value) (fp fp' : List Nat) (w : World) (hbig : es.length ≤ 1099511627776) (hp : ∀ e ∈ es, vertexP e) (hl : ∀ e ∈ es, lnE e ≤ 1099511627776) (hr : Rd w (rowsD es) v fp) (hr' : Rd w (rowsD es) v' fp') :
    Calls Tryd.prog 11 #[v, v'] w fun e w' => e = .returned (.bool true) ∧ Below w.heap.size w w' := by
  have Hm := Lib.hid (vertexP_len hp)
  obtain ⟨a, cap, rfl⟩ := Rd.slice hr
  obtain ⟨a', cap', rfl⟩ := Rd.slice hr'
  rw [List.length_map] at *
  have Hr := Lib.hid hr; clear hr
  have Hr' := Lib.hid hr'; clear hr'
  have Hp := Lib.hid hp; clear hp
  have Hl := Lib.hid hl; clear hl
  go_enter Tryd.func11, Tryd.ntmps11
  go_wp2
  go_loopw [5] (fun i wr => ∃ k : Nat, k ≤ es.length ∧ i = .int .i64 k ∧ Below w.heap.size w wr) (fun i _ => es.length - (intOf i).toNat)
  case atStart => exact ⟨0, by omega, rfl, Below.refl _ _⟩
  case round =>
    obtain ⟨k, hk, rfl, hbel⟩ := hrel
    by_cases hlt : k < es.length
    · obtain ⟨g, off, rfl, hg, hat⟩ := rows_at (Hr.out.under hbel) (by omega) Hm.out
      obtain ⟨g', off', rfl, hg', hat'⟩ := rows_at (Hr'.out.under hbel) (by omega) Hm.out
      obtain ⟨x0, x1, x2, x3, he⟩ := Hp.out _ (List.getElem_mem hlt)
      have hle := Hl.out _ (List.getElem_mem hlt)
      rw [he] at hle
      obtain ⟨v0, f0, C0, R0⟩ := hat k hlt 0 (by rw [he]; simp)
      obtain rfl := rd_i R0 (x := x0) (by simp only [he]; rfl)
      clear R0
      obtain ⟨v1, f1, C1, R1⟩ := hat k hlt 1 (by rw [he]; simp)
      obtain rfl := rd_i R1 (x := x1) (by simp only [he]; rfl)
      clear R1
      obtain ⟨v2, f2, C2, R2⟩ := hat k hlt 2 (by rw [he]; simp)
      obtain ⟨a2, c2, rfl, I2⟩ := rd_l R2 (xs := x2) (by simp only [he]; rfl)
      clear R2
      obtain ⟨v3, f3, C3, R3⟩ := hat k hlt 3 (by rw [he]; simp)
      obtain rfl := rd_i R3 (x := x3) (by simp only [he]; rfl)
      clear R3
      simp only [Nat.add_zero] at C0
      obtain ⟨v0, f0, C0', R0⟩ := hat' k hlt 0 (by rw [he]; simp)
      obtain rfl := rd_i R0 (x := x0) (by simp only [he]; rfl)
      clear R0
      obtain ⟨v1, f1, C1', R1⟩ := hat' k hlt 1 (by rw [he]; simp)
      obtain rfl := rd_i R1 (x := x1) (by simp only [he]; rfl)
      clear R1
      obtain ⟨v2, f2, C2', R2⟩ := hat' k hlt 2 (by rw [he]; simp)
      obtain ⟨a2', c2', rfl, I2'⟩ := rd_l R2 (xs := x2) (by simp only [he]; rfl)
      clear R2
      obtain ⟨v3, f3, C3', R3⟩ := hat' k hlt 3 (by rw [he]; simp)
      obtain rfl := rd_i R3 (x := x3) (by simp only [he]; rfl)
      clear R3
      simp only [Nat.add_zero] at C0'
      have n2 : x2.length ≤ 1099511627776 := ln_in hle (by simp)
      have Hbel := Lib.hid hbel; clear hbel hat hat' he hle
      have H := Lib.hid (fun w' (h : Below wr.heap.size wr w') => laws_eqVertexR x0 x1 a2 a2' c2 c2' x2 x3 w' n2 (I2.below h) (I2'.below h))
      have hgl := Lib.hid (fun w' (h : Below wr.heap.size wr w') => (⟨Nat.lt_of_lt_of_le hg h.size, Nat.lt_of_lt_of_le hg' h.size⟩ : g < w'.heap.size ∧ g' < w'.heap.size))
      have hb0 : Below wr.heap.size wr wr.drew := (Below.refl _ _).drew
      clear hg hg' I2 I2'
      go_wp2_with fail
      refine wp_region_held_drew (S := fun w' => Below wr.heap.size wr w' ∧ w'.cell? ⟨g, off + k * 4, none⟩ = some (.int .i64 x0) ∧ w'.cell? ⟨g, off + k * 4 + 1, none⟩ = some (.int .i64 x1) ∧ w'.cell? ⟨g, off + k * 4 + 2, none⟩ = some (.slice a2 x2.length c2) ∧ w'.cell? ⟨g, off + k * 4 + 3, none⟩ = some (.int .i64 x3) ∧ w'.cell? ⟨g', off' + k * 4, none⟩ = some (.int .i64 x0) ∧ w'.cell? ⟨g', off' + k * 4 + 1, none⟩ = some (.int .i64 x1) ∧ w'.cell? ⟨g', off' + k * 4 + 2, none⟩ = some (.slice a2' x2.length c2') ∧ w'.cell? ⟨g', off' + k * 4 + 3, none⟩ = some (.int .i64 x3)) (by kernel_rfl) ⟨hb0, C0, C1, C2, C3, C0', C1', C2', C3'⟩ (fun hH => ?_)
      refine takeH 0 (v := ?vs0) rfl (by kernel_rfl) (by kernel_rfl) (by kernel_rfl) (fun _ _ _ h => h) hH rfl ?ys0 ?rs0
      case ys0 => intro w hSw; go_simp; try with_reducible rfl
      try simp only [Act.put, List.setIfInBounds_toArray, List.set_cons_zero, List.set_cons_succ]
      refine takeH 1 (v := ?vs1) rfl (by kernel_rfl) (by kernel_rfl) (by kernel_rfl) (fun _ _ _ h => h) hH rfl ?ys1 ?rs1
      case ys1 => intro w hSw; go_simp; try with_reducible rfl
      try simp only [Act.put, List.setIfInBounds_toArray, List.set_cons_zero, List.set_cons_succ]
      refine takeH 2 (v := ?vs2) rfl (by kernel_rfl) (by kernel_rfl) (by kernel_rfl) (fun _ _ _ h => h) hH rfl ?ys2 ?rs2
      case ys2 => intro w hSw; go_simp; try with_reducible rfl
      try simp only [Act.put, List.setIfInBounds_toArray, List.set_cons_zero, List.set_cons_succ]
      refine takeH 3 (v := ?vs3) rfl (by kernel_rfl) (by kernel_rfl) (by kernel_rfl) (fun _ _ _ h => h) hH rfl ?ys3 ?rs3
      case ys3 => intro w hSw; go_simp; try with_reducible rfl
      try simp only [Act.put, List.setIfInBounds_toArray, List.set_cons_zero, List.set_cons_succ]
      refine takeH 4 (v := ?vs4) rfl (by kernel_rfl) (by kernel_rfl) (by kernel_rfl) (fun _ _ _ h => h) hH rfl ?ys4 ?rs4
      case ys4 => intro w hSw; go_simp; try with_reducible rfl
      try simp only [Act.put, List.setIfInBounds_toArray, List.set_cons_zero, List.set_cons_succ]
      refine takeH 5 (v := ?vs5) rfl (by kernel_rfl) (by kernel_rfl) (by kernel_rfl) (fun _ _ _ h => h) hH rfl ?ys5 ?rs5
      case ys5 => intro w hSw; go_simp; try with_reducible rfl
      try simp only [Act.put, List.setIfInBounds_toArray, List.set_cons_zero, List.set_cons_succ]
      refine takeH 6 (v := ?vs6) rfl (by kernel_rfl) (by kernel_rfl) (by kernel_rfl) (fun _ _ _ h => h) hH rfl ?ys6 ?rs6
      case ys6 => intro w hSw; go_simp; try with_reducible rfl
      try simp only [Act.put, List.setIfInBounds_toArray, List.set_cons_zero, List.set_cons_succ]
      refine takeH 7 (v := ?vs7) rfl (by kernel_rfl) (by kernel_rfl) (by kernel_rfl) (fun _ _ _ h => h) hH rfl ?ys7 ?rs7
      case ys7 => intro w hSw; go_simp; try with_reducible rfl
      try simp only [Act.put, List.setIfInBounds_toArray, List.set_cons_zero, List.set_cons_succ]
      refine callH 8 rfl (by kernel_rfl) rfl (fun K hK => ?_)
      go_simp
      go_at_call 23
      refine (H.out _ hH.1).mono ?_
      rintro e wx ⟨rfl, hbx⟩
      refine hK.out _ _ ⟨hH.1.trans (hbx.mono hH.1.size), (hbx.cell (p := ⟨g, off + k * 4, none⟩) (hgl.out _ hH.1).1).trans hH.2.1, (hbx.cell (p := ⟨g, off + k * 4 + 1, none⟩) (hgl.out _ hH.1).1).trans hH.2.2.1, (hbx.cell (p := ⟨g, off + k * 4 + 2, none⟩) (hgl.out _ hH.1).1).trans hH.2.2.2.1, (hbx.cell (p := ⟨g, off + k * 4 + 3, none⟩) (hgl.out _ hH.1).1).trans hH.2.2.2.2.1, (hbx.cell (p := ⟨g', off' + k * 4, none⟩) (hgl.out _ hH.1).2).trans hH.2.2.2.2.2.1, (hbx.cell (p := ⟨g', off' + k * 4 + 1, none⟩) (hgl.out _ hH.1).2).trans hH.2.2.2.2.2.2.1, (hbx.cell (p := ⟨g', off' + k * 4 + 2, none⟩) (hgl.out _ hH.1).2).trans hH.2.2.2.2.2.2.2.1, (hbx.cell (p := ⟨g', off' + k * 4 + 3, none⟩) (hgl.out _ hH.1).2).trans hH.2.2.2.2.2.2.2.2⟩ (fun hH => ?_)
      clear hK K
      try simp only [Act.put, List.setIfInBounds_toArray, List.set_cons_zero, List.set_cons_succ]
      refine takeH 9 (v := ?vs9) rfl (by kernel_rfl) (by kernel_rfl) (by kernel_rfl) (fun _ _ _ h => h) hH rfl ?ys9 ?rs9
      case ys9 => intro w hSw; go_simp; try with_reducible rfl
      try simp only [Act.put, List.setIfInBounds_toArray, List.set_cons_zero, List.set_cons_succ]
      refine wpAnyH_done (by kernel_rfl) ?_ _
      go_wp2
      go_roundw
      case rel => exact ⟨k + 1, by omega, by go_num, below_step Hbel.out Hbel.out.size hH.1⟩
      case measure => simp [intOf]; omega
    · go_wp2
      go_ret
      exact ⟨rfl, hbel⟩

set_option maxHeartbeats 2000000 in
theorem laws_markVertexSR (es : List (List Fd)) (v : Value) (k B hi : Nat) (w : World) (hk : kTo es k es.length ≤ 1099511627776) (hp : ∀ e ∈ es, vertexP e) (hown : OwnR 44 3 4 w B hi v es) :
    Calls Tryd.prog 13 #[v, .int .i64 k] w fun e w' => e = .returned (.int .i64 ((kTo es k es.length : Nat) : Int)) ∧ OwnR 44 3 4 w' B hi v (mkTo es k es.length) ∧ Btw B hi w w' := by
  obtain ⟨a, cap, rfl, hml9⟩ := hown.slice
  unfold maxLen at hml9
  rw [← mkTo_zero es k, mkTo_len] at hown
  have Hown := Lib.hid hown; clear hown
  have Hp := Lib.hid hp; clear hp
  have Hk := Lib.hid (fun j (h : j ≤ es.length) => Nat.le_trans (kTo_le (es := es) (k := k) h) hk)
  have hk0 : k ≤ 1099511627776 := by have := Hk.out 0 (Nat.zero_le _); rwa [kTo_zero] at this
  clear hk
  go_enter Tryd.func13, Tryd.ntmps13
  go_wp2
  go_loopw [1, 5] (fun c i wr => ∃ j : Nat, j ≤ es.length ∧ i = .int .i64 j ∧ c = .int .i64 ((kTo es k j : Nat) : Int) ∧ OwnR 44 3 4 wr B hi (.slice a es.length cap) (mkTo es k j) ∧ Btw B hi w wr) (fun _ i _ => es.length - (intOf i).toNat)
  case atStart => exact ⟨0, by omega, rfl, by rw [kTo_zero], Hown.out, Btw.refl _ _ _⟩
  case round =>
    obtain ⟨j, hj, rfl, rfl, hrow, hbt⟩ := hrel
    by_cases hlt : j < es.length
    · have hml := mkTo_len es k j
      obtain ⟨g, cap', hv, hBg, hgh, hgs⟩ := hrow.head (by rw [hml]; omega)
      simp only [Value.slice.injEq] at hv
      obtain ⟨rfl, hvl, rfl⟩ := hv
      clear hvl
      have hjm : j < (mkTo es k j).length := by omega
      obtain ⟨x0, x1, x2, x3, he⟩ := Hp.out _ (List.getElem_mem hlt)
      have hset := mkTo_set (k := k) hlt
      have hnx := kTo_succ (k := k) hlt
      have hkb := Hk.out (j + 1) hlt
      have hkb0 := Hk.out j (by omega)
      have hr0 := hrow
      rw [← set_self' hjm ((mkTo_at hlt hjm).trans he)] at hr0
      rw [he] at hset hnx
      simp only [mkE, Fd.mk', Fd.nx] at hset
      simp only [nxE, Fd.nx] at hnx
      rw [hnx] at hkb
      generalize hes : mkTo es k j = rs at *
      have Hrs := Lib.hid (show es.length = rs.length from hml.symm)
      have Hjm := Lib.hid hjm
      have Hset := Lib.hid hset; clear hset
      have Hnx := Lib.hid hnx; clear hnx
      have Hes := Lib.hid hes; clear hes
      generalize hm0 : kTo es k j = m0 at *
      have Hm0 := Lib.hid hm0; clear hm0 hrow hml he
      obtain ⟨C0, Z0⟩ := hr0.rcI hjm 0 (x := x0) rfl
      obtain ⟨C1, Z1⟩ := hr0.rcI hjm 1 (x := x1) rfl
      obtain ⟨a2, c2, C2, O2, Z2, N2, R2⟩ := hr0.rcL hjm 2 (xs := x2) rfl
      have hr0_0 := hr0.rowI Hrs.out hjm 0 (by omega) ((m0 : Int))
      have hbt0_0 := hbt.trans (Btw.set (lo := B) (hi := hi) wr hBg hgh (j * 4 + 0) (.int .i64 ((m0 : Int))))
      have ho0_0 := O2.set_other (B' := g) N2 (j * 4 + 0) (.int .i64 ((m0 : Int)))
      have hc0_0 := (World.cell?_setCell_other wr ⟨g, j * 4 + 0, none⟩ ⟨g, j * 4 + 2, none⟩ (.int .i64 ((m0 : Int))) (by simp)).trans C2
      have hr0_1 := hr0_0.rowI Hrs.out hjm 1 (by omega) ((m0 : Int) + 1)
      have hbt0_1 := hbt0_0.trans (Btw.set (lo := B) (hi := hi) (wr.setCell ⟨g, j * 4 + 0, none⟩ (.int .i64 ((m0 : Int)))) hBg hgh (j * 4 + 1) (.int .i64 ((m0 : Int) + 1)))
      have ho0_1 := ho0_0.set_other (B' := g) N2 (j * 4 + 1) (.int .i64 ((m0 : Int) + 1))
      have hc0_1 := (World.cell?_setCell_other (wr.setCell ⟨g, j * 4 + 0, none⟩ (.int .i64 ((m0 : Int)))) ⟨g, j * 4 + 1, none⟩ ⟨g, j * 4 + 2, none⟩ (.int .i64 ((m0 : Int) + 1)) (by simp)).trans hc0_0
      simp only [List.set_cons_zero, List.set_cons_succ] at hr0_1
      have hcall := laws_markIntS (.slice a2 x2.length c2) x2 (m0 + 2) B ((wr.setCell ⟨g, j * 4 + 0, none⟩ (.int .i64 ((m0 : Int)))).setCell ⟨g, j * 4 + 1, none⟩ (.int .i64 ((m0 : Int) + 1))) (by omega) (by omega) ho0_1
      rw [show ((m0 + 2 : Nat) : Int) = (m0 : Int) + 1 + 1 by omega] at hcall
      have HR0 := Lib.hid (fun W' (o : Own 3 W' B (.slice a2 x2.length c2) (markL (m0 + 2) x2.length)) (hg' : World.grownBy ((wr.setCell ⟨g, j * 4 + 0, none⟩ (.int .i64 ((m0 : Int)))).setCell ⟨g, j * 4 + 1, none⟩ (.int .i64 ((m0 : Int) + 1))) W' (Value.slice a2 x2.length c2).ownBlock) => hr0_1.rowL hjm 2 (by omega) hc0_1 o hg')
      have HBT0 := Lib.hid (fun W' (hg' : World.grownBy ((wr.setCell ⟨g, j * 4 + 0, none⟩ (.int .i64 ((m0 : Int)))).setCell ⟨g, j * 4 + 1, none⟩ (.int .i64 ((m0 : Int) + 1))) W' (Value.slice a2 x2.length c2).ownBlock) => hbt0_1.trans (Btw.grown hg' R2))
      obtain ⟨m1, hm1⟩ : ∃ x : Nat, m0 + 2 + x2.length = x := ⟨_, rfl⟩
      rw [hm1] at hcall hkb
      have Hm1 := Lib.hid hm1; clear hm1
      have Hcall := Lib.hid hcall; clear hcall
      clear hr0_0 hbt0_0 ho0_0 hc0_0 hr0_1 hbt0_1 ho0_1 hc0_1 hr0 hbt O2 N2 Z2 R2
      simp only [Nat.add_zero] at C0 Z0
      go_wp2_with fail
      refine Hcall.out.mono ?_
      rintro e w1 ⟨rfl, ho, hg⟩
      have hr1 := HR0.out w1 ho hg
      simp only [List.set_cons_zero, List.set_cons_succ] at hr1
      have hbt1 := HBT0.out w1 hg
      clear ho hg Hcall HR0 HBT0 C2 C0 Z0 C1 Z1
      obtain ⟨C3, Z3⟩ := hr1.rcI hjm 3 (x := x3) rfl
      have hr1_3 := hr1.rowI Hrs.out hjm 3 (by omega) ((m1 : Int))
      have hbt1_3 := hbt1.trans (Btw.set (lo := B) (hi := hi) w1 hBg hgh (j * 4 + 3) (.int .i64 ((m1 : Int))))
      simp only [List.set_cons_zero, List.set_cons_succ] at hr1_3
      have HR := Lib.hid hr1_3
      have HB := Lib.hid hbt1_3
      clear hr1_3 hbt1_3 hr1 hbt1
      go_wp2
      go_roundw
      case rel =>
        have hn9 := Hnx.out
        have hs9 := Hset.out
        have hr9 := HR.out
        have e1 := Hm1.out
        subst e1
        refine ⟨j + 1, by omega, by go_num, int_eq (by rw [hn9] <;> omega), ?_, HB.out⟩
        rw [← hs9]
        first | exact hr9 | simpa using hr9
      case measure => simp [intOf]; omega
    · have hje : j = es.length := by omega
      subst hje
      go_wp2
      go_ret
      exact ⟨rfl, hrow, hbt⟩

theorem laws_szIntSVertex (a : Option Addr) (cap : Nat) (xs : List Int) (left : Nat) (w : World) (hl : left ≤ 1048576) (hbig : xs.length ≤ 9223372036854775807) :
    Calls Tryd.prog 27 #[.slice a xs.length cap, .int .i64 (left : Int)] w fun e w' => e = .returned (.int .i64 (if xs.length ≤ left then ((left - xs.length : Nat) : Int) else -1)) ∧ w = w' := by
  by_cases h : xs.length ≤ left
  · have h' : ¬ ((left : Int) - (xs.length : Int) < 0) := by omega
    rw [if_pos h]
    go_enter Tryd.func27, Tryd.ntmps27
    go_wp2
    go_ret
    exact ⟨ret_int (by omega), rfl⟩
  · have h' : (left : Int) - (xs.length : Int) < 0 := by omega
    rw [if_neg h]
    go_enter Tryd.func27, Tryd.ntmps27
    go_wp2
    go_ret
    exact ⟨rfl, rfl⟩

theorem laws_szVertexR (x0 : Int) (x1 : Int) (a2 : Option Addr) (c2 : Nat) (x2 : List Int) (x3 : Int) (left : Nat) (w : World) (hl : left ≤ 1048576) (n2 : x2.length ≤ 9223372036854775807) :
    Calls Tryd.prog 18 #[.agg #[.int .i64 x0, .int .i64 x1, .slice a2 x2.length c2, .int .i64 x3], .int .i64 (left : Int)] w fun e w' => e = .returned (.int .i64 (if x2.length ≤ left then ((left - (x2.length) : Nat) : Int) else -1)) ∧ Below w.heap.size w w' := by
  have hb : Below w.heap.size w (w.alloc (.cells #[.int .i64 x0, .int .i64 x1, .slice a2 x2.length c2, .int .i64 x3] 42)) := (Below.refl _ w).alloc (Nat.le_refl _) _
  have s0 := Str.new w 42 #[.int .i64 x0, .int .i64 x1, .slice a2 x2.length c2, .int .i64 x3]
  have k0 := s0.cell 0 (v := .int .i64 x0) rfl
  have k1 := s0.cell 1 (v := .int .i64 x1) rfl
  have k2 := s0.cell 2 (v := .slice a2 x2.length c2) rfl
  have k3 := s0.cell 3 (v := .int .i64 x3) rfl
  have Hb := Lib.hid hb; clear hb s0
  by_cases h0 : x2.length ≤ left
  · have H0 := fun W => laws_szIntSVertex a2 c2 x2 left W (by omega) n2
    rw [if_pos h0] at H0
    obtain ⟨l0, hl0⟩ : ∃ l : Nat, left - x2.length = l := ⟨_, rfl⟩
    rw [hl0] at H0
    have H0 := Lib.hid H0
    have L0 := Lib.hid hl0; clear hl0
    have g0 : decide ((l0 : Int) < 0) = false := decide_eq_false (by omega)
    have b0 : l0 ≤ 1048576 := by have := L0.out; omega
    go_enter Tryd.func18, Tryd.ntmps18
    go_wp2_with fail
    refine (H0.out _).mono ?_
    rintro e w' ⟨rfl, rfl⟩
    go_wp2
    go_ret
    exact ⟨ret_int (by have := L0.out; first | omega | (rw [if_pos (by omega)]; omega)), Hb.out⟩
  · have H0 := fun W => laws_szIntSVertex a2 c2 x2 left W (by omega) n2
    rw [if_neg h0] at H0
    have H0 := Lib.hid H0
    go_enter Tryd.func18, Tryd.ntmps18
    go_wp2_with fail
    refine (H0.out _).mono ?_
    rintro e w' ⟨rfl, rfl⟩
    go_wp2
    go_ret
    exact ⟨ret_int (by first | rfl | (rw [if_neg (by omega)])), Hb.out⟩

set_option maxHeartbeats 1000000 in
theorem laws_szVertexSR (es : List (List Fd)) (v : Value) (fp : List Nat) (left : Nat) (w : World) (hl : left ≤ 1048576) (hbig : es.length ≤ 9223372036854775807) (hp : ∀ e ∈ es, vertexP e) (hin : ∀ e ∈ es, ∀ xs, Fd.l xs ∈ e → xs.length ≤ 9223372036854775807) (hr : Rd w (rowsD es) v fp) :
    Calls Tryd.prog 5 #[v, .int .i64 (left : Int)] w fun e w' => e = .returned (.int .i64 (if es.length + lnTo es es.length ≤ left then ((left - es.length - lnTo es es.length : Nat) : Int) else -1)) ∧ Below w.heap.size w w' := by
  obtain ⟨a, cap, rfl⟩ := Rd.slice hr
  rw [List.length_map] at *
  have Hm := Lib.hid (vertexP_len hp)
  have Hr := Lib.hid hr; clear hr
  have Hin := Lib.hid hin; clear hin
  have Hp := Lib.hid hp; clear hp
  by_cases h : es.length ≤ left
  · have h' : ¬ ((left : Int) - (es.length : Int) < 0) := by omega
    have hcast : (left : Int) - (es.length : Int) = ((left - es.length : Nat) : Int) := by omega
    go_enter Tryd.func5, Tryd.ntmps5
    go_wp2_with fail
    go_loopw [1, 5] (fun m i wr => ∃ k : Nat, k ≤ es.length ∧ i = .int .i64 k ∧ es.length + lnTo es k ≤ left ∧ m = .int .i64 ((left - es.length - lnTo es k : Nat) : Int) ∧ Below w.heap.size w wr) (fun _ i _ => es.length - (intOf i).toNat)
    case atStart => exact ⟨0, by omega, rfl, by rw [lnTo_zero]; exact h, int_eq (by rw [lnTo_zero]; omega), Below.refl _ _⟩
    case round =>
      obtain ⟨k, hk, rfl, hle, rfl, hbel⟩ := hrel
      clear h' hcast
      by_cases hlt : k < es.length
      · obtain ⟨g, off, rfl, hg, hat⟩ := rows_at (Hr.out.under hbel) (by omega) Hm.out
        have Hbel := Lib.hid hbel; clear hbel
        obtain ⟨x0, x1, x2, x3, he⟩ := Hp.out _ (List.getElem_mem hlt)
        have hin := Hin.out _ (List.getElem_mem hlt)
        rw [he] at hin
        obtain ⟨v0, f0, C0, R0⟩ := hat k hlt 0 (by rw [he]; simp)
        obtain rfl := rd_i R0 (x := x0) (by simp only [he]; rfl)
        clear R0
        obtain ⟨v1, f1, C1, R1⟩ := hat k hlt 1 (by rw [he]; simp)
        obtain rfl := rd_i R1 (x := x1) (by simp only [he]; rfl)
        clear R1
        obtain ⟨v2, f2, C2, R2⟩ := hat k hlt 2 (by rw [he]; simp)
        obtain ⟨a2, c2, rfl, I2⟩ := rd_l R2 (xs := x2) (by simp only [he]; rfl)
        clear R2
        obtain ⟨v3, f3, C3, R3⟩ := hat k hlt 3 (by rw [he]; simp)
        obtain rfl := rd_i R3 (x := x3) (by simp only [he]; rfl)
        clear R3
        simp only [Nat.add_zero] at C0
        have n2 := hin x2 (by simp)
        have hs1 := lnTo_succ hlt
        rw [he] at hs1
        rw [show lnE [.i x0, .i x1, .l x2, .i x3] = x2.length by simp [lnE, Fd.ln]] at hs1
        have Hs1 := Lib.hid hs1; clear hs1 hin hat he I2
        have Hmono := Lib.hid (lnTo_le (es := es) (show k + 1 ≤ es.length from hlt))
        obtain ⟨q, hq⟩ : ∃ q, left - es.length - lnTo es k = q := ⟨_, rfl⟩
        have hsz := laws_szVertexR x0 x1 a2 c2 x2 x3 q wr (by omega) n2
        rw [hq]
        by_cases hv : x2.length ≤ q
        · rw [if_pos hv] at hsz
          have Hsz := Lib.hid hsz; clear hsz
          have Hn := Lib.hid (show ((q - (x2.length) : Nat) : Int) = ((left - es.length - lnTo es (k + 1) : Nat) : Int) by rw [Hs1.out]; omega)
          have Hn2 := Lib.hid (show es.length + lnTo es (k + 1) ≤ left by rw [Hs1.out]; omega)
          obtain ⟨u, hu⟩ : ∃ u : Nat, q - (x2.length) = u := ⟨_, rfl⟩
          have Hu := Lib.hid hu
          have hz := Hsz.out
          rw [hu] at hz
          have Hz := Lib.hid hz; clear hz hu
          have g9 : decide ((u : Int) < 0) = false := decide_eq_false (by omega)
          clear hq
          go_wp2_with fail
          refine Hz.out.mono ?_
          rintro e w2 ⟨rfl, hb2⟩
          have Hb2 := Lib.hid (below_step Hbel.out Hbel.out.size hb2)
          clear hb2
          go_wp2
          go_roundw
          case rel => exact ⟨k + 1, by omega, by go_num, Hn2.out, int_eq (by rw [← Hn.out, Hu.out]), Hb2.out⟩
          case measure => simp [intOf]; omega
        · rw [if_neg hv] at hsz
          have Hsz := Lib.hid hsz; clear hsz
          have Hf := Lib.hid (show ¬ es.length + lnTo es es.length ≤ left by have := Hmono.out; rw [Hs1.out] at this; omega)
          clear hq
          go_wp2_with fail
          refine Hsz.out.mono ?_
          rintro e w2 ⟨rfl, hb2⟩
          have Hb2 := Lib.hid (below_step Hbel.out Hbel.out.size hb2)
          clear hb2
          go_wp2
          go_ret
          exact ⟨by first | rfl | (rw [if_neg Hf.out]; rfl), Hb2.out⟩
      · have hke : k = es.length := by omega
        subst hke
        have Hle := Lib.hid hle; clear hle
        generalize hq : left - es.length - lnTo es es.length = q at *
        have Hq := Lib.hid hq; clear hq
        go_wp2
        go_ret
        exact ⟨by first | (rw [if_pos Hle.out, Hq.out]; rfl) | (rw [Hq.out]; rfl), hbel⟩
  · have h' : (left : Int) - (es.length : Int) < 0 := by omega
    have Hf := Lib.hid (show ¬ es.length + lnTo es es.length ≤ left by omega)
    go_enter Tryd.func5, Tryd.ntmps5
    go_wp2
    go_ret
    exact ⟨by first | rfl | (rw [if_neg Hf.out]; rfl), Below.refl _ _⟩

theorem laws_toVertexR (x0 : Int) (x1 : Int) (a2 : Option Addr) (c2 : Nat) (x2 : List Int) (x3 : Int) (w : World) (hbig : x2.length ≤ 1099511627776) (hc : IntsAt w a2 x2) :
    Calls Tryd.prog 21 #[.agg #[.int .i64 x0, .int .i64 x1, .slice a2 x2.length c2, .int .i64 x3]] w fun e w' => ∃ v, e = .returned (.agg #[.int .i64 x0, .int .i64 x1, v, .int .i64 x3]) ∧ Own 3 w' w.heap.size v x2 ∧ Below w.heap.size w w' := by
  have hbW : Below w.heap.size w (((w.alloc (.cells #[.int .i64 x0, .int .i64 x1, .slice a2 x2.length c2, .int .i64 x3] 42)).alloc (.cells #[.int .i64 0, .int .i64 0, .slice none 0 0, .int .i64 0] 44)).alloc (.cells #[.int .i64 x0, .int .i64 x1, .slice none 0 0, .int .i64 0] 44)) := (((Below.refl _ w).alloc (Nat.le_refl _) _).alloc (by simp) _).alloc (by simp; omega) _
  have s0 := ((Str.new w 42 #[.int .i64 x0, .int .i64 x1, .slice a2 x2.length c2, .int .i64 x3]).alloc (.cells #[.int .i64 0, .int .i64 0, .slice none 0 0, .int .i64 0] 44)).alloc (.cells #[.int .i64 x0, .int .i64 x1, .slice none 0 0, .int .i64 0] 44)
  have s1 := (Str.new (w.alloc (.cells #[.int .i64 x0, .int .i64 x1, .slice a2 x2.length c2, .int .i64 x3] 42)) 44 #[.int .i64 0, .int .i64 0, .slice none 0 0, .int .i64 0]).alloc (.cells #[.int .i64 x0, .int .i64 x1, .slice none 0 0, .int .i64 0] 44)
  have s2 := Str.new ((w.alloc (.cells #[.int .i64 x0, .int .i64 x1, .slice a2 x2.length c2, .int .i64 x3] 42)).alloc (.cells #[.int .i64 0, .int .i64 0, .slice none 0 0, .int .i64 0] 44)) 44 #[.int .i64 x0, .int .i64 x1, .slice none 0 0, .int .i64 0]
  have hzW : (((w.alloc (.cells #[.int .i64 x0, .int .i64 x1, .slice a2 x2.length c2, .int .i64 x3] 42)).alloc (.cells #[.int .i64 0, .int .i64 0, .slice none 0 0, .int .i64 0] 44)).alloc (.cells #[.int .i64 x0, .int .i64 x1, .slice none 0 0, .int .i64 0] 44)).heap.size = w.heap.size + 3 := by simp
  simp only [World.size_alloc] at s1 s2
  have Hc := Lib.hid (hc.below hbW)
  have Hb := Lib.hid hbW
  have Hs0 := Lib.hid s0
  have Hs1 := Lib.hid s1
  have Hs2 := Lib.hid s2
  have Hz := Lib.hid hzW
  clear hc hbW s0 s1 s2 hzW
  go_enter Tryd.func21, Tryd.ntmps21
  go_wp2_with fail
  generalize ((w.alloc (.cells #[.int .i64 x0, .int .i64 x1, .slice a2 x2.length c2, .int .i64 x3] 42)).alloc (.cells #[.int .i64 0, .int .i64 0, .slice none 0 0, .int .i64 0] 44)).alloc (.cells #[.int .i64 x0, .int .i64 x1, .slice none 0 0, .int .i64 0] 44) = W1 at *
  refine (laws_toIntS a2 c2 x2 W1 hbig Hc.out).mono ?_
  rintro e w6 ⟨v, rfl, hown, hb6⟩
  have hz := Hz.out
  have t0 : Str w6 w.heap.size 42 #[.int .i64 x0, .int .i64 x1, .slice a2 x2.length c2, .int .i64 x3] := (hb6.block _ (by omega)).trans Hs0.out
  have t1 : Str w6 (w.heap.size + 1) 44 #[.int .i64 0, .int .i64 0, .slice none 0 0, .int .i64 0] := (hb6.block _ (by omega)).trans Hs1.out
  have t2 : Str w6 (w.heap.size + 1 + 1) 44 #[.int .i64 x0, .int .i64 x1, .slice none 0 0, .int .i64 0] := (hb6.block _ (by omega)).trans Hs2.out
  have Hlt := Lib.hid (show ∀ g, v.ownBlock = some g → w.heap.size + 3 ≤ g from fun g e => by have := (hown.lt g e).1; omega)
  have HbF := Lib.hid (below_step Hb.out (by omega) hb6)
  obtain ⟨a6, c6, rfl, _, _⟩ := hown.ints
  have HwW := Lib.hid (show w.heap.size ≤ W1.heap.size by omega)
  have Hown := Lib.hid hown
  clear hown hb6 hz Hz Hs0 Hs1 Hs2 Hc Hb
  have l3 := t0.cell 3 (v := .int .i64 x3) rfl
  have k0 := t1.cell 0 (v := .int .i64 0) rfl
  have k1 := t1.cell 1 (v := .int .i64 0) rfl
  have k2 := t1.cell 2 (v := .slice none 0 0) rfl
  have k3 := t1.cell 3 (v := .int .i64 0) rfl
  have f0 := t1.frozen 0
  have f1 := t1.frozen 1
  have f2 := t1.frozen 2
  have f3 := t1.frozen 3
  have j0 := t2.cell 0 (v := .int .i64 x0) rfl
  have j1 := t2.cell 1 (v := .int .i64 x1) rfl
  have j2 := t2.cell 2 (v := .slice none 0 0) rfl
  have j3 := t2.cell 3 (v := .int .i64 0) rfl
  have g2 := t2.frozen 2
  have g3 := t2.frozen 3
  have hne : w.heap.size + 1 ≠ w.heap.size + 1 + 1 := by omega
  have u := ((((((t1.other hne 2 (.slice a6 x2.length c6)).other hne 3 (.int .i64 x3)).set 0 (.int .i64 x0)).set 1 (.int .i64 x1)).set 2 (.slice a6 x2.length c6)).set 3 (.int .i64 x3))
  have e0 := u.cell 0 (v := .int .i64 x0) rfl
  have e1 := u.cell 1 (v := .int .i64 x1) rfl
  have e2 := u.cell 2 (v := .slice a6 x2.length c6) rfl
  have e3 := u.cell 3 (v := .int .i64 x3) rfl
  clear u t0 t1 t2
  go_wp2
  refine bodyPost_ret (v := .agg #[.int .i64 x0, .int .i64 x1, .slice a6 x2.length c6, .int .i64 x3]) (by simp [results, Tryd.f21, go_sem, e0, e1, e2, e3]) rfl ?_
  have n1 : (Value.slice a6 x2.length c6).ownBlock ≠ some (w.heap.size + 1) := fun e => by have := Hlt.out _ e; omega
  have n2 : (Value.slice a6 x2.length c6).ownBlock ≠ some (w.heap.size + 1 + 1) := fun e => by have := Hlt.out _ e; omega
  exact ⟨_, rfl, (((((((Hown.out.mono HwW.out).set_other n2 2 _).set_other n2 3 _).set_other n1 0 _).set_other n1 1 _).set_other n1 2 _).set_other n1 3 _), ((((((HbF.out.setCell (p := ⟨w.heap.size + 1 + 1, 2, none⟩) (by simp only; omega) _).setCell (p := ⟨w.heap.size + 1 + 1, 3, none⟩) (by simp only; omega) _).setCell (p := ⟨w.heap.size + 1, 0, none⟩) (by simp only; omega) _).setCell (p := ⟨w.heap.size + 1, 1, none⟩) (by simp only; omega) _).setCell (p := ⟨w.heap.size + 1, 2, none⟩) (by simp only; omega) _).setCell (p := ⟨w.heap.size + 1, 3, none⟩) (by simp only; omega) _)⟩

theorem vertex_info : (Tryd.prog.info? 44).map (fun i => (i.zero, i.size, i.bytes)) = some (some (.agg #[.int .i64 0, .int .i64 0, .slice none 0 0, .int .i64 0]), 4, 48) := by kernel_rfl

set_option maxHeartbeats 1000000 in
theorem laws_toVertexSR (es : List (List Fd)) (v : Value) (fp : List Nat) (w : World) (hbig : es.length ≤ 1048576) (hp : ∀ e ∈ es, vertexP e) (hl : ∀ e ∈ es, lnE e ≤ 1048576) (hr : Rd w (rowsD es) v fp) :
    Calls Tryd.prog 8 #[v] w fun e w' => ∃ u, e = .returned u ∧ OwnR 44 3 4 w' w.heap.size w'.heap.size u es ∧ Below w.heap.size w w' := by
  obtain ⟨a, cap, rfl⟩ := Rd.slice hr
  rw [List.length_map] at *
  have Hm := Lib.hid (vertexP_len hp)
  have Hr := Lib.hid hr; clear hr
  have Hp := Lib.hid hp; clear hp
  have Hl := Lib.hid hl; clear hl
  have hmk : ∀ w, (Instr.makeSlice 27 (.int .i64 (es.length : Int)) (.int .i64 (es.length : Int))).run Tryd.prog w = .ok (.slice (some ⟨w.heap.size, 0, none⟩) es.length es.length) (w.alloc (.cells (madeCells #[.int .i64 0, .int .i64 0, .slice none 0 0, .int .i64 0] (es.length * 4)) 44)) := fun w => by
    obtain ⟨i, hi, hz, hsz, hb⟩ := info_parts vertex_info
    have h := run_make (P := Tryd.prog) w 27 44 i (.agg #[.int .i64 0, .int .i64 0, .slice none 0 0, .int .i64 0]) Tryd.underlying27 hi hz .i64 .i64 (es.length : Int) (es.length : Int) (by omega) (Int.le_refl _) (by rw [hb]; omega) (by omega)
    simp only [Int.toNat_natCast, hsz] at h
    exact h
  have hn0 := ownR_new (E := 44) (Ei := 3) (m := 4) w es [.int .i64 0, .int .i64 0, .slice none 0 0, .int .i64 0] [.i 0, .i 0, .l [], .i 0] (by unfold maxLen; omega) rfl rfl (by omega) (by intro c hc; simp only [List.mem_cons, List.not_mem_nil, or_false] at hc; rcases hc with rfl | rfl | rfl | rfl <;> rfl) (fun W B j h h' => by
    match j, h, h' with
    | 0, _, _ => exact rfl
    | 1, _, _ => exact rfl
    | 2, _, _ => exact Own.nil _ _ _
    | 3, _, _ => exact rfl)
  have Hv0 := Lib.hid (show OwnR 44 3 4 (w.alloc (.cells (madeCells #[.int .i64 0, .int .i64 0, .slice none 0 0, .int .i64 0] (es.length * 4)) 44)) w.heap.size (w.alloc (.cells (madeCells #[.int .i64 0, .int .i64 0, .slice none 0 0, .int .i64 0] (es.length * 4)) 44)).heap.size _ (cpTo es [.i 0, .i 0, .l [], .i 0] 0) from hn0.mono (by simp)); clear hn0
  have Hb0 := Lib.hid ((Below.refl w.heap.size w).alloc (Nat.le_refl _) (.cells (madeCells #[.int .i64 0, .int .i64 0, .slice none 0 0, .int .i64 0] (es.length * 4)) 44))
  go_enter Tryd.func8, Tryd.ntmps8
  go_wp2_with fail
  go_loopw [4] (fun i wr => ∃ k : Nat, k ≤ es.length ∧ i = .int .i64 k ∧ OwnR 44 3 4 wr w.heap.size wr.heap.size (.slice (some ⟨w.heap.size, 0, none⟩) es.length es.length) (cpTo es [.i 0, .i 0, .l [], .i 0] k) ∧ Below w.heap.size w wr) (fun i _ => es.length - (intOf i).toNat)
  case atStart => exact ⟨0, by omega, rfl, Hv0.out, Hb0.out⟩
  case round =>
    clear Hv0 Hb0
    obtain ⟨k, hk, rfl, hown, hbel⟩ := hrel
    have hB := hbel.size
    have Hbel := Lib.hid hbel; clear hbel
    have Hown := Lib.hid hown; clear hown
    by_cases hlt : k < es.length
    · obtain ⟨g, off, rfl, hg, hat⟩ := rows_at (Hr.out.under Hbel.out) (by omega) Hm.out
      obtain ⟨x0, x1, x2, x3, he⟩ := Hp.out _ (List.getElem_mem hlt)
      have hle := Hl.out _ (List.getElem_mem hlt)
      rw [he] at hle
      obtain ⟨v0, f0, C0, R0⟩ := hat k hlt 0 (by rw [he]; simp)
      obtain rfl := rd_i R0 (x := x0) (by simp only [he]; rfl)
      clear R0
      obtain ⟨v1, f1, C1, R1⟩ := hat k hlt 1 (by rw [he]; simp)
      obtain rfl := rd_i R1 (x := x1) (by simp only [he]; rfl)
      clear R1
      obtain ⟨v2, f2, C2, R2⟩ := hat k hlt 2 (by rw [he]; simp)
      obtain ⟨a2, c2, rfl, I2⟩ := rd_l R2 (xs := x2) (by simp only [he]; rfl)
      clear R2
      obtain ⟨v3, f3, C3, R3⟩ := hat k hlt 3 (by rw [he]; simp)
      obtain rfl := rd_i R3 (x := x3) (by simp only [he]; rfl)
      clear R3
      simp only [Nat.add_zero] at C0
      have n2 : x2.length ≤ 1048576 := ln_in hle (by simp)
      have hst := cpTo_step (z := [.i 0, .i 0, .l [], .i 0]) hlt
      rw [he] at hst
      have Hst := Lib.hid hst; clear hst
      have hcl := cpTo_len es [.i 0, .i 0, .l [], .i 0] k
      have hkc : k < (cpTo es [.i 0, .i 0, .l [], .i 0] k).length := by rw [hcl]; exact hlt
      have hz0 : (cpTo es [.i 0, .i 0, .l [], .i 0] k)[k] = [.i 0, .i 0, .l [], .i 0] := by rw [cpTo_get, if_neg (by omega)]
      have hr0 := Hown.out
      rw [← set_self' hkc hz0] at hr0
      generalize cpTo es [.i 0, .i 0, .l [], .i 0] k = rs at *
      have Hrs := Lib.hid (show es.length = rs.length from hcl.symm)
      have Hr0 := Lib.hid hr0; clear hr0 hz0
      have Hcall := Lib.hid (laws_toVertexR x0 x1 a2 c2 x2 x3 wr (by omega) I2)
      clear hat he hle hcl I2 Hown
      go_wp2_with fail
      refine Hcall.out.mono ?_
      rintro e w2 ⟨u, rfl, hown2, hb2⟩
      have hs2 := hb2.size
      have hrow := Hr0.out.below hb2 (Nat.le_refl _)
      have Hb2 := Lib.hid (below_step Hbel.out hB hb2)
      clear hb2 Hr0
      obtain ⟨P0, F0⟩ := hrow.rcI hkc 0 (x := 0) rfl
      obtain ⟨P1, F1⟩ := hrow.rcI hkc 1 (x := 0) rfl
      obtain ⟨aq2, cq2, P2, _, F2, _, _⟩ := hrow.rcL hkc 2 (xs := []) rfl
      obtain ⟨P3, F3⟩ := hrow.rcI hkc 3 (x := 0) rfl
      simp only [Nat.add_zero] at P0 F0
      have hgw : w.heap.size < wr.heap.size := by have := hrow.head (by rw [List.length_set]; omega); obtain ⟨_, _, hh, _, h10, _⟩ := this; simp only [Value.slice.injEq, Option.some.injEq, Addr.mk.injEq] at hh; have h11 := hh.1.1; omega
      have hne : u.ownBlock ≠ some w.heap.size := fun e => by have h9 : wr.heap.size ≤ w.heap.size := (hown2.lt _ e).1; omega
      have A0 := hrow.rowI Hrs.out hkc 0 (by omega) x0
      have A1 := A0.rowI Hrs.out hkc 1 (by omega) x1
      have A2 := A1.rowF Hrs.out hkc 2 (by omega) (u := u) (f := .l x2) (hf := (((hown2.mono hB).set_other hne _ _).set_other hne _ _)) (hi' := w2.heap.size) hs2 (fun b e => hown2.lt b e)
      have A3 := A2.rowI Hrs.out hkc 3 (by omega) x3
      obtain ⟨a2, c2, rfl, _, _⟩ := hown2.ints
      simp only [List.set_cons_zero, List.set_cons_succ, Nat.add_zero] at A3
      rw [Hst.out] at A3
      have hsz4 : ((((w2.setCell ⟨w.heap.size, k * 4, none⟩ (.int .i64 x0)).setCell ⟨w.heap.size, k * 4 + 1, none⟩ (.int .i64 x1)).setCell ⟨w.heap.size, k * 4 + 2, none⟩ (.slice a2 x2.length c2)).setCell ⟨w.heap.size, k * 4 + 3, none⟩ (.int .i64 x3)).heap.size = w2.heap.size := by simp [World.setCell]
      have HA := Lib.hid (A3.mono (Nat.le_of_eq hsz4.symm))
      have HB4 := Lib.hid ((((Hb2.out.setCell (p := ⟨w.heap.size, k * 4, none⟩) (Nat.le_refl _) (.int .i64 x0)).setCell (p := ⟨w.heap.size, k * 4 + 1, none⟩) (Nat.le_refl _) (.int .i64 x1)).setCell (p := ⟨w.heap.size, k * 4 + 2, none⟩) (Nat.le_refl _) (.slice a2 x2.length c2)).setCell (p := ⟨w.heap.size, k * 4 + 3, none⟩) (Nat.le_refl _) (.int .i64 x3))
      clear hsz4 A0 A1 A2 A3 hrow hown2 hne
      go_wp2_with fail
      go_roundw
      case rel => exact ⟨k + 1, by omega, by go_num, HA.out, HB4.out⟩
      case measure => simp [intOf]; omega
    · have hke : k = es.length := by omega
      subst hke
      go_wp2
      go_ret
      exact ⟨_, rfl, by have h9 := Hown.out; rwa [cpTo_all] at h9, Hbel.out⟩

end Go.Proofs.YtjaacdapibokiabDoor

/- Graphs of vertices: what they are as lists, and the reference's tests of vertices and graphs, each by a walk of its text; conditions: lists are shorter than 2^40, and where the text asks it, the committee is valid. -/
namespace Go.Proofs.YtjaacdapibokiabDoor
open Go.RowKit

/-- A vertex: round, author, parents, digest. -/
structure Vx where
  r : Int
  a : Int
  ps : List Int
  d : Int
deriving DecidableEq
def Vx.fd (v : Vx) : List Fd := [.i v.r, .i v.a, .l v.ps, .i v.d]
def vx0 : Vx := ⟨0, 0, [], 0⟩
def quorumZ (c : List Int) : Int := 2 * totalZ c / 3 + 1
def rngB (r : Int) : Bool := decide (0 ≤ r ∧ r ≤ 30)
def autB (n : Nat) (a : Int) : Bool := decide (0 ≤ a ∧ a ≤ (n : Int) - 1)
def quoB (c : List Int) (v : Vx) : Bool := if v.r = 0 then decide (v.ps.length = 0) else decide (quorumZ c ≤ weightZ c v.ps)
/-- The vertex is valid for a committee that is valid. -/
def vtxB (c : List Int) (v : Vx) : Bool := rngB v.r && (autB c.length v.a && (membersB c.length v.ps && (digB v.d && quoB c v)))
def sameRA (r a : Int) (v : Vx) : Bool := decide (v.r = r ∧ v.a = a)
/-- The index of the vertex with this round and author, or -1. -/
def findZ (g : List Vx) (r a : Int) : Int := match g.findIdx? (sameRA r a) with | some k => k | none => -1
def hasP (g : List Vx) (r : Int) (ps : List Int) (k : Nat) : Bool := decide (0 ≤ findZ g (r - 1) (ps.getD k 0))
def parB (g : List Vx) (v : Vx) : Bool := allB (hasP g v.r v.ps) v.ps.length
def befB (a b : Vx) : Bool := decide (a.r < b.r ∨ a.r = b.r ∧ a.a < b.a)
def okV (c : List Int) (g : List Vx) (i : Nat) : Bool := vtxB c (g.getD i vx0) && ((i == 0 || befB (g.getD (i - 1) vx0) (g.getD i vx0)) && parB g (g.getD i vx0))
def graphB (c : List Int) (g : List Vx) : Bool := validB c && allB (okV c g) g.length

theorem getV {g : List Vx} {k : Nat} (h : k < g.length) : g.getD k vx0 = g[k] := by simp [List.getD, List.getElem?_eq_getElem h]
theorem findZ_yes {g : List Vx} {r a : Int} {k : Nat} (hk : k < g.length) (h : Upto (fun j => !sameRA r a (g.getD j vx0)) k) (hs : sameRA r a g[k] = true) : findZ g r a = k := by
  unfold findZ
  rw [List.findIdx?_eq_some_iff_getElem.2 ⟨hk, hs, fun j hj => by
    have := h j hj
    simp only [getV (show j < g.length by omega)] at this
    simpa using this⟩]
theorem findZ_no {g : List Vx} {r a : Int} {n : Nat} (h : Upto (fun j => !sameRA r a (g.getD j vx0)) n) (hn : g.length ≤ n) : findZ g r a = -1 := by
  unfold findZ
  rw [List.findIdx?_eq_none_iff.2 fun v hv => by
    obtain ⟨k, hk, rfl⟩ := List.mem_iff_getElem.1 hv
    have := h k (by omega)
    simp only [getV hk] at this
    simpa using this]
theorem findZ_cases (g : List Vx) (r a : Int) : (findZ g r a = -1 ∧ ∀ v ∈ g, sameRA r a v = false) ∨ ∃ k, ∃ h : k < g.length, findZ g r a = k ∧ sameRA r a g[k] = true ∧ ∀ j (hj : j < k), sameRA r a (g[j]'(by omega)) = false := by
  unfold findZ
  cases h : g.findIdx? (sameRA r a) with
  | none => exact .inl ⟨rfl, fun v hv => by simpa using List.findIdx?_eq_none_iff.1 h v hv⟩
  | some k =>
    obtain ⟨hk, hs, hb⟩ := List.findIdx?_eq_some_iff_getElem.1 h
    exact .inr ⟨k, hk, rfl, hs, fun j hj => by simpa using hb j hj⟩

/-- A graph in memory. -/
def Gr (w : World) (g : List Vx) (v : Value) (fp : List Nat) : Prop := Rd w (rowsD (g.map Vx.fd)) v fp
theorem Gr.under {w w' : World} {g : List Vx} {v : Value} {fp : List Nat} (h : Gr w g v fp) (hb : Below w.heap.size w w') : Gr w' g v fp := Rd.under h hb
theorem Gr.slice {w : World} {g : List Vx} {v : Value} {fp : List Nat} (h : Gr w g v fp) : ∃ a cap, v = .slice a g.length cap := by
  obtain ⟨a, cap, rfl⟩ := Rd.slice h
  exact ⟨a, cap, by simp⟩
theorem Gr.at {w : World} {g : List Vx} {a : Option Addr} {n cap : Nat} {fp : List Nat} (h : Gr w g (.slice a n cap) fp) (hne : 0 < g.length) : ∃ b off, a = some ⟨b, off, none⟩ ∧ b < w.heap.size ∧ ∀ k (hk : k < g.length),
    w.cell? ⟨b, off + k * 4, none⟩ = some (.int .i64 g[k].r) ∧ w.cell? ⟨b, off + k * 4 + 1, none⟩ = some (.int .i64 g[k].a) ∧ (∃ pa pc, w.cell? ⟨b, off + k * 4 + 2, none⟩ = some (.slice pa g[k].ps.length pc) ∧ IntsAt w pa g[k].ps ∧ SrcAt w pa pc g[k].ps) ∧ w.cell? ⟨b, off + k * 4 + 3, none⟩ = some (.int .i64 g[k].d) := by
  obtain ⟨b, off, rfl, hb, hc⟩ := rows_at (es := g.map Vx.fd) (m := 4) h (by simpa using hne) (fun e he => by obtain ⟨x, _, rfl⟩ := List.mem_map.1 he; rfl)
  refine ⟨b, off, rfl, hb, fun k hk => ?_⟩
  have hk' : k < (g.map Vx.fd).length := by simpa using hk
  have he : (g.map Vx.fd)[k] = g[k].fd := by simp
  obtain ⟨c0, _, h0, r0⟩ := hc k hk' 0 (by rw [he]; simp [Vx.fd])
  obtain ⟨c1, _, h1, r1⟩ := hc k hk' 1 (by rw [he]; simp [Vx.fd])
  obtain ⟨c2, _, h2, r2⟩ := hc k hk' 2 (by rw [he]; simp [Vx.fd])
  obtain ⟨c3, _, h3, r3⟩ := hc k hk' 3 (by rw [he]; simp [Vx.fd])
  obtain rfl := rd_i r0 (x := g[k].r) (by simp only [he]; rfl)
  obtain rfl := rd_i r1 (x := g[k].a) (by simp only [he]; rfl)
  obtain ⟨pa, pc, rfl, hi, hs⟩ := rd_ls r2 (xs := g[k].ps) (by simp only [he]; rfl)
  obtain rfl := rd_i r3 (x := g[k].d) (by simp only [he]; rfl)
  exact ⟨h0, h1, ⟨pa, pc, h2, hi, hs⟩, h3⟩

set_option maxHeartbeats 1000000 in
theorem spec_l11Vertex (ac : Option Addr) (capc : Nat) (c : List Int) (r a d : Int) (pa : Option Addr) (pc : Nat) (ps : List Int) (w : World) (hv : validB c = true) (hbig : ps.length ≤ 1099511627776) (hc : IntsAt w ac c) (hp : IntsAt w pa ps) :
    Calls Tryd.prog 41 #[.slice ac c.length capc, .agg #[.int .i64 r, .int .i64 a, .slice pa ps.length pc, .int .i64 d]] w fun e w' => e = .returned (.bool (vtxB c ⟨r, a, ps, d⟩)) ∧ Below w.heap.size w w' := by
  obtain ⟨hn1, hn7⟩ := validB_len hv
  have hb0 : Below w.heap.size w (w.alloc (.cells #[.int .i64 r, .int .i64 a, .slice pa ps.length pc, .int .i64 d] 44)) := (Below.refl _ _).alloc (Nat.le_refl _) _
  have s0 := Str.new w 44 #[.int .i64 r, .int .i64 a, .slice pa ps.length pc, .int .i64 d]
  have hc0 := hc.below hb0
  have hp0 := hp.below hb0
  have k0 := s0.cell 0 (v := .int .i64 r) rfl
  have k1 := s0.cell 1 (v := .int .i64 a) rfl
  have k2 := s0.cell 2 (v := .slice pa ps.length pc) rfl
  have k3 := s0.cell 3 (v := .int .i64 d) rfl
  have H1 := Lib.hid (fun W => spec_l6In r 0 30 W)
  have H2 := Lib.hid (fun W => spec_l6In a 0 ((c.length : Int) - 1) W)
  have H3 := Lib.hid (fun W (h : IntsAt W pa ps) => spec_l1Members ac capc c.length pa pc ps W (by omega) hbig h)
  have H4 := Lib.hid (fun W => spec_l2Digest d W)
  have H5 := Lib.hid (fun W (hm : membersB c.length ps = true) (h : IntsAt W ac c) (h' : IntsAt W pa ps) => spec_l1Weight ac capc c pa pc ps W hv hm hbig h h')
  have H6 := Lib.hid (fun W (h : IntsAt W ac c) => spec_l1Quorum ac capc c W hv h)
  have hw1 : IntKind.i64.wrap ((c.length : Int) - 1) = c.length - 1 := IntWalk.i64_in _ (by omega)
  have HC := Lib.hid hc0; have HP := Lib.hid hp0; have Hb0 := Lib.hid hb0
  clear hc0 hp0 hb0 s0 hc hp
  have Hres := Lib.hid (show vtxB c ⟨r, a, ps, d⟩ = (rngB r && (autB c.length a && (membersB c.length ps && (digB d && quoB c ⟨r, a, ps, d⟩)))) from rfl)
  go_enter Tryd.func41, Tryd.ntmps41
  go_wp2_with fail
  generalize w.alloc (.cells #[.int .i64 r, .int .i64 a, .slice pa ps.length pc, .int .i64 d] 44) = W0 at *
  refine (H1.out W0).mono ?_
  rintro e w1 ⟨rfl, rfl⟩
  rw [show decide (0 ≤ r ∧ r ≤ 30) = rngB r from rfl]
  cases h1 : rngB r with
  | false =>
    go_wp2
    go_ret
    exact ⟨ret_bool (by rw [Hres.out, h1]; rfl), Hb0.out⟩
  | true =>
  go_wp2_with fail
  refine (H2.out W0).mono ?_
  rintro e w1 ⟨rfl, rfl⟩
  rw [show decide (0 ≤ a ∧ a ≤ (c.length : Int) - 1) = autB c.length a from rfl]
  cases h2 : autB c.length a with
  | false =>
    go_wp2
    go_ret
    exact ⟨ret_bool (by rw [Hres.out, h1, h2]; rfl), Hb0.out⟩
  | true =>
  go_wp2_with fail
  refine (H3.out W0 HP.out).mono ?_
  rintro e w1 ⟨rfl, hd1⟩
  have Hb1 := Lib.hid (below_step Hb0.out Hb0.out.size (hd1.below W0.heap.size))
  have HC1 := Lib.hid (HC.out.below (hd1.below W0.heap.size))
  have HP1 := Lib.hid (HP.out.below (hd1.below W0.heap.size))
  have k0 := (hd1.cell _).trans k0
  have k2 := (hd1.cell _).trans k2
  have k3 := (hd1.cell _).trans k3
  clear hd1
  cases h3 : membersB c.length ps with
  | false =>
    go_wp2
    go_ret
    exact ⟨ret_bool (by rw [Hres.out, h1, h2, h3]; rfl), Hb1.out⟩
  | true =>
  go_wp2_with fail
  refine (H4.out w1).mono ?_
  rintro e w2 ⟨rfl, rfl⟩
  cases h4 : digB d with
  | false =>
    go_wp2
    go_ret
    exact ⟨ret_bool (by rw [Hres.out, h1, h2, h3, h4]; rfl), Hb1.out⟩
  | true =>
  have hres : vtxB c ⟨r, a, ps, d⟩ = quoB c ⟨r, a, ps, d⟩ := by rw [Hres.out, h1, h2, h3, h4]; rfl
  have Hr := Lib.hid hres; clear hres
  by_cases hr0 : r = 0
  · have hq : quoB c ⟨r, a, ps, d⟩ = decide (ps.length = 0) := if_pos hr0
    have Hq := Lib.hid hq; clear hq
    subst hr0
    go_wp2
    go_ret
    exact ⟨ret_bool (by rw [Hr.out, Hq.out, Bool.eq_iff_iff, beq_iff_eq, decide_eq_true_iff]; omega), Hb1.out⟩
  · have hq : quoB c ⟨r, a, ps, d⟩ = decide (quorumZ c ≤ weightZ c ps) := if_neg hr0
    have Hq := Lib.hid hq; clear hq
    have hr0' : (r == 0) = false := by simpa using hr0
    go_wp2_with fail
    refine (H5.out w1 h3 HC1.out HP1.out).mono ?_
    rintro e w2 ⟨rfl, rfl⟩
    go_wp2_with fail
    refine (H6.out w1 HC1.out).mono ?_
    rintro e w2 ⟨rfl, rfl⟩
    go_wp2
    go_ret
    exact ⟨ret_bool (by rw [Hr.out, Hq.out]; rfl), Hb1.out⟩

theorem spec_l11Find (g : List Vx) (v : Value) (fp : List Nat) (r a : Int) (w : World) (hbig : g.length ≤ 1099511627776) (hr : Gr w g v fp) :
    Calls Tryd.prog 24 #[v, .int .i64 r, .int .i64 a] w fun e w' => e = .returned (.int .i64 (findZ g r a)) ∧ w = w' := by
  obtain ⟨va, vc, rfl⟩ := hr.slice
  have Hr := Lib.hid hr; clear hr
  go_enter Tryd.func24, Tryd.ntmps24
  go_wp2
  go_loopw [7] (fun i wr => ∃ k : Nat, k ≤ g.length ∧ i = .int .i64 k ∧ Upto (fun j => !sameRA r a (g.getD j vx0)) k ∧ w = wr) (fun i _ => g.length - (intOf i).toNat)
  case atStart => exact ⟨0, by omega, rfl, upto_zero _, rfl⟩
  case round =>
    obtain ⟨k, hk, rfl, hup, rfl⟩ := hrel
    by_cases hlt : k < g.length
    · obtain ⟨b, off, rfl, hb, hat⟩ := Hr.out.at (by omega)
      obtain ⟨c0, c1, _, _⟩ := hat k hlt
      clear hat
      have hgk := getV hlt
      by_cases hs : sameRA r a g[k] = true
      · have hz := findZ_yes hlt hup hs
        unfold sameRA at hs
        obtain ⟨hs1, hs2⟩ := of_decide_eq_true hs
        have Hz := Lib.hid hz; clear hz hs
        have e1 : (g[k].r == r) = true := by simpa using hs1
        have e2 : (g[k].a == a) = true := by simpa using hs2
        clear hs1 hs2
        go_wp2
        go_ret
        exact ⟨by rw [Hz.out]; rfl, rfl⟩
      · have hup' := upto_step hup (k := k) (by simp only [hgk]; simpa using hs)
        have Hup := Lib.hid hup'; clear hup'
        by_cases hs1 : g[k].r = r
        · have hs2 : ¬ g[k].a = a := fun e => hs (decide_eq_true ⟨hs1, e⟩)
          have e2 : (g[k].a == a) = false := by simpa using hs2
          have e1 : (g[k].r == r) = true := by simpa using hs1
          go_wp2
          go_roundw
          case rel => exact ⟨k + 1, by omega, by go_num, Hup.out, trivial⟩
          case measure => simp [intOf]; omega
        · have e1 : (g[k].r == r) = false := by simpa using hs1
          go_wp2
          go_roundw
          case rel => exact ⟨k + 1, by omega, by go_num, Hup.out, trivial⟩
          case measure => simp [intOf]; omega
    · have hz := findZ_no hup (by omega)
      go_wp2
      go_ret
      exact ⟨by rw [hz]; rfl, rfl⟩

end Go.Proofs.YtjaacdapibokiabDoor

/- The reference's tests of graphs, each by a walk of its text; conditions: lists are shorter than 2^40, and where the text asks it, the committee is valid. -/
namespace Go.Proofs.YtjaacdapibokiabDoor
open Go.RowKit

set_option maxHeartbeats 1000000 in
theorem spec_l11Parents (g : List Vx) (v : Value) (fp : List Nat) (r a d : Int) (pa : Option Addr) (pc : Nat) (ps : List Int) (w : World) (hbig : g.length ≤ 1099511627776) (hbp : ps.length ≤ 1099511627776) (hr0 : 0 ≤ r) (hr1 : r ≤ 1099511627776) (hg : Gr w g v fp) (hp : IntsAt w pa ps) :
    Calls Tryd.prog 43 #[v, .agg #[.int .i64 r, .int .i64 a, .slice pa ps.length pc, .int .i64 d]] w fun e w' => e = .returned (.bool (parB g ⟨r, a, ps, d⟩)) ∧ Below w.heap.size w w' := by
  have hb0 : Below w.heap.size w (w.alloc (.cells #[.int .i64 r, .int .i64 a, .slice pa ps.length pc, .int .i64 d] 44)) := (Below.refl _ _).alloc (Nat.le_refl _) _
  have s0 := Str.new w 44 #[.int .i64 r, .int .i64 a, .slice pa ps.length pc, .int .i64 d]
  have hsz0 : (w.alloc (.cells #[.int .i64 r, .int .i64 a, .slice pa ps.length pc, .int .i64 d] 44)).heap.size = w.heap.size + 1 := by simp
  have Hg := Lib.hid (hg.under hb0); clear hg
  have Hp := Lib.hid (hp.below hb0); clear hp
  have Hb0 := Lib.hid hb0; clear hb0
  have Hs0 := Lib.hid s0; clear s0
  have hw1 : IntKind.i64.wrap (r - 1) = r - 1 := IntWalk.i64_in _ (by omega)
  have Hres := Lib.hid (show parB g ⟨r, a, ps, d⟩ = allB (hasP g r ps) ps.length from rfl)
  have HF := Lib.hid (fun W x (h : Gr W g v fp) => spec_l11Find g v fp (r - 1) x W hbig h)
  go_enter Tryd.func43, Tryd.ntmps43
  go_wp2
  generalize w.alloc (.cells #[.int .i64 r, .int .i64 a, .slice pa ps.length pc, .int .i64 d] 44) = W0 at *
  go_loopw [5] (fun i wr => ∃ k : Nat, k ≤ ps.length ∧ i = .int .i64 k ∧ Upto (hasP g r ps) k ∧ Below W0.heap.size W0 wr) (fun i _ => ps.length - (intOf i).toNat)
  case atStart => exact ⟨0, by omega, rfl, upto_zero _, Below.refl _ _⟩
  case round =>
    obtain ⟨k, hk, rfl, hup, hbel⟩ := hrel
    have s1 := (hbel.block _ Hs0.out.lt).trans Hs0.out
    have c0 := Str.cell s1 0 (v := .int .i64 r) rfl
    have c2 := Str.cell s1 2 (v := .slice pa ps.length pc) rfl
    clear s1
    by_cases hlt : k < ps.length
    · obtain ⟨b, off, rfl, hb, hat⟩ := (Hp.out.below hbel).cell (by omega)
      have e0 := hat k hlt
      have Hg1 := Lib.hid (Hg.out.under hbel)
      have Hbel := Lib.hid hbel; clear hbel hat
      have hgx : ps.getD k 0 = ps[k] := getD_get hlt
      have hstep : hasP g r ps k = decide (0 ≤ findZ g (r - 1) ps[k]) := by unfold hasP; rw [hgx]
      clear hgx
      generalize ps[k] = x at *
      have Hstep := Lib.hid hstep; clear hstep
      have Hup := Lib.hid hup; clear hup
      have hb0 : Below wr.heap.size wr wr.drew := (Below.refl _ _).drew
      go_wp2_with fail
      refine wp_region_held_drew (S := fun w' => Below wr.heap.size wr w' ∧ w'.cell? ⟨w.heap.size, 0, none⟩ = some (.int .i64 r) ∧ w'.cell? ⟨w.heap.size, 2, none⟩ = some (.slice (some ⟨b, off, none⟩) ps.length pc) ∧ w'.cell? ⟨b, off + k, none⟩ = some (.int .i64 x)) (by kernel_rfl) ⟨hb0, c0, c2, e0⟩ (fun hH => ?_)
      refine takeH 0 (v := ?vp1) rfl (by kernel_rfl) (by kernel_rfl) (by kernel_rfl) (fun _ _ _ h => h) hH rfl ?yp1 ?rp1
      case yp1 => intro w hSw; go_simp; try with_reducible rfl
      try simp only [Act.put, List.setIfInBounds_toArray, List.set_cons_zero, List.set_cons_succ]
      refine takeH 1 (v := ?vp2) rfl (by kernel_rfl) (by kernel_rfl) (by kernel_rfl) (fun _ _ _ h => h) hH rfl ?yp2 ?rp2
      case yp2 => intro w hSw; go_simp; try with_reducible rfl
      try simp only [Act.put, List.setIfInBounds_toArray, List.set_cons_zero, List.set_cons_succ]
      refine takeH 2 (v := ?vp3) rfl (by kernel_rfl) (by kernel_rfl) (by kernel_rfl) (fun _ _ _ h => h) hH rfl ?yp3 ?rp3
      case yp3 => intro w hSw; go_simp; try with_reducible rfl
      try simp only [Act.put, List.setIfInBounds_toArray, List.set_cons_zero, List.set_cons_succ]
      refine takeH 3 (v := ?vp4) rfl (by kernel_rfl) (by kernel_rfl) (by kernel_rfl) (fun _ _ _ h => h) hH rfl ?yp4 ?rp4
      case yp4 => intro w hSw; go_simp; try with_reducible rfl
      try simp only [Act.put, List.setIfInBounds_toArray, List.set_cons_zero, List.set_cons_succ]
      refine takeH 4 (v := ?vp5) rfl (by kernel_rfl) (by kernel_rfl) (by kernel_rfl) (fun _ _ _ h => h) hH rfl ?yp5 ?rp5
      case yp5 => intro w hSw; go_simp; try with_reducible rfl
      try simp only [Act.put, List.setIfInBounds_toArray, List.set_cons_zero, List.set_cons_succ]
      refine takeH 5 (v := ?vp6) rfl (by kernel_rfl) (by kernel_rfl) (by kernel_rfl) (fun _ _ _ h => h) hH rfl ?yp6 ?rp6
      case yp6 => intro w hSw; go_simp; try with_reducible rfl
      try simp only [Act.put, List.setIfInBounds_toArray, List.set_cons_zero, List.set_cons_succ]
      refine takeH 6 (v := ?vp7) rfl (by kernel_rfl) (by kernel_rfl) (by kernel_rfl) (fun _ _ _ h => h) hH rfl ?yp7 ?rp7
      case yp7 => intro w hSw; go_simp; try with_reducible rfl
      try simp only [Act.put, List.setIfInBounds_toArray, List.set_cons_zero, List.set_cons_succ]
      refine takeH 7 (v := ?vp8) rfl (by kernel_rfl) (by kernel_rfl) (by kernel_rfl) (fun _ _ _ h => h) hH rfl ?yp8 ?rp8
      case yp8 => intro w hSw; go_simp; try with_reducible rfl
      try simp only [Act.put, List.setIfInBounds_toArray, List.set_cons_zero, List.set_cons_succ]
      refine takeH 8 (v := ?vp9) rfl (by kernel_rfl) (by kernel_rfl) (by kernel_rfl) (fun _ _ _ h => h) hH rfl ?yp9 ?rp9
      case yp9 => intro w hSw; go_simp; try with_reducible rfl
      try simp only [Act.put, List.setIfInBounds_toArray, List.set_cons_zero, List.set_cons_succ]
      refine callH 9 rfl (by kernel_rfl) rfl (fun K hK => ?_)
      go_simp
      go_at_call 24
      refine (HF.out _ x (Hg1.out.under hH.1)).mono ?_
      rintro e wx ⟨rfl, rfl⟩
      refine hK.out _ _ hH (fun hH => ?_)
      clear hK K
      try simp only [Act.put, List.setIfInBounds_toArray, List.set_cons_zero, List.set_cons_succ]
      refine takeH 10 (v := ?vp11) rfl (by kernel_rfl) (by kernel_rfl) (by kernel_rfl) (fun _ _ _ h => h) hH rfl ?yp11 ?rp11
      case yp11 => intro w hSw; go_simp; try with_reducible rfl
      try simp only [Act.put, List.setIfInBounds_toArray, List.set_cons_zero, List.set_cons_succ]
      refine wpAnyH_done (by kernel_rfl) ?_ _
      obtain ⟨hbw, _⟩ := hH
      clear c0 c2 e0 hb0
      cases hq : hasP g r ps k with
      | true =>
        have hn : ¬ findZ g (r - 1) x < 0 := by
          rw [Hstep.out] at hq; have := of_decide_eq_true hq; omega
        go_wp2
        go_roundw
        case rel => exact ⟨k + 1, by omega, by go_num, upto_step Hup.out hq, below_step Hbel.out Hbel.out.size hbw⟩
        case measure => simp [intOf]; omega
      | false =>
        have hn : findZ g (r - 1) x < 0 := by
          rw [Hstep.out] at hq; have := of_decide_eq_false hq; omega
        have hz := allB_no hlt hq
        go_wp2
        go_ret
        exact ⟨ret_bool (by rw [Hres.out, hz]), (Hb0.out.trans ((below_step Hbel.out Hbel.out.size hbw).mono (by omega)))⟩
    · have hz := allB_yes hup (n := ps.length) (by omega)
      have Hbel := Lib.hid hbel; clear hbel
      go_wp2
      go_ret
      exact ⟨ret_bool (by rw [Hres.out, hz]), (Hb0.out.trans (Hbel.out.mono (by omega)))⟩

theorem spec_l11Before (x y : Vx) (pa pa' : Option Addr) (pc pc' : Nat) (w : World) :
    Calls Tryd.prog 42 #[.agg #[.int .i64 x.r, .int .i64 x.a, .slice pa x.ps.length pc, .int .i64 x.d], .agg #[.int .i64 y.r, .int .i64 y.a, .slice pa' y.ps.length pc', .int .i64 y.d]] w fun e w' => e = .returned (.bool (befB x y)) ∧ Below w.heap.size w w' := by
  have hb : Below w.heap.size w ((w.alloc (.cells #[.int .i64 x.r, .int .i64 x.a, .slice pa x.ps.length pc, .int .i64 x.d] 44)).alloc (.cells #[.int .i64 y.r, .int .i64 y.a, .slice pa' y.ps.length pc', .int .i64 y.d] 44)) := ((Below.refl _ w).alloc (Nat.le_refl _) _).alloc (by simp) _
  by_cases h1 : x.r < y.r
  · have hz : befB x y = true := decide_eq_true (.inl h1)
    go_enter Tryd.func42, Tryd.ntmps42
    go_wp2
    go_ret
    exact ⟨by first | rfl | exact ret_bool (by first | rfl | rw [hz]), hb⟩
  · have h1' : decide (x.r < y.r) = false := decide_eq_false h1
    by_cases h2 : x.r = y.r
    · have hz : befB x y = decide (x.a < y.a) := by unfold befB; rw [Bool.eq_iff_iff, decide_eq_true_iff, decide_eq_true_iff]; omega
      have h2' : (x.r == y.r) = true := by simpa using h2
      clear h1 h2
      go_enter Tryd.func42, Tryd.ntmps42
      go_wp2
      go_ret
      exact ⟨by first | rfl | exact ret_bool (by first | rfl | rw [hz]), hb⟩
    · have hz : befB x y = false := decide_eq_false (by omega)
      have h2' : (x.r == y.r) = false := by simpa using h2
      go_enter Tryd.func42, Tryd.ntmps42
      go_wp2
      go_ret
      exact ⟨by first | rfl | exact ret_bool (by first | rfl | rw [hz]), hb⟩

set_option maxHeartbeats 2000000 in
theorem spec_GraphValid (ac : Option Addr) (capc : Nat) (c : List Int) (g : List Vx) (v : Value) (fp : List Nat) (w : World) (hn : c.length ≤ 1099511627776) (hbig : g.length ≤ 1099511627776) (hps : ∀ x ∈ g, x.ps.length ≤ 1099511627776) (hc : IntsAt w ac c) (hg : Gr w g v fp) :
    Calls Tryd.prog 28 #[.slice ac c.length capc, v] w fun e w' => e = .returned (.bool (graphB c g)) ∧ Below w.heap.size w w' := by
  obtain ⟨va, vc, rfl⟩ := hg.slice
  have Hv := Lib.hid (fun W h => spec_CommitteeValid ac capc c W hn h)
  have Hres := Lib.hid (show graphB c g = (validB c && allB (okV c g) g.length) from rfl)
  have Hg := Lib.hid hg; clear hg
  have Hc := Lib.hid hc; clear hc
  cases hv : validB c with
  | false =>
    rw [hv] at Hv
    go_enter Tryd.func28, Tryd.ntmps28
    go_wp2_with fail
    refine (Hv.out w Hc.out).mono ?_
    rintro e w1 ⟨rfl, rfl⟩
    go_wp2
    go_ret
    exact ⟨ret_bool (by rw [Hres.out, hv]; rfl), Below.refl _ _⟩
  | true =>
  rw [hv] at Hv
  have Hres := Lib.hid (show graphB c g = allB (okV c g) g.length by rw [Hres.out, hv]; rfl)
  have HP := Lib.hid hps; clear hps
  go_enter Tryd.func28, Tryd.ntmps28
  go_wp2_with fail
  refine (Hv.out w Hc.out).mono ?_
  rintro e w1 ⟨rfl, rfl⟩
  go_wp2
  go_loopw [5] (fun i wr => ∃ k : Nat, k ≤ g.length ∧ i = .int .i64 k ∧ Upto (okV c g) k ∧ Below w.heap.size w wr) (fun i _ => g.length - (intOf i).toNat)
  case atStart => exact ⟨0, by omega, rfl, upto_zero _, Below.refl _ _⟩
  case round =>
    obtain ⟨k, hk, rfl, hup, hbel⟩ := hrel
    by_cases hlt : k < g.length
    · have Hg1 := Lib.hid (Hg.out.under hbel)
      have Hc1 := Lib.hid (Hc.out.below hbel)
      obtain ⟨b, off, rfl, hb, hat⟩ := Hg1.out.at (by omega)
      obtain ⟨c0, c1, ⟨pa, pc, c2, i2, _⟩, c3⟩ := hat k hlt
      have hps := HP.out _ (List.getElem_mem hlt)
      have hgk := getV hlt
      have hok : okV c g k = (vtxB c g[k] && ((k == 0 || befB (g.getD (k - 1) vx0) g[k]) && parB g g[k])) := by unfold okV; rw [hgk]
      have Hat := Lib.hid hat; clear hat
      have Hbel := Lib.hid hbel; clear hbel
      have Hup := Lib.hid hup; clear hup
      have HV := Lib.hid (fun W (h : IntsAt W ac c) (h' : IntsAt W pa g[k].ps) => spec_l11Vertex ac capc c g[k].r g[k].a g[k].d pa pc g[k].ps W hv hps h h')
      have HQ := Lib.hid (fun W (h0 : 0 ≤ g[k].r) (h1 : g[k].r ≤ 1099511627776) (h : Gr W g (.slice (some ⟨b, off, none⟩) g.length vc) fp) (h' : IntsAt W pa g[k].ps) => spec_l11Parents g _ fp g[k].r g[k].a g[k].d pa pc g[k].ps W hbig hps h0 h1 h h')
      have Hb := Lib.hid (fun (x : Vx) (pa' : Option Addr) (pc' : Nat) W => spec_l11Before x g[k] pa' pa pc' pc W)
      have Hi2 := Lib.hid i2; clear i2
      have Hok := Lib.hid hok; clear hok
      have Hk := Lib.hid hgk; clear hgk
      have hb0 : Below wr.heap.size wr wr.drew := (Below.refl _ _).drew
      have Hbs := Lib.hid (fun w' (h : Below wr.heap.size wr w') => Nat.lt_of_lt_of_le hb h.size)
      have Hb1 := Lib.hid hb; clear hb
      generalize hx : g[k] = x at *
      obtain ⟨xr, xa, xp, xd⟩ := x
      dsimp only at *
      have Hx := Lib.hid hx; clear hx hps
      cases h1 : vtxB c ⟨xr, xa, xp, xd⟩ with
      | false =>
        rw [h1] at HV
        go_wp2_with fail
        refine wp_region_held_drew (S := fun w' => Below wr.heap.size wr w' ∧ w'.cell? ⟨b, off + k * 4, none⟩ = some (.int .i64 xr) ∧ w'.cell? ⟨b, off + k * 4 + 1, none⟩ = some (.int .i64 xa) ∧ w'.cell? ⟨b, off + k * 4 + 2, none⟩ = some (.slice pa xp.length pc) ∧ w'.cell? ⟨b, off + k * 4 + 3, none⟩ = some (.int .i64 xd)) (by kernel_rfl) ⟨hb0, c0, c1, c2, c3⟩ (fun hH => ?_)
        refine takeH 0 (v := ?va0) rfl (by kernel_rfl) (by kernel_rfl) (by kernel_rfl) (fun _ _ _ h => h) hH rfl ?ya0 ?ra0
        case ya0 => intro W hSw; go_simp; try with_reducible rfl
        try simp only [Act.put, List.setIfInBounds_toArray, List.set_cons_zero, List.set_cons_succ]
        refine takeH 1 (v := ?va1) rfl (by kernel_rfl) (by kernel_rfl) (by kernel_rfl) (fun _ _ _ h => h) hH rfl ?ya1 ?ra1
        case ya1 => intro W hSw; go_simp; try with_reducible rfl
        try simp only [Act.put, List.setIfInBounds_toArray, List.set_cons_zero, List.set_cons_succ]
        refine takeH 2 (v := ?va2) rfl (by kernel_rfl) (by kernel_rfl) (by kernel_rfl) (fun _ _ _ h => h) hH rfl ?ya2 ?ra2
        case ya2 => intro W hSw; go_simp; try with_reducible rfl
        try simp only [Act.put, List.setIfInBounds_toArray, List.set_cons_zero, List.set_cons_succ]
        refine takeH 3 (v := ?va3) rfl (by kernel_rfl) (by kernel_rfl) (by kernel_rfl) (fun _ _ _ h => h) hH rfl ?ya3 ?ra3
        case ya3 => intro W hSw; go_simp; try with_reducible rfl
        try simp only [Act.put, List.setIfInBounds_toArray, List.set_cons_zero, List.set_cons_succ]
        refine takeH 4 (v := ?va4) rfl (by kernel_rfl) (by kernel_rfl) (by kernel_rfl) (fun _ _ _ h => h) hH rfl ?ya4 ?ra4
        case ya4 => intro W hSw; go_simp; try with_reducible rfl
        try simp only [Act.put, List.setIfInBounds_toArray, List.set_cons_zero, List.set_cons_succ]
        refine callH 5 rfl (by kernel_rfl) rfl (fun K hK => ?_)
        go_simp
        go_at_call 41
        refine (HV.out _ (Hc1.out.below hH.1) (Hi2.out.below hH.1)).mono ?_
        rintro e wx ⟨rfl, hbx⟩
        refine hK.out _ _ ⟨hH.1.trans (hbx.mono hH.1.size), (hbx.cell (p := ⟨b, off + k * 4, none⟩) (Hbs.out _ hH.1)).trans hH.2.1, (hbx.cell (p := ⟨b, off + k * 4 + 1, none⟩) (Hbs.out _ hH.1)).trans hH.2.2.1, (hbx.cell (p := ⟨b, off + k * 4 + 2, none⟩) (Hbs.out _ hH.1)).trans hH.2.2.2.1, (hbx.cell (p := ⟨b, off + k * 4 + 3, none⟩) (Hbs.out _ hH.1)).trans hH.2.2.2.2⟩ (fun hH => ?_)
        clear hK K
        try simp only [Act.put, List.setIfInBounds_toArray, List.set_cons_zero, List.set_cons_succ]
        refine takeH 6 (v := ?va6) rfl (by kernel_rfl) (by kernel_rfl) (by kernel_rfl) (fun _ _ _ h => h) hH rfl ?ya6 ?ra6
        case ya6 => intro W hSw; go_simp; try with_reducible rfl
        try simp only [Act.put, List.setIfInBounds_toArray, List.set_cons_zero, List.set_cons_succ]
        refine takeH 7 (v := ?va7) rfl (by kernel_rfl) (by kernel_rfl) (by kernel_rfl) (fun _ _ _ h => h) hH rfl ?ya7 ?ra7
        case ya7 => intro W hSw; go_simp; try with_reducible rfl
        try simp only [Act.put, List.setIfInBounds_toArray, List.set_cons_zero, List.set_cons_succ]
        refine skipH 8 rfl (by kernel_rfl) (by kernel_rfl) (by kernel_rfl) (fun _ _ _ h => h) hH rfl ?_
        try simp only [Act.put, List.setIfInBounds_toArray, List.set_cons_zero, List.set_cons_succ]
        refine skipH 9 rfl (by kernel_rfl) (by kernel_rfl) (by kernel_rfl) (fun _ _ _ h => h) hH rfl ?_
        try simp only [Act.put, List.setIfInBounds_toArray, List.set_cons_zero, List.set_cons_succ]
        refine skipH 10 rfl (by kernel_rfl) (by kernel_rfl) (by kernel_rfl) (fun _ _ _ h => h) hH rfl ?_
        try simp only [Act.put, List.setIfInBounds_toArray, List.set_cons_zero, List.set_cons_succ]
        refine skipH 11 rfl (by kernel_rfl) (by kernel_rfl) (by kernel_rfl) (fun _ _ _ h => h) hH rfl ?_
        try simp only [Act.put, List.setIfInBounds_toArray, List.set_cons_zero, List.set_cons_succ]
        refine skipH 12 rfl (by kernel_rfl) (by kernel_rfl) (by kernel_rfl) (fun _ _ _ h => h) hH rfl ?_
        try simp only [Act.put, List.setIfInBounds_toArray, List.set_cons_zero, List.set_cons_succ]
        refine skipH 13 rfl (by kernel_rfl) (by kernel_rfl) (by kernel_rfl) (fun _ _ _ h => h) hH rfl ?_
        try simp only [Act.put, List.setIfInBounds_toArray, List.set_cons_zero, List.set_cons_succ]
        refine skipH 14 rfl (by kernel_rfl) (by kernel_rfl) (by kernel_rfl) (fun _ _ _ h => h) hH rfl ?_
        try simp only [Act.put, List.setIfInBounds_toArray, List.set_cons_zero, List.set_cons_succ]
        refine skipH 15 rfl (by kernel_rfl) (by kernel_rfl) (by kernel_rfl) (fun _ _ _ h => h) hH rfl ?_
        try simp only [Act.put, List.setIfInBounds_toArray, List.set_cons_zero, List.set_cons_succ]
        refine skipH 16 rfl (by kernel_rfl) (by kernel_rfl) (by kernel_rfl) (fun _ _ _ h => h) hH rfl ?_
        try simp only [Act.put, List.setIfInBounds_toArray, List.set_cons_zero, List.set_cons_succ]
        refine skipH 17 rfl (by kernel_rfl) (by kernel_rfl) (by kernel_rfl) (fun _ _ _ h => h) hH rfl ?_
        try simp only [Act.put, List.setIfInBounds_toArray, List.set_cons_zero, List.set_cons_succ]
        refine skipH 18 rfl (by kernel_rfl) (by kernel_rfl) (by kernel_rfl) (fun _ _ _ h => h) hH rfl ?_
        try simp only [Act.put, List.setIfInBounds_toArray, List.set_cons_zero, List.set_cons_succ]
        refine skipH 19 rfl (by kernel_rfl) (by kernel_rfl) (by kernel_rfl) (fun _ _ _ h => h) hH rfl ?_
        try simp only [Act.put, List.setIfInBounds_toArray, List.set_cons_zero, List.set_cons_succ]
        refine skipH 20 rfl (by kernel_rfl) (by kernel_rfl) (by kernel_rfl) (fun _ _ _ h => h) hH rfl ?_
        try simp only [Act.put, List.setIfInBounds_toArray, List.set_cons_zero, List.set_cons_succ]
        refine skipH 21 rfl (by kernel_rfl) (by kernel_rfl) (by kernel_rfl) (fun _ _ _ h => h) hH rfl ?_
        try simp only [Act.put, List.setIfInBounds_toArray, List.set_cons_zero, List.set_cons_succ]
        refine skipH 22 rfl (by kernel_rfl) (by kernel_rfl) (by kernel_rfl) (fun _ _ _ h => h) hH rfl ?_
        try simp only [Act.put, List.setIfInBounds_toArray, List.set_cons_zero, List.set_cons_succ]
        refine takeH 23 (v := ?va23) rfl (by kernel_rfl) (by kernel_rfl) (by kernel_rfl) (fun _ _ _ h => h) hH rfl ?ya23 ?ra23
        case ya23 => intro W hSw; go_simp; try with_reducible rfl
        try simp only [Act.put, List.setIfInBounds_toArray, List.set_cons_zero, List.set_cons_succ]
        refine takeH 24 (v := ?va24) rfl (by kernel_rfl) (by kernel_rfl) (by kernel_rfl) (fun _ _ _ h => h) hH rfl ?ya24 ?ra24
        case ya24 => intro W hSw; go_simp; try with_reducible rfl
        try simp only [Act.put, List.setIfInBounds_toArray, List.set_cons_zero, List.set_cons_succ]
        refine skipH 25 rfl (by kernel_rfl) (by kernel_rfl) (by kernel_rfl) (fun _ _ _ h => h) hH rfl ?_
        try simp only [Act.put, List.setIfInBounds_toArray, List.set_cons_zero, List.set_cons_succ]
        refine skipH 26 rfl (by kernel_rfl) (by kernel_rfl) (by kernel_rfl) (fun _ _ _ h => h) hH rfl ?_
        try simp only [Act.put, List.setIfInBounds_toArray, List.set_cons_zero, List.set_cons_succ]
        refine skipH 27 rfl (by kernel_rfl) (by kernel_rfl) (by kernel_rfl) (fun _ _ _ h => h) hH rfl ?_
        try simp only [Act.put, List.setIfInBounds_toArray, List.set_cons_zero, List.set_cons_succ]
        refine skipH 28 rfl (by kernel_rfl) (by kernel_rfl) (by kernel_rfl) (fun _ _ _ h => h) hH rfl ?_
        try simp only [Act.put, List.setIfInBounds_toArray, List.set_cons_zero, List.set_cons_succ]
        refine skipH 29 rfl (by kernel_rfl) (by kernel_rfl) (by kernel_rfl) (fun _ _ _ h => h) hH rfl ?_
        try simp only [Act.put, List.setIfInBounds_toArray, List.set_cons_zero, List.set_cons_succ]
        refine skipH 30 rfl (by kernel_rfl) (by kernel_rfl) (by kernel_rfl) (fun _ _ _ h => h) hH rfl ?_
        try simp only [Act.put, List.setIfInBounds_toArray, List.set_cons_zero, List.set_cons_succ]
        refine skipH 31 rfl (by kernel_rfl) (by kernel_rfl) (by kernel_rfl) (fun _ _ _ h => h) hH rfl ?_
        try simp only [Act.put, List.setIfInBounds_toArray, List.set_cons_zero, List.set_cons_succ]
        refine takeH 32 (v := ?va32) rfl (by kernel_rfl) (by kernel_rfl) (by kernel_rfl) (fun _ _ _ h => h) hH rfl ?ya32 ?ra32
        case ya32 => intro W hSw; go_simp; try with_reducible rfl
        try simp only [Act.put, List.setIfInBounds_toArray, List.set_cons_zero, List.set_cons_succ]
        refine wpAnyH_done (by kernel_rfl) ?_ _
        try simp only [Act.put]
        have hz := allB_no hlt (show okV c g k = false by rw [Hok.out, h1]; rfl)
        go_wp2
        go_ret
        exact ⟨ret_bool (by rw [Hres.out, hz]), below_step Hbel.out Hbel.out.size hH.1⟩
      | true =>
      have hrd : 0 ≤ xr ∧ xr ≤ 30 := by
        have h := h1; unfold vtxB rngB at h; simp only [Bool.and_eq_true, decide_eq_true_eq] at h; exact h.1
      rw [h1] at HV
      have hw1 : IntKind.i64.wrap ((k : Int) - 1) = k - 1 := IntWalk.i64_in _ (by omega)
      by_cases h0 : k = 0
      · have hgt : decide ((0 : Int) < (k : Int)) = false := decide_eq_false (by omega)
        have hgt' : ¬ (0 : Int) < (k : Int) := by omega
        have hok : okV c g k = parB g ⟨xr, xa, xp, xd⟩ := by rw [Hok.out, h1, h0]; rfl
        have Hok := Lib.hid hok; clear hok hw1
        have H0 := Lib.hid h0; clear h0
        cases h3 : parB g ⟨xr, xa, xp, xd⟩ with
        | false =>
          rw [h3] at HQ
          go_wp2_with fail
          refine wp_region_held_drew (S := fun w' => Below wr.heap.size wr w' ∧ w'.cell? ⟨b, off + k * 4, none⟩ = some (.int .i64 xr) ∧ w'.cell? ⟨b, off + k * 4 + 1, none⟩ = some (.int .i64 xa) ∧ w'.cell? ⟨b, off + k * 4 + 2, none⟩ = some (.slice pa xp.length pc) ∧ w'.cell? ⟨b, off + k * 4 + 3, none⟩ = some (.int .i64 xd)) (by kernel_rfl) ⟨hb0, c0, c1, c2, c3⟩ (fun hH => ?_)
          refine takeH 0 (v := ?vb0) rfl (by kernel_rfl) (by kernel_rfl) (by kernel_rfl) (fun _ _ _ h => h) hH rfl ?yb0 ?rb0
          case yb0 => intro W hSw; go_simp; try with_reducible rfl
          try simp only [Act.put, List.setIfInBounds_toArray, List.set_cons_zero, List.set_cons_succ]
          refine takeH 1 (v := ?vb1) rfl (by kernel_rfl) (by kernel_rfl) (by kernel_rfl) (fun _ _ _ h => h) hH rfl ?yb1 ?rb1
          case yb1 => intro W hSw; go_simp; try with_reducible rfl
          try simp only [Act.put, List.setIfInBounds_toArray, List.set_cons_zero, List.set_cons_succ]
          refine takeH 2 (v := ?vb2) rfl (by kernel_rfl) (by kernel_rfl) (by kernel_rfl) (fun _ _ _ h => h) hH rfl ?yb2 ?rb2
          case yb2 => intro W hSw; go_simp; try with_reducible rfl
          try simp only [Act.put, List.setIfInBounds_toArray, List.set_cons_zero, List.set_cons_succ]
          refine takeH 3 (v := ?vb3) rfl (by kernel_rfl) (by kernel_rfl) (by kernel_rfl) (fun _ _ _ h => h) hH rfl ?yb3 ?rb3
          case yb3 => intro W hSw; go_simp; try with_reducible rfl
          try simp only [Act.put, List.setIfInBounds_toArray, List.set_cons_zero, List.set_cons_succ]
          refine takeH 4 (v := ?vb4) rfl (by kernel_rfl) (by kernel_rfl) (by kernel_rfl) (fun _ _ _ h => h) hH rfl ?yb4 ?rb4
          case yb4 => intro W hSw; go_simp; try with_reducible rfl
          try simp only [Act.put, List.setIfInBounds_toArray, List.set_cons_zero, List.set_cons_succ]
          refine callH 5 rfl (by kernel_rfl) rfl (fun K hK => ?_)
          go_simp
          go_at_call 41
          refine (HV.out _ (Hc1.out.below hH.1) (Hi2.out.below hH.1)).mono ?_
          rintro e wx ⟨rfl, hbx⟩
          refine hK.out _ _ ⟨hH.1.trans (hbx.mono hH.1.size), (hbx.cell (p := ⟨b, off + k * 4, none⟩) (Hbs.out _ hH.1)).trans hH.2.1, (hbx.cell (p := ⟨b, off + k * 4 + 1, none⟩) (Hbs.out _ hH.1)).trans hH.2.2.1, (hbx.cell (p := ⟨b, off + k * 4 + 2, none⟩) (Hbs.out _ hH.1)).trans hH.2.2.2.1, (hbx.cell (p := ⟨b, off + k * 4 + 3, none⟩) (Hbs.out _ hH.1)).trans hH.2.2.2.2⟩ (fun hH => ?_)
          clear hK K
          try simp only [Act.put, List.setIfInBounds_toArray, List.set_cons_zero, List.set_cons_succ]
          refine takeH 6 (v := ?vb6) rfl (by kernel_rfl) (by kernel_rfl) (by kernel_rfl) (fun _ _ _ h => h) hH rfl ?yb6 ?rb6
          case yb6 => intro W hSw; go_simp; try with_reducible rfl
          try simp only [Act.put, List.setIfInBounds_toArray, List.set_cons_zero, List.set_cons_succ]
          refine takeH 7 (v := ?vb7) rfl (by kernel_rfl) (by kernel_rfl) (by kernel_rfl) (fun _ _ _ h => h) hH rfl ?yb7 ?rb7
          case yb7 => intro W hSw; go_simp; try with_reducible rfl
          try simp only [Act.put, List.setIfInBounds_toArray, List.set_cons_zero, List.set_cons_succ]
          refine takeH 8 (v := ?vb8) rfl (by kernel_rfl) (by kernel_rfl) (by kernel_rfl) (fun _ _ _ h => h) hH rfl ?yb8 ?rb8
          case yb8 => intro W hSw; go_simp; try with_reducible rfl
          try simp only [Act.put, List.setIfInBounds_toArray, List.set_cons_zero, List.set_cons_succ]
          refine takeH 9 (v := .bool false) rfl (by kernel_rfl) (by kernel_rfl) (by kernel_rfl) (fun _ _ _ h => h) hH rfl ?yb9 ?rb9
          case yb9 => intro W hSw; go_simp; first | done | simp only [hgt] | omega | (simp; omega)
          try simp only [Act.put, List.setIfInBounds_toArray, List.set_cons_zero, List.set_cons_succ]
          refine takeH 10 (v := ?vb10) rfl (by kernel_rfl) (by kernel_rfl) (by kernel_rfl) (fun _ _ _ h => h) hH rfl ?yb10 ?rb10
          case yb10 => intro W hSw; go_simp; try with_reducible rfl
          try simp only [Act.put, List.setIfInBounds_toArray, List.set_cons_zero, List.set_cons_succ]
          refine skipH 11 rfl (by kernel_rfl) (by kernel_rfl) (by kernel_rfl) (fun _ _ _ h => h) hH rfl ?_
          try simp only [Act.put, List.setIfInBounds_toArray, List.set_cons_zero, List.set_cons_succ]
          refine skipH 12 rfl (by kernel_rfl) (by kernel_rfl) (by kernel_rfl) (fun _ _ _ h => h) hH rfl ?_
          try simp only [Act.put, List.setIfInBounds_toArray, List.set_cons_zero, List.set_cons_succ]
          refine skipH 13 rfl (by kernel_rfl) (by kernel_rfl) (by kernel_rfl) (fun _ _ _ h => h) hH rfl ?_
          try simp only [Act.put, List.setIfInBounds_toArray, List.set_cons_zero, List.set_cons_succ]
          refine skipH 14 rfl (by kernel_rfl) (by kernel_rfl) (by kernel_rfl) (fun _ _ _ h => h) hH rfl ?_
          try simp only [Act.put, List.setIfInBounds_toArray, List.set_cons_zero, List.set_cons_succ]
          refine skipH 15 rfl (by kernel_rfl) (by kernel_rfl) (by kernel_rfl) (fun _ _ _ h => h) hH rfl ?_
          try simp only [Act.put, List.setIfInBounds_toArray, List.set_cons_zero, List.set_cons_succ]
          refine skipH 16 rfl (by kernel_rfl) (by kernel_rfl) (by kernel_rfl) (fun _ _ _ h => h) hH rfl ?_
          try simp only [Act.put, List.setIfInBounds_toArray, List.set_cons_zero, List.set_cons_succ]
          refine skipH 17 rfl (by kernel_rfl) (by kernel_rfl) (by kernel_rfl) (fun _ _ _ h => h) hH rfl ?_
          try simp only [Act.put, List.setIfInBounds_toArray, List.set_cons_zero, List.set_cons_succ]
          refine skipH 18 rfl (by kernel_rfl) (by kernel_rfl) (by kernel_rfl) (fun _ _ _ h => h) hH rfl ?_
          try simp only [Act.put, List.setIfInBounds_toArray, List.set_cons_zero, List.set_cons_succ]
          refine skipH 19 rfl (by kernel_rfl) (by kernel_rfl) (by kernel_rfl) (fun _ _ _ h => h) hH rfl ?_
          try simp only [Act.put, List.setIfInBounds_toArray, List.set_cons_zero, List.set_cons_succ]
          refine skipH 20 rfl (by kernel_rfl) (by kernel_rfl) (by kernel_rfl) (fun _ _ _ h => h) hH rfl ?_
          try simp only [Act.put, List.setIfInBounds_toArray, List.set_cons_zero, List.set_cons_succ]
          refine skipH 21 rfl (by kernel_rfl) (by kernel_rfl) (by kernel_rfl) (fun _ _ _ h => h) hH rfl ?_
          try simp only [Act.put, List.setIfInBounds_toArray, List.set_cons_zero, List.set_cons_succ]
          refine takeH 22 (v := ?vb22) rfl (by kernel_rfl) (by kernel_rfl) (by kernel_rfl) (fun _ _ _ h => h) hH rfl ?yb22 ?rb22
          case yb22 => intro W hSw; go_simp; try with_reducible rfl
          try simp only [Act.put, List.setIfInBounds_toArray, List.set_cons_zero, List.set_cons_succ]
          refine takeH 23 (v := ?vb23) rfl (by kernel_rfl) (by kernel_rfl) (by kernel_rfl) (fun _ _ _ h => h) hH rfl ?yb23 ?rb23
          case yb23 => intro W hSw; go_simp; try with_reducible rfl
          try simp only [Act.put, List.setIfInBounds_toArray, List.set_cons_zero, List.set_cons_succ]
          refine takeH 24 (v := ?vb24) rfl (by kernel_rfl) (by kernel_rfl) (by kernel_rfl) (fun _ _ _ h => h) hH rfl ?yb24 ?rb24
          case yb24 => intro W hSw; go_simp; try with_reducible rfl
          try simp only [Act.put, List.setIfInBounds_toArray, List.set_cons_zero, List.set_cons_succ]
          refine takeH 25 (v := ?vb25) rfl (by kernel_rfl) (by kernel_rfl) (by kernel_rfl) (fun _ _ _ h => h) hH rfl ?yb25 ?rb25
          case yb25 => intro W hSw; go_simp; try with_reducible rfl
          try simp only [Act.put, List.setIfInBounds_toArray, List.set_cons_zero, List.set_cons_succ]
          refine takeH 26 (v := ?vb26) rfl (by kernel_rfl) (by kernel_rfl) (by kernel_rfl) (fun _ _ _ h => h) hH rfl ?yb26 ?rb26
          case yb26 => intro W hSw; go_simp; try with_reducible rfl
          try simp only [Act.put, List.setIfInBounds_toArray, List.set_cons_zero, List.set_cons_succ]
          refine takeH 27 (v := ?vb27) rfl (by kernel_rfl) (by kernel_rfl) (by kernel_rfl) (fun _ _ _ h => h) hH rfl ?yb27 ?rb27
          case yb27 => intro W hSw; go_simp; try with_reducible rfl
          try simp only [Act.put, List.setIfInBounds_toArray, List.set_cons_zero, List.set_cons_succ]
          refine takeH 28 (v := ?vb28) rfl (by kernel_rfl) (by kernel_rfl) (by kernel_rfl) (fun _ _ _ h => h) hH rfl ?yb28 ?rb28
          case yb28 => intro W hSw; go_simp; try with_reducible rfl
          try simp only [Act.put, List.setIfInBounds_toArray, List.set_cons_zero, List.set_cons_succ]
          refine takeH 29 (v := ?vb29) rfl (by kernel_rfl) (by kernel_rfl) (by kernel_rfl) (fun _ _ _ h => h) hH rfl ?yb29 ?rb29
          case yb29 => intro W hSw; go_simp; try with_reducible rfl
          try simp only [Act.put, List.setIfInBounds_toArray, List.set_cons_zero, List.set_cons_succ]
          refine callH 30 rfl (by kernel_rfl) rfl (fun K hK => ?_)
          go_simp
          go_at_call 43
          refine (HQ.out _ hrd.1 (by omega) (Hg1.out.under hH.1) (Hi2.out.below hH.1)).mono ?_
          rintro e wx ⟨rfl, hbx⟩
          refine hK.out _ _ ⟨hH.1.trans (hbx.mono hH.1.size), (hbx.cell (p := ⟨b, off + k * 4, none⟩) (Hbs.out _ hH.1)).trans hH.2.1, (hbx.cell (p := ⟨b, off + k * 4 + 1, none⟩) (Hbs.out _ hH.1)).trans hH.2.2.1, (hbx.cell (p := ⟨b, off + k * 4 + 2, none⟩) (Hbs.out _ hH.1)).trans hH.2.2.2.1, (hbx.cell (p := ⟨b, off + k * 4 + 3, none⟩) (Hbs.out _ hH.1)).trans hH.2.2.2.2⟩ (fun hH => ?_)
          clear hK K
          try simp only [Act.put, List.setIfInBounds_toArray, List.set_cons_zero, List.set_cons_succ]
          refine takeH 31 (v := ?vb31) rfl (by kernel_rfl) (by kernel_rfl) (by kernel_rfl) (fun _ _ _ h => h) hH rfl ?yb31 ?rb31
          case yb31 => intro W hSw; go_simp; try with_reducible rfl
          try simp only [Act.put, List.setIfInBounds_toArray, List.set_cons_zero, List.set_cons_succ]
          refine takeH 32 (v := ?vb32) rfl (by kernel_rfl) (by kernel_rfl) (by kernel_rfl) (fun _ _ _ h => h) hH rfl ?yb32 ?rb32
          case yb32 => intro W hSw; go_simp; try with_reducible rfl
          try simp only [Act.put, List.setIfInBounds_toArray, List.set_cons_zero, List.set_cons_succ]
          refine wpAnyH_done (by kernel_rfl) ?_ _
          try simp only [Act.put]
          have hz := allB_no hlt (show okV c g k = false by rw [Hok.out, h3])
          go_wp2
          go_ret
          exact ⟨ret_bool (by rw [Hres.out, hz]), below_step Hbel.out Hbel.out.size hH.1⟩
        | true =>
          rw [h3] at HQ
          go_wp2_with fail
          refine wp_region_held_drew (S := fun w' => Below wr.heap.size wr w' ∧ w'.cell? ⟨b, off + k * 4, none⟩ = some (.int .i64 xr) ∧ w'.cell? ⟨b, off + k * 4 + 1, none⟩ = some (.int .i64 xa) ∧ w'.cell? ⟨b, off + k * 4 + 2, none⟩ = some (.slice pa xp.length pc) ∧ w'.cell? ⟨b, off + k * 4 + 3, none⟩ = some (.int .i64 xd)) (by kernel_rfl) ⟨hb0, c0, c1, c2, c3⟩ (fun hH => ?_)
          refine takeH 0 (v := ?vc0) rfl (by kernel_rfl) (by kernel_rfl) (by kernel_rfl) (fun _ _ _ h => h) hH rfl ?yc0 ?rc0
          case yc0 => intro W hSw; go_simp; try with_reducible rfl
          try simp only [Act.put, List.setIfInBounds_toArray, List.set_cons_zero, List.set_cons_succ]
          refine takeH 1 (v := ?vc1) rfl (by kernel_rfl) (by kernel_rfl) (by kernel_rfl) (fun _ _ _ h => h) hH rfl ?yc1 ?rc1
          case yc1 => intro W hSw; go_simp; try with_reducible rfl
          try simp only [Act.put, List.setIfInBounds_toArray, List.set_cons_zero, List.set_cons_succ]
          refine takeH 2 (v := ?vc2) rfl (by kernel_rfl) (by kernel_rfl) (by kernel_rfl) (fun _ _ _ h => h) hH rfl ?yc2 ?rc2
          case yc2 => intro W hSw; go_simp; try with_reducible rfl
          try simp only [Act.put, List.setIfInBounds_toArray, List.set_cons_zero, List.set_cons_succ]
          refine takeH 3 (v := ?vc3) rfl (by kernel_rfl) (by kernel_rfl) (by kernel_rfl) (fun _ _ _ h => h) hH rfl ?yc3 ?rc3
          case yc3 => intro W hSw; go_simp; try with_reducible rfl
          try simp only [Act.put, List.setIfInBounds_toArray, List.set_cons_zero, List.set_cons_succ]
          refine takeH 4 (v := ?vc4) rfl (by kernel_rfl) (by kernel_rfl) (by kernel_rfl) (fun _ _ _ h => h) hH rfl ?yc4 ?rc4
          case yc4 => intro W hSw; go_simp; try with_reducible rfl
          try simp only [Act.put, List.setIfInBounds_toArray, List.set_cons_zero, List.set_cons_succ]
          refine callH 5 rfl (by kernel_rfl) rfl (fun K hK => ?_)
          go_simp
          go_at_call 41
          refine (HV.out _ (Hc1.out.below hH.1) (Hi2.out.below hH.1)).mono ?_
          rintro e wx ⟨rfl, hbx⟩
          refine hK.out _ _ ⟨hH.1.trans (hbx.mono hH.1.size), (hbx.cell (p := ⟨b, off + k * 4, none⟩) (Hbs.out _ hH.1)).trans hH.2.1, (hbx.cell (p := ⟨b, off + k * 4 + 1, none⟩) (Hbs.out _ hH.1)).trans hH.2.2.1, (hbx.cell (p := ⟨b, off + k * 4 + 2, none⟩) (Hbs.out _ hH.1)).trans hH.2.2.2.1, (hbx.cell (p := ⟨b, off + k * 4 + 3, none⟩) (Hbs.out _ hH.1)).trans hH.2.2.2.2⟩ (fun hH => ?_)
          clear hK K
          try simp only [Act.put, List.setIfInBounds_toArray, List.set_cons_zero, List.set_cons_succ]
          refine takeH 6 (v := ?vc6) rfl (by kernel_rfl) (by kernel_rfl) (by kernel_rfl) (fun _ _ _ h => h) hH rfl ?yc6 ?rc6
          case yc6 => intro W hSw; go_simp; try with_reducible rfl
          try simp only [Act.put, List.setIfInBounds_toArray, List.set_cons_zero, List.set_cons_succ]
          refine takeH 7 (v := ?vc7) rfl (by kernel_rfl) (by kernel_rfl) (by kernel_rfl) (fun _ _ _ h => h) hH rfl ?yc7 ?rc7
          case yc7 => intro W hSw; go_simp; try with_reducible rfl
          try simp only [Act.put, List.setIfInBounds_toArray, List.set_cons_zero, List.set_cons_succ]
          refine takeH 8 (v := ?vc8) rfl (by kernel_rfl) (by kernel_rfl) (by kernel_rfl) (fun _ _ _ h => h) hH rfl ?yc8 ?rc8
          case yc8 => intro W hSw; go_simp; try with_reducible rfl
          try simp only [Act.put, List.setIfInBounds_toArray, List.set_cons_zero, List.set_cons_succ]
          refine takeH 9 (v := .bool false) rfl (by kernel_rfl) (by kernel_rfl) (by kernel_rfl) (fun _ _ _ h => h) hH rfl ?yc9 ?rc9
          case yc9 => intro W hSw; go_simp; first | done | simp only [hgt] | omega | (simp; omega)
          try simp only [Act.put, List.setIfInBounds_toArray, List.set_cons_zero, List.set_cons_succ]
          refine takeH 10 (v := ?vc10) rfl (by kernel_rfl) (by kernel_rfl) (by kernel_rfl) (fun _ _ _ h => h) hH rfl ?yc10 ?rc10
          case yc10 => intro W hSw; go_simp; try with_reducible rfl
          try simp only [Act.put, List.setIfInBounds_toArray, List.set_cons_zero, List.set_cons_succ]
          refine skipH 11 rfl (by kernel_rfl) (by kernel_rfl) (by kernel_rfl) (fun _ _ _ h => h) hH rfl ?_
          try simp only [Act.put, List.setIfInBounds_toArray, List.set_cons_zero, List.set_cons_succ]
          refine skipH 12 rfl (by kernel_rfl) (by kernel_rfl) (by kernel_rfl) (fun _ _ _ h => h) hH rfl ?_
          try simp only [Act.put, List.setIfInBounds_toArray, List.set_cons_zero, List.set_cons_succ]
          refine skipH 13 rfl (by kernel_rfl) (by kernel_rfl) (by kernel_rfl) (fun _ _ _ h => h) hH rfl ?_
          try simp only [Act.put, List.setIfInBounds_toArray, List.set_cons_zero, List.set_cons_succ]
          refine skipH 14 rfl (by kernel_rfl) (by kernel_rfl) (by kernel_rfl) (fun _ _ _ h => h) hH rfl ?_
          try simp only [Act.put, List.setIfInBounds_toArray, List.set_cons_zero, List.set_cons_succ]
          refine skipH 15 rfl (by kernel_rfl) (by kernel_rfl) (by kernel_rfl) (fun _ _ _ h => h) hH rfl ?_
          try simp only [Act.put, List.setIfInBounds_toArray, List.set_cons_zero, List.set_cons_succ]
          refine skipH 16 rfl (by kernel_rfl) (by kernel_rfl) (by kernel_rfl) (fun _ _ _ h => h) hH rfl ?_
          try simp only [Act.put, List.setIfInBounds_toArray, List.set_cons_zero, List.set_cons_succ]
          refine skipH 17 rfl (by kernel_rfl) (by kernel_rfl) (by kernel_rfl) (fun _ _ _ h => h) hH rfl ?_
          try simp only [Act.put, List.setIfInBounds_toArray, List.set_cons_zero, List.set_cons_succ]
          refine skipH 18 rfl (by kernel_rfl) (by kernel_rfl) (by kernel_rfl) (fun _ _ _ h => h) hH rfl ?_
          try simp only [Act.put, List.setIfInBounds_toArray, List.set_cons_zero, List.set_cons_succ]
          refine skipH 19 rfl (by kernel_rfl) (by kernel_rfl) (by kernel_rfl) (fun _ _ _ h => h) hH rfl ?_
          try simp only [Act.put, List.setIfInBounds_toArray, List.set_cons_zero, List.set_cons_succ]
          refine skipH 20 rfl (by kernel_rfl) (by kernel_rfl) (by kernel_rfl) (fun _ _ _ h => h) hH rfl ?_
          try simp only [Act.put, List.setIfInBounds_toArray, List.set_cons_zero, List.set_cons_succ]
          refine skipH 21 rfl (by kernel_rfl) (by kernel_rfl) (by kernel_rfl) (fun _ _ _ h => h) hH rfl ?_
          try simp only [Act.put, List.setIfInBounds_toArray, List.set_cons_zero, List.set_cons_succ]
          refine takeH 22 (v := ?vc22) rfl (by kernel_rfl) (by kernel_rfl) (by kernel_rfl) (fun _ _ _ h => h) hH rfl ?yc22 ?rc22
          case yc22 => intro W hSw; go_simp; try with_reducible rfl
          try simp only [Act.put, List.setIfInBounds_toArray, List.set_cons_zero, List.set_cons_succ]
          refine takeH 23 (v := ?vc23) rfl (by kernel_rfl) (by kernel_rfl) (by kernel_rfl) (fun _ _ _ h => h) hH rfl ?yc23 ?rc23
          case yc23 => intro W hSw; go_simp; try with_reducible rfl
          try simp only [Act.put, List.setIfInBounds_toArray, List.set_cons_zero, List.set_cons_succ]
          refine takeH 24 (v := ?vc24) rfl (by kernel_rfl) (by kernel_rfl) (by kernel_rfl) (fun _ _ _ h => h) hH rfl ?yc24 ?rc24
          case yc24 => intro W hSw; go_simp; try with_reducible rfl
          try simp only [Act.put, List.setIfInBounds_toArray, List.set_cons_zero, List.set_cons_succ]
          refine takeH 25 (v := ?vc25) rfl (by kernel_rfl) (by kernel_rfl) (by kernel_rfl) (fun _ _ _ h => h) hH rfl ?yc25 ?rc25
          case yc25 => intro W hSw; go_simp; try with_reducible rfl
          try simp only [Act.put, List.setIfInBounds_toArray, List.set_cons_zero, List.set_cons_succ]
          refine takeH 26 (v := ?vc26) rfl (by kernel_rfl) (by kernel_rfl) (by kernel_rfl) (fun _ _ _ h => h) hH rfl ?yc26 ?rc26
          case yc26 => intro W hSw; go_simp; try with_reducible rfl
          try simp only [Act.put, List.setIfInBounds_toArray, List.set_cons_zero, List.set_cons_succ]
          refine takeH 27 (v := ?vc27) rfl (by kernel_rfl) (by kernel_rfl) (by kernel_rfl) (fun _ _ _ h => h) hH rfl ?yc27 ?rc27
          case yc27 => intro W hSw; go_simp; try with_reducible rfl
          try simp only [Act.put, List.setIfInBounds_toArray, List.set_cons_zero, List.set_cons_succ]
          refine takeH 28 (v := ?vc28) rfl (by kernel_rfl) (by kernel_rfl) (by kernel_rfl) (fun _ _ _ h => h) hH rfl ?yc28 ?rc28
          case yc28 => intro W hSw; go_simp; try with_reducible rfl
          try simp only [Act.put, List.setIfInBounds_toArray, List.set_cons_zero, List.set_cons_succ]
          refine takeH 29 (v := ?vc29) rfl (by kernel_rfl) (by kernel_rfl) (by kernel_rfl) (fun _ _ _ h => h) hH rfl ?yc29 ?rc29
          case yc29 => intro W hSw; go_simp; try with_reducible rfl
          try simp only [Act.put, List.setIfInBounds_toArray, List.set_cons_zero, List.set_cons_succ]
          refine callH 30 rfl (by kernel_rfl) rfl (fun K hK => ?_)
          go_simp
          go_at_call 43
          refine (HQ.out _ hrd.1 (by omega) (Hg1.out.under hH.1) (Hi2.out.below hH.1)).mono ?_
          rintro e wx ⟨rfl, hbx⟩
          refine hK.out _ _ ⟨hH.1.trans (hbx.mono hH.1.size), (hbx.cell (p := ⟨b, off + k * 4, none⟩) (Hbs.out _ hH.1)).trans hH.2.1, (hbx.cell (p := ⟨b, off + k * 4 + 1, none⟩) (Hbs.out _ hH.1)).trans hH.2.2.1, (hbx.cell (p := ⟨b, off + k * 4 + 2, none⟩) (Hbs.out _ hH.1)).trans hH.2.2.2.1, (hbx.cell (p := ⟨b, off + k * 4 + 3, none⟩) (Hbs.out _ hH.1)).trans hH.2.2.2.2⟩ (fun hH => ?_)
          clear hK K
          try simp only [Act.put, List.setIfInBounds_toArray, List.set_cons_zero, List.set_cons_succ]
          refine takeH 31 (v := ?vc31) rfl (by kernel_rfl) (by kernel_rfl) (by kernel_rfl) (fun _ _ _ h => h) hH rfl ?yc31 ?rc31
          case yc31 => intro W hSw; go_simp; try with_reducible rfl
          try simp only [Act.put, List.setIfInBounds_toArray, List.set_cons_zero, List.set_cons_succ]
          refine takeH 32 (v := ?vc32) rfl (by kernel_rfl) (by kernel_rfl) (by kernel_rfl) (fun _ _ _ h => h) hH rfl ?yc32 ?rc32
          case yc32 => intro W hSw; go_simp; try with_reducible rfl
          try simp only [Act.put, List.setIfInBounds_toArray, List.set_cons_zero, List.set_cons_succ]
          refine wpAnyH_done (by kernel_rfl) ?_ _
          try simp only [Act.put]
          go_wp2
          go_roundw
          case rel => exact ⟨k + 1, by omega, by go_num, upto_step Hup.out (by rw [Hok.out, h3]), below_step Hbel.out Hbel.out.size hH.1⟩
          case measure => simp [intOf]; omega
      · have hgt : decide ((0 : Int) < (k : Int)) = true := decide_eq_true (by omega)
        have hgt' : (0 : Int) < (k : Int) := by omega
        obtain ⟨d0, d1, ⟨pa', pc', d2, _⟩, d3⟩ := Hat.out (k - 1) (by omega)
        have hgy := getV (show k - 1 < g.length by omega)
        have hok : okV c g k = (befB g[k - 1] ⟨xr, xa, xp, xd⟩ && parB g ⟨xr, xa, xp, xd⟩) := by rw [Hok.out, h1, hgy, show (k == 0) = false by simpa using h0]; rfl
        have Hok := Lib.hid hok; clear hok hgy
        have HB := Lib.hid (Hb.out g[k - 1] pa' pc'); clear Hb
        generalize hy : g[k - 1] = y at *
        obtain ⟨yr, ya, yp, yd⟩ := y
        dsimp only at *
        have Hy := Lib.hid hy; clear hy
        have e3 : ((k : Int) - 1).toNat = k - 1 := by omega
        have e4 : 0 ≤ (k : Int) - 1 := by omega
        have e5 : 1 ≤ (k : Int) := by omega
        have e6 : (k : Int) - 1 < g.length := by omega
        cases h2 : befB ⟨yr, ya, yp, yd⟩ ⟨xr, xa, xp, xd⟩ with
        | false =>
          rw [h2] at HB
          go_wp2_with fail
          refine wp_region_held_drew (S := fun w' => Below wr.heap.size wr w' ∧ w'.cell? ⟨b, off + k * 4, none⟩ = some (.int .i64 xr) ∧ w'.cell? ⟨b, off + k * 4 + 1, none⟩ = some (.int .i64 xa) ∧ w'.cell? ⟨b, off + k * 4 + 2, none⟩ = some (.slice pa xp.length pc) ∧ w'.cell? ⟨b, off + k * 4 + 3, none⟩ = some (.int .i64 xd) ∧ w'.cell? ⟨b, off + (k - 1) * 4, none⟩ = some (.int .i64 yr) ∧ w'.cell? ⟨b, off + (k - 1) * 4 + 1, none⟩ = some (.int .i64 ya) ∧ w'.cell? ⟨b, off + (k - 1) * 4 + 2, none⟩ = some (.slice pa' yp.length pc') ∧ w'.cell? ⟨b, off + (k - 1) * 4 + 3, none⟩ = some (.int .i64 yd)) (by kernel_rfl) ⟨hb0, c0, c1, c2, c3, d0, d1, d2, d3⟩ (fun hH => ?_)
          refine takeH 0 (v := ?vd0) rfl (by kernel_rfl) (by kernel_rfl) (by kernel_rfl) (fun _ _ _ h => h) hH rfl ?yd0 ?rd0
          case yd0 => intro W hSw; go_simp; try with_reducible rfl
          try simp only [Act.put, List.setIfInBounds_toArray, List.set_cons_zero, List.set_cons_succ]
          refine takeH 1 (v := ?vd1) rfl (by kernel_rfl) (by kernel_rfl) (by kernel_rfl) (fun _ _ _ h => h) hH rfl ?yd1 ?rd1
          case yd1 => intro W hSw; go_simp; try with_reducible rfl
          try simp only [Act.put, List.setIfInBounds_toArray, List.set_cons_zero, List.set_cons_succ]
          refine takeH 2 (v := ?vd2) rfl (by kernel_rfl) (by kernel_rfl) (by kernel_rfl) (fun _ _ _ h => h) hH rfl ?yd2 ?rd2
          case yd2 => intro W hSw; go_simp; try with_reducible rfl
          try simp only [Act.put, List.setIfInBounds_toArray, List.set_cons_zero, List.set_cons_succ]
          refine takeH 3 (v := ?vd3) rfl (by kernel_rfl) (by kernel_rfl) (by kernel_rfl) (fun _ _ _ h => h) hH rfl ?yd3 ?rd3
          case yd3 => intro W hSw; go_simp; try with_reducible rfl
          try simp only [Act.put, List.setIfInBounds_toArray, List.set_cons_zero, List.set_cons_succ]
          refine takeH 4 (v := ?vd4) rfl (by kernel_rfl) (by kernel_rfl) (by kernel_rfl) (fun _ _ _ h => h) hH rfl ?yd4 ?rd4
          case yd4 => intro W hSw; go_simp; try with_reducible rfl
          try simp only [Act.put, List.setIfInBounds_toArray, List.set_cons_zero, List.set_cons_succ]
          refine callH 5 rfl (by kernel_rfl) rfl (fun K hK => ?_)
          go_simp
          go_at_call 41
          refine (HV.out _ (Hc1.out.below hH.1) (Hi2.out.below hH.1)).mono ?_
          rintro e wx ⟨rfl, hbx⟩
          refine hK.out _ _ ⟨hH.1.trans (hbx.mono hH.1.size), (hbx.cell (p := ⟨b, off + k * 4, none⟩) (Hbs.out _ hH.1)).trans hH.2.1, (hbx.cell (p := ⟨b, off + k * 4 + 1, none⟩) (Hbs.out _ hH.1)).trans hH.2.2.1, (hbx.cell (p := ⟨b, off + k * 4 + 2, none⟩) (Hbs.out _ hH.1)).trans hH.2.2.2.1, (hbx.cell (p := ⟨b, off + k * 4 + 3, none⟩) (Hbs.out _ hH.1)).trans hH.2.2.2.2.1, (hbx.cell (p := ⟨b, off + (k - 1) * 4, none⟩) (Hbs.out _ hH.1)).trans hH.2.2.2.2.2.1, (hbx.cell (p := ⟨b, off + (k - 1) * 4 + 1, none⟩) (Hbs.out _ hH.1)).trans hH.2.2.2.2.2.2.1, (hbx.cell (p := ⟨b, off + (k - 1) * 4 + 2, none⟩) (Hbs.out _ hH.1)).trans hH.2.2.2.2.2.2.2.1, (hbx.cell (p := ⟨b, off + (k - 1) * 4 + 3, none⟩) (Hbs.out _ hH.1)).trans hH.2.2.2.2.2.2.2.2⟩ (fun hH => ?_)
          clear hK K
          try simp only [Act.put, List.setIfInBounds_toArray, List.set_cons_zero, List.set_cons_succ]
          refine takeH 6 (v := ?vd6) rfl (by kernel_rfl) (by kernel_rfl) (by kernel_rfl) (fun _ _ _ h => h) hH rfl ?yd6 ?rd6
          case yd6 => intro W hSw; go_simp; try with_reducible rfl
          try simp only [Act.put, List.setIfInBounds_toArray, List.set_cons_zero, List.set_cons_succ]
          refine takeH 7 (v := ?vd7) rfl (by kernel_rfl) (by kernel_rfl) (by kernel_rfl) (fun _ _ _ h => h) hH rfl ?yd7 ?rd7
          case yd7 => intro W hSw; go_simp; try with_reducible rfl
          try simp only [Act.put, List.setIfInBounds_toArray, List.set_cons_zero, List.set_cons_succ]
          refine takeH 8 (v := ?vd8) rfl (by kernel_rfl) (by kernel_rfl) (by kernel_rfl) (fun _ _ _ h => h) hH rfl ?yd8 ?rd8
          case yd8 => intro W hSw; go_simp; try with_reducible rfl
          try simp only [Act.put, List.setIfInBounds_toArray, List.set_cons_zero, List.set_cons_succ]
          refine takeH 9 (v := .bool true) rfl (by kernel_rfl) (by kernel_rfl) (by kernel_rfl) (fun _ _ _ h => h) hH rfl ?yd9 ?rd9
          case yd9 => intro W hSw; go_simp; first | done | simp only [hgt] | omega | (simp; omega)
          try simp only [Act.put, List.setIfInBounds_toArray, List.set_cons_zero, List.set_cons_succ]
          refine takeH 10 (v := ?vd10) rfl (by kernel_rfl) (by kernel_rfl) (by kernel_rfl) (fun _ _ _ h => h) hH rfl ?yd10 ?rd10
          case yd10 => intro W hSw; go_simp; try with_reducible rfl
          try simp only [Act.put, List.setIfInBounds_toArray, List.set_cons_zero, List.set_cons_succ]
          refine takeH 11 (v := ?vd11) rfl (by kernel_rfl) (by kernel_rfl) (by kernel_rfl) (fun _ _ _ h => h) hH rfl ?yd11 ?rd11
          case yd11 => intro W hSw; go_simp; try with_reducible rfl
          try simp only [Act.put, List.setIfInBounds_toArray, List.set_cons_zero, List.set_cons_succ]
          refine takeH 12 (v := ?vd12) rfl (by kernel_rfl) (by kernel_rfl) (by kernel_rfl) (fun _ _ _ h => h) hH rfl ?yd12 ?rd12
          case yd12 => intro W hSw; go_simp; try with_reducible rfl
          try simp only [Act.put, List.setIfInBounds_toArray, List.set_cons_zero, List.set_cons_succ]
          refine takeH 13 (v := ?vd13) rfl (by kernel_rfl) (by kernel_rfl) (by kernel_rfl) (fun _ _ _ h => h) hH rfl ?yd13 ?rd13
          case yd13 => intro W hSw; go_simp; try with_reducible rfl
          try simp only [Act.put, List.setIfInBounds_toArray, List.set_cons_zero, List.set_cons_succ]
          refine takeH 14 (v := ?vd14) rfl (by kernel_rfl) (by kernel_rfl) (by kernel_rfl) (fun _ _ _ h => h) hH rfl ?yd14 ?rd14
          case yd14 => intro W hSw; go_simp; try with_reducible rfl
          try simp only [Act.put, List.setIfInBounds_toArray, List.set_cons_zero, List.set_cons_succ]
          refine takeH 15 (v := ?vd15) rfl (by kernel_rfl) (by kernel_rfl) (by kernel_rfl) (fun _ _ _ h => h) hH rfl ?yd15 ?rd15
          case yd15 => intro W hSw; go_simp; try with_reducible rfl
          try simp only [Act.put, List.setIfInBounds_toArray, List.set_cons_zero, List.set_cons_succ]
          refine takeH 16 (v := ?vd16) rfl (by kernel_rfl) (by kernel_rfl) (by kernel_rfl) (fun _ _ _ h => h) hH rfl ?yd16 ?rd16
          case yd16 => intro W hSw; go_simp; try with_reducible rfl
          try simp only [Act.put, List.setIfInBounds_toArray, List.set_cons_zero, List.set_cons_succ]
          refine takeH 17 (v := ?vd17) rfl (by kernel_rfl) (by kernel_rfl) (by kernel_rfl) (fun _ _ _ h => h) hH rfl ?yd17 ?rd17
          case yd17 => intro W hSw; go_simp; try with_reducible rfl
          try simp only [Act.put, List.setIfInBounds_toArray, List.set_cons_zero, List.set_cons_succ]
          refine takeH 18 (v := ?vd18) rfl (by kernel_rfl) (by kernel_rfl) (by kernel_rfl) (fun _ _ _ h => h) hH rfl ?yd18 ?rd18
          case yd18 => intro W hSw; go_simp; try with_reducible rfl
          try simp only [Act.put, List.setIfInBounds_toArray, List.set_cons_zero, List.set_cons_succ]
          refine takeH 19 (v := ?vd19) rfl (by kernel_rfl) (by kernel_rfl) (by kernel_rfl) (fun _ _ _ h => h) hH rfl ?yd19 ?rd19
          case yd19 => intro W hSw; go_simp; try with_reducible rfl
          try simp only [Act.put, List.setIfInBounds_toArray, List.set_cons_zero, List.set_cons_succ]
          refine callH 20 rfl (by kernel_rfl) rfl (fun K hK => ?_)
          go_simp
          go_at_call 42
          refine (HB.out _).mono ?_
          rintro e wx ⟨rfl, hbx⟩
          refine hK.out _ _ ⟨hH.1.trans (hbx.mono hH.1.size), (hbx.cell (p := ⟨b, off + k * 4, none⟩) (Hbs.out _ hH.1)).trans hH.2.1, (hbx.cell (p := ⟨b, off + k * 4 + 1, none⟩) (Hbs.out _ hH.1)).trans hH.2.2.1, (hbx.cell (p := ⟨b, off + k * 4 + 2, none⟩) (Hbs.out _ hH.1)).trans hH.2.2.2.1, (hbx.cell (p := ⟨b, off + k * 4 + 3, none⟩) (Hbs.out _ hH.1)).trans hH.2.2.2.2.1, (hbx.cell (p := ⟨b, off + (k - 1) * 4, none⟩) (Hbs.out _ hH.1)).trans hH.2.2.2.2.2.1, (hbx.cell (p := ⟨b, off + (k - 1) * 4 + 1, none⟩) (Hbs.out _ hH.1)).trans hH.2.2.2.2.2.2.1, (hbx.cell (p := ⟨b, off + (k - 1) * 4 + 2, none⟩) (Hbs.out _ hH.1)).trans hH.2.2.2.2.2.2.2.1, (hbx.cell (p := ⟨b, off + (k - 1) * 4 + 3, none⟩) (Hbs.out _ hH.1)).trans hH.2.2.2.2.2.2.2.2⟩ (fun hH => ?_)
          clear hK K
          try simp only [Act.put, List.setIfInBounds_toArray, List.set_cons_zero, List.set_cons_succ]
          refine takeH 21 (v := ?vd21) rfl (by kernel_rfl) (by kernel_rfl) (by kernel_rfl) (fun _ _ _ h => h) hH rfl ?yd21 ?rd21
          case yd21 => intro W hSw; go_simp; try with_reducible rfl
          try simp only [Act.put, List.setIfInBounds_toArray, List.set_cons_zero, List.set_cons_succ]
          refine takeH 22 (v := ?vd22) rfl (by kernel_rfl) (by kernel_rfl) (by kernel_rfl) (fun _ _ _ h => h) hH rfl ?yd22 ?rd22
          case yd22 => intro W hSw; go_simp; try with_reducible rfl
          try simp only [Act.put, List.setIfInBounds_toArray, List.set_cons_zero, List.set_cons_succ]
          refine takeH 23 (v := ?vd23) rfl (by kernel_rfl) (by kernel_rfl) (by kernel_rfl) (fun _ _ _ h => h) hH rfl ?yd23 ?rd23
          case yd23 => intro W hSw; go_simp; try with_reducible rfl
          try simp only [Act.put, List.setIfInBounds_toArray, List.set_cons_zero, List.set_cons_succ]
          refine takeH 24 (v := ?vd24) rfl (by kernel_rfl) (by kernel_rfl) (by kernel_rfl) (fun _ _ _ h => h) hH rfl ?yd24 ?rd24
          case yd24 => intro W hSw; go_simp; try with_reducible rfl
          try simp only [Act.put, List.setIfInBounds_toArray, List.set_cons_zero, List.set_cons_succ]
          refine skipH 25 rfl (by kernel_rfl) (by kernel_rfl) (by kernel_rfl) (fun _ _ _ h => h) hH rfl ?_
          try simp only [Act.put, List.setIfInBounds_toArray, List.set_cons_zero, List.set_cons_succ]
          refine skipH 26 rfl (by kernel_rfl) (by kernel_rfl) (by kernel_rfl) (fun _ _ _ h => h) hH rfl ?_
          try simp only [Act.put, List.setIfInBounds_toArray, List.set_cons_zero, List.set_cons_succ]
          refine skipH 27 rfl (by kernel_rfl) (by kernel_rfl) (by kernel_rfl) (fun _ _ _ h => h) hH rfl ?_
          try simp only [Act.put, List.setIfInBounds_toArray, List.set_cons_zero, List.set_cons_succ]
          refine skipH 28 rfl (by kernel_rfl) (by kernel_rfl) (by kernel_rfl) (fun _ _ _ h => h) hH rfl ?_
          try simp only [Act.put, List.setIfInBounds_toArray, List.set_cons_zero, List.set_cons_succ]
          refine skipH 29 rfl (by kernel_rfl) (by kernel_rfl) (by kernel_rfl) (fun _ _ _ h => h) hH rfl ?_
          try simp only [Act.put, List.setIfInBounds_toArray, List.set_cons_zero, List.set_cons_succ]
          refine skipH 30 rfl (by kernel_rfl) (by kernel_rfl) (by kernel_rfl) (fun _ _ _ h => h) hH rfl ?_
          try simp only [Act.put, List.setIfInBounds_toArray, List.set_cons_zero, List.set_cons_succ]
          refine skipH 31 rfl (by kernel_rfl) (by kernel_rfl) (by kernel_rfl) (fun _ _ _ h => h) hH rfl ?_
          try simp only [Act.put, List.setIfInBounds_toArray, List.set_cons_zero, List.set_cons_succ]
          refine takeH 32 (v := ?vd32) rfl (by kernel_rfl) (by kernel_rfl) (by kernel_rfl) (fun _ _ _ h => h) hH rfl ?yd32 ?rd32
          case yd32 => intro W hSw; go_simp; try with_reducible rfl
          try simp only [Act.put, List.setIfInBounds_toArray, List.set_cons_zero, List.set_cons_succ]
          refine wpAnyH_done (by kernel_rfl) ?_ _
          try simp only [Act.put]
          have hz := allB_no hlt (show okV c g k = false by rw [Hok.out, h2]; rfl)
          go_wp2
          go_ret
          exact ⟨ret_bool (by rw [Hres.out, hz]), below_step Hbel.out Hbel.out.size hH.1⟩
        | true =>
        rw [h2] at HB
        cases h3 : parB g ⟨xr, xa, xp, xd⟩ with
        | false =>
          rw [h3] at HQ
          go_wp2_with fail
          refine wp_region_held_drew (S := fun w' => Below wr.heap.size wr w' ∧ w'.cell? ⟨b, off + k * 4, none⟩ = some (.int .i64 xr) ∧ w'.cell? ⟨b, off + k * 4 + 1, none⟩ = some (.int .i64 xa) ∧ w'.cell? ⟨b, off + k * 4 + 2, none⟩ = some (.slice pa xp.length pc) ∧ w'.cell? ⟨b, off + k * 4 + 3, none⟩ = some (.int .i64 xd) ∧ w'.cell? ⟨b, off + (k - 1) * 4, none⟩ = some (.int .i64 yr) ∧ w'.cell? ⟨b, off + (k - 1) * 4 + 1, none⟩ = some (.int .i64 ya) ∧ w'.cell? ⟨b, off + (k - 1) * 4 + 2, none⟩ = some (.slice pa' yp.length pc') ∧ w'.cell? ⟨b, off + (k - 1) * 4 + 3, none⟩ = some (.int .i64 yd)) (by kernel_rfl) ⟨hb0, c0, c1, c2, c3, d0, d1, d2, d3⟩ (fun hH => ?_)
          refine takeH 0 (v := ?ve0) rfl (by kernel_rfl) (by kernel_rfl) (by kernel_rfl) (fun _ _ _ h => h) hH rfl ?ye0 ?re0
          case ye0 => intro W hSw; go_simp; try with_reducible rfl
          try simp only [Act.put, List.setIfInBounds_toArray, List.set_cons_zero, List.set_cons_succ]
          refine takeH 1 (v := ?ve1) rfl (by kernel_rfl) (by kernel_rfl) (by kernel_rfl) (fun _ _ _ h => h) hH rfl ?ye1 ?re1
          case ye1 => intro W hSw; go_simp; try with_reducible rfl
          try simp only [Act.put, List.setIfInBounds_toArray, List.set_cons_zero, List.set_cons_succ]
          refine takeH 2 (v := ?ve2) rfl (by kernel_rfl) (by kernel_rfl) (by kernel_rfl) (fun _ _ _ h => h) hH rfl ?ye2 ?re2
          case ye2 => intro W hSw; go_simp; try with_reducible rfl
          try simp only [Act.put, List.setIfInBounds_toArray, List.set_cons_zero, List.set_cons_succ]
          refine takeH 3 (v := ?ve3) rfl (by kernel_rfl) (by kernel_rfl) (by kernel_rfl) (fun _ _ _ h => h) hH rfl ?ye3 ?re3
          case ye3 => intro W hSw; go_simp; try with_reducible rfl
          try simp only [Act.put, List.setIfInBounds_toArray, List.set_cons_zero, List.set_cons_succ]
          refine takeH 4 (v := ?ve4) rfl (by kernel_rfl) (by kernel_rfl) (by kernel_rfl) (fun _ _ _ h => h) hH rfl ?ye4 ?re4
          case ye4 => intro W hSw; go_simp; try with_reducible rfl
          try simp only [Act.put, List.setIfInBounds_toArray, List.set_cons_zero, List.set_cons_succ]
          refine callH 5 rfl (by kernel_rfl) rfl (fun K hK => ?_)
          go_simp
          go_at_call 41
          refine (HV.out _ (Hc1.out.below hH.1) (Hi2.out.below hH.1)).mono ?_
          rintro e wx ⟨rfl, hbx⟩
          refine hK.out _ _ ⟨hH.1.trans (hbx.mono hH.1.size), (hbx.cell (p := ⟨b, off + k * 4, none⟩) (Hbs.out _ hH.1)).trans hH.2.1, (hbx.cell (p := ⟨b, off + k * 4 + 1, none⟩) (Hbs.out _ hH.1)).trans hH.2.2.1, (hbx.cell (p := ⟨b, off + k * 4 + 2, none⟩) (Hbs.out _ hH.1)).trans hH.2.2.2.1, (hbx.cell (p := ⟨b, off + k * 4 + 3, none⟩) (Hbs.out _ hH.1)).trans hH.2.2.2.2.1, (hbx.cell (p := ⟨b, off + (k - 1) * 4, none⟩) (Hbs.out _ hH.1)).trans hH.2.2.2.2.2.1, (hbx.cell (p := ⟨b, off + (k - 1) * 4 + 1, none⟩) (Hbs.out _ hH.1)).trans hH.2.2.2.2.2.2.1, (hbx.cell (p := ⟨b, off + (k - 1) * 4 + 2, none⟩) (Hbs.out _ hH.1)).trans hH.2.2.2.2.2.2.2.1, (hbx.cell (p := ⟨b, off + (k - 1) * 4 + 3, none⟩) (Hbs.out _ hH.1)).trans hH.2.2.2.2.2.2.2.2⟩ (fun hH => ?_)
          clear hK K
          try simp only [Act.put, List.setIfInBounds_toArray, List.set_cons_zero, List.set_cons_succ]
          refine takeH 6 (v := ?ve6) rfl (by kernel_rfl) (by kernel_rfl) (by kernel_rfl) (fun _ _ _ h => h) hH rfl ?ye6 ?re6
          case ye6 => intro W hSw; go_simp; try with_reducible rfl
          try simp only [Act.put, List.setIfInBounds_toArray, List.set_cons_zero, List.set_cons_succ]
          refine takeH 7 (v := ?ve7) rfl (by kernel_rfl) (by kernel_rfl) (by kernel_rfl) (fun _ _ _ h => h) hH rfl ?ye7 ?re7
          case ye7 => intro W hSw; go_simp; try with_reducible rfl
          try simp only [Act.put, List.setIfInBounds_toArray, List.set_cons_zero, List.set_cons_succ]
          refine takeH 8 (v := ?ve8) rfl (by kernel_rfl) (by kernel_rfl) (by kernel_rfl) (fun _ _ _ h => h) hH rfl ?ye8 ?re8
          case ye8 => intro W hSw; go_simp; try with_reducible rfl
          try simp only [Act.put, List.setIfInBounds_toArray, List.set_cons_zero, List.set_cons_succ]
          refine takeH 9 (v := .bool true) rfl (by kernel_rfl) (by kernel_rfl) (by kernel_rfl) (fun _ _ _ h => h) hH rfl ?ye9 ?re9
          case ye9 => intro W hSw; go_simp; first | done | simp only [hgt] | omega | (simp; omega)
          try simp only [Act.put, List.setIfInBounds_toArray, List.set_cons_zero, List.set_cons_succ]
          refine takeH 10 (v := ?ve10) rfl (by kernel_rfl) (by kernel_rfl) (by kernel_rfl) (fun _ _ _ h => h) hH rfl ?ye10 ?re10
          case ye10 => intro W hSw; go_simp; try with_reducible rfl
          try simp only [Act.put, List.setIfInBounds_toArray, List.set_cons_zero, List.set_cons_succ]
          refine takeH 11 (v := ?ve11) rfl (by kernel_rfl) (by kernel_rfl) (by kernel_rfl) (fun _ _ _ h => h) hH rfl ?ye11 ?re11
          case ye11 => intro W hSw; go_simp; try with_reducible rfl
          try simp only [Act.put, List.setIfInBounds_toArray, List.set_cons_zero, List.set_cons_succ]
          refine takeH 12 (v := ?ve12) rfl (by kernel_rfl) (by kernel_rfl) (by kernel_rfl) (fun _ _ _ h => h) hH rfl ?ye12 ?re12
          case ye12 => intro W hSw; go_simp; try with_reducible rfl
          try simp only [Act.put, List.setIfInBounds_toArray, List.set_cons_zero, List.set_cons_succ]
          refine takeH 13 (v := ?ve13) rfl (by kernel_rfl) (by kernel_rfl) (by kernel_rfl) (fun _ _ _ h => h) hH rfl ?ye13 ?re13
          case ye13 => intro W hSw; go_simp; try with_reducible rfl
          try simp only [Act.put, List.setIfInBounds_toArray, List.set_cons_zero, List.set_cons_succ]
          refine takeH 14 (v := ?ve14) rfl (by kernel_rfl) (by kernel_rfl) (by kernel_rfl) (fun _ _ _ h => h) hH rfl ?ye14 ?re14
          case ye14 => intro W hSw; go_simp; try with_reducible rfl
          try simp only [Act.put, List.setIfInBounds_toArray, List.set_cons_zero, List.set_cons_succ]
          refine takeH 15 (v := ?ve15) rfl (by kernel_rfl) (by kernel_rfl) (by kernel_rfl) (fun _ _ _ h => h) hH rfl ?ye15 ?re15
          case ye15 => intro W hSw; go_simp; try with_reducible rfl
          try simp only [Act.put, List.setIfInBounds_toArray, List.set_cons_zero, List.set_cons_succ]
          refine takeH 16 (v := ?ve16) rfl (by kernel_rfl) (by kernel_rfl) (by kernel_rfl) (fun _ _ _ h => h) hH rfl ?ye16 ?re16
          case ye16 => intro W hSw; go_simp; try with_reducible rfl
          try simp only [Act.put, List.setIfInBounds_toArray, List.set_cons_zero, List.set_cons_succ]
          refine takeH 17 (v := ?ve17) rfl (by kernel_rfl) (by kernel_rfl) (by kernel_rfl) (fun _ _ _ h => h) hH rfl ?ye17 ?re17
          case ye17 => intro W hSw; go_simp; try with_reducible rfl
          try simp only [Act.put, List.setIfInBounds_toArray, List.set_cons_zero, List.set_cons_succ]
          refine takeH 18 (v := ?ve18) rfl (by kernel_rfl) (by kernel_rfl) (by kernel_rfl) (fun _ _ _ h => h) hH rfl ?ye18 ?re18
          case ye18 => intro W hSw; go_simp; try with_reducible rfl
          try simp only [Act.put, List.setIfInBounds_toArray, List.set_cons_zero, List.set_cons_succ]
          refine takeH 19 (v := ?ve19) rfl (by kernel_rfl) (by kernel_rfl) (by kernel_rfl) (fun _ _ _ h => h) hH rfl ?ye19 ?re19
          case ye19 => intro W hSw; go_simp; try with_reducible rfl
          try simp only [Act.put, List.setIfInBounds_toArray, List.set_cons_zero, List.set_cons_succ]
          refine callH 20 rfl (by kernel_rfl) rfl (fun K hK => ?_)
          go_simp
          go_at_call 42
          refine (HB.out _).mono ?_
          rintro e wx ⟨rfl, hbx⟩
          refine hK.out _ _ ⟨hH.1.trans (hbx.mono hH.1.size), (hbx.cell (p := ⟨b, off + k * 4, none⟩) (Hbs.out _ hH.1)).trans hH.2.1, (hbx.cell (p := ⟨b, off + k * 4 + 1, none⟩) (Hbs.out _ hH.1)).trans hH.2.2.1, (hbx.cell (p := ⟨b, off + k * 4 + 2, none⟩) (Hbs.out _ hH.1)).trans hH.2.2.2.1, (hbx.cell (p := ⟨b, off + k * 4 + 3, none⟩) (Hbs.out _ hH.1)).trans hH.2.2.2.2.1, (hbx.cell (p := ⟨b, off + (k - 1) * 4, none⟩) (Hbs.out _ hH.1)).trans hH.2.2.2.2.2.1, (hbx.cell (p := ⟨b, off + (k - 1) * 4 + 1, none⟩) (Hbs.out _ hH.1)).trans hH.2.2.2.2.2.2.1, (hbx.cell (p := ⟨b, off + (k - 1) * 4 + 2, none⟩) (Hbs.out _ hH.1)).trans hH.2.2.2.2.2.2.2.1, (hbx.cell (p := ⟨b, off + (k - 1) * 4 + 3, none⟩) (Hbs.out _ hH.1)).trans hH.2.2.2.2.2.2.2.2⟩ (fun hH => ?_)
          clear hK K
          try simp only [Act.put, List.setIfInBounds_toArray, List.set_cons_zero, List.set_cons_succ]
          refine takeH 21 (v := ?ve21) rfl (by kernel_rfl) (by kernel_rfl) (by kernel_rfl) (fun _ _ _ h => h) hH rfl ?ye21 ?re21
          case ye21 => intro W hSw; go_simp; try with_reducible rfl
          try simp only [Act.put, List.setIfInBounds_toArray, List.set_cons_zero, List.set_cons_succ]
          refine takeH 22 (v := ?ve22) rfl (by kernel_rfl) (by kernel_rfl) (by kernel_rfl) (fun _ _ _ h => h) hH rfl ?ye22 ?re22
          case ye22 => intro W hSw; go_simp; try with_reducible rfl
          try simp only [Act.put, List.setIfInBounds_toArray, List.set_cons_zero, List.set_cons_succ]
          refine takeH 23 (v := ?ve23) rfl (by kernel_rfl) (by kernel_rfl) (by kernel_rfl) (fun _ _ _ h => h) hH rfl ?ye23 ?re23
          case ye23 => intro W hSw; go_simp; try with_reducible rfl
          try simp only [Act.put, List.setIfInBounds_toArray, List.set_cons_zero, List.set_cons_succ]
          refine takeH 24 (v := ?ve24) rfl (by kernel_rfl) (by kernel_rfl) (by kernel_rfl) (fun _ _ _ h => h) hH rfl ?ye24 ?re24
          case ye24 => intro W hSw; go_simp; try with_reducible rfl
          try simp only [Act.put, List.setIfInBounds_toArray, List.set_cons_zero, List.set_cons_succ]
          refine takeH 25 (v := ?ve25) rfl (by kernel_rfl) (by kernel_rfl) (by kernel_rfl) (fun _ _ _ h => h) hH rfl ?ye25 ?re25
          case ye25 => intro W hSw; go_simp; try with_reducible rfl
          try simp only [Act.put, List.setIfInBounds_toArray, List.set_cons_zero, List.set_cons_succ]
          refine takeH 26 (v := ?ve26) rfl (by kernel_rfl) (by kernel_rfl) (by kernel_rfl) (fun _ _ _ h => h) hH rfl ?ye26 ?re26
          case ye26 => intro W hSw; go_simp; try with_reducible rfl
          try simp only [Act.put, List.setIfInBounds_toArray, List.set_cons_zero, List.set_cons_succ]
          refine takeH 27 (v := ?ve27) rfl (by kernel_rfl) (by kernel_rfl) (by kernel_rfl) (fun _ _ _ h => h) hH rfl ?ye27 ?re27
          case ye27 => intro W hSw; go_simp; try with_reducible rfl
          try simp only [Act.put, List.setIfInBounds_toArray, List.set_cons_zero, List.set_cons_succ]
          refine takeH 28 (v := ?ve28) rfl (by kernel_rfl) (by kernel_rfl) (by kernel_rfl) (fun _ _ _ h => h) hH rfl ?ye28 ?re28
          case ye28 => intro W hSw; go_simp; try with_reducible rfl
          try simp only [Act.put, List.setIfInBounds_toArray, List.set_cons_zero, List.set_cons_succ]
          refine takeH 29 (v := ?ve29) rfl (by kernel_rfl) (by kernel_rfl) (by kernel_rfl) (fun _ _ _ h => h) hH rfl ?ye29 ?re29
          case ye29 => intro W hSw; go_simp; try with_reducible rfl
          try simp only [Act.put, List.setIfInBounds_toArray, List.set_cons_zero, List.set_cons_succ]
          refine callH 30 rfl (by kernel_rfl) rfl (fun K hK => ?_)
          go_simp
          go_at_call 43
          refine (HQ.out _ hrd.1 (by omega) (Hg1.out.under hH.1) (Hi2.out.below hH.1)).mono ?_
          rintro e wx ⟨rfl, hbx⟩
          refine hK.out _ _ ⟨hH.1.trans (hbx.mono hH.1.size), (hbx.cell (p := ⟨b, off + k * 4, none⟩) (Hbs.out _ hH.1)).trans hH.2.1, (hbx.cell (p := ⟨b, off + k * 4 + 1, none⟩) (Hbs.out _ hH.1)).trans hH.2.2.1, (hbx.cell (p := ⟨b, off + k * 4 + 2, none⟩) (Hbs.out _ hH.1)).trans hH.2.2.2.1, (hbx.cell (p := ⟨b, off + k * 4 + 3, none⟩) (Hbs.out _ hH.1)).trans hH.2.2.2.2.1, (hbx.cell (p := ⟨b, off + (k - 1) * 4, none⟩) (Hbs.out _ hH.1)).trans hH.2.2.2.2.2.1, (hbx.cell (p := ⟨b, off + (k - 1) * 4 + 1, none⟩) (Hbs.out _ hH.1)).trans hH.2.2.2.2.2.2.1, (hbx.cell (p := ⟨b, off + (k - 1) * 4 + 2, none⟩) (Hbs.out _ hH.1)).trans hH.2.2.2.2.2.2.2.1, (hbx.cell (p := ⟨b, off + (k - 1) * 4 + 3, none⟩) (Hbs.out _ hH.1)).trans hH.2.2.2.2.2.2.2.2⟩ (fun hH => ?_)
          clear hK K
          try simp only [Act.put, List.setIfInBounds_toArray, List.set_cons_zero, List.set_cons_succ]
          refine takeH 31 (v := ?ve31) rfl (by kernel_rfl) (by kernel_rfl) (by kernel_rfl) (fun _ _ _ h => h) hH rfl ?ye31 ?re31
          case ye31 => intro W hSw; go_simp; try with_reducible rfl
          try simp only [Act.put, List.setIfInBounds_toArray, List.set_cons_zero, List.set_cons_succ]
          refine takeH 32 (v := ?ve32) rfl (by kernel_rfl) (by kernel_rfl) (by kernel_rfl) (fun _ _ _ h => h) hH rfl ?ye32 ?re32
          case ye32 => intro W hSw; go_simp; try with_reducible rfl
          try simp only [Act.put, List.setIfInBounds_toArray, List.set_cons_zero, List.set_cons_succ]
          refine wpAnyH_done (by kernel_rfl) ?_ _
          try simp only [Act.put]
          have hz := allB_no hlt (show okV c g k = false by rw [Hok.out, h2, h3]; rfl)
          go_wp2
          go_ret
          exact ⟨ret_bool (by rw [Hres.out, hz]), below_step Hbel.out Hbel.out.size hH.1⟩
        | true =>
          rw [h3] at HQ
          go_wp2_with fail
          refine wp_region_held_drew (S := fun w' => Below wr.heap.size wr w' ∧ w'.cell? ⟨b, off + k * 4, none⟩ = some (.int .i64 xr) ∧ w'.cell? ⟨b, off + k * 4 + 1, none⟩ = some (.int .i64 xa) ∧ w'.cell? ⟨b, off + k * 4 + 2, none⟩ = some (.slice pa xp.length pc) ∧ w'.cell? ⟨b, off + k * 4 + 3, none⟩ = some (.int .i64 xd) ∧ w'.cell? ⟨b, off + (k - 1) * 4, none⟩ = some (.int .i64 yr) ∧ w'.cell? ⟨b, off + (k - 1) * 4 + 1, none⟩ = some (.int .i64 ya) ∧ w'.cell? ⟨b, off + (k - 1) * 4 + 2, none⟩ = some (.slice pa' yp.length pc') ∧ w'.cell? ⟨b, off + (k - 1) * 4 + 3, none⟩ = some (.int .i64 yd)) (by kernel_rfl) ⟨hb0, c0, c1, c2, c3, d0, d1, d2, d3⟩ (fun hH => ?_)
          refine takeH 0 (v := ?vf0) rfl (by kernel_rfl) (by kernel_rfl) (by kernel_rfl) (fun _ _ _ h => h) hH rfl ?yf0 ?rf0
          case yf0 => intro W hSw; go_simp; try with_reducible rfl
          try simp only [Act.put, List.setIfInBounds_toArray, List.set_cons_zero, List.set_cons_succ]
          refine takeH 1 (v := ?vf1) rfl (by kernel_rfl) (by kernel_rfl) (by kernel_rfl) (fun _ _ _ h => h) hH rfl ?yf1 ?rf1
          case yf1 => intro W hSw; go_simp; try with_reducible rfl
          try simp only [Act.put, List.setIfInBounds_toArray, List.set_cons_zero, List.set_cons_succ]
          refine takeH 2 (v := ?vf2) rfl (by kernel_rfl) (by kernel_rfl) (by kernel_rfl) (fun _ _ _ h => h) hH rfl ?yf2 ?rf2
          case yf2 => intro W hSw; go_simp; try with_reducible rfl
          try simp only [Act.put, List.setIfInBounds_toArray, List.set_cons_zero, List.set_cons_succ]
          refine takeH 3 (v := ?vf3) rfl (by kernel_rfl) (by kernel_rfl) (by kernel_rfl) (fun _ _ _ h => h) hH rfl ?yf3 ?rf3
          case yf3 => intro W hSw; go_simp; try with_reducible rfl
          try simp only [Act.put, List.setIfInBounds_toArray, List.set_cons_zero, List.set_cons_succ]
          refine takeH 4 (v := ?vf4) rfl (by kernel_rfl) (by kernel_rfl) (by kernel_rfl) (fun _ _ _ h => h) hH rfl ?yf4 ?rf4
          case yf4 => intro W hSw; go_simp; try with_reducible rfl
          try simp only [Act.put, List.setIfInBounds_toArray, List.set_cons_zero, List.set_cons_succ]
          refine callH 5 rfl (by kernel_rfl) rfl (fun K hK => ?_)
          go_simp
          go_at_call 41
          refine (HV.out _ (Hc1.out.below hH.1) (Hi2.out.below hH.1)).mono ?_
          rintro e wx ⟨rfl, hbx⟩
          refine hK.out _ _ ⟨hH.1.trans (hbx.mono hH.1.size), (hbx.cell (p := ⟨b, off + k * 4, none⟩) (Hbs.out _ hH.1)).trans hH.2.1, (hbx.cell (p := ⟨b, off + k * 4 + 1, none⟩) (Hbs.out _ hH.1)).trans hH.2.2.1, (hbx.cell (p := ⟨b, off + k * 4 + 2, none⟩) (Hbs.out _ hH.1)).trans hH.2.2.2.1, (hbx.cell (p := ⟨b, off + k * 4 + 3, none⟩) (Hbs.out _ hH.1)).trans hH.2.2.2.2.1, (hbx.cell (p := ⟨b, off + (k - 1) * 4, none⟩) (Hbs.out _ hH.1)).trans hH.2.2.2.2.2.1, (hbx.cell (p := ⟨b, off + (k - 1) * 4 + 1, none⟩) (Hbs.out _ hH.1)).trans hH.2.2.2.2.2.2.1, (hbx.cell (p := ⟨b, off + (k - 1) * 4 + 2, none⟩) (Hbs.out _ hH.1)).trans hH.2.2.2.2.2.2.2.1, (hbx.cell (p := ⟨b, off + (k - 1) * 4 + 3, none⟩) (Hbs.out _ hH.1)).trans hH.2.2.2.2.2.2.2.2⟩ (fun hH => ?_)
          clear hK K
          try simp only [Act.put, List.setIfInBounds_toArray, List.set_cons_zero, List.set_cons_succ]
          refine takeH 6 (v := ?vf6) rfl (by kernel_rfl) (by kernel_rfl) (by kernel_rfl) (fun _ _ _ h => h) hH rfl ?yf6 ?rf6
          case yf6 => intro W hSw; go_simp; try with_reducible rfl
          try simp only [Act.put, List.setIfInBounds_toArray, List.set_cons_zero, List.set_cons_succ]
          refine takeH 7 (v := ?vf7) rfl (by kernel_rfl) (by kernel_rfl) (by kernel_rfl) (fun _ _ _ h => h) hH rfl ?yf7 ?rf7
          case yf7 => intro W hSw; go_simp; try with_reducible rfl
          try simp only [Act.put, List.setIfInBounds_toArray, List.set_cons_zero, List.set_cons_succ]
          refine takeH 8 (v := ?vf8) rfl (by kernel_rfl) (by kernel_rfl) (by kernel_rfl) (fun _ _ _ h => h) hH rfl ?yf8 ?rf8
          case yf8 => intro W hSw; go_simp; try with_reducible rfl
          try simp only [Act.put, List.setIfInBounds_toArray, List.set_cons_zero, List.set_cons_succ]
          refine takeH 9 (v := .bool true) rfl (by kernel_rfl) (by kernel_rfl) (by kernel_rfl) (fun _ _ _ h => h) hH rfl ?yf9 ?rf9
          case yf9 => intro W hSw; go_simp; first | done | simp only [hgt] | omega | (simp; omega)
          try simp only [Act.put, List.setIfInBounds_toArray, List.set_cons_zero, List.set_cons_succ]
          refine takeH 10 (v := ?vf10) rfl (by kernel_rfl) (by kernel_rfl) (by kernel_rfl) (fun _ _ _ h => h) hH rfl ?yf10 ?rf10
          case yf10 => intro W hSw; go_simp; try with_reducible rfl
          try simp only [Act.put, List.setIfInBounds_toArray, List.set_cons_zero, List.set_cons_succ]
          refine takeH 11 (v := ?vf11) rfl (by kernel_rfl) (by kernel_rfl) (by kernel_rfl) (fun _ _ _ h => h) hH rfl ?yf11 ?rf11
          case yf11 => intro W hSw; go_simp; try with_reducible rfl
          try simp only [Act.put, List.setIfInBounds_toArray, List.set_cons_zero, List.set_cons_succ]
          refine takeH 12 (v := ?vf12) rfl (by kernel_rfl) (by kernel_rfl) (by kernel_rfl) (fun _ _ _ h => h) hH rfl ?yf12 ?rf12
          case yf12 => intro W hSw; go_simp; try with_reducible rfl
          try simp only [Act.put, List.setIfInBounds_toArray, List.set_cons_zero, List.set_cons_succ]
          refine takeH 13 (v := ?vf13) rfl (by kernel_rfl) (by kernel_rfl) (by kernel_rfl) (fun _ _ _ h => h) hH rfl ?yf13 ?rf13
          case yf13 => intro W hSw; go_simp; try with_reducible rfl
          try simp only [Act.put, List.setIfInBounds_toArray, List.set_cons_zero, List.set_cons_succ]
          refine takeH 14 (v := ?vf14) rfl (by kernel_rfl) (by kernel_rfl) (by kernel_rfl) (fun _ _ _ h => h) hH rfl ?yf14 ?rf14
          case yf14 => intro W hSw; go_simp; try with_reducible rfl
          try simp only [Act.put, List.setIfInBounds_toArray, List.set_cons_zero, List.set_cons_succ]
          refine takeH 15 (v := ?vf15) rfl (by kernel_rfl) (by kernel_rfl) (by kernel_rfl) (fun _ _ _ h => h) hH rfl ?yf15 ?rf15
          case yf15 => intro W hSw; go_simp; try with_reducible rfl
          try simp only [Act.put, List.setIfInBounds_toArray, List.set_cons_zero, List.set_cons_succ]
          refine takeH 16 (v := ?vf16) rfl (by kernel_rfl) (by kernel_rfl) (by kernel_rfl) (fun _ _ _ h => h) hH rfl ?yf16 ?rf16
          case yf16 => intro W hSw; go_simp; try with_reducible rfl
          try simp only [Act.put, List.setIfInBounds_toArray, List.set_cons_zero, List.set_cons_succ]
          refine takeH 17 (v := ?vf17) rfl (by kernel_rfl) (by kernel_rfl) (by kernel_rfl) (fun _ _ _ h => h) hH rfl ?yf17 ?rf17
          case yf17 => intro W hSw; go_simp; try with_reducible rfl
          try simp only [Act.put, List.setIfInBounds_toArray, List.set_cons_zero, List.set_cons_succ]
          refine takeH 18 (v := ?vf18) rfl (by kernel_rfl) (by kernel_rfl) (by kernel_rfl) (fun _ _ _ h => h) hH rfl ?yf18 ?rf18
          case yf18 => intro W hSw; go_simp; try with_reducible rfl
          try simp only [Act.put, List.setIfInBounds_toArray, List.set_cons_zero, List.set_cons_succ]
          refine takeH 19 (v := ?vf19) rfl (by kernel_rfl) (by kernel_rfl) (by kernel_rfl) (fun _ _ _ h => h) hH rfl ?yf19 ?rf19
          case yf19 => intro W hSw; go_simp; try with_reducible rfl
          try simp only [Act.put, List.setIfInBounds_toArray, List.set_cons_zero, List.set_cons_succ]
          refine callH 20 rfl (by kernel_rfl) rfl (fun K hK => ?_)
          go_simp
          go_at_call 42
          refine (HB.out _).mono ?_
          rintro e wx ⟨rfl, hbx⟩
          refine hK.out _ _ ⟨hH.1.trans (hbx.mono hH.1.size), (hbx.cell (p := ⟨b, off + k * 4, none⟩) (Hbs.out _ hH.1)).trans hH.2.1, (hbx.cell (p := ⟨b, off + k * 4 + 1, none⟩) (Hbs.out _ hH.1)).trans hH.2.2.1, (hbx.cell (p := ⟨b, off + k * 4 + 2, none⟩) (Hbs.out _ hH.1)).trans hH.2.2.2.1, (hbx.cell (p := ⟨b, off + k * 4 + 3, none⟩) (Hbs.out _ hH.1)).trans hH.2.2.2.2.1, (hbx.cell (p := ⟨b, off + (k - 1) * 4, none⟩) (Hbs.out _ hH.1)).trans hH.2.2.2.2.2.1, (hbx.cell (p := ⟨b, off + (k - 1) * 4 + 1, none⟩) (Hbs.out _ hH.1)).trans hH.2.2.2.2.2.2.1, (hbx.cell (p := ⟨b, off + (k - 1) * 4 + 2, none⟩) (Hbs.out _ hH.1)).trans hH.2.2.2.2.2.2.2.1, (hbx.cell (p := ⟨b, off + (k - 1) * 4 + 3, none⟩) (Hbs.out _ hH.1)).trans hH.2.2.2.2.2.2.2.2⟩ (fun hH => ?_)
          clear hK K
          try simp only [Act.put, List.setIfInBounds_toArray, List.set_cons_zero, List.set_cons_succ]
          refine takeH 21 (v := ?vf21) rfl (by kernel_rfl) (by kernel_rfl) (by kernel_rfl) (fun _ _ _ h => h) hH rfl ?yf21 ?rf21
          case yf21 => intro W hSw; go_simp; try with_reducible rfl
          try simp only [Act.put, List.setIfInBounds_toArray, List.set_cons_zero, List.set_cons_succ]
          refine takeH 22 (v := ?vf22) rfl (by kernel_rfl) (by kernel_rfl) (by kernel_rfl) (fun _ _ _ h => h) hH rfl ?yf22 ?rf22
          case yf22 => intro W hSw; go_simp; try with_reducible rfl
          try simp only [Act.put, List.setIfInBounds_toArray, List.set_cons_zero, List.set_cons_succ]
          refine takeH 23 (v := ?vf23) rfl (by kernel_rfl) (by kernel_rfl) (by kernel_rfl) (fun _ _ _ h => h) hH rfl ?yf23 ?rf23
          case yf23 => intro W hSw; go_simp; try with_reducible rfl
          try simp only [Act.put, List.setIfInBounds_toArray, List.set_cons_zero, List.set_cons_succ]
          refine takeH 24 (v := ?vf24) rfl (by kernel_rfl) (by kernel_rfl) (by kernel_rfl) (fun _ _ _ h => h) hH rfl ?yf24 ?rf24
          case yf24 => intro W hSw; go_simp; try with_reducible rfl
          try simp only [Act.put, List.setIfInBounds_toArray, List.set_cons_zero, List.set_cons_succ]
          refine takeH 25 (v := ?vf25) rfl (by kernel_rfl) (by kernel_rfl) (by kernel_rfl) (fun _ _ _ h => h) hH rfl ?yf25 ?rf25
          case yf25 => intro W hSw; go_simp; try with_reducible rfl
          try simp only [Act.put, List.setIfInBounds_toArray, List.set_cons_zero, List.set_cons_succ]
          refine takeH 26 (v := ?vf26) rfl (by kernel_rfl) (by kernel_rfl) (by kernel_rfl) (fun _ _ _ h => h) hH rfl ?yf26 ?rf26
          case yf26 => intro W hSw; go_simp; try with_reducible rfl
          try simp only [Act.put, List.setIfInBounds_toArray, List.set_cons_zero, List.set_cons_succ]
          refine takeH 27 (v := ?vf27) rfl (by kernel_rfl) (by kernel_rfl) (by kernel_rfl) (fun _ _ _ h => h) hH rfl ?yf27 ?rf27
          case yf27 => intro W hSw; go_simp; try with_reducible rfl
          try simp only [Act.put, List.setIfInBounds_toArray, List.set_cons_zero, List.set_cons_succ]
          refine takeH 28 (v := ?vf28) rfl (by kernel_rfl) (by kernel_rfl) (by kernel_rfl) (fun _ _ _ h => h) hH rfl ?yf28 ?rf28
          case yf28 => intro W hSw; go_simp; try with_reducible rfl
          try simp only [Act.put, List.setIfInBounds_toArray, List.set_cons_zero, List.set_cons_succ]
          refine takeH 29 (v := ?vf29) rfl (by kernel_rfl) (by kernel_rfl) (by kernel_rfl) (fun _ _ _ h => h) hH rfl ?yf29 ?rf29
          case yf29 => intro W hSw; go_simp; try with_reducible rfl
          try simp only [Act.put, List.setIfInBounds_toArray, List.set_cons_zero, List.set_cons_succ]
          refine callH 30 rfl (by kernel_rfl) rfl (fun K hK => ?_)
          go_simp
          go_at_call 43
          refine (HQ.out _ hrd.1 (by omega) (Hg1.out.under hH.1) (Hi2.out.below hH.1)).mono ?_
          rintro e wx ⟨rfl, hbx⟩
          refine hK.out _ _ ⟨hH.1.trans (hbx.mono hH.1.size), (hbx.cell (p := ⟨b, off + k * 4, none⟩) (Hbs.out _ hH.1)).trans hH.2.1, (hbx.cell (p := ⟨b, off + k * 4 + 1, none⟩) (Hbs.out _ hH.1)).trans hH.2.2.1, (hbx.cell (p := ⟨b, off + k * 4 + 2, none⟩) (Hbs.out _ hH.1)).trans hH.2.2.2.1, (hbx.cell (p := ⟨b, off + k * 4 + 3, none⟩) (Hbs.out _ hH.1)).trans hH.2.2.2.2.1, (hbx.cell (p := ⟨b, off + (k - 1) * 4, none⟩) (Hbs.out _ hH.1)).trans hH.2.2.2.2.2.1, (hbx.cell (p := ⟨b, off + (k - 1) * 4 + 1, none⟩) (Hbs.out _ hH.1)).trans hH.2.2.2.2.2.2.1, (hbx.cell (p := ⟨b, off + (k - 1) * 4 + 2, none⟩) (Hbs.out _ hH.1)).trans hH.2.2.2.2.2.2.2.1, (hbx.cell (p := ⟨b, off + (k - 1) * 4 + 3, none⟩) (Hbs.out _ hH.1)).trans hH.2.2.2.2.2.2.2.2⟩ (fun hH => ?_)
          clear hK K
          try simp only [Act.put, List.setIfInBounds_toArray, List.set_cons_zero, List.set_cons_succ]
          refine takeH 31 (v := ?vf31) rfl (by kernel_rfl) (by kernel_rfl) (by kernel_rfl) (fun _ _ _ h => h) hH rfl ?yf31 ?rf31
          case yf31 => intro W hSw; go_simp; try with_reducible rfl
          try simp only [Act.put, List.setIfInBounds_toArray, List.set_cons_zero, List.set_cons_succ]
          refine takeH 32 (v := ?vf32) rfl (by kernel_rfl) (by kernel_rfl) (by kernel_rfl) (fun _ _ _ h => h) hH rfl ?yf32 ?rf32
          case yf32 => intro W hSw; go_simp; try with_reducible rfl
          try simp only [Act.put, List.setIfInBounds_toArray, List.set_cons_zero, List.set_cons_succ]
          refine wpAnyH_done (by kernel_rfl) ?_ _
          try simp only [Act.put]
          go_wp2
          go_roundw
          case rel => exact ⟨k + 1, by omega, by go_num, upto_step Hup.out (by rw [Hok.out, h2, h3]; rfl), below_step Hbel.out Hbel.out.size hH.1⟩
          case measure => simp [intOf]; omega
    · have hz := allB_yes hup (n := g.length) (by omega)
      have Hbel := Lib.hid hbel; clear hbel
      go_wp2
      go_ret
      exact ⟨ret_bool (by rw [Hres.out, hz]), Hbel.out⟩

end Go.Proofs.YtjaacdapibokiabDoor

/- Appending one number as an operation of a region, and where the new slice lies; nothing here speaks of the program. -/
namespace Go.Proofs.YtjaacdapibokiabDoor
open Go.RowKit

/-- 'append(s, z)' as an operation of a region, and where the new slice lies. -/
theorem op_push_at {P : Program} {T E : TypeId} (hT : IntT P T E) (w : World) {o : Oper} {a : Act} {K : Act → World → Prop} {Q : Exit → Act → World → Prop} (s x : Operand)
    (ho : o.op = .call { callee := .builtin .append, args := #[s, x], argTypes := #[T, T] }) (B : Nat) (v : Value) (xs : List Int) (z : Int) (hs : a.eval s = v) (hown : Own E w B v xs)
    (hlen : xs.length ≤ 1099511627776) (hx : a.eval x = .slice (some ⟨w.heap.size, 0, none⟩) 1 1) (hB : B ≤ w.heap.size)
    (h : ∀ v' w', Own E w' B v' (xs ++ [z]) → w.grownBy w' v.ownBlock → (v'.ownBlock = v.ownBlock ∨ ∃ g, v'.ownBlock = some g ∧ w.heap.size ≤ g) → K (a.put o.dst v') w') : Oper.wp P o a (w.alloc (.cells #[.int .i64 z] E)) K Q := by
  obtain ⟨i, hi, hz, hsz, hby⟩ := info_parts hT.info
  obtain ⟨v', w', hr, h1, h2, _, h4⟩ := run_append_own_at (P := P) (w.alloc (.cells #[.int .i64 z] E)) B T o.type E i (.int .i64 0) 1 8 hT.sl hi hz hsz hby rfl (by decide) v xs.length _ (World.ownsRow.alloc hown _) ⟨w.heap.size, 0, none⟩ 1 1 [.int .i64 z] rfl (cells_one _ _ _) (by intro u hu; simp at hu; subst hu; rfl) (by unfold maxLen; omega) (by omega) (by simp; omega)
  unfold Oper.wp execOp
  simp only [ho, resolve, invoke, builtin, Sem.run_bind, Sem.run_pure, Result.andThen_ok, List.map_toArray, List.map_cons, List.map_nil, hs, hx, hr]
  refine h v' w' ?_ (grownBy_trans (World.grownBy_alloc _ _ _) h2) ?_
  · unfold Own; simpa using h1
  · rcases h4 with h4 | h4
    · exact .inl h4
    · exact .inr ⟨_, h4, by simp⟩

end Go.Proofs.YtjaacdapibokiabDoor

/- The reference's copies of vertices and graphs, their sameness, the authors of a round, each by a walk of its text; conditions: lists are shorter than 2^40 (a graph that is copied: 2^20). -/
namespace Go.Proofs.YtjaacdapibokiabDoor
open Go.RowKit

theorem TIg : IntT Tryd.prog 22 3 := ⟨Tryd.underlying22, by kernel_rfl⟩

theorem SrcAt.under {w w' : World} {a : Option Addr} {c : Nat} {xs : List Int} (h : SrcAt w a c xs) (hi : IntsAt w a xs) (hb : Below w.heap.size w w') : SrcAt w' a c xs := by
  rcases h with h | ⟨ad, rfl, hc⟩
  · exact .inl h
  · refine .inr ⟨ad, rfl, fun j hj => ?_⟩
    obtain ⟨b, off, e, hbb, _⟩ := hi.cell (by omega)
    cases e
    have := hc j hj
    rw [addr_add'] at this ⊢
    exact (hb.cell (p := ⟨b, off + j, none⟩) hbb).trans this

def authP (r : Int) (x : Vx) : Bool := decide (x.r = r)
/-- The authors of a round. -/
def authZ (g : List Vx) (r : Int) : List Int := (g.filter (authP r)).map (·.a)
theorem authZ_len (g : List Vx) (r : Int) : (authZ g r).length ≤ g.length := by unfold authZ; rw [List.length_map]; exact List.length_filter_le _ _
theorem authZ_yes {g : List Vx} {r : Int} {k : Nat} (hk : k < g.length) (h : g[k].r = r) : authZ (g.take (k + 1)) r = authZ (g.take k) r ++ [g[k].a] := by
  unfold authZ; rw [List.take_succ_eq_append_getElem hk, List.filter_append, List.map_append]; simp [authP, h]
theorem authZ_no {g : List Vx} {r : Int} {k : Nat} (hk : k < g.length) (h : ¬ g[k].r = r) : authZ (g.take (k + 1)) r = authZ (g.take k) r := by
  unfold authZ; rw [List.take_succ_eq_append_getElem hk, List.filter_append, List.map_append]; simp [authP, h]
def gfZ (c : List Int) (g : List Vx) (r a : Int) : Int := if graphB c g = true then findZ g r a else -1
def gaZ (c : List Int) (g : List Vx) (r : Int) : List Int := if graphB c g = true then authZ g r else []

end Go.Proofs.YtjaacdapibokiabDoor

/- An owned list as the source of an append; a general step, nothing here speaks of the program. -/
namespace Go.Proofs.YtjaacdapibokiabDoor
open Go.RowKit

theorem own_src {E : TypeId} {w : World} {B n c : Nat} {a : Option Addr} {xs : List Int} (h : Own E w B (.slice a n c) xs) : SrcAt w a c xs := by
  obtain ⟨a', c', e, _, hs, _⟩ := h.src
  cases e
  exact hs

end Go.Proofs.YtjaacdapibokiabDoor

/- Rows of vertices as rows of fields; no conditions. -/
namespace Go.Proofs.YtjaacdapibokiabDoor
open Go.RowKit

theorem rows_vx : ∀ {es : List (List Fd)}, (∀ e ∈ es, vertexP e) → ∃ g : List Vx, es = g.map Vx.fd
  | [], _ => ⟨[], rfl⟩
  | e :: es, h => by
    obtain ⟨r, a, ps, d, rfl⟩ := h e (by simp)
    obtain ⟨g, rfl⟩ := rows_vx fun e he => h e (List.mem_cons_of_mem _ he)
    exact ⟨⟨r, a, ps, d⟩ :: g, rfl⟩
theorem vx_lens {g : List Vx} {m : Nat} (h : ∀ e ∈ g.map Vx.fd, lnE e ≤ m) : ∀ x ∈ g, x.ps.length ≤ m := fun x hx =>
  ln_in (h _ (List.mem_map_of_mem hx)) (by simp [Vx.fd])
theorem gaZ_len (c : List Int) (g : List Vx) (r : Int) : (gaZ c g r).length ≤ g.length := by
  unfold gaZ
  split
  · exact authZ_len g r
  · simp

end Go.Proofs.YtjaacdapibokiabDoor

/- The reference's tests of leaders and its leader vertex, by walks of its texts; conditions: lists are shorter than 2^40. -/
namespace Go.Proofs.YtjaacdapibokiabDoor
open Go.RowKit

theorem sameBelow {P : Program} {f : FuncId} {args : Array Value} {w : World} {v : Value} (h : Calls P f args w fun e w' => e = .returned v ∧ w = w') : Calls P f args w fun e w' => e = .returned v ∧ Below w.heap.size w w' :=
  h.mono (by rintro e w' ⟨rfl, rfl⟩; exact ⟨rfl, Below.refl _ _⟩)
/-- Whether the leader of wave i + 1 is a member. -/
def okLd (n : Nat) (ls : List Int) (i : Nat) : Bool := decide (0 ≤ ls.getD i 0 ∧ ls.getD i 0 ≤ (n : Int) - 1)
def ldsB (n : Nat) (ls : List Int) : Bool := allB (okLd n ls) ls.length && decide (ls.length ≤ 15)
def lvB (c ls : List Int) : Bool := validB c && ldsB c.length ls
def waB (c : List Int) (g : List Vx) (ls : List Int) : Bool := graphB c g && ldsB c.length ls
theorem ldAt {n : Nat} {ls : List Int} (h : ldsB n ls = true) : ls.length ≤ 15 ∧ ∀ j (hj : j < ls.length), 0 ≤ ls[j] ∧ ls[j] < n := by
  unfold ldsB at h
  simp only [Bool.and_eq_true, decide_eq_true_eq] at h
  refine ⟨h.2, fun j hj => ?_⟩
  have := allB_upto h.1 j hj
  unfold okLd at this
  rw [getD_get hj, decide_eq_true_eq] at this
  omega

set_option maxHeartbeats 1000000 in
theorem spec_l21Leaders (ac : Option Addr) (capc : Nat) (n : Nat) (al : Option Addr) (cap : Nat) (ls : List Int) (w : World) (_hn : n ≤ 1099511627776) (hbig : ls.length ≤ 1099511627776) (hc : IntsAt w al ls) :
    Calls Tryd.prog 29 #[.slice ac n capc, .slice al ls.length cap] w fun e w' => e = .returned (.bool (ldsB n ls)) ∧ w = w' := by
  have Hc := Lib.hid hc; clear hc
  go_enter Tryd.func29, Tryd.ntmps29
  go_wp2
  go_loopw [5] (fun i wr => ∃ k : Nat, k ≤ ls.length ∧ i = .int .i64 k ∧ Hid (Upto (okLd n ls) k) ∧ w = wr) (fun i _ => ls.length - (intOf i).toNat)
  case atStart => exact ⟨0, by omega, rfl, Lib.hid (upto_zero _), rfl⟩
  case round =>
    obtain ⟨k, hk, rfl, hup, rfl⟩ := hrel
    by_cases hlt : k < ls.length
    · obtain ⟨b, off, rfl, hb, hat⟩ := Hc.out.cell (by omega)
      have hcell := hat k hlt
      have hgd := getD_get hlt
      have hok : okLd n ls k = decide (0 ≤ ls[k] ∧ ls[k] ≤ (n : Int) - 1) := by unfold okLd; rw [hgd]
      have Hok := Lib.hid hok
      clear hat hgd hok
      generalize ls[k] = x at *
      have HI := Lib.hid (fun W => spec_l6In x 0 ((n : Int) - 1) W)
      go_wp2_with fail
      refine (HI.out _).mono ?_
      rintro e w1 ⟨rfl, rfl⟩
      cases h1 : decide (0 ≤ x ∧ x ≤ (n : Int) - 1) with
      | false =>
        have hres := Lib.hid (show ldsB n ls = false by unfold ldsB; rw [allB_no hlt (Hok.out.trans h1)]; rfl)
        clear h1
        go_wp2
        go_ret
        exact ⟨by rw [hres.out]; rfl, rfl⟩
      | true =>
        have Hs := Lib.hid (upto_step hup.out (Hok.out.trans h1))
        clear h1
        go_wp2
        go_roundw
        case rel => exact ⟨k + 1, by omega, by go_num, Lib.hid Hs.out, trivial⟩
        case measure => simp [intOf]; omega
    · have hres := Lib.hid (show ldsB n ls = decide (ls.length ≤ 15) by unfold ldsB; rw [allB_yes hup.out (by omega)]; rfl)
      go_wp2
      go_ret
      exact ⟨ret_bool (by rw [hres.out, Bool.eq_iff_iff, decide_eq_true_iff, decide_eq_true_iff]; omega), rfl⟩

theorem spec_l21Ok (ac : Option Addr) (capc : Nat) (c : List Int) (g : List Vx) (v : Value) (fp : List Nat) (al : Option Addr) (cap : Nat) (ls : List Int) (w : World) (hn : c.length ≤ 1099511627776) (hbig : g.length ≤ 1099511627776) (hps : ∀ x ∈ g, x.ps.length ≤ 1099511627776) (hl : ls.length ≤ 1099511627776) (hc : IntsAt w ac c) (hg : Gr w g v fp) (hi : IntsAt w al ls) :
    Calls Tryd.prog 19 #[.slice ac c.length capc, v, .slice al ls.length cap] w fun e w' => e = .returned (.bool (waB c g ls)) ∧ Below w.heap.size w w' := by
  have HV := Lib.hid (spec_GraphValid ac capc c g v fp w hn hbig hps hc hg)
  have HL := Lib.hid (fun W h => spec_l21Leaders ac capc c.length al cap ls W hn hl h)
  have Hi := Lib.hid hi
  have Hres := Lib.hid (show waB c g ls = (graphB c g && ldsB c.length ls) from rfl)
  clear hc hg hi hps
  go_enter Tryd.func19, Tryd.ntmps19
  go_wp2_with fail
  refine HV.out.mono ?_
  rintro e w1 ⟨rfl, hb1⟩
  have Hb1 := Lib.hid hb1
  have Hi1 := Lib.hid (Hi.out.below hb1)
  clear hb1
  cases h1 : graphB c g with
  | false =>
    go_wp2
    go_ret
    exact ⟨ret_bool (by rw [Hres.out, h1]; rfl), Hb1.out⟩
  | true =>
  go_wp2_with fail
  refine (HL.out _ Hi1.out).mono ?_
  rintro e w2 ⟨rfl, rfl⟩
  go_wp2
  go_ret
  exact ⟨ret_bool (by rw [Hres.out, h1]; rfl), Hb1.out⟩

/-- The leader vertex of a wave, as an index. -/
def ldZ (g : List Vx) (ls : List Int) (wv : Nat) : Int := findZ g (2 * (wv : Int) - 1) (ls.getD (wv - 1) 0)

theorem spec_l21Leader (g : List Vx) (v : Value) (fp : List Nat) (al : Option Addr) (cap : Nat) (ls : List Int) (wv : Nat) (w : World) (hbig : g.length ≤ 1099511627776) (hw : 1 ≤ wv ∧ wv ≤ ls.length) (hl : ls.length ≤ 15) (hg : Gr w g v fp) (hi : IntsAt w al ls) :
    Calls Tryd.prog 36 #[v, .slice al ls.length cap, .int .i64 wv] w fun e w' => e = .returned (.int .i64 (ldZ g ls wv)) ∧ w = w' := by
  obtain ⟨hw1, hw2⟩ := hw
  obtain ⟨va, vc, rfl⟩ := hg.slice
  obtain ⟨b, off, rfl, hb, hat⟩ := hi.cell (by omega)
  have hcell := hat (wv - 1) (by omega)
  have hgd : ls.getD (wv - 1) 0 = ls[wv - 1] := getD_get (by omega)
  have HF := Lib.hid (spec_l11Find g _ fp (2 * (wv : Int) - 1) (ls[wv - 1]) w hbig hg)
  have Hz := Lib.hid (show ldZ g ls wv = findZ g (2 * (wv : Int) - 1) ls[wv - 1] by unfold ldZ; rw [hgd])
  clear hat hgd hg hi
  generalize ls[wv - 1] = x at *
  have e1 : IntKind.i64.wrap ((wv : Int) - 1) = wv - 1 := IntWalk.i64_in _ (by omega)
  have e2 : ((wv : Int) - 1).toNat = wv - 1 := by omega
  have e3 : 0 ≤ (wv : Int) - 1 := by omega
  have e4 : (wv : Int) - 1 < ls.length := by omega
  have e5 : 1 ≤ (wv : Int) := by omega
  have e6 : (wv : Int) ≤ 15 := by omega
  go_enter Tryd.func36, Tryd.ntmps36
  go_wp2_with fail
  refine HF.out.mono ?_
  rintro e w1 ⟨rfl, rfl⟩
  go_wp2
  go_ret
  exact ⟨by rw [Hz.out]; rfl, rfl⟩

end Go.Proofs.YtjaacdapibokiabDoor

/- The reference's WaveLeader, by a walk of its text; conditions: lists are shorter than 2^40. -/
namespace Go.Proofs.YtjaacdapibokiabDoor
open Go.RowKit

def wlB (c : List Int) (g : List Vx) (ls : List Int) (wave : Int) : Bool := waB c g ls && decide (1 ≤ wave ∧ wave ≤ ls.length)
def wlZ (c : List Int) (g : List Vx) (ls : List Int) (wave : Int) : Int := if wlB c g ls wave then ldZ g ls wave.toNat else -1

end Go.Proofs.YtjaacdapibokiabDoor

/- The reference's l1Has, by a walk of its text; condition: the list is shorter than 2^40. -/
namespace Go.Proofs.YtjaacdapibokiabDoor
open Go.RowKit

theorem spec_has (a : Option Addr) (cap : Nat) (l : List Int) (n : Int) (w : World) (hbig : l.length ≤ 1099511627776) (hc : IntsAt w a l) :
    Calls Tryd.prog 69 #[.slice a l.length cap, .int .i64 n] w fun e w' => e = .returned (.bool (hasB l n)) ∧ w = w' := by
  rcases hc.len with h0 | ⟨b, off, rfl, hb, hc⟩
  all_goals
    go_enter Tryd.func69, Tryd.ntmps69
    go_wp2
    go_loop [5] (fun i => ∃ k : Nat, k ≤ l.length ∧ i = .int .i64 k ∧ Pre (fun x => x != n) l k) (fun i => l.length - (intOf i).toNat)
    case atStart => exact ⟨0, by omega, rfl, pre_zero _ _⟩
    case round =>
      obtain ⟨k, hk, rfl, hg⟩ := hrel
      by_cases hlt : k < l.length
      · first
        | (exfalso; omega)
        | (have hcell := hc k hlt
           have Hc := Lib.hid hc; clear hc
           by_cases e : l[k] = n
           · have e1 : (l[k] == n) = true := by rw [beq_iff_eq]; exact e
             have hf := hasB_yes hlt
             rw [e] at hf
             have Hf := Lib.hid hf; clear hf e
             go_wp2
             go_ret
             exact ⟨ret_bool Hf.out.symm, rfl⟩
           · have e1 : (l[k] == n) = false := by rw [beq_eq_false_iff_ne]; exact e
             have Hs := Lib.hid (pre_step hg hlt (by simpa using e)); clear hg e
             go_wp2
             go_round
             case rel => exact ⟨k + 1, by omega, by go_num, Hs.out⟩
             case measure => simp [intOf]; omega)
      · have Hf := Lib.hid (hasB_no hg (by omega)); clear hg
        go_wp2
        go_ret
        exact ⟨ret_bool Hf.out.symm, rfl⟩

end Go.Proofs.YtjaacdapibokiabDoor

/- The reference's votes for a leader vertex, by walks of its texts; conditions: lists are shorter than 2^40. -/
namespace Go.Proofs.YtjaacdapibokiabDoor
open Go.RowKit

theorem graph_vtx' {c : List Int} {g : List Vx} (h : graphB c g = true) : ∀ x ∈ g, vtxB c x = true := by
  intro x hx
  obtain ⟨k, hk, rfl⟩ := List.mem_iff_getElem.1 hx
  unfold graphB at h
  simp only [Bool.and_eq_true] at h
  have := allB_upto h.2 k hk
  unfold okV at this
  rw [getV hk] at this
  simp only [Bool.and_eq_true] at this
  exact this.1

theorem vtx_author' {c : List Int} {x : Vx} (h : vtxB c x = true) : 0 ≤ x.a ∧ x.a < c.length := by
  unfold vtxB autB at h; simp only [Bool.and_eq_true, decide_eq_true_eq] at h; omega
/-- What one vertex adds to the votes for the vertex of L, in round r. -/
def votC (c : List Int) (L r : Int) (x : Vx) : Int := if x.r = r ∧ hasB x.ps L = true then c.getD x.a.toNat 0 else 0
def votTo (c : List Int) (L r : Int) (g : List Vx) (k : Nat) : Int := ((g.take k).map (votC c L r)).sum
def voZ (c : List Int) (g : List Vx) (ls : List Int) (wv : Nat) : Int := if 0 ≤ ldZ g ls wv then votTo c (ls.getD (wv - 1) 0) (2 * (wv : Int)) g g.length else 0
theorem votTo_succ {c : List Int} {L r : Int} {g : List Vx} {k : Nat} (h : k < g.length) : votTo c L r g (k + 1) = votTo c L r g k + votC c L r g[k] := by
  unfold votTo
  rw [List.take_succ_eq_append_getElem h, List.map_append, List.sum_append]
  simp
theorem votC_bd {c : List Int} {L r : Int} {x : Vx} (hv : validB c = true) : 0 ≤ votC c L r x ∧ votC c L r x ≤ 9 := by
  unfold votC
  split
  · by_cases h : x.a.toNat < c.length
    · rw [getD_get h]
      have := validB_good hv _ h
      omega
    · have : c.getD x.a.toNat 0 = 0 := by simp [List.getD, List.getElem?_eq_none (by omega : c.length ≤ x.a.toNat)]
      omega
  · omega
theorem votTo_bd {c : List Int} {L r : Int} {g : List Vx} (hv : validB c = true) : ∀ k, k ≤ g.length → 0 ≤ votTo c L r g k ∧ votTo c L r g k ≤ 9 * k
  | 0, _ => by simp [votTo]
  | k + 1, h => by
    have ih := votTo_bd (g := g) (L := L) (r := r) hv k (by omega)
    have := votC_bd (L := L) (r := r) (x := g[k]) hv
    rw [votTo_succ (by omega)]
    omega

set_option maxHeartbeats 4000000 in
set_option maxRecDepth 8000 in
theorem spec_l21Votes (ac : Option Addr) (capc : Nat) (c : List Int) (g : List Vx) (v : Value) (fp : List Nat) (al : Option Addr) (cap : Nat) (ls : List Int) (wv : Nat) (w : World) (hgb : graphB c g = true) (hbig : g.length ≤ 1099511627776) (hps : ∀ x ∈ g, x.ps.length ≤ 1099511627776) (hw : 1 ≤ wv ∧ wv ≤ ls.length) (hl : ls.length ≤ 15) (hc : IntsAt w ac c) (hg : Gr w g v fp) (hi : IntsAt w al ls) :
    Calls Tryd.prog 52 #[.slice ac c.length capc, v, .slice al ls.length cap, .int .i64 wv] w fun e w' => e = .returned (.int .i64 (voZ c g ls wv)) ∧ Drawn w w' := by
  obtain ⟨va, vc, rfl⟩ := hg.slice
  obtain ⟨hw1, hw2⟩ := hw
  have hv : validB c = true := by unfold graphB at hgb; simp only [Bool.and_eq_true] at hgb; exact hgb.1
  have HX := Lib.hid (graph_vtx' hgb)
  have HP := Lib.hid hps
  have Hc := Lib.hid hc; have Hg := Lib.hid hg; have Hi := Lib.hid hi
  have HB := Lib.hid (fun k hk => votTo_bd (c := c) (L := ls.getD (wv - 1) 0) (r := 2 * (wv : Int)) (g := g) hv k hk)
  have HL := Lib.hid (fun (W : World) (hd : Drawn w W) => spec_l21Leader g _ fp al cap ls wv W hbig ⟨hw1, hw2⟩ hl (hg.under (hd.below _)) (hi.below (hd.below _)))
  have Hz := Lib.hid (show voZ c g ls wv = if 0 ≤ ldZ g ls wv then votTo c (ls.getD (wv - 1) 0) (2 * (wv : Int)) g g.length else 0 from rfl)
  have hcl := validB_len hv
  have HcG := Lib.hid (validB_good hv)
  have Hgd := Lib.hid (show ls.getD (wv - 1) 0 = ls[wv - 1] from getD_get (by omega))
  clear hc hg hi hps hgb hv
  generalize ldZ g ls wv = z at *
  generalize hLL : ls.getD (wv - 1) 0 = L at *
  go_enter Tryd.func52, Tryd.ntmps52
  go_wp2
  go_loopw [9, 10] (fun n i wr => ∃ k : Nat, k ≤ g.length ∧ i = .int .i64 k ∧ n = .int .i64 (votTo c L (2 * (wv : Int)) g k) ∧ (0 < k → 0 ≤ z) ∧ Drawn w wr) (fun _ i _ => g.length - (intOf i).toNat)
  case atStart => exact ⟨0, by omega, rfl, rfl, fun h => by omega, Drawn.refl _⟩
  case round =>
    obtain ⟨k, hk, rfl, rfl, hkz, hd⟩ := hrel
    have hbd := HB.out k hk
    by_cases hlt : k < g.length
    · have Hd := Lib.hid hd
      clear hd
      go_wp2_with fail
      refine (HL.out _ Hd.out).mono ?_
      rintro e w1 ⟨rfl, rfl⟩
      by_cases hz : 0 ≤ z
      · have hz' : decide (0 ≤ z) = true := decide_eq_true hz
        obtain ⟨b, off, rfl, hb, hat⟩ := Hg.out.at (by omega)
        obtain ⟨c0, c1, ⟨pa, pc, c2, hia, _⟩, _⟩ := hat k hlt
        have hvx := HX.out _ (List.getElem_mem hlt)
        have hpl := HP.out _ (List.getElem_mem hlt)
        have hau := vtx_author' hvx
        have hsu := votTo_succ (c := c) (L := L) (r := 2 * (wv : Int)) hlt
        have hs0 : votC c L (2 * (wv : Int)) g[k] = if g[k].r = 2 * (wv : Int) ∧ hasB g[k].ps L = true then c.getD g[k].a.toNat 0 else 0 := rfl
        have d0 := (Hd.out.cell _).trans c0
        have d1 := (Hd.out.cell _).trans c1
        have d2 := (Hd.out.cell _).trans c2
        have Hia := Lib.hid (hia.below (Hd.out.below _))
        have Hsu := Lib.hid hsu; have Hs0 := Lib.hid hs0
        clear hat c0 c1 c2 hia hsu hs0 hvx
        generalize g[k] = x at *
        obtain ⟨xr, xa, xp, xd⟩ := x
        dsimp only at *
        have HH := Lib.hid (fun W (h : IntsAt W pa xp) => spec_has pa pc xp L W hpl h)
        obtain ⟨bl, ol, rfl, hbl, hal⟩ := Hi.out.cell (by omega)
        have hlc := (Hd.out.cell _).trans (hal (wv - 1) (by omega))
        rw [← Hgd.out] at hlc
        have e1 : IntKind.i64.wrap ((wv : Int) - 1) = wv - 1 := IntWalk.i64_in _ (by omega)
        have e2 : ((wv : Int) - 1).toNat = wv - 1 := by omega
        have e3 : 0 ≤ (wv : Int) - 1 := by omega
        have e4 : (wv : Int) - 1 < ls.length := by omega
        have e5 : 1 ≤ (wv : Int) := by omega
        have e6 : (wv : Int) ≤ 15 := by omega
        obtain ⟨A, rfl⟩ : ∃ A : Nat, xa = A := ⟨xa.toNat, by omega⟩
        obtain ⟨bc, oc, rfl, hbc, hac⟩ := Hc.out.cell (by omega)
        have hcc := (Hd.out.cell _).trans (hac A (by omega))
        have hcg : c.getD A 0 = c[A]'(by omega) := getD_get (by omega)
        rw [← hcg] at hcc
        have hcb : 0 ≤ c.getD A 0 ∧ c.getD A 0 ≤ 9 := by rw [hcg]; have := HcG.out A (by omega); omega
        have hA : (A : Int) < c.length := hau.2
        rw [Int.toNat_natCast] at Hs0
        clear hal hac hcg hau hpl
        generalize c.getD A 0 = cA at *
        generalize votTo c L (2 * (wv : Int)) g k = N at *
        generalize votC c L (2 * (wv : Int)) _ = V at *
        by_cases h1 : xr = 2 * (wv : Int)
        · have h1' : (xr == 2 * (wv : Int)) = true := by rw [beq_iff_eq]; exact h1
          have H1 := Lib.hid h1; clear h1
          cases hh : hasB xp L with
          | true =>
            have Hs := Lib.hid (show votTo c L (2 * (wv : Int)) g (k + 1) = N + cA by rw [Hsu.out, Hs0.out, if_pos ⟨H1.out, hh⟩])
            rw [hh] at HH
            clear hh Hsu Hs0
            go_wp2_with fail
            go_quiet ((go_at_call 69; exact Calls.quiet_of_same (turned (HH.out _ Hia.out))))
            go_wp2
            go_roundw
            case rel => exact ⟨k + 1, by omega, by go_num, by rw [Hs.out], fun _ => hz, Hd.out.drewN _⟩
            case measure => simp [intOf]; omega
          | false =>
            have Hs := Lib.hid (show votTo c L (2 * (wv : Int)) g (k + 1) = N by rw [Hsu.out, Hs0.out, if_neg (fun h => by rw [hh] at h; cases h.2)]; omega)
            rw [hh] at HH
            clear hh Hsu Hs0
            go_wp2_with fail
            go_quiet ((go_at_call 69; exact Calls.quiet_of_same (turned (HH.out _ Hia.out))))
            go_wp2
            go_roundw
            case rel => exact ⟨k + 1, by omega, by go_num, by rw [Hs.out], fun _ => hz, Hd.out.drewN _⟩
            case measure => simp [intOf]; omega
        · have h1' : (xr == 2 * (wv : Int)) = false := by rw [beq_eq_false_iff_ne]; exact h1
          have Hs := Lib.hid (show votTo c L (2 * (wv : Int)) g (k + 1) = N by rw [Hsu.out, Hs0.out, if_neg (fun h => h1 h.1)]; omega)
          clear h1 Hsu Hs0
          go_wp2_with fail
          go_quiet (fail)
          go_wp2
          go_roundw
          case rel => exact ⟨k + 1, by omega, by go_num, by rw [Hs.out], fun _ => hz, Hd.out.drewN _⟩
          case measure => simp [intOf]; omega
      · have hk0 : k = 0 := by omega
        subst hk0
        have hres := Lib.hid (show voZ c g ls wv = 0 by rw [Hz.out, if_neg hz])
        have h0 : votTo c L (2 * (wv : Int)) g 0 = 0 := by simp [votTo]
        have H0 := Lib.hid h0; clear h0
        generalize votTo c L (2 * (wv : Int)) g 0 = N at *
        go_wp2
        go_ret
        exact ⟨by rw [hres.out, H0.out]; rfl, Hd.out⟩
    · have hkl : k = g.length := by omega
      have hres := Lib.hid (show voZ c g ls wv = votTo c L (2 * (wv : Int)) g k by
        rw [Hz.out]
        split
        · rw [hkl]
        · have h0 : k = 0 := by omega
          rw [h0]; simp [votTo])
      clear hkl
      generalize votTo c L (2 * (wv : Int)) g k = N at *
      have Hd := Lib.hid hd
      clear hd
      go_wp2
      go_ret
      exact ⟨by rw [hres.out]; rfl, Hd.out⟩

end Go.Proofs.YtjaacdapibokiabDoor

/- The reference's WaveVotes and WaveDirect, by walks of their texts; conditions: lists are shorter than 2^40. -/
namespace Go.Proofs.YtjaacdapibokiabDoor
open Go.RowKit

def wvZ (c : List Int) (g : List Vx) (ls : List Int) (wave : Int) : Int := if wlB c g ls wave then voZ c g ls wave.toNat else -1
def wdB (c : List Int) (g : List Vx) (ls : List Int) (wave : Int) : Bool := wlB c g ls wave && decide (totalZ c / 3 + 1 ≤ voZ c g ls wave.toNat)
theorem voZ_pos {c : List Int} {g : List Vx} {ls : List Int} {k : Nat} (hv : validB c = true) : 0 ≤ voZ c g ls k := by
  unfold voZ
  split
  · exact (votTo_bd hv _ (Nat.le_refl _)).1
  · omega

end Go.Proofs.YtjaacdapibokiabDoor

/- Parts of a list that reads as data: its head and its tail; general steps, nothing here speaks of the program. -/
namespace Go.Proofs.YtjaacdapibokiabDoor
open Go.RowKit

theorem Rd.cut {w : World} {es : List (List Dt)} {g off n cap sz : Nat} {fp : List Nat} (h : Rd w (.l es) (.slice (some ⟨g, off, none⟩) n cap) fp) (hsz : ∀ e ∈ es, e.length = sz) (k m o2 cap2 : Nat) (hk : k + m ≤ es.length) (ho : 0 < m → o2 = off + k * sz) (hcap2 : k + m ≤ cap → m ≤ cap2) :
    ∃ fp', Rd w (.l ((es.drop k).take m)) (.slice (some ⟨g, o2, none⟩) m cap2) fp' ∧ ∀ r ∈ fp', r ∈ fp := by
  rcases Nat.eq_zero_or_pos m with h0 | h0
  · subst h0
    exact ⟨[], by rw [List.take_zero]; exact .nil _ _ (fun e => by cases e), by simp⟩
  · generalize hd : Dt.l es = d at h
    generalize hv : Value.slice (some ⟨g, off, none⟩) n cap = v at h
    cases h with
    | i n => cases hd
    | b x => cases hd
    | s t => cases hd
    | nil a cap hn => cases hd; simp at hk; omega
    | l sz' es' g' off' cap' V F hne' hsz' hcap hgl hc hrd =>
      cases hd
      simp only [Value.slice.injEq, Option.some.injEq, Addr.mk.injEq, and_true] at hv
      obtain ⟨⟨rfl, rfl⟩, rfl, rfl⟩ := hv
      have hss : sz' = sz := by
        have h0 := List.getElem_mem hne'
        rw [← hsz' _ h0, hsz _ h0]
      subst hss
      have hl : ((es.drop k).take m).length = m := by rw [List.length_take, List.length_drop]; omega
      have hget : ∀ i (hi : i < ((es.drop k).take m).length) (hi' : k + i < es.length), ((es.drop k).take m)[i] = es[k + i] := by
        intro i hi hi'
        rw [List.getElem_take, List.getElem_drop]
      have := Rd.l (w := w) sz' ((es.drop k).take m) g o2 cap2 (fun i j => V (k + i) j) (fun i j => F (k + i) j) (by omega) (fun e he => hsz' e (List.mem_of_mem_drop (List.mem_of_mem_take he))) (by rw [hl]; exact hcap2 (by omega)) hgl
        (fun i j hi hj => by
          rw [ho h0, show off + k * sz' + (i * sz' + j) = off + ((k + i) * sz' + j) by rw [Nat.add_mul]; omega]
          exact hc (k + i) j (by omega) hj)
        (fun i j hi hj => by
          have hi' : k + i < es.length := by omega
          have e := hget i hi hi'
          simp only [e] at hj ⊢
          exact hrd (k + i) j hi' hj)
      rw [hl] at this
      refine ⟨_, this, fun r hr => ?_⟩
      rcases List.mem_cons.1 hr with rfl | hr
      · simp
      · obtain ⟨i, hi, hr⟩ := List.mem_flatMap.1 hr
        obtain ⟨j, hj, hr⟩ := List.mem_flatMap.1 hr
        rw [List.mem_range] at hi hj
        exact List.mem_cons_of_mem _ (List.mem_flatMap.2 ⟨k + i, List.mem_range.2 (by omega), List.mem_flatMap.2 ⟨j, List.mem_range.2 hj, hr⟩⟩)
theorem Rd.lens {w : World} {es : List (List Dt)} {a : Option Addr} {n cap : Nat} {fp : List Nat} (h : Rd w (.l es) (.slice a n cap) fp) : n = es.length := by
  obtain ⟨a', c', e⟩ := Rd.slice h
  cases e; rfl
/-- The tail of a list, and where it lies. -/
theorem Rd.tail {w : World} {es : List (List Dt)} {g off n cap sz : Nat} {fp : List Nat} (h : Rd w (.l es) (.slice (some ⟨g, off, none⟩) n cap) fp) (hsz : ∀ e ∈ es, e.length = sz) (k : Nat) (hk : k ≤ es.length) :
    ∃ o2, (if cap = k then some (⟨g, off, none⟩ : Addr) else some ⟨g, off + k * sz, none⟩) = some ⟨g, o2, none⟩ ∧ ∃ fp', Rd w (.l (es.drop k)) (.slice (some ⟨g, o2, none⟩) (es.length - k) (cap - k)) fp' ∧ ∀ r ∈ fp', r ∈ fp := by
  have key : ∀ o2, (k < es.length → o2 = off + k * sz) → ∃ fp', Rd w (.l (es.drop k)) (.slice (some ⟨g, o2, none⟩) (es.length - k) (cap - k)) fp' ∧ ∀ r ∈ fp', r ∈ fp := by
    intro o2 ho
    have := h.cut hsz k (es.length - k) o2 (cap - k) (by omega) (fun hm => ho (by omega)) (fun hc => by omega)
    rwa [List.take_of_length_le (by rw [List.length_drop]; omega)] at this
  by_cases hc : cap = k
  · refine ⟨off, by rw [if_pos hc], key off fun hlt => ?_⟩
    obtain ⟨_, _, _, _, _, _, hcap, _⟩ := Rd.at h (by omega) hsz
    have := h.lens
    omega
  · exact ⟨off + k * sz, by rw [if_neg hc], key _ fun _ => rfl⟩

end Go.Proofs.YtjaacdapibokiabDoor
