/- What the functions of committees answer, each by a walk of its text: the answers are those of plain functions on lists; conditions: a list that is read has fewer than 2^40 elements. -/
import Derived.Test.YthhikgibmmhcjabRows
import Derived.Test.YthhikgibmmhcjabBase
import Derived.Deep.QuietTactic
import Derived.BigQuiet
namespace Go.Proofs.Ythhikgibmmhcjab
open Go.RowKit

theorem spec_l6In (n lo hi : Int) (w : World) : Calls Try.prog 43 #[.int .i64 n, .int .i64 lo, .int .i64 hi] w fun e w' => e = .returned (.bool (decide (lo ≤ n ∧ n ≤ hi))) ∧ w = w' := by
  by_cases h1 : lo ≤ n
  · go_enter Try.func43, Try.ntmps43
    go_wp2
    go_ret
    exact ⟨ret_bool (by simp [h1]), rfl⟩
  · go_enter Try.func43, Try.ntmps43
    go_wp2
    go_ret
    exact ⟨ret_bool (by simp; omega), rfl⟩
theorem spec_l6In_yes {n lo hi : Int} (h : lo ≤ n ∧ n ≤ hi) (w : World) : Calls Try.prog 43 #[.int .i64 n, .int .i64 lo, .int .i64 hi] w fun e w' => e = .returned (.bool true) ∧ w = w' := by
  have := spec_l6In n lo hi w
  rwa [decide_eq_true h] at this
theorem spec_l6In_no {n lo hi : Int} (h : ¬ (lo ≤ n ∧ n ≤ hi)) (w : World) : Calls Try.prog 43 #[.int .i64 n, .int .i64 lo, .int .i64 hi] w fun e w' => e = .returned (.bool false) ∧ w = w' := by
  have := spec_l6In n lo hi w
  rwa [decide_eq_false h] at this

theorem committee_valid (a : Option Addr) (cap : Nat) (c : List Int) (w : World) (hbig : c.length ≤ 1099511627776) (hc : IntsAt w a c) :
    Calls Try.prog 54 #[.slice a c.length cap] w fun e w' => e = .returned (.bool (validB c)) ∧ w = w' := by
  by_cases hl : 1 ≤ c.length ∧ c.length ≤ 7
  · obtain ⟨h1, h2⟩ := hl
    rcases hc with rfl | ⟨b, off, rfl, hb, hc⟩
    · simp at h1
    go_enter Try.func54, Try.ntmps54
    go_wp2
    go_loop [15] (fun i => ∃ k : Nat, k ≤ c.length ∧ i = .int .i64 k ∧ Pre goodB c k) (fun i => c.length - (intOf i).toNat)
    case atStart => exact ⟨0, by omega, rfl, pre_zero _ _⟩
    case round =>
      obtain ⟨k, hk, rfl, hg⟩ := hrel
      by_cases hlt : k < c.length
      · have hcell := hc k hlt
        have Hc := Lib.hid hc; clear hc
        by_cases h : 1 ≤ c[k] ∧ c[k] ≤ 9
        · obtain ⟨g1, g2⟩ := h
          go_wp2
          go_round
          case rel => exact ⟨k + 1, by omega, by go_num, pre_step hg hlt (goodB_yes g1 g2)⟩
          case measure => simp [intOf]; omega
        · go_wp2
          all_goals (go_ret; exact ⟨ret_bool (validB_bad hlt (goodB_no (by omega))).symm, rfl⟩)
      · have Hc := Lib.hid hc; clear hc
        go_wp2
        go_ret
        exact ⟨ret_bool (validB_yes h1 h2 hg (by omega)).symm, rfl⟩
  · by_cases h0 : c.length < 1
    all_goals
      go_enter Try.func54, Try.ntmps54
      go_wp2
      go_ret
      exact ⟨ret_bool (validB_no (by omega)).symm, rfl⟩

theorem spec_CommitteeValid (a : Option Addr) (cap : Nat) (c : List Int) (w : World) (hbig : c.length ≤ 1099511627776) (hc : IntsAt w a c) :
    Calls Try.prog 60 #[.slice a c.length cap] w fun e w' => e = .returned (.bool (validB c)) ∧ w = w' := by
  rcases hc with rfl | ⟨b, off, rfl, hb, hc⟩
  · go_enter Try.func60, Try.ntmps60
    go_wp2
    refine wp_loop_rounds 1 ?_
    rw [rounds_succ]
    go_wp2_with (go_at_call 43; refine (spec_l6In_no (by simp) _).mono ?_; rintro e w' ⟨rfl, rfl⟩)
    go_ret
    exact ⟨ret_bool (validB_no (by simp)).symm, rfl⟩
  go_enter Try.func60, Try.ntmps60
  go_wp2
  go_loop [3] (fun i => ∃ k : Nat, k ≤ c.length ∧ i = .int .i64 k ∧ Pre goodB c k) (fun i => c.length - (intOf i).toNat)
  case atStart => exact ⟨0, by omega, rfl, pre_zero _ _⟩
  case round =>
    obtain ⟨k, hk, rfl, hg⟩ := hrel
    by_cases hlt : k < c.length
    · have hcell := hc k hlt
      have Hc := Lib.hid hc; clear hc
      by_cases h : 1 ≤ c[k] ∧ c[k] ≤ 9
      · go_wp2_with (go_at_call 43; refine (spec_l6In_yes h _).mono ?_; rintro e w' ⟨rfl, rfl⟩)
        go_round
        case rel => exact ⟨k + 1, by omega, by go_num, pre_step hg hlt (goodB_yes h.1 h.2)⟩
        case measure => simp [intOf]; omega
      · go_wp2_with (go_at_call 43; refine (spec_l6In_no h _).mono ?_; rintro e w' ⟨rfl, rfl⟩)
        go_ret
        exact ⟨ret_bool (validB_bad hlt (goodB_no (by omega))).symm, rfl⟩
    · have Hc := Lib.hid hc; clear hc
      by_cases hl : 1 ≤ c.length ∧ c.length ≤ 7
      · go_wp2_with (go_at_call 43; refine (spec_l6In_yes (by omega) _).mono ?_; rintro e w' ⟨rfl, rfl⟩)
        go_ret
        exact ⟨ret_bool (validB_yes hl.1 hl.2 hg (by omega)).symm, rfl⟩
      · go_wp2_with (go_at_call 43; refine (spec_l6In_no (by omega) _).mono ?_; rintro e w' ⟨rfl, rfl⟩)
        go_ret
        exact ⟨ret_bool (validB_no hl).symm, rfl⟩

theorem committee_total (a : Option Addr) (cap : Nat) (c : List Int) (w : World) (hv : validB c = true) (hc : IntsAt w a c) :
    Calls Try.prog 64 #[.slice a c.length cap] w fun e w' => e = .returned (.int .i64 (totalZ c)) ∧ w = w' := by
  obtain ⟨h1, h2⟩ := validB_len hv
  rcases hc with rfl | ⟨b, off, rfl, hb, hc⟩
  · simp at h1
  have Hv := Lib.hid hv; clear hv
  go_enter Try.func64, Try.ntmps64
  go_wp2
  go_loop [3, 8] (fun s i => ∃ k : Nat, k ≤ c.length ∧ i = .int .i64 k ∧ s = .int .i64 (sumTo c k)) (fun _ i => c.length - (intOf i).toNat)
  case atStart => exact ⟨0, by omega, rfl, rfl⟩
  case round =>
    obtain ⟨k, hk, rfl, rfl⟩ := hrel
    have hbd := sumTo_bd Hv.out k hk
    by_cases hlt : k < c.length
    · have hcell := hc k hlt
      have Hc := Lib.hid hc; clear hc
      have g := validB_good Hv.out k hlt
      go_wp2
      go_round
      case rel => exact ⟨k + 1, by omega, by go_num, int_eq (sumTo_succ hlt).symm⟩
      case measure => simp [intOf]; omega
    · have Hc := Lib.hid hc; clear hc
      go_wp2
      go_ret
      exact ⟨ret_int (by unfold totalZ; rw [show c.length = k by omega]), rfl⟩

theorem spec_l1Total (a : Option Addr) (cap : Nat) (c : List Int) (w : World) (hv : validB c = true) (hc : IntsAt w a c) :
    Calls Try.prog 69 #[.slice a c.length cap] w fun e w' => e = .returned (.int .i64 (totalZ c)) ∧ w = w' := by
  obtain ⟨h1, h2⟩ := validB_len hv
  rcases hc with rfl | ⟨b, off, rfl, hb, hc⟩
  · simp at h1
  have Hv := Lib.hid hv; clear hv
  go_enter Try.func69, Try.ntmps69
  go_wp2
  go_loop [3, 4] (fun s i => ∃ k : Nat, k ≤ c.length ∧ i = .int .i64 k ∧ s = .int .i64 (sumTo c k)) (fun _ i => c.length - (intOf i).toNat)
  case atStart => exact ⟨0, by omega, rfl, rfl⟩
  case round =>
    obtain ⟨k, hk, rfl, rfl⟩ := hrel
    have hbd := sumTo_bd Hv.out k hk
    by_cases hlt : k < c.length
    · have hcell := hc k hlt
      have Hc := Lib.hid hc; clear hc
      have g := validB_good Hv.out k hlt
      go_wp2
      go_round
      case rel => exact ⟨k + 1, by omega, by go_num, int_eq (sumTo_succ hlt).symm⟩
      case measure => simp [intOf]; omega
    · have Hc := Lib.hid hc; clear hc
      go_wp2
      go_ret
      exact ⟨ret_int (by unfold totalZ; rw [show c.length = k by omega]), rfl⟩

theorem committee_hasMembers (ac : Option Addr) (capc : Nat) (n : Nat) (am : Option Addr) (cap : Nat) (ms : List Int) (w : World) (_hn : n ≤ 1099511627776) (hbig : ms.length ≤ 1099511627776) (hc : IntsAt w am ms) :
    Calls Try.prog 56 #[.slice ac n capc, .slice am ms.length cap] w fun e w' => e = .returned (.bool (membersB n ms)) ∧ w = w' := by
  rcases hc with rfl | ⟨b, off, rfl, hb, hc⟩
  · go_enter Try.func56, Try.ntmps56
    go_wp2
    refine wp_loop_rounds 1 ?_
    rw [rounds_succ]
    go_wp2
    go_ret
    exact ⟨ret_bool rfl, rfl⟩
  go_enter Try.func56, Try.ntmps56
  go_wp2
  go_loop [5, 10] (fun p i => ∃ k : Nat, k ≤ ms.length ∧ i = .int .i64 k ∧ p = .int .i64 (prevZ ms k) ∧ Upto (okAt n ms) k) (fun _ i => ms.length - (intOf i).toNat)
  case atStart => exact ⟨0, by omega, rfl, rfl, upto_zero _⟩
  case round =>
    obtain ⟨k, hk, rfl, rfl, hg⟩ := hrel
    have hlo := prevZ_lo hg hk
    have Hg := Lib.hid hg; clear hg
    by_cases hlt : k < ms.length
    · have hcell := hc k hlt
      have Hc := Lib.hid hc; clear hc
      by_cases h1 : prevZ ms k < ms[k]
      · by_cases h2 : ms[k] < n
        · go_wp2
          go_round
          case rel => exact ⟨k + 1, by omega, by go_num, int_eq (prevZ_succ hlt).symm, upto_step Hg.out (okAt_prev hlt hlo h1 h2)⟩
          case measure => simp [intOf]; omega
        · go_wp2
          go_ret
          exact ⟨ret_bool (allB_no hlt (okAt_prev_no hlt (by omega))).symm, rfl⟩
      · go_wp2
        go_ret
        exact ⟨ret_bool (allB_no hlt (okAt_prev_no hlt (by omega))).symm, rfl⟩
    · have Hc := Lib.hid hc; clear hc
      go_wp2
      go_ret
      exact ⟨ret_bool (allB_yes Hg.out (by omega)).symm, rfl⟩

theorem committee_weight (a : Option Addr) (capc : Nat) (c : List Int) (am : Option Addr) (cap : Nat) (ms : List Int) (w : World) (hv : validB c = true) (hm : membersB c.length ms = true) (hbig : ms.length ≤ 1099511627776) (hcc : IntsAt w a c) (hc : IntsAt w am ms) :
    Calls Try.prog 38 #[.slice a c.length capc, .slice am ms.length cap] w fun e w' => e = .returned (.int .i64 (weightZ c ms)) ∧ w = w' := by
  obtain ⟨h1, h2⟩ := validB_len hv
  rcases hcc with rfl | ⟨b', off', rfl, hb', hcc⟩
  · simp at h1
  have Hv := Lib.hid hv; clear hv
  have Hm := Lib.hid hm; clear hm
  have Hcc := Lib.hid hcc; clear hcc
  rcases hc with rfl | ⟨b, off, rfl, hb, hc⟩
  · go_enter Try.func38, Try.ntmps38
    go_wp2
    refine wp_loop_rounds 1 ?_
    rw [rounds_succ]
    go_wp2
    go_ret
    exact ⟨ret_int rfl, rfl⟩
  go_enter Try.func38, Try.ntmps38
  go_wp2
  go_loop [5, 10] (fun s i => ∃ k : Nat, k ≤ ms.length ∧ i = .int .i64 k ∧ s = .int .i64 (weightTo c ms k)) (fun _ i => ms.length - (intOf i).toNat)
  case atStart => exact ⟨0, by omega, rfl, rfl⟩
  case round =>
    obtain ⟨k, hk, rfl, rfl⟩ := hrel
    have hbd := weightTo_bd Hv.out Hm.out k hk
    by_cases hlt : k < ms.length
    · have hcell := hc k hlt
      have Hc := Lib.hid hc; clear hc
      have g := membersB_at Hm.out k hlt
      have hcell2 := Hcc.out ms[k].toNat (by omega)
      have g2 := validB_good Hv.out ms[k].toNat (by omega)
      go_wp2
      go_round
      case rel => exact ⟨k + 1, by omega, by go_num, int_eq (by rw [weightTo_succ hlt, getD_get (by omega)])⟩
      case measure => simp [intOf]; omega
    · have Hc := Lib.hid hc; clear hc
      go_wp2
      go_ret
      exact ⟨ret_int (by unfold weightZ; rw [show ms.length = k by omega]), rfl⟩

theorem spec_l1Weight (a : Option Addr) (capc : Nat) (c : List Int) (am : Option Addr) (cap : Nat) (ms : List Int) (w : World) (hv : validB c = true) (hm : membersB c.length ms = true) (hbig : ms.length ≤ 1099511627776) (hcc : IntsAt w a c) (hc : IntsAt w am ms) :
    Calls Try.prog 50 #[.slice a c.length capc, .slice am ms.length cap] w fun e w' => e = .returned (.int .i64 (weightZ c ms)) ∧ w = w' := by
  obtain ⟨h1, h2⟩ := validB_len hv
  rcases hcc with rfl | ⟨b', off', rfl, hb', hcc⟩
  · simp at h1
  have Hv := Lib.hid hv; clear hv
  have Hm := Lib.hid hm; clear hm
  have Hcc := Lib.hid hcc; clear hcc
  rcases hc with rfl | ⟨b, off, rfl, hb, hc⟩
  · go_enter Try.func50, Try.ntmps50
    go_wp2
    refine wp_loop_rounds 1 ?_
    rw [rounds_succ]
    go_wp2
    go_ret
    exact ⟨ret_int rfl, rfl⟩
  go_enter Try.func50, Try.ntmps50
  go_wp2
  go_loop [5, 6] (fun s i => ∃ k : Nat, k ≤ ms.length ∧ i = .int .i64 k ∧ s = .int .i64 (weightTo c ms k)) (fun _ i => ms.length - (intOf i).toNat)
  case atStart => exact ⟨0, by omega, rfl, rfl⟩
  case round =>
    obtain ⟨k, hk, rfl, rfl⟩ := hrel
    have hbd := weightTo_bd Hv.out Hm.out k hk
    by_cases hlt : k < ms.length
    · have hcell := hc k hlt
      have Hc := Lib.hid hc; clear hc
      have g := membersB_at Hm.out k hlt
      have hcell2 := Hcc.out ms[k].toNat (by omega)
      have g2 := validB_good Hv.out ms[k].toNat (by omega)
      go_wp2
      go_round
      case rel => exact ⟨k + 1, by omega, by go_num, int_eq (by rw [weightTo_succ hlt, getD_get (by omega)])⟩
      case measure => simp [intOf]; omega
    · have Hc := Lib.hid hc; clear hc
      go_wp2
      go_ret
      exact ⟨ret_int (by unfold weightZ; rw [show ms.length = k by omega]), rfl⟩

theorem impl_CommitteeValid (a : Option Addr) (cap : Nat) (c : List Int) (w : World) (hbig : c.length ≤ 1099511627776) (hc : IntsAt w a c) :
    Calls Try.prog 39 #[.slice a c.length cap] w fun e w' => e = .returned (.bool (validB c)) ∧ w = w' := by
  have Hc := Lib.hid hc; clear hc
  go_enter Try.func39, Try.ntmps39
  go_wp2_with (go_at_call 54; refine (committee_valid _ _ c _ hbig Hc.out).mono ?_; rintro e w' ⟨rfl, rfl⟩)
  go_ret
  exact ⟨ret_bool rfl, rfl⟩

theorem committee_faults (a : Option Addr) (cap : Nat) (c : List Int) (w : World) (hv : validB c = true) (hc : IntsAt w a c) :
    Calls Try.prog 40 #[.slice a c.length cap] w fun e w' => e = .returned (.int .i64 ((totalZ c - 1) / 3)) ∧ w = w' := by
  have hbd := totalZ_bd hv
  have Hv := Lib.hid hv; clear hv
  have Hc := Lib.hid hc; clear hc
  go_enter Try.func40, Try.ntmps40
  go_wp2_with (go_at_call 64; refine (committee_total _ _ c _ Hv.out Hc.out).mono ?_; rintro e w' ⟨rfl, rfl⟩)
  go_ret
  exact ⟨ret_int rfl, rfl⟩

theorem impl_CommitteeFaults (a : Option Addr) (cap : Nat) (c : List Int) (w : World) (hbig : c.length ≤ 1099511627776) (hc : IntsAt w a c) :
    Calls Try.prog 14 #[.slice a c.length cap] w fun e w' => e = .returned (.int .i64 (orNo c ((totalZ c - 1) / 3))) ∧ w = w' := by
  have hv' := impl_CommitteeValid a cap c w hbig hc
  by_cases hv : validB c = true
  · rw [hv] at hv'
    have hbd := totalZ_bd hv
    have ht := committee_faults a cap c w hv hc
    have hfin := orNo_yes hv ((totalZ c - 1) / 3)
    have Hf := Lib.hid hfin; clear hfin
    have Ht := Lib.hid ht; clear ht
    have Hv := Lib.hid hv'; clear hv'
    clear hv hc
    go_enter Try.func14, Try.ntmps14
    go_wp2_with (first | (go_at_call 39; refine Hv.out.mono ?_; rintro e w' ⟨rfl, rfl⟩) | (go_at_call 40; refine Ht.out.mono ?_; rintro e w' ⟨rfl, rfl⟩))
    go_ret
    exact ⟨ret_int Hf.out.symm, rfl⟩
  · rw [Bool.not_eq_true] at hv
    rw [hv] at hv'
    have hfin := orNo_no hv ((totalZ c - 1) / 3)
    have Hf := Lib.hid hfin; clear hfin
    have Hv := Lib.hid hv'; clear hv'
    clear hv hc
    go_enter Try.func14, Try.ntmps14
    go_wp2_with (go_at_call 39; refine Hv.out.mono ?_; rintro e w' ⟨rfl, rfl⟩)
    go_ret
    exact ⟨ret_int Hf.out.symm, rfl⟩

theorem committee_quorum (a : Option Addr) (cap : Nat) (c : List Int) (w : World) (hv : validB c = true) (hc : IntsAt w a c) :
    Calls Try.prog 63 #[.slice a c.length cap] w fun e w' => e = .returned (.int .i64 (2 * totalZ c / 3 + 1)) ∧ w = w' := by
  have hbd := totalZ_bd hv
  have Hv := Lib.hid hv; clear hv
  have Hc := Lib.hid hc; clear hc
  go_enter Try.func63, Try.ntmps63
  go_wp2_with (go_at_call 64; refine (committee_total _ _ c _ Hv.out Hc.out).mono ?_; rintro e w' ⟨rfl, rfl⟩)
  go_ret
  exact ⟨ret_int rfl, rfl⟩

theorem spec_l1Quorum (a : Option Addr) (cap : Nat) (c : List Int) (w : World) (hv : validB c = true) (hc : IntsAt w a c) :
    Calls Try.prog 51 #[.slice a c.length cap] w fun e w' => e = .returned (.int .i64 (2 * totalZ c / 3 + 1)) ∧ w = w' := by
  have hbd := totalZ_bd hv
  have Hv := Lib.hid hv; clear hv
  have Hc := Lib.hid hc; clear hc
  go_enter Try.func51, Try.ntmps51
  go_wp2_with (go_at_call 69; refine (spec_l1Total _ _ c _ Hv.out Hc.out).mono ?_; rintro e w' ⟨rfl, rfl⟩)
  go_ret
  exact ⟨ret_int rfl, rfl⟩

theorem spec_l1Members (ac : Option Addr) (capc : Nat) (n : Nat) (am : Option Addr) (cap : Nat) (ms : List Int) (w : World) (_hn : n ≤ 1099511627776) (hbig : ms.length ≤ 1099511627776) (hc : IntsAt w am ms) :
    Calls Try.prog 62 #[.slice ac n capc, .slice am ms.length cap] w fun e w' => e = .returned (.bool (membersB n ms)) ∧ Drawn w w' := by
  rcases hc with rfl | ⟨b, off, rfl, hb, hc⟩
  · go_enter Try.func62, Try.ntmps62
    go_wp2
    refine wp_loop_rounds 1 ?_
    rw [rounds_succ]
    go_wp2
    go_ret
    exact ⟨ret_bool rfl, Drawn.refl _⟩
  go_enter Try.func62, Try.ntmps62
  go_wp2
  go_loopw [5] (fun i wr => ∃ k : Nat, k ≤ ms.length ∧ i = .int .i64 k ∧ Upto (okAt n ms) k ∧ Drawn w wr) (fun i _ => ms.length - (intOf i).toNat)
  case atStart => exact ⟨0, by omega, rfl, upto_zero _, Drawn.refl _⟩
  case round =>
    obtain ⟨k, hk, rfl, hg, hwr⟩ := hrel
    by_cases hlt : k < ms.length
    · have hcell := hc k hlt
      rw [← hwr.cell] at hcell
      by_cases h1 : 0 ≤ ms[k] ∧ ms[k] ≤ (n : Int) - 1
      · by_cases h0 : 0 < k
        · have hd : decide ((0 : Int) < (k : Int)) = true := by simpa using h0
          have hcell2 := hc (k - 1) (by omega)
          have hprev : ms.getD (k - 1) 0 = ms[k - 1] := getD_get (by omega)
          rw [← hwr.cell] at hcell2
          generalize ms[k - 1] = p at hcell2 hprev
          have Hp := Lib.hid hprev; clear hprev
          have Hc := Lib.hid hc; clear hc
          have e1 : IntKind.i64.wrap ((n : Int) - 1) = n - 1 := IntWalk.i64_in _ (by omega)
          have e2 : IntKind.i64.wrap ((k : Int) - 1) = k - 1 := IntWalk.i64_in _ (by omega)
          have e3 : ((k : Int) - 1).toNat = k - 1 := by omega
          have e4 : 0 ≤ (k : Int) - 1 := by omega
          have e5 : 1 ≤ (k : Int) := by omega
          have e6 : (k : Int) - 1 < ms.length := by omega
          by_cases h2 : p < ms[k]
          · have hd2 : decide (ms[k] ≤ p) = false := by simpa using h2
            go_wp2_with fail
            go_quiet ((go_at_call 43; exact Calls.quiet_of_same (turned (spec_l6In_yes h1 _))))
            clear e1 e2 e3
            go_wp2
            go_roundw
            case rel => exact ⟨k + 1, by omega, by go_num, upto_step hg (okAt_yes hlt h1.1 (by omega) (.inr (by rw [Hp.out]; exact h2))), hwr.drewN _⟩
            case measure => simp [intOf]; omega
          · have hd2 : decide (ms[k] ≤ p) = true := by simpa using h2
            go_wp2_with fail
            go_quiet ((go_at_call 43; exact Calls.quiet_of_same (turned (spec_l6In_yes h1 _))))
            clear e1 e2 e3
            go_wp2
            go_ret
            exact ⟨ret_bool (allB_no hlt (okAt_no hlt (by rw [Hp.out]; omega))).symm, hwr.drewN _⟩
        · have hd : decide ((0 : Int) < (k : Int)) = false := by simpa using h0
          have Hc := Lib.hid hc; clear hc
          have e1 : IntKind.i64.wrap ((n : Int) - 1) = n - 1 := IntWalk.i64_in _ (by omega)
          go_wp2_with fail
          go_quiet ((go_at_call 43; exact Calls.quiet_of_same (turned (spec_l6In_yes h1 _))))
          clear e1
          go_wp2
          go_roundw
          case rel => exact ⟨k + 1, by omega, by go_num, upto_step hg (okAt_yes hlt h1.1 (by omega) (.inl (by omega))), hwr.drewN _⟩
          case measure => simp [intOf]; omega
      · have Hc := Lib.hid hc; clear hc
        have e1 : IntKind.i64.wrap ((n : Int) - 1) = n - 1 := IntWalk.i64_in _ (by omega)
        go_wp2_with fail
        go_quiet ((go_at_call 43; exact Calls.quiet_of_same (turned (spec_l6In_no h1 _))))
        clear e1
        go_wp2
        go_ret
        exact ⟨ret_bool (allB_no hlt (okAt_no hlt (by omega))).symm, hwr.drewN _⟩
    · have Hc := Lib.hid hc; clear hc
      go_wp2
      go_ret
      exact ⟨ret_bool (allB_yes hg (by omega)).symm, hwr⟩

theorem impl_MembersValid (ac : Option Addr) (capc : Nat) (c : List Int) (am : Option Addr) (cap : Nat) (ms : List Int) (w : World) (hn : c.length ≤ 1099511627776) (hbig : ms.length ≤ 1099511627776) (hcc : IntsAt w ac c) (hc : IntsAt w am ms) :
    Calls Try.prog 37 #[.slice ac c.length capc, .slice am ms.length cap] w fun e w' => e = .returned (.bool (mvB c ms)) ∧ w = w' := by
  have Hcc := Lib.hid hcc; clear hcc
  have Hc := Lib.hid hc; clear hc
  have hv' := committee_valid ac capc c w hn Hcc.out
  by_cases hv : validB c = true
  · rw [hv] at hv'
    have Hv := Lib.hid hv'; clear hv'
    have Hf := Lib.hid (mvB_yes hv ms); clear hv
    go_enter Try.func37, Try.ntmps37
    go_wp2_with (first | (go_at_call 54; refine Hv.out.mono ?_; rintro e w' ⟨rfl, rfl⟩) | (go_at_call 56; refine (committee_hasMembers _ _ _ _ _ ms _ hn hbig Hc.out).mono ?_; rintro e w' ⟨rfl, rfl⟩))
    go_ret
    exact ⟨ret_bool Hf.out.symm, rfl⟩
  · rw [Bool.not_eq_true] at hv
    rw [hv] at hv'
    have Hv := Lib.hid hv'; clear hv'
    have Hf := Lib.hid (mvB_no hv ms); clear hv
    go_enter Try.func37, Try.ntmps37
    go_wp2_with (go_at_call 54; refine Hv.out.mono ?_; rintro e w' ⟨rfl, rfl⟩)
    go_ret
    exact ⟨ret_bool Hf.out.symm, rfl⟩

theorem impl_MembersWeight (ac : Option Addr) (capc : Nat) (c : List Int) (am : Option Addr) (cap : Nat) (ms : List Int) (w : World) (hn : c.length ≤ 1099511627776) (hbig : ms.length ≤ 1099511627776) (hcc : IntsAt w ac c) (hc : IntsAt w am ms) :
    Calls Try.prog 13 #[.slice ac c.length capc, .slice am ms.length cap] w fun e w' => e = .returned (.int .i64 (mwZ c ms)) ∧ w = w' := by
  have Hcc := Lib.hid hcc; clear hcc
  have Hc := Lib.hid hc; clear hc
  have hv' := impl_MembersValid ac capc c am cap ms w hn hbig Hcc.out Hc.out
  by_cases hv : mvB c ms = true
  · rw [hv] at hv'
    have Hv := Lib.hid hv'; clear hv'
    have Hf := Lib.hid (mwZ_yes hv)
    have Ht := Lib.hid hv; clear hv
    go_enter Try.func13, Try.ntmps13
    go_wp2_with (first | (go_at_call 37; refine Hv.out.mono ?_; rintro e w' ⟨rfl, rfl⟩) | (go_at_call 38; refine (committee_weight _ _ c _ _ ms _ (mvB_valid Ht.out) (mvB_members Ht.out) hbig Hcc.out Hc.out).mono ?_; rintro e w' ⟨rfl, rfl⟩))
    go_ret
    exact ⟨ret_int Hf.out.symm, rfl⟩
  · rw [Bool.not_eq_true] at hv
    rw [hv] at hv'
    have Hv := Lib.hid hv'; clear hv'
    have Hf := Lib.hid (mwZ_no hv); clear hv
    go_enter Try.func13, Try.ntmps13
    go_wp2_with (go_at_call 37; refine Hv.out.mono ?_; rintro e w' ⟨rfl, rfl⟩)
    go_ret
    exact ⟨ret_int Hf.out.symm, rfl⟩

