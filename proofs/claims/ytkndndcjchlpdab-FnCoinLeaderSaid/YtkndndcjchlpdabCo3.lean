/- The member that a value of the coin draws, on both sides, each by a walk of its text; condition: a list that is read has fewer than 2^40 elements. -/
import Derived.Test.YtkndndcjchlpdabRows
import Derived.Test.YtkndndcjchlpdabCo2
import Derived.Deep.QuietTactic
import Derived.BigQuiet
namespace Go.Proofs.Ytkndndcjchlpdab
open Go.RowKit

theorem drw_step {c : List Int} {n : Int} {k : Nat} (hk : k < c.length) (h1 : n < totalZ c) (hl : ∀ j, j ≤ k → sumTo c j ≤ n) (h : c[k] ≤ n - sumTo c k) : k + 1 < c.length ∧ (∀ j, j ≤ k + 1 → sumTo c j ≤ n) ∧ n - sumTo c k - c[k] = n - sumTo c (k + 1) := by
  have hs := sumTo_succ hk
  refine ⟨?_, fun j hj => ?_, by omega⟩
  · by_cases e : k + 1 = c.length
    · unfold totalZ at h1; rw [← e] at h1; omega
    · omega
  · by_cases e : j = k + 1
    · rw [e]; omega
    · exact hl j (by omega)
theorem drw_stop {c : List Int} {n : Int} {k : Nat} (hk : k < c.length) (hl : ∀ j, j ≤ k → sumTo c j ≤ n) (h : ¬ c[k] ≤ n - sumTo c k) : drwN c n = k :=
  drw_eq c n k hk hl (by rw [sumTo_succ hk]; omega)

theorem committee_drawn (a : Option Addr) (cap : Nat) (c : List Int) (n : Int) (w : World) (hv : validB c = true) (h0 : 0 ≤ n) (h1 : n < totalZ c) (hc : IntsAt w a c) :
    Calls Try.prog 42 #[.slice a c.length cap, .int .i64 n] w fun e w' => e = .returned (.int .i64 (drwN c n)) ∧ w = w' := by
  obtain ⟨hl1, hl2⟩ := validB_len hv
  have htb := totalZ_bd hv
  rcases hc with rfl | ⟨b, off, rfl, hb, hc⟩
  · simp at hl1
  have Hv := Lib.hid hv; clear hv
  go_enter Try.func42, Try.ntmps42
  go_wp2
  go_loop [1, 5] (fun x m => ∃ k : Nat, k < c.length ∧ x = .int .i64 (n - sumTo c k) ∧ m = .int .i64 k ∧ ∀ j, j ≤ k → sumTo c j ≤ n) (fun _ m => c.length - (intOf m).toNat)
  case atStart => exact ⟨0, by omega, by rw [sumTo_zero, Int.sub_zero], rfl, fun j hj => by rw [show j = 0 by omega, sumTo_zero]; exact h0⟩
  case round =>
    obtain ⟨k, hk, rfl, rfl, hl⟩ := hrel
    have hbd := sumTo_bd Hv.out k (by omega)
    have hsk := hl k (Nat.le_refl _)
    have hcell := hc k hk
    have g := validB_good Hv.out k hk
    by_cases h : c[k] ≤ n - sumTo c k
    · obtain ⟨s1, s2, s3⟩ := drw_step hk h1 hl h
      have S2 := Lib.hid s2; have S3 := Lib.hid s3; clear s2 s3 hl
      have Hc := Lib.hid hc; clear hc
      go_wp2
      go_round
      case rel => exact ⟨k + 1, s1, int_eq S3.out, by go_num, S2.out⟩
      case measure => simp [intOf]; omega
    · have Hs := Lib.hid (drw_stop hk hl h); clear hl
      have Hc := Lib.hid hc; clear hc
      go_wp2
      go_ret
      exact ⟨ret_int (by rw [Hs.out]), rfl⟩

theorem impl_CoinLeader (a : Option Addr) (cap : Nat) (c : List Int) (v : Int) (w : World) (hbig : c.length ≤ 1099511627776) (hc : IntsAt w a c) :
    Calls Try.prog 15 #[.slice a c.length cap, .int .i64 v] w fun e w' => e = .returned (.int .i64 (clZ c v)) ∧ w = w' := by
  have HV := Lib.hid (impl_CommitteeValid a cap c w hbig hc)
  have HS := Lib.hid (impl_isSymbol v w)
  cases h1 : validB c with
  | false =>
    rw [h1] at HV
    have Hf := Lib.hid (clZ_no (c := c) (v := v) (by rw [h1]; rfl))
    clear h1 hc
    go_enter Try.func15, Try.ntmps15
    go_wp2_with fail
    refine HV.out.mono ?_
    rintro e w' ⟨rfl, rfl⟩
    go_wp2
    go_ret
    exact ⟨ret_int Hf.out.symm, rfl⟩
  | true =>
  rw [h1] at HV
  cases h2 : symB v with
  | false =>
    rw [h2] at HS
    have Hf := Lib.hid (clZ_no (c := c) (v := v) (by rw [h1, h2]; rfl))
    clear h1 h2 hc
    go_enter Try.func15, Try.ntmps15
    go_wp2_with fail
    refine HV.out.mono ?_
    rintro e w' ⟨rfl, rfl⟩
    go_wp2_with fail
    refine HS.out.mono ?_
    rintro e w' ⟨rfl, rfl⟩
    go_wp2
    go_ret
    exact ⟨ret_int Hf.out.symm, rfl⟩
  | true =>
  rw [h2] at HS
  have Hf := Lib.hid (clZ_yes h1 h2)
  have htb := totalZ_bd h1
  obtain ⟨h3, h4⟩ := symB_bd h2
  have HT := Lib.hid (committee_total a cap c w h1 hc)
  have n0 : 0 ≤ v % totalZ c := Int.emod_nonneg _ (by omega)
  have n1 : v % totalZ c < totalZ c := Int.emod_lt_of_pos _ (by omega)
  have HD := Lib.hid (committee_drawn a cap c (v % totalZ c) w h1 n0 n1 hc)
  have Htm := Lib.hid (Int.tmod_eq_emod_of_nonneg (b := totalZ c) h3)
  clear h1 h2 hc
  generalize totalZ c = t at *
  go_enter Try.func15, Try.ntmps15
  go_wp2_with fail
  refine HV.out.mono ?_
  rintro e w' ⟨rfl, rfl⟩
  go_wp2_with fail
  refine HS.out.mono ?_
  rintro e w' ⟨rfl, rfl⟩
  go_wp2_with fail
  refine HT.out.mono ?_
  rintro e w' ⟨rfl, rfl⟩
  go_wp2_with fail
  refine HD.out.mono ?_
  rintro e w' ⟨rfl, rfl⟩
  go_wp2
  go_ret
  exact ⟨ret_int Hf.out.symm, rfl⟩

theorem spec_CoinLeader (a : Option Addr) (cap : Nat) (c : List Int) (v : Int) (w : World) (hbig : c.length ≤ 1099511627776) (hc : IntsAt w a c) :
    Calls Try.prog 16 #[.slice a c.length cap, .int .i64 v] w fun e w' => e = .returned (.int .i64 (clZ c v)) ∧ w = w' := by
  have HV := Lib.hid (spec_CommitteeValid a cap c w hbig hc)
  have HS := Lib.hid (spec_l6In v 0 250 w)
  rw [← symB_dec v] at HS
  cases h1 : validB c with
  | false =>
    rw [h1] at HV
    have Hf := Lib.hid (clZ_no (c := c) (v := v) (by rw [h1]; rfl))
    clear h1 hc
    go_enter Try.func16, Try.ntmps16
    go_wp2_with fail
    refine HV.out.mono ?_
    rintro e w' ⟨rfl, rfl⟩
    go_wp2
    go_ret
    exact ⟨ret_int Hf.out.symm, rfl⟩
  | true =>
  rw [h1] at HV
  cases h2 : symB v with
  | false =>
    rw [h2] at HS
    have Hf := Lib.hid (clZ_no (c := c) (v := v) (by rw [h1, h2]; rfl))
    clear h1 h2 hc
    go_enter Try.func16, Try.ntmps16
    go_wp2_with fail
    refine HV.out.mono ?_
    rintro e w' ⟨rfl, rfl⟩
    go_wp2_with fail
    refine HS.out.mono ?_
    rintro e w' ⟨rfl, rfl⟩
    go_wp2
    go_ret
    exact ⟨ret_int Hf.out.symm, rfl⟩
  | true =>
  rw [h2] at HS
  have Hf := Lib.hid (clZ_yes h1 h2)
  have htb := totalZ_bd h1
  obtain ⟨h3, h4⟩ := symB_bd h2
  obtain ⟨hl1, hl2⟩ := validB_len h1
  have HT := Lib.hid (spec_l1Total a cap c w h1 hc)
  have n0 : 0 ≤ v % totalZ c := Int.emod_nonneg _ (by omega)
  have n1 : v % totalZ c < totalZ c := Int.emod_lt_of_pos _ (by omega)
  have Htm := Lib.hid (Int.tmod_eq_emod_of_nonneg (b := totalZ c) h3)
  have Hn1 := Lib.hid n1; clear n1
  rcases hc with rfl | ⟨b, off, rfl, hb, hc⟩
  · simp at hl1
  have Hv := Lib.hid h1; clear h1 h2
  have Hc := Lib.hid hc; clear hc
  have Htb := Lib.hid htb
  have htb2 : v % totalZ c ≤ 62 := by have := Hn1.out; omega
  go_enter Try.func16, Try.ntmps16
  go_wp2_with fail
  refine HV.out.mono ?_
  rintro e w' ⟨rfl, rfl⟩
  go_wp2_with fail
  refine HS.out.mono ?_
  rintro e w' ⟨rfl, rfl⟩
  go_wp2_with fail
  refine HT.out.mono ?_
  rintro e w' ⟨rfl, rfl⟩
  go_wp2
  generalize hn : v % totalZ c = n at *
  go_loop [5, 6] (fun x m => ∃ k : Nat, k < c.length ∧ x = .int .i64 (n - sumTo c k) ∧ m = .int .i64 k ∧ ∀ j, j ≤ k → sumTo c j ≤ n) (fun _ m => c.length - (intOf m).toNat)
  case atStart => exact ⟨0, by omega, by rw [sumTo_zero, Int.sub_zero], rfl, fun j hj => by rw [show j = 0 by omega, sumTo_zero]; exact n0⟩
  case round =>
    obtain ⟨k, hk, rfl, rfl, hl⟩ := hrel
    have hbd := sumTo_bd Hv.out k (by omega)
    have hsk := hl k (Nat.le_refl _)
    have hcell := Hc.out k hk
    have g := validB_good Hv.out k hk
    by_cases h : c[k] ≤ n - sumTo c k
    · obtain ⟨s1, s2, s3⟩ := drw_step hk Hn1.out hl h
      have S2 := Lib.hid s2; have S3 := Lib.hid s3; clear s2 s3 hl
      go_wp2
      go_round
      case rel => exact ⟨k + 1, s1, int_eq S3.out, by go_num, S2.out⟩
      case measure => simp [intOf]; omega
    · have Hs := Lib.hid (drw_stop hk hl h); clear hl
      go_wp2
      go_ret
      exact ⟨ret_int (by rw [Hf.out, Hs.out]), rfl⟩

theorem clZ_bd (c : List Int) (v : Int) : -1 ≤ clZ c v := by unfold clZ; split <;> omega
theorem clZ_pos {c : List Int} {v : Int} (h : 0 ≤ clZ c v) : validB c = true ∧ symB v = true := by
  unfold clZ at h
  split at h
  · rename_i h'; rw [Bool.and_eq_true] at h'; exact h'
  · omega
theorem clZ_at {c : List Int} (hv : validB c = true) {m : Nat} (hm : m < c.length) {y : Int} (h0 : 0 ≤ y) (h1 : y < totalZ c) : (sumTo c m ≤ y ∧ y < sumTo c (m + 1) → clZ c y = m) ∧ (¬ (sumTo c m ≤ y ∧ y < sumTo c (m + 1)) → clZ c y ≠ m) := by
  have ht := totalZ_bd hv
  rw [clZ_yes hv (symB_yes ⟨h0, by omega⟩), Int.emod_eq_of_lt h0 h1]
  have := drw_iff hv h0 h1 hm
  exact ⟨fun h => by rw [this.2 h], fun h e => h (this.1 (by omega))⟩
theorem clZ_again {c : List Int} {x : Int} (hv : validB c = true) (hs : symB x = true) (ht : totalZ c ≤ 63) : x + totalZ c < 251 → clZ c (x + totalZ c) = clZ c x := fun h => by
  have h1 := totalZ_bd hv
  have h2 := symB_bd hs
  rw [clZ_yes hv hs, clZ_yes hv (symB_yes ⟨by omega, by omega⟩), Int.add_emod_right]
theorem same_below {P : Program} {f : FuncId} {args : Array Value} {w : World} {v : Value} (h : Calls P f args w fun e w' => e = .returned v ∧ w = w') : Calls P f args w fun e w' => e = .returned v ∧ Below w.heap.size w w' :=
  h.mono fun _ _ ⟨a, b⟩ => ⟨a, b ▸ Below.refl _ _⟩

end Go.Proofs.Ytkndndcjchlpdab
