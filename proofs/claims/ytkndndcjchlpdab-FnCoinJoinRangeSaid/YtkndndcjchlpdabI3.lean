/- What impl's small functions of shards answer, and a column's value, each by a walk of its text; conditions: a list that is read has fewer than 2^40 elements, the numbers are ints. -/
import Derived.Test.YtkndndcjchlpdabRows
import Derived.Test.YtkndndcjchlpdabBase
import Derived.Test.YtkndndcjchlpdabApp
import Derived.Test.YtkndndcjchlpdabM5
import Derived.Test.YtkndndcjchlpdabC3
import Derived.Test.YtkndndcjchlpdabRf
import Derived.Deep.QuietTactic
import Derived.BigQuiet
import Derived.RangeFuncBox
namespace Go.Proofs.Ytkndndcjchlpdab
open Go.RowKit Go.Shelf
attribute [local go_sem] Oper.semAt_some

theorem IntsAt.other {W W' : World} {a : Option Addr} {x : List Int} {r : Nat} (h : IntsAt W a x) (hg : W.grownBy W' (some r)) (hne : ∀ b, a = some b → b.block ≠ r) : IntsAt W' a x :=
  h.grown hg fun b e e' => hne b e (by cases e'; rfl)

theorem impl_isSymbol (n : Int) (w : World) : Calls Try.prog 41 #[.int .i64 n] w fun e w' => e = .returned (.bool (symB n)) ∧ w = w' := by
  by_cases h : 0 ≤ n
  · have Hf := Lib.hid (show symB n = decide (n < 251) by unfold symB; rw [Bool.eq_iff_iff]; simp only [decide_eq_true_eq]; omega)
    go_enter Try.func41, Try.ntmps41
    go_wp2
    go_ret
    exact ⟨ret_bool Hf.out.symm, rfl⟩
  · have Hf := Lib.hid (show symB n = false by unfold symB; exact decide_eq_false (by omega))
    go_enter Try.func41, Try.ntmps41
    go_wp2
    go_ret
    exact ⟨ret_bool Hf.out.symm, rfl⟩

theorem impl_isShardNumber (n : Int) (w : World) : Calls Try.prog 57 #[.int .i64 n] w fun e w' => e = .returned (.bool (decide (1 ≤ n ∧ n ≤ 8))) ∧ w = w' := by
  by_cases h : 1 ≤ n
  · go_enter Try.func57, Try.ntmps57
    go_wp2
    go_ret
    exact ⟨ret_bool (by rw [Bool.eq_iff_iff]; simp only [decide_eq_true_eq]; omega), rfl⟩
  · go_enter Try.func57, Try.ntmps57
    go_wp2
    go_ret
    exact ⟨ret_bool (by rw [Bool.eq_iff_iff]; simp only [Bool.and_eq_true, decide_eq_true_eq, Bool.false_eq_true, false_iff]; omega), rfl⟩

theorem impl_isDataSize (n : Int) (w : World) : Calls Try.prog 56 #[.int .i64 n] w fun e w' => e = .returned (.bool (decide (1 ≤ n ∧ n ≤ 12))) ∧ w = w' := by
  by_cases h : 1 ≤ n
  · go_enter Try.func56, Try.ntmps56
    go_wp2
    go_ret
    exact ⟨ret_bool (by rw [Bool.eq_iff_iff]; simp only [decide_eq_true_eq]; omega), rfl⟩
  · go_enter Try.func56, Try.ntmps56
    go_wp2
    go_ret
    exact ⟨ret_bool (by rw [Bool.eq_iff_iff]; simp only [Bool.and_eq_true, decide_eq_true_eq, Bool.false_eq_true, false_iff]; omega), rfl⟩

theorem impl_areSymbols (a : Option Addr) (cap : Nat) (l : List Int) (w : World) (hbig : l.length ≤ 1099511627776) (hc : IntsAt w a l) :
    Calls Try.prog 66 #[.slice a l.length cap] w fun e w' => e = .returned (.bool (l.all symB)) ∧ w = w' := by
  rcases hc.len with h0 | ⟨b, off, rfl, hb, hc⟩
  all_goals
    go_enter Try.func66, Try.ntmps66
    go_wp2
    go_loop [7] (fun i => ∃ k : Nat, k ≤ l.length ∧ i = .int .i64 k ∧ Pre symB l k) (fun i => l.length - (intOf i).toNat)
    case atStart => exact ⟨0, by omega, rfl, pre_zero _ _⟩
    case round =>
      obtain ⟨k, hk, rfl, hg⟩ := hrel
      by_cases hlt : k < l.length
      · first
        | (exfalso; omega)
        | (have hcell := hc k hlt
           have Hc := Lib.hid hc; clear hc
           have hd := impl_isSymbol l[k] w
           by_cases h : symB l[k] = true
           · rw [h] at hd
             have Hd := Lib.hid hd; clear hd
             have Hs := Lib.hid (pre_step hg hlt h); clear hg h
             go_wp2_with fail
             refine Hd.out.mono ?_
             rintro e w' ⟨rfl, rfl⟩
             go_wp2
             go_round
             case rel => exact ⟨k + 1, by omega, by go_num, Hs.out⟩
             case measure => simp [intOf]; omega
           · rw [Bool.not_eq_true] at h
             rw [h] at hd
             have Hd := Lib.hid hd; clear hd
             have Hs := Lib.hid (pre_not hlt h); clear hg h
             go_wp2_with fail
             refine Hd.out.mono ?_
             rintro e w' ⟨rfl, rfl⟩
             go_wp2
             go_ret
             exact ⟨ret_bool Hs.out.symm, rfl⟩)
      · have Hs := Lib.hid (pre_all hg (by omega)); clear hg
        go_wp2
        go_ret
        exact ⟨ret_bool Hs.out.symm, rfl⟩

/-- Data that can be encoded. -/
def isdB (d : List Int) : Bool := decide (1 ≤ d.length ∧ d.length ≤ 12) && d.all symB
theorem isdB_data (d : List Int) (need : Int) : dataB d need = (isdB d && decide (1 ≤ need ∧ need ≤ 8)) := by unfold dataB isdB; rw [Bool.and_comm (d.all symB)]

theorem impl_isData (a : Option Addr) (cap : Nat) (l : List Int) (w : World) (hbig : l.length ≤ 1099511627776) (hc : IntsAt w a l) :
    Calls Try.prog 73 #[.slice a l.length cap] w fun e w' => e = .returned (.bool (isdB l)) ∧ w = w' := by
  have hz := impl_isDataSize (l.length : Int) w
  have hd := impl_areSymbols a cap l w hbig hc
  by_cases h : 1 ≤ (l.length : Int) ∧ (l.length : Int) ≤ 12
  · rw [decide_eq_true h] at hz
    have Hf := Lib.hid (show isdB l = l.all symB by unfold isdB; rw [decide_eq_true (by omega), Bool.true_and])
    have Hz := Lib.hid hz; clear hz
    have Hd := Lib.hid hd; clear hd hc h
    go_enter Try.func73, Try.ntmps73
    go_wp2_with fail
    refine Hz.out.mono ?_
    rintro e w' ⟨rfl, rfl⟩
    go_wp2_with fail
    refine Hd.out.mono ?_
    rintro e w' ⟨rfl, rfl⟩
    go_wp2
    go_ret
    exact ⟨ret_bool Hf.out.symm, rfl⟩
  · rw [decide_eq_false h] at hz
    have Hf := Lib.hid (show isdB l = false by unfold isdB; rw [decide_eq_false (by omega), Bool.false_and])
    have Hz := Lib.hid hz; clear hz hd hc h
    go_enter Try.func73, Try.ntmps73
    go_wp2_with fail
    refine Hz.out.mono ?_
    rintro e w' ⟨rfl, rfl⟩
    go_wp2
    go_ret
    exact ⟨ret_bool Hf.out.symm, rfl⟩

theorem impl_columnsOf (size need : Nat) (w : World) (h1 : 1 ≤ size) (h2 : size ≤ 12) (h3 : 1 ≤ need) (h4 : need ≤ 8) : Calls Try.prog 68 #[.int .i64 size, .int .i64 need] w fun e w' => e = .returned (.int .i64 (((size + need - 1) / need : Nat) : Int)) ∧ w = w' := by
  have hq := Lib.hid (show (((size + need - 1) / need : Nat) : Int) = ((size : Int) + (need : Int) - 1) / (need : Int) by rw [Int.natCast_ediv]; congr 1; omega)
  go_enter Try.func68, Try.ntmps68
  go_wp2
  go_ret
  exact ⟨ret_int hq.out.symm, rfl⟩

theorem lib_Backward (a : Option Addr) (n c : Nat) (w : World) : Calls Try.prog 76 #[.slice a n c] w fun e w' =>
    e = .returned (.func (.func 78) #[] #[.pointer (some ⟨w.heap.size, 0, none⟩)]) ∧ w' = w.alloc (.cells #[.slice a n c] 30) := by
  go_enter Try.func76, Try.ntmps76
  go_wp2
  go_ret
  exact ⟨rfl, rfl⟩

theorem lib_Backward1 (L Bl : Nat) (a : Option Addr) (c : Nat) (l : List Int) (hbig : l.length ≤ 1099511627776) (J : Nat → World → Prop)
    (hc : ∀ i W, J i W → W.cell? ⟨Bl, 0, none⟩ = some (.slice a l.length c) ∧ IntsAt W a l)
    (hY : ∀ i (hi : i < l.length) W, J (i + 1) W → YieldAt Fence.wide 1 Try.prog L #[.int .i64 (i : Int), .int .i64 l[i]] W fun e W' => e = .returned (.bool true) ∧ J i W')
    (W : World) (h0 : J l.length W) :
    CallsIn Fence.wide 2 Try.prog 78 #[.func (.yield L) #[] #[], .pointer (some ⟨Bl, 0, none⟩)] W fun e W' => (∃ v, e = .returned v) ∧ J 0 W' := by
  have hcl := (hc _ W h0).1
  have HY := Lib.hid hY; clear hY
  have Hc := Lib.hid hc; clear hc
  refine callsIn_of_wp Try.func78 rfl trivial ?_ rfl
  simp only [Try.ntmps78, List.size_toArray, List.length_cons, List.length_nil, Nat.reduceAdd, Nat.reduceSub, Array.replicate_succ, Array.replicate_zero, List.push_toArray, List.append_toArray, List.nil_append, List.cons_append]
  gi_wp2
  gi_loopw [3] (fun i wr => ∃ k : Nat, k ≤ l.length ∧ i = .int .i64 ((k : Int) - 1) ∧ J k wr) (fun i _ => (intOf i + 1).toNat)
  case atStart => exact ⟨l.length, Nat.le_refl _, rfl, h0⟩
  case round =>
    obtain ⟨k, hk, rfl, hJ⟩ := hrel
    rcases k with _ | k
    · gi_wp2
      go_end0
      exact ⟨⟨_, rfl⟩, hJ⟩
    · have hlt : k < l.length := by omega
      obtain ⟨hcell, hi⟩ := Hc.out _ wr hJ
      obtain ⟨b, off, rfl, hb, hcs⟩ := hi.cell (by omega)
      have hck := hcs k hlt
      clear hcs hi
      obtain ⟨fn, tmps, assign, body, hy, hR⟩ := HY.out k hlt wr hJ
      generalize l[k] = y at *
      have e1 : ((k + 1 : Nat) : Int) - 1 = (k : Int) := by omega
      rw [e1]
      clear e1
      gi_wp2
      refine hR.mono ?_
      rintro e W3 ⟨rfl, hJ3⟩
      gi_wp2
      go_roundw
      case rel => exact ⟨k, by omega, rfl, hJ3⟩
      case measure => simp [intOf]

end Go.Proofs.Ytkndndcjchlpdab
