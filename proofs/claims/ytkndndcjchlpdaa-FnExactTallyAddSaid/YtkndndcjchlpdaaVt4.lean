/- The members that two tallies have in common, as the reference finds them, by a walk of its text; conditions: lists are shorter than 2^40. -/
import Derived.Test.YtkndndcjchlpdaaRows
import Derived.Test.YtkndndcjchlpdaaVt3
import Derived.Test.YtkndndcjchlpdaaL1
import Derived.Test.YtkndndcjchlpdaaHeld
import Derived.Deep.QuietTactic
import Derived.BigQuiet
namespace Go.Proofs.Ytkndndcjchlpdaa
open Go.RowKit

theorem spec_l1Has (a : Option Addr) (cap : Nat) (l : List Int) (n : Int) (w : World) (hbig : l.length ≤ 1099511627776) (hc : IntsAt w a l) :
    Calls Try.prog 59 #[.slice a l.length cap, .int .i64 n] w fun e w' => e = .returned (.bool (hasB l n)) ∧ w = w' := by
  rcases hc.len with h0 | ⟨b, off, rfl, hb, hc⟩
  all_goals
    go_enter Try.func59, Try.ntmps59
    go_wp2
    go_loop [5] (fun i => ∃ k : Nat, k ≤ l.length ∧ i = .int .i64 k ∧ Pre (fun x => x != n) l k) (fun i => l.length - (intOf i).toNat)
    case atStart => exact ⟨0, by omega, rfl, pre_zero _ _⟩
    case round =>
      obtain ⟨k, hk, rfl, hg⟩ := hrel
      by_cases hlt : k < l.length
      · first
        | (exfalso; omega)
        | (have hcell := hc k hlt
           have Hc := Lib.hid hc; clear hc
           by_cases e : l[k] = n
           · have e1 : (l[k] == n) = true := by rw [beq_iff_eq]; exact e
             have hf := hasB_yes hlt
             rw [e] at hf
             have Hf := Lib.hid hf; clear hf e
             go_wp2
             go_ret
             exact ⟨ret_bool Hf.out.symm, rfl⟩
           · have e1 : (l[k] == n) = false := by rw [beq_eq_false_iff_ne]; exact e
             have Hs := Lib.hid (pre_step hg hlt (by simpa using e)); clear hg e
             go_wp2
             go_round
             case rel => exact ⟨k + 1, by omega, by go_num, Hs.out⟩
             case measure => simp [intOf]; omega)
      · have Hf := Lib.hid (hasB_no hg (by omega)); clear hg
        go_wp2
        go_ret
        exact ⟨ret_bool Hf.out.symm, rfl⟩

/-- Who is guilty: the members of both tallies, where these are valid, for one author and round and for two digests. -/
def twoB (c : List Int) (v u : Vt) (xs ys : List Int) : Bool := tallyB c v xs && (tallyB c u ys && (decide (v.r = u.r) && (decide (v.a = u.a) && decide (v.d ≠ u.d))))
def guiltyZ (c : List Int) (v u : Vt) (xs ys : List Int) : List Int := if twoB c v u xs ys then commonZ xs ys else []

