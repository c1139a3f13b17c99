/- What the helpers of the laws answer (copies, comparisons, subsets of numbers), each by a walk of its text; conditions: a list that is read has fewer than 2^40 elements. -/
import Derived.Test.YthhikgibmmhcjaaRows
import Derived.Test.YthhikgibmmhcjaaBase
import Derived.Deep.QuietTactic
import Derived.BigQuiet
namespace Go.Proofs.Ythhikgibmmhcjaa
open Go.RowKit

theorem TI : IntT Try.prog 76 3 := ⟨Try.underlying76, by kernel_rfl⟩

def eqUpto (xs ys : List Int) (k : Nat) : Prop := ∀ j, j < k → xs.getD j 0 = ys.getD j 0
theorem eqUpto_zero (xs ys : List Int) : eqUpto xs ys 0 := fun _ h => by omega
theorem eqUpto_step {xs ys : List Int} {k : Nat} (h : eqUpto xs ys k) (h1 : k < xs.length) (h2 : k < ys.length) (e : xs[k] = ys[k]) : eqUpto xs ys (k + 1) := by
  intro j hj
  by_cases ej : j = k
  · subst ej; rw [getD_get h1, getD_get h2, e]
  · exact h j (by omega)
def eqB (xs ys : List Int) : Bool := decide (xs = ys)
theorem eqB_yes {xs ys : List Int} {k : Nat} (h : eqUpto xs ys k) (hl : xs.length = ys.length) (hk : xs.length ≤ k) : eqB xs ys = true := by
  refine decide_eq_true (List.ext_getElem hl fun j h1 h2 => ?_)
  have := h j (by omega)
  rwa [getD_get h1, getD_get h2] at this
theorem eqB_no {xs ys : List Int} {k : Nat} (h1 : k < xs.length) (h2 : k < ys.length) (e : ¬ xs[k] = ys[k]) : eqB xs ys = false := by
  refine decide_eq_false fun h => e ?_
  subst h; rfl
theorem eqB_len {xs ys : List Int} (hl : ¬ xs.length = ys.length) : eqB xs ys = false := decide_eq_false fun h => hl (by rw [h])

def hasB (l : List Int) (n : Int) : Bool := decide (n ∈ l)
theorem hasB_yes {l : List Int} {k : Nat} (hk : k < l.length) : hasB l l[k] = true := decide_eq_true (List.getElem_mem hk)
theorem hasB_no {l : List Int} {n : Int} {k : Nat} (h : Pre (fun x => x != n) l k) (hk : l.length ≤ k) : hasB l n = false := by
  refine decide_eq_false fun hm => ?_
  obtain ⟨j, hj, e⟩ := List.mem_iff_getElem.1 hm
  have := h j hj (by omega)
  rw [e] at this; simp at this

def rangeF (p : Nat → Bool) (n : Nat) : List Int := ((List.range n).filter p).map (fun (i : Nat) => (i : Int))
theorem rangeF_zero (p : Nat → Bool) : rangeF p 0 = [] := rfl
theorem rangeF_yes {p : Nat → Bool} {n : Nat} (h : p n = true) : rangeF p (n + 1) = rangeF p n ++ [(n : Int)] := by simp [rangeF, List.range_succ, List.filter_append, h]
theorem rangeF_no {p : Nat → Bool} {n : Nat} (h : p n = false) : rangeF p (n + 1) = rangeF p n := by simp [rangeF, List.range_succ, List.filter_append, h]
theorem rangeF_len (p : Nat → Bool) (n : Nat) : (rangeF p n).length ≤ n := by
  unfold rangeF; rw [List.length_map]; exact Nat.le_trans (List.length_filter_le _ _) (by simp)
def bitB (b : Nat) (i : Nat) : Bool := b / 2 ^ i % 2 == 1
def halved (b k : Nat) : Nat := b / 2 ^ k
theorem halved_zero (b : Nat) : halved b 0 = b := by unfold halved; rw [Nat.pow_zero, Nat.div_one]
theorem halved_succ (b k : Nat) : halved b (k + 1) = halved b k / 2 := by unfold halved; rw [Nat.pow_succ, Nat.div_div_eq_div_mul]
theorem halved_le (b k : Nat) : halved b k ≤ b := Nat.div_le_self _ _

def commonTo (a b : List Int) (k : Nat) : List Int := (a.take k).filter (hasB b)
theorem commonTo_yes {a b : List Int} {k : Nat} (hk : k < a.length) (h : hasB b a[k] = true) : commonTo a b (k + 1) = commonTo a b k ++ [a[k]] := by
  unfold commonTo; rw [List.take_succ_eq_append_getElem hk, List.filter_append]; simp [h]
theorem commonTo_no {a b : List Int} {k : Nat} (hk : k < a.length) (h : hasB b a[k] = false) : commonTo a b (k + 1) = commonTo a b k := by
  unfold commonTo; rw [List.take_succ_eq_append_getElem hk, List.filter_append]; simp [h]
theorem commonTo_len (a b : List Int) (k : Nat) : (commonTo a b k).length ≤ k := Nat.le_trans (List.length_filter_le _ _) (List.length_take_le _ _)
def commonZ (a b : List Int) : List Int := commonTo a b a.length
theorem commonZ_eq (a b : List Int) : commonZ a b = a.filter (hasB b) := by unfold commonZ commonTo; rw [List.take_length]

