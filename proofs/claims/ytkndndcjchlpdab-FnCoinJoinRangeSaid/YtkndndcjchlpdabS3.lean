/- Whether shards have different numbers and the right lengths, as spec reckons it, by a walk of its text; conditions: the lists are short. -/
import Derived.Test.YtkndndcjchlpdabE3
import Derived.Test.YtkndndcjchlpdabC3
namespace Go.Proofs.Ytkndndcjchlpdab
open Go.RowKit

theorem ok_no1 {size need : Int} {L : List Sh} (h : ¬ (1 ≤ size ∧ size ≤ 12)) : joinOk size need L = false := by unfold joinOk; rw [decide_eq_false h]; rfl
theorem ok_no2 {size need : Int} {L : List Sh} (h : ¬ (1 ≤ need ∧ need ≤ 8)) : joinOk size need L = false := by unfold joinOk; rw [decide_eq_false h, Bool.and_false]; rfl
theorem ok_no3 {size need : Int} {L : List Sh} (h : ¬ (need ≤ L.length ∧ L.length ≤ 8)) : joinOk size need L = false := by unfold joinOk lenB; rw [decide_eq_false h, Bool.false_and, Bool.and_false]
theorem ok_eq {size need : Nat} {L : List Sh} (h1 : 1 ≤ (size : Int) ∧ (size : Int) ≤ 12) (h2 : 1 ≤ (need : Int) ∧ (need : Int) ≤ 8) (h3 : (need : Int) ≤ L.length ∧ L.length ≤ 8) : joinOk size need L = shsB ((size + need - 1) / need) L := by
  unfold joinOk lenB; rw [decide_eq_true h1, decide_eq_true h2, decide_eq_true h3]; simp
def neAt (L : List Sh) (k : Nat) : Nat → Bool := fun j => decide (xsOf L j ≠ xsOf L k)
def syAt (vs : List Int) : Nat → Bool := fun j => symB (vs.getD j 0)
theorem shAt_new {cols : Nat} {L : List Sh} {k j : Nat} (hj : j < k) (h : xsOf L j = xsOf L k) : shAt cols L k = false := by
  unfold shAt newAt; rw [allB_no hj (by simp [h]), Bool.and_false]
theorem shAt_yes2 {cols : Nat} {L : List Sh} {k : Nat} (hk : k < L.length) (h1 : 1 ≤ L[k].1 ∧ L[k].1 ≤ 8) (h : Upto (neAt L k) k) (hl : L[k].2.length = cols) (hs : L[k].2.all symB = true) : shAt cols L k = true := by
  unfold shAt okS newAt; rw [getS hk, decide_eq_true h1, decide_eq_true hl, hs, allB_yes (p := fun j => decide (xsOf L j ≠ xsOf L k)) h (Nat.le_refl _)]; rfl
theorem sy_all {vs : List Int} (h : Upto (syAt vs) vs.length) : vs.all symB = true := by
  rw [List.all_eq_true]
  intro y hy
  obtain ⟨j, hj, rfl⟩ := List.mem_iff_getElem.1 hy
  have := h j hj
  unfold syAt at this
  rwa [getD_get hj] at this
theorem sy_no {vs : List Int} {j : Nat} (hj : j < vs.length) (h : ¬ (0 ≤ vs[j] ∧ vs[j] ≤ 250)) : vs.all symB = false := by
  rw [List.all_eq_false]; exact ⟨vs[j], List.getElem_mem hj, by simp [symB_no h]⟩

