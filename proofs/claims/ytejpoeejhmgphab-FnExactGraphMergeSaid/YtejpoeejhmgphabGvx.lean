/- What the laws of graphs say of the reference's answers; plain facts on lists, nothing here is walked. -/
import Derived.Test.YtejpoeejhmgphabGv8
namespace Go.Proofs.Ytejpoeejhmgphab
open Go.RowKit

theorem Own.cap' {E : TypeId} {w : World} {B : Nat} {v : Value} {xs : List Int} (h : Own E w B v xs) : ∀ a n c, v = .slice a n c → xs.length ≤ c := fun a n c e => by subst e; exact h.cap
/-- In a valid graph a vertex is found where it stands. -/
theorem find_uni {c : List Int} {g : List Vx} {r a : Int} (h : graphB c g = true) (k : Nat) (hk : k < g.length) : (g[k].r = r ∧ g[k].a = a) ↔ (k : Int) = findZ g r a := by
  have hs := List.pairwise_iff_getElem.1 (graph_sorted h)
  rcases findZ_cases g r a with ⟨e, hno⟩ | ⟨j, hj, e, hyes, hbef⟩
  · constructor
    · intro hh
      have := hno _ (List.getElem_mem hk)
      exact absurd (decide_eq_true hh) (by unfold sameRA at this; rw [this]; simp)
    · intro hh; omega
  · have hj2 : g[j].r = r ∧ g[j].a = a := of_decide_eq_true hyes
    constructor
    · intro hh
      rcases Nat.lt_trichotomy j k with hlt | heq | hgt
      · have := of_decide_eq_true (hs j k hj hk hlt)
        omega
      · omega
      · have := of_decide_eq_true (hs k j hk hj hgt)
        omega
    · intro hh
      have : k = j := by omega
      subst this
      exact hj2
theorem find_lt (g : List Vx) (r a : Int) : findZ g r a < g.length := by
  rcases findZ_cases g r a with ⟨e, _⟩ | ⟨j, hj, e, _⟩ <;> omega

end Go.Proofs.Ytejpoeejhmgphab
