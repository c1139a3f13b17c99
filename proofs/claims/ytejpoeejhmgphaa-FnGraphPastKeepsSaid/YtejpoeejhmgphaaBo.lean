/- Lists of truth values in memory of their own; general steps, nothing here speaks of the program. -/
import Derived.Test.YtejpoeejhmgphaaBase
namespace Go.Proofs.Ytejpoeejhmgphaa
open Go.RowKit

/-- The slice value v owns the truth values bs in memory made from block B on. -/
def OwnB (E : TypeId) (w : World) (B : Nat) (v : Value) (bs : List Bool) : Prop := w.ownsRow B E 1 v bs.length (bs.map Value.bool)
section
variable {E : TypeId} {w w' : World} {B : Nat} {v : Value} {bs : List Bool}
theorem OwnB.kept {row : Option Nat} (h : OwnB E w B v bs) (hg : w.grownBy w' row) (hne : v.ownBlock = none ∨ v.ownBlock ≠ row) : OwnB E w' B v bs := World.ownsRow.kept h hg hne
theorem OwnB.below (h : OwnB E w B v bs) (hg : Below w.heap.size w w') : OwnB E w' B v bs := h.kept (below_grown hg) (by cases hv : v.ownBlock <;> simp)
theorem OwnB.lt (h : OwnB E w B v bs) : ∀ k, v.ownBlock = some k → B ≤ k ∧ k < w.heap.size := World.ownsRow.lt h
theorem OwnB.mono {B' : Nat} (h : OwnB E w B v bs) (hB : B' ≤ B) : OwnB E w B' v bs := by
  refine ⟨h.1, ?_⟩
  rcases h.2 with h0 | ⟨g, cap, cur, e, hb, rest⟩
  · exact .inl h0
  · exact .inr ⟨g, cap, cur, e, by omega, rest⟩
theorem OwnB.slice (h : OwnB E w B v bs) : ∃ a cap, v = .slice a bs.length cap ∧ bs.length ≤ maxLen := by
  rcases h.2 with ⟨rfl, h0⟩ | ⟨g, cap, cur, rfl, hb, hg, hn, hm, hs, ht⟩
  · exact ⟨none, 0, by rw [h0], by rw [h0]; simp⟩
  · exact ⟨_, cap, rfl, by omega⟩
theorem OwnB.row (h : OwnB E w B v bs) (hx : 0 < bs.length) : ∃ g cap, v = .slice (some ⟨g, 0, none⟩) bs.length cap ∧ B ≤ g ∧ g < w.heap.size ∧ bs.length ≤ cap ∧
    (∀ j (h : j < bs.length), w.cell? ⟨g, j, none⟩ = some (.bool bs[j])) ∧ ∀ j, w.frozen? ⟨g, j, none⟩ = false := by
  rcases h.2 with ⟨rfl, h0⟩ | ⟨g, cap, cur, rfl, hb, hg, hn, hm, hs, ht⟩
  · omega
  · refine ⟨g, cap, rfl, hb, (Array.getElem?_eq_some_iff.1 hg).1, hn, fun j hj => ?_, fun j => frozen_of_row w g j cur E hg⟩
    have hc := World.ownsRow.cells (w := w) (base := B) (e := E) (size := 1) (v := .slice (some ⟨g, 0, none⟩) bs.length cap) (n := bs.length) (xs := bs.map Value.bool) h (g := g) rfl j (.bool bs[j]) (by simp [hj])
    rwa [addr_add] at hc
theorem OwnB.store {g cap n : Nat} (h : OwnB E w B (.slice (some ⟨g, 0, none⟩) n cap) bs) (hn : n = bs.length) (j : Nat) (z : Bool) :
    OwnB E (w.setCell ⟨g, j, none⟩ (.bool z)) B (.slice (some ⟨g, 0, none⟩) n cap) (bs.set j z) ∧ w.grownBy (w.setCell ⟨g, j, none⟩ (.bool z)) (some g) := by
  subst hn
  have := World.ownsRow.stored (w := w) (base := B) (e := E) (size := 1) (g := g) (n := bs.length) (cap := cap) h j (.bool z)
  refine ⟨?_, this.2⟩
  unfold OwnB
  rw [List.map_set, List.length_set]
  exact this.1
theorem OwnB.apart {E' : TypeId} {B' : Nat} {u : Value} {xs : List Int} (h' : OwnB E w B v bs) (h : Own E' w B' u xs) (hE : E ≠ E') : v.ownBlock = none ∨ v.ownBlock ≠ u.ownBlock := by
  rcases h'.2 with ⟨rfl, _⟩ | ⟨g, cap, cur, rfl, _, hg, _⟩
  · exact .inl rfl
  · rcases h.2 with ⟨rfl, _⟩ | ⟨g', cap', cur', rfl, _, hg', _⟩
    · exact .inr (fun e => by cases e)
    · refine .inr fun e => hE ?_
      have e' : g = g' := by cases e; rfl
      subst e'
      rw [hg] at hg'
      cases hg'
      rfl
/-- New memory holds no truth. -/
theorem ownB_new (E : TypeId) (w : World) (n : Nat) (hm : n ≤ maxLen) : OwnB E (w.alloc (.cells (madeCells #[.bool false] n) E)) w.heap.size (.slice (some ⟨w.heap.size, 0, none⟩) n n) (List.replicate n false) := by
  have e : (madeCells #[Value.bool false] n).toList = (List.replicate n false).map Value.bool := by
    refine List.ext_getElem (by simp [madeCells]) fun i h1 h2 => ?_
    simp [madeCells, Nat.mod_one]
  have hs : (madeCells #[Value.bool false] n).size = n := by simp [madeCells]
  refine ⟨by simp, .inr ⟨w.heap.size, n, _, by simp, Nat.le_refl _, heap_alloc_new w _, by simp, hm, by rw [hs, Nat.mul_one], ?_⟩⟩
  rw [e]
  exact List.take_of_length_le (by simp)
end

end Go.Proofs.Ytejpoeejhmgphaa
