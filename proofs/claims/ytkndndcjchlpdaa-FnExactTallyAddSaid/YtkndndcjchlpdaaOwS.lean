/- A field of a row that lies in memory of its own is written over by a value with a new block; general steps, nothing here speaks of the program. -/
import Derived.Test.YtkndndcjchlpdaaOwR
namespace Go.Proofs.Ytkndndcjchlpdaa
open Go.RowKit

/-- A field is written over by a value whose block, if it has one, is new. -/
theorem OwnR.setF {E Ei : TypeId} {sz : Nat} {w : World} {B hi hi' g n cap : Nat} {es : List (List Fd)} (h : OwnR E Ei sz w B hi (.slice (some ⟨g, 0, none⟩) n cap) es) (hn : n = es.length) {k j : Nat} (hk : k < es.length) (hj : j < sz) {u : Value} {f : Fd}
    (hf : FdOk Ei w B u f) (hhi : hi ≤ hi') (hu : ∀ b, u.ownBlock = some b → hi ≤ b ∧ b < hi') :
    OwnR E Ei sz (w.setCell ⟨g, k * sz + j, none⟩ u) B hi' (.slice (some ⟨g, 0, none⟩) n cap) (es.set k ((es[k]).set j f)) := by
  subst hn
  obtain ⟨cs, h1, h2, h3, h4, h5, h6⟩ := h.row
  have hsz := h.szs _ (List.getElem_mem hk)
  have hlt : k * sz + j < cs.length := by
    rw [h1.1]
    have := Nat.mul_le_mul_right sz (show k + 1 ≤ es.length by omega)
    rw [Nat.add_mul] at this; omega
  have hgB := (h1.lt g rfl).1
  have hgh := h6 g rfl
  have hst := (World.ownsRow.stored (w := w) (base := B) (e := E) (size := sz) (g := g) (n := es.length) (cap := cap) h1 (k * sz + j) u).1
  have hbl : ∀ b, b ≠ g → (w.setCell ⟨g, k * sz + j, none⟩ u).heap[b]? = w.heap[b]? := fun b hb => Below.heap_setCell _ _ _ b hb
  have hset : ∀ (p : Nat) c, (cs.set (k * sz + j) u)[p]? = some c → (p ≠ k * sz + j ∧ cs[p]? = some c) ∨ (p = k * sz + j ∧ c = u) := by
    intro p c hp
    by_cases e : k * sz + j = p
    · subst e
      rw [List.getElem?_set_self hlt] at hp
      exact .inr ⟨rfl, by cases hp; rfl⟩
    · rw [List.getElem?_set_ne e] at hp
      exact .inl ⟨fun h => e h.symm, hp⟩
  refine ⟨fun e he => ?_, cs.set (k * sz + j) u, by rw [List.length_set]; exact hst, fun k' j' hk' hj' => ?_, fun p q c d hp hq hne => ?_, fun p c hp => ?_, fun p c b hp hb => ?_, fun b hb => Nat.lt_of_lt_of_le (h6 b hb) hhi⟩
  · rcases List.mem_or_eq_of_mem_set he with he | rfl
    · exact h.szs e he
    · rw [List.length_set]; exact hsz
  · by_cases e : k' = k ∧ j' = j
    · obtain ⟨rfl, rfl⟩ := e
      refine ⟨_, List.getElem?_set_self hlt, ?_⟩
      simp only [List.getElem_set_self]
      exact hf.same fun b hb => hbl b fun hg => by have := (hu b hb).1; omega
    · obtain ⟨a1, a2, a3⟩ := set_get (j := j) hk k' j' hk' hj' (by rw [List.length_set]) e (fun i _ _ hi => by rw [List.getElem_set_ne (fun h => hi h.symm)])
      obtain ⟨c, hc, hf⟩ := h2 k' j' a1 a2
      rw [a3]
      have hp : k * sz + j ≠ k' * sz + j' := by
        intro hh
        have hj2 : j' < sz := by rw [← h.szs _ (List.getElem_mem a1)]; exact a2
        have e1 : (k * sz + j) / sz = k := by rw [Nat.add_comm, Nat.add_mul_div_right _ _ (by omega), Nat.div_eq_of_lt hj, Nat.zero_add]
        have e2 : (k' * sz + j') / sz = k' := by rw [Nat.add_comm, Nat.add_mul_div_right _ _ (by omega), Nat.div_eq_of_lt hj2, Nat.zero_add]
        have : k' = k := by rw [← e1, ← e2, hh]
        subst this
        exact e ⟨rfl, by omega⟩
      exact ⟨c, by rw [List.getElem?_set_ne hp]; exact hc, hf.same fun b hb => hbl b fun hg => h4 _ c hc b hb (by rw [hg]; rfl)⟩
  · rcases hset p c hp with ⟨_, hp1⟩ | ⟨ep, ec⟩
    · rcases hset q d hq with ⟨_, hq1⟩ | ⟨eq, ed⟩
      · exact h3 p q c d hp1 hq1 hne
      · intro b e e'
        rw [ed] at e'
        have := (h5 p c b hp1 e).2; have := (hu b e').1; omega
    · rcases hset q d hq with ⟨_, hq1⟩ | ⟨eq, ed⟩
      · intro b e e'
        rw [ec] at e
        have := (h5 q d b hq1 e').2; have := (hu b e).1; omega
      · exact absurd (ep.trans eq.symm) hne
  · rcases hset p c hp with ⟨_, hp1⟩ | ⟨ep, ec⟩
    · exact h4 p c hp1
    · intro b e e'
      cases e'
      rw [ec] at e
      have h9 : hi ≤ g := (hu _ e).1
      omega
  · rcases hset p c hp with ⟨_, hp1⟩ | ⟨ep, ec⟩
    · have := h5 p c b hp1 hb; exact ⟨this.1, by omega⟩
    · rw [ec] at hb
      have := hu b hb; exact ⟨by omega, this.2⟩

end Go.Proofs.Ytkndndcjchlpdaa
