/- Parts of a list that reads as data: its head and its tail; general steps, nothing here speaks of the program. -/
import Derived.Test.YtkndndcjchlpdabDt
namespace Go.Proofs.Ytkndndcjchlpdab
open Go.RowKit

theorem Rd.cut {w : World} {es : List (List Dt)} {g off n cap sz : Nat} {fp : List Nat} (h : Rd w (.l es) (.slice (some ⟨g, off, none⟩) n cap) fp) (hsz : ∀ e ∈ es, e.length = sz) (k m o2 cap2 : Nat) (hk : k + m ≤ es.length) (ho : 0 < m → o2 = off + k * sz) (hcap2 : k + m ≤ cap → m ≤ cap2) :
    ∃ fp', Rd w (.l ((es.drop k).take m)) (.slice (some ⟨g, o2, none⟩) m cap2) fp' ∧ ∀ r ∈ fp', r ∈ fp := by
  rcases Nat.eq_zero_or_pos m with h0 | h0
  · subst h0
    exact ⟨[], by rw [List.take_zero]; exact .nil _ _ (fun e => by cases e), by simp⟩
  · generalize hd : Dt.l es = d at h
    generalize hv : Value.slice (some ⟨g, off, none⟩) n cap = v at h
    cases h with
    | i n => cases hd
    | b x => cases hd
    | s t => cases hd
    | nil a cap hn => cases hd; simp at hk; omega
    | l sz' es' g' off' cap' V F hne' hsz' hcap hgl hc hrd =>
      cases hd
      simp only [Value.slice.injEq, Option.some.injEq, Addr.mk.injEq, and_true] at hv
      obtain ⟨⟨rfl, rfl⟩, rfl, rfl⟩ := hv
      have hss : sz' = sz := by
        have h0 := List.getElem_mem hne'
        rw [← hsz' _ h0, hsz _ h0]
      subst hss
      have hl : ((es.drop k).take m).length = m := by rw [List.length_take, List.length_drop]; omega
      have hget : ∀ i (hi : i < ((es.drop k).take m).length) (hi' : k + i < es.length), ((es.drop k).take m)[i] = es[k + i] := by
        intro i hi hi'
        rw [List.getElem_take, List.getElem_drop]
      have := Rd.l (w := w) sz' ((es.drop k).take m) g o2 cap2 (fun i j => V (k + i) j) (fun i j => F (k + i) j) (by omega) (fun e he => hsz' e (List.mem_of_mem_drop (List.mem_of_mem_take he))) (by rw [hl]; exact hcap2 (by omega)) hgl
        (fun i j hi hj => by
          rw [ho h0, show off + k * sz' + (i * sz' + j) = off + ((k + i) * sz' + j) by rw [Nat.add_mul]; omega]
          exact hc (k + i) j (by omega) hj)
        (fun i j hi hj => by
          have hi' : k + i < es.length := by omega
          have e := hget i hi hi'
          simp only [e] at hj ⊢
          exact hrd (k + i) j hi' hj)
      rw [hl] at this
      refine ⟨_, this, fun r hr => ?_⟩
      rcases List.mem_cons.1 hr with rfl | hr
      · simp
      · obtain ⟨i, hi, hr⟩ := List.mem_flatMap.1 hr
        obtain ⟨j, hj, hr⟩ := List.mem_flatMap.1 hr
        rw [List.mem_range] at hi hj
        exact List.mem_cons_of_mem _ (List.mem_flatMap.2 ⟨k + i, List.mem_range.2 (by omega), List.mem_flatMap.2 ⟨j, List.mem_range.2 hj, hr⟩⟩)
theorem Rd.lens {w : World} {es : List (List Dt)} {a : Option Addr} {n cap : Nat} {fp : List Nat} (h : Rd w (.l es) (.slice a n cap) fp) : n = es.length := by
  obtain ⟨a', c', e⟩ := Rd.slice h
  cases e; rfl
/-- The tail of a list, and where it lies. -/
theorem Rd.tail {w : World} {es : List (List Dt)} {g off n cap sz : Nat} {fp : List Nat} (h : Rd w (.l es) (.slice (some ⟨g, off, none⟩) n cap) fp) (hsz : ∀ e ∈ es, e.length = sz) (k : Nat) (hk : k ≤ es.length) :
    ∃ o2, (if cap = k then some (⟨g, off, none⟩ : Addr) else some ⟨g, off + k * sz, none⟩) = some ⟨g, o2, none⟩ ∧ ∃ fp', Rd w (.l (es.drop k)) (.slice (some ⟨g, o2, none⟩) (es.length - k) (cap - k)) fp' ∧ ∀ r ∈ fp', r ∈ fp := by
  have key : ∀ o2, (k < es.length → o2 = off + k * sz) → ∃ fp', Rd w (.l (es.drop k)) (.slice (some ⟨g, o2, none⟩) (es.length - k) (cap - k)) fp' ∧ ∀ r ∈ fp', r ∈ fp := by
    intro o2 ho
    have := h.cut hsz k (es.length - k) o2 (cap - k) (by omega) (fun hm => ho (by omega)) (fun hc => by omega)
    rwa [List.take_of_length_le (by rw [List.length_drop]; omega)] at this
  by_cases hc : cap = k
  · refine ⟨off, by rw [if_pos hc], key off fun hlt => ?_⟩
    obtain ⟨_, _, _, _, _, _, hcap, _⟩ := Rd.at h (by omega) hsz
    have := h.lens
    omega
  · exact ⟨off + k * sz, by rw [if_neg hc], key _ fun _ => rfl⟩

end Go.Proofs.Ytkndndcjchlpdab
