/- What the laws of graphs say of the reference's answers, and the past of a vertex: it is closed, it ends with the vertex; plain facts on lists, nothing here is walked. -/
import Derived.Test.YtejpoeejhmgphaaGv8
namespace Go.Proofs.Ytejpoeejhmgphaa
open Go.RowKit

theorem Own.cap' {E : TypeId} {w : World} {B : Nat} {v : Value} {xs : List Int} (h : Own E w B v xs) : ∀ a n c, v = .slice a n c → xs.length ≤ c := fun a n c e => by subst e; exact h.cap
/-- In a valid graph a vertex is found where it stands. -/
theorem find_uni {c : List Int} {g : List Vx} {r a : Int} (h : graphB c g = true) (k : Nat) (hk : k < g.length) : (g[k].r = r ∧ g[k].a = a) ↔ (k : Int) = findZ g r a := by
  have hs := List.pairwise_iff_getElem.1 (graph_sorted h)
  rcases findZ_cases g r a with ⟨e, hno⟩ | ⟨j, hj, e, hyes, hbef⟩
  · constructor
    · intro hh
      have := hno _ (List.getElem_mem hk)
      exact absurd (decide_eq_true hh) (by unfold sameRA at this; rw [this]; simp)
    · intro hh; omega
  · have hj2 : g[j].r = r ∧ g[j].a = a := of_decide_eq_true hyes
    constructor
    · intro hh
      rcases Nat.lt_trichotomy j k with hlt | heq | hgt
      · have := of_decide_eq_true (hs j k hj hk hlt)
        omega
      · omega
      · have := of_decide_eq_true (hs k j hk hj hgt)
        omega
    · intro hh
      have : k = j := by omega
      subst this
      exact hj2
theorem find_lt (g : List Vx) (r a : Int) : findZ g r a < g.length := by
  rcases findZ_cases g r a with ⟨e, _⟩ | ⟨j, hj, e, _⟩ <;> omega
theorem parent_lt {c : List Int} {g : List Vx} (h : graphB c g = true) {i j : Nat} (hi : i < g.length) {p : Int} (hj : j < g.length) (e : findZ g (g[i].r - 1) p = j) : j < i := by
  have hs := List.pairwise_iff_getElem.1 (graph_sorted h)
  rcases findZ_cases g (g[i].r - 1) p with ⟨e', _⟩ | ⟨j', hj', e', hyes, _⟩
  · omega
  · have : j' = j := by omega
    subst this
    have hr : g[j'].r = g[i].r - 1 := (of_decide_eq_true hyes).1
    rcases Nat.lt_trichotomy j' i with hlt | heq | hgt
    · exact hlt
    · subst heq; omega
    · have := of_decide_eq_true (hs i j' hi hj hgt)
      omega
theorem setB_get (bs : List Bool) (i j : Nat) : (bs.set i true).getD j false = true ↔ bs.getD j false = true ∨ (i = j ∧ j < bs.length) := by
  simp only [List.getD_eq_getElem?_getD, List.getElem?_set]
  by_cases e : i = j
  · subst e
    rw [if_pos rfl]
    by_cases h : i < bs.length
    · rw [if_pos h]; simp [h]
    · rw [if_neg h, List.getElem?_eq_none (by omega)]; simp [h]
  · rw [if_neg e]; simp [e]
theorem foldB_get (g : List Vx) (r : Int) : ∀ (ps : List Int) (bs : List Bool) (j : Nat), (ps.foldl (putB g r) bs).getD j false = true ↔ bs.getD j false = true ∨ ∃ p ∈ ps, (findZ g (r - 1) p).toNat = j ∧ j < bs.length
  | [], bs, j => by simp
  | p :: ps, bs, j => by
    rw [List.foldl_cons, foldB_get g r ps, putB_len]
    unfold putB
    rw [setB_get]
    constructor
    · rintro ((h | h) | ⟨q, hq, h⟩)
      · exact .inl h
      · exact .inr ⟨p, by simp, h⟩
      · exact .inr ⟨q, List.mem_cons_of_mem _ hq, h⟩
    · rintro (h | ⟨q, hq, h⟩)
      · exact .inl (.inl h)
      · rcases List.mem_cons.1 hq with rfl | hq
        · exact .inl (.inr h)
        · exact .inr ⟨q, hq, h⟩
/-- From row n on, the parents of what is marked are marked. -/
def ClosedFrom (g : List Vx) (bs : List Bool) (n : Nat) : Prop := ∀ i (hi : i < g.length), n ≤ i → bs.getD i false = true → ∀ k (hk : k < g[i].ps.length), bs.getD (findZ g (g[i].r - 1) g[i].ps[k]).toNat false = true
theorem fromB_len (g : List Vx) (bs : List Bool) (x : Vx) (i : Nat) : (fromB g bs x i 0).length = bs.length := by
  have hf : ∀ (r : Int) (ps : List Int) (bs : List Bool), (ps.foldl (putB g r) bs).length = bs.length := by
    intro r ps
    induction ps with
    | nil => intro bs; rfl
    | cons p ps ih => intro bs; rw [List.foldl_cons, ih, putB_len]
  unfold fromB
  split
  · exact hf _ _ _
  · rfl
theorem down_closed {c : List Int} {g : List Vx} (h : graphB c g = true) : ∀ (n : Nat) (bs : List Bool), n ≤ g.length → bs.length = g.length → ClosedFrom g bs n → ClosedFrom g (downB g n bs) 0 ∧ (∀ j, bs.getD j false = true → (downB g n bs).getD j false = true) ∧ ∀ j, n ≤ j → (downB g n bs).getD j false = true → bs.getD j false = true
  | 0, bs, _, _, hc => ⟨hc, fun _ h => h, fun _ _ h => h⟩
  | n + 1, bs, hn, hl, hc => by
    have hnl : n < g.length := by omega
    have hpar := fun k hk => graph_parents h n hnl k hk
    rw [downB, getV hnl]
    have hget : ∀ j, (fromB g bs g[n] n 0).getD j false = true ↔ bs.getD j false = true ∨ (bs.getD n false = true ∧ ∃ p ∈ g[n].ps, (findZ g (g[n].r - 1) p).toNat = j ∧ j < bs.length) := by
      intro j
      unfold fromB
      split
      · rename_i hb
        rw [List.drop_zero, foldB_get]
        exact ⟨fun h => h.imp id (fun h => ⟨hb, h⟩), fun h => h.imp id (·.2)⟩
      · rename_i hb
        exact ⟨.inl, fun h => h.elim id fun h => absurd h.1 hb⟩
    have hlow : ∀ j, n ≤ j → (fromB g bs g[n] n 0).getD j false = true → bs.getD j false = true := by
      intro j hj hb
      rcases (hget j).1 hb with hb | ⟨_, p, hp, e, hjl⟩
      · exact hb
      · obtain ⟨k, hk, rfl⟩ := List.mem_iff_getElem.1 hp
        obtain ⟨j', hj', e'⟩ := hpar k hk
        have := parent_lt h hnl hj' e'
        rw [e'] at e
        have : j' = j := by simpa using e
        omega
    have hcl : ClosedFrom g (fromB g bs g[n] n 0) n := by
      intro i hi hni hb k hk
      have hbi := hlow i hni hb
      rcases Nat.eq_or_lt_of_le hni with heq | hlt
      · subst heq
        obtain ⟨j', hj', e'⟩ := hpar k hk
        rw [hget]
        exact .inr ⟨hbi, g[n].ps[k], List.getElem_mem hk, rfl, by rw [e', hl]; simpa using hj'⟩
      · rw [hget]
        exact .inl (hc i hi (by omega) hbi k hk)
    obtain ⟨h1, h2, h3⟩ := down_closed h n _ (by omega) (by rw [fromB_len]; exact hl) hcl
    exact ⟨h1, fun j hb => h2 j ((hget j).2 (.inl hb)), fun j hj hb => hlow j (by omega) (h3 j (by omega) hb)⟩
theorem fromB_get {g : List Vx} {bs : List Bool} {x : Vx} {n : Nat} (j : Nat) : (fromB g bs x n 0).getD j false = true ↔ bs.getD j false = true ∨ (bs.getD n false = true ∧ ∃ p ∈ x.ps, (findZ g (x.r - 1) p).toNat = j ∧ j < bs.length) := by
  unfold fromB
  split
  · rename_i hb
    rw [List.drop_zero, foldB_get]
    exact ⟨fun h => h.imp id (fun h => ⟨hb, h⟩), fun h => h.imp id (·.2)⟩
  · rename_i hb
    exact ⟨.inl, fun h => h.elim id fun h => absurd h.1 hb⟩
/-- What is marked is the vertex itself or a parent of what is marked from row n on. -/
def ProvFrom (g : List Vx) (a : Nat) (bs : List Bool) (n : Nat) : Prop := ∀ j, bs.getD j false = true → j = a ∨ ∃ i, ∃ hi : i < g.length, n ≤ i ∧ bs.getD i false = true ∧ ∃ p ∈ g[i].ps, (findZ g (g[i].r - 1) p).toNat = j
theorem down_prov {g : List Vx} {a : Nat} : ∀ (n : Nat) (bs : List Bool), n ≤ g.length → bs.length = g.length → ProvFrom g a bs n → ProvFrom g a (downB g n bs) 0
  | 0, _, _, _, h => h
  | n + 1, bs, hn, hl, h => by
    have hnl : n < g.length := by omega
    rw [downB, getV hnl]
    refine down_prov n _ (by omega) (by rw [fromB_len]; exact hl) fun j hj => ?_
    rcases (fromB_get j).1 hj with hb | ⟨hb, p, hp, e, _⟩
    · rcases h j hb with e | ⟨i, hi, hni, hbi, hp⟩
      · exact .inl e
      · exact .inr ⟨i, hi, by omega, (fromB_get i).2 (.inl hbi), hp⟩
    · exact .inr ⟨n, hnl, Nat.le_refl _, (fromB_get n).2 (.inl hb), p, hp, e⟩
/-- Each marked vertex but the last has a later marked one that refers to it. -/
theorem past_least {c : List Int} {g : List Vx} (h : graphB c g = true) {a : Nat} (ha : a < g.length) (j : Nat) (hj : (pastB g (a : Int)).getD j false = true) (hne : j ≠ a) :
    ∃ i, ∃ hi : i < g.length, j < i ∧ (pastB g (a : Int)).getD i false = true ∧ ∃ hjl : j < g.length, g[i].r = g[j].r + 1 ∧ g[j].a ∈ g[i].ps := by
  have e : pastB g (a : Int) = downB g (a + 1) ((List.replicate g.length false).set a true) := by unfold pastB; rw [if_neg (by omega)]; rfl
  have hp : ProvFrom g a (pastB g (a : Int)) 0 := by
    rw [e]
    refine down_prov (a + 1) _ (by omega) (by simp) fun j hb => ?_
    rw [setB_get] at hb
    rcases hb with hb | hb
    · rw [List.getD_eq_getElem?_getD, List.getElem?_replicate] at hb
      split at hb <;> simp at hb
    · exact .inl hb.1.symm
  rcases hp j hj with e1 | ⟨i, hi, _, hbi, p, hpm, ej⟩
  · exact absurd e1 hne
  · obtain ⟨k, hk, rfl⟩ := List.mem_iff_getElem.1 hpm
    obtain ⟨j', hj', e'⟩ := graph_parents h i hi k hk
    rw [e'] at ej
    have : j' = j := by simpa using ej
    subst this
    have hlt := parent_lt h hi hj' e'
    rcases findZ_cases g (g[i].r - 1) g[i].ps[k] with ⟨e2, _⟩ | ⟨j2, hj2, e2, hy, _⟩
    · omega
    · have : j2 = j' := by omega
      subst this
      have hy2 : g[j2].r = g[i].r - 1 ∧ g[j2].a = g[i].ps[k] := of_decide_eq_true hy
      exact ⟨i, hi, hlt, hbi, hj2, by omega, by rw [hy2.2]; exact List.getElem_mem hk⟩
/-- The past of a vertex that is there: it is closed, it has the vertex, and none behind it. -/
theorem past_closed {c : List Int} {g : List Vx} (h : graphB c g = true) {a : Nat} (ha : a < g.length) : ClosedFrom g (pastB g a) 0 ∧ (pastB g a).getD a false = true ∧ ∀ j, a < j → (pastB g a).getD j false = false := by
  have e : pastB g (a : Int) = downB g (a + 1) ((List.replicate g.length false).set a true) := by unfold pastB; rw [if_neg (by omega)]; rfl
  have hb : ∀ j, ((List.replicate g.length false).set a true).getD j false = true ↔ a = j := by
    intro j
    rw [setB_get]
    have : (List.replicate g.length false).getD j false = false := by
      rw [List.getD_eq_getElem?_getD, List.getElem?_replicate]
      split <;> rfl
    rw [this]
    simp
    omega
  obtain ⟨h1, h2, h3⟩ := down_closed h (a + 1) ((List.replicate g.length false).set a true) (by omega) (by simp) (fun i hi hni hbi => by have := (hb i).1 hbi; omega)
  rw [e]
  refine ⟨h1, h2 a ((hb a).2 rfl), fun j hj => Bool.eq_false_iff.2 fun hh => ?_⟩
  have := (hb j).1 (h3 j hj hh)
  omega

theorem idxTo_mem {bs : List Bool} {n m : Nat} : (m : Int) ∈ idxTo bs n ↔ m < n ∧ bs.getD m false = true := by
  unfold idxTo
  rw [List.mem_map]
  constructor
  · rintro ⟨k, hk, e⟩
    have : k = m := by have : (k : Int) = m := e; omega
    subst this
    have := List.mem_filter.1 hk
    exact ⟨List.mem_range.1 this.1, this.2⟩
  · rintro ⟨h1, h2⟩
    exact ⟨m, List.mem_filter.2 ⟨List.mem_range.2 h1, h2⟩, rfl⟩
theorem idxTo_all {bs : List Bool} {n : Nat} : ∀ x ∈ idxTo bs n, ∃ m : Nat, x = m ∧ m < n ∧ bs.getD m false = true := by
  intro x hx
  have hx' := hx
  unfold idxTo at hx
  obtain ⟨k, _, rfl⟩ := List.mem_map.1 hx
  exact ⟨k, rfl, idxTo_mem.1 hx'⟩
theorem idxTo_asc (bs : List Bool) (n : Nat) : (idxTo bs n).Pairwise (· < ·) := by
  unfold idxTo
  rw [List.pairwise_map]
  refine (List.Pairwise.filter _ List.pairwise_lt_range).imp fun {a b} h => ?_
  show (a : Int) < b
  omega
/-- What the law of the past asks of the indexes. -/
theorem past_law {c : List Int} {g : List Vx} {r b : Int} {L : List Int} (hL : gpZ c g r b = L) (hne : 0 < L.length) : graphB c g = true ∧ ∃ a : Nat, a < g.length ∧ findZ g r b = a ∧
    (∀ i (hi : i < L.length), ∃ m : Nat, ∃ hm : m < g.length, L[i] = m ∧ ∀ k (hk : k < g[m].ps.length), ∃ j : Nat, j < g.length ∧ findZ g (g[m].r - 1) g[m].ps[k] = j ∧ (j : Int) ∈ L) ∧
    (∀ i (hi : i < L.length), 0 < i → L[i - 1]'(by omega) < L[i]) ∧ L[L.length - 1]'(by omega) = a := by
  cases hgb : graphB c g with
  | false =>
    exfalso
    unfold gpZ at hL
    rw [hgb] at hL
    subst hL
    simp at hne
  | true =>
    have e : idxTo (pastB g (findZ g r b)) g.length = L := by rw [← hL]; unfold gpZ; rw [if_pos hgb]
    rcases findZ_cases g r b with ⟨ez, _⟩ | ⟨a, ha, ez, _⟩
    · exfalso
      rw [ez] at e
      have hall := idxTo_all (bs := pastB g (-1)) (n := g.length)
      rw [e] at hall
      obtain ⟨m, _, _, hm⟩ := hall _ (List.getElem_mem hne)
      unfold pastB at hm
      rw [if_pos (by omega), List.getD_eq_getElem?_getD, List.getElem?_replicate] at hm
      split at hm <;> simp at hm
    · rw [ez] at e
      obtain ⟨h1, h2, h3⟩ := past_closed hgb ha
      have hpw := idxTo_asc (pastB g (a : Int)) g.length
      have hall := idxTo_all (bs := pastB g (a : Int)) (n := g.length)
      have hmem := fun m => idxTo_mem (bs := pastB g (a : Int)) (n := g.length) (m := m)
      rw [e] at hpw hall
      simp only [e] at hmem
      have hasc := List.pairwise_iff_getElem.1 hpw
      refine ⟨rfl, a, ha, ez, fun i hi => ?_, fun i hi h0 => hasc (i - 1) i (by omega) hi (by omega), ?_⟩
      · obtain ⟨m, em, hm, hb⟩ := hall _ (List.getElem_mem hi)
        refine ⟨m, hm, em, fun k hk => ?_⟩
        obtain ⟨j, hj, ej⟩ := graph_parents hgb m hm k hk
        have := h1 m hm (by omega) hb k hk
        rw [ej] at this
        exact ⟨j, hj, ej, (hmem j).2 ⟨hj, this⟩⟩
      · obtain ⟨i, hi, ei⟩ := List.mem_iff_getElem.1 ((hmem a).2 ⟨ha, h2⟩)
        obtain ⟨m, em, hm, hb⟩ := hall _ (List.getElem_mem (show L.length - 1 < L.length by omega))
        have hma : m ≤ a := by
          refine Nat.le_of_not_lt fun hlt => ?_
          rw [h3 m hlt] at hb
          simp at hb
        rcases Nat.eq_or_lt_of_le (show i ≤ L.length - 1 by omega) with hq | hq
        · simp only [← hq, ei]
        · have := hasc i (L.length - 1) hi (by omega) hq
          omega

/-- What P47 asks of the indexes. -/
theorem least_law {c : List Int} {g : List Vx} {r b : Int} {L : List Int} (hL : gpZ c g r b = L) (i : Nat) (hi : i + 1 < L.length) :
    ∃ k, ∃ hk : k < L.length, i < k ∧ ∃ m : Nat, ∃ hm : m < g.length, L[i] = m ∧ ∃ m' : Nat, ∃ hm' : m' < g.length, L[k] = m' ∧ g[m'].r = g[m].r + 1 ∧ g[m].a ∈ g[m'].ps := by
  obtain ⟨hgb, a, ha, hfa, hrow, hasc, hlast⟩ := past_law hL (by omega)
  have e : idxTo (pastB g (a : Int)) g.length = L := by rw [← hL]; unfold gpZ; rw [if_pos hgb, hfa]
  have hpw := idxTo_asc (pastB g (a : Int)) g.length
  have hall := idxTo_all (bs := pastB g (a : Int)) (n := g.length)
  have hmem := fun m => idxTo_mem (bs := pastB g (a : Int)) (n := g.length) (m := m)
  rw [e] at hpw hall
  simp only [e] at hmem
  have hasc := List.pairwise_iff_getElem.1 hpw
  obtain ⟨m, em, hm, hb⟩ := hall _ (List.getElem_mem (show i < L.length by omega))
  have hne : m ≠ a := by
    intro h
    have := hasc i (L.length - 1) (by omega) (by omega) (by omega)
    omega
  obtain ⟨m', hm', hlt, hb', _, h1, h2⟩ := past_least hgb ha m hb hne
  obtain ⟨k, hk, ek⟩ := List.mem_iff_getElem.1 ((hmem m').2 ⟨hm', hb'⟩)
  refine ⟨k, hk, ?_, m, hm, em, m', hm', ek, h1, h2⟩
  rcases Nat.lt_trichotomy i k with h | h | h
  · exact h
  · subst h; omega
  · have := hasc k i hk (by omega) h
    omega

end Go.Proofs.Ytejpoeejhmgphaa
