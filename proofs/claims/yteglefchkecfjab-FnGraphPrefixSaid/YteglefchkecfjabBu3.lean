/- Texts that the laws of this folder share, one behind another; no conditions. -/
import Derived.Test.YteglefchkecfjabBu2
import Derived.Test.YteglefchkecfjabRows
import Derived.Test.YteglefchkecfjabBu0
import Derived.Deep.QuietTactic
import Derived.BigQuiet
import Derived.Test.YteglefchkecfjabBu1
import Derived.Maps.AppendAt

/- What the laws of graphs say of the reference's answers, and the past of a vertex: it is closed, it ends with the vertex; plain facts on lists, nothing here is walked. -/
namespace Go.Proofs.Yteglefchkecfjab
open Go.RowKit

theorem Own.cap' {E : TypeId} {w : World} {B : Nat} {v : Value} {xs : List Int} (h : Own E w B v xs) : ∀ a n c, v = .slice a n c → xs.length ≤ c := fun a n c e => by subst e; exact h.cap
/-- In a valid graph a vertex is found where it stands. -/
theorem find_uni {c : List Int} {g : List Vx} {r a : Int} (h : graphB c g = true) (k : Nat) (hk : k < g.length) : (g[k].r = r ∧ g[k].a = a) ↔ (k : Int) = findZ g r a := by
  have hs := List.pairwise_iff_getElem.1 (graph_sorted h)
  rcases findZ_cases g r a with ⟨e, hno⟩ | ⟨j, hj, e, hyes, hbef⟩
  · constructor
    · intro hh
      have := hno _ (List.getElem_mem hk)
      exact absurd (decide_eq_true hh) (by unfold sameRA at this; rw [this]; simp)
    · intro hh; omega
  · have hj2 : g[j].r = r ∧ g[j].a = a := of_decide_eq_true hyes
    constructor
    · intro hh
      rcases Nat.lt_trichotomy j k with hlt | heq | hgt
      · have := of_decide_eq_true (hs j k hj hk hlt)
        omega
      · omega
      · have := of_decide_eq_true (hs k j hk hj hgt)
        omega
    · intro hh
      have : k = j := by omega
      subst this
      exact hj2
theorem find_lt (g : List Vx) (r a : Int) : findZ g r a < g.length := by
  rcases findZ_cases g r a with ⟨e, _⟩ | ⟨j, hj, e, _⟩ <;> omega
theorem parent_lt {c : List Int} {g : List Vx} (h : graphB c g = true) {i j : Nat} (hi : i < g.length) {p : Int} (hj : j < g.length) (e : findZ g (g[i].r - 1) p = j) : j < i := by
  have hs := List.pairwise_iff_getElem.1 (graph_sorted h)
  rcases findZ_cases g (g[i].r - 1) p with ⟨e', _⟩ | ⟨j', hj', e', hyes, _⟩
  · omega
  · have : j' = j := by omega
    subst this
    have hr : g[j'].r = g[i].r - 1 := (of_decide_eq_true hyes).1
    rcases Nat.lt_trichotomy j' i with hlt | heq | hgt
    · exact hlt
    · subst heq; omega
    · have := of_decide_eq_true (hs i j' hi hj hgt)
      omega
theorem setB_get (bs : List Bool) (i j : Nat) : (bs.set i true).getD j false = true ↔ bs.getD j false = true ∨ (i = j ∧ j < bs.length) := by
  simp only [List.getD_eq_getElem?_getD, List.getElem?_set]
  by_cases e : i = j
  · subst e
    rw [if_pos rfl]
    by_cases h : i < bs.length
    · rw [if_pos h]; simp [h]
    · rw [if_neg h, List.getElem?_eq_none (by omega)]; simp [h]
  · rw [if_neg e]; simp [e]
theorem foldB_get (g : List Vx) (r : Int) : ∀ (ps : List Int) (bs : List Bool) (j : Nat), (ps.foldl (putB g r) bs).getD j false = true ↔ bs.getD j false = true ∨ ∃ p ∈ ps, (findZ g (r - 1) p).toNat = j ∧ j < bs.length
  | [], bs, j => by simp
  | p :: ps, bs, j => by
    rw [List.foldl_cons, foldB_get g r ps, putB_len]
    unfold putB
    rw [setB_get]
    constructor
    · rintro ((h | h) | ⟨q, hq, h⟩)
      · exact .inl h
      · exact .inr ⟨p, by simp, h⟩
      · exact .inr ⟨q, List.mem_cons_of_mem _ hq, h⟩
    · rintro (h | ⟨q, hq, h⟩)
      · exact .inl (.inl h)
      · rcases List.mem_cons.1 hq with rfl | hq
        · exact .inl (.inr h)
        · exact .inr ⟨q, hq, h⟩
/-- From row n on, the parents of what is marked are marked. -/
def ClosedFrom (g : List Vx) (bs : List Bool) (n : Nat) : Prop := ∀ i (hi : i < g.length), n ≤ i → bs.getD i false = true → ∀ k (hk : k < g[i].ps.length), bs.getD (findZ g (g[i].r - 1) g[i].ps[k]).toNat false = true
theorem fromB_len (g : List Vx) (bs : List Bool) (x : Vx) (i : Nat) : (fromB g bs x i 0).length = bs.length := by
  have hf : ∀ (r : Int) (ps : List Int) (bs : List Bool), (ps.foldl (putB g r) bs).length = bs.length := by
    intro r ps
    induction ps with
    | nil => intro bs; rfl
    | cons p ps ih => intro bs; rw [List.foldl_cons, ih, putB_len]
  unfold fromB
  split
  · exact hf _ _ _
  · rfl
theorem down_closed {c : List Int} {g : List Vx} (h : graphB c g = true) : ∀ (n : Nat) (bs : List Bool), n ≤ g.length → bs.length = g.length → ClosedFrom g bs n → ClosedFrom g (downB g n bs) 0 ∧ (∀ j, bs.getD j false = true → (downB g n bs).getD j false = true) ∧ ∀ j, n ≤ j → (downB g n bs).getD j false = true → bs.getD j false = true
  | 0, bs, _, _, hc => ⟨hc, fun _ h => h, fun _ _ h => h⟩
  | n + 1, bs, hn, hl, hc => by
    have hnl : n < g.length := by omega
    have hpar := fun k hk => graph_parents h n hnl k hk
    rw [downB, getV hnl]
    have hget : ∀ j, (fromB g bs g[n] n 0).getD j false = true ↔ bs.getD j false = true ∨ (bs.getD n false = true ∧ ∃ p ∈ g[n].ps, (findZ g (g[n].r - 1) p).toNat = j ∧ j < bs.length) := by
      intro j
      unfold fromB
      split
      · rename_i hb
        rw [List.drop_zero, foldB_get]
        exact ⟨fun h => h.imp id (fun h => ⟨hb, h⟩), fun h => h.imp id (·.2)⟩
      · rename_i hb
        exact ⟨.inl, fun h => h.elim id fun h => absurd h.1 hb⟩
    have hlow : ∀ j, n ≤ j → (fromB g bs g[n] n 0).getD j false = true → bs.getD j false = true := by
      intro j hj hb
      rcases (hget j).1 hb with hb | ⟨_, p, hp, e, hjl⟩
      · exact hb
      · obtain ⟨k, hk, rfl⟩ := List.mem_iff_getElem.1 hp
        obtain ⟨j', hj', e'⟩ := hpar k hk
        have := parent_lt h hnl hj' e'
        rw [e'] at e
        have : j' = j := by simpa using e
        omega
    have hcl : ClosedFrom g (fromB g bs g[n] n 0) n := by
      intro i hi hni hb k hk
      have hbi := hlow i hni hb
      rcases Nat.eq_or_lt_of_le hni with heq | hlt
      · subst heq
        obtain ⟨j', hj', e'⟩ := hpar k hk
        rw [hget]
        exact .inr ⟨hbi, g[n].ps[k], List.getElem_mem hk, rfl, by rw [e', hl]; simpa using hj'⟩
      · rw [hget]
        exact .inl (hc i hi (by omega) hbi k hk)
    obtain ⟨h1, h2, h3⟩ := down_closed h n _ (by omega) (by rw [fromB_len]; exact hl) hcl
    exact ⟨h1, fun j hb => h2 j ((hget j).2 (.inl hb)), fun j hj hb => hlow j (by omega) (h3 j (by omega) hb)⟩
theorem fromB_get {g : List Vx} {bs : List Bool} {x : Vx} {n : Nat} (j : Nat) : (fromB g bs x n 0).getD j false = true ↔ bs.getD j false = true ∨ (bs.getD n false = true ∧ ∃ p ∈ x.ps, (findZ g (x.r - 1) p).toNat = j ∧ j < bs.length) := by
  unfold fromB
  split
  · rename_i hb
    rw [List.drop_zero, foldB_get]
    exact ⟨fun h => h.imp id (fun h => ⟨hb, h⟩), fun h => h.imp id (·.2)⟩
  · rename_i hb
    exact ⟨.inl, fun h => h.elim id fun h => absurd h.1 hb⟩
/-- What is marked is the vertex itself or a parent of what is marked from row n on. -/
def ProvFrom (g : List Vx) (a : Nat) (bs : List Bool) (n : Nat) : Prop := ∀ j, bs.getD j false = true → j = a ∨ ∃ i, ∃ hi : i < g.length, n ≤ i ∧ bs.getD i false = true ∧ ∃ p ∈ g[i].ps, (findZ g (g[i].r - 1) p).toNat = j
theorem down_prov {g : List Vx} {a : Nat} : ∀ (n : Nat) (bs : List Bool), n ≤ g.length → bs.length = g.length → ProvFrom g a bs n → ProvFrom g a (downB g n bs) 0
  | 0, _, _, _, h => h
  | n + 1, bs, hn, hl, h => by
    have hnl : n < g.length := by omega
    rw [downB, getV hnl]
    refine down_prov n _ (by omega) (by rw [fromB_len]; exact hl) fun j hj => ?_
    rcases (fromB_get j).1 hj with hb | ⟨hb, p, hp, e, _⟩
    · rcases h j hb with e | ⟨i, hi, hni, hbi, hp⟩
      · exact .inl e
      · exact .inr ⟨i, hi, by omega, (fromB_get i).2 (.inl hbi), hp⟩
    · exact .inr ⟨n, hnl, Nat.le_refl _, (fromB_get n).2 (.inl hb), p, hp, e⟩
/-- Each marked vertex but the last has a later marked one that refers to it. -/
theorem past_least {c : List Int} {g : List Vx} (h : graphB c g = true) {a : Nat} (ha : a < g.length) (j : Nat) (hj : (pastB g (a : Int)).getD j false = true) (hne : j ≠ a) :
    ∃ i, ∃ hi : i < g.length, j < i ∧ (pastB g (a : Int)).getD i false = true ∧ ∃ hjl : j < g.length, g[i].r = g[j].r + 1 ∧ g[j].a ∈ g[i].ps := by
  have e : pastB g (a : Int) = downB g (a + 1) ((List.replicate g.length false).set a true) := by unfold pastB; rw [if_neg (by omega)]; rfl
  have hp : ProvFrom g a (pastB g (a : Int)) 0 := by
    rw [e]
    refine down_prov (a + 1) _ (by omega) (by simp) fun j hb => ?_
    rw [setB_get] at hb
    rcases hb with hb | hb
    · rw [List.getD_eq_getElem?_getD, List.getElem?_replicate] at hb
      split at hb <;> simp at hb
    · exact .inl hb.1.symm
  rcases hp j hj with e1 | ⟨i, hi, _, hbi, p, hpm, ej⟩
  · exact absurd e1 hne
  · obtain ⟨k, hk, rfl⟩ := List.mem_iff_getElem.1 hpm
    obtain ⟨j', hj', e'⟩ := graph_parents h i hi k hk
    rw [e'] at ej
    have : j' = j := by simpa using ej
    subst this
    have hlt := parent_lt h hi hj' e'
    rcases findZ_cases g (g[i].r - 1) g[i].ps[k] with ⟨e2, _⟩ | ⟨j2, hj2, e2, hy, _⟩
    · omega
    · have : j2 = j' := by omega
      subst this
      have hy2 : g[j2].r = g[i].r - 1 ∧ g[j2].a = g[i].ps[k] := of_decide_eq_true hy
      exact ⟨i, hi, hlt, hbi, hj2, by omega, by rw [hy2.2]; exact List.getElem_mem hk⟩
/-- The past of a vertex that is there: it is closed, it has the vertex, and none behind it. -/
theorem past_closed {c : List Int} {g : List Vx} (h : graphB c g = true) {a : Nat} (ha : a < g.length) : ClosedFrom g (pastB g a) 0 ∧ (pastB g a).getD a false = true ∧ ∀ j, a < j → (pastB g a).getD j false = false := by
  have e : pastB g (a : Int) = downB g (a + 1) ((List.replicate g.length false).set a true) := by unfold pastB; rw [if_neg (by omega)]; rfl
  have hb : ∀ j, ((List.replicate g.length false).set a true).getD j false = true ↔ a = j := by
    intro j
    rw [setB_get]
    have : (List.replicate g.length false).getD j false = false := by
      rw [List.getD_eq_getElem?_getD, List.getElem?_replicate]
      split <;> rfl
    rw [this]
    simp
    omega
  obtain ⟨h1, h2, h3⟩ := down_closed h (a + 1) ((List.replicate g.length false).set a true) (by omega) (by simp) (fun i hi hni hbi => by have := (hb i).1 hbi; omega)
  rw [e]
  refine ⟨h1, h2 a ((hb a).2 rfl), fun j hj => Bool.eq_false_iff.2 fun hh => ?_⟩
  have := (hb j).1 (h3 j hj hh)
  omega

theorem idxTo_mem {bs : List Bool} {n m : Nat} : (m : Int) ∈ idxTo bs n ↔ m < n ∧ bs.getD m false = true := by
  unfold idxTo
  rw [List.mem_map]
  constructor
  · rintro ⟨k, hk, e⟩
    have : k = m := by have : (k : Int) = m := e; omega
    subst this
    have := List.mem_filter.1 hk
    exact ⟨List.mem_range.1 this.1, this.2⟩
  · rintro ⟨h1, h2⟩
    exact ⟨m, List.mem_filter.2 ⟨List.mem_range.2 h1, h2⟩, rfl⟩
theorem idxTo_all {bs : List Bool} {n : Nat} : ∀ x ∈ idxTo bs n, ∃ m : Nat, x = m ∧ m < n ∧ bs.getD m false = true := by
  intro x hx
  have hx' := hx
  unfold idxTo at hx
  obtain ⟨k, _, rfl⟩ := List.mem_map.1 hx
  exact ⟨k, rfl, idxTo_mem.1 hx'⟩
theorem idxTo_asc (bs : List Bool) (n : Nat) : (idxTo bs n).Pairwise (· < ·) := by
  unfold idxTo
  rw [List.pairwise_map]
  refine (List.Pairwise.filter _ List.pairwise_lt_range).imp fun {a b} h => ?_
  show (a : Int) < b
  omega
/-- What the law of the past asks of the indexes. -/
theorem past_law {c : List Int} {g : List Vx} {r b : Int} {L : List Int} (hL : gpZ c g r b = L) (hne : 0 < L.length) : graphB c g = true ∧ ∃ a : Nat, a < g.length ∧ findZ g r b = a ∧
    (∀ i (hi : i < L.length), ∃ m : Nat, ∃ hm : m < g.length, L[i] = m ∧ ∀ k (hk : k < g[m].ps.length), ∃ j : Nat, j < g.length ∧ findZ g (g[m].r - 1) g[m].ps[k] = j ∧ (j : Int) ∈ L) ∧
    (∀ i (hi : i < L.length), 0 < i → L[i - 1]'(by omega) < L[i]) ∧ L[L.length - 1]'(by omega) = a := by
  cases hgb : graphB c g with
  | false =>
    exfalso
    unfold gpZ at hL
    rw [hgb] at hL
    subst hL
    simp at hne
  | true =>
    have e : idxTo (pastB g (findZ g r b)) g.length = L := by rw [← hL]; unfold gpZ; rw [if_pos hgb]
    rcases findZ_cases g r b with ⟨ez, _⟩ | ⟨a, ha, ez, _⟩
    · exfalso
      rw [ez] at e
      have hall := idxTo_all (bs := pastB g (-1)) (n := g.length)
      rw [e] at hall
      obtain ⟨m, _, _, hm⟩ := hall _ (List.getElem_mem hne)
      unfold pastB at hm
      rw [if_pos (by omega), List.getD_eq_getElem?_getD, List.getElem?_replicate] at hm
      split at hm <;> simp at hm
    · rw [ez] at e
      obtain ⟨h1, h2, h3⟩ := past_closed hgb ha
      have hpw := idxTo_asc (pastB g (a : Int)) g.length
      have hall := idxTo_all (bs := pastB g (a : Int)) (n := g.length)
      have hmem := fun m => idxTo_mem (bs := pastB g (a : Int)) (n := g.length) (m := m)
      rw [e] at hpw hall
      simp only [e] at hmem
      have hasc := List.pairwise_iff_getElem.1 hpw
      refine ⟨rfl, a, ha, ez, fun i hi => ?_, fun i hi h0 => hasc (i - 1) i (by omega) hi (by omega), ?_⟩
      · obtain ⟨m, em, hm, hb⟩ := hall _ (List.getElem_mem hi)
        refine ⟨m, hm, em, fun k hk => ?_⟩
        obtain ⟨j, hj, ej⟩ := graph_parents hgb m hm k hk
        have := h1 m hm (by omega) hb k hk
        rw [ej] at this
        exact ⟨j, hj, ej, (hmem j).2 ⟨hj, this⟩⟩
      · obtain ⟨i, hi, ei⟩ := List.mem_iff_getElem.1 ((hmem a).2 ⟨ha, h2⟩)
        obtain ⟨m, em, hm, hb⟩ := hall _ (List.getElem_mem (show L.length - 1 < L.length by omega))
        have hma : m ≤ a := by
          refine Nat.le_of_not_lt fun hlt => ?_
          rw [h3 m hlt] at hb
          simp at hb
        rcases Nat.eq_or_lt_of_le (show i ≤ L.length - 1 by omega) with hq | hq
        · simp only [← hq, ei]
        · have := hasc i (L.length - 1) hi (by omega) hq
          omega

/-- What P47 asks of the indexes. -/
theorem least_law {c : List Int} {g : List Vx} {r b : Int} {L : List Int} (hL : gpZ c g r b = L) (i : Nat) (hi : i + 1 < L.length) :
    ∃ k, ∃ hk : k < L.length, i < k ∧ ∃ m : Nat, ∃ hm : m < g.length, L[i] = m ∧ ∃ m' : Nat, ∃ hm' : m' < g.length, L[k] = m' ∧ g[m'].r = g[m].r + 1 ∧ g[m].a ∈ g[m'].ps := by
  obtain ⟨hgb, a, ha, hfa, hrow, hasc, hlast⟩ := past_law hL (by omega)
  have e : idxTo (pastB g (a : Int)) g.length = L := by rw [← hL]; unfold gpZ; rw [if_pos hgb, hfa]
  have hpw := idxTo_asc (pastB g (a : Int)) g.length
  have hall := idxTo_all (bs := pastB g (a : Int)) (n := g.length)
  have hmem := fun m => idxTo_mem (bs := pastB g (a : Int)) (n := g.length) (m := m)
  rw [e] at hpw hall
  simp only [e] at hmem
  have hasc := List.pairwise_iff_getElem.1 hpw
  obtain ⟨m, em, hm, hb⟩ := hall _ (List.getElem_mem (show i < L.length by omega))
  have hne : m ≠ a := by
    intro h
    have := hasc i (L.length - 1) (by omega) (by omega) (by omega)
    omega
  obtain ⟨m', hm', hlt, hb', _, h1, h2⟩ := past_least hgb ha m hb hne
  obtain ⟨k, hk, ek⟩ := List.mem_iff_getElem.1 ((hmem m').2 ⟨hm', hb'⟩)
  refine ⟨k, hk, ?_, m, hm, em, m', hm', ek, h1, h2⟩
  rcases Nat.lt_trichotomy i k with h | h | h
  · exact h
  · subst h; omega
  · have := hasc k i hk (by omega) h
    omega

end Go.Proofs.Yteglefchkecfjab

/- impl's GraphPast, by a walk of its text; conditions: lists are shorter than 2^40 (a graph: 2^20). -/
namespace Go.Proofs.Yteglefchkecfjab
open Go.RowKit

theorem own_ne_str {E t : TypeId} {w : World} {B M : Nat} {v : Value} {xs : List Int} {vs : Array Value} (h : Own E w B v xs) (s : Str w M t vs) (hne : E ≠ t) : v.ownBlock ≠ some M := by
  intro e
  rcases h.2 with ⟨rfl, _⟩ | ⟨g, cap, cur, rfl, _, hg, _⟩
  · cases e
  · cases e
    have := hg.symm.trans s
    simp at this
    exact hne this.2
theorem pair_uni {g : List Vx} (h : Srt g) {i j : Nat} (hi : i < g.length) (hj : j < g.length) (hr : g[i].r = g[j].r) (ha : g[i].a = g[j].a) : i = j := by
  have hs := List.pairwise_iff_getElem.1 h
  rcases Nat.lt_trichotomy i j with h1 | h1 | h1
  · have := befB_iff.1 (hs i j hi hj h1); omega
  · exact h1
  · have := befB_iff.1 (hs j i hj hi h1); omega
/-- The marks are the past, as the reference reckons it. -/
theorem marks_past {c : List Int} {g : List Vx} (h : graphB c g = true) {a : Nat} (ha : a < g.length) {bs : Nat → Bool} (hm : Mkd g g[a] (fun _ => false) bs) (hr : ∀ z ∈ g, z.r ≤ g[a].r ∨ True) : ∀ j (hj : j < g.length), bs (plM g[j].r g[j].a) = (pastB g a).getD j false := by
  have hs := graph_sorted h
  obtain ⟨hcl, hca, hcb⟩ := past_closed h ha
  have hfind : ∀ j (hj : j < g.length), findZ g g[j].r g[j].a = j := fun j hj => by
    obtain ⟨k, hk, e, e2⟩ := findZ_mem hs (List.getElem_mem hj)
    rw [e, pair_uni hs hk hj (by rw [e2]) (by rw [e2])]
  have h1 : ∀ j (hj : j < g.length), bs (plM g[j].r g[j].a) = true → (pastB g a).getD j false = true := by
    intro j hj hb
    rcases hm.only (fun z => ∃ i, ∃ hi : i < g.length, g[i] = z ∧ (pastB g a).getD i false = true) (fun y hy hP p hp z hz er ea => by
      obtain ⟨i, hi, rfl, hb⟩ := hP
      obtain ⟨k, hk, rfl⟩ := List.mem_iff_getElem.1 hp
      obtain ⟨j, hj, e, e2⟩ := findZ_mem hs hz
      rw [er, ea] at e
      have := hcl i hi (Nat.zero_le _) hb k hk
      rw [e, Int.toNat_natCast] at this
      exact ⟨j, hj, e2, this⟩) ⟨a, ha, rfl, hca⟩ g[j] (List.getElem_mem hj) hb with h0 | ⟨i, hi, e, hb⟩
    · cases h0
    · rwa [pair_uni hs hi hj (by rw [e]) (by rw [e])] at hb
  have h2 : ∀ n j, (hj : j < g.length) → g.length - j ≤ n → (pastB g a).getD j false = true → bs (plM g[j].r g[j].a) = true ∧ g[j].r ≤ g[a].r := by
    intro n
    induction n with
    | zero => intro j hj hn; omega
    | succ n ih =>
      intro j hj hn hb
      by_cases e : j = a
      · subst e; exact ⟨hm.it, Int.le_refl _⟩
      · obtain ⟨i, hi, hji, hbi, _, er, ep⟩ := past_least h ha j hb e
        obtain ⟨i1, i2⟩ := ih i hi (by omega) hbi
        have := hm.cls g[i] (List.getElem_mem hi) i2 i1 g[j].a ep
        rw [show g[i].r - 1 = g[j].r by omega] at this
        exact ⟨this, by omega⟩
  intro j hj
  cases hb : (pastB g a).getD j false with
  | true => exact (h2 (g.length - j) j hj (Nat.le_refl _) hb).1
  | false =>
    cases hb2 : bs (plM g[j].r g[j].a) with
    | false => rfl
    | true => rw [h1 j hj hb2] at hb; cases hb
theorem pastB_none (g : List Vx) : idxTo (pastB g (-1)) g.length = [] := by
  unfold idxTo pastB
  rw [if_pos (by omega)]
  rw [List.map_eq_nil_iff, List.filter_eq_nil_iff]
  intro i hi
  have hi' := List.mem_range.1 hi
  simp [List.getD, hi']

end Go.Proofs.Yteglefchkecfjab

/- impl's GraphFind, with the library's search by a function and the function that is handed to it, each by a walk of its text; conditions: lists are shorter than 2^40 (a graph: 2^20). -/
namespace Go.Proofs.Yteglefchkecfjab
open Go.RowKit

theorem find_test (x : Vx) (pa : Option Addr) (pc : Nat) (r a : Int) (Br Ba : Nat) (w : World) (hr : Str w Br 3 #[.int .i64 r]) (ha : Str w Ba 3 #[.int .i64 a]) :
    Calls Try.prog 67 #[.agg #[.int .i64 x.r, .int .i64 x.a, .slice pa x.ps.length pc, .int .i64 x.d], .pointer (some ⟨Br, 0, none⟩), .pointer (some ⟨Ba, 0, none⟩)] w fun e w' => e = .returned (.bool (sameRA r a x)) ∧ Below w.heap.size w w' := by
  have hb0 : Below w.heap.size w (w.alloc (.cells #[.int .i64 x.r, .int .i64 x.a, .slice pa x.ps.length pc, .int .i64 x.d] 30)) := (Below.refl _ _).alloc (Nat.le_refl _) _
  have s0 := Str.new w 30 #[.int .i64 x.r, .int .i64 x.a, .slice pa x.ps.length pc, .int .i64 x.d]
  have k0 := s0.cell 0 (v := .int .i64 x.r) rfl
  have k1 := s0.cell 1 (v := .int .i64 x.a) rfl
  have q0 := (hr.alloc (.cells #[.int .i64 x.r, .int .i64 x.a, .slice pa x.ps.length pc, .int .i64 x.d] 30)).cell 0 (v := .int .i64 r) rfl
  have q1 := (ha.alloc (.cells #[.int .i64 x.r, .int .i64 x.a, .slice pa x.ps.length pc, .int .i64 x.d] 30)).cell 0 (v := .int .i64 a) rfl
  have Hb := Lib.hid hb0
  clear hb0 s0 hr ha
  by_cases h1 : x.r = r
  · have e1 : (x.r == r) = true := by simpa using h1
    have Hz := Lib.hid (show sameRA r a x = decide (x.a = a) by unfold sameRA; simp [h1])
    clear h1
    go_enter Try.func67, Try.ntmps67
    go_wp2
    go_ret
    exact ⟨ret_bool (by rw [Hz.out, Bool.eq_iff_iff, decide_eq_true_iff]; simp), Hb.out⟩
  · have e1 : (x.r == r) = false := by simpa using h1
    have Hz := Lib.hid (show sameRA r a x = false from decide_eq_false fun e => h1 e.1)
    clear h1
    go_enter Try.func67, Try.ntmps67
    go_wp2
    go_ret
    exact ⟨by first | rfl | exact ret_bool (by rw [Hz.out]), Hb.out⟩

theorem lib_IndexFunc (g : List Vx) (v : Value) (fp : List Nat) (r a : Int) (Br Ba : Nat) (w : World) (hbig : g.length ≤ 1099511627776) (hg : Gr w g v fp) (hr : Str w Br 3 #[.int .i64 r]) (ha : Str w Ba 3 #[.int .i64 a]) :
    Calls Try.prog 66 #[v, .func (.func 67) #[] #[.pointer (some ⟨Br, 0, none⟩), .pointer (some ⟨Ba, 0, none⟩)]] w fun e w' => e = .returned (.int .i64 (findZ g r a)) ∧ Below w.heap.size w w' := by
  obtain ⟨va, vc, rfl⟩ := hg.slice
  have Hg := Lib.hid hg; clear hg
  have Hr := Lib.hid hr; clear hr
  have Ha := Lib.hid ha; clear ha
  go_enter Try.func66, Try.ntmps66
  go_wp2
  go_loopw [8] (fun i wr => ∃ k : Nat, k ≤ g.length ∧ i = .int .i64 k ∧ Upto (fun j => !sameRA r a (g.getD j vx0)) k ∧ Below w.heap.size w wr) (fun i _ => g.length - (intOf i).toNat)
  case atStart => exact ⟨0, by omega, rfl, upto_zero _, Below.refl _ _⟩
  case round =>
    obtain ⟨k, hk, rfl, hup, hbel⟩ := hrel
    have Hup := Lib.hid hup; clear hup
    by_cases hlt : k < g.length
    · obtain ⟨b, off, rfl, hb, hat⟩ := (Hg.out.under hbel).at (by omega)
      obtain ⟨c0, c1, ⟨pa, pc, c2, _⟩, c3⟩ := hat k hlt
      have hgk := getV hlt
      have HT := Lib.hid (find_test g[k] pa pc r a Br Ba wr ((hbel.block _ Hr.out.lt).trans Hr.out) ((hbel.block _ Ha.out.lt).trans Ha.out))
      have Hbel := Lib.hid hbel
      cases hs : sameRA r a g[k] with
      | true =>
        have Hz := Lib.hid (findZ_yes hlt Hup.out hs)
        rw [hs] at HT
        clear hat hbel hgk hs
        generalize g[k] = x at *
        obtain ⟨xr, xa, xp, xd⟩ := x
        dsimp only at *
        go_wp2_with fail
        refine HT.out.mono ?_
        rintro e w2 ⟨rfl, hb2⟩
        have Hb2 := Lib.hid (below_step Hbel.out Hbel.out.size hb2)
        clear hb2 c0 c1 c2 c3
        go_wp2
        go_ret
        exact ⟨by rw [Hz.out]; rfl, Hb2.out⟩
      | false =>
        have Hup' := Lib.hid (upto_step Hup.out (k := k) (by simp only [hgk]; simpa using hs))
        rw [hs] at HT
        clear hat hbel hgk hs
        generalize g[k] = x at *
        obtain ⟨xr, xa, xp, xd⟩ := x
        dsimp only at *
        go_wp2_with fail
        refine HT.out.mono ?_
        rintro e w2 ⟨rfl, hb2⟩
        have Hb2 := Lib.hid (below_step Hbel.out Hbel.out.size hb2)
        clear hb2 c0 c1 c2 c3
        go_wp2
        go_roundw
        case rel => exact ⟨k + 1, by omega, by go_num, Hup'.out, Hb2.out⟩
        case measure => simp [intOf]; omega
    · have hz := findZ_no Hup.out (by omega)
      go_wp2
      go_ret
      exact ⟨by rw [hz]; rfl, hbel⟩

theorem impl_GraphFind' (ac : Option Addr) (capc : Nat) (c : List Int) (g : List Vx) (v : Value) (fp : List Nat) (r a : Int) (w : World) (hn : c.length ≤ 1099511627776) (hbig : g.length ≤ 1048576) (hps : ∀ x ∈ g, x.ps.length ≤ 1099511627776) (hc : IntsAt w ac c) (hg : Gr w g v fp) :
    Calls Try.prog 25 #[.slice ac c.length capc, v, .int .i64 r, .int .i64 a] w fun e w' => e = .returned (.int .i64 (gfZ c g r a)) ∧ Below w.heap.size w w' := by
  have hb0 : Below w.heap.size w ((w.alloc (.cells #[.int .i64 r] 3)).alloc (.cells #[.int .i64 a] 3)) := ((Below.refl _ w).alloc (Nat.le_refl _) _).alloc (by simp) _
  have s0 := (Str.new w 3 #[.int .i64 r]).alloc (.cells #[.int .i64 a] 3)
  have s1 := Str.new (w.alloc (.cells #[.int .i64 r] 3)) 3 #[.int .i64 a]
  rw [show (w.alloc (.cells #[.int .i64 r] 3)).heap.size = w.heap.size + 1 by simp] at s1
  have hgW := hg.under hb0
  have H := Lib.hid (impl_GraphValid' ac capc c g v fp _ hn hbig hps (hc.below hb0) hgW)
  have Hb0 := Lib.hid hb0
  cases h : graphB c g with
  | false =>
    have Hz := Lib.hid (show gfZ c g r a = -1 by unfold gfZ; rw [h]; rfl)
    rw [h] at H
    clear hc hg hgW hps h hb0 s0 s1
    go_enter Try.func25, Try.ntmps25
    go_wp2_with fail
    generalize (w.alloc (.cells #[.int .i64 r] 3)).alloc (.cells #[.int .i64 a] 3) = W0 at *
    refine H.out.mono ?_
    rintro e w1 ⟨rfl, hb⟩
    have Hb1 := Lib.hid (below_step Hb0.out Hb0.out.size hb); clear hb
    go_wp2
    go_ret
    exact ⟨by rw [Hz.out]; rfl, Hb1.out⟩
  | true =>
    have Hz := Lib.hid (show gfZ c g r a = findZ g r a by unfold gfZ; rw [h]; rfl)
    rw [h] at H
    have HF := Lib.hid (fun W (hW : Below ((w.alloc (.cells #[.int .i64 r] 3)).alloc (.cells #[.int .i64 a] 3)).heap.size ((w.alloc (.cells #[.int .i64 r] 3)).alloc (.cells #[.int .i64 a] 3)) W) =>
      lib_IndexFunc g v fp r a w.heap.size (w.heap.size + 1) W (by omega) (hgW.under hW) ((hW.block _ s0.lt).trans s0) ((hW.block _ s1.lt).trans s1))
    clear hc hg hgW hps h hb0 s0 s1
    go_enter Try.func25, Try.ntmps25
    go_wp2_with fail
    generalize (w.alloc (.cells #[.int .i64 r] 3)).alloc (.cells #[.int .i64 a] 3) = W0 at *
    refine H.out.mono ?_
    rintro e w1 ⟨rfl, hb⟩
    have HF1 := Lib.hid (HF.out w1 hb)
    have Hb1 := Lib.hid (below_step Hb0.out Hb0.out.size hb); clear hb
    go_wp2_with fail
    refine HF1.out.mono ?_
    rintro e w2 ⟨rfl, hb2⟩
    have Hb2 := Lib.hid (below_step Hb1.out Hb1.out.size hb2); clear hb2
    go_wp2
    go_ret
    exact ⟨by rw [Hz.out]; rfl, Hb2.out⟩

end Go.Proofs.Yteglefchkecfjab

/- impl's functions of chapter 11 in one form, as the laws' walks want them; conditions: lists are shorter than 2^40 (a graph: 2^20). -/
namespace Go.Proofs.Yteglefchkecfjab
open Go.RowKit

theorem impl_GraphValid (ac : Option Addr) (capc : Nat) (c : List Int) (g : List Vx) (v : Value) (fp : List Nat) (w : World) (hn : c.length ≤ 1099511627776) (hbig : g.length ≤ 1048576) (hps : ∀ x ∈ g, x.ps.length ≤ 1099511627776) (_hcc : c.length ≤ capc) (hc : IntsAt w ac c) (hg : Gr w g v fp) :
    Calls Try.prog 13 #[.slice ac c.length capc, v] w fun e w' => e = .returned (.bool (graphB c g)) ∧ Below w.heap.size w w' :=
  impl_GraphValid' ac capc c g v fp w hn hbig hps hc hg

theorem impl_GraphFind (ac : Option Addr) (capc : Nat) (c : List Int) (g : List Vx) (v : Value) (fp : List Nat) (r a : Int) (w : World) (hn : c.length ≤ 1099511627776) (hbig : g.length ≤ 1048576) (hps : ∀ x ∈ g, x.ps.length ≤ 1099511627776) (_hcc : c.length ≤ capc) (hc : IntsAt w ac c) (hg : Gr w g v fp) :
    Calls Try.prog 25 #[.slice ac c.length capc, v, .int .i64 r, .int .i64 a] w fun e w' => e = .returned (.int .i64 (gfZ c g r a)) ∧ Below w.heap.size w w' :=
  impl_GraphFind' ac capc c g v fp r a w hn hbig hps hc hg

theorem impl_GraphHeight (ac : Option Addr) (capc : Nat) (c : List Int) (g : List Vx) (v : Value) (fp : List Nat) (w : World) (hn : c.length ≤ 1099511627776) (hbig : g.length ≤ 1048576) (hps : ∀ x ∈ g, x.ps.length ≤ 1099511627776) (_hcc : c.length ≤ capc) (hc : IntsAt w ac c) (hg : Gr w g v fp) :
    Calls Try.prog 28 #[.slice ac c.length capc, v] w fun e w' => e = .returned (.int .i64 (ghZ c g)) ∧ Below w.heap.size w w' :=
  impl_GraphHeight' ac capc c g v fp w hn hbig hps hc hg

theorem impl_GraphAuthors (ac : Option Addr) (capc : Nat) (c : List Int) (g : List Vx) (v : Value) (fp : List Nat) (r : Int) (w : World) (hn : c.length ≤ 1099511627776) (hbig : g.length ≤ 1048576) (hps : ∀ x ∈ g, x.ps.length ≤ 1099511627776) (_hcc : c.length ≤ capc) (hc : IntsAt w ac c) (hg : Gr w g v fp) :
    Calls Try.prog 21 #[.slice ac c.length capc, v, .int .i64 r] w fun e w' => ∃ u, e = .returned u ∧ Own 3 w' w.heap.size u (gaZ c g r) ∧ Below w.heap.size w w' :=
  impl_GraphAuthors' ac capc c g v fp r w hn hbig hps hc hg

theorem impl_GraphAdd (ac : Option Addr) (capc : Nat) (c : List Int) (g : List Vx) (v : Value) (fp : List Nat) (x : Vx) (pa : Option Addr) (pc : Nat) (w : World) (hn : c.length ≤ 1099511627776) (hbig : g.length ≤ 1048576) (hps : ∀ y ∈ g, y.ps.length ≤ 1099511627776) (hbp : x.ps.length ≤ 1099511627776) (_hcc : c.length ≤ capc) (hc : IntsAt w ac c) (hg : Gr w g v fp) (_hpc : x.ps.length ≤ pc) (hs : SrcAt w pa pc x.ps) (hi : IntsAt w pa x.ps) :
    Calls Try.prog 16 #[.slice ac c.length capc, v, .agg #[.int .i64 x.r, .int .i64 x.a, .slice pa x.ps.length pc, .int .i64 x.d]] w fun e w' => ∃ u, e = .returned (.tuple #[u, .int .i64 (gaN c g x)]) ∧ OwnR 30 3 4 w' w.heap.size w'.heap.size u ((gaG c g x).map Vx.fd) ∧ Below w.heap.size w w' :=
  impl_GraphAdd' ac capc c g v fp x pa pc w hn hbig hps hbp hc hg hs hi

end Go.Proofs.Yteglefchkecfjab

/- The reader of a code: what it picks lies in the range that is asked, and nothing but the reader's own count is written; each by a walk of its text; condition: at most 2^40 picks. -/
namespace Go.Proofs.Yteglefchkecfjab
open Go.RowKit

/-- The reader in block R: its code reads as bytes; it has picked p times. -/
structure Rdr (w : World) (R : Nat) (p : Nat) : Prop where
  at0 : ∃ a cap zs, w.cell? ⟨R, 0, none⟩ = some (.slice a (List.length (α := Int) zs) cap) ∧ zs.length ≤ 2000 ∧ (∀ z ∈ zs, 0 ≤ z ∧ z ≤ 255) ∧
    (zs.length < 1 ∨ ∃ b off, a = some ⟨b, off, none⟩ ∧ b < w.heap.size ∧ b < R ∧ ∀ j (h : j < zs.length), w.cell? ⟨b, off + j, none⟩ = some (.int .u8 zs[j]))
  at1 : w.cell? ⟨R, 1, none⟩ = some (.int .i64 p)
  fr : w.frozen? ⟨R, 1, none⟩ = false

theorem bits_xor_i64_nat (a b : Nat) (ha : a < 4611686018427387904) (hb : b < 4611686018427387904) : bits .xor .i64 (a : Int) (b : Int) = ((a ^^^ b : Nat) : Int) := by
  have hx : a ^^^ b < 2 ^ 62 := Nat.xor_lt_two_pow (by omega) (by omega)
  have h1 : (BitVec.ofInt 64 (a : Int)).toNat = a := by simp; omega
  have h2 : (BitVec.ofInt 64 (b : Int)).toNat = b := by simp; omega
  show IntKind.i64.wrap ((BitVec.ofInt 64 (a : Int) ^^^ BitVec.ofInt 64 (b : Int)).toNat : Int) = _
  rw [BitVec.toNat_xor, h1, h2]
  exact IntWalk.i64_in _ (by omega)

/-- A code that came in: its bytes. -/
structure CodeAt (w : World) (a : Option Addr) (cap : Nat) (zs : List Int) : Prop where
  big : zs.length ≤ 1099511627776
  cap : zs.length ≤ cap
  byte : ∀ z ∈ zs, 0 ≤ z ∧ z ≤ 255
  cells : zs.length < 1 ∨ ∃ b off, a = some ⟨b, off, none⟩ ∧ b < w.heap.size ∧ ∀ j (h : j < zs.length), w.cell? ⟨b, off + j, none⟩ = some (.int .u8 zs[j])
theorem CodeAt.below {w w' : World} {a : Option Addr} {cap : Nat} {zs : List Int} (h : CodeAt w a cap zs) (hb : Below w.heap.size w w') : CodeAt w' a cap zs := by
  refine ⟨h.big, h.cap, h.byte, ?_⟩
  rcases h.cells with h0 | ⟨b, off, rfl, hlt, hc⟩
  · exact .inl h0
  · exact .inr ⟨b, off, rfl, Nat.lt_of_lt_of_le hlt hb.size, fun j hj => (hb.cell (p := ⟨b, off + j, none⟩) hlt).trans (hc j hj)⟩
theorem codeAt_of {w : World} {a : Option Addr} {cap : Nat} {zs : List Int} (hk : zs.length ≤ cap) (hm : zs.length ≤ 1048576) (hi : zs = [] ∨ ∃ b off, a = some ⟨b, off, none⟩ ∧ b < w.heap.size ∧ ∀ j (h : j < zs.length), w.cell? ⟨b, off + j, none⟩ = some (.int .u8 zs[j]))
    (hw : ∀ z ∈ zs, (Lit.int .u8 z).wf = true) : CodeAt w a cap zs := by
  have hc : zs.length < 1 ∨ ∃ b off, a = some ⟨b, off, none⟩ ∧ b < w.heap.size ∧ ∀ j (h : j < zs.length), w.cell? ⟨b, off + j, none⟩ = some (.int .u8 zs[j]) := by
    rcases hi with rfl | hi
    · exact .inl (by simp)
    · exact .inr hi
  refine ⟨by omega, hk, fun z hz => ?_, hc⟩
  have := hw z hz
  simp [Lit.wf, IntKind.min, IntKind.max, IntKind.signed, IntKind.bits] at this
  omega

/-- The world behind one pick. -/
def picked (w : World) (R p : Nat) : World := w.setCell ⟨R, 1, none⟩ (.int .i64 ((p : Int) + 1))
theorem picked_grown (w : World) (R p : Nat) : w.grownBy (picked w R p) (some R) :=
  ⟨rfl, rfl, rfl, by simp [picked, World.setCell], fun k _ hk => Below.heap_setCell _ _ _ _ (fun e => hk (by rw [e]))⟩
theorem picked_rdr {w : World} {R p : Nat} (h : Rdr w R p) : Rdr (picked w R p) R (p + 1) := by
  obtain ⟨⟨a, cap, zs, h0, hlen, hby, hb⟩, h1, hfr⟩ := h
  refine ⟨⟨a, cap, zs, (World.cell?_setCell_other _ _ _ _ (by simp)).trans h0, hlen, hby, ?_⟩, (World.cell?_setCell_same _ _ _ h1).trans (by simp), (World.frozen?_setCell _ _ _ _).trans hfr⟩
  rcases hb with hb | ⟨b, off, rfl, hlt, hne, hc⟩
  · exact .inl hb
  · exact .inr ⟨b, off, rfl, by simpa [picked, World.setCell] using hlt, hne, fun j hj => (World.cell?_setCell_other _ _ _ _ (by simp)).trans (hc j hj)⟩
theorem Rdr.kept {w w' : World} {R p : Nat} {row : Option Nat} (h : Rdr w R p) (hg : w.grownBy w' row) (hrow : ∀ g, row = some g → R < g) : Rdr w' R p := by
  obtain ⟨⟨a, cap, zs, h0, hlen, hby, hb⟩, h1, hfr⟩ := h
  have hRr : ∀ b, b ≤ R → some b ≠ row := fun b hb e => by have := hrow b e.symm; omega
  have hRs := World.block_lt_of_cell? w _ h1
  refine ⟨⟨a, cap, zs, hg.cell h0 (hRr _ (Nat.le_refl _)), hlen, hby, ?_⟩, hg.cell h1 (hRr _ (Nat.le_refl _)), (World.frozen?_of_block (hg.block R hRs (hRr _ (Nat.le_refl _)))).trans hfr⟩
  rcases hb with hb | ⟨b, off, rfl, hlt, hne, hc⟩
  · exact .inl hb
  · exact .inr ⟨b, off, rfl, Nat.lt_of_lt_of_le hlt hg.size, hne, fun j hj => hg.cell (hc j hj) (hRr b (by omega))⟩
theorem Rdr.alloc {w : World} {R p : Nat} (h : Rdr w R p) (o : Obj) : Rdr (w.alloc o) R p := h.kept (World.grownBy_alloc w o none) (by simp)
theorem Rdr.lt {w : World} {R p : Nat} (h : Rdr w R p) : R < w.heap.size := World.block_lt_of_cell? w _ h.at1
theorem Rdr.drewN {w : World} {R p : Nat} (h : Rdr w R p) (n : Nat) : Rdr (w.drewN n) R p := ⟨h.at0, h.at1, h.fr⟩
theorem grownBy_drewN {a w : World} {row : Option Nat} (h : a.grownBy w row) (n : Nat) : a.grownBy (w.drewN n) row := ⟨h.os, h.tape, h.output, h.size, h.block⟩

theorem pick_any (R : Nat) (n : Int) (p : Nat) (w : World) (hp : p ≤ 1099511627776) (hr : Rdr w R p) (hn : n ≤ 1099511627776) :
    Calls Try.prog 52 #[.pointer (some ⟨R, 0, none⟩), .int .i64 n] w fun e w' => ∃ k : Int, e = .returned (.int .i64 k) ∧ 0 ≤ k ∧ (k < n ∨ k = 0) ∧ Rdr w' R (p + 1) ∧ w.grownBy w' (some R) := by
  have hr' := picked_rdr hr
  have hg := picked_grown w R p
  have Hr := Lib.hid hr'
  have Hg := Lib.hid hg; clear hg
  obtain ⟨⟨a, cap, zs, h0, hlen, hby, hbytes⟩, h1, hfr⟩ := hr
  have hs0 : (w.setCell ⟨R, 1, none⟩ (.int .i64 ((p : Int) + 1))).cell? ⟨R, 0, none⟩ = some (.slice a zs.length cap) := (World.cell?_setCell_other _ _ _ _ (by simp)).trans h0
  have hs1 : (w.setCell ⟨R, 1, none⟩ (.int .i64 ((p : Int) + 1))).cell? ⟨R, 1, none⟩ = some (.int .i64 ((p : Int) + 1)) := World.cell?_setCell_same _ _ _ h1
  clear hr'
  by_cases hn1 : n < 1
  · go_enter Try.func52, Try.ntmps52
    go_wp2
    go_ret
    exact ⟨0, rfl, by omega, .inr rfl, Hr.out, Hg.out⟩
  by_cases hz : zs.length < 1
  · have hz1 : ((zs.length : Int) == 0) = true := by rw [beq_iff_eq]; omega
    go_enter Try.func52, Try.ntmps52
    go_wp2
    go_ret
    exact ⟨0, rfl, by omega, .inr rfl, Hr.out, Hg.out⟩
  have hz1 : ((zs.length : Int) == 0) = false := by rw [beq_eq_false_iff_ne]; omega
  obtain ⟨b, off, rfl, hlt, hne, hc⟩ := hbytes.resolve_left hz
  have hcc : ∀ j (h : j < zs.length), (w.setCell ⟨R, 1, none⟩ (.int .i64 ((p : Int) + 1))).cell? ⟨b, off + j, none⟩ = some (.int .u8 zs[j]) := fun j hj => (World.cell?_setCell_other _ _ _ _ (by simp)).trans (hc j hj)
  clear hc
  have Hc := Lib.hid hcc; clear hcc
  have Hby := Lib.hid hby; clear hby
  by_cases hpl : p < zs.length
  · have hcell := Hc.out p hpl
    have hbd := Hby.out zs[p] (List.getElem_mem hpl)
    go_enter Try.func52, Try.ntmps52
    go_wp2
    go_ret
    exact ⟨zs[p] % n, rfl, Int.emod_nonneg _ (by omega), .inl (Int.emod_lt_of_pos _ (by omega)), Hr.out, Hg.out⟩
  · have hq1 : p % zs.length < zs.length := Nat.mod_lt _ (by omega)
    have hq2 : (p * 7 + 3) % zs.length < zs.length := Nat.mod_lt _ (by omega)
    have hcell1 := Hc.out _ hq1
    have hcell2 := Hc.out _ hq2
    obtain ⟨hb1, hb1'⟩ := Hby.out _ (List.getElem_mem hq1)
    obtain ⟨hb2, hb2'⟩ := Hby.out _ (List.getElem_mem hq2)
    have hdv : p / zs.length ≤ p := Nat.div_le_self _ _
    generalize zs[p % zs.length] = x1 at hcell1 hb1 hb1'
    generalize zs[(p * 7 + 3) % zs.length] = x2 at hcell2 hb2 hb2'
    have m1 : ((p : Int)).tmod zs.length = ((p % zs.length : Nat) : Int) := by rw [Int.tmod_eq_emod_of_nonneg (by omega)]; omega
    have m2 : ((p : Int) * 7 + 3).tmod zs.length = (((p * 7 + 3) % zs.length : Nat) : Int) := by rw [Int.tmod_eq_emod_of_nonneg (by omega), Int.natCast_emod]; rfl
    have m3 : ((p : Int)).tdiv zs.length = ((p / zs.length : Nat) : Int) := by rw [Int.tdiv_eq_ediv_of_nonneg (by omega)]; omega
    generalize hQ1 : p % zs.length = q1 at *
    generalize hQ2 : (p * 7 + 3) % zs.length = q2 at *
    generalize hQ3 : p / zs.length = q3 at *
    have HQ1 := Lib.hid hQ1; clear hQ1
    have HQ2 := Lib.hid hQ2; clear hQ2
    have HQ3 := Lib.hid hQ3; clear hQ3
    have i1 : (q1 : Int) < zs.length := by omega
    have i2 : (q2 : Int) < zs.length := by omega
    have e1 : IntKind.i64.wrap (x1 * 131) = x1 * 131 := IntWalk.i64_in _ (by omega)
    have e2 : IntKind.i64.wrap ((p : Int) * 7) = p * 7 := IntWalk.i64_in _ (by omega)
    have e3 : IntKind.i64.wrap ((p : Int) * 7 + 3) = p * 7 + 3 := IntWalk.i64_in _ (by omega)
    have e4 : IntKind.i64.wrap (x2 * 1117) = x2 * 1117 := IntWalk.i64_in _ (by omega)
    have e5 : IntKind.i64.wrap (x1 * 131 + x2 * 1117) = x1 * 131 + x2 * 1117 := IntWalk.i64_in _ (by omega)
    have e6 : IntKind.i64.wrap ((p : Int) * 29) = p * 29 := IntWalk.i64_in _ (by omega)
    have e7 : IntKind.i64.wrap (x1 * 131 + x2 * 1117 + (p : Int) * 29) = x1 * 131 + x2 * 1117 + p * 29 := IntWalk.i64_in _ (by omega)
    have e8 : IntKind.i64.wrap ((q3 : Int) * 53) = q3 * 53 := IntWalk.i64_in _ (by omega)
    have e9 : IntKind.i64.wrap (x1 * 131 + x2 * 1117 + (p : Int) * 29 + (q3 : Int) * 53) = x1 * 131 + x2 * 1117 + p * 29 + q3 * 53 := IntWalk.i64_in _ (by omega)
    have e10 : IntKind.i64.wrap x1 = x1 := IntWalk.i64_in _ (by omega)
    have e11 : IntKind.i64.wrap x2 = x2 := IntWalk.i64_in _ (by omega)
    have e12 : IntKind.i64.wrap (q3 : Int) = q3 := IntWalk.i64_in _ (by omega)
    have hX : ∃ X : Nat, x1 * 131 + x2 * 1117 + (p : Int) * 29 + (q3 : Int) * 53 = X ∧ X < 4611686018427387904 := ⟨(x1 * 131 + x2 * 1117 + (p : Int) * 29 + (q3 : Int) * 53).toNat, by omega, by omega⟩
    obtain ⟨X, hX, hXb⟩ := hX
    rw [hX] at e9
    have HX := Lib.hid hX; clear hX
    have hx1 := bits_xor_i64_nat X (X / 64) hXb (Nat.lt_of_le_of_lt (Nat.div_le_self _ _) hXb)
    have Hx1 := Lib.hid hx1; clear hx1
    go_enter Try.func52, Try.ntmps52
    go_wp2
    go_quiet (fail)
    clear e1 e2 e3 e4 e5 e6 e7 e8 e9 e10 e11 e12 m1 m2 m3
    go_wp2
    go_ret
    rw [HX.out, show (X : Int) / 64 = ((X / 64 : Nat) : Int) from by simp, Hx1.out, Int.tmod_eq_emod_of_nonneg (by omega)]
    exact ⟨_, rfl, Int.emod_nonneg _ (by omega), .inl (Int.emod_lt_of_pos _ (by omega)), Hr.out.drewN _, grownBy_drewN Hg.out _⟩

theorem rdr_new (w : World) (a : Option Addr) (cap n : Nat) (zs : List Int) (T : TypeId) (hn : n = zs.length) (hlen : zs.length ≤ 2000) (hby : ∀ z ∈ zs, 0 ≤ z ∧ z ≤ 255)
    (hc : zs.length < 1 ∨ ∃ b off, a = some ⟨b, off, none⟩ ∧ b < w.heap.size ∧ ∀ j (h : j < zs.length), w.cell? ⟨b, off + j, none⟩ = some (.int .u8 zs[j])) :
    Rdr (w.alloc (.cells #[.slice a n cap, .int .i64 0] T)) w.heap.size 0 := by
  subst hn
  refine ⟨⟨a, cap, zs, by rw [World.cell?_alloc_at _ _ _ _ rfl]; rfl, hlen, hby, ?_⟩, by rw [World.cell?_alloc_at _ _ _ _ rfl]; rfl, World.frozen?_alloc_at _ _ _ _ rfl⟩
  rcases hc with h | ⟨b, off, rfl, hlt, h⟩
  · exact .inl h
  · exact .inr ⟨b, off, rfl, by simp; omega, hlt, fun j hj => (World.cell?_alloc_past _ _ _ hlt).trans (h j hj)⟩

theorem open_any (a : Option Addr) (cap : Nat) (zs : List Int) (w : World) (h : CodeAt w a cap zs) :
    Calls Try.prog 50 #[.slice a zs.length cap] w fun e w' => ∃ R, e = .returned (.pointer (some ⟨R, 0, none⟩)) ∧ w.heap.size ≤ R ∧ R < w'.heap.size ∧ Rdr w' R 0 ∧ Below w.heap.size w w' := by
  obtain ⟨hbig, hcap, hby, hc⟩ := h
  by_cases hl : zs.length ≤ 2000
  · go_enter Try.func50, Try.ntmps50
    go_wp2
    go_ret
    exact ⟨w.heap.size, rfl, Nat.le_refl _, by simp, rdr_new w a cap _ zs _ rfl hl hby hc, (Below.refl _ _).alloc (Nat.le_refl _) _⟩
  · obtain ⟨b, off, rfl, hlt, hcc⟩ := hc.resolve_left (by omega)
    go_enter Try.func50, Try.ntmps50
    go_wp2
    go_ret
    have ht : (zs.take 2000).length = 2000 := by rw [List.length_take]; omega
    exact ⟨w.heap.size, rfl, Nat.le_refl _, by simp, rdr_new w _ cap 2000 (zs.take 2000) _ ht.symm (by omega) (fun z hz => hby z (List.mem_of_mem_take hz)) (.inr ⟨b, off, rfl, hlt, fun j hj => by rw [hcc j (by omega), List.getElem_take]⟩), (Below.refl _ _).alloc (Nat.le_refl _) _⟩

end Go.Proofs.Yteglefchkecfjab

/- The draws of committees and of members: what is drawn is a short list of small numbers in new memory; each by a walk of its text; condition: at most 2^40 picks. -/
namespace Go.Proofs.Yteglefchkecfjab
open Go.RowKit

theorem TI' : IntT Try.prog 23 3 := ⟨Try.underlying23, by kernel_rfl⟩

def sizes9 : List Int := [4, 4, 4, 1, 2, 3, 5, 6, 7]
theorem sizes9_at (k : Nat) (hk : k < 9) : ∃ m : Nat, (#[Value.int .i64 4, .int .i64 4, .int .i64 4, .int .i64 1, .int .i64 2, .int .i64 3, .int .i64 5, .int .i64 6, .int .i64 7] : Array Value)[k]? = some (.int .i64 m) ∧ 1 ≤ m ∧ m ≤ 7 := by
  match k, hk with
  | 0, _ => exact ⟨4, rfl, by omega, by omega⟩
  | 1, _ => exact ⟨4, rfl, by omega, by omega⟩
  | 2, _ => exact ⟨4, rfl, by omega, by omega⟩
  | 3, _ => exact ⟨1, rfl, by omega, by omega⟩
  | 4, _ => exact ⟨2, rfl, by omega, by omega⟩
  | 5, _ => exact ⟨3, rfl, by omega, by omega⟩
  | 6, _ => exact ⟨5, rfl, by omega, by omega⟩
  | 7, _ => exact ⟨6, rfl, by omega, by omega⟩
  | 8, _ => exact ⟨7, rfl, by omega, by omega⟩

/-- Numbers between -1 and 10. -/
def Small (xs : List Int) : Prop := ∀ x ∈ xs, -1 ≤ x ∧ x ≤ 10

theorem small_push {xs : List Int} (h : Small xs) {z : Int} (h1 : -1 ≤ z) (h2 : z ≤ 10) : Small (xs ++ [z]) := by
  intro x hx
  rcases List.mem_append.1 hx with hx | hx
  · exact h x hx
  · simp at hx; subst hx; exact ⟨h1, h2⟩
theorem small_app {xs zs : List Int} (h : Small xs) (k : Small zs) : Small (xs ++ zs) := fun x hx => by
  rcases List.mem_append.1 hx with hx | hx
  · exact h x hx
  · exact k x hx
theorem small_set {xs : List Int} (h : Small xs) (j : Nat) {z : Int} (h1 : -1 ≤ z) (h2 : z ≤ 10) : Small (xs.set j z) := fun x hx => by
  rcases List.mem_or_eq_of_mem_set hx with hx | rfl
  · exact h x hx
  · exact ⟨h1, h2⟩
theorem lit4_at (k : Nat) (hk : k < 4) : ∃ z : Int, (#[Value.int .i64 0, .int .i64 9, .int .i64 10, .int .i64 (-1)] : Array Value)[k]? = some (.int .i64 z) ∧ -1 ≤ z ∧ z ≤ 10 := by
  match k, hk with
  | 0, _ => exact ⟨0, rfl, by omega, by omega⟩
  | 1, _ => exact ⟨9, rfl, by omega, by omega⟩
  | 2, _ => exact ⟨10, rfl, by omega, by omega⟩
  | 3, _ => exact ⟨-1, rfl, by omega, by omega⟩
theorem grown_row {w a b : World} {R : Nat} {row : Option Nat} (h : w.grownBy a (some R)) (k : a.grownBy b row) (hr : ∀ g, row = some g → w.heap.size ≤ g) : w.grownBy b (some R) :=
  ⟨k.os.trans h.os, k.tape.trans h.tape, k.output.trans h.output, Nat.le_trans h.size k.size, fun i hi hne => (k.block i (Nat.lt_of_lt_of_le hi h.size) (fun e => by have := hr i e.symm; omega)).trans (h.block i hi hne)⟩
theorem prod_bd {a b : Int} (h1 : 0 ≤ a) (h2 : a ≤ 3) (h3 : 0 ≤ b) (h4 : b ≤ 2) : 0 ≤ a * b ∧ a * b ≤ 6 :=
  ⟨Int.mul_nonneg h1 h3, Int.le_trans (Int.mul_le_mul h2 h4 h3 (by omega)) (by omega)⟩

theorem drawCommittee (R p : Nat) (w : World) (hp : p ≤ 1000000) (hr : Rdr w R p) (hR : R < w.heap.size) :
    Calls Try.prog 89 #[.pointer (some ⟨R, 0, none⟩)] w fun e w' => ∃ v xs p', e = .returned v ∧ Own 3 w' w.heap.size v xs ∧ xs.length ≤ 11 ∧ Small xs ∧ Rdr w' R p' ∧ p' ≤ p + 20 ∧ w.grownBy w' (some R) := by
  have hr1 := (hr.alloc (.cells #[] 3)).alloc (.cells #[.int .i64 4, .int .i64 4, .int .i64 4, .int .i64 1, .int .i64 2, .int .i64 3, .int .i64 5, .int .i64 6, .int .i64 7] 3)
  have ho1 := (own_empty 3 w (Nat.le_refl _)).alloc (.cells #[.int .i64 4, .int .i64 4, .int .i64 4, .int .i64 1, .int .i64 2, .int .i64 3, .int .i64 5, .int .i64 6, .int .i64 7] 3)
  have Hr1 := Lib.hid hr1; clear hr1
  have Ho1 := Lib.hid ho1; clear ho1
  go_enter Try.func89, Try.ntmps89
  go_wp2_with fail
  refine (pick_any R 9 p _ (by omega) Hr1.out (by omega)).mono ?_
  rintro e w2 ⟨k, rfl, hk0, hk1, hr2, hg2⟩
  obtain ⟨k, rfl⟩ := Int.eq_ofNat_of_zero_le hk0
  obtain ⟨m, hm, hm1, hm2⟩ := sizes9_at k (by omega)
  have hcell := lit_cell hg2 (by simp; omega) hm
  simp only [World.size_alloc] at hcell
  have hk9 : k < 9 := by omega
  have Hg2 := Lib.hid (grownBy_trans (grownBy_trans (World.grownBy_alloc w _ (some R)) (World.grownBy_alloc _ _ (some R))) hg2)
  have Ho2 := Lib.hid (Ho1.out.kept hg2 (.inr (by simp [Value.ownBlock]; omega)))
  have Hr2 := Lib.hid hr2; clear hr2
  clear hm hk0 hk1 hg2
  go_wp2_with fail
  go_loopw [3, 5] (fun v i wr => ∃ xs q, xs.length ≤ m ∧ i = .int .i64 (List.length (α := Int) xs) ∧ Own 3 wr w.heap.size v xs ∧ Small xs ∧ Rdr wr R q ∧ q ≤ p + 1 + 2 * xs.length ∧ w.grownBy wr (some R)) (fun _ i _ => m - (intOf i).toNat)
  case atStart => exact ⟨[], p + 1, by simp, rfl, Ho2.out, by intro x hx; simp at hx, Hr2.out, by simp, Hg2.out⟩
  case round =>
    obtain ⟨xs, q, hxm, rfl, hown, hsm, hrd, hq, hgr⟩ := hrel
    by_cases hlt : xs.length < m
    · have Hrd := Lib.hid hrd; clear hrd
      have Hown := Lib.hid hown; clear hown
      go_wp2_with fail
      refine (pick_any R 4 q _ (by omega) Hrd.out (by omega)).mono ?_
      rintro e w3 ⟨x, rfl, hx0, hx1, hr3, hg3⟩
      have Hr3 := Lib.hid hr3; clear hr3
      have Hg3 := Lib.hid (grownBy_trans hgr hg3)
      have Ho3 := Lib.hid (Hown.out.kept hg3 (.inr (fun e => by have := (Hown.out.lt R e).1; omega)))
      clear hg3
      go_wp2_with fail
      refine (pick_any R 3 (q + 1) _ (by omega) Hr3.out (by omega)).mono ?_
      rintro e w4 ⟨y, rfl, hy0, hy1, hr4, hg4⟩
      have Hr4 := Lib.hid hr4; clear hr4
      have Hg4 := Lib.hid (grownBy_trans Hg3.out hg4)
      have Ho4 := Lib.hid (Ho3.out.kept hg4 (.inr (fun e => by have := (Ho3.out.lt R e).1; omega)))
      clear hg4
      obtain ⟨hxy0, hxy1⟩ := prod_bd hx0 (show x ≤ 3 by omega) hy0 (show y ≤ 2 by omega)
      have hB := Hg4.out.size
      go_wp2_with (at_builtin; refine wpList_push TI' rfl (.tmp 17) (.tmp 25) rfl w.heap.size _ xs _ rfl Ho4.out (by omega) rfl hB ?_; intro v' w5 hown5 hg5)
      have Hr5 := Lib.hid (Hr4.out.kept hg5 (fun g e => by have := (Ho4.out.lt g e).1; omega))
      have Hg5 := Lib.hid (grown_row Hg4.out hg5 (fun g e => (Ho4.out.lt g e).1))
      clear hg5
      go_wp2
      go_roundw
      case rel => exact ⟨_, q + 2, by simp; omega, by simp, hown5, small_push hsm (by omega) (by omega), Hr5.out, by simp; omega, Hg5.out⟩
      case measure => simp [intOf]; omega
    · have Hrd := Lib.hid hrd; clear hrd
      have hxm' : xs.length = m := by omega
      obtain ⟨g, cap, rfl, hgB, hgs, hcap, hcells, hfz⟩ := hown.row (by omega)
      have Hown := Lib.hid hown; clear hown
      have Hcells := Lib.hid hcells; clear hcells
      have Hfz := Lib.hid hfz; clear hfz
      have Hm := Lib.hid hxm'; clear hxm'
      go_wp2_with fail
      refine (pick_any R 24 q _ (by omega) Hrd.out (by omega)).mono ?_
      rintro e w3 ⟨x, rfl, hx0, hx1, hr3, hg3⟩
      have Hr3 := Lib.hid hr3; clear hr3
      have Hg3 := Lib.hid (grownBy_trans hgr hg3)
      have Ho3 := Lib.hid (Hown.out.kept hg3 (.inr (by simp [Value.ownBlock]; omega)))
      have hB := Hg3.out.size
      clear hg3 Hcells Hfz
      by_cases h0 : x = 0
      · subst h0
        go_wp2_with (at_builtin; refine wpList_pushes TI' rfl (.tmp 31) (.tmp 32) rfl w.heap.size _ xs [1, 1, 1, 1] 4 _ rfl rfl rfl Ho3.out (by simp; omega) rfl hB ?_; intro v' w5 hown5 hg5)
        go_ret
        exact ⟨_, _, _, rfl, hown5, by simp; omega, small_app hsm (by intro z hz; simp at hz; omega),
          Hr3.out.kept hg5 (fun g' e => by have := (Ho3.out.lt g' e).1; omega), by omega, grown_row Hg3.out hg5 (fun g' e => (Ho3.out.lt g' e).1)⟩
      have h0' : (x == 0) = false := by rw [beq_eq_false_iff_ne]; exact h0
      by_cases h1 : x = 1
      · subst h1
        have Hxl := Lib.hid (show (xs.length : Int) = m by omega)
        go_wp2_with fail
        refine (pick_any R m (q + 1) _ (by omega) Hr3.out (by omega)).mono ?_
        rintro e w4 ⟨y, rfl, hy0, hy1, hr4, hg4⟩
        obtain ⟨y, rfl⟩ := Int.eq_ofNat_of_zero_le hy0
        have Hr4 := Lib.hid (hr4.alloc (.cells #[.int .i64 0, .int .i64 9, .int .i64 10, .int .i64 (-1)] 3)); clear hr4
        have Hg4 := Lib.hid ((grownBy_trans Hg3.out hg4))
        have Ho4 := Lib.hid (Ho3.out.kept hg4 (.inr (by simp [Value.ownBlock]; omega)))
        have hs4 := Hg4.out.size
        clear hg4
        go_wp2_with fail
        refine (pick_any R 4 (q + 1 + 1) _ (by omega) Hr4.out (by omega)).mono ?_
        rintro e w5 ⟨u, rfl, hu0, hu1, hr5, hg5⟩
        obtain ⟨u, rfl⟩ := Int.eq_ofNat_of_zero_le hu0
        obtain ⟨z, hz, hz1, hz2⟩ := lit4_at u (by omega)
        have hcell := lit_cell hg5 (by simp; omega) hz
        have Ho5 := Lib.hid ((Ho4.out.alloc _).kept hg5 (.inr (by simp [Value.ownBlock]; omega)))
        have Hg5 := Lib.hid (grownBy_trans (grownBy_trans Hg4.out (World.grownBy_alloc _ _ _)) hg5)
        have Hr5 := Lib.hid hr5; clear hr5
        have hu4 : u < 4 := by omega
        have hyx : y < xs.length := by omega
        have hs5 := Hg5.out.size
        obtain ⟨g', cap', hv', hgB', hgs', hcap', hcells', hfz'⟩ := Ho5.out.row (by omega)
        simp only [Value.slice.injEq, Option.some.injEq, Addr.mk.injEq, and_true, true_and] at hv'
        obtain ⟨rfl, rfl⟩ := hv'
        have hold := hcells' y hyx
        have hfr := hfz' y
        clear hg5 hz hu0 hu1 hy0 hy1 hcells' hfz' hgs'
        go_wp2
        go_ret
        have hst := Ho5.out.store rfl y z
        exact ⟨_, _, _, rfl, hst.1, by simp; omega, small_set hsm y hz1 hz2, Hr5.out.kept hst.2 (fun g' e => by simp at e; omega), by omega, grown_row Hg5.out hst.2 (fun g' e => by simp at e; omega)⟩
      have h1' : (x == 1) = false := by rw [beq_eq_false_iff_ne]; exact h1
      by_cases h2 : x = 2
      · subst h2
        go_wp2
        go_ret
        exact ⟨_, _, _, rfl, Ho3.out.front 0 (by omega), by simp, by intro z hz; simp at hz, Hr3.out, by omega, Hg3.out⟩
      have h2' : (x == 2) = false := by rw [beq_eq_false_iff_ne]; exact h2
      go_wp2
      go_ret
      exact ⟨_, _, _, rfl, Ho3.out, by omega, hsm, Hr3.out, by omega, Hg3.out⟩

theorem drawMembers (R p n : Nat) (w : World) (hp : p ≤ 1000000) (hn : n ≤ 1000) (hr : Rdr w R p) (hR : R < w.heap.size) :
    Calls Try.prog 105 #[.pointer (some ⟨R, 0, none⟩), .int .i64 n] w fun e w' => ∃ v xs p', e = .returned v ∧ Own 3 w' w.heap.size v xs ∧ xs.length ≤ n + 1 ∧ Rdr w' R p' ∧ p' ≤ p + n + 2 ∧ w.grownBy w' (some R) := by
  have Hr1 := Lib.hid (hr.alloc (.cells #[] 3)); clear hr
  go_enter Try.func105, Try.ntmps105
  go_wp2_with fail
  go_loopw [5, 6] (fun v i wr => ∃ xs k, k ≤ n ∧ xs.length ≤ k ∧ i = .int .i64 (k : Nat) ∧ Own 3 wr w.heap.size v xs ∧ Rdr wr R (p + k) ∧ w.grownBy wr (some R)) (fun _ i _ => n - (intOf i).toNat)
  case atStart => exact ⟨[], 0, by simp, by simp, rfl, own_empty _ _ (Nat.le_refl _), Hr1.out, World.grownBy_alloc _ _ _⟩
  case round =>
    obtain ⟨xs, k, hkn, hxk, rfl, hown, hrd, hgr⟩ := hrel
    have Hrd := Lib.hid hrd; clear hrd
    have Hown := Lib.hid hown; clear hown
    by_cases hlt : k < n
    · go_wp2_with fail
      refine (pick_any R 4 (p + k) _ (by omega) Hrd.out (by omega)).mono ?_
      rintro e w3 ⟨x, rfl, hx0, hx1, hr3, hg3⟩
      have Hr3 := Lib.hid hr3; clear hr3
      have Hg3 := Lib.hid (grownBy_trans hgr hg3)
      have Ho3 := Lib.hid (Hown.out.kept hg3 (.inr (fun e => by have := (Hown.out.lt R e).1; omega)))
      have hB := Hg3.out.size
      clear hg3
      by_cases hx : 0 < x
      · go_wp2_with (at_builtin; refine wpList_push TI' rfl (.tmp 16) (.tmp 18) rfl w.heap.size _ xs _ rfl Ho3.out (by omega) rfl hB ?_; intro v' w5 hown5 hg5)
        go_roundw
        case rel => exact ⟨_, k + 1, by omega, by simp; omega, by go_num, hown5, Hr3.out.kept hg5 (fun g e => by have := (Ho3.out.lt g e).1; omega), grown_row Hg3.out hg5 (fun g e => (Ho3.out.lt g e).1)⟩
        case measure => simp [intOf]; omega
      · go_wp2
        go_roundw
        case rel => exact ⟨xs, k + 1, by omega, by omega, by go_num, Ho3.out, Hr3.out, Hg3.out⟩
        case measure => simp [intOf]; omega
    · have hk : k = n := by omega
      have hkn' : (k : Int) = n := by omega
      go_wp2_with fail
      refine (pick_any R 16 (p + k) _ (by omega) Hrd.out (by omega)).mono ?_
      rintro e w3 ⟨x, rfl, hx0, hx1, hr3, hg3⟩
      have Hr3 := Lib.hid hr3; clear hr3
      have Hg3 := Lib.hid (grownBy_trans hgr hg3)
      have Ho3 := Lib.hid (Hown.out.kept hg3 (.inr (fun e => by have := (Hown.out.lt R e).1; omega)))
      have hB := Hg3.out.size
      clear hg3
      have Hk := Lib.hid hk; clear hk hkn'
      by_cases h0 : x = 0
      · subst h0
        go_wp2_with (at_builtin; refine wpList_push TI' rfl (.tmp 24) (.tmp 26) rfl w.heap.size _ xs _ rfl Ho3.out (by omega) rfl hB ?_; intro v' w5 hown5 hg5)
        go_ret
        exact ⟨_, _, _, rfl, hown5, by simp; omega, Hr3.out.kept hg5 (fun g e => by have := (Ho3.out.lt g e).1; omega), by omega, grown_row Hg3.out hg5 (fun g e => (Ho3.out.lt g e).1)⟩
      have h0' : (x == 0) = false := by rw [beq_eq_false_iff_ne]; exact h0
      by_cases h1 : x = 1
      · subst h1
        go_wp2_with fail
        refine (pick_any R 8 (p + k + 1) _ (by omega) Hr3.out (by omega)).mono ?_
        rintro e w4 ⟨y, rfl, hy0, hy1, hr4, hg4⟩
        have Hr4 := Lib.hid hr4; clear hr4
        have Hg4 := Lib.hid (grownBy_trans Hg3.out hg4)
        have Ho4 := Lib.hid (Ho3.out.kept hg4 (.inr (fun e => by have := (Ho3.out.lt R e).1; omega)))
        have hB4 := Hg4.out.size
        clear hg4
        go_wp2_with (at_builtin; refine wpList_push TI' rfl (.tmp 30) (.tmp 34) rfl w.heap.size _ xs _ rfl Ho4.out (by omega) rfl hB4 ?_; intro v' w5 hown5 hg5)
        go_ret
        exact ⟨_, _, _, rfl, hown5, by simp; omega, Hr4.out.kept hg5 (fun g e => by have := (Ho4.out.lt g e).1; omega), by omega, grown_row Hg4.out hg5 (fun g e => (Ho4.out.lt g e).1)⟩
      have h1' : (x == 1) = false := by rw [beq_eq_false_iff_ne]; exact h1
      go_wp2
      go_ret
      exact ⟨_, _, _, rfl, Ho3.out, by omega, Hr3.out, by omega, Hg3.out⟩

theorem below_of_row {w w' : World} {R B : Nat} (h : w.grownBy w' (some R)) (hR : B ≤ R) (hB : B ≤ w.heap.size) : Below B w w' :=
  ⟨h.os, h.tape, h.output, h.size, fun k hk => h.block k (by omega) (fun e => by injection e with e; omega)⟩

end Go.Proofs.Yteglefchkecfjab

/- The draws of digests, leaves and texts: what is drawn is short and lies in new memory; each by a walk of its text; condition: at most 2^40 picks. -/
namespace Go.Proofs.Yteglefchkecfjab
open Go.RowKit

/-- Numbers between -1 and 991. -/
def Digs (xs : List Int) : Prop := ∀ x ∈ xs, -1 ≤ x ∧ x ≤ 991
theorem digs_app {xs zs : List Int} (h : Digs xs) (k : Digs zs) : Digs (xs ++ zs) := fun x hx => by
  rcases List.mem_append.1 hx with hx | hx
  · exact h x hx
  · exact k x hx
theorem digs_one {z : Int} (h1 : -1 ≤ z) (h2 : z ≤ 991) : Digs [z] := fun x hx => by simp at hx; subst hx; exact ⟨h1, h2⟩
theorem digs_set {xs : List Int} (h : Digs xs) (j : Nat) {z : Int} (h1 : -1 ≤ z) (h2 : z ≤ 991) : Digs (xs.set j z) := fun x hx => by
  rcases List.mem_or_eq_of_mem_set hx with hx | rfl
  · exact h x hx
  · exact ⟨h1, h2⟩
theorem grown_row' {w a b : World} {R : Nat} {row : Option Nat} (h : w.grownBy a (some R)) (k : a.grownBy b row) (hr : ∀ g, row = some g → w.heap.size ≤ g) : w.grownBy b (some R) :=
  ⟨k.os.trans h.os, k.tape.trans h.tape, k.output.trans h.output, Nat.le_trans h.size k.size, fun i hi hne => (k.block i (Nat.lt_of_lt_of_le hi h.size) (fun e => by have := hr i e.symm; omega)).trans (h.block i hi hne)⟩
theorem below_of_row' {w w' : World} {R B : Nat} (h : w.grownBy w' (some R)) (hR : B ≤ R) (hB : B ≤ w.heap.size) : Below B w w' :=
  ⟨h.os, h.tape, h.output, h.size, fun k hk => h.block k (by omega) (fun e => by injection e with e; omega)⟩
theorem dig4_at (k : Nat) (hk : k < 4) : ∃ z : Int, (#[Value.int .i64 (-1), .int .i64 0, .int .i64 990, .int .i64 991] : Array Value)[k]? = some (.int .i64 z) ∧ -1 ≤ z ∧ z ≤ 991 := by
  match k, hk with
  | 0, _ => exact ⟨-1, rfl, by omega, by omega⟩
  | 1, _ => exact ⟨0, rfl, by omega, by omega⟩
  | 2, _ => exact ⟨990, rfl, by omega, by omega⟩
  | 3, _ => exact ⟨991, rfl, by omega, by omega⟩

theorem drawDigest (R p : Nat) (w : World) (hp : p ≤ 1000000) (hr : Rdr w R p) :
    Calls Try.prog 58 #[.pointer (some ⟨R, 0, none⟩)] w fun e w' => ∃ (d : Int) (p' : Nat), e = .returned (.int .i64 d) ∧ -1 ≤ d ∧ d ≤ 991 ∧ Rdr w' R p' ∧ p' ≤ p + 3 ∧ w.grownBy w' (some R) := by
  have Hr := Lib.hid hr; clear hr
  go_enter Try.func58, Try.ntmps58
  go_wp2_with fail
  refine (pick_any R 16 p _ (by omega) Hr.out (by omega)).mono ?_
  rintro e w1 ⟨x, rfl, hx0, hx1, hr1, hg1⟩
  have Hr1 := Lib.hid (hr1.alloc (.cells #[.int .i64 (-1), .int .i64 0, .int .i64 990, .int .i64 991] 3))
  have Hr1' := Lib.hid hr1; clear hr1
  have Hg1 := Lib.hid hg1; clear hg1
  have hRs := Hr1'.out.lt
  by_cases h0 : x = 0
  · subst h0
    go_wp2_with fail
    refine (pick_any R 4 (p + 1) _ (by omega) Hr1.out (by omega)).mono ?_
    rintro e w2 ⟨u, rfl, hu0, hu1, hr2, hg2⟩
    obtain ⟨u, rfl⟩ := Int.eq_ofNat_of_zero_le hu0
    obtain ⟨z, hz, hz1, hz2⟩ := dig4_at u (by omega)
    have hcell := lit_cell hg2 (by simp; omega) hz
    have Hg2 := Lib.hid (grownBy_trans (grownBy_trans Hg1.out (World.grownBy_alloc _ _ _)) hg2)
    have hu4 : u < 4 := by omega
    have Hr2 := Lib.hid hr2
    clear hg2 hz hu0 hu1 hr2
    go_wp2
    go_ret
    exact ⟨z, _, rfl, hz1, hz2, Hr2.out, by omega, Hg2.out⟩
  · have h0' : (x == 0) = false := by rw [beq_eq_false_iff_ne]; exact h0
    go_wp2_with fail
    refine (pick_any R 99 (p + 1) _ (by omega) Hr1'.out (by omega)).mono ?_
    rintro e w2 ⟨u, rfl, hu0, hu1, hr2, hg2⟩
    have Hr2 := Lib.hid hr2
    have Hg2 := Lib.hid (grownBy_trans Hg1.out hg2)
    clear hr2 hg2
    go_wp2_with fail
    refine (pick_any R 10 (p + 2) _ (by omega) Hr2.out (by omega)).mono ?_
    rintro e w3 ⟨y, rfl, hy0, hy1, hr3, hg3⟩
    have Hr3 := Lib.hid hr3
    have Hg3 := Lib.hid (grownBy_trans Hg2.out hg3)
    clear hr3 hg3
    go_wp2
    go_ret
    exact ⟨_, _, rfl, by omega, by omega, Hr3.out, by omega, Hg3.out⟩

end Go.Proofs.Yteglefchkecfjab

/- The draws of graphs: what is drawn is a graph in new memory, each by a walk of its text; condition: at most 10^5 picks before. -/
namespace Go.Proofs.Yteglefchkecfjab
open Go.RowKit

theorem own_litG (E : TypeId) (w : World) {B : Nat} (xs : List Int) (hB : B ≤ w.heap.size) (hm : xs.length ≤ maxLen) :
    Own E (w.alloc (.cells (xs.map (Value.int .i64)).toArray E)) B (.slice (some ⟨w.heap.size, 0, none⟩) xs.length xs.length) xs :=
  ⟨by simp, .inr ⟨w.heap.size, xs.length, _, rfl, hB, heap_alloc_new w _, Nat.le_refl _, hm, by simp, by simp [List.take_of_length_le]⟩⟩

theorem drawGoodV (R p : Nat) (w : World) (hp : p ≤ 1000000) (hr : Rdr w R p) (hR : R < w.heap.size) :
    Calls Try.prog 103 #[.pointer (some ⟨R, 0, none⟩)] w fun e w' => ∃ v xs p', e = .returned v ∧ Own 3 w' w.heap.size v xs ∧ validB xs = true ∧ Rdr w' R p' ∧ p' ≤ p + 20 ∧ w.grownBy w' (some R) := by
  go_enter Try.func103, Try.ntmps103
  go_wp2_with fail
  refine (drawCommittee R p _ hp hr hR).mono ?_
  rintro e w2 ⟨v, c, p', rfl, hown, hcl, hsm, hr2, hp', hg2⟩
  obtain ⟨a, cap, rfl, hi, _⟩ := hown.ints
  have hz := hg2.size
  have hv' := spec_CommitteeValid a cap c w2 (by omega) hi
  have Hr2 := Lib.hid hr2; clear hr2
  have Hg2 := Lib.hid hg2; clear hg2
  cases hv : validB c with
  | true =>
    rw [hv] at hv'
    have Hvv := Lib.hid hv
    have Hv := Lib.hid hv'; clear hv' hv hi
    have Hown := Lib.hid hown; clear hown
    go_wp2_with fail
    refine Hv.out.mono ?_
    rintro e w3 ⟨rfl, rfl⟩
    go_wp2
    go_ret
    exact ⟨_, c, p', rfl, Hown.out, Hvv.out, Hr2.out, hp', Hg2.out⟩
  | false =>
    rw [hv] at hv'
    have Hv := Lib.hid hv'; clear hv' hv hi hown
    go_wp2_with fail
    refine Hv.out.mono ?_
    rintro e w3 ⟨rfl, rfl⟩
    go_wp2
    go_ret
    exact ⟨_, [1, 1, 1, 1], p', rfl, own_litG 3 w2 [1, 1, 1, 1] hz (by unfold maxLen; simp), by decide, Hr2.out.alloc _, hp', grownBy_trans Hg2.out (World.grownBy_alloc _ _ _)⟩

/-- Valid vertices in order. -/
def GOk (c : List Int) (g : List Vx) : Prop := (∀ x ∈ g, vtxB c x = true) ∧ g.Pairwise fun a b => befB a b = true
theorem gOk_nil (c : List Int) : GOk c [] := ⟨by simp, .nil⟩
theorem gOk_push {c : List Int} {g : List Vx} {x : Vx} (h : GOk c g) (hx : vtxB c x = true) (hb : ∀ y ∈ g, y.r < x.r ∨ y.r = x.r ∧ y.a < x.a) : GOk c (g ++ [x]) := by
  refine ⟨fun y hy => ?_, List.pairwise_append.2 ⟨h.2, by simp, fun a ha b hb' => ?_⟩⟩
  · rcases List.mem_append.1 hy with hy | hy
    · exact h.1 y hy
    · simp at hy; subst hy; exact hx
  · simp at hb'; subst hb'
    exact decide_eq_true (hb a ha)
theorem gOk_auth {c : List Int} {g : List Vx} (h : GOk c g) (r : Int) : (authZ g r).Pairwise (· < ·) ∧ ∀ m ∈ authZ g r, 0 ≤ m ∧ m < c.length := by
  refine ⟨?_, fun m hm => ?_⟩
  · unfold authZ
    rw [List.pairwise_map]
    refine List.Pairwise.imp_of_mem (R := fun a b => befB a b = true) (fun {a b} ha hb hab => ?_) (h.2.filter _)
    have ha := of_decide_eq_true (List.mem_filter.1 ha).2
    have hb := of_decide_eq_true (List.mem_filter.1 hb).2
    have := of_decide_eq_true hab
    omega
  · unfold authZ at hm
    obtain ⟨x, hx, rfl⟩ := List.mem_map.1 hm
    exact vtx_author (h.1 x (List.mem_filter.1 hx).1)
theorem members_sub {n : Nat} {H ps : List Int} (h : H.Pairwise (· < ·) ∧ ∀ m ∈ H, 0 ≤ m ∧ m < n) (hs : ps.Sublist H) : membersB n ps = true :=
  members_pairwise (h.1.sublist hs) fun m hm => h.2 m (hs.subset hm)

theorem OwnR.apartI {E E' Ei : TypeId} {sz : Nat} {w : World} {B B' hi : Nat} {v u : Value} {es : List (List Fd)} {xs : List Int} (h : OwnR E Ei sz w B hi v es) (h' : Own E' w B' u xs) (hE : E ≠ E') : u.ownBlock = none ∨ u.ownBlock ≠ v.ownBlock := by
  obtain ⟨cs, h1, _⟩ := h.row
  rcases h'.2 with ⟨rfl, _⟩ | ⟨g, cap, cur, rfl, _, hg, _⟩
  · exact .inl rfl
  · rcases h1.2 with ⟨rfl, _⟩ | ⟨g', cap', cur', rfl, _, hg', _⟩
    · exact .inr (fun e => by cases e)
    · refine .inr fun e => hE ?_
      have e' : g = g' := by cases e; rfl
      subst e'
      rw [hg] at hg'
      cases hg'
      rfl

set_option maxRecDepth 8000 in
set_option maxHeartbeats 4000000 in
theorem drawGraph (R p : Nat) (rounds : Int) (w : World) (ac : Option Addr) (capc : Nat) (c : List Int) (hp : p ≤ 100000) (hn0 : 0 ≤ rounds) (hn1 : rounds ≤ 40) (hv : validB c = true) (hr : Rdr w R p) (hR : R < w.heap.size) (hc : ∀ W, w.grownBy W (some R) → IntsAt W ac c) :
    Calls Try.prog 104 #[.pointer (some ⟨R, 0, none⟩), .slice ac c.length capc, .int .i64 rounds] w fun e w' => ∃ v g p', e = .returned v ∧ OwnR 30 3 4 w' w.heap.size w'.heap.size v (g.map Vx.fd) ∧ GOk c g ∧ g.length ≤ 280 ∧ Rdr w' R p' ∧ p' ≤ p + 80000 ∧ w.grownBy w' (some R) := by
  obtain ⟨hc1, hc7⟩ := validB_len hv
  have Hr0 := Lib.hid (hr.alloc (.cells #[] 30)); clear hr
  have Hg0 := Lib.hid (World.grownBy_alloc w (.cells #[] 30) (some R))
  have hv0 : OwnR 30 3 4 (w.alloc (.cells #[] 30)) w.heap.size (w.alloc (.cells #[] 30)).heap.size (.slice (some ⟨w.heap.size, 0, none⟩) 0 0) [] := .nil (World.ownsRow_made w #[] 0 (Nat.le_refl _) (by simp) (by simp)) (fun g e => by cases e; simp)
  have Hv0 := Lib.hid hv0; clear hv0
  have Hc := Lib.hid hc; clear hc
  obtain ⟨rounds, rfl⟩ := Int.eq_ofNat_of_zero_le hn0
  have HWt := Lib.hid (fun ps am cap W (hm : membersB c.length ps = true) (hl : ps.length ≤ 1099511627776) h h' => spec_l1Weight ac capc c am cap ps W hv hm hl h h')
  have HQt := Lib.hid (fun W h => spec_l1Quorum ac capc c W hv h)
  have HVx := Lib.hid (fun r a d pa pc ps W (hl : ps.length ≤ 1099511627776) h h' => spec_l11Vertex ac capc c r a d pa pc ps W hv hl h h')
  go_enter Try.func104, Try.ntmps104
  go_wp2_with fail
  go_loopw [7, 8] (fun v i wr => ∃ (n : Nat) (g : List Vx) (q : Nat), n ≤ rounds ∧ i = .int .i64 n ∧ OwnR 30 3 4 wr w.heap.size wr.heap.size v (g.map Vx.fd) ∧ GOk c g ∧ (∀ x ∈ g, x.r < n) ∧ g.length ≤ 7 * n ∧ Rdr wr R q ∧ q ≤ p + 2000 * n ∧ w.grownBy wr (some R)) (fun _ i _ => rounds - (intOf i).toNat)
  case atStart => exact ⟨0, [], p, Nat.zero_le _, rfl, Hv0.out, gOk_nil c, by simp, by simp, Hr0.out, by omega, Hg0.out⟩
  case round =>
    obtain ⟨n, g0, q0, hn, rfl, hown, hok, hlt0, hgl, hrd, hq, hgr⟩ := hrel
    have Hown := Lib.hid hown; clear hown
    have Hrd := Lib.hid hrd; clear hrd
    have Hgr := Lib.hid hgr; clear hgr
    have Hok := Lib.hid hok; clear hok
    have Hlt0 := Lib.hid hlt0; clear hlt0
    by_cases hlt : n < rounds
    case neg =>
      have hn40 : n ≤ 40 := by omega
      go_wp2
      go_ret
      exact ⟨_, g0, q0, rfl, Hown.out, Hok.out, by omega, Hrd.out, by omega, Hgr.out⟩
    case pos =>
    obtain ⟨fo, hro⟩ := Hown.out.reads
    have hwn : IntKind.i64.wrap ((n : Int) - 1) = n - 1 := IntWalk.i64_in _ (by omega)
    have Hau := Lib.hid (spec_l11Authors g0 _ fo ((n : Int) - 1) wr (by omega) hro); clear hro
    have Hasc := Lib.hid (gOk_auth Hok.out ((n : Int) - 1))
    have hHl := authZ_len g0 ((n : Int) - 1)
    generalize authZ g0 ((n : Int) - 1) = H at *
    go_wp2_with fail
    refine Hau.out.mono ?_
    rintro e w2 ⟨uh, rfl, hoh, hb2⟩
    have hs2 := hb2.size
    have Hown2 := Lib.hid (Hown.out.below hb2 (Nat.le_refl _))
    have Hrd2 := Lib.hid (Hrd.out.kept (below_grown hb2) (fun g e => by cases e))
    have Hgr2 := Lib.hid (grown_row Hgr.out (below_grown hb2) (fun g e => by cases e))
    have hRw := Hgr.out.size
    have Hoh := Lib.hid (hoh.mono hRw)
    obtain ⟨ah, ch, rfl, hih, hsh, _⟩ := hoh.src
    clear hb2 hoh hih hsh
    go_wp2
    go_loopw [7, 10] (fun v i wr => ∃ (a : Nat) (g : List Vx) (q : Nat), a ≤ c.length ∧ i = .int .i64 a ∧ OwnR 30 3 4 wr w.heap.size wr.heap.size v (g.map Vx.fd) ∧ GOk c g ∧ (∀ x ∈ g, x.r < n ∨ x.r = n ∧ x.a < a) ∧ g.length ≤ 7 * n + a ∧ Rdr wr R q ∧ q ≤ p + 2000 * n + 283 * a ∧ w.grownBy wr (some R) ∧ Own 3 wr w.heap.size (.slice ah H.length ch) H ∧ w2.heap.size ≤ wr.heap.size) (fun _ i _ => c.length - (intOf i).toNat)
    case atStart => exact ⟨0, g0, q0, Nat.zero_le _, rfl, Hown2.out.mono hs2, Hok.out, fun x hx => .inl (Hlt0.out x hx), by omega, Hrd2.out, by omega, Hgr2.out, Hoh.out, Nat.le_refl _⟩
    case round =>
      obtain ⟨a, g, q, ha, rfl, hown, hok, hord, hgl, hrd, hq, hgr, hoh, hsz⟩ := hrel
      have Hown := Lib.hid hown; clear hown
      have Hrd := Lib.hid hrd; clear hrd
      have Hgr := Lib.hid hgr; clear hgr
      have Hok := Lib.hid hok; clear hok
      have Hord := Lib.hid hord; clear hord
      have Hoh := Lib.hid hoh; clear hoh
      by_cases hal : a < c.length
      case neg =>
        have hac : a = c.length := by omega
        subst hac
        go_wp2
        go_roundw
        case rel => exact ⟨n + 1, g, q, by omega, by go_num, Hown.out, Hok.out, fun x hx => by have := Hord.out x hx; omega, by omega, Hrd.out, by omega, Hgr.out⟩
        case measure => simp [intOf]; omega
      case pos =>
      go_wp2_with fail
      refine (pick_any R 6 q _ (by omega) Hrd.out (by omega)).mono ?_
      rintro e w3 ⟨z, rfl, hz0, hz1, hr3, hg3⟩
      have hs3 := hg3.size
      have Hrd3 := Lib.hid hr3; clear hr3
      have Hgr3 := Lib.hid (grownBy_trans Hgr.out hg3)
      have Hown3 := Lib.hid ((Hown.out.same fun b h1 h2 => hg3.block b (by omega) (fun e => by cases e; omega)).mono hs3)
      have Hoh3 := Lib.hid (Hoh.out.kept hg3 (.inr fun e => by have := (Hoh.out.lt R e).1; omega))
      clear hg3
      by_cases hz : z = 0
      · subst hz
        go_wp2
        go_roundw
        case rel => exact ⟨a + 1, g, q + 1, by omega, by go_num, Hown3.out, Hok.out, fun x hx => by have := Hord.out x hx; omega, by omega, Hrd3.out, by omega, Hgr3.out, Hoh3.out, by omega⟩
        case measure => simp [intOf]; omega
      have hz' : (z == 0) = false := by simpa using hz
      clear hz hz0 hz1 Hrd Hgr Hown Hoh
      have hwa : IntKind.i64.wrap (31 * (n : Int)) = 31 * n := IntWalk.i64_in _ (by omega)
      have hwb : IntKind.i64.wrap (7 * (a : Int)) = 7 * a := IntWalk.i64_in _ (by omega)
      have hwc : IntKind.i64.wrap (31 * (n : Int) + 7 * (a : Int)) = 31 * n + 7 * a := IntWalk.i64_in _ (by omega)
      go_wp2_with fail
      refine (pick_any R 90 (q + 1) _ (by omega) (Hrd3.out.alloc _) (by omega)).mono ?_
      rintro e w5 ⟨y, rfl, hy0, hy1, hr5, hg5⟩
      have ho5 := (own_empty 3 w3 (Nat.le_refl _)).kept hg5 (.inr fun e => by have := Hrd3.out.lt; simp [Value.ownBlock] at e; omega)
      have hg5' := grownBy_trans (World.grownBy_alloc w3 (.cells #[] 3) (some R)) hg5
      have hs5 : w3.heap.size + 1 ≤ w5.heap.size := by have := hg5.size; simpa using this
      have Hrd5 := Lib.hid hr5; clear hr5
      have Ho5 := Lib.hid ho5; clear ho5
      have Hg5 := Lib.hid hg5'; clear hg5' hg5
      have hwd : IntKind.i64.wrap (31 * (n : Int) + 7 * (a : Int) + y) = 31 * n + 7 * a + y := IntWalk.i64_in _ (by omega)
      obtain ⟨D, hD⟩ : ∃ D, (31 * (n : Int) + 7 * (a : Int) + y).tmod 991 = D := ⟨_, rfl⟩
      have hDb : -9223372036854775808 ≤ D ∧ D ≤ 9223372036854775807 := by
        rw [← hD, Int.tmod_eq_emod_of_nonneg (by omega)]; omega
      have hs0 := Str.new w5 30 #[.int .i64 n, .int .i64 a, .slice (some ⟨w3.heap.size, 0, none⟩) 0 0, .int .i64 D]
      have hgA := grownBy_trans Hg5.out (World.grownBy_alloc w5 (.cells #[.int .i64 n, .int .i64 a, .slice (some ⟨w3.heap.size, 0, none⟩) 0 0, .int .i64 D] 30) (some R))
      have hoA := Ho5.out.alloc (.cells #[.int .i64 n, .int .i64 a, .slice (some ⟨w3.heap.size, 0, none⟩) 0 0, .int .i64 D] 30)
      have hrA := Hrd5.out.alloc (.cells #[.int .i64 n, .int .i64 a, .slice (some ⟨w3.heap.size, 0, none⟩) 0 0, .int .i64 D] 30)
      have HsA := Lib.hid hs0; clear hs0
      have HgA := Lib.hid hgA; clear hgA
      have HoA := Lib.hid hoA; clear hoA
      have HrA := Lib.hid hrA; clear hrA Hrd5 Ho5 Hg5
      have hw3 := Hgr3.out.size
      go_wp2
      clear hwa hwb hwc hwd hD
      generalize w5.alloc (.cells #[.int .i64 n, .int .i64 a, .slice (some ⟨w3.heap.size, 0, none⟩) 0 0, .int .i64 D] 30) = w6 at *
      generalize w5.heap.size = Bv at *
      go_loopw [12] (fun i wr => ∃ (k : Nat) (ps : List Int) (vp : Value) (q2 : Nat), k ≤ H.length ∧ i = .int .i64 k ∧ ps.Sublist (H.take k) ∧ Str wr Bv 30 #[.int .i64 n, .int .i64 a, vp, .int .i64 D] ∧ Own 3 wr w3.heap.size vp ps ∧ vp.ownBlock ≠ some Bv ∧ Rdr wr R q2 ∧ q2 ≤ q + 2 + k ∧ w3.grownBy wr (some R)) (fun i _ => H.length - (intOf i).toNat)
      case atStart => exact ⟨0, [], _, q + 1 + 1, Nat.zero_le _, rfl, by simp, HsA.out, HoA.out, by simp [Value.ownBlock]; omega, HrA.out, by omega, HgA.out⟩
      case round =>
        obtain ⟨k, ps, vp, q2, hk, rfl, hsub, hst, hop, hne, hrd, hq2, hg3r⟩ := hrel
        have Hst := Lib.hid hst; clear hst
        have Hop := Lib.hid hop; clear hop
        have Hrd := Lib.hid hrd; clear hrd
        have Hg3r := Lib.hid hg3r; clear hg3r
        have Hsub := Lib.hid hsub; clear hsub
        have Hne := Lib.hid hne; clear hne
        have hBw := Hst.out.lt
        have Hohr := Lib.hid (Hoh3.out.kept Hg3r.out (.inr fun e => by have := (Hoh3.out.lt R e).1; omega))
        by_cases hlt2 : k < H.length
        · obtain ⟨bh, ch', e, hbB, hbs, _, hcells, _⟩ := Hohr.out.row (by omega)
          simp only [Value.slice.injEq, true_and] at e
          obtain ⟨rfl, rfl⟩ := e
          have hch := hcells k hlt2
          have hb3 : bh < w3.heap.size := by
            exact (Hoh3.out.lt bh rfl).2
          clear hcells
          by_cases hn0 : n = 0
          · exfalso; omega
          have hnn : decide ((0 : Int) < (n : Int)) = true := decide_eq_true (by omega)
          have hnn' : (0 : Int) < (n : Int) := by omega
          clear hn0
          go_wp2_with fail
          refine (pick_any R 8 q2 _ (by omega) Hrd.out (by omega)).mono ?_
          rintro e w7 ⟨u, rfl, hu0, hu1, hr7, hg7⟩
          have hs7 := hg7.size
          have Hrd7 := Lib.hid hr7; clear hr7
          have Hst7 := Lib.hid (Hst.out.kept hg7 (by simp; omega))
          have Hop7 := Lib.hid (Hop.out.kept hg7 (.inr fun e => by have := (Hop.out.lt R e).1; have := Hgr3.out.size; omega))
          have Hg37 := Lib.hid (grownBy_trans Hg3r.out hg7)
          have hch7 : w7.cell? ⟨bh, k, none⟩ = some (.int .i64 H[k]) := hg7.cell hch (by simp; omega)
          clear hg7 hch
          by_cases hu : 0 < u
          · have hud : decide ((0 : Int) < u) = true := decide_eq_true hu
            have Hsub' := Lib.hid (show (ps ++ [H[k]]).Sublist (H.take (k + 1)) by
              rw [List.take_succ_eq_append_getElem hlt2]
              exact Hsub.out.append (List.Sublist.refl _))
            generalize H[k] = x at *
            have h2 : w7.drew.cell? ⟨Bv, 2, none⟩ = some vp := Hst7.out.cell 2 (v := vp) rfl
            have h3 : w7.drew.cell? ⟨bh, k, none⟩ = some (.int .i64 x) := hch7
            go_wp2_with fail
            refine wp_region_L 9 (fun w' => w'.cell? ⟨Bv, 2, none⟩ = some vp ∧ w'.cell? ⟨bh, k, none⟩ = some (.int .i64 x)) (by kernel_rfl) ⟨h2, h3⟩ (fun hH => ?_)
            refine takeL 0 (v := ?v0) rfl (by kernel_rfl) (by kernel_rfl) (by kernel_rfl) (by kernel_rfl) (by kernel_rfl) (fun _ _ _ h => h) hH rfl ?y0 ?r0
            case y0 => intro W hSw; go_simp; try with_reducible rfl
            try simp only [Act.put, List.setIfInBounds_toArray, List.set_cons_zero, List.set_cons_succ]
            refine takeL 1 (v := ?v1) rfl (by kernel_rfl) (by kernel_rfl) (by kernel_rfl) (by kernel_rfl) (by kernel_rfl) (fun _ _ _ h => h) hH rfl ?y1 ?r1
            case y1 => intro W hSw; go_simp; try with_reducible rfl
            try simp only [Act.put, List.setIfInBounds_toArray, List.set_cons_zero, List.set_cons_succ]
            refine takeL 2 (v := ?v2) rfl (by kernel_rfl) (by kernel_rfl) (by kernel_rfl) (by kernel_rfl) (by kernel_rfl) (fun _ _ _ h => h) hH rfl ?y2 ?r2
            case y2 => intro W hSw; go_simp; try with_reducible rfl
            try simp only [Act.put, List.setIfInBounds_toArray, List.set_cons_zero, List.set_cons_succ]
            refine takeL 3 (v := ?v3) rfl (by kernel_rfl) (by kernel_rfl) (by kernel_rfl) (by kernel_rfl) (by kernel_rfl) (fun _ _ _ h => h) hH rfl ?y3 ?r3
            case y3 => intro W hSw; go_simp; try with_reducible rfl
            try simp only [Act.put, List.setIfInBounds_toArray, List.set_cons_zero, List.set_cons_succ]
            refine takeL 4 (v := ?v4) rfl (by kernel_rfl) (by kernel_rfl) (by kernel_rfl) (by kernel_rfl) (by kernel_rfl) (fun _ _ _ h => h) hH rfl ?y4 ?r4
            case y4 => intro W hSw; go_simp; try with_reducible rfl
            try simp only [Act.put, List.setIfInBounds_toArray, List.set_cons_zero, List.set_cons_succ]
            refine takeL 5 (v := ?v5) rfl (by kernel_rfl) (by kernel_rfl) (by kernel_rfl) (by kernel_rfl) (by kernel_rfl) (fun _ _ _ h => h) hH rfl ?y5 ?r5
            case y5 => intro W hSw; go_simp; try with_reducible rfl
            try simp only [Act.put, List.setIfInBounds_toArray, List.set_cons_zero, List.set_cons_succ]
            refine callL 6 rfl (by kernel_rfl) rfl (fun K hK => ?_)
            go_simp
            refine hK.out _ _ ⟨(World.grownBy_alloc w7.drew _ none).cell h2 (by simp), (World.grownBy_alloc w7.drew _ none).cell h3 (by simp)⟩ (fun hH => ?_)
            clear hK K
            try simp only [Act.put, List.setIfInBounds_toArray, List.set_cons_zero, List.set_cons_succ]
            have hown7 : Own 3 w7.drew w3.heap.size vp ps := Hop7.out
            have hst7 : Str w7.drew Bv 30 #[.int .i64 n, .int .i64 a, vp, .int .i64 D] := Hst7.out
            have hpl : ps.length ≤ 1099511627776 := by have := Hsub.out.length_le; rw [List.length_take] at this; omega
            have hB7 : w3.heap.size ≤ w7.drew.heap.size := Hg37.out.size
            have hg37 : w3.grownBy w7.drew (some R) := grownBy_drewN Hg37.out 1
            have hrd7 : Rdr w7.drew R (q2 + 1) := Hrd7.out.drewN 1
            refine callL 7 rfl (by kernel_rfl) rfl (fun K hK => ?_)
            refine op_push_at TIg w7.drew (.tmp 59) (.tmp 64) rfl w3.heap.size vp ps x rfl hown7 hpl rfl hB7 ?_
            intro v9 w9 hown9 hg9 hat9
            obtain ⟨g9, c9, rfl⟩ := own_succ hown9
            have s9 := hst7.kept hg9 (fun e => Hne.out e.symm)
            have h9 := s9.cell 2 (v := vp) rfl
            have f9 := s9.frozen 2
            have h39 : w9.cell? ⟨bh, k, none⟩ = some (.int .i64 x) := hg9.cell h3 (by intro e; have h' : w3.heap.size ≤ bh := (hown7.lt _ e.symm).1; omega)
            refine hK.out _ _ ⟨h9, h39⟩ (fun hH => ?_)
            clear hK K
            try simp only [Act.put, List.setIfInBounds_toArray, List.set_cons_zero, List.set_cons_succ]
            refine takeL 8 (v := ?v8) rfl (by kernel_rfl) (by kernel_rfl) (by kernel_rfl) (by kernel_rfl) (by kernel_rfl) (fun _ _ _ h => h) hH rfl ?y8 ?r8
            case y8 => intro W hSw; go_simp; try with_reducible rfl
            try simp only [Act.put, List.setIfInBounds_toArray, List.set_cons_zero, List.set_cons_succ]
            refine lastL rfl (by kernel_rfl) (by kernel_rfl) (by kernel_rfl) rfl (fun K hK => ?_)
            go_simp
            refine hK.out _ _ ?_
            clear hK K
            try simp only [Act.put, List.setIfInBounds_toArray, List.set_cons_zero, List.set_cons_succ]
            have hBs : Bv < w7.drew.heap.size := hst7.lt
            have hne9 : (Value.slice (some ⟨g9, 0, none⟩) (ps.length + 1) c9).ownBlock ≠ some Bv := by
              rcases hat9 with h | ⟨g', h, h'⟩
              · rw [h]; exact Hne.out
              · rw [h]; simp; omega
            have hRB : R < Bv := by omega
            go_wp2
            go_roundw
            case rel => exact ⟨k + 1, ps ++ [x], _, q2 + 1, by omega, by go_num, Hsub'.out, (by have := s9.set 2 (.slice (some ⟨g9, 0, none⟩) (ps.length + 1) c9); simpa using this), hown9.set_other hne9 2 _, hne9, (hrd7.kept hg9 (fun g e => by have := (hown7.lt g e).1; omega)).kept (grownBy_set w9 Bv 2 _) (fun g e => by cases e; exact hRB), by omega, grown_row (grown_row hg37 hg9 (fun g e => (hown7.lt g e).1)) (grownBy_set w9 Bv 2 _) (fun g e => by cases e; omega)⟩
            case measure => simp [intOf]; omega
          · have hud : decide ((0 : Int) < u) = false := decide_eq_false hu
            clear hu0 hu1
            go_wp2
            go_roundw
            case rel => exact ⟨k + 1, ps, vp, q2 + 1, by omega, by go_num, Hsub.out.trans (List.take_sublist_take_left (by omega)), Hst7.out, Hop7.out, Hne.out, Hrd7.out, by omega, Hg37.out⟩
            case measure => simp [intOf]; omega
        · have hke : k = H.length := by omega
          subst hke
          rw [List.take_length] at Hsub
          have hpl : ps.length ≤ 1099511627776 := by have := Hsub.out.length_le; omega
          obtain ⟨ap, cp, rfl, hip, _⟩ := Hop.out.ints
          clear hip
          by_cases hn0 : n = 0
          · have hnn : decide ((0 : Int) < (n : Int)) = false := decide_eq_false (by omega)
            have hnn' : ¬ (0 : Int) < (n : Int) := by omega
            clear hn0
            have hgW := grownBy_trans Hgr3.out Hg3r.out
            have hcW := Hc.out _ hgW
            have HgW := Lib.hid hgW; clear hgW
            have st := Hst.out
            have c0 := st.cell 0 (v := .int .i64 n) rfl
            have c1 := st.cell 1 (v := .int .i64 a) rfl
            have c2 := st.cell 2 (v := .slice ap ps.length cp) rfl
            have c3 := st.cell 3 (v := .int .i64 D) rfl
            have Hcall := Lib.hid (HVx.out n a D ap cp ps _ hpl hcW Hop.out.at)
            clear st hcW
            cases hvx : vtxB c ⟨n, a, ps, D⟩ with
            | false =>
              rw [hvx] at Hcall
              clear Hst Hop Hne
              go_wp2_with fail
              refine Hcall.out.mono ?_
              rintro e w8 ⟨rfl, hb8⟩
              have Hg38 := Lib.hid (grown_row (w := w3) Hg3r.out (below_grown hb8) (fun g e => by cases e))
              have Hown8 := Lib.hid (Hown3.out.same fun b h1 h2 => Hg38.out.block b h2 (fun e => by cases e; omega))
              have Hoh8 := Lib.hid (Hoh3.out.kept Hg38.out (.inr fun e => by have := (Hoh3.out.lt R e).1; omega))
              have Hrd8 := Lib.hid (Hrd.out.kept (below_grown hb8) (fun g e => by cases e))
              have hs8 := Hg38.out.size
              have HgW8 := Lib.hid (grownBy_trans Hgr3.out Hg38.out)
              clear hb8 c0 c1 c2 c3
              go_wp2
              go_roundw
              case rel => exact ⟨a + 1, g, q2, by omega, by go_num, Hown8.out.mono hs8, Hok.out, fun x hx => by have := Hord.out x hx; omega, by omega, Hrd8.out, by omega, HgW8.out, Hoh8.out, by omega⟩
              case measure => simp [intOf]; omega
            | true =>
              rw [hvx] at Hcall
              have Hok' := Lib.hid (gOk_push Hok.out hvx Hord.out)
              clear hvx
              go_wp2_with fail
              refine Hcall.out.mono ?_
              rintro e w8 ⟨rfl, hb8⟩
              have Hg38 := Lib.hid (grown_row (w := w3) Hg3r.out (below_grown hb8) (fun g e => by cases e))
              have Hown8 := Lib.hid (Hown3.out.same fun b h1 h2 => Hg38.out.block b h2 (fun e => by cases e; omega))
              have Hoh8 := Lib.hid (Hoh3.out.kept Hg38.out (.inr fun e => by have := (Hoh3.out.lt R e).1; omega))
              have Hrd8 := Lib.hid (Hrd.out.kept (below_grown hb8) (fun g e => by cases e))
              have hs8 := Hg38.out.size
              have HgW8 := Lib.hid (grownBy_trans Hgr3.out Hg38.out)
              have st := (hb8.block _ Hst.out.lt).trans Hst.out
              have hop8 := Hop.out.below hb8
              have c0 := Str.cell st 0 (v := .int .i64 n) rfl
              have c1 := Str.cell st 1 (v := .int .i64 a) rfl
              have c2 := Str.cell st 2 (v := .slice ap ps.length cp) rfl
              have c3 := Str.cell st 3 (v := .int .i64 D) rfl
              obtain ⟨hfd, hap, hnew⟩ := vertex_new (B := w.heap.size) n a D hop8 hw3
              have Hfd := Lib.hid hfd; clear hfd
              have Hap := Lib.hid hap; clear hap
              have Hnew := Lib.hid hnew; clear hnew hop8 st hb8
              have hel : (g.map Vx.fd).length ≤ 1048576 := by rw [List.length_map]; omega
              have Hex := Lib.hid (show (g ++ [(⟨n, a, ps, D⟩ : Vx)]).map Vx.fd = g.map Vx.fd ++ [[.i n, .i a, .l ps, .i D]] by rw [List.map_append]; rfl)
              have hB8 : w.heap.size ≤ w8.heap.size := by omega
              generalize g.map Vx.fd = es at *
              go_wp2_with (at_builtin; refine wpList_push_own (Ei := 3) Try.underlying24 vertex_inf rfl (by decide) (by decide) rfl (.tmp 85) (.tmp 87) rfl w.heap.size _ es _ _ _ rfl rfl (by intro u hu; simp at hu; rcases hu with rfl | rfl | rfl | rfl <;> rfl) rfl rfl Hfd.out Hap.out w3.heap.size Hown8.out hs8 Hnew.out hel rfl hB8 ?_; intro v9 w9 hown9 hg9 hat9)
              go_roundw
              case rel => exact ⟨a + 1, g ++ [⟨n, a, ps, D⟩], q2, by omega, by go_num, by rw [Hex.out]; exact hown9, Hok'.out, fun x hx => by
                rcases List.mem_append.1 hx with hx | hx
                · have := Hord.out x hx; omega
                · simp at hx; subst hx; exact .inr ⟨rfl, (show (a : Int) < ((a + 1 : Nat) : Int) by omega)⟩, by have := hgl; rw [List.length_append]; simp only [List.length_singleton]; omega, Hrd8.out.kept hg9 (fun g e => by have := (Hown8.out.lt g e).1; omega), by omega, grown_row HgW8.out hg9 (fun g e => (Hown8.out.lt g e).1), Hoh8.out.kept hg9 (Hown8.out.apartI Hoh8.out (by decide)), by have := hg9.size; omega⟩
              case measure => simp [intOf]; omega
          have hnn : decide ((0 : Int) < (n : Int)) = true := decide_eq_true (by omega)
          have hnn' : (0 : Int) < (n : Int) := by omega
          clear hn0
          have hmb := members_sub Hasc.out Hsub.out
          have hcW0 := Hc.out _ (grownBy_trans Hgr3.out Hg3r.out)
          have k2 := Hst.out.cell 2 (v := .slice ap ps.length cp) rfl
          have HW1 := Lib.hid (HWt.out ps ap cp wr hmb hpl hcW0 Hop.out.at)
          have HQ1 := Lib.hid (HQt.out wr hcW0)
          clear hcW0 hmb
          go_wp2_with fail
          refine HW1.out.mono ?_
          rintro e w7 ⟨rfl, rfl⟩
          go_wp2_with fail
          refine HQ1.out.mono ?_
          rintro e w7 ⟨rfl, rfl⟩
          by_cases hlow : weightZ c ps < 2 * totalZ c / 3 + 1
          · have hld : decide (weightZ c ps < 2 * totalZ c / 3 + 1) = true := decide_eq_true hlow
            have hoE := own_empty 3 wr (Nat.le_refl wr.heap.size)
            have hsrc : SrcAt (wr.alloc (.cells #[] 3)) ah ch H := by
              obtain ⟨_, _, e, _, hs, _⟩ := (Hohr.out.alloc (.cells #[] 3)).src
              cases e
              exact hs
            have stE := Hst.out.alloc (.cells #[] 3)
            have hzE : (wr.alloc (.cells #[] 3)).heap.size = wr.heap.size + 1 := by simp
            have rdE := Hrd.out.alloc (.cells #[] 3)
            have hgE := grownBy_trans Hg3r.out (World.grownBy_alloc wr (.cells #[] 3) (some R))
            have hsr := Hg3r.out.size
            have hHl2 : H.length ≤ 1099511627776 := by omega
            have hRB : R < Bv := by omega
            have HoE := Lib.hid hoE; clear hoE
            have Hsrc := Lib.hid hsrc; clear hsrc
            have HstE := Lib.hid stE; clear stE
            have HrdE := Lib.hid rdE; clear rdE
            have HgE := Lib.hid hgE; clear hgE
            clear k2 hlow Hop Hst Hrd HW1 HQ1
            go_wp2_with (at_builtin; refine wpList_appI TIg rfl (.tmp 78) (.tmp 79) rfl wr.heap.size (.slice (some ⟨wr.heap.size, 0, none⟩) 0 0) [] H _ _ rfl HoE.out rfl Hsrc.out (by simp; omega) (by rw [hzE]; omega) ?_; intro v7 w7 hown7 hg7; (rw [List.nil_append] at hown7); (generalize wr.alloc (.cells #[] 3) = w71 at *); (have st7 := HstE.out.kept hg7 (by simp [Value.ownBlock]; omega)); (have Hrd7 := Lib.hid (HrdE.out.kept hg7 (fun g e => by have := (HoE.out.lt g e).1; omega))); (have Hg7 := Lib.hid (grown_row HgE.out hg7 (fun g e => by have := (HoE.out.lt g e).1; omega))); (have Hown7 := Lib.hid hown7); (obtain ⟨a7, c7, rfl, _, _⟩ := Hown7.out.ints); (have k2 := st7.cell 2 (v := .slice ap ps.length cp) rfl); (have f2 := st7.frozen 2); (have u := st7.set 2 (.slice a7 H.length c7)); (have e0 := u.cell 0 (v := .int .i64 n) rfl); (have e1 := u.cell 1 (v := .int .i64 a) rfl); (have e2 := u.cell 2 (v := .slice a7 H.length c7) rfl); (have e3 := u.cell 3 (v := .int .i64 D) rfl); (have Hu := Lib.hid u); (clear u st7 hown7 hg7))
            have hne7 : (Value.slice a7 H.length c7).ownBlock ≠ some Bv := fun e => by have := (Hown7.out.lt _ e).1; omega
            have Hrd := Lib.hid (Hrd7.out.kept (grownBy_set w7 Bv 2 (.slice a7 H.length c7)) (fun g e => by cases e; exact hRB))
            have Hg3r := Lib.hid (grown_row Hg7.out (grownBy_set w7 Bv 2 (.slice a7 H.length c7)) (fun g e => by cases e; omega))
            have Hop := Lib.hid ((Hown7.out.mono (show w3.heap.size ≤ wr.heap.size from hsr)).set_other hne7 2 (.slice a7 H.length c7))
            have Hst : Hid (Str (w7.setCell ⟨Bv, 2, none⟩ (.slice a7 H.length c7)) Bv 30 #[.int .i64 n, .int .i64 a, .slice a7 H.length c7, .int .i64 D]) := Lib.hid (by simpa using Hu.out)
            clear k2 f2 Hu Hown7 Hrd7 Hg7 hne7
            generalize w7.setCell ⟨Bv, 2, none⟩ (.slice a7 H.length c7) = wz at *
            have hBz := Hst.out.lt
            have hgW := grownBy_trans Hgr3.out Hg3r.out
            have hcW := Hc.out _ hgW
            have HgW := Lib.hid hgW; clear hgW
            have st := Hst.out
            clear e0 e1 e2 e3
            have c0 := st.cell 0 (v := .int .i64 n) rfl
            have c1 := st.cell 1 (v := .int .i64 a) rfl
            have c2 := st.cell 2 (v := .slice a7 H.length c7) rfl
            have c3 := st.cell 3 (v := .int .i64 D) rfl
            have Hcall := Lib.hid (HVx.out n a D a7 c7 H _ hHl2 hcW Hop.out.at)
            clear st hcW
            cases hvx : vtxB c ⟨n, a, H, D⟩ with
            | false =>
              rw [hvx] at Hcall
              clear Hst Hop
              refine Hcall.out.mono ?_
              rintro e w8 ⟨rfl, hb8⟩
              have Hg38 := Lib.hid (grown_row (w := w3) Hg3r.out (below_grown hb8) (fun g e => by cases e))
              have Hown8 := Lib.hid (Hown3.out.same fun b h1 h2 => Hg38.out.block b h2 (fun e => by cases e; omega))
              have Hoh8 := Lib.hid (Hoh3.out.kept Hg38.out (.inr fun e => by have := (Hoh3.out.lt R e).1; omega))
              have Hrd8 := Lib.hid (Hrd.out.kept (below_grown hb8) (fun g e => by cases e))
              have hs8 := Hg38.out.size
              have HgW8 := Lib.hid (grownBy_trans Hgr3.out Hg38.out)
              clear hb8 c0 c1 c2 c3
              go_wp2
              go_roundw
              case rel => exact ⟨a + 1, g, q2, by omega, by go_num, Hown8.out.mono hs8, Hok.out, fun x hx => by have := Hord.out x hx; omega, by omega, Hrd8.out, by omega, HgW8.out, Hoh8.out, by omega⟩
              case measure => simp [intOf]; omega
            | true =>
              rw [hvx] at Hcall
              have Hok' := Lib.hid (gOk_push Hok.out hvx Hord.out)
              clear hvx
              refine Hcall.out.mono ?_
              rintro e w8 ⟨rfl, hb8⟩
              have Hg38 := Lib.hid (grown_row (w := w3) Hg3r.out (below_grown hb8) (fun g e => by cases e))
              have Hown8 := Lib.hid (Hown3.out.same fun b h1 h2 => Hg38.out.block b h2 (fun e => by cases e; omega))
              have Hoh8 := Lib.hid (Hoh3.out.kept Hg38.out (.inr fun e => by have := (Hoh3.out.lt R e).1; omega))
              have Hrd8 := Lib.hid (Hrd.out.kept (below_grown hb8) (fun g e => by cases e))
              have hs8 := Hg38.out.size
              have HgW8 := Lib.hid (grownBy_trans Hgr3.out Hg38.out)
              have st := (hb8.block _ Hst.out.lt).trans Hst.out
              have hop8 := Hop.out.below hb8
              have c0 := Str.cell st 0 (v := .int .i64 n) rfl
              have c1 := Str.cell st 1 (v := .int .i64 a) rfl
              have c2 := Str.cell st 2 (v := .slice a7 H.length c7) rfl
              have c3 := Str.cell st 3 (v := .int .i64 D) rfl
              obtain ⟨hfd, hap, hnew⟩ := vertex_new (B := w.heap.size) n a D hop8 hw3
              have Hfd := Lib.hid hfd; clear hfd
              have Hap := Lib.hid hap; clear hap
              have Hnew := Lib.hid hnew; clear hnew hop8 st hb8
              have hel : (g.map Vx.fd).length ≤ 1048576 := by rw [List.length_map]; omega
              have Hex := Lib.hid (show (g ++ [(⟨n, a, H, D⟩ : Vx)]).map Vx.fd = g.map Vx.fd ++ [[.i n, .i a, .l H, .i D]] by rw [List.map_append]; rfl)
              have hB8 : w.heap.size ≤ w8.heap.size := by omega
              generalize g.map Vx.fd = es at *
              go_wp2_with (at_builtin; refine wpList_push_own (Ei := 3) Try.underlying24 vertex_inf rfl (by decide) (by decide) rfl (.tmp 85) (.tmp 87) rfl w.heap.size _ es _ _ _ rfl rfl (by intro u hu; simp at hu; rcases hu with rfl | rfl | rfl | rfl <;> rfl) rfl rfl Hfd.out Hap.out w3.heap.size Hown8.out hs8 Hnew.out hel rfl hB8 ?_; intro v9 w9 hown9 hg9 hat9)
              go_roundw
              case rel => exact ⟨a + 1, g ++ [⟨n, a, H, D⟩], q2, by omega, by go_num, by rw [Hex.out]; exact hown9, Hok'.out, fun x hx => by
                rcases List.mem_append.1 hx with hx | hx
                · have := Hord.out x hx; omega
                · simp at hx; subst hx; exact .inr ⟨rfl, (show (a : Int) < ((a + 1 : Nat) : Int) by omega)⟩, by have := hgl; rw [List.length_append]; simp only [List.length_singleton]; omega, Hrd8.out.kept hg9 (fun g e => by have := (Hown8.out.lt g e).1; omega), by omega, grown_row HgW8.out hg9 (fun g e => (Hown8.out.lt g e).1), Hoh8.out.kept hg9 (Hown8.out.apartI Hoh8.out (by decide)), by have := hg9.size; omega⟩
              case measure => simp [intOf]; omega
          · have hld : decide (weightZ c ps < 2 * totalZ c / 3 + 1) = false := decide_eq_false hlow
            clear k2
            have hgW := grownBy_trans Hgr3.out Hg3r.out
            have hcW := Hc.out _ hgW
            have HgW := Lib.hid hgW; clear hgW
            have st := Hst.out
            have c0 := st.cell 0 (v := .int .i64 n) rfl
            have c1 := st.cell 1 (v := .int .i64 a) rfl
            have c2 := st.cell 2 (v := .slice ap ps.length cp) rfl
            have c3 := st.cell 3 (v := .int .i64 D) rfl
            have Hcall := Lib.hid (HVx.out n a D ap cp ps _ hpl hcW Hop.out.at)
            clear st hcW
            cases hvx : vtxB c ⟨n, a, ps, D⟩ with
            | false =>
              rw [hvx] at Hcall
              clear Hst Hop Hne
              go_wp2_with fail
              refine Hcall.out.mono ?_
              rintro e w8 ⟨rfl, hb8⟩
              have Hg38 := Lib.hid (grown_row (w := w3) Hg3r.out (below_grown hb8) (fun g e => by cases e))
              have Hown8 := Lib.hid (Hown3.out.same fun b h1 h2 => Hg38.out.block b h2 (fun e => by cases e; omega))
              have Hoh8 := Lib.hid (Hoh3.out.kept Hg38.out (.inr fun e => by have := (Hoh3.out.lt R e).1; omega))
              have Hrd8 := Lib.hid (Hrd.out.kept (below_grown hb8) (fun g e => by cases e))
              have hs8 := Hg38.out.size
              have HgW8 := Lib.hid (grownBy_trans Hgr3.out Hg38.out)
              clear hb8 c0 c1 c2 c3
              go_wp2
              go_roundw
              case rel => exact ⟨a + 1, g, q2, by omega, by go_num, Hown8.out.mono hs8, Hok.out, fun x hx => by have := Hord.out x hx; omega, by omega, Hrd8.out, by omega, HgW8.out, Hoh8.out, by omega⟩
              case measure => simp [intOf]; omega
            | true =>
              rw [hvx] at Hcall
              have Hok' := Lib.hid (gOk_push Hok.out hvx Hord.out)
              clear hvx
              go_wp2_with fail
              refine Hcall.out.mono ?_
              rintro e w8 ⟨rfl, hb8⟩
              have Hg38 := Lib.hid (grown_row (w := w3) Hg3r.out (below_grown hb8) (fun g e => by cases e))
              have Hown8 := Lib.hid (Hown3.out.same fun b h1 h2 => Hg38.out.block b h2 (fun e => by cases e; omega))
              have Hoh8 := Lib.hid (Hoh3.out.kept Hg38.out (.inr fun e => by have := (Hoh3.out.lt R e).1; omega))
              have Hrd8 := Lib.hid (Hrd.out.kept (below_grown hb8) (fun g e => by cases e))
              have hs8 := Hg38.out.size
              have HgW8 := Lib.hid (grownBy_trans Hgr3.out Hg38.out)
              have st := (hb8.block _ Hst.out.lt).trans Hst.out
              have hop8 := Hop.out.below hb8
              have c0 := Str.cell st 0 (v := .int .i64 n) rfl
              have c1 := Str.cell st 1 (v := .int .i64 a) rfl
              have c2 := Str.cell st 2 (v := .slice ap ps.length cp) rfl
              have c3 := Str.cell st 3 (v := .int .i64 D) rfl
              obtain ⟨hfd, hap, hnew⟩ := vertex_new (B := w.heap.size) n a D hop8 hw3
              have Hfd := Lib.hid hfd; clear hfd
              have Hap := Lib.hid hap; clear hap
              have Hnew := Lib.hid hnew; clear hnew hop8 st hb8
              have hel : (g.map Vx.fd).length ≤ 1048576 := by rw [List.length_map]; omega
              have Hex := Lib.hid (show (g ++ [(⟨n, a, ps, D⟩ : Vx)]).map Vx.fd = g.map Vx.fd ++ [[.i n, .i a, .l ps, .i D]] by rw [List.map_append]; rfl)
              have hB8 : w.heap.size ≤ w8.heap.size := by omega
              generalize g.map Vx.fd = es at *
              go_wp2_with (at_builtin; refine wpList_push_own (Ei := 3) Try.underlying24 vertex_inf rfl (by decide) (by decide) rfl (.tmp 85) (.tmp 87) rfl w.heap.size _ es _ _ _ rfl rfl (by intro u hu; simp at hu; rcases hu with rfl | rfl | rfl | rfl <;> rfl) rfl rfl Hfd.out Hap.out w3.heap.size Hown8.out hs8 Hnew.out hel rfl hB8 ?_; intro v9 w9 hown9 hg9 hat9)
              go_roundw
              case rel => exact ⟨a + 1, g ++ [⟨n, a, ps, D⟩], q2, by omega, by go_num, by rw [Hex.out]; exact hown9, Hok'.out, fun x hx => by
                rcases List.mem_append.1 hx with hx | hx
                · have := Hord.out x hx; omega
                · simp at hx; subst hx; exact .inr ⟨rfl, (show (a : Int) < ((a + 1 : Nat) : Int) by omega)⟩, by have := hgl; rw [List.length_append]; simp only [List.length_singleton]; omega, Hrd8.out.kept hg9 (fun g e => by have := (Hown8.out.lt g e).1; omega), by omega, grown_row HgW8.out hg9 (fun g e => (Hown8.out.lt g e).1), Hoh8.out.kept hg9 (Hown8.out.apartI Hoh8.out (by decide)), by have := hg9.size; omega⟩
              case measure => simp [intOf]; omega

end Go.Proofs.Yteglefchkecfjab

/- A list that reads as rows is appended to a list that the call builds; a row's cell of such a list is written over; general steps, nothing here speaks of the program. -/
namespace Go.Proofs.Yteglefchkecfjab
open Go.RowKit

theorem Rd.one {w : World} {d : Dt} {c : Value} {fp : List Nat} (h : Rd w d c fp) : c.oneCell' = true := by
  cases h <;> rfl
/-- The cells of a list of rows, one after the other, and how they read. -/
theorem Rd.rows {w : World} {es : List (List Dt)} {u : Value} {fp : List Nat} (h : Rd w (.l es) u fp) {sz : Nat} (hsz : ∀ e ∈ es, e.length = sz) (hpos : 0 < sz) :
    (u = .slice none 0 0 ∧ es = []) ∨ ∃ (ad : Addr) (c : Nat) (vals : List Value), u = .slice (some ad) es.length c ∧ vals.length = es.length * sz ∧ (∀ j x, vals[j]? = some x → w.cell? (ad.add j) = some x) ∧ (∀ x ∈ vals, x.oneCell' = true) ∧
      ∀ k (hk : k < es.length) j (hj : j < (es[k]).length), ∃ c fp', (vals.drop (k * sz))[j]? = some c ∧ Rd w ((es[k])[j]) c fp' ∧ ∀ r ∈ fp', r ∈ fp := by
  generalize hd : Dt.l es = d at h
  cases h with
  | i n => cases hd
  | b x => cases hd
  | s t => cases hd
  | nil a cap hn =>
    cases hd
    cases a with
    | none => rw [hn rfl]; exact .inl ⟨rfl, rfl⟩
    | some ad => exact .inr ⟨ad, cap, [], rfl, by simp, by simp, by simp, fun k hk => by simp at hk⟩
  | l sz' es' g off cap V F hne hsz' hcap hgl hc hrd =>
    cases hd
    have hss : sz' = sz := by
      have h0 := List.getElem_mem hne
      rw [← hsz' _ h0, hsz _ h0]
    subst hss
    have hlt : ∀ p, p < es.length * sz' → p / sz' < es.length ∧ p % sz' < sz' := fun p hp => ⟨by rw [Nat.div_lt_iff_lt_mul hpos]; exact hp, Nat.mod_lt _ hpos⟩
    have hget : ∀ p, p < es.length * sz' → ((List.range (es.length * sz')).map fun p => V (p / sz') (p % sz'))[p]? = some (V (p / sz') (p % sz')) := by
      intro p hp
      simp [List.getElem?_map, List.getElem?_range hp]
    refine .inr ⟨⟨g, off, none⟩, cap, (List.range (es.length * sz')).map fun p => V (p / sz') (p % sz'), rfl, by simp, fun j x hx => ?_, fun x hx => ?_, fun k hk j hj => ?_⟩
    · have hj : j < es.length * sz' := by
        obtain ⟨h, _⟩ := List.getElem?_eq_some_iff.1 hx
        simpa using h
      rw [hget j hj] at hx
      cases hx
      obtain ⟨h1, h2⟩ := hlt j hj
      have := hc (j / sz') (j % sz') h1 h2
      rw [addr_add', ← this]
      congr 3
      rw [Nat.mul_comm]; exact (Nat.div_add_mod _ _).symm
    · obtain ⟨p, hp, rfl⟩ := List.mem_map.1 hx
      obtain ⟨h1, h2⟩ := hlt p (List.mem_range.1 hp)
      exact (hrd _ _ h1 (by rw [hsz _ (List.getElem_mem h1)]; exact h2)).one
    · have hj' : j < sz' := by rw [← hsz _ (List.getElem_mem hk)]; exact hj
      have hp : k * sz' + j < es.length * sz' := by
        have := Nat.mul_le_mul_right sz' (show k + 1 ≤ es.length by omega)
        rw [Nat.add_mul] at this; omega
      have e1 : (k * sz' + j) / sz' = k := by rw [Nat.add_comm, Nat.add_mul_div_right _ _ hpos, Nat.div_eq_of_lt hj', Nat.zero_add]
      have e2 : (k * sz' + j) % sz' = j := by rw [Nat.add_comm, Nat.add_mul_mod_self_right, Nat.mod_eq_of_lt hj']
      refine ⟨V k j, F k j, ?_, hrd k j hk hj, fun r hr => List.mem_cons_of_mem _ (List.mem_flatMap.2 ⟨k, List.mem_range.2 hk, List.mem_flatMap.2 ⟨j, List.mem_range.2 hj', hr⟩⟩)⟩
      rw [List.getElem?_drop, hget _ hp, e1, e2]
/-- 'append(s, t...)' at an operation: s is being built, t reads as rows in memory that is not the outer row's. -/
theorem op_app_rows {P : Program} {T E : TypeId} {z0 : Value} {sz bytes : Nat} (hsl : P.underlying T = some (.slice E)) (hinf : (P.info? E).map (fun i => (i.zero, i.size, i.bytes)) = some (some z0, sz, bytes)) (hz0 : z0.cells.size = sz) (hpos : 0 < sz) (hby : bytes ≤ 1000)
    (w : World) {o : Oper} {a : Act} {K : Act → World → Prop} {Q : Exit → Act → World → Prop} (s x : Operand) (ho : o.op = .call { callee := .builtin .append, args := #[s, x], argTypes := #[T, T] }) (B : Nat) (v u : Value) (es es2 : List (List Dt)) (fp2 : List Nat)
    (hs : a.eval s = v) (hb : Bld E sz w B v es) (hx : a.eval x = u) (hr : Rd w (.l es2) u fp2) (hsz2 : ∀ e ∈ es2, e.length = sz) (hfp : ∀ r ∈ fp2, B ≤ r ∧ v.ownBlock ≠ some r) (hlen : es.length + es2.length ≤ 1048576) (hB : B ≤ w.heap.size)
    (h : ∀ v' w', Bld E sz w' B v' (es ++ es2) → w.grownBy w' v.ownBlock → (∀ g, v'.ownBlock = some g → v.ownBlock = some g ∨ w.heap.size ≤ g) → K (a.put o.dst v') w') : Oper.wp P o a w K Q := by
  obtain ⟨i, hi, hz, hsz, hbb⟩ := info_parts hinf
  obtain ⟨cs, hown, hc⟩ := hb.row
  have hcl : cs.length = es.length * sz := hown.1
  have run : ∃ v' w' vals, (Builtin.append_ #[T, T] o.type #[v, u]).run P w = .ok v' w' ∧ w'.ownsRow B E sz v' (es.length + es2.length) (cs ++ vals) ∧ w.grownBy w' v.ownBlock ∧ (v'.ownBlock = v.ownBlock ∨ v'.ownBlock = some w.heap.size) ∧
      ∀ k (hk : k < es2.length) j (hj : j < (es2[k]).length), ∃ c fp', (vals.drop (k * sz))[j]? = some c ∧ Rd w ((es2[k])[j]) c fp' ∧ ∀ r ∈ fp', r ∈ fp2 := by
    rcases hr.rows hsz2 hpos with ⟨rfl, rfl⟩ | ⟨ad, c, vals, rfl, hvl, hcells, hone, hrd⟩
    · exact ⟨v, w, [], run_append_owned_none (P := P) (w := w) B T o.type E i sz hsl hi v es.length _ hown, by simpa using hown, ⟨rfl, rfl, rfl, Nat.le_refl _, fun _ _ _ => rfl⟩, .inl rfl, fun k hk => by simp at hk⟩
    · obtain ⟨v', w', h1, h2, h3, _, h4⟩ := run_append_own_at (P := P) w B T o.type E i z0 sz bytes hsl hi hz hsz hbb hz0 hpos v es.length _ hown ad es2.length c vals hvl hcells hone (by unfold maxLen; omega) (by
        have := Nat.mul_le_mul hlen hby; omega) hB
      exact ⟨v', w', vals, h1, h2, h3, h4, hrd⟩
  obtain ⟨v', w', vals, hrun, h1, hg, h4, hrd⟩ := run
  unfold Oper.wp execOp
  simp only [ho, resolve, invoke, builtin, Sem.run_bind, Sem.run_pure, Result.andThen_ok, List.map_toArray, List.map_cons, List.map_nil, hs, hx, hrun]
  have hloc : ∀ g, v'.ownBlock = some g → v.ownBlock = some g ∨ w.heap.size ≤ g := fun g e => by
    rcases h4 with h4 | h4
    · exact .inl (by rw [← h4]; exact e)
    · rw [h4] at e; cases e; exact .inr (Nat.le_refl _)
  refine h v' w' ⟨?_, cs ++ vals, by rw [List.length_append]; exact h1, fun k hk => ?_⟩ hg hloc
  · intro d hd
    rcases List.mem_append.1 hd with hd | hd
    · exact hb.szs d hd
    · exact hsz2 d hd
  · by_cases hke : k < es.length
    · have hkk : (es ++ es2)[k] = es[k] := List.getElem_append_left hke
      rw [hkk]
      have hcr := (hc k hke).step (blk' := v'.ownBlock) hg (fun r e => .inr e) hloc
      intro j hj
      obtain ⟨c, fp, hcc, hrest⟩ := hcr j hj
      refine ⟨c, fp, ?_, hrest⟩
      rw [List.getElem?_drop] at hcc ⊢
      rw [List.getElem?_append_left (by obtain ⟨h, _⟩ := List.getElem?_eq_some_iff.1 hcc; exact h)]
      exact hcc
    · have hk2 : k - es.length < es2.length := by rw [List.length_append] at hk; omega
      have hkk : (es ++ es2)[k] = es2[k - es.length] := List.getElem_append_right (by omega)
      rw [hkk]
      intro j hj
      obtain ⟨c, fp', hcc, hr', hin⟩ := hrd (k - es.length) hk2 j hj
      refine ⟨c, fp', ?_, hr'.grown hg (fun r e hm => (hfp r (hin r hm)).2 e), fun r hm => ⟨(hfp r (hin r hm)).1, fun e => ?_⟩⟩
      · rw [List.getElem?_drop] at hcc ⊢
        have hge : cs.length ≤ k * sz + j := by
          rw [hcl]
          have := Nat.mul_le_mul_right sz (show es.length ≤ k by omega)
          omega
        rw [List.getElem?_append_right hge, hcl]
        have hq : k * sz + j - es.length * sz = (k - es.length) * sz + j := by
          rw [Nat.sub_mul]
          have := Nat.mul_le_mul_right sz (show es.length ≤ k by omega)
          omega
        rw [hq]; exact hcc
      · rcases hloc r e with e' | e'
        · exact (hfp r (hin r hm)).2 e'
        · have := hr'.lt r hm; omega

end Go.Proofs.Yteglefchkecfjab

/- The draw of a graph that is seldom invalid: what is drawn reads as a graph in new memory; by a walk of its text; condition: at most 10^4 picks before. -/
namespace Go.Proofs.Yteglefchkecfjab
open Go.RowKit

theorem members_geG {n : Nat} {ms : List Int} (h : membersB n ms = true) : ∀ k (hk : k < ms.length), (k : Int) ≤ ms[k] := by
  intro k
  induction k with
  | zero => intro hk; have := (okAt_bd hk (allB_upto h 0 hk)).1; omega
  | succ k ih =>
    intro hk
    have h1 := ih (by omega)
    have := (okAt_bd hk (allB_upto h (k + 1) hk)).2.2
    rcases this with h0 | h0
    · omega
    · rw [Nat.add_sub_cancel, getD_get (by omega)] at h0; omega
theorem members_lenG {n : Nat} {ms : List Int} (h : membersB n ms = true) : ms.length ≤ n := by
  rcases Nat.eq_zero_or_pos ms.length with h0 | h0
  · omega
  · have h1 := members_geG h (ms.length - 1) (by omega)
    have h2 := (membersB_at h (ms.length - 1) (by omega)).2
    omega
theorem gOk_ps {c : List Int} {g : List Vx} (h : GOk c g) : ∀ x ∈ g, x.ps.length ≤ c.length := fun x hx => by
  have := h.1 x hx
  unfold vtxB at this
  simp only [Bool.and_eq_true] at this
  exact members_lenG this.2.2.1
theorem ownR_gr {E Ei : TypeId} {sz : Nat} {w : World} {B hi : Nat} {v : Value} {g : List Vx} (h : OwnR E Ei sz w B hi v (g.map Vx.fd)) : ∃ fp, Gr w g v fp ∧ ∀ r ∈ fp, B ≤ r := by
  obtain ⟨fp, hr, hf⟩ := h.bld.rd
  exact ⟨fp, hr, hf⟩
theorem set_mem {g : List Vx} {k : Nat} {x : Vx} {m : Nat} (h : ∀ y ∈ g, y.ps.length ≤ m) (hx : x.ps.length ≤ m) : ∀ y ∈ g.set k x, y.ps.length ≤ m := fun y hy => by
  rcases List.mem_or_eq_of_mem_set hy with hy | rfl
  · exact h y hy
  · exact hx
section
variable {E Ei : TypeId} {w : World} {B hi gb n cap : Nat} {g : List Vx} {k : Nat}
theorem vx_cells (h : OwnR E Ei 4 w B hi (.slice (some ⟨gb, 0, none⟩) n cap) (g.map Vx.fd)) (hk : k < g.length) :
    w.cell? ⟨gb, k * 4, none⟩ = some (.int .i64 g[k].r) ∧ w.cell? ⟨gb, k * 4 + 1, none⟩ = some (.int .i64 g[k].a) ∧ (∃ pa pc, w.cell? ⟨gb, k * 4 + 2, none⟩ = some (.slice pa g[k].ps.length pc)) ∧ w.cell? ⟨gb, k * 4 + 3, none⟩ = some (.int .i64 g[k].d) ∧
    w.frozen? ⟨gb, k * 4, none⟩ = false ∧ w.frozen? ⟨gb, k * 4 + 1, none⟩ = false ∧ w.frozen? ⟨gb, k * 4 + 2, none⟩ = false ∧ w.frozen? ⟨gb, k * 4 + 3, none⟩ = false := by
  have hk' : k < (g.map Vx.fd).length := by simpa using hk
  have he : (g.map Vx.fd)[k] = g[k].fd := by simp
  have h0 := h.fieldI (k := k) (j := 0) hk' (by rw [he]; simp [Vx.fd]) (x := g[k].r) (by simp only [he]; rfl)
  have h1 := h.fieldI (k := k) (j := 1) hk' (by rw [he]; simp [Vx.fd]) (x := g[k].a) (by simp only [he]; rfl)
  obtain ⟨pa, pc, h2, _, f2, _⟩ := h.fieldL (k := k) (j := 2) hk' (by rw [he]; simp [Vx.fd]) (xs := g[k].ps) (by simp only [he]; rfl)
  have h3 := h.fieldI (k := k) (j := 3) hk' (by rw [he]; simp [Vx.fd]) (x := g[k].d) (by simp only [he]; rfl)
  exact ⟨h0.1, h1.1, ⟨pa, pc, h2⟩, h3.1, h0.2, h1.2, f2, h3.2⟩
theorem vx_setI (h : OwnR E Ei 4 w B hi (.slice (some ⟨gb, 0, none⟩) n cap) (g.map Vx.fd)) (hn : n = g.length) (hk : k < g.length) (j : Nat) (hj : j < 4) (z : Int) (x : Vx) (hx : (g[k].fd).set j (.i z) = x.fd) :
    OwnR E Ei 4 (w.setCell ⟨gb, k * 4 + j, none⟩ (.int .i64 z)) B hi (.slice (some ⟨gb, 0, none⟩) n cap) ((g.set k x).map Vx.fd) := by
  have := h.setI (by simpa using hn) (k := k) (j := j) (by simpa using hk) hj z
  rwa [List.getElem_map, hx, ← List.map_set] at this
theorem vx_setP {hi' : Nat} {u : Value} {ps : List Int} (h : OwnR E Ei 4 w B hi (.slice (some ⟨gb, 0, none⟩) n cap) (g.map Vx.fd)) (hn : n = g.length) (hk : k < g.length) (ho : Own Ei w B u ps) (hhi : hi ≤ hi') (hu : ∀ b, u.ownBlock = some b → hi ≤ b ∧ b < hi') :
    OwnR E Ei 4 (w.setCell ⟨gb, k * 4 + 2, none⟩ u) B hi' (.slice (some ⟨gb, 0, none⟩) n cap) ((g.set k ⟨g[k].r, g[k].a, ps, g[k].d⟩).map Vx.fd) := by
  have := h.setF (by simpa using hn) (k := k) (j := 2) (by simpa using hk) (by omega) (f := .l ps) (show FdOk Ei w B u (.l ps) from ho) hhi hu
  rwa [List.getElem_map, show (g[k].fd).set 2 (.l ps) = Vx.fd ⟨g[k].r, g[k].a, ps, g[k].d⟩ from rfl, ← List.map_set] at this
end

set_option maxRecDepth 8000 in
set_option maxHeartbeats 4000000 in
theorem drawSpoilt (R p : Nat) (rounds : Int) (w : World) (hp : p ≤ 10000) (hn0 : 0 ≤ rounds) (hn1 : rounds ≤ 40) (hr : Rdr w R p) (hR : R < w.heap.size) :
    Calls Try.prog 51 #[.pointer (some ⟨R, 0, none⟩), .int .i64 rounds] w fun e w' => ∃ vc c vg g fp p', e = .returned (.tuple #[vc, vg]) ∧ Own 3 w' w.heap.size vc c ∧ c.length ≤ 11 ∧ Gr w' g vg fp ∧ (∀ r ∈ fp, w.heap.size ≤ r) ∧ g.length ≤ 281 ∧ (∀ x ∈ g, x.ps.length ≤ 100) ∧ Rdr w' R p' ∧ p' ≤ p + 90000 ∧ w.grownBy w' (some R) := by
  go_enter Try.func51, Try.ntmps51
  go_wp2_with fail
  refine (drawGoodV R p _ (by omega) hr hR).mono ?_
  rintro e w1 ⟨vc, c, p1, rfl, hoc, hv, hr1, hp1, hg1⟩
  obtain ⟨ac, cc, rfl, hic, _⟩ := hoc.ints
  obtain ⟨hc1, hc7⟩ := validB_len hv
  have hs1 := hg1.size
  have hR1 : R < w1.heap.size := by omega
  have Hoc := Lib.hid hoc; clear hoc
  have Hcb := Lib.hid (fun b e => (Hoc.out.lt b e).2)
  have Hdg := Lib.hid (drawGraph R p1 rounds w1 ac cc c (by omega) hn0 hn1 hv hr1 hR1 (fun W hW => (Hoc.out.kept hW (.inr fun e => by have := (Hoc.out.lt R e).1; omega)).at))
  have Hg1 := Lib.hid hg1; clear hg1 hr1 hic
  go_wp2_with fail
  refine Hdg.out.mono ?_
  rintro e w2 ⟨vg, g, p2, rfl, hog, hok, hgl, hr2, hp2, hg2⟩
  have hs2 := hg2.size
  have Hoc2 := Lib.hid (Hoc.out.kept hg2 (.inr fun e => by have := (Hoc.out.lt R e).1; omega))
  have Hr2 := Lib.hid hr2; clear hr2
  have Hg2 := Lib.hid (grownBy_trans Hg1.out hg2); clear hg2
  have Hog2 := Lib.hid hog; clear hog
  have hps := gOk_ps hok
  have Hps := Lib.hid (show ∀ x ∈ g, x.ps.length ≤ 100 from fun x hx => Nat.le_trans (hps x hx) (by omega)); clear hps hok hv Hdg Hoc
  by_cases hg0 : g.length = 0
  · have hgn : g = [] := List.eq_nil_of_length_eq_zero hg0
    subst hgn
    obtain ⟨ag, cg, rfl, _⟩ := Hog2.out.slice
    go_wp2
    go_ret2
    obtain ⟨fp, h1, h2⟩ := ownR_gr Hog2.out
    exact ⟨_, c, _, [], fp, p2, rfl, Hoc2.out, by omega, h1, fun r hr => Nat.le_trans hs1 (h2 r hr), by simp, by simp, Hr2.out, by omega, Hg2.out⟩
  obtain ⟨gb, cg, rfl, hBg, hgh, hgs⟩ := Hog2.out.head (by rw [List.length_map]; omega)
  rw [List.length_map] at *
  have hgne : ((g.length : Int) == 0) = false := by rw [beq_eq_false_iff_ne]; omega
  go_wp2_with fail
  refine (pick_any R (g.length : Int) p2 _ (by omega) Hr2.out (by omega)).mono ?_
  rintro e w3 ⟨k, rfl, hk0, hk1, hr3, hg3⟩
  obtain ⟨k, rfl⟩ := Int.eq_ofNat_of_zero_le hk0
  have hk : k < g.length := by omega
  have hs3 := hg3.size
  have Hoc3 := Lib.hid (Hoc2.out.kept hg3 (.inr fun e => by have := (Hoc2.out.lt R e).1; omega))
  have Hog3 := Lib.hid (Hog2.out.same fun b h1 h2 => hg3.block b (by omega) (fun e => by cases e; omega))
  have Hr3 := Lib.hid hr3; clear hr3
  have Hg3 := Lib.hid (grownBy_trans Hg2.out hg3); clear hg3
  go_wp2_with fail
  refine (pick_any R 20 (p2 + 1) _ (by omega) Hr3.out (by omega)).mono ?_
  rintro e w4 ⟨s, rfl, hs0, hs20, hr4, hg4⟩
  have hs4 := hg4.size
  have Hoc4 := Lib.hid (Hoc3.out.kept hg4 (.inr fun e => by have := (Hoc3.out.lt R e).1; omega))
  have Hog4 := Lib.hid (Hog3.out.same fun b h1 h2 => hg4.block b (by omega) (fun e => by cases e; omega))
  have Hr4 := Lib.hid hr4; clear hr4
  have Hg4 := Lib.hid (grownBy_trans Hg3.out hg4); clear hg4
  clear Hoc2 Hoc3 Hog2 Hog3 Hr2 Hr3 Hg1 Hg2 Hg3 hk0 hk1 hg0 hgne hs20 hs0
  by_cases h0 : s = 0
  · subst h0
    go_wp2_with fail
    refine (drawDigest R (p2 + 1 + 1) _ (by omega) Hr4.out).mono ?_
    rintro e w5 ⟨d, p5, rfl, hd0, hd1, hr5, hp5, hg5⟩
    have hs5 := hg5.size
    have Hoc5 := Lib.hid (Hoc4.out.kept hg5 (.inr fun e => by have := (Hoc4.out.lt R e).1; omega))
    have hog5 := Hog4.out.same fun b h1 h2 => hg5.block b (by omega) (fun e => by cases e; omega)
    obtain ⟨q0, q1, ⟨pa, pc, q2⟩, q3, f0, f1, f2, f3⟩ := vx_cells hog5 hk
    have Hog5 := Lib.hid (show OwnR 30 3 4 (w5.setCell ⟨gb, k * 4 + 3, none⟩ (.int .i64 (d))) _ _ _ _ from vx_setI hog5 rfl hk 3 (by omega) (d) ⟨g[k].r, g[k].a, g[k].ps, d⟩ rfl); clear hog5
    have Hr5 := Lib.hid hr5; clear hr5
    have Hg5 := Lib.hid (grownBy_trans Hg4.out hg5); clear hg5
    have hpk := Hps.out _ (List.getElem_mem hk)
    go_wp2
    go_ret2
    obtain ⟨fp, h1, h2⟩ := ownR_gr Hog5.out
    exact ⟨_, c, _, _, fp, p5, rfl, Hoc5.out.set_other (fun e => by have := Hcb.out gb e; omega) _ _, by omega, h1, fun r hr => Nat.le_trans hs1 (h2 r hr), by rw [List.length_set]; omega, set_mem Hps.out hpk, Hr5.out.kept (grownBy_set w5 gb _ _) (fun g e => by cases e; omega), by omega, grown_row Hg5.out (grownBy_set w5 gb _ _) (fun g e => by cases e; omega)⟩
  have e0 : (s == 0) = false := by rw [beq_eq_false_iff_ne]; exact h0
  clear h0
  by_cases h1 : s = 1
  · subst h1
    go_wp2_with fail
    refine (pick_any R 33 (p2 + 1 + 1) _ (by omega) Hr4.out (by omega)).mono ?_
    rintro e w5 ⟨d, rfl, hd0, hd1, hr5, hg5⟩
    have hs5 := hg5.size
    have Hoc5 := Lib.hid (Hoc4.out.kept hg5 (.inr fun e => by have := (Hoc4.out.lt R e).1; omega))
    have hog5 := Hog4.out.same fun b h1 h2 => hg5.block b (by omega) (fun e => by cases e; omega)
    obtain ⟨q0, q1, ⟨pa, pc, q2⟩, q3, f0, f1, f2, f3⟩ := vx_cells hog5 hk
    have Hog5 := Lib.hid (show OwnR 30 3 4 (w5.setCell ⟨gb, k * 4, none⟩ (.int .i64 (d - 1))) _ _ _ _ from by have := vx_setI hog5 rfl hk 0 (by omega) (d - 1) ⟨d - 1, g[k].a, g[k].ps, g[k].d⟩ rfl; rwa [Nat.add_zero] at this); clear hog5
    have Hr5 := Lib.hid hr5; clear hr5
    have Hg5 := Lib.hid (grownBy_trans Hg4.out hg5); clear hg5
    have hpk := Hps.out _ (List.getElem_mem hk)
    have hwd : IntKind.i64.wrap (d - 1) = d - 1 := IntWalk.i64_in _ (by omega)
    go_wp2
    go_ret2
    obtain ⟨fp, h1, h2⟩ := ownR_gr Hog5.out
    exact ⟨_, c, _, _, fp, p2 + 1 + 1 + 1, rfl, Hoc5.out.set_other (fun e => by have := Hcb.out gb e; omega) _ _, by omega, h1, fun r hr => Nat.le_trans hs1 (h2 r hr), by rw [List.length_set]; omega, set_mem Hps.out hpk, Hr5.out.kept (grownBy_set w5 gb _ _) (fun g e => by cases e; omega), by omega, grown_row Hg5.out (grownBy_set w5 gb _ _) (fun g e => by cases e; omega)⟩
  have e1 : (s == 1) = false := by rw [beq_eq_false_iff_ne]; exact h1
  clear h1
  by_cases h2 : s = 2
  · subst h2
    go_wp2_with fail
    refine (pick_any R 9 (p2 + 1 + 1) _ (by omega) Hr4.out (by omega)).mono ?_
    rintro e w5 ⟨d, rfl, hd0, hd1, hr5, hg5⟩
    have hs5 := hg5.size
    have Hoc5 := Lib.hid (Hoc4.out.kept hg5 (.inr fun e => by have := (Hoc4.out.lt R e).1; omega))
    have hog5 := Hog4.out.same fun b h1 h2 => hg5.block b (by omega) (fun e => by cases e; omega)
    obtain ⟨q0, q1, ⟨pa, pc, q2⟩, q3, f0, f1, f2, f3⟩ := vx_cells hog5 hk
    have Hog5 := Lib.hid (show OwnR 30 3 4 (w5.setCell ⟨gb, k * 4 + 1, none⟩ (.int .i64 (d - 1))) _ _ _ _ from vx_setI hog5 rfl hk 1 (by omega) (d - 1) ⟨g[k].r, d - 1, g[k].ps, g[k].d⟩ rfl); clear hog5
    have Hr5 := Lib.hid hr5; clear hr5
    have Hg5 := Lib.hid (grownBy_trans Hg4.out hg5); clear hg5
    have hpk := Hps.out _ (List.getElem_mem hk)
    have hwd : IntKind.i64.wrap (d - 1) = d - 1 := IntWalk.i64_in _ (by omega)
    go_wp2
    go_ret2
    obtain ⟨fp, h1, h2⟩ := ownR_gr Hog5.out
    exact ⟨_, c, _, _, fp, p2 + 1 + 1 + 1, rfl, Hoc5.out.set_other (fun e => by have := Hcb.out gb e; omega) _ _, by omega, h1, fun r hr => Nat.le_trans hs1 (h2 r hr), by rw [List.length_set]; omega, set_mem Hps.out hpk, Hr5.out.kept (grownBy_set w5 gb _ _) (fun g e => by cases e; omega), by omega, grown_row Hg5.out (grownBy_set w5 gb _ _) (fun g e => by cases e; omega)⟩
  have e2 : (s == 2) = false := by rw [beq_eq_false_iff_ne]; exact h2
  clear h2
  by_cases h3 : s = 3
  · subst h3
    go_wp2_with fail
    refine (drawMembers R (p2 + 1 + 1) c.length _ (by omega) (by omega) Hr4.out (by omega)).mono ?_
    rintro e w5 ⟨u, ps, p5, rfl, hu, hul, hr5, hp5, hg5⟩
    have hs5 := hg5.size
    have Hoc5 := Lib.hid (Hoc4.out.kept hg5 (.inr fun e => by have := (Hoc4.out.lt R e).1; omega))
    have hog5 := Hog4.out.same fun b h1 h2 => hg5.block b (by omega) (fun e => by cases e; omega)
    obtain ⟨q0, q1, ⟨pa, pc, q2⟩, q3, f0, f1, f2, f3⟩ := vx_cells hog5 hk
    have hul2 := hu.lt
    obtain ⟨au, cu, rfl, _, _⟩ := hu.ints
    have Hog5 := Lib.hid (vx_setP (hi' := w5.heap.size) hog5 rfl hk (hu.mono (show w1.heap.size ≤ w4.heap.size by omega)) (by omega) (fun b e => by have := hul2 b e; omega)); clear hog5 hu hul2
    have Hr5 := Lib.hid hr5; clear hr5
    have Hg5 := Lib.hid (grownBy_trans Hg4.out hg5); clear hg5
    go_wp2
    go_ret2
    obtain ⟨fp, h1, h2⟩ := ownR_gr Hog5.out
    exact ⟨_, c, _, _, fp, p5, rfl, Hoc5.out.set_other (fun e => by have := Hcb.out gb e; omega) _ _, by omega, h1, fun r hr => Nat.le_trans hs1 (h2 r hr), by rw [List.length_set]; omega, set_mem Hps.out (by simp only; omega), Hr5.out.kept (grownBy_set w5 gb _ _) (fun g e => by cases e; omega), by omega, grown_row Hg5.out (grownBy_set w5 gb _ _) (fun g e => by cases e; omega)⟩
  have e3 : (s == 3) = false := by rw [beq_eq_false_iff_ne]; exact h3
  clear h3
  by_cases h4 : s = 4
  · subst h4
    obtain ⟨fp, hgr, hfp⟩ := ownR_gr Hog4.out
    have hfl := hgr.lt
    obtain ⟨_, _, e, _, _, h9, hcg, h8⟩ := Rd.at hgr (sz := 4) (by simp; omega) (by intro e he; obtain ⟨e', he', rfl⟩ := List.mem_map.1 he; obtain ⟨y, _, rfl⟩ := List.mem_map.1 he'; rfl)
    clear e h9 h8
    have hsz4 : ∀ e ∈ (g.map Vx.fd).map (fun e => e.map Fd.dt), e.length = 4 := by intro e he; obtain ⟨e', he', rfl⟩ := List.mem_map.1 he; obtain ⟨y, _, rfl⟩ := List.mem_map.1 he'; rfl
    obtain ⟨fpA, hA, hAf⟩ := Rd.cut hgr hsz4 0 k 0 cg (by simp; omega) (fun _ => by simp) (fun _ => by omega)
    obtain ⟨o2, hif, fpB, hB, hBf⟩ := Rd.tail hgr hsz4 (k + 1) (by simp; omega)
    rw [Nat.zero_add] at hif
    rw [List.drop_zero] at hA
    simp only [List.length_map] at hB
    have HA := Lib.hid hA; clear hA
    have HB := Lib.hid hB; clear hB
    have HAf := Lib.hid (show ∀ r ∈ fpA, w1.heap.size ≤ r ∧ r < w4.heap.size from fun r hr => ⟨hfp r (hAf r hr), hfl r (hAf r hr)⟩)
    have HBf := Lib.hid (show ∀ r ∈ fpB, w1.heap.size ≤ r ∧ r < w4.heap.size from fun r hr => ⟨hfp r (hBf r hr), hfl r (hBf r hr)⟩)
    have Hszs := Lib.hid hsz4; clear hsz4 hgr hfp hfl hAf hBf Hog4
    have hwk : IntKind.i64.wrap ((k : Int) + 1) = (k : Int) + 1 := IntWalk.i64_in _ (by omega)
    have e1 : ((k : Int) + 1).toNat = k + 1 := by omega
    have e2 : 0 ≤ (k : Int) + 1 := by omega
    have e3' : (k : Int) + 1 ≤ (g.length : Int) := by omega
    have e4' : (k : Int) ≤ (cg : Int) := by omega
    have e5' : k ≤ cg := by omega
    have e6' : k + 1 ≤ g.length := by omega
    have e7' : (g.length : Int) ≤ (cg : Int) := by omega
    go_wp2_with fail
    refine wp_region_held_drew (S := fun _ => True) (by kernel_rfl) trivial (fun hH => ?_)
    refine takeH 1 (v := ?v1) rfl (by kernel_rfl) (by kernel_rfl) (by kernel_rfl) (fun _ _ _ h => h) hH rfl ?y1 ?r1
    case y1 => intro W hSw; go_simp; try with_reducible rfl
    try simp only [Act.put, List.setIfInBounds_toArray, List.set_cons_zero, List.set_cons_succ]
    refine takeH 2 (v := ?v2) rfl (by kernel_rfl) (by kernel_rfl) (by kernel_rfl) (fun _ _ _ h => h) hH rfl ?y2 ?r2
    case y2 => intro W hSw; go_simp; try with_reducible rfl
    try simp only [Act.put, List.setIfInBounds_toArray, List.set_cons_zero, List.set_cons_succ]
    refine takeH 3 (v := ?v3) rfl (by kernel_rfl) (by kernel_rfl) (by kernel_rfl) (fun _ _ _ h => h) hH rfl ?y3 ?r3
    case y3 => intro W hSw; go_simp; try with_reducible rfl
    try simp only [Act.put, List.setIfInBounds_toArray, List.set_cons_zero, List.set_cons_succ]
    refine takeH 5 (v := ?v5) rfl (by kernel_rfl) (by kernel_rfl) (by kernel_rfl) (fun _ _ _ h => h) hH rfl ?y5 ?r5
    case y5 => intro W hSw; go_simp; try with_reducible rfl
    try simp only [Act.put, List.setIfInBounds_toArray, List.set_cons_zero, List.set_cons_succ]
    refine takeH 6 (v := ?v6) rfl (by kernel_rfl) (by kernel_rfl) (by kernel_rfl) (fun _ _ _ h => h) hH rfl ?y6 ?r6
    case y6 => intro W hSw; go_simp; try with_reducible rfl
    try simp only [Act.put, List.setIfInBounds_toArray, List.set_cons_zero, List.set_cons_succ]
    refine takeH 7 (v := ?v7) rfl (by kernel_rfl) (by kernel_rfl) (by kernel_rfl) (fun _ _ _ h => h) hH rfl ?y7 ?r7
    case y7 => intro W hSw; go_simp; try with_reducible rfl
    try simp only [Act.put, List.setIfInBounds_toArray, List.set_cons_zero, List.set_cons_succ]
    refine takeH 8 (v := ?v8) rfl (by kernel_rfl) (by kernel_rfl) (by kernel_rfl) (fun _ _ _ h => h) hH rfl ?y8 ?r8
    case y8 => intro W hSw; go_simp; try with_reducible rfl
    try simp only [Act.put, List.setIfInBounds_toArray, List.set_cons_zero, List.set_cons_succ]
    refine callH 0 rfl (by kernel_rfl) rfl (fun K hK => ?_)
    go_simp
    refine hK.out _ _ trivial (fun hH => ?_)
    clear hK K
    try simp only [Act.put, List.setIfInBounds_toArray, List.set_cons_zero, List.set_cons_succ]
    have hga : w4.grownBy ((w4.alloc (.cells #[] 30)).drew) none := grownBy_drewN (World.grownBy_alloc w4 (.cells #[] 30) none) 1
    have hbn : Bld 30 4 ((w4.alloc (.cells #[] 30)).drew) w1.heap.size (.slice (some ⟨w4.heap.size, 0, none⟩) 0 0) [] := Bld.nil (World.ownsRow_made w4 #[] 0 (show w1.heap.size ≤ w4.heap.size by omega) (by simp) (by simp))
    have hza : ((w4.alloc (.cells #[] 30)).drew).heap.size = w4.heap.size + 1 := by show (w4.alloc (.cells #[] 30)).heap.size = _; rw [World.size_alloc]
    have hA1 := HA.out.grown hga (fun r e => by cases e)
    have hB1 := HB.out.grown hga (fun r e => by cases e)
    generalize (w4.alloc (.cells #[] 30)).drew = w5 at *
    refine callH 4 rfl (by kernel_rfl) rfl (fun K hK => ?_)
    refine op_app_rows Try.underlying24 vertex_inf rfl (by decide) (by decide) w5 (.tmp 64) (.tmp 67) rfl w1.heap.size (.slice (some ⟨w4.heap.size, 0, none⟩) 0 0) (.slice (some ⟨gb, 0, none⟩) k cg) [] _ fpA rfl hbn rfl hA1 (fun e he => Hszs.out e (List.mem_of_mem_take he)) (fun r hr => ⟨(HAf.out r hr).1, fun e => by have := (HAf.out r hr).2; simp [Value.ownBlock] at e; omega⟩) (by simp; omega) (by omega) ?_
    intro v6 w6 hbl6 hg6 hlo6
    rw [List.nil_append] at hbl6
    have hB2 := hB1.grown hg6 (fun r e hm => by have := (HBf.out r hm).2; simp [Value.ownBlock] at e; omega)
    have hs6 := hg6.size
    refine hK.out _ _ trivial (fun hH => ?_)
    clear hK K
    try simp only [Act.put, List.setIfInBounds_toArray, List.set_cons_zero, List.set_cons_succ]
    refine callH 9 rfl (by kernel_rfl) rfl (fun K hK => ?_)
    refine op_app_rows Try.underlying24 vertex_inf rfl (by decide) (by decide) w6 (.tmp 68) (.tmp 72) rfl w1.heap.size v6 (.slice (some ⟨gb, o2, none⟩) (g.length - (k + 1)) (cg - (k + 1))) _ _ fpB rfl hbl6 (by first | rfl | (rw [← hif]; rfl)) hB2 (fun e he => Hszs.out e (List.mem_of_mem_drop he)) (fun r hr => ⟨(HBf.out r hr).1, fun e => by
      have := (HBf.out r hr).2
      rcases hlo6 r e with h | h
      · simp [Value.ownBlock] at h; omega
      · omega⟩) (by simp; omega) (by omega) ?_
    intro v7 w7 hbl7 hg7 hlo7
    refine hK.out _ _ trivial (fun hH => ?_)
    clear hK K
    try simp only [Act.put, List.setIfInBounds_toArray, List.set_cons_zero, List.set_cons_succ]
    refine takeH 10 (v := ?v10) rfl (by kernel_rfl) (by kernel_rfl) (by kernel_rfl) (fun _ _ _ h => h) hH rfl ?y10 ?r10
    case y10 => intro W hSw; go_simp; try with_reducible rfl
    try simp only [Act.put, List.setIfInBounds_toArray, List.set_cons_zero, List.set_cons_succ]
    refine wpAnyH_done (by kernel_rfl) ?_ _
    try simp only [Act.put]
    have hv6 : ∀ q, v6.ownBlock = some q → w4.heap.size ≤ q := fun q e => by
      rcases hlo6 q e with h | h
      · simp [Value.ownBlock] at h; omega
      · omega
    have hr5 := (Hr4.out.kept hga (fun q e => by cases e)).kept hg6 (fun q e => by have h : w4.heap.size = q := (by simpa [Value.ownBlock] using e); omega)
    have hoc7 := ((Hoc4.out.kept hga (by cases (Value.slice ac c.length cc).ownBlock <;> simp)).kept hg6 (.inr (fun e => by have h : w4.heap.size < w1.heap.size := Hcb.out _ e; omega))).kept hg7 (by
      cases hvc : (Value.slice ac c.length cc).ownBlock with
      | none => exact .inl rfl
      | some q => exact .inr fun e => by have := Hcb.out q hvc; have := hv6 q e.symm; omega)
    have Hr7 := Lib.hid (hr5.kept hg7 (fun q e => by have := hv6 q e; omega))
    have Hoc7 := Lib.hid hoc7
    have Hg7 := Lib.hid (grown_row (grown_row (grown_row Hg4.out hga (fun q e => by cases e)) hg6 (fun q e => by have h : w4.heap.size = q := (by simpa [Value.ownBlock] using e); omega)) hg7 (fun q e => by have := hv6 q e; omega))
    obtain ⟨fp, h1, h2⟩ := hbl7.rd
    have hgr : Gr w7 (g.take k ++ g.drop (k + 1)) v7 fp := by unfold Gr rowsD; rw [List.map_append, List.map_append, List.map_take, List.map_take, List.map_drop, List.map_drop]; exact h1
    have Hgr := Lib.hid hgr
    have Hfp := Lib.hid h2
    have Hps7 := Lib.hid (show ∀ x ∈ g.take k ++ g.drop (k + 1), x.ps.length ≤ 100 from fun x hx => by
      rcases List.mem_append.1 hx with hx | hx
      · exact Hps.out x (List.mem_of_mem_take hx)
      · exact Hps.out x (List.mem_of_mem_drop hx))
    clear hgr h1 h2 hoc7 hr5 hbl7 hbl6 hB2 hA1 hB1 hg7 hg6 hga
    go_wp2
    go_ret2
    exact ⟨_, c, v7, _, fp, p2 + 1 + 1, rfl, Hoc7.out, by omega, Hgr.out, fun r hr => Nat.le_trans hs1 (Hfp.out r hr), by rw [List.length_append, List.length_take, List.length_drop]; omega, Hps7.out, Hr7.out, by omega, Hg7.out⟩
  have e4 : (s == 4) = false := by rw [beq_eq_false_iff_ne]; exact h4
  clear h4
  by_cases h5 : s = 5
  · subst h5
    have hk' : k < (g.map Vx.fd).length := by simpa using hk
    have he : (g.map Vx.fd)[k] = g[k].fd := by simp
    obtain ⟨q0, q1, _, q3, _⟩ := vx_cells Hog4.out hk
    obtain ⟨pa, pc, q2, ho2, _, hne2, _⟩ := Hog4.out.fieldL (k := k) (j := 2) hk' (by rw [he]; simp [Vx.fd]) (xs := g[k].ps) (by simp only [he]; rfl)
    obtain ⟨fp2, hr2, hf2⟩ := Rd.of_own ho2
    have hcr : CellsRd w4 w1.heap.size (Value.slice (some ⟨gb, 0, none⟩) g.length cg).ownBlock [.int .i64 g[k].r, .int .i64 g[k].a, .slice pa g[k].ps.length pc, .int .i64 g[k].d] [.i g[k].r, .i g[k].a, intsD g[k].ps, .i g[k].d] := by
      intro j hj
      match j, hj with
      | 0, _ => exact ⟨_, [], rfl, .i _, by simp⟩
      | 1, _ => exact ⟨_, [], rfl, .i _, by simp⟩
      | 2, _ => exact ⟨_, fp2, rfl, hr2, fun r hr => ⟨(hf2 r hr).1, fun e => hne2 ((hf2 r hr).2.trans e.symm)⟩⟩
      | 3, _ => exact ⟨_, [], rfl, .i _, by simp⟩
    have Hcr := Lib.hid hcr; clear hcr ho2 hr2 hf2 hne2
    have Hbl := Lib.hid Hog4.out.bld
    have hel : ((g.map Vx.fd).map fun e => e.map Fd.dt).length ≤ 1048576 := by rw [List.length_map, List.length_map]; omega
    have Hex := Lib.hid (show ((g ++ [g[k]]).map Vx.fd).map (fun e => e.map Fd.dt) = (g.map Vx.fd).map (fun e => e.map Fd.dt) ++ [[.i g[k].r, .i g[k].a, intsD g[k].ps, .i g[k].d]] by rw [List.map_append, List.map_append]; rfl)
    have Hlt4 := Lib.hid Hog4.out.lt
    have hB4 : w1.heap.size ≤ w4.heap.size := by omega
    have hpk := Hps.out _ (List.getElem_mem hk)
    have Hap := Lib.hid (Hog4.out.apartI Hoc4.out (by decide))
    clear Hog4 he hk'
    generalize (g.map Vx.fd).map (fun e => e.map Fd.dt) = es at *
    generalize hy : g[k] = y at *
    go_wp2_with (at_builtin; refine wpList_push_row Try.underlying24 vertex_inf rfl (by decide) (by decide) rfl (.tmp 76) (.tmp 81) rfl w1.heap.size (.slice (some ⟨gb, 0, none⟩) g.length cg) es _ _ _ rfl rfl (by intro u hu; simp at hu; rcases hu with rfl | rfl | rfl | rfl <;> rfl) rfl Hbl.out rfl Hcr.out hel rfl hB4 ?_; intro v8 w8 hbl8 hg8 hat8)
    go_ret2
    obtain ⟨fp, h1, h2⟩ := hbl8.rd
    have hgr : Gr w8 (g ++ [y]) v8 fp := by unfold Gr rowsD; rw [Hex.out]; exact h1
    exact ⟨_, c, v8, g ++ [y], fp, p2 + 1 + 1, rfl, Hoc4.out.kept hg8 Hap.out, by omega, hgr, fun r hr => Nat.le_trans hs1 (h2 r hr), by rw [List.length_append]; simp; omega, fun x hx => by
      rcases List.mem_append.1 hx with hx | hx
      · exact Hps.out x hx
      · simp at hx; subst hx; exact hpk, Hr4.out.kept hg8 (fun q e => by have := (Hbl.out.lt q e).1; omega), by omega, grown_row Hg4.out hg8 (fun q e => by have := (Hbl.out.lt q e).1; omega)⟩
  have e5 : (s == 5) = false := by rw [beq_eq_false_iff_ne]; exact h5
  clear h5
  by_cases h6 : s = 6
  · subst h6
    go_wp2_with fail
    refine (drawCommittee R (p2 + 1 + 1) _ (by omega) Hr4.out (by omega)).mono ?_
    rintro e w5 ⟨u, c5, p5, rfl, hu, hul, _, hr5, hp5, hg5⟩
    have hs5 := hg5.size
    have Hog5 := Lib.hid (Hog4.out.same fun b h1 h2 => hg5.block b (by omega) (fun e => by cases e; omega))
    obtain ⟨au, cu, rfl, _, _⟩ := hu.ints
    have Hu := Lib.hid (hu.mono (show w.heap.size ≤ w4.heap.size by omega)); clear hu
    have Hr5 := Lib.hid hr5; clear hr5
    have Hg5 := Lib.hid (grownBy_trans Hg4.out hg5); clear hg5
    go_wp2
    go_ret2
    obtain ⟨fp, h1, h2⟩ := ownR_gr Hog5.out
    exact ⟨_, c5, _, g, fp, p5, rfl, Hu.out, hul, h1, fun r hr => Nat.le_trans hs1 (h2 r hr), by omega, Hps.out, Hr5.out, by omega, Hg5.out⟩
  have e6 : (s == 6) = false := by rw [beq_eq_false_iff_ne]; exact h6
  clear h6
  go_wp2
  go_ret2
  obtain ⟨fp, h1, h2⟩ := ownR_gr Hog4.out
  exact ⟨_, c, _, g, fp, p2 + 1 + 1, rfl, Hoc4.out, by omega, h1, fun r hr => Nat.le_trans hs1 (h2 r hr), by omega, Hps.out, Hr4.out, by omega, Hg4.out⟩

end Go.Proofs.Yteglefchkecfjab

/- The draws of GraphValid, GraphAuthors and GraphHeight: what is drawn reads as a graph in new memory; each by a walk of its text; condition: the code is shorter than 2^20. -/
namespace Go.Proofs.Yteglefchkecfjab
open Go.RowKit

set_option maxHeartbeats 1000000 in
theorem spec_DrawGraphValid (a : Option Addr) (cap : Nat) (zs : List Int) (w : World) (h : CodeAt w a cap zs) :
    Calls Try.prog 12 #[.slice a zs.length cap] w fun e w' => ∃ vc c vg g fp, e = .returned (.tuple #[vc, vg]) ∧ Own 3 w' w.heap.size vc c ∧ c.length ≤ 11 ∧ Gr w' g vg fp ∧ (∀ r ∈ fp, w.heap.size ≤ r) ∧ g.length ≤ 281 ∧ (∀ x ∈ g, x.ps.length ≤ 100) ∧ Below w.heap.size w w' := by
  go_enter Try.func12, Try.ntmps12
  go_wp2_with fail
  refine (open_any a cap zs _ h).mono ?_
  rintro e w1 ⟨R, rfl, hR0, hR1, hr1, hb1⟩
  have Hr1 := Lib.hid hr1; clear hr1
  have Hb1 := Lib.hid hb1; clear hb1
  go_wp2_with fail
  refine (pick_any R 9 0 _ (by omega) Hr1.out (by omega)).mono ?_
  rintro e w2 ⟨n, rfl, hn0, hn1, hr2, hg2⟩
  have hs2 := hg2.size
  have Hr2 := Lib.hid hr2; clear hr2
  have Hb2 := Lib.hid (Hb1.out.grown hg2 Hb1.out.size (fun g e => by cases e; exact hR0)); clear hg2
  go_wp2_with fail
  refine (drawSpoilt R (0 + 1) n w2 (by omega) hn0 (by omega) Hr2.out (by omega)).mono ?_
  rintro e w3 ⟨vc, c, vg, g, fp, p3, rfl, hoc, hcl, hgr, hfp, hgl, hps, hr3, hp3, hg3⟩
  have hs3 := hg3.size
  obtain ⟨ac, cc, rfl, _, _⟩ := hoc.ints
  have hw12 := Hb2.out.size
  have Hoc3 := Lib.hid hoc; clear hoc
  have Hgr3 := Lib.hid hgr; clear hgr
  have Hfp := Lib.hid hfp; clear hfp
  have Hr3 := Lib.hid hr3; clear hr3
  have Hb3 := Lib.hid (Hb2.out.grown hg3 Hb2.out.size (fun g e => by cases e; exact hR0)); clear hg3
  go_wp2
  refine bodyPost_ret (v := .tuple #[.slice ac c.length cc, vg]) (by simp [results, Try.f12, go_sem]) rfl ?_
  exact ⟨_, c, vg, g, fp, rfl, Hoc3.out.mono (by omega), hcl, Hgr3.out, fun r hr => Nat.le_trans (by omega) (Hfp.out r hr), hgl, hps, Hb3.out⟩

set_option maxHeartbeats 1000000 in
theorem spec_DrawGraphAuthors (a : Option Addr) (cap : Nat) (zs : List Int) (w : World) (h : CodeAt w a cap zs) :
    Calls Try.prog 20 #[.slice a zs.length cap] w fun e w' => ∃ vc c vg g fp r1, e = .returned (.tuple #[vc, vg, .int .i64 r1]) ∧ Own 3 w' w.heap.size vc c ∧ c.length ≤ 11 ∧ Gr w' g vg fp ∧ (∀ r ∈ fp, w.heap.size ≤ r) ∧ g.length ≤ 281 ∧ (∀ x ∈ g, x.ps.length ≤ 100) ∧ Below w.heap.size w w' := by
  go_enter Try.func20, Try.ntmps20
  go_wp2_with fail
  refine (open_any a cap zs _ h).mono ?_
  rintro e w1 ⟨R, rfl, hR0, hR1, hr1, hb1⟩
  have Hr1 := Lib.hid hr1; clear hr1
  have Hb1 := Lib.hid hb1; clear hb1
  go_wp2_with fail
  refine (pick_any R 7 0 _ (by omega) Hr1.out (by omega)).mono ?_
  rintro e w2 ⟨n, rfl, hn0, hn1, hr2, hg2⟩
  have hs2 := hg2.size
  have Hr2 := Lib.hid hr2; clear hr2
  have Hb2 := Lib.hid (Hb1.out.grown hg2 Hb1.out.size (fun g e => by cases e; exact hR0)); clear hg2
  go_wp2_with fail
  refine (drawSpoilt R (0 + 1) n w2 (by omega) hn0 (by omega) Hr2.out (by omega)).mono ?_
  rintro e w3 ⟨vc, c, vg, g, fp, p3, rfl, hoc, hcl, hgr, hfp, hgl, hps, hr3, hp3, hg3⟩
  have hs3 := hg3.size
  obtain ⟨ac, cc, rfl, _, _⟩ := hoc.ints
  have hw12 := Hb2.out.size
  have Hoc3 := Lib.hid hoc; clear hoc
  have Hgr3 := Lib.hid hgr; clear hgr
  have Hfp := Lib.hid hfp; clear hfp
  have Hr3 := Lib.hid hr3; clear hr3
  have Hb3 := Lib.hid (Hb2.out.grown hg3 Hb2.out.size (fun g e => by cases e; exact hR0)); clear hg3
  go_wp2_with fail
  refine (pick_any R 9 p3 _ (by omega) Hr3.out (by omega)).mono ?_
  rintro e w4 ⟨x, rfl, hx0, hx1, hr4, hg4⟩
  have Hoc4 := Lib.hid (Hoc3.out.kept hg4 (.inr fun e => by have := (Hoc3.out.lt R e).1; omega))
  have Hgr4 := Lib.hid (show Gr w4 g vg fp from Rd.grown hg4 Hgr3.out (fun r e hm => by cases e; have := Hfp.out R hm; omega))
  have Hr4 := Lib.hid hr4; clear hr4
  have hs4 := hg4.size
  have Hb4 := Lib.hid (Hb3.out.grown hg4 Hb3.out.size (fun g e => by cases e; exact hR0)); clear hg4
  have hwx : IntKind.i64.wrap (x - 1) = x - 1 := IntWalk.i64_in _ (by omega)
  go_wp2
  refine bodyPost_ret (v := .tuple #[.slice ac c.length cc, vg, .int .i64 (x - 1)]) (by simp [results, Try.f20, go_sem]) rfl ?_
  exact ⟨_, c, vg, g, fp, x - 1, rfl, Hoc4.out.mono (by omega), hcl, Hgr4.out, fun r hr => Nat.le_trans (by omega) (Hfp.out r hr), hgl, hps, Hb4.out⟩

theorem spec_DrawGraphHeight (a : Option Addr) (cap : Nat) (zs : List Int) (w : World) (h : CodeAt w a cap zs) :
    Calls Try.prog 27 #[.slice a zs.length cap] w fun e w' => ∃ vc c vg g fp, e = .returned (.tuple #[vc, vg]) ∧ Own 3 w' w.heap.size vc c ∧ c.length ≤ 11 ∧ Gr w' g vg fp ∧ (∀ r ∈ fp, w.heap.size ≤ r) ∧ g.length ≤ 281 ∧ (∀ x ∈ g, x.ps.length ≤ 100) ∧ Below w.heap.size w w' := by
  go_enter Try.func27, Try.ntmps27
  go_wp2_with fail
  refine (spec_DrawGraphValid a cap zs w h).mono ?_
  rintro e w1 ⟨vc, c, vg, g, fp, rfl, hoc, hcl, hgr, hfp, hgl, hps, hb⟩
  go_wp2
  refine bodyPost_ret (v := .tuple #[vc, vg]) (by simp [results, Try.f27, go_sem]) rfl ?_
  exact ⟨_, c, vg, g, fp, rfl, hoc, hcl, hgr, hfp, hgl, hps, hb⟩

end Go.Proofs.Yteglefchkecfjab

/- What the laws of adding vertices say of the reference's answers; plain facts on lists, nothing here is walked. -/
namespace Go.Proofs.Yteglefchkecfjab
open Go.RowKit

theorem graph_iff {c : List Int} {g : List Vx} : graphB c g = true ↔ validB c = true ∧ Srt g ∧ (∀ y ∈ g, vtxB c y = true) ∧ ∀ y ∈ g, parB g y = true := by
  constructor
  · intro h
    have h2 := h
    unfold graphB at h2
    rw [Bool.and_eq_true] at h2
    refine ⟨h2.1, graph_sorted h, graph_vtx h, fun y hy => ?_⟩
    obtain ⟨k, hk, rfl⟩ := List.mem_iff_getElem.1 hy
    have := allB_upto h2.2 k hk
    unfold okV at this
    simp only [Bool.and_eq_true] at this
    rw [getV hk] at this
    exact this.2.2
  · rintro ⟨h1, h2, h3, h4⟩
    unfold graphB
    rw [Bool.and_eq_true]
    refine ⟨h1, allB_yes (k := g.length) (fun k hk => ?_) (Nat.le_refl _)⟩
    unfold okV
    simp only [Bool.and_eq_true, Bool.or_eq_true, beq_iff_eq]
    rw [getV hk]
    refine ⟨h3 _ (List.getElem_mem hk), ?_, h4 _ (List.getElem_mem hk)⟩
    by_cases e : k = 0
    · exact .inl e
    · refine .inr ?_
      rw [getV (show k - 1 < g.length by omega)]
      exact List.pairwise_iff_getElem.1 h2 (k - 1) k (by omega) hk (by omega)
theorem srt_irr {x : Vx} (h : befB x x = true) : False := by have := befB_iff.1 h; omega
theorem srt_ext : ∀ {a b : List Vx}, Srt a → Srt b → (∀ x, x ∈ a ↔ x ∈ b) → a = b
  | [], [], _, _, _ => rfl
  | [], y :: b, _, _, h => by have := (h y).2 (by simp); cases this
  | x :: a, [], _, _, h => by have := (h x).1 (by simp); cases this
  | x :: a, y :: b, ha, hb, h => by
    obtain ⟨ha1, ha2⟩ := List.pairwise_cons.1 ha
    obtain ⟨hb1, hb2⟩ := List.pairwise_cons.1 hb
    have e : x = y := by
      rcases List.mem_cons.1 ((h x).1 (by simp)) with e | e
      · exact e
      · rcases List.mem_cons.1 ((h y).2 (by simp)) with e2 | e2
        · exact e2.symm
        · exact (srt_irr (bef_trans (ha1 y e2) (hb1 x e))).elim
    subst e
    congr 1
    refine srt_ext ha2 hb2 fun z => ⟨fun hz => ?_, fun hz => ?_⟩
    · rcases List.mem_cons.1 ((h z).1 (List.mem_cons_of_mem _ hz)) with e | e
      · subst e; exact (srt_irr (ha1 z hz)).elim
      · exact e
    · rcases List.mem_cons.1 ((h z).2 (List.mem_cons_of_mem _ hz)) with e | e
      · subst e; exact (srt_irr (hb1 z hz)).elim
      · exact e
theorem add0 {g : List Vx} {x : Vx} (hs : Srt g) (h : addN g x = 0) : (∀ y ∈ g, ¬ (y.r = x.r ∧ y.a = x.a)) ∧ parB g x = true := by
  unfold addN at h
  by_cases h1 : 0 ≤ findZ g x.r x.a
  · rw [if_pos h1] at h; split at h <;> cases h
  · rw [if_neg h1] at h
    refine ⟨fun y hy e => ?_, ?_⟩
    · obtain ⟨k, _, ek, _⟩ := findZ_mem hs hy
      rw [e.1, e.2] at ek; omega
    · by_cases h2 : parB g x = true
      · exact h2
      · rw [if_neg h2] at h; cases h
theorem of_add0 {g : List Vx} {x : Vx} (hn : ∀ y ∈ g, ¬ (y.r = x.r ∧ y.a = x.a)) (hp : parB g x = true) : addN g x = 0 ∧ addG g x = insG g x := addN_done (findZ_none hn) hp
theorem par_ins {g : List Vx} {x y : Vx} (h : parB g y = true) : parB (insG g x) y = true := by
  rw [parB_iff] at h ⊢
  intro p hp
  obtain ⟨z, hz, e⟩ := h p hp
  exact ⟨z, ins_mem.2 (.inl hz), e⟩
/-- The graph with one vertex more is valid. -/
theorem ins_graph {c : List Int} {g : List Vx} {x : Vx} (h : graphB c g = true) (hx : vtxB c x = true) (h0 : addN g x = 0) : graphB c (insG g x) = true := by
  obtain ⟨h1, h2, h3, h4⟩ := graph_iff.1 h
  obtain ⟨hn, hp⟩ := add0 h2 h0
  refine graph_iff.2 ⟨h1, ins_srt h2 hn, fun y hy => ?_, fun y hy => ?_⟩
  · rcases ins_mem.1 hy with hy | rfl
    · exact h3 y hy
    · exact hx
  · rcases ins_mem.1 hy with hy | rfl
    · exact par_ins (h4 y hy)
    · exact par_ins hp
theorem add_at {g : List Vx} {x y : Vx} (hs : Srt g) (hy : y ∈ g) (hr : y.r = x.r) (ha : y.a = x.a) : (addN g x = if sameB y x = true then 1 else 2) ∧ addG g x = g := by
  obtain ⟨k, hk, e, rfl⟩ := findZ_mem hs hy
  rw [hr, ha] at e
  cases h : sameB g[k] x with
  | true => obtain ⟨h1, h2⟩ := addN_same hk e h; exact ⟨h1, h2⟩
  | false => obtain ⟨h1, h2⟩ := addN_twice hk e h; exact ⟨by rw [h1]; rfl, h2⟩
theorem sameB_iff {x y : Vx} : sameB x y = true ↔ x = y := by unfold sameB; exact decide_eq_true_iff
theorem gaN_0 {c : List Int} {g : List Vx} {x : Vx} (h : gaN c g x = 0) : graphB c g = true ∧ vtxB c x = true ∧ addN g x = 0 ∧ gaG c g x = insG g x := by
  unfold gaN at h
  by_cases hb : gaB c g x = true
  · rw [if_pos hb] at h
    have hb2 := hb
    unfold gaB at hb2
    rw [Bool.and_eq_true] at hb2
    refine ⟨hb2.1, hb2.2, h, ?_⟩
    unfold gaG addG
    rw [if_pos hb, if_pos h]
  · rw [if_neg hb] at h; cases h
theorem ga_of {c : List Int} {g : List Vx} {x : Vx} (h1 : graphB c g = true) (h2 : vtxB c x = true) : gaN c g x = addN g x ∧ gaG c g x = addG g x := ga_yes (by unfold gaB; rw [h1, h2]; rfl)
/-- P43: a vertex that has been added is known; another one with its round and author is a second one. -/
theorem twice_law {c : List Int} {g : List Vx} {x u : Vx} (h : gaN c g x = 0) (hu : vtxB c x = true → vtxB c u = true) (hr : u.r = x.r) (ha : u.a = x.a) :
    gaN c (gaG c g x) x = 1 ∧ gaG c (gaG c g x) x = gaG c g x ∧ gaG c (gaG c g x) u = gaG c g x ∧ (gaN c (gaG c g x) u = 2 ∨ u.d = x.d) := by
  obtain ⟨h1, h2, h3, h4⟩ := gaN_0 h
  have hg := ins_graph h1 h2 h3
  have hs := graph_sorted hg
  have hm : x ∈ insG g x := ins_mem.2 (.inr rfl)
  rw [h4]
  obtain ⟨e1, e2⟩ := ga_of hg h2
  obtain ⟨e3, e4⟩ := ga_of hg (hu h2)
  obtain ⟨f1, f2⟩ := add_at (x := x) hs hm rfl rfl
  obtain ⟨f3, f4⟩ := add_at (x := u) hs hm hr.symm ha.symm
  rw [if_pos (sameB_iff.2 rfl)] at f1
  refine ⟨by rw [e1, f1], by rw [e2, f2], by rw [e4, f4], ?_⟩
  by_cases e : x = u
  · exact .inr (by rw [e])
  · rw [if_neg (fun h => e (sameB_iff.1 h))] at f3
    exact .inl (by rw [e3, f3])
/-- P45: two vertices may be added in either order. -/
theorem order_law {c : List Int} {g : List Vx} {v u : Vx} (h : gaN c g v = 0) (h1 : gaN c (gaG c g v) u = 0) (h2 : gaN c g u = 0) : gaN c (gaG c g u) v = 0 ∧ gaG c (gaG c g u) v = gaG c (gaG c g v) u := by
  obtain ⟨a1, a2, a3, a4⟩ := gaN_0 h
  obtain ⟨b1, b2, b3, b4⟩ := gaN_0 h2
  obtain ⟨d1, d2, d3, d4⟩ := gaN_0 h1
  rw [a4] at d3 d4 d1 ⊢
  rw [d4, b4]
  have hgu := ins_graph b1 b2 b3
  have hsv := graph_sorted a1
  obtain ⟨nv, pv⟩ := add0 hsv a3
  obtain ⟨nu, pu⟩ := add0 hsv b3
  obtain ⟨nvu, _⟩ := add0 (graph_sorted d1) d3
  have hne : ¬ (v.r = u.r ∧ v.a = u.a) := nvu v (ins_mem.2 (.inr rfl))
  have nuv : ∀ y ∈ insG g u, ¬ (y.r = v.r ∧ y.a = v.a) := fun y hy e => by
    rcases ins_mem.1 hy with hy | rfl
    · exact nv y hy e
    · exact hne ⟨e.1.symm, e.2.symm⟩
  obtain ⟨f1, f2⟩ := of_add0 nuv (par_ins pv)
  obtain ⟨e1, e2⟩ := ga_of hgu a2
  refine ⟨by rw [e1, f1], ?_⟩
  rw [e2, f2]
  refine srt_ext (ins_srt (ins_srt hsv nu) nuv) (ins_srt (ins_srt hsv nv) nvu) fun x => ?_
  rw [ins_mem, ins_mem, ins_mem, ins_mem]
  constructor
  · rintro ((h | h) | h)
    · exact .inl (.inl h)
    · exact .inr h
    · exact .inl (.inr h)
  · rintro ((h | h) | h)
    · exact .inl (.inl h)
    · exact .inr h
    · exact .inl (.inr h)
/-- P44: what each code says. -/
theorem codes_law {c : List Int} {g : List Vx} {x : Vx} (h0 : gaN c g x ≠ 0) (h4 : gaN c g x ≠ 4) : graphB c g = true ∧ vtxB c x = true ∧ gaG c g x = g ∧
    (gaN c g x = 1 ↔ ∃ k : Nat, ∃ hk : k < g.length, findZ g x.r x.a = k ∧ g[k] = x) ∧ (gaN c g x = 3 ↔ findZ g x.r x.a < 0 ∧ parB g x = false) := by
  have hb : gaB c g x = true := by
    by_cases hb : gaB c g x = true
    · exact hb
    · exact absurd (ga_no (by simpa using hb)).1 h4
  have hb2 := hb
  unfold gaB at hb2
  rw [Bool.and_eq_true] at hb2
  obtain ⟨e1, e2⟩ := ga_of hb2.1 hb2.2
  rw [e1] at h0 ⊢
  refine ⟨hb2.1, hb2.2, by rw [e2]; unfold addG; rw [if_neg h0], ?_, ?_⟩
  · unfold addN
    rcases findZ_cases g x.r x.a with ⟨e, _⟩ | ⟨k, hk, e, _⟩
    · rw [e, if_neg (by omega)]
      constructor
      · intro h; split at h <;> cases h
      · rintro ⟨k, _, h, _⟩; omega
    · rw [e, if_pos (by omega), Int.toNat_natCast, getV hk]
      constructor
      · intro h
        by_cases hs : sameB g[k] x = true
        · exact ⟨k, hk, rfl, sameB_iff.1 hs⟩
        · rw [if_neg hs] at h; cases h
      · rintro ⟨k', hk', e', h'⟩
        have : k' = k := by omega
        subst this
        rw [if_pos (sameB_iff.2 h')]
  · unfold addN
    rcases findZ_cases g x.r x.a with ⟨e, _⟩ | ⟨k, hk, e, _⟩
    · rw [e, if_neg (by omega)]
      cases hp : parB g x with
      | true => simp
      | false => simp
    · rw [e, if_pos (by omega)]
      constructor
      · intro h; split at h <;> cases h
      · rintro ⟨h, _⟩; omega

/-! the past as a list of vertices -/
def psV (c : List Int) (g : List Vx) (r a : Int) : List Vx := (gpZ c g r a).map fun i => g.getD i.toNat vx0
/-- A vertex of a graph's past: the least set that is closed. -/
inductive Past (g : List Vx) (y : Vx) : Vx → Prop
  | it : Past g y y
  | up {x z : Vx} : Past g y x → z ∈ g → z.r = x.r - 1 → z.a ∈ x.ps → Past g y z
theorem past_mem {g : List Vx} {y x : Vx} (hy : y ∈ g) (h : Past g y x) : x ∈ g := by
  cases h with
  | it => exact hy
  | up _ hz _ _ => exact hz
theorem pastB_iff {c : List Int} {g : List Vx} (h : graphB c g = true) {a : Nat} (ha : a < g.length) (j : Nat) (hj : j < g.length) : (pastB g a).getD j false = true ↔ Past g g[a] g[j] := by
  have hs := graph_sorted h
  obtain ⟨hcl, hca, hcb⟩ := past_closed h ha
  have huni : ∀ i j (hi : i < g.length) (hj : j < g.length), g[i] = g[j] → i = j := fun i j hi hj e => by
    rcases Nat.lt_trichotomy i j with h1 | h1 | h1
    · have := List.pairwise_iff_getElem.1 hs i j hi hj h1; rw [e] at this; exact (srt_irr this).elim
    · exact h1
    · have := List.pairwise_iff_getElem.1 hs j i hj hi h1; rw [e] at this; exact (srt_irr this).elim
  constructor
  · suffices hh : ∀ n j, (hj : j < g.length) → g.length - j ≤ n → (pastB g a).getD j false = true → Past g g[a] g[j] from hh (g.length - j) j hj (Nat.le_refl _)
    intro n
    induction n with
    | zero => intro j hj hn; omega
    | succ n ih =>
      intro j hj hn hb
      by_cases e : j = a
      · subst e; exact .it
      · obtain ⟨i, hi, hji, hbi, _, er, ep⟩ := past_least h ha j hb e
        exact .up (ih i hi (by omega) hbi) (List.getElem_mem hj) (by omega) ep
  · intro hp
    suffices hh : ∀ x, Past g g[a] x → ∀ j (hj : j < g.length), g[j] = x → (pastB g a).getD j false = true from hh _ hp j hj rfl
    intro x hx
    induction hx with
    | it => intro j hj e; rw [huni j a hj ha e]; exact hca
    | @up x z hpx hz er ep ih =>
      intro j hj e
      have hxm := past_mem (List.getElem_mem ha) hpx
      obtain ⟨i, hi, rfl⟩ := List.mem_iff_getElem.1 hxm
      have hbi := ih i hi rfl
      obtain ⟨k, hk, ek⟩ := List.mem_iff_getElem.1 ep
      have := hcl i hi (Nat.zero_le _) hbi k hk
      obtain ⟨m, hm, em, em2⟩ := findZ_mem hs hz
      rw [er, ← ek] at em
      rw [em, Int.toNat_natCast, huni m j hm hj (by rw [em2, e])] at this
      exact this
theorem idx_filter (g : List Vx) (P : Nat → Bool) (p : Vx → Bool) (h : ∀ j (hj : j < g.length), P j = p g[j]) : ∀ n, n ≤ g.length → (((List.range n).filter P).map fun i => g.getD i vx0) = (g.take n).filter p := by
  intro n
  induction n with
  | zero => intro _; simp
  | succ n ih =>
    intro hn
    rw [List.range_succ, List.filter_append, List.map_append, ih (by omega), List.take_succ_eq_append_getElem (show n < g.length by omega), List.filter_append]
    congr 1
    have := h n (by omega)
    by_cases hp : p g[n] = true
    · rw [hp] at this
      simp [this, hp, List.getElem?_eq_getElem (show n < g.length by omega)]
    · have hp' : p g[n] = false := by simpa using hp
      rw [hp'] at this
      simp [this, hp']
open Classical in
theorem psV_eq {c : List Int} {g : List Vx} (h : graphB c g = true) {y : Vx} (hy : y ∈ g) : psV c g y.r y.a = g.filter fun z => decide (Past g y z) := by
  have hs := graph_sorted h
  obtain ⟨a, ha, ea, rfl⟩ := findZ_mem hs hy
  unfold psV gpZ idxTo
  rw [if_pos h, ea, List.map_map]
  have := idx_filter g (fun i => (pastB g a).getD i false) (fun z => decide (Past g g[a] z)) (fun j hj => by
    rw [Bool.eq_iff_iff, decide_eq_true_iff]; exact pastB_iff h ha j hj) g.length (Nat.le_refl _)
  rw [List.take_length] at this
  rw [← this]
  apply List.map_congr_left
  intro i _
  simp
theorem past_ins {g : List Vx} {x y z : Vx} (hpar : ∀ w ∈ g, parB g w = true) (hn : ∀ w ∈ g, ¬ (w.r = x.r ∧ w.a = x.a)) (hy : y ∈ g) : Past (insG g x) y z ↔ Past g y z := by
  constructor
  · intro h
    induction h with
    | it => exact .it
    | @up w z hw hz er ep ih =>
      have hwm := past_mem hy ih
      obtain ⟨z', hz', er', ea'⟩ := parB_iff.1 (hpar w hwm) z.a ep
      have hz2 : z ∈ g := by
        rcases ins_mem.1 hz with h | rfl
        · exact h
        · exact (hn z' hz' ⟨by omega, ea'⟩).elim
      exact .up ih hz2 er ep
  · intro h
    induction h with
    | it => exact .it
    | up _ hz er ep ih => exact .up ih (ins_mem.2 (.inl hz)) er ep
theorem past_new {g : List Vx} {x y : Vx} (hpar : ∀ w ∈ g, parB g w = true) (hn : ∀ w ∈ g, ¬ (w.r = x.r ∧ w.a = x.a)) (hy : y ∈ g) : ¬ Past (insG g x) y x := by
  intro h
  have := past_mem hy ((past_ins hpar hn hy).1 h)
  exact hn x this ⟨rfl, rfl⟩
open Classical in
/-- P48: a vertex's past stays as it was. -/
theorem keeps_law {c : List Int} {g : List Vx} {x y : Vx} (h : gaN c g x = 0) (hy : y ∈ g) : psV c (gaG c g x) y.r y.a = psV c g y.r y.a := by
  obtain ⟨h1, h2, h3, h4⟩ := gaN_0 h
  obtain ⟨g1, g2, g3, g4⟩ := graph_iff.1 h1
  obtain ⟨hn, hp⟩ := add0 g2 h3
  have hg := ins_graph h1 h2 h3
  rw [h4, psV_eq hg (ins_mem.2 (.inl hy)), psV_eq h1 hy]
  have e1 : (insG g x).filter (fun z => decide (Past (insG g x) y z)) = (insG g x).filter fun z => decide (Past g y z) := by
    refine List.filter_congr fun z _ => ?_
    rw [Bool.eq_iff_iff, decide_eq_true_iff, decide_eq_true_iff]
    exact past_ins g4 hn hy
  rw [e1]
  unfold insG
  rw [List.filter_append, List.filter_append]
  have e2 : [x].filter (fun z => decide (Past g y z)) = [] := by
    rw [List.filter_eq_nil_iff]
    intro z hz
    simp at hz
    subst hz
    rw [decide_eq_true_iff]
    exact fun hpast => hn z (past_mem hy hpast) ⟨rfl, rfl⟩
  rw [e2, List.append_nil, ← List.filter_append, List.take_append_drop]
theorem gp_range {c : List Int} {g : List Vx} {r a : Int} (i : Nat) (hi : i < (gpZ c g r a).length) : ∃ m : Nat, m < g.length ∧ (gpZ c g r a)[i] = m := by
  have hx := List.getElem_mem hi
  generalize hv : (gpZ c g r a)[i] = v at *
  unfold gpZ at hx
  split at hx
  · obtain ⟨m, e, hm, _⟩ := idxTo_all v hx
    exact ⟨m, hm, e⟩
  · cases hx
theorem keeps_at {c : List Int} {g G : List Vx} {r a : Int} (h : psV c G r a = psV c g r a) : (gpZ c G r a).length = (gpZ c g r a).length ∧
    ∀ i (h1 : i < (gpZ c g r a).length) (h2 : i < (gpZ c G r a).length), ∃ m m' : Nat, ∃ hm : m < g.length, ∃ hm' : m' < G.length, (gpZ c g r a)[i] = m ∧ (gpZ c G r a)[i] = m' ∧ G[m'] = g[m] := by
  unfold psV at h
  have hl : (gpZ c G r a).length = (gpZ c g r a).length := by have := congrArg List.length h; simpa using this
  refine ⟨hl, fun i h1 h2 => ?_⟩
  obtain ⟨m, hm, e⟩ := gp_range i h1
  obtain ⟨m', hm', e'⟩ := gp_range i h2
  refine ⟨m, m', hm, hm', e, e', ?_⟩
  have h3 := congrArg (fun l => l[i]?) h
  simp only [List.getElem?_map, List.getElem?_eq_getElem h1, List.getElem?_eq_getElem h2, Option.map_some, e, e', Int.toNat_natCast, Option.some.injEq] at h3
  rwa [getV hm, getV hm'] at h3
theorem keeps_at' {c : List Int} {g G : List Vx} {r a : Int} {L1 L2 : List Int} (e1 : gpZ c g r a = L1) (e2 : gpZ c G r a = L2) (h : psV c G r a = psV c g r a) : L2.length = L1.length ∧
    ∀ i (h1 : i < L1.length) (h2 : i < L2.length), ∃ m m' : Nat, ∃ hm : m < g.length, ∃ hm' : m' < G.length, L1[i] = m ∧ L2[i] = m' ∧ G[m'] = g[m] := by
  subst e1 e2
  exact keeps_at h
/-- P44: which code, in each case. -/
theorem codes3 {c : List Int} {g : List Vx} {x : Vx} (h0 : gaN c g x ≠ 0) (h4 : gaN c g x ≠ 4) : graphB c g = true ∧ vtxB c x = true ∧ gaG c g x = g ∧
    ((∃ k : Nat, ∃ hk : k < g.length, findZ g x.r x.a = k ∧ sameB g[k] x = true ∧ gaN c g x = 1) ∨ (∃ k : Nat, ∃ hk : k < g.length, findZ g x.r x.a = k ∧ sameB g[k] x = false ∧ gaN c g x = 2) ∨
     (findZ g x.r x.a = -1 ∧ parB g x = false ∧ gaN c g x = 3)) := by
  obtain ⟨h1, h2, h3, _, _⟩ := codes_law h0 h4
  refine ⟨h1, h2, h3, ?_⟩
  obtain ⟨e1, _⟩ := ga_of h1 h2
  rw [e1] at h0 ⊢
  unfold addN at h0 ⊢
  rcases findZ_cases g x.r x.a with ⟨e, _⟩ | ⟨k, hk, e, _⟩
  · rw [e, if_neg (by omega)] at h0 ⊢
    cases hp : parB g x with
    | true => rw [hp] at h0; exact absurd rfl h0
    | false => exact .inr (.inr ⟨rfl, rfl, rfl⟩)
  · rw [e, if_pos (by omega), Int.toNat_natCast, getV hk]
    cases hs : sameB g[k] x with
    | true => exact .inl ⟨k, hk, rfl, hs, rfl⟩
    | false => exact .inr (.inl ⟨k, hk, rfl, hs, rfl⟩)
def misB (g : List Vx) (r : Int) (ps : List Int) (k : Nat) : Bool := !(allB (hasP g r ps) k)
theorem mis_zero (g : List Vx) (r : Int) (ps : List Int) : misB g r ps 0 = false := rfl
theorem mis_succ (g : List Vx) (r : Int) (ps : List Int) (k : Nat) : misB g r ps (k + 1) = (misB g r ps k || !(hasP g r ps k)) := by
  unfold misB allB
  rw [List.range_succ, List.all_append]
  simp
theorem mis_true {g : List Vx} {r : Int} {ps : List Int} {k : Nat} (h : misB g r ps k = true) : misB g r ps (k + 1) = true := by rw [mis_succ, h]; rfl
theorem mis_next {g : List Vx} {r : Int} {ps : List Int} {k : Nat} (h : misB g r ps k = false) (hk : k < ps.length) : misB g r ps (k + 1) = decide (findZ g (r - 1) ps[k] < 0) := by
  rw [mis_succ, h, Bool.false_or]
  unfold hasP
  rw [getD_get hk, Bool.eq_iff_iff, Bool.not_eq_true', decide_eq_false_iff_not, decide_eq_true_iff]
  omega

end Go.Proofs.Yteglefchkecfjab

/- Plain arithmetic of sets of members and their weights; no walk and no condition of our own. -/
namespace Go.Proofs.Yteglefchkecfjab

/-- Ascending members below n. -/
def AscP (n : Nat) (ms : List Int) : Prop := ms.Pairwise (· < ·) ∧ ∀ m ∈ ms, 0 ≤ m ∧ m < n
theorem ascP_of {n : Nat} {ms : List Int} (h : membersB n ms = true) : AscP n ms := by
  have step : ∀ d i (hi : i + 1 + d < ms.length), ms[i] < ms[i + 1 + d] := by
    intro d
    induction d with
    | zero =>
      intro i hi
      have := okAt_bd hi (allB_upto h (i + 1) hi)
      rcases this.2.2 with h0 | h0
      · omega
      · rw [show i + 1 + 0 - 1 = i by omega, getD_get (by omega)] at h0; exact h0
    | succ d ih =>
      intro i hi
      have h1 := ih i (by omega)
      have := okAt_bd hi (allB_upto h (i + 1 + (d + 1)) hi)
      rcases this.2.2 with h0 | h0
      · omega
      · rw [show i + 1 + (d + 1) - 1 = i + 1 + d by omega, getD_get (by omega)] at h0
        exact Int.lt_trans h1 h0
  refine ⟨List.pairwise_iff_getElem.2 fun i j hi hj hij => ?_, fun m hm => ?_⟩
  · have := step (j - i - 1) i (by omega)
    simpa [show i + 1 + (j - i - 1) = j by omega] using this
  · obtain ⟨j, hj, rfl⟩ := List.mem_iff_getElem.1 hm
    exact membersB_at h j hj
theorem of_ascP {n : Nat} {ms : List Int} (h : AscP n ms) : membersB n ms = true := by
  unfold membersB
  refine allB_yes (k := ms.length) (fun j hj => ?_) (Nat.le_refl _)
  have hb := h.2 ms[j] (List.getElem_mem hj)
  refine okAt_yes hj hb.1 hb.2 ?_
  by_cases h0 : j = 0
  · exact .inl h0
  · refine .inr ?_
    rw [getD_get (by omega)]
    exact List.pairwise_iff_getElem.1 h.1 (j - 1) j (by omega) hj (by omega)
theorem ascP_filter {n : Nat} {ms : List Int} (p : Int → Bool) (h : AscP n ms) : AscP n (ms.filter p) :=
  ⟨h.1.filter p, fun m hm => h.2 m (List.mem_filter.1 hm).1⟩
theorem ascP_rangeF (p : Nat → Bool) (n : Nat) : AscP n (rangeF p n) := by
  induction n with
  | zero => exact ⟨by simp [rangeF], by simp [rangeF]⟩
  | succ n ih =>
    cases hp : p n with
    | false => rw [rangeF_no hp]; exact ⟨ih.1, fun m hm => by have := ih.2 m hm; omega⟩
    | true =>
      rw [rangeF_yes hp]
      refine ⟨List.pairwise_append.2 ⟨ih.1, by simp, fun a ha b hb => ?_⟩, fun m hm => ?_⟩
      · simp at hb; subst hb; exact (ih.2 a ha).2
      · rcases List.mem_append.1 hm with hm | hm
        · have := ih.2 m hm; omega
        · simp at hm; omega
theorem mem_rangeF {p : Nat → Bool} {n i : Nat} : (i : Int) ∈ rangeF p n ↔ i < n ∧ p i = true := by
  unfold rangeF
  simp only [List.mem_map, List.mem_filter, List.mem_range]
  constructor
  · rintro ⟨a, h, e⟩
    obtain rfl : a = i := by omega
    exact h
  · intro h; exact ⟨i, h, rfl⟩

/-- f 0 + .. + f (n - 1). -/
def isum (f : Nat → Int) : Nat → Int
  | 0 => 0
  | n + 1 => isum f n + f n
theorem isum_congr {f g : Nat → Int} {n : Nat} (h : ∀ i, i < n → f i = g i) : isum f n = isum g n := by
  induction n with
  | zero => rfl
  | succ n ih => simp only [isum]; rw [ih (fun i hi => h i (by omega)), h n (by omega)]
theorem isum_add (f g : Nat → Int) (n : Nat) : isum (fun i => f i + g i) n = isum f n + isum g n := by
  induction n with
  | zero => rfl
  | succ n ih => simp only [isum]; rw [ih]; omega
theorem isum_le {f g : Nat → Int} {n : Nat} (h : ∀ i, i < n → f i ≤ g i) : isum f n ≤ isum g n := by
  induction n with
  | zero => exact Int.le_refl _
  | succ n ih => simp only [isum]; have := ih (fun i hi => h i (by omega)); have := h n (by omega); omega
theorem isum_total (c : List Int) : isum (fun i => c.getD i 0) c.length = totalZ c := by
  have : ∀ k, k ≤ c.length → isum (fun i => c.getD i 0) k = sumTo c k := by
    intro k
    induction k with
    | zero => intro _; rfl
    | succ k ih => intro hk; simp only [isum]; rw [ih (by omega), sumTo_succ (by omega), getD_get (by omega)]
  exact this _ (Nat.le_refl _)

/-- The weight of i if it is among ms. -/
def wAt (c ms : List Int) (i : Nat) : Int := if hasB ms i = true then c.getD i 0 else 0
theorem weightTo_app (c ms : List Int) (x : Int) : weightZ c (ms ++ [x]) = weightZ c ms + c.getD x.toNat 0 := by
  unfold weightZ
  rw [List.length_append]
  simp only [List.length_cons, List.length_nil]
  rw [weightTo_succ (by simp)]
  congr 1
  · unfold weightTo; simp
  · simp
theorem weight_isum (c : List Int) : ∀ (n : Nat) (ms : List Int), AscP n ms → weightZ c ms = isum (wAt c ms) n := by
  intro n
  induction n with
  | zero =>
    intro ms h
    cases ms with
    | nil => rfl
    | cons m ms => have := h.2 m (by simp); omega
  | succ n ih =>
    intro ms h
    simp only [isum]
    rcases List.eq_nil_or_concat ms with rfl | ⟨l, x, rfl⟩
    · rw [← ih [] ⟨by simp, by simp⟩]; simp [wAt, hasB]
    · rw [List.concat_eq_append] at h ⊢
      have hp := List.pairwise_append.1 h.1
      have hx := h.2 x (by simp)
      have hl : ∀ m ∈ l, 0 ≤ m ∧ m < x := fun m hm => ⟨(h.2 m (by simp [hm])).1, hp.2.2 m hm x (by simp)⟩
      by_cases hxn : x = n
      · subst hxn
        have h1 := ih l ⟨hp.1, fun m hm => ⟨(hl m hm).1, by have := hl m hm; omega⟩⟩
        rw [weightTo_app, h1]
        congr 1
        · refine isum_congr fun i hi => ?_
          unfold wAt hasB
          have : ((i : Int) ∈ l ++ [(n : Int)]) = ((i : Int) ∈ l) := by
            rw [List.mem_append]; simp; omega
          simp only [this]
        · unfold wAt hasB; simp
      · have h1 := ih (l ++ [x]) ⟨h.1, fun m hm => by
          have := h.2 m hm
          rcases List.mem_append.1 hm with hm | hm
          · have := hl m hm; omega
          · simp at hm; omega⟩
        rw [h1]
        have : wAt c (l ++ [x]) n = 0 := by
          unfold wAt hasB
          rw [if_neg]
          rw [decide_eq_true_eq]
          intro hm
          rcases List.mem_append.1 hm with hm | hm
          · have := hl _ hm; omega
          · simp at hm; omega
        omega

theorem hasB_common (a b : List Int) (i : Int) : hasB (commonZ a b) i = (hasB a i && hasB b i) := by
  rw [commonZ_eq, Bool.eq_iff_iff]
  simp [hasB, List.mem_filter]
theorem c_nonneg {c : List Int} (h : validB c = true) (i : Nat) (hi : i < c.length) : 0 ≤ c.getD i 0 := by have := good_getD h hi; omega

/-- Two sets weigh no more together than all members and what is common. -/
theorem weights_meet {c a b : List Int} (h : validB c = true) (ha : AscP c.length a) (hb : AscP c.length b) : weightZ c a + weightZ c b ≤ totalZ c + weightZ c (commonZ a b) := by
  have hc : AscP c.length (commonZ a b) := by rw [commonZ_eq]; exact ascP_filter _ ha
  rw [weight_isum c _ a ha, weight_isum c _ b hb, weight_isum c _ _ hc, ← isum_total, ← isum_add, ← isum_add]
  refine isum_le fun i hi => ?_
  have := c_nonneg h i hi
  unfold wAt
  rw [hasB_common]
  generalize c.getD i 0 = x at *
  cases hasB a i <;> cases hasB b i <;> simp <;> omega
/-- Weights are added. -/
theorem weights_add {c a b : List Int} (ha : AscP c.length a) (hb : AscP c.length b) :
    weightZ c a + weightZ c b = weightZ c (rangeF (fun i => hasB a i || hasB b i) c.length) + weightZ c (commonZ a b) := by
  have hc : AscP c.length (commonZ a b) := by rw [commonZ_eq]; exact ascP_filter _ ha
  have hu := ascP_rangeF (fun i => hasB a i || hasB b i) c.length
  rw [weight_isum c _ a ha, weight_isum c _ b hb, weight_isum c _ _ hc, weight_isum c _ _ hu, ← isum_add, ← isum_add]
  refine isum_congr fun i hi => ?_
  unfold wAt
  rw [hasB_common]
  have : hasB (rangeF (fun i => hasB a i || hasB b i) c.length) i = (hasB a i || hasB b i) := by
    rw [Bool.eq_iff_iff]; unfold hasB; rw [decide_eq_true_eq, mem_rangeF]; simp [hi]
  rw [this]
  cases hasB a i <;> cases hasB b i <;> simp

/-- The weight of all members. -/
theorem weight_all {c : List Int} (h : validB c = true) : weightZ c (rangeF (bitB 127) c.length) = totalZ c := by
  rw [weight_isum c _ _ (ascP_rangeF _ _), ← isum_total]
  refine isum_congr fun i hi => ?_
  have hl := validB_len h
  have h7 : bitB 127 i = true := by
    have : i < 7 := by omega
    match i, this with
    | 0, _ => rfl
    | 1, _ => rfl
    | 2, _ => rfl
    | 3, _ => rfl
    | 4, _ => rfl
    | 5, _ => rfl
    | 6, _ => rfl
  have : hasB (rangeF (bitB 127) c.length) i = true := decide_eq_true (mem_rangeF.2 ⟨hi, h7⟩)
  unfold wAt
  rw [if_pos this]

theorem mwZ_of {c ms : List Int} (h : validB c = true) (hm : AscP c.length ms) : mwZ c ms = weightZ c ms := mwZ_yes (by rw [mvB_yes h]; exact of_ascP hm)
theorem mwZ_rangeF {c : List Int} (h : validB c = true) (p : Nat → Bool) : mwZ c (rangeF p c.length) = weightZ c (rangeF p c.length) := mwZ_of h (ascP_rangeF p _)

theorem weight_bd {c a : List Int} (h : validB c = true) (ha : AscP c.length a) : 0 ≤ weightZ c a ∧ weightZ c a ≤ totalZ c := by
  have h0 : isum (fun _ => 0) c.length = 0 := by
    generalize c.length = n
    induction n with
    | zero => rfl
    | succ n ih => simp only [isum]; rw [ih]; rfl
  rw [weight_isum c _ a ha, ← isum_total]
  refine ⟨Int.le_trans (Int.le_of_eq h0.symm) (isum_le fun i hi => ?_), isum_le fun i hi => ?_⟩ <;> (have := c_nonneg h i hi; unfold wAt; split <;> omega)
theorem ascP_common {n : Nat} {a b : List Int} (ha : AscP n a) : AscP n (commonZ a b) := by rw [commonZ_eq]; exact ascP_filter _ ha
theorem common_pos {c a b : List Int} (h : 0 < weightZ c (commonZ a b)) : 0 < (commonZ a b).length := by
  rcases Nat.eq_zero_or_pos (commonZ a b).length with h0 | h0
  · rw [List.eq_nil_of_length_eq_zero h0] at h; exact absurd h (by simp [weightZ, weightTo])
  · exact h0

theorem validB_iff (c : List Int) : validB c = true ↔ (1 ≤ c.length ∧ c.length ≤ 7) ∧ ∀ x ∈ c, 1 ≤ x ∧ x ≤ 9 := by
  unfold validB goodB
  rw [Bool.and_eq_true, decide_eq_true_eq, List.all_eq_true]
  simp
theorem valid_less {c : List Int} {k : Nat} (h : validB c = true) (hk : k < c.length) (h1 : c.length ≠ 1) : validB (c.take k ++ c.drop (k + 1)) = true := by
  rw [validB_iff] at h ⊢
  refine ⟨?_, fun x hx => h.2 x ?_⟩
  · rw [List.length_append, List.length_take, List.length_drop]; omega
  · rcases List.mem_append.1 hx with hx | hx
    · exact List.mem_of_mem_take hx
    · exact List.mem_of_mem_drop hx
theorem valid_zero {c : List Int} {k : Nat} (hk : k < c.length) : validB (c.set k 0) = false := by
  rw [Bool.eq_false_iff]
  intro h
  rw [validB_iff] at h
  have := h.2 0 (List.mem_set hk 0)
  omega

theorem members_less {n : Nat} {ms : List Int} {k : Nat} (h : AscP n ms) : AscP n (ms.take k ++ ms.drop (k + 1)) := by
  have hsub : (ms.take k ++ ms.drop (k + 1)).Sublist ms := by rw [← List.eraseIdx_eq_take_drop_succ]; exact List.eraseIdx_sublist ms k
  exact ⟨h.1.sublist hsub, fun m hm => h.2 m (hsub.subset hm)⟩
theorem members_twice {n : Nat} {ms : List Int} {k : Nat} (hk : k < ms.length) : membersB n (ms.take (k + 1) ++ ms.drop k) = false := by
  rw [Bool.eq_false_iff]
  intro h
  have hp := (List.pairwise_append.1 (ascP_of h).1).2.2 ms[k] (by rw [List.mem_take_iff_getElem]; exact ⟨k, by omega, rfl⟩) ms[k] (by rw [List.mem_drop_iff_getElem]; exact ⟨0, by omega, by simp⟩)
  omega

end Go.Proofs.Yteglefchkecfjab

/- What the law of the past's rounds says of the reference's answers; plain facts on lists, nothing here is walked. -/
namespace Go.Proofs.Yteglefchkecfjab
open Go.RowKit

theorem weight_mono {c a b : List Int} (h : validB c = true) (ha : AscP c.length a) (hb : AscP c.length b) (hs : ∀ x ∈ a, x ∈ b) : weightZ c a ≤ weightZ c b := by
  rw [weight_isum c c.length a ha, weight_isum c c.length b hb]
  refine isum_le fun i hi => ?_
  unfold wAt
  have hp := c_nonneg h i hi
  by_cases h1 : hasB a i = true
  · have h2 : hasB b i = true := by
      unfold hasB at h1 ⊢
      simp at h1 ⊢
      exact hs _ h1
    rw [if_pos h1, if_pos h2]; omega
  · rw [if_neg h1]
    split
    · exact hp
    · omega
theorem quorum_pos {c : List Int} (h : validB c = true) : 1 ≤ quorumZ c := by have := totalZ_bd h; unfold quorumZ; omega
theorem vtx_quo {c : List Int} {x : Vx} (h : vtxB c x = true) (h0 : ¬ x.r = 0) : quorumZ c ≤ weightZ c x.ps := by
  unfold vtxB quoB at h
  simp only [Bool.and_eq_true, if_neg h0, decide_eq_true_eq] at h
  exact h.2.2.2.2
theorem past_rounds {c : List Int} {g : List Vx} (h : graphB c g = true) {y : Vx} (hy : y ∈ g) : ∀ k : Nat, (k : Int) ≤ y.r → ∃ z, Past g y z ∧ z.r = y.r - k := by
  obtain ⟨h1, h2, h3, h4⟩ := graph_iff.1 h
  intro k
  induction k with
  | zero => intro _; exact ⟨y, .it, by omega⟩
  | succ k ih =>
    intro hk
    obtain ⟨z, hz, er⟩ := ih (by omega)
    have hzm := past_mem hy hz
    have hq := vtx_quo (h3 z hzm) (by omega)
    have hp := quorum_pos h1
    match hps : z.ps with
    | [] => rw [hps] at hq; have : weightZ c [] = 0 := rfl; omega
    | p :: ps =>
      obtain ⟨z', hz', er', ea'⟩ := parB_iff.1 (h4 z hzm) p (by rw [hps]; simp)
      exact ⟨z', .up hz hz' er' (by rw [ea', hps]; simp), by omega⟩
open Classical in
/-- P49: in each round before the vertex's, the past's authors are a quorum. -/
theorem rounds_law {c : List Int} {g : List Vx} {r a : Int} (hne : 0 < (gpZ c g r a).length) (q : Int) (h0 : 0 ≤ q) (hq : q < r) : validB c = true ∧ quorumZ c ≤ mwZ c (authZ (psV c g r a) q) := by
  have hgb : graphB c g = true := by
    cases hgb : graphB c g with
    | true => rfl
    | false => exfalso; unfold gpZ at hne; rw [hgb] at hne; simp at hne
  obtain ⟨h1, h2, h3, h4⟩ := graph_iff.1 hgb
  obtain ⟨hgb', k, hk, ek, _⟩ := past_law (c := c) (g := g) (r := r) (b := a) rfl hne
  have hs : sameRA r a g[k] = true := by
    rcases findZ_cases g r a with ⟨e, _⟩ | ⟨j, hj, e, hs, _⟩
    · omega
    · have : j = k := by omega
      subst this; exact hs
  obtain ⟨er, ea⟩ := of_decide_eq_true hs
  have hym := List.getElem_mem hk
  generalize g[k] = y at *
  have hps : psV c g r a = g.filter fun z => decide (Past g y z) := by rw [← er, ← ea]; exact psV_eq hgb hym
  refine ⟨h1, ?_⟩
  rw [hps]
  have hsub : authZ (g.filter fun z => decide (Past g y z)) q = ((g.filter (authP q)).filter fun z => decide (Past g y z)).map (·.a) := by
    unfold authZ
    rw [List.filter_filter, List.filter_filter]
    congr 1
    exact List.filter_congr fun z _ => Bool.and_comm _ _
  have hall := ascP_of (auth_members hgb q)
  have hasc : AscP c.length (authZ (g.filter fun z => decide (Past g y z)) q) := by
    rw [hsub]
    have hsl : (((g.filter (authP q)).filter fun z => decide (Past g y z)).map (·.a)).Sublist (authZ g q) := List.Sublist.map _ List.filter_sublist
    exact ⟨hall.1.sublist hsl, fun m hm => hall.2 m (hsl.mem hm)⟩
  rw [mwZ_of h1 hasc]
  obtain ⟨z, hz, ez⟩ := past_rounds hgb hym (r - q - 1).toNat (by rw [er]; omega)
  have ezr : z.r = q + 1 := by rw [ez, er]; omega
  have hzm := past_mem hym hz
  have hzq := vtx_quo (h3 z hzm) (by omega)
  have hzs : AscP c.length z.ps := ascP_of (vtx_mem (h3 z hzm))
  refine Int.le_trans hzq (weight_mono h1 hzs hasc fun p hp => ?_)
  obtain ⟨z', hz', er', ea'⟩ := parB_iff.1 (h4 z hzm) p hp
  unfold authZ
  refine List.mem_map.2 ⟨z', List.mem_filter.2 ⟨List.mem_filter.2 ⟨hz', by rw [decide_eq_true_iff]; exact .up hz hz' er' (by rw [ea']; exact hp)⟩, ?_⟩, ea'⟩
  unfold authP
  exact decide_eq_true (by omega)
theorem psV_at {c : List Int} {g : List Vx} {r a : Int} (i : Nat) (hi : i < (gpZ c g r a).length) : ∃ m : Nat, ∃ hm : m < g.length, ∃ hi' : i < (psV c g r a).length, (gpZ c g r a)[i] = m ∧ (psV c g r a)[i] = g[m] := by
  obtain ⟨m, hm, e⟩ := gp_range i hi
  refine ⟨m, hm, by unfold psV; rw [List.length_map]; exact hi, e, ?_⟩
  unfold psV
  rw [List.getElem_map, e, Int.toNat_natCast, getV hm]
theorem psV_len (c : List Int) (g : List Vx) (r a : Int) : (psV c g r a).length = (gpZ c g r a).length := by unfold psV; rw [List.length_map]
theorem rounds_bd {c : List Int} {g : List Vx} {r a : Int} (hne : 0 < (gpZ c g r a).length) : r ≤ 30 := by
  have hgb : graphB c g = true := by
    cases hgb : graphB c g with
    | true => rfl
    | false => exfalso; unfold gpZ at hne; rw [hgb] at hne; simp at hne
  obtain ⟨_, k, hk, ek, _⟩ := past_law (c := c) (g := g) (r := r) (b := a) rfl hne
  rcases findZ_cases g r a with ⟨e, _⟩ | ⟨j, hj, e, hs, _⟩
  · omega
  · have := (vtx_round (graph_vtx hgb _ (List.getElem_mem hj))).2
    rw [(of_decide_eq_true hs).1] at this
    exact this

end Go.Proofs.Yteglefchkecfjab

/- The draws of the graphs' laws: what is drawn reads as a graph in new memory; each by a walk of its text; condition: the code is shorter than 2^20. -/
namespace Go.Proofs.Yteglefchkecfjab
open Go.RowKit

end Go.Proofs.Yteglefchkecfjab
