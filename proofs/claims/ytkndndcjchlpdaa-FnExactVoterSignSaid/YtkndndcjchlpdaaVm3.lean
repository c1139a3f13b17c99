/- A range over a map of votes: in whatever order they come, each comes once; general steps over the kit's laws on ranges. -/
import Derived.Test.YtkndndcjchlpdaaRows
import Derived.Test.YtkndndcjchlpdaaVm1
namespace Go.Proofs.Ytkndndcjchlpdaa
open Go.RowKit

/-- What the map reads as, key by key. -/
def ReadsV (D : DataW Unit) (g : List Vt) : Prop := Maps.size D = g.length ∧ (∀ r a, inI r → inI a → (Maps.has D (plK r a) = true ↔ ∃ v ∈ g, v.r = r ∧ v.a = a)) ∧ ∀ v ∈ g, ∀ zd, D.atKey (plK v.r v.a) zd = .lit (.int .i64 v.d)
/-- A range over the map in block b is under way, its iterator in block r: cs have come, cnt are still to come. -/
def RangeV (w : World) (b r : Nat) (g : List Vt) (cnt : Nat) (cs : List Vt) : Prop :=
  (∀ v ∈ g, VtI v) ∧ ApartV g ∧ ∃ (D : DataW Unit) (left : Lit → Bool), w.ranges Try.prog 75 (plainElem Try.prog 3) b r g.length D left cnt ∧ ReadsV D g ∧
    ApartV cs ∧ (∀ v, v ∈ cs ↔ v ∈ g ∧ left (plK v.r v.a) = false) ∧ cs.length + cnt ≤ g.length
theorem RangeV.map {w : World} {b r : Nat} {g : List Vt} {cnt : Nat} {cs : List Vt} (h : RangeV w b r g cnt cs) : MapV w b g := by
  obtain ⟨h1, h2, D, left, h, ⟨h3, h4, h5⟩, _⟩ := h
  exact ⟨h1, h2, D, h.owns, h3, h4, h5⟩
theorem RangeV.left_eq {w : World} {b r : Nat} {g : List Vt} {cnt : Nat} {cs : List Vt} (h : RangeV w b r g cnt cs) : w.rangeLeft b r = cnt := by
  obtain ⟨h1, h2, D, left, h, _⟩ := h
  exact h.left_eq
theorem RangeV.le {w : World} {b r : Nat} {g : List Vt} {cnt : Nat} {cs : List Vt} (h : RangeV w b r g cnt cs) : cs.length + cnt ≤ g.length := by
  obtain ⟨h1, h2, D, left, h, _, _, _, h⟩ := h
  exact h
theorem RangeV.apart {w : World} {b r : Nat} {g : List Vt} {cnt : Nat} {cs : List Vt} (h : RangeV w b r g cnt cs) : ApartV cs := by
  obtain ⟨h1, h2, D, left, h, _, h, _⟩ := h
  exact h
theorem RangeV.lt {w : World} {b r : Nat} {g : List Vt} {cnt : Nat} {cs : List Vt} (h : RangeV w b r g cnt cs) : r < w.heap.size ∧ b < w.heap.size ∧ r ≠ b := by
  obtain ⟨h1, h2, D, left, h, _⟩ := h
  exact ⟨h.lt, h.owns.lt, h.ne⟩
theorem RangeV.kept {w w' : World} {b r : Nat} {g : List Vt} {cnt : Nat} {cs : List Vt} {row : Option Nat} (h : RangeV w b r g cnt cs) (hg : w.grownBy w' row) (hb : some b ≠ row) (hr : some r ≠ row) : RangeV w' b r g cnt cs := by
  obtain ⟨h1, h2, D, left, h, h3⟩ := h
  exact ⟨h1, h2, D, left, h.kept hg hb hr, h3⟩
set_option maxRecDepth 8000 in
theorem MapV.range {w : World} {b : Nat} {g : List Vt} (h : MapV w b g) :
    ∃ w', (Instr.range 71 (.map (some b))).run Try.prog w = .ok (.pointer (some ⟨w.heap.size, 0, none⟩)) w' ∧ RangeV w' b w.heap.size g g.length [] ∧ w.grownBy w' none ∧ w'.heap.size = w.heap.size + 1 := by
  obtain ⟨h1, h2, D, h, h3, h4, h5⟩ := h
  obtain ⟨w', hrun, hr, hg, hs⟩ := h.range pl_law mapV_tm
  refine ⟨w', hrun, ⟨h1, h2, D, _, h3 ▸ hr, ⟨h3, h4, h5⟩, List.Pairwise.nil, ?_, by simp⟩, hg, hs⟩
  intro v
  constructor
  · intro hv
    simp at hv
  · rintro ⟨hv, hl⟩
    have := (h4 v.r v.a (h1 v hv).1 (h1 v hv).2.1).2 ⟨v, hv, rfl, rfl⟩
    rw [this] at hl
    cases hl
theorem apart_eq {g : List Vt} (h : ApartV g) {u v : Vt} (hu : u ∈ g) (hv : v ∈ g) (hs : SamePl v u) : v = u := by
  obtain ⟨i, hi, rfl⟩ := List.mem_iff_getElem.1 hu
  obtain ⟨j, hj, rfl⟩ := List.mem_iff_getElem.1 hv
  have hp := List.pairwise_iff_getElem.1 h
  rcases Nat.lt_trichotomy i j with hij | rfl | hij
  · exact absurd ⟨hs.1.symm, hs.2.symm⟩ (hp i j hi hj hij)
  · rfl
  · exact absurd hs (hp j i hj hi hij)
set_option maxRecDepth 8000 in
theorem wpList_nextV {w : World} {ops : Array Oper} {rest : List Oper} {o : Oper} {a : Act} {Q : Exit → Act → World → Prop} {b r : Nat} {g : List Vt} {cnt : Nat} {cs : List Vt} (hgd : o.guard = none) (it : Operand) (hop : o.op = Op.next it false) (hit : a.eval it = .pointer (some ⟨r, 0, none⟩)) (h : RangeV w b r g cnt cs)
    (hDone : (∀ v, v ∈ cs ↔ v ∈ g) → wpList Try.prog ops Q rest (a.put o.dst (.tuple #[.bool false])) w)
    (hMore : ∀ u w' cnt', u ∈ g → u ∉ cs → RangeV w' b r g cnt' (cs ++ [u]) → cnt' < cnt → w.grownBy w' (some r) → w'.heap.size = w.heap.size → (Instr.entry (.pointer (some ⟨r, 0, none⟩))).run Try.prog w' = .ok (.tuple #[.agg #[.int .i64 u.r, .int .i64 u.a], .int .i64 u.d]) w' →
      wpList Try.prog ops Q rest (a.put o.dst (.tuple #[.bool true, .agg #[.int .i64 u.r, .int .i64 u.a], .int .i64 u.d])) w') : wpList Try.prog ops Q (o :: rest) a w := by
  obtain ⟨h1, h2, D, left, hr, ⟨h3, h4, h5⟩, hap, hcs, hle⟩ := h
  refine wpList_next_ranges w hgd it hop 75 pl_law (plainElem Try.prog 3) (fun p : Int × Int => .agg #[.int .i64 p.1, .int .i64 p.2]) (Value.int .i64) (fun key kl hk => by obtain ⟨x, y, _, _, e, _⟩ := pl_inv hk; exact ⟨(x, y), e⟩) (fun v y hv => by obtain ⟨c, e, _⟩ := plainElem_int_inv mapV_int hv; exact ⟨c, e⟩)
    b r g.length D left cnt hit hr (fun h0 hl => hDone fun v => by rw [hcs v, hl]; simp) (fun p c kl y w' cnt' hk hl hv hat hr' hlt hg hs hen => ?_)
  obtain ⟨pr, pa⟩ := p
  obtain ⟨r', a', hir, hia, e, rfl⟩ := pl_inv hk
  simp only [Value.agg.injEq, Array.mk.injEq, List.cons.injEq, Value.int.injEq, true_and, and_true] at e
  obtain ⟨rfl, rfl⟩ := e
  have hhas := Maps.has_true_of_atKey hat
  obtain ⟨u, hu, e1, e2⟩ := (h4 pr pa hir hia).1 hhas
  subst e1 e2
  have hd : c = u.d := by
    obtain ⟨c', e3, e4, _⟩ := plainElem_int_inv mapV_int hv
    simp only [Value.int.injEq, true_and] at e3
    subst e3
    have h6 := hat (.lit (.int .i64 0))
    rw [h5 u hu, e4] at h6
    simp only at h6
    injection h6 with h6
    injection h6 with _ h6
    exact h6.symm
  subst hd
  have hnu : u ∉ cs := fun hm => by have := ((hcs u).1 hm).2; rw [hl] at this; cases this
  have hsame : ∀ v ∈ g, (plK v.r v.a).sameKey (plK u.r u.a) = true ↔ v = u := by
    intro v hv'
    constructor
    · intro hs'
      have hkk := WideAt.sameKey_eq hs'
      have hp := pl_inj (h1 v hv').1 (h1 v hv').2.1 hir hia hkk
      exact apart_eq h2 hu hv' hp
    · rintro rfl
      exact WideAt.sameKey_self (pl_law.key hk)
  have hap' : ApartV (cs ++ [u]) := by
    refine List.pairwise_append.2 ⟨hap, List.pairwise_singleton _ _, ?_⟩
    intro v hv' u' hu' hs'
    have hu'' : u' = u := by simpa using hu'
    subst hu''
    exact hnu (apart_eq h2 hu ((hcs v).1 hv').1 hs' ▸ hv')
  have hcs' : ∀ v, v ∈ cs ++ [u] ↔ v ∈ g ∧ (left (plK v.r v.a) && !(plK v.r v.a).sameKey (plK u.r u.a)) = false := by
    intro v
    rw [List.mem_append, hcs v, List.mem_singleton]
    constructor
    · rintro (⟨h6, h7⟩ | rfl)
      · exact ⟨h6, by rw [h7]; rfl⟩
      · exact ⟨hu, by rw [(hsame v hu).2 rfl]; simp⟩
    · rintro ⟨h6, h7⟩
      by_cases e : v = u
      · exact .inr e
      · have : (plK v.r v.a).sameKey (plK u.r u.a) = false := by
          cases h8 : (plK v.r v.a).sameKey (plK u.r u.a) with
          | false => rfl
          | true => exact absurd ((hsame v h6).1 h8) e
        rw [this] at h7
        exact .inl ⟨h6, by simpa using h7⟩
  exact hMore u w' cnt' hu hnu ⟨h1, h2, D, _, hr', ⟨h3, h4, h5⟩, hap', hcs', by rw [List.length_append]; simp; omega⟩ hlt hg hs hen

end Go.Proofs.Ytkndndcjchlpdaa
