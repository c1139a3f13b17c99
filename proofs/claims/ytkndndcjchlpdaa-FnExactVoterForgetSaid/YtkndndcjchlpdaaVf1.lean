/- A range over a map of votes under way while votes are deleted from it; general steps over the kit's laws on ranges. -/
import Derived.Test.YtkndndcjchlpdaaRows
import Derived.Test.YtkndndcjchlpdaaVm3
namespace Go.Proofs.Ytkndndcjchlpdaa
open Go.RowKit

theorem apart_nodup {g : List Vt} (h : ApartV g) : g.Nodup := List.Pairwise.imp (fun {a b} hab e => hab (by subst e; exact ⟨rfl, rfl⟩)) h

/-- A range over the map in block b is under way, its iterator in block r; the map holds gc, of what it held at first (gm) all that P' keeps; whatever of gc has come fulfils P; cnt are still to come. -/
def RangeF (P' P : Vt → Prop) (w : World) (b r N : Nat) (gm gc : List Vt) (cnt : Nat) : Prop :=
  (∀ v ∈ gc, VtI v) ∧ ApartV gc ∧ (∀ v ∈ gc, v ∈ gm) ∧ (∀ v ∈ gm, P' v → v ∈ gc) ∧ ∃ (D : DataW Unit) (left : Lit → Bool), w.ranges Try.prog 75 (plainElem Try.prog 3) b r N D left cnt ∧ ReadsV D gc ∧ ∀ v ∈ gc, left (plK v.r v.a) = false → P v
variable {P' P : Vt → Prop} {w w' : World} {b r N cnt : Nat} {gm gc : List Vt}
theorem RangeF.map (h : RangeF P' P w b r N gm gc cnt) : MapV w b gc := by
  obtain ⟨h1, h2, _, _, D, left, h, ⟨h3, h4, h5⟩, _⟩ := h
  exact ⟨h1, h2, D, ownsMap_tight h.owns (Nat.le_of_eq h3), h3, h4, h5⟩
theorem RangeF.left_eq (h : RangeF P' P w b r N gm gc cnt) : w.rangeLeft b r = cnt := by
  obtain ⟨_, _, _, _, D, left, h, _⟩ := h
  exact h.left_eq
theorem RangeF.lt (h : RangeF P' P w b r N gm gc cnt) : r < w.heap.size ∧ b < w.heap.size ∧ r ≠ b := by
  obtain ⟨_, _, _, _, D, left, h, _⟩ := h
  exact ⟨h.lt, h.owns.lt, h.ne⟩
theorem RangeF.kept {row : Option Nat} (h : RangeF P' P w b r N gm gc cnt) (hg : w.grownBy w' row) (hb : some b ≠ row) (hr : some r ≠ row) : RangeF P' P w' b r N gm gc cnt := by
  obtain ⟨h1, h2, h3, h4, D, left, h, h5⟩ := h
  exact ⟨h1, h2, h3, h4, D, left, h.kept hg hb hr, h5⟩
theorem RangeF.weaken {Q : Vt → Prop} (h : RangeF P' P w b r N gm gc cnt) (hq : ∀ v ∈ gc, P v → Q v) : RangeF P' Q w b r N gm gc cnt := by
  obtain ⟨h1, h2, h3, h4, D, left, h, h5, h6⟩ := h
  exact ⟨h1, h2, h3, h4, D, left, h, h5, fun v hv hl => hq v hv (h6 v hv hl)⟩
theorem RangeF.sub (h : RangeF P' P w b r N gm gc cnt) : (∀ v ∈ gc, v ∈ gm) ∧ (∀ v ∈ gm, P' v → v ∈ gc) := ⟨h.2.2.1, h.2.2.2.1⟩
set_option maxRecDepth 8000 in
theorem MapV.rangeF {g : List Vt} (P' P : Vt → Prop) (h : MapV w b g) :
    ∃ w', (Instr.range 71 (.map (some b))).run Try.prog w = .ok (.pointer (some ⟨w.heap.size, 0, none⟩)) w' ∧ RangeF P' P w' b w.heap.size g.length g g g.length ∧ w.grownBy w' none ∧ w'.heap.size = w.heap.size + 1 := by
  obtain ⟨h1, h2, D, h, h3, h4, h5⟩ := h
  obtain ⟨w', hrun, hr, hg, hs⟩ := h.range pl_law mapV_tm
  refine ⟨w', hrun, ⟨h1, h2, fun _ hv => hv, fun _ hv _ => hv, D, _, h3 ▸ hr, ⟨h3, h4, h5⟩, ?_⟩, hg, hs⟩
  intro v hv hl
  have := (h4 v.r v.a (h1 v hv).1 (h1 v hv).2.1).2 ⟨v, hv, rfl, rfl⟩
  rw [this] at hl
  cases hl
theorem plK_same {g : List Vt} (h1 : ∀ v ∈ g, VtI v) (h2 : ApartV g) {u v : Vt} (hu : u ∈ g) (hv : v ∈ g) : (plK v.r v.a).sameKey (plK u.r u.a) = true ↔ v = u := by
  constructor
  · intro hs'
    exact apart_eq h2 hu hv (pl_inj (h1 v hv).1 (h1 v hv).2.1 (h1 u hu).1 (h1 u hu).2.1 (WideAt.sameKey_eq hs'))
  · rintro rfl
    exact WideAt.sameKey_self (pl_law.key (pl_key (h1 v hv).1 (h1 v hv).2.1))
set_option maxRecDepth 8000 in
theorem wpList_nextF {ops : Array Oper} {rest : List Oper} {o : Oper} {a : Act} {Q : Exit → Act → World → Prop} (hgd : o.guard = none) (it : Operand) (hop : o.op = Op.next it false) (hit : a.eval it = .pointer (some ⟨r, 0, none⟩)) (h : RangeF P' P w b r N gm gc cnt)
    (hDone : (∀ v ∈ gc, P v) → wpList Try.prog ops Q rest (a.put o.dst (.tuple #[.bool false])) w)
    (hMore : ∀ u w' cnt', u ∈ gc → RangeF P' (fun v => v = u ∨ P v) w' b r N gm gc cnt' → cnt' < cnt → w.grownBy w' (some r) → w'.heap.size = w.heap.size → (Instr.entry (.pointer (some ⟨r, 0, none⟩))).run Try.prog w' = .ok (.tuple #[.agg #[.int .i64 u.r, .int .i64 u.a], .int .i64 u.d]) w' →
      wpList Try.prog ops Q rest (a.put o.dst (.tuple #[.bool true, .agg #[.int .i64 u.r, .int .i64 u.a], .int .i64 u.d])) w') : wpList Try.prog ops Q (o :: rest) a w := by
  obtain ⟨h1, h2, hs1, hs2, D, left, hr, ⟨h3, h4, h5⟩, hP⟩ := h
  refine wpList_next_ranges w hgd it hop 75 pl_law (plainElem Try.prog 3) (fun p : Int × Int => .agg #[.int .i64 p.1, .int .i64 p.2]) (Value.int .i64) (fun key kl hk => by obtain ⟨x, y, _, _, e, _⟩ := pl_inv hk; exact ⟨(x, y), e⟩) (fun v y hv => by obtain ⟨c, e, _⟩ := plainElem_int_inv mapV_int hv; exact ⟨c, e⟩)
    b r N D left cnt hit hr (fun h0 hl => hDone fun v hv => hP v hv (hl _)) (fun p c kl y w' cnt' hk hl hv hat hr' hlt hg hs hen => ?_)
  obtain ⟨pr, pa⟩ := p
  obtain ⟨r', a', hir, hia, e, rfl⟩ := pl_inv hk
  simp only [Value.agg.injEq, Array.mk.injEq, List.cons.injEq, Value.int.injEq, true_and, and_true] at e
  obtain ⟨rfl, rfl⟩ := e
  have hhas := Maps.has_true_of_atKey hat
  obtain ⟨u, hu, e1, e2⟩ := (h4 pr pa hir hia).1 hhas
  subst e1 e2
  have hd : c = u.d := by
    obtain ⟨c', e3, e4, _⟩ := plainElem_int_inv mapV_int hv
    simp only [Value.int.injEq, true_and] at e3
    subst e3
    have h6 := hat (.lit (.int .i64 0))
    rw [h5 u hu, e4] at h6
    simp only at h6
    injection h6 with h6
    injection h6 with _ h6
    exact h6.symm
  subst hd
  refine hMore u w' cnt' hu ⟨h1, h2, hs1, hs2, D, _, hr', ⟨h3, h4, h5⟩, ?_⟩ hlt hg hs hen
  intro v hv' hl'
  by_cases e : v = u
  · exact .inl e
  · have : (plK v.r v.a).sameKey (plK u.r u.a) = false := by
      cases h8 : (plK v.r v.a).sameKey (plK u.r u.a) with
      | false => rfl
      | true => exact absurd ((plK_same h1 h2 hu hv').1 h8) e
    rw [this] at hl'
    exact .inr (hP v hv' (by simpa using hl'))
set_option maxRecDepth 8000 in
/-- A vote that P' does not keep is deleted. -/
theorem wpList_deleteF {ops : Array Oper} {rest : List Oper} {o : Oper} {a : Act} {Q : Exit → Act → World → Prop} (hgd : o.guard = none) (m x : Operand) (hop : o.op = Op.call { callee := Callee.builtin Builtin.delete, args := #[m, x], argTypes := #[71, 75] })
    (hm : a.eval m = .map (some b)) {u : Vt} (hx : a.eval x = .agg #[.int .i64 u.r, .int .i64 u.a]) (hu : u ∈ gc) (hnP : ¬ P' u) (h : RangeF P' P w b r N gm gc cnt)
    (hK : ∀ w' cnt', RangeF P' (fun v => P v ∧ v ≠ u) w' b r N gm (gc.erase u) cnt' → cnt' ≤ cnt → w.grownBy w' (some b) → wpList Try.prog ops Q rest (a.put o.dst (.tuple #[])) w') : wpList Try.prog ops Q (o :: rest) a w := by
  obtain ⟨h1, h2, hs1, hs2, D, left, hr, ⟨h3, h4, h5⟩, hP⟩ := h
  have hnd := apart_nodup h2
  have htd := hr.owns.tidy pl_law
  have hhas := (h4 u.r u.a (h1 u hu).1 (h1 u hu).2.1).2 ⟨u, hu, rfl, rfl⟩
  have hmem : ∀ v, v ∈ gc.erase u ↔ v ≠ u ∧ v ∈ gc := fun v => hnd.mem_erase_iff
  refine wpList_delete_ranges w hgd m x 71 75 hop 3 pl_law mapV_tm _ b r N D left cnt hm hr _ _ hx (pl_key (h1 u hu).1 (h1 u hu).2.1) (fun w' cnt' hr' hle hturn => ?_)
  refine hK w' cnt' ⟨fun v hv => h1 v ((hmem v).1 hv).2, h2.sublist List.erase_sublist, fun v hv => hs1 v ((hmem v).1 hv).2, fun v hv hp => (hmem v).2 ⟨fun e => hnP (e ▸ hp), hs2 v hv hp⟩, _, _, hr', ⟨?_, ?_, ?_⟩, ?_⟩ hle hturn.grown
  · have hsz := Maps.size_del (k := plK u.r u.a) htd
    rw [hhas, if_pos rfl, h3] at hsz
    rw [List.length_erase_of_mem hu]
    omega
  · intro r' a' hir hia
    by_cases e : u.r = r' ∧ u.a = a'
    · obtain ⟨rfl, rfl⟩ := e
      rw [Maps.has_del_same]
      refine ⟨fun h => (by cases h), ?_⟩
      rintro ⟨v, hv, e1, e2⟩
      exact absurd (apart_eq h2 hu ((hmem v).1 hv).2 ⟨e1, e2⟩) ((hmem v).1 hv).1
    · rw [Maps.has_del_other (fun hk => e (pl_inj (h1 u hu).1 (h1 u hu).2.1 hir hia hk.symm)), h4 r' a' hir hia]
      exact ⟨fun ⟨v, hv, h⟩ => ⟨v, (hmem v).2 ⟨fun e' => e (e' ▸ h), hv⟩, h⟩, fun ⟨v, hv, h⟩ => ⟨v, ((hmem v).1 hv).2, h⟩⟩
  · intro v hv zd
    have hv' := (hmem v).1 hv
    rw [Maps.atKey_del_other (fun hk => hv'.1 (apart_eq h2 hu hv'.2 (pl_inj (h1 v hv'.2).1 (h1 v hv'.2).2.1 (h1 u hu).1 (h1 u hu).2.1 hk)))]
    exact h5 v hv'.2 zd
  · intro v hv hl
    have hv' := (hmem v).1 hv
    have : (plK v.r v.a).sameKey (plK u.r u.a) = false := by
      cases h8 : (plK v.r v.a).sameKey (plK u.r u.a) with
      | false => rfl
      | true => exact absurd ((plK_same h1 h2 hu hv'.2).1 h8) hv'.1
    rw [this] at hl
    exact ⟨hP v hv'.2 (by simpa using hl), hv'.1⟩

end Go.Proofs.Ytkndndcjchlpdaa
