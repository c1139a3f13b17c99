/- Rows of numbers in a list of lists, and the columns that spec solves; general steps and plain arithmetic, no walk and no condition of our own. -/
import Derived.Test.YtkndndcjchlpdabS3
import Derived.Test.YtkndndcjchlpdabM5
import Derived.Test.YtkndndcjchlpdabBld
namespace Go.Proofs.Ytkndndcjchlpdab
open Go.RowKit

/-- A list of rows of numbers: the rows are never written, only replaced. -/
def Rws (E : TypeId) (w : World) (B g n : Nat) (F : Nat → List Int) : Prop :=
  B ≤ g ∧ ∃ cur, Str w g E cur ∧ ∀ k, k < n → ∃ b off c, cur[k]? = some (.slice (some ⟨b, off, none⟩) (F k).length c) ∧ B ≤ b ∧ b ≠ g ∧ b < w.heap.size ∧ ∀ j (h : j < (F k).length), w.cell? ⟨b, off + j, none⟩ = some (.int .i64 (F k)[j])
section
variable {E : TypeId} {w w' : World} {B g n : Nat} {F : Nat → List Int}
theorem Rws.at (h : Rws E w B g n F) {k : Nat} (hk : k < n) : ∃ b off c, w.cell? ⟨g, k, none⟩ = some (.slice (some ⟨b, off, none⟩) (F k).length c) ∧ B ≤ b ∧ b ≠ g ∧ b < w.heap.size ∧ ∀ j (h : j < (F k).length), w.cell? ⟨b, off + j, none⟩ = some (.int .i64 (F k)[j]) := by
  obtain ⟨_, cur, hs, hc⟩ := h
  obtain ⟨b, off, c, h1, h2⟩ := hc k hk
  exact ⟨b, off, c, hs.cell k h1, h2⟩
theorem Rws.frozen (h : Rws E w B g n F) (k : Nat) : w.frozen? ⟨g, k, none⟩ = false := by obtain ⟨_, cur, hs, _⟩ := h; exact hs.frozen k
theorem Rws.lt (h : Rws E w B g n F) : g < w.heap.size := by obtain ⟨_, cur, hs, _⟩ := h; exact hs.lt
theorem Rws.lo (h : Rws E w B g n F) : B ≤ g := h.1
theorem Rws.below (h : Rws E w B g n F) (hb : Below w.heap.size w w') : Rws E w' B g n F := by
  obtain ⟨h0, cur, hs, hc⟩ := h
  refine ⟨h0, cur, (hb.block _ hs.lt).trans hs, fun k hk => ?_⟩
  obtain ⟨b, off, c, h1, h2, h3, h4, h5⟩ := hc k hk
  exact ⟨b, off, c, h1, h2, h3, Nat.lt_of_lt_of_le h4 hb.size, fun j hj => (hb.cell (p := ⟨b, off + j, none⟩) h4).trans (h5 j hj)⟩
theorem Rws.congr {F' : Nat → List Int} (h : Rws E w B g n F) (he : ∀ k, k < n → F k = F' k) : Rws E w B g n F' := by
  obtain ⟨h0, cur, hs, hc⟩ := h
  refine ⟨h0, cur, hs, fun k hk => ?_⟩
  rw [← he k hk]; exact hc k hk
theorem Rws.set (h : Rws E w B g n F) {k : Nat} (hk : k < n) {b off c : Nat} {r : List Int} (h2 : B ≤ b) (h3 : b ≠ g) (h4 : b < w.heap.size) (h5 : ∀ j (h : j < r.length), w.cell? ⟨b, off + j, none⟩ = some (.int .i64 r[j])) :
    Rws E (w.setCell ⟨g, k, none⟩ (.slice (some ⟨b, off, none⟩) r.length c)) B g n (fun i => if i = k then r else F i) := by
  obtain ⟨h0, cur, hs, hc⟩ := h
  have hg := grownBy_set w g k (.slice (some ⟨b, off, none⟩) r.length c)
  refine ⟨h0, _, hs.set k _, fun i hi => ?_⟩
  have hsz : (w.setCell ⟨g, k, none⟩ (.slice (some ⟨b, off, none⟩) r.length c)).heap.size = w.heap.size := by simp [World.setCell]
  by_cases e : i = k
  · subst e
    have hlt : i < cur.size := by
      obtain ⟨b', off', c', e1, _⟩ := hc i hi
      exact (Array.getElem?_eq_some_iff.1 e1).1
    refine ⟨b, off, c, by simp [hlt], h2, h3, by omega, fun j hj => ?_⟩
    have hj' : j < r.length := by simpa using hj
    have := hg.cell (h5 j hj') (by simpa using h3)
    simpa using this
  · obtain ⟨b', off', c', e1, e2, e3, e4, e5⟩ := hc i hi
    refine ⟨b', off', c', by rw [Array.getElem?_setIfInBounds_ne (by omega)]; simpa [e] using e1, e2, e3, by omega, fun j hj => ?_⟩
    have hj' : j < (F i).length := by simpa [e] using hj
    have := hg.cell (e5 j hj') (by simpa using e3)
    simpa [e] using this
end
theorem rws_of_bld {E : TypeId} {w : World} {B n cap : Nat} {a : Option Addr} {rows : List (List Int)} (h : Bld E 1 w B (.slice a n cap) (rows.map fun r => [intsD r])) (hn : 0 < rows.length) (hr : ∀ r ∈ rows, 0 < r.length) :
    n = rows.length ∧ rows.length ≤ cap ∧ ∃ g, a = some ⟨g, 0, none⟩ ∧ Rws E w B g rows.length (fun k => rows.getD k []) := by
  obtain ⟨cs, ho, hc⟩ := h.row
  rw [List.length_map] at ho
  rcases ho.2 with ⟨_, h0⟩ | ⟨g, cap', cur, hv, hb, hg, hnc, hm, hs, ht⟩
  · omega
  simp only [Value.slice.injEq] at hv
  obtain ⟨rfl, rfl, rfl⟩ := hv
  refine ⟨rfl, hnc, g, rfl, hb, cur, hg, fun k hk => ?_⟩
  have hk' : k < (rows.map fun r => [intsD r]).length := by simpa using hk
  have hkr : rows.getD k [] = rows[k] := by simp [List.getD, List.getElem?_eq_getElem hk]
  obtain ⟨c, fp, h1, h2, h3⟩ := hc k hk' 0 (by simp)
  simp only [List.getElem_map, List.getElem_cons_zero] at h2
  obtain ⟨ar, cr, rfl, _, hi⟩ := Rd.ints h2
  have h1' : cs[k]? = some (.slice ar rows[k].length cr) := by simpa using h1
  have hcur : cur[k]? = some (.slice ar rows[k].length cr) := by
    have hkc : k < cs.length := (List.getElem?_eq_some_iff.1 h1').1
    have : (cur.toList.take (rows.length * 1))[k]? = some (.slice ar rows[k].length cr) := by rw [ht]; exact h1'
    rw [List.getElem?_take] at this
    split at this
    · simpa using this
    · cases this
  show ∃ b off c, cur[k]? = some (Value.slice (some ⟨b, off, none⟩) (rows.getD k []).length c) ∧ B ≤ b ∧ b ≠ g ∧ b < w.heap.size ∧ ∀ j (h : j < (rows.getD k []).length), w.cell? ⟨b, off + j, none⟩ = some (.int .i64 (rows.getD k [])[j])
  rw [hkr]
  obtain ⟨b, off, rfl, hbl, hcell⟩ := hi.cell (hr _ (List.getElem_mem hk))
  obtain ⟨b', off', e, _, hfp, _⟩ := Rd.at h2 (by simpa using hr _ (List.getElem_mem hk)) (sz := 1) (by intro e he; simp at he; obtain ⟨x, _, rfl⟩ := he; rfl)
  simp only [Option.some.injEq, Addr.mk.injEq] at e
  obtain ⟨rfl, _, _⟩ := e
  obtain ⟨h4, h5⟩ := h3 b hfp
  exact ⟨b, off, cr, hcur, h4, fun e => h5 (by rw [e]; rfl), hbl, hcell⟩

/-! the rows of a column -/
def colE (need col : Nat) (e : Eqn) : Nat → Int := fun k => if k < need then e k else e (8 + col)
def rowE (need col : Nat) (e : Eqn) : List Int := (List.range (need + 1)).map (colE need col e)
theorem rowE_len (need col : Nat) (e : Eqn) : (rowE need col e).length = need + 1 := by simp [rowE]
theorem rowE_get {need col : Nat} {e : Eqn} {k : Nat} (h : k < (rowE need col e).length) : (rowE need col e)[k] = colE need col e k := by simp [rowE]
theorem colE_bd {need col : Nat} {e : Eqn} (h : ∀ i, 0 ≤ e i ∧ e i ≤ 250) (k : Nat) : 0 ≤ colE need col e k ∧ colE need col e k ≤ 250 := by
  unfold colE; split <;> exact h _
theorem rowE_eq {need col : Nat} {x : Int} {vs : List Int} (hn : need ≤ 8) : rowE need col (eqOf need x vs) = ((List.range need).map fun k => powF x k) ++ [vs.getD col 0] := by
  unfold rowE
  rw [List.range_succ, List.map_append]
  congr 1
  · refine List.map_congr_left fun k hk => ?_
    have hk := List.mem_range.1 hk
    unfold colE eqOf; rw [if_pos hk, if_pos hk]
  · simp only [List.map_cons, List.map_nil]
    unfold colE eqOf
    rw [if_neg (by omega), if_neg (by omega), if_neg (by omega), show 8 + col - 8 = col by omega]
theorem colE_tms (need col : Nat) (e : Eqn) (c : Int) (k : Nat) : colE need col (tmsE e c) k = colE need col e k * c % 251 := by
  unfold colE tmsE; split <;> rfl
theorem wth_mod (x f r : Int) : (x + 251 - r * f % 251) % 251 = (x + (251 - f) * r) % 251 := by
  have h : Cg (x + 251 - r * f % 251) (x + (251 - f) * r) := by
    have e : x + (251 - f) * r = (x + 251 - r * f) + 251 * (r - 1) := by grind
    rw [e]
    exact ((Cg.refl (x + 251)).sub (Cg.mod (r * f))).trans ⟨-(r - 1), by omega⟩
  obtain ⟨k, hk⟩ := h
  rw [hk]; omega
theorem colE_wth (need col : Nat) (e r : Eqn) (f : Int) (k : Nat) : colE need col (wthE e (tmsE r f)) k = (colE need col e k + (251 - f) * colE need col r k) % 251 := by
  unfold colE wthE tmsE
  split <;> exact wth_mod _ _ _
theorem elimC_self (S : Nat → Eqn) (p m : Nat) : elimTo S p m p = tmsE (S p) (invZ (S p p)) := by unfold elimTo; rw [if_pos rfl]
theorem elimC_later {S : Nat → Eqn} {p m k : Nat} (h : k ≠ p) (hk : m ≤ k) : elimTo S p m k = S k := by unfold elimTo; rw [if_neg h, if_neg (by omega)]
theorem elimC_step {S : Nat → Eqn} {p m : Nat} (h : m ≠ p) : elimTo S p (m + 1) = fun k => if k = m then wthE (S m) (tmsE (tmsE (S p) (invZ (S p p))) (S m p)) else elimTo S p m k := by
  funext k
  unfold elimTo
  by_cases e : k = m
  · subst e; rw [if_neg h, if_pos (by omega), if_pos rfl]
  · rw [if_neg e]
    by_cases e2 : k = p
    · rw [if_pos e2, if_pos e2]
    · rw [if_neg e2, if_neg e2]
      by_cases e3 : k < m
      · rw [if_pos (by omega), if_pos e3]
      · rw [if_neg (by omega), if_neg e3]
theorem elimC_skip (S : Nat → Eqn) (p : Nat) : elimTo S p (p + 1) = elimTo S p p := by
  funext k
  unfold elimTo
  by_cases e2 : k = p
  · rw [if_pos e2, if_pos e2]
  · rw [if_neg e2, if_neg e2]
    by_cases e3 : k < p
    · rw [if_pos (by omega), if_pos e3]
    · rw [if_neg (by omega), if_neg e3]
theorem elimC_zero (S : Nat → Eqn) (p : Nat) : elimTo S p 0 = fun k => if k = p then tmsE (S p) (invZ (S p p)) else S k := by
  funext k
  unfold elimTo
  by_cases e2 : k = p
  · subst e2; rw [if_pos rfl, if_pos rfl]
  · rw [if_neg e2, if_neg e2, if_neg (by omega)]

end Go.Proofs.Ytkndndcjchlpdab
