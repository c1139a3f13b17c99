/- Arrays of arrays of numbers in memory: a row read, a row stored; general steps, nothing here speaks of the program. -/
import Derived.Test.YtkndndcjchlpdabE3
namespace Go.Proofs.Ytkndndcjchlpdab
open Go.RowKit

theorem run_loadVar_part {P : Program} (w : World) (g off n : Nat) (ty : TypeId) (f : Nat → Value) (d : TypeDesc) (hu : P.underlying ty = some d) (hd : (match d with | .struct _ | .array _ _ => true | _ => false) = true) (hi : (P.info? ty).map (·.size) = some n)
    (hc : ∀ j, j < n → w.cell? ⟨g, off + j, none⟩ = some (f j)) : (loadVar ty ⟨g, off, none⟩).run P w = .ok (.agg (arrC n f)) w := by
  have hl : (loadCells ⟨g, off, none⟩ (arrC n f).toList.length).run P w = .ok (arrC n f).toList.toArray w :=
    run_loadCells_list (P := P) w ⟨g, off, none⟩ (arrC n f).toList (fun j v hv => by
      rw [addr_add']
      have hj : j < n := by
        obtain ⟨h, _⟩ := List.getElem?_eq_some_iff.1 hv
        simpa [arrC] using h
      rw [hc j hj]
      simp [arrC, hj] at hv
      rw [hv])
  cases hq : P.info? ty with
  | none => simp [hq] at hi
  | some i =>
    have hs : i.size = n := by simpa [hq] using hi
    have hagg : (isAgg ty).run P w = .ok true w := by
      unfold isAgg
      rw [Sem.run_bind, run_underlying hu w]
      cases d <;> simp_all
    simp only [Array.length_toList, Array.toArray_toList, arrC_size] at hl
    simp [loadVar, Sem.run_bind, hagg, sizeOf, typeInfo, hq, hs, hl]
theorem exec_load_part {P : Program} {o : Oper} {a : Act} {w : World} (ty : TypeId) (x : Operand) (ho : o.op = .load ty x) (g off n : Nat) (hx : a.eval x = .pointer (some ⟨g, off, none⟩)) (f : Nat → Value) (d : TypeDesc) (hu : P.underlying ty = some d)
    (hd : (match d with | .struct _ | .array _ _ => true | _ => false) = true) (hi : (P.info? ty).map (·.size) = some n) (hc : ∀ j, j < n → w.cell? ⟨g, off + j, none⟩ = some (f j)) : (execOp a.eval o).run P w = .ok (.value (.agg (arrC n f))) w := by
  unfold execOp
  simp [ho, hx, Instr.loadAt, Instr.sureAddr, run_loadVar_part w g off n ty f d hu hd hi hc]
theorem run_storeVar_part {P : Program} (w : World) (g off : Nat) (t ty : TypeId) (old cells : Array Value) (hg : w.heap[g]? = some (.cells old t (0, 0))) (hi : (P.info? ty).map (·.size) = some cells.size) (ho : off + cells.size ≤ old.size) (h1 : cells.all (·.oneCell') = true) :
    (storeVar ty ⟨g, off, none⟩ (.agg cells)).run P w = .ok () (w.setRow g (old.toList.take off ++ cells.toList ++ old.toList.drop (off + cells.size)).toArray) := by
  have := run_storeCells_at P g off t cells.toList 0 old w hg (by simpa using ho) (fun v hv => (Array.all_eq_true_iff_forall_mem.1 h1) v (by simpa using hv))
  cases hq : P.info? ty with
  | none => simp [hq] at hi
  | some i =>
    have hs : cells.size = i.size := by simp [hq] at hi; omega
    simp only [Nat.add_zero, Array.length_toList] at this
    simp [storeVar, sizeOf, typeInfo, hq, Value.cells, ← hs, this]
theorem wp_store_part {P : Program} {o : Oper} {a : Act} {w : World} {K : Act → World → Prop} {Q : Exit → Act → World → Prop} (ty : TypeId) (x y : Operand) (ho : o.op = .store ty x y)
    (g off : Nat) (cells : Array Value) (hx : a.eval x = .pointer (some ⟨g, off, none⟩)) (hy : a.eval y = .agg cells)
    (t : TypeId) (old : Array Value) (hg : w.heap[g]? = some (.cells old t (0, 0))) (hi : (P.info? ty).map (·.size) = some cells.size)
    (hold : off + cells.size ≤ old.size) (h1 : cells.all (·.oneCell') = true)
    (h : K (a.put o.dst undef) (w.setRow g (old.toList.take off ++ cells.toList ++ old.toList.drop (off + cells.size)).toArray)) : o.wp P a w K Q := by
  unfold Oper.wp execOp
  simp only [ho, hx, hy, Instr.storeAt, Instr.sureAddr, Sem.run_bind, Sem.run_pure, Result.andThen_ok, run_storeVar_part w g off t ty old cells hg hi hold h1]
  exact h

/-! a grid of eight rows of twenty -/
def grC (S : Nat → Nat → Int) : Array Value := arrC 160 fun i => .int .i64 (S (i / 20) (i % 20))
theorem grC_size (S : Nat → Nat → Int) : (grC S).size = 160 := arrC_size _ _
theorem grC_get {S : Nat → Nat → Int} {k c : Nat} (hk : k < 8) (hc : c < 20) : (grC S)[k * 20 + c]? = some (.int .i64 (S k c)) := by
  unfold grC
  rw [arrC_get (by omega), show (k * 20 + c) / 20 = k by omega, show (k * 20 + c) % 20 = c by omega]
theorem grC_one (S : Nat → Nat → Int) : (grC S).all (·.oneCell') = true := by
  rw [Array.all_eq_true_iff_forall_mem]
  intro v hv
  simp only [grC, arrC, List.mem_toArray, List.mem_map] at hv
  obtain ⟨i, _, rfl⟩ := hv
  rfl
theorem grC_congr {S T : Nat → Nat → Int} (h : ∀ k c, k < 8 → c < 20 → S k c = T k c) : grC S = grC T := by
  unfold grC arrC
  congr 1
  exact List.map_congr_left fun i hi => by
    have := List.mem_range.1 hi
    rw [h _ _ (by omega) (Nat.mod_lt _ (by omega))]
def updR (S : Nat → Eqn) (k : Nat) (e : Eqn) : Nat → Eqn := fun j => if j = k then e else S j
theorem grid_splice {S : Nat → Nat → Int} {k : Nat} (hk : k < 8) (e : Nat → Int) : ((grC S).toList.take (k * 20) ++ (eqC e).toList ++ (grC S).toList.drop (k * 20 + (eqC e).size)).toArray = grC (updR S k e) := by
  rw [eqC_size]
  unfold grC eqC arrC
  congr 1
  apply List.ext_getElem
  · simp; omega
  · intro i h1 h2
    have hi : i < 160 := by simpa using h2
    rw [List.getElem_map, List.getElem_range]
    unfold updR
    by_cases ha : i < k * 20
    · rw [List.getElem_append_left (by simp; omega), List.getElem_append_left (by simp; omega)]
      simp only [List.getElem_take, List.getElem_map, List.getElem_range]
      rw [if_neg (by omega)]
    · by_cases hb : i < k * 20 + 20
      · rw [List.getElem_append_left (by simp; omega), List.getElem_append_right (by simp; omega)]
        simp only [List.getElem_map, List.getElem_range, List.length_take, List.length_map, List.length_range]
        rw [if_pos (by omega)]
        congr 2
        omega
      · rw [List.getElem_append_right (by simp; omega)]
        simp only [List.getElem_drop, List.getElem_map, List.getElem_range, List.length_append, List.length_take, List.length_map, List.length_range]
        rw [if_neg (by omega)]
        congr 2
        · omega
        · omega
theorem eqs0_step (need : Nat) (xs : Nat → Int) (vs : Nat → List Int) (k : Nat) : updR (eqs0 need xs vs k) k (eqOf need (xs k) (vs k)) = eqs0 need xs vs (k + 1) := by
  funext j
  unfold updR eqs0
  by_cases h : j = k
  · subst h; simp
  · by_cases h2 : j < k
    · simp [h, h2, show j < k + 1 by omega]
    · simp [h, h2, show ¬ j < k + 1 by omega]
theorem elim_zero (T : Nat → Eqn) (i : Nat) : updR T i (tmsE (T i) (invZ (T i i))) = elimTo T i 0 := by
  funext j
  unfold updR elimTo
  by_cases h : j = i
  · subst h; simp
  · simp [h]
theorem elim_same (T : Nat → Eqn) (i : Nat) : elimTo T i (i + 1) = elimTo T i i := by
  funext j
  unfold elimTo
  by_cases h : j = i
  · simp [h]
  · by_cases h2 : j < i
    · simp [h, h2, show j < i + 1 by omega]
    · simp [h, h2, show ¬ j < i + 1 by omega]
theorem elim_step {T : Nat → Eqn} {i j : Nat} (h : j ≠ i) : updR (elimTo T i j) j (wthE (elimTo T i j j) (tmsE (elimTo T i j i) (elimTo T i j j i))) = elimTo T i (j + 1) := by
  have e1 : elimTo T i j j = T j := by unfold elimTo; rw [if_neg h, if_neg (by omega)]
  have e2 : elimTo T i j i = tmsE (T i) (invZ (T i i)) := by unfold elimTo; rw [if_pos rfl]
  rw [e1, e2]
  funext k
  unfold updR elimTo
  by_cases hk : k = j
  · subst hk; simp [h]
  · by_cases hi : k = i
    · simp [hi]
      intro e; exact absurd e.symm h
    · by_cases h2 : k < j
      · simp [hk, hi, h2, show k < j + 1 by omega]
      · simp [hk, hi, h2, show ¬ k < j + 1 by omega]

theorem run_zeroValue {P : Program} {ty : TypeId} {v : Value} (h : (P.info? ty).map (·.zero) = some (some v)) (w : World) : (zeroValue ty).run P w = .ok v w := by
  cases hq : P.info? ty with
  | none => simp [hq] at h
  | some i =>
    have hz : i.zero = some v := by simpa [hq] using h
    simp [zeroValue, typeInfo, hq, hz]

theorem wp_store_grid {P : Program} {o : Oper} {a : Act} {w : World} {K : Act → World → Prop} {Q : Exit → Act → World → Prop} (ty : TypeId) (x y : Operand) (ho : o.op = .store ty x y) (g k : Nat) (S : Nat → Eqn) (e : Eqn) (hk : k < 8)
    (hx : a.eval x = .pointer (some ⟨g, k * 20, none⟩)) (hy : a.eval y = .agg (eqC e)) (t : TypeId) (hg : Str w g t (grC S)) (hi : (P.info? ty).map (·.size) = some 20)
    (h : ∀ w', Str w' g t (grC (updR S k e)) → w.grownBy w' (some g) → K (a.put o.dst undef) w') : o.wp P a w K Q := by
  refine wp_store_part ty x y ho g (k * 20) (eqC e) hx hy t (grC S) hg (by rw [eqC_size]; exact hi) (by rw [eqC_size, grC_size]; omega) (eqC_one e) ?_
  rw [grid_splice hk e]
  exact h _ (setRow_str hg _) (grownBy_setRow w g _)
theorem wpList_store_grid {P : Program} {ops : Array Oper} {rest : List Oper} {o : Oper} {a : Act} {w : World} {Q : Exit → Act → World → Prop} (hgd : o.guard = none) (ty : TypeId) (x y : Operand) (ho : o.op = .store ty x y) (g k : Nat) (S : Nat → Eqn) (e : Eqn) (hk : k < 8)
    (hx : a.eval x = .pointer (some ⟨g, k * 20, none⟩)) (hy : a.eval y = .agg (eqC e)) (t : TypeId) (hg : Str w g t (grC S)) (hi : (P.info? ty).map (·.size) = some 20)
    (h : ∀ w', Str w' g t (grC (updR S k e)) → w.grownBy w' (some g) → wpList P ops Q rest (a.put o.dst undef) w') : wpList P ops Q (o :: rest) a w :=
  wpList_plain hgd fun _ hK => wp_store_grid ty x y ho g k S e hk hx hy t hg hi fun w' h1 h2 => hK _ _ (h w' h1 h2)
theorem exec_load_row {P : Program} {o : Oper} {a : Act} {w : World} (ty : TypeId) (x : Operand) (ho : o.op = .load ty x) (g k : Nat) (S : Nat → Eqn) (hk : k < 8) (hx : a.eval x = .pointer (some ⟨g, k * 20, none⟩)) (d : TypeDesc) (hu : P.underlying ty = some d)
    (hd : (match d with | .struct _ | .array _ _ => true | _ => false) = true) (hi : (P.info? ty).map (·.size) = some 20) (t : TypeId) (hg : Str w g t (grC S)) : (execOp a.eval o).run P w = .ok (.value (.agg (eqC (S k)))) w :=
  exec_load_part ty x ho g (k * 20) 20 hx _ d hu hd hi fun _ hj => hg.cell _ (grC_get hk hj)

end Go.Proofs.Ytkndndcjchlpdab
