/- A list of rows that the call builds by append, whose elements lie in memory that is known not to be frozen; general steps, nothing here speaks of the program. -/
import Derived.Test.YtejpoeejhmgphacRows
import Derived.Test.YtejpoeejhmgphacBld
import Derived.Test.YtejpoeejhmgphacSn1
import Derived.Test.YtejpoeejhmgphacRow
namespace Go.Proofs.Ytejpoeejhmgphac
open Go.RowKit

/-- Each cell of an element reads as its datum, in memory from B on that is not the outer row's. -/
def CellsN (w : World) (B : Nat) (N : Nat → Prop) (blk : Option Nat) (cs : List Value) (e : List Dt) : Prop :=
  ∀ j (hj : j < e.length), ∃ c fp, cs[j]? = some c ∧ Rd w e[j] c fp ∧ ∀ r ∈ fp, B ≤ r ∧ blk ≠ some r ∧ N r
theorem CellsN.step {w w' : World} {B : Nat} {N : Nat → Prop} {blk blk' row : Option Nat} {cs : List Value} {e : List Dt} (h : CellsN w B N blk cs e) (hg : w.grownBy w' row) (hrow : ∀ r, row = some r → r < B ∨ blk = some r) (hb : ∀ g, blk' = some g → blk = some g ∨ w.heap.size ≤ g) :
    CellsN w' B N blk' cs e := by
  intro j hj
  obtain ⟨c, fp, hc, hr, hf⟩ := h j hj
  refine ⟨c, fp, hc, hr.grown hg fun r e hm => ?_, fun r hm => ⟨(hf r hm).1, fun e => ?_, (hf r hm).2.2⟩⟩
  · rcases hrow r e with h | h
    · have := (hf r hm).1; omega
    · exact (hf r hm).2.1 h
  · rcases hb r e with h | h
    · exact (hf r hm).2.1 h
    · have := hr.lt r hm; omega
structure BldN (E : TypeId) (sz : Nat) (w : World) (B : Nat) (N : Nat → Prop) (v : Value) (es : List (List Dt)) : Prop where
  szs : ∀ e ∈ es, e.length = sz
  row : ∃ cs : List Value, w.ownsRow B E sz v es.length cs ∧ ∀ k (hk : k < es.length), CellsN w B N v.ownBlock (cs.drop (k * sz)) es[k]
theorem BldN.nil {E : TypeId} {sz : Nat} {w : World} {B : Nat} {N : Nat → Prop} {v : Value} (h : w.ownsRow B E sz v 0 []) : BldN E sz w B N v [] := ⟨by simp, [], h, fun k hk => by simp at hk⟩
theorem BldN.step {E : TypeId} {sz : Nat} {w w' : World} {B : Nat} {N : Nat → Prop} {v : Value} {es : List (List Dt)} {row : Option Nat} (h : BldN E sz w B N v es) (hg : w.grownBy w' row) (hrow : ∀ r, row = some r → r < B) : BldN E sz w' B N v es := by
  obtain ⟨cs, ho, hc⟩ := h.row
  refine ⟨h.szs, cs, ho.kept hg ?_, fun k hk => (hc k hk).step hg (fun r e => .inl (hrow r e)) (fun g e => .inl e)⟩
  cases hv : v.ownBlock with
  | none => exact .inl rfl
  | some g => exact .inr fun e => by have := hrow g e.symm; have := (ho.lt g hv).1; omega
theorem BldN.under {E : TypeId} {sz : Nat} {w w' : World} {B : Nat} {N : Nat → Prop} {v : Value} {es : List (List Dt)} (h : BldN E sz w B N v es) (hb : Below w.heap.size w w') : BldN E sz w' B N v es := h.step (below_grown hb) fun _ e => by cases e
theorem BldN.lt {E : TypeId} {sz : Nat} {w : World} {B : Nat} {N : Nat → Prop} {v : Value} {es : List (List Dt)} (h : BldN E sz w B N v es) : ∀ g, v.ownBlock = some g → B ≤ g ∧ g < w.heap.size := by
  obtain ⟨cs, ho, _⟩ := h.row; exact ho.lt
theorem BldN.slice {E : TypeId} {sz : Nat} {w : World} {B : Nat} {N : Nat → Prop} {v : Value} {es : List (List Dt)} (h : BldN E sz w B N v es) : ∃ a cap, v = .slice a es.length cap ∧ es.length ≤ maxLen := by
  obtain ⟨cs, ho, _⟩ := h.row
  rcases ho.2 with ⟨rfl, h0⟩ | ⟨g, cap, cur, rfl, hb, hg, hn, hm, hs, ht⟩
  · exact ⟨none, 0, by rw [h0], by rw [h0]; simp⟩
  · exact ⟨_, cap, rfl, by omega⟩

/-- 'append(s, x)', x an element of a struct type. -/
theorem wpList_push_rowN {P : Program} {T E : TypeId} {z0 : Value} {sz bytes : Nat} (hsl : P.underlying T = some (.slice E)) (hinf : (P.info? E).map (fun i => (i.zero, i.size, i.bytes)) = some (some z0, sz, bytes)) (hz0 : z0.cells.size = sz) (hpos : 0 < sz) (hby : bytes ≤ 1000)
    {w : World} {ops : Array Oper} {rest : List Oper} {o : Oper} {a : Act} {Q : Exit → Act → World → Prop} (hgd : o.guard = none) (s x : Operand) (ho : o.op = .call { callee := .builtin .append, args := #[s, x], argTypes := #[T, T] }) (B : Nat) (N : Nat → Prop) (v : Value) (es : List (List Dt)) (e : List Dt)
    (vals : List Value) (cells : Array Value) (hcells : cells = vals.toArray) (hvl : vals.length = sz) (h1c : ∀ u ∈ vals, u.oneCell' = true) (hs : a.eval s = v) (hb : BldN E sz w B N v es) (he : e.length = sz) (hr : CellsN w B N v.ownBlock vals e) (hlen : es.length ≤ 1048576)
    (hx : a.eval x = .slice (some ⟨w.heap.size, 0, none⟩) 1 1) (hB : B ≤ w.heap.size)
    (h : ∀ v' w', BldN E sz w' B N v' (es ++ [e]) → w.grownBy w' v.ownBlock → (∀ g, v'.ownBlock = some g → v.ownBlock = some g ∨ w.heap.size ≤ g) → wpList P ops Q rest (a.put o.dst v') w') : wpList P ops Q (o :: rest) a (w.alloc (.cells cells E)) := by
  subst hcells
  refine wpList_want (by unfold Region.wanted; rw [hgd]) fun K hK => ?_
  obtain ⟨i, hi, hz, hsz, hbb⟩ := info_parts hinf
  obtain ⟨cs, hown, hc⟩ := hb.row
  have hcl : cs.length = es.length * sz := hown.1
  obtain ⟨v', w', hrun, h1, h2, _, h4⟩ := run_append_own_at (P := P) (w.alloc (.cells vals.toArray E)) B T o.type E i z0 sz bytes hsl hi hz hsz hbb hz0 hpos v es.length _ (World.ownsRow.alloc hown _) ⟨w.heap.size, 0, none⟩ 1 1 vals (by rw [hvl]; simp)
    (fun j u hu => by
      rw [addr_add, World.cell?_alloc_at _ _ _ _ rfl]; simpa using hu) h1c (by unfold maxLen; omega) (by
      have := Nat.mul_le_mul (show es.length + 1 ≤ 1048577 by omega) hby; omega) (by simp; omega)
  unfold Oper.wp execOp
  simp only [ho, resolve, invoke, builtin, Sem.run_bind, Sem.run_pure, Result.andThen_ok, List.map_toArray, List.map_cons, List.map_nil, hs, hx, hrun]
  have hg : w.grownBy w' v.ownBlock := grownBy_trans (World.grownBy_alloc _ _ _) h2
  have hloc : ∀ g, v'.ownBlock = some g → v.ownBlock = some g ∨ w.heap.size ≤ g := fun g e => by
    rcases h4 with h4 | h4
    · exact .inl (by rw [← h4]; exact e)
    · rw [h4] at e; cases e; exact .inr (by simp)
  refine hK _ _ (h v' w' ⟨?_, cs ++ vals, by rw [List.length_append]; exact h1, fun k hk => ?_⟩ hg hloc)
  · intro d hd
    rcases List.mem_append.1 hd with hd | hd
    · exact hb.szs d hd
    · simp at hd; subst hd; exact he
  · by_cases hke : k < es.length
    · have hkk : (es ++ [e])[k] = es[k] := List.getElem_append_left hke
      rw [hkk]
      have hcr := (hc k hke).step (blk' := v'.ownBlock) hg (fun r e => .inr e) hloc
      intro j hj
      obtain ⟨c, fp, hcc, hrest⟩ := hcr j hj
      refine ⟨c, fp, ?_, hrest⟩
      rw [List.getElem?_drop] at hcc ⊢
      have hjs : j < sz := by rw [← hb.szs _ (List.getElem_mem hke)]; exact hj
      have : k * sz + j < cs.length := by
        rw [hcl]
        have := Nat.mul_le_mul_right sz (show k + 1 ≤ es.length by omega)
        rw [Nat.add_mul] at this; omega
      rw [List.getElem?_append_left this]; exact hcc
    · have hkl : k = es.length := by simp at hk; omega
      subst hkl
      have hkk : (es ++ [e])[es.length] = e := by simp
      rw [hkk]
      have : (cs ++ vals).drop (es.length * sz) = vals := by rw [← hcl]; simp
      rw [this]
      exact hr.step hg (fun r e => .inr e) hloc

theorem BldN.bld {E : TypeId} {sz : Nat} {w : World} {B : Nat} {N : Nat → Prop} {v : Value} {es : List (List Dt)} (h : BldN E sz w B N v es) : Bld E sz w B v es := by
  obtain ⟨cs, ho, hc⟩ := h.row
  exact ⟨h.szs, cs, ho, fun k hk j hj => by
    obtain ⟨c, fp, h1, h2, h3⟩ := hc k hk j hj
    exact ⟨c, fp, h1, h2, fun r hr => ⟨(h3 r hr).1, (h3 r hr).2.1⟩⟩⟩
theorem BldN.frz {E : TypeId} {sz : Nat} {w : World} {B : Nat} {N : Nat → Prop} {g off n cap : Nat} {es : List (List Dt)} (h : BldN E sz w B N (.slice (some ⟨g, off, none⟩) n cap) es) : off = 0 ∧ ∀ j, w.frozen? ⟨g, j, none⟩ = false := by
  obtain ⟨cs, ho, _⟩ := h.row
  rcases ho.2 with ⟨e, _⟩ | ⟨g', cap', cur, e, hb, hg, _⟩
  · cases e
  · simp only [Value.slice.injEq, Option.some.injEq, Addr.mk.injEq, and_true] at e
    obtain ⟨⟨rfl, rfl⟩, _, _⟩ := e
    exact ⟨rfl, fun j => frozen_of_row w g j cur E hg⟩
theorem BldN.list {E : TypeId} {w : World} {B : Nat} {N : Nat → Prop} {g n cap : Nat} {L : List (Int × List Int)} (h : BldN E 2 w B N (.slice (some ⟨g, 0, none⟩) n cap) (L.map shardD)) {k : Nat} (hk : k < L.length) (hne : 0 < L[k].2.length) :
    ∃ bv ov cv, w.cell? ⟨g, k * 2 + 1, none⟩ = some (.slice (some ⟨bv, ov, none⟩) L[k].2.length cv) ∧ N bv ∧ bv < w.heap.size ∧ ∀ i (hi : i < L[k].2.length), w.cell? ⟨bv, ov + i, none⟩ = some (.int .i64 L[k].2[i]) := by
  obtain ⟨cs, ho, hc⟩ := h.row
  have hk' : k < (L.map shardD).length := by simpa using hk
  have he : (L.map shardD)[k] = shardD L[k] := by simp
  obtain ⟨c, fp, h1, h2, h3⟩ := hc k hk' 1 (by rw [he]; simp [shardD])
  have h2' : Rd w (intsD L[k].2) c fp := by simpa [shardD] using h2
  obtain ⟨a, cap', rfl⟩ := Rd.slice h2'
  rw [List.length_map] at h2' h1
  obtain ⟨bv, ov, rfl, hlt, hin, _, _, hcs⟩ := Rd.at h2' (by simpa using hne) (sz := 1) (by intro e he; simp at he; obtain ⟨x, _, rfl⟩ := he; rfl)
  refine ⟨bv, ov, cap', ?_, (h3 bv hin).2.2, hlt, fun i hi => ?_⟩
  · rw [List.getElem?_drop] at h1
    have := World.ownsRow.cells ho (g := g) rfl (k * 2 + 1) _ h1
    rw [addr_add] at this
    exact this
  · obtain ⟨v, fp', hcell, hr, _⟩ := hcs i 0 (by simpa using hi) (by simp)
    have hr' : Rd w (.i L[k].2[i]) v fp' := by simpa using hr
    obtain ⟨rfl, _⟩ := hr'.int
    simpa using hcell
/-- What has just been made by a call, row by row. -/
theorem made_rows {E Ei : TypeId} {w : World} {B hi : Nat} {a : Option Addr} {n cap : Nat} {A : List (Int × List Int)} (h : OwnR E Ei 2 w B hi (.slice a n cap) (A.map shardF)) (N : Nat → Prop) (hN : ∀ r, B ≤ r → r < w.heap.size → (∀ j, w.frozen? ⟨r, j, none⟩ = false) → N r) {k : Nat} (hk : k < A.length) :
    ∃ gA av cv, a = some ⟨gA, 0, none⟩ ∧ B ≤ gA ∧ gA < w.heap.size ∧ w.cell? ⟨gA, k * 2, none⟩ = some (.int .i64 A[k].1) ∧ w.cell? ⟨gA, k * 2 + 1, none⟩ = some (.slice av A[k].2.length cv) ∧ CellsN w B N none [.int .i64 A[k].1, .slice av A[k].2.length cv] (shardD A[k]) := by
  obtain ⟨gA, cap', e, hB, _, hlt⟩ := h.head (by simp; omega)
  simp only [Value.slice.injEq] at e
  obtain ⟨rfl, rfl, rfl⟩ := e
  have hk' : k < (A.map shardF).length := by simpa using hk
  have he : (A.map shardF)[k] = shardF A[k] := by simp
  have h0 := h.fieldI (k := k) (j := 0) hk' (by rw [he]; simp [shardF]) (x := A[k].1) (by simp only [he]; rfl)
  obtain ⟨c, hc, hf⟩ := h.cell (k := k) (j := 1) hk' (by rw [he]; simp [shardF])
  have hf' : Own Ei w B c A[k].2 := by
    have h9 := hf.1
    simp only [List.getElem_map, shardF, List.getElem_cons_zero, List.getElem_cons_succ] at h9
    exact h9
  obtain ⟨av, cv, rfl, _, _⟩ := hf'.ints
  refine ⟨gA, av, cv, rfl, hB, hlt, by simpa using h0.1, hc, fun j hj => ?_⟩
  match j, hj with
  | 0, _ => exact ⟨_, [], rfl, .i _, by simp⟩
  | 1, _ =>
    obtain ⟨fp, hr, hfp⟩ := Rd.of_own hf'
    refine ⟨_, fp, rfl, hr, fun r hr => ?_⟩
    obtain ⟨h1, h2⟩ := hfp r hr
    refine ⟨h1, by simp, hN r h1 (hf'.lt r h2).2 fun j => ?_⟩
    rcases hf'.2 with ⟨e, _⟩ | ⟨g', cap', cur, e, _, hg, _⟩
    · rw [e] at h2; cases h2
    · rw [e] at h2; cases h2; exact frozen_of_row w g' j cur Ei hg
theorem grown_frozen {w w' : World} {row : Option Nat} (h : w.grownBy w' row) {b : Nat} (hb : b < w.heap.size) (hne : some b ≠ row) (j : Nat) : w'.frozen? ⟨b, j, none⟩ = w.frozen? ⟨b, j, none⟩ := by
  unfold World.frozen?
  rw [h.block b hb hne]

end Go.Proofs.Ytejpoeejhmgphac
