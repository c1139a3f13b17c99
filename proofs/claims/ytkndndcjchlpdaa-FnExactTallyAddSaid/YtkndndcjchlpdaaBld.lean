/- A list of rows that the call builds by append: its own outer row, and elements that read as data in memory of the call's own; general steps, nothing here speaks of the program. -/
import Derived.Test.YtkndndcjchlpdaaBase
import Derived.Test.YtkndndcjchlpdaaApp
import Derived.Test.YtkndndcjchlpdaaDt
import Derived.Maps.AppendAt
namespace Go.Proofs.Ytkndndcjchlpdaa
open Go.RowKit

/-- Each cell of an element reads as its datum, in memory from B on that is not the outer row's. -/
def CellsRd (w : World) (B : Nat) (blk : Option Nat) (cs : List Value) (e : List Dt) : Prop :=
  ∀ j (hj : j < e.length), ∃ c fp, cs[j]? = some c ∧ Rd w e[j] c fp ∧ ∀ r ∈ fp, B ≤ r ∧ blk ≠ some r
theorem CellsRd.step {w w' : World} {B : Nat} {blk blk' row : Option Nat} {cs : List Value} {e : List Dt} (h : CellsRd w B blk cs e) (hg : w.grownBy w' row) (hrow : ∀ r, row = some r → r < B ∨ blk = some r) (hb : ∀ g, blk' = some g → blk = some g ∨ w.heap.size ≤ g) :
    CellsRd w' B blk' cs e := by
  intro j hj
  obtain ⟨c, fp, hc, hr, hf⟩ := h j hj
  refine ⟨c, fp, hc, hr.grown hg fun r e hm => ?_, fun r hm => ⟨(hf r hm).1, fun e => ?_⟩⟩
  · rcases hrow r e with h | h
    · have := (hf r hm).1; omega
    · exact (hf r hm).2 h
  · rcases hb r e with h | h
    · exact (hf r hm).2 h
    · have := hr.lt r hm; omega
structure Bld (E : TypeId) (sz : Nat) (w : World) (B : Nat) (v : Value) (es : List (List Dt)) : Prop where
  szs : ∀ e ∈ es, e.length = sz
  row : ∃ cs : List Value, w.ownsRow B E sz v es.length cs ∧ ∀ k (hk : k < es.length), CellsRd w B v.ownBlock (cs.drop (k * sz)) es[k]
theorem Bld.nil {E : TypeId} {sz : Nat} {w : World} {B : Nat} {v : Value} (h : w.ownsRow B E sz v 0 []) : Bld E sz w B v [] := ⟨by simp, [], h, fun k hk => by simp at hk⟩
theorem Bld.step {E : TypeId} {sz : Nat} {w w' : World} {B : Nat} {v : Value} {es : List (List Dt)} {row : Option Nat} (h : Bld E sz w B v es) (hg : w.grownBy w' row) (hrow : ∀ r, row = some r → r < B) : Bld E sz w' B v es := by
  obtain ⟨cs, ho, hc⟩ := h.row
  refine ⟨h.szs, cs, ho.kept hg ?_, fun k hk => (hc k hk).step hg (fun r e => .inl (hrow r e)) (fun g e => .inl e)⟩
  cases hv : v.ownBlock with
  | none => exact .inl rfl
  | some g => exact .inr fun e => by have := hrow g e.symm; have := (ho.lt g hv).1; omega
theorem Bld.under {E : TypeId} {sz : Nat} {w w' : World} {B : Nat} {v : Value} {es : List (List Dt)} (h : Bld E sz w B v es) (hb : Below w.heap.size w w') : Bld E sz w' B v es := h.step (below_grown hb) fun _ e => by cases e
theorem Bld.lt {E : TypeId} {sz : Nat} {w : World} {B : Nat} {v : Value} {es : List (List Dt)} (h : Bld E sz w B v es) : ∀ g, v.ownBlock = some g → B ≤ g ∧ g < w.heap.size := by
  obtain ⟨cs, ho, _⟩ := h.row; exact ho.lt
theorem Bld.slice {E : TypeId} {sz : Nat} {w : World} {B : Nat} {v : Value} {es : List (List Dt)} (h : Bld E sz w B v es) : ∃ a cap, v = .slice a es.length cap ∧ es.length ≤ maxLen := by
  obtain ⟨cs, ho, _⟩ := h.row
  rcases ho.2 with ⟨rfl, h0⟩ | ⟨g, cap, cur, rfl, hb, hg, hn, hm, hs, ht⟩
  · exact ⟨none, 0, by rw [h0], by rw [h0]; simp⟩
  · exact ⟨_, cap, rfl, by omega⟩

/-- 'append(s, x)', x an element of a struct type. -/
theorem wpList_push_row {P : Program} {T E : TypeId} {z0 : Value} {sz bytes : Nat} (hsl : P.underlying T = some (.slice E)) (hinf : (P.info? E).map (fun i => (i.zero, i.size, i.bytes)) = some (some z0, sz, bytes)) (hz0 : z0.cells.size = sz) (hpos : 0 < sz) (hby : bytes ≤ 1000)
    {w : World} {ops : Array Oper} {rest : List Oper} {o : Oper} {a : Act} {Q : Exit → Act → World → Prop} (hgd : o.guard = none) (s x : Operand) (ho : o.op = .call { callee := .builtin .append, args := #[s, x], argTypes := #[T, T] }) (B : Nat) (v : Value) (es : List (List Dt)) (e : List Dt)
    (vals : List Value) (cells : Array Value) (hcells : cells = vals.toArray) (hvl : vals.length = sz) (h1c : ∀ u ∈ vals, u.oneCell' = true) (hs : a.eval s = v) (hb : Bld E sz w B v es) (he : e.length = sz) (hr : CellsRd w B v.ownBlock vals e) (hlen : es.length ≤ 1048576)
    (hx : a.eval x = .slice (some ⟨w.heap.size, 0, none⟩) 1 1) (hB : B ≤ w.heap.size)
    (h : ∀ v' w', Bld E sz w' B v' (es ++ [e]) → w.grownBy w' v.ownBlock → (∀ g, v'.ownBlock = some g → v.ownBlock = some g ∨ w.heap.size ≤ g) → wpList P ops Q rest (a.put o.dst v') w') : wpList P ops Q (o :: rest) a (w.alloc (.cells cells E)) := by
  subst hcells
  refine wpList_want (by unfold Region.wanted; rw [hgd]) fun K hK => ?_
  obtain ⟨i, hi, hz, hsz, hbb⟩ := info_parts hinf
  obtain ⟨cs, hown, hc⟩ := hb.row
  have hcl : cs.length = es.length * sz := hown.1
  obtain ⟨v', w', hrun, h1, h2, _, h4⟩ := run_append_own_at (P := P) (w.alloc (.cells vals.toArray E)) B T o.type E i z0 sz bytes hsl hi hz hsz hbb hz0 hpos v es.length _ (World.ownsRow.alloc hown _) ⟨w.heap.size, 0, none⟩ 1 1 vals (by rw [hvl]; simp)
    (fun j u hu => by
      rw [addr_add, World.cell?_alloc_at _ _ _ _ rfl]; simpa using hu) h1c (by unfold maxLen; omega) (by
      have := Nat.mul_le_mul (show es.length + 1 ≤ 1048577 by omega) hby; omega) (by simp; omega)
  unfold Oper.wp execOp
  simp only [ho, resolve, invoke, builtin, Sem.run_bind, Sem.run_pure, Result.andThen_ok, List.map_toArray, List.map_cons, List.map_nil, hs, hx, hrun]
  have hg : w.grownBy w' v.ownBlock := grownBy_trans (World.grownBy_alloc _ _ _) h2
  have hloc : ∀ g, v'.ownBlock = some g → v.ownBlock = some g ∨ w.heap.size ≤ g := fun g e => by
    rcases h4 with h4 | h4
    · exact .inl (by rw [← h4]; exact e)
    · rw [h4] at e; cases e; exact .inr (by simp)
  refine hK _ _ (h v' w' ⟨?_, cs ++ vals, by rw [List.length_append]; exact h1, fun k hk => ?_⟩ hg hloc)
  · intro d hd
    rcases List.mem_append.1 hd with hd | hd
    · exact hb.szs d hd
    · simp at hd; subst hd; exact he
  · by_cases hke : k < es.length
    · have hkk : (es ++ [e])[k] = es[k] := List.getElem_append_left hke
      rw [hkk]
      have hcr := (hc k hke).step (blk' := v'.ownBlock) hg (fun r e => .inr e) hloc
      intro j hj
      obtain ⟨c, fp, hcc, hrest⟩ := hcr j hj
      refine ⟨c, fp, ?_, hrest⟩
      rw [List.getElem?_drop] at hcc ⊢
      have hjs : j < sz := by rw [← hb.szs _ (List.getElem_mem hke)]; exact hj
      have : k * sz + j < cs.length := by
        rw [hcl]
        have := Nat.mul_le_mul_right sz (show k + 1 ≤ es.length by omega)
        rw [Nat.add_mul] at this; omega
      rw [List.getElem?_append_left this]; exact hcc
    · have hkl : k = es.length := by simp at hk; omega
      subst hkl
      have hkk : (es ++ [e])[es.length] = e := by simp
      rw [hkk]
      have : (cs ++ vals).drop (es.length * sz) = vals := by rw [← hcl]; simp
      rw [this]
      exact hr.step hg (fun r e => .inr e) hloc
/-- What has been built reads as its data. -/
theorem Bld.rd {E : TypeId} {sz : Nat} {w : World} {B : Nat} {v : Value} {es : List (List Dt)} (h : Bld E sz w B v es) : ∃ fp, Rd w (.l es) v fp ∧ ∀ r ∈ fp, B ≤ r := by
  obtain ⟨cs, ho, hc⟩ := h.row
  rcases Nat.eq_zero_or_pos es.length with h0 | h0
  · have : es = [] := List.eq_nil_of_length_eq_zero h0
    subst this
    rcases ho.2 with ⟨rfl, _⟩ | ⟨g, cap, cur, rfl, _, _, _, _⟩
    · exact ⟨[], .nil _ _ (fun _ => rfl), by simp⟩
    · exact ⟨[], .nil _ _ (fun e => by cases e), by simp⟩
  · rcases ho.2 with ⟨rfl, hz⟩ | ⟨g, cap, cur, rfl, hb, hg, hn, hm, hs, ht⟩
    · omega
    · have hgl := (ho.lt g rfl)
      have hjs : ∀ k (hk : k < es.length) j, j < sz → j < (es[k]).length := fun k hk j hj => by rw [h.szs _ (List.getElem_mem hk)]; exact hj
      have hex : ∀ k j, ∃ (p : Value × List Nat), ∀ (hk : k < es.length) (hj : j < (es[k]).length), (cs.drop (k * sz))[j]? = some p.1 ∧ Rd w (es[k][j]) p.1 p.2 ∧ ∀ r ∈ p.2, B ≤ r := by
        intro k j
        by_cases hk : k < es.length
        · by_cases hj : j < (es[k]).length
          · obtain ⟨c, fp, hcc, hr, hf⟩ := hc k hk j hj
            exact ⟨(c, fp), fun _ _ => ⟨hcc, hr, fun r hr => (hf r hr).1⟩⟩
          · exact ⟨(undef, []), fun _ h => absurd h hj⟩
        · exact ⟨(undef, []), fun h => absurd h hk⟩
      obtain ⟨F, hF⟩ : ∃ F : Nat → Nat → Value × List Nat, ∀ k j (hk : k < es.length) (hj : j < (es[k]).length), (cs.drop (k * sz))[j]? = some (F k j).1 ∧ Rd w (es[k][j]) (F k j).1 (F k j).2 ∧ ∀ r ∈ (F k j).2, B ≤ r :=
        ⟨fun k j => Classical.choose (hex k j), fun k j => Classical.choose_spec (hex k j)⟩
      refine ⟨_, Rd.l sz es g 0 cap (fun k j => (F k j).1) (fun k j => (F k j).2) h0 h.szs hn hgl.2 (fun k j hk hj => ?_) (fun k j hk hj => (hF k j hk hj).2.1), fun r hr => ?_⟩
      · have h1 := (hF k j hk (hjs k hk j hj)).1
        rw [List.getElem?_drop] at h1
        have h2 := World.ownsRow.cells ho (g := g) rfl (k * sz + j) _ h1
        rw [addr_add] at h2
        rw [Nat.zero_add]; exact h2
      · rcases List.mem_cons.1 hr with rfl | hr
        · exact hgl.1
        · obtain ⟨k, hk, hr⟩ := List.mem_flatMap.1 hr
          obtain ⟨j, hj, hr⟩ := List.mem_flatMap.1 hr
          rw [List.mem_range] at hk hj
          exact (hF k j hk (hjs k hk j hj)).2.2 r hr

end Go.Proofs.Ytkndndcjchlpdaa
