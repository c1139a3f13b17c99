/- Texts that the laws of this folder share, one behind another; no conditions. -/
import Derived.Test.YtadgdjjibmofpaaBu0
import Derived.Deep.RegionHeld3
import Derived.Test.YtadgdjjibmofpaaRows
import Derived.Deep.QuietTactic
import Derived.BigQuiet
import Derived.WalkSpells

/- A region that draws its order, operation by operation: an operation that yields its value in every world that meets S, or is left out by its guard, is taken first; a call is met where it alone may come up. General steps; nothing here speaks of the program. -/
namespace Go.Proofs.Ytadgdjjibmofpaa
open Go.RowKit

section
variable {P : Program} {md : Region.Mode} {l : List Oper} {Q : Exit → Act → World → Prop} {S : World → Prop} {oi : Oper} {rest : List Oper} {fuel : Nat} {listed : Array Bool} {a : Act} {w : World}

theorem drop_at {i : Nat} (hi : l.drop i = oi :: rest) : l.toArray[i]? = some oi := by
  have h : (l.drop i)[0]? = some oi := by rw [hi]; rfl
  rw [List.getElem?_drop] at h
  simpa using h
/-- Take number i first: it is carried out and yields v in every world that meets S. -/
theorem takeH (i : Nat) {v : Value} (hi : l.drop i = oi :: rest) (hs : Region.noSelect l.toArray = true) (hf : Region.free md l.toArray listed i = true) (hr : (Region.ready md l.toArray listed).contains i = true)
    (hQ : ∀ c a w, Q (.panic c) (a.put oi.dst v) w → Q (.panic c) a w) (hS : S w) (hw : Region.wanted oi (yielded l.toArray a.tmps) = true)
    (hy : ∀ w, S w → (execOp a.eval oi).run P w = .ok (.value v) w)
    (h : wpAnyH P md l.toArray Q S fuel (listed.setIfInBounds i true) (a.put oi.dst v) w) : wpAnyH P md l.toArray Q S (fuel + 1) listed a w :=
  wpAnyH_take (drop_at hi) hs hf hr hQ (.inl ⟨hw, hy⟩) hS h
/-- Number i is left out by its guard. -/
theorem skipH (i : Nat) (hi : l.drop i = oi :: rest) (hs : Region.noSelect l.toArray = true) (hf : Region.free md l.toArray listed i = true) (hr : (Region.ready md l.toArray listed).contains i = true)
    (hQ : ∀ c a w, Q (.panic c) (a.put oi.dst undef) w → Q (.panic c) a w) (hS : S w) (hw : Region.wanted oi (yielded l.toArray a.tmps) = false)
    (h : wpAnyH P md l.toArray Q S fuel (listed.setIfInBounds i true) (a.put oi.dst undef) w) : wpAnyH P md l.toArray Q S (fuel + 1) listed a w :=
  wpAnyH_take (drop_at hi) hs hf hr hQ (.inr ⟨hw, rfl⟩) hS h
/-- Number i alone may come up: it is carried out, and S is shown behind it. -/
theorem callH (i : Nat) (hi : l.drop i = oi :: rest) (hr : Region.ready md l.toArray listed = [i]) (hw : Region.wanted oi (yielded l.toArray a.tmps) = true)
    (h : ∀ K' : Act → World → Prop, Shut (∀ a w, S w → (S w → wpAnyH P md l.toArray Q S fuel (listed.setIfInBounds i true) a w) → K' a w) → Oper.wp P oi a w K' Q) : wpAnyH P md l.toArray Q S (fuel + 1) listed a w :=
  wpAnyH_ready hr (by simp) (AllReadyH.cons (drop_at hi) (fun K' hK => by rw [if_pos hw]; exact h K' hK) AllReadyH.nil)
/-- Either of two may come up next. -/
theorem twoH {oj : Oper} {rest2 : List Oper} (i j : Nat) (hi : l.drop i = oi :: rest) (hj : l.drop j = oj :: rest2) (hr : Region.ready md l.toArray listed = [i, j]) (hw : Region.wanted oi (yielded l.toArray a.tmps) = true) (hw' : Region.wanted oj (yielded l.toArray a.tmps) = true)
    (h : ∀ K' : Act → World → Prop, Shut (∀ a w, S w → (S w → wpAnyH P md l.toArray Q S fuel (listed.setIfInBounds i true) a w) → K' a w) → Oper.wp P oi a w K' Q)
    (h' : ∀ K' : Act → World → Prop, Shut (∀ a w, S w → (S w → wpAnyH P md l.toArray Q S fuel (listed.setIfInBounds j true) a w) → K' a w) → Oper.wp P oj a w K' Q) : wpAnyH P md l.toArray Q S (fuel + 1) listed a w :=
  wpAnyH_ready hr (by simp) (AllReadyH.cons (drop_at hi) (fun K' hK => by rw [if_pos hw]; exact h K' hK) (AllReadyH.cons (drop_at hj) (fun K' hK => by rw [if_pos hw']; exact h' K' hK) AllReadyH.nil))
end

end Go.Proofs.Ytadgdjjibmofpaa

/- A region that draws its order, operation by operation, where the condition on the world is kept up to a last operation alone (a store into what was loaded): general steps, nothing here speaks of the program. -/
namespace Go.Proofs.Ytadgdjjibmofpaa
open Go.RowKit

/-- Whatever order is picked from here on; S holds behind every operation until number m has come up. -/
def wpAnyL (P : Program) (md : Region.Mode) (ops : Array Oper) (Q : Exit → Act → World → Prop) (m : Nat) (S : World → Prop) : Nat → Array Bool → Act → World → Prop
  | 0, listed, a, w => Region.ready md ops listed = [] ∧ Q .normal a w
  | fuel + 1, listed, a, w =>
    (Region.ready md ops listed = [] → Q .normal a w) ∧
    ∀ i ∈ Region.ready md ops listed, wpOp P ops Q i (fun a' w' => ((listed.setIfInBounds i true).getD m true = false → S w') ∧ wpAnyL P md ops Q m S fuel (listed.setIfInBounds i true) a' w') a w

section
variable {P : Program} {md : Region.Mode} {ops : Array Oper} {Q : Exit → Act → World → Prop} {S : World → Prop} {m : Nat}

theorem any_of_L : ∀ (fuel : Nat) (listed : Array Bool) (a : Act) (w : World), wpAnyL P md ops Q m S fuel listed a w → wpAny P md ops Q fuel listed a w
  | 0, _, _, _, h => h
  | fuel + 1, _, _, _, h => ⟨h.1, fun i hi => wpOp_mono (fun a' w' h' => any_of_L fuel _ a' w' h'.2) (h.2 i hi)⟩

/-- Of two that may come up, neither waits for the other. -/
theorem ready_pair {listed : Array Bool} {i j : Nat} (hi : i ∈ Region.ready md ops listed) (hj : j ∈ Region.ready md ops listed) :
    listed.getD j true = false ∧ ∃ o, ops[j]? = some o ∧ ∀ e ∈ o.after, Region.binds md e = true → e.on ≠ i := by
  obtain ⟨hun, o, ho, hall⟩ := mem_ready.1 hj
  refine ⟨hun, o, ho, fun e he hb heq => ?_⟩
  have h1 := hall e he hb
  have h0 := (mem_ready.1 hi).1
  rw [heq] at h1
  by_cases hlt : i < listed.size <;> simp [hlt] at h0 h1
  rw [h0] at h1; cases h1
/-- Number m waits for number i. -/
def waits (md : Region.Mode) (ops : Array Oper) (m i : Nat) : Bool := (ops[m]?.map fun o => o.after.any fun e => Region.binds md e && e.on == i).getD false
theorem waits_not {listed : Array Bool} {i : Nat} (hw : waits md ops m i = true) (hi : i ∈ Region.ready md ops listed) : m ∉ Region.ready md ops listed := by
  intro hm
  obtain ⟨_, o, ho, hno⟩ := ready_pair hi hm
  unfold waits at hw
  rw [ho, Option.map_some, Option.getD_some, Array.any_eq_true'] at hw
  obtain ⟨e, he, hb⟩ := hw
  rw [Bool.and_eq_true, beq_iff_eq] at hb
  exact hno e he hb.1 hb.2

/-- Whoever may come up ahead of number i leaves its temporaries alone. -/
def FreeAt (md : Region.Mode) (ops : Array Oper) (oi : Oper) (i : Nat) (listed : Array Bool) : Prop :=
  ∀ j oj, ops[j]? = some oj → j ≠ i → listed.getD j true = false → (∀ e ∈ oj.after, Region.binds md e = true → e.on ≠ i) → oi.apart ops oj = true
theorem FreeAt.set {oi : Oper} {i j : Nat} {listed : Array Bool} (h : FreeAt md ops oi i listed) (hj : listed.getD j true = false) : FreeAt md ops oi i (listed.setIfInBounds j true) := by
  intro k ok hk hki hun hno
  refine h k ok hk hki ?_ hno
  rcases Nat.decEq j k with hjk | hjk
  · rwa [getD_set_ne true hjk] at hun
  · exact hjk ▸ hj
theorem firstL {i : Nat} {oi : Oper} {v : Value} (hi : ops[i]? = some oi) (hsel : ∀ (j : Nat) (o : Oper) cs b, ops[j]? = some o → o.op ≠ .select cs b)
    (hQ : ∀ c a w, Q (.panic c) (a.put oi.dst v) w → Q (.panic c) a w) (hw : waits md ops m i = true) (fuel : Nat) :
    ∀ (listed : Array Bool) (a : Act) (w : World), FreeAt md ops oi i listed → listed.getD m true = false → i ∈ Region.ready md ops listed → YieldsIf P ops S oi v a → S w →
      wpAnyL P md ops Q m S fuel (listed.setIfInBounds i true) (a.put oi.dst v) w → wpAnyL P md ops Q m S (fuel + 1) listed a w := by
  have im : ∀ {listed}, i ∈ Region.ready md ops listed → i ≠ m := fun hr e => waits_not hw hr (e ▸ hr)
  induction fuel with
  | zero =>
    intro listed a w _ _ hr hy hS H
    refine ⟨fun h => absurd hr (by rw [h]; simp), fun j hj => ?_⟩
    rcases Nat.decEq j i with hji | rfl
    · exact absurd (ready_mono hj hji) (by rw [H.1]; simp)
    · exact hy.wpOp hi hS ⟨fun _ => hS, H⟩
  | succ fuel ih =>
    intro listed a w hfree hmf hr hy hS H
    refine ⟨fun h => absurd hr (by rw [h]; simp), fun j hj => ?_⟩
    rcases Nat.decEq j i with hji | rfl
    · have hjm : j ≠ m := fun e => waits_not hw hr (e ▸ hj)
      obtain ⟨hjun, oj, hoj, hno⟩ := ready_pair hr hj
      refine wpOp_mono (fun a' w' h3 => ?_) (wpOp_putIf hoj (hfree j oj hoj hji hjun hno) (fun cs b => hsel i oi cs b hi) (fun cs b => hsel j oj cs b hoj) hQ hy (H.2 j (ready_mono hj hji)))
      have hS' : S w' := h3.2.1 (by rw [getD_set_ne true hjm, getD_set_ne true (im hr)]; exact hmf)
      exact ⟨fun _ => hS', ih _ a' w' (hfree.set hjun) (by rw [getD_set_ne true hjm]; exact hmf) (ready_mono hr (Ne.symm hji)) h3.1 hS' (by rw [Array.setIfInBounds_comm _ _ hji]; exact h3.2.2)⟩
    · exact hy.wpOp hi hS ⟨fun _ => hS, H⟩
end

section
variable {P : Program} {md : Region.Mode} {l : List Oper} {Q : Exit → Act → World → Prop} {S : World → Prop} {oi : Oper} {rest : List Oper} {fuel m : Nat} {listed : Array Bool} {a : Act} {w : World}

/-- Take number i first: it is carried out and yields v in every world that meets S. -/
theorem takeL (i : Nat) {v : Value} (hi : l.drop i = oi :: rest) (hs : Region.noSelect l.toArray = true) (hf : Region.free md l.toArray listed i = true) (hr : (Region.ready md l.toArray listed).contains i = true) (hm : waits md l.toArray m i = true) (hm' : listed.getD m true = false)
    (hQ : ∀ c a w, Q (.panic c) (a.put oi.dst v) w → Q (.panic c) a w) (hS : S w) (hw : Region.wanted oi (yielded l.toArray a.tmps) = true)
    (hy : ∀ w, S w → (execOp a.eval oi).run P w = .ok (.value v) w)
    (h : wpAnyL P md l.toArray Q m S fuel (listed.setIfInBounds i true) (a.put oi.dst v) w) : wpAnyL P md l.toArray Q m S (fuel + 1) listed a w :=
  firstL (drop_at hi) (Region.noSelect_spec hs) hQ hm fuel listed a w (Region.free_spec (drop_at hi) hf) hm' (by simpa using hr) (.inl ⟨hw, hy⟩) hS h
/-- Number i is left out by its guard. -/
theorem skipL (i : Nat) (hi : l.drop i = oi :: rest) (hs : Region.noSelect l.toArray = true) (hf : Region.free md l.toArray listed i = true) (hr : (Region.ready md l.toArray listed).contains i = true) (hm : waits md l.toArray m i = true) (hm' : listed.getD m true = false)
    (hQ : ∀ c a w, Q (.panic c) (a.put oi.dst undef) w → Q (.panic c) a w) (hS : S w) (hw : Region.wanted oi (yielded l.toArray a.tmps) = false)
    (h : wpAnyL P md l.toArray Q m S fuel (listed.setIfInBounds i true) (a.put oi.dst undef) w) : wpAnyL P md l.toArray Q m S (fuel + 1) listed a w :=
  firstL (drop_at hi) (Region.noSelect_spec hs) hQ hm fuel listed a w (Region.free_spec (drop_at hi) hf) hm' (by simpa using hr) (.inr ⟨hw, rfl⟩) hS h
/-- Number i alone may come up, and is not the last: it is carried out, and S is shown behind it. -/
theorem callL (i : Nat) (hi : l.drop i = oi :: rest) (hr : Region.ready md l.toArray listed = [i]) (hw : Region.wanted oi (yielded l.toArray a.tmps) = true)
    (h : ∀ K' : Act → World → Prop, Shut (∀ a w, S w → (S w → wpAnyL P md l.toArray Q m S fuel (listed.setIfInBounds i true) a w) → K' a w) → Oper.wp P oi a w K' Q) : wpAnyL P md l.toArray Q m S (fuel + 1) listed a w := by
  refine ⟨fun h0 => absurd (hr ▸ h0) (by simp), fun j hj => ?_⟩
  rw [hr] at hj
  have : j = i := by simpa using hj
  subst this
  exact wpOp_step (drop_at hi) fun K' hK => by rw [if_pos hw]; exact h K' fun a w hS hW => hK a w ⟨fun _ => hS, hW hS⟩
/-- The last one. -/
theorem lastL (hi : l.drop m = oi :: rest) (hr : Region.ready md l.toArray listed = [m]) (hend : Region.ready md l.toArray (listed.setIfInBounds m true) = []) (hm : (listed.setIfInBounds m true).getD m true = true) (hw : Region.wanted oi (yielded l.toArray a.tmps) = true)
    (h : ∀ K' : Act → World → Prop, Shut (∀ a w, Q .normal a w → K' a w) → Oper.wp P oi a w K' Q) : wpAnyL P md l.toArray Q m S (fuel + 1) listed a w := by
  refine ⟨fun h0 => absurd (hr ▸ h0) (by simp), fun j hj => ?_⟩
  rw [hr] at hj
  have : j = m := by simpa using hj
  subst this
  refine wpOp_step (drop_at hi) fun K' hK => by
    rw [if_pos hw]
    refine h K' fun a w hq => hK a w ⟨fun e => absurd (hm.symm.trans e) (by simp), ?_⟩
    cases fuel with
    | zero => exact ⟨hend, hq⟩
    | succ f => exact ⟨fun _ => hq, by rw [hend]; simp⟩
theorem wp_region_L (m : Nat) (S : World → Prop) {id : Nat} {ops : Array Oper} {a : Act} {w : World} (hm : P.follows .mixedOrders = true) (hS : S w.drew)
    (h : S w.drew → wpAnyL P .any ops Q m S ops.size (Array.replicate ops.size false) a w.drew) : (Code.region id ops true).wp P Q a w :=
  wp_region_any hm (any_of_L _ _ _ _ (h hS))
end

end Go.Proofs.Ytadgdjjibmofpaa

/- A region that draws its order and keeps a condition up to its last operation: either of two operations may come up next. A general step; nothing here speaks of the program. -/
namespace Go.Proofs.Ytadgdjjibmofpaa
open Go.RowKit
section
variable {P : Program} {md : Region.Mode} {l : List Oper} {Q : Exit → Act → World → Prop} {S : World → Prop} {oi oj : Oper} {rest rest' : List Oper} {fuel m : Nat} {listed : Array Bool} {a : Act} {w : World}
/-- Number i or number j may come up, neither is the last. -/
theorem twoL (i j : Nat) (hi : l.drop i = oi :: rest) (hj : l.drop j = oj :: rest') (hr : Region.ready md l.toArray listed = [i, j]) (hw : Region.wanted oi (yielded l.toArray a.tmps) = true) (hw' : Region.wanted oj (yielded l.toArray a.tmps) = true)
    (h : ∀ K' : Act → World → Prop, Shut (∀ a w, S w → (S w → wpAnyL P md l.toArray Q m S fuel (listed.setIfInBounds i true) a w) → K' a w) → Oper.wp P oi a w K' Q)
    (h' : ∀ K' : Act → World → Prop, Shut (∀ a w, S w → (S w → wpAnyL P md l.toArray Q m S fuel (listed.setIfInBounds j true) a w) → K' a w) → Oper.wp P oj a w K' Q) : wpAnyL P md l.toArray Q m S (fuel + 1) listed a w := by
  refine ⟨fun h0 => absurd (hr ▸ h0) (by simp), fun k hk => ?_⟩
  rw [hr] at hk
  have hk' : k = i ∨ k = j := by simpa using hk
  rcases hk' with e | e
  · subst e
    exact wpOp_step (drop_at hi) fun K' hK => by rw [if_pos hw]; exact h K' fun a w hS hW => hK a w ⟨fun _ => hS, hW hS⟩
  · subst e
    exact wpOp_step (drop_at hj) fun K' hK => by rw [if_pos hw']; exact h' K' fun a w hS hW => hK a w ⟨fun _ => hS, hW hS⟩
end
end Go.Proofs.Ytadgdjjibmofpaa

/- The draw of a ledger (its balances in memory of the call's own), by a walk of its text; condition: at most 2^19 picks. -/
namespace Go.Proofs.Ytadgdjjibmofpaa
open Go.RowKit

theorem lit5L (t x y : Int) {k : Nat} (h : k < 5) : ∃ z : Int, (#[.int .i64 0, .int .i64 50, .int .i64 x, .int .i64 y, .int .i64 t] : Array Value)[k]? = some (.int .i64 z) := by
  match k, h with
  | 0, _ => exact ⟨_, rfl⟩
  | 1, _ => exact ⟨_, rfl⟩
  | 2, _ => exact ⟨_, rfl⟩
  | 3, _ => exact ⟨_, rfl⟩
  | 4, _ => exact ⟨_, rfl⟩
theorem lit3L {k : Nat} (h : k < 3) : ∃ z : Int, (#[.int .i64 (-1), .int .i64 999, .int .i64 1000] : Array Value)[k]? = some (.int .i64 z) := by
  match k, h with
  | 0, _ => exact ⟨_, rfl⟩
  | 1, _ => exact ⟨_, rfl⟩
  | 2, _ => exact ⟨_, rfl⟩
theorem lit7L {k : Nat} (h : k < 7) : ∃ z : Int, (#[.int .i64 (-1), .int .i64 5850, .int .i64 5851, .int .i64 5985, .int .i64 5986, .int .i64 5994, .int .i64 5995] : Array Value)[k]? = some (.int .i64 z) := by
  match k, h with
  | 0, _ => exact ⟨_, rfl⟩
  | 1, _ => exact ⟨_, rfl⟩
  | 2, _ => exact ⟨_, rfl⟩
  | 3, _ => exact ⟨_, rfl⟩
  | 4, _ => exact ⟨_, rfl⟩
  | 5, _ => exact ⟨_, rfl⟩
  | 6, _ => exact ⟨_, rfl⟩

/-- While a ledger is drawn: X its variable, u its list's slice, R the reader. -/
structure Lst (TL E : TypeId) (R : Nat) (w : World) (X : Nat) (n : Int) (p : Nat) (W : World) (u : Value) (l : List Int) : Prop where
  sx : Str W X TL #[u, .int .i64 n]
  own : Own E W w.heap.size u l
  nx : ∀ b, u.ownBlock = some b → b ≠ X ∧ b ≠ w.heap.size
  sr : Str W w.heap.size TL #[.slice none 0 0, .int .i64 0]
  rd : Rdr W R p
  gr : w.grownBy W (some R)
  hR : R < w.heap.size
  hX : w.heap.size < X
section
variable {TL E : TypeId} {R : Nat} {w : World} {X : Nat} {n : Int} {p : Nat} {W : World} {u : Value} {l : List Int}
theorem Lst.picked (h : Lst TL E R w X n p W u l) {w2 : World} {p2 : Nat} (hg : W.grownBy w2 (some R)) (hr : Rdr w2 R p2) : Lst TL E R w X n p2 w2 u l := by
  have h1 := h.hR; have h2 := h.hX
  exact ⟨h.sx.kept hg (by simp; omega), h.own.kept hg (.inr (fun e => by have := (h.own.lt R e).1; omega)), h.nx, h.sr.kept hg (by simp; omega), hr, grownBy_trans h.gr hg, h1, h2⟩
theorem Lst.drew (h : Lst TL E R w X n p W u l) : Lst TL E R w X n p W.drew u l := ⟨h.sx, h.own.drewN 1, h.nx, h.sr, h.rd.drewN 1, grownBy_trans h.gr ⟨rfl, rfl, rfl, Nat.le_refl _, fun _ _ _ => rfl⟩, h.hR, h.hX⟩
theorem Lst.below (h : Lst TL E R w X n p W u l) {w2 : World} (hb : Below W.heap.size W w2) : Lst TL E R w X n p w2 u l :=
  ⟨(hb.block _ h.sx.lt).trans h.sx, h.own.below hb, h.nx, (hb.block _ h.sr.lt).trans h.sr, h.rd.kept (below_grown hb) (by simp), grown_row h.gr (below_grown hb) (by simp), h.hR, h.hX⟩
theorem Lst.put (h : Lst TL E R w X n p W u l) {w2 : World} {u2 : Value} {l2 : List Int} (ho : Own E w2 w.heap.size u2 l2) (hg : W.grownBy w2 u.ownBlock) (hat : u2.ownBlock = u.ownBlock ∨ ∃ b, u2.ownBlock = some b ∧ W.heap.size ≤ b) :
    Lst TL E R w X n p (w2.setCell ⟨X, 0, none⟩ u2) u2 l2 ∧ Str w2 X TL #[u, .int .i64 n] := by
  have h1 := h.hR; have h2 := h.hX; have h3 := h.sx.lt; have h4 := h.sr.lt
  have hn : ∀ b, u2.ownBlock = some b → b ≠ X ∧ b ≠ w.heap.size := fun b e => by
    rcases hat with h' | ⟨b', h', h''⟩
    · exact h.nx b (by rw [← h', e])
    · rw [e] at h'; cases h'; omega
  have hsx : Str w2 X TL #[u, .int .i64 n] := h.sx.kept hg (fun e => (h.nx X e.symm).1 rfl)
  have hsr : Str w2 w.heap.size TL #[.slice none 0 0, .int .i64 0] := h.sr.kept hg (fun e => (h.nx _ e.symm).2 rfl)
  exact ⟨⟨hsx.set 0 u2, ho.set_other (fun e => (hn X e).1 rfl) _ _, hn, hsr.other (by omega) _ _, (h.rd.kept hg (fun b e => by have := (h.own.lt b e).1; omega)).kept (grownBy_set w2 X 0 u2) (fun b e => by cases e; omega),
    grown_set (grown_row h.gr hg (fun b e => (h.own.lt b e).1)) (by omega) 0 u2, h1, h2⟩, hsx⟩
theorem Lst.fees (h : Lst TL E R w X n p W u l) (z : Int) : Lst TL E R w X z p (W.setCell ⟨X, 1, none⟩ (.int .i64 z)) u l := by
  have h1 := h.hR; have h2 := h.hX
  exact ⟨h.sx.set 1 _, h.own.set_other (fun e => (h.nx X e).1 rfl) _ _, h.nx, h.sr.other (by omega) _ _, h.rd.kept (grownBy_set _ X 1 _) (fun b e => by cases e; omega), grown_set h.gr (by omega) 1 _, h1, h2⟩
theorem Lst.setb {g c m : Nat} (h : Lst TL E R w X n p W (.slice (some ⟨g, 0, none⟩) m c) l) (hm : m = l.length) (k : Nat) (z : Int) : Lst TL E R w X n p (W.setCell ⟨g, k, none⟩ (.int .i64 z)) (.slice (some ⟨g, 0, none⟩) m c) (l.set k z) := by
  have h1 := h.hR; have h2 := h.hX
  have h3 := h.nx g rfl
  have h4 := (h.own.lt g rfl).1
  exact ⟨h.sx.other (fun e => h3.1 e.symm) _ _, (h.own.store hm k z).1, h.nx, h.sr.other (fun e => h3.2 e.symm) _ _, h.rd.kept (grownBy_set _ g k _) (fun b e => by cases e; omega), grown_set h.gr h4 k _, h1, h2⟩
theorem Lst.cut {g c m : Nat} (h : Lst TL E R w X n p W (.slice (some ⟨g, 0, none⟩) m c) l) (k : Nat) (hk : k ≤ l.length) : Lst TL E R w X n p (W.setCell ⟨X, 0, none⟩ (.slice (some ⟨g, 0, none⟩) k c)) (.slice (some ⟨g, 0, none⟩) k c) (l.take k) := by
  have h1 := h.hR; have h2 := h.hX
  have h3 := h.nx g rfl
  exact ⟨h.sx.set 0 _, (h.own.front k hk).set_other (by simp only [Value.ownBlock, ne_eq, Option.some.injEq]; exact h3.1) _ _, h.nx, h.sr.other (by omega) _ _, h.rd.kept (grownBy_set _ X 0 _) (fun b e => by cases e; omega), grown_set h.gr (by omega) 0 _, h1, h2⟩
/-- What a drawn ledger is. -/
def LgDraw (E : TypeId) (R p : Nat) (w : World) (e : Ending) (w' : World) : Prop := ∃ (l : List Int) (n : Int) (u : Value) (p' : Nat), e = .returned (.agg #[u, .int .i64 n]) ∧ Own E w' w.heap.size u l ∧ (∀ b, u.ownBlock = some b → b ≠ w.heap.size) ∧ l.length ≤ 6 ∧ Rdr w' R p' ∧ p' ≤ p + 50 ∧ w.grownBy w' (some R)
theorem Lst.fin (h : Lst TL E R w X n p W u l) {p0 : Nat} {e : Ending} (he : e = .returned (.agg #[u, .int .i64 n])) (hl : l.length ≤ 6) (hp : p ≤ p0 + 50) : LgDraw E R p0 w e ((W.setCell ⟨w.heap.size, 0, none⟩ u).setCell ⟨w.heap.size, 1, none⟩ (.int .i64 n)) :=
  ⟨l, n, u, p, he, (h.own.set_other (fun e => (h.nx _ e).2 rfl) _ _).set_other (fun e => (h.nx _ e).2 rfl) _ _, fun b e => (h.nx b e).2, hl, (h.rd.kept (grownBy_set _ w.heap.size 0 _) (fun b e => by cases e; exact h.hR)).kept (grownBy_set _ w.heap.size 1 _) (fun b e => by cases e; exact h.hR), hp,
    grown_set (grown_set h.gr (Nat.le_refl _) 0 _) (Nat.le_refl _) 1 _⟩
end

set_option maxHeartbeats 8000000 in
theorem drawLedger (R p : Nat) (w : World) (hp : p ≤ 900000) (hr : Rdr w R p) (hR : R < w.heap.size) : Calls Try.prog 25 #[.pointer (some ⟨R, 0, none⟩)] w (LgDraw 3 R p w) := by
  have hfin : ∀ (X : Nat) (n : Int) (p' : Nat) (W : World) (u : Value) (l : List Int), Lst 25 3 R w X n p' W u l → l.length ≤ 6 → p' ≤ p + 50 → LgDraw 3 R p w (.returned (.agg #[u, .int .i64 n])) ((W.setCell ⟨w.heap.size, 0, none⟩ u).setCell ⟨w.heap.size, 1, none⟩ (.int .i64 n)) := fun X n p' W u l h h1 h2 => h.fin rfl h1 h2
  have Hfin := Lib.hid hfin; clear hfin
  generalize LgDraw 3 R p w = POST at *
  have SR := Lib.hid (Str.new w 25 #[.slice none 0 0, .int .i64 0])
  have Hr := Lib.hid (hr.alloc (.cells #[.slice none 0 0, .int .i64 0] 25)); clear hr
  have Hg := Lib.hid (World.grownBy_alloc w (.cells #[.slice none 0 0, .int .i64 0] 25) (some R))
  have hz0 : (w.alloc (.cells #[.slice none 0 0, .int .i64 0] 25)).heap.size = w.heap.size + 1 := by simp
  go_enter Try.func25, Try.ntmps25
  go_wp2_with fail
  generalize (w.alloc (.cells #[.slice none 0 0, .int .i64 0] 25)) = W0 at *
  have hal : Below W0.heap.size W0 (W0.alloc (.cells #[] 3)) := (Below.refl _ _).alloc (Nat.le_refl _) _
  have ho0 := own_empty 3 W0 (Nat.le_refl _)
  rw [hz0] at ho0
  have hzL : (W0.alloc (.cells #[] 3)).heap.size = W0.heap.size + 1 := by simp
  have SR := Lib.hid (show Str (W0.alloc (.cells #[] 3)) w.heap.size 25 #[.slice none 0 0, .int .i64 0] from SR.out.alloc _)
  have Hr := Lib.hid (Hr.out.alloc (.cells #[] 3))
  have Hg := Lib.hid (grown_row Hg.out (World.grownBy_alloc W0 (.cells #[] 3) none) (by simp))
  have Ho := Lib.hid ho0; clear ho0 hal
  skip
  refine (pick_any R 200 p _ (by omega) Hr.out (by omega)).mono ?_
  rintro e w2 ⟨q, rfl, hq0, hq1, hr', hg'⟩
  have hsw2 := hg'.size
  have HV := Lib.hid (show Lst 25 3 R w w2.heap.size q (p + 1) (w2.alloc (.cells #[(.slice (some ⟨w.heap.size + 1, 0, none⟩) 0 0), .int .i64 q] 25)) (.slice (some ⟨w.heap.size + 1, 0, none⟩) 0 0) [] from ⟨Str.new _ _ _, ((Ho.out.kept hg' (.inr (fun e => by have := (Ho.out.lt R e).1; omega))).alloc _).mono (by omega), (fun b e => (show w.heap.size + 1 = b by simpa [Value.ownBlock] using e) ▸ ⟨by omega, by omega⟩), (SR.out.kept hg' (by simp; omega)).alloc _, hr'.alloc _, grown_row (grownBy_trans Hg.out hg') (World.grownBy_alloc _ _ none) (by simp), hR, by omega⟩)
  have hzE : w2.heap.size < (w2.alloc (.cells #[(.slice (some ⟨w.heap.size + 1, 0, none⟩) 0 0), .int .i64 q] 25)).heap.size := by simp
  clear hr' hg' SR Hr Hg Ho
  go_wp2
  generalize (w2.alloc (.cells #[(.slice (some ⟨w.heap.size + 1, 0, none⟩) 0 0), .int .i64 q] 25)) = W3 at *
  obtain ⟨X, hX⟩ : ∃ X, X = w2.heap.size := ⟨_, rfl⟩
  rw [← hX] at HV
  rw [← hX]
  have hwX : w.heap.size < X := by omega
  clear hX
  skip
  skip
  have hex : ([] : List Int).length = 0 := rfl
  generalize ([] : List Int) = l0 at *
  go_loopw [4] (fun i wr => ∃ (k p' : Nat) (u : Value) (l : List Int), k ≤ 6 ∧ i = .int .i64 k ∧ p' ≤ p + 1 + 4 * k ∧ l.length = k ∧ Lst 25 3 R w X q p' wr u l) (fun i _ => 6 - (intOf i).toNat)
  case atStart => exact ⟨0, p + 1, _, l0, by omega, rfl, by omega, hex, HV.out⟩
  case round =>
    clear HV hex
    obtain ⟨k, p', u, l, hk, rfl, hpk, hlk, hv⟩ := hrel
    obtain ⟨au, cu, rfl, _, _⟩ := hv.own.ints
    have HV := Lib.hid hv; clear hv
    have Hlk := Lib.hid hlk; clear hlk
    have hsz := HV.out.sr.lt
    have hRw := HV.out.hR
    by_cases hlt : k < 6
    case pos =>
      have hlt' : (k : Int) < 6 := by omega
      have x0 := HV.out.sx.cell 0 (v := .slice au l.length cu) rfl
      go_wp2_with fail
      clear x0
      refine wp_region_L 17 (fun w' => w'.cell? ⟨X, 0, none⟩ = some (.slice au l.length cu)) (by kernel_rfl) (HV.out.drew.sx.cell 0 rfl) (fun hH => ?_)
      have HV := Lib.hid HV.out.drew
      generalize wr.drew = wd at *
      have hsd := HV.out.sr.lt
      refine takeL 0 (v := ?vd1) rfl (by kernel_rfl) (by kernel_rfl) (by kernel_rfl) (by kernel_rfl) (by kernel_rfl) (fun _ _ _ h => h) hH rfl ?yd1 ?rd1
      case yd1 => intro W hSw; go_simp; try with_reducible rfl
      try simp only [Act.put, List.setIfInBounds_toArray, List.set_cons_zero, List.set_cons_succ]
      refine takeL 1 (v := ?vd2) rfl (by kernel_rfl) (by kernel_rfl) (by kernel_rfl) (by kernel_rfl) (by kernel_rfl) (fun _ _ _ h => h) hH rfl ?yd2 ?rd2
      case yd2 => intro W hSw; go_simp; try with_reducible rfl
      try simp only [Act.put, List.setIfInBounds_toArray, List.set_cons_zero, List.set_cons_succ]
      refine takeL 2 (v := ?vd3) rfl (by kernel_rfl) (by kernel_rfl) (by kernel_rfl) (by kernel_rfl) (by kernel_rfl) (fun _ _ _ h => h) hH rfl ?yd3 ?rd3
      case yd3 => intro W hSw; go_simp; try with_reducible rfl
      try simp only [Act.put, List.setIfInBounds_toArray, List.set_cons_zero, List.set_cons_succ]
      refine takeL 4 (v := ?vd4) rfl (by kernel_rfl) (by kernel_rfl) (by kernel_rfl) (by kernel_rfl) (by kernel_rfl) (fun _ _ _ h => h) hH rfl ?yd4 ?rd4
      case yd4 => intro W hSw; go_simp; try with_reducible rfl
      try simp only [Act.put, List.setIfInBounds_toArray, List.set_cons_zero, List.set_cons_succ]
      refine takeL 7 (v := ?vd5) rfl (by kernel_rfl) (by kernel_rfl) (by kernel_rfl) (by kernel_rfl) (by kernel_rfl) (fun _ _ _ h => h) hH rfl ?yd5 ?rd5
      case yd5 => intro W hSw; go_simp; try with_reducible rfl
      try simp only [Act.put, List.setIfInBounds_toArray, List.set_cons_zero, List.set_cons_succ]
      refine takeL 10 (v := ?vd6) rfl (by kernel_rfl) (by kernel_rfl) (by kernel_rfl) (by kernel_rfl) (by kernel_rfl) (fun _ _ _ h => h) hH rfl ?yd6 ?rd6
      case yd6 => intro W hSw; go_simp; try with_reducible rfl
      try simp only [Act.put, List.setIfInBounds_toArray, List.set_cons_zero, List.set_cons_succ]
      refine callL 3 rfl (by kernel_rfl) rfl (fun K hK => ?_)
      go_simp
      refine (pick_any R 250 (p') _ (by omega) HV.out.rd (by omega)).mono ?_
      rintro e wa ⟨x, rfl, hx0, hx1, hr', hg'⟩
      have HV := Lib.hid (HV.out.picked hg' hr')
      have hswa := hg'.size
      clear hr' hg'
      refine hK.out _ _ (HV.out.sx.cell 0 rfl) (fun hH => ?_)
      clear hK K
      try simp only [Act.put, List.setIfInBounds_toArray, List.set_cons_zero, List.set_cons_succ]
      refine callL 5 rfl (by kernel_rfl) rfl (fun K hK => ?_)
      go_simp
      refine (pick_any R 100 (p' + 1) _ (by omega) HV.out.rd (by omega)).mono ?_
      rintro e wb ⟨y, rfl, hy0, hy1, hr', hg'⟩
      have HV := Lib.hid (HV.out.picked hg' hr')
      have hswb := hg'.size
      clear hr' hg'
      refine hK.out _ _ (HV.out.sx.cell 0 rfl) (fun hH => ?_)
      clear hK K
      try simp only [Act.put, List.setIfInBounds_toArray, List.set_cons_zero, List.set_cons_succ]
      have hw9 : IntKind.i64.wrap (900 + y) = 900 + y := IntWalk.i64_in _ (by omega)
      refine takeL 6 (v := .int .i64 (900 + y)) rfl (by kernel_rfl) (by kernel_rfl) (by kernel_rfl) (by kernel_rfl) (by kernel_rfl) (fun _ _ _ h => h) hH rfl ?yd7 ?rd7
      case yd7 => intro W hSw; go_simp; first | done | (simp [hw9])
      try simp only [Act.put, List.setIfInBounds_toArray, List.set_cons_zero, List.set_cons_succ]
      refine callL 8 rfl (by kernel_rfl) rfl (fun K hK => ?_)
      go_simp
      refine (pick_any R 120 (p' + 1 + 1) _ (by omega) HV.out.rd (by omega)).mono ?_
      rintro e wc ⟨z9, rfl, hz90, hz91, hr', hg'⟩
      have HV := Lib.hid (HV.out.picked hg' hr')
      have hswc := hg'.size
      clear hr' hg'
      refine hK.out _ _ (HV.out.sx.cell 0 rfl) (fun hH => ?_)
      clear hK K
      try simp only [Act.put, List.setIfInBounds_toArray, List.set_cons_zero, List.set_cons_succ]
      refine twoL 9 11 rfl rfl (by kernel_rfl) rfl rfl (fun K hK => ?_) (fun K hK => ?_)
      rotate_left
      · skip
        go_simp
        refine (pick_any R 5 (p' + 1 + 1 + 1) _ (by omega) HV.out.rd (by omega)).mono ?_
        rintro e we ⟨v, rfl, hv0, hv1, hr', hg'⟩
        have HV := Lib.hid (HV.out.picked hg' hr')
        have hswe := hg'.size
        clear hr' hg'
        refine hK.out _ _ (HV.out.sx.cell 0 rfl) (fun hH => ?_)
        clear hK K
        try simp only [Act.put, List.setIfInBounds_toArray, List.set_cons_zero, List.set_cons_succ]
        refine callL 9 rfl (by kernel_rfl) rfl (fun K hK => ?_)
        go_simp
        have hal : Below we.heap.size we (we.alloc (.cells #[.int .i64 0, .int .i64 50, .int .i64 x, .int .i64 (900 + y), .int .i64 z9] 3)) := (Below.refl _ _).alloc (Nat.le_refl _) _
        have LS := Lib.hid (Str.new we 3 #[.int .i64 0, .int .i64 50, .int .i64 x, .int .i64 (900 + y), .int .i64 z9])
        have HBR := Lib.hid (show R ≠ we.heap.size by have := HV.out.sr.lt; omega)
        have HV := Lib.hid (HV.out.below hal)
        clear hal
        generalize (we.alloc (.cells #[.int .i64 0, .int .i64 50, .int .i64 x, .int .i64 (900 + y), .int .i64 z9] 3)) = wl at *
        generalize we.heap.size = LB at *
        refine hK.out _ _ (HV.out.sx.cell 0 rfl) (fun hH => ?_)
        clear hK K
        try simp only [Act.put, List.setIfInBounds_toArray, List.set_cons_zero, List.set_cons_succ]
        obtain ⟨m, rfl⟩ : ∃ m : Nat, v = m := ⟨v.toNat, by omega⟩
        have hm5 : m < 5 := by omega
        have hm' : (m : Int) < 5 := by omega
        obtain ⟨z, hz⟩ := lit5L z9 x (900 + y) hm5
        have lz := LS.out.cell m hz
        refine callL 12 rfl (by kernel_rfl) rfl (fun K hK => ?_)
        go_simp
        refine hK.out _ _ (HV.out.sx.cell 0 rfl) (fun hH => ?_)
        clear hK K
        try simp only [Act.put, List.setIfInBounds_toArray, List.set_cons_zero, List.set_cons_succ]
        refine callL 13 rfl (by kernel_rfl) rfl (fun K hK => ?_)
        go_simp
        refine hK.out _ _ (HV.out.sx.cell 0 rfl) (fun hH => ?_)
        clear hK K
        try simp only [Act.put, List.setIfInBounds_toArray, List.set_cons_zero, List.set_cons_succ]
        clear lz hz hm' LS
        refine callL 14 rfl (by kernel_rfl) rfl (fun K hK => ?_)
        go_simp
        have hal : Below wl.heap.size wl (wl.alloc (.cells #[.int .i64 z] 3)) := (Below.refl _ _).alloc (Nat.le_refl _) _
        refine hK.out _ _ ((HV.out.below hal).sx.cell 0 rfl) (fun hH => ?_)
        clear hK K hal
        try simp only [Act.put, List.setIfInBounds_toArray, List.set_cons_zero, List.set_cons_succ]
        refine callL 15 rfl (by kernel_rfl) rfl (fun K hK => ?_)
        refine op_push_at TI' wl _ _ rfl w.heap.size (.slice au l.length cu) l z rfl HV.out.own (by have := Hlk.out; omega) rfl (by have := HV.out.sr.lt; omega) (fun v9 w9 ho9 hg9 hat9 => ?_)
        have Hl9 := Lib.hid (show (l ++ [z]).length = k + 1 by rw [List.length_append, Hlk.out]; rfl)
        generalize l ++ [z] = l9 at *
        obtain ⟨a9, c9, rfl, _, _⟩ := ho9.ints
        obtain ⟨hV9, hsx9⟩ := HV.out.put ho9 hg9 hat9
        have HV9 := Lib.hid hV9; have SX := Lib.hid hsx9
        clear ho9 hg9 hat9 hV9 hsx9 HV
        refine hK.out _ _ (SX.out.cell 0 rfl) (fun hH => ?_)
        clear hK K
        try simp only [Act.put, List.setIfInBounds_toArray, List.set_cons_zero, List.set_cons_succ]
        refine takeL 16 (v := ?vd8) rfl (by kernel_rfl) (by kernel_rfl) (by kernel_rfl) (by kernel_rfl) (by kernel_rfl) (fun _ _ _ h => h) hH rfl ?yd8 ?rd8
        case yd8 => intro W hSw; go_simp; try with_reducible rfl
        try simp only [Act.put, List.setIfInBounds_toArray, List.set_cons_zero, List.set_cons_succ]
        refine lastL rfl (by kernel_rfl) (by kernel_rfl) (by kernel_rfl) rfl (fun K hK => ?_)
        have y0 := SX.out.frozen 0
        have c0 := SX.out.cell 0 (v := .slice au l.length cu) rfl
        go_simp
        clear y0 c0
        refine hK.out _ _ ?_
        clear hK K hH SX
        try simp only [Act.put]
        generalize w9.setCell ⟨X, 0, none⟩ (.slice a9 l9.length c9) = W9 at *
        go_wp2
        go_roundw
        case rel => exact ⟨k + 1, _, _, _, by omega, by go_num, by omega, Hl9.out, HV9.out⟩
        case measure => simp [intOf]; omega
      go_simp
      have hal : Below wc.heap.size wc (wc.alloc (.cells #[.int .i64 0, .int .i64 50, .int .i64 x, .int .i64 (900 + y), .int .i64 z9] 3)) := (Below.refl _ _).alloc (Nat.le_refl _) _
      have LS := Lib.hid (Str.new wc 3 #[.int .i64 0, .int .i64 50, .int .i64 x, .int .i64 (900 + y), .int .i64 z9])
      have HBR := Lib.hid (show R ≠ wc.heap.size by have := HV.out.sr.lt; omega)
      have HV := Lib.hid (HV.out.below hal)
      clear hal
      generalize (wc.alloc (.cells #[.int .i64 0, .int .i64 50, .int .i64 x, .int .i64 (900 + y), .int .i64 z9] 3)) = wl at *
      generalize wc.heap.size = LB at *
      refine hK.out _ _ (HV.out.sx.cell 0 rfl) (fun hH => ?_)
      clear hK K
      try simp only [Act.put, List.setIfInBounds_toArray, List.set_cons_zero, List.set_cons_succ]
      refine callL 11 rfl (by kernel_rfl) rfl (fun K hK => ?_)
      go_simp
      refine (pick_any R 5 (p' + 1 + 1 + 1) _ (by omega) HV.out.rd (by omega)).mono ?_
      rintro e we ⟨v, rfl, hv0, hv1, hr', hg'⟩
      have HV := Lib.hid (HV.out.picked hg' hr')
      have LS := Lib.hid (LS.out.kept hg' (by simp; have := HBR.out; omega))
      have hswe := hg'.size
      clear hr' hg'
      refine hK.out _ _ (HV.out.sx.cell 0 rfl) (fun hH => ?_)
      clear hK K
      try simp only [Act.put, List.setIfInBounds_toArray, List.set_cons_zero, List.set_cons_succ]
      obtain ⟨m, rfl⟩ : ∃ m : Nat, v = m := ⟨v.toNat, by omega⟩
      have hm5 : m < 5 := by omega
      have hm' : (m : Int) < 5 := by omega
      obtain ⟨z, hz⟩ := lit5L z9 x (900 + y) hm5
      have lz := LS.out.cell m hz
      refine callL 12 rfl (by kernel_rfl) rfl (fun K hK => ?_)
      go_simp
      refine hK.out _ _ (HV.out.sx.cell 0 rfl) (fun hH => ?_)
      clear hK K
      try simp only [Act.put, List.setIfInBounds_toArray, List.set_cons_zero, List.set_cons_succ]
      refine callL 13 rfl (by kernel_rfl) rfl (fun K hK => ?_)
      go_simp
      refine hK.out _ _ (HV.out.sx.cell 0 rfl) (fun hH => ?_)
      clear hK K
      try simp only [Act.put, List.setIfInBounds_toArray, List.set_cons_zero, List.set_cons_succ]
      clear lz hz hm' LS
      refine callL 14 rfl (by kernel_rfl) rfl (fun K hK => ?_)
      go_simp
      have hal : Below we.heap.size we (we.alloc (.cells #[.int .i64 z] 3)) := (Below.refl _ _).alloc (Nat.le_refl _) _
      refine hK.out _ _ ((HV.out.below hal).sx.cell 0 rfl) (fun hH => ?_)
      clear hK K hal
      try simp only [Act.put, List.setIfInBounds_toArray, List.set_cons_zero, List.set_cons_succ]
      refine callL 15 rfl (by kernel_rfl) rfl (fun K hK => ?_)
      refine op_push_at TI' we _ _ rfl w.heap.size (.slice au l.length cu) l z rfl HV.out.own (by have := Hlk.out; omega) rfl (by have := HV.out.sr.lt; omega) (fun v9 w9 ho9 hg9 hat9 => ?_)
      have Hl9 := Lib.hid (show (l ++ [z]).length = k + 1 by rw [List.length_append, Hlk.out]; rfl)
      generalize l ++ [z] = l9 at *
      obtain ⟨a9, c9, rfl, _, _⟩ := ho9.ints
      obtain ⟨hV9, hsx9⟩ := HV.out.put ho9 hg9 hat9
      have HV9 := Lib.hid hV9; have SX := Lib.hid hsx9
      clear ho9 hg9 hat9 hV9 hsx9 HV
      refine hK.out _ _ (SX.out.cell 0 rfl) (fun hH => ?_)
      clear hK K
      try simp only [Act.put, List.setIfInBounds_toArray, List.set_cons_zero, List.set_cons_succ]
      refine takeL 16 (v := ?vd9) rfl (by kernel_rfl) (by kernel_rfl) (by kernel_rfl) (by kernel_rfl) (by kernel_rfl) (fun _ _ _ h => h) hH rfl ?yd9 ?rd9
      case yd9 => intro W hSw; go_simp; try with_reducible rfl
      try simp only [Act.put, List.setIfInBounds_toArray, List.set_cons_zero, List.set_cons_succ]
      refine lastL rfl (by kernel_rfl) (by kernel_rfl) (by kernel_rfl) rfl (fun K hK => ?_)
      have y0 := SX.out.frozen 0
      have c0 := SX.out.cell 0 (v := .slice au l.length cu) rfl
      go_simp
      clear y0 c0
      refine hK.out _ _ ?_
      clear hK K hH SX
      try simp only [Act.put]
      generalize w9.setCell ⟨X, 0, none⟩ (.slice a9 l9.length c9) = W9 at *
      go_wp2
      go_roundw
      case rel => exact ⟨k + 1, _, _, _, by omega, by go_num, by omega, Hl9.out, HV9.out⟩
      case measure => simp [intOf]; omega
    case neg =>
      have hlt' : ¬ (k : Int) < 6 := by omega
      have h6 : l.length = 6 := by have := Hlk.out; omega
      have H6 := Lib.hid h6; clear h6 Hlk
      obtain ⟨g, c, hgc, hg1, hg2, hc6, _, _⟩ := HV.out.own.row (by rw [H6.out]; decide)
      simp only [Value.slice.injEq, true_and] at hgc
      obtain ⟨rfl, rfl⟩ := hgc
      have hgx := HV.out.nx g rfl
      go_wp2_with fail
      refine (pick_any R 20 p' _ (by omega) HV.out.rd (by omega)).mono ?_
      rintro e w4 ⟨sw, rfl, hsw0, hsw1, hr', hg'⟩
      have HV := Lib.hid (HV.out.picked hg' hr')
      clear hr' hg'
      by_cases h0 : sw = 0
      case pos =>
        subst h0
        have x0 := HV.out.sx.cell 0 (v := .slice (some ⟨g, 0, none⟩) l.length cu) rfl
        go_wp2_with fail
        clear x0
        refine wp_region_L 10 (fun w' => w'.cell? ⟨X, 0, none⟩ = some (.slice (some ⟨g, 0, none⟩) l.length cu)) (by kernel_rfl) (HV.out.drew.sx.cell 0 rfl) (fun hH => ?_)
        have HV := Lib.hid HV.out.drew
        generalize w4.drew = wd at *
        have hsd := HV.out.sr.lt
        refine takeL 0 (v := ?vd10) rfl (by kernel_rfl) (by kernel_rfl) (by kernel_rfl) (by kernel_rfl) (by kernel_rfl) (fun _ _ _ h => h) hH rfl ?yd10 ?rd10
        case yd10 => intro W hSw; go_simp; try with_reducible rfl
        try simp only [Act.put, List.setIfInBounds_toArray, List.set_cons_zero, List.set_cons_succ]
        refine takeL 1 (v := ?vd11) rfl (by kernel_rfl) (by kernel_rfl) (by kernel_rfl) (by kernel_rfl) (by kernel_rfl) (fun _ _ _ h => h) hH rfl ?yd11 ?rd11
        case yd11 => intro W hSw; go_simp; try with_reducible rfl
        try simp only [Act.put, List.setIfInBounds_toArray, List.set_cons_zero, List.set_cons_succ]
        refine takeL 2 (v := ?vd12) rfl (by kernel_rfl) (by kernel_rfl) (by kernel_rfl) (by kernel_rfl) (by kernel_rfl) (fun _ _ _ h => h) hH rfl ?yd12 ?rd12
        case yd12 => intro W hSw; go_simp; try with_reducible rfl
        try simp only [Act.put, List.setIfInBounds_toArray, List.set_cons_zero, List.set_cons_succ]
        refine takeL 5 (v := ?vd13) rfl (by kernel_rfl) (by kernel_rfl) (by kernel_rfl) (by kernel_rfl) (by kernel_rfl) (fun _ _ _ h => h) hH rfl ?yd13 ?rd13
        case yd13 => intro W hSw; go_simp; try with_reducible rfl
        try simp only [Act.put, List.setIfInBounds_toArray, List.set_cons_zero, List.set_cons_succ]
        refine twoL 3 4 rfl rfl (by kernel_rfl) rfl rfl (fun K hK => ?_) (fun K hK => ?_)
        rotate_left
        · skip
          go_simp
          have hal : Below wd.heap.size wd (wd.alloc (.cells #[.int .i64 (-1), .int .i64 999, .int .i64 1000] 3)) := (Below.refl _ _).alloc (Nat.le_refl _) _
          have LS := Lib.hid (Str.new wd 3 #[.int .i64 (-1), .int .i64 999, .int .i64 1000])
          have HBR := Lib.hid (show R ≠ wd.heap.size by have := HV.out.sr.lt; omega)
          have HV := Lib.hid (HV.out.below hal)
          clear hal
          generalize (wd.alloc (.cells #[.int .i64 (-1), .int .i64 999, .int .i64 1000] 3)) = wl at *
          generalize wd.heap.size = LB at *
          refine hK.out _ _ (HV.out.sx.cell 0 rfl) (fun hH => ?_)
          clear hK K
          try simp only [Act.put, List.setIfInBounds_toArray, List.set_cons_zero, List.set_cons_succ]
          refine callL 3 rfl (by kernel_rfl) rfl (fun K hK => ?_)
          go_simp
          refine (pick_any R 6 (p' + 1) _ (by omega) HV.out.rd (by omega)).mono ?_
          rintro e wa ⟨a, rfl, ha0, ha1, hr', hg'⟩
          have HV := Lib.hid (HV.out.picked hg' hr')
          have LS := Lib.hid (LS.out.kept hg' (by simp; have := HBR.out; omega))
          have hswa := hg'.size
          clear hr' hg'
          refine hK.out _ _ (HV.out.sx.cell 0 rfl) (fun hH => ?_)
          clear hK K
          try simp only [Act.put, List.setIfInBounds_toArray, List.set_cons_zero, List.set_cons_succ]
          refine callL 6 rfl (by kernel_rfl) rfl (fun K hK => ?_)
          go_simp
          refine (pick_any R 3 (p' + 1 + 1) _ (by omega) HV.out.rd (by omega)).mono ?_
          rintro e wb ⟨v, rfl, hv0, hv1, hr', hg'⟩
          have HV := Lib.hid (HV.out.picked hg' hr')
          have LS := Lib.hid (LS.out.kept hg' (by simp; have := HBR.out; omega))
          have hswb := hg'.size
          clear hr' hg'
          refine hK.out _ _ (HV.out.sx.cell 0 rfl) (fun hH => ?_)
          clear hK K
          try simp only [Act.put, List.setIfInBounds_toArray, List.set_cons_zero, List.set_cons_succ]
          obtain ⟨m, rfl⟩ : ∃ m : Nat, v = m := ⟨v.toNat, by omega⟩
          have hm3 : m < 3 := by omega
          have hm' : (m : Int) < 3 := by omega
          obtain ⟨z, hz⟩ := lit3L hm3
          have lz := LS.out.cell m hz
          refine callL 7 rfl (by kernel_rfl) rfl (fun K hK => ?_)
          go_simp
          refine hK.out _ _ (HV.out.sx.cell 0 rfl) (fun hH => ?_)
          clear hK K
          try simp only [Act.put, List.setIfInBounds_toArray, List.set_cons_zero, List.set_cons_succ]
          refine callL 8 rfl (by kernel_rfl) rfl (fun K hK => ?_)
          go_simp
          refine hK.out _ _ (HV.out.sx.cell 0 rfl) (fun hH => ?_)
          clear hK K
          try simp only [Act.put, List.setIfInBounds_toArray, List.set_cons_zero, List.set_cons_succ]
          clear lz hz hm' LS
          obtain ⟨i, rfl⟩ : ∃ i : Nat, a = i := ⟨a.toNat, by omega⟩
          have hi6 : i < l.length := by have := H6.out; omega
          have hi6' : (i : Int) < (l.length : Int) := by omega
          refine callL 9 rfl (by kernel_rfl) rfl (fun K hK => ?_)
          go_simp
          refine hK.out _ _ (HV.out.sx.cell 0 rfl) (fun hH => ?_)
          clear hK K
          try simp only [Act.put, List.setIfInBounds_toArray, List.set_cons_zero, List.set_cons_succ]
          refine lastL rfl (by kernel_rfl) (by kernel_rfl) (by kernel_rfl) rfl (fun K hK => ?_)
          obtain ⟨g2, c2, hg2e, _, _, _, hcg, hfz⟩ := HV.out.own.row (by rw [H6.out]; decide)
          simp only [Value.slice.injEq, true_and, Option.some.injEq, Addr.mk.injEq, and_true] at hg2e
          obtain ⟨rfl, rfl⟩ := hg2e
          have y0 := hfz i
          have c0 := hcg i hi6
          clear hfz hcg
          go_simp
          clear y0 c0
          have HV := Lib.hid (HV.out.setb rfl i z)
          refine hK.out _ _ ?_
          clear hK K hH
          try simp only [Act.put]
          generalize (wb.setCell ⟨g, i, none⟩ (.int .i64 z)) = W9 at *
          have y0 := HV.out.sr.frozen 0
          have y1 := HV.out.sr.frozen 1
          have v0 := HV.out.sr.cell 0 (v := .slice none 0 0) rfl
          have v1 := HV.out.sr.cell 1 (v := .int .i64 0) rfl
          have x0 := HV.out.sx.cell 0 (v := .slice (some ⟨g, 0, none⟩) l.length cu) rfl
          have x1 := HV.out.sx.cell 1 (v := .int .i64 (q)) rfl
          have sF := (HV.out.sr.set 0 (.slice (some ⟨g, 0, none⟩) l.length cu)).set 1 (.int .i64 (q))
          have e0 := sF.cell 0 (v := .slice (some ⟨g, 0, none⟩) l.length cu) rfl
          have e1 := sF.cell 1 (v := .int .i64 (q)) rfl
          clear sF
          go_wp2
          refine bodyPost_ret (v := .agg #[.slice (some ⟨g, 0, none⟩) l.length cu, .int .i64 (q)]) (by simp [results, Try.f25, go_sem, e0, e1]) rfl ?_
          exact Hfin.out _ _ (p' + 1 + 1 + 1) _ _ _ HV.out (by rw [List.length_set, H6.out]; exact Nat.le_refl 6) (by omega)
        go_simp
        refine (pick_any R 6 (p' + 1) _ (by omega) HV.out.rd (by omega)).mono ?_
        rintro e wa ⟨a, rfl, ha0, ha1, hr', hg'⟩
        have HV := Lib.hid (HV.out.picked hg' hr')
        have hswa := hg'.size
        clear hr' hg'
        refine hK.out _ _ (HV.out.sx.cell 0 rfl) (fun hH => ?_)
        clear hK K
        try simp only [Act.put, List.setIfInBounds_toArray, List.set_cons_zero, List.set_cons_succ]
        refine twoL 4 6 rfl rfl (by kernel_rfl) rfl rfl (fun K hK => ?_) (fun K hK => ?_)
        rotate_left
        · skip
          go_simp
          refine (pick_any R 3 (p' + 1 + 1) _ (by omega) HV.out.rd (by omega)).mono ?_
          rintro e wb ⟨v, rfl, hv0, hv1, hr', hg'⟩
          have HV := Lib.hid (HV.out.picked hg' hr')
          have hswb := hg'.size
          clear hr' hg'
          refine hK.out _ _ (HV.out.sx.cell 0 rfl) (fun hH => ?_)
          clear hK K
          try simp only [Act.put, List.setIfInBounds_toArray, List.set_cons_zero, List.set_cons_succ]
          refine callL 4 rfl (by kernel_rfl) rfl (fun K hK => ?_)
          go_simp
          have hal : Below wb.heap.size wb (wb.alloc (.cells #[.int .i64 (-1), .int .i64 999, .int .i64 1000] 3)) := (Below.refl _ _).alloc (Nat.le_refl _) _
          have LS := Lib.hid (Str.new wb 3 #[.int .i64 (-1), .int .i64 999, .int .i64 1000])
          have HBR := Lib.hid (show R ≠ wb.heap.size by have := HV.out.sr.lt; omega)
          have HV := Lib.hid (HV.out.below hal)
          clear hal
          generalize (wb.alloc (.cells #[.int .i64 (-1), .int .i64 999, .int .i64 1000] 3)) = wl at *
          generalize wb.heap.size = LB at *
          refine hK.out _ _ (HV.out.sx.cell 0 rfl) (fun hH => ?_)
          clear hK K
          try simp only [Act.put, List.setIfInBounds_toArray, List.set_cons_zero, List.set_cons_succ]
          obtain ⟨m, rfl⟩ : ∃ m : Nat, v = m := ⟨v.toNat, by omega⟩
          have hm3 : m < 3 := by omega
          have hm' : (m : Int) < 3 := by omega
          obtain ⟨z, hz⟩ := lit3L hm3
          have lz := LS.out.cell m hz
          refine callL 7 rfl (by kernel_rfl) rfl (fun K hK => ?_)
          go_simp
          refine hK.out _ _ (HV.out.sx.cell 0 rfl) (fun hH => ?_)
          clear hK K
          try simp only [Act.put, List.setIfInBounds_toArray, List.set_cons_zero, List.set_cons_succ]
          refine callL 8 rfl (by kernel_rfl) rfl (fun K hK => ?_)
          go_simp
          refine hK.out _ _ (HV.out.sx.cell 0 rfl) (fun hH => ?_)
          clear hK K
          try simp only [Act.put, List.setIfInBounds_toArray, List.set_cons_zero, List.set_cons_succ]
          clear lz hz hm' LS
          obtain ⟨i, rfl⟩ : ∃ i : Nat, a = i := ⟨a.toNat, by omega⟩
          have hi6 : i < l.length := by have := H6.out; omega
          have hi6' : (i : Int) < (l.length : Int) := by omega
          refine callL 9 rfl (by kernel_rfl) rfl (fun K hK => ?_)
          go_simp
          refine hK.out _ _ (HV.out.sx.cell 0 rfl) (fun hH => ?_)
          clear hK K
          try simp only [Act.put, List.setIfInBounds_toArray, List.set_cons_zero, List.set_cons_succ]
          refine lastL rfl (by kernel_rfl) (by kernel_rfl) (by kernel_rfl) rfl (fun K hK => ?_)
          obtain ⟨g2, c2, hg2e, _, _, _, hcg, hfz⟩ := HV.out.own.row (by rw [H6.out]; decide)
          simp only [Value.slice.injEq, true_and, Option.some.injEq, Addr.mk.injEq, and_true] at hg2e
          obtain ⟨rfl, rfl⟩ := hg2e
          have y0 := hfz i
          have c0 := hcg i hi6
          clear hfz hcg
          go_simp
          clear y0 c0
          have HV := Lib.hid (HV.out.setb rfl i z)
          refine hK.out _ _ ?_
          clear hK K hH
          try simp only [Act.put]
          generalize (wl.setCell ⟨g, i, none⟩ (.int .i64 z)) = W9 at *
          have y0 := HV.out.sr.frozen 0
          have y1 := HV.out.sr.frozen 1
          have v0 := HV.out.sr.cell 0 (v := .slice none 0 0) rfl
          have v1 := HV.out.sr.cell 1 (v := .int .i64 0) rfl
          have x0 := HV.out.sx.cell 0 (v := .slice (some ⟨g, 0, none⟩) l.length cu) rfl
          have x1 := HV.out.sx.cell 1 (v := .int .i64 (q)) rfl
          have sF := (HV.out.sr.set 0 (.slice (some ⟨g, 0, none⟩) l.length cu)).set 1 (.int .i64 (q))
          have e0 := sF.cell 0 (v := .slice (some ⟨g, 0, none⟩) l.length cu) rfl
          have e1 := sF.cell 1 (v := .int .i64 (q)) rfl
          clear sF
          go_wp2
          refine bodyPost_ret (v := .agg #[.slice (some ⟨g, 0, none⟩) l.length cu, .int .i64 (q)]) (by simp [results, Try.f25, go_sem, e0, e1]) rfl ?_
          exact Hfin.out _ _ (p' + 1 + 1 + 1) _ _ _ HV.out (by rw [List.length_set, H6.out]; exact Nat.le_refl 6) (by omega)
        go_simp
        have hal : Below wa.heap.size wa (wa.alloc (.cells #[.int .i64 (-1), .int .i64 999, .int .i64 1000] 3)) := (Below.refl _ _).alloc (Nat.le_refl _) _
        have LS := Lib.hid (Str.new wa 3 #[.int .i64 (-1), .int .i64 999, .int .i64 1000])
        have HBR := Lib.hid (show R ≠ wa.heap.size by have := HV.out.sr.lt; omega)
        have HV := Lib.hid (HV.out.below hal)
        clear hal
        generalize (wa.alloc (.cells #[.int .i64 (-1), .int .i64 999, .int .i64 1000] 3)) = wl at *
        generalize wa.heap.size = LB at *
        refine hK.out _ _ (HV.out.sx.cell 0 rfl) (fun hH => ?_)
        clear hK K
        try simp only [Act.put, List.setIfInBounds_toArray, List.set_cons_zero, List.set_cons_succ]
        refine callL 6 rfl (by kernel_rfl) rfl (fun K hK => ?_)
        go_simp
        refine (pick_any R 3 (p' + 1 + 1) _ (by omega) HV.out.rd (by omega)).mono ?_
        rintro e wb ⟨v, rfl, hv0, hv1, hr', hg'⟩
        have HV := Lib.hid (HV.out.picked hg' hr')
        have LS := Lib.hid (LS.out.kept hg' (by simp; have := HBR.out; omega))
        have hswb := hg'.size
        clear hr' hg'
        refine hK.out _ _ (HV.out.sx.cell 0 rfl) (fun hH => ?_)
        clear hK K
        try simp only [Act.put, List.setIfInBounds_toArray, List.set_cons_zero, List.set_cons_succ]
        obtain ⟨m, rfl⟩ : ∃ m : Nat, v = m := ⟨v.toNat, by omega⟩
        have hm3 : m < 3 := by omega
        have hm' : (m : Int) < 3 := by omega
        obtain ⟨z, hz⟩ := lit3L hm3
        have lz := LS.out.cell m hz
        refine callL 7 rfl (by kernel_rfl) rfl (fun K hK => ?_)
        go_simp
        refine hK.out _ _ (HV.out.sx.cell 0 rfl) (fun hH => ?_)
        clear hK K
        try simp only [Act.put, List.setIfInBounds_toArray, List.set_cons_zero, List.set_cons_succ]
        refine callL 8 rfl (by kernel_rfl) rfl (fun K hK => ?_)
        go_simp
        refine hK.out _ _ (HV.out.sx.cell 0 rfl) (fun hH => ?_)
        clear hK K
        try simp only [Act.put, List.setIfInBounds_toArray, List.set_cons_zero, List.set_cons_succ]
        clear lz hz hm' LS
        obtain ⟨i, rfl⟩ : ∃ i : Nat, a = i := ⟨a.toNat, by omega⟩
        have hi6 : i < l.length := by have := H6.out; omega
        have hi6' : (i : Int) < (l.length : Int) := by omega
        refine callL 9 rfl (by kernel_rfl) rfl (fun K hK => ?_)
        go_simp
        refine hK.out _ _ (HV.out.sx.cell 0 rfl) (fun hH => ?_)
        clear hK K
        try simp only [Act.put, List.setIfInBounds_toArray, List.set_cons_zero, List.set_cons_succ]
        refine lastL rfl (by kernel_rfl) (by kernel_rfl) (by kernel_rfl) rfl (fun K hK => ?_)
        obtain ⟨g2, c2, hg2e, _, _, _, hcg, hfz⟩ := HV.out.own.row (by rw [H6.out]; decide)
        simp only [Value.slice.injEq, true_and, Option.some.injEq, Addr.mk.injEq, and_true] at hg2e
        obtain ⟨rfl, rfl⟩ := hg2e
        have y0 := hfz i
        have c0 := hcg i hi6
        clear hfz hcg
        go_simp
        clear y0 c0
        have HV := Lib.hid (HV.out.setb rfl i z)
        refine hK.out _ _ ?_
        clear hK K hH
        try simp only [Act.put]
        generalize (wb.setCell ⟨g, i, none⟩ (.int .i64 z)) = W9 at *
        have y0 := HV.out.sr.frozen 0
        have y1 := HV.out.sr.frozen 1
        have v0 := HV.out.sr.cell 0 (v := .slice none 0 0) rfl
        have v1 := HV.out.sr.cell 1 (v := .int .i64 0) rfl
        have x0 := HV.out.sx.cell 0 (v := .slice (some ⟨g, 0, none⟩) l.length cu) rfl
        have x1 := HV.out.sx.cell 1 (v := .int .i64 (q)) rfl
        have sF := (HV.out.sr.set 0 (.slice (some ⟨g, 0, none⟩) l.length cu)).set 1 (.int .i64 (q))
        have e0 := sF.cell 0 (v := .slice (some ⟨g, 0, none⟩) l.length cu) rfl
        have e1 := sF.cell 1 (v := .int .i64 (q)) rfl
        clear sF
        go_wp2
        refine bodyPost_ret (v := .agg #[.slice (some ⟨g, 0, none⟩) l.length cu, .int .i64 (q)]) (by simp [results, Try.f25, go_sem, e0, e1]) rfl ?_
        exact Hfin.out _ _ (p' + 1 + 1 + 1) _ _ _ HV.out (by rw [List.length_set, H6.out]; exact Nat.le_refl 6) (by omega)
      have h0' : (sw == 0) = false := by rw [beq_eq_false_iff_ne]; exact h0
      by_cases h1 : sw = 1
      case pos =>
        subst h1
        have x0 := HV.out.sx.cell 0 (v := .slice (some ⟨g, 0, none⟩) l.length cu) rfl
        go_wp2_with fail
        clear x0
        refine wp_region_L 6 (fun w' => w'.cell? ⟨X, 0, none⟩ = some (.slice (some ⟨g, 0, none⟩) l.length cu)) (by kernel_rfl) (HV.out.drew.sx.cell 0 rfl) (fun hH => ?_)
        have HV := Lib.hid HV.out.drew
        generalize w4.drew = wd at *
        have hsd := HV.out.sr.lt
        refine takeL 0 (v := ?vd14) rfl (by kernel_rfl) (by kernel_rfl) (by kernel_rfl) (by kernel_rfl) (by kernel_rfl) (fun _ _ _ h => h) hH rfl ?yd14 ?rd14
        case yd14 => intro W hSw; go_simp; try with_reducible rfl
        try simp only [Act.put, List.setIfInBounds_toArray, List.set_cons_zero, List.set_cons_succ]
        refine takeL 1 (v := ?vd15) rfl (by kernel_rfl) (by kernel_rfl) (by kernel_rfl) (by kernel_rfl) (by kernel_rfl) (fun _ _ _ h => h) hH rfl ?yd15 ?rd15
        case yd15 => intro W hSw; go_simp; try with_reducible rfl
        try simp only [Act.put, List.setIfInBounds_toArray, List.set_cons_zero, List.set_cons_succ]
        refine takeL 2 (v := ?vd16) rfl (by kernel_rfl) (by kernel_rfl) (by kernel_rfl) (by kernel_rfl) (by kernel_rfl) (fun _ _ _ h => h) hH rfl ?yd16 ?rd16
        case yd16 => intro W hSw; go_simp; try with_reducible rfl
        try simp only [Act.put, List.setIfInBounds_toArray, List.set_cons_zero, List.set_cons_succ]
        refine callL 3 rfl (by kernel_rfl) rfl (fun K hK => ?_)
        go_simp
        refine (pick_any R 6 (p' + 1) _ (by omega) HV.out.rd (by omega)).mono ?_
        rintro e wa ⟨a, rfl, ha0, ha1, hr', hg'⟩
        have HV := Lib.hid (HV.out.picked hg' hr')
        have hswa := hg'.size
        clear hr' hg'
        refine hK.out _ _ (HV.out.sx.cell 0 rfl) (fun hH => ?_)
        clear hK K
        try simp only [Act.put, List.setIfInBounds_toArray, List.set_cons_zero, List.set_cons_succ]
        obtain ⟨i, rfl⟩ : ∃ i : Nat, a = i := ⟨a.toNat, by omega⟩
        have hi6 : i ≤ l.length := by have := H6.out; omega
        have hsl := (SrcAt.parts (vc := cu) (HV.out.own.src.elim fun a h => h.elim fun c h => by obtain ⟨e, _, hs, _⟩ := h; simp only [Value.slice.injEq, true_and] at e; obtain ⟨rfl, rfl⟩ := e; exact hs) hc6 hi6).1
        rw [List.length_take, Nat.min_eq_left hi6] at hsl
        have T1 := Lib.hid hsl; clear hsl
        refine takeL 4 (v := .slice (some ⟨g, 0, none⟩) i cu) rfl (by kernel_rfl) (by kernel_rfl) (by kernel_rfl) (by kernel_rfl) (by kernel_rfl) (fun _ _ _ h => h) hH rfl ?yd17 ?rd17
        case yd17 => intro W hSw; have hr := T1.out W; go_simp
        try simp only [Act.put, List.setIfInBounds_toArray, List.set_cons_zero, List.set_cons_succ]
        refine takeL 5 (v := ?vd18) rfl (by kernel_rfl) (by kernel_rfl) (by kernel_rfl) (by kernel_rfl) (by kernel_rfl) (fun _ _ _ h => h) hH rfl ?yd18 ?rd18
        case yd18 => intro W hSw; go_simp; try with_reducible rfl
        try simp only [Act.put, List.setIfInBounds_toArray, List.set_cons_zero, List.set_cons_succ]
        refine lastL rfl (by kernel_rfl) (by kernel_rfl) (by kernel_rfl) rfl (fun K hK => ?_)
        have y0 := HV.out.sx.frozen 0
        have c0 := HV.out.sx.cell 0 (v := .slice (some ⟨g, 0, none⟩) l.length cu) rfl
        go_simp
        clear y0 c0
        have HV := Lib.hid (HV.out.cut i hi6)
        refine hK.out _ _ ?_
        clear hK K hH T1
        try simp only [Act.put]
        generalize wa.setCell ⟨X, 0, none⟩ (.slice (some ⟨g, 0, none⟩) i cu) = W9 at *
        have y0 := HV.out.sr.frozen 0
        have y1 := HV.out.sr.frozen 1
        have v0 := HV.out.sr.cell 0 (v := .slice none 0 0) rfl
        have v1 := HV.out.sr.cell 1 (v := .int .i64 0) rfl
        have x0 := HV.out.sx.cell 0 (v := .slice (some ⟨g, 0, none⟩) i cu) rfl
        have x1 := HV.out.sx.cell 1 (v := .int .i64 (q)) rfl
        have sF := (HV.out.sr.set 0 (.slice (some ⟨g, 0, none⟩) i cu)).set 1 (.int .i64 (q))
        have e0 := sF.cell 0 (v := .slice (some ⟨g, 0, none⟩) i cu) rfl
        have e1 := sF.cell 1 (v := .int .i64 (q)) rfl
        clear sF
        go_wp2
        refine bodyPost_ret (v := .agg #[.slice (some ⟨g, 0, none⟩) i cu, .int .i64 (q)]) (by simp [results, Try.f25, go_sem, e0, e1]) rfl ?_
        exact Hfin.out _ _ (p' + 1 + 1) _ _ _ HV.out (by rw [List.length_take]; have := H6.out; omega) (by omega)
      have h1' : (sw == 1) = false := by rw [beq_eq_false_iff_ne]; exact h1
      by_cases h2 : sw = 2
      case pos =>
        subst h2
        have hal : Below w4.heap.size w4 (w4.alloc (.cells #[.int .i64 (-1), .int .i64 5850, .int .i64 5851, .int .i64 5985, .int .i64 5986, .int .i64 5994, .int .i64 5995] 3)) := (Below.refl _ _).alloc (Nat.le_refl _) _
        have LS := Lib.hid (Str.new w4 3 #[.int .i64 (-1), .int .i64 5850, .int .i64 5851, .int .i64 5985, .int .i64 5986, .int .i64 5994, .int .i64 5995])
        have HBR := Lib.hid (show R ≠ w4.heap.size by have := HV.out.sr.lt; have := HV.out.hR; omega)
        have HBX := Lib.hid (show w4.heap.size ≠ X by have := HV.out.sx.lt; omega)
        have HV := Lib.hid (HV.out.below hal)
        clear hal
        go_wp2_with fail
        generalize (w4.alloc (.cells #[.int .i64 (-1), .int .i64 5850, .int .i64 5851, .int .i64 5985, .int .i64 5986, .int .i64 5994, .int .i64 5995] 3)) = wl at *
        generalize w4.heap.size = LB at *
        refine (pick_any R 7 (p' + 1) _ (by omega) HV.out.rd (by omega)).mono ?_
        rintro e w5 ⟨v, rfl, hv0, hv1, hr', hg'⟩
        have HV := Lib.hid (HV.out.picked hg' hr')
        have LS := Lib.hid (LS.out.kept hg' (by simp; have := HBR.out; omega))
        clear hr' hg'
        obtain ⟨m, rfl⟩ : ∃ m : Nat, v = m := ⟨v.toNat, by omega⟩
        have hm7 : m < 7 := by omega
        have hm' : (m : Int) < 7 := by omega
        obtain ⟨z, hz⟩ := lit7L hm7
        have lz := LS.out.cell m hz
        clear hz LS
        have fx := HV.out.sx.frozen 1
        have cx := HV.out.sx.cell 1 (v := .int .i64 q) rfl
        have HV := Lib.hid (HV.out.fees z)
        have y0 := HV.out.sr.frozen 0
        have y1 := HV.out.sr.frozen 1
        have v0 := HV.out.sr.cell 0 (v := .slice none 0 0) rfl
        have v1 := HV.out.sr.cell 1 (v := .int .i64 0) rfl
        have x0 := HV.out.sx.cell 0 (v := .slice (some ⟨g, 0, none⟩) l.length cu) rfl
        have x1 := HV.out.sx.cell 1 (v := .int .i64 (z)) rfl
        have sF := (HV.out.sr.set 0 (.slice (some ⟨g, 0, none⟩) l.length cu)).set 1 (.int .i64 (z))
        have e0 := sF.cell 0 (v := .slice (some ⟨g, 0, none⟩) l.length cu) rfl
        have e1 := sF.cell 1 (v := .int .i64 (z)) rfl
        clear sF
        go_wp2
        refine bodyPost_ret (v := .agg #[.slice (some ⟨g, 0, none⟩) l.length cu, .int .i64 (z)]) (by simp [results, Try.f25, go_sem, e0, e1]) rfl ?_
        exact Hfin.out _ _ (p' + 1 + 1) _ _ _ HV.out (by rw [H6.out]; exact Nat.le_refl 6) (by omega)
      have h2' : (sw == 2) = false := by rw [beq_eq_false_iff_ne]; exact h2
      have y0 := HV.out.sr.frozen 0
      have y1 := HV.out.sr.frozen 1
      have v0 := HV.out.sr.cell 0 (v := .slice none 0 0) rfl
      have v1 := HV.out.sr.cell 1 (v := .int .i64 0) rfl
      have x0 := HV.out.sx.cell 0 (v := .slice (some ⟨g, 0, none⟩) l.length cu) rfl
      have x1 := HV.out.sx.cell 1 (v := .int .i64 (q)) rfl
      have sF := (HV.out.sr.set 0 (.slice (some ⟨g, 0, none⟩) l.length cu)).set 1 (.int .i64 (q))
      have e0 := sF.cell 0 (v := .slice (some ⟨g, 0, none⟩) l.length cu) rfl
      have e1 := sF.cell 1 (v := .int .i64 (q)) rfl
      clear sF
      go_wp2
      refine bodyPost_ret (v := .agg #[.slice (some ⟨g, 0, none⟩) l.length cu, .int .i64 (q)]) (by simp [results, Try.f25, go_sem, e0, e1]) rfl ?_
      exact Hfin.out _ _ (p' + 1) _ _ _ HV.out (by rw [H6.out]; exact Nat.le_refl 6) (by omega)

end Go.Proofs.Ytadgdjjibmofpaa

/- The draw of a ledger with a transaction, by a walk of its text; condition: the code has at most 2^40 bytes. -/
namespace Go.Proofs.Ytadgdjjibmofpaa
open Go.RowKit

/-- What is drawn: a ledger and a transaction. -/
def LtD (E : TypeId) (w : World) (e : Ending) (w' : World) : Prop := ∃ (l : List Int) (n : Int) (u : Value) (x : Tx), e = .returned (.tuple #[.agg #[u, .int .i64 n], agT x]) ∧ Own E w' w.heap.size u l ∧ l.length ≤ 6 ∧ Below w.heap.size w w'
theorem LtD.mk {E : TypeId} {w w' : World} {e : Ending} (l : List Int) (n : Int) (u : Value) (x : Tx) (h : e = .returned (.tuple #[.agg #[u, .int .i64 n], agT x])) (ho : Own E w' w.heap.size u l) (hl : l.length ≤ 6) (hb : Below w.heap.size w w') : LtD E w e w' := ⟨l, n, u, x, h, ho, hl, hb⟩
/-- While it is drawn: A the answer's ledger, X the ledger, R the reader. -/
structure Ldw (TL E : TypeId) (R : Nat) (w : World) (A X : Nat) (n : Int) (p : Nat) (W : World) (u : Value) (l : List Int) : Prop where
  sa : Str W A TL #[.slice none 0 0, .int .i64 0]
  sx : Str W X TL #[u, .int .i64 n]
  own : Own E W w.heap.size u l
  nx : ∀ g, u.ownBlock = some g → R < g ∧ g ≠ X
  rd : Rdr W R p
  bel : Below w.heap.size w W
  ds : w.heap.size ≤ A ∧ A < R ∧ R < X
section
variable {TL E : TypeId} {R : Nat} {w : World} {A X : Nat} {n : Int} {p : Nat} {W W' : World} {u : Value} {l : List Int}
theorem Ldw.picked (h : Ldw TL E R w A X n p W u l) {p2 : Nat} (hg : W.grownBy W' (some R)) (hr : Rdr W' R p2) : Ldw TL E R w A X n p2 W' u l := by
  obtain ⟨d1, d2, d3⟩ := h.ds
  exact ⟨h.sa.kept hg (by simp; omega), h.sx.kept hg (by simp; omega), h.own.kept hg (.inr (fun e => by have := (h.nx R e).1; omega)), h.nx, hr, h.bel.grown hg h.bel.size (fun g e => by cases e; omega), h.ds⟩
theorem Ldw.drew (h : Ldw TL E R w A X n p W u l) : Ldw TL E R w A X n p W.drew u l := ⟨h.sa, h.sx, h.own.drewN 1, h.nx, h.rd.drewN 1, h.bel.drew, h.ds⟩
/-- The answer's ledger is set. -/
theorem Ldw.res (h : Ldw TL E R w A X n p W u l) : Str ((W.setCell ⟨A, 0, none⟩ u).setCell ⟨A, 1, none⟩ (.int .i64 n)) A TL #[u, .int .i64 n] ∧ Str ((W.setCell ⟨A, 0, none⟩ u).setCell ⟨A, 1, none⟩ (.int .i64 n)) X TL #[u, .int .i64 n] ∧
    Own E ((W.setCell ⟨A, 0, none⟩ u).setCell ⟨A, 1, none⟩ (.int .i64 n)) w.heap.size u l ∧ Below w.heap.size w ((W.setCell ⟨A, 0, none⟩ u).setCell ⟨A, 1, none⟩ (.int .i64 n)) := by
  obtain ⟨d1, d2, d3⟩ := h.ds
  have n : u.ownBlock ≠ some A := fun e => by have := (h.nx A e).1; omega
  exact ⟨(h.sa.set 0 _).set 1 _, (h.sx.other (by omega) _ _).other (by omega) _ _, (h.own.set_other n _ _).set_other n _ _, (h.bel.setCell (p := ⟨A, 0, none⟩) (by simp only; omega) _).setCell (p := ⟨A, 1, none⟩) (by simp only; omega) _⟩
end

set_option maxHeartbeats 2000000 in
theorem spec_DrawLedgerApply (a : Option Addr) (cap : Nat) (zs : List Int) (w : World) (h : CodeAt w a cap zs) :
    Calls Try.prog 11 #[.slice a zs.length cap] w (LtD 3 w) := by
  have hb0 : Below w.heap.size w ((w.alloc (.cells #[.slice none 0 0, .int .i64 0] 25)).alloc (.cells #[.int .i64 0, .int .i64 0, .int .i64 0, .int .i64 0] 27)) := ((Below.refl _ _).alloc (Nat.le_refl _) _).alloc (by simp only [World.size_alloc]; omega) _
  have sa := (Str.new w 25 #[.slice none 0 0, .int .i64 0]).alloc (.cells #[.int .i64 0, .int .i64 0, .int .i64 0, .int .i64 0] 27)
  have sb := Str.new (w.alloc (.cells #[.slice none 0 0, .int .i64 0] 25)) 27 #[.int .i64 0, .int .i64 0, .int .i64 0, .int .i64 0]
  simp only [World.size_alloc] at sb
  have SB := Lib.hid sb
  have hz0 : ((w.alloc (.cells #[.slice none 0 0, .int .i64 0] 25)).alloc (.cells #[.int .i64 0, .int .i64 0, .int .i64 0, .int .i64 0] 27)).heap.size = w.heap.size + 2 := by simp
  have Hz0 := Lib.hid hz0; clear hz0
  have Hb0 := Lib.hid hb0; have SA := Lib.hid sa
  have hcode := h.below hb0
  have Hc := Lib.hid hcode
  clear hb0 sa hcode h sb
  go_enter Try.func11, Try.ntmps11
  go_wp2_with fail
  generalize ((w.alloc (.cells #[.slice none 0 0, .int .i64 0] 25)).alloc (.cells #[.int .i64 0, .int .i64 0, .int .i64 0, .int .i64 0] 27)) = W0 at *
  refine (open_any a cap zs _ Hc.out).mono ?_
  rintro e w1 ⟨R, rfl, hR1, hR2, hr1, hb1⟩
  have hRs : w.heap.size + 2 ≤ R := by have := Hz0.out; omega
  have hz1 := hb1.size
  have SA := Lib.hid (show Str w1 w.heap.size 25 #[.slice none 0 0, .int .i64 0] from (hb1.block _ SA.out.lt).trans SA.out)
  have SB := Lib.hid (show Str w1 (w.heap.size + 1) 27 #[.int .i64 0, .int .i64 0, .int .i64 0, .int .i64 0] from (hb1.block _ SB.out.lt).trans SB.out)
  have Hb1 := Lib.hid (below_step Hb0.out Hb0.out.size hb1)
  have Hr1 := Lib.hid hr1
  clear hb1 hr1
  go_wp2_with fail
  refine (drawLedger R 0 _ (by omega) Hr1.out hR2).mono ?_
  rintro e w2 ⟨l, n, u, p2, rfl, ho, hnx, hl6, hr2, hp2, hg2⟩
  have hs2 := hg2.size
  obtain ⟨au, cu, rfl, _, _⟩ := ho.ints
  have hal : Below w2.heap.size w2 (w2.alloc (.cells #[.slice au l.length cu, .int .i64 n] 25)) := (Below.refl _ _).alloc (Nat.le_refl _) _
  have HV := Lib.hid (show Ldw 25 3 R w w.heap.size w2.heap.size n p2 (w2.alloc (.cells #[.slice au l.length cu, .int .i64 n] 25)) (.slice au l.length cu) l from ⟨(SA.out.kept hg2 (by simp; omega)).alloc _, Str.new w2 25 _, (ho.below hal).mono (by omega), (fun g e => by have := ho.lt g e; omega), hr2.alloc _, (Hb1.out.grown hg2 Hb1.out.size (fun g e => by cases e; omega)).alloc (by omega) _, by omega, by omega, by omega⟩)
  have SB := Lib.hid (show Str (w2.alloc (.cells #[.slice au l.length cu, .int .i64 n] 25)) (w.heap.size + 1) 27 #[.int .i64 0, .int .i64 0, .int .i64 0, .int .i64 0] from (SB.out.kept hg2 (by simp; omega)).alloc _)
  have hXs : w2.heap.size < (w2.alloc (.cells #[.slice au l.length cu, .int .i64 n] 25)).heap.size := by simp
  clear hal ho hr2 hg2 SA Hb0 Hb1 Hr1 hnx
  have x0 := HV.out.sx.cell 0 (v := .slice au l.length cu) rfl
  have x1 := HV.out.sx.cell 1 (v := .int .i64 n) rfl
  go_wp2_with fail
  generalize (w2.alloc (.cells #[.slice au l.length cu, .int .i64 n] 25)) = w3 at *
  generalize w2.heap.size = X at *
  have hXR : R < X := by omega
  refine wp_region_held_drew (S := fun W => W.cell? ⟨X, 0, none⟩ = some (.slice au l.length cu) ∧ W.cell? ⟨X, 1, none⟩ = some (.int .i64 n)) (by kernel_rfl) ⟨x0, x1⟩ (fun hH => ?_)
  have HV := Lib.hid HV.out.drew
  have hXs : X < w3.drew.heap.size := hXs
  have SB := Lib.hid (show Str w3.drew (w.heap.size + 1) 27 #[.int .i64 0, .int .i64 0, .int .i64 0, .int .i64 0] from SB.out)
  clear x0 x1
  generalize w3.drew = wd at *
  refine takeH 0 (v := ?vda1) rfl (by kernel_rfl) (by kernel_rfl) (by kernel_rfl) (fun _ _ _ h => h) hH rfl ?yda1 ?rda1
  case yda1 => intro W hSw; go_simp; try with_reducible rfl
  try simp only [Act.put, List.setIfInBounds_toArray, List.set_cons_zero, List.set_cons_succ]
  refine takeH 1 (v := ?vda2) rfl (by kernel_rfl) (by kernel_rfl) (by kernel_rfl) (fun _ _ _ h => h) hH rfl ?yda2 ?rda2
  case yda2 => intro W hSw; go_simp; try with_reducible rfl
  try simp only [Act.put, List.setIfInBounds_toArray, List.set_cons_zero, List.set_cons_succ]
  refine callH 2 rfl (by kernel_rfl) rfl (fun K hK => ?_)
  go_simp
  go_at_call 26
  refine (drawTxn R p2 _ (by omega) HV.out.rd (by have := HV.out.sx.lt; omega)).mono ?_
  rintro e w4 ⟨b, p4, rfl, _, hr', hp4, hg'⟩
  have HV := Lib.hid (HV.out.picked hg' hr')
  have SB := Lib.hid (SB.out.kept hg' (by simp; omega))
  clear hr' hg'
  refine hK.out _ _ ⟨HV.out.sx.cell 0 rfl, HV.out.sx.cell 1 rfl⟩ (fun hH => ?_)
  clear hK K
  try simp only [Act.put, List.setIfInBounds_toArray, List.set_cons_zero, List.set_cons_succ]
  obtain ⟨sa9, sx9, ho9, hb9⟩ := HV.out.res
  have Hsa := Lib.hid sa9; have Hsx := Lib.hid sx9; have Ho9 := Lib.hid ho9; have Hb9 := Lib.hid hb9
  clear sa9 sx9 ho9 hb9
  refine callH 3 rfl (by kernel_rfl) rfl (fun K hK => ?_)
  have y0 := HV.out.sa.frozen 0
  have y1 := HV.out.sa.frozen 1
  have a0 := HV.out.sa.cell 0 (v := .slice none 0 0) rfl
  have a1 := HV.out.sa.cell 1 (v := .int .i64 0) rfl
  go_simp
  clear y0 y1 a0 a1
  refine hK.out _ _ ⟨Hsx.out.cell 0 rfl, Hsx.out.cell 1 rfl⟩ (fun hH => ?_)
  clear hK K
  try simp only [Act.put, List.setIfInBounds_toArray, List.set_cons_zero, List.set_cons_succ]
  have SB := Lib.hid ((SB.out.other (B' := w.heap.size) (by omega) 0 (.slice au l.length cu)).other (B' := w.heap.size) (by omega) 1 (.int .i64 n))
  have Hne9 := Lib.hid (show (.slice au l.length cu : Value).ownBlock ≠ some (w.heap.size + 1) from fun e => by have := (HV.out.nx _ e).1; omega)
  generalize ((w4.setCell ⟨w.heap.size, 0, none⟩ (.slice au l.length cu)).setCell ⟨w.heap.size, 1, none⟩ (.int .i64 n)) = we at *
  have SB0 := SB
  have Hsa := Lib.hid (Str.other (B' := w.heap.size + 1) (Str.other (B' := w.heap.size + 1) (Str.other (B' := w.heap.size + 1) (Str.other (B' := w.heap.size + 1) Hsa.out (by omega) 0 (.int .i64 b.f)) (by omega) 1 (.int .i64 b.t)) (by omega) 2 (.int .i64 b.s)) (by omega) 3 (.int .i64 b.e))
  have Hsx := Lib.hid (Str.other (B' := w.heap.size + 1) (Str.other (B' := w.heap.size + 1) (Str.other (B' := w.heap.size + 1) (Str.other (B' := w.heap.size + 1) Hsx.out (by omega) 0 (.int .i64 b.f)) (by omega) 1 (.int .i64 b.t)) (by omega) 2 (.int .i64 b.s)) (by omega) 3 (.int .i64 b.e))
  have Ho9 := Lib.hid (Own.set_other (Own.set_other (Own.set_other (Own.set_other Ho9.out Hne9.out 0 (.int .i64 b.f)) Hne9.out 1 (.int .i64 b.t)) Hne9.out 2 (.int .i64 b.s)) Hne9.out 3 (.int .i64 b.e))
  have Hb9 := Lib.hid ((((Hb9.out.setCell (p := ⟨w.heap.size + 1, 0, none⟩) (by simp) (.int .i64 b.f)).setCell (p := ⟨w.heap.size + 1, 1, none⟩) (by simp) (.int .i64 b.t)).setCell (p := ⟨w.heap.size + 1, 2, none⟩) (by simp) (.int .i64 b.s)).setCell (p := ⟨w.heap.size + 1, 3, none⟩) (by simp) (.int .i64 b.e))
  have SB := Lib.hid ((((SB0.out.set 0 (.int .i64 b.f)).set 1 (.int .i64 b.t)).set 2 (.int .i64 b.s)).set 3 (.int .i64 b.e))
  skip
  unfold agT
  refine callH 4 rfl (by kernel_rfl) rfl (fun K hK => ?_)
  have y0 := SB0.out.frozen 0
  have y1 := SB0.out.frozen 1
  have y2 := SB0.out.frozen 2
  have y3 := SB0.out.frozen 3
  have a0 := SB0.out.cell 0 (v := .int .i64 0) rfl
  have a1 := SB0.out.cell 1 (v := .int .i64 0) rfl
  have a2 := SB0.out.cell 2 (v := .int .i64 0) rfl
  have a3 := SB0.out.cell 3 (v := .int .i64 0) rfl
  go_simp
  clear y0 a0 y1 a1 y2 a2 y3 a3
  refine hK.out _ _ ⟨Hsx.out.cell 0 rfl, Hsx.out.cell 1 rfl⟩ (fun hH => ?_)
  clear hK K
  try simp only [Act.put, List.setIfInBounds_toArray, List.set_cons_zero, List.set_cons_succ]
  generalize ((((we.setCell ⟨w.heap.size + 1, 0, none⟩ (.int .i64 b.f)).setCell ⟨w.heap.size + 1, 1, none⟩ (.int .i64 b.t)).setCell ⟨w.heap.size + 1, 2, none⟩ (.int .i64 b.s)).setCell ⟨w.heap.size + 1, 3, none⟩ (.int .i64 b.e)) = wf at *
  refine wpAnyH_done (by kernel_rfl) ?_ _
  try simp only [Act.put]
  clear hH SB0
  have e0 := Hsa.out.cell 0 (v := .slice au l.length cu) rfl
  have e1 := Hsa.out.cell 1 (v := .int .i64 n) rfl
  have g0 := SB.out.cell 0 (v := .int .i64 b.f) rfl
  have g1 := SB.out.cell 1 (v := .int .i64 b.t) rfl
  have g2 := SB.out.cell 2 (v := .int .i64 b.s) rfl
  have g3 := SB.out.cell 3 (v := .int .i64 b.e) rfl
  go_wp2
  refine bodyPost_ret (v := .tuple #[.agg #[.slice au l.length cu, .int .i64 n], .agg #[.int .i64 b.f, .int .i64 b.t, .int .i64 b.s, .int .i64 b.e]]) (by simp [results, Try.f11, go_sem, e0, e1, g0, g1, g2, g3]) rfl ?_
  exact LtD.mk l n _ b rfl Ho9.out hl6 Hb9.out

end Go.Proofs.Ytadgdjjibmofpaa

/- The reference's total of a ledger, by a walk of its text; condition: the list is shorter than 2^40. -/
namespace Go.Proofs.Ytadgdjjibmofpaa
open Go.RowKit

/-- The total of a ledger, or -1. -/
def totZ (l : List Int) (n : Int) : Int := if ldB l n then l.sum + n else -1
theorem sum_take_succ {l : List Int} {k : Nat} (hk : k < l.length) : (l.take (k + 1)).sum = (l.take k).sum + l[k] := by
  rw [List.take_succ_eq_append_getElem hk, List.sum_append]; simp
theorem sum_take_bd {l : List Int} (h : ∀ b ∈ l, 0 ≤ b ∧ b ≤ 999) : ∀ k, k ≤ l.length → 0 ≤ (l.take k).sum ∧ (l.take k).sum ≤ 999 * k
  | 0, _ => by simp
  | k + 1, hk => by
    have h1 := sum_take_bd h k (by omega)
    have h2 := h _ (List.getElem_mem (show k < l.length by omega))
    rw [sum_take_succ (by omega)]; omega

end Go.Proofs.Ytadgdjjibmofpaa

/- The program's ledger in memory, whose first six cells are the embedded balances, and the functions on balances, each by a walk of its text; conditions: the ledger is valid, and so is the transaction. -/
namespace Go.Proofs.Ytadgdjjibmofpaa
open Go.RowKit

def gd (l : List Int) (i : Nat) : Int := l.getD i 0
theorem gd_at {l : List Int} {i : Nat} (h : i < l.length) : gd l i = l[i] := by unfold gd; simp [List.getD, List.getElem?_eq_getElem h]
theorem gd_bal (l : List Int) (i : Nat) : bal l i = gd l i := by unfold bal gd; simp
def c6 (l : List Int) : Array Value := #[.int .i64 (gd l 0), .int .i64 (gd l 1), .int .i64 (gd l 2), .int .i64 (gd l 3), .int .i64 (gd l 4), .int .i64 (gd l 5)]
def c7 (l : List Int) (n : Int) : Array Value := #[.int .i64 (gd l 0), .int .i64 (gd l 1), .int .i64 (gd l 2), .int .i64 (gd l 3), .int .i64 (gd l 4), .int .i64 (gd l 5), .int .i64 n]
theorem c7_at (l : List Int) (n : Int) {i : Nat} (h : i < 6) : (c7 l n)[i]? = some (.int .i64 (gd l i)) := by
  match i, h with
  | 0, _ => rfl
  | 1, _ => rfl
  | 2, _ => rfl
  | 3, _ => rfl
  | 4, _ => rfl
  | 5, _ => rfl
theorem c6_at (l : List Int) {i : Nat} (h : i < 6) : (c6 l)[i]? = some (.int .i64 (gd l i)) := by
  match i, h with
  | 0, _ => rfl
  | 1, _ => rfl
  | 2, _ => rfl
  | 3, _ => rfl
  | 4, _ => rfl
  | 5, _ => rfl
theorem six {l : List Int} (h : l.length = 6) : ∃ a b c d e f, l = [a, b, c, d, e, f] := by
  match l, h with
  | [a, b, c, d, e, f], _ => exact ⟨a, b, c, d, e, f, rfl⟩
theorem c7_set {l : List Int} (h : l.length = 6) (n : Int) {i : Nat} (hi : i < 6) (z : Int) : (c7 l n).setIfInBounds i (.int .i64 z) = c7 (l.set i z) n := by
  obtain ⟨a, b, c, d, e, f, rfl⟩ := six h
  match i, hi with
  | 0, _ => rfl
  | 1, _ => rfl
  | 2, _ => rfl
  | 3, _ => rfl
  | 4, _ => rfl
  | 5, _ => rfl
theorem c6_take {l : List Int} (h : l.length = 6) {i : Nat} (hi : i < 6) : (c6 (l.take i)).setIfInBounds i (.int .i64 (gd l i)) = c6 (l.take (i + 1)) := by
  obtain ⟨a, b, c, d, e, f, rfl⟩ := six h
  match i, hi with
  | 0, _ => rfl
  | 1, _ => rfl
  | 2, _ => rfl
  | 3, _ => rfl
  | 4, _ => rfl
  | 5, _ => rfl
/-- The balances are those of a ledger. -/
def okB (l : List Int) : Bool := l.all balB && decide (l.length = 6)
theorem okB_ld (l : List Int) (n : Int) : ldB l n = (okB l && decide (0 ≤ n ∧ n ≤ 5994)) := by unfold ldB okB; rw [Bool.and_assoc]

/-- What balancesOf answers. -/
def BoP (w : World) (l : List Int) (e : Ending) (w' : World) : Prop := ((okB l = true ∧ e = .returned (.tuple #[.agg (c6 l), .bool true])) ∨ (okB l = false ∧ e = .returned (.tuple #[.agg #[.int .i64 0, .int .i64 0, .int .i64 0, .int .i64 0, .int .i64 0, .int .i64 0], .bool false]))) ∧ Below w.heap.size w w'
set_option maxHeartbeats 4000000 in
theorem lg_balancesOf (a : Option Addr) (cap : Nat) (l : List Int) (w : World) (hbig : l.length ≤ 1099511627776) (hl : IntsAt w a l) :
    Calls Try.prog 40 #[.slice a l.length cap] w (BoP w l) := by
  have hb0 : Below w.heap.size w ((w.alloc (.cells #[.int .i64 0, .int .i64 0, .int .i64 0, .int .i64 0, .int .i64 0, .int .i64 0] 60)).alloc (.cells #[.int .i64 0, .int .i64 0, .int .i64 0, .int .i64 0, .int .i64 0, .int .i64 0] 60)) := ((Below.refl _ _).alloc (Nat.le_refl _) _).alloc (by simp only [World.size_alloc]; omega) _
  have s1 := (Str.new w 60 #[.int .i64 0, .int .i64 0, .int .i64 0, .int .i64 0, .int .i64 0, .int .i64 0]).alloc (.cells #[.int .i64 0, .int .i64 0, .int .i64 0, .int .i64 0, .int .i64 0, .int .i64 0] 60)
  have s2 := Str.new (w.alloc (.cells #[.int .i64 0, .int .i64 0, .int .i64 0, .int .i64 0, .int .i64 0, .int .i64 0] 60)) 60 #[.int .i64 0, .int .i64 0, .int .i64 0, .int .i64 0, .int .i64 0, .int .i64 0]
  simp only [World.size_alloc] at s2
  have S1 := Lib.hid s1; have S2 := Lib.hid s2; have Hb := Lib.hid hb0; clear s1 s2 hb0
  have hz : ((w.alloc (.cells #[.int .i64 0, .int .i64 0, .int .i64 0, .int .i64 0, .int .i64 0, .int .i64 0] 60)).alloc (.cells #[.int .i64 0, .int .i64 0, .int .i64 0, .int .i64 0, .int .i64 0, .int .i64 0] 60)).heap.size = w.heap.size + 2 := by simp
  have hyes : ∀ e w', okB l = true → e = .returned (.tuple #[.agg (c6 l), .bool true]) → Below w.heap.size w w' → BoP w l e w' := fun e w' h1 h2 h3 => ⟨.inl ⟨h1, h2⟩, h3⟩
  have hno : ∀ e w', okB l = false → e = .returned (.tuple #[.agg #[.int .i64 0, .int .i64 0, .int .i64 0, .int .i64 0, .int .i64 0, .int .i64 0], .bool false]) → Below w.heap.size w w' → BoP w l e w' := fun e w' h1 h2 h3 => ⟨.inr ⟨h1, h2⟩, h3⟩
  have Hyes := Lib.hid hyes; have Hno := Lib.hid hno; clear hyes hno
  generalize BoP w l = POST at *
  go_enter Try.func40, Try.ntmps40
  by_cases h6 : l.length = 6
  case neg =>
    have hn1 : ((l.length : Int) == 6) = false := by rw [beq_eq_false_iff_ne]; omega
    have hn2 : ((l.length : Int) != 6) = true := by rw [bne, hn1]; rfl
    have Hok := Lib.hid (show okB l = false by unfold okB; rw [decide_eq_false h6, Bool.and_false])
    clear h6 hl
    go_wp2
    refine bodyPost_ret (v := .tuple #[.agg #[.int .i64 0, .int .i64 0, .int .i64 0, .int .i64 0, .int .i64 0, .int .i64 0], .bool false]) (by simp [results, Try.f40, go_sem]) rfl ?_
    exact Hno.out _ _ Hok.out rfl Hb.out
  have hn1 : ((l.length : Int) == 6) = true := by rw [beq_iff_eq]; omega
  have hn2 : ((l.length : Int) != 6) = false := by rw [bne, hn1]; rfl
  have H6 := Lib.hid h6
  have hle6 : l.length ≤ 6 := by omega
  rcases hl with rfl | ⟨b, off, rfl, hbw, hc⟩
  · exact absurd h6 (by simp)
  clear h6 hbig
  have Hc := Lib.hid (fun j (h : j < l.length) => (Hb.out.cell (p := ⟨b, off + j, none⟩) hbw).trans (hc j h)); clear hc
  go_wp2
  generalize ((w.alloc (.cells #[.int .i64 0, .int .i64 0, .int .i64 0, .int .i64 0, .int .i64 0, .int .i64 0] 60)).alloc (.cells #[.int .i64 0, .int .i64 0, .int .i64 0, .int .i64 0, .int .i64 0, .int .i64 0] 60)) = W0 at *
  go_loopw [13] (fun i wr => ∃ k : Nat, k ≤ l.length ∧ i = .int .i64 k ∧ Pre balB l k ∧ Str wr w.heap.size 60 #[.int .i64 0, .int .i64 0, .int .i64 0, .int .i64 0, .int .i64 0, .int .i64 0] ∧ Str wr (w.heap.size + 1) 60 (c6 (l.take k)) ∧ Below w.heap.size w wr ∧ ∀ j (h : j < l.length), wr.cell? ⟨b, off + j, none⟩ = some (.int .i64 l[j])) (fun i _ => l.length - (intOf i).toNat)
  case atStart => exact ⟨0, by omega, rfl, pre_zero _ _, S1.out, S2.out, Hb.out, Hc.out⟩
  case round =>
    clear S1 S2 Hb Hc hz
    obtain ⟨k, hk, rfl, hp, hs1, hs2, hb, hc⟩ := hrel
    have Hp := Lib.hid hp; have S1 := Lib.hid hs1; have S2 := Lib.hid hs2; have Hb := Lib.hid hb; have Hc := Lib.hid hc; clear hp hs1 hs2 hb hc
    by_cases hlt : k < l.length
    case pos =>
      have hcell := Hc.out k hlt
      have hlt' : (k : Int) < (l.length : Int) := by omega
      have hk6 : k < 6 := by omega
      have hk6' : (k : Int) < 6 := by omega
      have HV := Lib.hid (fun W => lg_isBalance l[k] W)
      have Hst := Lib.hid (show (c6 (l.take k)).setIfInBounds k (.int .i64 l[k]) = c6 (l.take (k + 1)) by rw [← gd_at hlt]; exact c6_take H6.out hk6)
      have Hpv := Lib.hid (fun h => pre_step (p := balB) Hp.out hlt h)
      have Hbad := Lib.hid (fun (h : balB l[k] = false) => (show okB l = false by unfold okB; rw [pre_not hlt h]; rfl))
      have y9 := S2.out.frozen k
      have q9 := S2.out.cell k (c6_at (l.take k) hk6)
      have HB := Lib.hid (show balB l[k] = decide (0 ≤ l[k] ∧ l[k] ≤ 999) from rfl)
      generalize decide (0 ≤ l[k] ∧ l[k] ≤ 999) = bb at *
      generalize balB l[k] = b2 at *
      obtain rfl := HB.out
      generalize l[k] = xk at *
      go_wp2_with fail
      refine (HV.out _).mono ?_
      rintro e w2 ⟨rfl, rfl⟩
      cases b2 with
      | false =>
        have Hok := Lib.hid (Hbad.out rfl)
        clear Hbad
        have y0 := S1.out.frozen 0
        have q0 := S1.out.cell 0 (v := .int .i64 0) rfl
        have y1 := S1.out.frozen 1
        have q1 := S1.out.cell 1 (v := .int .i64 0) rfl
        have y2 := S1.out.frozen 2
        have q2 := S1.out.cell 2 (v := .int .i64 0) rfl
        have y3 := S1.out.frozen 3
        have q3 := S1.out.cell 3 (v := .int .i64 0) rfl
        have y4 := S1.out.frozen 4
        have q4 := S1.out.cell 4 (v := .int .i64 0) rfl
        have y5 := S1.out.frozen 5
        have q5 := S1.out.cell 5 (v := .int .i64 0) rfl
        have sF := ((((((S1.out.set 0 (.int .i64 0)).set 1 (.int .i64 0)).set 2 (.int .i64 0)).set 3 (.int .i64 0)).set 4 (.int .i64 0)).set 5 (.int .i64 0))
        have bF := ((((((Hb.out.setCell (p := ⟨w.heap.size, 0, none⟩) (by simp only; omega) (.int .i64 0)).setCell (p := ⟨w.heap.size, 1, none⟩) (by simp only; omega) (.int .i64 0)).setCell (p := ⟨w.heap.size, 2, none⟩) (by simp only; omega) (.int .i64 0)).setCell (p := ⟨w.heap.size, 3, none⟩) (by simp only; omega) (.int .i64 0)).setCell (p := ⟨w.heap.size, 4, none⟩) (by simp only; omega) (.int .i64 0)).setCell (p := ⟨w.heap.size, 5, none⟩) (by simp only; omega) (.int .i64 0))
        have e0 := sF.cell 0 (v := .int .i64 0) rfl
        have e1 := sF.cell 1 (v := .int .i64 0) rfl
        have e2 := sF.cell 2 (v := .int .i64 0) rfl
        have e3 := sF.cell 3 (v := .int .i64 0) rfl
        have e4 := sF.cell 4 (v := .int .i64 0) rfl
        have e5 := sF.cell 5 (v := .int .i64 0) rfl
        have BF := Lib.hid bF; clear bF sF
        go_wp2
        refine bodyPost_ret (v := .tuple #[.agg #[.int .i64 0, .int .i64 0, .int .i64 0, .int .i64 0, .int .i64 0, .int .i64 0], .bool false]) (by simp [results, Try.f40, go_sem, e0, e1, e2, e3, e4, e5]) rfl ?_
        exact Hno.out _ _ Hok.out rfl BF.out
      | true =>
        have Hpt := Lib.hid (Hpv.out rfl)
        go_wp2
        go_roundw
        case rel =>
          refine ⟨k + 1, by omega, by go_num, Hpt.out, S1.out.other (by omega) _ _, ?_, Hb.out.setCell (p := ⟨w.heap.size + 1, k, none⟩) (by simp only; omega) _, fun j hj => ?_⟩
          · rw [← Hst.out]; exact S2.out.set k _
          · have h9 := Hc.out j hj
            exact (World.cell?_setCell_other _ _ _ _ (by simp only [ne_eq, Addr.mk.injEq]; omega)).trans h9
        case measure => simp [intOf]; omega
    case neg =>
      have hk6 : l.take k = l := List.take_of_length_le (by omega)
      have hlt' : ¬ (k : Int) < (l.length : Int) := by omega
      have s2 := S2.out
      rw [hk6] at s2
      have S2 := Lib.hid s2; clear s2 hk6
      have Hok := Lib.hid (show okB l = true by unfold okB; rw [pre_all Hp.out (by omega), decide_eq_true H6.out]; rfl)
      have y0 := S1.out.frozen 0
      have q0 := S1.out.cell 0 (v := .int .i64 0) rfl
      have b0 := S2.out.cell 0 (v := .int .i64 (gd l 0)) rfl
      have y1 := S1.out.frozen 1
      have q1 := S1.out.cell 1 (v := .int .i64 0) rfl
      have b1 := S2.out.cell 1 (v := .int .i64 (gd l 1)) rfl
      have y2 := S1.out.frozen 2
      have q2 := S1.out.cell 2 (v := .int .i64 0) rfl
      have b2 := S2.out.cell 2 (v := .int .i64 (gd l 2)) rfl
      have y3 := S1.out.frozen 3
      have q3 := S1.out.cell 3 (v := .int .i64 0) rfl
      have b3 := S2.out.cell 3 (v := .int .i64 (gd l 3)) rfl
      have y4 := S1.out.frozen 4
      have q4 := S1.out.cell 4 (v := .int .i64 0) rfl
      have b4 := S2.out.cell 4 (v := .int .i64 (gd l 4)) rfl
      have y5 := S1.out.frozen 5
      have q5 := S1.out.cell 5 (v := .int .i64 0) rfl
      have b5 := S2.out.cell 5 (v := .int .i64 (gd l 5)) rfl
      have sF := ((((((S1.out.set 0 (.int .i64 (gd l 0))).set 1 (.int .i64 (gd l 1))).set 2 (.int .i64 (gd l 2))).set 3 (.int .i64 (gd l 3))).set 4 (.int .i64 (gd l 4))).set 5 (.int .i64 (gd l 5)))
      have bF := ((((((Hb.out.setCell (p := ⟨w.heap.size, 0, none⟩) (by simp only; omega) (.int .i64 (gd l 0))).setCell (p := ⟨w.heap.size, 1, none⟩) (by simp only; omega) (.int .i64 (gd l 1))).setCell (p := ⟨w.heap.size, 2, none⟩) (by simp only; omega) (.int .i64 (gd l 2))).setCell (p := ⟨w.heap.size, 3, none⟩) (by simp only; omega) (.int .i64 (gd l 3))).setCell (p := ⟨w.heap.size, 4, none⟩) (by simp only; omega) (.int .i64 (gd l 4))).setCell (p := ⟨w.heap.size, 5, none⟩) (by simp only; omega) (.int .i64 (gd l 5)))
      have e0 := sF.cell 0 (v := .int .i64 (gd l 0)) rfl
      have e1 := sF.cell 1 (v := .int .i64 (gd l 1)) rfl
      have e2 := sF.cell 2 (v := .int .i64 (gd l 2)) rfl
      have e3 := sF.cell 3 (v := .int .i64 (gd l 3)) rfl
      have e4 := sF.cell 4 (v := .int .i64 (gd l 4)) rfl
      have e5 := sF.cell 5 (v := .int .i64 (gd l 5)) rfl
      have BF := Lib.hid bF; clear bF sF
      go_wp2
      refine bodyPost_ret (v := .tuple #[.agg (c6 l), .bool true]) (by simp [results, Try.f40, go_sem, e0, e1, e2, e3, e4, e5, c6]) rfl ?_
      exact Hyes.out _ _ Hok.out rfl BF.out

end Go.Proofs.Ytadgdjjibmofpaa

/- The program's functions on the balances that a ledger embeds (sum, allows, move), each by a walk of its text; conditions: the ledger and the transaction are valid. -/
namespace Go.Proofs.Ytadgdjjibmofpaa
open Go.RowKit

theorem lg_drewN {B : Nat} {w W : World} (h : Below B w W) (k : Nat) : Below B w (W.drewN k) := ⟨h.os, h.tape, h.output, h.size, h.block⟩
/-- Block B is the program's ledger of these balances and fees. -/
abbrev Lg (T : TypeId) (W : World) (B : Nat) (l : List Int) (n : Int) : Prop := Str W B T (c7 l n)
theorem Lg.at {T : TypeId} {W : World} {B : Nat} {l : List Int} {n : Int} (h : Lg T W B l n) {i : Nat} (hi : i < 6) : W.cell? ⟨B, i, none⟩ = some (.int .i64 (gd l i)) := Str.cell h i (c7_at l n hi)
theorem Lg.fees {T : TypeId} {W : World} {B : Nat} {l : List Int} {n : Int} (h : Lg T W B l n) : W.cell? ⟨B, 6, none⟩ = some (.int .i64 n) := Str.cell h 6 rfl
theorem Lg.setb {T : TypeId} {W : World} {B : Nat} {l : List Int} {n : Int} (h : Lg T W B l n) (h6 : l.length = 6) {i : Nat} (hi : i < 6) (z : Int) : Lg T (W.setCell ⟨B, i, none⟩ (.int .i64 z)) B (l.set i z) n := by
  have := Str.set h i (.int .i64 z)
  rw [c7_set h6 n hi z] at this
  exact this
theorem Lg.setf {T : TypeId} {W : World} {B : Nat} {l : List Int} {n : Int} (h : Lg T W B l n) (z : Int) : Lg T (W.setCell ⟨B, 6, none⟩ (.int .i64 z)) B l z := Str.set h 6 (.int .i64 z)

set_option maxHeartbeats 1000000 in
theorem lg_sum (B : Nat) (l : List Int) (n : Int) (w : World) (hv : ldB l n = true) (hs : Lg 62 w B l n) :
    Calls Try.prog 36 #[.pointer (some ⟨B, 0, none⟩)] w fun e w' => e = .returned (.int .i64 l.sum) ∧ w = w' := by
  obtain ⟨hv1, hv2, hv3, hv4⟩ := ldB_iff.1 hv
  have Hbd := Lib.hid (sum_take_bd hv1)
  have Hv1 := Lib.hid hv1; clear hv1 hv
  have H6 := Lib.hid hv2; clear hv2
  have Hs := Lib.hid hs; clear hs
  go_enter Try.func36, Try.ntmps36
  go_wp2
  go_loop [3, 7] (fun s i => ∃ k : Nat, k ≤ 6 ∧ i = .int .i64 k ∧ s = .int .i64 (l.take k).sum) (fun _ i => 6 - (intOf i).toNat)
  case atStart => exact ⟨0, by omega, rfl, by simp⟩
  case round =>
    obtain ⟨k, hk, rfl, rfl⟩ := hrel
    by_cases hlt : k < 6
    · have hlt' : (k : Int) < 6 := by omega
      have hkl : k < l.length := by have := H6.out; omega
      have hcell := Hs.out.at hlt
      have h1 := Hbd.out k (by omega)
      have h2 := Hv1.out _ (List.getElem_mem hkl)
      have Hz := Lib.hid (sum_take_succ hkl)
      rw [gd_at hkl] at hcell
      generalize (l.take k).sum = S at *
      generalize l[k] = x at *
      clear hkl
      have hw : IntKind.i64.wrap (S + x) = S + x := IntWalk.i64_in _ (by omega)
      go_wp2
      go_round
      case rel => exact ⟨k + 1, by omega, by go_num, by rw [Hz.out]⟩
      case measure => simp [intOf]; omega
    · have hlt' : ¬ (k : Int) < 6 := by omega
      have Ht := Lib.hid (show (l.take k).sum = l.sum by rw [List.take_of_length_le (by have := H6.out; omega)])
      generalize (l.take k).sum = S at *
      go_wp2
      go_ret
      exact ⟨ret_int Ht.out, rfl⟩

set_option maxHeartbeats 2000000 in
theorem lg_allows (B : Nat) (l : List Int) (n : Int) (x : Tx) (w : World) (hv : ldB l n = true) (hx : txB x = true) (hs : Lg 62 w B l n) :
    Calls Try.prog 41 #[.pointer (some ⟨B, 0, none⟩), agT x] w fun e w' => e = .returned (.bool (okT l x)) ∧ Below w.heap.size w w' := by
  obtain ⟨hv1, hv2, hv3, hv4⟩ := ldB_iff.1 hv
  obtain ⟨hx1, hx2, hx3, hx4, hx5⟩ := txB_iff.1 hx
  have Hv := Lib.hid hv; have Hx := Lib.hid hx; clear hv hx
  obtain ⟨f, t, s, ee⟩ := x
  dsimp only at *
  obtain ⟨i, rfl⟩ : ∃ i : Nat, f = i := ⟨f.toNat, by omega⟩
  obtain ⟨j, rfl⟩ : ∃ j : Nat, t = j := ⟨t.toNat, by omega⟩
  have hi6 : i < 6 := by omega
  have hj6 : j < 6 := by omega
  have hi6' : (i : Int) < 6 := by omega
  have hj6' : (j : Int) < 6 := by omega
  have hij : i ≠ j := by omega
  have hbi := bal_bd (i := (i : Int)) Hv.out
  have hbj := bal_bd (i := (j : Int)) Hv.out
  rw [gd_bal] at hbi hbj
  have H6 := Lib.hid hv2; have Hx3 := Lib.hid hx3; clear hv1 hv2 hx3
  have Hok := Lib.hid (show okT l ⟨i, j, s, ee⟩ = (decide (s + ee ≤ gd l i) && decide (gd l j + s ≤ 999)) from by unfold okT; rw [Hx.out, gd_bal, gd_bal]; rfl)
  have hb0 : Below w.heap.size w (w.alloc (.cells #[.int .i64 i, .int .i64 j, .int .i64 s, .int .i64 ee] 27)) := (Below.refl _ _).alloc (Nat.le_refl _) _
  have s0 := Str.new w 27 #[.int .i64 i, .int .i64 j, .int .i64 s, .int .i64 ee]
  have s9 : Lg 62 (w.alloc (.cells #[.int .i64 i, .int .i64 j, .int .i64 s, .int .i64 ee] 27)) B l n := Str.alloc hs _
  have x0 := s0.cell 0 (v := .int .i64 i) rfl
  have x1 := s0.cell 1 (v := .int .i64 j) rfl
  have x2 := s0.cell 2 (v := .int .i64 s) rfl
  have x3 := s0.cell 3 (v := .int .i64 ee) rfl
  have ci := s9.at hi6
  have cj := s9.at hj6
  have Hb := Lib.hid hb0; clear hb0 s0 s9 hs
  generalize gd l i = bi at *
  generalize gd l j = bj at *
  have w1' : IntKind.i64.wrap (s + ee) = s + ee := IntWalk.i64_in _ (by omega)
  have w2' : IntKind.i64.wrap (bj + s) = bj + s := IntWalk.i64_in _ (by omega)
  unfold agT
  dsimp only
  go_enter Try.func41, Try.ntmps41
  go_wp2
  generalize (w.alloc (.cells #[.int .i64 i, .int .i64 j, .int .i64 s, .int .i64 ee] 27)) = W0 at *
  by_cases h1 : s + ee ≤ bi
  · have d1 : decide (s + ee ≤ bi) = true := decide_eq_true h1
    have Hok := Lib.hid (Hok.out.trans (by rw [d1, Bool.true_and]))
    go_quiet (fail)
    go_wp2
    go_ret
    exact ⟨ret_bool Hok.out.symm, lg_drewN Hb.out _⟩
  · have d1 : decide (s + ee ≤ bi) = false := decide_eq_false h1
    have Hok := Lib.hid (Hok.out.trans (by rw [d1, Bool.false_and]))
    go_quiet (fail)
    go_wp2
    go_ret
    exact ⟨ret_bool Hok.out.symm, lg_drewN Hb.out _⟩

theorem lg_drew {w W : World} {B : Nat} (h : w.grownBy W (some B)) : w.grownBy W.drew (some B) := grownBy_trans h ⟨rfl, rfl, rfl, Nat.le_refl _, fun _ _ _ => rfl⟩
set_option maxHeartbeats 4000000 in
theorem lg_move (B : Nat) (l : List Int) (n : Int) (x : Tx) (w : World) (hv : ldB l n = true) (hx : okT l x = true) (hs : Lg 62 w B l n) :
    Calls Try.prog 42 #[.pointer (some ⟨B, 0, none⟩), agT x] w fun e w' => e = .returned (.tuple #[]) ∧ Lg 62 w' B (apL l x) n ∧ w.grownBy w' (some B) := by
  have hok := hx
  obtain ⟨hx, hlow, hhigh⟩ := okT_iff.1 hok
  have Hok := Lib.hid hok; clear hok
  obtain ⟨hv1, hv2, hv3, hv4⟩ := ldB_iff.1 hv
  obtain ⟨hx1, hx2, hx3, hx4, hx5⟩ := txB_iff.1 hx
  have Hv := Lib.hid hv; have Hx := Lib.hid hx; clear hv hx
  obtain ⟨f, t, s, ee⟩ := x
  dsimp only at *
  obtain ⟨i, rfl⟩ : ∃ i : Nat, f = i := ⟨f.toNat, by omega⟩
  obtain ⟨j, rfl⟩ : ∃ j : Nat, t = j := ⟨t.toNat, by omega⟩
  have hi6 : i < 6 := by omega
  have hj6 : j < 6 := by omega
  have hi6' : (i : Int) < 6 := by omega
  have hj6' : (j : Int) < 6 := by omega
  have hij : i ≠ j := by omega
  have hbi := bal_bd (i := (i : Int)) Hv.out
  have hbj := bal_bd (i := (j : Int)) Hv.out
  rw [gd_bal] at hbi hbj
  rw [gd_bal] at hlow hhigh
  have H6 := Lib.hid hv2; have Hx3 := Lib.hid hx3; clear hv1 hv2 hx3
  have Hap := Lib.hid (show (l.set i (gd l i - (s + ee))).set j (gd l j + s) = apL l ⟨i, j, s, ee⟩ from by rw [(ap_yes (n := n) Hok.out).1, gd_bal, gd_bal]; simp only [Int.toNat_natCast]; congr 2; omega)
  have Hgj := Lib.hid (show gd (l.set i (gd l i - (s + ee))) j = gd l j from by rw [gd_at (l := l.set i (gd l i - (s + ee))) (by rw [List.length_set, H6.out]; exact hj6), List.getElem_set_ne hij, gd_at (l := l) (i := j) (by rw [H6.out]; exact hj6)])
  have hg0 := World.grownBy_alloc w (.cells #[.int .i64 i, .int .i64 j, .int .i64 s, .int .i64 ee] 27) (some B)
  have s0 := Str.new w 27 #[.int .i64 i, .int .i64 j, .int .i64 s, .int .i64 ee]
  have s9 : Lg 62 (w.alloc (.cells #[.int .i64 i, .int .i64 j, .int .i64 s, .int .i64 ee] 27)) B l n := Str.alloc hs _
  have hBw := hs.lt
  have Hg := Lib.hid hg0; have S0 := Lib.hid s0; have S9 := Lib.hid s9; clear hg0 s0 s9 hs
  obtain ⟨bi, hbie⟩ : ∃ z, z = gd l i := ⟨_, rfl⟩
  obtain ⟨bj, hbje⟩ : ∃ z, z = gd l j := ⟨_, rfl⟩
  rw [← hbie] at hbi hlow Hap Hgj
  rw [← hbje] at hbj hhigh Hap Hgj
  have Hbi := Lib.hid hbie; have Hbj := Lib.hid hbje; clear hbie hbje
  have w1' : IntKind.i64.wrap (s + ee) = s + ee := IntWalk.i64_in _ (by omega)
  have w2' : IntKind.i64.wrap (bj + s) = bj + s := IntWalk.i64_in _ (by omega)
  have w3' : IntKind.i64.wrap (bi - (s + ee)) = bi - (s + ee) := IntWalk.i64_in _ (by omega)
  unfold agT
  dsimp only
  go_enter Try.func42, Try.ntmps42
  go_wp2_with fail
  generalize (w.alloc (.cells #[.int .i64 i, .int .i64 j, .int .i64 s, .int .i64 ee] 27)) = W0 at *
  have hBne : w.heap.size ≠ B := by omega
  have c9 := Lib.hid (show W0.cell? ⟨B, i, none⟩ = some (.int .i64 bi) from by rw [Hbi.out]; exact S9.out.at hi6)
  refine wp_region_L 14 (fun w' => w'.cell? ⟨w.heap.size, 0, none⟩ = some (.int .i64 i) ∧ w'.cell? ⟨w.heap.size, 1, none⟩ = some (.int .i64 j) ∧ w'.cell? ⟨w.heap.size, 2, none⟩ = some (.int .i64 s) ∧ w'.cell? ⟨w.heap.size, 3, none⟩ = some (.int .i64 ee) ∧ w'.cell? ⟨B, i, none⟩ = some (.int .i64 bi)) (by kernel_rfl) ⟨S0.out.cell 0 (v := .int .i64 i) rfl, S0.out.cell 1 (v := .int .i64 j) rfl, S0.out.cell 2 (v := .int .i64 s) rfl, S0.out.cell 3 (v := .int .i64 ee) rfl, c9.out⟩ (fun hH => ?_)
  have S0 := Lib.hid (show Str W0.drew w.heap.size 27 #[.int .i64 i, .int .i64 j, .int .i64 s, .int .i64 ee] from S0.out)
  have S9 := Lib.hid (show Lg 62 W0.drew B (l) n from S9.out)
  have Hg := Lib.hid (lg_drew Hg.out)
  have c9 := Lib.hid (show W0.drew.cell? ⟨B, i, none⟩ = some (.int .i64 bi) from c9.out)
  generalize W0.drew = wd at *
  refine takeL 0 (v := ?vmv1) rfl (by kernel_rfl) (by kernel_rfl) (by kernel_rfl) (by kernel_rfl) (by kernel_rfl) (fun _ _ _ h => h) hH rfl ?ymv1 ?rmv1
  case ymv1 => intro W hSw; go_simp; try with_reducible rfl
  try simp only [Act.put, List.setIfInBounds_toArray, List.set_cons_zero, List.set_cons_succ]
  refine takeL 1 (v := ?vmv2) rfl (by kernel_rfl) (by kernel_rfl) (by kernel_rfl) (by kernel_rfl) (by kernel_rfl) (fun _ _ _ h => h) hH rfl ?ymv2 ?rmv2
  case ymv2 => intro W hSw; go_simp; try with_reducible rfl
  try simp only [Act.put, List.setIfInBounds_toArray, List.set_cons_zero, List.set_cons_succ]
  refine takeL 2 (v := ?vmv3) rfl (by kernel_rfl) (by kernel_rfl) (by kernel_rfl) (by kernel_rfl) (by kernel_rfl) (fun _ _ _ h => h) hH rfl ?ymv3 ?rmv3
  case ymv3 => intro W hSw; go_simp; try with_reducible rfl
  try simp only [Act.put, List.setIfInBounds_toArray, List.set_cons_zero, List.set_cons_succ]
  refine takeL 3 (v := ?vmv4) rfl (by kernel_rfl) (by kernel_rfl) (by kernel_rfl) (by kernel_rfl) (by kernel_rfl) (fun _ _ _ h => h) hH rfl ?ymv4 ?rmv4
  case ymv4 => intro W hSw; go_simp; try with_reducible rfl
  try simp only [Act.put, List.setIfInBounds_toArray, List.set_cons_zero, List.set_cons_succ]
  refine takeL 4 (v := ?vmv5) rfl (by kernel_rfl) (by kernel_rfl) (by kernel_rfl) (by kernel_rfl) (by kernel_rfl) (fun _ _ _ h => h) hH rfl ?ymv5 ?rmv5
  case ymv5 => intro W hSw; go_simp; try with_reducible rfl
  try simp only [Act.put, List.setIfInBounds_toArray, List.set_cons_zero, List.set_cons_succ]
  refine takeL 5 (v := ?vmv6) rfl (by kernel_rfl) (by kernel_rfl) (by kernel_rfl) (by kernel_rfl) (by kernel_rfl) (fun _ _ _ h => h) hH rfl ?ymv6 ?rmv6
  case ymv6 => intro W hSw; go_simp; try with_reducible rfl
  try simp only [Act.put, List.setIfInBounds_toArray, List.set_cons_zero, List.set_cons_succ]
  refine takeL 6 (v := ?vmv7) rfl (by kernel_rfl) (by kernel_rfl) (by kernel_rfl) (by kernel_rfl) (by kernel_rfl) (fun _ _ _ h => h) hH rfl ?ymv7 ?rmv7
  case ymv7 => intro W hSw; go_simp; try with_reducible rfl
  try simp only [Act.put, List.setIfInBounds_toArray, List.set_cons_zero, List.set_cons_succ]
  refine takeL 7 (v := ?vmv8) rfl (by kernel_rfl) (by kernel_rfl) (by kernel_rfl) (by kernel_rfl) (by kernel_rfl) (fun _ _ _ h => h) hH rfl ?ymv8 ?rmv8
  case ymv8 => intro W hSw; go_simp; try with_reducible rfl
  try simp only [Act.put, List.setIfInBounds_toArray, List.set_cons_zero, List.set_cons_succ]
  refine takeL 8 (v := ?vmv9) rfl (by kernel_rfl) (by kernel_rfl) (by kernel_rfl) (by kernel_rfl) (by kernel_rfl) (fun _ _ _ h => h) hH rfl ?ymv9 ?rmv9
  case ymv9 => intro W hSw; go_simp; try with_reducible rfl
  try simp only [Act.put, List.setIfInBounds_toArray, List.set_cons_zero, List.set_cons_succ]
  refine takeL 9 (v := ?vmv10) rfl (by kernel_rfl) (by kernel_rfl) (by kernel_rfl) (by kernel_rfl) (by kernel_rfl) (fun _ _ _ h => h) hH rfl ?ymv10 ?rmv10
  case ymv10 => intro W hSw; go_simp; try with_reducible rfl
  try simp only [Act.put, List.setIfInBounds_toArray, List.set_cons_zero, List.set_cons_succ]
  refine takeL 10 (v := .int .i64 (s + ee)) rfl (by kernel_rfl) (by kernel_rfl) (by kernel_rfl) (by kernel_rfl) (by kernel_rfl) (fun _ _ _ h => h) hH rfl ?ymv11 ?rmv11
  case ymv11 => intro W hSw; go_simp; first | done | (simp [w1'])
  try simp only [Act.put, List.setIfInBounds_toArray, List.set_cons_zero, List.set_cons_succ]
  refine takeL 11 (v := .int .i64 (bi - (s + ee))) rfl (by kernel_rfl) (by kernel_rfl) (by kernel_rfl) (by kernel_rfl) (by kernel_rfl) (fun _ _ _ h => h) hH rfl ?ymv12 ?rmv12
  case ymv12 => intro W hSw; go_simp; first | done | (simp [w3'])
  try simp only [Act.put, List.setIfInBounds_toArray, List.set_cons_zero, List.set_cons_succ]
  refine callL 12 rfl (by kernel_rfl) rfl (fun K hK => ?_)
  go_simp
  refine hK.out _ _ ⟨S0.out.cell 0 (v := .int .i64 i) rfl, S0.out.cell 1 (v := .int .i64 j) rfl, S0.out.cell 2 (v := .int .i64 s) rfl, S0.out.cell 3 (v := .int .i64 ee) rfl, c9.out⟩ (fun hH => ?_)
  clear hK K
  try simp only [Act.put, List.setIfInBounds_toArray, List.set_cons_zero, List.set_cons_succ]
  refine takeL 13 (v := ?vmv13) rfl (by kernel_rfl) (by kernel_rfl) (by kernel_rfl) (by kernel_rfl) (by kernel_rfl) (fun _ _ _ h => h) hH rfl ?ymv13 ?rmv13
  case ymv13 => intro W hSw; go_simp; try with_reducible rfl
  try simp only [Act.put, List.setIfInBounds_toArray, List.set_cons_zero, List.set_cons_succ]
  refine lastL rfl (by kernel_rfl) (by kernel_rfl) (by kernel_rfl) rfl (fun K hK => ?_)
  have y9 := S9.out.frozen i
  have q9 := c9.out
  go_simp
  clear y9 q9
  have S0 := Lib.hid (S0.out.other (B' := B) (by omega) i (.int .i64 (bi - (s + ee))))
  have S9 := Lib.hid (S9.out.setb (by first | exact H6.out | (rw [List.length_set]; exact H6.out)) hi6 (bi - (s + ee)))
  have Hg := Lib.hid (grownBy_trans Hg.out (grownBy_set wd B i (.int .i64 (bi - (s + ee)))))
  refine hK.out _ _ ?_
  clear hK K hH c9
  try simp only [Act.put]
  generalize (wd.setCell ⟨B, i, none⟩ (.int .i64 (bi - (s + ee)))) = W5 at *
  go_wp2_with fail
  have c9 := Lib.hid (show W5.cell? ⟨B, j, none⟩ = some (.int .i64 bj) from by rw [← Hgj.out]; exact S9.out.at hj6)
  refine wp_region_L 11 (fun w' => w'.cell? ⟨w.heap.size, 0, none⟩ = some (.int .i64 i) ∧ w'.cell? ⟨w.heap.size, 1, none⟩ = some (.int .i64 j) ∧ w'.cell? ⟨w.heap.size, 2, none⟩ = some (.int .i64 s) ∧ w'.cell? ⟨w.heap.size, 3, none⟩ = some (.int .i64 ee) ∧ w'.cell? ⟨B, j, none⟩ = some (.int .i64 bj)) (by kernel_rfl) ⟨S0.out.cell 0 (v := .int .i64 i) rfl, S0.out.cell 1 (v := .int .i64 j) rfl, S0.out.cell 2 (v := .int .i64 s) rfl, S0.out.cell 3 (v := .int .i64 ee) rfl, c9.out⟩ (fun hH => ?_)
  have S0 := Lib.hid (show Str W5.drew w.heap.size 27 #[.int .i64 i, .int .i64 j, .int .i64 s, .int .i64 ee] from S0.out)
  have S9 := Lib.hid (show Lg 62 W5.drew B (l.set i (bi - (s + ee))) n from S9.out)
  have Hg := Lib.hid (lg_drew Hg.out)
  have c9 := Lib.hid (show W5.drew.cell? ⟨B, j, none⟩ = some (.int .i64 bj) from c9.out)
  generalize W5.drew = wd at *
  refine takeL 0 (v := ?vmv14) rfl (by kernel_rfl) (by kernel_rfl) (by kernel_rfl) (by kernel_rfl) (by kernel_rfl) (fun _ _ _ h => h) hH rfl ?ymv14 ?rmv14
  case ymv14 => intro W hSw; go_simp; try with_reducible rfl
  try simp only [Act.put, List.setIfInBounds_toArray, List.set_cons_zero, List.set_cons_succ]
  refine takeL 1 (v := ?vmv15) rfl (by kernel_rfl) (by kernel_rfl) (by kernel_rfl) (by kernel_rfl) (by kernel_rfl) (fun _ _ _ h => h) hH rfl ?ymv15 ?rmv15
  case ymv15 => intro W hSw; go_simp; try with_reducible rfl
  try simp only [Act.put, List.setIfInBounds_toArray, List.set_cons_zero, List.set_cons_succ]
  refine takeL 2 (v := ?vmv16) rfl (by kernel_rfl) (by kernel_rfl) (by kernel_rfl) (by kernel_rfl) (by kernel_rfl) (fun _ _ _ h => h) hH rfl ?ymv16 ?rmv16
  case ymv16 => intro W hSw; go_simp; try with_reducible rfl
  try simp only [Act.put, List.setIfInBounds_toArray, List.set_cons_zero, List.set_cons_succ]
  refine takeL 3 (v := ?vmv17) rfl (by kernel_rfl) (by kernel_rfl) (by kernel_rfl) (by kernel_rfl) (by kernel_rfl) (fun _ _ _ h => h) hH rfl ?ymv17 ?rmv17
  case ymv17 => intro W hSw; go_simp; try with_reducible rfl
  try simp only [Act.put, List.setIfInBounds_toArray, List.set_cons_zero, List.set_cons_succ]
  refine takeL 4 (v := ?vmv18) rfl (by kernel_rfl) (by kernel_rfl) (by kernel_rfl) (by kernel_rfl) (by kernel_rfl) (fun _ _ _ h => h) hH rfl ?ymv18 ?rmv18
  case ymv18 => intro W hSw; go_simp; try with_reducible rfl
  try simp only [Act.put, List.setIfInBounds_toArray, List.set_cons_zero, List.set_cons_succ]
  refine takeL 5 (v := ?vmv19) rfl (by kernel_rfl) (by kernel_rfl) (by kernel_rfl) (by kernel_rfl) (by kernel_rfl) (fun _ _ _ h => h) hH rfl ?ymv19 ?rmv19
  case ymv19 => intro W hSw; go_simp; try with_reducible rfl
  try simp only [Act.put, List.setIfInBounds_toArray, List.set_cons_zero, List.set_cons_succ]
  refine takeL 6 (v := ?vmv20) rfl (by kernel_rfl) (by kernel_rfl) (by kernel_rfl) (by kernel_rfl) (by kernel_rfl) (fun _ _ _ h => h) hH rfl ?ymv20 ?rmv20
  case ymv20 => intro W hSw; go_simp; try with_reducible rfl
  try simp only [Act.put, List.setIfInBounds_toArray, List.set_cons_zero, List.set_cons_succ]
  refine takeL 7 (v := ?vmv21) rfl (by kernel_rfl) (by kernel_rfl) (by kernel_rfl) (by kernel_rfl) (by kernel_rfl) (fun _ _ _ h => h) hH rfl ?ymv21 ?rmv21
  case ymv21 => intro W hSw; go_simp; try with_reducible rfl
  try simp only [Act.put, List.setIfInBounds_toArray, List.set_cons_zero, List.set_cons_succ]
  refine takeL 8 (v := .int .i64 (bj + s)) rfl (by kernel_rfl) (by kernel_rfl) (by kernel_rfl) (by kernel_rfl) (by kernel_rfl) (fun _ _ _ h => h) hH rfl ?ymv22 ?rmv22
  case ymv22 => intro W hSw; go_simp; first | done | (simp [w2'])
  try simp only [Act.put, List.setIfInBounds_toArray, List.set_cons_zero, List.set_cons_succ]
  refine callL 9 rfl (by kernel_rfl) rfl (fun K hK => ?_)
  go_simp
  refine hK.out _ _ ⟨S0.out.cell 0 (v := .int .i64 i) rfl, S0.out.cell 1 (v := .int .i64 j) rfl, S0.out.cell 2 (v := .int .i64 s) rfl, S0.out.cell 3 (v := .int .i64 ee) rfl, c9.out⟩ (fun hH => ?_)
  clear hK K
  try simp only [Act.put, List.setIfInBounds_toArray, List.set_cons_zero, List.set_cons_succ]
  refine takeL 10 (v := ?vmv23) rfl (by kernel_rfl) (by kernel_rfl) (by kernel_rfl) (by kernel_rfl) (by kernel_rfl) (fun _ _ _ h => h) hH rfl ?ymv23 ?rmv23
  case ymv23 => intro W hSw; go_simp; try with_reducible rfl
  try simp only [Act.put, List.setIfInBounds_toArray, List.set_cons_zero, List.set_cons_succ]
  refine lastL rfl (by kernel_rfl) (by kernel_rfl) (by kernel_rfl) rfl (fun K hK => ?_)
  have y9 := S9.out.frozen j
  have q9 := c9.out
  go_simp
  clear y9 q9
  have S0 := Lib.hid (S0.out.other (B' := B) (by omega) j (.int .i64 (bj + s)))
  have S9 := Lib.hid (S9.out.setb (by first | exact H6.out | (rw [List.length_set]; exact H6.out)) hj6 (bj + s))
  have Hg := Lib.hid (grownBy_trans Hg.out (grownBy_set wd B j (.int .i64 (bj + s))))
  refine hK.out _ _ ?_
  clear hK K hH c9
  try simp only [Act.put]
  generalize (wd.setCell ⟨B, j, none⟩ (.int .i64 (bj + s))) = W6 at *
  go_wp2
  refine bodyPost_end (results_none rfl _ _ _) rfl ?_
  have h9 := S9.out
  rw [Hap.out] at h9
  exact ⟨rfl, h9, Hg.out⟩

end Go.Proofs.Ytadgdjjibmofpaa

/- The library's test whether two lists of ints are the same, and its copy of a list of ints, by walks of their texts; conditions: the lists have fewer than 2^40 elements. -/
namespace Go.Proofs.Ytadgdjjibmofpaa
open Go.RowKit

def EqTo (xs ys : List Int) (k : Nat) : Prop := ∀ j (h : j < xs.length) (h' : j < ys.length), j < k → xs[j] = ys[j]
theorem eqTo_step {xs ys : List Int} {k : Nat} (h : EqTo xs ys k) (hk : k < xs.length) (hk' : k < ys.length) (e : xs[k] = ys[k]) : EqTo xs ys (k + 1) := by
  intro j hj hj' hjk
  by_cases ej : j = k
  · subst ej; exact e
  · exact h j hj hj' (by omega)
theorem eqTo_all {xs ys : List Int} {k : Nat} (h : EqTo xs ys k) (hk : xs.length ≤ k) (hl : xs.length = ys.length) : xs = ys :=
  List.ext_getElem hl fun j h1 h2 => h j h1 h2 (by omega)

theorem lib_Clone (hT : IntT Try.prog 23 3) (pa : Option Addr) (pc : Nat) (ps : List Int) (w : World) (hbp : ps.length ≤ 1099511627776) (hs : SrcAt w pa pc ps) (hi : IntsAt w pa ps) :
    Calls Try.prog 43 #[.slice pa ps.length pc] w fun e w' => ∃ v, e = .returned v ∧ Own 3 w' w.heap.size v ps ∧ Below w.heap.size w w' := by
  have hq : ∀ (w : World) (a : Option Addr) (n c n' c' : Nat), (binOp .eql 23 (.slice a n c) (.slice none n' c')).run Try.prog w = .ok (.bool a.isNone) w := fun w a n c n' c' => Lib.run_eql_slice_nil w _ _ a n c n' c' Try.underlying23
  cases pa with
  | none =>
    have hp0 : ps = [] := by
      rcases hi with h | ⟨b, off, e, _⟩
      · exact h
      · cases e
    subst hp0
    clear hs hi
    go_enter Try.func43, Try.ntmps43
    go_wp2
    go_ret
    exact ⟨_, rfl, Own.nil _ _ _, Below.refl _ _⟩
  | some ad =>
    have hb2 : Below w.heap.size w (w.alloc (.cells #[] 3)) := (Below.refl _ _).alloc (Nat.le_refl _) _
    have ho := own_empty 3 w (Nat.le_refl _)
    have hsrc : SrcAt (w.alloc (.cells #[] 3)) (some ad) pc ps := by
      rcases hs with h | ⟨ad', e, hc⟩
      · exact .inl h
      · cases e
        refine .inr ⟨ad, rfl, fun j hj => ?_⟩
        obtain ⟨b, off, e, hb, _⟩ := hi.cell (by omega)
        cases e
        have := hc j hj
        rw [addr_add'] at this ⊢
        exact (hb2.cell (p := ⟨b, off + j, none⟩) hb).trans this
    have hzs : (w.alloc (.cells #[] 3)).heap.size = w.heap.size + 1 := by simp
    have Ho := Lib.hid ho; clear ho
    have Hsrc := Lib.hid hsrc; clear hsrc
    have Hb2 := Lib.hid hb2; clear hb2 hs hi
    go_enter Try.func43, Try.ntmps43
    go_wp2_with (at_builtin; refine wpList_appI hT rfl _ _ rfl w.heap.size (.slice (some ⟨w.heap.size, 0, none⟩) 0 0) [] ps _ _ rfl Ho.out rfl Hsrc.out (by simp; omega) (by rw [hzs]; omega) ?_; intro v5 w5 hown hg5; (rw [List.nil_append] at hown))
    go_ret
    exact ⟨_, rfl, hown, Hb2.out.grown hg5 (by omega) (fun g e => by cases e; exact Nat.le_refl _)⟩

end Go.Proofs.Ytadgdjjibmofpaa

/- The reference's test of a ledger with space for fees, by a walk of its text; conditions: the list is shorter than 2^40, at most a hundred transactions. -/
namespace Go.Proofs.Ytadgdjjibmofpaa
open Go.RowKit

def roomB (l : List Int) (n m : Int) : Bool := ldB l n && decide (n ≤ 5994 - 9 * m)
set_option maxHeartbeats 1000000 in
theorem spec_l31Room (a : Option Addr) (cap : Nat) (l : List Int) (n m : Int) (w : World) (hbig : l.length ≤ 1099511627776) (hl : IntsAt w a l) (hm : 0 ≤ m ∧ m ≤ 100) :
    Calls Try.prog 31 #[.agg #[.slice a l.length cap, .int .i64 n], .int .i64 m] w fun e w' => e = .returned (.bool (roomB l n m)) ∧ Below w.heap.size w w' := by
  have hb0 : Below w.heap.size w (w.alloc (.cells #[.slice a l.length cap, .int .i64 n] 25)) := (Below.refl _ _).alloc (Nat.le_refl _) _
  have s0 := Str.new w 25 #[.slice a l.length cap, .int .i64 n]
  have k0 := s0.cell 0 (v := .slice a l.length cap) rfl
  have k1 := s0.cell 1 (v := .int .i64 n) rfl
  have Hl := Lib.hid (hl.below hb0); clear hl
  have Hb0 := Lib.hid hb0; clear hb0
  have Hs := Lib.hid s0; clear s0
  have HV := Lib.hid (fun W (h : IntsAt W a l) => spec_LedgerValid a cap l n W hbig h)
  have Hres := Lib.hid (show roomB l n m = (ldB l n && decide (n ≤ 5994 - 9 * m)) from rfl)
  have hw1 : IntKind.i64.wrap (9 * m) = 9 * m := IntWalk.i64_in _ (by omega)
  have hw2 : IntKind.i64.wrap (5994 - 9 * m) = 5994 - 9 * m := IntWalk.i64_in _ (by omega)
  generalize ldB l n = B at *
  go_enter Try.func31, Try.ntmps31
  go_wp2_with fail
  generalize w.alloc (.cells #[.slice a l.length cap, .int .i64 n] 25) = W0 at *
  refine (HV.out W0 Hl.out).mono ?_
  rintro e w1 ⟨rfl, hb1⟩
  have Hb1 := Lib.hid (below_step Hb0.out Hb0.out.size hb1)
  have Hs1 := Lib.hid (show Str w1 w.heap.size 25 #[.slice a l.length cap, .int .i64 n] from (hb1.block _ Hs.out.lt).trans Hs.out)
  clear hb1 k0 k1
  cases B with
  | false =>
    go_wp2
    go_ret
    exact ⟨ret_bool (by rw [Hres.out]; rfl), Hb1.out⟩
  | true =>
  have k1 := Hs1.out.cell 1 (v := .int .i64 n) rfl
  go_wp2
  go_ret
  exact ⟨ret_bool (by rw [Hres.out]; rfl), Hb1.out⟩

end Go.Proofs.Ytadgdjjibmofpaa

/- The reference's copy of a ledger, by a walk of its text; condition: the list has at most 2^20 numbers. -/
namespace Go.Proofs.Ytadgdjjibmofpaa
open Go.RowKit

theorem TIl : IntT Try.prog 23 3 := ⟨Try.underlying23, by kernel_rfl⟩
set_option maxHeartbeats 2000000 in
theorem spec_l31Copy (a : Option Addr) (cap : Nat) (l : List Int) (n : Int) (w : World) (hbig : l.length ≤ 1048576) (hi : IntsAt w a l) (hsrc : SrcAt w a cap l) :
    Calls Try.prog 45 #[.agg #[.slice a l.length cap, .int .i64 n]] w fun e w' => ∃ v, e = .returned (.agg #[v, .int .i64 n]) ∧ Own 3 w' w.heap.size v l ∧ Below w.heap.size w w' := by
  have hb0 : Below w.heap.size w ((w.alloc (.cells #[.slice a l.length cap, .int .i64 n] 25)).alloc (.cells #[.slice none 0 0, .int .i64 0] 25)) := ((Below.refl _ _).alloc (Nat.le_refl _) _).alloc (by simp) _
  have hsrc0 := hsrc.lies hi hb0
  have hi0 := hi.below hb0
  have s1 := (Str.new w 25 #[.slice a l.length cap, .int .i64 n]).alloc (.cells #[.slice none 0 0, .int .i64 0] 25)
  have s2 := Str.new (w.alloc (.cells #[.slice a l.length cap, .int .i64 n] 25)) 25 #[.slice none 0 0, .int .i64 0]
  simp only [World.size_alloc] at s2
  have hz : ((w.alloc (.cells #[.slice a l.length cap, .int .i64 n] 25)).alloc (.cells #[.slice none 0 0, .int .i64 0] 25)).heap.size = w.heap.size + 2 := by simp
  have Hi := Lib.hid hi0; have Hsrc := Lib.hid hsrc0; have Hb := Lib.hid hb0; have S1 := Lib.hid s1; have S2 := Lib.hid s2; clear hi0 hsrc0 hb0 s1 s2 hi hsrc
  go_enter Try.func45, Try.ntmps45
  have k0 := S1.out.cell 0 (v := .slice a l.length cap) rfl
  have k1 := S1.out.cell 1 (v := .int .i64 n) rfl
  go_wp2_with fail
  generalize ((w.alloc (.cells #[.slice a l.length cap, .int .i64 n] 25)).alloc (.cells #[.slice none 0 0, .int .i64 0] 25)) = W0 at *
  clear k0 k1
  refine wp_region_held_drew (S := fun w' => w'.cell? ⟨w.heap.size, 0, none⟩ = some (.slice a l.length cap) ∧ w'.cell? ⟨w.heap.size, 1, none⟩ = some (.int .i64 n)) (by kernel_rfl) ⟨S1.out.cell 0 (v := .slice a l.length cap) rfl, S1.out.cell 1 (v := .int .i64 n) rfl⟩ (fun hH => ?_)
  have hdr : Below W0.heap.size W0 W0.drew := (Below.refl _ _).drew
  have Hsrc := Lib.hid (Hsrc.out.lies Hi.out hdr)
  have Hi := Lib.hid (Hi.out.below hdr)
  have S1 := Lib.hid (show Str W0.drew (w.heap.size) 25 #[.slice a l.length cap, .int .i64 n] from (hdr.block _ S1.out.lt).trans S1.out)
  have S2 := Lib.hid (show Str W0.drew (w.heap.size + 1) 25 #[.slice none 0 0, .int .i64 0] from (hdr.block _ S2.out.lt).trans S2.out)
  have hsx := hdr.size
  have Hb := Lib.hid (below_step Hb.out Hb.out.size hdr)
  clear hdr
  generalize W0.drew = wd at *
  refine takeH 1 (v := ?vlc1) rfl (by kernel_rfl) (by kernel_rfl) (by kernel_rfl) (fun _ _ _ h => h) hH rfl ?ylc1 ?rlc1
  case ylc1 => intro W hSw; go_simp; try with_reducible rfl
  try simp only [Act.put, List.setIfInBounds_toArray, List.set_cons_zero, List.set_cons_succ]
  refine takeH 2 (v := ?vlc2) rfl (by kernel_rfl) (by kernel_rfl) (by kernel_rfl) (fun _ _ _ h => h) hH rfl ?ylc2 ?rlc2
  case ylc2 => intro W hSw; go_simp; try with_reducible rfl
  try simp only [Act.put, List.setIfInBounds_toArray, List.set_cons_zero, List.set_cons_succ]
  refine takeH 4 (v := ?vlc3) rfl (by kernel_rfl) (by kernel_rfl) (by kernel_rfl) (fun _ _ _ h => h) hH rfl ?ylc3 ?rlc3
  case ylc3 => intro W hSw; go_simp; try with_reducible rfl
  try simp only [Act.put, List.setIfInBounds_toArray, List.set_cons_zero, List.set_cons_succ]
  refine takeH 5 (v := ?vlc4) rfl (by kernel_rfl) (by kernel_rfl) (by kernel_rfl) (fun _ _ _ h => h) hH rfl ?ylc4 ?rlc4
  case ylc4 => intro W hSw; go_simp; try with_reducible rfl
  try simp only [Act.put, List.setIfInBounds_toArray, List.set_cons_zero, List.set_cons_succ]
  refine callH 0 rfl (by kernel_rfl) rfl (fun K hK => ?_)
  go_simp
  have hal : Below wd.heap.size wd (wd.alloc (.cells #[] 3)) := (Below.refl _ _).alloc (Nat.le_refl _) _
  have oM := own_empty 3 wd (Nat.le_refl _)
  have OM := Lib.hid oM; clear oM
  have hzw : wd.heap.size < (wd.alloc (.cells #[] 3)).heap.size := by simp
  have Hsrc := Lib.hid (Hsrc.out.lies Hi.out hal)
  have Hi := Lib.hid (Hi.out.below hal)
  have S1 := Lib.hid (show Str (wd.alloc (.cells #[] 3)) (w.heap.size) 25 #[.slice a l.length cap, .int .i64 n] from (hal.block _ S1.out.lt).trans S1.out)
  have S2 := Lib.hid (show Str (wd.alloc (.cells #[] 3)) (w.heap.size + 1) 25 #[.slice none 0 0, .int .i64 0] from (hal.block _ S2.out.lt).trans S2.out)
  have hsx := hal.size
  have Hb := Lib.hid (below_step Hb.out Hb.out.size hal)
  refine hK.out _ _ ⟨S1.out.cell 0 (v := .slice a l.length cap) rfl, S1.out.cell 1 (v := .int .i64 n) rfl⟩ (fun hH => ?_)
  clear hK K hal
  try simp only [Act.put, List.setIfInBounds_toArray, List.set_cons_zero, List.set_cons_succ]
  generalize wd.alloc (.cells #[] 3) = w2 at *
  generalize hNB : wd.heap.size = NB at *
  refine callH 3 rfl (by kernel_rfl) rfl (fun K hK => ?_)
  refine op_appI TIl _ _ rfl NB (Value.slice (some ⟨NB, 0, none⟩) 0 0) [] l a cap rfl OM.out rfl Hsrc.out (by simp; omega) (by omega) (fun u w3 ho9 hg9 => ?_)
  rw [List.nil_append] at ho9
  obtain ⟨ua, uc, rfl, _, _⟩ := ho9.ints
  have hs3 := hg9.size
  have hlt9 : ∀ q, (Value.slice (some ⟨NB, 0, none⟩) 0 0).ownBlock = some q → NB ≤ q := fun q e => (OM.out.lt q e).1
  have S1 := Lib.hid (show Str w3 (w.heap.size) 25 #[.slice a l.length cap, .int .i64 n] from S1.out.kept hg9 (fun e => by have := hlt9 _ e.symm; omega))
  have S2 := Lib.hid (show Str w3 (w.heap.size + 1) 25 #[.slice none 0 0, .int .i64 0] from S2.out.kept hg9 (fun e => by have := hlt9 _ e.symm; omega))
  have Hb := Lib.hid (Hb.out.grown hg9 Hb.out.size (fun q e => by have := hlt9 q e; omega))
  have OL := Lib.hid ho9
  clear ho9 hg9 hlt9 OM Hi Hsrc
  refine hK.out _ _ ⟨S1.out.cell 0 (v := .slice a l.length cap) rfl, S1.out.cell 1 (v := .int .i64 n) rfl⟩ (fun hH => ?_)
  clear hK K
  try simp only [Act.put, List.setIfInBounds_toArray, List.set_cons_zero, List.set_cons_succ]
  refine takeH 6 (v := ?vlc5) rfl (by kernel_rfl) (by kernel_rfl) (by kernel_rfl) (fun _ _ _ h => h) hH rfl ?ylc5 ?rlc5
  case ylc5 => intro W hSw; go_simp; try with_reducible rfl
  try simp only [Act.put, List.setIfInBounds_toArray, List.set_cons_zero, List.set_cons_succ]
  refine callH 7 rfl (by kernel_rfl) rfl (fun K hK => ?_)
  have y0 := S2.out.frozen 0
  have y1 := S2.out.frozen 1
  have v0 := S2.out.cell 0 (v := .slice none 0 0) rfl
  have v1 := S2.out.cell 1 (v := .int .i64 0) rfl
  go_simp
  clear y0 y1 v0 v1
  have hne : (Value.slice ua l.length uc).ownBlock ≠ some (w.heap.size + 1) := fun e => by have := (OL.out.lt _ e).1; omega
  have sF := (S2.out.set 0 (.slice ua l.length uc)).set 1 (.int .i64 n)
  have SF := Lib.hid sF; clear sF
  have S1 := Lib.hid ((S1.out.other (B' := w.heap.size + 1) (by omega) 0 (.slice ua l.length uc)).other (B' := w.heap.size + 1) (by omega) 1 (.int .i64 n))
  have OL := Lib.hid ((OL.out.set_other hne 0 (.slice ua l.length uc)).set_other hne 1 (.int .i64 n))
  have Hb := Lib.hid ((Hb.out.setCell (p := ⟨w.heap.size + 1, 0, none⟩) (by simp only; omega) (.slice ua l.length uc)).setCell (p := ⟨w.heap.size + 1, 1, none⟩) (by simp only; omega) (.int .i64 n))
  refine hK.out _ _ ⟨S1.out.cell 0 rfl, S1.out.cell 1 rfl⟩ (fun hH => ?_)
  clear hK K hne
  try simp only [Act.put, List.setIfInBounds_toArray, List.set_cons_zero, List.set_cons_succ]
  generalize ((w3.setCell ⟨w.heap.size + 1, 0, none⟩ (.slice ua l.length uc)).setCell ⟨w.heap.size + 1, 1, none⟩ (.int .i64 n)) = we at *
  refine wpAnyH_done (by kernel_rfl) ?_ _
  try simp only [Act.put]
  clear hH
  have e0 := SF.out.cell 0 (v := .slice ua l.length uc) rfl
  have e1 := SF.out.cell 1 (v := .int .i64 n) rfl
  go_wp2
  refine bodyPost_ret (v := .agg #[.slice ua l.length uc, .int .i64 n]) (by simp [results, Try.f45, go_sem, e0, e1]) rfl ?_
  exact ⟨_, rfl, OL.out.mono (by omega), Hb.out⟩

end Go.Proofs.Ytadgdjjibmofpaa

/- The program's ledger made of an argument, its space for fees, the execution of a transaction, and the answer's copy, each by a walk of its text; conditions: the ledger is valid where it says so. -/
namespace Go.Proofs.Ytadgdjjibmofpaa
open Go.RowKit

set_option maxHeartbeats 2000000 in
theorem lg_ledgerOf (a : Option Addr) (cap : Nat) (l : List Int) (n : Int) (w : World) (hbig : l.length ≤ 1099511627776) (hl : IntsAt w a l) (hv : ldB l n = true) :
    Calls Try.prog 27 #[.agg #[.slice a l.length cap, .int .i64 n]] w fun e w' => ∃ B, e = .returned (.tuple #[.pointer (some ⟨B, 0, none⟩), .bool true]) ∧ w.heap.size ≤ B ∧ B < w'.heap.size ∧ Lg 62 w' B l n ∧ Below w.heap.size w w' := by
  obtain ⟨-, -, hn0, hn1⟩ := ldB_iff.1 hv
  have hb0 : Below w.heap.size w (w.alloc (.cells #[.slice a l.length cap, .int .i64 n] 25)) := (Below.refl _ _).alloc (Nat.le_refl _) _
  have s1 := Str.new w 25 #[.slice a l.length cap, .int .i64 n]
  have hl0 := hl.below hb0
  have hz : (w.alloc (.cells #[.slice a l.length cap, .int .i64 n] 25)).heap.size = w.heap.size + 1 := by simp
  have k0 := s1.cell 0 (v := .slice a l.length cap) rfl
  have k1 := s1.cell 1 (v := .int .i64 n) rfl
  have S1 := Lib.hid s1; have Hb := Lib.hid hb0; have Hl := Lib.hid hl0; clear s1 hb0 hl0 hl
  have HB := Lib.hid (fun W (h : IntsAt W a l) => lg_balancesOf a cap l W hbig h)
  unfold BoP c6 at HB
  obtain ⟨g0, h0⟩ : ∃ z, z = gd l 0 := ⟨_, rfl⟩
  obtain ⟨g1, h1⟩ : ∃ z, z = gd l 1 := ⟨_, rfl⟩
  obtain ⟨g2, h2⟩ : ∃ z, z = gd l 2 := ⟨_, rfl⟩
  obtain ⟨g3, h3⟩ : ∃ z, z = gd l 3 := ⟨_, rfl⟩
  obtain ⟨g4, h4⟩ : ∃ z, z = gd l 4 := ⟨_, rfl⟩
  obtain ⟨g5, h5⟩ : ∃ z, z = gd l 5 := ⟨_, rfl⟩
  have Hc7 := Lib.hid (show c7 l n = #[.int .i64 g0, .int .i64 g1, .int .i64 g2, .int .i64 g3, .int .i64 g4, .int .i64 g5, .int .i64 n] from by unfold c7; rw [h0, h1, h2, h3, h4, h5])
  rw [← h0, ← h1, ← h2, ← h3, ← h4, ← h5] at HB
  clear h0 h1 h2 h3 h4 h5
  have hld := okB_ld l n
  rw [hv] at hld
  have Hld := Lib.hid hld; clear hld hv
  go_enter Try.func27, Try.ntmps27
  go_wp2_with fail
  generalize (w.alloc (.cells #[.slice a l.length cap, .int .i64 n] 25)) = W0 at *
  refine (HB.out _ Hl.out).mono ?_
  rintro e w1 ⟨⟨h, rfl⟩ | ⟨h, rfl⟩, hb1⟩
  case inr =>
    have h9 := Hld.out
    rw [h] at h9
    cases h9
  clear h Hld
  have hal : Below w1.heap.size w1 (w1.alloc (.cells #[.int .i64 g0, .int .i64 g1, .int .i64 g2, .int .i64 g3, .int .i64 g4, .int .i64 g5] 60)) := (Below.refl _ _).alloc (Nat.le_refl _) _
  have Hb := Lib.hid (below_step (below_step Hb.out Hb.out.size hb1) (Nat.le_trans Hb.out.size hb1.size) hal)
  have S1 := Lib.hid (show Str (w1.alloc (.cells #[.int .i64 g0, .int .i64 g1, .int .i64 g2, .int .i64 g3, .int .i64 g4, .int .i64 g5] 60)) w.heap.size 25 #[.slice a l.length cap, .int .i64 n] from Str.alloc ((hb1.block _ S1.out.lt).trans S1.out) _)
  have S2 := Lib.hid (Str.new w1 60 #[.int .i64 g0, .int .i64 g1, .int .i64 g2, .int .i64 g3, .int .i64 g4, .int .i64 g5])
  clear hal hb1 k0 k1
  have k1 := S1.out.cell 1 (v := .int .i64 n) rfl
  have b0 := S2.out.cell 0 (v := .int .i64 g0) rfl
  have b1 := S2.out.cell 1 (v := .int .i64 g1) rfl
  have b2 := S2.out.cell 2 (v := .int .i64 g2) rfl
  have b3 := S2.out.cell 3 (v := .int .i64 g3) rfl
  have b4 := S2.out.cell 4 (v := .int .i64 g4) rfl
  have b5 := S2.out.cell 5 (v := .int .i64 g5) rfl
  have hex : w.heap.size ≤ w1.heap.size + 1 := by have := Hb.out.size; simp only [World.size_alloc] at this; omega
  have d1 : decide (n < 0) = false := decide_eq_false (by omega)
  have d2 : decide (5994 < n) = false := decide_eq_false (by omega)
  clear S1
  have sN := Str.new (w1.alloc (.cells #[.int .i64 g0, .int .i64 g1, .int .i64 g2, .int .i64 g3, .int .i64 g4, .int .i64 g5] 60)) 62 #[.int .i64 g0, .int .i64 g1, .int .i64 g2, .int .i64 g3, .int .i64 g4, .int .i64 g5, .int .i64 n]
  have bN : Below w.heap.size w ((w1.alloc (.cells #[.int .i64 g0, .int .i64 g1, .int .i64 g2, .int .i64 g3, .int .i64 g4, .int .i64 g5] 60)).alloc (.cells #[.int .i64 g0, .int .i64 g1, .int .i64 g2, .int .i64 g3, .int .i64 g4, .int .i64 g5, .int .i64 n] 62)) := Hb.out.alloc (by simp only [World.size_alloc]; omega) _
  simp only [World.size_alloc] at sN
  have hN : w1.heap.size + 1 < ((w1.alloc (.cells #[.int .i64 g0, .int .i64 g1, .int .i64 g2, .int .i64 g3, .int .i64 g4, .int .i64 g5] 60)).alloc (.cells #[.int .i64 g0, .int .i64 g1, .int .i64 g2, .int .i64 g3, .int .i64 g4, .int .i64 g5, .int .i64 n] 62)).heap.size := sN.lt
  have SN := Lib.hid sN; have BN := Lib.hid bN; have HN := Lib.hid hN; have HX := Lib.hid hex; clear sN bN hN hex
  go_wp2
  refine bodyPost_ret (results_tmp2 rfl _ _ _) rfl ?_
  have h9 := SN.out
  exact ⟨w1.heap.size + 1, rfl, HX.out, HN.out, by show Str _ _ _ (c7 l n); rw [Hc7.out]; exact h9, BN.out⟩

set_option maxHeartbeats 2000000 in
theorem lg_ledgerOf_no (a : Option Addr) (cap : Nat) (l : List Int) (n : Int) (w : World) (hbig : l.length ≤ 1099511627776) (hl : IntsAt w a l) (hv : ldB l n = false) :
    Calls Try.prog 27 #[.agg #[.slice a l.length cap, .int .i64 n]] w fun e w' => e = .returned (.tuple #[.pointer none, .bool false]) ∧ Below w.heap.size w w' := by
  have hb0 : Below w.heap.size w (w.alloc (.cells #[.slice a l.length cap, .int .i64 n] 25)) := (Below.refl _ _).alloc (Nat.le_refl _) _
  have s1 := Str.new w 25 #[.slice a l.length cap, .int .i64 n]
  have hl0 := hl.below hb0
  have hz : (w.alloc (.cells #[.slice a l.length cap, .int .i64 n] 25)).heap.size = w.heap.size + 1 := by simp
  have k0 := s1.cell 0 (v := .slice a l.length cap) rfl
  have k1 := s1.cell 1 (v := .int .i64 n) rfl
  have S1 := Lib.hid s1; have Hb := Lib.hid hb0; have Hl := Lib.hid hl0; clear s1 hb0 hl0 hl
  have HB := Lib.hid (fun W (h : IntsAt W a l) => lg_balancesOf a cap l W hbig h)
  unfold BoP c6 at HB
  obtain ⟨g0, h0⟩ : ∃ z, z = gd l 0 := ⟨_, rfl⟩
  obtain ⟨g1, h1⟩ : ∃ z, z = gd l 1 := ⟨_, rfl⟩
  obtain ⟨g2, h2⟩ : ∃ z, z = gd l 2 := ⟨_, rfl⟩
  obtain ⟨g3, h3⟩ : ∃ z, z = gd l 3 := ⟨_, rfl⟩
  obtain ⟨g4, h4⟩ : ∃ z, z = gd l 4 := ⟨_, rfl⟩
  obtain ⟨g5, h5⟩ : ∃ z, z = gd l 5 := ⟨_, rfl⟩
  have Hc7 := Lib.hid (show c7 l n = #[.int .i64 g0, .int .i64 g1, .int .i64 g2, .int .i64 g3, .int .i64 g4, .int .i64 g5, .int .i64 n] from by unfold c7; rw [h0, h1, h2, h3, h4, h5])
  rw [← h0, ← h1, ← h2, ← h3, ← h4, ← h5] at HB
  clear h0 h1 h2 h3 h4 h5
  have hld := okB_ld l n
  rw [hv] at hld
  have Hld := Lib.hid hld; clear hld hv
  go_enter Try.func27, Try.ntmps27
  go_wp2_with fail
  generalize (w.alloc (.cells #[.slice a l.length cap, .int .i64 n] 25)) = W0 at *
  refine (HB.out _ Hl.out).mono ?_
  rintro e w1 ⟨⟨h, rfl⟩ | ⟨h, rfl⟩, hb1⟩
  case inr =>
    clear h Hld
    have hal : Below w1.heap.size w1 (w1.alloc (.cells #[.int .i64 0, .int .i64 0, .int .i64 0, .int .i64 0, .int .i64 0, .int .i64 0] 60)) := (Below.refl _ _).alloc (Nat.le_refl _) _
    have Hb := Lib.hid (below_step (below_step Hb.out Hb.out.size hb1) (Nat.le_trans Hb.out.size hb1.size) hal)
    have S1 := Lib.hid (show Str (w1.alloc (.cells #[.int .i64 0, .int .i64 0, .int .i64 0, .int .i64 0, .int .i64 0, .int .i64 0] 60)) w.heap.size 25 #[.slice a l.length cap, .int .i64 n] from Str.alloc ((hb1.block _ S1.out.lt).trans S1.out) _)
    have S2 := Lib.hid (Str.new w1 60 #[.int .i64 0, .int .i64 0, .int .i64 0, .int .i64 0, .int .i64 0, .int .i64 0])
    clear hal hb1 k0 k1
    have k1 := S1.out.cell 1 (v := .int .i64 n) rfl
    clear S1 S2
    go_wp2
    refine bodyPost_ret (results_tmp2 rfl _ _ _) rfl ?_
    exact ⟨rfl, Hb.out⟩
  have h9 := Hld.out
  rw [h] at h9
  have hn : ¬ (0 ≤ n ∧ n ≤ 5994) := by
    intro h; rw [decide_eq_true h] at h9; cases h9
  clear h h9 Hld
  have hal : Below w1.heap.size w1 (w1.alloc (.cells #[.int .i64 g0, .int .i64 g1, .int .i64 g2, .int .i64 g3, .int .i64 g4, .int .i64 g5] 60)) := (Below.refl _ _).alloc (Nat.le_refl _) _
  have Hb := Lib.hid (below_step (below_step Hb.out Hb.out.size hb1) (Nat.le_trans Hb.out.size hb1.size) hal)
  have S1 := Lib.hid (show Str (w1.alloc (.cells #[.int .i64 g0, .int .i64 g1, .int .i64 g2, .int .i64 g3, .int .i64 g4, .int .i64 g5] 60)) w.heap.size 25 #[.slice a l.length cap, .int .i64 n] from Str.alloc ((hb1.block _ S1.out.lt).trans S1.out) _)
  have S2 := Lib.hid (Str.new w1 60 #[.int .i64 g0, .int .i64 g1, .int .i64 g2, .int .i64 g3, .int .i64 g4, .int .i64 g5])
  clear hal hb1 k0 k1
  have k1 := S1.out.cell 1 (v := .int .i64 n) rfl
  clear S1 S2
  by_cases h0 : n < 0
  · have d1 : decide (n < 0) = true := decide_eq_true h0
    go_wp2
    refine bodyPost_ret (results_tmp2 rfl _ _ _) rfl ?_
    exact ⟨rfl, Hb.out⟩
  · have d1 : decide (n < 0) = false := decide_eq_false h0
    have d2 : decide (5994 < n) = true := decide_eq_true (by omega)
    have d3 : 5994 < n := by omega
    clear hn
    go_wp2
    refine bodyPost_ret (results_tmp2 rfl _ _ _) rfl ?_
    exact ⟨rfl, Hb.out⟩

theorem lg_hasSpace (B : Nat) (l : List Int) (n m : Int) (w : World) (hn : 0 ≤ n ∧ n ≤ 5994) (hm : 0 ≤ m ∧ m ≤ 100) (hs : Lg 62 w B l n) :
    Calls Try.prog 28 #[.pointer (some ⟨B, 0, none⟩), .int .i64 m] w fun e w' => e = .returned (.bool (decide (n ≤ 5994 - 9 * m))) ∧ w = w' := by
  have c6 := hs.fees
  clear hs
  have hw1 : IntKind.i64.wrap (9 * m) = 9 * m := IntWalk.i64_in _ (by omega)
  have hw2 : IntKind.i64.wrap (n + 9 * m) = n + 9 * m := IntWalk.i64_in _ (by omega)
  have Hd := Lib.hid (show decide (n ≤ 5994 - 9 * m) = decide (n + 9 * m ≤ 5994) from decide_eq_decide.2 (by omega))
  generalize decide (n ≤ 5994 - 9 * m) = bb at *
  clear hn hm
  go_enter Try.func28, Try.ntmps28
  go_wp2
  go_ret
  exact ⟨ret_bool Hd.out.symm, rfl⟩

theorem lg_weak {w W : World} (h : Below w.heap.size w W) (B : Nat) : w.grownBy W (some B) := ⟨h.os, h.tape, h.output, h.size, fun k hk _ => h.block k hk⟩
set_option maxHeartbeats 4000000 in
theorem lg_execute (B : Nat) (l : List Int) (n : Int) (x : Tx) (w : World) (hv : ldB l n = true) (hs : Lg 62 w B l n) :
    Calls Try.prog 29 #[.pointer (some ⟨B, 0, none⟩), agT x] w fun e w' => e = .returned (.bool (okT l x)) ∧ Lg 62 w' B (apL l x) (apF l n x) ∧ w.grownBy w' (some B) := by
  obtain ⟨hv1, hv2, hn0, hn1⟩ := ldB_iff.1 hv
  have Hv := Lib.hid hv; clear hv hv1 hv2
  have hg0 := World.grownBy_alloc w (.cells #[.int .i64 x.f, .int .i64 x.t, .int .i64 x.s, .int .i64 x.e] 27) (some B)
  have s0 := Str.new w 27 #[.int .i64 x.f, .int .i64 x.t, .int .i64 x.s, .int .i64 x.e]
  have s9 : Lg 62 (w.alloc (.cells #[.int .i64 x.f, .int .i64 x.t, .int .i64 x.s, .int .i64 x.e] 27)) B l n := Str.alloc hs _
  have hBw := hs.lt
  have hBne : w.heap.size ≠ B := by omega
  have Hg := Lib.hid hg0; have S0 := Lib.hid s0; have S9 := Lib.hid s9; clear hg0 s0 s9 hs
  have HT := Lib.hid (fun W => lg_valid x W)
  have HA := Lib.hid (fun W (h : txB x = true) (hs : Lg 62 W B l n) => lg_allows B l n x W Hv.out h hs)
  have HM := Lib.hid (fun W (h : okT l x = true) (hs : Lg 62 W B l n) => lg_move B l n x W Hv.out h hs)
  unfold agT at HT HA HM ⊢
  go_enter Try.func29, Try.ntmps29
  go_wp2_with fail
  generalize (w.alloc (.cells #[.int .i64 x.f, .int .i64 x.t, .int .i64 x.s, .int .i64 x.e] 27)) = W0 at *
  refine wp_region_held_drew (S := fun w' => w'.cell? ⟨w.heap.size, 0, none⟩ = some (.int .i64 x.f) ∧ w'.cell? ⟨w.heap.size, 1, none⟩ = some (.int .i64 x.t) ∧ w'.cell? ⟨w.heap.size, 2, none⟩ = some (.int .i64 x.s) ∧ w'.cell? ⟨w.heap.size, 3, none⟩ = some (.int .i64 x.e)) (by kernel_rfl) ⟨S0.out.cell 0 (v := .int .i64 x.f) rfl, S0.out.cell 1 (v := .int .i64 x.t) rfl, S0.out.cell 2 (v := .int .i64 x.s) rfl, S0.out.cell 3 (v := .int .i64 x.e) rfl⟩ (fun hH => ?_)
  have S0 := Lib.hid (show Str W0.drew w.heap.size 27 #[.int .i64 x.f, .int .i64 x.t, .int .i64 x.s, .int .i64 x.e] from S0.out)
  have Hg := Lib.hid (lg_drew Hg.out)
  have S9 := Lib.hid (show Lg 62 W0.drew B l n from S9.out)
  generalize W0.drew = wd at *
  have hbt : txB x = true ∨ txB x = false := by cases txB x <;> simp
  have hbo : okT l x = true ∨ okT l x = false := by cases okT l x <;> simp
  refine takeH 0 (v := ?vex1) rfl (by kernel_rfl) (by kernel_rfl) (by kernel_rfl) (fun _ _ _ h => h) hH rfl ?yex1 ?rex1
  case yex1 => intro W hSw; go_simp; try with_reducible rfl
  try simp only [Act.put, List.setIfInBounds_toArray, List.set_cons_zero, List.set_cons_succ]
  rcases hbt with hbt | hbt
  case inr =>
    have h9 := HT.out
    rw [hbt] at h9
    have HT := Lib.hid h9; clear h9
    have Hno := Lib.hid (show okT l x = false by unfold okT; rw [hbt]; rfl)
    clear hbt hbo HA HM
    refine callH 1 rfl (by kernel_rfl) rfl (fun K hK => ?_)
    go_simp
    refine (HT.out _).mono ?_
    rintro e w5 ⟨rfl, hb⟩
    have S0 := Lib.hid (show Str w5 w.heap.size 27 #[.int .i64 x.f, .int .i64 x.t, .int .i64 x.s, .int .i64 x.e] from (hb.block _ S0.out.lt).trans S0.out)
    have S9 := Lib.hid (show Lg 62 w5 B l n from (hb.block _ S9.out.lt).trans S9.out)
    have Hg := Lib.hid (grownBy_trans Hg.out (lg_weak hb B))
    clear hb
    refine hK.out _ _ ⟨S0.out.cell 0 (v := .int .i64 x.f) rfl, S0.out.cell 1 (v := .int .i64 x.t) rfl, S0.out.cell 2 (v := .int .i64 x.s) rfl, S0.out.cell 3 (v := .int .i64 x.e) rfl⟩ (fun hH => ?_)
    clear hK K
    try simp only [Act.put, List.setIfInBounds_toArray, List.set_cons_zero, List.set_cons_succ]
    refine takeH 2 (v := ?vex2) rfl (by kernel_rfl) (by kernel_rfl) (by kernel_rfl) (fun _ _ _ h => h) hH rfl ?yex2 ?rex2
    case yex2 => intro W hSw; go_simp; try with_reducible rfl
    try simp only [Act.put, List.setIfInBounds_toArray, List.set_cons_zero, List.set_cons_succ]
    refine takeH 3 (v := ?vex3) rfl (by kernel_rfl) (by kernel_rfl) (by kernel_rfl) (fun _ _ _ h => h) hH rfl ?yex3 ?rex3
    case yex3 => intro W hSw; go_simp; try with_reducible rfl
    try simp only [Act.put, List.setIfInBounds_toArray, List.set_cons_zero, List.set_cons_succ]
    refine skipH 4 rfl (by kernel_rfl) (by kernel_rfl) (by kernel_rfl) (fun _ _ _ h => h) hH rfl ?_
    try simp only [Act.put, List.setIfInBounds_toArray, List.set_cons_zero, List.set_cons_succ]
    refine skipH 5 rfl (by kernel_rfl) (by kernel_rfl) (by kernel_rfl) (fun _ _ _ h => h) hH rfl ?_
    try simp only [Act.put, List.setIfInBounds_toArray, List.set_cons_zero, List.set_cons_succ]
    refine skipH 6 rfl (by kernel_rfl) (by kernel_rfl) (by kernel_rfl) (fun _ _ _ h => h) hH rfl ?_
    try simp only [Act.put, List.setIfInBounds_toArray, List.set_cons_zero, List.set_cons_succ]
    refine skipH 7 rfl (by kernel_rfl) (by kernel_rfl) (by kernel_rfl) (fun _ _ _ h => h) hH rfl ?_
    try simp only [Act.put, List.setIfInBounds_toArray, List.set_cons_zero, List.set_cons_succ]
    refine skipH 8 rfl (by kernel_rfl) (by kernel_rfl) (by kernel_rfl) (fun _ _ _ h => h) hH rfl ?_
    try simp only [Act.put, List.setIfInBounds_toArray, List.set_cons_zero, List.set_cons_succ]
    refine skipH 9 rfl (by kernel_rfl) (by kernel_rfl) (by kernel_rfl) (fun _ _ _ h => h) hH rfl ?_
    try simp only [Act.put, List.setIfInBounds_toArray, List.set_cons_zero, List.set_cons_succ]
    refine takeH 10 (v := ?vex4) rfl (by kernel_rfl) (by kernel_rfl) (by kernel_rfl) (fun _ _ _ h => h) hH rfl ?yex4 ?rex4
    case yex4 => intro W hSw; go_simp; try with_reducible rfl
    try simp only [Act.put, List.setIfInBounds_toArray, List.set_cons_zero, List.set_cons_succ]
    refine wpAnyH_done (by kernel_rfl) ?_ _
    try simp only [Act.put]
    clear hH
    have S9 := Lib.hid (show Lg 62 w5 B (apL l x) (apF l n x) from by rw [(ap_no (n := n) Hno.out).1, (ap_no (l := l) (n := n) Hno.out).2]; exact S9.out)
    go_wp2
    go_ret
    exact ⟨ret_bool Hno.out.symm, S9.out, Hg.out⟩
  have h9 := HT.out
  rw [hbt] at h9
  have HT := Lib.hid h9; clear h9
  have Hbt := Lib.hid hbt; clear hbt
  refine callH 1 rfl (by kernel_rfl) rfl (fun K hK => ?_)
  go_simp
  refine (HT.out _).mono ?_
  rintro e w4 ⟨rfl, hb⟩
  have S0 := Lib.hid (show Str w4 w.heap.size 27 #[.int .i64 x.f, .int .i64 x.t, .int .i64 x.s, .int .i64 x.e] from (hb.block _ S0.out.lt).trans S0.out)
  have S9 := Lib.hid (show Lg 62 w4 B l n from (hb.block _ S9.out.lt).trans S9.out)
  have Hg := Lib.hid (grownBy_trans Hg.out (lg_weak hb B))
  clear hb
  refine hK.out _ _ ⟨S0.out.cell 0 (v := .int .i64 x.f) rfl, S0.out.cell 1 (v := .int .i64 x.t) rfl, S0.out.cell 2 (v := .int .i64 x.s) rfl, S0.out.cell 3 (v := .int .i64 x.e) rfl⟩ (fun hH => ?_)
  clear hK K
  try simp only [Act.put, List.setIfInBounds_toArray, List.set_cons_zero, List.set_cons_succ]
  refine takeH 2 (v := ?vex5) rfl (by kernel_rfl) (by kernel_rfl) (by kernel_rfl) (fun _ _ _ h => h) hH rfl ?yex5 ?rex5
  case yex5 => intro W hSw; go_simp; try with_reducible rfl
  try simp only [Act.put, List.setIfInBounds_toArray, List.set_cons_zero, List.set_cons_succ]
  refine takeH 3 (v := ?vex6) rfl (by kernel_rfl) (by kernel_rfl) (by kernel_rfl) (fun _ _ _ h => h) hH rfl ?yex6 ?rex6
  case yex6 => intro W hSw; go_simp; try with_reducible rfl
  try simp only [Act.put, List.setIfInBounds_toArray, List.set_cons_zero, List.set_cons_succ]
  refine takeH 4 (v := ?vex7) rfl (by kernel_rfl) (by kernel_rfl) (by kernel_rfl) (fun _ _ _ h => h) hH rfl ?yex7 ?rex7
  case yex7 => intro W hSw; go_simp; try with_reducible rfl
  try simp only [Act.put, List.setIfInBounds_toArray, List.set_cons_zero, List.set_cons_succ]
  refine takeH 5 (v := ?vex8) rfl (by kernel_rfl) (by kernel_rfl) (by kernel_rfl) (fun _ _ _ h => h) hH rfl ?yex8 ?rex8
  case yex8 => intro W hSw; go_simp; try with_reducible rfl
  try simp only [Act.put, List.setIfInBounds_toArray, List.set_cons_zero, List.set_cons_succ]
  refine takeH 6 (v := ?vex9) rfl (by kernel_rfl) (by kernel_rfl) (by kernel_rfl) (fun _ _ _ h => h) hH rfl ?yex9 ?rex9
  case yex9 => intro W hSw; go_simp; try with_reducible rfl
  try simp only [Act.put, List.setIfInBounds_toArray, List.set_cons_zero, List.set_cons_succ]
  refine takeH 7 (v := ?vex10) rfl (by kernel_rfl) (by kernel_rfl) (by kernel_rfl) (fun _ _ _ h => h) hH rfl ?yex10 ?rex10
  case yex10 => intro W hSw; go_simp; try with_reducible rfl
  try simp only [Act.put, List.setIfInBounds_toArray, List.set_cons_zero, List.set_cons_succ]
  rcases hbo with hbo | hbo
  case inr =>
    have h9 := fun W => HA.out W Hbt.out
    rw [hbo] at h9
    have HA := Lib.hid h9; clear h9
    have Hno := Lib.hid hbo
    clear hbo HM
    refine callH 8 rfl (by kernel_rfl) rfl (fun K hK => ?_)
    go_simp
    refine (HA.out _ S9.out).mono ?_
    rintro e w5 ⟨rfl, hb⟩
    have S0 := Lib.hid (show Str w5 w.heap.size 27 #[.int .i64 x.f, .int .i64 x.t, .int .i64 x.s, .int .i64 x.e] from (hb.block _ S0.out.lt).trans S0.out)
    have S9 := Lib.hid (show Lg 62 w5 B l n from (hb.block _ S9.out.lt).trans S9.out)
    have Hg := Lib.hid (grownBy_trans Hg.out (lg_weak hb B))
    clear hb
    refine hK.out _ _ ⟨S0.out.cell 0 (v := .int .i64 x.f) rfl, S0.out.cell 1 (v := .int .i64 x.t) rfl, S0.out.cell 2 (v := .int .i64 x.s) rfl, S0.out.cell 3 (v := .int .i64 x.e) rfl⟩ (fun hH => ?_)
    clear hK K
    try simp only [Act.put, List.setIfInBounds_toArray, List.set_cons_zero, List.set_cons_succ]
    refine takeH 9 (v := ?vex11) rfl (by kernel_rfl) (by kernel_rfl) (by kernel_rfl) (fun _ _ _ h => h) hH rfl ?yex11 ?rex11
    case yex11 => intro W hSw; go_simp; try with_reducible rfl
    try simp only [Act.put, List.setIfInBounds_toArray, List.set_cons_zero, List.set_cons_succ]
    refine takeH 10 (v := ?vex12) rfl (by kernel_rfl) (by kernel_rfl) (by kernel_rfl) (fun _ _ _ h => h) hH rfl ?yex12 ?rex12
    case yex12 => intro W hSw; go_simp; try with_reducible rfl
    try simp only [Act.put, List.setIfInBounds_toArray, List.set_cons_zero, List.set_cons_succ]
    refine wpAnyH_done (by kernel_rfl) ?_ _
    try simp only [Act.put]
    clear hH
    have S9 := Lib.hid (show Lg 62 w5 B (apL l x) (apF l n x) from by rw [(ap_no (n := n) Hno.out).1, (ap_no (l := l) (n := n) Hno.out).2]; exact S9.out)
    go_wp2
    go_ret
    exact ⟨ret_bool Hno.out.symm, S9.out, Hg.out⟩
  have h9 := fun W => HA.out W Hbt.out
  rw [hbo] at h9
  have HA := Lib.hid h9; clear h9
  have Hyes := Lib.hid hbo
  clear hbo
  refine callH 8 rfl (by kernel_rfl) rfl (fun K hK => ?_)
  go_simp
  refine (HA.out _ S9.out).mono ?_
  rintro e w5 ⟨rfl, hb⟩
  have S0 := Lib.hid (show Str w5 w.heap.size 27 #[.int .i64 x.f, .int .i64 x.t, .int .i64 x.s, .int .i64 x.e] from (hb.block _ S0.out.lt).trans S0.out)
  have S9 := Lib.hid (show Lg 62 w5 B l n from (hb.block _ S9.out.lt).trans S9.out)
  have Hg := Lib.hid (grownBy_trans Hg.out (lg_weak hb B))
  clear hb
  refine hK.out _ _ ⟨S0.out.cell 0 (v := .int .i64 x.f) rfl, S0.out.cell 1 (v := .int .i64 x.t) rfl, S0.out.cell 2 (v := .int .i64 x.s) rfl, S0.out.cell 3 (v := .int .i64 x.e) rfl⟩ (fun hH => ?_)
  clear hK K
  try simp only [Act.put, List.setIfInBounds_toArray, List.set_cons_zero, List.set_cons_succ]
  refine takeH 9 (v := ?vex13) rfl (by kernel_rfl) (by kernel_rfl) (by kernel_rfl) (fun _ _ _ h => h) hH rfl ?yex13 ?rex13
  case yex13 => intro W hSw; go_simp; try with_reducible rfl
  try simp only [Act.put, List.setIfInBounds_toArray, List.set_cons_zero, List.set_cons_succ]
  refine takeH 10 (v := ?vex14) rfl (by kernel_rfl) (by kernel_rfl) (by kernel_rfl) (fun _ _ _ h => h) hH rfl ?yex14 ?rex14
  case yex14 => intro W hSw; go_simp; try with_reducible rfl
  try simp only [Act.put, List.setIfInBounds_toArray, List.set_cons_zero, List.set_cons_succ]
  refine wpAnyH_done (by kernel_rfl) ?_ _
  try simp only [Act.put]
  clear hH
  go_wp2_with fail
  refine wp_region_held_drew (S := fun w' => w'.cell? ⟨w.heap.size, 0, none⟩ = some (.int .i64 x.f) ∧ w'.cell? ⟨w.heap.size, 1, none⟩ = some (.int .i64 x.t) ∧ w'.cell? ⟨w.heap.size, 2, none⟩ = some (.int .i64 x.s) ∧ w'.cell? ⟨w.heap.size, 3, none⟩ = some (.int .i64 x.e)) (by kernel_rfl) ⟨S0.out.cell 0 (v := .int .i64 x.f) rfl, S0.out.cell 1 (v := .int .i64 x.t) rfl, S0.out.cell 2 (v := .int .i64 x.s) rfl, S0.out.cell 3 (v := .int .i64 x.e) rfl⟩ (fun hH => ?_)
  have S0 := Lib.hid (show Str w5.drew w.heap.size 27 #[.int .i64 x.f, .int .i64 x.t, .int .i64 x.s, .int .i64 x.e] from S0.out)
  have Hg := Lib.hid (lg_drew Hg.out)
  have S9 := Lib.hid (show Lg 62 w5.drew B l n from S9.out)
  generalize w5.drew = w6 at *
  refine takeH 0 (v := ?vex15) rfl (by kernel_rfl) (by kernel_rfl) (by kernel_rfl) (fun _ _ _ h => h) hH rfl ?yex15 ?rex15
  case yex15 => intro W hSw; go_simp; try with_reducible rfl
  try simp only [Act.put, List.setIfInBounds_toArray, List.set_cons_zero, List.set_cons_succ]
  refine takeH 1 (v := ?vex16) rfl (by kernel_rfl) (by kernel_rfl) (by kernel_rfl) (fun _ _ _ h => h) hH rfl ?yex16 ?rex16
  case yex16 => intro W hSw; go_simp; try with_reducible rfl
  try simp only [Act.put, List.setIfInBounds_toArray, List.set_cons_zero, List.set_cons_succ]
  refine takeH 2 (v := ?vex17) rfl (by kernel_rfl) (by kernel_rfl) (by kernel_rfl) (fun _ _ _ h => h) hH rfl ?yex17 ?rex17
  case yex17 => intro W hSw; go_simp; try with_reducible rfl
  try simp only [Act.put, List.setIfInBounds_toArray, List.set_cons_zero, List.set_cons_succ]
  refine takeH 3 (v := ?vex18) rfl (by kernel_rfl) (by kernel_rfl) (by kernel_rfl) (fun _ _ _ h => h) hH rfl ?yex18 ?rex18
  case yex18 => intro W hSw; go_simp; try with_reducible rfl
  try simp only [Act.put, List.setIfInBounds_toArray, List.set_cons_zero, List.set_cons_succ]
  refine callH 4 rfl (by kernel_rfl) rfl (fun K hK => ?_)
  go_simp
  refine (HM.out _ Hyes.out S9.out).mono ?_
  rintro e w7 ⟨rfl, s9, hg⟩
  have S0 := Lib.hid (show Str w7 w.heap.size 27 #[.int .i64 x.f, .int .i64 x.t, .int .i64 x.s, .int .i64 x.e] from S0.out.kept hg (by simp; omega))
  have S9 := Lib.hid s9
  have Hg := Lib.hid (grownBy_trans Hg.out hg)
  clear hg s9
  refine hK.out _ _ ⟨S0.out.cell 0 (v := .int .i64 x.f) rfl, S0.out.cell 1 (v := .int .i64 x.t) rfl, S0.out.cell 2 (v := .int .i64 x.s) rfl, S0.out.cell 3 (v := .int .i64 x.e) rfl⟩ (fun hH => ?_)
  clear hK K
  try simp only [Act.put, List.setIfInBounds_toArray, List.set_cons_zero, List.set_cons_succ]
  refine wpAnyH_done (by kernel_rfl) ?_ _
  try simp only [Act.put]
  clear hH
  have hx9 := (txB_iff.1 Hbt.out).2.2.2.2
  have hw9 : IntKind.i64.wrap (n + x.e) = n + x.e := IntWalk.i64_in _ (by omega)
  clear hx9
  go_wp2_with fail
  refine wp_region_L 9 (fun w' => w'.cell? ⟨w.heap.size, 0, none⟩ = some (.int .i64 x.f) ∧ w'.cell? ⟨w.heap.size, 1, none⟩ = some (.int .i64 x.t) ∧ w'.cell? ⟨w.heap.size, 2, none⟩ = some (.int .i64 x.s) ∧ w'.cell? ⟨w.heap.size, 3, none⟩ = some (.int .i64 x.e) ∧ w'.cell? ⟨B, 6, none⟩ = some (.int .i64 n)) (by kernel_rfl) ⟨S0.out.cell 0 (v := .int .i64 x.f) rfl, S0.out.cell 1 (v := .int .i64 x.t) rfl, S0.out.cell 2 (v := .int .i64 x.s) rfl, S0.out.cell 3 (v := .int .i64 x.e) rfl, S9.out.fees⟩ (fun hH => ?_)
  have S0 := Lib.hid (show Str w7.drew w.heap.size 27 #[.int .i64 x.f, .int .i64 x.t, .int .i64 x.s, .int .i64 x.e] from S0.out)
  have Hg := Lib.hid (lg_drew Hg.out)
  have S9 := Lib.hid (show Lg 62 w7.drew B (apL l x) n from S9.out)
  generalize w7.drew = w8 at *
  refine takeL 0 (v := ?vex19) rfl (by kernel_rfl) (by kernel_rfl) (by kernel_rfl) (by kernel_rfl) (by kernel_rfl) (fun _ _ _ h => h) hH rfl ?yex19 ?rex19
  case yex19 => intro W hSw; go_simp; try with_reducible rfl
  try simp only [Act.put, List.setIfInBounds_toArray, List.set_cons_zero, List.set_cons_succ]
  refine takeL 1 (v := ?vex20) rfl (by kernel_rfl) (by kernel_rfl) (by kernel_rfl) (by kernel_rfl) (by kernel_rfl) (fun _ _ _ h => h) hH rfl ?yex20 ?rex20
  case yex20 => intro W hSw; go_simp; try with_reducible rfl
  try simp only [Act.put, List.setIfInBounds_toArray, List.set_cons_zero, List.set_cons_succ]
  refine takeL 2 (v := ?vex21) rfl (by kernel_rfl) (by kernel_rfl) (by kernel_rfl) (by kernel_rfl) (by kernel_rfl) (fun _ _ _ h => h) hH rfl ?yex21 ?rex21
  case yex21 => intro W hSw; go_simp; try with_reducible rfl
  try simp only [Act.put, List.setIfInBounds_toArray, List.set_cons_zero, List.set_cons_succ]
  refine takeL 3 (v := ?vex22) rfl (by kernel_rfl) (by kernel_rfl) (by kernel_rfl) (by kernel_rfl) (by kernel_rfl) (fun _ _ _ h => h) hH rfl ?yex22 ?rex22
  case yex22 => intro W hSw; go_simp; try with_reducible rfl
  try simp only [Act.put, List.setIfInBounds_toArray, List.set_cons_zero, List.set_cons_succ]
  refine takeL 4 (v := ?vex23) rfl (by kernel_rfl) (by kernel_rfl) (by kernel_rfl) (by kernel_rfl) (by kernel_rfl) (fun _ _ _ h => h) hH rfl ?yex23 ?rex23
  case yex23 => intro W hSw; go_simp; try with_reducible rfl
  try simp only [Act.put, List.setIfInBounds_toArray, List.set_cons_zero, List.set_cons_succ]
  refine takeL 5 (v := ?vex24) rfl (by kernel_rfl) (by kernel_rfl) (by kernel_rfl) (by kernel_rfl) (by kernel_rfl) (fun _ _ _ h => h) hH rfl ?yex24 ?rex24
  case yex24 => intro W hSw; go_simp; try with_reducible rfl
  try simp only [Act.put, List.setIfInBounds_toArray, List.set_cons_zero, List.set_cons_succ]
  refine takeL 6 (v := .int .i64 (n + x.e)) rfl (by kernel_rfl) (by kernel_rfl) (by kernel_rfl) (by kernel_rfl) (by kernel_rfl) (fun _ _ _ h => h) hH rfl ?yex25 ?rex25
  case yex25 => intro W hSw; go_simp; first | done | (simp [hw9])
  try simp only [Act.put, List.setIfInBounds_toArray, List.set_cons_zero, List.set_cons_succ]
  refine callL 7 rfl (by kernel_rfl) rfl (fun K hK => ?_)
  go_simp
  refine hK.out _ _ ⟨S0.out.cell 0 (v := .int .i64 x.f) rfl, S0.out.cell 1 (v := .int .i64 x.t) rfl, S0.out.cell 2 (v := .int .i64 x.s) rfl, S0.out.cell 3 (v := .int .i64 x.e) rfl, S9.out.fees⟩ (fun hH => ?_)
  clear hK K
  try simp only [Act.put, List.setIfInBounds_toArray, List.set_cons_zero, List.set_cons_succ]
  refine takeL 8 (v := ?vex26) rfl (by kernel_rfl) (by kernel_rfl) (by kernel_rfl) (by kernel_rfl) (by kernel_rfl) (fun _ _ _ h => h) hH rfl ?yex26 ?rex26
  case yex26 => intro W hSw; go_simp; try with_reducible rfl
  try simp only [Act.put, List.setIfInBounds_toArray, List.set_cons_zero, List.set_cons_succ]
  refine lastL rfl (by kernel_rfl) (by kernel_rfl) (by kernel_rfl) rfl (fun K hK => ?_)
  have y9 := S9.out.frozen 6
  have q9 := S9.out.fees
  go_simp
  clear y9 q9
  have S9 := Lib.hid (S9.out.setf (n + x.e))
  have Hg := Lib.hid (grownBy_trans Hg.out (grownBy_set w8 B 6 (.int .i64 (n + x.e))))
  refine hK.out _ _ ?_
  clear hK K hH
  try simp only [Act.put]
  generalize (w8.setCell ⟨B, 6, none⟩ (.int .i64 (n + x.e))) = W9 at *
  have S9 := Lib.hid (show Lg 62 W9 B (apL l x) (apF l n x) from by rw [(ap_yes (l := l) (n := n) Hyes.out).2]; exact S9.out)
  go_wp2
  go_ret
  exact ⟨ret_bool Hyes.out.symm, S9.out, Hg.out⟩

set_option maxHeartbeats 2000000 in
theorem lg_copied (B : Nat) (l : List Int) (n : Int) (w : World) (h6 : l.length = 6) (hs : Lg 62 w B l n) :
    Calls Try.prog 30 #[.pointer (some ⟨B, 0, none⟩)] w fun e w' => ∃ v, e = .returned (.agg #[v, .int .i64 n]) ∧ Own 3 w' w.heap.size v l ∧ Below w.heap.size w w' := by
  have hb0 : Below w.heap.size w (w.alloc (.cells #[.slice none 0 0, .int .i64 0] 25)) := (Below.refl _ _).alloc (Nat.le_refl _) _
  have s1 := Str.new w 25 #[.slice none 0 0, .int .i64 0]
  have s9 : Lg 62 (w.alloc (.cells #[.slice none 0 0, .int .i64 0] 25)) B l n := Str.alloc hs _
  have hz : (w.alloc (.cells #[.slice none 0 0, .int .i64 0] 25)).heap.size = w.heap.size + 1 := by simp
  have hBw := hs.lt
  have hBne : w.heap.size ≠ B := by omega
  have S1 := Lib.hid s1; have S9 := Lib.hid s9; have Hb := Lib.hid hb0; have H6 := Lib.hid h6; clear s1 s9 hb0 hs
  have hC := fun W (h : Lg 62 W B l n) => lib_Clone TIl (some ⟨B, 0, none⟩) 6 l W (by omega) (.inr ⟨_, rfl, fun j hj => by rw [addr_add, ← gd_at hj]; exact h.at (by omega)⟩) (.inr ⟨B, 0, rfl, h.lt, fun j hj => by rw [Nat.zero_add, ← gd_at hj]; exact h.at (by omega)⟩)
  rw [h6] at hC
  have HC := Lib.hid hC; clear hC h6
  go_enter Try.func30, Try.ntmps30
  go_wp2_with fail
  generalize (w.alloc (.cells #[.slice none 0 0, .int .i64 0] 25)) = W0 at *
  refine wp_region_held_drew (S := fun w' => w'.cell? ⟨B, 6, none⟩ = some (.int .i64 n)) (by kernel_rfl) S9.out.fees (fun hH => ?_)
  have S1 := Lib.hid (show Str W0.drew w.heap.size 25 #[.slice none 0 0, .int .i64 0] from S1.out)
  have S9 := Lib.hid (show Lg 62 W0.drew B l n from S9.out)
  have Hb := Lib.hid Hb.out.drew
  have hzd : W0.drew.heap.size = w.heap.size + 1 := hz
  generalize W0.drew = wd at *
  refine takeH 0 (v := ?vcp1) rfl (by kernel_rfl) (by kernel_rfl) (by kernel_rfl) (fun _ _ _ h => h) hH rfl ?ycp1 ?rcp1
  case ycp1 => intro W hSw; go_simp; try with_reducible rfl
  try simp only [Act.put, List.setIfInBounds_toArray, List.set_cons_zero, List.set_cons_succ]
  refine takeH 1 (v := ?vcp2) rfl (by kernel_rfl) (by kernel_rfl) (by kernel_rfl) (fun _ _ _ h => h) hH rfl ?ycp2 ?rcp2
  case ycp2 => intro W hSw; go_simp; try with_reducible rfl
  try simp only [Act.put, List.setIfInBounds_toArray, List.set_cons_zero, List.set_cons_succ]
  refine takeH 2 (v := ?vcp3) rfl (by kernel_rfl) (by kernel_rfl) (by kernel_rfl) (fun _ _ _ h => h) hH rfl ?ycp3 ?rcp3
  case ycp3 => intro W hSw; go_simp; try with_reducible rfl
  try simp only [Act.put, List.setIfInBounds_toArray, List.set_cons_zero, List.set_cons_succ]
  refine takeH 3 (v := ?vcp4) rfl (by kernel_rfl) (by kernel_rfl) (by kernel_rfl) (fun _ _ _ h => h) hH rfl ?ycp4 ?rcp4
  case ycp4 => intro W hSw; go_simp; try with_reducible rfl
  try simp only [Act.put, List.setIfInBounds_toArray, List.set_cons_zero, List.set_cons_succ]
  refine takeH 5 (v := ?vcp5) rfl (by kernel_rfl) (by kernel_rfl) (by kernel_rfl) (fun _ _ _ h => h) hH rfl ?ycp5 ?rcp5
  case ycp5 => intro W hSw; go_simp; try with_reducible rfl
  try simp only [Act.put, List.setIfInBounds_toArray, List.set_cons_zero, List.set_cons_succ]
  refine takeH 6 (v := ?vcp6) rfl (by kernel_rfl) (by kernel_rfl) (by kernel_rfl) (fun _ _ _ h => h) hH rfl ?ycp6 ?rcp6
  case ycp6 => intro W hSw; go_simp; try with_reducible rfl
  try simp only [Act.put, List.setIfInBounds_toArray, List.set_cons_zero, List.set_cons_succ]
  refine takeH 7 (v := ?vcp7) rfl (by kernel_rfl) (by kernel_rfl) (by kernel_rfl) (fun _ _ _ h => h) hH rfl ?ycp7 ?rcp7
  case ycp7 => intro W hSw; go_simp; try with_reducible rfl
  try simp only [Act.put, List.setIfInBounds_toArray, List.set_cons_zero, List.set_cons_succ]
  refine takeH 8 (v := ?vcp8) rfl (by kernel_rfl) (by kernel_rfl) (by kernel_rfl) (fun _ _ _ h => h) hH rfl ?ycp8 ?rcp8
  case ycp8 => intro W hSw; go_simp; try with_reducible rfl
  try simp only [Act.put, List.setIfInBounds_toArray, List.set_cons_zero, List.set_cons_succ]
  refine callH 4 rfl (by kernel_rfl) rfl (fun K hK => ?_)
  go_simp
  refine (HC.out _ S9.out).mono ?_
  rintro e w5 ⟨v, rfl, ho, hb⟩
  have S1 := Lib.hid (show Str w5 w.heap.size 25 #[.slice none 0 0, .int .i64 0] from (hb.block _ S1.out.lt).trans S1.out)
  have S9 := Lib.hid (show Lg 62 w5 B l n from (hb.block _ S9.out.lt).trans S9.out)
  have Hb := Lib.hid (below_step Hb.out Hb.out.size hb)
  have OL := Lib.hid ho
  obtain ⟨va, vc, rfl, _, _⟩ := ho.ints
  skip
  clear hb ho
  refine hK.out _ _ S9.out.fees (fun hH => ?_)
  clear hK K
  try simp only [Act.put, List.setIfInBounds_toArray, List.set_cons_zero, List.set_cons_succ]
  refine takeH 9 (v := ?vcp9) rfl (by kernel_rfl) (by kernel_rfl) (by kernel_rfl) (fun _ _ _ h => h) hH rfl ?ycp9 ?rcp9
  case ycp9 => intro W hSw; go_simp; try with_reducible rfl
  try simp only [Act.put, List.setIfInBounds_toArray, List.set_cons_zero, List.set_cons_succ]
  refine callH 10 rfl (by kernel_rfl) rfl (fun K hK => ?_)
  have y0 := S1.out.frozen 0
  have y1 := S1.out.frozen 1
  have v0 := S1.out.cell 0 (v := .slice none 0 0) rfl
  have v1 := S1.out.cell 1 (v := .int .i64 0) rfl
  go_simp
  clear y0 y1 v0 v1
  have hne : (Value.slice va l.length vc).ownBlock ≠ some w.heap.size := fun e => by have := (OL.out.lt _ e).1; omega
  have SF := Lib.hid ((S1.out.set 0 (.slice va l.length vc)).set 1 (.int .i64 n))
  have S9 := Lib.hid ((S9.out.other (B' := w.heap.size) (by omega) 0 (.slice va l.length vc)).other (B' := w.heap.size) (by omega) 1 (.int .i64 n))
  have OL := Lib.hid ((OL.out.set_other hne 0 (.slice va l.length vc)).set_other hne 1 (.int .i64 n))
  have Hb := Lib.hid ((Hb.out.setCell (p := ⟨w.heap.size, 0, none⟩) (Nat.le_refl _) (.slice va l.length vc)).setCell (p := ⟨w.heap.size, 1, none⟩) (Nat.le_refl _) (.int .i64 n))
  refine hK.out _ _ (Str.cell S9.out 6 rfl) (fun hH => ?_)
  clear hK K hne
  try simp only [Act.put, List.setIfInBounds_toArray, List.set_cons_zero, List.set_cons_succ]
  generalize ((w5.setCell ⟨w.heap.size, 0, none⟩ (.slice va l.length vc)).setCell ⟨w.heap.size, 1, none⟩ (.int .i64 n)) = we at *
  refine wpAnyH_done (by kernel_rfl) ?_ _
  try simp only [Act.put]
  clear hH
  have e0 := SF.out.cell 0 (v := .slice va l.length vc) rfl
  have e1 := SF.out.cell 1 (v := .int .i64 n) rfl
  go_wp2
  refine bodyPost_ret (v := .agg #[.slice va l.length vc, .int .i64 n]) (by simp [results, Try.f30, go_sem, e0, e1]) rfl ?_
  exact ⟨_, rfl, OL.out.mono (by omega), Hb.out⟩

end Go.Proofs.Ytadgdjjibmofpaa

/- The reference's LedgerTotal, by a walk of its text; condition: the list is shorter than 2^40. -/
namespace Go.Proofs.Ytadgdjjibmofpaa
open Go.RowKit

end Go.Proofs.Ytadgdjjibmofpaa
