/- Texts that the laws of this folder share, one behind another; no conditions. -/
import Derived.Test.YtfnhafgjdnlhiaaBu0
import Derived.Deep.RegionHeld3
import Derived.Test.YtfnhafgjdnlhiaaRows
import Derived.Deep.QuietTactic
import Derived.BigQuiet
import Derived.Maps.AppendAt
import Derived.Laws.OwnMore

/- A region that draws its order, operation by operation: an operation that yields its value in every world that meets S, or is left out by its guard, is taken first; a call is met where it alone may come up. General steps; nothing here speaks of the program. -/
namespace Go.Proofs.Ytfnhafgjdnlhiaa
open Go.RowKit

section
variable {P : Program} {md : Region.Mode} {l : List Oper} {Q : Exit → Act → World → Prop} {S : World → Prop} {oi : Oper} {rest : List Oper} {fuel : Nat} {listed : Array Bool} {a : Act} {w : World}

theorem drop_at {i : Nat} (hi : l.drop i = oi :: rest) : l.toArray[i]? = some oi := by
  have h : (l.drop i)[0]? = some oi := by rw [hi]; rfl
  rw [List.getElem?_drop] at h
  simpa using h
/-- Take number i first: it is carried out and yields v in every world that meets S. -/
theorem takeH (i : Nat) {v : Value} (hi : l.drop i = oi :: rest) (hs : Region.noSelect l.toArray = true) (hf : Region.free md l.toArray listed i = true) (hr : (Region.ready md l.toArray listed).contains i = true)
    (hQ : ∀ c a w, Q (.panic c) (a.put oi.dst v) w → Q (.panic c) a w) (hS : S w) (hw : Region.wanted oi (yielded l.toArray a.tmps) = true)
    (hy : ∀ w, S w → (execOp a.eval oi).run P w = .ok (.value v) w)
    (h : wpAnyH P md l.toArray Q S fuel (listed.setIfInBounds i true) (a.put oi.dst v) w) : wpAnyH P md l.toArray Q S (fuel + 1) listed a w :=
  wpAnyH_take (drop_at hi) hs hf hr hQ (.inl ⟨hw, hy⟩) hS h
/-- Number i is left out by its guard. -/
theorem skipH (i : Nat) (hi : l.drop i = oi :: rest) (hs : Region.noSelect l.toArray = true) (hf : Region.free md l.toArray listed i = true) (hr : (Region.ready md l.toArray listed).contains i = true)
    (hQ : ∀ c a w, Q (.panic c) (a.put oi.dst undef) w → Q (.panic c) a w) (hS : S w) (hw : Region.wanted oi (yielded l.toArray a.tmps) = false)
    (h : wpAnyH P md l.toArray Q S fuel (listed.setIfInBounds i true) (a.put oi.dst undef) w) : wpAnyH P md l.toArray Q S (fuel + 1) listed a w :=
  wpAnyH_take (drop_at hi) hs hf hr hQ (.inr ⟨hw, rfl⟩) hS h
/-- Number i alone may come up: it is carried out, and S is shown behind it. -/
theorem callH (i : Nat) (hi : l.drop i = oi :: rest) (hr : Region.ready md l.toArray listed = [i]) (hw : Region.wanted oi (yielded l.toArray a.tmps) = true)
    (h : ∀ K' : Act → World → Prop, Shut (∀ a w, S w → (S w → wpAnyH P md l.toArray Q S fuel (listed.setIfInBounds i true) a w) → K' a w) → Oper.wp P oi a w K' Q) : wpAnyH P md l.toArray Q S (fuel + 1) listed a w :=
  wpAnyH_ready hr (by simp) (AllReadyH.cons (drop_at hi) (fun K' hK => by rw [if_pos hw]; exact h K' hK) AllReadyH.nil)
/-- Either of two may come up next. -/
theorem twoH {oj : Oper} {rest2 : List Oper} (i j : Nat) (hi : l.drop i = oi :: rest) (hj : l.drop j = oj :: rest2) (hr : Region.ready md l.toArray listed = [i, j]) (hw : Region.wanted oi (yielded l.toArray a.tmps) = true) (hw' : Region.wanted oj (yielded l.toArray a.tmps) = true)
    (h : ∀ K' : Act → World → Prop, Shut (∀ a w, S w → (S w → wpAnyH P md l.toArray Q S fuel (listed.setIfInBounds i true) a w) → K' a w) → Oper.wp P oi a w K' Q)
    (h' : ∀ K' : Act → World → Prop, Shut (∀ a w, S w → (S w → wpAnyH P md l.toArray Q S fuel (listed.setIfInBounds j true) a w) → K' a w) → Oper.wp P oj a w K' Q) : wpAnyH P md l.toArray Q S (fuel + 1) listed a w :=
  wpAnyH_ready hr (by simp) (AllReadyH.cons (drop_at hi) (fun K' hK => by rw [if_pos hw]; exact h K' hK) (AllReadyH.cons (drop_at hj) (fun K' hK => by rw [if_pos hw']; exact h' K' hK) AllReadyH.nil))
end

end Go.Proofs.Ytfnhafgjdnlhiaa

/- A region that draws its order, operation by operation, where the condition on the world is kept up to a last operation alone (a store into what was loaded): general steps, nothing here speaks of the program. -/
namespace Go.Proofs.Ytfnhafgjdnlhiaa
open Go.RowKit

/-- Whatever order is picked from here on; S holds behind every operation until number m has come up. -/
def wpAnyL (P : Program) (md : Region.Mode) (ops : Array Oper) (Q : Exit → Act → World → Prop) (m : Nat) (S : World → Prop) : Nat → Array Bool → Act → World → Prop
  | 0, listed, a, w => Region.ready md ops listed = [] ∧ Q .normal a w
  | fuel + 1, listed, a, w =>
    (Region.ready md ops listed = [] → Q .normal a w) ∧
    ∀ i ∈ Region.ready md ops listed, wpOp P ops Q i (fun a' w' => ((listed.setIfInBounds i true).getD m true = false → S w') ∧ wpAnyL P md ops Q m S fuel (listed.setIfInBounds i true) a' w') a w

section
variable {P : Program} {md : Region.Mode} {ops : Array Oper} {Q : Exit → Act → World → Prop} {S : World → Prop} {m : Nat}

theorem any_of_L : ∀ (fuel : Nat) (listed : Array Bool) (a : Act) (w : World), wpAnyL P md ops Q m S fuel listed a w → wpAny P md ops Q fuel listed a w
  | 0, _, _, _, h => h
  | fuel + 1, _, _, _, h => ⟨h.1, fun i hi => wpOp_mono (fun a' w' h' => any_of_L fuel _ a' w' h'.2) (h.2 i hi)⟩

/-- Of two that may come up, neither waits for the other. -/
theorem ready_pair {listed : Array Bool} {i j : Nat} (hi : i ∈ Region.ready md ops listed) (hj : j ∈ Region.ready md ops listed) :
    listed.getD j true = false ∧ ∃ o, ops[j]? = some o ∧ ∀ e ∈ o.after, Region.binds md e = true → e.on ≠ i := by
  obtain ⟨hun, o, ho, hall⟩ := mem_ready.1 hj
  refine ⟨hun, o, ho, fun e he hb heq => ?_⟩
  have h1 := hall e he hb
  have h0 := (mem_ready.1 hi).1
  rw [heq] at h1
  by_cases hlt : i < listed.size <;> simp [hlt] at h0 h1
  rw [h0] at h1; cases h1
/-- Number m waits for number i. -/
def waits (md : Region.Mode) (ops : Array Oper) (m i : Nat) : Bool := (ops[m]?.map fun o => o.after.any fun e => Region.binds md e && e.on == i).getD false
theorem waits_not {listed : Array Bool} {i : Nat} (hw : waits md ops m i = true) (hi : i ∈ Region.ready md ops listed) : m ∉ Region.ready md ops listed := by
  intro hm
  obtain ⟨_, o, ho, hno⟩ := ready_pair hi hm
  unfold waits at hw
  rw [ho, Option.map_some, Option.getD_some, Array.any_eq_true'] at hw
  obtain ⟨e, he, hb⟩ := hw
  rw [Bool.and_eq_true, beq_iff_eq] at hb
  exact hno e he hb.1 hb.2

/-- Whoever may come up ahead of number i leaves its temporaries alone. -/
def FreeAt (md : Region.Mode) (ops : Array Oper) (oi : Oper) (i : Nat) (listed : Array Bool) : Prop :=
  ∀ j oj, ops[j]? = some oj → j ≠ i → listed.getD j true = false → (∀ e ∈ oj.after, Region.binds md e = true → e.on ≠ i) → oi.apart ops oj = true
theorem FreeAt.set {oi : Oper} {i j : Nat} {listed : Array Bool} (h : FreeAt md ops oi i listed) (hj : listed.getD j true = false) : FreeAt md ops oi i (listed.setIfInBounds j true) := by
  intro k ok hk hki hun hno
  refine h k ok hk hki ?_ hno
  rcases Nat.decEq j k with hjk | hjk
  · rwa [getD_set_ne true hjk] at hun
  · exact hjk ▸ hj
theorem firstL {i : Nat} {oi : Oper} {v : Value} (hi : ops[i]? = some oi) (hsel : ∀ (j : Nat) (o : Oper) cs b, ops[j]? = some o → o.op ≠ .select cs b)
    (hQ : ∀ c a w, Q (.panic c) (a.put oi.dst v) w → Q (.panic c) a w) (hw : waits md ops m i = true) (fuel : Nat) :
    ∀ (listed : Array Bool) (a : Act) (w : World), FreeAt md ops oi i listed → listed.getD m true = false → i ∈ Region.ready md ops listed → YieldsIf P ops S oi v a → S w →
      wpAnyL P md ops Q m S fuel (listed.setIfInBounds i true) (a.put oi.dst v) w → wpAnyL P md ops Q m S (fuel + 1) listed a w := by
  have im : ∀ {listed}, i ∈ Region.ready md ops listed → i ≠ m := fun hr e => waits_not hw hr (e ▸ hr)
  induction fuel with
  | zero =>
    intro listed a w _ _ hr hy hS H
    refine ⟨fun h => absurd hr (by rw [h]; simp), fun j hj => ?_⟩
    rcases Nat.decEq j i with hji | rfl
    · exact absurd (ready_mono hj hji) (by rw [H.1]; simp)
    · exact hy.wpOp hi hS ⟨fun _ => hS, H⟩
  | succ fuel ih =>
    intro listed a w hfree hmf hr hy hS H
    refine ⟨fun h => absurd hr (by rw [h]; simp), fun j hj => ?_⟩
    rcases Nat.decEq j i with hji | rfl
    · have hjm : j ≠ m := fun e => waits_not hw hr (e ▸ hj)
      obtain ⟨hjun, oj, hoj, hno⟩ := ready_pair hr hj
      refine wpOp_mono (fun a' w' h3 => ?_) (wpOp_putIf hoj (hfree j oj hoj hji hjun hno) (fun cs b => hsel i oi cs b hi) (fun cs b => hsel j oj cs b hoj) hQ hy (H.2 j (ready_mono hj hji)))
      have hS' : S w' := h3.2.1 (by rw [getD_set_ne true hjm, getD_set_ne true (im hr)]; exact hmf)
      exact ⟨fun _ => hS', ih _ a' w' (hfree.set hjun) (by rw [getD_set_ne true hjm]; exact hmf) (ready_mono hr (Ne.symm hji)) h3.1 hS' (by rw [Array.setIfInBounds_comm _ _ hji]; exact h3.2.2)⟩
    · exact hy.wpOp hi hS ⟨fun _ => hS, H⟩
end

section
variable {P : Program} {md : Region.Mode} {l : List Oper} {Q : Exit → Act → World → Prop} {S : World → Prop} {oi : Oper} {rest : List Oper} {fuel m : Nat} {listed : Array Bool} {a : Act} {w : World}

/-- Take number i first: it is carried out and yields v in every world that meets S. -/
theorem takeL (i : Nat) {v : Value} (hi : l.drop i = oi :: rest) (hs : Region.noSelect l.toArray = true) (hf : Region.free md l.toArray listed i = true) (hr : (Region.ready md l.toArray listed).contains i = true) (hm : waits md l.toArray m i = true) (hm' : listed.getD m true = false)
    (hQ : ∀ c a w, Q (.panic c) (a.put oi.dst v) w → Q (.panic c) a w) (hS : S w) (hw : Region.wanted oi (yielded l.toArray a.tmps) = true)
    (hy : ∀ w, S w → (execOp a.eval oi).run P w = .ok (.value v) w)
    (h : wpAnyL P md l.toArray Q m S fuel (listed.setIfInBounds i true) (a.put oi.dst v) w) : wpAnyL P md l.toArray Q m S (fuel + 1) listed a w :=
  firstL (drop_at hi) (Region.noSelect_spec hs) hQ hm fuel listed a w (Region.free_spec (drop_at hi) hf) hm' (by simpa using hr) (.inl ⟨hw, hy⟩) hS h
/-- Number i is left out by its guard. -/
theorem skipL (i : Nat) (hi : l.drop i = oi :: rest) (hs : Region.noSelect l.toArray = true) (hf : Region.free md l.toArray listed i = true) (hr : (Region.ready md l.toArray listed).contains i = true) (hm : waits md l.toArray m i = true) (hm' : listed.getD m true = false)
    (hQ : ∀ c a w, Q (.panic c) (a.put oi.dst undef) w → Q (.panic c) a w) (hS : S w) (hw : Region.wanted oi (yielded l.toArray a.tmps) = false)
    (h : wpAnyL P md l.toArray Q m S fuel (listed.setIfInBounds i true) (a.put oi.dst undef) w) : wpAnyL P md l.toArray Q m S (fuel + 1) listed a w :=
  firstL (drop_at hi) (Region.noSelect_spec hs) hQ hm fuel listed a w (Region.free_spec (drop_at hi) hf) hm' (by simpa using hr) (.inr ⟨hw, rfl⟩) hS h
/-- Number i alone may come up, and is not the last: it is carried out, and S is shown behind it. -/
theorem callL (i : Nat) (hi : l.drop i = oi :: rest) (hr : Region.ready md l.toArray listed = [i]) (hw : Region.wanted oi (yielded l.toArray a.tmps) = true)
    (h : ∀ K' : Act → World → Prop, Shut (∀ a w, S w → (S w → wpAnyL P md l.toArray Q m S fuel (listed.setIfInBounds i true) a w) → K' a w) → Oper.wp P oi a w K' Q) : wpAnyL P md l.toArray Q m S (fuel + 1) listed a w := by
  refine ⟨fun h0 => absurd (hr ▸ h0) (by simp), fun j hj => ?_⟩
  rw [hr] at hj
  have : j = i := by simpa using hj
  subst this
  exact wpOp_step (drop_at hi) fun K' hK => by rw [if_pos hw]; exact h K' fun a w hS hW => hK a w ⟨fun _ => hS, hW hS⟩
/-- The last one. -/
theorem lastL (hi : l.drop m = oi :: rest) (hr : Region.ready md l.toArray listed = [m]) (hend : Region.ready md l.toArray (listed.setIfInBounds m true) = []) (hm : (listed.setIfInBounds m true).getD m true = true) (hw : Region.wanted oi (yielded l.toArray a.tmps) = true)
    (h : ∀ K' : Act → World → Prop, Shut (∀ a w, Q .normal a w → K' a w) → Oper.wp P oi a w K' Q) : wpAnyL P md l.toArray Q m S (fuel + 1) listed a w := by
  refine ⟨fun h0 => absurd (hr ▸ h0) (by simp), fun j hj => ?_⟩
  rw [hr] at hj
  have : j = m := by simpa using hj
  subst this
  refine wpOp_step (drop_at hi) fun K' hK => by
    rw [if_pos hw]
    refine h K' fun a w hq => hK a w ⟨fun e => absurd (hm.symm.trans e) (by simp), ?_⟩
    cases fuel with
    | zero => exact ⟨hend, hq⟩
    | succ f => exact ⟨fun _ => hq, by rw [hend]; simp⟩
theorem wp_region_L (m : Nat) (S : World → Prop) {id : Nat} {ops : Array Oper} {a : Act} {w : World} (hm : P.follows .mixedOrders = true) (hS : S w.drew)
    (h : S w.drew → wpAnyL P .any ops Q m S ops.size (Array.replicate ops.size false) a w.drew) : (Code.region id ops true).wp P Q a w :=
  wp_region_any hm (any_of_L _ _ _ _ (h hS))
end

end Go.Proofs.Ytfnhafgjdnlhiaa

/- A region that draws its order and keeps a condition up to its last operation: either of two operations may come up next. A general step; nothing here speaks of the program. -/
namespace Go.Proofs.Ytfnhafgjdnlhiaa
open Go.RowKit
section
variable {P : Program} {md : Region.Mode} {l : List Oper} {Q : Exit → Act → World → Prop} {S : World → Prop} {oi oj : Oper} {rest rest' : List Oper} {fuel m : Nat} {listed : Array Bool} {a : Act} {w : World}
/-- Number i or number j may come up, neither is the last. -/
theorem twoL (i j : Nat) (hi : l.drop i = oi :: rest) (hj : l.drop j = oj :: rest') (hr : Region.ready md l.toArray listed = [i, j]) (hw : Region.wanted oi (yielded l.toArray a.tmps) = true) (hw' : Region.wanted oj (yielded l.toArray a.tmps) = true)
    (h : ∀ K' : Act → World → Prop, Shut (∀ a w, S w → (S w → wpAnyL P md l.toArray Q m S fuel (listed.setIfInBounds i true) a w) → K' a w) → Oper.wp P oi a w K' Q)
    (h' : ∀ K' : Act → World → Prop, Shut (∀ a w, S w → (S w → wpAnyL P md l.toArray Q m S fuel (listed.setIfInBounds j true) a w) → K' a w) → Oper.wp P oj a w K' Q) : wpAnyL P md l.toArray Q m S (fuel + 1) listed a w := by
  refine ⟨fun h0 => absurd (hr ▸ h0) (by simp), fun k hk => ?_⟩
  rw [hr] at hk
  have hk' : k = i ∨ k = j := by simpa using hk
  rcases hk' with e | e
  · subst e
    exact wpOp_step (drop_at hi) fun K' hK => by rw [if_pos hw]; exact h K' fun a w hS hW => hK a w ⟨fun _ => hS, hW hS⟩
  · subst e
    exact wpOp_step (drop_at hj) fun K' hK => by rw [if_pos hw']; exact h' K' fun a w hS hW => hK a w ⟨fun _ => hS, hW hS⟩
end
end Go.Proofs.Ytfnhafgjdnlhiaa

/- The draw of a ledger (its balances in memory of the call's own), by a walk of its text; condition: at most 2^19 picks. -/
namespace Go.Proofs.Ytfnhafgjdnlhiaa
open Go.RowKit

theorem lit5L (t x y : Int) {k : Nat} (h : k < 5) : ∃ z : Int, (#[.int .i64 0, .int .i64 50, .int .i64 x, .int .i64 y, .int .i64 t] : Array Value)[k]? = some (.int .i64 z) := by
  match k, h with
  | 0, _ => exact ⟨_, rfl⟩
  | 1, _ => exact ⟨_, rfl⟩
  | 2, _ => exact ⟨_, rfl⟩
  | 3, _ => exact ⟨_, rfl⟩
  | 4, _ => exact ⟨_, rfl⟩
theorem lit3L {k : Nat} (h : k < 3) : ∃ z : Int, (#[.int .i64 (-1), .int .i64 999, .int .i64 1000] : Array Value)[k]? = some (.int .i64 z) := by
  match k, h with
  | 0, _ => exact ⟨_, rfl⟩
  | 1, _ => exact ⟨_, rfl⟩
  | 2, _ => exact ⟨_, rfl⟩
theorem lit7L {k : Nat} (h : k < 7) : ∃ z : Int, (#[.int .i64 (-1), .int .i64 5850, .int .i64 5851, .int .i64 5985, .int .i64 5986, .int .i64 5994, .int .i64 5995] : Array Value)[k]? = some (.int .i64 z) := by
  match k, h with
  | 0, _ => exact ⟨_, rfl⟩
  | 1, _ => exact ⟨_, rfl⟩
  | 2, _ => exact ⟨_, rfl⟩
  | 3, _ => exact ⟨_, rfl⟩
  | 4, _ => exact ⟨_, rfl⟩
  | 5, _ => exact ⟨_, rfl⟩
  | 6, _ => exact ⟨_, rfl⟩

/-- While a ledger is drawn: X its variable, u its list's slice, R the reader. -/
structure Lst (TL E : TypeId) (R : Nat) (w : World) (X : Nat) (n : Int) (p : Nat) (W : World) (u : Value) (l : List Int) : Prop where
  sx : Str W X TL #[u, .int .i64 n]
  own : Own E W w.heap.size u l
  nx : ∀ b, u.ownBlock = some b → b ≠ X ∧ b ≠ w.heap.size
  sr : Str W w.heap.size TL #[.slice none 0 0, .int .i64 0]
  rd : Rdr W R p
  gr : w.grownBy W (some R)
  hR : R < w.heap.size
  hX : w.heap.size < X
section
variable {TL E : TypeId} {R : Nat} {w : World} {X : Nat} {n : Int} {p : Nat} {W : World} {u : Value} {l : List Int}
theorem Lst.picked (h : Lst TL E R w X n p W u l) {w2 : World} {p2 : Nat} (hg : W.grownBy w2 (some R)) (hr : Rdr w2 R p2) : Lst TL E R w X n p2 w2 u l := by
  have h1 := h.hR; have h2 := h.hX
  exact ⟨h.sx.kept hg (by simp; omega), h.own.kept hg (.inr (fun e => by have := (h.own.lt R e).1; omega)), h.nx, h.sr.kept hg (by simp; omega), hr, grownBy_trans h.gr hg, h1, h2⟩
theorem Lst.drew (h : Lst TL E R w X n p W u l) : Lst TL E R w X n p W.drew u l := ⟨h.sx, h.own.drewN 1, h.nx, h.sr, h.rd.drewN 1, grownBy_trans h.gr ⟨rfl, rfl, rfl, Nat.le_refl _, fun _ _ _ => rfl⟩, h.hR, h.hX⟩
theorem Lst.below (h : Lst TL E R w X n p W u l) {w2 : World} (hb : Below W.heap.size W w2) : Lst TL E R w X n p w2 u l :=
  ⟨(hb.block _ h.sx.lt).trans h.sx, h.own.below hb, h.nx, (hb.block _ h.sr.lt).trans h.sr, h.rd.kept (below_grown hb) (by simp), grown_row h.gr (below_grown hb) (by simp), h.hR, h.hX⟩
theorem Lst.put (h : Lst TL E R w X n p W u l) {w2 : World} {u2 : Value} {l2 : List Int} (ho : Own E w2 w.heap.size u2 l2) (hg : W.grownBy w2 u.ownBlock) (hat : u2.ownBlock = u.ownBlock ∨ ∃ b, u2.ownBlock = some b ∧ W.heap.size ≤ b) :
    Lst TL E R w X n p (w2.setCell ⟨X, 0, none⟩ u2) u2 l2 ∧ Str w2 X TL #[u, .int .i64 n] := by
  have h1 := h.hR; have h2 := h.hX; have h3 := h.sx.lt; have h4 := h.sr.lt
  have hn : ∀ b, u2.ownBlock = some b → b ≠ X ∧ b ≠ w.heap.size := fun b e => by
    rcases hat with h' | ⟨b', h', h''⟩
    · exact h.nx b (by rw [← h', e])
    · rw [e] at h'; cases h'; omega
  have hsx : Str w2 X TL #[u, .int .i64 n] := h.sx.kept hg (fun e => (h.nx X e.symm).1 rfl)
  have hsr : Str w2 w.heap.size TL #[.slice none 0 0, .int .i64 0] := h.sr.kept hg (fun e => (h.nx _ e.symm).2 rfl)
  exact ⟨⟨hsx.set 0 u2, ho.set_other (fun e => (hn X e).1 rfl) _ _, hn, hsr.other (by omega) _ _, (h.rd.kept hg (fun b e => by have := (h.own.lt b e).1; omega)).kept (grownBy_set w2 X 0 u2) (fun b e => by cases e; omega),
    grown_set (grown_row h.gr hg (fun b e => (h.own.lt b e).1)) (by omega) 0 u2, h1, h2⟩, hsx⟩
theorem Lst.fees (h : Lst TL E R w X n p W u l) (z : Int) : Lst TL E R w X z p (W.setCell ⟨X, 1, none⟩ (.int .i64 z)) u l := by
  have h1 := h.hR; have h2 := h.hX
  exact ⟨h.sx.set 1 _, h.own.set_other (fun e => (h.nx X e).1 rfl) _ _, h.nx, h.sr.other (by omega) _ _, h.rd.kept (grownBy_set _ X 1 _) (fun b e => by cases e; omega), grown_set h.gr (by omega) 1 _, h1, h2⟩
theorem Lst.setb {g c m : Nat} (h : Lst TL E R w X n p W (.slice (some ⟨g, 0, none⟩) m c) l) (hm : m = l.length) (k : Nat) (z : Int) : Lst TL E R w X n p (W.setCell ⟨g, k, none⟩ (.int .i64 z)) (.slice (some ⟨g, 0, none⟩) m c) (l.set k z) := by
  have h1 := h.hR; have h2 := h.hX
  have h3 := h.nx g rfl
  have h4 := (h.own.lt g rfl).1
  exact ⟨h.sx.other (fun e => h3.1 e.symm) _ _, (h.own.store hm k z).1, h.nx, h.sr.other (fun e => h3.2 e.symm) _ _, h.rd.kept (grownBy_set _ g k _) (fun b e => by cases e; omega), grown_set h.gr h4 k _, h1, h2⟩
theorem Lst.cut {g c m : Nat} (h : Lst TL E R w X n p W (.slice (some ⟨g, 0, none⟩) m c) l) (k : Nat) (hk : k ≤ l.length) : Lst TL E R w X n p (W.setCell ⟨X, 0, none⟩ (.slice (some ⟨g, 0, none⟩) k c)) (.slice (some ⟨g, 0, none⟩) k c) (l.take k) := by
  have h1 := h.hR; have h2 := h.hX
  have h3 := h.nx g rfl
  exact ⟨h.sx.set 0 _, (h.own.front k hk).set_other (by simp only [Value.ownBlock, ne_eq, Option.some.injEq]; exact h3.1) _ _, h.nx, h.sr.other (by omega) _ _, h.rd.kept (grownBy_set _ X 0 _) (fun b e => by cases e; omega), grown_set h.gr (by omega) 0 _, h1, h2⟩
/-- What a drawn ledger is. -/
def LgDraw (E : TypeId) (R p : Nat) (w : World) (e : Ending) (w' : World) : Prop := ∃ (l : List Int) (n : Int) (u : Value) (p' : Nat), e = .returned (.agg #[u, .int .i64 n]) ∧ Own E w' w.heap.size u l ∧ (∀ b, u.ownBlock = some b → b ≠ w.heap.size) ∧ l.length ≤ 6 ∧ Rdr w' R p' ∧ p' ≤ p + 50 ∧ w.grownBy w' (some R)
theorem Lst.fin (h : Lst TL E R w X n p W u l) {p0 : Nat} {e : Ending} (he : e = .returned (.agg #[u, .int .i64 n])) (hl : l.length ≤ 6) (hp : p ≤ p0 + 50) : LgDraw E R p0 w e ((W.setCell ⟨w.heap.size, 0, none⟩ u).setCell ⟨w.heap.size, 1, none⟩ (.int .i64 n)) :=
  ⟨l, n, u, p, he, (h.own.set_other (fun e => (h.nx _ e).2 rfl) _ _).set_other (fun e => (h.nx _ e).2 rfl) _ _, fun b e => (h.nx b e).2, hl, (h.rd.kept (grownBy_set _ w.heap.size 0 _) (fun b e => by cases e; exact h.hR)).kept (grownBy_set _ w.heap.size 1 _) (fun b e => by cases e; exact h.hR), hp,
    grown_set (grown_set h.gr (Nat.le_refl _) 0 _) (Nat.le_refl _) 1 _⟩
end

set_option maxRecDepth 8000 in
set_option maxHeartbeats 8000000 in
theorem drawLedger (R p : Nat) (w : World) (hp : p ≤ 900000) (hr : Rdr w R p) (hR : R < w.heap.size) : Calls Try.prog 29 #[.pointer (some ⟨R, 0, none⟩)] w (LgDraw 3 R p w) := by
  have hfin : ∀ (X : Nat) (n : Int) (p' : Nat) (W : World) (u : Value) (l : List Int), Lst 25 3 R w X n p' W u l → l.length ≤ 6 → p' ≤ p + 50 → LgDraw 3 R p w (.returned (.agg #[u, .int .i64 n])) ((W.setCell ⟨w.heap.size, 0, none⟩ u).setCell ⟨w.heap.size, 1, none⟩ (.int .i64 n)) := fun X n p' W u l h h1 h2 => h.fin rfl h1 h2
  have Hfin := Lib.hid hfin; clear hfin
  generalize LgDraw 3 R p w = POST at *
  have SR := Lib.hid (Str.new w 25 #[.slice none 0 0, .int .i64 0])
  have Hr := Lib.hid (hr.alloc (.cells #[.slice none 0 0, .int .i64 0] 25)); clear hr
  have Hg := Lib.hid (World.grownBy_alloc w (.cells #[.slice none 0 0, .int .i64 0] 25) (some R))
  have hz0 : (w.alloc (.cells #[.slice none 0 0, .int .i64 0] 25)).heap.size = w.heap.size + 1 := by simp
  go_enter Try.func29, Try.ntmps29
  go_wp2_with fail
  generalize (w.alloc (.cells #[.slice none 0 0, .int .i64 0] 25)) = W0 at *
  have hal : Below W0.heap.size W0 (W0.alloc (.cells #[] 3)) := (Below.refl _ _).alloc (Nat.le_refl _) _
  have ho0 := own_empty 3 W0 (Nat.le_refl _)
  rw [hz0] at ho0
  have hzL : (W0.alloc (.cells #[] 3)).heap.size = W0.heap.size + 1 := by simp
  have SR := Lib.hid (show Str (W0.alloc (.cells #[] 3)) w.heap.size 25 #[.slice none 0 0, .int .i64 0] from SR.out.alloc _)
  have Hr := Lib.hid (Hr.out.alloc (.cells #[] 3))
  have Hg := Lib.hid (grown_row Hg.out (World.grownBy_alloc W0 (.cells #[] 3) none) (by simp))
  have Ho := Lib.hid ho0; clear ho0 hal
  skip
  refine (pick_any R 200 p _ (by omega) Hr.out (by omega)).mono ?_
  rintro e w2 ⟨q, rfl, hq0, hq1, hr', hg'⟩
  have hsw2 := hg'.size
  have HV := Lib.hid (show Lst 25 3 R w w2.heap.size q (p + 1) (w2.alloc (.cells #[(.slice (some ⟨w.heap.size + 1, 0, none⟩) 0 0), .int .i64 q] 25)) (.slice (some ⟨w.heap.size + 1, 0, none⟩) 0 0) [] from ⟨Str.new _ _ _, ((Ho.out.kept hg' (.inr (fun e => by have := (Ho.out.lt R e).1; omega))).alloc _).mono (by omega), (fun b e => (show w.heap.size + 1 = b by simpa [Value.ownBlock] using e) ▸ ⟨by omega, by omega⟩), (SR.out.kept hg' (by simp; omega)).alloc _, hr'.alloc _, grown_row (grownBy_trans Hg.out hg') (World.grownBy_alloc _ _ none) (by simp), hR, by omega⟩)
  have hzE : w2.heap.size < (w2.alloc (.cells #[(.slice (some ⟨w.heap.size + 1, 0, none⟩) 0 0), .int .i64 q] 25)).heap.size := by simp
  clear hr' hg' SR Hr Hg Ho
  go_wp2
  generalize (w2.alloc (.cells #[(.slice (some ⟨w.heap.size + 1, 0, none⟩) 0 0), .int .i64 q] 25)) = W3 at *
  obtain ⟨X, hX⟩ : ∃ X, X = w2.heap.size := ⟨_, rfl⟩
  rw [← hX] at HV
  rw [← hX]
  have hwX : w.heap.size < X := by omega
  clear hX
  skip
  skip
  have hex : ([] : List Int).length = 0 := rfl
  generalize ([] : List Int) = l0 at *
  go_loopw [4] (fun i wr => ∃ (k p' : Nat) (u : Value) (l : List Int), k ≤ 6 ∧ i = .int .i64 k ∧ p' ≤ p + 1 + 4 * k ∧ l.length = k ∧ Lst 25 3 R w X q p' wr u l) (fun i _ => 6 - (intOf i).toNat)
  case atStart => exact ⟨0, p + 1, _, l0, by omega, rfl, by omega, hex, HV.out⟩
  case round =>
    clear HV hex
    obtain ⟨k, p', u, l, hk, rfl, hpk, hlk, hv⟩ := hrel
    obtain ⟨au, cu, rfl, _, _⟩ := hv.own.ints
    have HV := Lib.hid hv; clear hv
    have Hlk := Lib.hid hlk; clear hlk
    have hsz := HV.out.sr.lt
    have hRw := HV.out.hR
    by_cases hlt : k < 6
    case pos =>
      have hlt' : (k : Int) < 6 := by omega
      have x0 := HV.out.sx.cell 0 (v := .slice au l.length cu) rfl
      go_wp2_with fail
      clear x0
      refine wp_region_L 17 (fun w' => w'.cell? ⟨X, 0, none⟩ = some (.slice au l.length cu)) (by kernel_rfl) (HV.out.drew.sx.cell 0 rfl) (fun hH => ?_)
      have HV := Lib.hid HV.out.drew
      generalize wr.drew = wd at *
      have hsd := HV.out.sr.lt
      refine takeL 0 (v := ?vd1) rfl (by kernel_rfl) (by kernel_rfl) (by kernel_rfl) (by kernel_rfl) (by kernel_rfl) (fun _ _ _ h => h) hH rfl ?yd1 ?rd1
      case yd1 => intro W hSw; go_simp; try with_reducible rfl
      try simp only [Act.put, List.setIfInBounds_toArray, List.set_cons_zero, List.set_cons_succ]
      refine takeL 1 (v := ?vd2) rfl (by kernel_rfl) (by kernel_rfl) (by kernel_rfl) (by kernel_rfl) (by kernel_rfl) (fun _ _ _ h => h) hH rfl ?yd2 ?rd2
      case yd2 => intro W hSw; go_simp; try with_reducible rfl
      try simp only [Act.put, List.setIfInBounds_toArray, List.set_cons_zero, List.set_cons_succ]
      refine takeL 2 (v := ?vd3) rfl (by kernel_rfl) (by kernel_rfl) (by kernel_rfl) (by kernel_rfl) (by kernel_rfl) (fun _ _ _ h => h) hH rfl ?yd3 ?rd3
      case yd3 => intro W hSw; go_simp; try with_reducible rfl
      try simp only [Act.put, List.setIfInBounds_toArray, List.set_cons_zero, List.set_cons_succ]
      refine takeL 4 (v := ?vd4) rfl (by kernel_rfl) (by kernel_rfl) (by kernel_rfl) (by kernel_rfl) (by kernel_rfl) (fun _ _ _ h => h) hH rfl ?yd4 ?rd4
      case yd4 => intro W hSw; go_simp; try with_reducible rfl
      try simp only [Act.put, List.setIfInBounds_toArray, List.set_cons_zero, List.set_cons_succ]
      refine takeL 7 (v := ?vd5) rfl (by kernel_rfl) (by kernel_rfl) (by kernel_rfl) (by kernel_rfl) (by kernel_rfl) (fun _ _ _ h => h) hH rfl ?yd5 ?rd5
      case yd5 => intro W hSw; go_simp; try with_reducible rfl
      try simp only [Act.put, List.setIfInBounds_toArray, List.set_cons_zero, List.set_cons_succ]
      refine takeL 10 (v := ?vd6) rfl (by kernel_rfl) (by kernel_rfl) (by kernel_rfl) (by kernel_rfl) (by kernel_rfl) (fun _ _ _ h => h) hH rfl ?yd6 ?rd6
      case yd6 => intro W hSw; go_simp; try with_reducible rfl
      try simp only [Act.put, List.setIfInBounds_toArray, List.set_cons_zero, List.set_cons_succ]
      refine callL 3 rfl (by kernel_rfl) rfl (fun K hK => ?_)
      go_simp
      refine (pick_any R 250 (p') _ (by omega) HV.out.rd (by omega)).mono ?_
      rintro e wa ⟨x, rfl, hx0, hx1, hr', hg'⟩
      have HV := Lib.hid (HV.out.picked hg' hr')
      have hswa := hg'.size
      clear hr' hg'
      refine hK.out _ _ (HV.out.sx.cell 0 rfl) (fun hH => ?_)
      clear hK K
      try simp only [Act.put, List.setIfInBounds_toArray, List.set_cons_zero, List.set_cons_succ]
      refine callL 5 rfl (by kernel_rfl) rfl (fun K hK => ?_)
      go_simp
      refine (pick_any R 100 (p' + 1) _ (by omega) HV.out.rd (by omega)).mono ?_
      rintro e wb ⟨y, rfl, hy0, hy1, hr', hg'⟩
      have HV := Lib.hid (HV.out.picked hg' hr')
      have hswb := hg'.size
      clear hr' hg'
      refine hK.out _ _ (HV.out.sx.cell 0 rfl) (fun hH => ?_)
      clear hK K
      try simp only [Act.put, List.setIfInBounds_toArray, List.set_cons_zero, List.set_cons_succ]
      have hw9 : IntKind.i64.wrap (900 + y) = 900 + y := IntWalk.i64_in _ (by omega)
      refine takeL 6 (v := .int .i64 (900 + y)) rfl (by kernel_rfl) (by kernel_rfl) (by kernel_rfl) (by kernel_rfl) (by kernel_rfl) (fun _ _ _ h => h) hH rfl ?yd7 ?rd7
      case yd7 => intro W hSw; go_simp; first | done | (simp [hw9])
      try simp only [Act.put, List.setIfInBounds_toArray, List.set_cons_zero, List.set_cons_succ]
      refine callL 8 rfl (by kernel_rfl) rfl (fun K hK => ?_)
      go_simp
      refine (pick_any R 120 (p' + 1 + 1) _ (by omega) HV.out.rd (by omega)).mono ?_
      rintro e wc ⟨z9, rfl, hz90, hz91, hr', hg'⟩
      have HV := Lib.hid (HV.out.picked hg' hr')
      have hswc := hg'.size
      clear hr' hg'
      refine hK.out _ _ (HV.out.sx.cell 0 rfl) (fun hH => ?_)
      clear hK K
      try simp only [Act.put, List.setIfInBounds_toArray, List.set_cons_zero, List.set_cons_succ]
      refine twoL 9 11 rfl rfl (by kernel_rfl) rfl rfl (fun K hK => ?_) (fun K hK => ?_)
      rotate_left
      · skip
        go_simp
        refine (pick_any R 5 (p' + 1 + 1 + 1) _ (by omega) HV.out.rd (by omega)).mono ?_
        rintro e we ⟨v, rfl, hv0, hv1, hr', hg'⟩
        have HV := Lib.hid (HV.out.picked hg' hr')
        have hswe := hg'.size
        clear hr' hg'
        refine hK.out _ _ (HV.out.sx.cell 0 rfl) (fun hH => ?_)
        clear hK K
        try simp only [Act.put, List.setIfInBounds_toArray, List.set_cons_zero, List.set_cons_succ]
        refine callL 9 rfl (by kernel_rfl) rfl (fun K hK => ?_)
        go_simp
        have hal : Below we.heap.size we (we.alloc (.cells #[.int .i64 0, .int .i64 50, .int .i64 x, .int .i64 (900 + y), .int .i64 z9] 3)) := (Below.refl _ _).alloc (Nat.le_refl _) _
        have LS := Lib.hid (Str.new we 3 #[.int .i64 0, .int .i64 50, .int .i64 x, .int .i64 (900 + y), .int .i64 z9])
        have HBR := Lib.hid (show R ≠ we.heap.size by have := HV.out.sr.lt; omega)
        have HV := Lib.hid (HV.out.below hal)
        clear hal
        generalize (we.alloc (.cells #[.int .i64 0, .int .i64 50, .int .i64 x, .int .i64 (900 + y), .int .i64 z9] 3)) = wl at *
        generalize we.heap.size = LB at *
        refine hK.out _ _ (HV.out.sx.cell 0 rfl) (fun hH => ?_)
        clear hK K
        try simp only [Act.put, List.setIfInBounds_toArray, List.set_cons_zero, List.set_cons_succ]
        obtain ⟨m, rfl⟩ : ∃ m : Nat, v = m := ⟨v.toNat, by omega⟩
        have hm5 : m < 5 := by omega
        have hm' : (m : Int) < 5 := by omega
        obtain ⟨z, hz⟩ := lit5L z9 x (900 + y) hm5
        have lz := LS.out.cell m hz
        refine callL 12 rfl (by kernel_rfl) rfl (fun K hK => ?_)
        go_simp
        refine hK.out _ _ (HV.out.sx.cell 0 rfl) (fun hH => ?_)
        clear hK K
        try simp only [Act.put, List.setIfInBounds_toArray, List.set_cons_zero, List.set_cons_succ]
        refine callL 13 rfl (by kernel_rfl) rfl (fun K hK => ?_)
        go_simp
        refine hK.out _ _ (HV.out.sx.cell 0 rfl) (fun hH => ?_)
        clear hK K
        try simp only [Act.put, List.setIfInBounds_toArray, List.set_cons_zero, List.set_cons_succ]
        clear lz hz hm' LS
        refine callL 14 rfl (by kernel_rfl) rfl (fun K hK => ?_)
        go_simp
        have hal : Below wl.heap.size wl (wl.alloc (.cells #[.int .i64 z] 3)) := (Below.refl _ _).alloc (Nat.le_refl _) _
        refine hK.out _ _ ((HV.out.below hal).sx.cell 0 rfl) (fun hH => ?_)
        clear hK K hal
        try simp only [Act.put, List.setIfInBounds_toArray, List.set_cons_zero, List.set_cons_succ]
        refine callL 15 rfl (by kernel_rfl) rfl (fun K hK => ?_)
        refine op_push_at TI' wl _ _ rfl w.heap.size (.slice au l.length cu) l z rfl HV.out.own (by have := Hlk.out; omega) rfl (by have := HV.out.sr.lt; omega) (fun v9 w9 ho9 hg9 hat9 => ?_)
        have Hl9 := Lib.hid (show (l ++ [z]).length = k + 1 by rw [List.length_append, Hlk.out]; rfl)
        generalize l ++ [z] = l9 at *
        obtain ⟨a9, c9, rfl, _, _⟩ := ho9.ints
        obtain ⟨hV9, hsx9⟩ := HV.out.put ho9 hg9 hat9
        have HV9 := Lib.hid hV9; have SX := Lib.hid hsx9
        clear ho9 hg9 hat9 hV9 hsx9 HV
        refine hK.out _ _ (SX.out.cell 0 rfl) (fun hH => ?_)
        clear hK K
        try simp only [Act.put, List.setIfInBounds_toArray, List.set_cons_zero, List.set_cons_succ]
        refine takeL 16 (v := ?vd8) rfl (by kernel_rfl) (by kernel_rfl) (by kernel_rfl) (by kernel_rfl) (by kernel_rfl) (fun _ _ _ h => h) hH rfl ?yd8 ?rd8
        case yd8 => intro W hSw; go_simp; try with_reducible rfl
        try simp only [Act.put, List.setIfInBounds_toArray, List.set_cons_zero, List.set_cons_succ]
        refine lastL rfl (by kernel_rfl) (by kernel_rfl) (by kernel_rfl) rfl (fun K hK => ?_)
        have y0 := SX.out.frozen 0
        have c0 := SX.out.cell 0 (v := .slice au l.length cu) rfl
        go_simp
        clear y0 c0
        refine hK.out _ _ ?_
        clear hK K hH SX
        try simp only [Act.put]
        generalize w9.setCell ⟨X, 0, none⟩ (.slice a9 l9.length c9) = W9 at *
        go_wp2
        go_roundw
        case rel => exact ⟨k + 1, _, _, _, by omega, by go_num, by omega, Hl9.out, HV9.out⟩
        case measure => simp [intOf]; omega
      go_simp
      have hal : Below wc.heap.size wc (wc.alloc (.cells #[.int .i64 0, .int .i64 50, .int .i64 x, .int .i64 (900 + y), .int .i64 z9] 3)) := (Below.refl _ _).alloc (Nat.le_refl _) _
      have LS := Lib.hid (Str.new wc 3 #[.int .i64 0, .int .i64 50, .int .i64 x, .int .i64 (900 + y), .int .i64 z9])
      have HBR := Lib.hid (show R ≠ wc.heap.size by have := HV.out.sr.lt; omega)
      have HV := Lib.hid (HV.out.below hal)
      clear hal
      generalize (wc.alloc (.cells #[.int .i64 0, .int .i64 50, .int .i64 x, .int .i64 (900 + y), .int .i64 z9] 3)) = wl at *
      generalize wc.heap.size = LB at *
      refine hK.out _ _ (HV.out.sx.cell 0 rfl) (fun hH => ?_)
      clear hK K
      try simp only [Act.put, List.setIfInBounds_toArray, List.set_cons_zero, List.set_cons_succ]
      refine callL 11 rfl (by kernel_rfl) rfl (fun K hK => ?_)
      go_simp
      refine (pick_any R 5 (p' + 1 + 1 + 1) _ (by omega) HV.out.rd (by omega)).mono ?_
      rintro e we ⟨v, rfl, hv0, hv1, hr', hg'⟩
      have HV := Lib.hid (HV.out.picked hg' hr')
      have LS := Lib.hid (LS.out.kept hg' (by simp; have := HBR.out; omega))
      have hswe := hg'.size
      clear hr' hg'
      refine hK.out _ _ (HV.out.sx.cell 0 rfl) (fun hH => ?_)
      clear hK K
      try simp only [Act.put, List.setIfInBounds_toArray, List.set_cons_zero, List.set_cons_succ]
      obtain ⟨m, rfl⟩ : ∃ m : Nat, v = m := ⟨v.toNat, by omega⟩
      have hm5 : m < 5 := by omega
      have hm' : (m : Int) < 5 := by omega
      obtain ⟨z, hz⟩ := lit5L z9 x (900 + y) hm5
      have lz := LS.out.cell m hz
      refine callL 12 rfl (by kernel_rfl) rfl (fun K hK => ?_)
      go_simp
      refine hK.out _ _ (HV.out.sx.cell 0 rfl) (fun hH => ?_)
      clear hK K
      try simp only [Act.put, List.setIfInBounds_toArray, List.set_cons_zero, List.set_cons_succ]
      refine callL 13 rfl (by kernel_rfl) rfl (fun K hK => ?_)
      go_simp
      refine hK.out _ _ (HV.out.sx.cell 0 rfl) (fun hH => ?_)
      clear hK K
      try simp only [Act.put, List.setIfInBounds_toArray, List.set_cons_zero, List.set_cons_succ]
      clear lz hz hm' LS
      refine callL 14 rfl (by kernel_rfl) rfl (fun K hK => ?_)
      go_simp
      have hal : Below we.heap.size we (we.alloc (.cells #[.int .i64 z] 3)) := (Below.refl _ _).alloc (Nat.le_refl _) _
      refine hK.out _ _ ((HV.out.below hal).sx.cell 0 rfl) (fun hH => ?_)
      clear hK K hal
      try simp only [Act.put, List.setIfInBounds_toArray, List.set_cons_zero, List.set_cons_succ]
      refine callL 15 rfl (by kernel_rfl) rfl (fun K hK => ?_)
      refine op_push_at TI' we _ _ rfl w.heap.size (.slice au l.length cu) l z rfl HV.out.own (by have := Hlk.out; omega) rfl (by have := HV.out.sr.lt; omega) (fun v9 w9 ho9 hg9 hat9 => ?_)
      have Hl9 := Lib.hid (show (l ++ [z]).length = k + 1 by rw [List.length_append, Hlk.out]; rfl)
      generalize l ++ [z] = l9 at *
      obtain ⟨a9, c9, rfl, _, _⟩ := ho9.ints
      obtain ⟨hV9, hsx9⟩ := HV.out.put ho9 hg9 hat9
      have HV9 := Lib.hid hV9; have SX := Lib.hid hsx9
      clear ho9 hg9 hat9 hV9 hsx9 HV
      refine hK.out _ _ (SX.out.cell 0 rfl) (fun hH => ?_)
      clear hK K
      try simp only [Act.put, List.setIfInBounds_toArray, List.set_cons_zero, List.set_cons_succ]
      refine takeL 16 (v := ?vd9) rfl (by kernel_rfl) (by kernel_rfl) (by kernel_rfl) (by kernel_rfl) (by kernel_rfl) (fun _ _ _ h => h) hH rfl ?yd9 ?rd9
      case yd9 => intro W hSw; go_simp; try with_reducible rfl
      try simp only [Act.put, List.setIfInBounds_toArray, List.set_cons_zero, List.set_cons_succ]
      refine lastL rfl (by kernel_rfl) (by kernel_rfl) (by kernel_rfl) rfl (fun K hK => ?_)
      have y0 := SX.out.frozen 0
      have c0 := SX.out.cell 0 (v := .slice au l.length cu) rfl
      go_simp
      clear y0 c0
      refine hK.out _ _ ?_
      clear hK K hH SX
      try simp only [Act.put]
      generalize w9.setCell ⟨X, 0, none⟩ (.slice a9 l9.length c9) = W9 at *
      go_wp2
      go_roundw
      case rel => exact ⟨k + 1, _, _, _, by omega, by go_num, by omega, Hl9.out, HV9.out⟩
      case measure => simp [intOf]; omega
    case neg =>
      have hlt' : ¬ (k : Int) < 6 := by omega
      have h6 : l.length = 6 := by have := Hlk.out; omega
      have H6 := Lib.hid h6; clear h6 Hlk
      obtain ⟨g, c, hgc, hg1, hg2, hc6, _, _⟩ := HV.out.own.row (by rw [H6.out]; decide)
      simp only [Value.slice.injEq, true_and] at hgc
      obtain ⟨rfl, rfl⟩ := hgc
      have hgx := HV.out.nx g rfl
      go_wp2_with fail
      refine (pick_any R 20 p' _ (by omega) HV.out.rd (by omega)).mono ?_
      rintro e w4 ⟨sw, rfl, hsw0, hsw1, hr', hg'⟩
      have HV := Lib.hid (HV.out.picked hg' hr')
      clear hr' hg'
      by_cases h0 : sw = 0
      case pos =>
        subst h0
        have x0 := HV.out.sx.cell 0 (v := .slice (some ⟨g, 0, none⟩) l.length cu) rfl
        go_wp2_with fail
        clear x0
        refine wp_region_L 10 (fun w' => w'.cell? ⟨X, 0, none⟩ = some (.slice (some ⟨g, 0, none⟩) l.length cu)) (by kernel_rfl) (HV.out.drew.sx.cell 0 rfl) (fun hH => ?_)
        have HV := Lib.hid HV.out.drew
        generalize w4.drew = wd at *
        have hsd := HV.out.sr.lt
        refine takeL 0 (v := ?vd10) rfl (by kernel_rfl) (by kernel_rfl) (by kernel_rfl) (by kernel_rfl) (by kernel_rfl) (fun _ _ _ h => h) hH rfl ?yd10 ?rd10
        case yd10 => intro W hSw; go_simp; try with_reducible rfl
        try simp only [Act.put, List.setIfInBounds_toArray, List.set_cons_zero, List.set_cons_succ]
        refine takeL 1 (v := ?vd11) rfl (by kernel_rfl) (by kernel_rfl) (by kernel_rfl) (by kernel_rfl) (by kernel_rfl) (fun _ _ _ h => h) hH rfl ?yd11 ?rd11
        case yd11 => intro W hSw; go_simp; try with_reducible rfl
        try simp only [Act.put, List.setIfInBounds_toArray, List.set_cons_zero, List.set_cons_succ]
        refine takeL 2 (v := ?vd12) rfl (by kernel_rfl) (by kernel_rfl) (by kernel_rfl) (by kernel_rfl) (by kernel_rfl) (fun _ _ _ h => h) hH rfl ?yd12 ?rd12
        case yd12 => intro W hSw; go_simp; try with_reducible rfl
        try simp only [Act.put, List.setIfInBounds_toArray, List.set_cons_zero, List.set_cons_succ]
        refine takeL 5 (v := ?vd13) rfl (by kernel_rfl) (by kernel_rfl) (by kernel_rfl) (by kernel_rfl) (by kernel_rfl) (fun _ _ _ h => h) hH rfl ?yd13 ?rd13
        case yd13 => intro W hSw; go_simp; try with_reducible rfl
        try simp only [Act.put, List.setIfInBounds_toArray, List.set_cons_zero, List.set_cons_succ]
        refine twoL 3 4 rfl rfl (by kernel_rfl) rfl rfl (fun K hK => ?_) (fun K hK => ?_)
        rotate_left
        · skip
          go_simp
          have hal : Below wd.heap.size wd (wd.alloc (.cells #[.int .i64 (-1), .int .i64 999, .int .i64 1000] 3)) := (Below.refl _ _).alloc (Nat.le_refl _) _
          have LS := Lib.hid (Str.new wd 3 #[.int .i64 (-1), .int .i64 999, .int .i64 1000])
          have HBR := Lib.hid (show R ≠ wd.heap.size by have := HV.out.sr.lt; omega)
          have HV := Lib.hid (HV.out.below hal)
          clear hal
          generalize (wd.alloc (.cells #[.int .i64 (-1), .int .i64 999, .int .i64 1000] 3)) = wl at *
          generalize wd.heap.size = LB at *
          refine hK.out _ _ (HV.out.sx.cell 0 rfl) (fun hH => ?_)
          clear hK K
          try simp only [Act.put, List.setIfInBounds_toArray, List.set_cons_zero, List.set_cons_succ]
          refine callL 3 rfl (by kernel_rfl) rfl (fun K hK => ?_)
          go_simp
          refine (pick_any R 6 (p' + 1) _ (by omega) HV.out.rd (by omega)).mono ?_
          rintro e wa ⟨a, rfl, ha0, ha1, hr', hg'⟩
          have HV := Lib.hid (HV.out.picked hg' hr')
          have LS := Lib.hid (LS.out.kept hg' (by simp; have := HBR.out; omega))
          have hswa := hg'.size
          clear hr' hg'
          refine hK.out _ _ (HV.out.sx.cell 0 rfl) (fun hH => ?_)
          clear hK K
          try simp only [Act.put, List.setIfInBounds_toArray, List.set_cons_zero, List.set_cons_succ]
          refine callL 6 rfl (by kernel_rfl) rfl (fun K hK => ?_)
          go_simp
          refine (pick_any R 3 (p' + 1 + 1) _ (by omega) HV.out.rd (by omega)).mono ?_
          rintro e wb ⟨v, rfl, hv0, hv1, hr', hg'⟩
          have HV := Lib.hid (HV.out.picked hg' hr')
          have LS := Lib.hid (LS.out.kept hg' (by simp; have := HBR.out; omega))
          have hswb := hg'.size
          clear hr' hg'
          refine hK.out _ _ (HV.out.sx.cell 0 rfl) (fun hH => ?_)
          clear hK K
          try simp only [Act.put, List.setIfInBounds_toArray, List.set_cons_zero, List.set_cons_succ]
          obtain ⟨m, rfl⟩ : ∃ m : Nat, v = m := ⟨v.toNat, by omega⟩
          have hm3 : m < 3 := by omega
          have hm' : (m : Int) < 3 := by omega
          obtain ⟨z, hz⟩ := lit3L hm3
          have lz := LS.out.cell m hz
          refine callL 7 rfl (by kernel_rfl) rfl (fun K hK => ?_)
          go_simp
          refine hK.out _ _ (HV.out.sx.cell 0 rfl) (fun hH => ?_)
          clear hK K
          try simp only [Act.put, List.setIfInBounds_toArray, List.set_cons_zero, List.set_cons_succ]
          refine callL 8 rfl (by kernel_rfl) rfl (fun K hK => ?_)
          go_simp
          refine hK.out _ _ (HV.out.sx.cell 0 rfl) (fun hH => ?_)
          clear hK K
          try simp only [Act.put, List.setIfInBounds_toArray, List.set_cons_zero, List.set_cons_succ]
          clear lz hz hm' LS
          obtain ⟨i, rfl⟩ : ∃ i : Nat, a = i := ⟨a.toNat, by omega⟩
          have hi6 : i < l.length := by have := H6.out; omega
          have hi6' : (i : Int) < (l.length : Int) := by omega
          refine callL 9 rfl (by kernel_rfl) rfl (fun K hK => ?_)
          go_simp
          refine hK.out _ _ (HV.out.sx.cell 0 rfl) (fun hH => ?_)
          clear hK K
          try simp only [Act.put, List.setIfInBounds_toArray, List.set_cons_zero, List.set_cons_succ]
          refine lastL rfl (by kernel_rfl) (by kernel_rfl) (by kernel_rfl) rfl (fun K hK => ?_)
          obtain ⟨g2, c2, hg2e, _, _, _, hcg, hfz⟩ := HV.out.own.row (by rw [H6.out]; decide)
          simp only [Value.slice.injEq, true_and, Option.some.injEq, Addr.mk.injEq, and_true] at hg2e
          obtain ⟨rfl, rfl⟩ := hg2e
          have y0 := hfz i
          have c0 := hcg i hi6
          clear hfz hcg
          go_simp
          clear y0 c0
          have HV := Lib.hid (HV.out.setb rfl i z)
          refine hK.out _ _ ?_
          clear hK K hH
          try simp only [Act.put]
          generalize (wb.setCell ⟨g, i, none⟩ (.int .i64 z)) = W9 at *
          have y0 := HV.out.sr.frozen 0
          have y1 := HV.out.sr.frozen 1
          have v0 := HV.out.sr.cell 0 (v := .slice none 0 0) rfl
          have v1 := HV.out.sr.cell 1 (v := .int .i64 0) rfl
          have x0 := HV.out.sx.cell 0 (v := .slice (some ⟨g, 0, none⟩) l.length cu) rfl
          have x1 := HV.out.sx.cell 1 (v := .int .i64 (q)) rfl
          have sF := (HV.out.sr.set 0 (.slice (some ⟨g, 0, none⟩) l.length cu)).set 1 (.int .i64 (q))
          have e0 := sF.cell 0 (v := .slice (some ⟨g, 0, none⟩) l.length cu) rfl
          have e1 := sF.cell 1 (v := .int .i64 (q)) rfl
          clear sF
          go_wp2
          refine bodyPost_ret (v := .agg #[.slice (some ⟨g, 0, none⟩) l.length cu, .int .i64 (q)]) (by simp [results, Try.f29, go_sem, e0, e1]) rfl ?_
          exact Hfin.out _ _ (p' + 1 + 1 + 1) _ _ _ HV.out (by rw [List.length_set, H6.out]; exact Nat.le_refl 6) (by omega)
        go_simp
        refine (pick_any R 6 (p' + 1) _ (by omega) HV.out.rd (by omega)).mono ?_
        rintro e wa ⟨a, rfl, ha0, ha1, hr', hg'⟩
        have HV := Lib.hid (HV.out.picked hg' hr')
        have hswa := hg'.size
        clear hr' hg'
        refine hK.out _ _ (HV.out.sx.cell 0 rfl) (fun hH => ?_)
        clear hK K
        try simp only [Act.put, List.setIfInBounds_toArray, List.set_cons_zero, List.set_cons_succ]
        refine twoL 4 6 rfl rfl (by kernel_rfl) rfl rfl (fun K hK => ?_) (fun K hK => ?_)
        rotate_left
        · skip
          go_simp
          refine (pick_any R 3 (p' + 1 + 1) _ (by omega) HV.out.rd (by omega)).mono ?_
          rintro e wb ⟨v, rfl, hv0, hv1, hr', hg'⟩
          have HV := Lib.hid (HV.out.picked hg' hr')
          have hswb := hg'.size
          clear hr' hg'
          refine hK.out _ _ (HV.out.sx.cell 0 rfl) (fun hH => ?_)
          clear hK K
          try simp only [Act.put, List.setIfInBounds_toArray, List.set_cons_zero, List.set_cons_succ]
          refine callL 4 rfl (by kernel_rfl) rfl (fun K hK => ?_)
          go_simp
          have hal : Below wb.heap.size wb (wb.alloc (.cells #[.int .i64 (-1), .int .i64 999, .int .i64 1000] 3)) := (Below.refl _ _).alloc (Nat.le_refl _) _
          have LS := Lib.hid (Str.new wb 3 #[.int .i64 (-1), .int .i64 999, .int .i64 1000])
          have HBR := Lib.hid (show R ≠ wb.heap.size by have := HV.out.sr.lt; omega)
          have HV := Lib.hid (HV.out.below hal)
          clear hal
          generalize (wb.alloc (.cells #[.int .i64 (-1), .int .i64 999, .int .i64 1000] 3)) = wl at *
          generalize wb.heap.size = LB at *
          refine hK.out _ _ (HV.out.sx.cell 0 rfl) (fun hH => ?_)
          clear hK K
          try simp only [Act.put, List.setIfInBounds_toArray, List.set_cons_zero, List.set_cons_succ]
          obtain ⟨m, rfl⟩ : ∃ m : Nat, v = m := ⟨v.toNat, by omega⟩
          have hm3 : m < 3 := by omega
          have hm' : (m : Int) < 3 := by omega
          obtain ⟨z, hz⟩ := lit3L hm3
          have lz := LS.out.cell m hz
          refine callL 7 rfl (by kernel_rfl) rfl (fun K hK => ?_)
          go_simp
          refine hK.out _ _ (HV.out.sx.cell 0 rfl) (fun hH => ?_)
          clear hK K
          try simp only [Act.put, List.setIfInBounds_toArray, List.set_cons_zero, List.set_cons_succ]
          refine callL 8 rfl (by kernel_rfl) rfl (fun K hK => ?_)
          go_simp
          refine hK.out _ _ (HV.out.sx.cell 0 rfl) (fun hH => ?_)
          clear hK K
          try simp only [Act.put, List.setIfInBounds_toArray, List.set_cons_zero, List.set_cons_succ]
          clear lz hz hm' LS
          obtain ⟨i, rfl⟩ : ∃ i : Nat, a = i := ⟨a.toNat, by omega⟩
          have hi6 : i < l.length := by have := H6.out; omega
          have hi6' : (i : Int) < (l.length : Int) := by omega
          refine callL 9 rfl (by kernel_rfl) rfl (fun K hK => ?_)
          go_simp
          refine hK.out _ _ (HV.out.sx.cell 0 rfl) (fun hH => ?_)
          clear hK K
          try simp only [Act.put, List.setIfInBounds_toArray, List.set_cons_zero, List.set_cons_succ]
          refine lastL rfl (by kernel_rfl) (by kernel_rfl) (by kernel_rfl) rfl (fun K hK => ?_)
          obtain ⟨g2, c2, hg2e, _, _, _, hcg, hfz⟩ := HV.out.own.row (by rw [H6.out]; decide)
          simp only [Value.slice.injEq, true_and, Option.some.injEq, Addr.mk.injEq, and_true] at hg2e
          obtain ⟨rfl, rfl⟩ := hg2e
          have y0 := hfz i
          have c0 := hcg i hi6
          clear hfz hcg
          go_simp
          clear y0 c0
          have HV := Lib.hid (HV.out.setb rfl i z)
          refine hK.out _ _ ?_
          clear hK K hH
          try simp only [Act.put]
          generalize (wl.setCell ⟨g, i, none⟩ (.int .i64 z)) = W9 at *
          have y0 := HV.out.sr.frozen 0
          have y1 := HV.out.sr.frozen 1
          have v0 := HV.out.sr.cell 0 (v := .slice none 0 0) rfl
          have v1 := HV.out.sr.cell 1 (v := .int .i64 0) rfl
          have x0 := HV.out.sx.cell 0 (v := .slice (some ⟨g, 0, none⟩) l.length cu) rfl
          have x1 := HV.out.sx.cell 1 (v := .int .i64 (q)) rfl
          have sF := (HV.out.sr.set 0 (.slice (some ⟨g, 0, none⟩) l.length cu)).set 1 (.int .i64 (q))
          have e0 := sF.cell 0 (v := .slice (some ⟨g, 0, none⟩) l.length cu) rfl
          have e1 := sF.cell 1 (v := .int .i64 (q)) rfl
          clear sF
          go_wp2
          refine bodyPost_ret (v := .agg #[.slice (some ⟨g, 0, none⟩) l.length cu, .int .i64 (q)]) (by simp [results, Try.f29, go_sem, e0, e1]) rfl ?_
          exact Hfin.out _ _ (p' + 1 + 1 + 1) _ _ _ HV.out (by rw [List.length_set, H6.out]; exact Nat.le_refl 6) (by omega)
        go_simp
        have hal : Below wa.heap.size wa (wa.alloc (.cells #[.int .i64 (-1), .int .i64 999, .int .i64 1000] 3)) := (Below.refl _ _).alloc (Nat.le_refl _) _
        have LS := Lib.hid (Str.new wa 3 #[.int .i64 (-1), .int .i64 999, .int .i64 1000])
        have HBR := Lib.hid (show R ≠ wa.heap.size by have := HV.out.sr.lt; omega)
        have HV := Lib.hid (HV.out.below hal)
        clear hal
        generalize (wa.alloc (.cells #[.int .i64 (-1), .int .i64 999, .int .i64 1000] 3)) = wl at *
        generalize wa.heap.size = LB at *
        refine hK.out _ _ (HV.out.sx.cell 0 rfl) (fun hH => ?_)
        clear hK K
        try simp only [Act.put, List.setIfInBounds_toArray, List.set_cons_zero, List.set_cons_succ]
        refine callL 6 rfl (by kernel_rfl) rfl (fun K hK => ?_)
        go_simp
        refine (pick_any R 3 (p' + 1 + 1) _ (by omega) HV.out.rd (by omega)).mono ?_
        rintro e wb ⟨v, rfl, hv0, hv1, hr', hg'⟩
        have HV := Lib.hid (HV.out.picked hg' hr')
        have LS := Lib.hid (LS.out.kept hg' (by simp; have := HBR.out; omega))
        have hswb := hg'.size
        clear hr' hg'
        refine hK.out _ _ (HV.out.sx.cell 0 rfl) (fun hH => ?_)
        clear hK K
        try simp only [Act.put, List.setIfInBounds_toArray, List.set_cons_zero, List.set_cons_succ]
        obtain ⟨m, rfl⟩ : ∃ m : Nat, v = m := ⟨v.toNat, by omega⟩
        have hm3 : m < 3 := by omega
        have hm' : (m : Int) < 3 := by omega
        obtain ⟨z, hz⟩ := lit3L hm3
        have lz := LS.out.cell m hz
        refine callL 7 rfl (by kernel_rfl) rfl (fun K hK => ?_)
        go_simp
        refine hK.out _ _ (HV.out.sx.cell 0 rfl) (fun hH => ?_)
        clear hK K
        try simp only [Act.put, List.setIfInBounds_toArray, List.set_cons_zero, List.set_cons_succ]
        refine callL 8 rfl (by kernel_rfl) rfl (fun K hK => ?_)
        go_simp
        refine hK.out _ _ (HV.out.sx.cell 0 rfl) (fun hH => ?_)
        clear hK K
        try simp only [Act.put, List.setIfInBounds_toArray, List.set_cons_zero, List.set_cons_succ]
        clear lz hz hm' LS
        obtain ⟨i, rfl⟩ : ∃ i : Nat, a = i := ⟨a.toNat, by omega⟩
        have hi6 : i < l.length := by have := H6.out; omega
        have hi6' : (i : Int) < (l.length : Int) := by omega
        refine callL 9 rfl (by kernel_rfl) rfl (fun K hK => ?_)
        go_simp
        refine hK.out _ _ (HV.out.sx.cell 0 rfl) (fun hH => ?_)
        clear hK K
        try simp only [Act.put, List.setIfInBounds_toArray, List.set_cons_zero, List.set_cons_succ]
        refine lastL rfl (by kernel_rfl) (by kernel_rfl) (by kernel_rfl) rfl (fun K hK => ?_)
        obtain ⟨g2, c2, hg2e, _, _, _, hcg, hfz⟩ := HV.out.own.row (by rw [H6.out]; decide)
        simp only [Value.slice.injEq, true_and, Option.some.injEq, Addr.mk.injEq, and_true] at hg2e
        obtain ⟨rfl, rfl⟩ := hg2e
        have y0 := hfz i
        have c0 := hcg i hi6
        clear hfz hcg
        go_simp
        clear y0 c0
        have HV := Lib.hid (HV.out.setb rfl i z)
        refine hK.out _ _ ?_
        clear hK K hH
        try simp only [Act.put]
        generalize (wb.setCell ⟨g, i, none⟩ (.int .i64 z)) = W9 at *
        have y0 := HV.out.sr.frozen 0
        have y1 := HV.out.sr.frozen 1
        have v0 := HV.out.sr.cell 0 (v := .slice none 0 0) rfl
        have v1 := HV.out.sr.cell 1 (v := .int .i64 0) rfl
        have x0 := HV.out.sx.cell 0 (v := .slice (some ⟨g, 0, none⟩) l.length cu) rfl
        have x1 := HV.out.sx.cell 1 (v := .int .i64 (q)) rfl
        have sF := (HV.out.sr.set 0 (.slice (some ⟨g, 0, none⟩) l.length cu)).set 1 (.int .i64 (q))
        have e0 := sF.cell 0 (v := .slice (some ⟨g, 0, none⟩) l.length cu) rfl
        have e1 := sF.cell 1 (v := .int .i64 (q)) rfl
        clear sF
        go_wp2
        refine bodyPost_ret (v := .agg #[.slice (some ⟨g, 0, none⟩) l.length cu, .int .i64 (q)]) (by simp [results, Try.f29, go_sem, e0, e1]) rfl ?_
        exact Hfin.out _ _ (p' + 1 + 1 + 1) _ _ _ HV.out (by rw [List.length_set, H6.out]; exact Nat.le_refl 6) (by omega)
      have h0' : (sw == 0) = false := by rw [beq_eq_false_iff_ne]; exact h0
      by_cases h1 : sw = 1
      case pos =>
        subst h1
        have x0 := HV.out.sx.cell 0 (v := .slice (some ⟨g, 0, none⟩) l.length cu) rfl
        go_wp2_with fail
        clear x0
        refine wp_region_L 6 (fun w' => w'.cell? ⟨X, 0, none⟩ = some (.slice (some ⟨g, 0, none⟩) l.length cu)) (by kernel_rfl) (HV.out.drew.sx.cell 0 rfl) (fun hH => ?_)
        have HV := Lib.hid HV.out.drew
        generalize w4.drew = wd at *
        have hsd := HV.out.sr.lt
        refine takeL 0 (v := ?vd14) rfl (by kernel_rfl) (by kernel_rfl) (by kernel_rfl) (by kernel_rfl) (by kernel_rfl) (fun _ _ _ h => h) hH rfl ?yd14 ?rd14
        case yd14 => intro W hSw; go_simp; try with_reducible rfl
        try simp only [Act.put, List.setIfInBounds_toArray, List.set_cons_zero, List.set_cons_succ]
        refine takeL 1 (v := ?vd15) rfl (by kernel_rfl) (by kernel_rfl) (by kernel_rfl) (by kernel_rfl) (by kernel_rfl) (fun _ _ _ h => h) hH rfl ?yd15 ?rd15
        case yd15 => intro W hSw; go_simp; try with_reducible rfl
        try simp only [Act.put, List.setIfInBounds_toArray, List.set_cons_zero, List.set_cons_succ]
        refine takeL 2 (v := ?vd16) rfl (by kernel_rfl) (by kernel_rfl) (by kernel_rfl) (by kernel_rfl) (by kernel_rfl) (fun _ _ _ h => h) hH rfl ?yd16 ?rd16
        case yd16 => intro W hSw; go_simp; try with_reducible rfl
        try simp only [Act.put, List.setIfInBounds_toArray, List.set_cons_zero, List.set_cons_succ]
        refine callL 3 rfl (by kernel_rfl) rfl (fun K hK => ?_)
        go_simp
        refine (pick_any R 6 (p' + 1) _ (by omega) HV.out.rd (by omega)).mono ?_
        rintro e wa ⟨a, rfl, ha0, ha1, hr', hg'⟩
        have HV := Lib.hid (HV.out.picked hg' hr')
        have hswa := hg'.size
        clear hr' hg'
        refine hK.out _ _ (HV.out.sx.cell 0 rfl) (fun hH => ?_)
        clear hK K
        try simp only [Act.put, List.setIfInBounds_toArray, List.set_cons_zero, List.set_cons_succ]
        obtain ⟨i, rfl⟩ : ∃ i : Nat, a = i := ⟨a.toNat, by omega⟩
        have hi6 : i ≤ l.length := by have := H6.out; omega
        have hsl := (SrcAt.parts (vc := cu) (HV.out.own.src.elim fun a h => h.elim fun c h => by obtain ⟨e, _, hs, _⟩ := h; simp only [Value.slice.injEq, true_and] at e; obtain ⟨rfl, rfl⟩ := e; exact hs) hc6 hi6).1
        rw [List.length_take, Nat.min_eq_left hi6] at hsl
        have T1 := Lib.hid hsl; clear hsl
        refine takeL 4 (v := .slice (some ⟨g, 0, none⟩) i cu) rfl (by kernel_rfl) (by kernel_rfl) (by kernel_rfl) (by kernel_rfl) (by kernel_rfl) (fun _ _ _ h => h) hH rfl ?yd17 ?rd17
        case yd17 => intro W hSw; have hr := T1.out W; go_simp
        try simp only [Act.put, List.setIfInBounds_toArray, List.set_cons_zero, List.set_cons_succ]
        refine takeL 5 (v := ?vd18) rfl (by kernel_rfl) (by kernel_rfl) (by kernel_rfl) (by kernel_rfl) (by kernel_rfl) (fun _ _ _ h => h) hH rfl ?yd18 ?rd18
        case yd18 => intro W hSw; go_simp; try with_reducible rfl
        try simp only [Act.put, List.setIfInBounds_toArray, List.set_cons_zero, List.set_cons_succ]
        refine lastL rfl (by kernel_rfl) (by kernel_rfl) (by kernel_rfl) rfl (fun K hK => ?_)
        have y0 := HV.out.sx.frozen 0
        have c0 := HV.out.sx.cell 0 (v := .slice (some ⟨g, 0, none⟩) l.length cu) rfl
        go_simp
        clear y0 c0
        have HV := Lib.hid (HV.out.cut i hi6)
        refine hK.out _ _ ?_
        clear hK K hH T1
        try simp only [Act.put]
        generalize wa.setCell ⟨X, 0, none⟩ (.slice (some ⟨g, 0, none⟩) i cu) = W9 at *
        have y0 := HV.out.sr.frozen 0
        have y1 := HV.out.sr.frozen 1
        have v0 := HV.out.sr.cell 0 (v := .slice none 0 0) rfl
        have v1 := HV.out.sr.cell 1 (v := .int .i64 0) rfl
        have x0 := HV.out.sx.cell 0 (v := .slice (some ⟨g, 0, none⟩) i cu) rfl
        have x1 := HV.out.sx.cell 1 (v := .int .i64 (q)) rfl
        have sF := (HV.out.sr.set 0 (.slice (some ⟨g, 0, none⟩) i cu)).set 1 (.int .i64 (q))
        have e0 := sF.cell 0 (v := .slice (some ⟨g, 0, none⟩) i cu) rfl
        have e1 := sF.cell 1 (v := .int .i64 (q)) rfl
        clear sF
        go_wp2
        refine bodyPost_ret (v := .agg #[.slice (some ⟨g, 0, none⟩) i cu, .int .i64 (q)]) (by simp [results, Try.f29, go_sem, e0, e1]) rfl ?_
        exact Hfin.out _ _ (p' + 1 + 1) _ _ _ HV.out (by rw [List.length_take]; have := H6.out; omega) (by omega)
      have h1' : (sw == 1) = false := by rw [beq_eq_false_iff_ne]; exact h1
      by_cases h2 : sw = 2
      case pos =>
        subst h2
        have hal : Below w4.heap.size w4 (w4.alloc (.cells #[.int .i64 (-1), .int .i64 5850, .int .i64 5851, .int .i64 5985, .int .i64 5986, .int .i64 5994, .int .i64 5995] 3)) := (Below.refl _ _).alloc (Nat.le_refl _) _
        have LS := Lib.hid (Str.new w4 3 #[.int .i64 (-1), .int .i64 5850, .int .i64 5851, .int .i64 5985, .int .i64 5986, .int .i64 5994, .int .i64 5995])
        have HBR := Lib.hid (show R ≠ w4.heap.size by have := HV.out.sr.lt; have := HV.out.hR; omega)
        have HBX := Lib.hid (show w4.heap.size ≠ X by have := HV.out.sx.lt; omega)
        have HV := Lib.hid (HV.out.below hal)
        clear hal
        go_wp2_with fail
        generalize (w4.alloc (.cells #[.int .i64 (-1), .int .i64 5850, .int .i64 5851, .int .i64 5985, .int .i64 5986, .int .i64 5994, .int .i64 5995] 3)) = wl at *
        generalize w4.heap.size = LB at *
        refine (pick_any R 7 (p' + 1) _ (by omega) HV.out.rd (by omega)).mono ?_
        rintro e w5 ⟨v, rfl, hv0, hv1, hr', hg'⟩
        have HV := Lib.hid (HV.out.picked hg' hr')
        have LS := Lib.hid (LS.out.kept hg' (by simp; have := HBR.out; omega))
        clear hr' hg'
        obtain ⟨m, rfl⟩ : ∃ m : Nat, v = m := ⟨v.toNat, by omega⟩
        have hm7 : m < 7 := by omega
        have hm' : (m : Int) < 7 := by omega
        obtain ⟨z, hz⟩ := lit7L hm7
        have lz := LS.out.cell m hz
        clear hz LS
        have fx := HV.out.sx.frozen 1
        have cx := HV.out.sx.cell 1 (v := .int .i64 q) rfl
        have HV := Lib.hid (HV.out.fees z)
        have y0 := HV.out.sr.frozen 0
        have y1 := HV.out.sr.frozen 1
        have v0 := HV.out.sr.cell 0 (v := .slice none 0 0) rfl
        have v1 := HV.out.sr.cell 1 (v := .int .i64 0) rfl
        have x0 := HV.out.sx.cell 0 (v := .slice (some ⟨g, 0, none⟩) l.length cu) rfl
        have x1 := HV.out.sx.cell 1 (v := .int .i64 (z)) rfl
        have sF := (HV.out.sr.set 0 (.slice (some ⟨g, 0, none⟩) l.length cu)).set 1 (.int .i64 (z))
        have e0 := sF.cell 0 (v := .slice (some ⟨g, 0, none⟩) l.length cu) rfl
        have e1 := sF.cell 1 (v := .int .i64 (z)) rfl
        clear sF
        go_wp2
        refine bodyPost_ret (v := .agg #[.slice (some ⟨g, 0, none⟩) l.length cu, .int .i64 (z)]) (by simp [results, Try.f29, go_sem, e0, e1]) rfl ?_
        exact Hfin.out _ _ (p' + 1 + 1) _ _ _ HV.out (by rw [H6.out]; exact Nat.le_refl 6) (by omega)
      have h2' : (sw == 2) = false := by rw [beq_eq_false_iff_ne]; exact h2
      have y0 := HV.out.sr.frozen 0
      have y1 := HV.out.sr.frozen 1
      have v0 := HV.out.sr.cell 0 (v := .slice none 0 0) rfl
      have v1 := HV.out.sr.cell 1 (v := .int .i64 0) rfl
      have x0 := HV.out.sx.cell 0 (v := .slice (some ⟨g, 0, none⟩) l.length cu) rfl
      have x1 := HV.out.sx.cell 1 (v := .int .i64 (q)) rfl
      have sF := (HV.out.sr.set 0 (.slice (some ⟨g, 0, none⟩) l.length cu)).set 1 (.int .i64 (q))
      have e0 := sF.cell 0 (v := .slice (some ⟨g, 0, none⟩) l.length cu) rfl
      have e1 := sF.cell 1 (v := .int .i64 (q)) rfl
      clear sF
      go_wp2
      refine bodyPost_ret (v := .agg #[.slice (some ⟨g, 0, none⟩) l.length cu, .int .i64 (q)]) (by simp [results, Try.f29, go_sem, e0, e1]) rfl ?_
      exact Hfin.out _ _ (p' + 1) _ _ _ HV.out (by rw [H6.out]; exact Nat.le_refl 6) (by omega)

end Go.Proofs.Ytfnhafgjdnlhiaa

/- The draw of a ledger with a transaction, by a walk of its text; condition: the code has at most 2^40 bytes. -/
namespace Go.Proofs.Ytfnhafgjdnlhiaa
open Go.RowKit

/-- What is drawn: a ledger and a transaction. -/
def LtD (E : TypeId) (w : World) (e : Ending) (w' : World) : Prop := ∃ (l : List Int) (n : Int) (u : Value) (x : Tx), e = .returned (.tuple #[.agg #[u, .int .i64 n], agT x]) ∧ Own E w' w.heap.size u l ∧ l.length ≤ 6 ∧ Below w.heap.size w w'
theorem LtD.mk {E : TypeId} {w w' : World} {e : Ending} (l : List Int) (n : Int) (u : Value) (x : Tx) (h : e = .returned (.tuple #[.agg #[u, .int .i64 n], agT x])) (ho : Own E w' w.heap.size u l) (hl : l.length ≤ 6) (hb : Below w.heap.size w w') : LtD E w e w' := ⟨l, n, u, x, h, ho, hl, hb⟩
/-- While it is drawn: A the answer's ledger, X the ledger, R the reader. -/
structure Ldw (TL E : TypeId) (R : Nat) (w : World) (A X : Nat) (n : Int) (p : Nat) (W : World) (u : Value) (l : List Int) : Prop where
  sa : Str W A TL #[.slice none 0 0, .int .i64 0]
  sx : Str W X TL #[u, .int .i64 n]
  own : Own E W w.heap.size u l
  nx : ∀ g, u.ownBlock = some g → R < g ∧ g ≠ X
  rd : Rdr W R p
  bel : Below w.heap.size w W
  ds : w.heap.size ≤ A ∧ A < R ∧ R < X
section
variable {TL E : TypeId} {R : Nat} {w : World} {A X : Nat} {n : Int} {p : Nat} {W W' : World} {u : Value} {l : List Int}
theorem Ldw.picked (h : Ldw TL E R w A X n p W u l) {p2 : Nat} (hg : W.grownBy W' (some R)) (hr : Rdr W' R p2) : Ldw TL E R w A X n p2 W' u l := by
  obtain ⟨d1, d2, d3⟩ := h.ds
  exact ⟨h.sa.kept hg (by simp; omega), h.sx.kept hg (by simp; omega), h.own.kept hg (.inr (fun e => by have := (h.nx R e).1; omega)), h.nx, hr, h.bel.grown hg h.bel.size (fun g e => by cases e; omega), h.ds⟩
theorem Ldw.drew (h : Ldw TL E R w A X n p W u l) : Ldw TL E R w A X n p W.drew u l := ⟨h.sa, h.sx, h.own.drewN 1, h.nx, h.rd.drewN 1, h.bel.drew, h.ds⟩
/-- The answer's ledger is set. -/
theorem Ldw.res (h : Ldw TL E R w A X n p W u l) : Str ((W.setCell ⟨A, 0, none⟩ u).setCell ⟨A, 1, none⟩ (.int .i64 n)) A TL #[u, .int .i64 n] ∧ Str ((W.setCell ⟨A, 0, none⟩ u).setCell ⟨A, 1, none⟩ (.int .i64 n)) X TL #[u, .int .i64 n] ∧
    Own E ((W.setCell ⟨A, 0, none⟩ u).setCell ⟨A, 1, none⟩ (.int .i64 n)) w.heap.size u l ∧ Below w.heap.size w ((W.setCell ⟨A, 0, none⟩ u).setCell ⟨A, 1, none⟩ (.int .i64 n)) := by
  obtain ⟨d1, d2, d3⟩ := h.ds
  have n : u.ownBlock ≠ some A := fun e => by have := (h.nx A e).1; omega
  exact ⟨(h.sa.set 0 _).set 1 _, (h.sx.other (by omega) _ _).other (by omega) _ _, (h.own.set_other n _ _).set_other n _ _, (h.bel.setCell (p := ⟨A, 0, none⟩) (by simp only; omega) _).setCell (p := ⟨A, 1, none⟩) (by simp only; omega) _⟩
end

end Go.Proofs.Ytfnhafgjdnlhiaa

/- A list of rows that the call builds by append: its own outer row, and elements that read as data in memory of the call's own; general steps, nothing here speaks of the program. -/
namespace Go.Proofs.Ytfnhafgjdnlhiaa
open Go.RowKit

/-- Each cell of an element reads as its datum, in memory from B on that is not the outer row's. -/
def CellsRd (w : World) (B : Nat) (blk : Option Nat) (cs : List Value) (e : List Dt) : Prop :=
  ∀ j (hj : j < e.length), ∃ c fp, cs[j]? = some c ∧ Rd w e[j] c fp ∧ ∀ r ∈ fp, B ≤ r ∧ blk ≠ some r
theorem CellsRd.step {w w' : World} {B : Nat} {blk blk' row : Option Nat} {cs : List Value} {e : List Dt} (h : CellsRd w B blk cs e) (hg : w.grownBy w' row) (hrow : ∀ r, row = some r → r < B ∨ blk = some r) (hb : ∀ g, blk' = some g → blk = some g ∨ w.heap.size ≤ g) :
    CellsRd w' B blk' cs e := by
  intro j hj
  obtain ⟨c, fp, hc, hr, hf⟩ := h j hj
  refine ⟨c, fp, hc, hr.grown hg fun r e hm => ?_, fun r hm => ⟨(hf r hm).1, fun e => ?_⟩⟩
  · rcases hrow r e with h | h
    · have := (hf r hm).1; omega
    · exact (hf r hm).2 h
  · rcases hb r e with h | h
    · exact (hf r hm).2 h
    · have := hr.lt r hm; omega
structure Bld (E : TypeId) (sz : Nat) (w : World) (B : Nat) (v : Value) (es : List (List Dt)) : Prop where
  szs : ∀ e ∈ es, e.length = sz
  row : ∃ cs : List Value, w.ownsRow B E sz v es.length cs ∧ ∀ k (hk : k < es.length), CellsRd w B v.ownBlock (cs.drop (k * sz)) es[k]
theorem Bld.nil {E : TypeId} {sz : Nat} {w : World} {B : Nat} {v : Value} (h : w.ownsRow B E sz v 0 []) : Bld E sz w B v [] := ⟨by simp, [], h, fun k hk => by simp at hk⟩
theorem Bld.step {E : TypeId} {sz : Nat} {w w' : World} {B : Nat} {v : Value} {es : List (List Dt)} {row : Option Nat} (h : Bld E sz w B v es) (hg : w.grownBy w' row) (hrow : ∀ r, row = some r → r < B) : Bld E sz w' B v es := by
  obtain ⟨cs, ho, hc⟩ := h.row
  refine ⟨h.szs, cs, ho.kept hg ?_, fun k hk => (hc k hk).step hg (fun r e => .inl (hrow r e)) (fun g e => .inl e)⟩
  cases hv : v.ownBlock with
  | none => exact .inl rfl
  | some g => exact .inr fun e => by have := hrow g e.symm; have := (ho.lt g hv).1; omega
theorem Bld.under {E : TypeId} {sz : Nat} {w w' : World} {B : Nat} {v : Value} {es : List (List Dt)} (h : Bld E sz w B v es) (hb : Below w.heap.size w w') : Bld E sz w' B v es := h.step (below_grown hb) fun _ e => by cases e
theorem Bld.lt {E : TypeId} {sz : Nat} {w : World} {B : Nat} {v : Value} {es : List (List Dt)} (h : Bld E sz w B v es) : ∀ g, v.ownBlock = some g → B ≤ g ∧ g < w.heap.size := by
  obtain ⟨cs, ho, _⟩ := h.row; exact ho.lt
theorem Bld.slice {E : TypeId} {sz : Nat} {w : World} {B : Nat} {v : Value} {es : List (List Dt)} (h : Bld E sz w B v es) : ∃ a cap, v = .slice a es.length cap ∧ es.length ≤ maxLen := by
  obtain ⟨cs, ho, _⟩ := h.row
  rcases ho.2 with ⟨rfl, h0⟩ | ⟨g, cap, cur, rfl, hb, hg, hn, hm, hs, ht⟩
  · exact ⟨none, 0, by rw [h0], by rw [h0]; simp⟩
  · exact ⟨_, cap, rfl, by omega⟩

/-- 'append(s, x)', x an element of a struct type. -/
theorem wpList_push_row {P : Program} {T E : TypeId} {z0 : Value} {sz bytes : Nat} (hsl : P.underlying T = some (.slice E)) (hinf : (P.info? E).map (fun i => (i.zero, i.size, i.bytes)) = some (some z0, sz, bytes)) (hz0 : z0.cells.size = sz) (hpos : 0 < sz) (hby : bytes ≤ 1000)
    {w : World} {ops : Array Oper} {rest : List Oper} {o : Oper} {a : Act} {Q : Exit → Act → World → Prop} (hgd : o.guard = none) (s x : Operand) (ho : o.op = .call { callee := .builtin .append, args := #[s, x], argTypes := #[T, T] }) (B : Nat) (v : Value) (es : List (List Dt)) (e : List Dt)
    (vals : List Value) (cells : Array Value) (hcells : cells = vals.toArray) (hvl : vals.length = sz) (h1c : ∀ u ∈ vals, u.oneCell' = true) (hs : a.eval s = v) (hb : Bld E sz w B v es) (he : e.length = sz) (hr : CellsRd w B v.ownBlock vals e) (hlen : es.length ≤ 1048576)
    (hx : a.eval x = .slice (some ⟨w.heap.size, 0, none⟩) 1 1) (hB : B ≤ w.heap.size)
    (h : ∀ v' w', Bld E sz w' B v' (es ++ [e]) → w.grownBy w' v.ownBlock → (∀ g, v'.ownBlock = some g → v.ownBlock = some g ∨ w.heap.size ≤ g) → wpList P ops Q rest (a.put o.dst v') w') : wpList P ops Q (o :: rest) a (w.alloc (.cells cells E)) := by
  subst hcells
  refine wpList_want (by unfold Region.wanted; rw [hgd]) fun K hK => ?_
  obtain ⟨i, hi, hz, hsz, hbb⟩ := info_parts hinf
  obtain ⟨cs, hown, hc⟩ := hb.row
  have hcl : cs.length = es.length * sz := hown.1
  obtain ⟨v', w', hrun, h1, h2, _, h4⟩ := run_append_own_at (P := P) (w.alloc (.cells vals.toArray E)) B T o.type E i z0 sz bytes hsl hi hz hsz hbb hz0 hpos v es.length _ (World.ownsRow.alloc hown _) ⟨w.heap.size, 0, none⟩ 1 1 vals (by rw [hvl]; simp)
    (fun j u hu => by
      rw [addr_add, World.cell?_alloc_at _ _ _ _ rfl]; simpa using hu) h1c (by unfold maxLen; omega) (by
      have := Nat.mul_le_mul (show es.length + 1 ≤ 1048577 by omega) hby; omega) (by simp; omega)
  unfold Oper.wp execOp
  simp only [ho, resolve, invoke, builtin, Sem.run_bind, Sem.run_pure, Result.andThen_ok, List.map_toArray, List.map_cons, List.map_nil, hs, hx, hrun]
  have hg : w.grownBy w' v.ownBlock := grownBy_trans (World.grownBy_alloc _ _ _) h2
  have hloc : ∀ g, v'.ownBlock = some g → v.ownBlock = some g ∨ w.heap.size ≤ g := fun g e => by
    rcases h4 with h4 | h4
    · exact .inl (by rw [← h4]; exact e)
    · rw [h4] at e; cases e; exact .inr (by simp)
  refine hK _ _ (h v' w' ⟨?_, cs ++ vals, by rw [List.length_append]; exact h1, fun k hk => ?_⟩ hg hloc)
  · intro d hd
    rcases List.mem_append.1 hd with hd | hd
    · exact hb.szs d hd
    · simp at hd; subst hd; exact he
  · by_cases hke : k < es.length
    · have hkk : (es ++ [e])[k] = es[k] := List.getElem_append_left hke
      rw [hkk]
      have hcr := (hc k hke).step (blk' := v'.ownBlock) hg (fun r e => .inr e) hloc
      intro j hj
      obtain ⟨c, fp, hcc, hrest⟩ := hcr j hj
      refine ⟨c, fp, ?_, hrest⟩
      rw [List.getElem?_drop] at hcc ⊢
      have hjs : j < sz := by rw [← hb.szs _ (List.getElem_mem hke)]; exact hj
      have : k * sz + j < cs.length := by
        rw [hcl]
        have := Nat.mul_le_mul_right sz (show k + 1 ≤ es.length by omega)
        rw [Nat.add_mul] at this; omega
      rw [List.getElem?_append_left this]; exact hcc
    · have hkl : k = es.length := by simp at hk; omega
      subst hkl
      have hkk : (es ++ [e])[es.length] = e := by simp
      rw [hkk]
      have : (cs ++ vals).drop (es.length * sz) = vals := by rw [← hcl]; simp
      rw [this]
      exact hr.step hg (fun r e => .inr e) hloc
/-- What has been built reads as its data. -/
theorem Bld.rd {E : TypeId} {sz : Nat} {w : World} {B : Nat} {v : Value} {es : List (List Dt)} (h : Bld E sz w B v es) : ∃ fp, Rd w (.l es) v fp ∧ ∀ r ∈ fp, B ≤ r := by
  obtain ⟨cs, ho, hc⟩ := h.row
  rcases Nat.eq_zero_or_pos es.length with h0 | h0
  · have : es = [] := List.eq_nil_of_length_eq_zero h0
    subst this
    rcases ho.2 with ⟨rfl, _⟩ | ⟨g, cap, cur, rfl, _, _, _, _⟩
    · exact ⟨[], .nil _ _ (fun _ => rfl), by simp⟩
    · exact ⟨[], .nil _ _ (fun e => by cases e), by simp⟩
  · rcases ho.2 with ⟨rfl, hz⟩ | ⟨g, cap, cur, rfl, hb, hg, hn, hm, hs, ht⟩
    · omega
    · have hgl := (ho.lt g rfl)
      have hjs : ∀ k (hk : k < es.length) j, j < sz → j < (es[k]).length := fun k hk j hj => by rw [h.szs _ (List.getElem_mem hk)]; exact hj
      have hex : ∀ k j, ∃ (p : Value × List Nat), ∀ (hk : k < es.length) (hj : j < (es[k]).length), (cs.drop (k * sz))[j]? = some p.1 ∧ Rd w (es[k][j]) p.1 p.2 ∧ ∀ r ∈ p.2, B ≤ r := by
        intro k j
        by_cases hk : k < es.length
        · by_cases hj : j < (es[k]).length
          · obtain ⟨c, fp, hcc, hr, hf⟩ := hc k hk j hj
            exact ⟨(c, fp), fun _ _ => ⟨hcc, hr, fun r hr => (hf r hr).1⟩⟩
          · exact ⟨(undef, []), fun _ h => absurd h hj⟩
        · exact ⟨(undef, []), fun h => absurd h hk⟩
      obtain ⟨F, hF⟩ : ∃ F : Nat → Nat → Value × List Nat, ∀ k j (hk : k < es.length) (hj : j < (es[k]).length), (cs.drop (k * sz))[j]? = some (F k j).1 ∧ Rd w (es[k][j]) (F k j).1 (F k j).2 ∧ ∀ r ∈ (F k j).2, B ≤ r :=
        ⟨fun k j => Classical.choose (hex k j), fun k j => Classical.choose_spec (hex k j)⟩
      refine ⟨_, Rd.l sz es g 0 cap (fun k j => (F k j).1) (fun k j => (F k j).2) h0 h.szs hn hgl.2 (fun k j hk hj => ?_) (fun k j hk hj => (hF k j hk hj).2.1), fun r hr => ?_⟩
      · have h1 := (hF k j hk (hjs k hk j hj)).1
        rw [List.getElem?_drop] at h1
        have h2 := World.ownsRow.cells ho (g := g) rfl (k * sz + j) _ h1
        rw [addr_add] at h2
        rw [Nat.zero_add]; exact h2
      · rcases List.mem_cons.1 hr with rfl | hr
        · exact hgl.1
        · obtain ⟨k, hk, hr⟩ := List.mem_flatMap.1 hr
          obtain ⟨j, hj, hr⟩ := List.mem_flatMap.1 hr
          rw [List.mem_range] at hk hj
          exact (hF k j hk (hjs k hk j hj)).2.2 r hr

end Go.Proofs.Ytfnhafgjdnlhiaa

/- A list of rows of numbers, truth values, texts and lists of numbers that lies in memory of its own, no two parts in one block; general steps, nothing here speaks of the program. -/
namespace Go.Proofs.Ytfnhafgjdnlhiaa
open Go.RowKit

/-- A field of a row. -/
inductive Fd where
  | i (n : Int)
  | b (x : Bool)
  | s (t : ByteArray)
  | l (xs : List Int)
def Fd.dt : Fd → Dt
  | .i n => .i n
  | .b x => .b x
  | .s t => .s t
  | .l xs => intsD xs
/-- The value is the field; a list lies in a row of its own from block B on. -/
def FdOk (Ei : TypeId) (w : World) (B : Nat) (c : Value) : Fd → Prop
  | .i n => c = .int .i64 n
  | .b x => c = .bool x
  | .s t => c = .string t
  | .l xs => Own Ei w B c xs
def Apart (c d : Value) : Prop := ∀ g, c.ownBlock = some g → d.ownBlock ≠ some g
theorem Apart.symm {c d : Value} (h : Apart c d) : Apart d c := fun g hd hc => h g hc hd
theorem Own.same {E : TypeId} {w w' : World} {B : Nat} {v : Value} {xs : List Int} (h : Own E w B v xs) (hb : ∀ g, v.ownBlock = some g → w'.heap[g]? = w.heap[g]?) : Own E w' B v xs := by
  refine ⟨h.1, ?_⟩
  rcases h.2 with h0 | ⟨g, cap, cur, e, hg, hh, rest⟩
  · exact .inl h0
  · exact .inr ⟨g, cap, cur, e, hg, by rw [hb g (by rw [e]; rfl)]; exact hh, rest⟩
theorem row_same {E : TypeId} {sz : Nat} {w w' : World} {B n : Nat} {v : Value} {cs : List Value} (h : w.ownsRow B E sz v n cs) (hb : ∀ g, v.ownBlock = some g → w'.heap[g]? = w.heap[g]?) : w'.ownsRow B E sz v n cs := by
  refine ⟨h.1, ?_⟩
  rcases h.2 with h0 | ⟨g, cap, cur, e, hg, hh, rest⟩
  · exact .inl h0
  · exact .inr ⟨g, cap, cur, e, hg, by rw [hb g (by rw [e]; rfl)]; exact hh, rest⟩
theorem FdOk.same {Ei : TypeId} {w w' : World} {B : Nat} {c : Value} {f : Fd} (h : FdOk Ei w B c f) (hb : ∀ g, c.ownBlock = some g → w'.heap[g]? = w.heap[g]?) : FdOk Ei w' B c f := by
  cases f with
  | l xs => exact Own.same h hb
  | _ => exact h
theorem FdOk.lt {Ei : TypeId} {w : World} {B : Nat} {c : Value} {f : Fd} (h : FdOk Ei w B c f) : ∀ g, c.ownBlock = some g → B ≤ g ∧ g < w.heap.size := by
  cases f with
  | l xs => exact Own.lt h
  | i n => rw [show c = _ from h]; intro g e; cases e
  | b n => rw [show c = _ from h]; intro g e; cases e
  | s n => rw [show c = _ from h]; intro g e; cases e
theorem FdOk.rd {Ei : TypeId} {w : World} {B : Nat} {c : Value} {f : Fd} (h : FdOk Ei w B c f) : ∃ fp, Rd w f.dt c fp ∧ ∀ g ∈ fp, B ≤ g ∧ c.ownBlock = some g := by
  cases f with
  | l xs => exact Rd.of_own h
  | i n => rw [show c = _ from h]; exact ⟨[], .i n, by simp⟩
  | b n => rw [show c = _ from h]; exact ⟨[], .b n, by simp⟩
  | s n => rw [show c = _ from h]; exact ⟨[], .s n, by simp⟩

/-- v owns the rows es, in blocks from B on below hi, each part in a block of its own. -/
structure OwnR (E Ei : TypeId) (sz : Nat) (w : World) (B hi : Nat) (v : Value) (es : List (List Fd)) : Prop where
  szs : ∀ e ∈ es, e.length = sz
  row : ∃ cs : List Value, w.ownsRow B E sz v es.length cs ∧ (∀ k j (hk : k < es.length) (hj : j < (es[k]).length), ∃ c, cs[k * sz + j]? = some c ∧ FdOk Ei w B c (es[k])[j]) ∧
    (∀ (p q : Nat) c d, cs[p]? = some c → cs[q]? = some d → p ≠ q → Apart c d) ∧ (∀ (p : Nat) c, cs[p]? = some c → Apart c v) ∧
    (∀ (p : Nat) c g, cs[p]? = some c → c.ownBlock = some g → B ≤ g ∧ g < hi) ∧ ∀ g, v.ownBlock = some g → g < hi
theorem OwnR.nil {E Ei : TypeId} {sz : Nat} {w : World} {B hi : Nat} {v : Value} (h : w.ownsRow B E sz v 0 []) (hh : ∀ g, v.ownBlock = some g → g < hi) : OwnR E Ei sz w B hi v [] := ⟨by simp, [], h, fun k j hk => by simp at hk, fun p q c d h => by simp at h, fun p c h => by simp at h, fun p c g h => by simp at h, hh⟩
theorem OwnR.mono {E Ei : TypeId} {sz : Nat} {w : World} {B hi hi' : Nat} {v : Value} {es : List (List Fd)} (h : OwnR E Ei sz w B hi v es) (hh : hi ≤ hi') : OwnR E Ei sz w B hi' v es := by
  obtain ⟨cs, h1, h2, h3, h4, h5, h6⟩ := h.row
  exact ⟨h.szs, cs, h1, h2, h3, h4, fun p c g a b => ⟨(h5 p c g a b).1, Nat.lt_of_lt_of_le (h5 p c g a b).2 hh⟩, fun g a => Nat.lt_of_lt_of_le (h6 g a) hh⟩
theorem OwnR.same {E Ei : TypeId} {sz : Nat} {w w' : World} {B hi : Nat} {v : Value} {es : List (List Fd)} (h : OwnR E Ei sz w B hi v es) (hb : ∀ g, B ≤ g → g < hi → w'.heap[g]? = w.heap[g]?) : OwnR E Ei sz w' B hi v es := by
  obtain ⟨cs, h1, h2, h3, h4, h5, h6⟩ := h.row
  refine ⟨h.szs, cs, row_same h1 (fun g e => hb g (h1.lt g e).1 (h6 g e)), fun k j hk hj => ?_, h3, h4, h5, h6⟩
  obtain ⟨c, hc, hf⟩ := h2 k j hk hj
  exact ⟨c, hc, hf.same fun g e => hb g (hf.lt g e).1 (h5 _ c g hc e).2⟩
theorem OwnR.below {E Ei : TypeId} {sz : Nat} {w w' : World} {B hi : Nat} {v : Value} {es : List (List Fd)} (h : OwnR E Ei sz w B hi v es) (hb : Below w.heap.size w w') (hh : hi ≤ w.heap.size) : OwnR E Ei sz w' B hi v es := h.same fun g _ h2 => hb.block g (by omega)
theorem OwnR.bld {E Ei : TypeId} {sz : Nat} {w : World} {B hi : Nat} {v : Value} {es : List (List Fd)} (h : OwnR E Ei sz w B hi v es) : Bld E sz w B v (es.map fun e => e.map Fd.dt) := by
  obtain ⟨cs, h1, h2, h3, h4, h5, h6⟩ := h.row
  refine ⟨fun e he => ?_, cs, by rw [List.length_map]; exact h1, fun k hk => ?_⟩
  · obtain ⟨e', he', rfl⟩ := List.mem_map.1 he
    rw [List.length_map]; exact h.szs e' he'
  · rw [List.length_map] at hk
    intro j hj
    rw [List.getElem_map, List.length_map] at hj
    obtain ⟨c, hc, hf⟩ := h2 k j hk hj
    obtain ⟨fp, hr, hfp⟩ := hf.rd
    refine ⟨c, fp, by rw [List.getElem?_drop]; exact hc, by simp only [List.getElem_map]; exact hr, fun r hr => ⟨(hfp r hr).1, fun e => h4 _ c hc r (hfp r hr).2 e⟩⟩
theorem OwnR.lt {E Ei : TypeId} {sz : Nat} {w : World} {B hi : Nat} {v : Value} {es : List (List Fd)} (h : OwnR E Ei sz w B hi v es) : ∀ g, v.ownBlock = some g → B ≤ g ∧ g < w.heap.size := by
  obtain ⟨cs, ho, _⟩ := h.row; exact ho.lt
theorem OwnR.slice {E Ei : TypeId} {sz : Nat} {w : World} {B hi : Nat} {v : Value} {es : List (List Fd)} (h : OwnR E Ei sz w B hi v es) : ∃ a cap, v = .slice a es.length cap ∧ es.length ≤ maxLen := by
  have := h.bld.slice
  rwa [List.length_map] at this
theorem OwnR.head {E Ei : TypeId} {sz : Nat} {w : World} {B hi : Nat} {v : Value} {es : List (List Fd)} (h : OwnR E Ei sz w B hi v es) (hne : 0 < es.length) : ∃ g cap, v = .slice (some ⟨g, 0, none⟩) es.length cap ∧ B ≤ g ∧ g < hi ∧ g < w.heap.size := by
  obtain ⟨cs, h1, _, _, _, _, h6⟩ := h.row
  rcases h1.2 with ⟨_, h0⟩ | ⟨g, cap, cur, rfl, hb, hg, _⟩
  · omega
  · exact ⟨g, cap, rfl, hb, h6 g rfl, (h1.lt g rfl).2⟩
/-- A field's cell. -/
theorem OwnR.cell {E Ei : TypeId} {sz : Nat} {w : World} {B hi g n cap : Nat} {es : List (List Fd)} (h : OwnR E Ei sz w B hi (.slice (some ⟨g, 0, none⟩) n cap) es) {k j : Nat} (hk : k < es.length) (hj : j < (es[k]).length) :
    ∃ c, w.cell? ⟨g, k * sz + j, none⟩ = some c ∧ FdOk Ei w B c (es[k])[j] ∧ w.frozen? ⟨g, k * sz + j, none⟩ = false ∧ c.ownBlock ≠ some g := by
  obtain ⟨cs, h1, h2, _, h4, _, _⟩ := h.row
  obtain ⟨c, hc, hf⟩ := h2 k j hk hj
  have h0 := World.ownsRow.cells h1 (g := g) rfl _ _ hc
  rw [addr_add] at h0
  refine ⟨c, h0, hf, ?_, fun e => h4 _ c hc g e rfl⟩
  rcases h1.2 with ⟨e, _⟩ | ⟨g', cap', cur, e, _, hg, _⟩
  · cases e
  · simp only [Value.slice.injEq, Option.some.injEq, Addr.mk.injEq] at e
    rw [show g = g' from e.1.1]
    simp [World.frozen?, hg]
theorem set_get {es : List (List Fd)} {k j : Nat} {e : List Fd} (hk : k < es.length) (k' j' : Nat) (hk' : k' < (es.set k e).length) (hj' : j' < ((es.set k e)[k']).length) (he : e.length = (es[k]).length) (hne : ¬ (k' = k ∧ j' = j)) (hs : ∀ i (h : i < e.length) (h' : i < (es[k]).length), i ≠ j → e[i] = (es[k])[i]) :
    ∃ (h1 : k' < es.length) (h2 : j' < (es[k']).length), ((es.set k e)[k'])[j'] = (es[k'])[j'] := by
  have h1 : k' < es.length := by simpa using hk'
  by_cases ek : k' = k
  · subst ek
    have hb : (es.set k' e)[k'] = e := by simp
    have h2 : j' < (es[k']).length := by rw [← he]; simpa using hj'
    refine ⟨h1, h2, ?_⟩
    simp only [List.getElem_set_self]
    exact hs j' (by omega) h2 (fun e => hne ⟨rfl, e⟩)
  · have hb : (es.set k e)[k'] = es[k'] := by rw [List.getElem_set_ne (fun h => ek h.symm)]
    refine ⟨h1, by rw [hb] at hj'; exact hj', ?_⟩
    simp only [List.getElem_set_ne (fun h => ek (Eq.symm h))]
/-- Blocks lie as they lay, but for those from lo on below hi. -/
structure Btw (lo hi : Nat) (w w' : World) : Prop where
  os : w'.os = w.os
  tape : w'.tape = w.tape
  output : w'.output = w.output
  size : w.heap.size ≤ w'.heap.size
  block : ∀ b, b < w.heap.size → ¬ (lo ≤ b ∧ b < hi) → w'.heap[b]? = w.heap[b]?
theorem Btw.refl (lo hi : Nat) (w : World) : Btw lo hi w w := ⟨rfl, rfl, rfl, Nat.le_refl _, fun _ _ _ => rfl⟩
theorem Btw.trans {lo hi : Nat} {a b c : World} (h : Btw lo hi a b) (k : Btw lo hi b c) : Btw lo hi a c := ⟨k.os.trans h.os, k.tape.trans h.tape, k.output.trans h.output, Nat.le_trans h.size k.size, fun x hs hx => (k.block x (Nat.lt_of_lt_of_le hs h.size) hx).trans (h.block x hs hx)⟩
theorem Btw.grown {lo hi : Nat} {w w' : World} {row : Option Nat} (h : w.grownBy w' row) (hr : ∀ g, row = some g → lo ≤ g ∧ g < hi) : Btw lo hi w w' := ⟨h.os, h.tape, h.output, h.size, fun b hs hb => h.block b hs fun e => hb (hr b e.symm)⟩
theorem Btw.set {lo hi : Nat} (w : World) {g : Nat} (hlo : lo ≤ g) (hhi : g < hi) (j : Nat) (v : Value) : Btw lo hi w (w.setCell ⟨g, j, none⟩ v) := .grown (grownBy_set w g j v) fun b e => by cases e; exact ⟨hlo, hhi⟩
theorem Btw.below {lo hi : Nat} {a w w' : World} {B : Nat} (h : Btw lo hi w w') (hb : Below B a w) (hBw : B ≤ w.heap.size) (hB : B ≤ lo) : Below B a w' :=
  hb.trans ⟨h.os, h.tape, h.output, h.size, fun k hk => h.block k (by omega) (by omega)⟩
theorem Btw.own {lo hi : Nat} {w w' : World} (h : Btw lo hi w w') {E : TypeId} {B : Nat} {v : Value} {xs : List Int} (ho : Own E w B v xs) (hd : ∀ g, v.ownBlock = some g → g < lo ∨ hi ≤ g) : Own E w' B v xs := ho.same fun g e => h.block g (ho.lt g e).2 (by have := hd g e; omega)
theorem Btw.ownR {lo hi : Nat} {w w' : World} (h : Btw lo hi w w') {E Ei : TypeId} {sz B hi' : Nat} {v : Value} {es : List (List Fd)} (ho : OwnR E Ei sz w B hi' v es) (hs : hi' ≤ w.heap.size) (hd : hi' ≤ lo ∨ hi ≤ B) : OwnR E Ei sz w' B hi' v es := ho.same fun g h1 h2 => h.block g (by omega) (by omega)
/-- A number is stored. -/
theorem OwnR.setI {E Ei : TypeId} {sz : Nat} {w : World} {B hi g n cap : Nat} {es : List (List Fd)} (h : OwnR E Ei sz w B hi (.slice (some ⟨g, 0, none⟩) n cap) es) (hn : n = es.length) {k j : Nat} (hk : k < es.length) (hj : j < sz) (z : Int) :
    OwnR E Ei sz (w.setCell ⟨g, k * sz + j, none⟩ (.int .i64 z)) B hi (.slice (some ⟨g, 0, none⟩) n cap) (es.set k ((es[k]).set j (.i z))) := by
  subst hn
  obtain ⟨cs, h1, h2, h3, h4, h5, h6⟩ := h.row
  have hsz := h.szs _ (List.getElem_mem hk)
  have hlt : k * sz + j < cs.length := by
    rw [h1.1]
    have := Nat.mul_le_mul_right sz (show k + 1 ≤ es.length by omega)
    rw [Nat.add_mul] at this; omega
  have hst := (World.ownsRow.stored (w := w) (base := B) (e := E) (size := sz) (g := g) (n := es.length) (cap := cap) h1 (k * sz + j) (.int .i64 z)).1
  have hbl : ∀ b, b ≠ g → (w.setCell ⟨g, k * sz + j, none⟩ (.int .i64 z)).heap[b]? = w.heap[b]? := fun b hb => Below.heap_setCell _ _ _ b hb
  have hset : ∀ (p : Nat) c, (cs.set (k * sz + j) (.int .i64 z))[p]? = some c → (p ≠ k * sz + j ∧ cs[p]? = some c) ∨ (p = k * sz + j ∧ c = .int .i64 z) := by
    intro p c hp
    by_cases e : k * sz + j = p
    · subst e
      rw [List.getElem?_set_self hlt] at hp
      exact .inr ⟨rfl, by cases hp; rfl⟩
    · rw [List.getElem?_set_ne e] at hp
      exact .inl ⟨fun h => e h.symm, hp⟩
  refine ⟨fun e he => ?_, cs.set (k * sz + j) (.int .i64 z), by rw [List.length_set]; exact hst, fun k' j' hk' hj' => ?_, fun p q c d hp hq hne => ?_, fun p c hp => ?_, fun p c b hp hb => ?_, h6⟩
  · rcases List.mem_or_eq_of_mem_set he with he | rfl
    · exact h.szs e he
    · rw [List.length_set]; exact hsz
  · by_cases e : k' = k ∧ j' = j
    · obtain ⟨rfl, rfl⟩ := e
      refine ⟨_, List.getElem?_set_self hlt, ?_⟩
      simp only [List.getElem_set_self]
      rfl
    · obtain ⟨a1, a2, a3⟩ := set_get (j := j) hk k' j' hk' hj' (by rw [List.length_set]) e (fun i _ _ hi => by rw [List.getElem_set_ne (fun h => hi h.symm)])
      obtain ⟨c, hc, hf⟩ := h2 k' j' a1 a2
      rw [a3]
      have hp : k * sz + j ≠ k' * sz + j' := by
        intro hh
        have hj2 : j' < sz := by rw [← h.szs _ (List.getElem_mem a1)]; exact a2
        have e1 : (k * sz + j) / sz = k := by rw [Nat.add_comm, Nat.add_mul_div_right _ _ (by omega), Nat.div_eq_of_lt hj, Nat.zero_add]
        have e2 : (k' * sz + j') / sz = k' := by rw [Nat.add_comm, Nat.add_mul_div_right _ _ (by omega), Nat.div_eq_of_lt hj2, Nat.zero_add]
        have : k' = k := by rw [← e1, ← e2, hh]
        subst this
        exact e ⟨rfl, by omega⟩
      exact ⟨c, by rw [List.getElem?_set_ne hp]; exact hc, hf.same fun b hb => hbl b fun hg => h4 _ c hc b hb (by rw [hg]; rfl)⟩
  · rcases hset p c hp with ⟨_, hp⟩ | ⟨rfl, rfl⟩
    · rcases hset q d hq with ⟨_, hq⟩ | ⟨rfl, rfl⟩
      · exact h3 p q c d hp hq hne
      · intro g _ e; cases e
    · intro g e; cases e
  · rcases hset p c hp with ⟨_, hp⟩ | ⟨rfl, rfl⟩
    · exact h4 p c hp
    · intro g e; cases e
  · rcases hset p c hp with ⟨_, hp⟩ | ⟨rfl, rfl⟩
    · exact h5 p c b hp hb
    · cases hb
/-- A list's numbers are written over. -/
theorem OwnR.setL {E Ei : TypeId} {sz : Nat} {w w' : World} {B hi g n cap : Nat} {es : List (List Fd)} (h : OwnR E Ei sz w B hi (.slice (some ⟨g, 0, none⟩) n cap) es) {k j : Nat} (hk : k < es.length) (hj : j < sz) {c : Value} (hc : w.cell? ⟨g, k * sz + j, none⟩ = some c) {ys : List Int} (hown : Own Ei w' B c ys)
    (hb : ∀ b, b < w.heap.size → c.ownBlock ≠ some b → w'.heap[b]? = w.heap[b]?) : OwnR E Ei sz w' B hi (.slice (some ⟨g, 0, none⟩) n cap) (es.set k ((es[k]).set j (.l ys))) := by
  obtain ⟨cs, h1, h2, h3, h4, h5, h6⟩ := h.row
  have hsz := h.szs _ (List.getElem_mem hk)
  obtain ⟨c0, hc0, hf0⟩ := h2 k j hk (by omega)
  have hcc := World.ownsRow.cells h1 (g := g) rfl _ _ hc0
  rw [addr_add, hc] at hcc
  obtain rfl : c = c0 := Option.some.inj hcc
  refine ⟨fun e he => ?_, cs, by rw [List.length_set]; exact row_same h1 (fun b e => hb b (h1.lt b e).2 fun e' => h4 _ c hc0 b e' e), fun k' j' hk' hj' => ?_, h3, h4, h5, h6⟩
  · rcases List.mem_or_eq_of_mem_set he with he | rfl
    · exact h.szs e he
    · rw [List.length_set]; exact hsz
  · by_cases e : k' = k ∧ j' = j
    · obtain ⟨rfl, rfl⟩ := e
      refine ⟨_, hc0, ?_⟩
      simp only [List.getElem_set_self]
      exact hown
    · obtain ⟨a1, a2, a3⟩ := set_get (j := j) hk k' j' hk' hj' (by rw [List.length_set]) e (fun i _ _ hi => by rw [List.getElem_set_ne (fun h => hi h.symm)])
      obtain ⟨d, hd, hf⟩ := h2 k' j' a1 a2
      rw [a3]
      have hp : k * sz + j ≠ k' * sz + j' := by
        intro hh
        have hj2 : j' < sz := by rw [← h.szs _ (List.getElem_mem a1)]; exact a2
        have e1 : (k * sz + j) / sz = k := by rw [Nat.add_comm, Nat.add_mul_div_right _ _ (by omega), Nat.div_eq_of_lt hj, Nat.zero_add]
        have e2 : (k' * sz + j') / sz = k' := by rw [Nat.add_comm, Nat.add_mul_div_right _ _ (by omega), Nat.div_eq_of_lt hj2, Nat.zero_add]
        have : k' = k := by rw [← e1, ← e2, hh]
        subst this
        exact e ⟨rfl, by omega⟩
      exact ⟨d, hd, hf.same fun b hb' => hb b (hf.lt b hb').2 fun hg => h3 _ _ c d hc0 hd hp b hg hb'⟩

/-- 'append(s, x)', x an element of a struct type whose lists lie in rows of their own. -/
theorem wpList_push_own {P : Program} {T E Ei : TypeId} {z0 : Value} {sz bytes : Nat} (hsl : P.underlying T = some (.slice E)) (hinf : (P.info? E).map (fun i => (i.zero, i.size, i.bytes)) = some (some z0, sz, bytes)) (hz0 : z0.cells.size = sz) (hpos : 0 < sz) (hby : bytes ≤ 1000)
    {w : World} {ops : Array Oper} {rest : List Oper} {o : Oper} {a : Act} {Q : Exit → Act → World → Prop} (hgd : o.guard = none) (s x : Operand) (ho : o.op = .call { callee := .builtin .append, args := #[s, x], argTypes := #[T, T] }) (B : Nat) (v : Value) (es : List (List Fd)) (e : List Fd)
    (vals : List Value) (cells : Array Value) (hcells : cells = vals.toArray) (hvl : vals.length = sz) (h1c : ∀ u ∈ vals, u.oneCell' = true) (hs : a.eval s = v) (he : e.length = sz)
    (hr : ∀ j (hj : j < e.length), ∃ c, vals[j]? = some c ∧ FdOk Ei w B c e[j]) (hrr : ∀ (p q : Nat) c d, vals[p]? = some c → vals[q]? = some d → p ≠ q → Apart c d) (hi0 : Nat) (hb : OwnR E Ei sz w B hi0 v es) (hh0 : hi0 ≤ w.heap.size) (hrv : ∀ c ∈ vals, ∀ g, c.ownBlock = some g → hi0 ≤ g)
    (hlen : es.length ≤ 1048576)
    (hx : a.eval x = .slice (some ⟨w.heap.size, 0, none⟩) 1 1) (hB : B ≤ w.heap.size)
    (h : ∀ v' w', OwnR E Ei sz w' B w'.heap.size v' (es ++ [e]) → w.grownBy w' v.ownBlock → (∀ g, v'.ownBlock = some g → v.ownBlock = some g ∨ w.heap.size ≤ g) → wpList P ops Q rest (a.put o.dst v') w') : wpList P ops Q (o :: rest) a (w.alloc (.cells cells E)) := by
  subst hcells
  refine wpList_want (by unfold Region.wanted; rw [hgd]) fun K hK => ?_
  obtain ⟨i, hi, hz, hsz, hbb⟩ := info_parts hinf
  obtain ⟨cs, hown, hc, hcc, hcv, hch, hvh⟩ := hb.row
  have hcl : cs.length = es.length * sz := hown.1
  obtain ⟨v', w', hrun, h1, h2, _, h4⟩ := run_append_own_at (P := P) (w.alloc (.cells vals.toArray E)) B T o.type E i z0 sz bytes hsl hi hz hsz hbb hz0 hpos v es.length _ (World.ownsRow.alloc hown _) ⟨w.heap.size, 0, none⟩ 1 1 vals (by rw [hvl]; simp)
    (fun j u hu => by
      rw [addr_add, World.cell?_alloc_at _ _ _ _ rfl]; simpa using hu) h1c (by unfold maxLen; omega) (by
      have := Nat.mul_le_mul (show es.length + 1 ≤ 1048577 by omega) hby; omega) (by simp; omega)
  unfold Oper.wp execOp
  simp only [ho, resolve, invoke, builtin, Sem.run_bind, Sem.run_pure, Result.andThen_ok, List.map_toArray, List.map_cons, List.map_nil, hs, hx, hrun]
  have hg : w.grownBy w' v.ownBlock := grownBy_trans (World.grownBy_alloc _ _ _) h2
  have hloc : ∀ g, v'.ownBlock = some g → v.ownBlock = some g ∨ w.heap.size ≤ g := fun g e => by
    rcases h4 with h4 | h4
    · exact .inl (by rw [← h4]; exact e)
    · rw [h4] at e; cases e; exact .inr (by simp)
  have hva : ∀ (p : Nat) (c : Value), vals[p]? = some c → Apart c v := fun p c hp g e e' => by
    have := hrv c (List.mem_of_getElem? hp) g e
    have := hvh g e'
    omega
  have hvlt : ∀ (p : Nat) (c : Value) (g : Nat), vals[p]? = some c → c.ownBlock = some g → B ≤ g ∧ g < w.heap.size := fun p c g hp hg' => by
    obtain ⟨hpl, _⟩ := List.getElem?_eq_some_iff.1 hp
    obtain ⟨c', hc', hf⟩ := hr p (by omega)
    rw [hp] at hc'; cases hc'
    exact hf.lt g hg'
  have hmix : ∀ (p q : Nat) (c d : Value), vals[p]? = some c → cs[q]? = some d → Apart c d := fun p q c d hp hq g e e' => by
    have := hrv c (List.mem_of_getElem? hp) g e
    have := hch q d g hq e'
    omega
  have hsame : ∀ (c : Value) (fd : Fd), FdOk Ei w B c fd → Apart c v → FdOk Ei w' B c fd := fun c fd hf ha => hf.same fun g e => hg.block g (hf.lt g e).2 fun e' => ha g e e'.symm
  have hall : ∀ (p : Nat) (c : Value), (cs ++ vals)[p]? = some c → (cs[p]? = some c ∧ p < cs.length) ∨ (cs.length ≤ p ∧ vals[p - cs.length]? = some c) := fun p c hp => by
    by_cases e : p < cs.length
    · rw [List.getElem?_append_left e] at hp; exact .inl ⟨hp, e⟩
    · rw [List.getElem?_append_right (by omega)] at hp; exact .inr ⟨by omega, hp⟩
  have hwv : ∀ c : Value, (∀ g, c.ownBlock = some g → g < w.heap.size) → Apart c v → Apart c v' := fun c hlt ha g hc' hv' => by
    rcases hloc g hv' with h | h
    · exact ha g hc' h
    · have := hlt g hc'; omega
  refine hK _ _ (h v' w' ⟨?_, cs ++ vals, by rw [List.length_append]; exact h1, fun k j hk hj => ?_, fun p q c d hp hq hne => ?_, fun p c hp => ?_, fun p c g hp hg' => ?_, fun g e => (World.ownsRow.lt h1 g e).2⟩ hg hloc)
  · intro d hd
    rcases List.mem_append.1 hd with hd | hd
    · exact hb.szs d hd
    · simp at hd; subst hd; exact he
  · by_cases hke : k < es.length
    · have hkk : (es ++ [e])[k] = es[k] := List.getElem_append_left hke
      simp only [hkk] at hj ⊢
      obtain ⟨c, hc1, hf⟩ := hc k j hke hj
      obtain ⟨hpl, _⟩ := List.getElem?_eq_some_iff.1 hc1
      exact ⟨c, by rw [List.getElem?_append_left hpl]; exact hc1, hsame c _ hf (hcv _ c hc1)⟩
    · have hkl : k = es.length := by simp at hk; omega
      subst hkl
      have hkk : (es ++ [e])[es.length] = e := by simp
      simp only [hkk] at hj ⊢
      obtain ⟨c, hc1, hf⟩ := hr j hj
      exact ⟨c, by rw [List.getElem?_append_right (by omega), hcl, Nat.add_sub_cancel_left]; exact hc1, hsame c _ hf (hva j c hc1)⟩
  · rcases hall p c hp with ⟨hp, _⟩ | ⟨hpl, hp⟩
    · rcases hall q d hq with ⟨hq, _⟩ | ⟨_, hq⟩
      · exact hcc p q c d hp hq hne
      · exact (hmix _ p d c hq hp).symm
    · rcases hall q d hq with ⟨hq, _⟩ | ⟨hql, hq⟩
      · exact hmix _ q c d hp hq
      · exact hrr _ _ c d hp hq (by omega)
  · rcases hall p c hp with ⟨hp, _⟩ | ⟨_, hp⟩
    · exact hwv c (fun g e => Nat.lt_of_lt_of_le (hch p c g hp e).2 hh0) (hcv p c hp)
    · exact hwv c (fun g e => (hvlt _ c g hp e).2) (hva _ c hp)
  · have hsz' := hg.size
    rcases hall p c hp with ⟨hp, _⟩ | ⟨_, hp⟩
    · have := hch p c g hp hg'; omega
    · have := hvlt _ c g hp hg'; omega

end Go.Proofs.Ytfnhafgjdnlhiaa

/- A field of a row that lies in memory of its own is written over by a value with a new block; general steps, nothing here speaks of the program. -/
namespace Go.Proofs.Ytfnhafgjdnlhiaa
open Go.RowKit

/-- A field is written over by a value whose block, if it has one, is new. -/
theorem OwnR.setF {E Ei : TypeId} {sz : Nat} {w : World} {B hi hi' g n cap : Nat} {es : List (List Fd)} (h : OwnR E Ei sz w B hi (.slice (some ⟨g, 0, none⟩) n cap) es) (hn : n = es.length) {k j : Nat} (hk : k < es.length) (hj : j < sz) {u : Value} {f : Fd}
    (hf : FdOk Ei w B u f) (hhi : hi ≤ hi') (hu : ∀ b, u.ownBlock = some b → hi ≤ b ∧ b < hi') :
    OwnR E Ei sz (w.setCell ⟨g, k * sz + j, none⟩ u) B hi' (.slice (some ⟨g, 0, none⟩) n cap) (es.set k ((es[k]).set j f)) := by
  subst hn
  obtain ⟨cs, h1, h2, h3, h4, h5, h6⟩ := h.row
  have hsz := h.szs _ (List.getElem_mem hk)
  have hlt : k * sz + j < cs.length := by
    rw [h1.1]
    have := Nat.mul_le_mul_right sz (show k + 1 ≤ es.length by omega)
    rw [Nat.add_mul] at this; omega
  have hgB := (h1.lt g rfl).1
  have hgh := h6 g rfl
  have hst := (World.ownsRow.stored (w := w) (base := B) (e := E) (size := sz) (g := g) (n := es.length) (cap := cap) h1 (k * sz + j) u).1
  have hbl : ∀ b, b ≠ g → (w.setCell ⟨g, k * sz + j, none⟩ u).heap[b]? = w.heap[b]? := fun b hb => Below.heap_setCell _ _ _ b hb
  have hset : ∀ (p : Nat) c, (cs.set (k * sz + j) u)[p]? = some c → (p ≠ k * sz + j ∧ cs[p]? = some c) ∨ (p = k * sz + j ∧ c = u) := by
    intro p c hp
    by_cases e : k * sz + j = p
    · subst e
      rw [List.getElem?_set_self hlt] at hp
      exact .inr ⟨rfl, by cases hp; rfl⟩
    · rw [List.getElem?_set_ne e] at hp
      exact .inl ⟨fun h => e h.symm, hp⟩
  refine ⟨fun e he => ?_, cs.set (k * sz + j) u, by rw [List.length_set]; exact hst, fun k' j' hk' hj' => ?_, fun p q c d hp hq hne => ?_, fun p c hp => ?_, fun p c b hp hb => ?_, fun b hb => Nat.lt_of_lt_of_le (h6 b hb) hhi⟩
  · rcases List.mem_or_eq_of_mem_set he with he | rfl
    · exact h.szs e he
    · rw [List.length_set]; exact hsz
  · by_cases e : k' = k ∧ j' = j
    · obtain ⟨rfl, rfl⟩ := e
      refine ⟨_, List.getElem?_set_self hlt, ?_⟩
      simp only [List.getElem_set_self]
      exact hf.same fun b hb => hbl b fun hg => by have := (hu b hb).1; omega
    · obtain ⟨a1, a2, a3⟩ := set_get (j := j) hk k' j' hk' hj' (by rw [List.length_set]) e (fun i _ _ hi => by rw [List.getElem_set_ne (fun h => hi h.symm)])
      obtain ⟨c, hc, hf⟩ := h2 k' j' a1 a2
      rw [a3]
      have hp : k * sz + j ≠ k' * sz + j' := by
        intro hh
        have hj2 : j' < sz := by rw [← h.szs _ (List.getElem_mem a1)]; exact a2
        have e1 : (k * sz + j) / sz = k := by rw [Nat.add_comm, Nat.add_mul_div_right _ _ (by omega), Nat.div_eq_of_lt hj, Nat.zero_add]
        have e2 : (k' * sz + j') / sz = k' := by rw [Nat.add_comm, Nat.add_mul_div_right _ _ (by omega), Nat.div_eq_of_lt hj2, Nat.zero_add]
        have : k' = k := by rw [← e1, ← e2, hh]
        subst this
        exact e ⟨rfl, by omega⟩
      exact ⟨c, by rw [List.getElem?_set_ne hp]; exact hc, hf.same fun b hb => hbl b fun hg => h4 _ c hc b hb (by rw [hg]; rfl)⟩
  · rcases hset p c hp with ⟨_, hp1⟩ | ⟨ep, ec⟩
    · rcases hset q d hq with ⟨_, hq1⟩ | ⟨eq, ed⟩
      · exact h3 p q c d hp1 hq1 hne
      · intro b e e'
        rw [ed] at e'
        have := (h5 p c b hp1 e).2; have := (hu b e').1; omega
    · rcases hset q d hq with ⟨_, hq1⟩ | ⟨eq, ed⟩
      · intro b e e'
        rw [ec] at e
        have := (h5 q d b hq1 e').2; have := (hu b e).1; omega
      · exact absurd (ep.trans eq.symm) hne
  · rcases hset p c hp with ⟨_, hp1⟩ | ⟨ep, ec⟩
    · exact h4 p c hp1
    · intro b e e'
      cases e'
      rw [ec] at e
      have h9 : hi ≤ g := (hu _ e).1
      omega
  · rcases hset p c hp with ⟨_, hp1⟩ | ⟨ep, ec⟩
    · have := h5 p c b hp1 hb; exact ⟨this.1, by omega⟩
    · rw [ec] at hb
      have := hu b hb; exact ⟨by omega, this.2⟩

end Go.Proofs.Ytfnhafgjdnlhiaa

/- Rows of fields: the numbers that mark them, their sizes, their copies; general steps, nothing here speaks of the program. -/
namespace Go.Proofs.Ytfnhafgjdnlhiaa
open Go.RowKit

/-! marks -/
/-- A field's mark, and the next number. -/
def Fd.mk' (k : Nat) : Fd → Fd
  | .i _ => .i k
  | .b _ => .b (k % 3 == 0)
  | .s t => .s t
  | .l xs => .l (markL k xs.length)
def Fd.nx (k : Nat) : Fd → Nat
  | .i _ => k + 1
  | .b _ => k + 1
  | .s _ => k
  | .l xs => k + xs.length
def mkE : Nat → List Fd → List Fd
  | _, [] => []
  | k, f :: e => f.mk' k :: mkE (f.nx k) e
def nxE : Nat → List Fd → Nat
  | k, [] => k
  | k, f :: e => nxE (f.nx k) e
theorem mkE_len : ∀ (k : Nat) (e : List Fd), (mkE k e).length = e.length
  | _, [] => rfl
  | k, f :: e => by simp [mkE, mkE_len (f.nx k) e]
/-- How many numbers a field takes. -/
def Fd.sz : Fd → Nat
  | .i _ => 1
  | .b _ => 1
  | .s _ => 0
  | .l xs => xs.length
theorem nx_sz (k : Nat) (f : Fd) : f.nx k = k + f.sz := by cases f <;> rfl
def szE (e : List Fd) : Nat := (e.map Fd.sz).sum
theorem nxE_sz : ∀ (e : List Fd) (k : Nat), nxE k e = k + szE e
  | [], k => by simp [nxE, szE]
  | f :: e, k => by rw [nxE, nxE_sz e, nx_sz]; simp [szE]; omega
/-- The number with which row i begins. -/
def kTo (es : List (List Fd)) (k i : Nat) : Nat := k + ((es.take i).map szE).sum
theorem kTo_zero (es : List (List Fd)) (k : Nat) : kTo es k 0 = k := by simp [kTo]
theorem kTo_succ {es : List (List Fd)} {k i : Nat} (h : i < es.length) : kTo es k (i + 1) = nxE (kTo es k i) es[i] := by
  unfold kTo
  rw [nxE_sz, List.take_succ_eq_append_getElem h, List.map_append, List.sum_append]
  simp; omega
theorem kTo_le {es : List (List Fd)} {k i n : Nat} (h : i ≤ n) : kTo es k i ≤ kTo es k n := by
  induction n with
  | zero => have : i = 0 := by omega
            subst this; exact Nat.le_refl _
  | succ n ih =>
    by_cases e : i = n + 1
    · subst e; exact Nat.le_refl _
    · refine Nat.le_trans (ih (by omega)) ?_
      by_cases hn : n < es.length
      · rw [kTo_succ hn, nxE_sz]; omega
      · unfold kTo
        rw [List.take_of_length_le (by omega), List.take_of_length_le (by omega)]
        exact Nat.le_refl _
/-- The rows when the first i are marked. -/
def mkTo (es : List (List Fd)) (k i : Nat) : List (List Fd) := (List.range es.length).map fun j => if j < i then mkE (kTo es k j) (es.getD j []) else es.getD j []
theorem mkTo_len (es : List (List Fd)) (k i : Nat) : (mkTo es k i).length = es.length := by simp [mkTo]
theorem getE {es : List (List Fd)} {j : Nat} (h : j < es.length) : es.getD j [] = es[j] := by simp [List.getD, List.getElem?_eq_getElem h]
theorem mkTo_get {es : List (List Fd)} {k i j : Nat} (h : j < (mkTo es k i).length) : (mkTo es k i)[j] = if j < i then mkE (kTo es k j) (es.getD j []) else es.getD j [] := by simp [mkTo]
theorem mkTo_zero (es : List (List Fd)) (k : Nat) : mkTo es k 0 = es := by
  apply List.ext_getElem
  · simp [mkTo]
  · intro j h1 h2
    rw [mkTo_get, if_neg (by omega), getE h2]
theorem mkTo_at {es : List (List Fd)} {k i : Nat} (h : i < es.length) (h' : i < (mkTo es k i).length) : (mkTo es k i)[i] = es[i] := by rw [mkTo_get, if_neg (by omega), getE h]
theorem mkTo_all {es : List (List Fd)} {k i : Nat} (h : i < es.length) (h' : i < (mkTo es k es.length).length) : (mkTo es k es.length)[i] = mkE (kTo es k i) es[i] := by rw [mkTo_get, if_pos h, getE h]
theorem mkTo_set {es : List (List Fd)} {k i : Nat} (h : i < es.length) : (mkTo es k i).set i (mkE (kTo es k i) es[i]) = mkTo es k (i + 1) := by
  apply List.ext_getElem
  · simp [mkTo]
  · intro j h1 h2
    by_cases e : j = i
    · subst e; simp only [List.getElem_set_self]; rw [mkTo_get, if_pos (by omega), getE h]
    · rw [List.getElem_set_ne (fun h => e h.symm), mkTo_get, mkTo_get]
      by_cases e2 : j < i
      · rw [if_pos e2, if_pos (by omega)]
      · rw [if_neg e2, if_neg (by omega)]

/-! sizes -/
def Fd.ln : Fd → Nat
  | .l xs => xs.length
  | _ => 0
def lnE (e : List Fd) : Nat := (e.map Fd.ln).sum
/-- How many numbers lie in the lists of the first k rows. -/
def lnTo (es : List (List Fd)) (k : Nat) : Nat := ((es.take k).map lnE).sum
theorem lnTo_zero (es : List (List Fd)) : lnTo es 0 = 0 := by simp [lnTo]
theorem lnTo_succ {es : List (List Fd)} {k : Nat} (h : k < es.length) : lnTo es (k + 1) = lnTo es k + lnE es[k] := by
  unfold lnTo
  rw [List.take_succ_eq_append_getElem h, List.map_append, List.sum_append]
  simp
theorem lnTo_le {es : List (List Fd)} {k n : Nat} (h : k ≤ n) : lnTo es k ≤ lnTo es n := by
  induction n with
  | zero => have : k = 0 := by omega
            subst this; exact Nat.le_refl _
  | succ n ih =>
    by_cases e : k = n + 1
    · subst e; exact Nat.le_refl _
    · refine Nat.le_trans (ih (by omega)) ?_
      by_cases hn : n < es.length
      · rw [lnTo_succ hn]; omega
      · unfold lnTo
        rw [List.take_of_length_le (by omega), List.take_of_length_le (by omega)]
        exact Nat.le_refl _
theorem lnTo_none {es : List (List Fd)} (h : ∀ e ∈ es, lnE e = 0) (k : Nat) : lnTo es k = 0 := by
  unfold lnTo
  rw [List.sum_eq_zero_iff_forall_eq_nat]
  intro n hn
  obtain ⟨e, he, rfl⟩ := List.mem_map.1 hn
  exact h e (List.mem_of_mem_take he)
theorem lnTo_in {es : List (List Fd)} {m : Nat} (h : lnTo es es.length ≤ m) : ∀ e ∈ es, lnE e ≤ m := by
  intro e he
  obtain ⟨k, hk, rfl⟩ := List.mem_iff_getElem.1 he
  have := lnTo_le (es := es) (show k + 1 ≤ es.length from hk)
  rw [lnTo_succ hk] at this
  omega
theorem ln_in {e : List Fd} {xs : List Int} {m : Nat} (h : lnE e ≤ m) (hx : Fd.l xs ∈ e) : xs.length ≤ m := by
  unfold lnE at h
  induction e with
  | nil => cases hx
  | cons f e ih =>
    rw [List.map_cons, List.sum_cons] at h
    rcases List.mem_cons.1 hx with rfl | hx
    · have : (Fd.l xs).ln = xs.length := rfl
      omega
    · exact ih (by omega) hx
theorem sz_ln (f : Fd) : f.sz ≤ 1 + f.ln := by cases f <;> simp [Fd.sz, Fd.ln]
theorem szE_ln : ∀ e : List Fd, szE e ≤ e.length + lnE e
  | [] => by simp [szE, lnE]
  | f :: e => by have := szE_ln e; have := sz_ln f; simp [szE, lnE] at *; omega
/-- The marks of rows of m fields are few. -/
theorem kTo_bd {es : List (List Fd)} {m : Nat} (hm : ∀ e ∈ es, e.length = m) (k : Nat) : ∀ i, i ≤ es.length → kTo es k i ≤ k + (i * m + lnTo es i)
  | 0, _ => by simp [kTo, lnTo]
  | i + 1, h => by
    have h1 := kTo_bd hm k i (by omega)
    have h2 := szE_ln es[i]
    rw [hm _ (List.getElem_mem _)] at h2
    rw [kTo_succ (by omega), nxE_sz, lnTo_succ (by omega), Nat.add_mul]
    omega

/-! copies -/
/-- Of these rows the first k have been copied, the others are the row z. -/
def cpTo (es : List (List Fd)) (z : List Fd) (k : Nat) : List (List Fd) := (List.range es.length).map fun i => if i < k then es.getD i [] else z
theorem cpTo_len (es : List (List Fd)) (z : List Fd) (k : Nat) : (cpTo es z k).length = es.length := by simp [cpTo]
theorem cpTo_get {es : List (List Fd)} {z : List Fd} {k i : Nat} (h : i < (cpTo es z k).length) : (cpTo es z k)[i] = if i < k then es.getD i [] else z := by simp [cpTo]
theorem cpTo_all (es : List (List Fd)) (z : List Fd) : cpTo es z es.length = es := by
  refine List.ext_getElem (by simp [cpTo]) fun i h1 h2 => ?_
  rw [cpTo_get, if_pos h2, getE h2]
theorem cpTo_step {es : List (List Fd)} {z : List Fd} {k : Nat} (hk : k < es.length) : (cpTo es z k).set k es[k] = cpTo es z (k + 1) := by
  refine List.ext_getElem (by simp [cpTo]) fun i h1 h2 => ?_
  by_cases hik : k = i
  · subst hik
    rw [List.getElem_set_self, cpTo_get, if_pos (by omega), getE hk]
  · rw [List.getElem_set_ne hik, cpTo_get, cpTo_get]
    by_cases h : i < k
    · rw [if_pos h, if_pos (by omega)]
    · rw [if_neg h, if_neg (by omega)]

/-! fields -/
/-- A truth value is stored. -/
theorem OwnR.setB {E Ei : TypeId} {sz : Nat} {w : World} {B hi g n cap : Nat} {es : List (List Fd)} (h : OwnR E Ei sz w B hi (.slice (some ⟨g, 0, none⟩) n cap) es) (hn : n = es.length) {k j : Nat} (hk : k < es.length) (hj : j < sz) (x : Bool) :
    OwnR E Ei sz (w.setCell ⟨g, k * sz + j, none⟩ (.bool x)) B hi (.slice (some ⟨g, 0, none⟩) n cap) (es.set k ((es[k]).set j (.b x))) :=
  h.setF hn hk hj (f := .b x) rfl (Nat.le_refl _) (fun b e => by cases e)
/-- The block of a field's list lies among the rows' own. -/
theorem OwnR.range {E Ei : TypeId} {sz : Nat} {w : World} {B hi g n cap : Nat} {es : List (List Fd)} (h : OwnR E Ei sz w B hi (.slice (some ⟨g, 0, none⟩) n cap) es) {k j : Nat} (hk : k < es.length) (hj : j < (es[k]).length) {c : Value} (hc : w.cell? ⟨g, k * sz + j, none⟩ = some c) :
    ∀ b, c.ownBlock = some b → B ≤ b ∧ b < hi := by
  obtain ⟨cs, o1, o2, _, _, o5, _⟩ := h.row
  obtain ⟨c', hc', _⟩ := o2 k j hk hj
  have hcc := World.ownsRow.cells o1 (g := g) rfl _ _ hc'
  rw [addr_add, hc] at hcc
  obtain rfl := Option.some.inj hcc
  exact fun b hb => o5 _ c b hc' hb
/-- A field's value by its kind. -/
theorem OwnR.fieldI {E Ei : TypeId} {sz : Nat} {w : World} {B hi g n cap : Nat} {es : List (List Fd)} (h : OwnR E Ei sz w B hi (.slice (some ⟨g, 0, none⟩) n cap) es) {k j : Nat} (hk : k < es.length) (hj : j < (es[k]).length) {x : Int} (hx : (es[k])[j] = .i x) :
    w.cell? ⟨g, k * sz + j, none⟩ = some (.int .i64 x) ∧ w.frozen? ⟨g, k * sz + j, none⟩ = false := by
  obtain ⟨c, h1, h2, h3, _⟩ := h.cell hk hj
  rw [hx] at h2
  obtain rfl : c = .int .i64 x := h2
  exact ⟨h1, h3⟩
theorem OwnR.fieldB {E Ei : TypeId} {sz : Nat} {w : World} {B hi g n cap : Nat} {es : List (List Fd)} (h : OwnR E Ei sz w B hi (.slice (some ⟨g, 0, none⟩) n cap) es) {k j : Nat} (hk : k < es.length) (hj : j < (es[k]).length) {x : Bool} (hx : (es[k])[j] = .b x) :
    w.cell? ⟨g, k * sz + j, none⟩ = some (.bool x) ∧ w.frozen? ⟨g, k * sz + j, none⟩ = false := by
  obtain ⟨c, h1, h2, h3, _⟩ := h.cell hk hj
  rw [hx] at h2
  obtain rfl : c = .bool x := h2
  exact ⟨h1, h3⟩
theorem OwnR.fieldL {E Ei : TypeId} {sz : Nat} {w : World} {B hi g n cap : Nat} {es : List (List Fd)} (h : OwnR E Ei sz w B hi (.slice (some ⟨g, 0, none⟩) n cap) es) {k j : Nat} (hk : k < es.length) (hj : j < (es[k]).length) {xs : List Int} (hx : (es[k])[j] = .l xs) :
    ∃ a c, w.cell? ⟨g, k * sz + j, none⟩ = some (.slice a xs.length c) ∧ Own Ei w B (.slice a xs.length c) xs ∧ w.frozen? ⟨g, k * sz + j, none⟩ = false ∧ (Value.slice a xs.length c).ownBlock ≠ some g ∧ ∀ b, (Value.slice a xs.length c).ownBlock = some b → B ≤ b ∧ b < hi := by
  obtain ⟨c, h1, h2, h3, h4⟩ := h.cell hk hj
  rw [hx] at h2
  have h2' : Own Ei w B c xs := h2
  obtain ⟨a, cap', rfl, _, _⟩ := h2'.ints
  exact ⟨a, cap', h1, h2', h3, h4, h.range hk hj h1⟩

/-! rows that are read -/
def rowsD (es : List (List Fd)) : Dt := .l (es.map fun e => e.map Fd.dt)
/-- A list of rows in memory: each field's cell and how it reads. -/
theorem rows_at {w : World} {es : List (List Fd)} {a : Option Addr} {n cap : Nat} {fp : List Nat} (h : Rd w (rowsD es) (.slice a n cap) fp) (hne : 0 < es.length) {m : Nat} (hm : ∀ e ∈ es, e.length = m) :
    ∃ g off, a = some ⟨g, off, none⟩ ∧ g < w.heap.size ∧ ∀ k (hk : k < es.length) j (hj : j < (es[k]).length), ∃ c fp', w.cell? ⟨g, off + k * m + j, none⟩ = some c ∧ Rd w (((es[k])[j]).dt) c fp' := by
  obtain ⟨g, off, rfl, hg, _, _, _, hc⟩ := Rd.at h (by simpa using hne) (sz := m) (by intro e he; obtain ⟨e', he', rfl⟩ := List.mem_map.1 he; rw [List.length_map]; exact hm e' he')
  refine ⟨g, off, rfl, hg, fun k hk j hj => ?_⟩
  obtain ⟨v, fp', h1, h2, _⟩ := hc k j (by simpa using hk) (by simpa using hj)
  refine ⟨v, fp', by rw [Nat.add_assoc]; exact h1, by simpa using h2⟩
theorem rd_i {w : World} {c : Value} {fp : List Nat} {f : Fd} {x : Int} (h : Rd w f.dt c fp) (hf : f = .i x) : c = .int .i64 x := by subst hf; exact (Rd.int h).1
theorem rd_b {w : World} {c : Value} {fp : List Nat} {f : Fd} {x : Bool} (h : Rd w f.dt c fp) (hf : f = .b x) : c = .bool x := by subst hf; exact (Rd.bool h).1
theorem rd_l {w : World} {c : Value} {fp : List Nat} {f : Fd} {xs : List Int} (h : Rd w f.dt c fp) (hf : f = .l xs) : ∃ a cap, c = .slice a xs.length cap ∧ IntsAt w a xs := by
  subst hf
  obtain ⟨a, cap, rfl, _, hi⟩ := Rd.ints (show Rd w (intsD xs) c fp from h)
  exact ⟨a, cap, rfl, hi⟩
theorem rd_ls {w : World} {c : Value} {fp : List Nat} {f : Fd} {xs : List Int} (h : Rd w f.dt c fp) (hf : f = .l xs) : ∃ a cap, c = .slice a xs.length cap ∧ IntsAt w a xs ∧ SrcAt w a cap xs := by
  subst hf
  have h' : Rd w (intsD xs) c fp := h
  obtain ⟨a, cap, rfl, _, hi⟩ := Rd.ints h'
  refine ⟨a, cap, rfl, hi, ?_⟩
  rcases hi with rfl | ⟨b, off, rfl, _, hc⟩
  · cases a with
    | none => exact .inl ⟨rfl, rfl, Rd.nilcap h'⟩
    | some ad => exact .inr ⟨ad, rfl, fun j hj => by simp at hj⟩
  · exact .inr ⟨_, rfl, fun j hj => by rw [addr_add']; exact hc j hj⟩
theorem OwnR.reads {E Ei : TypeId} {sz : Nat} {w : World} {B hi : Nat} {v : Value} {es : List (List Fd)} (h : OwnR E Ei sz w B hi v es) : ∃ fp, Rd w (rowsD es) v fp := by
  obtain ⟨fp, hr, _⟩ := h.bld.rd
  exact ⟨fp, hr⟩

/-! one row among rows -/
theorem set_self' {es : List (List Fd)} {j : Nat} {e : List Fd} (h : j < es.length) (he : es[j] = e) : es.set j e = es := by subst he; exact List.set_getElem_self h
section
variable {E Ei : TypeId} {sz : Nat} {w : World} {B hi g n cap : Nat} {es : List (List Fd)} {j : Nat} {row : List Fd}
theorem OwnR.rowI (h : OwnR E Ei sz w B hi (.slice (some ⟨g, 0, none⟩) n cap) (es.set j row)) (hn : n = es.length) (hj : j < es.length) (q : Nat) (hq : q < sz) (z : Int) :
    OwnR E Ei sz (w.setCell ⟨g, j * sz + q, none⟩ (.int .i64 z)) B hi (.slice (some ⟨g, 0, none⟩) n cap) (es.set j (row.set q (.i z))) := by
  have := h.setI (by rw [List.length_set]; exact hn) (k := j) (by rw [List.length_set]; exact hj) hq z
  rwa [List.getElem_set_self, List.set_set] at this
theorem OwnR.rowB (h : OwnR E Ei sz w B hi (.slice (some ⟨g, 0, none⟩) n cap) (es.set j row)) (hn : n = es.length) (hj : j < es.length) (q : Nat) (hq : q < sz) (z : Bool) :
    OwnR E Ei sz (w.setCell ⟨g, j * sz + q, none⟩ (.bool z)) B hi (.slice (some ⟨g, 0, none⟩) n cap) (es.set j (row.set q (.b z))) := by
  have := h.setB (by rw [List.length_set]; exact hn) (k := j) (by rw [List.length_set]; exact hj) hq z
  rwa [List.getElem_set_self, List.set_set] at this
theorem OwnR.rowF (h : OwnR E Ei sz w B hi (.slice (some ⟨g, 0, none⟩) n cap) (es.set j row)) (hn : n = es.length) (hj : j < es.length) (q : Nat) (hq : q < sz) {u : Value} {f : Fd} {hi' : Nat} (hf : FdOk Ei w B u f) (hhi : hi ≤ hi') (hu : ∀ b, u.ownBlock = some b → hi ≤ b ∧ b < hi') :
    OwnR E Ei sz (w.setCell ⟨g, j * sz + q, none⟩ u) B hi' (.slice (some ⟨g, 0, none⟩) n cap) (es.set j (row.set q f)) := by
  have := h.setF (by rw [List.length_set]; exact hn) (k := j) (by rw [List.length_set]; exact hj) hq hf hhi hu
  rwa [List.getElem_set_self, List.set_set] at this
theorem OwnR.rowL {w' : World} (h : OwnR E Ei sz w B hi (.slice (some ⟨g, 0, none⟩) n cap) (es.set j row)) (hj : j < es.length) (q : Nat) (hq : q < sz) {c : Value} (hc : w.cell? ⟨g, j * sz + q, none⟩ = some c) {ys : List Int} (hown : Own Ei w' B c ys) (hg : w.grownBy w' c.ownBlock) :
    OwnR E Ei sz w' B hi (.slice (some ⟨g, 0, none⟩) n cap) (es.set j (row.set q (.l ys))) := by
  have := h.setL (k := j) (by rw [List.length_set]; exact hj) hq hc hown (fun b hb hne => hg.block b hb fun e => hne e.symm)
  rwa [List.getElem_set_self, List.set_set] at this
theorem OwnR.rcI (h : OwnR E Ei sz w B hi (.slice (some ⟨g, 0, none⟩) n cap) (es.set j row)) (hj : j < es.length) (q : Nat) {x : Int} (hx : row[q]? = some (.i x)) :
    w.cell? ⟨g, j * sz + q, none⟩ = some (.int .i64 x) ∧ w.frozen? ⟨g, j * sz + q, none⟩ = false := by
  obtain ⟨hq, hx⟩ := List.getElem?_eq_some_iff.1 hx
  exact h.fieldI (k := j) (j := q) (by rw [List.length_set]; exact hj) (by rw [List.getElem_set_self]; exact hq) (by simp only [List.getElem_set_self]; exact hx)
theorem OwnR.rcB (h : OwnR E Ei sz w B hi (.slice (some ⟨g, 0, none⟩) n cap) (es.set j row)) (hj : j < es.length) (q : Nat) {x : Bool} (hx : row[q]? = some (.b x)) :
    w.cell? ⟨g, j * sz + q, none⟩ = some (.bool x) ∧ w.frozen? ⟨g, j * sz + q, none⟩ = false := by
  obtain ⟨hq, hx⟩ := List.getElem?_eq_some_iff.1 hx
  exact h.fieldB (k := j) (j := q) (by rw [List.length_set]; exact hj) (by rw [List.getElem_set_self]; exact hq) (by simp only [List.getElem_set_self]; exact hx)
theorem OwnR.rcL (h : OwnR E Ei sz w B hi (.slice (some ⟨g, 0, none⟩) n cap) (es.set j row)) (hj : j < es.length) (q : Nat) {xs : List Int} (hx : row[q]? = some (.l xs)) :
    ∃ a c, w.cell? ⟨g, j * sz + q, none⟩ = some (.slice a xs.length c) ∧ Own Ei w B (.slice a xs.length c) xs ∧ w.frozen? ⟨g, j * sz + q, none⟩ = false ∧ (Value.slice a xs.length c).ownBlock ≠ some g ∧ ∀ b, (Value.slice a xs.length c).ownBlock = some b → B ≤ b ∧ b < hi := by
  obtain ⟨hq, hx⟩ := List.getElem?_eq_some_iff.1 hx
  exact h.fieldL (k := j) (j := q) (by rw [List.length_set]; exact hj) (by rw [List.getElem_set_self]; exact hq) (by simp only [List.getElem_set_self]; exact hx)
end
/-- New rows are rows of zeros. -/
theorem made_at' (z : Array Value) {n p : Nat} (h : p < n) : (madeCells z n).toList[p]? = some z[p % z.size]! := by
  unfold madeCells; rw [Array.getElem?_toList, Array.getElem?_map, Array.getElem?_range]; simp [h]
theorem ownR_new {E Ei : TypeId} {m : Nat} (w : World) (es : List (List Fd)) (zv : List Value) (z : List Fd) (hm : es.length ≤ maxLen) (hl : zv.length = m) (hz : z.length = m) (hpos : 0 < m) (hn : ∀ c ∈ zv, c.ownBlock = none) (hok : ∀ W B j (h : j < zv.length) (h' : j < z.length), FdOk Ei W B zv[j] z[j]) :
    OwnR E Ei m (w.alloc (.cells (madeCells zv.toArray (es.length * m)) E)) w.heap.size (w.heap.size + 1) (.slice (some ⟨w.heap.size, 0, none⟩) es.length es.length) (cpTo es z 0) := by
  have hc : ∀ (p : Nat) (c : Value), (madeCells zv.toArray (es.length * m)).toList[p]? = some c → c ∈ zv := by
    intro p c h
    have hp : p < es.length * m := by
      obtain ⟨h1, _⟩ := List.getElem?_eq_some_iff.1 h
      simpa [madeCells] using h1
    rw [made_at' _ hp] at h
    have hq : p % zv.toArray.size < zv.length := by simp; exact Nat.mod_lt _ (by omega)
    have : c = zv[p % zv.toArray.size] := by
      have := Option.some.inj h
      rw [← this]
      have hq' : p % zv.length < zv.length := by simpa using hq
      simp [List.getElem?_eq_getElem hq']
    rw [this]; exact List.getElem_mem hq
  have hno : ∀ (p : Nat) (c : Value), (madeCells zv.toArray (es.length * m)).toList[p]? = some c → c.ownBlock = none := fun p c h => hn c (hc p c h)
  refine ⟨fun e he => ?_, (madeCells zv.toArray (es.length * m)).toList, ⟨by rw [cpTo_len]; simp [madeCells], .inr ⟨w.heap.size, es.length, _, by rw [cpTo_len], Nat.le_refl _, heap_alloc_new w _, by rw [cpTo_len]; exact Nat.le_refl _, hm, by simp [madeCells], by rw [cpTo_len]; exact List.take_of_length_le (by simp [madeCells])⟩⟩, fun k j hk hj => ?_, ?_, ?_, ?_, ?_⟩
  · unfold cpTo at he
    obtain ⟨i, _, rfl⟩ := List.mem_map.1 he
    rw [if_neg (by omega)]; exact hz
  · have hkL : k < es.length := by rw [cpTo_len] at hk; exact hk
    have hg : (cpTo es z 0)[k] = z := by rw [cpTo_get, if_neg (by omega)]
    simp only [hg] at hj ⊢
    have hlt : k * m + j < es.length * m := by
      have := Nat.mul_le_mul_right m (show k + 1 ≤ es.length by omega)
      rw [Nat.add_mul] at this; omega
    refine ⟨zv[j], ?_, hok _ _ j (by omega) hj⟩
    rw [made_at' _ hlt]
    have : (k * m + j) % zv.toArray.size = j := by
      rw [List.size_toArray, hl, Nat.add_comm, Nat.add_mul_mod_self_right, Nat.mod_eq_of_lt (by omega)]
    rw [this]
    simp [show j < zv.length by omega]
  · intro p q c d h1 h2 _ g e
    rw [hno p c h1] at e; cases e
  · intro p c h g e
    rw [hno p c h] at e; cases e
  · intro p c g h e
    rw [hno p c h] at e; cases e
  · intro g e
    cases e; exact Nat.lt_succ_self _

end Go.Proofs.Ytfnhafgjdnlhiaa

/- Parts of a list that reads as data: its head and its tail; general steps, nothing here speaks of the program. -/
namespace Go.Proofs.Ytfnhafgjdnlhiaa
open Go.RowKit

theorem Rd.cut {w : World} {es : List (List Dt)} {g off n cap sz : Nat} {fp : List Nat} (h : Rd w (.l es) (.slice (some ⟨g, off, none⟩) n cap) fp) (hsz : ∀ e ∈ es, e.length = sz) (k m o2 cap2 : Nat) (hk : k + m ≤ es.length) (ho : 0 < m → o2 = off + k * sz) (hcap2 : k + m ≤ cap → m ≤ cap2) :
    ∃ fp', Rd w (.l ((es.drop k).take m)) (.slice (some ⟨g, o2, none⟩) m cap2) fp' ∧ ∀ r ∈ fp', r ∈ fp := by
  rcases Nat.eq_zero_or_pos m with h0 | h0
  · subst h0
    exact ⟨[], by rw [List.take_zero]; exact .nil _ _ (fun e => by cases e), by simp⟩
  · generalize hd : Dt.l es = d at h
    generalize hv : Value.slice (some ⟨g, off, none⟩) n cap = v at h
    cases h with
    | i n => cases hd
    | b x => cases hd
    | s t => cases hd
    | nil a cap hn => cases hd; simp at hk; omega
    | l sz' es' g' off' cap' V F hne' hsz' hcap hgl hc hrd =>
      cases hd
      simp only [Value.slice.injEq, Option.some.injEq, Addr.mk.injEq, and_true] at hv
      obtain ⟨⟨rfl, rfl⟩, rfl, rfl⟩ := hv
      have hss : sz' = sz := by
        have h0 := List.getElem_mem hne'
        rw [← hsz' _ h0, hsz _ h0]
      subst hss
      have hl : ((es.drop k).take m).length = m := by rw [List.length_take, List.length_drop]; omega
      have hget : ∀ i (hi : i < ((es.drop k).take m).length) (hi' : k + i < es.length), ((es.drop k).take m)[i] = es[k + i] := by
        intro i hi hi'
        rw [List.getElem_take, List.getElem_drop]
      have := Rd.l (w := w) sz' ((es.drop k).take m) g o2 cap2 (fun i j => V (k + i) j) (fun i j => F (k + i) j) (by omega) (fun e he => hsz' e (List.mem_of_mem_drop (List.mem_of_mem_take he))) (by rw [hl]; exact hcap2 (by omega)) hgl
        (fun i j hi hj => by
          rw [ho h0, show off + k * sz' + (i * sz' + j) = off + ((k + i) * sz' + j) by rw [Nat.add_mul]; omega]
          exact hc (k + i) j (by omega) hj)
        (fun i j hi hj => by
          have hi' : k + i < es.length := by omega
          have e := hget i hi hi'
          simp only [e] at hj ⊢
          exact hrd (k + i) j hi' hj)
      rw [hl] at this
      refine ⟨_, this, fun r hr => ?_⟩
      rcases List.mem_cons.1 hr with rfl | hr
      · simp
      · obtain ⟨i, hi, hr⟩ := List.mem_flatMap.1 hr
        obtain ⟨j, hj, hr⟩ := List.mem_flatMap.1 hr
        rw [List.mem_range] at hi hj
        exact List.mem_cons_of_mem _ (List.mem_flatMap.2 ⟨k + i, List.mem_range.2 (by omega), List.mem_flatMap.2 ⟨j, List.mem_range.2 hj, hr⟩⟩)
theorem Rd.lens {w : World} {es : List (List Dt)} {a : Option Addr} {n cap : Nat} {fp : List Nat} (h : Rd w (.l es) (.slice a n cap) fp) : n = es.length := by
  obtain ⟨a', c', e⟩ := Rd.slice h
  cases e; rfl
/-- The tail of a list, and where it lies. -/
theorem Rd.tail {w : World} {es : List (List Dt)} {g off n cap sz : Nat} {fp : List Nat} (h : Rd w (.l es) (.slice (some ⟨g, off, none⟩) n cap) fp) (hsz : ∀ e ∈ es, e.length = sz) (k : Nat) (hk : k ≤ es.length) :
    ∃ o2, (if cap = k then some (⟨g, off, none⟩ : Addr) else some ⟨g, off + k * sz, none⟩) = some ⟨g, o2, none⟩ ∧ ∃ fp', Rd w (.l (es.drop k)) (.slice (some ⟨g, o2, none⟩) (es.length - k) (cap - k)) fp' ∧ ∀ r ∈ fp', r ∈ fp := by
  have key : ∀ o2, (k < es.length → o2 = off + k * sz) → ∃ fp', Rd w (.l (es.drop k)) (.slice (some ⟨g, o2, none⟩) (es.length - k) (cap - k)) fp' ∧ ∀ r ∈ fp', r ∈ fp := by
    intro o2 ho
    have := h.cut hsz k (es.length - k) o2 (cap - k) (by omega) (fun hm => ho (by omega)) (fun hc => by omega)
    rwa [List.take_of_length_le (by rw [List.length_drop]; omega)] at this
  by_cases hc : cap = k
  · refine ⟨off, by rw [if_pos hc], key off fun hlt => ?_⟩
    obtain ⟨_, _, _, _, _, _, hcap, _⟩ := Rd.at h (by omega) hsz
    have := h.lens
    omega
  · exact ⟨off + k * sz, by rw [if_neg hc], key _ fun _ => rfl⟩

end Go.Proofs.Ytfnhafgjdnlhiaa

/- Lists of rows of numbers in memory of their own, cell by cell; an append to them at an operation; general steps, nothing here speaks of the program. -/
namespace Go.Proofs.Ytfnhafgjdnlhiaa
open Go.RowKit

def rwN (e : List Int) : List Value := e.map (Value.int .i64)
def flN (es : List (List Int)) : List Value := es.flatMap rwN
theorem flN_app (es es2 : List (List Int)) : flN (es ++ es2) = flN es ++ flN es2 := by unfold flN; rw [List.flatMap_append]
theorem flN_len {sz : Nat} : ∀ {es : List (List Int)}, (∀ e ∈ es, e.length = sz) → (flN es).length = es.length * sz
  | [], _ => by simp [flN]
  | x :: es, h => by
    have ih := flN_len (es := es) fun e he => h e (List.mem_cons_of_mem _ he)
    have hx := h x (by simp)
    unfold flN at *
    rw [List.flatMap_cons, List.length_append, ih, List.length_cons, Nat.add_mul]
    simp [rwN, hx]; omega
theorem flN_at {sz : Nat} : ∀ {es : List (List Int)}, (∀ e ∈ es, e.length = sz) → ∀ (k j : Nat) (hk : k < es.length), j < sz → (flN es)[k * sz + j]? = (rwN es[k])[j]?
  | x :: es, h, 0, j, _, hj => by
    have hx := h x (by simp)
    unfold flN
    rw [List.flatMap_cons, List.getElem?_append_left (by simp [rwN, hx]; omega)]
    simp
  | x :: es, h, k + 1, j, hk, hj => by
    have hx := h x (by simp)
    have hk' : k < es.length := by simpa using hk
    have ih := flN_at (es := es) (fun e he => h e (List.mem_cons_of_mem _ he)) k j hk' hj
    unfold flN at *
    have hlx : (rwN x).length = sz := by simp [rwN, hx]
    rw [List.flatMap_cons, List.getElem?_append_right (by rw [hlx, Nat.add_mul]; omega)]
    rw [show (k + 1) * sz + j - (rwN x).length = k * sz + j by rw [hlx, Nat.add_mul]; omega, ih]
    simp
theorem flN_int {es : List (List Int)} {c : Value} (h : c ∈ flN es) : ∃ x, c = .int .i64 x := by
  unfold flN at h
  obtain ⟨e, _, hc⟩ := List.mem_flatMap.1 h
  unfold rwN at hc
  obtain ⟨x, _, rfl⟩ := List.mem_map.1 hc
  exact ⟨x, rfl⟩
/-- v owns rows of sz numbers, in a block from B on. -/
structure OwnN (E : TypeId) (sz : Nat) (w : World) (B : Nat) (v : Value) (es : List (List Int)) : Prop where
  szs : ∀ e ∈ es, e.length = sz
  row : w.ownsRow B E sz v es.length (flN es)
section
variable {E : TypeId} {sz : Nat} {w w' : World} {B : Nat} {v : Value} {es : List (List Int)}
theorem OwnN.lt (h : OwnN E sz w B v es) : ∀ g, v.ownBlock = some g → B ≤ g ∧ g < w.heap.size := World.ownsRow.lt h.row
theorem OwnN.slice (h : OwnN E sz w B v es) : ∃ a c, v = .slice a es.length c ∧ es.length ≤ c := by
  rcases h.row.2 with ⟨rfl, h0⟩ | ⟨g, cap, cur, rfl, _, _, hn, _⟩
  · exact ⟨none, 0, by rw [h0], by omega⟩
  · exact ⟨_, _, rfl, hn⟩
theorem OwnN.same (h : OwnN E sz w B v es) (hb : ∀ g, v.ownBlock = some g → w'.heap[g]? = w.heap[g]?) : OwnN E sz w' B v es := ⟨h.szs, row_same h.row hb⟩
theorem OwnN.below (h : OwnN E sz w B v es) (hb : Below w.heap.size w w') : OwnN E sz w' B v es := h.same fun g e => hb.block g (h.lt g e).2
theorem OwnN.kept {row : Option Nat} (h : OwnN E sz w B v es) (hg : w.grownBy w' row) (hne : ∀ g, v.ownBlock = some g → row ≠ some g) : OwnN E sz w' B v es :=
  h.same fun g e => hg.block g (h.lt g e).2 (fun e' => hne g e e'.symm)
theorem OwnN.mono {B' : Nat} (h : OwnN E sz w B v es) (hB : B' ≤ B) : OwnN E sz w B' v es := by
  refine ⟨h.szs, h.row.1, ?_⟩
  rcases h.row.2 with h0 | ⟨g, cap, cur, e, hb, rest⟩
  · exact .inl h0
  · exact .inr ⟨g, cap, cur, e, by omega, rest⟩
theorem OwnN.empty (E : TypeId) (sz : Nat) (w : World) : OwnN E sz (w.alloc (.cells #[] E)) w.heap.size (.slice (some ⟨w.heap.size, 0, none⟩) 0 0) [] :=
  ⟨by simp, by simp [flN], .inr ⟨w.heap.size, 0, #[], rfl, Nat.le_refl _, Str.new w E #[], Nat.le_refl _, Nat.zero_le _, by simp, by simp [flN]⟩⟩
theorem OwnN.ownR {Ei : TypeId} {hi : Nat} (h : OwnN E sz w B v es) (hh : w.heap.size ≤ hi) : OwnR E Ei sz w B hi v (es.map fun e => e.map Fd.i) := by
  have hn : ∀ (p : Nat) c, (flN es)[p]? = some c → c.ownBlock = none := fun p c hc => by obtain ⟨x, rfl⟩ := flN_int (List.mem_of_getElem? hc); rfl
  refine ⟨fun e he => by obtain ⟨x, hx, rfl⟩ := List.mem_map.1 he; rw [List.length_map]; exact h.szs x hx, flN es, by rw [List.length_map]; exact h.row, fun k j hk hj => ?_, ?_, ?_, ?_, fun g e => Nat.lt_of_lt_of_le (h.lt g e).2 hh⟩
  · have hk' : k < es.length := by simpa using hk
    have he : (es.map fun e => e.map Fd.i)[k] = es[k].map Fd.i := by simp
    have hl : es[k].length = sz := h.szs _ (List.getElem_mem hk')
    have hj' : j < es[k].length := by rw [he, List.length_map] at hj; exact hj
    rw [flN_at h.szs k j hk' (by omega)]
    refine ⟨.int .i64 es[k][j], by simp [rwN, hj'], ?_⟩
    simp only [he, List.getElem_map]
    rfl
  · intro p q c d hc _ _ g e; rw [hn p c hc] at e; cases e
  · intro p c hc g e; rw [hn p c hc] at e; cases e
  · intro p c g hc e; rw [hn p c hc] at e; cases e
theorem OwnN.cell {g n cap : Nat} (h : OwnN E sz w B (.slice (some ⟨g, 0, none⟩) n cap) es) {k j : Nat} (hk : k < es.length) (hj : j < sz) : w.cell? ⟨g, k * sz + j, none⟩ = (rwN es[k])[j]? ∧ w.frozen? ⟨g, k * sz + j, none⟩ = false := by
  have hl : es[k].length = sz := h.szs _ (List.getElem_mem hk)
  have hc := flN_at h.szs k j hk hj
  have he : (rwN es[k])[j]? = some (.int .i64 (es[k][j]'(by omega))) := by simp [rwN, show j < es[k].length by omega]
  have h0 := World.ownsRow.cells h.row (g := g) rfl _ _ (hc.trans he)
  rw [addr_add] at h0
  refine ⟨h0.trans he.symm, ?_⟩
  rcases h.row.2 with ⟨h', _⟩ | ⟨g', cap', cur, h', _, hg, _⟩
  · simp at h'
  · simp only [Value.slice.injEq, Option.some.injEq, Addr.mk.injEq, and_true] at h'
    obtain ⟨rfl, _⟩ := h'
    exact frozen_of_row w g _ cur E hg
end
/-- The rows' cells from this place on. -/
def SrcN (w : World) (ad : Addr) (es : List (List Int)) : Prop := ∀ (j : Nat) u, (flN es)[j]? = some u → w.cell? (ad.add j) = some u
theorem SrcN.below {w w' : World} {ad : Addr} {es : List (List Int)} (h : SrcN w ad es) (hb : Below w.heap.size w w') : SrcN w' ad es := fun j u hj => (hb.cell (World.block_lt_of_cell? _ _ (h j u hj))).trans (h j u hj)
theorem SrcN.new (w : World) (E : TypeId) (e : List Int) : SrcN (w.alloc (.cells (rwN e).toArray E)) ⟨w.heap.size, 0, none⟩ [e] := by
  intro j u hu
  rw [addr_add, World.cell?_alloc_at _ _ _ _ rfl]
  simpa [flN] using hu
theorem OwnN.src {E : TypeId} {sz : Nat} {w : World} {B g n cap : Nat} {es : List (List Int)} (h : OwnN E sz w B (.slice (some ⟨g, 0, none⟩) n cap) es) : SrcN w ⟨g, 0, none⟩ es := fun j u hj => World.ownsRow.cells h.row (g := g) rfl j u hj

/-- 'append(s, t...)' at an operation: s is the call's own, the rows of t lie at ad. -/
theorem op_app_N {P : Program} {T E : TypeId} {sz bytes : Nat} {z0 : Value} (hsl : P.underlying T = some (.slice E)) (hinf : (P.info? E).map (fun i => (i.zero, i.size, i.bytes)) = some (some z0, sz, bytes)) (hz0 : z0.cells.size = sz) (hpos : 0 < sz) (hby : bytes ≤ 1000)
    {w : World} {o : Oper} {a : Act} {K : Act → World → Prop} {Q : Exit → Act → World → Prop} (s x : Operand) (ho : o.op = .call { callee := .builtin .append, args := #[s, x], argTypes := #[T, T] }) (B : Nat) (v : Value) (es es2 : List (List Int)) (ad : Option Addr) (c : Nat)
    (hs : a.eval s = v) (hb : OwnN E sz w B v es) (hx : a.eval x = .slice ad es2.length c) (hs2 : ∀ e ∈ es2, e.length = sz) (hsrc : (ad = none ∧ es2 = [] ∧ c = 0) ∨ ∃ q, ad = some q ∧ SrcN w q es2) (hlen : es.length + es2.length ≤ 1048577) (hB : B ≤ w.heap.size)
    (h : ∀ v' w', OwnN E sz w' B v' (es ++ es2) → w.grownBy w' v.ownBlock → (∀ g, v'.ownBlock = some g → v.ownBlock = some g ∨ w.heap.size ≤ g) → K (a.put o.dst v') w') : Oper.wp P o a w K Q := by
  obtain ⟨i, hi, hz, hsz, hbb⟩ := info_parts hinf
  have hall : ∀ e ∈ es ++ es2, e.length = sz := fun e he => by
    rcases List.mem_append.1 he with h1 | h1
    · exact hb.szs e h1
    · exact hs2 e h1
  have run : ∃ v' w', (Builtin.append_ #[T, T] o.type #[v, .slice ad es2.length c]).run P w = .ok v' w' ∧ OwnN E sz w' B v' (es ++ es2) ∧ w.grownBy w' v.ownBlock ∧ (v'.ownBlock = v.ownBlock ∨ v'.ownBlock = some w.heap.size) := by
    rcases hsrc with ⟨rfl, rfl, rfl⟩ | ⟨q, rfl, hq⟩
    · exact ⟨v, w, run_append_owned_none (P := P) (w := w) B T o.type E i sz hsl hi v es.length _ hb.row, by simpa using hb, World.grownBy.refl _ _, .inl rfl⟩
    · obtain ⟨v', w', h1, h2, h3, _, h4⟩ := run_append_own_at (P := P) w B T o.type E i z0 sz bytes hsl hi hz hsz hbb hz0 hpos v es.length _ hb.row q es2.length c (flN es2) (flN_len hs2) hq (fun u hu => by obtain ⟨x, rfl⟩ := flN_int hu; rfl) (by unfold maxLen; omega) (by
        have := Nat.mul_le_mul (show es.length + es2.length ≤ 1048577 from hlen) hby; omega) hB
      exact ⟨v', w', h1, ⟨hall, by rw [List.length_append, flN_app]; exact h2⟩, h3, h4⟩
  obtain ⟨v', w', hrun, h1, hg, h4⟩ := run
  unfold Oper.wp execOp
  simp only [ho, resolve, invoke, builtin, Sem.run_bind, Sem.run_pure, Result.andThen_ok, List.map_toArray, List.map_cons, List.map_nil, hs, hx, hrun]
  exact h v' w' h1 hg fun g e => by
    rcases h4 with h4 | h4
    · exact .inl (by rw [← h4]; exact e)
    · rw [h4] at e; cases e; exact .inr (Nat.le_refl _)

end Go.Proofs.Ytfnhafgjdnlhiaa

/- Lists of transactions in memory; conditions: the lists are shorter than 2^40. -/
namespace Go.Proofs.Ytfnhafgjdnlhiaa
open Go.RowKit

def txF (b : Tx) : List Fd := [.i b.f, .i b.t, .i b.s, .i b.e]
def txN (b : Tx) : List Int := [b.f, b.t, b.s, b.e]
/-- A list of transactions in memory. -/
def Txs (w : World) (l : List Tx) (v : Value) (fp : List Nat) : Prop := Rd w (rowsD (l.map txF)) v fp
theorem Txs.under {w w' : World} {l : List Tx} {v : Value} {fp : List Nat} (h : Txs w l v fp) (hb : Below w.heap.size w w') : Txs w' l v fp := Rd.under h hb
theorem Txs.slice {w : World} {l : List Tx} {v : Value} {fp : List Nat} (h : Txs w l v fp) : ∃ a cap, v = .slice a l.length cap ∧ l.length ≤ cap := by
  have h' : Rd w (.l ((l.map txF).map fun e => e.map Fd.dt)) v fp := h
  obtain ⟨a, cap, ⟨rfl, hc⟩ | ⟨he, a, cap, rfl⟩⟩ := Rd.list h'
  · exact ⟨a, cap, by simp, by simpa using hc⟩
  · have : l = [] := by simpa using he
    subst this
    exact ⟨a, cap, rfl, Nat.zero_le _⟩
theorem Txs.at {w : World} {l : List Tx} {a : Option Addr} {n cap : Nat} {fp : List Nat} (h : Txs w l (.slice a n cap) fp) (hne : 0 < l.length) : ∃ b off, a = some ⟨b, off, none⟩ ∧ b < w.heap.size ∧ ∀ k (hk : k < l.length),
    w.cell? ⟨b, off + k * 4, none⟩ = some (.int .i64 l[k].f) ∧ w.cell? ⟨b, off + k * 4 + 1, none⟩ = some (.int .i64 l[k].t) ∧ w.cell? ⟨b, off + k * 4 + 2, none⟩ = some (.int .i64 l[k].s) ∧ w.cell? ⟨b, off + k * 4 + 3, none⟩ = some (.int .i64 l[k].e) := by
  obtain ⟨b, off, rfl, hb, hc⟩ := rows_at (es := l.map txF) (m := 4) h (by simpa using hne) (fun e he => by obtain ⟨x, _, rfl⟩ := List.mem_map.1 he; rfl)
  refine ⟨b, off, rfl, hb, fun k hk => ?_⟩
  have hk' : k < (l.map txF).length := by simpa using hk
  have he : (l.map txF)[k] = txF l[k] := by simp
  obtain ⟨c0, _, h0, r0⟩ := hc k hk' 0 (by rw [he]; simp [txF])
  obtain ⟨c1, _, h1, r1⟩ := hc k hk' 1 (by rw [he]; simp [txF])
  obtain ⟨c2, _, h2, r2⟩ := hc k hk' 2 (by rw [he]; simp [txF])
  obtain ⟨c3, _, h3, r3⟩ := hc k hk' 3 (by rw [he]; simp [txF])
  obtain rfl := rd_i r0 (x := l[k].f) (by simp only [he]; rfl)
  obtain rfl := rd_i r1 (x := l[k].t) (by simp only [he]; rfl)
  obtain rfl := rd_i r2 (x := l[k].s) (by simp only [he]; rfl)
  obtain rfl := rd_i r3 (x := l[k].e) (by simp only [he]; rfl)
  exact ⟨h0, h1, h2, h3⟩
theorem txs_of {E : TypeId} {w : World} {B : Nat} {v : Value} {l : List Tx} (h : OwnN E 4 w B v (l.map txN)) : ∃ a cap fp, v = .slice a l.length cap ∧ l.length ≤ cap ∧ Txs w l v fp := by
  obtain ⟨fp, hr⟩ := (h.ownR (Ei := E) (Nat.le_refl _)).reads
  obtain ⟨a, cap, rfl, hc⟩ := h.slice
  rw [List.length_map] at hr hc ⊢
  refine ⟨a, cap, fp, rfl, hc, ?_⟩
  unfold Txs
  rw [List.map_map] at hr
  exact hr
/-- A first part of a list of transactions. -/
theorem tx_cut {w : World} {l : List Tx} {a : Option Addr} {cap : Nat} {fp : List Nat} (h : Txs w l (.slice a l.length cap) fp) {k : Nat} (hk : k ≤ l.length) : ∃ fq, Txs w (l.take k) (.slice a (l.take k).length cap) fq := by
  rw [List.length_take, Nat.min_eq_left hk]
  by_cases h0 : k = 0
  · subst h0
    refine ⟨[], ?_⟩
    unfold Txs rowsD
    rw [List.take_zero]
    refine .nil _ _ fun e => ?_
    subst e
    exact Rd.nilcap h
  · obtain ⟨b, off, rfl, _⟩ := h.at (by omega)
    have hrow : ∀ e ∈ (l.map txF).map (fun e => e.map Fd.dt), e.length = 4 := by
      intro e he
      rw [List.map_map] at he
      obtain ⟨x, _, rfl⟩ := List.mem_map.1 he
      rfl
    have hz : ((l.map txF).map fun e => e.map Fd.dt).length = l.length := by simp
    obtain ⟨fq, hq⟩ := Rd.cut (g := b) (off := off) (n := l.length) (cap := cap) h hrow 0 k off cap (by omega) (fun _ => by omega) (fun _ => by omega)
    refine ⟨fq, ?_⟩
    unfold Txs rowsD
    rw [List.map_take, List.map_take]
    rw [List.drop_zero] at hq
    exact hq.1

end Go.Proofs.Ytfnhafgjdnlhiaa

/- Lists of transactions of the call's own, and as the source of an append; general steps, nothing here speaks of the program but the types. -/
namespace Go.Proofs.Ytfnhafgjdnlhiaa
open Go.RowKit

/-- v owns these transactions, in a block from B on. -/
abbrev OwnX (E : TypeId) (w : World) (B : Nat) (v : Value) (l : List Tx) : Prop := OwnN E 4 w B v (l.map txN)
theorem OwnX.sl {E : TypeId} {w : World} {B : Nat} {v : Value} {l : List Tx} (h : OwnX E w B v l) : ∃ a c, v = .slice a l.length c ∧ l.length ≤ c := by
  obtain ⟨a, c, rfl, h2⟩ := OwnN.slice h
  rw [List.length_map] at h2 ⊢
  exact ⟨a, c, rfl, h2⟩
theorem OwnX.txs {E : TypeId} {w : World} {B : Nat} {v : Value} {l : List Tx} (h : OwnX E w B v l) : ∃ fp, Txs w l v fp := by
  obtain ⟨a, c, fp, rfl, _, hr⟩ := txs_of h
  exact ⟨fp, hr⟩
theorem OwnX.fresh (E : TypeId) (w : World) : OwnX E (w.alloc (.cells #[] E)) w.heap.size (.slice (some ⟨w.heap.size, 0, none⟩) 0 0) [] := OwnN.empty E 4 w
theorem OwnX.setc {E : TypeId} {w : World} {B : Nat} {v : Value} {l : List Tx} (h : OwnX E w B v l) {b : Nat} (hne : ∀ g, v.ownBlock = some g → g ≠ b) (j : Nat) (u : Value) : OwnX E (w.setCell ⟨b, j, none⟩ u) B v l :=
  OwnN.kept h (grownBy_set w b j u) fun g e e2 => hne g e (by injection e2 with e2; exact e2.symm)
theorem flN_tx (l : List Tx) : (flN (l.map txN)).length = l.length * 4 := by
  rw [flN_len (sz := 4) (fun e he => by obtain ⟨x, _, rfl⟩ := List.mem_map.1 he; rfl), List.length_map]
theorem flN_cutX (l m : List Tx) : flN ((l ++ m).map txN) = flN (l.map txN) ++ flN (m.map txN) := by rw [List.map_append, flN_app]
/-- A list of transactions as the source of an append. -/
def TSrc (w : World) (va : Option Addr) (vc : Nat) (l : List Tx) : Prop := (va = none ∧ l = [] ∧ vc = 0) ∨ ∃ q, va = some q ∧ SrcN w q (l.map txN)
theorem TSrc.below {w w' : World} {va : Option Addr} {vc : Nat} {l : List Tx} (h : TSrc w va vc l) (hb : Below w.heap.size w w') : TSrc w' va vc l := h.imp id fun ⟨q, e, hq⟩ => ⟨q, e, hq.below hb⟩
theorem SrcN.txs {w : World} {b off : Nat} {l : List Tx} (h : ∀ k (hk : k < l.length), w.cell? ⟨b, off + k * 4, none⟩ = some (.int .i64 l[k].f) ∧ w.cell? ⟨b, off + k * 4 + 1, none⟩ = some (.int .i64 l[k].t) ∧ w.cell? ⟨b, off + k * 4 + 2, none⟩ = some (.int .i64 l[k].s) ∧ w.cell? ⟨b, off + k * 4 + 3, none⟩ = some (.int .i64 l[k].e)) : SrcN w ⟨b, off, none⟩ (l.map txN) := by
  intro p u hp
  have hpl : p < l.length * 4 := by rw [← flN_tx]; exact (List.getElem?_eq_some_iff.1 hp).1
  have hk : p / 4 < l.length := by omega
  have hk' : p / 4 < (l.map txN).length := by simpa using hk
  have e1 : p = p / 4 * 4 + p % 4 := by omega
  have hge : (l.map txN)[p / 4] = txN l[p / 4] := by simp
  rw [e1, flN_at (sz := 4) (fun e he => by obtain ⟨x, _, rfl⟩ := List.mem_map.1 he; rfl) (p / 4) (p % 4) hk' (by omega), hge] at hp
  rw [addr_add']
  simp only [show (⟨b, off + p, none⟩ : Addr) = ⟨b, off + p / 4 * 4 + p % 4, none⟩ by congr 1; omega]
  obtain ⟨h0, h1, h2, h3⟩ := h (p / 4) hk
  have h4 : p % 4 < 4 := by omega
  match hm : p % 4, h4 with
  | 0, _ => rw [hm] at hp; rw [show off + p / 4 * 4 + 0 = off + p / 4 * 4 from rfl, h0]; simpa [rwN, txN] using hp
  | 1, _ => rw [hm] at hp; rw [h1]; simpa [rwN, txN] using hp
  | 2, _ => rw [hm] at hp; rw [h2]; simpa [rwN, txN] using hp
  | 3, _ => rw [hm] at hp; rw [h3]; simpa [rwN, txN] using hp
theorem SrcN.takeX {w : World} {ad : Addr} {l : List Tx} (h : SrcN w ad (l.map txN)) (k : Nat) : SrcN w ad ((l.take k).map txN) := by
  intro p u hp
  have h1 := flN_cutX (l.take k) (l.drop k)
  rw [List.take_append_drop] at h1
  refine h p u ?_
  rw [h1, List.getElem?_append_left (List.getElem?_eq_some_iff.1 hp).1]
  exact hp
theorem SrcN.dropX {w : World} {q : Addr} {l : List Tx} (h : SrcN w q (l.map txN)) (k : Nat) : SrcN w (q.add (k * 4)) ((l.drop k).map txN) := by
  intro p u hp
  by_cases hk : k ≤ l.length
  · have h1 := flN_cutX (l.take k) (l.drop k)
    rw [List.take_append_drop] at h1
    have hl : (flN ((l.take k).map txN)).length = k * 4 := by rw [flN_tx, List.length_take]; omega
    have hd : flN ((l.drop k).map txN) = (flN (l.map txN)).drop (k * 4) := by
      rw [h1, List.drop_append_of_le_length (by omega), show (flN ((l.take k).map txN)).drop (k * 4) = [] from List.drop_of_length_le (by omega)]
      rfl
    rw [hd, List.getElem?_drop] at hp
    have := h _ _ hp
    rw [← this]
    simp only [Addr.add]
    by_cases e1 : k * 4 = 0 <;> by_cases e2 : p = 0 <;> simp [e1, e2, Nat.add_assoc]
  · rw [List.drop_of_length_le (by omega)] at hp; simp [flN] at hp
theorem SrcN.nilX {w : World} {q : Addr} : SrcN w q (([] : List Tx).map txN) := fun j u hj => by simp [flN] at hj
theorem tsrc_of {w : World} {l : List Tx} {va : Option Addr} {vc : Nat} {fp : List Nat} (h : Txs w l (.slice va l.length vc) fp) : TSrc w va vc l := by
  by_cases h0 : l = []
  · subst h0
    cases va with
    | some q => exact .inr ⟨q, rfl, SrcN.nilX⟩
    | none => exact .inl ⟨rfl, rfl, Rd.nilcap h⟩
  · obtain ⟨b, off, rfl, _, hat⟩ := h.at (List.length_pos_iff.2 h0)
    exact .inr ⟨_, rfl, SrcN.txs hat⟩
theorem txs_cap {w : World} {l : List Tx} {va : Option Addr} {vc : Nat} {fp : List Nat} (h : Txs w l (.slice va l.length vc) fp) : l.length ≤ vc := by
  obtain ⟨a, c, e, hc⟩ := h.slice
  injection e with _ _ e3; omega
theorem tsrc_parts {w : World} {va : Option Addr} {vc : Nat} {l : List Tx} (h : TSrc w va vc l) (hc : l.length ≤ vc) {k : Nat} (hk : k ≤ l.length) :
    TSrc w va vc (l.take k) ∧ TSrc w (if vc = k then va else va.map (·.add (k * 4))) (vc - k) (l.drop k) := by
  rcases h with ⟨rfl, rfl, rfl⟩ | ⟨q, rfl, hq⟩
  · exact ⟨.inl ⟨rfl, by simp, rfl⟩, .inl ⟨by split <;> rfl, by simp, by simp⟩⟩
  · refine ⟨.inr ⟨q, rfl, hq.takeX k⟩, ?_⟩
    by_cases e : vc = k
    · rw [if_pos e, List.drop_of_length_le (by omega)]; exact .inr ⟨q, rfl, SrcN.nilX⟩
    · rw [if_neg e]; exact .inr ⟨_, rfl, hq.dropX k⟩
theorem srcX_one {w : World} {B : Nat} {E : TypeId} {x : Tx} (h : Str w B E #[.int .i64 x.f, .int .i64 x.t, .int .i64 x.s, .int .i64 x.e]) : SrcN w ⟨B, 0, none⟩ ([x].map txN) := by
  intro p u hp
  rw [addr_add']
  simp only [Nat.zero_add]
  match p with
  | 0 | 1 | 2 | 3 => exact h.cell _ (by simpa [flN, rwN, txN] using hp)
  | n + 4 => simp [flN, rwN, txN] at hp
theorem setx1 {w : World} {B j : Nat} {v : Value} {q : Nat} (hq : q < w.heap.size) (hne : q ≠ B) : (w.setCell ⟨B, j, none⟩ v).heap[q]? = w.heap[q]? := (grownBy_set _ B j v).block q hq (by simpa using hne)
theorem setx2 {w : World} {B j j' : Nat} {v v' : Value} {q : Nat} (hq : q < w.heap.size) (hne : q ≠ B) : ((w.setCell ⟨B, j, none⟩ v).setCell ⟨B, j', none⟩ v').heap[q]? = w.heap[q]? :=
  ((grownBy_set _ B j' v').block q (by simpa using hq) (by simpa using hne)).trans ((grownBy_set _ B j v).block q hq (by simpa using hne))

theorem tq_T : Try.prog.underlying 26 = some (.slice 41) := Try.underlying26
theorem tq_inf : (Try.prog.info? 41).map (fun i => (i.zero, i.size, i.bytes)) = some (some (.agg #[.int .i64 0, .int .i64 0, .int .i64 0, .int .i64 0]), 4, 32) := by kernel_rfl
theorem op_app_X {w : World} {o : Oper} {a : Act} {K : Act → World → Prop} {Q : Exit → Act → World → Prop} (s x : Operand) (ho : o.op = .call { callee := .builtin .append, args := #[s, x], argTypes := #[26, 26] }) (B : Nat) (v : Value) (es es2 : List Tx) (ad : Option Addr) (c : Nat)
    (hs : a.eval s = v) (hb : OwnX 41 w B v es) (hx : a.eval x = .slice ad es2.length c) (hsrc : TSrc w ad c es2) (hlen : es.length + es2.length ≤ 1048577) (hB : B ≤ w.heap.size)
    (h : ∀ v' w', OwnX 41 w' B v' (es ++ es2) → w.grownBy w' v.ownBlock → (∀ g, v'.ownBlock = some g → v.ownBlock = some g ∨ w.heap.size ≤ g) → K (a.put o.dst v') w') : Oper.wp Try.prog o a w K Q :=
  op_app_N tq_T tq_inf rfl (by decide) (by decide) s x ho B v (es.map txN) (es2.map txN) ad c hs hb (by rw [hx, List.length_map]) (fun e he => by obtain ⟨y, _, rfl⟩ := List.mem_map.1 he; rfl) (hsrc.imp (fun ⟨h1, h2, h3⟩ => ⟨h1, by rw [h2]; rfl, h3⟩) id) (by rw [List.length_map, List.length_map]; exact hlen) hB
    fun v' w' h1 h2 h3 => h v' w' (by unfold OwnX; rw [List.map_append]; exact h1) h2 h3
theorem wpList_app_X {w : World} {ops : Array Oper} {rest : List Oper} {o : Oper} {a : Act} {Q : Exit → Act → World → Prop} (hgd : Region.wanted o (yielded ops a.tmps) = true) (s x : Operand) (ho : o.op = .call { callee := .builtin .append, args := #[s, x], argTypes := #[26, 26] }) (B : Nat) (v : Value) (es es2 : List Tx) (ad : Option Addr) (c : Nat)
    (hs : a.eval s = v) (hb : OwnX 41 w B v es) (hx : a.eval x = .slice ad es2.length c) (hsrc : TSrc w ad c es2) (hlen : es.length + es2.length ≤ 1048577) (hB : B ≤ w.heap.size)
    (h : ∀ v' w', OwnX 41 w' B v' (es ++ es2) → w.grownBy w' v.ownBlock → (∀ g, v'.ownBlock = some g → v.ownBlock = some g ∨ w.heap.size ≤ g) → wpList Try.prog ops Q rest (a.put o.dst v') w') : wpList Try.prog ops Q (o :: rest) a w :=
  wpList_want hgd fun _ hK => op_app_X s x ho B v es es2 ad c hs hb hx hsrc hlen hB fun v' w' h1 h2 h3 => hK _ _ (h v' w' h1 h2 h3)
theorem TSrc.parts {w : World} {va : Option Addr} {vc : Nat} {g : List Tx} (h : TSrc w va vc g) (hc : g.length ≤ vc) {k : Nat} (hk : k ≤ g.length) :
    (∀ W, (Instr.slice 26 (.slice va g.length vc) none (some (.int .i64 k)) none).run Try.prog W = .ok (.slice va (g.take k).length vc) W) ∧ TSrc w va vc (g.take k) ∧
    ∃ ad ac, (∀ W, (Instr.slice 26 (.slice va g.length vc) (some (.int .i64 k)) none none).run Try.prog W = .ok (.slice ad (g.drop k).length ac) W) ∧ TSrc w ad ac (g.drop k) := by
  obtain ⟨h1, h2⟩ := tsrc_parts h hc hk
  have ht : Try.prog.underlying 26 = some (.slice (Try.prog.elem 26)) := by kernel_rfl
  have hs : ∀ W, (sizeOf (Try.prog.elem 26)).run Try.prog W = .ok 4 W := fun W => by kernel_rfl
  refine ⟨fun W => ?_, h1, _, _, fun W => ?_, h2⟩
  · rw [run_slice_h (ht := ht) (h0 := by omega) (h2 := by omega), hs]
    simp only [Result.andThen, sliced, Int.toNat_natCast, List.length_take, Nat.min_eq_left hk, Nat.sub_zero]
    have e : (if vc = 0 then va else va.map (·.add (0 * 4))) = va := by
      split
      · rfl
      · cases va <;> simp [Addr.add]
    rw [e]
  · rw [run_slice_l (ht := ht) (h0 := by omega) (h1 := by omega), hs]
    simp only [Result.andThen, sliced, Int.toNat_natCast, List.length_drop]

end Go.Proofs.Ytfnhafgjdnlhiaa

/- The draws of a list of transactions, and of a ledger with a list of transactions, each by a walk of its text; condition: the code has at most 2^40 bytes. -/
namespace Go.Proofs.Ytfnhafgjdnlhiaa
open Go.RowKit

/-- While transactions are drawn: u the list's slice, R the reader. -/
structure Txd (TX : TypeId) (R : Nat) (w : World) (p : Nat) (W : World) (u : Value) (xs : List Tx) : Prop where
  own : OwnX TX W w.heap.size u xs
  rd : Rdr W R p
  gr : w.grownBy W (some R)
  hR : R < w.heap.size
section
variable {TX : TypeId} {R : Nat} {w : World} {p : Nat} {W : World} {u : Value} {xs : List Tx}
theorem Txd.picked (h : Txd TX R w p W u xs) {w2 : World} {p2 : Nat} (hg : W.grownBy w2 (some R)) (hr : Rdr w2 R p2) : Txd TX R w p2 w2 u xs := by
  have h1 := h.hR
  exact ⟨OwnN.kept h.own hg (fun b e e' => by have := (OwnN.lt h.own b e).1; cases e'; omega), hr, grownBy_trans h.gr hg, h1⟩
theorem Txd.below (h : Txd TX R w p W u xs) {w2 : World} (hb : Below W.heap.size W w2) : Txd TX R w p w2 u xs := ⟨OwnN.below h.own hb, h.rd.kept (below_grown hb) (by simp), grown_row h.gr (below_grown hb) (by simp), h.hR⟩
theorem Txd.cell (h : Txd TX R w p W u xs) {T : Nat} (hT : w.heap.size ≤ T) (hn : ∀ g, u.ownBlock = some g → g ≠ T) (j : Nat) (v : Value) : Txd TX R w p (W.setCell ⟨T, j, none⟩ v) u xs := by
  have h1 := h.hR
  exact ⟨OwnX.setc h.own hn j v, h.rd.kept (grownBy_set _ T j _) (fun b e => by cases e; omega), grown_set h.gr hT j _, h1⟩
theorem Txd.put (h : Txd TX R w p W u xs) {w2 : World} {u2 : Value} {ys : List Tx} (ho : OwnX TX w2 w.heap.size u2 ys) (hg : W.grownBy w2 u.ownBlock) : Txd TX R w p w2 u2 ys := by
  have h1 := h.hR
  exact ⟨ho, h.rd.kept hg (fun b e => by have := (OwnN.lt h.own b e).1; omega), grown_row h.gr hg (fun b e => (OwnN.lt h.own b e).1), h1⟩
end
/-- What drawn transactions are. -/
def TxsD (TX : TypeId) (R p : Nat) (w : World) (e : Ending) (w' : World) : Prop := ∃ (xs : List Tx) (u : Value) (p' : Nat), e = .returned u ∧ OwnX TX w' w.heap.size u xs ∧ xs.length ≤ 17 ∧ Rdr w' R p' ∧ p' ≤ p + 300 ∧ w.grownBy w' (some R)
theorem Txd.fin {TX : TypeId} {R : Nat} {w : World} {p p0 : Nat} {W : World} {u : Value} {xs : List Tx} (h : Txd TX R w p W u xs) (hl : xs.length ≤ 17) (hp : p ≤ p0 + 300) : TxsD TX R p0 w (.returned u) W := ⟨xs, u, p, rfl, h.own, hl, h.rd, hp, h.gr⟩

set_option maxHeartbeats 8000000 in
theorem drawTxns (R p : Nat) (w : World) (hp : p ≤ 800000) (hr : Rdr w R p) (hR : R < w.heap.size) : Calls Try.prog 30 #[.pointer (some ⟨R, 0, none⟩)] w (TxsD 41 R p w) := by
  have hfin : ∀ (p' : Nat) (W : World) (u : Value) (xs : List Tx), Txd 41 R w p' W u xs → xs.length ≤ 17 → p' ≤ p + 300 → TxsD 41 R p w (.returned u) W := fun p' W u xs h h1 h2 => h.fin h1 h2
  have Hfin := Lib.hid hfin; clear hfin
  generalize TxsD 41 R p w = POST at *
  have HV := Lib.hid (show Txd 41 R w p (w.alloc (.cells #[] 41)) (.slice (some ⟨w.heap.size, 0, none⟩) 0 0) [] from ⟨OwnX.fresh 41 w, hr.alloc _, World.grownBy_alloc _ _ _, hR⟩)
  have hsz : w.heap.size < (w.alloc (.cells #[] 41)).heap.size := by simp
  clear hr
  go_enter Try.func30, Try.ntmps30
  go_wp2_with fail
  generalize (w.alloc (.cells #[] 41)) = W0 at *
  have h00 : ([] : List Tx).length = 0 := rfl
  generalize ([] : List Tx) = X0 at *
  refine (pick_any R 9 (p) _ (by omega) HV.out.rd (by omega)).mono ?_
  rintro e w2 ⟨q, rfl, hq0, hq1, hr', hg'⟩
  have HV := Lib.hid (HV.out.picked hg' hr')
  have hsw2 := hg'.size
  clear hr' hg'
  go_wp2_with fail
  refine (pick_any R 14 (p + 1) _ (by omega) HV.out.rd (by omega)).mono ?_
  rintro e w3 ⟨y, rfl, hy0, hy1, hr', hg'⟩
  have HV := Lib.hid (HV.out.picked hg' hr')
  have hsw3 := hg'.size
  clear hr' hg'
  by_cases hy : y = 0
  case pos =>
    have hyb : (y == 0) = true := by rw [beq_iff_eq]; exact hy
    go_wp2_with fail
    refine (pick_any R 3 (p + 1 + 1) _ (by omega) HV.out.rd (by omega)).mono ?_
    rintro e w3b ⟨z, rfl, hz0, hz1, hr', hg'⟩
    have HV := Lib.hid (HV.out.picked hg' hr')
    have hsw3b := hg'.size
    clear hr' hg'
    have hzw : IntKind.i64.wrap (15 + z) = 15 + z := IntWalk.i64_in _ (by omega)
    go_wp2
    go_loopw [3, 5] (fun u i wr => ∃ (k p' : Nat) (xs : List Tx), k ≤ 17 ∧ i = .int .i64 k ∧ p' ≤ p + 1 + 1 + 1 + 11 * k ∧ xs.length = k ∧ Txd 41 R w p' wr u xs) (fun _ i _ => 18 - (intOf i).toNat)
    case atStart => exact ⟨0, p + 1 + 1 + 1, X0, by omega, rfl, by omega, h00, HV.out⟩
    case round =>
      clear HV h00
      obtain ⟨k, p', xs, hk, rfl, hpk, hlk, hv⟩ := hrel
      obtain ⟨au, cu, rfl, hcu⟩ := hv.own.sl
      have HV := Lib.hid hv; clear hv
      have Hlk := Lib.hid hlk; clear hlk
      by_cases hlt : (k : Int) < 15 + z
      case pos =>
        have hk17 : k < 17 := by omega
        have hlt' : decide ((k : Int) < 15 + z) = true := decide_eq_true hlt
        have hRw := HV.out.gr.size
        go_wp2_with fail
        refine (drawTxn R p' _ (by omega) HV.out.rd (by have := HV.out.hR; omega)).mono ?_
        rintro e w4 ⟨b, p4, rfl, _, hr', hp4, hg'⟩
        have HV := Lib.hid (HV.out.picked hg' hr')
        have hs4 := hg'.size
        clear hr' hg'
        unfold agT
        have hal : Below w4.heap.size w4 (w4.alloc (.cells #[.int .i64 b.f, .int .i64 b.t, .int .i64 b.s, .int .i64 b.e] 41)) := (Below.refl _ _).alloc (Nat.le_refl _) _
        have SB := Lib.hid (Str.new w4 41 #[.int .i64 b.f, .int .i64 b.t, .int .i64 b.s, .int .i64 b.e])
        have HN := Lib.hid (show ∀ g, (Value.slice au xs.length cu).ownBlock = some g → g ≠ w4.heap.size from fun g e => by have := (OwnN.lt HV.out.own g e).2; omega)
        have HT := Lib.hid (show R ≠ w4.heap.size ∧ w.heap.size ≤ w4.heap.size from ⟨by have := HV.out.hR; omega, by omega⟩)
        have HV := Lib.hid (HV.out.below hal)
        have hzT : w4.heap.size < (w4.alloc (.cells #[.int .i64 b.f, .int .i64 b.t, .int .i64 b.s, .int .i64 b.e] 41)).heap.size := by simp
        clear hal
        go_wp2_with fail
        generalize (w4.alloc (.cells #[.int .i64 b.f, .int .i64 b.t, .int .i64 b.s, .int .i64 b.e] 41)) = W5 at *
        obtain ⟨T, hT⟩ : ∃ T, T = w4.heap.size := ⟨_, rfl⟩
        rw [← hT] at SB HN HT hzT hs4
        rw [← hT]
        clear hT
        refine (pick_any R 3 (p4) _ (by omega) HV.out.rd (by omega)).mono ?_
        rintro e w6 ⟨c, rfl, hc0, hc1, hr', hg'⟩
        have HV := Lib.hid (HV.out.picked hg' hr')
        have hsw6 := hg'.size
        have SB := Lib.hid (SB.out.kept hg' (by simp; exact Ne.symm HT.out.1))
        clear hr' hg'
        by_cases hc : 0 < c
        case pos =>
          have hcd : decide (0 < c) = true := decide_eq_true hc
          go_wp2_with fail
          refine (pick_any R 3 (p4 + 1) _ (by omega) HV.out.rd (by omega)).mono ?_
          rintro e w7 ⟨v, rfl, hv0, hv1, hr', hg'⟩
          have HV := Lib.hid (HV.out.picked hg' hr')
          have hsw7 := hg'.size
          have SB := Lib.hid (SB.out.kept hg' (by simp; exact Ne.symm HT.out.1))
          clear hr' hg'
          have m1 : IntKind.i64.wrap (2 * v) = 2 * v := IntWalk.i64_in _ (by omega)
          have m2 : IntKind.i64.wrap (2 * v + 1) = 2 * v + 1 := IntWalk.i64_in _ (by omega)
          have y0 := SB.out.frozen 0
          have y1 := SB.out.frozen 1
          have z0 := SB.out.cell 0 (v := .int .i64 b.f) rfl
          have z1 := SB.out.cell 1 (v := .int .i64 b.t) rfl
          have hV9 := (HV.out.cell HT.out.2 HN.out 0 (.int .i64 (2 * v))).cell HT.out.2 HN.out 1 (.int .i64 (2 * v + 1))
          have hS8 := SB.out.set 0 (.int .i64 (2 * v))
          have z2 := hS8.cell 0 (v := .int .i64 (2 * v)) rfl
          have hS9 := hS8.set 1 (.int .i64 (2 * v + 1))
          have HV := Lib.hid hV9; have SB := Lib.hid hS9; clear hV9 hS8 hS9
          have b0 := SB.out.cell 0 (v := .int .i64 (2 * v)) rfl
          have b1 := SB.out.cell 1 (v := .int .i64 (2 * v + 1)) rfl
          have b2 := SB.out.cell 2 (v := .int .i64 (b.s)) rfl
          have b3 := SB.out.cell 3 (v := .int .i64 (b.e)) rfl
          have hal : Below ((w7.setCell ⟨T, 0, none⟩ (.int .i64 (2 * v))).setCell ⟨T, 1, none⟩ (.int .i64 (2 * v + 1))).heap.size ((w7.setCell ⟨T, 0, none⟩ (.int .i64 (2 * v))).setCell ⟨T, 1, none⟩ (.int .i64 (2 * v + 1))) (((w7.setCell ⟨T, 0, none⟩ (.int .i64 (2 * v))).setCell ⟨T, 1, none⟩ (.int .i64 (2 * v + 1))).alloc (.cells #[.int .i64 (2 * v), .int .i64 (2 * v + 1), .int .i64 (b.s), .int .i64 (b.e)] 41)) := (Below.refl _ _).alloc (Nat.le_refl _) _
          have HV := Lib.hid (HV.out.below hal)
          have hsrc : TSrc (((w7.setCell ⟨T, 0, none⟩ (.int .i64 (2 * v))).setCell ⟨T, 1, none⟩ (.int .i64 (2 * v + 1))).alloc (.cells #[.int .i64 (2 * v), .int .i64 (2 * v + 1), .int .i64 (b.s), .int .i64 (b.e)] 41)) (some ⟨((w7.setCell ⟨T, 0, none⟩ (.int .i64 (2 * v))).setCell ⟨T, 1, none⟩ (.int .i64 (2 * v + 1))).heap.size, 0, none⟩) 1 [(⟨2 * v, 2 * v + 1, b.s, b.e⟩ : Tx)] := .inr ⟨_, rfl, srcX_one (x := ⟨2 * v, 2 * v + 1, b.s, b.e⟩) (Str.new ((w7.setCell ⟨T, 0, none⟩ (.int .i64 (2 * v))).setCell ⟨T, 1, none⟩ (.int .i64 (2 * v + 1))) 41 #[.int .i64 (2 * v), .int .i64 (2 * v + 1), .int .i64 (b.s), .int .i64 (b.e)])⟩
          have Hsrc := Lib.hid hsrc; clear hsrc hal
          have hol : xs.length + 1 ≤ 1048577 := by have := Hlk.out; omega
          have hw9 : w.heap.size ≤ (((w7.setCell ⟨T, 0, none⟩ (.int .i64 (2 * v))).setCell ⟨T, 1, none⟩ (.int .i64 (2 * v + 1))).alloc (.cells #[.int .i64 (2 * v), .int .i64 (2 * v + 1), .int .i64 (b.s), .int .i64 (b.e)] 41)).heap.size := HV.out.gr.size
          go_wp2_with (at_builtin; refine wpList_app_X rfl (.tmp 34) (.tmp 36) rfl w.heap.size (.slice au xs.length cu) xs [(⟨2 * v, 2 * v + 1, b.s, b.e⟩ : Tx)] (some ⟨((w7.setCell ⟨T, 0, none⟩ (.int .i64 (2 * v))).setCell ⟨T, 1, none⟩ (.int .i64 (2 * v + 1))).heap.size, 0, none⟩) 1 rfl HV.out.own (by first | rfl | (simp; rfl)) Hsrc.out hol hw9 ?_; intro v9 w9 ho9 hg9 hat9)
          have HV := Lib.hid (HV.out.put ho9 hg9)
          clear ho9 hg9 hat9 b0 b1 b2 b3
          have Hl9 := Lib.hid (show (xs ++ [(⟨2 * v, 2 * v + 1, b.s, b.e⟩ : Tx)]).length = k + 1 by rw [List.length_append, Hlk.out]; rfl)
          generalize xs ++ [(⟨2 * v, 2 * v + 1, b.s, b.e⟩ : Tx)] = ys at *
          go_wp2
          go_roundw
          case rel => exact ⟨k + 1, _, ys, by omega, by go_num, by omega, Hl9.out, HV.out⟩
          case measure => simp [intOf]; omega
        have hcd : decide (0 < c) = false := decide_eq_false hc
        have b0 := SB.out.cell 0 (v := .int .i64 (b.f)) rfl
        have b1 := SB.out.cell 1 (v := .int .i64 (b.t)) rfl
        have b2 := SB.out.cell 2 (v := .int .i64 (b.s)) rfl
        have b3 := SB.out.cell 3 (v := .int .i64 (b.e)) rfl
        have hal : Below w6.heap.size w6 (w6.alloc (.cells #[.int .i64 (b.f), .int .i64 (b.t), .int .i64 (b.s), .int .i64 (b.e)] 41)) := (Below.refl _ _).alloc (Nat.le_refl _) _
        have HV := Lib.hid (HV.out.below hal)
        have hsrc : TSrc (w6.alloc (.cells #[.int .i64 (b.f), .int .i64 (b.t), .int .i64 (b.s), .int .i64 (b.e)] 41)) (some ⟨w6.heap.size, 0, none⟩) 1 [(⟨b.f, b.t, b.s, b.e⟩ : Tx)] := .inr ⟨_, rfl, srcX_one (x := ⟨b.f, b.t, b.s, b.e⟩) (Str.new w6 41 #[.int .i64 (b.f), .int .i64 (b.t), .int .i64 (b.s), .int .i64 (b.e)])⟩
        have Hsrc := Lib.hid hsrc; clear hsrc hal
        have hol : xs.length + 1 ≤ 1048577 := by have := Hlk.out; omega
        have hw9 : w.heap.size ≤ (w6.alloc (.cells #[.int .i64 (b.f), .int .i64 (b.t), .int .i64 (b.s), .int .i64 (b.e)] 41)).heap.size := HV.out.gr.size
        go_wp2_with (at_builtin; refine wpList_app_X rfl (.tmp 34) (.tmp 36) rfl w.heap.size (.slice au xs.length cu) xs [(⟨b.f, b.t, b.s, b.e⟩ : Tx)] (some ⟨w6.heap.size, 0, none⟩) 1 rfl HV.out.own (by first | rfl | (simp; rfl)) Hsrc.out hol hw9 ?_; intro v9 w9 ho9 hg9 hat9)
        have HV := Lib.hid (HV.out.put ho9 hg9)
        clear ho9 hg9 hat9 b0 b1 b2 b3
        have Hl9 := Lib.hid (show (xs ++ [(⟨b.f, b.t, b.s, b.e⟩ : Tx)]).length = k + 1 by rw [List.length_append, Hlk.out]; rfl)
        generalize xs ++ [(⟨b.f, b.t, b.s, b.e⟩ : Tx)] = ys at *
        go_wp2
        go_roundw
        case rel => exact ⟨k + 1, _, ys, by omega, by go_num, by omega, Hl9.out, HV.out⟩
        case measure => simp [intOf]; omega
      case neg =>
        have hlt' : decide ((k : Int) < 15 + z) = false := decide_eq_false hlt
        have hl17 : xs.length ≤ 17 := by have := Hlk.out; omega
        have Hl := Lib.hid hl17; clear hl17
        go_wp2
        exact Hfin.out _ _ _ _ HV.out Hl.out (by omega)
  have hyb : (y == 0) = false := by rw [beq_eq_false_iff_ne]; exact hy
  go_wp2
  go_loopw [3, 5] (fun u i wr => ∃ (k p' : Nat) (xs : List Tx), k ≤ 17 ∧ i = .int .i64 k ∧ p' ≤ p + 1 + 1 + 11 * k ∧ xs.length = k ∧ Txd 41 R w p' wr u xs) (fun _ i _ => 18 - (intOf i).toNat)
  case atStart => exact ⟨0, p + 1 + 1, X0, by omega, rfl, by omega, h00, HV.out⟩
  case round =>
    clear HV h00
    obtain ⟨k, p', xs, hk, rfl, hpk, hlk, hv⟩ := hrel
    obtain ⟨au, cu, rfl, hcu⟩ := hv.own.sl
    have HV := Lib.hid hv; clear hv
    have Hlk := Lib.hid hlk; clear hlk
    by_cases hlt : (k : Int) < q
    case pos =>
      have hk17 : k < 17 := by omega
      have hlt' : decide ((k : Int) < q) = true := decide_eq_true hlt
      have hRw := HV.out.gr.size
      go_wp2_with fail
      refine (drawTxn R p' _ (by omega) HV.out.rd (by have := HV.out.hR; omega)).mono ?_
      rintro e w4 ⟨b, p4, rfl, _, hr', hp4, hg'⟩
      have HV := Lib.hid (HV.out.picked hg' hr')
      have hs4 := hg'.size
      clear hr' hg'
      unfold agT
      have hal : Below w4.heap.size w4 (w4.alloc (.cells #[.int .i64 b.f, .int .i64 b.t, .int .i64 b.s, .int .i64 b.e] 41)) := (Below.refl _ _).alloc (Nat.le_refl _) _
      have SB := Lib.hid (Str.new w4 41 #[.int .i64 b.f, .int .i64 b.t, .int .i64 b.s, .int .i64 b.e])
      have HN := Lib.hid (show ∀ g, (Value.slice au xs.length cu).ownBlock = some g → g ≠ w4.heap.size from fun g e => by have := (OwnN.lt HV.out.own g e).2; omega)
      have HT := Lib.hid (show R ≠ w4.heap.size ∧ w.heap.size ≤ w4.heap.size from ⟨by have := HV.out.hR; omega, by omega⟩)
      have HV := Lib.hid (HV.out.below hal)
      have hzT : w4.heap.size < (w4.alloc (.cells #[.int .i64 b.f, .int .i64 b.t, .int .i64 b.s, .int .i64 b.e] 41)).heap.size := by simp
      clear hal
      go_wp2_with fail
      generalize (w4.alloc (.cells #[.int .i64 b.f, .int .i64 b.t, .int .i64 b.s, .int .i64 b.e] 41)) = W5 at *
      obtain ⟨T, hT⟩ : ∃ T, T = w4.heap.size := ⟨_, rfl⟩
      rw [← hT] at SB HN HT hzT hs4
      rw [← hT]
      clear hT
      refine (pick_any R 3 (p4) _ (by omega) HV.out.rd (by omega)).mono ?_
      rintro e w6 ⟨c, rfl, hc0, hc1, hr', hg'⟩
      have HV := Lib.hid (HV.out.picked hg' hr')
      have hsw6 := hg'.size
      have SB := Lib.hid (SB.out.kept hg' (by simp; exact Ne.symm HT.out.1))
      clear hr' hg'
      by_cases hc : 0 < c
      case pos =>
        have hcd : decide (0 < c) = true := decide_eq_true hc
        go_wp2_with fail
        refine (pick_any R 3 (p4 + 1) _ (by omega) HV.out.rd (by omega)).mono ?_
        rintro e w7 ⟨v, rfl, hv0, hv1, hr', hg'⟩
        have HV := Lib.hid (HV.out.picked hg' hr')
        have hsw7 := hg'.size
        have SB := Lib.hid (SB.out.kept hg' (by simp; exact Ne.symm HT.out.1))
        clear hr' hg'
        have m1 : IntKind.i64.wrap (2 * v) = 2 * v := IntWalk.i64_in _ (by omega)
        have m2 : IntKind.i64.wrap (2 * v + 1) = 2 * v + 1 := IntWalk.i64_in _ (by omega)
        have y0 := SB.out.frozen 0
        have y1 := SB.out.frozen 1
        have z0 := SB.out.cell 0 (v := .int .i64 b.f) rfl
        have z1 := SB.out.cell 1 (v := .int .i64 b.t) rfl
        have hV9 := (HV.out.cell HT.out.2 HN.out 0 (.int .i64 (2 * v))).cell HT.out.2 HN.out 1 (.int .i64 (2 * v + 1))
        have hS8 := SB.out.set 0 (.int .i64 (2 * v))
        have z2 := hS8.cell 0 (v := .int .i64 (2 * v)) rfl
        have hS9 := hS8.set 1 (.int .i64 (2 * v + 1))
        have HV := Lib.hid hV9; have SB := Lib.hid hS9; clear hV9 hS8 hS9
        have b0 := SB.out.cell 0 (v := .int .i64 (2 * v)) rfl
        have b1 := SB.out.cell 1 (v := .int .i64 (2 * v + 1)) rfl
        have b2 := SB.out.cell 2 (v := .int .i64 (b.s)) rfl
        have b3 := SB.out.cell 3 (v := .int .i64 (b.e)) rfl
        have hal : Below ((w7.setCell ⟨T, 0, none⟩ (.int .i64 (2 * v))).setCell ⟨T, 1, none⟩ (.int .i64 (2 * v + 1))).heap.size ((w7.setCell ⟨T, 0, none⟩ (.int .i64 (2 * v))).setCell ⟨T, 1, none⟩ (.int .i64 (2 * v + 1))) (((w7.setCell ⟨T, 0, none⟩ (.int .i64 (2 * v))).setCell ⟨T, 1, none⟩ (.int .i64 (2 * v + 1))).alloc (.cells #[.int .i64 (2 * v), .int .i64 (2 * v + 1), .int .i64 (b.s), .int .i64 (b.e)] 41)) := (Below.refl _ _).alloc (Nat.le_refl _) _
        have HV := Lib.hid (HV.out.below hal)
        have hsrc : TSrc (((w7.setCell ⟨T, 0, none⟩ (.int .i64 (2 * v))).setCell ⟨T, 1, none⟩ (.int .i64 (2 * v + 1))).alloc (.cells #[.int .i64 (2 * v), .int .i64 (2 * v + 1), .int .i64 (b.s), .int .i64 (b.e)] 41)) (some ⟨((w7.setCell ⟨T, 0, none⟩ (.int .i64 (2 * v))).setCell ⟨T, 1, none⟩ (.int .i64 (2 * v + 1))).heap.size, 0, none⟩) 1 [(⟨2 * v, 2 * v + 1, b.s, b.e⟩ : Tx)] := .inr ⟨_, rfl, srcX_one (x := ⟨2 * v, 2 * v + 1, b.s, b.e⟩) (Str.new ((w7.setCell ⟨T, 0, none⟩ (.int .i64 (2 * v))).setCell ⟨T, 1, none⟩ (.int .i64 (2 * v + 1))) 41 #[.int .i64 (2 * v), .int .i64 (2 * v + 1), .int .i64 (b.s), .int .i64 (b.e)])⟩
        have Hsrc := Lib.hid hsrc; clear hsrc hal
        have hol : xs.length + 1 ≤ 1048577 := by have := Hlk.out; omega
        have hw9 : w.heap.size ≤ (((w7.setCell ⟨T, 0, none⟩ (.int .i64 (2 * v))).setCell ⟨T, 1, none⟩ (.int .i64 (2 * v + 1))).alloc (.cells #[.int .i64 (2 * v), .int .i64 (2 * v + 1), .int .i64 (b.s), .int .i64 (b.e)] 41)).heap.size := HV.out.gr.size
        go_wp2_with (at_builtin; refine wpList_app_X rfl (.tmp 34) (.tmp 36) rfl w.heap.size (.slice au xs.length cu) xs [(⟨2 * v, 2 * v + 1, b.s, b.e⟩ : Tx)] (some ⟨((w7.setCell ⟨T, 0, none⟩ (.int .i64 (2 * v))).setCell ⟨T, 1, none⟩ (.int .i64 (2 * v + 1))).heap.size, 0, none⟩) 1 rfl HV.out.own (by first | rfl | (simp; rfl)) Hsrc.out hol hw9 ?_; intro v9 w9 ho9 hg9 hat9)
        have HV := Lib.hid (HV.out.put ho9 hg9)
        clear ho9 hg9 hat9 b0 b1 b2 b3
        have Hl9 := Lib.hid (show (xs ++ [(⟨2 * v, 2 * v + 1, b.s, b.e⟩ : Tx)]).length = k + 1 by rw [List.length_append, Hlk.out]; rfl)
        generalize xs ++ [(⟨2 * v, 2 * v + 1, b.s, b.e⟩ : Tx)] = ys at *
        go_wp2
        go_roundw
        case rel => exact ⟨k + 1, _, ys, by omega, by go_num, by omega, Hl9.out, HV.out⟩
        case measure => simp [intOf]; omega
      have hcd : decide (0 < c) = false := decide_eq_false hc
      have b0 := SB.out.cell 0 (v := .int .i64 (b.f)) rfl
      have b1 := SB.out.cell 1 (v := .int .i64 (b.t)) rfl
      have b2 := SB.out.cell 2 (v := .int .i64 (b.s)) rfl
      have b3 := SB.out.cell 3 (v := .int .i64 (b.e)) rfl
      have hal : Below w6.heap.size w6 (w6.alloc (.cells #[.int .i64 (b.f), .int .i64 (b.t), .int .i64 (b.s), .int .i64 (b.e)] 41)) := (Below.refl _ _).alloc (Nat.le_refl _) _
      have HV := Lib.hid (HV.out.below hal)
      have hsrc : TSrc (w6.alloc (.cells #[.int .i64 (b.f), .int .i64 (b.t), .int .i64 (b.s), .int .i64 (b.e)] 41)) (some ⟨w6.heap.size, 0, none⟩) 1 [(⟨b.f, b.t, b.s, b.e⟩ : Tx)] := .inr ⟨_, rfl, srcX_one (x := ⟨b.f, b.t, b.s, b.e⟩) (Str.new w6 41 #[.int .i64 (b.f), .int .i64 (b.t), .int .i64 (b.s), .int .i64 (b.e)])⟩
      have Hsrc := Lib.hid hsrc; clear hsrc hal
      have hol : xs.length + 1 ≤ 1048577 := by have := Hlk.out; omega
      have hw9 : w.heap.size ≤ (w6.alloc (.cells #[.int .i64 (b.f), .int .i64 (b.t), .int .i64 (b.s), .int .i64 (b.e)] 41)).heap.size := HV.out.gr.size
      go_wp2_with (at_builtin; refine wpList_app_X rfl (.tmp 34) (.tmp 36) rfl w.heap.size (.slice au xs.length cu) xs [(⟨b.f, b.t, b.s, b.e⟩ : Tx)] (some ⟨w6.heap.size, 0, none⟩) 1 rfl HV.out.own (by first | rfl | (simp; rfl)) Hsrc.out hol hw9 ?_; intro v9 w9 ho9 hg9 hat9)
      have HV := Lib.hid (HV.out.put ho9 hg9)
      clear ho9 hg9 hat9 b0 b1 b2 b3
      have Hl9 := Lib.hid (show (xs ++ [(⟨b.f, b.t, b.s, b.e⟩ : Tx)]).length = k + 1 by rw [List.length_append, Hlk.out]; rfl)
      generalize xs ++ [(⟨b.f, b.t, b.s, b.e⟩ : Tx)] = ys at *
      go_wp2
      go_roundw
      case rel => exact ⟨k + 1, _, ys, by omega, by go_num, by omega, Hl9.out, HV.out⟩
      case measure => simp [intOf]; omega
    case neg =>
      have hlt' : decide ((k : Int) < q) = false := decide_eq_false hlt
      have hl17 : xs.length ≤ 17 := by have := Hlk.out; omega
      have Hl := Lib.hid hl17; clear hl17
      go_wp2
      exact Hfin.out _ _ _ _ HV.out Hl.out (by omega)

/-- What is drawn: a ledger and transactions. -/
def LrD (E TX : TypeId) (w : World) (e : Ending) (w' : World) : Prop := ∃ (l : List Int) (n : Int) (u : Value) (xs : List Tx) (v : Value), e = .returned (.tuple #[.agg #[u, .int .i64 n], v]) ∧ Own E w' w.heap.size u l ∧ OwnX TX w' w.heap.size v xs ∧ l.length ≤ 6 ∧ xs.length ≤ 17 ∧ Below w.heap.size w w'
set_option maxHeartbeats 2000000 in
theorem spec_DrawLedgerRun (a : Option Addr) (cap : Nat) (zs : List Int) (w : World) (h : CodeAt w a cap zs) :
    Calls Try.prog 8 #[.slice a zs.length cap] w (LrD 3 41 w) := by
  have hpost : ∀ (l : List Int) (n : Int) (u : Value) (xs : List Tx) (v : Value) (w' : World), Own 3 w' w.heap.size u l → OwnX 41 w' w.heap.size v xs → l.length ≤ 6 → xs.length ≤ 17 → Below w.heap.size w w' → LrD 3 41 w (.returned (.tuple #[.agg #[u, .int .i64 n], v])) w' := fun l n u xs v w' h1 h2 h3 h4 h5 => ⟨l, n, u, xs, v, rfl, h1, h2, h3, h4, h5⟩
  have Hpost := Lib.hid hpost; clear hpost
  generalize LrD 3 41 w = POST at *
  have hb0 : Below w.heap.size w (w.alloc (.cells #[.slice none 0 0, .int .i64 0] 25)) := (Below.refl _ _).alloc (Nat.le_refl _) _
  have sa := Str.new w 25 #[.slice none 0 0, .int .i64 0]
  have hz0 : (w.alloc (.cells #[.slice none 0 0, .int .i64 0] 25)).heap.size = w.heap.size + 1 := by simp
  have Hz0 := Lib.hid hz0; clear hz0
  have Hb0 := Lib.hid hb0; have SA := Lib.hid sa
  have hcode := h.below hb0
  have Hc := Lib.hid hcode
  clear hb0 sa hcode h
  go_enter Try.func8, Try.ntmps8
  go_wp2_with fail
  generalize (w.alloc (.cells #[.slice none 0 0, .int .i64 0] 25)) = W0 at *
  refine (open_any a cap zs _ Hc.out).mono ?_
  rintro e w1 ⟨R, rfl, hR1, hR2, hr1, hb1⟩
  have hRs : w.heap.size + 1 ≤ R := by have := Hz0.out; omega
  have hz1 := hb1.size
  have SA := Lib.hid (show Str w1 w.heap.size 25 #[.slice none 0 0, .int .i64 0] from (hb1.block _ SA.out.lt).trans SA.out)
  have Hb1 := Lib.hid (below_step Hb0.out Hb0.out.size hb1)
  have Hr1 := Lib.hid hr1
  clear hb1 hr1
  go_wp2_with fail
  refine (drawLedger R 0 _ (by omega) Hr1.out hR2).mono ?_
  rintro e w2 ⟨l, n, u, p2, rfl, ho, hnx, hl6, hr2, hp2, hg2⟩
  have hs2 := hg2.size
  obtain ⟨au, cu, rfl, _, _⟩ := ho.ints
  have hal : Below w2.heap.size w2 (w2.alloc (.cells #[.slice au l.length cu, .int .i64 n] 25)) := (Below.refl _ _).alloc (Nat.le_refl _) _
  have HV := Lib.hid (show Ldw 25 3 R w w.heap.size w2.heap.size n p2 (w2.alloc (.cells #[.slice au l.length cu, .int .i64 n] 25)) (.slice au l.length cu) l from ⟨(SA.out.kept hg2 (by simp; omega)).alloc _, Str.new w2 25 _, (ho.below hal).mono (by omega), (fun g e => by have := ho.lt g e; omega), hr2.alloc _, (Hb1.out.grown hg2 Hb1.out.size (fun g e => by cases e; omega)).alloc (by omega) _, by omega, by omega, by omega⟩)
  have hXs : w2.heap.size < (w2.alloc (.cells #[.slice au l.length cu, .int .i64 n] 25)).heap.size := by simp
  clear hal ho hr2 hg2 SA Hb0 Hb1 Hr1 hnx
  have x0 := HV.out.sx.cell 0 (v := .slice au l.length cu) rfl
  have x1 := HV.out.sx.cell 1 (v := .int .i64 n) rfl
  go_wp2_with fail
  generalize (w2.alloc (.cells #[.slice au l.length cu, .int .i64 n] 25)) = w3 at *
  generalize w2.heap.size = X at *
  have hXR : R < X := by omega
  refine wp_region_held_drew (S := fun W => W.cell? ⟨X, 0, none⟩ = some (.slice au l.length cu) ∧ W.cell? ⟨X, 1, none⟩ = some (.int .i64 n)) (by kernel_rfl) ⟨x0, x1⟩ (fun hH => ?_)
  have HV := Lib.hid HV.out.drew
  have hXs : X < w3.drew.heap.size := hXs
  clear x0 x1
  generalize w3.drew = wd at *
  refine takeH 0 (v := ?vdr1) rfl (by kernel_rfl) (by kernel_rfl) (by kernel_rfl) (fun _ _ _ h => h) hH rfl ?ydr1 ?rdr1
  case ydr1 => intro W hSw; go_simp; try with_reducible rfl
  try simp only [Act.put, List.setIfInBounds_toArray, List.set_cons_zero, List.set_cons_succ]
  refine takeH 1 (v := ?vdr2) rfl (by kernel_rfl) (by kernel_rfl) (by kernel_rfl) (fun _ _ _ h => h) hH rfl ?ydr2 ?rdr2
  case ydr2 => intro W hSw; go_simp; try with_reducible rfl
  try simp only [Act.put, List.setIfInBounds_toArray, List.set_cons_zero, List.set_cons_succ]
  refine callH 2 rfl (by kernel_rfl) rfl (fun K hK => ?_)
  go_simp
  go_at_call 30
  refine (drawTxns R p2 _ (by omega) HV.out.rd (by have := HV.out.sx.lt; omega)).mono ?_
  rintro e w4 ⟨xs, v, p4, rfl, hox, hx17, hr', hp4, hg'⟩
  obtain ⟨vx, cx, rfl, _⟩ := hox.sl
  have hsd := HV.out.sx.lt
  have HX := Lib.hid (OwnN.mono hox (show w.heap.size ≤ _ by omega))
  have hxl : ∀ g, (Value.slice vx xs.length cx).ownBlock = some g → g ≠ w.heap.size := fun g e => by have := (OwnN.lt hox g e).1; omega
  have Hxl := Lib.hid hxl; clear hxl hox
  have HV := Lib.hid (HV.out.picked hg' hr')
  clear hr' hg'
  refine hK.out _ _ ⟨HV.out.sx.cell 0 rfl, HV.out.sx.cell 1 rfl⟩ (fun hH => ?_)
  clear hK K
  try simp only [Act.put, List.setIfInBounds_toArray, List.set_cons_zero, List.set_cons_succ]
  obtain ⟨sa9, sx9, ho9, hb9⟩ := HV.out.res
  have Hsa := Lib.hid sa9; have Hsx := Lib.hid sx9; have Ho9 := Lib.hid ho9; have Hb9 := Lib.hid hb9
  clear sa9 sx9 ho9 hb9
  have HX := Lib.hid (OwnX.setc (OwnX.setc HX.out Hxl.out 0 (.slice au l.length cu)) Hxl.out 1 (.int .i64 n))
  refine callH 3 rfl (by kernel_rfl) rfl (fun K hK => ?_)
  have y0 := HV.out.sa.frozen 0
  have y1 := HV.out.sa.frozen 1
  have a0 := HV.out.sa.cell 0 (v := .slice none 0 0) rfl
  have a1 := HV.out.sa.cell 1 (v := .int .i64 0) rfl
  go_simp
  clear y0 y1 a0 a1
  refine hK.out _ _ ⟨Hsx.out.cell 0 rfl, Hsx.out.cell 1 rfl⟩ (fun hH => ?_)
  clear hK K
  try simp only [Act.put, List.setIfInBounds_toArray, List.set_cons_zero, List.set_cons_succ]
  generalize ((w4.setCell ⟨w.heap.size, 0, none⟩ (.slice au l.length cu)).setCell ⟨w.heap.size, 1, none⟩ (.int .i64 n)) = we at *
  refine takeH 4 (v := ?vdr3) rfl (by kernel_rfl) (by kernel_rfl) (by kernel_rfl) (fun _ _ _ h => h) hH rfl ?ydr3 ?rdr3
  case ydr3 => intro W hSw; go_simp; try with_reducible rfl
  try simp only [Act.put, List.setIfInBounds_toArray, List.set_cons_zero, List.set_cons_succ]
  refine wpAnyH_done (by kernel_rfl) ?_ _
  try simp only [Act.put]
  clear hH
  have e0 := Hsa.out.cell 0 (v := .slice au l.length cu) rfl
  have e1 := Hsa.out.cell 1 (v := .int .i64 n) rfl
  go_wp2
  refine bodyPost_ret (v := .tuple #[.agg #[.slice au l.length cu, .int .i64 n], .slice vx xs.length cx]) (by simp [results, Try.f8, go_sem, e0, e1]) rfl ?_
  exact Hpost.out _ _ _ _ _ _ Ho9.out HX.out hl6 hx17 Hb9.out

end Go.Proofs.Ytfnhafgjdnlhiaa

/- The reference's test of a ledger with space for fees, by a walk of its text; conditions: the list is shorter than 2^40, at most a hundred transactions. -/
namespace Go.Proofs.Ytfnhafgjdnlhiaa
open Go.RowKit

def roomB (l : List Int) (n m : Int) : Bool := ldB l n && decide (n ≤ 5994 - 9 * m)
set_option maxHeartbeats 1000000 in
theorem spec_l31Room (a : Option Addr) (cap : Nat) (l : List Int) (n m : Int) (w : World) (hbig : l.length ≤ 1099511627776) (hl : IntsAt w a l) (hm : 0 ≤ m ∧ m ≤ 100) :
    Calls Try.prog 34 #[.agg #[.slice a l.length cap, .int .i64 n], .int .i64 m] w fun e w' => e = .returned (.bool (roomB l n m)) ∧ Below w.heap.size w w' := by
  have hb0 : Below w.heap.size w (w.alloc (.cells #[.slice a l.length cap, .int .i64 n] 25)) := (Below.refl _ _).alloc (Nat.le_refl _) _
  have s0 := Str.new w 25 #[.slice a l.length cap, .int .i64 n]
  have k0 := s0.cell 0 (v := .slice a l.length cap) rfl
  have k1 := s0.cell 1 (v := .int .i64 n) rfl
  have Hl := Lib.hid (hl.below hb0); clear hl
  have Hb0 := Lib.hid hb0; clear hb0
  have Hs := Lib.hid s0; clear s0
  have HV := Lib.hid (fun W (h : IntsAt W a l) => spec_LedgerValid a cap l n W hbig h)
  have Hres := Lib.hid (show roomB l n m = (ldB l n && decide (n ≤ 5994 - 9 * m)) from rfl)
  have hw1 : IntKind.i64.wrap (9 * m) = 9 * m := IntWalk.i64_in _ (by omega)
  have hw2 : IntKind.i64.wrap (5994 - 9 * m) = 5994 - 9 * m := IntWalk.i64_in _ (by omega)
  generalize ldB l n = B at *
  go_enter Try.func34, Try.ntmps34
  go_wp2_with fail
  generalize w.alloc (.cells #[.slice a l.length cap, .int .i64 n] 25) = W0 at *
  refine (HV.out W0 Hl.out).mono ?_
  rintro e w1 ⟨rfl, hb1⟩
  have Hb1 := Lib.hid (below_step Hb0.out Hb0.out.size hb1)
  have Hs1 := Lib.hid (show Str w1 w.heap.size 25 #[.slice a l.length cap, .int .i64 n] from (hb1.block _ Hs.out.lt).trans Hs.out)
  clear hb1 k0 k1
  cases B with
  | false =>
    go_wp2
    go_ret
    exact ⟨ret_bool (by rw [Hres.out]; rfl), Hb1.out⟩
  | true =>
  have k1 := Hs1.out.cell 1 (v := .int .i64 n) rfl
  go_wp2
  go_ret
  exact ⟨ret_bool (by rw [Hres.out]; rfl), Hb1.out⟩

end Go.Proofs.Ytfnhafgjdnlhiaa

/- The reference's copy of a ledger, by a walk of its text; condition: the list has at most 2^20 numbers. -/
namespace Go.Proofs.Ytfnhafgjdnlhiaa
open Go.RowKit

theorem TIl : IntT Try.prog 23 3 := ⟨Try.underlying23, by kernel_rfl⟩
set_option maxHeartbeats 2000000 in
theorem spec_l31Copy (a : Option Addr) (cap : Nat) (l : List Int) (n : Int) (w : World) (hbig : l.length ≤ 1048576) (hi : IntsAt w a l) (hsrc : SrcAt w a cap l) :
    Calls Try.prog 54 #[.agg #[.slice a l.length cap, .int .i64 n]] w fun e w' => ∃ v, e = .returned (.agg #[v, .int .i64 n]) ∧ Own 3 w' w.heap.size v l ∧ Below w.heap.size w w' := by
  have hb0 : Below w.heap.size w ((w.alloc (.cells #[.slice a l.length cap, .int .i64 n] 25)).alloc (.cells #[.slice none 0 0, .int .i64 0] 25)) := ((Below.refl _ _).alloc (Nat.le_refl _) _).alloc (by simp) _
  have hsrc0 := hsrc.lies hi hb0
  have hi0 := hi.below hb0
  have s1 := (Str.new w 25 #[.slice a l.length cap, .int .i64 n]).alloc (.cells #[.slice none 0 0, .int .i64 0] 25)
  have s2 := Str.new (w.alloc (.cells #[.slice a l.length cap, .int .i64 n] 25)) 25 #[.slice none 0 0, .int .i64 0]
  simp only [World.size_alloc] at s2
  have hz : ((w.alloc (.cells #[.slice a l.length cap, .int .i64 n] 25)).alloc (.cells #[.slice none 0 0, .int .i64 0] 25)).heap.size = w.heap.size + 2 := by simp
  have Hi := Lib.hid hi0; have Hsrc := Lib.hid hsrc0; have Hb := Lib.hid hb0; have S1 := Lib.hid s1; have S2 := Lib.hid s2; clear hi0 hsrc0 hb0 s1 s2 hi hsrc
  go_enter Try.func54, Try.ntmps54
  have k0 := S1.out.cell 0 (v := .slice a l.length cap) rfl
  have k1 := S1.out.cell 1 (v := .int .i64 n) rfl
  go_wp2_with fail
  generalize ((w.alloc (.cells #[.slice a l.length cap, .int .i64 n] 25)).alloc (.cells #[.slice none 0 0, .int .i64 0] 25)) = W0 at *
  clear k0 k1
  refine wp_region_held_drew (S := fun w' => w'.cell? ⟨w.heap.size, 0, none⟩ = some (.slice a l.length cap) ∧ w'.cell? ⟨w.heap.size, 1, none⟩ = some (.int .i64 n)) (by kernel_rfl) ⟨S1.out.cell 0 (v := .slice a l.length cap) rfl, S1.out.cell 1 (v := .int .i64 n) rfl⟩ (fun hH => ?_)
  have hdr : Below W0.heap.size W0 W0.drew := (Below.refl _ _).drew
  have Hsrc := Lib.hid (Hsrc.out.lies Hi.out hdr)
  have Hi := Lib.hid (Hi.out.below hdr)
  have S1 := Lib.hid (show Str W0.drew (w.heap.size) 25 #[.slice a l.length cap, .int .i64 n] from (hdr.block _ S1.out.lt).trans S1.out)
  have S2 := Lib.hid (show Str W0.drew (w.heap.size + 1) 25 #[.slice none 0 0, .int .i64 0] from (hdr.block _ S2.out.lt).trans S2.out)
  have hsx := hdr.size
  have Hb := Lib.hid (below_step Hb.out Hb.out.size hdr)
  clear hdr
  generalize W0.drew = wd at *
  refine takeH 1 (v := ?vlc1) rfl (by kernel_rfl) (by kernel_rfl) (by kernel_rfl) (fun _ _ _ h => h) hH rfl ?ylc1 ?rlc1
  case ylc1 => intro W hSw; go_simp; try with_reducible rfl
  try simp only [Act.put, List.setIfInBounds_toArray, List.set_cons_zero, List.set_cons_succ]
  refine takeH 2 (v := ?vlc2) rfl (by kernel_rfl) (by kernel_rfl) (by kernel_rfl) (fun _ _ _ h => h) hH rfl ?ylc2 ?rlc2
  case ylc2 => intro W hSw; go_simp; try with_reducible rfl
  try simp only [Act.put, List.setIfInBounds_toArray, List.set_cons_zero, List.set_cons_succ]
  refine takeH 4 (v := ?vlc3) rfl (by kernel_rfl) (by kernel_rfl) (by kernel_rfl) (fun _ _ _ h => h) hH rfl ?ylc3 ?rlc3
  case ylc3 => intro W hSw; go_simp; try with_reducible rfl
  try simp only [Act.put, List.setIfInBounds_toArray, List.set_cons_zero, List.set_cons_succ]
  refine takeH 5 (v := ?vlc4) rfl (by kernel_rfl) (by kernel_rfl) (by kernel_rfl) (fun _ _ _ h => h) hH rfl ?ylc4 ?rlc4
  case ylc4 => intro W hSw; go_simp; try with_reducible rfl
  try simp only [Act.put, List.setIfInBounds_toArray, List.set_cons_zero, List.set_cons_succ]
  refine callH 0 rfl (by kernel_rfl) rfl (fun K hK => ?_)
  go_simp
  have hal : Below wd.heap.size wd (wd.alloc (.cells #[] 3)) := (Below.refl _ _).alloc (Nat.le_refl _) _
  have oM := own_empty 3 wd (Nat.le_refl _)
  have OM := Lib.hid oM; clear oM
  have hzw : wd.heap.size < (wd.alloc (.cells #[] 3)).heap.size := by simp
  have Hsrc := Lib.hid (Hsrc.out.lies Hi.out hal)
  have Hi := Lib.hid (Hi.out.below hal)
  have S1 := Lib.hid (show Str (wd.alloc (.cells #[] 3)) (w.heap.size) 25 #[.slice a l.length cap, .int .i64 n] from (hal.block _ S1.out.lt).trans S1.out)
  have S2 := Lib.hid (show Str (wd.alloc (.cells #[] 3)) (w.heap.size + 1) 25 #[.slice none 0 0, .int .i64 0] from (hal.block _ S2.out.lt).trans S2.out)
  have hsx := hal.size
  have Hb := Lib.hid (below_step Hb.out Hb.out.size hal)
  refine hK.out _ _ ⟨S1.out.cell 0 (v := .slice a l.length cap) rfl, S1.out.cell 1 (v := .int .i64 n) rfl⟩ (fun hH => ?_)
  clear hK K hal
  try simp only [Act.put, List.setIfInBounds_toArray, List.set_cons_zero, List.set_cons_succ]
  generalize wd.alloc (.cells #[] 3) = w2 at *
  generalize hNB : wd.heap.size = NB at *
  refine callH 3 rfl (by kernel_rfl) rfl (fun K hK => ?_)
  refine op_appI TIl _ _ rfl NB (Value.slice (some ⟨NB, 0, none⟩) 0 0) [] l a cap rfl OM.out rfl Hsrc.out (by simp; omega) (by omega) (fun u w3 ho9 hg9 => ?_)
  rw [List.nil_append] at ho9
  obtain ⟨ua, uc, rfl, _, _⟩ := ho9.ints
  have hs3 := hg9.size
  have hlt9 : ∀ q, (Value.slice (some ⟨NB, 0, none⟩) 0 0).ownBlock = some q → NB ≤ q := fun q e => (OM.out.lt q e).1
  have S1 := Lib.hid (show Str w3 (w.heap.size) 25 #[.slice a l.length cap, .int .i64 n] from S1.out.kept hg9 (fun e => by have := hlt9 _ e.symm; omega))
  have S2 := Lib.hid (show Str w3 (w.heap.size + 1) 25 #[.slice none 0 0, .int .i64 0] from S2.out.kept hg9 (fun e => by have := hlt9 _ e.symm; omega))
  have Hb := Lib.hid (Hb.out.grown hg9 Hb.out.size (fun q e => by have := hlt9 q e; omega))
  have OL := Lib.hid ho9
  clear ho9 hg9 hlt9 OM Hi Hsrc
  refine hK.out _ _ ⟨S1.out.cell 0 (v := .slice a l.length cap) rfl, S1.out.cell 1 (v := .int .i64 n) rfl⟩ (fun hH => ?_)
  clear hK K
  try simp only [Act.put, List.setIfInBounds_toArray, List.set_cons_zero, List.set_cons_succ]
  refine takeH 6 (v := ?vlc5) rfl (by kernel_rfl) (by kernel_rfl) (by kernel_rfl) (fun _ _ _ h => h) hH rfl ?ylc5 ?rlc5
  case ylc5 => intro W hSw; go_simp; try with_reducible rfl
  try simp only [Act.put, List.setIfInBounds_toArray, List.set_cons_zero, List.set_cons_succ]
  refine callH 7 rfl (by kernel_rfl) rfl (fun K hK => ?_)
  have y0 := S2.out.frozen 0
  have y1 := S2.out.frozen 1
  have v0 := S2.out.cell 0 (v := .slice none 0 0) rfl
  have v1 := S2.out.cell 1 (v := .int .i64 0) rfl
  go_simp
  clear y0 y1 v0 v1
  have hne : (Value.slice ua l.length uc).ownBlock ≠ some (w.heap.size + 1) := fun e => by have := (OL.out.lt _ e).1; omega
  have sF := (S2.out.set 0 (.slice ua l.length uc)).set 1 (.int .i64 n)
  have SF := Lib.hid sF; clear sF
  have S1 := Lib.hid ((S1.out.other (B' := w.heap.size + 1) (by omega) 0 (.slice ua l.length uc)).other (B' := w.heap.size + 1) (by omega) 1 (.int .i64 n))
  have OL := Lib.hid ((OL.out.set_other hne 0 (.slice ua l.length uc)).set_other hne 1 (.int .i64 n))
  have Hb := Lib.hid ((Hb.out.setCell (p := ⟨w.heap.size + 1, 0, none⟩) (by simp only; omega) (.slice ua l.length uc)).setCell (p := ⟨w.heap.size + 1, 1, none⟩) (by simp only; omega) (.int .i64 n))
  refine hK.out _ _ ⟨S1.out.cell 0 rfl, S1.out.cell 1 rfl⟩ (fun hH => ?_)
  clear hK K hne
  try simp only [Act.put, List.setIfInBounds_toArray, List.set_cons_zero, List.set_cons_succ]
  generalize ((w3.setCell ⟨w.heap.size + 1, 0, none⟩ (.slice ua l.length uc)).setCell ⟨w.heap.size + 1, 1, none⟩ (.int .i64 n)) = we at *
  refine wpAnyH_done (by kernel_rfl) ?_ _
  try simp only [Act.put]
  clear hH
  have e0 := SF.out.cell 0 (v := .slice ua l.length uc) rfl
  have e1 := SF.out.cell 1 (v := .int .i64 n) rfl
  go_wp2
  refine bodyPost_ret (v := .agg #[.slice ua l.length uc, .int .i64 n]) (by simp [results, Try.f54, go_sem, e0, e1]) rfl ?_
  exact ⟨_, rfl, OL.out.mono (by omega), Hb.out⟩

end Go.Proofs.Ytfnhafgjdnlhiaa
