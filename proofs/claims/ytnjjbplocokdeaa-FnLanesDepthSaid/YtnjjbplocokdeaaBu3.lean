/- Texts that the laws of this folder share, one behind another; no conditions. -/
import Derived.Test.YtnjjbplocokdeaaRows
import Derived.Test.YtnjjbplocokdeaaBu2
import Derived.Test.YtnjjbplocokdeaaBu0
import Derived.Deep.QuietTactic
import Derived.BigQuiet

/- The program's lanes of a list of transactions, by a walk of its text; condition: the list is shorter than 2^40. -/
namespace Go.Proofs.Ytnjjbplocokdeaa
open Go.RowKit

def z6 : List Int := [0, 0, 0, 0, 0, 0]
/-- Six pointers. -/
def o6 (f : Nat → Value) : Array Value := #[f 0, f 1, f 2, f 3, f 4, f 5]
theorem o6_at (f : Nat → Value) {i : Nat} (h : i < 6) : (o6 f)[i]? = some (f i) := by
  match i, h with
  | 0, _ => rfl
  | 1, _ => rfl
  | 2, _ => rfl
  | 3, _ => rfl
  | 4, _ => rfl
  | 5, _ => rfl
def upF (f : Nat → Value) (g : Nat) (v : Value) : Nat → Value := fun k => if k = g then v else f k
theorem o6_set (f : Nat → Value) {i : Nat} (h : i < 6) (v : Value) : (o6 f).setIfInBounds i v = o6 (upF f i v) := by
  match i, h with
  | 0, _ => rfl
  | 1, _ => rfl
  | 2, _ => rfl
  | 3, _ => rfl
  | 4, _ => rfl
  | 5, _ => rfl
/-- The lanes by the numbers of their groups. -/
def Ixs (xs : List Tx) (i : Nat) (f : Nat → Value) (bs : List Nat) : Prop := bs.length = (rtS xs i).length ∧ ∀ g, g < 6 →
  (f g = .pointer none ∧ ∀ p, p < bs.length → gf xs ((rtS xs i).getD p 0) ≠ (g : Int)) ∨ ∃ p, p < bs.length ∧ f g = ptC (bs.getD p 0) ∧ gf xs ((rtS xs i).getD p 0) = (g : Int)
theorem getD_lt {l : List Nat} {p : Nat} (h : p < l.length) : l.getD p 0 = l[p] := by simp [List.getD, h]
theorem ixs_zero (xs : List Tx) : Ixs xs 0 (fun _ => .pointer none) [] := ⟨rfl, fun _ _ => .inl ⟨rfl, fun _ h => by simp at h⟩⟩
theorem ixs_old {xs : List Tx} {i : Nat} {f : Nat → Value} {bs : List Nat} (h : Ixs xs i f bs) (e : rtS xs (i + 1) = rtS xs i) : Ixs xs (i + 1) f bs := by unfold Ixs; rw [e]; exact h
theorem ixs_new {xs : List Tx} {i : Nat} {f : Nat → Value} {bs : List Nat} (h : Ixs xs i f bs) (e : rtS xs (i + 1) = rtS xs i ++ [i]) {g : Nat} (hg : gf xs i = (g : Int)) (hn : ∀ p, p < bs.length → gf xs ((rtS xs i).getD p 0) ≠ (g : Int)) (b : Nat) : Ixs xs (i + 1) (upF f g (ptC b)) (bs ++ [b]) := by
  obtain ⟨hl, hx⟩ := h
  refine ⟨by rw [e, List.length_append, List.length_append, hl]; rfl, fun k hk => ?_⟩
  have g1 : ∀ p, p < bs.length → (rtS xs (i + 1)).getD p 0 = (rtS xs i).getD p 0 := fun p hp => by rw [e]; simp only [List.getD]; rw [List.getElem?_append_left (by omega)]
  have g2 : ∀ p, p < bs.length → (bs ++ [b]).getD p 0 = bs.getD p 0 := fun p hp => by simp only [List.getD]; rw [List.getElem?_append_left (by omega)]
  have g3 : (rtS xs (i + 1)).getD bs.length 0 = i := by rw [e]; simp only [List.getD]; rw [List.getElem?_append_right (by omega), hl]; simp
  have g4 : (bs ++ [b]).getD bs.length 0 = b := by simp [List.getD]
  by_cases ek : k = g
  · subst ek
    refine .inr ⟨bs.length, by simp, by rw [g4]; unfold upF; rw [if_pos rfl], by rw [g3]; exact hg⟩
  · unfold upF
    rw [if_neg ek]
    rcases hx k hk with ⟨a, c⟩ | ⟨p, hp, a, c⟩
    · refine .inl ⟨a, fun p hp => ?_⟩
      rw [List.length_append, List.length_singleton] at hp
      by_cases ep : p = bs.length
      · subst ep; rw [g3, hg]; omega
      · rw [g1 p (by omega)]; exact c p (by omega)
    · exact .inr ⟨p, by simp; omega, by rw [g2 p hp]; exact a, by rw [g1 p hp]; exact c⟩
/-- Lanes that lie in memory of the call's own, with the list of them. -/
structure Lnw (T E Ep : TypeId) (w : World) (B : Nat) (u : Value) (L : List La) : Prop where
  own : OwnC Ep w B u (L.map fun x => ptC x.b)
  lns : LnM T E w B L
theorem Lnw.below {T E Ep : TypeId} {w w' : World} {B : Nat} {u : Value} {L : List La} (h : Lnw T E Ep w B u L) (hb : Below w.heap.size w w') : Lnw T E Ep w' B u L := ⟨h.own.below hb, h.lns.below hb⟩
/-- While lanes are made: the groups lie at block A, the lanes by groups at block O. -/
structure Lvt (T E Ep Tg To : TypeId) (w : World) (A O : Nat) (G : List Int) (f : Nat → Value) (W : World) (u : Value) (L : List La) : Prop where
  ln : Lnw T E Ep W w.heap.size u L
  gs : Str W A Tg (c6 G)
  og : Str W O To (o6 f)
  z : ∀ x ∈ L, x.l = z6 ∧ x.n = 0
  dA : w.heap.size ≤ A
  dO : w.heap.size ≤ O
  bel : Below w.heap.size w W
section
variable {T E Ep Tg To : TypeId} {w W W' : World} {A O : Nat} {G : List Int} {f : Nat → Value} {u : Value} {L : List La}
theorem Lvt.below (h : Lvt T E Ep Tg To w A O G f W u L) (hb : Below W.heap.size W W') : Lvt T E Ep Tg To w A O G f W' u L :=
  ⟨h.ln.below hb, (hb.block _ h.gs.lt).trans h.gs, (hb.block _ h.og.lt).trans h.og, h.z, h.dA, h.dO, below_step h.bel h.bel.size hb⟩
/-- A lane is made, and its place set. -/
theorem Lvt.make (h : Lvt T E Ep Tg To w A O G f W u L) {g b : Nat} (hg : g < 6) (hs : Str W b T (c8 z6 0 (.slice none 0 0))) (hb : w.heap.size ≤ b) (hn : ∀ x ∈ L, x.b ≠ b) (h1 : To ≠ T) (h2 : To ≠ E) (h3 : To ≠ Ep) (h4 : To ≠ Tg) :
    Lvt T E Ep Tg To w A O G (upF f g (ptC b)) (W.setCell ⟨O, g, none⟩ (ptC b)) u L ∧ LnM T E (W.setCell ⟨O, g, none⟩ (ptC b)) w.heap.size (L ++ [⟨z6, 0, [], b, .slice none 0 0⟩]) := by
  have hgr := grownBy_set W O g (ptC b)
  obtain ⟨o1, o2⟩ := h.ln.lns.off h.og h1 h2
  have hbo : b ≠ O := fun e => by
    have h5 := h.og
    unfold Str at h5 hs
    rw [← e, hs] at h5
    injection h5 with h5
    injection h5 with _ h6
    exact h1 h6.symm
  have hga : A ≠ O := fun e => by
    have h5 := h.og; have h7 := h.gs
    unfold Str at h5 h7
    rw [← e, h7] at h5
    injection h5 with h5
    injection h5 with _ h6
    exact h4 h6.symm
  have hl := h.ln.lns.grown hgr (fun x hx e => o1 x hx (by cases e; rfl)) (fun x hx g' e e' => o2 x hx (by rw [e, e']))
  refine ⟨⟨⟨h.ln.own.kept hgr ?_, hl⟩, h.gs.other hga _ _, by rw [← o6_set f hg]; exact h.og.set g _, h.z, h.dA, h.dO, h.bel.setCell (p := ⟨O, g, none⟩) h.dO _⟩, hl.push (hs.other hbo _ _) hb hn⟩
  cases hu : u.ownBlock with
  | none => exact .inl rfl
  | some q =>
    refine .inr fun e => ?_
    obtain ⟨cur, hc⟩ := h.ln.own.typ hu
    have h5 := h.og
    unfold Str at h5
    cases e
    rw [hc] at h5
    injection h5 with h5
    injection h5 with _ h6
    exact h3 h6.symm
/-- The lane is appended to the list. -/
theorem Lvt.push (h : Lvt T E Ep Tg To w A O G f W u L) {b : Nat} (hl : LnM T E W w.heap.size (L ++ [⟨z6, 0, [], b, .slice none 0 0⟩])) {u2 : Value} (ho : OwnC Ep W' w.heap.size u2 ((L.map fun x => ptC x.b) ++ [ptC b])) (hg : W.grownBy W' u.ownBlock) (h1 : Ep ≠ T) (h2 : Ep ≠ E) (h3 : Ep ≠ Tg) (h4 : Ep ≠ To) :
    Lvt T E Ep Tg To w A O G f W' u2 (L ++ [⟨z6, 0, [], b, .slice none 0 0⟩]) := by
  have hoff : ∀ {X : Nat} {t : TypeId} {vs : Array Value}, Str W X t vs → Ep ≠ t → some X ≠ u.ownBlock := fun hs hne e => by
    obtain ⟨cur, hc⟩ := h.ln.own.typ e.symm
    unfold Str at hs
    rw [hc] at hs
    injection hs with hs
    injection hs with _ h6
    exact hne h6
  refine ⟨⟨by rw [List.map_append, List.map_singleton]; exact ho, hl.grown hg (fun x hx e => hoff (hl.str x hx).2 h1 e.symm) fun x hx g e e' => ?_⟩, h.gs.kept hg (hoff h.gs h3), h.og.kept hg (hoff h.og h4), fun x hx => ?_, h.dA, h.dO, h.bel.grown hg h.bel.size fun q e => (h.ln.own.lt q e).1⟩
  · obtain ⟨cur, hc⟩ := h.ln.own.typ e'
    obtain ⟨cur', hc'⟩ := (hl.row x hx).typ e
    rw [hc] at hc'
    injection hc' with hc'
    injection hc' with _ h6
    exact h2 h6
  · rcases List.mem_append.1 hx with hx | hx
    · exact h.z x hx
    · rw [List.mem_singleton] at hx; subst hx; exact ⟨rfl, rfl⟩
/-- What is read of a lane when its row has grown. -/
theorem Lvt.read (h : Lvt T E Ep Tg To w A O G f W u L) {p : Nat} (hp : p < L.length) (hg : W.grownBy W' L[p].v.ownBlock) (h1 : T ≠ E) (h2 : To ≠ E) : Str W' O To (o6 f) ∧ Str W' L[p].b T (c8 L[p].l L[p].n L[p].v) := by
  have hin := List.getElem_mem hp
  have hr := h.ln.lns.row _ hin
  have hrow : ∀ {X : Nat} {t : TypeId} {vs : Array Value}, Str W X t vs → t ≠ E → some X ≠ L[p].v.ownBlock := fun hs hne e => by
    obtain ⟨cur, hc⟩ := hr.typ e.symm
    unfold Str at hs
    rw [hc] at hs
    injection hs with hs
    injection hs with _ h8
    exact hne h8.symm
  exact ⟨h.og.kept hg (hrow h.og h2), (h.ln.lns.str _ hin).2.kept hg (hrow (h.ln.lns.str _ hin).2 h1)⟩
/-- An index comes to a lane. -/
theorem Lvt.add (h : Lvt T E Ep Tg To w A O G f W u L) {p : Nat} (hp : p < L.length) {v8 : Value} {i : Nat} (ho : Own E W' w.heap.size v8 (zs L[p].os ++ [(i : Int)])) (hg : W.grownBy W' L[p].v.ownBlock) (hat : v8.ownBlock = L[p].v.ownBlock ∨ ∃ g, v8.ownBlock = some g ∧ W.heap.size ≤ g)
    (h1 : T ≠ E) (h2 : Ep ≠ T) (h3 : Ep ≠ E) (h4 : Tg ≠ T) (h5 : Tg ≠ E) (h6 : To ≠ T) (h7 : To ≠ E) :
    Lvt T E Ep Tg To w A O G f (W'.setCell ⟨L[p].b, 7, none⟩ v8) u (L.set p ⟨L[p].l, L[p].n, L[p].os ++ [i], L[p].b, v8⟩) := by
  have hin := List.getElem_mem hp
  obtain ⟨hB, hs⟩ := h.ln.lns.str _ hin
  have hr := h.ln.lns.row _ hin
  have hrow : ∀ {X : Nat} {t : TypeId} {vs : Array Value} {q : Nat × Nat}, W.heap[X]? = some (.cells vs t q) → t ≠ E → L[p].v.ownBlock ≠ some X := fun hs hne e => by
    obtain ⟨cur, hc⟩ := hr.typ e
    rw [hc] at hs
    injection hs with hs
    injection hs with _ h8
    exact hne h8.symm
  have hblk : ∀ {X : Nat} {t : TypeId} {vs : Array Value} {q : Nat × Nat}, W.heap[X]? = some (.cells vs t q) → t ≠ T → X ≠ L[p].b := fun hs' hne e => by
    have h9 := hs
    unfold Str at h9
    rw [← e, hs'] at h9
    injection h9 with h9
    injection h9 with _ h8
    exact hne h8
  have hoth : ∀ b, b < W.heap.size → b ≠ L[p].b → L[p].v.ownBlock ≠ some b → (W'.setCell ⟨L[p].b, 7, none⟩ v8).heap[b]? = W.heap[b]? := fun b hb e1 e2 => (Below.heap_setCell _ _ _ b e1).trans (hg.block b hb fun e => e2 e.symm)
  have hs7 : Str W' L[p].b T (c8 L[p].l L[p].n L[p].v) := hs.kept hg fun e => hrow hs h1 e.symm
  have hv8 : v8.ownBlock ≠ some L[p].b := fun e => by
    rcases hat with h' | ⟨g, h', hge⟩
    · exact hrow hs h1 (by rw [← h', e])
    · rw [e] at h'; cases h'; have := hs.lt; omega
  refine ⟨⟨?_, ?_⟩, ?_, ?_, fun x hx => ?_, h.dA, h.dO, ?_⟩
  · have e : ((L.set p ⟨L[p].l, L[p].n, L[p].os ++ [i], L[p].b, v8⟩).map fun x => ptC x.b) = L.map fun x => ptC x.b := by
      rw [List.map_set]
      refine List.ext_getElem (by simp) fun q q1 q2 => ?_
      by_cases eq : p = q
      · subst eq; rw [List.getElem_set_self, List.getElem_map]
      · rw [List.getElem_set_ne eq]
    rw [e]
    refine h.ln.own.same fun g e' => ?_
    obtain ⟨cur, hc⟩ := h.ln.own.typ e'
    exact hoth g (h.ln.own.lt g e').2 (hblk hc h2) (hrow hc h3)
  · refine h.ln.lns.set hp rfl ?_ ?_ (fun g e => ?_) hoth h1
    · have := hs7.set 7 v8
      rw [c8_idx] at this
      exact this
    · show Own E _ _ v8 (zs (L[p].os ++ [i]))
      rw [zs_snoc]
      exact ho.same fun g e => Below.heap_setCell _ _ _ g fun e' => hv8 (by rw [e, e'])
    · rcases hat with h' | ⟨g', h', hge⟩
      · exact .inl (by rw [← h', e])
      · have e2 : v8.ownBlock = some g := e
        rw [e2] at h'; cases h'; exact .inr hge
  · exact (hoth A h.gs.lt (hblk h.gs h4) (hrow h.gs h5)).trans h.gs
  · exact (hoth O h.og.lt (hblk h.og h6) (hrow h.og h7)).trans h.og
  · rcases List.mem_or_eq_of_mem_set hx with hx | rfl
    · exact h.z x hx
    · have h9 := h.z _ hin
      exact h9
  · exact (h.bel.grown hg h.bel.size fun q e => (hr.lt q e).1).setCell (p := ⟨L[p].b, 7, none⟩) hB _
end
/-- What an index comes to when its lane is there, or is made. -/
theorem set_os {L : List La} {p : Nat} (l : List Int) (n : Int) (o : List Nat) (b : Nat) (v : Value) : (L.set p ⟨l, n, o, b, v⟩).map La.os = (L.map La.os).set p o := by rw [List.map_set]
theorem set_bs {L : List La} {p : Nat} (hp : p < L.length) (l : List Int) (n : Int) (o : List Nat) (v : Value) : (L.set p ⟨l, n, o, L[p].b, v⟩).map La.b = L.map La.b := by
  rw [List.map_set]
  refine List.ext_getElem (by simp) fun q q1 q2 => ?_
  by_cases eq : p = q
  · subst eq; rw [List.getElem_set_self, List.getElem_map]
  · rw [List.getElem_set_ne eq]
theorem fin_old {xs : List Tx} (hv : ∀ x ∈ xs, txB x = true) {i g : Nat} (hi : i < xs.length) {f : Nat → Value} {L : List La} (hix : Ixs xs i f (L.map La.b)) (hos : L.map La.os = lsS xs i) (hg : gf xs i = (g : Int)) {p : Nat} (hp : p < L.length) (hr : gf xs ((rtS xs i).getD p 0) = (g : Int)) :
    Ixs xs (i + 1) f (L.map La.b) ∧ (∀ v, (L.set p ⟨L[p].l, L[p].n, L[p].os ++ [i], L[p].b, v⟩).map La.os = lsS xs (i + 1)) ∧ L[p].os.length ≤ i := by
  have hpr : p < (rtS xs i).length := by rw [← hix.1, List.length_map]; exact hp
  rw [getD_lt hpr] at hr
  obtain ⟨e1, e2⟩ := rt_old hv hi hpr (hr.trans hg.symm)
  have hps : p < (lsS xs i).length := by rw [ls_len]; exact hpr
  have eo : L[p].os = (lsS xs i)[p] := by
    have : (L.map La.os)[p]'(by simpa using hp) = (lsS xs i)[p] := by simp only [hos]
    rwa [List.getElem_map] at this
  refine ⟨ixs_old hix e1, fun v => ?_, ?_⟩
  · rw [set_os, hos, e2, eo]
  · rw [eo, ls_at]; exact laneTo_len _ _ _
theorem fin_new {xs : List Tx} (hv : ∀ x ∈ xs, txB x = true) {i g : Nat} (hi : i < xs.length) {f : Nat → Value} {L : List La} (hix : Ixs xs i f (L.map La.b)) (hos : L.map La.os = lsS xs i) (hg : gf xs i = (g : Int)) (hn : ∀ p, p < (L.map La.b).length → gf xs ((rtS xs i).getD p 0) ≠ (g : Int)) (b : Nat)
    {L2 : List La} (h2 : L2 = L ++ [⟨z6, 0, [], b, .slice none 0 0⟩]) (hp : L.length < L2.length) :
    Ixs xs (i + 1) (upF f g (ptC b)) (L2.map La.b) ∧ (∀ v, (L2.set L.length ⟨L2[L.length].l, L2[L.length].n, L2[L.length].os ++ [i], L2[L.length].b, v⟩).map La.os = lsS xs (i + 1)) ∧ L2[L.length].os.length ≤ i ∧ (upF f g (ptC b)) g = ptC L2[L.length].b := by
  subst h2
  obtain ⟨e1, e2⟩ := rt_new hv hi (fun p hp e => hn p (by rw [hix.1]; exact hp) (by rw [getD_lt hp, e, hg]))
  have el : (L ++ [⟨z6, 0, [], b, .slice none 0 0⟩] : List La)[L.length]'hp = ⟨z6, 0, [], b, .slice none 0 0⟩ := by simp
  refine ⟨by rw [List.map_append]; exact ixs_new hix e1 hg hn b, fun v => ?_, by rw [el]; exact Nat.zero_le _, by rw [el]; unfold upF; rw [if_pos rfl]⟩
  rw [set_os, el, List.map_append, hos, e2]
  have e3 : L.length = (lsS xs i).length := by rw [← hos, List.length_map]
  rw [e3, List.set_append_right _ _ (Nat.le_refl _)]
  simp
/-- What lanesOf answers. -/
def LoP (T E Ep : TypeId) (w : World) (xs : List Tx) (e : Ending) (w' : World) : Prop := Below w.heap.size w w' ∧
  ((vldB xs = false ∧ e = .returned (.tuple #[.slice none 0 0, .bool false])) ∨ (vldB xs = true ∧ ∃ u L, e = .returned (.tuple #[u, .bool true]) ∧ Lnw T E Ep w' w.heap.size u L ∧ L.map La.os = lanesN xs ∧ ∀ x ∈ L, x.l = z6 ∧ x.n = 0))

theorem TIlp : IntT Try.prog 34 3 := ⟨Try.underlying34, by kernel_rfl⟩
theorem pl_inf : (Try.prog.info? 55).map (fun i => (i.zero, i.size, i.bytes)) = some (some (.pointer none), 1, 8) := by kernel_rfl
set_option maxRecDepth 8000 in
set_option maxHeartbeats 8000000 in
theorem impl_lanesOf (xs : List Tx) (a : Option Addr) (cap : Nat) (fp : List Nat) (w : World) (hbig : xs.length ≤ 1099511627776) (h : Txs w xs (.slice a xs.length cap) fp) :
    Calls Try.prog 32 #[.slice a xs.length cap] w (LoP 61 3 55 w xs) := by
  have HV := Lib.hid (impl_areTxns xs a cap fp w hbig h)
  have H := Lib.hid h; clear h
  have Hno := Lib.hid (fun w' (hb : Below w.heap.size w w') (hv : vldB xs = false) => (show LoP 61 3 55 w xs (.returned (.tuple #[.slice none 0 0, .bool false])) w' from ⟨hb, .inl ⟨hv, rfl⟩⟩))
  have Hyes := Lib.hid (fun w' u L (hb : Below w.heap.size w w') (hv : vldB xs = true) (h1 : Lnw 61 3 55 w' w.heap.size u L) (h2 : L.map La.os = lanesN xs) (h3 : ∀ x ∈ L, x.l = z6 ∧ x.n = 0) => (show LoP 61 3 55 w xs (.returned (.tuple #[u, .bool true])) w' from ⟨hb, .inr ⟨hv, u, L, rfl, h1, h2, h3⟩⟩))
  generalize LoP 61 3 55 w xs = POST at *
  go_enter Try.func32, Try.ntmps32
  go_wp2_with fail
  refine HV.out.mono ?_
  rintro e w1 ⟨rfl, hb1⟩
  have Hb1 := Lib.hid hb1; clear hb1 HV
  cases hv : vldB xs with
  | false =>
    have Hv := Lib.hid hv; clear hv
    go_wp2
    exact Hno.out _ Hb1.out Hv.out
  | true =>
  have hx16 := vld_len hv
  have hva : ∀ x ∈ xs, txB x = true := fun x hx => List.all_eq_true.1 (vld_all hv) x hx
  have Hv := Lib.hid hv; have Hva := Lib.hid hva; clear hv Hno
  go_wp2_with fail
  refine (impl_groupsOf xs a cap fp w1 hbig hva (H.out.under Hb1.out)).mono ?_
  rintro e w2 ⟨rfl, hb2⟩
  clear hva
  have Hb2 := Lib.hid (below_step Hb1.out Hb1.out.size hb2); clear hb2
  have Hgf := Lib.hid (fun i (hi : i < xs.length) => (gd_tx hi : xs.getD i tx0 = xs[i]))
  unfold c6
  have hb3 : Below w.heap.size w ((w2.alloc (.cells #[.int .i64 (gd (gpL xs) 0), .int .i64 (gd (gpL xs) 1), .int .i64 (gd (gpL xs) 2), .int .i64 (gd (gpL xs) 3), .int .i64 (gd (gpL xs) 4), .int .i64 (gd (gpL xs) 5)] 80)).alloc (.cells #[] 55)) := ((Hb2.out.alloc Hb2.out.size _).alloc (by have := Hb2.out.size; simp only [World.size_alloc]; omega) _)
  have s3 := (Str.new w2 80 (c6 (gpL xs))).alloc (.cells #[] 55)
  have o3 := OwnC.empty 55 (w2.alloc (.cells #[.int .i64 (gd (gpL xs) 0), .int .i64 (gd (gpL xs) 1), .int .i64 (gd (gpL xs) 2), .int .i64 (gd (gpL xs) 3), .int .i64 (gd (gpL xs) 4), .int .i64 (gd (gpL xs) 5)] 80)) (B := w.heap.size) (by have := Hb2.out.size; simp only [World.size_alloc]; omega)
  have hb4 := hb3.alloc hb3.size (.cells #[.pointer none, .pointer none, .pointer none, .pointer none, .pointer none, .pointer none] 82)
  have s4 := s3.alloc (.cells #[.pointer none, .pointer none, .pointer none, .pointer none, .pointer none, .pointer none] 82)
  have o4 := o3.kept (World.grownBy_alloc _ (.cells #[.pointer none, .pointer none, .pointer none, .pointer none, .pointer none, .pointer none] 82) none) (.inr (fun e => by cases e))
  have q4 := Str.new ((w2.alloc (.cells #[.int .i64 (gd (gpL xs) 0), .int .i64 (gd (gpL xs) 1), .int .i64 (gd (gpL xs) 2), .int .i64 (gd (gpL xs) 3), .int .i64 (gd (gpL xs) 4), .int .i64 (gd (gpL xs) 5)] 80)).alloc (.cells #[] 55)) 82 #[.pointer none, .pointer none, .pointer none, .pointer none, .pointer none, .pointer none]
  have hz4 : ((w2.alloc (.cells #[.int .i64 (gd (gpL xs) 0), .int .i64 (gd (gpL xs) 1), .int .i64 (gd (gpL xs) 2), .int .i64 (gd (gpL xs) 3), .int .i64 (gd (gpL xs) 4), .int .i64 (gd (gpL xs) 5)] 80)).alloc (.cells #[] 55)).heap.size = w2.heap.size + 2 := by simp
  rw [hz4] at q4
  have LS := Lib.hid (show Lvt 61 3 55 80 82 w w2.heap.size (w2.heap.size + 2) (gpL xs) (fun _ => .pointer none) (((w2.alloc (.cells #[.int .i64 (gd (gpL xs) 0), .int .i64 (gd (gpL xs) 1), .int .i64 (gd (gpL xs) 2), .int .i64 (gd (gpL xs) 3), .int .i64 (gd (gpL xs) 4), .int .i64 (gd (gpL xs) 5)] 80)).alloc (.cells #[] 55)).alloc (.cells #[.pointer none, .pointer none, .pointer none, .pointer none, .pointer none, .pointer none] 82)) _ [] from
    ⟨⟨o4, LnM.nil _ _ _ _⟩, s4, q4, (fun _ h => (by cases h)), Hb2.out.size, by have := Hb2.out.size; omega, hb4⟩)
  have hsz1 : (w2.alloc (.cells #[.int .i64 (gd (gpL xs) 0), .int .i64 (gd (gpL xs) 1), .int .i64 (gd (gpL xs) 2), .int .i64 (gd (gpL xs) 3), .int .i64 (gd (gpL xs) 4), .int .i64 (gd (gpL xs) 5)] 80)).heap.size = w2.heap.size + 1 := by simp
  have hsz2 : (((w2.alloc (.cells #[.int .i64 (gd (gpL xs) 0), .int .i64 (gd (gpL xs) 1), .int .i64 (gd (gpL xs) 2), .int .i64 (gd (gpL xs) 3), .int .i64 (gd (gpL xs) 4), .int .i64 (gd (gpL xs) 5)] 80)).alloc (.cells #[] 55)).alloc (.cells #[.pointer none, .pointer none, .pointer none, .pointer none, .pointer none, .pointer none] 82)).heap.size = w2.heap.size + 3 := by simp
  clear hb3 s3 o3 hb4 s4 o4 q4
  go_wp2
  generalize (((w2.alloc (.cells #[.int .i64 (gd (gpL xs) 0), .int .i64 (gd (gpL xs) 1), .int .i64 (gd (gpL xs) 2), .int .i64 (gd (gpL xs) 3), .int .i64 (gd (gpL xs) 4), .int .i64 (gd (gpL xs) 5)] 80)).alloc (.cells #[] 55)).alloc (.cells #[.pointer none, .pointer none, .pointer none, .pointer none, .pointer none, .pointer none] 82)) = W4 at *
  clear hz4
  go_loopw [5, 18] (fun u q wr => ∃ (i : Nat) (f : Nat → Value) (L : List La), i ≤ xs.length ∧ q = .int .i64 i ∧ Lvt 61 3 55 80 82 w w2.heap.size (w2.heap.size + 2) (gpL xs) f wr u L ∧ Ixs xs i f (L.map La.b) ∧ L.map La.os = lsS xs i) (fun _ q _ => xs.length - (intOf q).toNat)
  case atStart =>
    refine ⟨0, _, [], Nat.zero_le _, rfl, ?_, ixs_zero xs, rfl⟩
    first | exact LS.out | (rw [hsz1] at LS; exact LS.out)
  case round =>
    clear LS hsz1 hsz2
    obtain ⟨i, f, L, hi, rfl, hs, hix, hos⟩ := hrel
    have LS := Lib.hid hs; have IX := Lib.hid hix; have OS := Lib.hid hos; clear hs hix hos
    obtain ⟨au, cu, rfl, hum⟩ := LS.out.ln.own.slice
    by_cases hlt : i < xs.length
    case neg =>
      have hie : i = xs.length := by omega
      subst hie
      have hlt' : ¬ (xs.length : Int) < (xs.length : Int) := by omega
      go_wp2
      rw [List.length_map] at LS
      exact Hyes.out _ _ L LS.out.bel Hv.out LS.out.ln (by rw [OS.out]; exact ls_all xs) LS.out.z
    case pos =>
      have hlt' : (i : Int) < (xs.length : Int) := by omega
      obtain ⟨b, off, rfl, hbb, hat⟩ := (H.out.under LS.out.bel).at (by omega)
      obtain ⟨c0, c1, c2, c3⟩ := hat i hlt
      clear hat
      have hf6 := (tx_lt (Hva.out _ (List.getElem_mem hlt))).1
      have ef := (tx_lt (Hva.out _ (List.getElem_mem hlt))).2.2.1
      have Egf := Lib.hid (show gf xs i = gd (gpL xs) xs[i].f.toNat by unfold gf; rw [Hgf.out i hlt])
      obtain ⟨hg0, hg5⟩ := gf_rng Hva.out hlt
      obtain ⟨g, hg⟩ : ∃ g : Nat, gf xs i = (g : Int) := ⟨(gf xs i).toNat, by omega⟩
      have hg6 : g < 6 := by omega
      have hg6' : (g : Int) < 6 := by omega
      have hgg : gd (gpL xs) xs[i].f.toNat = (g : Int) := by rw [← Egf.out]; exact hg
      have Hg := Lib.hid hg; clear hg hg0 hg5 Egf
      generalize xs[i] = x at *
      obtain ⟨xf, xt, xs', xe⟩ := x
      dsimp only at *
      obtain ⟨fi, hfi⟩ : ∃ fi : Nat, fi = xf.toNat := ⟨_, rfl⟩
      rw [← hfi] at hf6 ef hgg
      clear hfi
      subst ef
      have hf6' : (fi : Int) < 6 := by omega
      have hal : Below wr.heap.size wr (wr.alloc (.cells #[.int .i64 fi, .int .i64 xt, .int .i64 xs', .int .i64 xe] 24)) := (Below.refl _ _).alloc (Nat.le_refl _) _
      have LS := Lib.hid (LS.out.below hal)
      have hcg := LS.out.gs.cell fi (c6_at _ hf6)
      rw [hgg] at hcg
      have hco := LS.out.og.cell g (o6_at f hg6)
      have hfo := LS.out.og.frozen g
      clear hal hgg hf6
      rcases IX.out.2 g hg6 with ⟨hfn, hno⟩ | ⟨p, hp, hfp, hgp⟩
      case inr =>
        rw [List.length_map] at hp
        rw [getD_lt (by rw [List.length_map]; exact hp), List.getElem_map] at hfp
        obtain ⟨FX0, FO0, hol⟩ := fin_old Hva.out hlt IX.out OS.out Hg.out hp hgp
        have FX := Lib.hid FX0; have FO := Lib.hid FO0; clear FX0 FO0 hgp IX OS
        obtain ⟨L2, rfl⟩ : ∃ L2, L2 = L := ⟨_, rfl⟩
        obtain ⟨f2, rfl⟩ : ∃ f2, f2 = f := ⟨_, rfl⟩
        rw [hfp] at hco
        unfold ptC at hco
        go_wp2_with fail
        generalize (wr.alloc (.cells #[.int .i64 fi, .int .i64 xt, .int .i64 xs', .int .i64 xe] 24)) = W5 at *
        clear hco hfo c0 c1 c2 c3 hcg
        have LD := Lib.hid (show Lvt 61 3 55 80 82 w w2.heap.size (w2.heap.size + 2) (gpL xs) f2 W5.drew _ L2 from LS.out.below (Below.refl _ _).drew)
        have hco := LS.out.og.cell g (o6_at f2 hg6)
        rw [hfp] at hco
        have hcv := (LS.out.ln.lns.str _ (List.getElem_mem hp)).2.cell 7 (v := L2[p].v) rfl
        have hob := LS.out.og.lt
        have hbl := (LS.out.ln.lns.str _ (List.getElem_mem hp)).2.lt
        have HO := Lib.hid (LD.out.ln.lns.row _ (List.getElem_mem hp))
        have HA := Lib.hid (fun w9 v9 h1 h2 h3 => LD.out.add hp (i := i) (W' := w9) (v8 := v9) h1 h2 h3 (by decide) (by decide) (by decide) (by decide) (by decide) (by decide) (by decide))
        have HRd := Lib.hid (fun w9 h1 => LD.out.read hp (W' := w9) h1 (by decide) (by decide))
        have FB := Lib.hid (fun v => set_bs hp L2[p].l L2[p].n (L2[p].os ++ [i]) v)
        have hwz := LD.out.bel.size
        clear LS LD
        generalize L2[p] = y at *
        obtain ⟨yl, yn, yo, yb, yv⟩ := y
        dsimp only at *
        obtain ⟨ay, cy, rfl, _, _⟩ := HO.out.ints
        have hln : (zs yo).length ≤ 1099511627776 := by rw [zs_len]; omega
        unfold ptC at hco hfp
        go_wp2_with fail
        refine wp_region_L 14 (fun W => W.cell? ⟨w2.heap.size + 2, g, none⟩ = some (.pointer (some ⟨yb, 0, none⟩)) ∧ W.cell? ⟨yb, 7, none⟩ = some (.slice ay (zs yo).length cy)) (by kernel_rfl) ⟨hco, hcv⟩ (fun hH => ?_)
        replace hob : w2.heap.size + 2 < W5.drew.heap.size := hob
        replace hbl : yb < W5.drew.heap.size := hbl
        generalize W5.drew = Wd at *
        clear hco hcv
        refine takeL 0 (v := ?vta1) rfl (by kernel_rfl) (by kernel_rfl) (by kernel_rfl) (by kernel_rfl) (by kernel_rfl) (fun _ _ _ h => h) hH rfl ?yta1 ?rta1
        case yta1 => intro W hSw; go_simp; try with_reducible rfl
        try simp only [Act.put, List.setIfInBounds_toArray, List.set_cons_zero, List.set_cons_succ]
        refine takeL 1 (v := ?vta2) rfl (by kernel_rfl) (by kernel_rfl) (by kernel_rfl) (by kernel_rfl) (by kernel_rfl) (fun _ _ _ h => h) hH rfl ?yta2 ?rta2
        case yta2 => intro W hSw; go_simp; try with_reducible rfl
        try simp only [Act.put, List.setIfInBounds_toArray, List.set_cons_zero, List.set_cons_succ]
        refine takeL 2 (v := ?vta3) rfl (by kernel_rfl) (by kernel_rfl) (by kernel_rfl) (by kernel_rfl) (by kernel_rfl) (fun _ _ _ h => h) hH rfl ?yta3 ?rta3
        case yta3 => intro W hSw; have hS1 := hSw.1; go_simp; try with_reducible rfl
        try simp only [Act.put, List.setIfInBounds_toArray, List.set_cons_zero, List.set_cons_succ]
        refine takeL 3 (v := ?vta4) rfl (by kernel_rfl) (by kernel_rfl) (by kernel_rfl) (by kernel_rfl) (by kernel_rfl) (fun _ _ _ h => h) hH rfl ?yta4 ?rta4
        case yta4 => intro W hSw; go_simp; try with_reducible rfl
        try simp only [Act.put, List.setIfInBounds_toArray, List.set_cons_zero, List.set_cons_succ]
        refine takeL 4 (v := ?vta5) rfl (by kernel_rfl) (by kernel_rfl) (by kernel_rfl) (by kernel_rfl) (by kernel_rfl) (fun _ _ _ h => h) hH rfl ?yta5 ?rta5
        case yta5 => intro W hSw; go_simp; try with_reducible rfl
        try simp only [Act.put, List.setIfInBounds_toArray, List.set_cons_zero, List.set_cons_succ]
        refine takeL 5 (v := ?vta6) rfl (by kernel_rfl) (by kernel_rfl) (by kernel_rfl) (by kernel_rfl) (by kernel_rfl) (fun _ _ _ h => h) hH rfl ?yta6 ?rta6
        case yta6 => intro W hSw; have hS1 := hSw.1; go_simp; try with_reducible rfl
        try simp only [Act.put, List.setIfInBounds_toArray, List.set_cons_zero, List.set_cons_succ]
        refine takeL 6 (v := ?vta7) rfl (by kernel_rfl) (by kernel_rfl) (by kernel_rfl) (by kernel_rfl) (by kernel_rfl) (fun _ _ _ h => h) hH rfl ?yta7 ?rta7
        case yta7 => intro W hSw; go_simp; try with_reducible rfl
        try simp only [Act.put, List.setIfInBounds_toArray, List.set_cons_zero, List.set_cons_succ]
        refine takeL 7 (v := ?vta8) rfl (by kernel_rfl) (by kernel_rfl) (by kernel_rfl) (by kernel_rfl) (by kernel_rfl) (fun _ _ _ h => h) hH rfl ?yta8 ?rta8
        case yta8 => intro W hSw; go_simp; try with_reducible rfl
        try simp only [Act.put, List.setIfInBounds_toArray, List.set_cons_zero, List.set_cons_succ]
        refine takeL 8 (v := ?vta9) rfl (by kernel_rfl) (by kernel_rfl) (by kernel_rfl) (by kernel_rfl) (by kernel_rfl) (fun _ _ _ h => h) hH rfl ?yta9 ?rta9
        case yta9 => intro W hSw; have hS2 := hSw.2; go_simp; try with_reducible rfl
        try simp only [Act.put, List.setIfInBounds_toArray, List.set_cons_zero, List.set_cons_succ]
        refine takeL 9 (v := ?vta10) rfl (by kernel_rfl) (by kernel_rfl) (by kernel_rfl) (by kernel_rfl) (by kernel_rfl) (fun _ _ _ h => h) hH rfl ?yta10 ?rta10
        case yta10 => intro W hSw; go_simp; try with_reducible rfl
        try simp only [Act.put, List.setIfInBounds_toArray, List.set_cons_zero, List.set_cons_succ]
        refine callL 10 rfl (by kernel_rfl) rfl (fun K hK => ?_)
        go_simp
        have hal : Below Wd.heap.size Wd (Wd.alloc (.cells #[.int .i64 i] 3)) := (Below.refl _ _).alloc (Nat.le_refl _) _
        have hc1 := (hal.cell (p := ⟨w2.heap.size + 2, g, none⟩) hob).trans hH.1
        have hc2 := (hal.cell (p := ⟨yb, 7, none⟩) hbl).trans hH.2
        refine hK.out _ _ ⟨hc1, hc2⟩ (fun hH => ?_)
        clear hK K
        try simp only [Act.put, List.setIfInBounds_toArray, List.set_cons_zero, List.set_cons_succ]
        refine callL 11 rfl (by kernel_rfl) rfl (fun K hK => ?_)
        refine op_push_at TIlp _ (.tmp 49) (.tmp 51) rfl w.heap.size _ (zs yo) i rfl HO.out hln rfl hwz ?_
        intro v9 w9 ho9 hg9 hat9
        obtain ⟨r1, r2⟩ := HRd.out w9 hg9
        have q1 := r1.cell g (o6_at f2 hg6)
        rw [hfp] at q1
        have q2 := r2.cell 7 (v := .slice ay (zs yo).length cy) rfl
        have q3 := r2.frozen 7
        have LF := Lib.hid (HA.out w9 v9 ho9 hg9 hat9)
        obtain ⟨a9, c9, rfl, _, _⟩ := ho9.ints
        clear ho9 hg9 hat9 r1 r2 HRd HA HO hc1 hc2
        refine hK.out _ _ ⟨q1, q2⟩ (fun hH => ?_)
        clear hK K
        try simp only [Act.put, List.setIfInBounds_toArray, List.set_cons_zero, List.set_cons_succ]
        refine callL 12 rfl (by kernel_rfl) rfl (fun K hK => ?_)
        go_simp
        refine hK.out _ _ ⟨q1, q2⟩ (fun hH => ?_)
        clear hK K
        try simp only [Act.put, List.setIfInBounds_toArray, List.set_cons_zero, List.set_cons_succ]
        refine callL 13 rfl (by kernel_rfl) rfl (fun K hK => ?_)
        go_simp
        refine hK.out _ _ ⟨q1, q2⟩ (fun hH => ?_)
        clear hK K
        try simp only [Act.put, List.setIfInBounds_toArray, List.set_cons_zero, List.set_cons_succ]
        refine lastL rfl (by kernel_rfl) (by kernel_rfl) (by kernel_rfl) rfl (fun K hK => ?_)
        go_simp
        refine hK.out _ _ ?_
        clear hK K
        try simp only [Act.put]
        simp only [List.length_append, List.length_map, List.length_singleton] at LF
        clear q1 q2 q3 hH
        go_wp2
        go_roundw
        case rel => exact ⟨i + 1, f2, _, by omega, by go_num, LF.out, by rw [FB.out]; exact FX.out, FO.out _⟩
        case measure => simp [intOf]; omega
      case inl =>
        rw [hfn] at hco
        have hal5 : Below (wr.alloc (.cells #[.int .i64 fi, .int .i64 xt, .int .i64 xs', .int .i64 xe] 24)).heap.size (wr.alloc (.cells #[.int .i64 fi, .int .i64 xt, .int .i64 xs', .int .i64 xe] 24)) ((wr.alloc (.cells #[.int .i64 fi, .int .i64 xt, .int .i64 xs', .int .i64 xe] 24)).alloc (.cells #[.int .i64 0, .int .i64 0, .int .i64 0, .int .i64 0, .int .i64 0, .int .i64 0, .int .i64 0, .slice none 0 0] 61)) := (Below.refl _ _).alloc (Nat.le_refl _) _
        have LS6 := Lib.hid (LS.out.below hal5)
        have hz5 : (wr.alloc (.cells #[.int .i64 fi, .int .i64 xt, .int .i64 xs', .int .i64 xe] 24)).heap.size = wr.heap.size + 1 := by simp
        have sN : Str ((wr.alloc (.cells #[.int .i64 fi, .int .i64 xt, .int .i64 xs', .int .i64 xe] 24)).alloc (.cells #[.int .i64 0, .int .i64 0, .int .i64 0, .int .i64 0, .int .i64 0, .int .i64 0, .int .i64 0, .slice none 0 0] 61)) (wr.alloc (.cells #[.int .i64 fi, .int .i64 xt, .int .i64 xs', .int .i64 xe] 24)).heap.size 61 (c8 z6 0 (.slice none 0 0)) := Str.new (wr.alloc (.cells #[.int .i64 fi, .int .i64 xt, .int .i64 xs', .int .i64 xe] 24)) 61 _
        rw [hz5] at sN
        have hwr := LS.out.bel.size
        rw [hz5] at hwr
        obtain ⟨m1, m2⟩ := LS6.out.make (b := wr.heap.size + 1) hg6 sN hwr (fun x hx e => by have := (LS.out.ln.lns.str x hx).2.lt; rw [hz5] at this; omega) (by decide) (by decide) (by decide) (by decide)
        obtain ⟨L2, hL2⟩ : ∃ L2 : List La, L2 = L ++ [⟨z6, 0, [], wr.heap.size + 1, .slice none 0 0⟩] := ⟨_, rfl⟩
        have hp : L.length < L2.length := by rw [hL2]; simp
        obtain ⟨FX0, FO0, hol, hfp⟩ := fin_new Hva.out hlt IX.out OS.out Hg.out hno (wr.heap.size + 1) hL2 hp
        generalize hpp : L.length = p at hp FX0 FO0 hol hfp
        clear hpp
        have hll : (L.map fun x => ptC x.b).length ≤ 1048576 := by
          have h1 := IX.out.1; have h2 := rt_len xs i
          rw [List.length_map] at h1 ⊢; omega
        have hc6 := (hal5.cell (p := ⟨w2.heap.size + 2, g, none⟩) LS.out.og.lt).trans hco
        have hf6 := LS6.out.og.frozen g
        have M1 := Lib.hid m1; have M2 := Lib.hid m2; have FX := Lib.hid FX0; have FO := Lib.hid FO0; have HL2 := Lib.hid hL2
        have hw7 := M1.out.bel.size
        have hz7 : (((wr.alloc (.cells #[.int .i64 fi, .int .i64 xt, .int .i64 xs', .int .i64 xe] 24)).alloc (.cells #[.int .i64 0, .int .i64 0, .int .i64 0, .int .i64 0, .int .i64 0, .int .i64 0, .int .i64 0, .slice none 0 0] 61)).setCell ⟨w2.heap.size + 2, g, none⟩ (.pointer (some ⟨wr.heap.size + 1, 0, none⟩))).heap.size = wr.heap.size + 1 + 1 := by simp
        clear m1 m2 FX0 FO0 hL2 IX OS hal5 sN hno LS LS6
        generalize hf2 : upF f g (ptC (wr.heap.size + 1)) = f2 at *
        clear hf2
        go_wp2_with (at_builtin; refine wpList_pushC Try.underlying52 pl_inf rfl (by decide) rfl (.tmp 35) (.tmp 39) rfl rfl M1.out.ln.own rfl hll (by rw [hz7]; rfl) hw7 ?_; intro v8 w8 ho8 hg8 hat8; (have LS := Lib.hid (M1.out.push M2.out ho8 hg8 (by decide) (by decide) (by decide) (by decide))); (rw [← HL2.out] at LS); (obtain ⟨a8, c8', rfl, _⟩ := ho8.slice); clear ho8 hg8 hat8)
        simp only [List.length_append, List.length_map, List.length_singleton] at LS ⊢
        clear hco hc6 hfo hf6 c0 c1 c2 c3 hcg M1 M2
        have LD := Lib.hid (show Lvt 61 3 55 80 82 w w2.heap.size (w2.heap.size + 2) (gpL xs) f2 w8.drew _ L2 from LS.out.below (Below.refl _ _).drew)
        have hco := LS.out.og.cell g (o6_at f2 hg6)
        rw [hfp] at hco
        have hcv := (LS.out.ln.lns.str _ (List.getElem_mem hp)).2.cell 7 (v := L2[p].v) rfl
        have hob := LS.out.og.lt
        have hbl := (LS.out.ln.lns.str _ (List.getElem_mem hp)).2.lt
        have HO := Lib.hid (LD.out.ln.lns.row _ (List.getElem_mem hp))
        have HA := Lib.hid (fun w9 v9 h1 h2 h3 => LD.out.add hp (i := i) (W' := w9) (v8 := v9) h1 h2 h3 (by decide) (by decide) (by decide) (by decide) (by decide) (by decide) (by decide))
        have HRd := Lib.hid (fun w9 h1 => LD.out.read hp (W' := w9) h1 (by decide) (by decide))
        have FB := Lib.hid (fun v => set_bs hp L2[p].l L2[p].n (L2[p].os ++ [i]) v)
        have hwz := LD.out.bel.size
        clear LS LD
        generalize L2[p] = y at *
        obtain ⟨yl, yn, yo, yb, yv⟩ := y
        dsimp only at *
        obtain ⟨ay, cy, rfl, _, _⟩ := HO.out.ints
        have hln : (zs yo).length ≤ 1099511627776 := by rw [zs_len]; omega
        unfold ptC at hco hfp
        go_wp2_with fail
        refine wp_region_L 14 (fun W => W.cell? ⟨w2.heap.size + 2, g, none⟩ = some (.pointer (some ⟨yb, 0, none⟩)) ∧ W.cell? ⟨yb, 7, none⟩ = some (.slice ay (zs yo).length cy)) (by kernel_rfl) ⟨hco, hcv⟩ (fun hH => ?_)
        replace hob : w2.heap.size + 2 < w8.drew.heap.size := hob
        replace hbl : yb < w8.drew.heap.size := hbl
        generalize w8.drew = Wd at *
        clear hco hcv
        refine takeL 0 (v := ?vtb1) rfl (by kernel_rfl) (by kernel_rfl) (by kernel_rfl) (by kernel_rfl) (by kernel_rfl) (fun _ _ _ h => h) hH rfl ?ytb1 ?rtb1
        case ytb1 => intro W hSw; go_simp; try with_reducible rfl
        try simp only [Act.put, List.setIfInBounds_toArray, List.set_cons_zero, List.set_cons_succ]
        refine takeL 1 (v := ?vtb2) rfl (by kernel_rfl) (by kernel_rfl) (by kernel_rfl) (by kernel_rfl) (by kernel_rfl) (fun _ _ _ h => h) hH rfl ?ytb2 ?rtb2
        case ytb2 => intro W hSw; go_simp; try with_reducible rfl
        try simp only [Act.put, List.setIfInBounds_toArray, List.set_cons_zero, List.set_cons_succ]
        refine takeL 2 (v := ?vtb3) rfl (by kernel_rfl) (by kernel_rfl) (by kernel_rfl) (by kernel_rfl) (by kernel_rfl) (fun _ _ _ h => h) hH rfl ?ytb3 ?rtb3
        case ytb3 => intro W hSw; have hS1 := hSw.1; go_simp; try with_reducible rfl
        try simp only [Act.put, List.setIfInBounds_toArray, List.set_cons_zero, List.set_cons_succ]
        refine takeL 3 (v := ?vtb4) rfl (by kernel_rfl) (by kernel_rfl) (by kernel_rfl) (by kernel_rfl) (by kernel_rfl) (fun _ _ _ h => h) hH rfl ?ytb4 ?rtb4
        case ytb4 => intro W hSw; go_simp; try with_reducible rfl
        try simp only [Act.put, List.setIfInBounds_toArray, List.set_cons_zero, List.set_cons_succ]
        refine takeL 4 (v := ?vtb5) rfl (by kernel_rfl) (by kernel_rfl) (by kernel_rfl) (by kernel_rfl) (by kernel_rfl) (fun _ _ _ h => h) hH rfl ?ytb5 ?rtb5
        case ytb5 => intro W hSw; go_simp; try with_reducible rfl
        try simp only [Act.put, List.setIfInBounds_toArray, List.set_cons_zero, List.set_cons_succ]
        refine takeL 5 (v := ?vtb6) rfl (by kernel_rfl) (by kernel_rfl) (by kernel_rfl) (by kernel_rfl) (by kernel_rfl) (fun _ _ _ h => h) hH rfl ?ytb6 ?rtb6
        case ytb6 => intro W hSw; have hS1 := hSw.1; go_simp; try with_reducible rfl
        try simp only [Act.put, List.setIfInBounds_toArray, List.set_cons_zero, List.set_cons_succ]
        refine takeL 6 (v := ?vtb7) rfl (by kernel_rfl) (by kernel_rfl) (by kernel_rfl) (by kernel_rfl) (by kernel_rfl) (fun _ _ _ h => h) hH rfl ?ytb7 ?rtb7
        case ytb7 => intro W hSw; go_simp; try with_reducible rfl
        try simp only [Act.put, List.setIfInBounds_toArray, List.set_cons_zero, List.set_cons_succ]
        refine takeL 7 (v := ?vtb8) rfl (by kernel_rfl) (by kernel_rfl) (by kernel_rfl) (by kernel_rfl) (by kernel_rfl) (fun _ _ _ h => h) hH rfl ?ytb8 ?rtb8
        case ytb8 => intro W hSw; go_simp; try with_reducible rfl
        try simp only [Act.put, List.setIfInBounds_toArray, List.set_cons_zero, List.set_cons_succ]
        refine takeL 8 (v := ?vtb9) rfl (by kernel_rfl) (by kernel_rfl) (by kernel_rfl) (by kernel_rfl) (by kernel_rfl) (fun _ _ _ h => h) hH rfl ?ytb9 ?rtb9
        case ytb9 => intro W hSw; have hS2 := hSw.2; go_simp; try with_reducible rfl
        try simp only [Act.put, List.setIfInBounds_toArray, List.set_cons_zero, List.set_cons_succ]
        refine takeL 9 (v := ?vtb10) rfl (by kernel_rfl) (by kernel_rfl) (by kernel_rfl) (by kernel_rfl) (by kernel_rfl) (fun _ _ _ h => h) hH rfl ?ytb10 ?rtb10
        case ytb10 => intro W hSw; go_simp; try with_reducible rfl
        try simp only [Act.put, List.setIfInBounds_toArray, List.set_cons_zero, List.set_cons_succ]
        refine callL 10 rfl (by kernel_rfl) rfl (fun K hK => ?_)
        go_simp
        have hal : Below Wd.heap.size Wd (Wd.alloc (.cells #[.int .i64 i] 3)) := (Below.refl _ _).alloc (Nat.le_refl _) _
        have hc1 := (hal.cell (p := ⟨w2.heap.size + 2, g, none⟩) hob).trans hH.1
        have hc2 := (hal.cell (p := ⟨yb, 7, none⟩) hbl).trans hH.2
        refine hK.out _ _ ⟨hc1, hc2⟩ (fun hH => ?_)
        clear hK K
        try simp only [Act.put, List.setIfInBounds_toArray, List.set_cons_zero, List.set_cons_succ]
        refine callL 11 rfl (by kernel_rfl) rfl (fun K hK => ?_)
        refine op_push_at TIlp _ (.tmp 49) (.tmp 51) rfl w.heap.size _ (zs yo) i rfl HO.out hln rfl hwz ?_
        intro v9 w9 ho9 hg9 hat9
        obtain ⟨r1, r2⟩ := HRd.out w9 hg9
        have q1 := r1.cell g (o6_at f2 hg6)
        rw [hfp] at q1
        have q2 := r2.cell 7 (v := .slice ay (zs yo).length cy) rfl
        have q3 := r2.frozen 7
        have LF := Lib.hid (HA.out w9 v9 ho9 hg9 hat9)
        obtain ⟨a9, c9, rfl, _, _⟩ := ho9.ints
        clear ho9 hg9 hat9 r1 r2 HRd HA HO hc1 hc2
        refine hK.out _ _ ⟨q1, q2⟩ (fun hH => ?_)
        clear hK K
        try simp only [Act.put, List.setIfInBounds_toArray, List.set_cons_zero, List.set_cons_succ]
        refine callL 12 rfl (by kernel_rfl) rfl (fun K hK => ?_)
        go_simp
        refine hK.out _ _ ⟨q1, q2⟩ (fun hH => ?_)
        clear hK K
        try simp only [Act.put, List.setIfInBounds_toArray, List.set_cons_zero, List.set_cons_succ]
        refine callL 13 rfl (by kernel_rfl) rfl (fun K hK => ?_)
        go_simp
        refine hK.out _ _ ⟨q1, q2⟩ (fun hH => ?_)
        clear hK K
        try simp only [Act.put, List.setIfInBounds_toArray, List.set_cons_zero, List.set_cons_succ]
        refine lastL rfl (by kernel_rfl) (by kernel_rfl) (by kernel_rfl) rfl (fun K hK => ?_)
        go_simp
        refine hK.out _ _ ?_
        clear hK K
        try simp only [Act.put]
        simp only [List.length_append, List.length_singleton] at LF
        clear q1 q2 q3 hH
        go_wp2
        go_roundw
        case rel => exact ⟨i + 1, f2, _, by omega, by go_num, LF.out, by rw [FB.out]; exact FX.out, FO.out _⟩
        case measure => simp [intOf]; omega

end Go.Proofs.Ytnjjbplocokdeaa

/- The program's lists of lanes and their depth, each by a walk of its text; condition: the list is shorter than 2^40. -/
namespace Go.Proofs.Ytnjjbplocokdeaa
open Go.RowKit

section
variable {T E Ep : TypeId} {w w' : World} {B : Nat} {u : Value} {L : List La}
theorem LnM.mono {B' : Nat} (h : LnM T E w B L) (hB : B' ≤ B) : LnM T E w B' L := ⟨fun x hx => ⟨Nat.le_trans hB (h.str x hx).1, (h.str x hx).2⟩, fun x hx => (h.row x hx).mono hB, h.nd⟩
theorem Lnw.mono {B' : Nat} (h : Lnw T E Ep w B u L) (hB : B' ≤ B) : Lnw T E Ep w B' u L := ⟨h.own.mono hB, h.lns.mono hB⟩
/-- A row of another type grows. -/
theorem Lnw.kept (h : Lnw T E Ep w B u L) {v : Value} {t : TypeId} (hg : w.grownBy w' v.ownBlock) (hv : ∀ g, v.ownBlock = some g → ∃ cur, w.heap[g]? = some (.cells cur t)) (h1 : t ≠ T) (h2 : t ≠ E) (h3 : t ≠ Ep) : Lnw T E Ep w' B u L := by
  refine ⟨h.own.same fun g e => hg.block g (h.own.lt g e).2 fun e' => ?_, h.lns.grown hg (fun x hx e => ?_) fun x hx g e e' => ?_⟩
  · obtain ⟨c1, hc1⟩ := hv g e'.symm
    obtain ⟨c2, hc2⟩ := h.own.typ e
    rw [hc1] at hc2
    injection hc2 with hc2
    injection hc2 with _ h6
    exact h3 h6
  · obtain ⟨c1, hc1⟩ := hv _ e
    have := (h.lns.str x hx).2
    unfold Str at this
    rw [hc1] at this
    injection this with this
    injection this with _ h6
    exact h1 h6
  · obtain ⟨c1, hc1⟩ := hv g e'
    obtain ⟨c2, hc2⟩ := (h.lns.row x hx).typ e
    rw [hc1] at hc2
    injection hc2 with hc2
    injection hc2 with _ h6
    exact h2 h6
/-- A lane's pointer, and its list of indexes. -/
theorem Lnw.at (h : Lnw T E Ep w B u L) {k : Nat} (hk : k < L.length) : ∃ g cap, u = .slice (some ⟨g, 0, none⟩) L.length cap ∧ w.cell? ⟨g, k, none⟩ = some (.pointer (some ⟨L[k].b, 0, none⟩)) ∧ w.cell? ⟨L[k].b, 7, none⟩ = some L[k].v ∧ ∃ a c, L[k].v = .slice a L[k].os.length c := by
  obtain ⟨g, cap, hu, _, _, hc⟩ := h.own.row (by simpa using (by omega : 0 < L.length))
  obtain ⟨a, c, e, _, _⟩ := (h.lns.row _ (List.getElem_mem hk)).ints
  refine ⟨g, cap, by rw [hu]; simp, ?_, (h.lns.str _ (List.getElem_mem hk)).2.cell 7 rfl, a, c, by rw [e, zs_len]⟩
  have := hc k (by simpa using hk)
  simpa [ptC] using this
end
theorem one_slice (a : Option Addr) (n c : Nat) : (Value.slice a n c).oneCell' = true := rfl

theorem rw_inf : (Try.prog.info? 34).map (fun i => (i.zero, i.size, i.bytes)) = some (some (.slice none 0 0), 1, 24) := by kernel_rfl
set_option maxRecDepth 8000 in
set_option maxHeartbeats 2000000 in
theorem impl_LanesOf (xs : List Tx) (a : Option Addr) (cap : Nat) (fp : List Nat) (w : World) (hbig : xs.length ≤ 1099511627776) (h : Txs w xs (.slice a xs.length cap) fp) :
    Calls Try.prog 15 #[.slice a xs.length cap] w fun e w' => ∃ u, e = .returned u ∧ OwnL 34 3 w' w.heap.size u (lnsN xs) ∧ Below w.heap.size w w' := by
  have hb0 : Below w.heap.size w (w.alloc (.cells #[] 34)) := (Below.refl _ _).alloc (Nat.le_refl _) _
  have ho0 := OwnC.empty 34 w (Nat.le_refl _)
  have H := Lib.hid (h.under hb0); have Hb := Lib.hid hb0; have Ho := Lib.hid ho0; clear h hb0 ho0
  have Hno := Lib.hid (lns_no (xs := xs))
  have Hyes := Lib.hid (lns_yes (xs := xs))
  have Hlen := Lib.hid (vld_len (xs := xs))
  have Hcnt := Lib.hid (lanes_cnt xs)
  have hz : (w.alloc (.cells #[] 34)).heap.size = w.heap.size + 1 := by simp
  go_enter Try.func15, Try.ntmps15
  go_wp2_with fail
  generalize (w.alloc (.cells #[] 34)) = W0 at *
  refine (impl_lanesOf xs a cap fp W0 hbig H.out).mono ?_
  rintro e w1 ⟨hb1, ⟨hv, rfl⟩ | ⟨hv, u, L, rfl, hl, hos, hz0⟩⟩
  · have Hl := Lib.hid (Hno.out hv).1
    have HO := Lib.hid (Ho.out.below hb1)
    have Hb := Lib.hid (below_step Hb.out Hb.out.size hb1); clear hb1 hv hz
    go_wp2
    go_loopw [3, 16] (fun u i wr => u = .slice (some ⟨w.heap.size, 0, none⟩) 0 0 ∧ i = .int .i64 0 ∧ wr = w1) (fun _ _ _ => 0)
    case atStart => exact ⟨rfl, rfl, rfl⟩
    case round =>
      obtain ⟨rfl, rfl, rfl⟩ := hrel
      go_wp2
      go_ret
      refine ⟨_, rfl, ?_, Hb.out⟩
      rw [Hl.out]
      exact OwnR.nil HO.out (fun g e => (HO.out.lt g e).2)
  · have Hl := Lib.hid (Hyes.out hv).1
    have hlen := Hlen.out hv
    have HO := Lib.hid (Ho.out.below hb1)
    have HL := Lib.hid (hl.mono Hb.out.size)
    have Hb := Lib.hid (below_step Hb.out Hb.out.size hb1)
    have hll : L.length ≤ 16 := by
      have h1 := Hcnt.out
      rw [← hos, List.length_map] at h1
      omega
    have Hos := Lib.hid hos; clear hb1 hv hz hz0 hos hl hlen
    obtain ⟨au, cu, rfl, _⟩ := HL.out.own.slice
    rw [List.length_map] at HL
    go_wp2
    go_loopw [3, 16] (fun u i wr => ∃ k : Nat, k ≤ L.length ∧ i = .int .i64 k ∧ OwnC 34 wr w.heap.size u ((L.take k).map La.v) ∧ Lnw 61 3 55 wr w.heap.size (.slice au L.length cu) L ∧ Below w.heap.size w wr) (fun _ i _ => L.length - (intOf i).toNat)
    case atStart => exact ⟨0, Nat.zero_le _, rfl, HO.out, HL.out, Hb.out⟩
    case round =>
      clear HO HL Hb
      obtain ⟨k, hk, rfl, ho, hl, hb⟩ := hrel
      have HO := Lib.hid ho; have HL := Lib.hid hl; have Hb := Lib.hid hb; clear ho hl hb
      obtain ⟨av, cv, rfl, _⟩ := HO.out.slice
      by_cases hlt : k < L.length
      case neg =>
        have hke : k = L.length := by omega
        subst hke
        rw [List.take_length] at HO
        have hlt' : ¬ (L.length : Int) < (L.length : Int) := by omega
        go_wp2
        go_ret
        refine ⟨_, rfl, ?_, Hb.out⟩
        rw [Hl.out, ← Hos.out]
        have := ownL_of HL.out.lns HO.out (by decide)
        simpa using this
      case pos =>
        have hlt' : (k : Int) < (L.length : Int) := by omega
        obtain ⟨g, cap', e1, c1, c2, ay, cy, e2⟩ := HL.out.at hlt
        simp only [Value.slice.injEq] at e1
        obtain ⟨rfl, -, -⟩ := e1
        have Hs := Lib.hid (show (L.take (k + 1)).map La.v = (L.take k).map La.v ++ [.slice ay L[k].os.length cy] by rw [List.take_succ_eq_append_getElem hlt, List.map_append, List.map_singleton, e2])
        rw [e2] at c2
        have hol : ((L.take k).map La.v).length ≤ 1048576 := by simp; omega
        have hB := Hb.out.size
        clear e2
        generalize L[k] = y at *
        obtain ⟨yl, yn, yo, yb, yv⟩ := y
        dsimp only at *
        generalize yo.length = yn' at *
        go_wp2_with (at_builtin; refine wpList_pushC Try.underlying31 rw_inf rfl (by decide) rfl (.tmp 20) (.tmp 25) rfl rfl HO.out rfl hol rfl hB ?_; intro v9 w9 ho9 hg9 hat9)
        go_roundw
        case rel => exact ⟨k + 1, by omega, by go_num, by rw [Hs.out]; exact ho9, HL.out.kept hg9 (fun g e => HO.out.typ e) (by decide) (by decide) (by decide), Hb.out.grown hg9 Hb.out.size (fun g e => (HO.out.lt g e).1)⟩
        case measure => simp [intOf]; omega

set_option maxRecDepth 8000 in
set_option maxHeartbeats 2000000 in
theorem impl_LanesDepth (xs : List Tx) (a : Option Addr) (cap : Nat) (fp : List Nat) (w : World) (hbig : xs.length ≤ 1099511627776) (h : Txs w xs (.slice a xs.length cap) fp) :
    Calls Try.prog 25 #[.slice a xs.length cap] w fun e w' => e = .returned (.int .i64 (dpZ xs)) ∧ Below w.heap.size w w' := by
  have HV := Lib.hid (impl_lanesOf xs a cap fp w hbig h); clear h
  have Hno := Lib.hid (lns_no (xs := xs))
  have Hyes := Lib.hid (lns_yes (xs := xs))
  generalize dpZ xs = D at *
  go_enter Try.func25, Try.ntmps25
  go_wp2_with fail
  refine HV.out.mono ?_
  rintro e w1 ⟨hb1, ⟨hv, rfl⟩ | ⟨hv, u, L, rfl, hl, hos, hz0⟩⟩
  · have Hd := Lib.hid (Hno.out hv).2
    have Hb := Lib.hid hb1; clear hb1 hv
    go_wp2
    go_ret
    exact ⟨ret_int (by rw [Hd.out]), Hb.out⟩
  · have Hd := Lib.hid (show (maxL (L.map La.os) : Int) = D by rw [hos]; exact (Hyes.out hv).2.symm)
    have HL := Lib.hid hl
    have Hb := Lib.hid hb1; clear hb1 hv hz0 hos hl HV
    obtain ⟨au, cu, rfl, hum⟩ := HL.out.own.slice
    rw [List.length_map] at HL hum
    unfold maxLen at hum
    go_wp2
    go_loopw [5, 17] (fun v i wr => ∃ k : Nat, k ≤ L.length ∧ i = .int .i64 k ∧ v = .int .i64 (maxL ((L.map La.os).take k) : Nat) ∧ wr = w1) (fun _ i _ => L.length - (intOf i).toNat)
    case atStart => exact ⟨0, Nat.zero_le _, rfl, rfl, by first | trivial | rfl⟩
    case round =>
      obtain ⟨k, hk, rfl, rfl, rfl⟩ := hrel
      by_cases hlt : k < L.length
      case neg =>
        have hke : k = L.length := by omega
        subst hke
        have hlt' : ¬ (L.length : Int) < (L.length : Int) := by omega
        rw [List.take_of_length_le (by simp)]
        have HD := Lib.hid Hd.out
        generalize ((maxL (L.map La.os) : Nat) : Int) = q at *
        go_wp2
        go_ret
        exact ⟨ret_int (by rw [HD.out]), Hb.out⟩
      case pos =>
        have hlt' : (k : Int) < (L.length : Int) := by omega
        obtain ⟨g, cap', e1, c1, c2, ay, cy, e2⟩ := HL.out.at hlt
        simp only [Value.slice.injEq] at e1
        obtain ⟨rfl, -, -⟩ := e1
        rw [e2] at c2
        have Hs := Lib.hid (show ((maxL ((L.map La.os).take (k + 1)) : Nat) : Int) = max ((maxL ((L.map La.os).take k) : Nat) : Int) (L[k].os.length : Int) by rw [maxL_step (by simpa using hlt), List.getElem_map]; omega)
        have hmx : ∀ (P : Program) ats ty W, (Builtin.max_ ats ty #[.int .i64 ((maxL ((L.map La.os).take k) : Nat) : Int), .int .i64 (L[k].os.length : Int)]).run P W = .ok (.int .i64 ((maxL ((L.map La.os).take (k + 1)) : Nat) : Int)) W := fun P ats ty W => by rw [Hs.out]; exact run_max2 ats ty _ _ W
        clear e2
        obtain ⟨q2, hq2⟩ : ∃ q, q = ((maxL ((L.map La.os).take (k + 1)) : Nat) : Int) := ⟨_, rfl⟩
        rw [← hq2] at hmx
        have Hq2 := Lib.hid hq2; clear hq2 Hs
        generalize ((maxL ((L.map La.os).take k) : Nat) : Int) = q at *
        generalize L[k] = y at *
        obtain ⟨yl, yn, yo, yb, yv⟩ := y
        dsimp only at *
        generalize yo.length = n at *
        go_wp2
        go_roundw
        case rel => exact ⟨k + 1, by omega, by go_num, by rw [Hq2.out], by first | trivial | rfl⟩
        case measure => simp [intOf]; omega

end Go.Proofs.Ytnjjbplocokdeaa

/- Two equal lists of lanes are found equal (laws.sameLanes), by a walk of its text; condition: the lists are shorter than 2^40. And what the laws of lanes read of them. -/
namespace Go.Proofs.Ytnjjbplocokdeaa
open Go.RowKit

set_option maxHeartbeats 1000000 in
theorem laws_sameLanes (ls : List (List Nat)) (a a' : Option Addr) (cap cap' : Nat) (fp fp' : List Nat) (w : World) (hbig : ls.length ≤ 1099511627776) (hrow : ∀ l ∈ ls, l.length ≤ 1099511627776) (h : Lns w ls (.slice a ls.length cap) fp) (h' : Lns w ls (.slice a' ls.length cap') fp') :
    Calls Try.prog 17 #[.slice a ls.length cap, .slice a' ls.length cap'] w fun e w' => e = .returned (.bool true) ∧ Below w.heap.size w w' := by
  have H := Lib.hid h; have H' := Lib.hid h'; have HR := Lib.hid hrow; clear h h' hrow
  have hl1 : ((ls.length : Int) == (ls.length : Int)) = true := by simp
  go_enter Try.func17, Try.ntmps17
  go_wp2
  go_loopw [5] (fun i wr => ∃ k : Nat, k ≤ ls.length ∧ i = .int .i64 k ∧ Drawn w wr) (fun i _ => ls.length - (intOf i).toNat)
  case atStart => exact ⟨0, by omega, rfl, Drawn.refl _⟩
  case round =>
    obtain ⟨k, hk, rfl, hwr⟩ := hrel
    by_cases hlt : k < ls.length
    case neg =>
      have hlt' : ¬ (k : Int) < (ls.length : Int) := by omega
      go_wp2
      go_ret
      exact ⟨rfl, hwr.below _⟩
    case pos =>
      have hlt' : (k : Int) < (ls.length : Int) := by omega
      obtain ⟨b, off, rfl, _, hat⟩ := (H.out.under (hwr.below _)).at (by omega)
      obtain ⟨b2, off2, rfl, _, hat2⟩ := (H'.out.under (hwr.below _)).at (by omega)
      obtain ⟨pa, pc, c0, i0, _⟩ := hat k hlt
      obtain ⟨qa, qc, d0, j0, _⟩ := hat2 k hlt
      have hlk : (zs ls[k]).length ≤ 1099511627776 := by rw [zs_len]; exact HR.out _ (List.getElem_mem hlt)
      have Hs := Lib.hid (fun m => laws_sameInts' pa qa pc qc (zs ls[k]) (wr.drewN m) hlk i0 j0)
      rw [zs_len] at Hs
      clear hat hat2 i0 j0 hlk
      have Hwr := Lib.hid hwr; clear hwr
      generalize ls[k].length = n at *
      go_wp2_with fail
      go_quiet ((go_at_call 35; exact Calls.quiet_of (Hs.out _)))
      clear c0 d0
      go_wp2
      go_roundw
      case rel => exact ⟨k + 1, by omega, by go_num, Hwr.out.drewN _⟩
      case measure => simp [intOf]; omega

/-- What is read of a list of lanes. -/
theorem lns_read {w : World} {ls : List (List Nat)} {a : Option Addr} {n cap : Nat} {fp : List Nat} (h : Lns w ls (.slice a n cap) fp) (hne : 0 < ls.length) : ∃ b off, a = some ⟨b, off, none⟩ ∧ b < w.heap.size ∧ ∀ k (hk : k < ls.length),
    ∃ pa pc, w.cell? ⟨b, off + k, none⟩ = some (.slice pa (ls[k]).length pc) ∧ ((ls[k]).length = 0 ∨ ∃ rb ro, pa = some ⟨rb, ro, none⟩ ∧ rb < w.heap.size ∧ ∀ j (hj : j < (ls[k]).length), w.cell? ⟨rb, ro + j, none⟩ = some (.int .i64 (((ls[k])[j] : Nat) : Int))) := by
  obtain ⟨b, off, rfl, hbw, hat⟩ := h.at hne
  refine ⟨b, off, rfl, hbw, fun k hk => ?_⟩
  obtain ⟨pa, pc, c0, i0, _⟩ := hat k hk
  refine ⟨pa, pc, c0, ?_⟩
  by_cases h0 : (ls[k]).length = 0
  · exact .inl h0
  · obtain ⟨rb, ro, rfl, hrb, hc⟩ := i0.cell (by rw [zs_len]; omega)
    refine .inr ⟨rb, ro, rfl, hrb, fun j hj => ?_⟩
    have := hc j (by rw [zs_len]; exact hj)
    rwa [zs_at] at this
theorem lns_le {xs : List Tx} (h : vldB xs = true) : (lnsN xs).length ≤ 16 ∧ ∀ l ∈ lnsN xs, l.length ≤ 16 := by
  have hx := vld_len h
  rw [(lns_yes h).1]
  refine ⟨Nat.le_trans (lanes_cnt xs) hx, fun l hl => ?_⟩
  obtain ⟨m, _, rfl⟩ := List.mem_map.1 hl
  exact Nat.le_trans (lane_len xs m) hx
theorem lns_small (xs : List Tx) : (lnsN xs).length ≤ 16 ∧ ∀ l ∈ lnsN xs, l.length ≤ 16 := by
  cases h : vldB xs with
  | true => exact lns_le h
  | false => rw [(lns_no h).1]; exact ⟨Nat.zero_le _, fun _ h => by cases h⟩
theorem foldl_max (ls : List (List Nat)) : ∀ n : Nat, ls.foldl (fun n l => max n l.length) n = 0 ↔ n = 0 ∧ ∀ l ∈ ls, l.length = 0 := by
  intro n
  induction ls generalizing n with
  | nil => simp
  | cons l ls ih =>
    rw [List.foldl_cons, ih]
    simp only [List.mem_cons, forall_eq_or_imp]
    constructor
    · rintro ⟨h1, h2⟩; exact ⟨by omega, by omega, h2⟩
    · rintro ⟨h1, h2, h3⟩; exact ⟨by omega, h3⟩
/-- The longest lane is empty if and only if there is nothing. -/
theorem maxL_zero (xs : List Tx) : maxL (lanesN xs) = 0 ↔ xs.length = 0 := by
  unfold maxL
  rw [foldl_max]
  constructor
  · rintro ⟨-, h⟩
    have hs := lanes_sum xs
    apply Classical.byContradiction
    intro hne
    obtain ⟨m, hm, hin, _⟩ := lab_of (xs := xs) (i := 0) (by omega)
    have := h (laneN xs m) (List.mem_map.2 ⟨m, hm, rfl⟩)
    have := List.length_pos_of_mem hin
    omega
  · intro h
    refine ⟨rfl, fun l hl => ?_⟩
    obtain ⟨m, _, rfl⟩ := List.mem_map.1 hl
    have := lane_len xs m
    omega
/-- What is read of the lanes ls. -/
structure Lrd (w : World) (ls : List (List Nat)) (b off : Nat) (P : Nat → Value) (R O : Nat → Nat) : Prop where
  lb : b < w.heap.size
  row : ∀ k (hk : k < ls.length), w.cell? ⟨b, off + k, none⟩ = some (P k) ∧ ∃ c, P k = .slice (some ⟨R k, O k, none⟩) (ls[k]).length c
  lr : ∀ k, k < ls.length → R k < w.heap.size
  cell : ∀ k (hk : k < ls.length) j (hj : j < (ls[k]).length), w.cell? ⟨R k, O k + j, none⟩ = some (.int .i64 (((ls[k])[j] : Nat) : Int))
theorem lns_rd {w : World} {ls : List (List Nat)} {a : Option Addr} {n cap : Nat} {fp : List Nat} (h : Lns w ls (.slice a n cap) fp) (hne : 0 < ls.length) (hpos : ∀ k (hk : k < ls.length), 0 < (ls[k]).length) : ∃ b off P R O, a = some ⟨b, off, none⟩ ∧ Lrd w ls b off P R O := by
  obtain ⟨b, off, rfl, hb, hat⟩ := lns_read h hne
  have key : ∀ k, ∃ q : Value × Nat × Nat, ∀ (hk : k < ls.length), w.cell? ⟨b, off + k, none⟩ = some q.1 ∧ (∃ c, q.1 = .slice (some ⟨q.2.1, q.2.2, none⟩) (ls[k]).length c) ∧ q.2.1 < w.heap.size ∧ ∀ j (hj : j < (ls[k]).length), w.cell? ⟨q.2.1, q.2.2 + j, none⟩ = some (.int .i64 (((ls[k])[j] : Nat) : Int)) := by
    intro k
    by_cases hk : k < ls.length
    · obtain ⟨pa, pc, c0, h0 | ⟨rb, ro, rfl, hrb, hc⟩⟩ := hat k hk
      · have := hpos k hk; omega
      · exact ⟨(_, rb, ro), fun _ => ⟨c0, ⟨pc, rfl⟩, hrb, hc⟩⟩
    · exact ⟨(undef, 0, 0), fun h => absurd h hk⟩
  exact ⟨b, off, fun k => (key k).choose.1, fun k => (key k).choose.2.1, fun k => (key k).choose.2.2, rfl, hb, fun k hk => ⟨((key k).choose_spec hk).1, ((key k).choose_spec hk).2.1⟩, fun k hk => ((key k).choose_spec hk).2.2.1, fun k hk j hj => ((key k).choose_spec hk).2.2.2 j hj⟩
theorem Lrd.below {w w' : World} {ls : List (List Nat)} {b off : Nat} {P : Nat → Value} {R O : Nat → Nat} (h : Lrd w ls b off P R O) (hb : Below w.heap.size w w') : Lrd w' ls b off P R O :=
  ⟨Nat.lt_of_lt_of_le h.lb hb.size, fun k hk => ⟨(hb.cell (p := ⟨b, off + k, none⟩) h.lb).trans (h.row k hk).1, (h.row k hk).2⟩, fun k hk => Nat.lt_of_lt_of_le (h.lr k hk) hb.size, fun k hk j hj => (hb.cell (p := ⟨R k, O k + j, none⟩) (h.lr k hk)).trans (h.cell k hk j hj)⟩
def sumT (ls : List (List Nat)) (k : Nat) : Nat := ((ls.take k).map List.length).sum
theorem sumT_step {ls : List (List Nat)} {k : Nat} (h : k < ls.length) : sumT ls (k + 1) = sumT ls k + ls[k].length := by
  unfold sumT; rw [List.take_succ_eq_append_getElem h, List.map_append, List.sum_append]; simp
theorem sumT_le (ls : List (List Nat)) (k : Nat) : sumT ls k ≤ sumT ls ls.length := by
  unfold sumT
  rw [List.take_length]
  have h := List.take_append_drop k ls
  have : (ls.map List.length).sum = ((ls.take k).map List.length).sum + ((ls.drop k).map List.length).sum := by
    rw [← List.sum_append, ← List.map_append, h]
  omega
/-- What the laws ask of lanes that are not none. -/
structure Plw (xs : List Tx) (ls : List (List Nat)) : Prop where
  pos : ∀ i (hi : i < ls.length), 0 < (ls[i]).length
  asc : ∀ i (hi : i < ls.length), 0 < i → ∀ (h0 : 0 < (ls[i]).length) (h1 : 0 < (ls[i - 1]).length), (ls[i - 1])[0] < (ls[i])[0]
  lt : ∀ i (hi : i < ls.length) k (hk : k < (ls[i]).length), (ls[i])[k] < xs.length
  up : ∀ i (hi : i < ls.length) k (hk : k < (ls[i]).length), 0 < k → (ls[i])[k - 1] < (ls[i])[k]
  sum : sumT ls ls.length = xs.length
  apart : ∀ i (hi : i < ls.length) j (hj : j < ls.length), i ≠ j → ∀ a (ha : a < (ls[i]).length) b (hb : b < (ls[j]).length), cfB (xs.getD (ls[i])[a] tx0) (xs.getD (ls[j])[b] tx0) = false
  conn : ∀ i (hi : i < ls.length) a (ha : a < (ls[i]).length), 0 < a → ∃ b, ∃ (hb : b < (ls[i]).length), a ≠ b ∧ cfB (xs.getD (ls[i])[a] tx0) (xs.getD (ls[i])[b] tx0) = true
theorem plw_of {xs : List Tx} {ls : List (List Nat)} (hls : ls = lnsN xs) (h0 : 0 < ls.length) : vldB xs = true ∧ Plw xs ls := by
  have hv : vldB xs = true := by
    cases h : vldB xs with
    | true => rfl
    | false => rw [hls, (lns_no h).1] at h0; simp at h0
  refine ⟨hv, ?_⟩
  rw [(lns_yes hv).1] at hls
  subst hls
  have hl : (lanesN xs).length = (labsTo xs xs.length).length := by unfold lanesN lanesTo; rw [List.length_map]
  have hat : ∀ k (hk : k < (lanesN xs).length), (lanesN xs)[k] = laneN xs ((labsTo xs xs.length)[k]'(by omega)) := fun k hk => by
    obtain ⟨m, _, e1, e2, _⟩ := lanes_at hk
    rw [e2, e1]
  have hpos : ∀ k (hk : k < (lanesN xs).length), 0 < ((lanesN xs)[k]).length := fun k hk => by
    obtain ⟨m, _, _, e2, e3, _⟩ := lanes_at hk
    rw [e2]; exact e3
  have hhead : ∀ k (hk : k < (lanesN xs).length) (h : 0 < ((lanesN xs)[k]).length), ((lanesN xs)[k])[0] = (labsTo xs xs.length)[k]'(by omega) := fun k hk h => by
    have h2 : 0 < (laneN xs ((labsTo xs xs.length)[k]'(by omega))).length := by rw [← hat k hk]; exact h
    have := lane_head h2
    rw [← this]
    simp only [hat k hk]
  have hmem : ∀ k (hk : k < (lanesN xs).length) j (hj : j < ((lanesN xs)[k]).length), ((lanesN xs)[k])[j] ∈ laneN xs ((labsTo xs xs.length)[k]'(by omega)) := fun k hk j hj => by
    have := List.getElem_mem hj
    rw [← hat k hk]; exact this
  have hup : ∀ i (hi : i < (lanesN xs).length) k j (hk : k < ((lanesN xs)[i]).length), j < k → ∀ (hj : j < ((lanesN xs)[i]).length), ((lanesN xs)[i])[j] < ((lanesN xs)[i])[k] := fun i hi k j hk hjk hj => by
    have hp : ((lanesN xs)[i]).Pairwise (· < ·) := by rw [hat i hi]; exact lane_asc xs _
    exact List.pairwise_iff_getElem.1 hp j k hj hk hjk
  refine ⟨hpos, fun i hi h h1 h2 => ?_, fun i hi k hk => (mem_lane.1 (hmem i hi k hk)).1, fun i hi k hk h => hup i hi k (k - 1) hk (by omega) (by omega), ?_, fun i hi j hj hne a ha b hb => ?_, fun i hi a ha h => ?_⟩
  · rw [hhead i hi, hhead (i - 1) (by omega)]
    exact List.pairwise_iff_getElem.1 (labs_asc xs xs.length) (i - 1) i (by omega) (by omega) (by omega)
  · unfold sumT; rw [List.take_length]; exact lanes_sum xs
  · refine lanes_apart (fun e => hne ?_) (hmem i hi a ha) (hmem j hj b hb)
    rcases Nat.lt_trichotomy i j with h | h | h
    · have := List.pairwise_iff_getElem.1 (labs_asc xs xs.length) i j (by omega) (by omega) h; omega
    · exact h
    · have := List.pairwise_iff_getElem.1 (labs_asc xs xs.length) j i (by omega) (by omega) h; omega
  · have hne : ((lanesN xs)[i])[a] ≠ (labsTo xs xs.length)[i]'(by omega) := by
      rw [← hhead i hi (by omega)]
      have := hup i hi a 0 ha h (by omega)
      omega
    obtain ⟨k, hk, hne2, hc⟩ := lanes_conn (hmem i hi a ha) hne
    rw [← hat i hi] at hk
    obtain ⟨b, hb, rfl⟩ := List.mem_iff_getElem.1 hk
    exact ⟨b, hb, fun e => hne2 (by subst e; rfl), hc⟩
/-- Another transaction of the lane ahead of place k conflicts with this one. -/
def fndB (xs : List Tx) (l : List Nat) (a k : Nat) : Bool := (List.range k).any fun b => decide (a ≠ b) && cfB (xs.getD (l.getD a 0) tx0) (xs.getD (l.getD b 0) tx0)
theorem fnd_step (xs : List Tx) (l : List Nat) (a k : Nat) : fndB xs l a (k + 1) = (fndB xs l a k || (decide (a ≠ k) && cfB (xs.getD (l.getD a 0) tx0) (xs.getD (l.getD k 0) tx0))) := by
  unfold fndB; rw [List.range_succ, List.any_append]; simp
theorem fnd_yes {xs : List Tx} {ls : List (List Nat)} (h : Plw xs ls) {i a : Nat} (hi : i < ls.length) (ha : a < (ls[i]).length) (h0 : 0 < a) : fndB xs ls[i] a (ls[i]).length = true := by
  obtain ⟨b, hb, hne, hc⟩ := h.conn i hi a ha h0
  unfold fndB
  rw [List.any_eq_true]
  refine ⟨b, List.mem_range.2 hb, ?_⟩
  rw [Bool.and_eq_true, decide_eq_true_eq]
  refine ⟨hne, ?_⟩
  simpa [List.getD, ha, hb] using hc

end Go.Proofs.Ytnjjbplocokdeaa
