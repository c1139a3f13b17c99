/- A list of rows of numbers, truth values, texts and lists of numbers that lies in memory of its own, no two parts in one block; general steps, nothing here speaks of the program. -/
import Derived.Test.YtkndndcjchlpdaaBase
import Derived.Test.YtkndndcjchlpdaaApp
import Derived.Test.YtkndndcjchlpdaaDt
import Derived.Test.YtkndndcjchlpdaaBld
import Derived.Laws.OwnMore
namespace Go.Proofs.Ytkndndcjchlpdaa
open Go.RowKit

/-- A field of a row. -/
inductive Fd where
  | i (n : Int)
  | b (x : Bool)
  | s (t : ByteArray)
  | l (xs : List Int)
def Fd.dt : Fd → Dt
  | .i n => .i n
  | .b x => .b x
  | .s t => .s t
  | .l xs => intsD xs
/-- The value is the field; a list lies in a row of its own from block B on. -/
def FdOk (Ei : TypeId) (w : World) (B : Nat) (c : Value) : Fd → Prop
  | .i n => c = .int .i64 n
  | .b x => c = .bool x
  | .s t => c = .string t
  | .l xs => Own Ei w B c xs
def Apart (c d : Value) : Prop := ∀ g, c.ownBlock = some g → d.ownBlock ≠ some g
theorem Apart.symm {c d : Value} (h : Apart c d) : Apart d c := fun g hd hc => h g hc hd
theorem Own.same {E : TypeId} {w w' : World} {B : Nat} {v : Value} {xs : List Int} (h : Own E w B v xs) (hb : ∀ g, v.ownBlock = some g → w'.heap[g]? = w.heap[g]?) : Own E w' B v xs := by
  refine ⟨h.1, ?_⟩
  rcases h.2 with h0 | ⟨g, cap, cur, e, hg, hh, rest⟩
  · exact .inl h0
  · exact .inr ⟨g, cap, cur, e, hg, by rw [hb g (by rw [e]; rfl)]; exact hh, rest⟩
theorem row_same {E : TypeId} {sz : Nat} {w w' : World} {B n : Nat} {v : Value} {cs : List Value} (h : w.ownsRow B E sz v n cs) (hb : ∀ g, v.ownBlock = some g → w'.heap[g]? = w.heap[g]?) : w'.ownsRow B E sz v n cs := by
  refine ⟨h.1, ?_⟩
  rcases h.2 with h0 | ⟨g, cap, cur, e, hg, hh, rest⟩
  · exact .inl h0
  · exact .inr ⟨g, cap, cur, e, hg, by rw [hb g (by rw [e]; rfl)]; exact hh, rest⟩
theorem FdOk.same {Ei : TypeId} {w w' : World} {B : Nat} {c : Value} {f : Fd} (h : FdOk Ei w B c f) (hb : ∀ g, c.ownBlock = some g → w'.heap[g]? = w.heap[g]?) : FdOk Ei w' B c f := by
  cases f with
  | l xs => exact Own.same h hb
  | _ => exact h
theorem FdOk.lt {Ei : TypeId} {w : World} {B : Nat} {c : Value} {f : Fd} (h : FdOk Ei w B c f) : ∀ g, c.ownBlock = some g → B ≤ g ∧ g < w.heap.size := by
  cases f with
  | l xs => exact Own.lt h
  | i n => rw [show c = _ from h]; intro g e; cases e
  | b n => rw [show c = _ from h]; intro g e; cases e
  | s n => rw [show c = _ from h]; intro g e; cases e
theorem FdOk.rd {Ei : TypeId} {w : World} {B : Nat} {c : Value} {f : Fd} (h : FdOk Ei w B c f) : ∃ fp, Rd w f.dt c fp ∧ ∀ g ∈ fp, B ≤ g ∧ c.ownBlock = some g := by
  cases f with
  | l xs => exact Rd.of_own h
  | i n => rw [show c = _ from h]; exact ⟨[], .i n, by simp⟩
  | b n => rw [show c = _ from h]; exact ⟨[], .b n, by simp⟩
  | s n => rw [show c = _ from h]; exact ⟨[], .s n, by simp⟩

/-- v owns the rows es, in blocks from B on below hi, each part in a block of its own. -/
structure OwnR (E Ei : TypeId) (sz : Nat) (w : World) (B hi : Nat) (v : Value) (es : List (List Fd)) : Prop where
  szs : ∀ e ∈ es, e.length = sz
  row : ∃ cs : List Value, w.ownsRow B E sz v es.length cs ∧ (∀ k j (hk : k < es.length) (hj : j < (es[k]).length), ∃ c, cs[k * sz + j]? = some c ∧ FdOk Ei w B c (es[k])[j]) ∧
    (∀ (p q : Nat) c d, cs[p]? = some c → cs[q]? = some d → p ≠ q → Apart c d) ∧ (∀ (p : Nat) c, cs[p]? = some c → Apart c v) ∧
    (∀ (p : Nat) c g, cs[p]? = some c → c.ownBlock = some g → B ≤ g ∧ g < hi) ∧ ∀ g, v.ownBlock = some g → g < hi
theorem OwnR.nil {E Ei : TypeId} {sz : Nat} {w : World} {B hi : Nat} {v : Value} (h : w.ownsRow B E sz v 0 []) (hh : ∀ g, v.ownBlock = some g → g < hi) : OwnR E Ei sz w B hi v [] := ⟨by simp, [], h, fun k j hk => by simp at hk, fun p q c d h => by simp at h, fun p c h => by simp at h, fun p c g h => by simp at h, hh⟩
theorem OwnR.mono {E Ei : TypeId} {sz : Nat} {w : World} {B hi hi' : Nat} {v : Value} {es : List (List Fd)} (h : OwnR E Ei sz w B hi v es) (hh : hi ≤ hi') : OwnR E Ei sz w B hi' v es := by
  obtain ⟨cs, h1, h2, h3, h4, h5, h6⟩ := h.row
  exact ⟨h.szs, cs, h1, h2, h3, h4, fun p c g a b => ⟨(h5 p c g a b).1, Nat.lt_of_lt_of_le (h5 p c g a b).2 hh⟩, fun g a => Nat.lt_of_lt_of_le (h6 g a) hh⟩
theorem OwnR.same {E Ei : TypeId} {sz : Nat} {w w' : World} {B hi : Nat} {v : Value} {es : List (List Fd)} (h : OwnR E Ei sz w B hi v es) (hb : ∀ g, B ≤ g → g < hi → w'.heap[g]? = w.heap[g]?) : OwnR E Ei sz w' B hi v es := by
  obtain ⟨cs, h1, h2, h3, h4, h5, h6⟩ := h.row
  refine ⟨h.szs, cs, row_same h1 (fun g e => hb g (h1.lt g e).1 (h6 g e)), fun k j hk hj => ?_, h3, h4, h5, h6⟩
  obtain ⟨c, hc, hf⟩ := h2 k j hk hj
  exact ⟨c, hc, hf.same fun g e => hb g (hf.lt g e).1 (h5 _ c g hc e).2⟩
theorem OwnR.below {E Ei : TypeId} {sz : Nat} {w w' : World} {B hi : Nat} {v : Value} {es : List (List Fd)} (h : OwnR E Ei sz w B hi v es) (hb : Below w.heap.size w w') (hh : hi ≤ w.heap.size) : OwnR E Ei sz w' B hi v es := h.same fun g _ h2 => hb.block g (by omega)
theorem OwnR.bld {E Ei : TypeId} {sz : Nat} {w : World} {B hi : Nat} {v : Value} {es : List (List Fd)} (h : OwnR E Ei sz w B hi v es) : Bld E sz w B v (es.map fun e => e.map Fd.dt) := by
  obtain ⟨cs, h1, h2, h3, h4, h5, h6⟩ := h.row
  refine ⟨fun e he => ?_, cs, by rw [List.length_map]; exact h1, fun k hk => ?_⟩
  · obtain ⟨e', he', rfl⟩ := List.mem_map.1 he
    rw [List.length_map]; exact h.szs e' he'
  · rw [List.length_map] at hk
    intro j hj
    rw [List.getElem_map, List.length_map] at hj
    obtain ⟨c, hc, hf⟩ := h2 k j hk hj
    obtain ⟨fp, hr, hfp⟩ := hf.rd
    refine ⟨c, fp, by rw [List.getElem?_drop]; exact hc, by simp only [List.getElem_map]; exact hr, fun r hr => ⟨(hfp r hr).1, fun e => h4 _ c hc r (hfp r hr).2 e⟩⟩
theorem OwnR.lt {E Ei : TypeId} {sz : Nat} {w : World} {B hi : Nat} {v : Value} {es : List (List Fd)} (h : OwnR E Ei sz w B hi v es) : ∀ g, v.ownBlock = some g → B ≤ g ∧ g < w.heap.size := by
  obtain ⟨cs, ho, _⟩ := h.row; exact ho.lt
theorem OwnR.slice {E Ei : TypeId} {sz : Nat} {w : World} {B hi : Nat} {v : Value} {es : List (List Fd)} (h : OwnR E Ei sz w B hi v es) : ∃ a cap, v = .slice a es.length cap ∧ es.length ≤ maxLen := by
  have := h.bld.slice
  rwa [List.length_map] at this
theorem OwnR.head {E Ei : TypeId} {sz : Nat} {w : World} {B hi : Nat} {v : Value} {es : List (List Fd)} (h : OwnR E Ei sz w B hi v es) (hne : 0 < es.length) : ∃ g cap, v = .slice (some ⟨g, 0, none⟩) es.length cap ∧ B ≤ g ∧ g < hi ∧ g < w.heap.size := by
  obtain ⟨cs, h1, _, _, _, _, h6⟩ := h.row
  rcases h1.2 with ⟨_, h0⟩ | ⟨g, cap, cur, rfl, hb, hg, _⟩
  · omega
  · exact ⟨g, cap, rfl, hb, h6 g rfl, (h1.lt g rfl).2⟩
/-- A field's cell. -/
theorem OwnR.cell {E Ei : TypeId} {sz : Nat} {w : World} {B hi g n cap : Nat} {es : List (List Fd)} (h : OwnR E Ei sz w B hi (.slice (some ⟨g, 0, none⟩) n cap) es) {k j : Nat} (hk : k < es.length) (hj : j < (es[k]).length) :
    ∃ c, w.cell? ⟨g, k * sz + j, none⟩ = some c ∧ FdOk Ei w B c (es[k])[j] ∧ w.frozen? ⟨g, k * sz + j, none⟩ = false ∧ c.ownBlock ≠ some g := by
  obtain ⟨cs, h1, h2, _, h4, _, _⟩ := h.row
  obtain ⟨c, hc, hf⟩ := h2 k j hk hj
  have h0 := World.ownsRow.cells h1 (g := g) rfl _ _ hc
  rw [addr_add] at h0
  refine ⟨c, h0, hf, ?_, fun e => h4 _ c hc g e rfl⟩
  rcases h1.2 with ⟨e, _⟩ | ⟨g', cap', cur, e, _, hg, _⟩
  · cases e
  · simp only [Value.slice.injEq, Option.some.injEq, Addr.mk.injEq] at e
    rw [show g = g' from e.1.1]
    simp [World.frozen?, hg]
theorem set_get {es : List (List Fd)} {k j : Nat} {e : List Fd} (hk : k < es.length) (k' j' : Nat) (hk' : k' < (es.set k e).length) (hj' : j' < ((es.set k e)[k']).length) (he : e.length = (es[k]).length) (hne : ¬ (k' = k ∧ j' = j)) (hs : ∀ i (h : i < e.length) (h' : i < (es[k]).length), i ≠ j → e[i] = (es[k])[i]) :
    ∃ (h1 : k' < es.length) (h2 : j' < (es[k']).length), ((es.set k e)[k'])[j'] = (es[k'])[j'] := by
  have h1 : k' < es.length := by simpa using hk'
  by_cases ek : k' = k
  · subst ek
    have hb : (es.set k' e)[k'] = e := by simp
    have h2 : j' < (es[k']).length := by rw [← he]; simpa using hj'
    refine ⟨h1, h2, ?_⟩
    simp only [List.getElem_set_self]
    exact hs j' (by omega) h2 (fun e => hne ⟨rfl, e⟩)
  · have hb : (es.set k e)[k'] = es[k'] := by rw [List.getElem_set_ne (fun h => ek h.symm)]
    refine ⟨h1, by rw [hb] at hj'; exact hj', ?_⟩
    simp only [List.getElem_set_ne (fun h => ek (Eq.symm h))]
/-- Blocks lie as they lay, but for those from lo on below hi. -/
structure Btw (lo hi : Nat) (w w' : World) : Prop where
  os : w'.os = w.os
  tape : w'.tape = w.tape
  output : w'.output = w.output
  size : w.heap.size ≤ w'.heap.size
  block : ∀ b, b < w.heap.size → ¬ (lo ≤ b ∧ b < hi) → w'.heap[b]? = w.heap[b]?
theorem Btw.refl (lo hi : Nat) (w : World) : Btw lo hi w w := ⟨rfl, rfl, rfl, Nat.le_refl _, fun _ _ _ => rfl⟩
theorem Btw.trans {lo hi : Nat} {a b c : World} (h : Btw lo hi a b) (k : Btw lo hi b c) : Btw lo hi a c := ⟨k.os.trans h.os, k.tape.trans h.tape, k.output.trans h.output, Nat.le_trans h.size k.size, fun x hs hx => (k.block x (Nat.lt_of_lt_of_le hs h.size) hx).trans (h.block x hs hx)⟩
theorem Btw.grown {lo hi : Nat} {w w' : World} {row : Option Nat} (h : w.grownBy w' row) (hr : ∀ g, row = some g → lo ≤ g ∧ g < hi) : Btw lo hi w w' := ⟨h.os, h.tape, h.output, h.size, fun b hs hb => h.block b hs fun e => hb (hr b e.symm)⟩
theorem Btw.set {lo hi : Nat} (w : World) {g : Nat} (hlo : lo ≤ g) (hhi : g < hi) (j : Nat) (v : Value) : Btw lo hi w (w.setCell ⟨g, j, none⟩ v) := .grown (grownBy_set w g j v) fun b e => by cases e; exact ⟨hlo, hhi⟩
theorem Btw.below {lo hi : Nat} {a w w' : World} {B : Nat} (h : Btw lo hi w w') (hb : Below B a w) (hBw : B ≤ w.heap.size) (hB : B ≤ lo) : Below B a w' :=
  hb.trans ⟨h.os, h.tape, h.output, h.size, fun k hk => h.block k (by omega) (by omega)⟩
theorem Btw.own {lo hi : Nat} {w w' : World} (h : Btw lo hi w w') {E : TypeId} {B : Nat} {v : Value} {xs : List Int} (ho : Own E w B v xs) (hd : ∀ g, v.ownBlock = some g → g < lo ∨ hi ≤ g) : Own E w' B v xs := ho.same fun g e => h.block g (ho.lt g e).2 (by have := hd g e; omega)
theorem Btw.ownR {lo hi : Nat} {w w' : World} (h : Btw lo hi w w') {E Ei : TypeId} {sz B hi' : Nat} {v : Value} {es : List (List Fd)} (ho : OwnR E Ei sz w B hi' v es) (hs : hi' ≤ w.heap.size) (hd : hi' ≤ lo ∨ hi ≤ B) : OwnR E Ei sz w' B hi' v es := ho.same fun g h1 h2 => h.block g (by omega) (by omega)
/-- A number is stored. -/
theorem OwnR.setI {E Ei : TypeId} {sz : Nat} {w : World} {B hi g n cap : Nat} {es : List (List Fd)} (h : OwnR E Ei sz w B hi (.slice (some ⟨g, 0, none⟩) n cap) es) (hn : n = es.length) {k j : Nat} (hk : k < es.length) (hj : j < sz) (z : Int) :
    OwnR E Ei sz (w.setCell ⟨g, k * sz + j, none⟩ (.int .i64 z)) B hi (.slice (some ⟨g, 0, none⟩) n cap) (es.set k ((es[k]).set j (.i z))) := by
  subst hn
  obtain ⟨cs, h1, h2, h3, h4, h5, h6⟩ := h.row
  have hsz := h.szs _ (List.getElem_mem hk)
  have hlt : k * sz + j < cs.length := by
    rw [h1.1]
    have := Nat.mul_le_mul_right sz (show k + 1 ≤ es.length by omega)
    rw [Nat.add_mul] at this; omega
  have hst := (World.ownsRow.stored (w := w) (base := B) (e := E) (size := sz) (g := g) (n := es.length) (cap := cap) h1 (k * sz + j) (.int .i64 z)).1
  have hbl : ∀ b, b ≠ g → (w.setCell ⟨g, k * sz + j, none⟩ (.int .i64 z)).heap[b]? = w.heap[b]? := fun b hb => Below.heap_setCell _ _ _ b hb
  have hset : ∀ (p : Nat) c, (cs.set (k * sz + j) (.int .i64 z))[p]? = some c → (p ≠ k * sz + j ∧ cs[p]? = some c) ∨ (p = k * sz + j ∧ c = .int .i64 z) := by
    intro p c hp
    by_cases e : k * sz + j = p
    · subst e
      rw [List.getElem?_set_self hlt] at hp
      exact .inr ⟨rfl, by cases hp; rfl⟩
    · rw [List.getElem?_set_ne e] at hp
      exact .inl ⟨fun h => e h.symm, hp⟩
  refine ⟨fun e he => ?_, cs.set (k * sz + j) (.int .i64 z), by rw [List.length_set]; exact hst, fun k' j' hk' hj' => ?_, fun p q c d hp hq hne => ?_, fun p c hp => ?_, fun p c b hp hb => ?_, h6⟩
  · rcases List.mem_or_eq_of_mem_set he with he | rfl
    · exact h.szs e he
    · rw [List.length_set]; exact hsz
  · by_cases e : k' = k ∧ j' = j
    · obtain ⟨rfl, rfl⟩ := e
      refine ⟨_, List.getElem?_set_self hlt, ?_⟩
      simp only [List.getElem_set_self]
      rfl
    · obtain ⟨a1, a2, a3⟩ := set_get (j := j) hk k' j' hk' hj' (by rw [List.length_set]) e (fun i _ _ hi => by rw [List.getElem_set_ne (fun h => hi h.symm)])
      obtain ⟨c, hc, hf⟩ := h2 k' j' a1 a2
      rw [a3]
      have hp : k * sz + j ≠ k' * sz + j' := by
        intro hh
        have hj2 : j' < sz := by rw [← h.szs _ (List.getElem_mem a1)]; exact a2
        have e1 : (k * sz + j) / sz = k := by rw [Nat.add_comm, Nat.add_mul_div_right _ _ (by omega), Nat.div_eq_of_lt hj, Nat.zero_add]
        have e2 : (k' * sz + j') / sz = k' := by rw [Nat.add_comm, Nat.add_mul_div_right _ _ (by omega), Nat.div_eq_of_lt hj2, Nat.zero_add]
        have : k' = k := by rw [← e1, ← e2, hh]
        subst this
        exact e ⟨rfl, by omega⟩
      exact ⟨c, by rw [List.getElem?_set_ne hp]; exact hc, hf.same fun b hb => hbl b fun hg => h4 _ c hc b hb (by rw [hg]; rfl)⟩
  · rcases hset p c hp with ⟨_, hp⟩ | ⟨rfl, rfl⟩
    · rcases hset q d hq with ⟨_, hq⟩ | ⟨rfl, rfl⟩
      · exact h3 p q c d hp hq hne
      · intro g _ e; cases e
    · intro g e; cases e
  · rcases hset p c hp with ⟨_, hp⟩ | ⟨rfl, rfl⟩
    · exact h4 p c hp
    · intro g e; cases e
  · rcases hset p c hp with ⟨_, hp⟩ | ⟨rfl, rfl⟩
    · exact h5 p c b hp hb
    · cases hb
/-- A list's numbers are written over. -/
theorem OwnR.setL {E Ei : TypeId} {sz : Nat} {w w' : World} {B hi g n cap : Nat} {es : List (List Fd)} (h : OwnR E Ei sz w B hi (.slice (some ⟨g, 0, none⟩) n cap) es) {k j : Nat} (hk : k < es.length) (hj : j < sz) {c : Value} (hc : w.cell? ⟨g, k * sz + j, none⟩ = some c) {ys : List Int} (hown : Own Ei w' B c ys)
    (hb : ∀ b, b < w.heap.size → c.ownBlock ≠ some b → w'.heap[b]? = w.heap[b]?) : OwnR E Ei sz w' B hi (.slice (some ⟨g, 0, none⟩) n cap) (es.set k ((es[k]).set j (.l ys))) := by
  obtain ⟨cs, h1, h2, h3, h4, h5, h6⟩ := h.row
  have hsz := h.szs _ (List.getElem_mem hk)
  obtain ⟨c0, hc0, hf0⟩ := h2 k j hk (by omega)
  have hcc := World.ownsRow.cells h1 (g := g) rfl _ _ hc0
  rw [addr_add, hc] at hcc
  obtain rfl : c = c0 := Option.some.inj hcc
  refine ⟨fun e he => ?_, cs, by rw [List.length_set]; exact row_same h1 (fun b e => hb b (h1.lt b e).2 fun e' => h4 _ c hc0 b e' e), fun k' j' hk' hj' => ?_, h3, h4, h5, h6⟩
  · rcases List.mem_or_eq_of_mem_set he with he | rfl
    · exact h.szs e he
    · rw [List.length_set]; exact hsz
  · by_cases e : k' = k ∧ j' = j
    · obtain ⟨rfl, rfl⟩ := e
      refine ⟨_, hc0, ?_⟩
      simp only [List.getElem_set_self]
      exact hown
    · obtain ⟨a1, a2, a3⟩ := set_get (j := j) hk k' j' hk' hj' (by rw [List.length_set]) e (fun i _ _ hi => by rw [List.getElem_set_ne (fun h => hi h.symm)])
      obtain ⟨d, hd, hf⟩ := h2 k' j' a1 a2
      rw [a3]
      have hp : k * sz + j ≠ k' * sz + j' := by
        intro hh
        have hj2 : j' < sz := by rw [← h.szs _ (List.getElem_mem a1)]; exact a2
        have e1 : (k * sz + j) / sz = k := by rw [Nat.add_comm, Nat.add_mul_div_right _ _ (by omega), Nat.div_eq_of_lt hj, Nat.zero_add]
        have e2 : (k' * sz + j') / sz = k' := by rw [Nat.add_comm, Nat.add_mul_div_right _ _ (by omega), Nat.div_eq_of_lt hj2, Nat.zero_add]
        have : k' = k := by rw [← e1, ← e2, hh]
        subst this
        exact e ⟨rfl, by omega⟩
      exact ⟨d, hd, hf.same fun b hb' => hb b (hf.lt b hb').2 fun hg => h3 _ _ c d hc0 hd hp b hg hb'⟩

/-- 'append(s, x)', x an element of a struct type whose lists lie in rows of their own. -/
theorem wpList_push_own {P : Program} {T E Ei : TypeId} {z0 : Value} {sz bytes : Nat} (hsl : P.underlying T = some (.slice E)) (hinf : (P.info? E).map (fun i => (i.zero, i.size, i.bytes)) = some (some z0, sz, bytes)) (hz0 : z0.cells.size = sz) (hpos : 0 < sz) (hby : bytes ≤ 1000)
    {w : World} {ops : Array Oper} {rest : List Oper} {o : Oper} {a : Act} {Q : Exit → Act → World → Prop} (hgd : o.guard = none) (s x : Operand) (ho : o.op = .call { callee := .builtin .append, args := #[s, x], argTypes := #[T, T] }) (B : Nat) (v : Value) (es : List (List Fd)) (e : List Fd)
    (vals : List Value) (cells : Array Value) (hcells : cells = vals.toArray) (hvl : vals.length = sz) (h1c : ∀ u ∈ vals, u.oneCell' = true) (hs : a.eval s = v) (he : e.length = sz)
    (hr : ∀ j (hj : j < e.length), ∃ c, vals[j]? = some c ∧ FdOk Ei w B c e[j]) (hrr : ∀ (p q : Nat) c d, vals[p]? = some c → vals[q]? = some d → p ≠ q → Apart c d) (hi0 : Nat) (hb : OwnR E Ei sz w B hi0 v es) (hh0 : hi0 ≤ w.heap.size) (hrv : ∀ c ∈ vals, ∀ g, c.ownBlock = some g → hi0 ≤ g)
    (hlen : es.length ≤ 1048576)
    (hx : a.eval x = .slice (some ⟨w.heap.size, 0, none⟩) 1 1) (hB : B ≤ w.heap.size)
    (h : ∀ v' w', OwnR E Ei sz w' B w'.heap.size v' (es ++ [e]) → w.grownBy w' v.ownBlock → (∀ g, v'.ownBlock = some g → v.ownBlock = some g ∨ w.heap.size ≤ g) → wpList P ops Q rest (a.put o.dst v') w') : wpList P ops Q (o :: rest) a (w.alloc (.cells cells E)) := by
  subst hcells
  refine wpList_want (by unfold Region.wanted; rw [hgd]) fun K hK => ?_
  obtain ⟨i, hi, hz, hsz, hbb⟩ := info_parts hinf
  obtain ⟨cs, hown, hc, hcc, hcv, hch, hvh⟩ := hb.row
  have hcl : cs.length = es.length * sz := hown.1
  obtain ⟨v', w', hrun, h1, h2, _, h4⟩ := run_append_own_at (P := P) (w.alloc (.cells vals.toArray E)) B T o.type E i z0 sz bytes hsl hi hz hsz hbb hz0 hpos v es.length _ (World.ownsRow.alloc hown _) ⟨w.heap.size, 0, none⟩ 1 1 vals (by rw [hvl]; simp)
    (fun j u hu => by
      rw [addr_add, World.cell?_alloc_at _ _ _ _ rfl]; simpa using hu) h1c (by unfold maxLen; omega) (by
      have := Nat.mul_le_mul (show es.length + 1 ≤ 1048577 by omega) hby; omega) (by simp; omega)
  unfold Oper.wp execOp
  simp only [ho, resolve, invoke, builtin, Sem.run_bind, Sem.run_pure, Result.andThen_ok, List.map_toArray, List.map_cons, List.map_nil, hs, hx, hrun]
  have hg : w.grownBy w' v.ownBlock := grownBy_trans (World.grownBy_alloc _ _ _) h2
  have hloc : ∀ g, v'.ownBlock = some g → v.ownBlock = some g ∨ w.heap.size ≤ g := fun g e => by
    rcases h4 with h4 | h4
    · exact .inl (by rw [← h4]; exact e)
    · rw [h4] at e; cases e; exact .inr (by simp)
  have hva : ∀ (p : Nat) (c : Value), vals[p]? = some c → Apart c v := fun p c hp g e e' => by
    have := hrv c (List.mem_of_getElem? hp) g e
    have := hvh g e'
    omega
  have hvlt : ∀ (p : Nat) (c : Value) (g : Nat), vals[p]? = some c → c.ownBlock = some g → B ≤ g ∧ g < w.heap.size := fun p c g hp hg' => by
    obtain ⟨hpl, _⟩ := List.getElem?_eq_some_iff.1 hp
    obtain ⟨c', hc', hf⟩ := hr p (by omega)
    rw [hp] at hc'; cases hc'
    exact hf.lt g hg'
  have hmix : ∀ (p q : Nat) (c d : Value), vals[p]? = some c → cs[q]? = some d → Apart c d := fun p q c d hp hq g e e' => by
    have := hrv c (List.mem_of_getElem? hp) g e
    have := hch q d g hq e'
    omega
  have hsame : ∀ (c : Value) (fd : Fd), FdOk Ei w B c fd → Apart c v → FdOk Ei w' B c fd := fun c fd hf ha => hf.same fun g e => hg.block g (hf.lt g e).2 fun e' => ha g e e'.symm
  have hall : ∀ (p : Nat) (c : Value), (cs ++ vals)[p]? = some c → (cs[p]? = some c ∧ p < cs.length) ∨ (cs.length ≤ p ∧ vals[p - cs.length]? = some c) := fun p c hp => by
    by_cases e : p < cs.length
    · rw [List.getElem?_append_left e] at hp; exact .inl ⟨hp, e⟩
    · rw [List.getElem?_append_right (by omega)] at hp; exact .inr ⟨by omega, hp⟩
  have hwv : ∀ c : Value, (∀ g, c.ownBlock = some g → g < w.heap.size) → Apart c v → Apart c v' := fun c hlt ha g hc' hv' => by
    rcases hloc g hv' with h | h
    · exact ha g hc' h
    · have := hlt g hc'; omega
  refine hK _ _ (h v' w' ⟨?_, cs ++ vals, by rw [List.length_append]; exact h1, fun k j hk hj => ?_, fun p q c d hp hq hne => ?_, fun p c hp => ?_, fun p c g hp hg' => ?_, fun g e => (World.ownsRow.lt h1 g e).2⟩ hg hloc)
  · intro d hd
    rcases List.mem_append.1 hd with hd | hd
    · exact hb.szs d hd
    · simp at hd; subst hd; exact he
  · by_cases hke : k < es.length
    · have hkk : (es ++ [e])[k] = es[k] := List.getElem_append_left hke
      simp only [hkk] at hj ⊢
      obtain ⟨c, hc1, hf⟩ := hc k j hke hj
      obtain ⟨hpl, _⟩ := List.getElem?_eq_some_iff.1 hc1
      exact ⟨c, by rw [List.getElem?_append_left hpl]; exact hc1, hsame c _ hf (hcv _ c hc1)⟩
    · have hkl : k = es.length := by simp at hk; omega
      subst hkl
      have hkk : (es ++ [e])[es.length] = e := by simp
      simp only [hkk] at hj ⊢
      obtain ⟨c, hc1, hf⟩ := hr j hj
      exact ⟨c, by rw [List.getElem?_append_right (by omega), hcl, Nat.add_sub_cancel_left]; exact hc1, hsame c _ hf (hva j c hc1)⟩
  · rcases hall p c hp with ⟨hp, _⟩ | ⟨hpl, hp⟩
    · rcases hall q d hq with ⟨hq, _⟩ | ⟨_, hq⟩
      · exact hcc p q c d hp hq hne
      · exact (hmix _ p d c hq hp).symm
    · rcases hall q d hq with ⟨hq, _⟩ | ⟨hql, hq⟩
      · exact hmix _ q c d hp hq
      · exact hrr _ _ c d hp hq (by omega)
  · rcases hall p c hp with ⟨hp, _⟩ | ⟨_, hp⟩
    · exact hwv c (fun g e => Nat.lt_of_lt_of_le (hch p c g hp e).2 hh0) (hcv p c hp)
    · exact hwv c (fun g e => (hvlt _ c g hp e).2) (hva _ c hp)
  · have hsz' := hg.size
    rcases hall p c hp with ⟨hp, _⟩ | ⟨_, hp⟩
    · have := hch p c g hp hg'; omega
    · have := hvlt _ c g hp hg'; omega

end Go.Proofs.Ytkndndcjchlpdaa
