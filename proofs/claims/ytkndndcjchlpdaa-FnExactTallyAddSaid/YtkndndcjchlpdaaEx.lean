/- What the exact laws keep at hand: lists of numbers in blocks of their own within bounds, rows that came in as arguments; general steps, nothing here speaks of the program. -/
import Derived.Test.YtkndndcjchlpdaaBase
import Derived.Test.YtkndndcjchlpdaaDt
import Derived.Test.YtkndndcjchlpdaaOwR
import Derived.Test.YtkndndcjchlpdaaRow
import Derived.Test.YtkndndcjchlpdaaL2
import Derived.Test.YtkndndcjchlpdaaOpen
namespace Go.Proofs.Ytkndndcjchlpdaa
open Go.RowKit

/-- A list of numbers in a block of its own, which lies from lo to before hi. -/
structure OwnI (E : TypeId) (w : World) (lo hi : Nat) (v : Value) (xs : List Int) : Prop where
  own : Own E w lo v xs
  lt : ∀ g, v.ownBlock = some g → g < hi
section
variable {E : TypeId} {w w' : World} {lo hi lo' hi' : Nat} {v : Value} {xs ys : List Int}
theorem OwnI.of (h : Own E w lo v xs) : OwnI E w lo w.heap.size v xs := ⟨h, fun g e => (h.lt g e).2⟩
theorem OwnI.below (h : OwnI E w lo hi v xs) (hb : Below w.heap.size w w') : OwnI E w' lo hi v xs := ⟨h.own.below hb, h.lt⟩
theorem OwnI.btw (h : OwnI E w lo hi v xs) (hb : Btw lo' hi' w w') (hd : hi ≤ lo' ∨ hi' ≤ lo) : OwnI E w' lo hi v xs :=
  ⟨hb.own h.own fun g e => by have := h.own.lt g e; have := h.lt g e; omega, h.lt⟩
theorem OwnI.mark (h : OwnI E w lo hi v xs) (ho : Own E w' lo v ys) : OwnI E w' lo hi v ys := ⟨ho, h.lt⟩
theorem OwnI.marks (h : OwnI E w lo hi v xs) (hg : w.grownBy w' v.ownBlock) : Btw lo hi w w' := .grown hg fun g e => ⟨(h.own.lt g e).1, h.lt g e⟩
theorem OwnI.at {a : Option Addr} {n c : Nat} (h : OwnI E w lo hi (.slice a n c) xs) : IntsAt w a xs := h.own.at
theorem OwnI.ints (h : OwnI E w lo hi v xs) : ∃ a cap, v = .slice a xs.length cap ∧ IntsAt w a xs ∧ xs.length ≤ maxLen := h.own.ints
theorem OwnI.cap {a : Option Addr} {n c : Nat} (h : OwnI E w lo hi (.slice a n c) xs) : xs.length ≤ c := h.own.cap
theorem Str.btw {B : Nat} {t : TypeId} {vs : Array Value} (h : Str w B t vs) (hb : Btw lo hi w w') (hd : B < lo ∨ hi ≤ B) : Str w' B t vs := (hb.block B h.lt (by omega)).trans h
theorem Btw.alloc (w : World) (o : Obj) : Btw lo hi w (w.alloc o) := .grown (World.grownBy_alloc w o none) (by simp)
end

theorem OwnR.from {E Ei : TypeId} {sz : Nat} {w : World} {B B' hi : Nat} {v : Value} {es : List (List Fd)} (h : OwnR E Ei sz w B hi v es) (hB : B' ≤ B) : OwnR E Ei sz w B' hi v es := by
  obtain ⟨cs, h1, h2, h3, h4, h5, h6⟩ := h.row
  refine ⟨h.szs, cs, ⟨h1.1, ?_⟩, fun k j hk hj => ?_, h3, h4, fun p c g a b => ⟨Nat.le_trans hB (h5 p c g a b).1, (h5 p c g a b).2⟩, h6⟩
  · rcases h1.2 with h | ⟨g, cap, cur, e, hb, hrest⟩
    · exact .inl h
    · exact .inr ⟨g, cap, cur, e, Nat.le_trans hB hb, hrest⟩
  obtain ⟨c, hc, hf⟩ := h2 k j hk hj
  refine ⟨c, hc, ?_⟩
  revert hf
  generalize (es[k])[j] = f
  intro hf
  cases f with
  | l xs => exact Own.mono (show Own Ei w B c xs from hf) hB
  | i n => exact hf
  | b n => exact hf
  | s n => exact hf

/-! rows that came in -/
def fitE (e : List Fd) : Prop := (∀ x, Fd.i x ∈ e → -9223372036854775808 ≤ x ∧ x ≤ 9223372036854775807) ∧ ∀ xs, Fd.l xs ∈ e → xs.length ≤ maxLen ∧ ∀ x ∈ xs, -9223372036854775808 ≤ x ∧ x ≤ 9223372036854775807
theorem rows_all {P : List Fd → Prop} : ∀ l : List (List Dt), (∀ e ∈ l, ∃ f : List Fd, e = f.map Fd.dt ∧ P f) → ∃ es : List (List Fd), l = es.map (fun e => e.map Fd.dt) ∧ ∀ e ∈ es, P e
  | [], _ => ⟨[], rfl, by simp⟩
  | e :: l, h => by
    obtain ⟨f, rfl, hf⟩ := h e (by simp)
    obtain ⟨es, rfl, hes⟩ := rows_all l fun e he => h e (List.mem_cons_of_mem _ he)
    refine ⟨f :: es, rfl, fun e he => ?_⟩
    rcases List.mem_cons.1 he with rfl | he
    · exact hf
    · exact hes e he
theorem rows_of {Gs : List (Dt → Prop)} {d : Dt} (h : RowsG Gs d) {P : List Fd → Prop} (hP : ∀ e : List Dt, e.length = Gs.length → (∀ j (h : j < e.length) (h' : j < Gs.length), Gs[j] e[j]) → ∃ f : List Fd, e = f.map Fd.dt ∧ P f) :
    ∃ es, d = rowsD es ∧ es.length ≤ maxLen ∧ ∀ e ∈ es, P e := by
  obtain ⟨l, rfl, hl, he⟩ := h
  obtain ⟨es, rfl, hes⟩ := rows_all l fun e h => hP e (he e h).1 (he e h).2
  exact ⟨es, rfl, by simpa using hl, hes⟩

end Go.Proofs.Ytkndndcjchlpdaa
