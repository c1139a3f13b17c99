/- The state of a voter while it is drawn: its struct, its list of votes of the call's own, the reader; steps of the world; nothing here speaks of the program but types. -/
import Derived.Test.YtkndndcjchlpdaaRows
import Derived.Test.YtkndndcjchlpdaaVd0
import Derived.Test.YtkndndcjchlpdaaVd1
namespace Go.Proofs.Ytkndndcjchlpdaa
open Go.RowKit

structure Vst (R : Nat) (w : World) (X : Nat) (f : Int) (p : Nat) (wr : World) (u : Value) (g : List Vt) : Prop where
  sx : Str wr X 25 #[.int .i64 f, u]
  own : OwnV 27 wr w.heap.size u g
  nx : ∀ b, u.ownBlock = some b → b ≠ X ∧ b ≠ w.heap.size
  sr : Str wr w.heap.size 25 #[.int .i64 0, .slice none 0 0]
  rd : Rdr wr R p
  gr : w.grownBy wr (some R)
  hR : R < w.heap.size
  hX : w.heap.size < X
section
variable {R : Nat} {w : World} {X : Nat} {f : Int} {p : Nat} {wr : World} {u : Value} {g : List Vt}
theorem Vst.picked (h : Vst R w X f p wr u g) {w2 : World} {p2 : Nat} (hg : wr.grownBy w2 (some R)) (hr : Rdr w2 R p2) : Vst R w X f p2 w2 u g := by
  have h1 := h.hR; have h2 := h.hX
  exact ⟨h.sx.kept hg (by simp; omega), h.own.grown hg (fun b e e' => by have := (h.own.lt b e).1; cases e'; omega), h.nx, h.sr.kept hg (by simp; omega), hr, grownBy_trans h.gr hg, h1, h2⟩
theorem Vst.below (h : Vst R w X f p wr u g) {w2 : World} (hb : Below wr.heap.size wr w2) : Vst R w X f p w2 u g :=
  ⟨(hb.block _ h.sx.lt).trans h.sx, h.own.below hb, h.nx, (hb.block _ h.sr.lt).trans h.sr, h.rd.kept (below_grown hb) (by simp), grown_row h.gr (below_grown hb) (by simp), h.hR, h.hX⟩
theorem Vst.put (h : Vst R w X f p wr u g) {w2 : World} {u2 : Value} {g2 : List Vt} (ho : OwnV 27 w2 w.heap.size u2 g2) (hg : wr.grownBy w2 u.ownBlock) (hat : ∀ b, u2.ownBlock = some b → u.ownBlock = some b ∨ wr.heap.size ≤ b) :
    Vst R w X f p (w2.setCell ⟨X, 1, none⟩ u2) u2 g2 ∧ Str w2 X 25 #[.int .i64 f, u] := by
  have h1 := h.hR; have h2 := h.hX; have h3 := h.sx.lt; have h4 := h.sr.lt
  have hn : ∀ b, u2.ownBlock = some b → b ≠ X ∧ b ≠ w.heap.size := fun b e => by
    rcases hat b e with h' | h'
    · exact h.nx b h'
    · omega

  have hsx : Str w2 X 25 #[.int .i64 f, u] := h.sx.kept hg (fun e => (h.nx X e.symm).1 rfl)
  have hsr : Str w2 w.heap.size 25 #[.int .i64 0, .slice none 0 0] := h.sr.kept hg (fun e => (h.nx _ e.symm).2 rfl)
  exact ⟨⟨hsx.set 1 u2, ho.setc (fun b e => (hn b e).1) _ _, hn, hsr.other (by omega) _ _, (h.rd.kept hg (fun b e => by have := (h.own.lt b e).1; omega)).kept (grownBy_set w2 X 1 u2) (fun b e => by cases e; omega),
    grown_set (grown_row h.gr hg (fun b e => (h.own.lt b e).1)) (by omega) 1 u2, h1, h2⟩, hsx⟩
theorem Vst.put2 (h : Vst R w X f p wr u g) {w2 : World} {u2 : Value} {g2 : List Vt} (ho : OwnV 27 w2 w.heap.size u2 g2) (hg : wr.grownBy w2 u.ownBlock) (hat : ∀ b, u2.ownBlock = some b → u.ownBlock = some b ∨ wr.heap.size ≤ b) :
    Hid (Vst R w X f p (w2.setCell ⟨X, 1, none⟩ u2) u2 g2) ∧ w2.frozen? ⟨X, 1, none⟩ = false ∧ w2.cell? ⟨X, 1, none⟩ = some u := by
  obtain ⟨h1, h2⟩ := h.put ho hg hat
  exact ⟨Lib.hid h1, h2.frozen 1, h2.cell 1 rfl⟩
theorem Vst.move (h : Vst R w X f p wr u g) {f2 : Int} {u2 : Value} {g2 : List Vt} (ho : OwnV 27 wr w.heap.size u2 g2) (hn : ∀ b, u2.ownBlock = some b → b ≠ X ∧ b ≠ w.heap.size) :
    Vst R w X f2 p ((wr.setCell ⟨X, 0, none⟩ (.int .i64 f2)).setCell ⟨X, 1, none⟩ u2) u2 g2 := by
  have h1 := h.hR; have h2 := h.hX
  exact ⟨(h.sx.set 0 _).set 1 _, (ho.setc (fun b e => (hn b e).1) _ _).setc (fun b e => (hn b e).1) _ _, hn, (h.sr.other (by omega) _ _).other (by omega) _ _,
    (h.rd.kept (grownBy_set _ X 0 _) (fun b e => by cases e; omega)).kept (grownBy_set _ X 1 _) (fun b e => by cases e; omega), grown_set (grown_set h.gr (by omega) 0 _) (by omega) 1 _, h1, h2⟩
theorem Vst.floor (h : Vst R w X f p wr u g) (f2 : Int) : Vst R w X f2 p (wr.setCell ⟨X, 0, none⟩ (.int .i64 f2)) u g := by
  have h1 := h.hR; have h2 := h.hX
  exact ⟨h.sx.set 0 _, h.own.setc (fun b e => (h.nx b e).1) _ _, h.nx, h.sr.other (by omega) _ _, h.rd.kept (grownBy_set _ X 0 _) (fun b e => by cases e; omega), grown_set h.gr (by omega) 0 _, h1, h2⟩
theorem Vst.beside (h : Vst R w X f p wr u g) {Y : Nat} (h1 : Y ≠ X) (h2 : Y ≠ w.heap.size) (h3 : ∀ b, u.ownBlock = some b → b ≠ Y) (hlo : w.heap.size ≤ Y) (v0 v1 : Value) : Vst R w X f p ((wr.setCell ⟨Y, 0, none⟩ v0).setCell ⟨Y, 1, none⟩ v1) u g := by
  have k1 := h.hR; have k2 := h.hX
  exact ⟨(h.sx.other (Ne.symm h1) _ _).other (Ne.symm h1) _ _, (h.own.setc h3 _ _).setc h3 _ _, h.nx, (h.sr.other (Ne.symm h2) _ _).other (Ne.symm h2) _ _,
    (h.rd.kept (grownBy_set _ Y 0 _) (fun b e => by cases e; omega)).kept (grownBy_set _ Y 1 _) (fun b e => by cases e; omega), grown_set (grown_set h.gr hlo 0 _) hlo 1 _, k1, k2⟩
/-- What a drawn voter is. -/
def VoterDraw (R p : Nat) (w : World) (e : Ending) (w' : World) : Prop := ∃ (f : Int) (g : List Vt) (u : Value) (p' : Nat), e = .returned (.agg #[.int .i64 f, u]) ∧ OwnV 27 w' w.heap.size u g ∧ g.length ≤ 41 ∧ (-1 ≤ f ∧ f ≤ 34) ∧ Rdr w' R p' ∧ p' ≤ p + 400 ∧ w.grownBy w' (some R)
theorem Vst.fin (h : Vst R w X f p wr u g) {p0 : Nat} {e : Ending} (he : e = .returned (.agg #[.int .i64 f, u])) (hl : g.length ≤ 41) (hf : -1 ≤ f ∧ f ≤ 34) (hp : p ≤ p0 + 400) :
    VoterDraw R p0 w e ((wr.setCell ⟨w.heap.size, 0, none⟩ (.int .i64 f)).setCell ⟨w.heap.size, 1, none⟩ u) :=
  ⟨f, g, u, p, he, (h.own.setc (fun b e => (h.nx b e).2) _ _).setc (fun b e => (h.nx b e).2) _ _, hl, hf, (h.rd.kept (grownBy_set _ w.heap.size 0 _) (fun b e => by cases e; exact h.hR)).kept (grownBy_set _ w.heap.size 1 _) (fun b e => by cases e; exact h.hR), hp,
    grown_set (grown_set h.gr (Nat.le_refl _) 0 _) (Nat.le_refl _) 1 _⟩
end

end Go.Proofs.Ytkndndcjchlpdaa
