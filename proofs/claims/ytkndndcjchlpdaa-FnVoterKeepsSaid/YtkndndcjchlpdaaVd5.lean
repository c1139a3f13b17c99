/- The state while a voter and a vote are drawn: structs, the list of votes, the reader; steps of the world; nothing here speaks of the program but types. -/
import Derived.Test.YtkndndcjchlpdaaRows
import Derived.Test.YtkndndcjchlpdaaVd0
import Derived.Test.YtkndndcjchlpdaaVd1
namespace Go.Proofs.Ytkndndcjchlpdaa
open Go.RowKit

/-- X: the voter; V: the vote; A, B: the results' cells; R: the reader. -/
structure Vsg (R : Nat) (w : World) (A B X V : Nat) (f : Int) (v : Vt) (p : Nat) (wr : World) (u : Value) (g : List Vt) : Prop where
  sx : Str wr X 25 #[.int .i64 f, u]
  sv : Str wr V 27 #[.int .i64 v.r, .int .i64 v.a, .int .i64 v.d]
  own : OwnV 27 wr w.heap.size u g
  nx : ∀ b, u.ownBlock = some b → b ≠ X ∧ b ≠ V ∧ b ≠ A ∧ b ≠ B ∧ b ≠ R
  sa : Str wr A 25 #[.int .i64 0, .slice none 0 0]
  sb : Str wr B 27 #[.int .i64 0, .int .i64 0, .int .i64 0]
  rd : Rdr wr R p
  bel : Below w.heap.size w wr
  ds : w.heap.size ≤ A ∧ A < B ∧ B < R ∧ R < X ∧ X < V
section
variable {R : Nat} {w : World} {A B X V : Nat} {f : Int} {v : Vt} {p : Nat} {wr : World} {u : Value} {g : List Vt}
theorem Vsg.picked (h : Vsg R w A B X V f v p wr u g) {w2 : World} {p2 : Nat} (hg : wr.grownBy w2 (some R)) (hr : Rdr w2 R p2) : Vsg R w A B X V f v p2 w2 u g := by
  obtain ⟨d1, d2, d3, d4, d5⟩ := h.ds
  exact ⟨h.sx.kept hg (by simp; omega), h.sv.kept hg (by simp; omega), h.own.grown hg (fun b e e' => by cases e'; exact (h.nx _ e).2.2.2.2 rfl), h.nx, h.sa.kept hg (by simp; omega), h.sb.kept hg (by simp; omega), hr,
    h.bel.grown hg h.bel.size (fun g e => by cases e; omega), h.ds⟩
theorem Vsg.below (h : Vsg R w A B X V f v p wr u g) {w2 : World} (hb : Below wr.heap.size wr w2) : Vsg R w A B X V f v p w2 u g :=
  ⟨(hb.block _ h.sx.lt).trans h.sx, (hb.block _ h.sv.lt).trans h.sv, h.own.below hb, h.nx, (hb.block _ h.sa.lt).trans h.sa, (hb.block _ h.sb.lt).trans h.sb, h.rd.kept (below_grown hb) (by simp), below_step h.bel h.bel.size hb, h.ds⟩
theorem Vsg.vote (h : Vsg R w A B X V f v p wr u g) (r a d : Int) : Vsg R w A B X V f ⟨r, a, d⟩ p (((wr.setCell ⟨V, 0, none⟩ (.int .i64 r)).setCell ⟨V, 1, none⟩ (.int .i64 a)).setCell ⟨V, 2, none⟩ (.int .i64 d)) u g := by
  obtain ⟨d1, d2, d3, d4, d5⟩ := h.ds
  have n := fun b e => (h.nx b e).2.1
  exact ⟨((h.sx.other (by omega) _ _).other (by omega) _ _).other (by omega) _ _, ((h.sv.set 0 _).set 1 _).set 2 _, ((h.own.setc n _ _).setc n _ _).setc n _ _, h.nx, ((h.sa.other (by omega) _ _).other (by omega) _ _).other (by omega) _ _, ((h.sb.other (by omega) _ _).other (by omega) _ _).other (by omega) _ _,
    ((h.rd.kept (grownBy_set _ V 0 _) (fun b e => by cases e; omega)).kept (grownBy_set _ V 1 _) (fun b e => by cases e; omega)).kept (grownBy_set _ V 2 _) (fun b e => by cases e; omega),
    ((h.bel.setCell (p := ⟨V, 0, none⟩) (by simp only; omega) _).setCell (p := ⟨V, 1, none⟩) (by simp only; omega) _).setCell (p := ⟨V, 2, none⟩) (by simp only; omega) _, h.ds⟩
theorem Vsg.digest (h : Vsg R w A B X V f v p wr u g) (d : Int) : Vsg R w A B X V f ⟨v.r, v.a, d⟩ p (wr.setCell ⟨V, 2, none⟩ (.int .i64 d)) u g := by
  obtain ⟨d1, d2, d3, d4, d5⟩ := h.ds
  have n := fun b e => (h.nx b e).2.1
  exact ⟨h.sx.other (by omega) _ _, h.sv.set 2 _, h.own.setc n _ _, h.nx, h.sa.other (by omega) _ _, h.sb.other (by omega) _ _,
    h.rd.kept (grownBy_set _ V 2 _) (fun b e => by cases e; omega), h.bel.setCell (p := ⟨V, 2, none⟩) (by simp only; omega) _, h.ds⟩
/-- What is drawn: a voter and a vote. -/
def VsDraw (w : World) (e : Ending) (w' : World) : Prop := ∃ (f : Int) (g : List Vt) (u : Value) (fp : List Nat) (v : Vt), e = .returned (.tuple #[.agg #[.int .i64 f, u], .agg #[.int .i64 v.r, .int .i64 v.a, .int .i64 v.d]]) ∧ Vts w' g u fp ∧ g.length ≤ 41 ∧ Below w.heap.size w w'
theorem Vsg.res (h : Vsg R w A B X V f v p wr u g) : Vsg R w A B X V f v p wr u g ∧ OwnV 27 ((wr.setCell ⟨A, 0, none⟩ (.int .i64 f)).setCell ⟨A, 1, none⟩ u) w.heap.size u g ∧ Below w.heap.size w ((wr.setCell ⟨A, 0, none⟩ (.int .i64 f)).setCell ⟨A, 1, none⟩ u) ∧
    Str ((wr.setCell ⟨A, 0, none⟩ (.int .i64 f)).setCell ⟨A, 1, none⟩ u) A 25 #[.int .i64 f, u] ∧ Str ((wr.setCell ⟨A, 0, none⟩ (.int .i64 f)).setCell ⟨A, 1, none⟩ u) B 27 #[.int .i64 0, .int .i64 0, .int .i64 0] ∧
    Str ((wr.setCell ⟨A, 0, none⟩ (.int .i64 f)).setCell ⟨A, 1, none⟩ u) X 25 #[.int .i64 f, u] ∧ Str ((wr.setCell ⟨A, 0, none⟩ (.int .i64 f)).setCell ⟨A, 1, none⟩ u) V 27 #[.int .i64 v.r, .int .i64 v.a, .int .i64 v.d] := by
  obtain ⟨d1, d2, d3, d4, d5⟩ := h.ds
  have n := fun b e => (h.nx b e).2.2.1
  exact ⟨h, (h.own.setc n _ _).setc n _ _, (h.bel.setCell (p := ⟨A, 0, none⟩) (by simp only; omega) _).setCell (p := ⟨A, 1, none⟩) (by simp only; omega) _, (h.sa.set 0 _).set 1 _, (h.sb.other (by omega) _ _).other (by omega) _ _, (h.sx.other (by omega) _ _).other (by omega) _ _, (h.sv.other (by omega) _ _).other (by omega) _ _⟩
end

end Go.Proofs.Ytkndndcjchlpdaa
