/- Lists of votes of the call's own: from rows to cells, and an append in a region that keeps the text's order; general steps, nothing here speaks of the program but the type of votes. -/
import Derived.Test.YtkndndcjchlpdaaRows
import Derived.Test.YtkndndcjchlpdaaVa1
import Derived.Test.YtkndndcjchlpdaaVa3
namespace Go.Proofs.Ytkndndcjchlpdaa
open Go.RowKit

theorem OwnR.ownV {E Ei : TypeId} {w : World} {B hi : Nat} {v : Value} {es : List Vt} (h : OwnR E Ei 3 w B hi v (es.map Vt.fd)) : OwnV E w B v es := by
  obtain ⟨cs, h1, h2, _, _, _, _⟩ := h.row
  have hl : cs.length = es.length * 3 := by rw [h1.1, List.length_map]
  have he : cs = flV es := by
    refine List.ext_getElem? fun p => ?_
    by_cases hp : p < es.length * 3
    · have hk : p / 3 < es.length := by omega
      have e1 : p = p / 3 * 3 + p % 3 := by omega
      have hk' : p / 3 < (es.map Vt.fd).length := by simpa using hk
      have hge : (es.map Vt.fd)[p / 3] = es[p / 3].fd := by simp
      have h3 : p % 3 < 3 := by omega
      obtain ⟨c, hc, hf⟩ := h2 (p / 3) (p % 3) hk' (by rw [hge]; simpa [Vt.fd] using h3)
      rw [e1, hc, flV_at es (p / 3) (p % 3) hk h3]
      simp only [hge] at hf
      match hm : p % 3, h3 with
      | 0, _ => simp only [hm] at hf; have hf' : c = .int .i64 es[p / 3].r := hf; rw [hf']; rfl
      | 1, _ => simp only [hm] at hf; have hf' : c = .int .i64 es[p / 3].a := hf; rw [hf']; rfl
      | 2, _ => simp only [hm] at hf; have hf' : c = .int .i64 es[p / 3].d := hf; rw [hf']; rfl
    · rw [List.getElem?_eq_none (by omega), List.getElem?_eq_none (by rw [flV_len]; omega)]
  unfold OwnV
  rw [← he, ← List.length_map (f := Vt.fd)]
  exact h1
theorem OwnV.vts {E : TypeId} {w : World} {B : Nat} {v : Value} {es : List Vt} (h : OwnV E w B v es) : ∃ fp, Vts w es v fp := (h.ownR (Ei := E) (Nat.le_refl _)).reads
theorem OwnV.mono {E : TypeId} {w : World} {B B' : Nat} {v : Value} {es : List Vt} (h : OwnV E w B v es) (hB : B' ≤ B) : OwnV E w B' v es := by
  refine ⟨h.1, ?_⟩
  rcases h.2 with h0 | ⟨g, cap, cur, e, hb, rest⟩
  · exact .inl h0
  · exact .inr ⟨g, cap, cur, e, by omega, rest⟩
theorem OwnV.grown {E : TypeId} {w w' : World} {B : Nat} {v : Value} {es : List Vt} {row : Option Nat} (h : OwnV E w B v es) (hg : w.grownBy w' row) (hne : ∀ g, v.ownBlock = some g → row ≠ some g) : OwnV E w' B v es :=
  h.kept fun g e => hg.block g (h.lt g e).2 (fun e' => hne g e e'.symm)
theorem OwnV.setc {E : TypeId} {w : World} {B : Nat} {v : Value} {es : List Vt} (h : OwnV E w B v es) {b : Nat} (hne : ∀ g, v.ownBlock = some g → g ≠ b) (j : Nat) (u : Value) : OwnV E (w.setCell ⟨b, j, none⟩ u) B v es :=
  h.grown (grownBy_set w b j u) fun g e e' => hne g e (by cases e'; rfl)

theorem wpList_app_V {w : World} {ops : Array Oper} {rest : List Oper} {o : Oper} {a : Act} {Q : Exit → Act → World → Prop} (hgd : o.guard = none) (s x : Operand) (ho : o.op = .call { callee := .builtin .append, args := #[s, x], argTypes := #[23, 23] }) (B : Nat) (v : Value) (es es2 : List Vt) (ad : Option Addr) (c : Nat)
    (hs : a.eval s = v) (hb : OwnV 27 w B v es) (hx : a.eval x = .slice ad es2.length c) (hsrc : (ad = none ∧ es2 = [] ∧ c = 0) ∨ ∃ q, ad = some q ∧ SrcV w q es2) (hlen : es.length + es2.length ≤ 1048576) (hB : B ≤ w.heap.size)
    (h : ∀ v' w', OwnV 27 w' B v' (es ++ es2) → w.grownBy w' v.ownBlock → (∀ g, v'.ownBlock = some g → v.ownBlock = some g ∨ w.heap.size ≤ g) → wpList Try.prog ops Q rest (a.put o.dst v') w') : wpList Try.prog ops Q (o :: rest) a w := by
  refine wpList_want (by unfold Region.wanted; rw [hgd]) fun K hK => ?_
  exact op_app_V s x ho B v es es2 ad c hs hb hx hsrc hlen hB fun v' w' h1 h2 h3 => hK _ _ (h v' w' h1 h2 h3)

end Go.Proofs.Ytkndndcjchlpdaa
