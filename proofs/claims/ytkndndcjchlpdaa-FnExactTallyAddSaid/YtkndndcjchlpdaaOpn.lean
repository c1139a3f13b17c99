/- A struct that came in by value and holds a struct of numbers ahead of one more field; a general step, nothing here speaks of the program. -/
import Derived.Test.YtkndndcjchlpdaaOpen
namespace Go.Proofs.Ytkndndcjchlpdaa
open Go.ChangeShapes Go.WideShapes Go.ChangeAt Go.RowKit

section
variable {H : Type} {enc : TypeId × Value → H} {P : Program} {W : World}
theorem open_nest {t : TypeId} {fs gs : Array Field} {f0 f1 : Field} {Gs : List (Dt → Prop)} {G : Dt → Prop} {k base : Nat} {v : Value} {d : DataW H} {p : List MemPlace} (ht : P.underlying t = some (.struct fs)) (e0 : fs[0]? = some f0) (e1 : fs[1]? = some f1) (hsz : P.cellsOf t = k + 1) (hi : P.underlying f0.type = some (.struct gs)) (hik : P.cellsOf f0.type = k) (hgk : gs.size = k) (ho0 : f0.offset = 0) (ho1 : f1.offset = k) (hO : Opens H enc P W f1.type G) (hg : Gs.length = gs.size)
    (hf : ∀ j (h : j < gs.size) (h' : j < Gs.length), (gs[j]).offset = j ∧ Opens H enc P W (gs[j]).type Gs[j]) (hv : Value.okWide P W .any base t v) (h : DataW.Trod enc P W 0 (fun _ => true) true t v d p) :
    ∃ (cs : List Value) (c : Value), v = .agg (cs ++ [c]).toArray ∧ cs.length = k ∧ (∀ j (h : j < cs.length) (h' : j < Gs.length), ∃ d fp, Rd W d cs[j] fp ∧ Gs[j] d) ∧ ∃ d fp, Rd W d c fp ∧ G d := by
  unfold Value.okWide at hv
  rw [ht] at hv
  obtain ⟨cs, rfl, hs, _⟩ := hv
  obtain ⟨fuel, hf'⟩ := h
  have hl : cs.toList.length = k + 1 := by rw [Array.length_toList, hs, hsz]
  have hf2 : DataW.trod enc P W 0 (fun _ => true) true fuel t cs.toList = some (d, p) := hf'
  clear hf'
  obtain ⟨xs, n, _, _, hl', hlen, hff⟩ := DataW.trod_struct ht hf2
  have h0 := hff 0 f0 e0
  have h1 := hff 1 f1 e1
  rw [ho0, hik] at h0
  rw [ho1, hO.1] at h1
  have hfs : 2 ≤ fs.size := by
    have := (Array.getElem?_eq_some_iff.1 e1).1
    omega
  rw [List.getElem?_eq_getElem (show 0 < xs.length by omega)] at h0
  rw [List.getElem?_eq_getElem (show 1 < xs.length by omega)] at h1
  generalize hcs : cs.toList = L at *
  have hL : L = L.take k ++ [L[k]'(by omega)] := by
    have : L.drop k = [L[k]'(by omega)] := by rw [List.drop_eq_getElem_cons (by omega), List.drop_of_length_le (by omega)]
    conv => lhs; rw [← List.take_append_drop k L, this]
  refine ⟨L.take k, L[k]'(by omega), ?_, by simp; omega, ?_, ?_⟩
  · rw [← hL, ← hcs]
  · exact fields_open hi hg hf n (L.take k) _ (by simp; omega) (by simpa using h0)
  · have hd : (L.drop k).take 1 = [L[k]'(by omega)] := by rw [List.drop_eq_getElem_cons (by omega)]; rfl
    rw [hd] at h1
    exact hO.2 n _ _ h1
end
end Go.Proofs.Ytkndndcjchlpdaa
