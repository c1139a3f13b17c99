/- Rows of vertices as rows of fields; no conditions. -/
import Derived.Test.YtejpoeejhmgphabEx
import Derived.Test.YtejpoeejhmgphabGv3
import Derived.Test.YtejpoeejhmgphabRVertex
namespace Go.Proofs.Ytejpoeejhmgphab
open Go.RowKit

theorem own_src {E : TypeId} {w : World} {B n c : Nat} {a : Option Addr} {xs : List Int} (h : Own E w B (.slice a n c) xs) : SrcAt w a c xs := by
  obtain ⟨a', c', e, _, hs, _⟩ := h.src
  cases e
  exact hs
theorem rows_vx : ∀ {es : List (List Fd)}, (∀ e ∈ es, vertexP e) → ∃ g : List Vx, es = g.map Vx.fd
  | [], _ => ⟨[], rfl⟩
  | e :: es, h => by
    obtain ⟨r, a, ps, d, rfl⟩ := h e (by simp)
    obtain ⟨g, rfl⟩ := rows_vx fun e he => h e (List.mem_cons_of_mem _ he)
    exact ⟨⟨r, a, ps, d⟩ :: g, rfl⟩
theorem vx_lens {g : List Vx} {m : Nat} (h : ∀ e ∈ g.map Vx.fd, lnE e ≤ m) : ∀ x ∈ g, x.ps.length ≤ m := fun x hx =>
  ln_in (h _ (List.mem_map_of_mem hx)) (by simp [Vx.fd])
theorem gaZ_len (c : List Int) (g : List Vx) (r : Int) : (gaZ c g r).length ≤ g.length := by
  unfold gaZ
  split
  · exact authZ_len g r
  · simp

end Go.Proofs.Ytejpoeejhmgphab
