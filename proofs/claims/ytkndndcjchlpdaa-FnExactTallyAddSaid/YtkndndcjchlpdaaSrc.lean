/- An owned list as the source of an append; a general step, nothing here speaks of the program. -/
import Derived.Test.YtkndndcjchlpdaaRows
import Derived.Test.YtkndndcjchlpdaaApp
namespace Go.Proofs.Ytkndndcjchlpdaa
open Go.RowKit

theorem own_src {E : TypeId} {w : World} {B n c : Nat} {a : Option Addr} {xs : List Int} (h : Own E w B (.slice a n c) xs) : SrcAt w a c xs := by
  obtain ⟨a', c', e, _, hs, _⟩ := h.src
  cases e
  exact hs

end Go.Proofs.Ytkndndcjchlpdaa
