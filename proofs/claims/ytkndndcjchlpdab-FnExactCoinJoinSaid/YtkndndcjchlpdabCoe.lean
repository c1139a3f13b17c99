/- Rows of parts as a list of pairs; nothing here speaks of the program. -/
import Derived.Test.YtkndndcjchlpdabRCoinPart
import Derived.Test.YtkndndcjchlpdabCo7
namespace Go.Proofs.Ytkndndcjchlpdab
open Go.RowKit

theorem rows_cp : ∀ {es : List (List Fd)}, (∀ e ∈ es, coinPartP e) → ∃ l : List Cp, es = l.map cpF
  | [], _ => ⟨[], rfl⟩
  | e :: es, h => by
    obtain ⟨x0, x1, rfl⟩ := h _ List.mem_cons_self
    obtain ⟨g, rfl⟩ := rows_cp (es := es) fun e he => h e (List.mem_cons_of_mem _ he)
    exact ⟨(x0, x1) :: g, rfl⟩

end Go.Proofs.Ytkndndcjchlpdab
