/- Rows of votes as rows of fields; no conditions. -/
import Derived.Test.YtkndndcjchlpdaaRows
import Derived.Test.YtkndndcjchlpdaaEx
import Derived.Test.YtkndndcjchlpdaaVt1
namespace Go.Proofs.Ytkndndcjchlpdaa
open Go.RowKit

theorem rows_vt : ∀ {es : List (List Fd)}, (∀ e ∈ es, voteP e) → ∃ g : List Vt, es = g.map Vt.fd
  | [], _ => ⟨[], rfl⟩
  | e :: es, h => by
    obtain ⟨x0, x1, x2, rfl⟩ := h _ List.mem_cons_self
    obtain ⟨g, rfl⟩ := rows_vt (es := es) fun e he => h e (List.mem_cons_of_mem _ he)
    exact ⟨⟨x0, x1, x2⟩ :: g, rfl⟩

end Go.Proofs.Ytkndndcjchlpdaa
