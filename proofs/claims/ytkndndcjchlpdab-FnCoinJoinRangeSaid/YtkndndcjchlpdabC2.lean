/- What spec's functions of digests and hash trees answer, each by a walk of its text: the answers are those of plain functions on lists; conditions: a list that is read has fewer than 2^40 elements, numbers that are paired are digests. -/
import Derived.Test.YtkndndcjchlpdabRows
import Derived.Test.YtkndndcjchlpdabBase
import Derived.Test.YtkndndcjchlpdabApp
import Derived.Test.YtkndndcjchlpdabM2
import Derived.Test.YtkndndcjchlpdabC1
import Derived.Deep.QuietTactic
import Derived.BigQuiet
namespace Go.Proofs.Ytkndndcjchlpdab
open Go.RowKit

theorem TI2 : IntT Try.prog 30 3 := ⟨Try.underlying30, by kernel_rfl⟩

