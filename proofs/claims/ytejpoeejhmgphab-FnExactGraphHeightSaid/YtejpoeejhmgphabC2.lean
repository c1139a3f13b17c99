/- What spec's functions of digests and hash trees answer, each by a walk of its text: the answers are those of plain functions on lists; conditions: a list that is read has fewer than 2^40 elements, numbers that are paired are digests. -/
import Derived.Test.YtejpoeejhmgphabRows
import Derived.Test.YtejpoeejhmgphabBase
import Derived.Test.YtejpoeejhmgphabApp
import Derived.Test.YtejpoeejhmgphabM2
import Derived.Test.YtejpoeejhmgphabC1
import Derived.Deep.QuietTactic
import Derived.BigQuiet
namespace Go.Proofs.Ytejpoeejhmgphab
open Go.RowKit

theorem TI2 : IntT Try.prog 22 3 := ⟨Try.underlying22, by kernel_rfl⟩

theorem spec_l2Digest (n : Int) (w : World) : Calls Try.prog 64 #[.int .i64 n] w fun e w' => e = .returned (.bool (digB n)) ∧ w = w' := by
  go_enter Try.func64, Try.ntmps64
  go_wp2_with (go_at_call 62; refine (spec_l6In _ _ _ _).mono ?_; rintro e w' ⟨rfl, rfl⟩)
  go_ret
  exact ⟨ret_bool (by unfold digB; simp), rfl⟩

