/- What spec's functions of digests and hash trees answer, each by a walk of its text: the answers are those of plain functions on lists; conditions: a list that is read has fewer than 2^40 elements, numbers that are paired are digests. -/
import Derived.Test.YtkndndcjchlpdaaRows
import Derived.Test.YtkndndcjchlpdaaBase
import Derived.Test.YtkndndcjchlpdaaApp
import Derived.Test.YtkndndcjchlpdaaM2
import Derived.Test.YtkndndcjchlpdaaC1
import Derived.Deep.QuietTactic
import Derived.BigQuiet
namespace Go.Proofs.Ytkndndcjchlpdaa
open Go.RowKit

theorem TI2 : IntT Try.prog 49 3 := ⟨Try.underlying49, by kernel_rfl⟩

theorem spec_l2Digest (n : Int) (w : World) : Calls Try.prog 71 #[.int .i64 n] w fun e w' => e = .returned (.bool (digB n)) ∧ w = w' := by
  go_enter Try.func71, Try.ntmps71
  go_wp2_with (go_at_call 49; refine (spec_l6In _ _ _ _).mono ?_; rintro e w' ⟨rfl, rfl⟩)
  go_ret
  exact ⟨ret_bool (by unfold digB; simp), rfl⟩

