/- What spec's functions of digests and hash trees answer, each by a walk of its text: the answers are those of plain functions on lists; conditions: a list that is read has fewer than 2^40 elements, numbers that are paired are digests. -/
import Derived.Test.YthhikgibmmhcjaaRows
import Derived.Test.YthhikgibmmhcjaaBase
import Derived.Test.YthhikgibmmhcjaaApp
import Derived.Test.YthhikgibmmhcjaaM2
import Derived.Test.YthhikgibmmhcjaaC1
import Derived.Deep.QuietTactic
import Derived.BigQuiet
namespace Go.Proofs.Ythhikgibmmhcjaa
open Go.RowKit

theorem TI2 : IntT Try.prog 76 3 := ⟨Try.underlying76, by kernel_rfl⟩

theorem spec_l2Digest (n : Int) (w : World) : Calls Try.prog 51 #[.int .i64 n] w fun e w' => e = .returned (.bool (digB n)) ∧ w = w' := by
  go_enter Try.func51, Try.ntmps51
  go_wp2_with (go_at_call 39; refine (spec_l6In _ _ _ _).mono ?_; rintro e w' ⟨rfl, rfl⟩)
  go_ret
  exact ⟨ret_bool (by unfold digB; simp), rfl⟩

