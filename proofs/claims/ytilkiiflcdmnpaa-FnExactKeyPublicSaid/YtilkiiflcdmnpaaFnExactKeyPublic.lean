/- The exact law of KeyPublic holds at every argument; no conditions of our own. -/
import Derived.Test.YtilkiiflcdmnpaaRows
import Derived.Test.YtilkiiflcdmnpaaBase
import Derived.Test.YtilkiiflcdmnpaaLift
import Derived.Test.YtilkiiflcdmnpaaM2
import Derived.Test.YtilkiiflcdmnpaaSgM
import Derived.Test.YtilkiiflcdmnpaaSgC
import Derived.Test.YtilkiiflcdmnpaaSgI
namespace Go.Proofs.Ytilkiiflcdmnpaa
open Go.ChangeShapes Go.WideShapes Go.ChangeAt Go.RowKit

theorem fnExactKeyPublic_walk (n : Int) (w : World) (_hn : -9223372036854775808 ≤ n ∧ n ≤ 9223372036854775807) :
    Calls Try.prog 8 #[.int .i64 n] w fun e w' => e = .returned (.bool true) ∧ Below w.heap.size w w' := by
  go_enter Try.func8, Try.ntmps8
  go_wp2_with fail
  refine (spec_KeyPublic n _).mono ?_
  rintro e w1 ⟨rfl, rfl⟩
  go_wp2_with fail
  refine (impl_KeyPublic n _).mono ?_
  rintro e w2 ⟨rfl, rfl⟩
  go_wp2
  go_ret
  exact ⟨rfl, Below.refl _ _⟩

theorem fnExactKeyPublic_own : ownKnob Try.prog.godebug = none := by kernel_rfl
theorem fnExactKeyPublic_laidOut : laidOutB Try.prog = true := by kernel_rfl

theorem fnExactKeyPublic_lifted (os : Os) (started : os.Started) (H : Type) (enc : TypeId × Value → H) :
    ReturnsInHanded {} Try.checked os 8 .any (Rows.fnExactKeyPublicSpec.pre6 enc Try.prog Try.f8 Rows.fnExactKeyPublicRow.domain false) (Rows.fnExactKeyPublicSpec.post enc Try.prog Try.f8 false true false false) := by
  refine law_lifted (C := Try.checked) (tb := 4) fnExactKeyPublic_own fnExactKeyPublic_laidOut started (by kernel_rfl) Try.func8 rfl Try.underlying4 rfl (by rw [Try.params8]; exact of_decide_eq_true (by kernel_rfl)) ?_
    (ChangeSpec.witness6 (enc := enc) (C := Try.checked) false ⟨#[], #[.int .i64 0], []⟩ 8 (by kernel_rfl) (by kernel_rfl) (by kernel_rfl) (by kernel_rfl)) ?_
  · intro ds hds
    rw [Try.params8] at hds
    match ds, hds with
    | [d0], _ => rfl
  · intro W base args ds p hval0 hA0
    have hval : ∀ (j : Nat) t v, Try.f8.params[j]? = some t → args[j]? = some v → Value.okWide Try.prog W .any base t v := hval0
    have hA : DataW.TrodAll enc Try.prog W 0 (fun _ => true) true Try.f8.params.toList args.toList ds p := hA0
    rw [Try.params8] at hA hval
    obtain ⟨v0, vs0, d0, ds0, p0, q0, hargs0, rfl, rfl, h0, r0⟩ := trodAll_cons hA
    obtain ⟨hnil, rfl, rfl⟩ := trodAll_nil r0
    subst hnil
    obtain rfl : args = #[v0] := by cases args; simp_all
    obtain ⟨n0, rfl, _, _, hw0⟩ := open_int Try.underlying3 (hval 0 3 v0 rfl rfl) h0
    exact fnExactKeyPublic_walk n0 W (wf_i64 hw0)

theorem fnExactKeyPublic_holds : Rows.FnExactKeyPublicSaid :=
  OpenClaim.holds_of_wide 8 Try.f8 rfl rfl rfl rfl rfl rfl rfl ⟨rfl, rfl, rfl, rfl, rfl⟩ rfl rfl rfl rfl rfl (by kernel_rfl) Try.func8 (by kernel_rfl)
    (of_decide_eq_true (by kernel_rfl)) (by unfold Func.isWrapper; first | (rw [if_pos (by decide +kernel)]; kernel_rfl) | (rw [if_neg (by decide +kernel)]; exact ⟨rfl, rfl⟩))
    (fun os started H enc _ => fnExactKeyPublic_lifted os started H enc)

end Go.Proofs.Ytilkiiflcdmnpaa
