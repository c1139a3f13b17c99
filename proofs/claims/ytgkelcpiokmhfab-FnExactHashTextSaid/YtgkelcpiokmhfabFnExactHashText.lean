/- The exact law of HashText holds at every argument; no conditions of our own. -/
import Derived.Test.YtgkelcpiokmhfabRows
import Derived.Test.YtgkelcpiokmhfabBase
import Derived.Test.YtgkelcpiokmhfabLift
import Derived.Test.YtgkelcpiokmhfabApp
import Derived.Test.YtgkelcpiokmhfabM2
import Derived.Test.YtgkelcpiokmhfabC1
import Derived.Test.YtgkelcpiokmhfabC2
import Derived.Test.YtgkelcpiokmhfabP2
import Derived.Test.YtgkelcpiokmhfabL1
import Derived.Test.YtgkelcpiokmhfabL2
namespace Go.Proofs.Ytgkelcpiokmhfab
open Go.ChangeShapes Go.WideShapes Go.ChangeAt Go.RowKit

theorem fnExactHashText_walk (s : ByteArray) (w : World) (_hs : s.size ≤ maxLen) :
    Calls Try.prog 5 #[.string s] w fun e w' => e = .returned (.bool true) ∧ Below w.heap.size w w' := by
  by_cases hl0 : s.size ≤ 1048576
  · have Hb0 := Lib.hid (Below.refl w.heap.size w)
    go_enter Try.func5, Try.ntmps5
    go_wp2_with fail
    refine (spec_HashText s _ (by omega)).mono ?_
    rintro e wx ⟨rfl, rfl⟩
    go_wp2_with fail
    refine (impl_HashText s _ (by omega)).mono ?_
    rintro e w1 ⟨rfl, hb1⟩
    have Hb1 := Lib.hid (below_step Hb0.out Hb0.out.size hb1)
    have hz1 := (hb1).size
    go_wp2
    go_ret
    exact ⟨rfl, Hb1.out⟩
  · go_enter Try.func5, Try.ntmps5
    go_wp2
    go_ret
    exact ⟨rfl, Below.refl _ _⟩

theorem fnExactHashText_own : ownKnob Try.prog.godebug = none := by kernel_rfl
theorem fnExactHashText_laidOut : laidOutB Try.prog = true := by kernel_rfl

theorem fnExactHashText_lifted (os : Os) (started : os.Started) (H : Type) (enc : TypeId × Value → H) :
    ReturnsInHanded {} Try.checked os 5 .any (Rows.fnExactHashTextSpec.pre6 enc Try.prog Try.f5 Rows.fnExactHashTextRow.domain false) (Rows.fnExactHashTextSpec.post enc Try.prog Try.f5 false true false false) := by
  refine law_lifted (C := Try.checked) (tb := 4) fnExactHashText_own fnExactHashText_laidOut started (by kernel_rfl) Try.func5 rfl Try.underlying4 rfl (by rw [Try.params5]; exact of_decide_eq_true (by kernel_rfl)) ?_
    (ChangeSpec.witness6 (enc := enc) (C := Try.checked) false ⟨#[], #[.string ⟨#[]⟩], []⟩ 8 (by kernel_rfl) (by kernel_rfl) (by kernel_rfl) (by kernel_rfl)) ?_
  · intro ds hds
    rw [Try.params5] at hds
    match ds, hds with
    | [d0], _ => rfl
  · intro W base args ds p hval0 hA0
    have hval : ∀ (j : Nat) t v, Try.f5.params[j]? = some t → args[j]? = some v → Value.okWide Try.prog W .any base t v := hval0
    have hA : DataW.TrodAll enc Try.prog W 0 (fun _ => true) true Try.f5.params.toList args.toList ds p := hA0
    rw [Try.params5] at hA hval
    obtain ⟨v0, vs0, d0, ds0, p0, q0, hargs0, rfl, rfl, h0, r0⟩ := trodAll_cons hA
    obtain ⟨hnil, rfl, rfl⟩ := trodAll_nil r0
    subst hnil
    obtain rfl : args = #[v0] := by cases args; simp_all
    obtain ⟨s0, rfl, _, _, hw0⟩ := ChangeMaps.open_string Try.underlying9 (hval 0 9 v0 rfl rfl) h0
    exact fnExactHashText_walk s0 W hw0

theorem fnExactHashText_holds : Rows.FnExactHashTextSaid :=
  OpenClaim.holds_of_wide 5 Try.f5 rfl rfl rfl rfl rfl rfl rfl ⟨rfl, rfl, rfl, rfl, rfl⟩ rfl rfl rfl rfl rfl (by kernel_rfl) Try.func5 (by kernel_rfl)
    (of_decide_eq_true (by kernel_rfl)) (by unfold Func.isWrapper; first | (rw [if_pos (by decide +kernel)]; kernel_rfl) | (rw [if_neg (by decide +kernel)]; exact ⟨rfl, rfl⟩))
    (fun os started H enc _ => fnExactHashText_lifted os started H enc)

end Go.Proofs.Ytgkelcpiokmhfab
