/- Law FnHashEmpty holds for every input; no conditions of our own. -/
import Derived.Test.YtgkelcpiokmhfaaRows
import Derived.Test.YtgkelcpiokmhfaaBase
import Derived.Test.YtgkelcpiokmhfaaLift
import Derived.Test.YtgkelcpiokmhfaaApp
import Derived.Test.YtgkelcpiokmhfaaM2
import Derived.Test.YtgkelcpiokmhfaaC1
import Derived.Test.YtgkelcpiokmhfaaC2
import Derived.Test.YtgkelcpiokmhfaaP2
import Derived.Test.YtgkelcpiokmhfaaL1
import Derived.Test.YtgkelcpiokmhfaaL2
import Derived.Test.YtgkelcpiokmhfaaRd
import Derived.Test.YtgkelcpiokmhfaaD2
import Derived.Test.YtgkelcpiokmhfaaT2
import Derived.Test.YtgkelcpiokmhfaaHeld
namespace Go.Proofs.Ytgkelcpiokmhfaa
open Go.ChangeShapes Go.WideShapes Go.ChangeAt Go.RowKit

theorem fnHashEmpty_walk (a : Option Addr) (cap : Nat) (zs : List Int) (w : World) (hk : zs.length ≤ cap) (_hm : zs.length ≤ maxLen) (hi : zs = [] ∨ ∃ b off, a = some ⟨b, off, none⟩ ∧ b < w.heap.size ∧ ∀ j (h : j < zs.length), w.cell? ⟨b, off + j, none⟩ = some (.int .u8 zs[j])) (hw : ∀ z ∈ zs, (Lit.int .u8 z).wf = true) :
    Calls Try.prog 4 #[.slice a zs.length cap] w fun e w' => e = .returned (.bool true) ∧ Below w.heap.size w w' := by
  by_cases hl : 1048576 < zs.length
  · go_enter Try.func4, Try.ntmps4
    go_wp2
    go_ret
    exact ⟨rfl, Below.refl _ _⟩
  have hcode := codeAt_of hk (by omega) hi hw
  have Hcode := Lib.hid hcode; clear hcode hi hw
  go_enter Try.func4, Try.ntmps4
  go_wp2_with fail
  refine (spec_DrawHashText a cap zs _ Hcode.out).mono ?_
  rintro e w1 ⟨s, rfl, hs, hb1⟩
  have Hb1 := Lib.hid hb1; clear hb1
  have hI := impl_HashText s w1 (by omega)
  have HI := Lib.hid hI; clear hI
  go_wp2_with fail
  refine HI.out.mono ?_
  rintro e w2 ⟨rfl, hb2⟩
  have Hb2 := Lib.hid (below_step Hb1.out Hb1.out.size hb2); clear hb2
  go_wp2_with fail
  refine (spec_HashText s _ (by omega)).mono ?_
  rintro e w3 ⟨rfl, rfl⟩

  have h1 := htZ_yes s
  have h2 := htZ_no s
  have he := impl_HashText ⟨#[]⟩ w2 (by decide)
  rw [htZ_empty] at he
  have He := Lib.hid he; clear he
  generalize htZ s = o at *
  go_wp2_with fail
  refine He.out.mono ?_
  rintro e w4 ⟨rfl, hb4⟩
  have Hb4 := Lib.hid (below_step Hb2.out Hb2.out.size hb4); clear hb4
  by_cases h60 : s.size ≤ 60
  · have h3 := h1 h60
    go_wp2
    go_ret
    exact ⟨ret_bool (decide_eq_true (by omega)), Hb4.out⟩
  · have h3 := h2 (by omega)
    subst h3
    go_wp2
    go_ret
    exact ⟨ret_bool (by rw [Bool.not_eq_true']; exact decide_eq_false (by omega)), Hb4.out⟩

theorem fnHashEmpty_own : ownKnob Try.prog.godebug = none := by kernel_rfl
theorem fnHashEmpty_laidOut : laidOutB Try.prog = true := by kernel_rfl

theorem fnHashEmpty_lifted (os : Os) (started : os.Started) (H : Type) (enc : TypeId × Value → H) :
    ReturnsInHanded {} Try.checked os 4 .any (Rows.fnHashEmptySpec.pre6 enc Try.prog Try.f4 Rows.fnHashEmptyRow.domain false) (Rows.fnHashEmptySpec.post enc Try.prog Try.f4 false true false false) := by
  refine law_lifted (C := Try.checked) (tb := 4) fnHashEmpty_own fnHashEmpty_laidOut started (by kernel_rfl) Try.func4 rfl Try.underlying4 rfl (by rw [Try.params4]; exact of_decide_eq_true (by kernel_rfl)) ?_
    (ChangeSpec.witness6 (enc := enc) (C := Try.checked) false ⟨#[], #[.slice none 0 0], []⟩ 8 (by kernel_rfl) (by kernel_rfl) (by kernel_rfl) (by kernel_rfl)) ?_
  · intro ds hds
    rw [Try.params4] at hds
    match ds, hds with
    | [d0], _ => rfl
  · intro W base args ds p hval0 hA0
    have hval : ∀ (j : Nat) t v, Try.f4.params[j]? = some t → args[j]? = some v → Value.okWide Try.prog W .any base t v := hval0
    have hA : DataW.TrodAll enc Try.prog W 0 (fun _ => true) true Try.f4.params.toList args.toList ds p := hA0
    rw [Try.params4] at hA hval
    obtain ⟨v0, vs0, d0, ds0, p0, q0, hargs0, rfl, rfl, h0, r0⟩ := trodAll_cons hA
    obtain ⟨hnil, rfl, rfl⟩ := trodAll_nil r0
    subst hnil
    obtain rfl : args = #[v0] := by cases args; simp_all
    obtain ⟨a0, cap0, zs0, rfl, hk0, hm0, hi0, hw0⟩ := open_slice_ints Try.underlying22 Try.underlying5 (by kernel_rfl) (hval 0 22 v0 rfl rfl) h0
    exact fnHashEmpty_walk a0 cap0 zs0 W hk0 hm0 hi0 hw0

theorem fnHashEmpty_holds : Rows.FnHashEmptySaid :=
  OpenClaim.holds_of_wide 4 Try.f4 rfl rfl rfl rfl rfl rfl rfl ⟨rfl, rfl, rfl, rfl, rfl⟩ rfl rfl rfl rfl rfl (by kernel_rfl) Try.func4 (by kernel_rfl)
    (of_decide_eq_true (by kernel_rfl)) (by unfold Func.isWrapper; first | (rw [if_pos (by decide +kernel)]; kernel_rfl) | (rw [if_neg (by decide +kernel)]; exact ⟨rfl, rfl⟩))
    (fun os started H enc _ => fnHashEmpty_lifted os started H enc)

end Go.Proofs.Ytgkelcpiokmhfaa
