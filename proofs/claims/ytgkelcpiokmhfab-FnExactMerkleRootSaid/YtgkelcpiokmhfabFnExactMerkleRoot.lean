/- The exact law of MerkleRoot holds at every argument; no conditions of our own. -/
import Derived.Test.YtgkelcpiokmhfabRows
import Derived.Test.YtgkelcpiokmhfabBase
import Derived.Test.YtgkelcpiokmhfabLift
import Derived.Test.YtgkelcpiokmhfabApp
import Derived.Test.YtgkelcpiokmhfabM2
import Derived.Test.YtgkelcpiokmhfabC1
import Derived.Test.YtgkelcpiokmhfabC2
import Derived.Test.YtgkelcpiokmhfabP2
import Derived.Test.YtgkelcpiokmhfabL1
import Derived.Test.YtgkelcpiokmhfabL2
namespace Go.Proofs.Ytgkelcpiokmhfab
open Go.ChangeShapes Go.WideShapes Go.ChangeAt Go.RowKit

theorem fnExactMerkleRoot_walk (al : Option Addr) (capl : Nat) (xl : List Int) (w : World) (_hkl : xl.length ≤ capl) (hml : xl.length ≤ maxLen) (hil : IntsAt w al xl) (_hwl : ∀ z ∈ xl, (Lit.int .i64 z).wf = true) :
    Calls Try.prog 7 #[.slice al xl.length capl] w fun e w' => e = .returned (.bool true) ∧ Below w.heap.size w w' := by
  unfold maxLen at hml
  by_cases hl0 : xl.length ≤ 1048576
  · have Hil := Lib.hid hil; clear hil
    have Hb0 := Lib.hid (Below.refl w.heap.size w)
    go_enter Try.func7, Try.ntmps7
    go_wp2_with fail
    refine (laws_toIntS al capl xl _ (by omega) (Hil.out.below Hb0.out)).mono ?_
    rintro e w1 ⟨vls, rfl, hols, hb1⟩
    have hBls := Hb0.out.size
    have Hb1 := Lib.hid (below_step Hb0.out Hb0.out.size hb1)
    have hz1 := (hb1).size
    have Hls := Lib.hid hols; clear hols
    obtain ⟨als, cls, rfl, _, _⟩ := Hls.out.ints
    have hcls := Hls.out.cap
    go_wp2_with fail
    refine (spec_MerkleRoot als cls xl _ (by omega) Hls.out.at).mono ?_
    rintro e w2 ⟨rfl, hb2⟩
    have Hb2 := Lib.hid (below_step Hb1.out Hb1.out.size hb2)
    have Hls := Lib.hid (Hls.out.below hb2)
    have hz2 := (hb2).size
    clear Hls
    go_wp2_with fail
    refine (laws_toIntS al capl xl _ (by omega) (Hil.out.below Hb2.out)).mono ?_
    rintro e w3 ⟨vlx, rfl, holx, hb3⟩
    have hBlx := Hb2.out.size
    have Hb3 := Lib.hid (below_step Hb2.out Hb2.out.size hb3)
    have hz3 := (hb3).size
    have Hlx := Lib.hid holx; clear holx
    obtain ⟨alx, clx, rfl, _, _⟩ := Hlx.out.ints
    have hclx := Hlx.out.cap
    go_wp2_with fail
    refine (impl_MerkleRoot alx clx xl _ (by omega) hclx Hlx.out.at).mono ?_
    rintro e w4 ⟨rfl, hb4⟩
    have Hb4 := Lib.hid (below_step Hb3.out Hb3.out.size hb4)
    have Hlx := Lib.hid (Hlx.out.below hb4)
    have hz4 := (hb4).size
    go_wp2_with fail
    refine (laws_toIntS al capl xl _ (by omega) (Hil.out.below Hb4.out)).mono ?_
    rintro e w5 ⟨vly, rfl, holy, hb5⟩
    have Hnlx_ly := Lib.hid (own_apart Hlx.out holy (Nat.le_refl _))
    have hBly := Hb4.out.size
    have Hb5 := Lib.hid (below_step Hb4.out Hb4.out.size hb5)
    have Hlx := Lib.hid (Hlx.out.below hb5)
    have hz5 := (hb5).size
    have Hly := Lib.hid holy; clear holy
    obtain ⟨aly, cly, rfl, _, _⟩ := Hly.out.ints
    have hcly := Hly.out.cap
    go_wp2_with fail
    refine (laws_eqIntS' alx aly clx cly xl w5 (by omega) Hlx.out.at Hly.out.at).mono ?_
    rintro e w6 ⟨rfl, hb6⟩
    have Hb6 := Lib.hid (below_step Hb5.out Hb5.out.size (hb6.below w5.heap.size))
    have Hlx := Lib.hid (Hlx.out.below (hb6.below w5.heap.size))
    have Hly := Lib.hid (Hly.out.below (hb6.below w5.heap.size))
    have hz6 := ((hb6.below w5.heap.size)).size
    clear Hly
    go_wp2
    go_ret
    exact ⟨rfl, Hb6.out⟩
  · go_enter Try.func7, Try.ntmps7
    go_wp2
    go_ret
    exact ⟨rfl, Below.refl _ _⟩

theorem fnExactMerkleRoot_own : ownKnob Try.prog.godebug = none := by kernel_rfl
theorem fnExactMerkleRoot_laidOut : laidOutB Try.prog = true := by kernel_rfl

theorem fnExactMerkleRoot_lifted (os : Os) (started : os.Started) (H : Type) (enc : TypeId × Value → H) :
    ReturnsInHanded {} Try.checked os 7 .any (Rows.fnExactMerkleRootSpec.pre6 enc Try.prog Try.f7 Rows.fnExactMerkleRootRow.domain false) (Rows.fnExactMerkleRootSpec.post enc Try.prog Try.f7 false true false false) := by
  refine law_lifted (C := Try.checked) (tb := 4) fnExactMerkleRoot_own fnExactMerkleRoot_laidOut started (by kernel_rfl) Try.func7 rfl Try.underlying4 rfl (by rw [Try.params7]; exact of_decide_eq_true (by kernel_rfl)) ?_
    (ChangeSpec.witness6 (enc := enc) (C := Try.checked) false ⟨#[], #[.slice none 0 0], []⟩ 8 (by kernel_rfl) (by kernel_rfl) (by kernel_rfl) (by kernel_rfl)) ?_
  · intro ds hds
    rw [Try.params7] at hds
    match ds, hds with
    | [d0], _ => rfl
  · intro W base args ds p hval0 hA0
    have hval : ∀ (j : Nat) t v, Try.f7.params[j]? = some t → args[j]? = some v → Value.okWide Try.prog W .any base t v := hval0
    have hA : DataW.TrodAll enc Try.prog W 0 (fun _ => true) true Try.f7.params.toList args.toList ds p := hA0
    rw [Try.params7] at hA hval
    obtain ⟨v0, vs0, d0, ds0, p0, q0, hargs0, rfl, rfl, h0, r0⟩ := trodAll_cons hA
    obtain ⟨hnil, rfl, rfl⟩ := trodAll_nil r0
    subst hnil
    obtain rfl : args = #[v0] := by cases args; simp_all
    obtain ⟨a0, cap0, zs0, rfl, hk0, hm0, hi0, hw0⟩ := open_slice_ints Try.underlying23 Try.underlying3 (by kernel_rfl) (hval 0 23 v0 rfl rfl) h0
    exact fnExactMerkleRoot_walk a0 cap0 zs0 W hk0 hm0 hi0 hw0

theorem fnExactMerkleRoot_holds : Rows.FnExactMerkleRootSaid :=
  OpenClaim.holds_of_wide 7 Try.f7 rfl rfl rfl rfl rfl rfl rfl ⟨rfl, rfl, rfl, rfl, rfl⟩ rfl rfl rfl rfl rfl (by kernel_rfl) Try.func7 (by kernel_rfl)
    (of_decide_eq_true (by kernel_rfl)) (by unfold Func.isWrapper; first | (rw [if_pos (by decide +kernel)]; kernel_rfl) | (rw [if_neg (by decide +kernel)]; exact ⟨rfl, rfl⟩))
    (fun os started H enc _ => fnExactMerkleRoot_lifted os started H enc)

end Go.Proofs.Ytgkelcpiokmhfab
