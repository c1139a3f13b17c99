/- The exact law of MerkleCheck holds at every argument; no conditions of our own. -/
import Derived.Test.YtgkelcpiokmhfabRows
import Derived.Test.YtgkelcpiokmhfabBase
import Derived.Test.YtgkelcpiokmhfabLift
import Derived.Test.YtgkelcpiokmhfabApp
import Derived.Test.YtgkelcpiokmhfabM2
import Derived.Test.YtgkelcpiokmhfabC1
import Derived.Test.YtgkelcpiokmhfabC2
import Derived.Test.YtgkelcpiokmhfabP2
import Derived.Test.YtgkelcpiokmhfabL1
import Derived.Test.YtgkelcpiokmhfabL2
namespace Go.Proofs.Ytgkelcpiokmhfab
open Go.ChangeShapes Go.WideShapes Go.ChangeAt Go.RowKit

theorem fnExactMerkleCheck_walk (r : Int) (n : Int) (i : Int) (m : Int) (al : Option Addr) (capl : Nat) (xl : List Int) (w : World) (_hr : -9223372036854775808 ≤ r ∧ r ≤ 9223372036854775807) (_hn : -9223372036854775808 ≤ n ∧ n ≤ 9223372036854775807) (_hi : -9223372036854775808 ≤ i ∧ i ≤ 9223372036854775807) (_hm : -9223372036854775808 ≤ m ∧ m ≤ 9223372036854775807) (_hkl : xl.length ≤ capl) (hml : xl.length ≤ maxLen) (hil : IntsAt w al xl) (_hwl : ∀ z ∈ xl, (Lit.int .i64 z).wf = true) :
    Calls Try.prog 9 #[.int .i64 r, .int .i64 n, .int .i64 i, .int .i64 m, .slice al xl.length capl] w fun e w' => e = .returned (.bool true) ∧ Below w.heap.size w w' := by
  unfold maxLen at hml
  by_cases hl0 : xl.length ≤ 1048576
  · have Hil := Lib.hid hil; clear hil
    obtain ⟨_hr1, _hr2⟩ := _hr
    obtain ⟨_hn1, _hn2⟩ := _hn
    obtain ⟨_hi1, _hi2⟩ := _hi
    obtain ⟨_hm1, _hm2⟩ := _hm
    have Hb0 := Lib.hid (Below.refl w.heap.size w)
    go_enter Try.func9, Try.ntmps9
    go_wp2_with fail
    refine (laws_toIntS al capl xl _ (by omega) (Hil.out.below Hb0.out)).mono ?_
    rintro e w1 ⟨vls, rfl, hols, hb1⟩
    have hBls := Hb0.out.size
    have Hb1 := Lib.hid (below_step Hb0.out Hb0.out.size hb1)
    have hz1 := (hb1).size
    have Hls := Lib.hid hols; clear hols
    obtain ⟨als, cls, rfl, _, _⟩ := Hls.out.ints
    have hcls := Hls.out.cap
    go_wp2_with fail
    refine (spec_MerkleCheck r n i m als cls xl _ (by omega) hcls (by omega) (by omega) Hls.out.at).mono ?_
    rintro e wx ⟨rfl, rfl⟩
    clear Hls
    go_wp2_with fail
    refine (laws_toIntS al capl xl _ (by omega) (Hil.out.below Hb1.out)).mono ?_
    rintro e w2 ⟨vlx, rfl, holx, hb2⟩
    have hBlx := Hb1.out.size
    have Hb2 := Lib.hid (below_step Hb1.out Hb1.out.size hb2)
    have hz2 := (hb2).size
    have Hlx := Lib.hid holx; clear holx
    obtain ⟨alx, clx, rfl, _, _⟩ := Hlx.out.ints
    have hclx := Hlx.out.cap
    go_wp2_with fail
    refine (impl_MerkleCheck r n i m alx clx xl _ (by omega) hclx (by omega) (by omega) (by omega) (by omega) Hlx.out.at).mono ?_
    rintro e w3 ⟨rfl, hb3⟩
    have Hb3 := Lib.hid (below_step Hb2.out Hb2.out.size hb3)
    have Hlx := Lib.hid (Hlx.out.below hb3)
    have hz3 := (hb3).size
    go_wp2_with fail
    refine (laws_toIntS al capl xl _ (by omega) (Hil.out.below Hb3.out)).mono ?_
    rintro e w4 ⟨vly, rfl, holy, hb4⟩
    have Hnlx_ly := Lib.hid (own_apart Hlx.out holy (Nat.le_refl _))
    have hBly := Hb3.out.size
    have Hb4 := Lib.hid (below_step Hb3.out Hb3.out.size hb4)
    have Hlx := Lib.hid (Hlx.out.below hb4)
    have hz4 := (hb4).size
    have Hly := Lib.hid holy; clear holy
    obtain ⟨aly, cly, rfl, _, _⟩ := Hly.out.ints
    have hcly := Hly.out.cap
    go_wp2_with fail
    refine (laws_eqIntS' alx aly clx cly xl w4 (by omega) Hlx.out.at Hly.out.at).mono ?_
    rintro e w5 ⟨rfl, hb5⟩
    have Hb5 := Lib.hid (below_step Hb4.out Hb4.out.size (hb5.below w4.heap.size))
    have Hlx := Lib.hid (Hlx.out.below (hb5.below w4.heap.size))
    have Hly := Lib.hid (Hly.out.below (hb5.below w4.heap.size))
    have hz5 := ((hb5.below w4.heap.size)).size
    clear Hly
    go_wp2
    go_ret
    exact ⟨rfl, Hb5.out⟩
  · go_enter Try.func9, Try.ntmps9
    go_wp2
    go_ret
    exact ⟨rfl, Below.refl _ _⟩

theorem fnExactMerkleCheck_own : ownKnob Try.prog.godebug = none := by kernel_rfl
theorem fnExactMerkleCheck_laidOut : laidOutB Try.prog = true := by kernel_rfl

theorem fnExactMerkleCheck_lifted (os : Os) (started : os.Started) (H : Type) (enc : TypeId × Value → H) :
    ReturnsInHanded {} Try.checked os 9 .any (Rows.fnExactMerkleCheckSpec.pre6 enc Try.prog Try.f9 Rows.fnExactMerkleCheckRow.domain false) (Rows.fnExactMerkleCheckSpec.post enc Try.prog Try.f9 false true false false) := by
  refine law_lifted (C := Try.checked) (tb := 4) fnExactMerkleCheck_own fnExactMerkleCheck_laidOut started (by kernel_rfl) Try.func9 rfl Try.underlying4 rfl (by rw [Try.params9]; exact of_decide_eq_true (by kernel_rfl)) ?_
    (ChangeSpec.witness6 (enc := enc) (C := Try.checked) false ⟨#[], #[.int .i64 0, .int .i64 0, .int .i64 0, .int .i64 0, .slice none 0 0], []⟩ 8 (by kernel_rfl) (by kernel_rfl) (by kernel_rfl) (by kernel_rfl)) ?_
  · intro ds hds
    rw [Try.params9] at hds
    match ds, hds with
    | [d0, d1, d2, d3, d4], _ => rfl
  · intro W base args ds p hval0 hA0
    have hval : ∀ (j : Nat) t v, Try.f9.params[j]? = some t → args[j]? = some v → Value.okWide Try.prog W .any base t v := hval0
    have hA : DataW.TrodAll enc Try.prog W 0 (fun _ => true) true Try.f9.params.toList args.toList ds p := hA0
    rw [Try.params9] at hA hval
    obtain ⟨v0, vs0, d0, ds0, p0, q0, hargs0, rfl, rfl, h0, r0⟩ := trodAll_cons hA
    obtain ⟨v1, vs1, d1, ds1, p1, q1, hargs1, rfl, rfl, h1, r1⟩ := trodAll_cons r0
    obtain ⟨v2, vs2, d2, ds2, p2, q2, hargs2, rfl, rfl, h2, r2⟩ := trodAll_cons r1
    obtain ⟨v3, vs3, d3, ds3, p3, q3, hargs3, rfl, rfl, h3, r3⟩ := trodAll_cons r2
    obtain ⟨v4, vs4, d4, ds4, p4, q4, hargs4, rfl, rfl, h4, r4⟩ := trodAll_cons r3
    obtain ⟨hnil, rfl, rfl⟩ := trodAll_nil r4
    subst hnil
    subst hargs4
    subst hargs3
    subst hargs2
    subst hargs1
    obtain rfl : args = #[v0, v1, v2, v3, v4] := by cases args; simp_all
    obtain ⟨n0, rfl, _, _, hw0⟩ := open_int Try.underlying3 (hval 0 3 v0 rfl rfl) h0
    obtain ⟨n1, rfl, _, _, hw1⟩ := open_int Try.underlying3 (hval 1 3 v1 rfl rfl) h1
    obtain ⟨n2, rfl, _, _, hw2⟩ := open_int Try.underlying3 (hval 2 3 v2 rfl rfl) h2
    obtain ⟨n3, rfl, _, _, hw3⟩ := open_int Try.underlying3 (hval 3 3 v3 rfl rfl) h3
    obtain ⟨a4, cap4, zs4, rfl, hk4, hm4, hi4, hw4⟩ := open_slice_ints Try.underlying23 Try.underlying3 (by kernel_rfl) (hval 4 23 v4 rfl rfl) h4
    exact fnExactMerkleCheck_walk n0 n1 n2 n3 a4 cap4 zs4 W (wf_i64 hw0) (wf_i64 hw1) (wf_i64 hw2) (wf_i64 hw3) hk4 hm4 hi4 hw4

theorem fnExactMerkleCheck_holds : Rows.FnExactMerkleCheckSaid :=
  OpenClaim.holds_of_wide 9 Try.f9 rfl rfl rfl rfl rfl rfl rfl ⟨rfl, rfl, rfl, rfl, rfl⟩ rfl rfl rfl rfl rfl (by kernel_rfl) Try.func9 (by kernel_rfl)
    (of_decide_eq_true (by kernel_rfl)) (by unfold Func.isWrapper; first | (rw [if_pos (by decide +kernel)]; kernel_rfl) | (rw [if_neg (by decide +kernel)]; exact ⟨rfl, rfl⟩))
    (fun os started H enc _ => fnExactMerkleCheck_lifted os started H enc)

end Go.Proofs.Ytgkelcpiokmhfab
