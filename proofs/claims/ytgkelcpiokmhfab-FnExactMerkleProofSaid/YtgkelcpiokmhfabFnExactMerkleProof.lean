/- The exact law of MerkleProof holds at every argument; no conditions of our own. -/
import Derived.Test.YtgkelcpiokmhfabRows
import Derived.Test.YtgkelcpiokmhfabBase
import Derived.Test.YtgkelcpiokmhfabLift
import Derived.Test.YtgkelcpiokmhfabApp
import Derived.Test.YtgkelcpiokmhfabM2
import Derived.Test.YtgkelcpiokmhfabC1
import Derived.Test.YtgkelcpiokmhfabC2
import Derived.Test.YtgkelcpiokmhfabP2
import Derived.Test.YtgkelcpiokmhfabL1
import Derived.Test.YtgkelcpiokmhfabL2
namespace Go.Proofs.Ytgkelcpiokmhfab
open Go.ChangeShapes Go.WideShapes Go.ChangeAt Go.RowKit

theorem fnExactMerkleProof_walk (al : Option Addr) (capl : Nat) (xl : List Int) (i : Int) (w : World) (_hkl : xl.length ≤ capl) (hml : xl.length ≤ maxLen) (hil : IntsAt w al xl) (_hwl : ∀ z ∈ xl, (Lit.int .i64 z).wf = true) (_hi : -9223372036854775808 ≤ i ∧ i ≤ 9223372036854775807) :
    Calls Try.prog 8 #[.slice al xl.length capl, .int .i64 i] w fun e w' => e = .returned (.bool true) ∧ Below w.heap.size w w' := by
  unfold maxLen at hml
  by_cases hl0 : xl.length ≤ 1048576
  · have Hil := Lib.hid hil; clear hil
    obtain ⟨_hi1, _hi2⟩ := _hi
    have Hb0 := Lib.hid (Below.refl w.heap.size w)
    go_enter Try.func8, Try.ntmps8
    have hpl := mpZ_len xl i
    have Hcspec := Lib.hid (fun a cap w => spec_MerkleProof a cap xl i w (by omega))
    have Hcimpl := Lib.hid (fun a cap w h => impl_MerkleProof a cap xl i w (by omega) h (by omega) (by omega))
    generalize mpZ xl i = ps at hpl Hcspec Hcimpl
    go_wp2_with fail
    refine (laws_toIntS al capl xl _ (by omega) (Hil.out.below Hb0.out)).mono ?_
    rintro e w1 ⟨vls, rfl, hols, hb1⟩
    have hBls := Hb0.out.size
    have Hb1 := Lib.hid (below_step Hb0.out Hb0.out.size hb1)
    have hz1 := (hb1).size
    have Hls := Lib.hid hols; clear hols
    obtain ⟨als, cls, rfl, _, _⟩ := Hls.out.ints
    have hcls := Hls.out.cap
    go_wp2_with fail
    refine (Hcspec.out als cls _ Hls.out.at).mono ?_
    rintro e w2 ⟨vw0, rfl, how0, hb2⟩
    have Hnls_w0 := Lib.hid (own_apart Hls.out how0 (Nat.le_refl _))
    have hBw0 := Hb1.out.size
    have Hb2 := Lib.hid (below_step Hb1.out Hb1.out.size hb2)
    have Hls := Lib.hid (Hls.out.below hb2)
    have hz2 := (hb2).size
    have Hw0 := Lib.hid how0; clear how0
    obtain ⟨aw0, cw0, rfl, _, _⟩ := Hw0.out.ints
    have hcw0 := Hw0.out.cap
    clear Hls
    go_wp2_with fail
    refine (laws_toIntS al capl xl _ (by omega) (Hil.out.below Hb2.out)).mono ?_
    rintro e w3 ⟨vlx, rfl, holx, hb3⟩
    have Hnw0_lx := Lib.hid (own_apart Hw0.out holx (Nat.le_refl _))
    have hBlx := Hb2.out.size
    have Hb3 := Lib.hid (below_step Hb2.out Hb2.out.size hb3)
    have Hw0 := Lib.hid (Hw0.out.below hb3)
    have hz3 := (hb3).size
    have Hlx := Lib.hid holx; clear holx
    obtain ⟨alx, clx, rfl, _, _⟩ := Hlx.out.ints
    have hclx := Hlx.out.cap
    go_wp2_with fail
    refine (Hcimpl.out alx clx _ hclx Hlx.out.at).mono ?_
    rintro e w4 ⟨vg0, rfl, hog0, hb4⟩
    have Hnw0_g0 := Lib.hid (own_apart Hw0.out hog0 (Nat.le_refl _))
    have Hnlx_g0 := Lib.hid (own_apart Hlx.out hog0 (Nat.le_refl _))
    have hBg0 := Hb3.out.size
    have Hb4 := Lib.hid (below_step Hb3.out Hb3.out.size hb4)
    have Hw0 := Lib.hid (Hw0.out.below hb4)
    have Hlx := Lib.hid (Hlx.out.below hb4)
    have hz4 := (hb4).size
    have Hg0 := Lib.hid hog0; clear hog0
    obtain ⟨ag0, cg0, rfl, _, _⟩ := Hg0.out.ints
    have hcg0 := Hg0.out.cap
    go_wp2_with fail
    refine (laws_eqIntS' ag0 aw0 cg0 cw0 ps w4 (by omega) Hg0.out.at Hw0.out.at).mono ?_
    rintro e w5 ⟨rfl, hb5⟩
    have Hb5 := Lib.hid (below_step Hb4.out Hb4.out.size (hb5.below w4.heap.size))
    have Hw0 := Lib.hid (Hw0.out.below (hb5.below w4.heap.size))
    have Hlx := Lib.hid (Hlx.out.below (hb5.below w4.heap.size))
    have Hg0 := Lib.hid (Hg0.out.below (hb5.below w4.heap.size))
    have hz5 := ((hb5.below w4.heap.size)).size
    go_wp2_with fail
    refine (laws_toIntS al capl xl _ (by omega) (Hil.out.below Hb5.out)).mono ?_
    rintro e w6 ⟨vly, rfl, holy, hb6⟩
    have Hnw0_ly := Lib.hid (own_apart Hw0.out holy (Nat.le_refl _))
    have Hnlx_ly := Lib.hid (own_apart Hlx.out holy (Nat.le_refl _))
    have Hng0_ly := Lib.hid (own_apart Hg0.out holy (Nat.le_refl _))
    have hBly := Hb5.out.size
    have Hb6 := Lib.hid (below_step Hb5.out Hb5.out.size hb6)
    have Hw0 := Lib.hid (Hw0.out.below hb6)
    have Hlx := Lib.hid (Hlx.out.below hb6)
    have Hg0 := Lib.hid (Hg0.out.below hb6)
    have hz6 := (hb6).size
    have Hly := Lib.hid holy; clear holy
    obtain ⟨aly, cly, rfl, _, _⟩ := Hly.out.ints
    have hcly := Hly.out.cap
    go_wp2_with fail
    refine (laws_eqIntS' alx aly clx cly xl w6 (by omega) Hlx.out.at Hly.out.at).mono ?_
    rintro e w7 ⟨rfl, hb7⟩
    have Hb7 := Lib.hid (below_step Hb6.out Hb6.out.size (hb7.below w6.heap.size))
    have Hw0 := Lib.hid (Hw0.out.below (hb7.below w6.heap.size))
    have Hlx := Lib.hid (Hlx.out.below (hb7.below w6.heap.size))
    have Hg0 := Lib.hid (Hg0.out.below (hb7.below w6.heap.size))
    have Hly := Lib.hid (Hly.out.below (hb7.below w6.heap.size))
    have hz7 := ((hb7.below w6.heap.size)).size
    clear Hly
    go_wp2_with fail
    refine (laws_markIntS _ xl (1) w.heap.size w7 (by omega) (by omega) (Hlx.out.mono hBlx)).mono ?_
    rintro e w8 ⟨rfl, ho, hg8⟩
    have Hb8 := Lib.hid (below_row Hb7.out Hb7.out.size hg8 Hlx.out (by first | exact hBlx | omega))
    have Hw0 := Lib.hid (Hw0.out.kept hg8 Hnw0_lx.out.1)
    have Hg0 := Lib.hid (Hg0.out.kept hg8 Hnlx_g0.out.2)
    have Hlx := Lib.hid ho; clear ho
    go_wp2_with fail
    refine (laws_eqIntS' ag0 aw0 cg0 cw0 ps w8 (by omega) Hg0.out.at Hw0.out.at).mono ?_
    rintro e w9 ⟨rfl, hb9⟩
    have Hb9 := Lib.hid (below_step Hb8.out Hb8.out.size (hb9.below w8.heap.size))
    have Hw0 := Lib.hid (Hw0.out.below (hb9.below w8.heap.size))
    have Hlx := Lib.hid (Hlx.out.below (hb9.below w8.heap.size))
    have Hg0 := Lib.hid (Hg0.out.below (hb9.below w8.heap.size))
    have hz9 := ((hb9.below w8.heap.size)).size
    go_wp2_with fail
    refine (laws_markIntS _ ps 1 w.heap.size w9 (by omega) (by omega) (Hg0.out.mono hBg0)).mono ?_
    rintro e w10 ⟨rfl, ho, hg10⟩
    have Hb10 := Lib.hid (below_row Hb9.out Hb9.out.size hg10 Hg0.out (by first | exact hBg0 | omega))
    have Hw0 := Lib.hid (Hw0.out.kept hg10 Hnw0_g0.out.1)
    have Hlx := Lib.hid (Hlx.out.kept hg10 Hnlx_g0.out.1)
    have Hg0 := Lib.hid ho; clear ho
    go_wp2_with fail
    refine (laws_heldIntS ag0 cg0 1 ps.length w10 (by omega) (by omega) Hg0.out.at).mono ?_
    rintro e w11 ⟨rfl, hb11⟩
    have Hb11 := Lib.hid (below_step Hb10.out Hb10.out.size (hb11.below w10.heap.size))
    have Hw0 := Lib.hid (Hw0.out.below (hb11.below w10.heap.size))
    have Hlx := Lib.hid (Hlx.out.below (hb11.below w10.heap.size))
    have Hg0 := Lib.hid (Hg0.out.below (hb11.below w10.heap.size))
    have hz11 := ((hb11.below w10.heap.size)).size
    clear Hlx
    go_wp2_with fail
    refine (laws_toIntS al capl xl _ (by omega) (Hil.out.below Hb11.out)).mono ?_
    rintro e w12 ⟨vlz, rfl, holz, hb12⟩
    have Hnw0_lz := Lib.hid (own_apart Hw0.out holz (Nat.le_refl _))
    have Hng0_lz := Lib.hid (own_apart Hg0.out holz (Nat.le_refl _))
    have hBlz := Hb11.out.size
    have Hb12 := Lib.hid (below_step Hb11.out Hb11.out.size hb12)
    have Hw0 := Lib.hid (Hw0.out.below hb12)
    have Hg0 := Lib.hid (Hg0.out.below hb12)
    have hz12 := (hb12).size
    have Hlz := Lib.hid holz; clear holz
    obtain ⟨alz, clz, rfl, _, _⟩ := Hlz.out.ints
    have hclz := Hlz.out.cap
    go_wp2_with fail
    refine (Hcimpl.out alz clz _ hclz Hlz.out.at).mono ?_
    rintro e w13 ⟨vh0, rfl, hoh0, hb13⟩
    have Hnw0_h0 := Lib.hid (own_apart Hw0.out hoh0 (Nat.le_refl _))
    have Hng0_h0 := Lib.hid (own_apart Hg0.out hoh0 (Nat.le_refl _))
    have Hnlz_h0 := Lib.hid (own_apart Hlz.out hoh0 (Nat.le_refl _))
    have hBh0 := Hb12.out.size
    have Hb13 := Lib.hid (below_step Hb12.out Hb12.out.size hb13)
    have Hw0 := Lib.hid (Hw0.out.below hb13)
    have Hg0 := Lib.hid (Hg0.out.below hb13)
    have Hlz := Lib.hid (Hlz.out.below hb13)
    have hz13 := (hb13).size
    have Hh0 := Lib.hid hoh0; clear hoh0
    obtain ⟨ah0, ch0, rfl, _, _⟩ := Hh0.out.ints
    have hch0 := Hh0.out.cap
    go_wp2_with fail
    refine (laws_eqIntS' ah0 aw0 ch0 cw0 ps w13 (by omega) Hh0.out.at Hw0.out.at).mono ?_
    rintro e w14 ⟨rfl, hb14⟩
    have Hb14 := Lib.hid (below_step Hb13.out Hb13.out.size (hb14.below w13.heap.size))
    have Hw0 := Lib.hid (Hw0.out.below (hb14.below w13.heap.size))
    have Hg0 := Lib.hid (Hg0.out.below (hb14.below w13.heap.size))
    have Hlz := Lib.hid (Hlz.out.below (hb14.below w13.heap.size))
    have Hh0 := Lib.hid (Hh0.out.below (hb14.below w13.heap.size))
    have hz14 := ((hb14.below w13.heap.size)).size
    go_wp2_with fail
    refine (laws_heldIntS ag0 cg0 1 ps.length w14 (by omega) (by omega) Hg0.out.at).mono ?_
    rintro e w15 ⟨rfl, hb15⟩
    have Hb15 := Lib.hid (below_step Hb14.out Hb14.out.size (hb15.below w14.heap.size))
    have Hw0 := Lib.hid (Hw0.out.below (hb15.below w14.heap.size))
    have Hg0 := Lib.hid (Hg0.out.below (hb15.below w14.heap.size))
    have Hlz := Lib.hid (Hlz.out.below (hb15.below w14.heap.size))
    have Hh0 := Lib.hid (Hh0.out.below (hb15.below w14.heap.size))
    have hz15 := ((hb15.below w14.heap.size)).size
    go_wp2
    go_ret
    exact ⟨rfl, Hb15.out⟩
  · go_enter Try.func8, Try.ntmps8
    go_wp2
    go_ret
    exact ⟨rfl, Below.refl _ _⟩

theorem fnExactMerkleProof_own : ownKnob Try.prog.godebug = none := by kernel_rfl
theorem fnExactMerkleProof_laidOut : laidOutB Try.prog = true := by kernel_rfl

theorem fnExactMerkleProof_lifted (os : Os) (started : os.Started) (H : Type) (enc : TypeId × Value → H) :
    ReturnsInHanded {} Try.checked os 8 .any (Rows.fnExactMerkleProofSpec.pre6 enc Try.prog Try.f8 Rows.fnExactMerkleProofRow.domain false) (Rows.fnExactMerkleProofSpec.post enc Try.prog Try.f8 false true false false) := by
  refine law_lifted (C := Try.checked) (tb := 4) fnExactMerkleProof_own fnExactMerkleProof_laidOut started (by kernel_rfl) Try.func8 rfl Try.underlying4 rfl (by rw [Try.params8]; exact of_decide_eq_true (by kernel_rfl)) ?_
    (ChangeSpec.witness6 (enc := enc) (C := Try.checked) false ⟨#[], #[.slice none 0 0, .int .i64 0], []⟩ 8 (by kernel_rfl) (by kernel_rfl) (by kernel_rfl) (by kernel_rfl)) ?_
  · intro ds hds
    rw [Try.params8] at hds
    match ds, hds with
    | [d0, d1], _ => rfl
  · intro W base args ds p hval0 hA0
    have hval : ∀ (j : Nat) t v, Try.f8.params[j]? = some t → args[j]? = some v → Value.okWide Try.prog W .any base t v := hval0
    have hA : DataW.TrodAll enc Try.prog W 0 (fun _ => true) true Try.f8.params.toList args.toList ds p := hA0
    rw [Try.params8] at hA hval
    obtain ⟨v0, vs0, d0, ds0, p0, q0, hargs0, rfl, rfl, h0, r0⟩ := trodAll_cons hA
    obtain ⟨v1, vs1, d1, ds1, p1, q1, hargs1, rfl, rfl, h1, r1⟩ := trodAll_cons r0
    obtain ⟨hnil, rfl, rfl⟩ := trodAll_nil r1
    subst hnil
    subst hargs1
    obtain rfl : args = #[v0, v1] := by cases args; simp_all
    obtain ⟨a0, cap0, zs0, rfl, hk0, hm0, hi0, hw0⟩ := open_slice_ints Try.underlying23 Try.underlying3 (by kernel_rfl) (hval 0 23 v0 rfl rfl) h0
    obtain ⟨n1, rfl, _, _, hw1⟩ := open_int Try.underlying3 (hval 1 3 v1 rfl rfl) h1
    exact fnExactMerkleProof_walk a0 cap0 zs0 n1 W hk0 hm0 hi0 hw0 (wf_i64 hw1)

theorem fnExactMerkleProof_holds : Rows.FnExactMerkleProofSaid :=
  OpenClaim.holds_of_wide 8 Try.f8 rfl rfl rfl rfl rfl rfl rfl ⟨rfl, rfl, rfl, rfl, rfl⟩ rfl rfl rfl rfl rfl (by kernel_rfl) Try.func8 (by kernel_rfl)
    (of_decide_eq_true (by kernel_rfl)) (by unfold Func.isWrapper; first | (rw [if_pos (by decide +kernel)]; kernel_rfl) | (rw [if_neg (by decide +kernel)]; exact ⟨rfl, rfl⟩))
    (fun os started H enc _ => fnExactMerkleProof_lifted os started H enc)

end Go.Proofs.Ytgkelcpiokmhfab
