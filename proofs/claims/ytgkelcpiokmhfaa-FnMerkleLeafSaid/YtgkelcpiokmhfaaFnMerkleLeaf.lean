/- Law FnMerkleLeaf holds for every input; no conditions of our own. -/
import Derived.Test.YtgkelcpiokmhfaaRows
import Derived.Test.YtgkelcpiokmhfaaBase
import Derived.Test.YtgkelcpiokmhfaaLift
import Derived.Test.YtgkelcpiokmhfaaApp
import Derived.Test.YtgkelcpiokmhfaaM2
import Derived.Test.YtgkelcpiokmhfaaC1
import Derived.Test.YtgkelcpiokmhfaaC2
import Derived.Test.YtgkelcpiokmhfaaP2
import Derived.Test.YtgkelcpiokmhfaaL1
import Derived.Test.YtgkelcpiokmhfaaL2
import Derived.Test.YtgkelcpiokmhfaaRd
import Derived.Test.YtgkelcpiokmhfaaD2
import Derived.Test.YtgkelcpiokmhfaaT2
import Derived.Test.YtgkelcpiokmhfaaHeld
namespace Go.Proofs.Ytgkelcpiokmhfaa
open Go.ChangeShapes Go.WideShapes Go.ChangeAt Go.RowKit

theorem fnMerkleLeaf_walk (a : Option Addr) (cap : Nat) (zs : List Int) (a' : Option Addr) (cap' : Nat) (ms : List Int) (w : World) (hk : zs.length ≤ cap) (_hm : zs.length ≤ maxLen) (hi : zs = [] ∨ ∃ b off, a = some ⟨b, off, none⟩ ∧ b < w.heap.size ∧ ∀ j (h : j < zs.length), w.cell? ⟨b, off + j, none⟩ = some (.int .u8 zs[j])) (hw : ∀ z ∈ zs, (Lit.int .u8 z).wf = true)
    (_hk' : ms.length ≤ cap') (hm' : ms.length ≤ maxLen) (_hi' : ms = [] ∨ ∃ b off, a' = some ⟨b, off, none⟩ ∧ b < w.heap.size ∧ ∀ j (h : j < ms.length), w.cell? ⟨b, off + j, none⟩ = some (.int .u8 ms[j])) (_hw' : ∀ z ∈ ms, (Lit.int .u8 z).wf = true) :
    Calls Try.prog 7 #[.slice a zs.length cap, .slice a' ms.length cap'] w fun e w' => e = .returned (.bool true) ∧ Below w.heap.size w w' := by
  unfold maxLen at hm'
  by_cases hl : 1048576 < zs.length
  · go_enter Try.func7, Try.ntmps7
    go_wp2
    go_ret
    exact ⟨rfl, Below.refl _ _⟩
  by_cases hl' : 1048576 < ms.length
  · go_enter Try.func7, Try.ntmps7
    go_wp2
    go_ret
    exact ⟨rfl, Below.refl _ _⟩
  have hcode := codeAt_of hk (by omega) hi hw
  have Hcode := Lib.hid hcode; clear hcode hi hw
  go_enter Try.func7, Try.ntmps7
  go_wp2_with fail
  refine (spec_DrawMerkleProof a cap zs _ Hcode.out).mono ?_
  rintro e w1 ⟨v, xs, i, rfl, hown, hxl, hsm, hi0, hi1, hb1⟩
  clear hsm
  have Hb1 := Lib.hid hb1; clear hb1
  obtain ⟨al, cl, rfl, _, _⟩ := hown.ints
  have hBl := Nat.le_refl w.heap.size
  have Hl := Lib.hid hown; clear hown
  have hcl := Hl.out.cap
  have hpl := mpZ_len xs i
  have hI := fun a cap w h => impl_MerkleProof a cap xs i w (by omega) h (by omega) (by omega)
  have hS := fun a cap w => spec_MerkleProof a cap xs i w (by omega)
  generalize hps : mpZ xs i = ps at *
  have Hps := Lib.hid hps; clear hps
  have HI := Lib.hid hI; clear hI
  have HS := Lib.hid hS; clear hS
  go_wp2_with fail
  refine (HI.out al cl _ hcl Hl.out.at).mono ?_
  rintro e w2 ⟨vo, rfl, hoo, hb2⟩
  have Hnl_o := Lib.hid (own_apart Hl.out hoo (Nat.le_refl _))
  have hBo := Hb1.out.size
  have Hb2 := Lib.hid (below_step Hb1.out Hb1.out.size hb2)
  have Hl := Lib.hid (Hl.out.below hb2)
  have hz2 := (hb2).size
  have Ho := Lib.hid hoo; clear hoo
  obtain ⟨ao, co, rfl, _, _⟩ := Ho.out.ints
  have hco := Ho.out.cap
  go_wp2_with fail
  refine (HS.out al cl _ Hl.out.at).mono ?_
  rintro e w3 ⟨vu, rfl, hou, hb3⟩
  have Hnl_u := Lib.hid (own_apart Hl.out hou (Nat.le_refl _))
  have Hno_u := Lib.hid (own_apart Ho.out hou (Nat.le_refl _))
  have hBu := Hb2.out.size
  have Hb3 := Lib.hid (below_step Hb2.out Hb2.out.size hb3)
  have Hl := Lib.hid (Hl.out.below hb3)
  have Ho := Lib.hid (Ho.out.below hb3)
  have hz3 := (hb3).size
  have Hu := Lib.hid hou; clear hou
  obtain ⟨au, cu, rfl, _, _⟩ := Hu.out.ints
  have hcu := Hu.out.cap
  go_wp2_with fail
  refine (laws_sameInts' ao au co cu ps w3 (by omega) Ho.out.at Hu.out.at).mono ?_
  rintro e w4 ⟨rfl, hb4⟩
  have Hb4 := Lib.hid (below_step Hb3.out Hb3.out.size (hb4.below w3.heap.size))
  have Hl := Lib.hid (Hl.out.below (hb4.below w3.heap.size))
  have Ho := Lib.hid (Ho.out.below (hb4.below w3.heap.size))
  have Hu := Lib.hid (Hu.out.below (hb4.below w3.heap.size))
  have hz4 := ((hb4.below w3.heap.size)).size
  have hrs := fun w h => spec_MerkleRoot al cl xs w (by omega) h
  have hri := fun w h => impl_MerkleRoot al cl xs w (by omega) hcl h
  by_cases hv : leavesB xs = true
  · have hrt := mrZ_pos hv
    have hml := fun (x : Int) (h : x ≠ xs.getD i.toNat 0) (h1 : 0 ≤ i) (h2 : i < xs.length) => mc_leaf' hv h1 h2 h
    have hlv := fun h => leaves_get hv (i := i.toNat) h
    generalize hrt' : mrZ xs = rt at hrs hri hrt hml
    clear hrt'
    rw [Hps.out] at hml
    have HRS := Lib.hid hrs; clear hrs
    have HRI := Lib.hid hri; clear hri
    have HML := Lib.hid hml; clear hml
    have HLV := Lib.hid hlv; clear hlv
    clear hv
    have d0 : decide (rt < 0) = false := decide_eq_false (by omega)
    by_cases hin : i < 0
    · have d1 : decide (i < 0) = true := decide_eq_true hin
      go_wp2_with fail
      refine (HRS.out _ Hl.out.at).mono ?_
      rintro e w5 ⟨rfl, hb5⟩
      have Hb5 := Lib.hid (below_step Hb4.out Hb4.out.size hb5)
      have Hl := Lib.hid (Hl.out.below hb5)
      have Ho := Lib.hid (Ho.out.below hb5)
      have Hu := Lib.hid (Hu.out.below hb5)
      have hz5 := (hb5).size
      go_wp2_with fail
      refine (laws_sameInts' ao au co cu ps w5 (by omega) Ho.out.at Hu.out.at).mono ?_
      rintro e w6 ⟨rfl, hb6⟩
      have Hb6 := Lib.hid (below_step Hb5.out Hb5.out.size (hb6.below w5.heap.size))
      have Hl := Lib.hid (Hl.out.below (hb6.below w5.heap.size))
      have Ho := Lib.hid (Ho.out.below (hb6.below w5.heap.size))
      have Hu := Lib.hid (Hu.out.below (hb6.below w5.heap.size))
      have hz6 := ((hb6.below w5.heap.size)).size
      go_wp2
      go_ret
      exact ⟨rfl, Hb6.out⟩
    have d1 : decide (i < 0) = false := decide_eq_false hin
    by_cases hil : (xs.length : Int) ≤ i
    · have d2 : decide ((xs.length : Int) ≤ i) = true := decide_eq_true hil
      go_wp2_with fail
      refine (HRS.out _ Hl.out.at).mono ?_
      rintro e w5 ⟨rfl, hb5⟩
      have Hb5 := Lib.hid (below_step Hb4.out Hb4.out.size hb5)
      have Hl := Lib.hid (Hl.out.below hb5)
      have Ho := Lib.hid (Ho.out.below hb5)
      have Hu := Lib.hid (Hu.out.below hb5)
      have hz5 := (hb5).size
      go_wp2_with fail
      refine (laws_sameInts' ao au co cu ps w5 (by omega) Ho.out.at Hu.out.at).mono ?_
      rintro e w6 ⟨rfl, hb6⟩
      have Hb6 := Lib.hid (below_step Hb5.out Hb5.out.size (hb6.below w5.heap.size))
      have Hl := Lib.hid (Hl.out.below (hb6.below w5.heap.size))
      have Ho := Lib.hid (Ho.out.below (hb6.below w5.heap.size))
      have Hu := Lib.hid (Hu.out.below (hb6.below w5.heap.size))
      have hz6 := ((hb6.below w5.heap.size)).size
      go_wp2
      go_ret
      exact ⟨rfl, Hb6.out⟩
    have d2 : decide ((xs.length : Int) ≤ i) = false := decide_eq_false hil
    go_wp2_with fail
    refine (HRS.out _ Hl.out.at).mono ?_
    rintro e w5 ⟨rfl, hb5⟩
    have Hb5 := Lib.hid (below_step Hb4.out Hb4.out.size hb5)
    have Hl := Lib.hid (Hl.out.below hb5)
    have Ho := Lib.hid (Ho.out.below hb5)
    have Hu := Lib.hid (Hu.out.below hb5)
    have hz5 := (hb5).size
    obtain ⟨i, rfl⟩ := Int.eq_ofNat_of_zero_le (show 0 ≤ i by omega)
    have hix : i < xs.length := by omega
    obtain ⟨g, cap', hv', hgB', hgs', hcap', hcells, _⟩ := Hl.out.row (by omega)
    simp only [Value.slice.injEq, true_and] at hv'
    obtain ⟨rfl, rfl⟩ := hv'
    have hcell := hcells i hix
    clear hcells
    have hlf := digB_bd (HLV.out (by simpa using hix))
    simp only [Int.toNat_natCast] at hlf
    have hx := HML.out ((xs[i] + 1 + (ms.length : Int) % 990) % 991) (by simp [hix]; omega) (by omega) (by omega)
    generalize xs[i] = lf at *
    have HK := Lib.hid (fun w' h => impl_MerkleCheck rt xs.length i ((lf + 1 + (ms.length : Int) % 990) % 991) ao co ps w' (by omega) hco (by omega) (by omega) (by omega) (by omega) h)
    rw [hx] at HK
    clear hx
    go_wp2_with fail
    refine (HRI.out _ Hl.out.at).mono ?_
    rintro e w6 ⟨rfl, hb6⟩
    have Hb6 := Lib.hid (below_step Hb5.out Hb5.out.size hb6)
    have Hl := Lib.hid (Hl.out.below hb6)
    have Ho := Lib.hid (Ho.out.below hb6)
    have Hu := Lib.hid (Hu.out.below hb6)
    have hz6 := (hb6).size
    go_wp2_with fail
    refine (HK.out _ Ho.out.at).mono ?_
    rintro e w7 ⟨rfl, hb7⟩
    have Hb7 := Lib.hid (below_step Hb6.out Hb6.out.size hb7)
    have Hl := Lib.hid (Hl.out.below hb7)
    have Ho := Lib.hid (Ho.out.below hb7)
    have Hu := Lib.hid (Hu.out.below hb7)
    have hz7 := (hb7).size
    go_wp2
    go_ret
    exact ⟨rfl, Hb7.out⟩
  · rw [Bool.not_eq_true] at hv
    rw [mrZ_no hv] at hrs
    have HRS := Lib.hid hrs; clear hrs hri
    clear hv
    go_wp2_with fail
    refine (HRS.out _ Hl.out.at).mono ?_
    rintro e w5 ⟨rfl, hb5⟩
    have Hb5 := Lib.hid (below_step Hb4.out Hb4.out.size hb5)
    have Hl := Lib.hid (Hl.out.below hb5)
    have Ho := Lib.hid (Ho.out.below hb5)
    have Hu := Lib.hid (Hu.out.below hb5)
    have hz5 := (hb5).size
    go_wp2_with fail
    refine (laws_sameInts' ao au co cu ps w5 (by omega) Ho.out.at Hu.out.at).mono ?_
    rintro e w6 ⟨rfl, hb6⟩
    have Hb6 := Lib.hid (below_step Hb5.out Hb5.out.size (hb6.below w5.heap.size))
    have Hl := Lib.hid (Hl.out.below (hb6.below w5.heap.size))
    have Ho := Lib.hid (Ho.out.below (hb6.below w5.heap.size))
    have Hu := Lib.hid (Hu.out.below (hb6.below w5.heap.size))
    have hz6 := ((hb6.below w5.heap.size)).size
    go_wp2
    go_ret
    exact ⟨rfl, Hb6.out⟩

theorem fnMerkleLeaf_own : ownKnob Try.prog.godebug = none := by kernel_rfl
theorem fnMerkleLeaf_laidOut : laidOutB Try.prog = true := by kernel_rfl

theorem fnMerkleLeaf_lifted (os : Os) (started : os.Started) (H : Type) (enc : TypeId × Value → H) :
    ReturnsInHanded {} Try.checked os 7 .any (Rows.fnMerkleLeafSpec.pre6 enc Try.prog Try.f7 Rows.fnMerkleLeafRow.domain false) (Rows.fnMerkleLeafSpec.post enc Try.prog Try.f7 false true false false) := by
  refine law_lifted (C := Try.checked) (tb := 4) fnMerkleLeaf_own fnMerkleLeaf_laidOut started (by kernel_rfl) Try.func7 rfl Try.underlying4 rfl (by rw [Try.params7]; exact of_decide_eq_true (by kernel_rfl)) ?_
    (ChangeSpec.witness6 (enc := enc) (C := Try.checked) false ⟨#[], #[.slice none 0 0, .slice none 0 0], []⟩ 8 (by kernel_rfl) (by kernel_rfl) (by kernel_rfl) (by kernel_rfl)) ?_
  · intro ds hds
    rw [Try.params7] at hds
    match ds, hds with
    | [d0, d1], _ => rfl
  · intro W base args ds p hval0 hA0
    have hval : ∀ (j : Nat) t v, Try.f7.params[j]? = some t → args[j]? = some v → Value.okWide Try.prog W .any base t v := hval0
    have hA : DataW.TrodAll enc Try.prog W 0 (fun _ => true) true Try.f7.params.toList args.toList ds p := hA0
    rw [Try.params7] at hA hval
    obtain ⟨v0, vs0, d0, ds0, p0, q0, hargs0, rfl, rfl, h0, r0⟩ := trodAll_cons hA
    obtain ⟨v1, vs1, d1, ds1, p1, q1, hargs1, rfl, rfl, h1, r1⟩ := trodAll_cons r0
    obtain ⟨hnil, rfl, rfl⟩ := trodAll_nil r1
    subst hnil
    subst hargs1
    obtain rfl : args = #[v0, v1] := by cases args; simp_all
    obtain ⟨a0, cap0, zs0, rfl, hk0, hm0, hi0, hw0⟩ := open_slice_ints Try.underlying22 Try.underlying5 (by kernel_rfl) (hval 0 22 v0 rfl rfl) h0
    obtain ⟨a1, cap1, zs1, rfl, hk1, hm1, hi1, hw1⟩ := open_slice_ints Try.underlying22 Try.underlying5 (by kernel_rfl) (hval 1 22 v1 rfl rfl) h1
    exact fnMerkleLeaf_walk a0 cap0 zs0 a1 cap1 zs1 W hk0 hm0 hi0 hw0 hk1 hm1 hi1 hw1

theorem fnMerkleLeaf_holds : Rows.FnMerkleLeafSaid :=
  OpenClaim.holds_of_wide 7 Try.f7 rfl rfl rfl rfl rfl rfl rfl ⟨rfl, rfl, rfl, rfl, rfl⟩ rfl rfl rfl rfl rfl (by kernel_rfl) Try.func7 (by kernel_rfl)
    (of_decide_eq_true (by kernel_rfl)) (by unfold Func.isWrapper; first | (rw [if_pos (by decide +kernel)]; kernel_rfl) | (rw [if_neg (by decide +kernel)]; exact ⟨rfl, rfl⟩))
    (fun os started H enc _ => fnMerkleLeaf_lifted os started H enc)

end Go.Proofs.Ytgkelcpiokmhfaa
