/- Law FnMerkleRoots holds for every input; no conditions of our own. -/
import Derived.Test.YtgkelcpiokmhfabRows
import Derived.Test.YtgkelcpiokmhfabBase
import Derived.Test.YtgkelcpiokmhfabLift
import Derived.Test.YtgkelcpiokmhfabApp
import Derived.Test.YtgkelcpiokmhfabM2
import Derived.Test.YtgkelcpiokmhfabC1
import Derived.Test.YtgkelcpiokmhfabC2
import Derived.Test.YtgkelcpiokmhfabP2
import Derived.Test.YtgkelcpiokmhfabL1
import Derived.Test.YtgkelcpiokmhfabL2
import Derived.Test.YtgkelcpiokmhfabRd
import Derived.Test.YtgkelcpiokmhfabD2
import Derived.Test.YtgkelcpiokmhfabT2
import Derived.Test.YtgkelcpiokmhfabHeld
namespace Go.Proofs.Ytgkelcpiokmhfab
open Go.ChangeShapes Go.WideShapes Go.ChangeAt Go.RowKit

theorem fnMerkleRoots_walk (a : Option Addr) (cap : Nat) (zs : List Int) (a' : Option Addr) (cap' : Nat) (ms : List Int) (w : World) (hk : zs.length ≤ cap) (_hm : zs.length ≤ maxLen) (hi : zs = [] ∨ ∃ b off, a = some ⟨b, off, none⟩ ∧ b < w.heap.size ∧ ∀ j (h : j < zs.length), w.cell? ⟨b, off + j, none⟩ = some (.int .u8 zs[j])) (hw : ∀ z ∈ zs, (Lit.int .u8 z).wf = true)
    (_hk' : ms.length ≤ cap') (hm' : ms.length ≤ maxLen) (_hi' : ms = [] ∨ ∃ b off, a' = some ⟨b, off, none⟩ ∧ b < w.heap.size ∧ ∀ j (h : j < ms.length), w.cell? ⟨b, off + j, none⟩ = some (.int .u8 ms[j])) (_hw' : ∀ z ∈ ms, (Lit.int .u8 z).wf = true) :
    Calls Try.prog 4 #[.slice a zs.length cap, .slice a' ms.length cap'] w fun e w' => e = .returned (.bool true) ∧ Below w.heap.size w w' := by
  unfold maxLen at hm'
  by_cases hl : 1048576 < zs.length
  · go_enter Try.func4, Try.ntmps4
    go_wp2
    go_ret
    exact ⟨rfl, Below.refl _ _⟩
  by_cases hl' : 1048576 < ms.length
  · go_enter Try.func4, Try.ntmps4
    go_wp2
    go_ret
    exact ⟨rfl, Below.refl _ _⟩
  have hcode := codeAt_of hk (by omega) hi hw
  have Hcode := Lib.hid hcode; clear hcode hi hw
  go_enter Try.func4, Try.ntmps4
  go_wp2_with fail
  refine (spec_DrawMerkleCheck a cap zs _ Hcode.out).mono ?_
  rintro e w1 ⟨root, size, i, leaf, v, ps, rfl, hr0, hr1, hs0, hs1, hi0, hi1, hf0, hf1, hown, hpl, hb1⟩
  have Hb1 := Lib.hid hb1; clear hb1
  obtain ⟨ap, cp, rfl, _, _⟩ := hown.ints
  have hBp := Nat.le_refl w.heap.size
  have Hp := Lib.hid hown; clear hown
  have hcp := Hp.out.cap
  have hI := impl_MerkleCheck root size i leaf ap cp ps w1 (by omega) hcp (by omega) (by omega) (by omega) (by omega) Hp.out.at
  have hS := fun w h => spec_MerkleCheck root size i leaf ap cp ps w (by omega) hcp (by omega) (by omega) h
  cases ho : mcB root size i leaf ps with
  | false =>
    rw [ho] at hI hS
    have HI := Lib.hid hI; clear hI
    have HS := Lib.hid hS; clear hS
    clear ho
    go_wp2_with fail
    refine (HI.out).mono ?_
    rintro e w2 ⟨rfl, hb2⟩
    have Hb2 := Lib.hid (below_step Hb1.out Hb1.out.size hb2)
    have Hp := Lib.hid (Hp.out.below hb2)
    have hz2 := (hb2).size
    go_wp2_with fail
    refine (HS.out _ Hp.out.at).mono ?_
    rintro e wx ⟨rfl, rfl⟩
    go_wp2_with fail
    refine (HS.out _ Hp.out.at).mono ?_
    rintro e wx ⟨rfl, rfl⟩
    go_wp2
    go_ret
    exact ⟨rfl, Hb2.out⟩
  | true =>
    rw [ho] at hI hS
    have HI := Lib.hid hI; clear hI
    have HS := Lib.hid hS; clear hS
    have Ho := Lib.hid ho; clear ho
    go_wp2_with fail
    refine (HI.out).mono ?_
    rintro e w2 ⟨rfl, hb2⟩
    have Hb2 := Lib.hid (below_step Hb1.out Hb1.out.size hb2)
    have Hp := Lib.hid (Hp.out.below hb2)
    have hz2 := (hb2).size
    go_wp2_with fail
    refine (HS.out _ Hp.out.at).mono ?_
    rintro e wx ⟨rfl, rfl⟩
    by_cases hne : (root + 1 + (ms.length : Int) % 990) % 991 = root
    · go_wp2
      go_ret
      exact ⟨rfl, Hb2.out⟩
    have hq := impl_MerkleCheck ((root + 1 + (ms.length : Int) % 990) % 991) size i leaf ap cp ps w2 (by omega) hcp (by omega) (by omega) (by omega) (by omega) Hp.out.at
    rw [mcB_root Ho.out hne] at hq
    have HQ := Lib.hid hq; clear hq
    go_wp2_with fail
    refine (HQ.out).mono ?_
    rintro e w3 ⟨rfl, hb3⟩
    have Hb3 := Lib.hid (below_step Hb2.out Hb2.out.size hb3)
    have Hp := Lib.hid (Hp.out.below hb3)
    have hz3 := (hb3).size
    go_wp2
    go_ret
    exact ⟨rfl, Hb3.out⟩

theorem fnMerkleRoots_own : ownKnob Try.prog.godebug = none := by kernel_rfl
theorem fnMerkleRoots_laidOut : laidOutB Try.prog = true := by kernel_rfl

theorem fnMerkleRoots_lifted (os : Os) (started : os.Started) (H : Type) (enc : TypeId × Value → H) :
    ReturnsInHanded {} Try.checked os 4 .any (Rows.fnMerkleRootsSpec.pre6 enc Try.prog Try.f4 Rows.fnMerkleRootsRow.domain false) (Rows.fnMerkleRootsSpec.post enc Try.prog Try.f4 false true false false) := by
  refine law_lifted (C := Try.checked) (tb := 4) fnMerkleRoots_own fnMerkleRoots_laidOut started (by kernel_rfl) Try.func4 rfl Try.underlying4 rfl (by rw [Try.params4]; exact of_decide_eq_true (by kernel_rfl)) ?_
    (ChangeSpec.witness6 (enc := enc) (C := Try.checked) false ⟨#[], #[.slice none 0 0, .slice none 0 0], []⟩ 8 (by kernel_rfl) (by kernel_rfl) (by kernel_rfl) (by kernel_rfl)) ?_
  · intro ds hds
    rw [Try.params4] at hds
    match ds, hds with
    | [d0, d1], _ => rfl
  · intro W base args ds p hval0 hA0
    have hval : ∀ (j : Nat) t v, Try.f4.params[j]? = some t → args[j]? = some v → Value.okWide Try.prog W .any base t v := hval0
    have hA : DataW.TrodAll enc Try.prog W 0 (fun _ => true) true Try.f4.params.toList args.toList ds p := hA0
    rw [Try.params4] at hA hval
    obtain ⟨v0, vs0, d0, ds0, p0, q0, hargs0, rfl, rfl, h0, r0⟩ := trodAll_cons hA
    obtain ⟨v1, vs1, d1, ds1, p1, q1, hargs1, rfl, rfl, h1, r1⟩ := trodAll_cons r0
    obtain ⟨hnil, rfl, rfl⟩ := trodAll_nil r1
    subst hnil
    subst hargs1
    obtain rfl : args = #[v0, v1] := by cases args; simp_all
    obtain ⟨a0, cap0, zs0, rfl, hk0, hm0, hi0, hw0⟩ := open_slice_ints Try.underlying22 Try.underlying5 (by kernel_rfl) (hval 0 22 v0 rfl rfl) h0
    obtain ⟨a1, cap1, zs1, rfl, hk1, hm1, hi1, hw1⟩ := open_slice_ints Try.underlying22 Try.underlying5 (by kernel_rfl) (hval 1 22 v1 rfl rfl) h1
    exact fnMerkleRoots_walk a0 cap0 zs0 a1 cap1 zs1 W hk0 hm0 hi0 hw0 hk1 hm1 hi1 hw1

theorem fnMerkleRoots_holds : Rows.FnMerkleRootsSaid :=
  OpenClaim.holds_of_wide 4 Try.f4 rfl rfl rfl rfl rfl rfl rfl ⟨rfl, rfl, rfl, rfl, rfl⟩ rfl rfl rfl rfl rfl (by kernel_rfl) Try.func4 (by kernel_rfl)
    (of_decide_eq_true (by kernel_rfl)) (by unfold Func.isWrapper; first | (rw [if_pos (by decide +kernel)]; kernel_rfl) | (rw [if_neg (by decide +kernel)]; exact ⟨rfl, rfl⟩))
    (fun os started H enc _ => fnMerkleRoots_lifted os started H enc)

end Go.Proofs.Ytgkelcpiokmhfab
