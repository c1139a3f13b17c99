/- Law FnHashByte holds for every input; no conditions of our own. -/
import Derived.Test.YtgkelcpiokmhfaaRows
import Derived.Test.YtgkelcpiokmhfaaBase
import Derived.Test.YtgkelcpiokmhfaaLift
import Derived.Test.YtgkelcpiokmhfaaApp
import Derived.Test.YtgkelcpiokmhfaaM2
import Derived.Test.YtgkelcpiokmhfaaC1
import Derived.Test.YtgkelcpiokmhfaaC2
import Derived.Test.YtgkelcpiokmhfaaP2
import Derived.Test.YtgkelcpiokmhfaaL1
import Derived.Test.YtgkelcpiokmhfaaL2
import Derived.Test.YtgkelcpiokmhfaaRd
import Derived.Test.YtgkelcpiokmhfaaD2
import Derived.Test.YtgkelcpiokmhfaaT2
import Derived.Test.YtgkelcpiokmhfaaHeld
namespace Go.Proofs.Ytgkelcpiokmhfaa
open Go.ChangeShapes Go.WideShapes Go.ChangeAt Go.RowKit

theorem fnHashByte_walk (a : Option Addr) (cap : Nat) (zs : List Int) (a' : Option Addr) (cap' : Nat) (ms : List Int) (w : World) (hk : zs.length ≤ cap) (_hm : zs.length ≤ maxLen) (hi : zs = [] ∨ ∃ b off, a = some ⟨b, off, none⟩ ∧ b < w.heap.size ∧ ∀ j (h : j < zs.length), w.cell? ⟨b, off + j, none⟩ = some (.int .u8 zs[j])) (hw : ∀ z ∈ zs, (Lit.int .u8 z).wf = true)
    (_hk' : ms.length ≤ cap') (hm' : ms.length ≤ maxLen) (_hi' : ms = [] ∨ ∃ b off, a' = some ⟨b, off, none⟩ ∧ b < w.heap.size ∧ ∀ j (h : j < ms.length), w.cell? ⟨b, off + j, none⟩ = some (.int .u8 ms[j])) (_hw' : ∀ z ∈ ms, (Lit.int .u8 z).wf = true) :
    Calls Try.prog 3 #[.slice a zs.length cap, .slice a' ms.length cap'] w fun e w' => e = .returned (.bool true) ∧ Below w.heap.size w w' := by
  unfold maxLen at hm'
  by_cases hl : 1048576 < zs.length
  · go_enter Try.func3, Try.ntmps3
    go_wp2
    go_ret
    exact ⟨rfl, Below.refl _ _⟩
  by_cases hl' : 1048576 < ms.length
  · go_enter Try.func3, Try.ntmps3
    go_wp2
    go_ret
    exact ⟨rfl, Below.refl _ _⟩
  have hcode := codeAt_of hk (by omega) hi hw
  have Hcode := Lib.hid hcode; clear hcode hi hw
  go_enter Try.func3, Try.ntmps3
  go_wp2_with fail
  refine (spec_DrawHashText a cap zs _ Hcode.out).mono ?_
  rintro e w1 ⟨s, rfl, hs, hb1⟩
  have Hb1 := Lib.hid hb1; clear hb1
  have hI := impl_HashText s w1 (by omega)
  have HI := Lib.hid hI; clear hI
  go_wp2_with fail
  refine HI.out.mono ?_
  rintro e w2 ⟨rfl, hb2⟩
  have Hb2 := Lib.hid (below_step Hb1.out Hb1.out.size hb2); clear hb2
  go_wp2_with fail
  refine (spec_HashText s _ (by omega)).mono ?_
  rintro e w3 ⟨rfl, rfl⟩

  by_cases h60 : s.size ≤ 60
  · have h1 := htZ_yes s h60
    by_cases h0 : s.size = 0
    · have hne : s.toList.isEmpty = true := str_nil h0
      generalize htZ s = o at *
      go_wp2
      go_ret
      exact ⟨rfl, Hb2.out⟩
    · generalize ho : htZ s = o at *
      have Ho := Lib.hid ho; clear ho
      have hne : s.toList.isEmpty = false := str_ne h0
      obtain ⟨k, hkm⟩ : ∃ k : Nat, k = ms.length % s.size := ⟨_, rfl⟩
      have hks : k < s.size := by rw [hkm]; exact Nat.mod_lt _ (by omega)
      have hmod : (ms.length : Int) % (s.size : Int) = (k : Int) := by rw [hkm]; exact (Int.natCast_emod _ _).symm
      have Hmod := Lib.hid hmod; clear hmod hkm
      go_wp2_with fail
      rw [Hmod.out]
      have hw1 : 0 ≤ (k : Int) := by omega
      have hw2 : (k : Int) ≤ s.size := by omega
      have hw3 : (k : Int) < s.size := by omega
      have hw4 : (k : Int) + 1 ≤ s.size := by omega
      have hw5 : 0 ≤ (k : Int) + 1 := by omega
      have hr := wrap_tmod3 ms.length
      obtain ⟨m, hm1, hm3, hmr⟩ := hr
      obtain ⟨c, hc, hcn⟩ := xor_byte s[k] m hm1 hm3
      have hcv := conv_byte (P := Try.prog) w2 22 9 5 Try.underlying22 Try.underlying5 Try.underlying9 c
      have Hcn := Lib.hid hcn; clear hcn
      have hwr : IntKind.i64.wrap ((k : Int) + 1) = (k : Int) + 1 := IntWalk.i64_in _ (by omega)
      have hwt : ((k : Int) + 1).toNat = k + 1 := by omega
      have hq1 : ¬ 9223372036854775807 < min k s.size + 1 := by omega
      have hq2 : ¬ 9223372036854775807 < min k s.size + 1 + (s.size - (k + 1)) := by omega
      go_region_law (fail)
      obtain ⟨ht1, ht2, ht3, ht4⟩ := txt_change s k hks c Hcn.out h60 _ rfl
      generalize s.extract 0 k ++ ⟨#[c]⟩ ++ s.extract (k + 1) s.size = t at *
      rw [Ho.out] at ht4
      have hA := impl_HashText t (w2.alloc (.cells #[.int .u8 (c.toNat : Int)] 5)).drew (by omega)
      generalize htZ t = o2 at hA ht2 ht3 ht4
      have e1 : (o2 != o) = true := by rw [bne_iff_ne]; exact ht4
      have HA := Lib.hid hA; clear hA
      clear ht4 hcv hc
      go_wp2_with fail
      refine HA.out.mono ?_
      rintro e w4 ⟨rfl, hb4⟩
      go_wp2
      go_ret
      exact ⟨ret_bool (decide_eq_true (by omega)), below_step ((Hb2.out.alloc Hb2.out.size _).drew) (by have := Hb2.out.size; simp; omega) hb4⟩
  · have h1 := htZ_no s (by omega)
    rw [h1] at *
    go_wp2
    go_ret
    exact ⟨rfl, Hb2.out⟩

theorem fnHashByte_own : ownKnob Try.prog.godebug = none := by kernel_rfl
theorem fnHashByte_laidOut : laidOutB Try.prog = true := by kernel_rfl

theorem fnHashByte_lifted (os : Os) (started : os.Started) (H : Type) (enc : TypeId × Value → H) :
    ReturnsInHanded {} Try.checked os 3 .any (Rows.fnHashByteSpec.pre6 enc Try.prog Try.f3 Rows.fnHashByteRow.domain false) (Rows.fnHashByteSpec.post enc Try.prog Try.f3 false true false false) := by
  refine law_lifted (C := Try.checked) (tb := 4) fnHashByte_own fnHashByte_laidOut started (by kernel_rfl) Try.func3 rfl Try.underlying4 rfl (by rw [Try.params3]; exact of_decide_eq_true (by kernel_rfl)) ?_
    (ChangeSpec.witness6 (enc := enc) (C := Try.checked) false ⟨#[], #[.slice none 0 0, .slice none 0 0], []⟩ 8 (by kernel_rfl) (by kernel_rfl) (by kernel_rfl) (by kernel_rfl)) ?_
  · intro ds hds
    rw [Try.params3] at hds
    match ds, hds with
    | [d0, d1], _ => rfl
  · intro W base args ds p hval0 hA0
    have hval : ∀ (j : Nat) t v, Try.f3.params[j]? = some t → args[j]? = some v → Value.okWide Try.prog W .any base t v := hval0
    have hA : DataW.TrodAll enc Try.prog W 0 (fun _ => true) true Try.f3.params.toList args.toList ds p := hA0
    rw [Try.params3] at hA hval
    obtain ⟨v0, vs0, d0, ds0, p0, q0, hargs0, rfl, rfl, h0, r0⟩ := trodAll_cons hA
    obtain ⟨v1, vs1, d1, ds1, p1, q1, hargs1, rfl, rfl, h1, r1⟩ := trodAll_cons r0
    obtain ⟨hnil, rfl, rfl⟩ := trodAll_nil r1
    subst hnil
    subst hargs1
    obtain rfl : args = #[v0, v1] := by cases args; simp_all
    obtain ⟨a0, cap0, zs0, rfl, hk0, hm0, hi0, hw0⟩ := open_slice_ints Try.underlying22 Try.underlying5 (by kernel_rfl) (hval 0 22 v0 rfl rfl) h0
    obtain ⟨a1, cap1, zs1, rfl, hk1, hm1, hi1, hw1⟩ := open_slice_ints Try.underlying22 Try.underlying5 (by kernel_rfl) (hval 1 22 v1 rfl rfl) h1
    exact fnHashByte_walk a0 cap0 zs0 a1 cap1 zs1 W hk0 hm0 hi0 hw0 hk1 hm1 hi1 hw1

theorem fnHashByte_holds : Rows.FnHashByteSaid :=
  OpenClaim.holds_of_wide 3 Try.f3 rfl rfl rfl rfl rfl rfl rfl ⟨rfl, rfl, rfl, rfl, rfl⟩ rfl rfl rfl rfl rfl (by kernel_rfl) Try.func3 (by kernel_rfl)
    (of_decide_eq_true (by kernel_rfl)) (by unfold Func.isWrapper; first | (rw [if_pos (by decide +kernel)]; kernel_rfl) | (rw [if_neg (by decide +kernel)]; exact ⟨rfl, rfl⟩))
    (fun os started H enc _ => fnHashByte_lifted os started H enc)

end Go.Proofs.Ytgkelcpiokmhfaa
