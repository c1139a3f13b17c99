/- Law FnHashPair holds for every input; no conditions of our own. -/
import Derived.Test.YtgkelcpiokmhfaaRows
import Derived.Test.YtgkelcpiokmhfaaBase
import Derived.Test.YtgkelcpiokmhfaaLift
import Derived.Test.YtgkelcpiokmhfaaApp
import Derived.Test.YtgkelcpiokmhfaaM2
import Derived.Test.YtgkelcpiokmhfaaC1
import Derived.Test.YtgkelcpiokmhfaaC2
import Derived.Test.YtgkelcpiokmhfaaP2
import Derived.Test.YtgkelcpiokmhfaaL1
import Derived.Test.YtgkelcpiokmhfaaL2
import Derived.Test.YtgkelcpiokmhfaaRd
import Derived.Test.YtgkelcpiokmhfaaD2
import Derived.Test.YtgkelcpiokmhfaaT2
import Derived.Test.YtgkelcpiokmhfaaHeld
namespace Go.Proofs.Ytgkelcpiokmhfaa
open Go.ChangeShapes Go.WideShapes Go.ChangeAt Go.RowKit

theorem fnHashPair_walk (a : Option Addr) (cap : Nat) (zs : List Int) (a' : Option Addr) (cap' : Nat) (ms : List Int) (w : World) (hk : zs.length ≤ cap) (_hm : zs.length ≤ maxLen) (hi : zs = [] ∨ ∃ b off, a = some ⟨b, off, none⟩ ∧ b < w.heap.size ∧ ∀ j (h : j < zs.length), w.cell? ⟨b, off + j, none⟩ = some (.int .u8 zs[j])) (hw : ∀ z ∈ zs, (Lit.int .u8 z).wf = true)
    (_hk' : ms.length ≤ cap') (hm' : ms.length ≤ maxLen) (_hi' : ms = [] ∨ ∃ b off, a' = some ⟨b, off, none⟩ ∧ b < w.heap.size ∧ ∀ j (h : j < ms.length), w.cell? ⟨b, off + j, none⟩ = some (.int .u8 ms[j])) (_hw' : ∀ z ∈ ms, (Lit.int .u8 z).wf = true) :
    Calls Try.prog 5 #[.slice a zs.length cap, .slice a' ms.length cap'] w fun e w' => e = .returned (.bool true) ∧ Below w.heap.size w w' := by
  unfold maxLen at hm'
  by_cases hl : 1048576 < zs.length
  · go_enter Try.func5, Try.ntmps5
    go_wp2
    go_ret
    exact ⟨rfl, Below.refl _ _⟩
  by_cases hl' : 1048576 < ms.length
  · go_enter Try.func5, Try.ntmps5
    go_wp2
    go_ret
    exact ⟨rfl, Below.refl _ _⟩
  have hcode := codeAt_of hk (by omega) hi hw
  have Hcode := Lib.hid hcode; clear hcode hi hw
  go_enter Try.func5, Try.ntmps5
  go_wp2_with fail
  refine (spec_DrawHashPair a cap zs _ Hcode.out).mono ?_
  rintro e w1 ⟨x, y, rfl, hx0, hx1, hy0, hy1, hb1⟩
  have Hb1 := Lib.hid hb1; clear hb1
  have hI := impl_HashPair x y w1
  have hS := spec_HashPair x y
  by_cases hd : digB x = true ∧ digB y = true
  · have hbd := pairZ_bd x y
    have hxb := digB_bd hd.1
    have hyb := digB_bd hd.2
    rw [hpZ_yes hd.1 hd.2] at hI hS
    have HI := Lib.hid hI; clear hI
    have HS := Lib.hid hS; clear hS
    have Hd := Lib.hid hd; clear hd
    generalize ho : pairZ x y = o at *
    have Ho := Lib.hid ho; clear ho
    go_wp2_with fail
    refine HI.out.mono ?_
    rintro e w2 ⟨rfl, hb2⟩
    have Hb2 := Lib.hid (below_step Hb1.out Hb1.out.size hb2); clear hb2
    go_wp2_with fail
    refine (HS.out _).mono ?_
    rintro e w3 ⟨rfl, rfl⟩
    have hx2 := Lib.hid (show (x + 1 + (ms.length : Int) % 990) % 991 ≠ x by omega)
    have hy2 := Lib.hid (show (y + 1 + (ms.length : Int) % 990) % 991 ≠ y by omega)
    have hdx : digB ((x + 1 + (ms.length : Int) % 990) % 991) = true := digB_yes (by omega) (by omega)
    have hdy : digB ((y + 1 + (ms.length : Int) % 990) % 991) = true := digB_yes (by omega) (by omega)
    have h1 := impl_HashPair ((x + 1 + (ms.length : Int) % 990) % 991) y w2
    have h2 := impl_HashPair x ((y + 1 + (ms.length : Int) % 990) % 991)
    rw [hpZ_yes hdx Hd.out.2] at h1
    rw [hpZ_yes Hd.out.1 hdy] at h2
    have hn1 : pairZ ((x + 1 + (ms.length : Int) % 990) % 991) y ≠ o := fun e => hx2.out (pairZ_left hdx Hd.out.1 (e.trans Ho.out.symm))
    have hn2 : pairZ x ((y + 1 + (ms.length : Int) % 990) % 991) ≠ o := fun e => hy2.out (pairZ_right hdy Hd.out.2 (e.trans Ho.out.symm))
    have H1 := Lib.hid h1; clear h1 hdx
    have H2 := Lib.hid h2; clear h2 hdy
    generalize pairZ ((x + 1 + (ms.length : Int) % 990) % 991) y = o1 at *
    generalize pairZ x ((y + 1 + (ms.length : Int) % 990) % 991) = o2 at *
    have e1 : (o1 != o) = true := by rw [bne_iff_ne]; exact hn1
    have e2 : (o2 != o) = true := by rw [bne_iff_ne]; exact hn2
    clear hn1 hn2
    go_wp2_with fail
    refine H1.out.mono ?_
    rintro e w4 ⟨rfl, hb4⟩
    have Hb4 := Lib.hid (below_step Hb2.out Hb2.out.size hb4); clear hb4
    go_wp2_with fail
    refine (H2.out _).mono ?_
    rintro e w5 ⟨rfl, hb5⟩
    have Hb5 := Lib.hid (below_step Hb4.out Hb4.out.size hb5); clear hb5
    go_wp2
    go_ret
    exact ⟨rfl, Hb5.out⟩
  · rw [hpZ_no hd] at hI hS
    have HI := Lib.hid hI; clear hI
    have HS := Lib.hid hS; clear hS
    clear hd
    go_wp2_with fail
    refine HI.out.mono ?_
    rintro e w2 ⟨rfl, hb2⟩
    have Hb2 := Lib.hid (below_step Hb1.out Hb1.out.size hb2); clear hb2
    go_wp2_with fail
    refine (HS.out _).mono ?_
    rintro e w3 ⟨rfl, rfl⟩
    go_wp2
    go_ret
    exact ⟨rfl, Hb2.out⟩

theorem fnHashPair_own : ownKnob Try.prog.godebug = none := by kernel_rfl
theorem fnHashPair_laidOut : laidOutB Try.prog = true := by kernel_rfl

theorem fnHashPair_lifted (os : Os) (started : os.Started) (H : Type) (enc : TypeId × Value → H) :
    ReturnsInHanded {} Try.checked os 5 .any (Rows.fnHashPairSpec.pre6 enc Try.prog Try.f5 Rows.fnHashPairRow.domain false) (Rows.fnHashPairSpec.post enc Try.prog Try.f5 false true false false) := by
  refine law_lifted (C := Try.checked) (tb := 4) fnHashPair_own fnHashPair_laidOut started (by kernel_rfl) Try.func5 rfl Try.underlying4 rfl (by rw [Try.params5]; exact of_decide_eq_true (by kernel_rfl)) ?_
    (ChangeSpec.witness6 (enc := enc) (C := Try.checked) false ⟨#[], #[.slice none 0 0, .slice none 0 0], []⟩ 8 (by kernel_rfl) (by kernel_rfl) (by kernel_rfl) (by kernel_rfl)) ?_
  · intro ds hds
    rw [Try.params5] at hds
    match ds, hds with
    | [d0, d1], _ => rfl
  · intro W base args ds p hval0 hA0
    have hval : ∀ (j : Nat) t v, Try.f5.params[j]? = some t → args[j]? = some v → Value.okWide Try.prog W .any base t v := hval0
    have hA : DataW.TrodAll enc Try.prog W 0 (fun _ => true) true Try.f5.params.toList args.toList ds p := hA0
    rw [Try.params5] at hA hval
    obtain ⟨v0, vs0, d0, ds0, p0, q0, hargs0, rfl, rfl, h0, r0⟩ := trodAll_cons hA
    obtain ⟨v1, vs1, d1, ds1, p1, q1, hargs1, rfl, rfl, h1, r1⟩ := trodAll_cons r0
    obtain ⟨hnil, rfl, rfl⟩ := trodAll_nil r1
    subst hnil
    subst hargs1
    obtain rfl : args = #[v0, v1] := by cases args; simp_all
    obtain ⟨a0, cap0, zs0, rfl, hk0, hm0, hi0, hw0⟩ := open_slice_ints Try.underlying22 Try.underlying5 (by kernel_rfl) (hval 0 22 v0 rfl rfl) h0
    obtain ⟨a1, cap1, zs1, rfl, hk1, hm1, hi1, hw1⟩ := open_slice_ints Try.underlying22 Try.underlying5 (by kernel_rfl) (hval 1 22 v1 rfl rfl) h1
    exact fnHashPair_walk a0 cap0 zs0 a1 cap1 zs1 W hk0 hm0 hi0 hw0 hk1 hm1 hi1 hw1

theorem fnHashPair_holds : Rows.FnHashPairSaid :=
  OpenClaim.holds_of_wide 5 Try.f5 rfl rfl rfl rfl rfl rfl rfl ⟨rfl, rfl, rfl, rfl, rfl⟩ rfl rfl rfl rfl rfl (by kernel_rfl) Try.func5 (by kernel_rfl)
    (of_decide_eq_true (by kernel_rfl)) (by unfold Func.isWrapper; first | (rw [if_pos (by decide +kernel)]; kernel_rfl) | (rw [if_neg (by decide +kernel)]; exact ⟨rfl, rfl⟩))
    (fun os started H enc _ => fnHashPair_lifted os started H enc)

end Go.Proofs.Ytgkelcpiokmhfaa
