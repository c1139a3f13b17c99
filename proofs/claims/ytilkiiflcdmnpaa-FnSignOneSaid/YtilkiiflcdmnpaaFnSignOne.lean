/- Law FnSignOne holds for every input; no conditions of our own. -/
import Derived.Test.YtilkiiflcdmnpaaRows
import Derived.Test.YtilkiiflcdmnpaaBase
import Derived.Test.YtilkiiflcdmnpaaLift
import Derived.Test.YtilkiiflcdmnpaaRd
import Derived.Test.YtilkiiflcdmnpaaM2
import Derived.Test.YtilkiiflcdmnpaaSgM
import Derived.Test.YtilkiiflcdmnpaaSgC
import Derived.Test.YtilkiiflcdmnpaaSgI
import Derived.Test.YtilkiiflcdmnpaaSgD
namespace Go.Proofs.Ytilkiiflcdmnpaa
open Go.ChangeShapes Go.WideShapes Go.ChangeAt Go.RowKit

theorem fnSignOne_walk (a : Option Addr) (cap : Nat) (zs : List Int) (a' : Option Addr) (cap' : Nat) (ms : List Int) (w : World) (hk : zs.length ≤ cap) (_hm : zs.length ≤ maxLen) (hi : zs = [] ∨ ∃ b off, a = some ⟨b, off, none⟩ ∧ b < w.heap.size ∧ ∀ j (h : j < zs.length), w.cell? ⟨b, off + j, none⟩ = some (.int .u8 zs[j])) (hw : ∀ z ∈ zs, (Lit.int .u8 z).wf = true)
    (_hk' : ms.length ≤ cap') (hm' : ms.length ≤ maxLen) (_hi' : ms = [] ∨ ∃ b off, a' = some ⟨b, off, none⟩ ∧ b < w.heap.size ∧ ∀ j (h : j < ms.length), w.cell? ⟨b, off + j, none⟩ = some (.int .u8 ms[j])) (_hw' : ∀ z ∈ ms, (Lit.int .u8 z).wf = true) :
    Calls Try.prog 7 #[.slice a zs.length cap, .slice a' ms.length cap'] w fun e w' => e = .returned (.bool true) ∧ Below w.heap.size w w' := by
  unfold maxLen at hm'
  by_cases hl : 1048576 < zs.length
  · go_enter Try.func7, Try.ntmps7
    go_wp2
    go_ret
    exact ⟨rfl, Below.refl _ _⟩
  by_cases hl' : 1048576 < ms.length
  · go_enter Try.func7, Try.ntmps7
    go_wp2
    go_ret
    exact ⟨rfl, Below.refl _ _⟩
  have hcode := codeAt_of hk (by omega) hi hw
  have Hcode := Lib.hid hcode; clear hcode hi hw
  go_enter Try.func7, Try.ntmps7
  go_wp2_with fail
  refine (spec_DrawSignCheck a cap zs _ Hcode.out).mono ?_
  rintro e w1 ⟨p, d, s, rfl, hb1⟩
  have hI := impl_SignCheck p d s w1
  have hS := spec_SignCheck p d s
  cases h0 : scB p d s with
  | false =>
    rw [h0] at hI hS
    have HI := Lib.hid hI; clear hI h0
    have HS := Lib.hid hS; clear hS
    go_wp2_with fail
    refine HI.out.mono ?_
    rintro e w2 ⟨rfl, hb2⟩
    go_wp2_with fail
    refine (HS.out _).mono ?_
    rintro e w2' ⟨rfl, rfl⟩
    go_wp2
    go_ret
    exact ⟨rfl, below_step hb1 hb1.size hb2⟩
  | true =>
    rw [h0] at hI hS
    obtain ⟨_, _, hss⟩ := sc_args h0
    have hsb := signB_bd hss
    obtain ⟨m, hm, hm2⟩ : ∃ m : Int, 1 + (s + (ms.length : Int) % 995) % 996 = m ∧ 1 ≤ m ∧ m ≤ 996 := ⟨_, rfl, by omega, by omega⟩
    clear hss
    have H0 := Lib.hid h0; clear h0
    have HI := Lib.hid hI; clear hI
    have HS := Lib.hid hS; clear hS
    go_wp2_with fail
    refine HI.out.mono ?_
    rintro e w2 ⟨rfl, hb2⟩
    go_wp2_with fail
    refine (HS.out _).mono ?_
    rintro e w2' ⟨rfl, rfl⟩
    have hb3 := Lib.hid (below_step hb1 hb1.size hb2)
    by_cases he : m = s
    · subst he
      go_wp2
      go_ret
      exact ⟨rfl, hb3.out⟩
    have he' : (m == s) = false := by rw [beq_eq_false_iff_ne]; exact he
    have Hx := Lib.hid (sc_one H0.out hm2.1 hm2.2 he); clear he
    go_wp2_with fail
    refine (impl_SignCheck p d m _).mono ?_
    rintro e w3 ⟨rfl, hb4⟩
    rw [Hx.out]
    go_wp2
    go_ret
    exact ⟨rfl, below_step hb3.out hb3.out.size hb4⟩

theorem fnSignOne_own : ownKnob Try.prog.godebug = none := by kernel_rfl
theorem fnSignOne_laidOut : laidOutB Try.prog = true := by kernel_rfl

theorem fnSignOne_lifted (os : Os) (started : os.Started) (H : Type) (enc : TypeId × Value → H) :
    ReturnsInHanded {} Try.checked os 7 .any (Rows.fnSignOneSpec.pre6 enc Try.prog Try.f7 Rows.fnSignOneRow.domain false) (Rows.fnSignOneSpec.post enc Try.prog Try.f7 false true false false) := by
  refine law_lifted (C := Try.checked) (tb := 4) fnSignOne_own fnSignOne_laidOut started (by kernel_rfl) Try.func7 rfl Try.underlying4 rfl (by rw [Try.params7]; exact of_decide_eq_true (by kernel_rfl)) ?_
    (ChangeSpec.witness6 (enc := enc) (C := Try.checked) false ⟨#[], #[.slice none 0 0, .slice none 0 0], []⟩ 8 (by kernel_rfl) (by kernel_rfl) (by kernel_rfl) (by kernel_rfl)) ?_
  · intro ds hds
    rw [Try.params7] at hds
    match ds, hds with
    | [d0, d1], _ => rfl
  · intro W base args ds p hval0 hA0
    have hval : ∀ (j : Nat) t v, Try.f7.params[j]? = some t → args[j]? = some v → Value.okWide Try.prog W .any base t v := hval0
    have hA : DataW.TrodAll enc Try.prog W 0 (fun _ => true) true Try.f7.params.toList args.toList ds p := hA0
    rw [Try.params7] at hA hval
    obtain ⟨v0, vs0, d0, ds0, p0, q0, hargs0, rfl, rfl, h0, r0⟩ := trodAll_cons hA
    obtain ⟨v1, vs1, d1, ds1, p1, q1, hargs1, rfl, rfl, h1, r1⟩ := trodAll_cons r0
    obtain ⟨hnil, rfl, rfl⟩ := trodAll_nil r1
    subst hnil
    subst hargs1
    obtain rfl : args = #[v0, v1] := by cases args; simp_all
    obtain ⟨a0, cap0, zs0, rfl, hk0, hm0, hi0, hw0⟩ := open_slice_ints Try.underlying22 Try.underlying5 (by kernel_rfl) (hval 0 22 v0 rfl rfl) h0
    obtain ⟨a1, cap1, zs1, rfl, hk1, hm1, hi1, hw1⟩ := open_slice_ints Try.underlying22 Try.underlying5 (by kernel_rfl) (hval 1 22 v1 rfl rfl) h1
    exact fnSignOne_walk a0 cap0 zs0 a1 cap1 zs1 W hk0 hm0 hi0 hw0 hk1 hm1 hi1 hw1

theorem fnSignOne_holds : Rows.FnSignOneSaid :=
  OpenClaim.holds_of_wide 7 Try.f7 rfl rfl rfl rfl rfl rfl rfl ⟨rfl, rfl, rfl, rfl, rfl⟩ rfl rfl rfl rfl rfl (by kernel_rfl) Try.func7 (by kernel_rfl)
    (of_decide_eq_true (by kernel_rfl)) (by unfold Func.isWrapper; first | (rw [if_pos (by decide +kernel)]; kernel_rfl) | (rw [if_neg (by decide +kernel)]; exact ⟨rfl, rfl⟩))
    (fun os started H enc _ => fnSignOne_lifted os started H enc)

end Go.Proofs.Ytilkiiflcdmnpaa
