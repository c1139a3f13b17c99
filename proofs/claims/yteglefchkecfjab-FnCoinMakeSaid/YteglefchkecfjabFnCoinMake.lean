/- Law FnCoinMake holds for every input; no conditions of our own. -/
import Derived.Test.YteglefchkecfjabRows
import Derived.Test.YteglefchkecfjabBu0
import Derived.Test.YteglefchkecfjabBu5
namespace Go.Proofs.Yteglefchkecfjab
open Go.ChangeShapes Go.WideShapes Go.ChangeAt Go.RowKit

set_option maxHeartbeats 2000000 in
theorem fnCoinMake_walk (a : Option Addr) (cap : Nat) (zs : List Int) (a' : Option Addr) (cap' : Nat) (ms : List Int) (w : World) (hk : zs.length ≤ cap) (_hm : zs.length ≤ maxLen) (hi : zs = [] ∨ ∃ b off, a = some ⟨b, off, none⟩ ∧ b < w.heap.size ∧ ∀ j (h : j < zs.length), w.cell? ⟨b, off + j, none⟩ = some (.int .u8 zs[j])) (hw : ∀ z ∈ zs, (Lit.int .u8 z).wf = true)
    (_hk' : ms.length ≤ cap') (hm' : ms.length ≤ maxLen) (_hi' : ms = [] ∨ ∃ b off, a' = some ⟨b, off, none⟩ ∧ b < w.heap.size ∧ ∀ j (h : j < ms.length), w.cell? ⟨b, off + j, none⟩ = some (.int .u8 ms[j])) (_hw' : ∀ z ∈ ms, (Lit.int .u8 z).wf = true) :
    Calls Try.prog 11 #[.slice a zs.length cap, .slice a' ms.length cap'] w fun e w' => e = .returned (.bool true) ∧ Below w.heap.size w w' := by
  unfold maxLen at hm'
  by_cases hl : 1048576 < zs.length
  · go_enter Try.func11, Try.ntmps11
    go_wp2
    go_ret
    exact ⟨rfl, Below.refl _ _⟩
  by_cases hl' : 1048576 < ms.length
  · go_enter Try.func11, Try.ntmps11
    go_wp2
    go_ret
    exact ⟨rfl, Below.refl _ _⟩
  have hcode := codeAt_of hk (by omega) hi hw
  have Hcode := Lib.hid hcode; clear hcode hi hw
  go_enter Try.func11, Try.ntmps11
  go_wp2_with fail
  refine (spec_DrawCoinMake a cap zs w Hcode.out).mono ?_
  rintro e w1 ⟨s, x, rfl, hs, hx, hb1⟩
  have Hb1 := Lib.hid hb1; clear hb1
  obtain ⟨M, hM⟩ : ∃ M, (ms.length : Int) % 249 = M := ⟨_, rfl⟩
  have hM0 : 0 ≤ M ∧ M ≤ 248 := by omega
  have Hap := Lib.hid (fun h => coin_apart (s := s) (wv := x) (m := M) h hM0.1 hM0.2)
  have HI := Lib.hid (impl_CoinMake s x w1)
  have HS := Lib.hid (spec_CoinMake s x w1)
  have HI2 := Lib.hid (impl_CoinMake ((s + 1 + M) % 251) x w1)
  have e1 : IntKind.i64.wrap (s + 1) = s + 1 := IntWalk.i64_in _ (by omega)
  have e2 : IntKind.i64.wrap (s + 1 + M) = s + 1 + M := IntWalk.i64_in _ (by omega)
  obtain ⟨N, hN⟩ : ∃ N, cmZ s x = N := ⟨_, rfl⟩
  rw [hN] at Hap HI HS
  clear hN
  have n1 : (N != N) = false := by simp
  go_wp2_with fail
  refine HI.out.mono ?_
  rintro e w2 ⟨rfl, rfl⟩
  go_wp2_with fail
  refine HS.out.mono ?_
  rintro e w2 ⟨rfl, rfl⟩
  by_cases hn : N < 0
  · have hn' : decide (N < 0) = true := decide_eq_true hn
    go_wp2
    go_ret
    exact ⟨by first | rfl | exact ret_bool (by simp), Hb1.out⟩
  have hn' : decide (N < 0) = false := decide_eq_false hn
  have hap := Hap.out (by omega)
  have t1 : (s + 1 + M).tmod 251 = (s + 1 + M) % 251 := Int.tmod_eq_emod_of_nonneg (by omega)
  have t2 : (ms.length : Int).tmod 249 = M := by rw [← hM]; exact Int.tmod_eq_emod_of_nonneg (by omega)
  obtain ⟨T, hT⟩ : ∃ T, (s + 1 + M) % 251 = T := ⟨_, rfl⟩
  rw [hT] at hap HI2 t1
  generalize cmZ T x = N2 at *
  by_cases hTs : T = s
  · have q1 : (T == s) = true := by rw [beq_iff_eq]; exact hTs
    clear hap hTs
    go_wp2
    go_ret
    exact ⟨by first | rfl | exact ret_bool (by simp), Hb1.out⟩
  · have q1 : (T == s) = false := by rw [beq_eq_false_iff_ne]; exact hTs
    have q2 : (N2 != N) = true := by
      rcases hap with h | h
      · exact absurd h hTs
      · simpa using h
    clear hap hTs
    go_wp2_with fail
    refine HI2.out.mono ?_
    rintro e w2 ⟨rfl, rfl⟩
    go_wp2
    go_ret
    exact ⟨by first | rfl | exact ret_bool (by simp), Hb1.out⟩

theorem fnCoinMake_own : ownKnob Try.prog.godebug = none := by kernel_rfl
theorem fnCoinMake_laidOut : laidOutB Try.prog = true := by kernel_rfl

set_option maxRecDepth 8000 in
theorem fnCoinMake_lifted (os : Os) (started : os.Started) (H : Type) (enc : TypeId × Value → H) :
    ReturnsInHanded {} Try.checked os 11 .any (Rows.fnCoinMakeSpec.pre6 enc Try.prog Try.f11 Rows.fnCoinMakeRow.domain false) (Rows.fnCoinMakeSpec.post enc Try.prog Try.f11 false true false false) := by
  refine law_lifted (C := Try.checked) (tb := 4) fnCoinMake_own fnCoinMake_laidOut started (by kernel_rfl) Try.func11 rfl Try.underlying4 rfl (by rw [Try.params11]; exact of_decide_eq_true (by kernel_rfl)) ?_
    (ChangeSpec.witness6 (enc := enc) (C := Try.checked) false ⟨#[], #[.slice none 0 0, .slice none 0 0], []⟩ 8 (by kernel_rfl) (by kernel_rfl) (by kernel_rfl) (by kernel_rfl)) ?_
  · intro ds hds
    rw [Try.params11] at hds
    match ds, hds with
    | [d0, d1], _ => rfl
  · intro W base args ds p hval0 hA0
    have hval : ∀ (j : Nat) t v, Try.f11.params[j]? = some t → args[j]? = some v → Value.okWide Try.prog W .any base t v := hval0
    have hA : DataW.TrodAll enc Try.prog W 0 (fun _ => true) true Try.f11.params.toList args.toList ds p := hA0
    rw [Try.params11] at hA hval
    obtain ⟨v0, vs0, d0, ds0, p0, q0, hargs0, rfl, rfl, h0, r0⟩ := trodAll_cons hA
    obtain ⟨v1, vs1, d1, ds1, p1, q1, hargs1, rfl, rfl, h1, r1⟩ := trodAll_cons r0
    obtain ⟨hnil, rfl, rfl⟩ := trodAll_nil r1
    subst hnil
    subst hargs1
    obtain rfl : args = #[v0, v1] := by cases args; simp_all
    obtain ⟨a0, cap0, zs0, rfl, hk0, hm0, hi0, hw0⟩ := open_slice_ints Try.underlying22 Try.underlying5 (by kernel_rfl) (hval 0 22 v0 rfl rfl) h0
    obtain ⟨a1, cap1, zs1, rfl, hk1, hm1, hi1, hw1⟩ := open_slice_ints Try.underlying22 Try.underlying5 (by kernel_rfl) (hval 1 22 v1 rfl rfl) h1
    exact fnCoinMake_walk a0 cap0 zs0 a1 cap1 zs1 W hk0 hm0 hi0 hw0 hk1 hm1 hi1 hw1

set_option maxRecDepth 8000 in
theorem fnCoinMake_holds : Rows.FnCoinMakeSaid :=
  OpenClaim.holds_of_wide 11 Try.f11 rfl rfl rfl rfl rfl rfl rfl ⟨rfl, rfl, rfl, rfl, rfl⟩ rfl rfl rfl rfl rfl (by kernel_rfl) Try.func11 (by kernel_rfl)
    (of_decide_eq_true (by kernel_rfl)) (by unfold Func.isWrapper; first | (rw [if_pos (by decide +kernel)]; kernel_rfl) | (rw [if_neg (by decide +kernel)]; exact ⟨rfl, rfl⟩))
    (fun os started H enc _ => fnCoinMake_lifted os started H enc)

end Go.Proofs.Yteglefchkecfjab
