/- Law FnCoinLeader holds for every input; no conditions of our own. -/
import Derived.Test.YtkndndcjchlpdabRows
import Derived.Test.YtkndndcjchlpdabBase
import Derived.Test.YtkndndcjchlpdabLift
import Derived.Test.YtkndndcjchlpdabC1
import Derived.Test.YtkndndcjchlpdabL1
import Derived.Test.YtkndndcjchlpdabM1
import Derived.Test.YtkndndcjchlpdabRd
import Derived.Test.YtkndndcjchlpdabD1
import Derived.Test.YtkndndcjchlpdabM3
import Derived.Test.YtkndndcjchlpdabCo3
import Derived.Test.YtkndndcjchlpdabCo4
namespace Go.Proofs.Ytkndndcjchlpdab
open Go.ChangeShapes Go.WideShapes Go.ChangeAt Go.RowKit

set_option maxHeartbeats 2000000 in
theorem fnCoinLeader_walk (a : Option Addr) (cap : Nat) (zs : List Int) (w : World) (hk : zs.length ≤ cap) (_hm : zs.length ≤ maxLen) (hi : zs = [] ∨ ∃ b off, a = some ⟨b, off, none⟩ ∧ b < w.heap.size ∧ ∀ j (h : j < zs.length), w.cell? ⟨b, off + j, none⟩ = some (.int .u8 zs[j])) (hw : ∀ z ∈ zs, (Lit.int .u8 z).wf = true) :
    Calls Try.prog 4 #[.slice a zs.length cap] w fun e w' => e = .returned (.bool true) ∧ Below w.heap.size w w' := by
  by_cases hl : 1048576 < zs.length
  · go_enter Try.func4, Try.ntmps4
    go_wp2
    go_ret
    exact ⟨rfl, Below.refl _ _⟩
  have hcode := codeAt_of hk (by omega) hi hw
  have Hcode := Lib.hid hcode; clear hcode hi hw
  go_enter Try.func4, Try.ntmps4
  go_wp2_with fail
  refine (spec_DrawCoinLeader a cap zs _ Hcode.out).mono ?_
  rintro e w1 ⟨v, c, x, rfl, hown, hcl, ⟨hx0, hx1⟩, hb1⟩
  obtain ⟨ac, cc, rfl, hic, _⟩ := hown.ints
  have Hb1 := Lib.hid hb1; clear hb1 hown
  have HI := Lib.hid (fun v => impl_CoinLeader ac cc c v w1 (by omega) hic)
  have HS := Lib.hid (spec_CoinLeader ac cc c x w1 (by omega) hic)
  have HT := impl_CommitteeTotal ac cc c w1 (by omega) hic
  have hbd := clZ_bd c x
  go_wp2_with fail
  refine (HI.out x).mono ?_
  rintro e w' ⟨rfl, rfl⟩
  go_wp2_with fail
  refine HS.out.mono ?_
  rintro e w' ⟨rfl, rfl⟩
  by_cases hneg : clZ c x < 0
  case pos =>
    generalize clZ c x = N at *
    go_wp2
    go_ret
    exact ⟨by first | rfl | exact ret_bool (by simp), Hb1.out⟩
  obtain ⟨hv, hs⟩ := clZ_pos (c := c) (v := x) (by omega)
  obtain ⟨hx2, hx3⟩ := symB_bd hs
  obtain ⟨hl1, hl2⟩ := validB_len hv
  have htb := totalZ_bd hv
  rw [orNo_yes hv] at HT
  have HT := Lib.hid HT
  have Hlast := Lib.hid (clZ_again hv hs (show totalZ c ≤ 63 by omega))
  have Hat := Lib.hid (fun m (hm : m < c.length) y (h0 : 0 ≤ y) (h1 : y < totalZ c) => clZ_at hv (m := m) hm (y := y) h0 h1)
  have Hgood := Lib.hid (validB_good hv)
  have Htot := Lib.hid (show sumTo c c.length = totalZ c from rfl)
  have Hmono := Lib.hid (fun i j (h : i ≤ j) (h' : j ≤ c.length) => sumTo_mono hv h h')
  have Hsum := Lib.hid (fun k (h : k < c.length) => sumTo_succ h)
  rcases hic with rfl | ⟨b, off, rfl, hb, hc⟩
  · simp at hl1
  have Hc := Lib.hid hc; clear hc
  have Hyz := Lib.hid hs; clear hs hv
  generalize hN : clZ c x = N at *
  have HN := Lib.hid hN; clear hN
  generalize totalZ c = t at *
  go_wp2_with fail
  refine HT.out.mono ?_
  rintro e w' ⟨rfl, rfl⟩
  go_wp2
  go_loop [8, 9, 10] (fun m _ _ => ∃ k : Nat, k ≤ c.length ∧ m = .int .i64 k) (fun m _ _ => c.length - (intOf m).toNat)
  case atStart => exact ⟨0, by omega, rfl⟩
  case round =>
    obtain ⟨k, hk, rfl⟩ := hrel
    by_cases hlt : k < c.length
    · have hcell := Hc.out k hlt
      have hg := Hgood.out k hlt
      have hs1 := Hsum.out k hlt
      have hs0 := Hmono.out 0 k (by omega) (by omega)
      rw [sumTo_zero] at hs0
      have hs2 := Hmono.out (k + 1) c.length (by omega) (by omega)
      rw [Htot.out] at hs2
      have HA := Lib.hid (Hat.out k hlt)
      generalize hS0 : sumTo c k = S0 at *
      generalize hS1 : sumTo c (k + 1) = S1 at *
      clear hS0 hS1
      generalize hck : c[k] = ck at *
      clear hck
      have HS1 := Lib.hid hs1; clear hs1
      go_wp2
      go_loop [9, 10] (fun n y => ∃ q : Nat, (q : Int) ≤ t ∧ y = .int .i64 q ∧ n = .int .i64 (min (q : Int) S1 - min (q : Int) S0)) (fun _ y => t.toNat - (intOf y).toNat)
      case atStart => exact ⟨0, by omega, rfl, int_eq (by have := HS1.out; have : ((0 : Nat) : Int) = 0 := rfl; omega)⟩
      case round =>
        obtain ⟨q, hq, rfl, rfl⟩ := hrel
        by_cases hlq : (q : Int) < t
        · have hA := HA.out q (by omega) hlq
          have hI := HI.out (q : Int)
          by_cases hin : S0 ≤ (q : Int) ∧ (q : Int) < S1
          · rw [hA.1 hin] at hI
            have HI2 := Lib.hid hI; clear hI hA
            have hkk : ((k : Int) == (k : Int)) = true := by simp
            have e1 := Lib.hid (show min (q : Int) S1 - min (q : Int) S0 + 1 = min ((q + 1 : Nat) : Int) S1 - min ((q + 1 : Nat) : Int) S0 by omega)
            have e2 : 0 ≤ min (q : Int) S1 - min (q : Int) S0 ∧ min (q : Int) S1 - min (q : Int) S0 ≤ 63 := by omega
            obtain ⟨e3, e4⟩ := e2
            have E1 := Lib.hid e1.out
            generalize min (q : Int) S1 - min (q : Int) S0 = n0 at *
            go_wp2_with fail
            refine HI2.out.mono ?_
            rintro e w' ⟨rfl, rfl⟩
            go_wp2
            go_round
            case rel => exact ⟨q + 1, by omega, by go_num, int_eq E1.out⟩
            case measure => simp [intOf]; omega
          · have hA2 := hA.2 hin
            generalize clZ c (q : Int) = g at *
            have hkk : (g == (k : Int)) = false := by rw [beq_eq_false_iff_ne]; exact hA2
            have HI2 := Lib.hid hI; clear hI hA
            have e1 := Lib.hid (show min (q : Int) S1 - min (q : Int) S0 = min ((q + 1 : Nat) : Int) S1 - min ((q + 1 : Nat) : Int) S0 by have := HS1.out; omega)
            have e2 : 0 ≤ min (q : Int) S1 - min (q : Int) S0 ∧ min (q : Int) S1 - min (q : Int) S0 ≤ 63 := by have := HS1.out; omega
            obtain ⟨e3, e4⟩ := e2
            have E1 := Lib.hid e1.out
            generalize min (q : Int) S1 - min (q : Int) S0 = n0 at *
            go_wp2_with fail
            refine HI2.out.mono ?_
            rintro e w' ⟨rfl, rfl⟩
            go_wp2
            go_round
            case rel => exact ⟨q + 1, by omega, by go_num, int_eq E1.out⟩
            case measure => simp [intOf]; omega
        · have hfin : min (q : Int) S1 - min (q : Int) S0 = ck := by have := HS1.out; omega
          generalize min (q : Int) S1 - min (q : Int) S0 = n0 at *
          subst hfin
          have hnn : (n0 != n0) = false := by simp
          go_wp2
          go_round
          case rel => exact ⟨k + 1, by omega, by go_num⟩
          case measure => simp [intOf]; omega
    · by_cases hfl : x + t < 251
      · have hI := HI.out (x + t)
        rw [Hlast.out hfl] at hI
        have HI2 := Lib.hid hI; clear hI
        go_wp2_with fail
        refine HI2.out.mono ?_
        rintro e w' ⟨rfl, rfl⟩
        go_wp2
        go_ret
        exact ⟨by first | rfl | exact ret_bool (by simp), Hb1.out⟩
      · go_wp2
        go_ret
        exact ⟨by first | rfl | exact ret_bool (by simp), Hb1.out⟩

theorem fnCoinLeader_own : ownKnob Try.prog.godebug = none := by kernel_rfl
theorem fnCoinLeader_laidOut : laidOutB Try.prog = true := by kernel_rfl

set_option maxRecDepth 8000 in
theorem fnCoinLeader_lifted (os : Os) (started : os.Started) (H : Type) (enc : TypeId × Value → H) :
    ReturnsInHanded {} Try.checked os 4 .any (Rows.fnCoinLeaderSpec.pre6 enc Try.prog Try.f4 Rows.fnCoinLeaderRow.domain false) (Rows.fnCoinLeaderSpec.post enc Try.prog Try.f4 false true false false) := by
  refine law_lifted (C := Try.checked) (tb := 4) fnCoinLeader_own fnCoinLeader_laidOut started (by kernel_rfl) Try.func4 rfl Try.underlying4 rfl (by rw [Try.params4]; exact of_decide_eq_true (by kernel_rfl)) ?_
    (ChangeSpec.witness6 (enc := enc) (C := Try.checked) false ⟨#[], #[.slice none 0 0], []⟩ 8 (by kernel_rfl) (by kernel_rfl) (by kernel_rfl) (by kernel_rfl)) ?_
  · intro ds hds
    rw [Try.params4] at hds
    match ds, hds with
    | [d0], _ => rfl
  · intro W base args ds p hval0 hA0
    have hval : ∀ (j : Nat) t v, Try.f4.params[j]? = some t → args[j]? = some v → Value.okWide Try.prog W .any base t v := hval0
    have hA : DataW.TrodAll enc Try.prog W 0 (fun _ => true) true Try.f4.params.toList args.toList ds p := hA0
    rw [Try.params4] at hA hval
    obtain ⟨v0, vs0, d0, ds0, p0, q0, hargs0, rfl, rfl, h0, r0⟩ := trodAll_cons hA
    obtain ⟨hnil, rfl, rfl⟩ := trodAll_nil r0
    subst hnil
    obtain rfl : args = #[v0] := by cases args; simp_all
    obtain ⟨a0, cap0, zs0, rfl, hk0, hm0, hi0, hw0⟩ := open_slice_ints Try.underlying22 Try.underlying5 (by kernel_rfl) (hval 0 22 v0 rfl rfl) h0
    exact fnCoinLeader_walk a0 cap0 zs0 W hk0 hm0 hi0 hw0

theorem fnCoinLeader_holds : Rows.FnCoinLeaderSaid :=
  OpenClaim.holds_of_wide 4 Try.f4 rfl rfl rfl rfl rfl rfl rfl ⟨rfl, rfl, rfl, rfl, rfl⟩ rfl rfl rfl rfl rfl (by kernel_rfl) Try.func4 (by kernel_rfl)
    (of_decide_eq_true (by kernel_rfl)) (by unfold Func.isWrapper; first | (rw [if_pos (by decide +kernel)]; kernel_rfl) | (rw [if_neg (by decide +kernel)]; exact ⟨rfl, rfl⟩))
    (fun os started H enc _ => fnCoinLeader_lifted os started H enc)

end Go.Proofs.Ytkndndcjchlpdab
