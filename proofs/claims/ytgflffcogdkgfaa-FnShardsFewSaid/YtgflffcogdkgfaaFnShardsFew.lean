/- Law FnShardsFew holds for every input; no conditions of our own. -/
import Derived.Test.YtgflffcogdkgfaaRows
import Derived.Test.YtgflffcogdkgfaaBase
import Derived.Test.YtgflffcogdkgfaaLift
import Derived.Test.YtgflffcogdkgfaaApp
import Derived.Test.YtgflffcogdkgfaaM3
import Derived.Test.YtgflffcogdkgfaaDt
import Derived.Test.YtgflffcogdkgfaaBld
import Derived.Test.YtgflffcogdkgfaaC1
import Derived.Test.YtgflffcogdkgfaaC3
import Derived.Test.YtgflffcogdkgfaaW3
import Derived.Test.YtgflffcogdkgfaaL1
import Derived.Test.YtgflffcogdkgfaaL3
import Derived.Test.YtgflffcogdkgfaaRd
import Derived.Test.YtgflffcogdkgfaaD3
import Derived.Test.YtgflffcogdkgfaaHeld
namespace Go.Proofs.Ytgflffcogdkgfaa
open Go.ChangeShapes Go.WideShapes Go.ChangeAt Go.RowKit

set_option maxHeartbeats 1000000 in
theorem fnShardsFew_walk (a : Option Addr) (cap : Nat) (zs : List Int) (a' : Option Addr) (cap' : Nat) (ms : List Int) (w : World) (hk : zs.length ≤ cap) (_hm : zs.length ≤ maxLen) (hi : zs = [] ∨ ∃ b off, a = some ⟨b, off, none⟩ ∧ b < w.heap.size ∧ ∀ j (h : j < zs.length), w.cell? ⟨b, off + j, none⟩ = some (.int .u8 zs[j])) (hw : ∀ z ∈ zs, (Lit.int .u8 z).wf = true)
    (_hk' : ms.length ≤ cap') (hm' : ms.length ≤ maxLen) (_hi' : ms = [] ∨ ∃ b off, a' = some ⟨b, off, none⟩ ∧ b < w.heap.size ∧ ∀ j (h : j < ms.length), w.cell? ⟨b, off + j, none⟩ = some (.int .u8 ms[j])) (_hw' : ∀ z ∈ ms, (Lit.int .u8 z).wf = true) :
    Calls Try.prog 5 #[.slice a zs.length cap, .slice a' ms.length cap'] w fun e w' => e = .returned (.bool true) ∧ Below w.heap.size w w' := by
  unfold maxLen at hm'
  by_cases hl : 1048576 < zs.length
  · go_enter Try.func5, Try.ntmps5
    go_wp2
    go_ret
    exact ⟨rfl, Below.refl _ _⟩
  by_cases hl' : 1048576 < ms.length
  · go_enter Try.func5, Try.ntmps5
    go_wp2
    go_ret
    exact ⟨rfl, Below.refl _ _⟩
  have hcode := codeAt_of hk (by omega) hi hw
  have Hcode := Lib.hid hcode; clear hcode hi hw
  go_enter Try.func5, Try.ntmps5
  go_wp2_with fail
  refine (spec_DrawShardMake a cap zs _ Hcode.out).mono ?_
  rintro e w1 ⟨v, xs, need, many, rfl, hown, hxl, hsm, hn0, hn1, hm0, hm1, hb1⟩
  clear hsm
  obtain ⟨al, cl, rfl, _, _, hxc⟩ := hown.src
  have Hl1 := Lib.hid hown; clear hown
  have Hb1 := Lib.hid hb1; clear hb1
  have hs1 := Hb1.out.size
  have hI := impl_ShardMake al cl xs need many w1 (by omega) hxc (IntsAt_own Hl1.out)
  have hS := fun w h => spec_ShardMake al cl xs need many w (by omega) h
  have hln := makeZ_len (d := xs) (need := need) (many := many)
  have hinn := makeZ_in (d := xs) (need := need) (many := many)
  have hmk : makeZ xs need many = makeZ xs need many := rfl
  generalize hL : makeZ xs need many = L at hI hS hln hinn
  clear hmk
  have HI := Lib.hid hI; clear hI
  have HS := Lib.hid hS; clear hS
  have HL := Lib.hid hL; clear hL
  have Hin := Lib.hid (show ∀ s ∈ L, s.2.length ≤ 1000000 from fun s hs => Nat.le_trans (hinn s hs) (by omega)); clear hinn
  go_wp2_with fail
  refine HI.out.mono ?_
  rintro e w2 ⟨vo, rfl, hbo, hb2⟩
  obtain ⟨ao, co, rfl, _⟩ := hbo.slice
  obtain ⟨fo, hro, hfo⟩ := hbo.rd
  have Hfo := Lib.hid hfo; clear hfo
  rw [List.length_map] at hbo hro
  have Hb2 := Lib.hid (below_step Hb1.out Hb1.out.size hb2)
  have Hl2 := Lib.hid (Hl1.out.below hb2)
  have Ho2 := Lib.hid hro; clear hro hbo
  have hs2 := hb2.size
  go_wp2_with fail
  refine (HS.out _ (IntsAt_own Hl2.out)).mono ?_
  rintro e w3 ⟨vu, rfl, hbu, hb3⟩
  obtain ⟨fu, hru, _⟩ := hbu.rd
  have Hb3 := Lib.hid (below_step Hb2.out Hb2.out.size hb3)
  have Hl3 := Lib.hid (Hl2.out.below hb3)
  have Ho3 := Lib.hid (Ho2.out.under hb3)
  have Hu3 := Lib.hid hru; clear hru hbu
  have hs3 := hb3.size
  go_wp2_with fail
  refine (laws_sameShards' L _ _ _ _ _ (by omega) Hin.out Ho3.out Hu3.out).mono ?_
  rintro e w4 ⟨rfl, hb4⟩
  have Hb4 := Lib.hid (below_step Hb3.out Hb3.out.size hb4)
  have Hl4 := Lib.hid (Hl3.out.below hb4)
  have Ho4 := Lib.hid (Ho3.out.under hb4)
  have Hu4 := Lib.hid (Hu3.out.under hb4)
  have hs4 := hb4.size
  cases hv : makeB xs need many with
  | false =>
    have hL0 : L = [] := by rw [← HL.out]; exact makeZ_no hv
    subst hL0
    go_wp2_with fail
    refine (laws_sameShards' [] _ _ _ _ _ (by simp) (by simp) Ho4.out Hu4.out).mono ?_
    rintro e w5 ⟨rfl, hb5⟩
    go_wp2
    go_ret
    exact ⟨rfl, below_step Hb4.out Hb4.out.size hb5⟩
  | true =>
    obtain ⟨hd, hnm, hm8⟩ := makeB_iff hv
    obtain ⟨hsy, ⟨hx1, hx2⟩, hn1', hn8⟩ := dataB_iff hd
    obtain ⟨need, rfl⟩ := Int.eq_ofNat_of_zero_le (show 0 ≤ need by omega)
    obtain ⟨many, rfl⟩ := Int.eq_ofNat_of_zero_le (show 0 ≤ many by omega)
    have hLe : L = (List.range many).map (shardZ xs need) := by rw [← HL.out]; exact makeZ_yes hv
    have hLl : L.length = many := by rw [hLe]; simp
    have Hget := Lib.hid (show ∀ k (hk : k < L.length), L[k] = shardZ xs need k from fun k hk => by subst hLe; simp)
    have Hsy := Lib.hid hsy; clear hsy hd hv hLe
    have hmz0 : ((many : Int) == 0) = false := by rw [beq_eq_false_iff_ne]; omega
    clear hn0 hn1 hm0 hm1
    have hr : ms.length % need < need := Nat.mod_lt _ (by omega)
    have hme : ((ms.length : Int)) % (need : Int) = ((ms.length % need : Nat) : Int) := (Int.natCast_emod _ _).symm
    generalize ms.length % need = m at *
    obtain ⟨fm, hrm, _⟩ := Rd.take Ho4.out m (by omega)
    have hlm : (L.take m).length = m := by rw [List.length_take]; omega
    have hjn := join_no (size := (xs.length : Int)) (need := (need : Int)) (L := L.take m) (by unfold joinOk lenB; rw [hlm, decide_eq_false (show ¬ ((need : Int) ≤ (m : Int) ∧ m ≤ 8) by omega)]; simp)
    have hij := fun W (h : Rd W (.l ((L.take m).map shardD)) (.slice ao m co) fm) => impl_ShardJoin xs.length need (L.take m) _ fm W (by rw [hlm]; omega) (fun s hs => Hin.out s (List.mem_of_mem_take hs)) h
    rw [hjn.1, hjn.2] at hij
    have Hij := Lib.hid hij
    have Hrm := Lib.hid hrm
    clear hij hjn hrm hlm
    obtain ⟨gA, oA, rfl, _, _, _, hco, _⟩ := Rd.at Ho4.out (by rw [List.length_map]; omega) (sz := 2) (by intro e he; obtain ⟨s, _, rfl⟩ := List.mem_map.1 he; rfl)
    have hmc : m ≤ co := by omega
    have hc0 : 0 < co := by omega
    have hc00 : ¬ co = 0 := by omega
    go_wp2_with fail
    refine (Hij.out _ Hrm.out).mono ?_
    rintro e w5 ⟨u, rfl, _, hb5⟩
    go_wp2
    go_ret
    exact ⟨rfl, below_step Hb4.out Hb4.out.size hb5⟩

theorem fnShardsFew_own : ownKnob Try.prog.godebug = none := by kernel_rfl
theorem fnShardsFew_laidOut : laidOutB Try.prog = true := by kernel_rfl

theorem fnShardsFew_lifted (os : Os) (started : os.Started) (H : Type) (enc : TypeId × Value → H) :
    ReturnsInHanded {} Try.checked os 5 .any (Rows.fnShardsFewSpec.pre6 enc Try.prog Try.f5 Rows.fnShardsFewRow.domain false) (Rows.fnShardsFewSpec.post enc Try.prog Try.f5 false true false false) := by
  refine law_lifted (C := Try.checked) (tb := 4) fnShardsFew_own fnShardsFew_laidOut started (by kernel_rfl) Try.func5 rfl Try.underlying4 rfl (by rw [Try.params5]; exact of_decide_eq_true (by kernel_rfl)) ?_
    (ChangeSpec.witness6 (enc := enc) (C := Try.checked) false ⟨#[], #[.slice none 0 0, .slice none 0 0], []⟩ 8 (by kernel_rfl) (by kernel_rfl) (by kernel_rfl) (by kernel_rfl)) ?_
  · intro ds hds
    rw [Try.params5] at hds
    match ds, hds with
    | [d0, d1], _ => rfl
  · intro W base args ds p hval0 hA0
    have hval : ∀ (j : Nat) t v, Try.f5.params[j]? = some t → args[j]? = some v → Value.okWide Try.prog W .any base t v := hval0
    have hA : DataW.TrodAll enc Try.prog W 0 (fun _ => true) true Try.f5.params.toList args.toList ds p := hA0
    rw [Try.params5] at hA hval
    obtain ⟨v0, vs0, d0, ds0, p0, q0, hargs0, rfl, rfl, h0, r0⟩ := trodAll_cons hA
    obtain ⟨v1, vs1, d1, ds1, p1, q1, hargs1, rfl, rfl, h1, r1⟩ := trodAll_cons r0
    obtain ⟨hnil, rfl, rfl⟩ := trodAll_nil r1
    subst hnil
    subst hargs1
    obtain rfl : args = #[v0, v1] := by cases args; simp_all
    obtain ⟨a0, cap0, zs0, rfl, hk0, hm0, hi0, hw0⟩ := open_slice_ints Try.underlying22 Try.underlying5 (by kernel_rfl) (hval 0 22 v0 rfl rfl) h0
    obtain ⟨a1, cap1, zs1, rfl, hk1, hm1, hi1, hw1⟩ := open_slice_ints Try.underlying22 Try.underlying5 (by kernel_rfl) (hval 1 22 v1 rfl rfl) h1
    exact fnShardsFew_walk a0 cap0 zs0 a1 cap1 zs1 W hk0 hm0 hi0 hw0 hk1 hm1 hi1 hw1

theorem fnShardsFew_holds : Rows.FnShardsFewSaid :=
  OpenClaim.holds_of_wide 5 Try.f5 rfl rfl rfl rfl rfl rfl rfl ⟨rfl, rfl, rfl, rfl, rfl⟩ rfl rfl rfl rfl rfl (by kernel_rfl) Try.func5 (by kernel_rfl)
    (of_decide_eq_true (by kernel_rfl)) (by unfold Func.isWrapper; first | (rw [if_pos (by decide +kernel)]; kernel_rfl) | (rw [if_neg (by decide +kernel)]; exact ⟨rfl, rfl⟩))
    (fun os started H enc _ => fnShardsFew_lifted os started H enc)

end Go.Proofs.Ytgflffcogdkgfaa
