/- Law FnShardRepairKnown holds for every input; no conditions of our own. -/
import Derived.Test.YtejpoeejhmgphacRows
import Derived.Test.YtejpoeejhmgphacBase
import Derived.Test.YtejpoeejhmgphacLift
import Derived.Test.YtejpoeejhmgphacApp
import Derived.Test.YtejpoeejhmgphacDt
import Derived.Test.YtejpoeejhmgphacSn3
import Derived.Test.YtejpoeejhmgphacQ3
import Derived.Test.YtejpoeejhmgphacV3
namespace Go.Proofs.Ytejpoeejhmgphac
open Go.ChangeShapes Go.WideShapes Go.ChangeAt Go.RowKit

set_option maxHeartbeats 4000000 in
theorem fnShardRepairKnown_walk (a : Option Addr) (cap : Nat) (zs : List Int) (a' : Option Addr) (cap' : Nat) (ms : List Int) (w : World) (hk : zs.length ≤ cap) (_hm : zs.length ≤ maxLen) (hi : zs = [] ∨ ∃ b off, a = some ⟨b, off, none⟩ ∧ b < w.heap.size ∧ ∀ j (h : j < zs.length), w.cell? ⟨b, off + j, none⟩ = some (.int .u8 zs[j])) (hw : ∀ z ∈ zs, (Lit.int .u8 z).wf = true)
    (_hk' : ms.length ≤ cap') (hm' : ms.length ≤ maxLen) (_hi' : ms = [] ∨ ∃ b off, a' = some ⟨b, off, none⟩ ∧ b < w.heap.size ∧ ∀ j (h : j < ms.length), w.cell? ⟨b, off + j, none⟩ = some (.int .u8 ms[j])) (_hw' : ∀ z ∈ ms, (Lit.int .u8 z).wf = true) :
    Calls Try.prog 3 #[.slice a zs.length cap, .slice a' ms.length cap'] w fun e w' => e = .returned (.bool true) ∧ Below w.heap.size w w' := by
  unfold maxLen at hm'
  by_cases hl : 1048576 < zs.length
  · go_enter Try.func3, Try.ntmps3
    go_wp2
    go_ret
    exact ⟨rfl, Below.refl _ _⟩
  by_cases hl' : 1048576 < ms.length
  · go_enter Try.func3, Try.ntmps3
    go_wp2
    go_ret
    exact ⟨rfl, Below.refl _ _⟩
  have hcode := codeAt_of hk (by omega) hi hw
  have Hcode := Lib.hid hcode; clear hcode hi hw
  go_enter Try.func3, Try.ntmps3
  go_wp2_with fail
  refine (spec_DrawShardJoin a cap zs w Hcode.out).mono ?_
  rintro e w1 ⟨size, need, v, L, fp, rfl, hr, hL, hS, hz1, hz2, hb1⟩
  have hin : ∀ s ∈ L, s.2.length ≤ 1048576 := fun s hs => Nat.le_trans (hS s hs) (by omega)
  have HS := Lib.hid (spec_ShardJoin size need L v fp w1 (by omega) hin hr)
  have HI := Lib.hid (fun W h => impl_ShardJoin size need L v fp W (by omega) hin h)
  have HR := Lib.hid (fun x W h => impl_ShardRepair size need L v x fp W (by omega) hin h)
  have Hr := Lib.hid hr
  have Hb1 := Lib.hid hb1
  have HSl := Lib.hid hS
  clear hr hb1 hin hS
  have Hlaw := Lib.hid (known_law (size := size) (need := need) (L := L))
  go_wp2_with fail
  refine HS.out.mono ?_
  rintro e w2 ⟨u2, rfl, _, hb2⟩
  have Hr2 := Lib.hid (Hr.out.under hb2)
  have HI2 := Lib.hid (HI.out w2 Hr2.out)
  have Hb2 := Lib.hid (below_step Hb1.out Hb1.out.size hb2)
  clear hb2
  go_wp2_with fail
  refine HI2.out.mono ?_
  rintro e w3 ⟨u3, rfl, _, hb3⟩
  have Hr3 := Lib.hid (Hr2.out.under hb3)
  have Hb3 := Lib.hid (below_step Hb2.out Hb2.out.size hb3)
  clear hb3 HI2 HS HI
  cases hJ : joinB size need L with
  | false =>
    clear hJ
    go_wp2
    go_ret
    exact ⟨by first | rfl | exact ret_bool (by simp), Hb3.out⟩
  | true =>
  obtain ⟨hpos, hk⟩ := Hlaw.out hJ
  have Hk := Lib.hid hk
  clear hk hJ
  obtain ⟨k, hk⟩ : ∃ k : Nat, k = ms.length % L.length := ⟨_, rfl⟩
  have hkl : k < L.length := by rw [hk]; exact Nat.mod_lt _ hpos
  have hkz : (ms.length : Int).tmod L.length = k := by rw [hk]; rfl
  have hkz2 : (ms.length : Int) % L.length = k := by rw [hk]; rfl
  have hposz : (0 : Int) < L.length := by omega
  have hklz : (k : Int) < L.length := by omega
  obtain ⟨av0, cv0, rfl⟩ := Rd.slice Hr3.out
  rw [List.length_map] at Hr3 Hr2 Hr HR ⊢
  obtain ⟨gO, oO, rfl, hgO, hat⟩ := shards_at Hr3.out hpos
  obtain ⟨av, cv, c0, c1, hiv⟩ := hat k hkl
  obtain ⟨hrb, hrs⟩ := Hk.out k hkl
  have HR3 := Lib.hid (HR.out L[k].1 w3 Hr3.out)
  rw [hrb, hrs] at HR3
  have hSv := HSl.out _ (List.getElem_mem hkl)
  have Hiv := Lib.hid hiv
  have Hkk := Lib.hid hk
  clear hat hrb hrs hiv hk
  generalize L[k] = S at *
  obtain ⟨Sn, Sv⟩ := S
  dsimp only at *
  go_wp2_with fail
  refine HR3.out.mono ?_
  rintro e w4 ⟨u4, rfl, ho4, hb4⟩
  obtain ⟨au, cu, rfl, hiu, _⟩ := ho4.ints
  have hbB : Below w4.heap.size w4 (w4.alloc (.cells #[.int .i64 Sn, .slice au Sv.length cu] 30)) := (Below.refl _ _).alloc (Nat.le_refl _) _
  have sB := Str.new w4 30 #[.int .i64 Sn, .slice au Sv.length cu]
  have e0 := sB.cell 0 (v := .int .i64 Sn) rfl
  have e1 := sB.cell 1 (v := .slice au Sv.length cu) rfl
  have hb4B := below_step hb4 hb4.size hbB
  have c0 := (hb4B.cell (p := ⟨gO, oO + k * 2, none⟩) hgO).trans c0
  have c1 := (hb4B.cell (p := ⟨gO, oO + k * 2 + 1, none⟩) hgO).trans c1
  have Hiu := Lib.hid (hiu.below hbB)
  have Hiv := Lib.hid (Hiv.out.below hb4B)
  have HbB := Lib.hid (below_step Hb3.out Hb3.out.size hb4B)
  have hgB : gO < (w4.alloc (.cells #[.int .i64 Sn, .slice au Sv.length cu] 30)).heap.size := Nat.lt_of_lt_of_le hgO hb4B.size
  have hwB : w4.heap.size < (w4.alloc (.cells #[.int .i64 Sn, .slice au Sv.length cu] 30)).heap.size := by simp
  clear ho4 hb4 hbB sB hb4B hiu
  go_wp2_with fail
  generalize w4.alloc (.cells #[.int .i64 Sn, .slice au Sv.length cu] 30) = wB at *
  refine wp_region_held_drew (S := fun w' => Below wB.heap.size wB w' ∧ w'.cell? ⟨w4.heap.size, 0, none⟩ = some (.int .i64 Sn) ∧ w'.cell? ⟨w4.heap.size, 1, none⟩ = some (.slice au Sv.length cu) ∧ w'.cell? ⟨gO, oO + k * 2, none⟩ = some (.int .i64 Sn) ∧ w'.cell? ⟨gO, oO + k * 2 + 1, none⟩ = some (.slice av Sv.length cv)) (by kernel_rfl) ⟨(Below.refl _ _).drew, e0, e1, c0, c1⟩ (fun hH => ?_)
  refine takeH 0 (v := ?vr0) rfl (by kernel_rfl) (by kernel_rfl) (by kernel_rfl) (fun _ _ _ h => h) hH rfl ?yr0 ?rr0
  case yr0 => intro W hSw; go_simp; try with_reducible rfl
  try simp only [Act.put, List.setIfInBounds_toArray, List.set_cons_zero, List.set_cons_succ]
  refine takeH 1 (v := ?vr1) rfl (by kernel_rfl) (by kernel_rfl) (by kernel_rfl) (fun _ _ _ h => h) hH rfl ?yr1 ?rr1
  case yr1 => intro W hSw; go_simp; try with_reducible rfl
  try simp only [Act.put, List.setIfInBounds_toArray, List.set_cons_zero, List.set_cons_succ]
  refine takeH 2 (v := ?vr2) rfl (by kernel_rfl) (by kernel_rfl) (by kernel_rfl) (fun _ _ _ h => h) hH rfl ?yr2 ?rr2
  case yr2 => intro W hSw; go_simp; try with_reducible rfl
  try simp only [Act.put, List.setIfInBounds_toArray, List.set_cons_zero, List.set_cons_succ]
  refine takeH 3 (v := ?vr3) rfl (by kernel_rfl) (by kernel_rfl) (by kernel_rfl) (fun _ _ _ h => h) hH rfl ?yr3 ?rr3
  case yr3 => intro W hSw; go_simp; try with_reducible rfl
  try simp only [Act.put, List.setIfInBounds_toArray, List.set_cons_zero, List.set_cons_succ]
  refine takeH 4 (v := ?vr4) rfl (by kernel_rfl) (by kernel_rfl) (by kernel_rfl) (fun _ _ _ h => h) hH rfl ?yr4 ?rr4
  case yr4 => intro W hSw; go_simp; try with_reducible rfl
  try simp only [Act.put, List.setIfInBounds_toArray, List.set_cons_zero, List.set_cons_succ]
  refine takeH 5 (v := ?vr5) rfl (by kernel_rfl) (by kernel_rfl) (by kernel_rfl) (fun _ _ _ h => h) hH rfl ?yr5 ?rr5
  case yr5 => intro W hSw; go_simp; try with_reducible rfl
  try simp only [Act.put, List.setIfInBounds_toArray, List.set_cons_zero, List.set_cons_succ]
  refine takeH 6 (v := ?vr6) rfl (by kernel_rfl) (by kernel_rfl) (by kernel_rfl) (fun _ _ _ h => h) hH rfl ?yr6 ?rr6
  case yr6 => intro W hSw; go_simp; try with_reducible rfl
  try simp only [Act.put, List.setIfInBounds_toArray, List.set_cons_zero, List.set_cons_succ]
  refine callH 7 rfl (by kernel_rfl) rfl (fun K hK => ?_)
  go_simp
  go_at_call 8
  refine (laws_sameShard' Sn au av cu cv Sv _ (by omega) (Hiu.out.below hH.1) (Hiv.out.below hH.1)).mono ?_
  rintro e wx ⟨rfl, hbx⟩
  refine hK.out _ _ ⟨hH.1.trans (hbx.mono hH.1.size), (hbx.cell (p := ⟨w4.heap.size, 0, none⟩) (by simp only; have := hH.1.size; omega)).trans hH.2.1, (hbx.cell (p := ⟨w4.heap.size, 1, none⟩) (by simp only; have := hH.1.size; omega)).trans hH.2.2.1, (hbx.cell (p := ⟨gO, oO + k * 2, none⟩) (by simp only; have := hH.1.size; omega)).trans hH.2.2.2.1, (hbx.cell (p := ⟨gO, oO + k * 2 + 1, none⟩) (by simp only; have := hH.1.size; omega)).trans hH.2.2.2.2⟩ (fun hH => ?_)
  clear hK K
  try simp only [Act.put, List.setIfInBounds_toArray, List.set_cons_zero, List.set_cons_succ]
  refine takeH 8 (v := ?vr8) rfl (by kernel_rfl) (by kernel_rfl) (by kernel_rfl) (fun _ _ _ h => h) hH rfl ?yr8 ?rr8
  case yr8 => intro W hSw; go_simp; try with_reducible rfl
  try simp only [Act.put, List.setIfInBounds_toArray, List.set_cons_zero, List.set_cons_succ]
  refine takeH 9 (v := ?vr9) rfl (by kernel_rfl) (by kernel_rfl) (by kernel_rfl) (fun _ _ _ h => h) hH rfl ?yr9 ?rr9
  case yr9 => intro W hSw; go_simp; try with_reducible rfl
  try simp only [Act.put, List.setIfInBounds_toArray, List.set_cons_zero, List.set_cons_succ]
  refine wpAnyH_done (by kernel_rfl) ?_ _
  try simp only [Act.put]
  obtain ⟨hbw, _⟩ := hH
  have Hend := Lib.hid (below_step HbB.out HbB.out.size hbw)
  clear hbw hbx
  go_wp2
  go_ret
  exact ⟨by first | rfl | exact ret_bool (by simp), Hend.out⟩

theorem fnShardRepairKnown_own : ownKnob Try.prog.godebug = none := by kernel_rfl
theorem fnShardRepairKnown_laidOut : laidOutB Try.prog = true := by kernel_rfl

theorem fnShardRepairKnown_lifted (os : Os) (started : os.Started) (H : Type) (enc : TypeId × Value → H) :
    ReturnsInHanded {} Try.checked os 3 .any (Rows.fnShardRepairKnownSpec.pre6 enc Try.prog Try.f3 Rows.fnShardRepairKnownRow.domain false) (Rows.fnShardRepairKnownSpec.post enc Try.prog Try.f3 false true false false) := by
  refine law_lifted (C := Try.checked) (tb := 4) fnShardRepairKnown_own fnShardRepairKnown_laidOut started (by kernel_rfl) Try.func3 rfl Try.underlying4 rfl (by rw [Try.params3]; exact of_decide_eq_true (by kernel_rfl)) ?_
    (ChangeSpec.witness6 (enc := enc) (C := Try.checked) false ⟨#[], #[.slice none 0 0, .slice none 0 0], []⟩ 8 (by kernel_rfl) (by kernel_rfl) (by kernel_rfl) (by kernel_rfl)) ?_
  · intro ds hds
    rw [Try.params3] at hds
    match ds, hds with
    | [d0, d1], _ => rfl
  · intro W base args ds p hval0 hA0
    have hval : ∀ (j : Nat) t v, Try.f3.params[j]? = some t → args[j]? = some v → Value.okWide Try.prog W .any base t v := hval0
    have hA : DataW.TrodAll enc Try.prog W 0 (fun _ => true) true Try.f3.params.toList args.toList ds p := hA0
    rw [Try.params3] at hA hval
    obtain ⟨v0, vs0, d0, ds0, p0, q0, hargs0, rfl, rfl, h0, r0⟩ := trodAll_cons hA
    obtain ⟨v1, vs1, d1, ds1, p1, q1, hargs1, rfl, rfl, h1, r1⟩ := trodAll_cons r0
    obtain ⟨hnil, rfl, rfl⟩ := trodAll_nil r1
    subst hnil
    subst hargs1
    obtain rfl : args = #[v0, v1] := by cases args; simp_all
    obtain ⟨a0, cap0, zs0, rfl, hk0, hm0, hi0, hw0⟩ := open_slice_ints Try.underlying22 Try.underlying5 (by kernel_rfl) (hval 0 22 v0 rfl rfl) h0
    obtain ⟨a1, cap1, zs1, rfl, hk1, hm1, hi1, hw1⟩ := open_slice_ints Try.underlying22 Try.underlying5 (by kernel_rfl) (hval 1 22 v1 rfl rfl) h1
    exact fnShardRepairKnown_walk a0 cap0 zs0 a1 cap1 zs1 W hk0 hm0 hi0 hw0 hk1 hm1 hi1 hw1

theorem fnShardRepairKnown_holds : Rows.FnShardRepairKnownSaid :=
  OpenClaim.holds_of_wide 3 Try.f3 rfl rfl rfl rfl rfl rfl rfl ⟨rfl, rfl, rfl, rfl, rfl⟩ rfl rfl rfl rfl rfl (by kernel_rfl) Try.func3 (by kernel_rfl)
    (of_decide_eq_true (by kernel_rfl)) (by unfold Func.isWrapper; first | (rw [if_pos (by decide +kernel)]; kernel_rfl) | (rw [if_neg (by decide +kernel)]; exact ⟨rfl, rfl⟩))
    (fun os started H enc _ => fnShardRepairKnown_lifted os started H enc)

end Go.Proofs.Ytejpoeejhmgphac
