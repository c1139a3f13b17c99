/- The exact law of ShardMatches holds at every argument; no conditions of our own. -/
import Derived.Test.YtgflffcogdkgfabRows
import Derived.Test.YtgflffcogdkgfabBase
import Derived.Test.YtgflffcogdkgfabLift
import Derived.Test.YtgflffcogdkgfabApp
import Derived.Test.YtgflffcogdkgfabM3
import Derived.Test.YtgflffcogdkgfabC1
import Derived.Test.YtgflffcogdkgfabC3
import Derived.Test.YtgflffcogdkgfabX3
import Derived.Test.YtgflffcogdkgfabY3
import Derived.Test.YtgflffcogdkgfabL1
import Derived.Test.YtgflffcogdkgfabL2
namespace Go.Proofs.Ytgflffcogdkgfab
open Go.ChangeShapes Go.WideShapes Go.ChangeAt Go.RowKit

set_option maxHeartbeats 2000000 in
theorem fnExactShardMatches_walk (al : Option Addr) (capl : Nat) (xl : List Int) (need : Int) (n : Int) (aS : Option Addr) (caps : Nat) (xs : List Int) (w : World) (_hkl : xl.length ≤ capl) (hml : xl.length ≤ maxLen) (hil : IntsAt w al xl) (_hwl : ∀ z ∈ xl, (Lit.int .i64 z).wf = true) (_h1 : -9223372036854775808 ≤ need ∧ need ≤ 9223372036854775807)
    (_hn : -9223372036854775808 ≤ n ∧ n ≤ 9223372036854775807) (hms : xs.length ≤ maxLen) (his : IntsAt w aS xs) :
    Calls Try.prog 7 #[.slice al xl.length capl, .int .i64 need, .agg #[.int .i64 n, .slice aS xs.length caps]] w fun e w' => e = .returned (.bool true) ∧ Below w.heap.size w w' := by
  unfold maxLen at hml hms
  have hb0 : Below w.heap.size w (w.alloc (.cells #[.int .i64 n, .slice aS xs.length caps] 48)) := (Below.refl _ w).alloc (Nat.le_refl _) _
  by_cases hl0 : xl.length ≤ 1048576
  · obtain ⟨_h11, _h12⟩ := _h1
    obtain ⟨_hn1, _hn2⟩ := _hn
    have Hsz := Lib.hid (fun w => laws_szShard n aS caps xs 1048576 w (by omega) (by omega))
    have s0 := Str.new w 48 #[.int .i64 n, .slice aS xs.length caps]
    have k0 := s0.cell 0 (v := .int .i64 n) rfl
    have k1 := s0.cell 1 (v := .slice aS xs.length caps) rfl
    have hz0 : (w.alloc (.cells #[.int .i64 n, .slice aS xs.length caps] 48)).heap.size = w.heap.size + 1 := by simp
    have Hs0 := Lib.hid s0; clear s0
    have Hil := Lib.hid hil; clear hil
    have His := Lib.hid his; clear his
    have Hb0 := Lib.hid hb0; clear hb0
    go_enter Try.func7, Try.ntmps7
    go_wp2_with fail
    generalize w.alloc (.cells #[.int .i64 n, .slice aS xs.length caps] 48) = W0 at *
    refine (Hsz.out W0).mono ?_
    rintro e w1 ⟨rfl, hb1⟩
    have Hb1 := Lib.hid (below_step Hb0.out Hb0.out.size hb1)
    have hz1 := hb1.size
    have Hs1 := Lib.hid ((hb1.block _ (by omega)).trans Hs0.out)
    clear hb1 k0 k1
    by_cases hl1 : xs.length ≤ 1048576
    · rw [if_pos hl1]
      have hneg : decide (((1048576 : Nat) : Int) - (xs.length : Int) < 0) = false := decide_eq_false (by omega)
      have hneg2 : ¬ (1048576 : Int) - (xs.length : Int) < 0 := by omega
      have j0 := Str.cell Hs1.out 0 (v := .int .i64 n) rfl
      have j1 := Str.cell Hs1.out 1 (v := .slice aS xs.length caps) rfl
      go_wp2_with fail
      refine wp_region_held_drew (S := fun w' => w'.cell? ⟨w.heap.size, 0, none⟩ = some (.int .i64 n) ∧ w'.cell? ⟨w.heap.size, 1, none⟩ = some (.slice aS xs.length caps)) (by kernel_rfl) ⟨j0, j1⟩ (fun hH => ?_)
      refine takeH 0 (v := ?vp0) rfl (by kernel_rfl) (by kernel_rfl) (by kernel_rfl) (fun _ _ _ h => h) hH rfl ?yp0 ?rp0
      case yp0 => intro W hSw; go_simp; try with_reducible rfl
      try simp only [Act.put, List.setIfInBounds_toArray, List.set_cons_zero, List.set_cons_succ]
      refine takeH 2 (v := ?vp1) rfl (by kernel_rfl) (by kernel_rfl) (by kernel_rfl) (fun _ _ _ h => h) hH rfl ?yp1 ?rp1
      case yp1 => intro W hSw; go_simp; try with_reducible rfl
      try simp only [Act.put, List.setIfInBounds_toArray, List.set_cons_zero, List.set_cons_succ]
      refine takeH 3 (v := ?vp2) rfl (by kernel_rfl) (by kernel_rfl) (by kernel_rfl) (fun _ _ _ h => h) hH rfl ?yp2 ?rp2
      case yp2 => intro W hSw; go_simp; try with_reducible rfl
      try simp only [Act.put, List.setIfInBounds_toArray, List.set_cons_zero, List.set_cons_succ]
      refine callH 1 rfl (by kernel_rfl) rfl (fun K hK => ?_)
      go_simp
      refine (laws_toIntS al capl xl w1.drew (by omega) (Hil.out.below Hb1.out.drew)).mono ?_
      rintro e w2 ⟨vd, rfl, hod, hb2⟩
      dsimp only
      have hwd : w1.drew.heap.size = w1.heap.size := rfl
      have hz2 := hb2.size
      have Hb2 := Lib.hid (below_step Hb1.out.drew Hb1.out.size hb2)
      have Hd2 := Lib.hid hod; clear hod
      obtain ⟨ad, cd, rfl, _, _⟩ := Hd2.out.ints
      refine hK.out _ _ ⟨(hb2.cell (p := ⟨w.heap.size, 0, none⟩) (by simp only; omega)).trans hH.1, (hb2.cell (p := ⟨w.heap.size, 1, none⟩) (by simp only; omega)).trans hH.2⟩ (fun hH => ?_)
      clear hK K
      try simp only [Act.put, List.setIfInBounds_toArray, List.set_cons_zero, List.set_cons_succ]
      refine callH 4 rfl (by kernel_rfl) rfl (fun K hK => ?_)
      go_simp
      refine (laws_toShard n aS caps xs w2 (by omega) (His.out.below Hb2.out)).mono ?_
      rintro e w3 ⟨ve, rfl, hoe, hb3⟩
      dsimp only
      have hz3 := hb3.size
      have Hb3 := Lib.hid (below_step Hb2.out Hb2.out.size hb3)
      have Hd3 := Lib.hid (Hd2.out.below hb3)
      have He3 := Lib.hid hoe; clear hoe
      obtain ⟨ae, ce, rfl, _, _⟩ := He3.out.ints
      refine hK.out _ _ ⟨(hb3.cell (p := ⟨w.heap.size, 0, none⟩) (by simp only; omega)).trans hH.1, (hb3.cell (p := ⟨w.heap.size, 1, none⟩) (by simp only; omega)).trans hH.2⟩ (fun hH => ?_)
      clear hK K
      try simp only [Act.put, List.setIfInBounds_toArray, List.set_cons_zero, List.set_cons_succ]
      refine callH 5 rfl (by kernel_rfl) rfl (fun K hK => ?_)
      go_simp
      refine (spec_ShardMatches ad cd xl need n ae ce xs w3 (by omega) (by omega) Hd3.out.at He3.out.at).mono ?_
      rintro e w4 ⟨rfl, hb4⟩
      dsimp only
      have hz4 := hb4.size
      have Hb4 := Lib.hid (below_step Hb3.out Hb3.out.size hb4)
      refine hK.out _ _ ⟨(hb4.cell (p := ⟨w.heap.size, 0, none⟩) (by simp only; omega)).trans hH.1, (hb4.cell (p := ⟨w.heap.size, 1, none⟩) (by simp only; omega)).trans hH.2⟩ (fun hH => ?_)
      clear hK K
      try simp only [Act.put, List.setIfInBounds_toArray, List.set_cons_zero, List.set_cons_succ]
      refine takeH 6 (v := ?vp6) rfl (by kernel_rfl) (by kernel_rfl) (by kernel_rfl) (fun _ _ _ h => h) hH rfl ?yp6 ?rp6
      case yp6 => intro W hSw; go_simp; try with_reducible rfl
      try simp only [Act.put, List.setIfInBounds_toArray, List.set_cons_zero, List.set_cons_succ]
      refine wpAnyH_done (by kernel_rfl) ?_ _
      try simp only [Act.put]
      obtain ⟨i0, i1⟩ := hH
      have Himpl := Lib.hid (fun a cap av cv w h1 h2 h3 => impl_ShardMatches a cap xl need n av cv xs w (by omega) h1 (by omega) h2 h3)
      generalize matB xl need (n, xs) = b at *
      clear Hd2 Hd3 He3 j0 j1 hb2 hb3 hb4
      go_wp2_with fail
      refine (laws_toIntS al capl xl w4 (by omega) (Hil.out.below Hb4.out)).mono ?_
      rintro e w5 ⟨vx, rfl, hox, hb5⟩
      have hz5 := hb5.size
      have Hb5 := Lib.hid (below_step Hb4.out Hb4.out.size hb5)
      have Hx5 := Lib.hid hox; clear hox
      obtain ⟨ax, cx, rfl, _, _⟩ := Hx5.out.ints
      have hcx := Hx5.out.cap
      have p0 := (hb5.cell (p := ⟨w.heap.size, 0, none⟩) (by simp only; omega)).trans i0
      have p1 := (hb5.cell (p := ⟨w.heap.size, 1, none⟩) (by simp only; omega)).trans i1
      clear hb5 i0 i1
      go_wp2_with fail
      refine (laws_toShard n aS caps xs w5 (by omega) (His.out.below Hb5.out)).mono ?_
      rintro e w6 ⟨vy, rfl, hoy, hb6⟩
      have hz6 := hb6.size
      have Hb6 := Lib.hid (below_step Hb5.out Hb5.out.size hb6)
      have Hx6 := Lib.hid (Hx5.out.below hb6)
      have Hy6 := Lib.hid hoy; clear hoy
      obtain ⟨ay, cy, rfl, _, _⟩ := Hy6.out.ints
      have p0 := (hb6.cell (p := ⟨w.heap.size, 0, none⟩) (by simp only; omega)).trans p0
      have p1 := (hb6.cell (p := ⟨w.heap.size, 1, none⟩) (by simp only; omega)).trans p1
      clear hb6
      have hb7 : Below w6.heap.size w6 (w6.alloc (.cells #[.int .i64 n, .slice ay xs.length cy] 30)) := (Below.refl _ w6).alloc (Nat.le_refl _) _
      have s7 := Str.new w6 30 #[.int .i64 n, .slice ay xs.length cy]
      have hz7 : (w6.alloc (.cells #[.int .i64 n, .slice ay xs.length cy] 30)).heap.size = w6.heap.size + 1 := by simp
      have Hb7 := Lib.hid (below_step Hb6.out Hb6.out.size hb7)
      have Hx7 := Lib.hid (Hx6.out.below hb7)
      have Hy7 := Lib.hid (Hy6.out.below hb7)
      have p0 := (hb7.cell (p := ⟨w.heap.size, 0, none⟩) (by simp only; omega)).trans p0
      have p1 := (hb7.cell (p := ⟨w.heap.size, 1, none⟩) (by simp only; omega)).trans p1
      have q0 := s7.cell 0 (v := .int .i64 n) rfl
      have q1 := s7.cell 1 (v := .slice ay xs.length cy) rfl
      clear hb7 s7 Hx6 Hy6
      go_wp2_with fail
      generalize w6.alloc (.cells #[.int .i64 n, .slice ay xs.length cy] 30) = w7 at *
      refine (Himpl.out ax cx ay cy w7 hcx Hx7.out.at Hy7.out.at).mono ?_
      rintro e w8 ⟨rfl, hb8⟩
      have hz8 := hb8.size
      have Hb8 := Lib.hid (below_step Hb7.out Hb7.out.size hb8)
      have Hx8 := Lib.hid (Hx7.out.below hb8)
      have Hy8 := Lib.hid (Hy7.out.below hb8)
      have p0 := (hb8.cell (p := ⟨w.heap.size, 0, none⟩) (by simp only; omega)).trans p0
      have p1 := (hb8.cell (p := ⟨w.heap.size, 1, none⟩) (by simp only; omega)).trans p1
      have q0 := (hb8.cell (p := ⟨w6.heap.size, 0, none⟩) (by simp only; omega)).trans q0
      have q1 := (hb8.cell (p := ⟨w6.heap.size, 1, none⟩) (by simp only; omega)).trans q1
      clear hb8 Hx7 Hy7
      go_wp2_with fail
      refine (laws_toIntS al capl xl w8 (by omega) (Hil.out.below Hb8.out)).mono ?_
      rintro e w9 ⟨vz, rfl, hoz, hb9⟩
      have hz9 := hb9.size
      have Hb9 := Lib.hid (below_step Hb8.out Hb8.out.size hb9)
      have Hx9 := Lib.hid (Hx8.out.below hb9)
      have Hy9 := Lib.hid (Hy8.out.below hb9)
      have Hz9 := Lib.hid hoz; clear hoz
      obtain ⟨az, cz, rfl, _, _⟩ := Hz9.out.ints
      have p0 := (hb9.cell (p := ⟨w.heap.size, 0, none⟩) (by simp only; omega)).trans p0
      have p1 := (hb9.cell (p := ⟨w.heap.size, 1, none⟩) (by simp only; omega)).trans p1
      have q0 := (hb9.cell (p := ⟨w6.heap.size, 0, none⟩) (by simp only; omega)).trans q0
      have q1 := (hb9.cell (p := ⟨w6.heap.size, 1, none⟩) (by simp only; omega)).trans q1
      clear hb9
      go_wp2_with fail
      refine (laws_eqIntS' ax az cx cz xl w9 (by omega) Hx9.out.at Hz9.out.at).mono ?_
      rintro e w10 ⟨rfl, hd10⟩
      have Hb10 := Lib.hid (below_step Hb9.out Hb9.out.size (hd10.below w9.heap.size))
      have Hy10 := Lib.hid (Hy9.out.below (hd10.below w9.heap.size))
      have hz10 := (hd10.below w9.heap.size).size
      have p0 := (hd10.cell _).trans p0
      have p1 := (hd10.cell _).trans p1
      have q0 := (hd10.cell _).trans q0
      have q1 := (hd10.cell _).trans q1
      clear hd10 Hx9 Hz9 Hx8 Hy8
      go_wp2_with fail
      refine wp_region_held_drew (S := fun w' => w'.cell? ⟨w.heap.size, 0, none⟩ = some (.int .i64 n) ∧ w'.cell? ⟨w.heap.size, 1, none⟩ = some (.slice aS xs.length caps) ∧ w'.cell? ⟨w6.heap.size, 0, none⟩ = some (.int .i64 n) ∧ w'.cell? ⟨w6.heap.size, 1, none⟩ = some (.slice ay xs.length cy)) (by kernel_rfl) ⟨p0, p1, q0, q1⟩ (fun hH => ?_)
      refine takeH 0 (v := ?vq0) rfl (by kernel_rfl) (by kernel_rfl) (by kernel_rfl) (fun _ _ _ h => h) hH rfl ?yq0 ?rq0
      case yq0 => intro W hSw; go_simp; try with_reducible rfl
      try simp only [Act.put, List.setIfInBounds_toArray, List.set_cons_zero, List.set_cons_succ]
      refine takeH 1 (v := ?vq1) rfl (by kernel_rfl) (by kernel_rfl) (by kernel_rfl) (fun _ _ _ h => h) hH rfl ?yq1 ?rq1
      case yq1 => intro W hSw; go_simp; try with_reducible rfl
      try simp only [Act.put, List.setIfInBounds_toArray, List.set_cons_zero, List.set_cons_succ]
      refine callH 2 rfl (by kernel_rfl) rfl (fun K hK => ?_)
      go_simp
      refine (laws_toShard n aS caps xs w10.drew (by omega) (His.out.below Hb10.out.drew)).mono ?_
      rintro e w11 ⟨ve, rfl, hoe, hb11⟩
      dsimp only
      have hwd2 : w10.drew.heap.size = w10.heap.size := rfl
      have hz11 := hb11.size
      have Hb11 := Lib.hid (below_step Hb10.out.drew Hb10.out.size hb11)
      have Hy11 := Lib.hid (Own.below (w := w10.drew) Hy10.out hb11)
      have He11 := Lib.hid hoe; clear hoe
      obtain ⟨ae, ce, rfl, _, _⟩ := He11.out.ints
      refine hK.out _ _ ⟨(hb11.cell (p := ⟨w.heap.size, 0, none⟩) (by simp only; omega)).trans hH.1, (hb11.cell (p := ⟨w.heap.size, 1, none⟩) (by simp only; omega)).trans hH.2.1, (hb11.cell (p := ⟨w6.heap.size, 0, none⟩) (by simp only; omega)).trans hH.2.2.1, (hb11.cell (p := ⟨w6.heap.size, 1, none⟩) (by simp only; omega)).trans hH.2.2.2⟩ (fun hH => ?_)
      clear hK K
      try simp only [Act.put, List.setIfInBounds_toArray, List.set_cons_zero, List.set_cons_succ]
      refine callH 3 rfl (by kernel_rfl) rfl (fun K hK => ?_)
      go_simp
      refine (laws_eqShard' n ay ae cy ce xs w11 (by omega) Hy11.out.at He11.out.at).mono ?_
      rintro e w12 ⟨rfl, hb12⟩
      dsimp only
      have hz12 := hb12.size
      have Hb12 := Lib.hid (below_step Hb11.out Hb11.out.size hb12)
      refine hK.out _ _ ⟨(hb12.cell (p := ⟨w.heap.size, 0, none⟩) (by simp only; omega)).trans hH.1, (hb12.cell (p := ⟨w.heap.size, 1, none⟩) (by simp only; omega)).trans hH.2.1, (hb12.cell (p := ⟨w6.heap.size, 0, none⟩) (by simp only; omega)).trans hH.2.2.1, (hb12.cell (p := ⟨w6.heap.size, 1, none⟩) (by simp only; omega)).trans hH.2.2.2⟩ (fun hH => ?_)
      clear hK K
      try simp only [Act.put, List.setIfInBounds_toArray, List.set_cons_zero, List.set_cons_succ]
      refine takeH 4 (v := ?vq4) rfl (by kernel_rfl) (by kernel_rfl) (by kernel_rfl) (fun _ _ _ h => h) hH rfl ?yq4 ?rq4
      case yq4 => intro W hSw; go_simp; try with_reducible rfl
      try simp only [Act.put, List.setIfInBounds_toArray, List.set_cons_zero, List.set_cons_succ]
      refine wpAnyH_done (by kernel_rfl) ?_ _
      try simp only [Act.put]
      go_wp2
      go_ret
      exact ⟨rfl, Hb12.out⟩
    · rw [if_neg hl1]
      go_wp2
      go_ret
      exact ⟨rfl, Hb1.out⟩
  · go_enter Try.func7, Try.ntmps7
    go_wp2
    go_ret
    exact ⟨rfl, hb0⟩

theorem fnExactShardMatches_own : ownKnob Try.prog.godebug = none := by kernel_rfl
theorem fnExactShardMatches_laidOut : laidOutB Try.prog = true := by kernel_rfl

theorem fnExactShardMatches_lifted (os : Os) (started : os.Started) (H : Type) (enc : TypeId × Value → H) :
    ReturnsInHanded {} Try.checked os 7 .any (Rows.fnExactShardMatchesSpec.pre6 enc Try.prog Try.f7 Rows.fnExactShardMatchesRow.domain false) (Rows.fnExactShardMatchesSpec.post enc Try.prog Try.f7 false true false false) := by
  refine law_lifted (C := Try.checked) (tb := 4) fnExactShardMatches_own fnExactShardMatches_laidOut started (by kernel_rfl) Try.func7 rfl Try.underlying4 rfl (by rw [Try.params7]; exact of_decide_eq_true (by kernel_rfl)) ?_
    (ChangeSpec.witness6 (enc := enc) (C := Try.checked) false ⟨#[], #[.slice none 0 0, .int .i64 0, .agg #[.int .i64 0, .slice none 0 0]], []⟩ 8 (by kernel_rfl) (by kernel_rfl) (by kernel_rfl) (by kernel_rfl)) ?_
  · intro ds hds
    rw [Try.params7] at hds
    match ds, hds with
    | [d0, d1, d2], _ => rfl
  · intro W base args ds p hval0 hA0
    have hval : ∀ (j : Nat) t v, Try.f7.params[j]? = some t → args[j]? = some v → Value.okWide Try.prog W .any base t v := hval0
    have hA : DataW.TrodAll enc Try.prog W 0 (fun _ => true) true Try.f7.params.toList args.toList ds p := hA0
    rw [Try.params7] at hA hval
    obtain ⟨v0, vs0, d0, ds0, p0, q0, hargs0, rfl, rfl, h0, r0⟩ := trodAll_cons hA
    obtain ⟨v1, vs1, d1, ds1, p1, q1, hargs1, rfl, rfl, h1, r1⟩ := trodAll_cons r0
    obtain ⟨v2, vs2, d2, ds2, p2, q2, hargs2, rfl, rfl, h2, r2⟩ := trodAll_cons r1
    obtain ⟨hnil, rfl, rfl⟩ := trodAll_nil r2
    subst hnil
    subst hargs2
    subst hargs1
    obtain rfl : args = #[v0, v1, v2] := by cases args; simp_all
    obtain ⟨a0, cap0, zs0, rfl, hk0, hm0, hi0, hw0⟩ := open_slice_ints Try.underlying23 Try.underlying3 (by kernel_rfl) (hval 0 23 v0 rfl rfl) h0
    obtain ⟨n1, rfl, _, _, hw1⟩ := open_int Try.underlying3 (hval 1 3 v1 rfl rfl) h1
    obtain ⟨n2, a2, cap2, zs2, rfl, hn2, hm2, hi2⟩ := open_shard (hval 2 48 v2 rfl rfl) h2
    exact fnExactShardMatches_walk a0 cap0 zs0 n1 n2 a2 cap2 zs2 W hk0 hm0 hi0 hw0 (wf_i64 hw1) hn2 hm2 hi2

theorem fnExactShardMatches_holds : Rows.FnExactShardMatchesSaid :=
  OpenClaim.holds_of_wide 7 Try.f7 rfl rfl rfl rfl rfl rfl rfl ⟨rfl, rfl, rfl, rfl, rfl⟩ rfl rfl rfl rfl rfl (by kernel_rfl) Try.func7 (by kernel_rfl)
    (of_decide_eq_true (by kernel_rfl)) (by unfold Func.isWrapper; first | (rw [if_pos (by decide +kernel)]; kernel_rfl) | (rw [if_neg (by decide +kernel)]; exact ⟨rfl, rfl⟩))
    (fun os started H enc _ => fnExactShardMatches_lifted os started H enc)

end Go.Proofs.Ytgflffcogdkgfab
