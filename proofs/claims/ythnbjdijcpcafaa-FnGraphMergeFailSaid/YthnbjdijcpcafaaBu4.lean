/- Texts that the laws of this folder share, one behind another; no conditions. -/
import Derived.Test.YthnbjdijcpcafaaRows
import Derived.Test.YthnbjdijcpcafaaBu3

/- The draw of a vertex for a graph, and of both: what is drawn reads as a vertex and a graph in new memory; each by a walk of its text; conditions: the code is shorter than 2^20, at most 10^5 picks before. -/
namespace Go.Proofs.Ythnbjdijcpcafaa
open Go.RowKit

theorem hgt_bd (c : List Int) (g : List Vx) : ∀ n : Nat, -1 ≤ hgtTo c g n ∧ hgtTo c g n < n
  | 0 => by unfold hgtTo; omega
  | n + 1 => by
    have := hgt_bd c g n
    unfold hgtTo
    split <;> omega

set_option maxRecDepth 8000 in
set_option maxHeartbeats 40000000 in
theorem drawVertex (R p : Nat) (w : World) (ac : Option Addr) (capc : Nat) (c : List Int) (g : List Vx) (vg : Value) (fp : List Nat) (hp : p ≤ 200000) (hv : graphB c g = true) (hgl : g.length ≤ 281) (hps : ∀ x ∈ g, x.ps.length ≤ 100) (hr : Rdr w R p) (hR : R < w.heap.size) (hc : ∀ W, w.grownBy W (some R) → IntsAt W ac c) (hg : ∀ W, w.grownBy W (some R) → Gr W g vg fp) :
    Calls Try.prog 26 #[.pointer (some ⟨R, 0, none⟩), .slice ac c.length capc, vg] w fun e w' => ∃ (x : Vx) (vp : Value), e = .returned (.agg #[.int .i64 x.r, .int .i64 x.a, vp, .int .i64 x.d]) ∧ Own 3 w' w.heap.size vp x.ps ∧ x.ps.length ≤ 300 ∧ w.grownBy w' (some R) := by
  have hcv : validB c = true := by have h := hv; unfold graphB at h; simp only [Bool.and_eq_true] at h; exact h.1
  obtain ⟨hc1, hc7⟩ := validB_len hcv
  have hg0 := hg w ⟨rfl, rfl, rfl, Nat.le_refl _, fun _ _ _ => rfl⟩
  obtain ⟨ag, cg, rfl⟩ := hg0.slice
  have HH := Lib.hid (fun W h h' => spec_l11Height ac capc c g (.slice ag g.length cg) fp W hv (by omega) h h')
  have HA := Lib.hid (fun r W h => spec_l11Authors g (.slice ag g.length cg) fp r W (by omega) h)
  have hhb : -1 ≤ hgtZ c g ∧ hgtZ c g < 31 := by have := hgt_bd c g 31; unfold hgtZ; omega
  generalize hgtZ c g = h9 at *
  have Hc := Lib.hid hc; clear hc
  have Hg := Lib.hid hg; clear hg hg0
  have Hps := Lib.hid hps; clear hps
  have hr0 := hr.alloc (.cells #[.int .i64 0, .int .i64 0, .slice none 0 0, .int .i64 0] 25)
  have Hs0 := Lib.hid (Str.new w 25 #[.int .i64 0, .int .i64 0, .slice none 0 0, .int .i64 0])
  have Hg0 := Lib.hid (World.grownBy_alloc w (.cells #[.int .i64 0, .int .i64 0, .slice none 0 0, .int .i64 0] 25) (some R))
  have hz0 : (w.alloc (.cells #[.int .i64 0, .int .i64 0, .slice none 0 0, .int .i64 0] 25)).heap.size = w.heap.size + 1 := by simp
  have Hr0 := Lib.hid hr0; clear hr hr0
  go_enter Try.func26, Try.ntmps26
  go_wp2_with fail
  generalize w.alloc (.cells #[.int .i64 0, .int .i64 0, .slice none 0 0, .int .i64 0] 25) = w0 at *
  refine (pick_any R 8 p _ (by omega) Hr0.out (by omega)).mono ?_
  rintro e w1 ⟨n1, rfl, hn0, hn1, hr1, hg1⟩
  have hs1 := hg1.size
  have Hr1 := Lib.hid hr1; clear hr1
  have Hs1 := Lib.hid (Hs0.out.kept hg1 (by simp; omega))
  have Hg1 := Lib.hid (grownBy_trans Hg0.out hg1); clear hg1
  go_wp2_with fail
  refine (pick_any R 3 (p + 1) _ (by omega) Hr1.out (by omega)).mono ?_
  rintro e w2 ⟨u, rfl, hu0, hu1, hr2, hg2⟩
  have hs2 := hg2.size
  have Hr2 := Lib.hid hr2; clear hr2
  have Hs2 := Lib.hid (Hs1.out.kept hg2 (by simp; omega))
  have Hg2 := Lib.hid (grownBy_trans Hg1.out hg2); clear hg2
  clear Hs0 Hs1 Hg0 Hg1 Hr0 Hr1
  by_cases hu : 0 < u
  case neg =>
    have hud : decide ((0 : Int) < u) = false := decide_eq_false hu
    clear hu hu0 hu1
    have hN0 : 0 ≤ n1 ∧ n1 ≤ 31 := by omega
    have Hz := Hs2; have Hrd := Hr2; have Hgr := Hg2
    generalize n1 = N at *
    go_wp2_with fail
    refine (pick_any R (c.length : Int) (p + 1 + 1) _ (by omega) Hrd.out (by omega)).mono ?_
    rintro e wA ⟨a, rfl, ha0, ha1, hrA, hgA⟩
    have hsA := hgA.size
    have Hz := Lib.hid (Hz.out.kept hgA (by simp; omega))
    have Hgr := Lib.hid (grownBy_trans Hgr.out hgA); clear hgA
    have Hrd := Lib.hid hrA; clear hrA
    have hgE := grownBy_trans Hgr.out (World.grownBy_alloc wA (.cells #[] 3) (some R))
    have hzE := Hz.out.alloc (.cells #[] 3)
    have hoE := own_empty 3 wA (Nat.le_refl _)
    have hszE : (wA.alloc (.cells #[] 3)).heap.size = wA.heap.size + 1 := by simp
    go_wp2_with fail
    refine (drawDigest R (p + 1 + 1 + 1) _ (by omega) (Hrd.out.alloc _)).mono ?_
    rintro e wB ⟨d, pB, rfl, hd0, hd1, hrB, hpB, hgB⟩
    have hsB := hgB.size
    have hoB := hoE.kept hgB (.inr fun e => by simp [Value.ownBlock] at e; omega)
    have hzB := hzE.kept hgB (by simp; omega)
    have hgrB := grownBy_trans hgE hgB
    clear hgE hzE hoE hgB
    have ht := Str.new wB 25 #[.int .i64 N, .int .i64 a, .slice (some ⟨wA.heap.size, 0, none⟩) 0 0, .int .i64 d]
    have hgC := grownBy_trans hgrB (World.grownBy_alloc wB (.cells #[.int .i64 N, .int .i64 a, .slice (some ⟨wA.heap.size, 0, none⟩) 0 0, .int .i64 d] 25) (some R))
    have hrC := hrB.alloc (.cells #[.int .i64 N, .int .i64 a, .slice (some ⟨wA.heap.size, 0, none⟩) 0 0, .int .i64 d] 25)
    have hzC := hzB.alloc (.cells #[.int .i64 N, .int .i64 a, .slice (some ⟨wA.heap.size, 0, none⟩) 0 0, .int .i64 d] 25)
    have hoC := hoB.alloc (.cells #[.int .i64 N, .int .i64 a, .slice (some ⟨wA.heap.size, 0, none⟩) 0 0, .int .i64 d] 25)
    have hszC : (wB.alloc (.cells #[.int .i64 N, .int .i64 a, .slice (some ⟨wA.heap.size, 0, none⟩) 0 0, .int .i64 d] 25)).heap.size = wB.heap.size + 1 := by simp
    have Ht := Lib.hid ht
    have Hgr := Lib.hid hgC
    have Hrd := Lib.hid hrC
    have Hz := Lib.hid hzC
    have Hop0 := Lib.hid (Own.mono hoC (show w.heap.size + 1 ≤ wA.heap.size by omega))
    clear ht hgC hrC hzC hoC hrB hzB hoB hgrB
    have hB6 : w.heap.size ≠ wB.heap.size := by omega
    by_cases hN : 0 < N
    · have hNd : decide ((0 : Int) < N) = true := decide_eq_true hN
      have hwN : IntKind.i64.wrap (N - 1) = N - 1 := IntWalk.i64_in _ (by omega)
      go_wp2_with fail
      generalize wB.alloc (.cells #[.int .i64 N, .int .i64 a, .slice (some ⟨wA.heap.size, 0, none⟩) 0 0, .int .i64 d] 25) = wC at *
      generalize wB.heap.size = Bv at *
      refine (HA.out (N - 1) wC (Hg.out _ Hgr.out)).mono ?_
      rintro e wD ⟨ua, rfl, hua, hbD⟩
      have hsD := hbD.size
      have hal := authZ_len g (N - 1)
      obtain ⟨pa, pc, rfl, _, _⟩ := hua.ints
      generalize authZ g (N - 1) = ps at *
      have Ht := Lib.hid (show Str wD Bv 25 _ from (hbD.block _ Ht.out.lt).trans Ht.out)
      have Hz := Lib.hid (show Str wD w.heap.size 25 _ from (hbD.block _ Hz.out.lt).trans Hz.out)
      have Hrd := Lib.hid (Hrd.out.kept (below_grown hbD) (fun q e => by cases e))
      have Hgr := Lib.hid (grown_row Hgr.out (below_grown hbD) (fun q e => by cases e)); clear hbD
      have hltC : Bv < wC.heap.size := by omega
      have hnb : (Value.slice pa ps.length pc).ownBlock ≠ some Bv := fun e => by have := (hua.lt _ e).1; omega
      have Hua := Lib.hid (hua.mono (show w.heap.size + 1 ≤ wC.heap.size by omega)); clear hua
      have o29 := Ht.out.cell 2 (v := .slice (some ⟨wA.heap.size, 0, none⟩) 0 0) rfl
      have f29 := Ht.out.frozen 2
      have hRB : R < Bv := by omega
      have Hrd := Lib.hid (Hrd.out.kept (grownBy_set wD Bv 2 (.slice pa ps.length pc)) (fun q e => by cases e; exact hRB))
      have Hgr := Lib.hid (grown_row Hgr.out (grownBy_set wD Bv 2 (.slice pa ps.length pc)) (fun q e => by cases e; omega))
      have Hop := Lib.hid (Hua.out.set_other hnb 2 (.slice pa ps.length pc))
      have ht' : Str (wD.setCell ⟨Bv, 2, none⟩ (.slice pa ps.length pc)) Bv 25 #[.int .i64 N, .int .i64 a, .slice pa ps.length pc, .int .i64 d] := by have := Ht.out.set 2 (.slice pa ps.length pc); simpa using this
      have Hz := Lib.hid (Hz.out.other hB6 2 (.slice pa ps.length pc))
      have hszD : (wD.setCell ⟨Bv, 2, none⟩ (.slice pa ps.length pc)).heap.size = wD.heap.size := by simp [World.setCell]
      have Ht := Lib.hid ht'; clear ht' Hua
      have Hnb := Lib.hid hnb; clear hnb
      have hpl : ps.length ≤ 300 := by omega
      go_wp2_with fail
      generalize wD.setCell ⟨Bv, 2, none⟩ (.slice pa ps.length pc) = wE at *
      refine (pick_any R 12 (pB) _ (by omega) Hrd.out (by omega)).mono ?_
      rintro e wS ⟨s, rfl, hs0, hs1, hrS, hgS⟩
      have hsS := hgS.size
      have Hrd := Lib.hid hrS; clear hrS
      have Ht := Lib.hid (Ht.out.kept hgS (by simp; omega))
      have Hz := Lib.hid (Hz.out.kept hgS (by simp; omega))
      have Hop := Lib.hid (Hop.out.kept hgS (.inr fun e => by have := (Hop.out.lt R e).1; omega))
      have Hgr := Lib.hid (grownBy_trans Hgr.out hgS); clear hgS hs0 hs1
      by_cases h0 : s = 0
      · subst h0
        go_wp2_with fail
        refine (drawMembers R (pB + 1) c.length _ (by omega) (by omega) Hrd.out (by omega)).mono ?_
        rintro e wX ⟨um, ms, pX, rfl, hum, hml, hrX, hpX, hgX⟩
        have hsX := hgX.size
        have Ht := Lib.hid (Ht.out.kept hgX (by simp; omega))
        have Hz := Lib.hid (Hz.out.kept hgX (by simp; omega))
        have Hgr := Lib.hid (grownBy_trans Hgr.out hgX); clear hgX
        obtain ⟨am, cm, rfl, _, _⟩ := hum.ints
        have Hum := Lib.hid hum; clear hum
        have hnbm : (Value.slice am ms.length cm).ownBlock ≠ some Bv := fun e => by have := (Hum.out.lt _ e).1; omega
        have hn6 : (Value.slice am ms.length cm).ownBlock ≠ some w.heap.size := fun e => by have := (Hum.out.lt _ e).1; omega
        have o29 := Ht.out.cell 2 (v := .slice pa ps.length pc) rfl
        have f29 := Ht.out.frozen 2
        have t0 : Str (wX.setCell ⟨Bv, 2, none⟩ (.slice am ms.length cm)) Bv 25 #[.int .i64 N, .int .i64 a, .slice am ms.length cm, .int .i64 d] := by have := Ht.out.set 2 (.slice am ms.length cm); simpa using this
        have t1 := Hz.out.other hB6 2 (.slice am ms.length cm)
        have m0 := Str.cell t0 0 (v := .int .i64 N) rfl
        have m1 := Str.cell t0 1 (v := .int .i64 a) rfl
        have m2 := Str.cell t0 2 (v := .slice am ms.length cm) rfl
        have m3 := Str.cell t0 3 (v := .int .i64 d) rfl
        have j0 := Str.cell t1 0 (v := (.int .i64 0)) rfl
        have j1 := Str.cell t1 1 (v := (.int .i64 0)) rfl
        have j2 := Str.cell t1 2 (v := (.slice none 0 0)) rfl
        have j3 := Str.cell t1 3 (v := (.int .i64 0)) rfl
        have g0 := Str.frozen t1 0
        have g1 := Str.frozen t1 1
        have g2 := Str.frozen t1 2
        have g3 := Str.frozen t1 3
        have u := (Str.set (Str.set (Str.set (Str.set t1 0 (.int .i64 N)) 1 (.int .i64 a)) 2 (.slice am ms.length cm)) 3 (.int .i64 d))
        have e0 := Str.cell u 0 (v := .int .i64 N) rfl
        have e1 := Str.cell u 1 (v := .int .i64 a) rfl
        have e2 := Str.cell u 2 (v := .slice am ms.length cm) rfl
        have e3 := Str.cell u 3 (v := .int .i64 d) rfl
        clear u t0 t1
        go_wp2
        refine bodyPost_ret (v := .agg #[.int .i64 N, .int .i64 a, .slice am ms.length cm, .int .i64 d]) (by simp [results, Try.f26, go_sem, e0, e1, e2, e3]) rfl ?_
        exact ⟨⟨N, a, ms, d⟩, _, rfl, (Own.set_other (Own.set_other (Own.set_other (Own.set_other ((Hum.out.mono (show w.heap.size ≤ wS.heap.size by omega)).set_other hnbm 2 (.slice am ms.length cm)) hn6 0 _) hn6 1 _) hn6 2 _) hn6 3 _), (by show ms.length ≤ 300; omega), (grown_row (grown_row (grown_row (grown_row (grown_row Hgr.out (grownBy_set wX Bv 2 (.slice am ms.length cm)) (fun q e => by cases e; omega)) (grownBy_set _ w.heap.size 0 (.int .i64 N)) (fun q e => by cases e; exact Nat.le_refl _)) (grownBy_set _ w.heap.size 1 (.int .i64 a)) (fun q e => by cases e; exact Nat.le_refl _)) (grownBy_set _ w.heap.size 2 (.slice am ms.length cm)) (fun q e => by cases e; exact Nat.le_refl _)) (grownBy_set _ w.heap.size 3 (.int .i64 d)) (fun q e => by cases e; exact Nat.le_refl _))⟩
      have e0' : (s == 0) = false := by rw [beq_eq_false_iff_ne]; exact h0
      clear h0
      by_cases h1 : s = 1
      · subst h1
        go_wp2_with fail
        refine (pick_any R 9 (pB + 1) _ (by omega) Hrd.out (by omega)).mono ?_
        rintro e wX ⟨z, rfl, hz0, hz1, hrX, hgX⟩
        have hsX := hgX.size
        have Ht := Lib.hid (Ht.out.kept hgX (by simp; omega))
        have Hz := Lib.hid (Hz.out.kept hgX (by simp; omega))
        have Hop := Lib.hid (Hop.out.kept hgX (.inr fun e => by have := (Hop.out.lt R e).1; omega))
        have Hgr := Lib.hid (grownBy_trans Hgr.out hgX); clear hgX
        have hwz : IntKind.i64.wrap (z - 1) = z - 1 := IntWalk.i64_in _ (by omega)
        have hnb : (Value.slice pa ps.length pc).ownBlock ≠ some Bv := Hnb.out
        have hn6 : (Value.slice pa ps.length pc).ownBlock ≠ some w.heap.size := fun e => by have := (Hop.out.lt _ e).1; omega
        have o19 := Ht.out.cell 1 (v := .int .i64 a) rfl
        have f19 := Ht.out.frozen 1
        have t0 : Str (wX.setCell ⟨Bv, 1, none⟩ (.int .i64 (z - 1))) Bv 25 #[.int .i64 N, .int .i64 (z - 1), .slice pa ps.length pc, .int .i64 d] := by have := Ht.out.set 1 (.int .i64 (z - 1)); simpa using this
        have t1 := Hz.out.other hB6 1 (.int .i64 (z - 1))
        have m0 := Str.cell t0 0 (v := .int .i64 N) rfl
        have m1 := Str.cell t0 1 (v := .int .i64 (z - 1)) rfl
        have m2 := Str.cell t0 2 (v := .slice pa ps.length pc) rfl
        have m3 := Str.cell t0 3 (v := .int .i64 d) rfl
        have j0 := Str.cell t1 0 (v := (.int .i64 0)) rfl
        have j1 := Str.cell t1 1 (v := (.int .i64 0)) rfl
        have j2 := Str.cell t1 2 (v := (.slice none 0 0)) rfl
        have j3 := Str.cell t1 3 (v := (.int .i64 0)) rfl
        have g0 := Str.frozen t1 0
        have g1 := Str.frozen t1 1
        have g2 := Str.frozen t1 2
        have g3 := Str.frozen t1 3
        have u := (Str.set (Str.set (Str.set (Str.set t1 0 (.int .i64 N)) 1 (.int .i64 (z - 1))) 2 (.slice pa ps.length pc)) 3 (.int .i64 d))
        have e0 := Str.cell u 0 (v := .int .i64 N) rfl
        have e1 := Str.cell u 1 (v := .int .i64 (z - 1)) rfl
        have e2 := Str.cell u 2 (v := .slice pa ps.length pc) rfl
        have e3 := Str.cell u 3 (v := .int .i64 d) rfl
        clear u t0 t1
        go_wp2
        refine bodyPost_ret (v := .agg #[.int .i64 N, .int .i64 (z - 1), .slice pa ps.length pc, .int .i64 d]) (by simp [results, Try.f26, go_sem, e0, e1, e2, e3]) rfl ?_
        exact ⟨⟨N, (z - 1), ps, d⟩, _, rfl, (Own.set_other (Own.set_other (Own.set_other (Own.set_other ((Hop.out.mono (Nat.le_succ _)).set_other hnb 1 (.int .i64 (z - 1))) hn6 0 _) hn6 1 _) hn6 2 _) hn6 3 _), hpl, (grown_row (grown_row (grown_row (grown_row (grown_row Hgr.out (grownBy_set wX Bv 1 (.int .i64 (z - 1))) (fun q e => by cases e; omega)) (grownBy_set _ w.heap.size 0 (.int .i64 N)) (fun q e => by cases e; exact Nat.le_refl _)) (grownBy_set _ w.heap.size 1 (.int .i64 (z - 1))) (fun q e => by cases e; exact Nat.le_refl _)) (grownBy_set _ w.heap.size 2 (.slice pa ps.length pc)) (fun q e => by cases e; exact Nat.le_refl _)) (grownBy_set _ w.heap.size 3 (.int .i64 d)) (fun q e => by cases e; exact Nat.le_refl _))⟩
      have e1' : (s == 1) = false := by rw [beq_eq_false_iff_ne]; exact h1
      clear h1
      by_cases h2 : s = 2
      · subst h2
        go_wp2_with fail
        refine (pick_any R 33 (pB + 1) _ (by omega) Hrd.out (by omega)).mono ?_
        rintro e wX ⟨z, rfl, hz0, hz1, hrX, hgX⟩
        have hsX := hgX.size
        have Ht := Lib.hid (Ht.out.kept hgX (by simp; omega))
        have Hz := Lib.hid (Hz.out.kept hgX (by simp; omega))
        have Hop := Lib.hid (Hop.out.kept hgX (.inr fun e => by have := (Hop.out.lt R e).1; omega))
        have Hgr := Lib.hid (grownBy_trans Hgr.out hgX); clear hgX
        have hwz : IntKind.i64.wrap (z - 1) = z - 1 := IntWalk.i64_in _ (by omega)
        have hnb : (Value.slice pa ps.length pc).ownBlock ≠ some Bv := Hnb.out
        have hn6 : (Value.slice pa ps.length pc).ownBlock ≠ some w.heap.size := fun e => by have := (Hop.out.lt _ e).1; omega
        have o09 := Ht.out.cell 0 (v := .int .i64 N) rfl
        have f09 := Ht.out.frozen 0
        have t0 : Str (wX.setCell ⟨Bv, 0, none⟩ (.int .i64 (z - 1))) Bv 25 #[.int .i64 (z - 1), .int .i64 a, .slice pa ps.length pc, .int .i64 d] := by have := Ht.out.set 0 (.int .i64 (z - 1)); simpa using this
        have t1 := Hz.out.other hB6 0 (.int .i64 (z - 1))
        have m0 := Str.cell t0 0 (v := .int .i64 (z - 1)) rfl
        have m1 := Str.cell t0 1 (v := .int .i64 a) rfl
        have m2 := Str.cell t0 2 (v := .slice pa ps.length pc) rfl
        have m3 := Str.cell t0 3 (v := .int .i64 d) rfl
        have j0 := Str.cell t1 0 (v := (.int .i64 0)) rfl
        have j1 := Str.cell t1 1 (v := (.int .i64 0)) rfl
        have j2 := Str.cell t1 2 (v := (.slice none 0 0)) rfl
        have j3 := Str.cell t1 3 (v := (.int .i64 0)) rfl
        have g0 := Str.frozen t1 0
        have g1 := Str.frozen t1 1
        have g2 := Str.frozen t1 2
        have g3 := Str.frozen t1 3
        have u := (Str.set (Str.set (Str.set (Str.set t1 0 (.int .i64 (z - 1))) 1 (.int .i64 a)) 2 (.slice pa ps.length pc)) 3 (.int .i64 d))
        have e0 := Str.cell u 0 (v := .int .i64 (z - 1)) rfl
        have e1 := Str.cell u 1 (v := .int .i64 a) rfl
        have e2 := Str.cell u 2 (v := .slice pa ps.length pc) rfl
        have e3 := Str.cell u 3 (v := .int .i64 d) rfl
        clear u t0 t1
        go_wp2
        refine bodyPost_ret (v := .agg #[.int .i64 (z - 1), .int .i64 a, .slice pa ps.length pc, .int .i64 d]) (by simp [results, Try.f26, go_sem, e0, e1, e2, e3]) rfl ?_
        exact ⟨⟨(z - 1), a, ps, d⟩, _, rfl, (Own.set_other (Own.set_other (Own.set_other (Own.set_other ((Hop.out.mono (Nat.le_succ _)).set_other hnb 0 (.int .i64 (z - 1))) hn6 0 _) hn6 1 _) hn6 2 _) hn6 3 _), hpl, (grown_row (grown_row (grown_row (grown_row (grown_row Hgr.out (grownBy_set wX Bv 0 (.int .i64 (z - 1))) (fun q e => by cases e; omega)) (grownBy_set _ w.heap.size 0 (.int .i64 (z - 1))) (fun q e => by cases e; exact Nat.le_refl _)) (grownBy_set _ w.heap.size 1 (.int .i64 a)) (fun q e => by cases e; exact Nat.le_refl _)) (grownBy_set _ w.heap.size 2 (.slice pa ps.length pc)) (fun q e => by cases e; exact Nat.le_refl _)) (grownBy_set _ w.heap.size 3 (.int .i64 d)) (fun q e => by cases e; exact Nat.le_refl _))⟩
      have e2' : (s == 2) = false := by rw [beq_eq_false_iff_ne]; exact h2
      clear h2
      by_cases h3 : s = 3
      · subst h3
        by_cases hgz : g.length = 0
        · have hd0 : decide ((0 : Int) < (g.length : Int)) = false := decide_eq_false (by omega)
          have hd0' : ¬ (0 : Int) < (g.length : Int) := by omega
          have hnb : (Value.slice pa ps.length pc).ownBlock ≠ some Bv := Hnb.out
          have hn6 : (Value.slice pa ps.length pc).ownBlock ≠ some w.heap.size := fun e => by have := (Hop.out.lt _ e).1; omega
          have t0 := Ht.out
          have t1 := Hz.out
          clear hnb
          have m0 := Str.cell t0 0 (v := .int .i64 N) rfl
          have m1 := Str.cell t0 1 (v := .int .i64 a) rfl
          have m2 := Str.cell t0 2 (v := .slice pa ps.length pc) rfl
          have m3 := Str.cell t0 3 (v := .int .i64 d) rfl
          have j0 := Str.cell t1 0 (v := (.int .i64 0)) rfl
          have j1 := Str.cell t1 1 (v := (.int .i64 0)) rfl
          have j2 := Str.cell t1 2 (v := (.slice none 0 0)) rfl
          have j3 := Str.cell t1 3 (v := (.int .i64 0)) rfl
          have g0 := Str.frozen t1 0
          have g1 := Str.frozen t1 1
          have g2 := Str.frozen t1 2
          have g3 := Str.frozen t1 3
          have u := (Str.set (Str.set (Str.set (Str.set t1 0 (.int .i64 N)) 1 (.int .i64 a)) 2 (.slice pa ps.length pc)) 3 (.int .i64 d))
          have e0 := Str.cell u 0 (v := .int .i64 N) rfl
          have e1 := Str.cell u 1 (v := .int .i64 a) rfl
          have e2 := Str.cell u 2 (v := .slice pa ps.length pc) rfl
          have e3 := Str.cell u 3 (v := .int .i64 d) rfl
          clear u t1
          go_wp2
          refine bodyPost_ret (v := .agg #[.int .i64 N, .int .i64 a, .slice pa ps.length pc, .int .i64 d]) (by simp [results, Try.f26, go_sem, e0, e1, e2, e3]) rfl ?_
          exact ⟨⟨N, a, ps, d⟩, _, rfl, (Own.set_other (Own.set_other (Own.set_other (Own.set_other (Hop.out.mono (Nat.le_succ _)) hn6 0 _) hn6 1 _) hn6 2 _) hn6 3 _), hpl, (grown_row (grown_row (grown_row (grown_row Hgr.out (grownBy_set _ w.heap.size 0 (.int .i64 N)) (fun q e => by cases e; exact Nat.le_refl _)) (grownBy_set _ w.heap.size 1 (.int .i64 a)) (fun q e => by cases e; exact Nat.le_refl _)) (grownBy_set _ w.heap.size 2 (.slice pa ps.length pc)) (fun q e => by cases e; exact Nat.le_refl _)) (grownBy_set _ w.heap.size 3 (.int .i64 d)) (fun q e => by cases e; exact Nat.le_refl _))⟩
        have hd0 : decide ((0 : Int) < (g.length : Int)) = true := decide_eq_true (by omega)
        have hd0' : (0 : Int) < (g.length : Int) := by omega
        go_wp2_with fail
        refine (pick_any R (g.length : Int) (pB + 1) _ (by omega) Hrd.out (by omega)).mono ?_
        rintro e wX ⟨k, rfl, hk0, hk1, hrX, hgX⟩
        obtain ⟨k, rfl⟩ := Int.eq_ofNat_of_zero_le hk0
        have hk : k < g.length := by omega
        have hsX := hgX.size
        have Hz := Lib.hid (Hz.out.kept hgX (by simp; omega))
        have Hgr := Lib.hid (grownBy_trans Hgr.out hgX); clear hgX
        obtain ⟨gb, off, rfl, _, hat⟩ := (Hg.out _ Hgr.out).at (by omega)
        obtain ⟨c0, c1, ⟨pk, ck, c2, i2, s2⟩, c3⟩ := hat k hk
        have hpk := Hps.out _ (List.getElem_mem hk)
        have Hone := Lib.hid (spec_l11One g[k].r g[k].a g[k].d pk ck g[k].ps wX (by omega) s2 i2)
        clear hat i2 s2
        generalize g[k] = x at *
        go_wp2_with fail
        refine Hone.out.mono ?_
        rintro e wY ⟨uy, rfl, huy, hbY⟩
        have hsY := hbY.size
        have t1 : Str wY w.heap.size 25 #[.int .i64 0, .int .i64 0, .slice none 0 0, .int .i64 0] := (hbY.block _ Hz.out.lt).trans Hz.out
        have Hgr := Lib.hid (grown_row Hgr.out (below_grown hbY) (fun q e => by cases e)); clear hbY
        obtain ⟨ay, cy, rfl, _, _⟩ := huy.ints
        have Huy := Lib.hid huy; clear huy
        have hn6 : (Value.slice ay x.ps.length cy).ownBlock ≠ some w.heap.size := fun e => by have := (Huy.out.lt _ e).1; omega
        have j0 := Str.cell t1 0 (v := (.int .i64 0)) rfl
        have j1 := Str.cell t1 1 (v := (.int .i64 0)) rfl
        have j2 := Str.cell t1 2 (v := (.slice none 0 0)) rfl
        have j3 := Str.cell t1 3 (v := (.int .i64 0)) rfl
        have g0 := Str.frozen t1 0
        have g1 := Str.frozen t1 1
        have g2 := Str.frozen t1 2
        have g3 := Str.frozen t1 3
        have u := (Str.set (Str.set (Str.set (Str.set t1 0 (.int .i64 x.r)) 1 (.int .i64 x.a)) 2 (.slice ay x.ps.length cy)) 3 (.int .i64 x.d))
        have e0 := Str.cell u 0 (v := .int .i64 x.r) rfl
        have e1 := Str.cell u 1 (v := .int .i64 x.a) rfl
        have e2 := Str.cell u 2 (v := .slice ay x.ps.length cy) rfl
        have e3 := Str.cell u 3 (v := .int .i64 x.d) rfl
        clear u t1
        go_wp2
        refine bodyPost_ret (v := .agg #[.int .i64 x.r, .int .i64 x.a, .slice ay x.ps.length cy, .int .i64 x.d]) (by simp [results, Try.f26, go_sem, e0, e1, e2, e3]) rfl ?_
        exact ⟨⟨x.r, x.a, x.ps, x.d⟩, _, rfl, (Own.set_other (Own.set_other (Own.set_other (Own.set_other (Huy.out.mono (show w.heap.size ≤ wX.heap.size by omega)) hn6 0 _) hn6 1 _) hn6 2 _) hn6 3 _), (by show x.ps.length ≤ 300; omega), (grown_row (grown_row (grown_row (grown_row Hgr.out (grownBy_set _ w.heap.size 0 (.int .i64 x.r)) (fun q e => by cases e; exact Nat.le_refl _)) (grownBy_set _ w.heap.size 1 (.int .i64 x.a)) (fun q e => by cases e; exact Nat.le_refl _)) (grownBy_set _ w.heap.size 2 (.slice ay x.ps.length cy)) (fun q e => by cases e; exact Nat.le_refl _)) (grownBy_set _ w.heap.size 3 (.int .i64 x.d)) (fun q e => by cases e; exact Nat.le_refl _))⟩
      have e3' : (s == 3) = false := by rw [beq_eq_false_iff_ne]; exact h3
      clear h3
      by_cases h4 : s = 4
      · subst h4
        by_cases hgz : g.length = 0
        · have hd0 : decide ((0 : Int) < (g.length : Int)) = false := decide_eq_false (by omega)
          have hd0' : ¬ (0 : Int) < (g.length : Int) := by omega
          have hnb : (Value.slice pa ps.length pc).ownBlock ≠ some Bv := Hnb.out
          have hn6 : (Value.slice pa ps.length pc).ownBlock ≠ some w.heap.size := fun e => by have := (Hop.out.lt _ e).1; omega
          have t0 := Ht.out
          have t1 := Hz.out
          clear hnb
          have m0 := Str.cell t0 0 (v := .int .i64 N) rfl
          have m1 := Str.cell t0 1 (v := .int .i64 a) rfl
          have m2 := Str.cell t0 2 (v := .slice pa ps.length pc) rfl
          have m3 := Str.cell t0 3 (v := .int .i64 d) rfl
          have j0 := Str.cell t1 0 (v := (.int .i64 0)) rfl
          have j1 := Str.cell t1 1 (v := (.int .i64 0)) rfl
          have j2 := Str.cell t1 2 (v := (.slice none 0 0)) rfl
          have j3 := Str.cell t1 3 (v := (.int .i64 0)) rfl
          have g0 := Str.frozen t1 0
          have g1 := Str.frozen t1 1
          have g2 := Str.frozen t1 2
          have g3 := Str.frozen t1 3
          have u := (Str.set (Str.set (Str.set (Str.set t1 0 (.int .i64 N)) 1 (.int .i64 a)) 2 (.slice pa ps.length pc)) 3 (.int .i64 d))
          have e0 := Str.cell u 0 (v := .int .i64 N) rfl
          have e1 := Str.cell u 1 (v := .int .i64 a) rfl
          have e2 := Str.cell u 2 (v := .slice pa ps.length pc) rfl
          have e3 := Str.cell u 3 (v := .int .i64 d) rfl
          clear u t1
          go_wp2
          refine bodyPost_ret (v := .agg #[.int .i64 N, .int .i64 a, .slice pa ps.length pc, .int .i64 d]) (by simp [results, Try.f26, go_sem, e0, e1, e2, e3]) rfl ?_
          exact ⟨⟨N, a, ps, d⟩, _, rfl, (Own.set_other (Own.set_other (Own.set_other (Own.set_other (Hop.out.mono (Nat.le_succ _)) hn6 0 _) hn6 1 _) hn6 2 _) hn6 3 _), hpl, (grown_row (grown_row (grown_row (grown_row Hgr.out (grownBy_set _ w.heap.size 0 (.int .i64 N)) (fun q e => by cases e; exact Nat.le_refl _)) (grownBy_set _ w.heap.size 1 (.int .i64 a)) (fun q e => by cases e; exact Nat.le_refl _)) (grownBy_set _ w.heap.size 2 (.slice pa ps.length pc)) (fun q e => by cases e; exact Nat.le_refl _)) (grownBy_set _ w.heap.size 3 (.int .i64 d)) (fun q e => by cases e; exact Nat.le_refl _))⟩
        have hd0 : decide ((0 : Int) < (g.length : Int)) = true := decide_eq_true (by omega)
        have hd0' : (0 : Int) < (g.length : Int) := by omega
        go_wp2_with fail
        refine (pick_any R (g.length : Int) (pB + 1) _ (by omega) Hrd.out (by omega)).mono ?_
        rintro e wX ⟨k, rfl, hk0, hk1, hrX, hgX⟩
        obtain ⟨k, rfl⟩ := Int.eq_ofNat_of_zero_le hk0
        have hk : k < g.length := by omega
        have hsX := hgX.size
        have Hz := Lib.hid (Hz.out.kept hgX (by simp; omega))
        have Hgr := Lib.hid (grownBy_trans Hgr.out hgX); clear hgX
        obtain ⟨gb, off, rfl, _, hat⟩ := (Hg.out _ Hgr.out).at (by omega)
        obtain ⟨c0, c1, ⟨pk, ck, c2, i2, s2⟩, c3⟩ := hat k hk
        have hpk := Hps.out _ (List.getElem_mem hk)
        have Hone := Lib.hid (spec_l11One g[k].r g[k].a g[k].d pk ck g[k].ps wX (by omega) s2 i2)
        clear hat i2 s2
        generalize g[k] = x at *
        go_wp2_with fail
        refine Hone.out.mono ?_
        rintro e wY ⟨uy, rfl, huy, hbY⟩
        have hsY := hbY.size
        have t1 : Str wY w.heap.size 25 #[.int .i64 0, .int .i64 0, .slice none 0 0, .int .i64 0] := (hbY.block _ Hz.out.lt).trans Hz.out
        have Hgr := Lib.hid (grown_row Hgr.out (below_grown hbY) (fun q e => by cases e)); clear hbY
        obtain ⟨ay, cy, rfl, _, _⟩ := huy.ints
        have Huy := Lib.hid huy; clear huy
        have hn6 : (Value.slice ay x.ps.length cy).ownBlock ≠ some w.heap.size := fun e => by have := (Huy.out.lt _ e).1; omega
        have j0 := Str.cell t1 0 (v := (.int .i64 0)) rfl
        have j1 := Str.cell t1 1 (v := (.int .i64 0)) rfl
        have j2 := Str.cell t1 2 (v := (.slice none 0 0)) rfl
        have j3 := Str.cell t1 3 (v := (.int .i64 0)) rfl
        have g0 := Str.frozen t1 0
        have g1 := Str.frozen t1 1
        have g2 := Str.frozen t1 2
        have g3 := Str.frozen t1 3
        have u := (Str.set (Str.set (Str.set (Str.set t1 0 (.int .i64 x.r)) 1 (.int .i64 x.a)) 2 (.slice ay x.ps.length cy)) 3 (.int .i64 x.d))
        have e0 := Str.cell u 0 (v := .int .i64 x.r) rfl
        have e1 := Str.cell u 1 (v := .int .i64 x.a) rfl
        have e2 := Str.cell u 2 (v := .slice ay x.ps.length cy) rfl
        have e3 := Str.cell u 3 (v := .int .i64 x.d) rfl
        clear u t1
        go_wp2
        refine bodyPost_ret (v := .agg #[.int .i64 x.r, .int .i64 x.a, .slice ay x.ps.length cy, .int .i64 x.d]) (by simp [results, Try.f26, go_sem, e0, e1, e2, e3]) rfl ?_
        exact ⟨⟨x.r, x.a, x.ps, x.d⟩, _, rfl, (Own.set_other (Own.set_other (Own.set_other (Own.set_other (Huy.out.mono (show w.heap.size ≤ wX.heap.size by omega)) hn6 0 _) hn6 1 _) hn6 2 _) hn6 3 _), (by show x.ps.length ≤ 300; omega), (grown_row (grown_row (grown_row (grown_row Hgr.out (grownBy_set _ w.heap.size 0 (.int .i64 x.r)) (fun q e => by cases e; exact Nat.le_refl _)) (grownBy_set _ w.heap.size 1 (.int .i64 x.a)) (fun q e => by cases e; exact Nat.le_refl _)) (grownBy_set _ w.heap.size 2 (.slice ay x.ps.length cy)) (fun q e => by cases e; exact Nat.le_refl _)) (grownBy_set _ w.heap.size 3 (.int .i64 x.d)) (fun q e => by cases e; exact Nat.le_refl _))⟩
      have e4' : (s == 4) = false := by rw [beq_eq_false_iff_ne]; exact h4
      clear h4
      by_cases h5 : s = 5
      · subst h5
        by_cases hgz : g.length = 0
        · have hd0 : decide ((0 : Int) < (g.length : Int)) = false := decide_eq_false (by omega)
          have hd0' : ¬ (0 : Int) < (g.length : Int) := by omega
          have hnb : (Value.slice pa ps.length pc).ownBlock ≠ some Bv := Hnb.out
          have hn6 : (Value.slice pa ps.length pc).ownBlock ≠ some w.heap.size := fun e => by have := (Hop.out.lt _ e).1; omega
          have t0 := Ht.out
          have t1 := Hz.out
          clear hnb
          have m0 := Str.cell t0 0 (v := .int .i64 N) rfl
          have m1 := Str.cell t0 1 (v := .int .i64 a) rfl
          have m2 := Str.cell t0 2 (v := .slice pa ps.length pc) rfl
          have m3 := Str.cell t0 3 (v := .int .i64 d) rfl
          have j0 := Str.cell t1 0 (v := (.int .i64 0)) rfl
          have j1 := Str.cell t1 1 (v := (.int .i64 0)) rfl
          have j2 := Str.cell t1 2 (v := (.slice none 0 0)) rfl
          have j3 := Str.cell t1 3 (v := (.int .i64 0)) rfl
          have g0 := Str.frozen t1 0
          have g1 := Str.frozen t1 1
          have g2 := Str.frozen t1 2
          have g3 := Str.frozen t1 3
          have u := (Str.set (Str.set (Str.set (Str.set t1 0 (.int .i64 N)) 1 (.int .i64 a)) 2 (.slice pa ps.length pc)) 3 (.int .i64 d))
          have e0 := Str.cell u 0 (v := .int .i64 N) rfl
          have e1 := Str.cell u 1 (v := .int .i64 a) rfl
          have e2 := Str.cell u 2 (v := .slice pa ps.length pc) rfl
          have e3 := Str.cell u 3 (v := .int .i64 d) rfl
          clear u t1
          go_wp2
          refine bodyPost_ret (v := .agg #[.int .i64 N, .int .i64 a, .slice pa ps.length pc, .int .i64 d]) (by simp [results, Try.f26, go_sem, e0, e1, e2, e3]) rfl ?_
          exact ⟨⟨N, a, ps, d⟩, _, rfl, (Own.set_other (Own.set_other (Own.set_other (Own.set_other (Hop.out.mono (Nat.le_succ _)) hn6 0 _) hn6 1 _) hn6 2 _) hn6 3 _), hpl, (grown_row (grown_row (grown_row (grown_row Hgr.out (grownBy_set _ w.heap.size 0 (.int .i64 N)) (fun q e => by cases e; exact Nat.le_refl _)) (grownBy_set _ w.heap.size 1 (.int .i64 a)) (fun q e => by cases e; exact Nat.le_refl _)) (grownBy_set _ w.heap.size 2 (.slice pa ps.length pc)) (fun q e => by cases e; exact Nat.le_refl _)) (grownBy_set _ w.heap.size 3 (.int .i64 d)) (fun q e => by cases e; exact Nat.le_refl _))⟩
        have hd0 : decide ((0 : Int) < (g.length : Int)) = true := decide_eq_true (by omega)
        have hd0' : (0 : Int) < (g.length : Int) := by omega
        go_wp2_with fail
        refine (pick_any R (g.length : Int) (pB + 1) _ (by omega) Hrd.out (by omega)).mono ?_
        rintro e wX ⟨k, rfl, hk0, hk1, hrX, hgX⟩
        obtain ⟨k, rfl⟩ := Int.eq_ofNat_of_zero_le hk0
        have hk : k < g.length := by omega
        have hsX := hgX.size
        have Hz := Lib.hid (Hz.out.kept hgX (by simp; omega))
        have Hgr := Lib.hid (grownBy_trans Hgr.out hgX); clear hgX
        obtain ⟨gb, off, rfl, _, hat⟩ := (Hg.out _ Hgr.out).at (by omega)
        obtain ⟨c0, c1, ⟨pk, ck, c2, i2, s2⟩, c3⟩ := hat k hk
        have hpk := Hps.out _ (List.getElem_mem hk)
        have Hone := Lib.hid (spec_l11One g[k].r g[k].a g[k].d pk ck g[k].ps wX (by omega) s2 i2)
        clear hat i2 s2
        generalize g[k] = x at *
        go_wp2_with fail
        refine Hone.out.mono ?_
        rintro e wY ⟨uy, rfl, huy, hbY⟩
        have hsY := hbY.size
        have t1 : Str wY w.heap.size 25 #[.int .i64 0, .int .i64 0, .slice none 0 0, .int .i64 0] := (hbY.block _ Hz.out.lt).trans Hz.out
        have Hgr := Lib.hid (grown_row Hgr.out (below_grown hbY) (fun q e => by cases e)); clear hbY
        obtain ⟨ay, cy, rfl, _, _⟩ := huy.ints
        have Huy := Lib.hid huy; clear huy
        have hn6 : (Value.slice ay x.ps.length cy).ownBlock ≠ some w.heap.size := fun e => by have := (Huy.out.lt _ e).1; omega
        have j0 := Str.cell t1 0 (v := (.int .i64 0)) rfl
        have j1 := Str.cell t1 1 (v := (.int .i64 0)) rfl
        have j2 := Str.cell t1 2 (v := (.slice none 0 0)) rfl
        have j3 := Str.cell t1 3 (v := (.int .i64 0)) rfl
        have g0 := Str.frozen t1 0
        have g1 := Str.frozen t1 1
        have g2 := Str.frozen t1 2
        have g3 := Str.frozen t1 3
        have u := (Str.set (Str.set (Str.set (Str.set t1 0 (.int .i64 x.r)) 1 (.int .i64 x.a)) 2 (.slice ay x.ps.length cy)) 3 (.int .i64 x.d))
        have e0 := Str.cell u 0 (v := .int .i64 x.r) rfl
        have e1 := Str.cell u 1 (v := .int .i64 x.a) rfl
        have e2 := Str.cell u 2 (v := .slice ay x.ps.length cy) rfl
        have e3 := Str.cell u 3 (v := .int .i64 x.d) rfl
        clear u t1
        go_wp2
        refine bodyPost_ret (v := .agg #[.int .i64 x.r, .int .i64 x.a, .slice ay x.ps.length cy, .int .i64 x.d]) (by simp [results, Try.f26, go_sem, e0, e1, e2, e3]) rfl ?_
        exact ⟨⟨x.r, x.a, x.ps, x.d⟩, _, rfl, (Own.set_other (Own.set_other (Own.set_other (Own.set_other (Huy.out.mono (show w.heap.size ≤ wX.heap.size by omega)) hn6 0 _) hn6 1 _) hn6 2 _) hn6 3 _), (by show x.ps.length ≤ 300; omega), (grown_row (grown_row (grown_row (grown_row Hgr.out (grownBy_set _ w.heap.size 0 (.int .i64 x.r)) (fun q e => by cases e; exact Nat.le_refl _)) (grownBy_set _ w.heap.size 1 (.int .i64 x.a)) (fun q e => by cases e; exact Nat.le_refl _)) (grownBy_set _ w.heap.size 2 (.slice ay x.ps.length cy)) (fun q e => by cases e; exact Nat.le_refl _)) (grownBy_set _ w.heap.size 3 (.int .i64 x.d)) (fun q e => by cases e; exact Nat.le_refl _))⟩
      have e5' : (s == 5) = false := by rw [beq_eq_false_iff_ne]; exact h5
      clear h5
      have hnb : (Value.slice pa ps.length pc).ownBlock ≠ some Bv := Hnb.out
      have hn6 : (Value.slice pa ps.length pc).ownBlock ≠ some w.heap.size := fun e => by have := (Hop.out.lt _ e).1; omega
      have t0 := Ht.out
      have t1 := Hz.out
      clear hnb
      have m0 := Str.cell t0 0 (v := .int .i64 N) rfl
      have m1 := Str.cell t0 1 (v := .int .i64 a) rfl
      have m2 := Str.cell t0 2 (v := .slice pa ps.length pc) rfl
      have m3 := Str.cell t0 3 (v := .int .i64 d) rfl
      have j0 := Str.cell t1 0 (v := (.int .i64 0)) rfl
      have j1 := Str.cell t1 1 (v := (.int .i64 0)) rfl
      have j2 := Str.cell t1 2 (v := (.slice none 0 0)) rfl
      have j3 := Str.cell t1 3 (v := (.int .i64 0)) rfl
      have g0 := Str.frozen t1 0
      have g1 := Str.frozen t1 1
      have g2 := Str.frozen t1 2
      have g3 := Str.frozen t1 3
      have u := (Str.set (Str.set (Str.set (Str.set t1 0 (.int .i64 N)) 1 (.int .i64 a)) 2 (.slice pa ps.length pc)) 3 (.int .i64 d))
      have e0 := Str.cell u 0 (v := .int .i64 N) rfl
      have e1 := Str.cell u 1 (v := .int .i64 a) rfl
      have e2 := Str.cell u 2 (v := .slice pa ps.length pc) rfl
      have e3 := Str.cell u 3 (v := .int .i64 d) rfl
      clear u t0 t1
      go_wp2
      refine bodyPost_ret (v := .agg #[.int .i64 N, .int .i64 a, .slice pa ps.length pc, .int .i64 d]) (by simp [results, Try.f26, go_sem, e0, e1, e2, e3]) rfl ?_
      exact ⟨⟨N, a, ps, d⟩, _, rfl, (Own.set_other (Own.set_other (Own.set_other (Own.set_other (Hop.out.mono (Nat.le_succ _)) hn6 0 _) hn6 1 _) hn6 2 _) hn6 3 _), hpl, (grown_row (grown_row (grown_row (grown_row Hgr.out (grownBy_set _ w.heap.size 0 (.int .i64 N)) (fun q e => by cases e; exact Nat.le_refl _)) (grownBy_set _ w.heap.size 1 (.int .i64 a)) (fun q e => by cases e; exact Nat.le_refl _)) (grownBy_set _ w.heap.size 2 (.slice pa ps.length pc)) (fun q e => by cases e; exact Nat.le_refl _)) (grownBy_set _ w.heap.size 3 (.int .i64 d)) (fun q e => by cases e; exact Nat.le_refl _))⟩
    have hNd : decide ((0 : Int) < N) = false := decide_eq_false hN
    go_wp2_with fail
    generalize wB.alloc (.cells #[.int .i64 N, .int .i64 a, .slice (some ⟨wA.heap.size, 0, none⟩) 0 0, .int .i64 d] 25) = wC at *
    generalize wB.heap.size = Bv at *
    obtain ⟨pa, pc, ps, e1, e2, e3⟩ : ∃ (pa : Option Addr) (pc : Nat) (ps : List Int), pa = some ⟨wA.heap.size, 0, none⟩ ∧ pc = 0 ∧ ps = [] := ⟨_, _, _, rfl, rfl, rfl⟩
    have hpl : ps.length ≤ 300 := by subst e3; simp
    have Hop : Hid (Own 3 wC (w.heap.size + 1) (.slice pa ps.length pc) ps) := by subst e1 e2 e3; exact Hop0
    have Ht : Hid (Str wC Bv 25 #[.int .i64 N, .int .i64 a, .slice pa ps.length pc, .int .i64 d]) := by subst e1 e2 e3; exact Ht
    have Hnb : Hid ((Value.slice pa ps.length pc).ownBlock ≠ some Bv) := by subst e1 e2 e3; exact Lib.hid (by simp [Value.ownBlock]; omega)
    clear e1 e2 e3 Hop0
    refine (pick_any R 12 (pB) _ (by omega) Hrd.out (by omega)).mono ?_
    rintro e wS ⟨s, rfl, hs0, hs1, hrS, hgS⟩
    have hsS := hgS.size
    have Hrd := Lib.hid hrS; clear hrS
    have Ht := Lib.hid (Ht.out.kept hgS (by simp; omega))
    have Hz := Lib.hid (Hz.out.kept hgS (by simp; omega))
    have Hop := Lib.hid (Hop.out.kept hgS (.inr fun e => by have := (Hop.out.lt R e).1; omega))
    have Hgr := Lib.hid (grownBy_trans Hgr.out hgS); clear hgS hs0 hs1
    by_cases h0 : s = 0
    · subst h0
      go_wp2_with fail
      refine (drawMembers R (pB + 1) c.length _ (by omega) (by omega) Hrd.out (by omega)).mono ?_
      rintro e wX ⟨um, ms, pX, rfl, hum, hml, hrX, hpX, hgX⟩
      have hsX := hgX.size
      have Ht := Lib.hid (Ht.out.kept hgX (by simp; omega))
      have Hz := Lib.hid (Hz.out.kept hgX (by simp; omega))
      have Hgr := Lib.hid (grownBy_trans Hgr.out hgX); clear hgX
      obtain ⟨am, cm, rfl, _, _⟩ := hum.ints
      have Hum := Lib.hid hum; clear hum
      have hnbm : (Value.slice am ms.length cm).ownBlock ≠ some Bv := fun e => by have := (Hum.out.lt _ e).1; omega
      have hn6 : (Value.slice am ms.length cm).ownBlock ≠ some w.heap.size := fun e => by have := (Hum.out.lt _ e).1; omega
      have o29 := Ht.out.cell 2 (v := .slice pa ps.length pc) rfl
      have f29 := Ht.out.frozen 2
      have t0 : Str (wX.setCell ⟨Bv, 2, none⟩ (.slice am ms.length cm)) Bv 25 #[.int .i64 N, .int .i64 a, .slice am ms.length cm, .int .i64 d] := by have := Ht.out.set 2 (.slice am ms.length cm); simpa using this
      have t1 := Hz.out.other hB6 2 (.slice am ms.length cm)
      have m0 := Str.cell t0 0 (v := .int .i64 N) rfl
      have m1 := Str.cell t0 1 (v := .int .i64 a) rfl
      have m2 := Str.cell t0 2 (v := .slice am ms.length cm) rfl
      have m3 := Str.cell t0 3 (v := .int .i64 d) rfl
      have j0 := Str.cell t1 0 (v := (.int .i64 0)) rfl
      have j1 := Str.cell t1 1 (v := (.int .i64 0)) rfl
      have j2 := Str.cell t1 2 (v := (.slice none 0 0)) rfl
      have j3 := Str.cell t1 3 (v := (.int .i64 0)) rfl
      have g0 := Str.frozen t1 0
      have g1 := Str.frozen t1 1
      have g2 := Str.frozen t1 2
      have g3 := Str.frozen t1 3
      have u := (Str.set (Str.set (Str.set (Str.set t1 0 (.int .i64 N)) 1 (.int .i64 a)) 2 (.slice am ms.length cm)) 3 (.int .i64 d))
      have e0 := Str.cell u 0 (v := .int .i64 N) rfl
      have e1 := Str.cell u 1 (v := .int .i64 a) rfl
      have e2 := Str.cell u 2 (v := .slice am ms.length cm) rfl
      have e3 := Str.cell u 3 (v := .int .i64 d) rfl
      clear u t0 t1
      go_wp2
      refine bodyPost_ret (v := .agg #[.int .i64 N, .int .i64 a, .slice am ms.length cm, .int .i64 d]) (by simp [results, Try.f26, go_sem, e0, e1, e2, e3]) rfl ?_
      exact ⟨⟨N, a, ms, d⟩, _, rfl, (Own.set_other (Own.set_other (Own.set_other (Own.set_other ((Hum.out.mono (show w.heap.size ≤ wS.heap.size by omega)).set_other hnbm 2 (.slice am ms.length cm)) hn6 0 _) hn6 1 _) hn6 2 _) hn6 3 _), (by show ms.length ≤ 300; omega), (grown_row (grown_row (grown_row (grown_row (grown_row Hgr.out (grownBy_set wX Bv 2 (.slice am ms.length cm)) (fun q e => by cases e; omega)) (grownBy_set _ w.heap.size 0 (.int .i64 N)) (fun q e => by cases e; exact Nat.le_refl _)) (grownBy_set _ w.heap.size 1 (.int .i64 a)) (fun q e => by cases e; exact Nat.le_refl _)) (grownBy_set _ w.heap.size 2 (.slice am ms.length cm)) (fun q e => by cases e; exact Nat.le_refl _)) (grownBy_set _ w.heap.size 3 (.int .i64 d)) (fun q e => by cases e; exact Nat.le_refl _))⟩
    have e0' : (s == 0) = false := by rw [beq_eq_false_iff_ne]; exact h0
    clear h0
    by_cases h1 : s = 1
    · subst h1
      go_wp2_with fail
      refine (pick_any R 9 (pB + 1) _ (by omega) Hrd.out (by omega)).mono ?_
      rintro e wX ⟨z, rfl, hz0, hz1, hrX, hgX⟩
      have hsX := hgX.size
      have Ht := Lib.hid (Ht.out.kept hgX (by simp; omega))
      have Hz := Lib.hid (Hz.out.kept hgX (by simp; omega))
      have Hop := Lib.hid (Hop.out.kept hgX (.inr fun e => by have := (Hop.out.lt R e).1; omega))
      have Hgr := Lib.hid (grownBy_trans Hgr.out hgX); clear hgX
      have hwz : IntKind.i64.wrap (z - 1) = z - 1 := IntWalk.i64_in _ (by omega)
      have hnb : (Value.slice pa ps.length pc).ownBlock ≠ some Bv := Hnb.out
      have hn6 : (Value.slice pa ps.length pc).ownBlock ≠ some w.heap.size := fun e => by have := (Hop.out.lt _ e).1; omega
      have o19 := Ht.out.cell 1 (v := .int .i64 a) rfl
      have f19 := Ht.out.frozen 1
      have t0 : Str (wX.setCell ⟨Bv, 1, none⟩ (.int .i64 (z - 1))) Bv 25 #[.int .i64 N, .int .i64 (z - 1), .slice pa ps.length pc, .int .i64 d] := by have := Ht.out.set 1 (.int .i64 (z - 1)); simpa using this
      have t1 := Hz.out.other hB6 1 (.int .i64 (z - 1))
      have m0 := Str.cell t0 0 (v := .int .i64 N) rfl
      have m1 := Str.cell t0 1 (v := .int .i64 (z - 1)) rfl
      have m2 := Str.cell t0 2 (v := .slice pa ps.length pc) rfl
      have m3 := Str.cell t0 3 (v := .int .i64 d) rfl
      have j0 := Str.cell t1 0 (v := (.int .i64 0)) rfl
      have j1 := Str.cell t1 1 (v := (.int .i64 0)) rfl
      have j2 := Str.cell t1 2 (v := (.slice none 0 0)) rfl
      have j3 := Str.cell t1 3 (v := (.int .i64 0)) rfl
      have g0 := Str.frozen t1 0
      have g1 := Str.frozen t1 1
      have g2 := Str.frozen t1 2
      have g3 := Str.frozen t1 3
      have u := (Str.set (Str.set (Str.set (Str.set t1 0 (.int .i64 N)) 1 (.int .i64 (z - 1))) 2 (.slice pa ps.length pc)) 3 (.int .i64 d))
      have e0 := Str.cell u 0 (v := .int .i64 N) rfl
      have e1 := Str.cell u 1 (v := .int .i64 (z - 1)) rfl
      have e2 := Str.cell u 2 (v := .slice pa ps.length pc) rfl
      have e3 := Str.cell u 3 (v := .int .i64 d) rfl
      clear u t0 t1
      go_wp2
      refine bodyPost_ret (v := .agg #[.int .i64 N, .int .i64 (z - 1), .slice pa ps.length pc, .int .i64 d]) (by simp [results, Try.f26, go_sem, e0, e1, e2, e3]) rfl ?_
      exact ⟨⟨N, (z - 1), ps, d⟩, _, rfl, (Own.set_other (Own.set_other (Own.set_other (Own.set_other ((Hop.out.mono (Nat.le_succ _)).set_other hnb 1 (.int .i64 (z - 1))) hn6 0 _) hn6 1 _) hn6 2 _) hn6 3 _), hpl, (grown_row (grown_row (grown_row (grown_row (grown_row Hgr.out (grownBy_set wX Bv 1 (.int .i64 (z - 1))) (fun q e => by cases e; omega)) (grownBy_set _ w.heap.size 0 (.int .i64 N)) (fun q e => by cases e; exact Nat.le_refl _)) (grownBy_set _ w.heap.size 1 (.int .i64 (z - 1))) (fun q e => by cases e; exact Nat.le_refl _)) (grownBy_set _ w.heap.size 2 (.slice pa ps.length pc)) (fun q e => by cases e; exact Nat.le_refl _)) (grownBy_set _ w.heap.size 3 (.int .i64 d)) (fun q e => by cases e; exact Nat.le_refl _))⟩
    have e1' : (s == 1) = false := by rw [beq_eq_false_iff_ne]; exact h1
    clear h1
    by_cases h2 : s = 2
    · subst h2
      go_wp2_with fail
      refine (pick_any R 33 (pB + 1) _ (by omega) Hrd.out (by omega)).mono ?_
      rintro e wX ⟨z, rfl, hz0, hz1, hrX, hgX⟩
      have hsX := hgX.size
      have Ht := Lib.hid (Ht.out.kept hgX (by simp; omega))
      have Hz := Lib.hid (Hz.out.kept hgX (by simp; omega))
      have Hop := Lib.hid (Hop.out.kept hgX (.inr fun e => by have := (Hop.out.lt R e).1; omega))
      have Hgr := Lib.hid (grownBy_trans Hgr.out hgX); clear hgX
      have hwz : IntKind.i64.wrap (z - 1) = z - 1 := IntWalk.i64_in _ (by omega)
      have hnb : (Value.slice pa ps.length pc).ownBlock ≠ some Bv := Hnb.out
      have hn6 : (Value.slice pa ps.length pc).ownBlock ≠ some w.heap.size := fun e => by have := (Hop.out.lt _ e).1; omega
      have o09 := Ht.out.cell 0 (v := .int .i64 N) rfl
      have f09 := Ht.out.frozen 0
      have t0 : Str (wX.setCell ⟨Bv, 0, none⟩ (.int .i64 (z - 1))) Bv 25 #[.int .i64 (z - 1), .int .i64 a, .slice pa ps.length pc, .int .i64 d] := by have := Ht.out.set 0 (.int .i64 (z - 1)); simpa using this
      have t1 := Hz.out.other hB6 0 (.int .i64 (z - 1))
      have m0 := Str.cell t0 0 (v := .int .i64 (z - 1)) rfl
      have m1 := Str.cell t0 1 (v := .int .i64 a) rfl
      have m2 := Str.cell t0 2 (v := .slice pa ps.length pc) rfl
      have m3 := Str.cell t0 3 (v := .int .i64 d) rfl
      have j0 := Str.cell t1 0 (v := (.int .i64 0)) rfl
      have j1 := Str.cell t1 1 (v := (.int .i64 0)) rfl
      have j2 := Str.cell t1 2 (v := (.slice none 0 0)) rfl
      have j3 := Str.cell t1 3 (v := (.int .i64 0)) rfl
      have g0 := Str.frozen t1 0
      have g1 := Str.frozen t1 1
      have g2 := Str.frozen t1 2
      have g3 := Str.frozen t1 3
      have u := (Str.set (Str.set (Str.set (Str.set t1 0 (.int .i64 (z - 1))) 1 (.int .i64 a)) 2 (.slice pa ps.length pc)) 3 (.int .i64 d))
      have e0 := Str.cell u 0 (v := .int .i64 (z - 1)) rfl
      have e1 := Str.cell u 1 (v := .int .i64 a) rfl
      have e2 := Str.cell u 2 (v := .slice pa ps.length pc) rfl
      have e3 := Str.cell u 3 (v := .int .i64 d) rfl
      clear u t0 t1
      go_wp2
      refine bodyPost_ret (v := .agg #[.int .i64 (z - 1), .int .i64 a, .slice pa ps.length pc, .int .i64 d]) (by simp [results, Try.f26, go_sem, e0, e1, e2, e3]) rfl ?_
      exact ⟨⟨(z - 1), a, ps, d⟩, _, rfl, (Own.set_other (Own.set_other (Own.set_other (Own.set_other ((Hop.out.mono (Nat.le_succ _)).set_other hnb 0 (.int .i64 (z - 1))) hn6 0 _) hn6 1 _) hn6 2 _) hn6 3 _), hpl, (grown_row (grown_row (grown_row (grown_row (grown_row Hgr.out (grownBy_set wX Bv 0 (.int .i64 (z - 1))) (fun q e => by cases e; omega)) (grownBy_set _ w.heap.size 0 (.int .i64 (z - 1))) (fun q e => by cases e; exact Nat.le_refl _)) (grownBy_set _ w.heap.size 1 (.int .i64 a)) (fun q e => by cases e; exact Nat.le_refl _)) (grownBy_set _ w.heap.size 2 (.slice pa ps.length pc)) (fun q e => by cases e; exact Nat.le_refl _)) (grownBy_set _ w.heap.size 3 (.int .i64 d)) (fun q e => by cases e; exact Nat.le_refl _))⟩
    have e2' : (s == 2) = false := by rw [beq_eq_false_iff_ne]; exact h2
    clear h2
    by_cases h3 : s = 3
    · subst h3
      by_cases hgz : g.length = 0
      · have hd0 : decide ((0 : Int) < (g.length : Int)) = false := decide_eq_false (by omega)
        have hd0' : ¬ (0 : Int) < (g.length : Int) := by omega
        have hnb : (Value.slice pa ps.length pc).ownBlock ≠ some Bv := Hnb.out
        have hn6 : (Value.slice pa ps.length pc).ownBlock ≠ some w.heap.size := fun e => by have := (Hop.out.lt _ e).1; omega
        have t0 := Ht.out
        have t1 := Hz.out
        clear hnb
        have m0 := Str.cell t0 0 (v := .int .i64 N) rfl
        have m1 := Str.cell t0 1 (v := .int .i64 a) rfl
        have m2 := Str.cell t0 2 (v := .slice pa ps.length pc) rfl
        have m3 := Str.cell t0 3 (v := .int .i64 d) rfl
        have j0 := Str.cell t1 0 (v := (.int .i64 0)) rfl
        have j1 := Str.cell t1 1 (v := (.int .i64 0)) rfl
        have j2 := Str.cell t1 2 (v := (.slice none 0 0)) rfl
        have j3 := Str.cell t1 3 (v := (.int .i64 0)) rfl
        have g0 := Str.frozen t1 0
        have g1 := Str.frozen t1 1
        have g2 := Str.frozen t1 2
        have g3 := Str.frozen t1 3
        have u := (Str.set (Str.set (Str.set (Str.set t1 0 (.int .i64 N)) 1 (.int .i64 a)) 2 (.slice pa ps.length pc)) 3 (.int .i64 d))
        have e0 := Str.cell u 0 (v := .int .i64 N) rfl
        have e1 := Str.cell u 1 (v := .int .i64 a) rfl
        have e2 := Str.cell u 2 (v := .slice pa ps.length pc) rfl
        have e3 := Str.cell u 3 (v := .int .i64 d) rfl
        clear u t1
        go_wp2
        refine bodyPost_ret (v := .agg #[.int .i64 N, .int .i64 a, .slice pa ps.length pc, .int .i64 d]) (by simp [results, Try.f26, go_sem, e0, e1, e2, e3]) rfl ?_
        exact ⟨⟨N, a, ps, d⟩, _, rfl, (Own.set_other (Own.set_other (Own.set_other (Own.set_other (Hop.out.mono (Nat.le_succ _)) hn6 0 _) hn6 1 _) hn6 2 _) hn6 3 _), hpl, (grown_row (grown_row (grown_row (grown_row Hgr.out (grownBy_set _ w.heap.size 0 (.int .i64 N)) (fun q e => by cases e; exact Nat.le_refl _)) (grownBy_set _ w.heap.size 1 (.int .i64 a)) (fun q e => by cases e; exact Nat.le_refl _)) (grownBy_set _ w.heap.size 2 (.slice pa ps.length pc)) (fun q e => by cases e; exact Nat.le_refl _)) (grownBy_set _ w.heap.size 3 (.int .i64 d)) (fun q e => by cases e; exact Nat.le_refl _))⟩
      have hd0 : decide ((0 : Int) < (g.length : Int)) = true := decide_eq_true (by omega)
      have hd0' : (0 : Int) < (g.length : Int) := by omega
      go_wp2_with fail
      refine (pick_any R (g.length : Int) (pB + 1) _ (by omega) Hrd.out (by omega)).mono ?_
      rintro e wX ⟨k, rfl, hk0, hk1, hrX, hgX⟩
      obtain ⟨k, rfl⟩ := Int.eq_ofNat_of_zero_le hk0
      have hk : k < g.length := by omega
      have hsX := hgX.size
      have Hz := Lib.hid (Hz.out.kept hgX (by simp; omega))
      have Hgr := Lib.hid (grownBy_trans Hgr.out hgX); clear hgX
      obtain ⟨gb, off, rfl, _, hat⟩ := (Hg.out _ Hgr.out).at (by omega)
      obtain ⟨c0, c1, ⟨pk, ck, c2, i2, s2⟩, c3⟩ := hat k hk
      have hpk := Hps.out _ (List.getElem_mem hk)
      have Hone := Lib.hid (spec_l11One g[k].r g[k].a g[k].d pk ck g[k].ps wX (by omega) s2 i2)
      clear hat i2 s2
      generalize g[k] = x at *
      go_wp2_with fail
      refine Hone.out.mono ?_
      rintro e wY ⟨uy, rfl, huy, hbY⟩
      have hsY := hbY.size
      have t1 : Str wY w.heap.size 25 #[.int .i64 0, .int .i64 0, .slice none 0 0, .int .i64 0] := (hbY.block _ Hz.out.lt).trans Hz.out
      have Hgr := Lib.hid (grown_row Hgr.out (below_grown hbY) (fun q e => by cases e)); clear hbY
      obtain ⟨ay, cy, rfl, _, _⟩ := huy.ints
      have Huy := Lib.hid huy; clear huy
      have hn6 : (Value.slice ay x.ps.length cy).ownBlock ≠ some w.heap.size := fun e => by have := (Huy.out.lt _ e).1; omega
      have j0 := Str.cell t1 0 (v := (.int .i64 0)) rfl
      have j1 := Str.cell t1 1 (v := (.int .i64 0)) rfl
      have j2 := Str.cell t1 2 (v := (.slice none 0 0)) rfl
      have j3 := Str.cell t1 3 (v := (.int .i64 0)) rfl
      have g0 := Str.frozen t1 0
      have g1 := Str.frozen t1 1
      have g2 := Str.frozen t1 2
      have g3 := Str.frozen t1 3
      have u := (Str.set (Str.set (Str.set (Str.set t1 0 (.int .i64 x.r)) 1 (.int .i64 x.a)) 2 (.slice ay x.ps.length cy)) 3 (.int .i64 x.d))
      have e0 := Str.cell u 0 (v := .int .i64 x.r) rfl
      have e1 := Str.cell u 1 (v := .int .i64 x.a) rfl
      have e2 := Str.cell u 2 (v := .slice ay x.ps.length cy) rfl
      have e3 := Str.cell u 3 (v := .int .i64 x.d) rfl
      clear u t1
      go_wp2
      refine bodyPost_ret (v := .agg #[.int .i64 x.r, .int .i64 x.a, .slice ay x.ps.length cy, .int .i64 x.d]) (by simp [results, Try.f26, go_sem, e0, e1, e2, e3]) rfl ?_
      exact ⟨⟨x.r, x.a, x.ps, x.d⟩, _, rfl, (Own.set_other (Own.set_other (Own.set_other (Own.set_other (Huy.out.mono (show w.heap.size ≤ wX.heap.size by omega)) hn6 0 _) hn6 1 _) hn6 2 _) hn6 3 _), (by show x.ps.length ≤ 300; omega), (grown_row (grown_row (grown_row (grown_row Hgr.out (grownBy_set _ w.heap.size 0 (.int .i64 x.r)) (fun q e => by cases e; exact Nat.le_refl _)) (grownBy_set _ w.heap.size 1 (.int .i64 x.a)) (fun q e => by cases e; exact Nat.le_refl _)) (grownBy_set _ w.heap.size 2 (.slice ay x.ps.length cy)) (fun q e => by cases e; exact Nat.le_refl _)) (grownBy_set _ w.heap.size 3 (.int .i64 x.d)) (fun q e => by cases e; exact Nat.le_refl _))⟩
    have e3' : (s == 3) = false := by rw [beq_eq_false_iff_ne]; exact h3
    clear h3
    by_cases h4 : s = 4
    · subst h4
      by_cases hgz : g.length = 0
      · have hd0 : decide ((0 : Int) < (g.length : Int)) = false := decide_eq_false (by omega)
        have hd0' : ¬ (0 : Int) < (g.length : Int) := by omega
        have hnb : (Value.slice pa ps.length pc).ownBlock ≠ some Bv := Hnb.out
        have hn6 : (Value.slice pa ps.length pc).ownBlock ≠ some w.heap.size := fun e => by have := (Hop.out.lt _ e).1; omega
        have t0 := Ht.out
        have t1 := Hz.out
        clear hnb
        have m0 := Str.cell t0 0 (v := .int .i64 N) rfl
        have m1 := Str.cell t0 1 (v := .int .i64 a) rfl
        have m2 := Str.cell t0 2 (v := .slice pa ps.length pc) rfl
        have m3 := Str.cell t0 3 (v := .int .i64 d) rfl
        have j0 := Str.cell t1 0 (v := (.int .i64 0)) rfl
        have j1 := Str.cell t1 1 (v := (.int .i64 0)) rfl
        have j2 := Str.cell t1 2 (v := (.slice none 0 0)) rfl
        have j3 := Str.cell t1 3 (v := (.int .i64 0)) rfl
        have g0 := Str.frozen t1 0
        have g1 := Str.frozen t1 1
        have g2 := Str.frozen t1 2
        have g3 := Str.frozen t1 3
        have u := (Str.set (Str.set (Str.set (Str.set t1 0 (.int .i64 N)) 1 (.int .i64 a)) 2 (.slice pa ps.length pc)) 3 (.int .i64 d))
        have e0 := Str.cell u 0 (v := .int .i64 N) rfl
        have e1 := Str.cell u 1 (v := .int .i64 a) rfl
        have e2 := Str.cell u 2 (v := .slice pa ps.length pc) rfl
        have e3 := Str.cell u 3 (v := .int .i64 d) rfl
        clear u t1
        go_wp2
        refine bodyPost_ret (v := .agg #[.int .i64 N, .int .i64 a, .slice pa ps.length pc, .int .i64 d]) (by simp [results, Try.f26, go_sem, e0, e1, e2, e3]) rfl ?_
        exact ⟨⟨N, a, ps, d⟩, _, rfl, (Own.set_other (Own.set_other (Own.set_other (Own.set_other (Hop.out.mono (Nat.le_succ _)) hn6 0 _) hn6 1 _) hn6 2 _) hn6 3 _), hpl, (grown_row (grown_row (grown_row (grown_row Hgr.out (grownBy_set _ w.heap.size 0 (.int .i64 N)) (fun q e => by cases e; exact Nat.le_refl _)) (grownBy_set _ w.heap.size 1 (.int .i64 a)) (fun q e => by cases e; exact Nat.le_refl _)) (grownBy_set _ w.heap.size 2 (.slice pa ps.length pc)) (fun q e => by cases e; exact Nat.le_refl _)) (grownBy_set _ w.heap.size 3 (.int .i64 d)) (fun q e => by cases e; exact Nat.le_refl _))⟩
      have hd0 : decide ((0 : Int) < (g.length : Int)) = true := decide_eq_true (by omega)
      have hd0' : (0 : Int) < (g.length : Int) := by omega
      go_wp2_with fail
      refine (pick_any R (g.length : Int) (pB + 1) _ (by omega) Hrd.out (by omega)).mono ?_
      rintro e wX ⟨k, rfl, hk0, hk1, hrX, hgX⟩
      obtain ⟨k, rfl⟩ := Int.eq_ofNat_of_zero_le hk0
      have hk : k < g.length := by omega
      have hsX := hgX.size
      have Hz := Lib.hid (Hz.out.kept hgX (by simp; omega))
      have Hgr := Lib.hid (grownBy_trans Hgr.out hgX); clear hgX
      obtain ⟨gb, off, rfl, _, hat⟩ := (Hg.out _ Hgr.out).at (by omega)
      obtain ⟨c0, c1, ⟨pk, ck, c2, i2, s2⟩, c3⟩ := hat k hk
      have hpk := Hps.out _ (List.getElem_mem hk)
      have Hone := Lib.hid (spec_l11One g[k].r g[k].a g[k].d pk ck g[k].ps wX (by omega) s2 i2)
      clear hat i2 s2
      generalize g[k] = x at *
      go_wp2_with fail
      refine Hone.out.mono ?_
      rintro e wY ⟨uy, rfl, huy, hbY⟩
      have hsY := hbY.size
      have t1 : Str wY w.heap.size 25 #[.int .i64 0, .int .i64 0, .slice none 0 0, .int .i64 0] := (hbY.block _ Hz.out.lt).trans Hz.out
      have Hgr := Lib.hid (grown_row Hgr.out (below_grown hbY) (fun q e => by cases e)); clear hbY
      obtain ⟨ay, cy, rfl, _, _⟩ := huy.ints
      have Huy := Lib.hid huy; clear huy
      have hn6 : (Value.slice ay x.ps.length cy).ownBlock ≠ some w.heap.size := fun e => by have := (Huy.out.lt _ e).1; omega
      have j0 := Str.cell t1 0 (v := (.int .i64 0)) rfl
      have j1 := Str.cell t1 1 (v := (.int .i64 0)) rfl
      have j2 := Str.cell t1 2 (v := (.slice none 0 0)) rfl
      have j3 := Str.cell t1 3 (v := (.int .i64 0)) rfl
      have g0 := Str.frozen t1 0
      have g1 := Str.frozen t1 1
      have g2 := Str.frozen t1 2
      have g3 := Str.frozen t1 3
      have u := (Str.set (Str.set (Str.set (Str.set t1 0 (.int .i64 x.r)) 1 (.int .i64 x.a)) 2 (.slice ay x.ps.length cy)) 3 (.int .i64 x.d))
      have e0 := Str.cell u 0 (v := .int .i64 x.r) rfl
      have e1 := Str.cell u 1 (v := .int .i64 x.a) rfl
      have e2 := Str.cell u 2 (v := .slice ay x.ps.length cy) rfl
      have e3 := Str.cell u 3 (v := .int .i64 x.d) rfl
      clear u t1
      go_wp2
      refine bodyPost_ret (v := .agg #[.int .i64 x.r, .int .i64 x.a, .slice ay x.ps.length cy, .int .i64 x.d]) (by simp [results, Try.f26, go_sem, e0, e1, e2, e3]) rfl ?_
      exact ⟨⟨x.r, x.a, x.ps, x.d⟩, _, rfl, (Own.set_other (Own.set_other (Own.set_other (Own.set_other (Huy.out.mono (show w.heap.size ≤ wX.heap.size by omega)) hn6 0 _) hn6 1 _) hn6 2 _) hn6 3 _), (by show x.ps.length ≤ 300; omega), (grown_row (grown_row (grown_row (grown_row Hgr.out (grownBy_set _ w.heap.size 0 (.int .i64 x.r)) (fun q e => by cases e; exact Nat.le_refl _)) (grownBy_set _ w.heap.size 1 (.int .i64 x.a)) (fun q e => by cases e; exact Nat.le_refl _)) (grownBy_set _ w.heap.size 2 (.slice ay x.ps.length cy)) (fun q e => by cases e; exact Nat.le_refl _)) (grownBy_set _ w.heap.size 3 (.int .i64 x.d)) (fun q e => by cases e; exact Nat.le_refl _))⟩
    have e4' : (s == 4) = false := by rw [beq_eq_false_iff_ne]; exact h4
    clear h4
    by_cases h5 : s = 5
    · subst h5
      by_cases hgz : g.length = 0
      · have hd0 : decide ((0 : Int) < (g.length : Int)) = false := decide_eq_false (by omega)
        have hd0' : ¬ (0 : Int) < (g.length : Int) := by omega
        have hnb : (Value.slice pa ps.length pc).ownBlock ≠ some Bv := Hnb.out
        have hn6 : (Value.slice pa ps.length pc).ownBlock ≠ some w.heap.size := fun e => by have := (Hop.out.lt _ e).1; omega
        have t0 := Ht.out
        have t1 := Hz.out
        clear hnb
        have m0 := Str.cell t0 0 (v := .int .i64 N) rfl
        have m1 := Str.cell t0 1 (v := .int .i64 a) rfl
        have m2 := Str.cell t0 2 (v := .slice pa ps.length pc) rfl
        have m3 := Str.cell t0 3 (v := .int .i64 d) rfl
        have j0 := Str.cell t1 0 (v := (.int .i64 0)) rfl
        have j1 := Str.cell t1 1 (v := (.int .i64 0)) rfl
        have j2 := Str.cell t1 2 (v := (.slice none 0 0)) rfl
        have j3 := Str.cell t1 3 (v := (.int .i64 0)) rfl
        have g0 := Str.frozen t1 0
        have g1 := Str.frozen t1 1
        have g2 := Str.frozen t1 2
        have g3 := Str.frozen t1 3
        have u := (Str.set (Str.set (Str.set (Str.set t1 0 (.int .i64 N)) 1 (.int .i64 a)) 2 (.slice pa ps.length pc)) 3 (.int .i64 d))
        have e0 := Str.cell u 0 (v := .int .i64 N) rfl
        have e1 := Str.cell u 1 (v := .int .i64 a) rfl
        have e2 := Str.cell u 2 (v := .slice pa ps.length pc) rfl
        have e3 := Str.cell u 3 (v := .int .i64 d) rfl
        clear u t1
        go_wp2
        refine bodyPost_ret (v := .agg #[.int .i64 N, .int .i64 a, .slice pa ps.length pc, .int .i64 d]) (by simp [results, Try.f26, go_sem, e0, e1, e2, e3]) rfl ?_
        exact ⟨⟨N, a, ps, d⟩, _, rfl, (Own.set_other (Own.set_other (Own.set_other (Own.set_other (Hop.out.mono (Nat.le_succ _)) hn6 0 _) hn6 1 _) hn6 2 _) hn6 3 _), hpl, (grown_row (grown_row (grown_row (grown_row Hgr.out (grownBy_set _ w.heap.size 0 (.int .i64 N)) (fun q e => by cases e; exact Nat.le_refl _)) (grownBy_set _ w.heap.size 1 (.int .i64 a)) (fun q e => by cases e; exact Nat.le_refl _)) (grownBy_set _ w.heap.size 2 (.slice pa ps.length pc)) (fun q e => by cases e; exact Nat.le_refl _)) (grownBy_set _ w.heap.size 3 (.int .i64 d)) (fun q e => by cases e; exact Nat.le_refl _))⟩
      have hd0 : decide ((0 : Int) < (g.length : Int)) = true := decide_eq_true (by omega)
      have hd0' : (0 : Int) < (g.length : Int) := by omega
      go_wp2_with fail
      refine (pick_any R (g.length : Int) (pB + 1) _ (by omega) Hrd.out (by omega)).mono ?_
      rintro e wX ⟨k, rfl, hk0, hk1, hrX, hgX⟩
      obtain ⟨k, rfl⟩ := Int.eq_ofNat_of_zero_le hk0
      have hk : k < g.length := by omega
      have hsX := hgX.size
      have Hz := Lib.hid (Hz.out.kept hgX (by simp; omega))
      have Hgr := Lib.hid (grownBy_trans Hgr.out hgX); clear hgX
      obtain ⟨gb, off, rfl, _, hat⟩ := (Hg.out _ Hgr.out).at (by omega)
      obtain ⟨c0, c1, ⟨pk, ck, c2, i2, s2⟩, c3⟩ := hat k hk
      have hpk := Hps.out _ (List.getElem_mem hk)
      have Hone := Lib.hid (spec_l11One g[k].r g[k].a g[k].d pk ck g[k].ps wX (by omega) s2 i2)
      clear hat i2 s2
      generalize g[k] = x at *
      go_wp2_with fail
      refine Hone.out.mono ?_
      rintro e wY ⟨uy, rfl, huy, hbY⟩
      have hsY := hbY.size
      have t1 : Str wY w.heap.size 25 #[.int .i64 0, .int .i64 0, .slice none 0 0, .int .i64 0] := (hbY.block _ Hz.out.lt).trans Hz.out
      have Hgr := Lib.hid (grown_row Hgr.out (below_grown hbY) (fun q e => by cases e)); clear hbY
      obtain ⟨ay, cy, rfl, _, _⟩ := huy.ints
      have Huy := Lib.hid huy; clear huy
      have hn6 : (Value.slice ay x.ps.length cy).ownBlock ≠ some w.heap.size := fun e => by have := (Huy.out.lt _ e).1; omega
      have j0 := Str.cell t1 0 (v := (.int .i64 0)) rfl
      have j1 := Str.cell t1 1 (v := (.int .i64 0)) rfl
      have j2 := Str.cell t1 2 (v := (.slice none 0 0)) rfl
      have j3 := Str.cell t1 3 (v := (.int .i64 0)) rfl
      have g0 := Str.frozen t1 0
      have g1 := Str.frozen t1 1
      have g2 := Str.frozen t1 2
      have g3 := Str.frozen t1 3
      have u := (Str.set (Str.set (Str.set (Str.set t1 0 (.int .i64 x.r)) 1 (.int .i64 x.a)) 2 (.slice ay x.ps.length cy)) 3 (.int .i64 x.d))
      have e0 := Str.cell u 0 (v := .int .i64 x.r) rfl
      have e1 := Str.cell u 1 (v := .int .i64 x.a) rfl
      have e2 := Str.cell u 2 (v := .slice ay x.ps.length cy) rfl
      have e3 := Str.cell u 3 (v := .int .i64 x.d) rfl
      clear u t1
      go_wp2
      refine bodyPost_ret (v := .agg #[.int .i64 x.r, .int .i64 x.a, .slice ay x.ps.length cy, .int .i64 x.d]) (by simp [results, Try.f26, go_sem, e0, e1, e2, e3]) rfl ?_
      exact ⟨⟨x.r, x.a, x.ps, x.d⟩, _, rfl, (Own.set_other (Own.set_other (Own.set_other (Own.set_other (Huy.out.mono (show w.heap.size ≤ wX.heap.size by omega)) hn6 0 _) hn6 1 _) hn6 2 _) hn6 3 _), (by show x.ps.length ≤ 300; omega), (grown_row (grown_row (grown_row (grown_row Hgr.out (grownBy_set _ w.heap.size 0 (.int .i64 x.r)) (fun q e => by cases e; exact Nat.le_refl _)) (grownBy_set _ w.heap.size 1 (.int .i64 x.a)) (fun q e => by cases e; exact Nat.le_refl _)) (grownBy_set _ w.heap.size 2 (.slice ay x.ps.length cy)) (fun q e => by cases e; exact Nat.le_refl _)) (grownBy_set _ w.heap.size 3 (.int .i64 x.d)) (fun q e => by cases e; exact Nat.le_refl _))⟩
    have e5' : (s == 5) = false := by rw [beq_eq_false_iff_ne]; exact h5
    clear h5
    have hnb : (Value.slice pa ps.length pc).ownBlock ≠ some Bv := Hnb.out
    have hn6 : (Value.slice pa ps.length pc).ownBlock ≠ some w.heap.size := fun e => by have := (Hop.out.lt _ e).1; omega
    have t0 := Ht.out
    have t1 := Hz.out
    clear hnb
    have m0 := Str.cell t0 0 (v := .int .i64 N) rfl
    have m1 := Str.cell t0 1 (v := .int .i64 a) rfl
    have m2 := Str.cell t0 2 (v := .slice pa ps.length pc) rfl
    have m3 := Str.cell t0 3 (v := .int .i64 d) rfl
    have j0 := Str.cell t1 0 (v := (.int .i64 0)) rfl
    have j1 := Str.cell t1 1 (v := (.int .i64 0)) rfl
    have j2 := Str.cell t1 2 (v := (.slice none 0 0)) rfl
    have j3 := Str.cell t1 3 (v := (.int .i64 0)) rfl
    have g0 := Str.frozen t1 0
    have g1 := Str.frozen t1 1
    have g2 := Str.frozen t1 2
    have g3 := Str.frozen t1 3
    have u := (Str.set (Str.set (Str.set (Str.set t1 0 (.int .i64 N)) 1 (.int .i64 a)) 2 (.slice pa ps.length pc)) 3 (.int .i64 d))
    have e0 := Str.cell u 0 (v := .int .i64 N) rfl
    have e1 := Str.cell u 1 (v := .int .i64 a) rfl
    have e2 := Str.cell u 2 (v := .slice pa ps.length pc) rfl
    have e3 := Str.cell u 3 (v := .int .i64 d) rfl
    clear u t0 t1
    go_wp2
    refine bodyPost_ret (v := .agg #[.int .i64 N, .int .i64 a, .slice pa ps.length pc, .int .i64 d]) (by simp [results, Try.f26, go_sem, e0, e1, e2, e3]) rfl ?_
    exact ⟨⟨N, a, ps, d⟩, _, rfl, (Own.set_other (Own.set_other (Own.set_other (Own.set_other (Hop.out.mono (Nat.le_succ _)) hn6 0 _) hn6 1 _) hn6 2 _) hn6 3 _), hpl, (grown_row (grown_row (grown_row (grown_row Hgr.out (grownBy_set _ w.heap.size 0 (.int .i64 N)) (fun q e => by cases e; exact Nat.le_refl _)) (grownBy_set _ w.heap.size 1 (.int .i64 a)) (fun q e => by cases e; exact Nat.le_refl _)) (grownBy_set _ w.heap.size 2 (.slice pa ps.length pc)) (fun q e => by cases e; exact Nat.le_refl _)) (grownBy_set _ w.heap.size 3 (.int .i64 d)) (fun q e => by cases e; exact Nat.le_refl _))⟩
  case pos =>
  have hud : decide ((0 : Int) < u) = true := decide_eq_true hu
  clear hu hu0 hu1
  by_cases hm : 0 ≤ h9
  · go_wp2_with fail
    refine (HH.out w2 (Hc.out _ Hg2.out) (Hg.out _ Hg2.out)).mono ?_
    rintro e w3 ⟨rfl, hb3⟩
    have hs3 := hb3.size
    have Hr3 := Lib.hid (Hr2.out.kept (below_grown hb3) (fun q e => by cases e))
    have Hs3 := Lib.hid (show Str w3 w.heap.size 25 _ from (hb3.block _ Hs2.out.lt).trans Hs2.out)
    have Hg3 := Lib.hid (grown_row Hg2.out (below_grown hb3) (fun q e => by cases e)); clear hb3
    go_wp2_with fail
    refine (pick_any R 2 (p + 1 + 1) _ (by omega) Hr3.out (by omega)).mono ?_
    rintro e w4 ⟨y, rfl, hy0, hy1, hr4, hg4⟩
    have hs4 := hg4.size
    have Hrd := Lib.hid hr4; clear hr4
    have Hz := Lib.hid (Hs3.out.kept hg4 (by simp; omega))
    have Hgr := Lib.hid (grownBy_trans Hg3.out hg4); clear hg4
    obtain ⟨N, hNe⟩ : ∃ N, N = h9 + y := ⟨_, rfl⟩
    have hwy : IntKind.i64.wrap (h9 + y) = N := by rw [hNe]; exact IntWalk.i64_in _ (by omega)
    have hN0 : 0 ≤ N ∧ N ≤ 31 := by omega
    clear hNe
    go_wp2_with fail
    refine (pick_any R (c.length : Int) (p + 1 + 1 + 1) _ (by omega) Hrd.out (by omega)).mono ?_
    rintro e wA ⟨a, rfl, ha0, ha1, hrA, hgA⟩
    have hsA := hgA.size
    have Hz := Lib.hid (Hz.out.kept hgA (by simp; omega))
    have Hgr := Lib.hid (grownBy_trans Hgr.out hgA); clear hgA
    have Hrd := Lib.hid hrA; clear hrA
    have hgE := grownBy_trans Hgr.out (World.grownBy_alloc wA (.cells #[] 3) (some R))
    have hzE := Hz.out.alloc (.cells #[] 3)
    have hoE := own_empty 3 wA (Nat.le_refl _)
    have hszE : (wA.alloc (.cells #[] 3)).heap.size = wA.heap.size + 1 := by simp
    go_wp2_with fail
    refine (drawDigest R (p + 1 + 1 + 1 + 1) _ (by omega) (Hrd.out.alloc _)).mono ?_
    rintro e wB ⟨d, pB, rfl, hd0, hd1, hrB, hpB, hgB⟩
    have hsB := hgB.size
    have hoB := hoE.kept hgB (.inr fun e => by simp [Value.ownBlock] at e; omega)
    have hzB := hzE.kept hgB (by simp; omega)
    have hgrB := grownBy_trans hgE hgB
    clear hgE hzE hoE hgB
    have ht := Str.new wB 25 #[.int .i64 N, .int .i64 a, .slice (some ⟨wA.heap.size, 0, none⟩) 0 0, .int .i64 d]
    have hgC := grownBy_trans hgrB (World.grownBy_alloc wB (.cells #[.int .i64 N, .int .i64 a, .slice (some ⟨wA.heap.size, 0, none⟩) 0 0, .int .i64 d] 25) (some R))
    have hrC := hrB.alloc (.cells #[.int .i64 N, .int .i64 a, .slice (some ⟨wA.heap.size, 0, none⟩) 0 0, .int .i64 d] 25)
    have hzC := hzB.alloc (.cells #[.int .i64 N, .int .i64 a, .slice (some ⟨wA.heap.size, 0, none⟩) 0 0, .int .i64 d] 25)
    have hoC := hoB.alloc (.cells #[.int .i64 N, .int .i64 a, .slice (some ⟨wA.heap.size, 0, none⟩) 0 0, .int .i64 d] 25)
    have hszC : (wB.alloc (.cells #[.int .i64 N, .int .i64 a, .slice (some ⟨wA.heap.size, 0, none⟩) 0 0, .int .i64 d] 25)).heap.size = wB.heap.size + 1 := by simp
    have Ht := Lib.hid ht
    have Hgr := Lib.hid hgC
    have Hrd := Lib.hid hrC
    have Hz := Lib.hid hzC
    have Hop0 := Lib.hid (Own.mono hoC (show w.heap.size + 1 ≤ wA.heap.size by omega))
    clear ht hgC hrC hzC hoC hrB hzB hoB hgrB
    have hB6 : w.heap.size ≠ wB.heap.size := by omega
    by_cases hN : 0 < N
    · have hNd : decide ((0 : Int) < N) = true := decide_eq_true hN
      have hwN : IntKind.i64.wrap (N - 1) = N - 1 := IntWalk.i64_in _ (by omega)
      go_wp2_with fail
      generalize wB.alloc (.cells #[.int .i64 N, .int .i64 a, .slice (some ⟨wA.heap.size, 0, none⟩) 0 0, .int .i64 d] 25) = wC at *
      generalize wB.heap.size = Bv at *
      refine (HA.out (N - 1) wC (Hg.out _ Hgr.out)).mono ?_
      rintro e wD ⟨ua, rfl, hua, hbD⟩
      have hsD := hbD.size
      have hal := authZ_len g (N - 1)
      obtain ⟨pa, pc, rfl, _, _⟩ := hua.ints
      generalize authZ g (N - 1) = ps at *
      have Ht := Lib.hid (show Str wD Bv 25 _ from (hbD.block _ Ht.out.lt).trans Ht.out)
      have Hz := Lib.hid (show Str wD w.heap.size 25 _ from (hbD.block _ Hz.out.lt).trans Hz.out)
      have Hrd := Lib.hid (Hrd.out.kept (below_grown hbD) (fun q e => by cases e))
      have Hgr := Lib.hid (grown_row Hgr.out (below_grown hbD) (fun q e => by cases e)); clear hbD
      have hltC : Bv < wC.heap.size := by omega
      have hnb : (Value.slice pa ps.length pc).ownBlock ≠ some Bv := fun e => by have := (hua.lt _ e).1; omega
      have Hua := Lib.hid (hua.mono (show w.heap.size + 1 ≤ wC.heap.size by omega)); clear hua
      have o29 := Ht.out.cell 2 (v := .slice (some ⟨wA.heap.size, 0, none⟩) 0 0) rfl
      have f29 := Ht.out.frozen 2
      have hRB : R < Bv := by omega
      have Hrd := Lib.hid (Hrd.out.kept (grownBy_set wD Bv 2 (.slice pa ps.length pc)) (fun q e => by cases e; exact hRB))
      have Hgr := Lib.hid (grown_row Hgr.out (grownBy_set wD Bv 2 (.slice pa ps.length pc)) (fun q e => by cases e; omega))
      have Hop := Lib.hid (Hua.out.set_other hnb 2 (.slice pa ps.length pc))
      have ht' : Str (wD.setCell ⟨Bv, 2, none⟩ (.slice pa ps.length pc)) Bv 25 #[.int .i64 N, .int .i64 a, .slice pa ps.length pc, .int .i64 d] := by have := Ht.out.set 2 (.slice pa ps.length pc); simpa using this
      have Hz := Lib.hid (Hz.out.other hB6 2 (.slice pa ps.length pc))
      have hszD : (wD.setCell ⟨Bv, 2, none⟩ (.slice pa ps.length pc)).heap.size = wD.heap.size := by simp [World.setCell]
      have Ht := Lib.hid ht'; clear ht' Hua
      have Hnb := Lib.hid hnb; clear hnb
      have hpl : ps.length ≤ 300 := by omega
      go_wp2_with fail
      generalize wD.setCell ⟨Bv, 2, none⟩ (.slice pa ps.length pc) = wE at *
      refine (pick_any R 12 (pB) _ (by omega) Hrd.out (by omega)).mono ?_
      rintro e wS ⟨s, rfl, hs0, hs1, hrS, hgS⟩
      have hsS := hgS.size
      have Hrd := Lib.hid hrS; clear hrS
      have Ht := Lib.hid (Ht.out.kept hgS (by simp; omega))
      have Hz := Lib.hid (Hz.out.kept hgS (by simp; omega))
      have Hop := Lib.hid (Hop.out.kept hgS (.inr fun e => by have := (Hop.out.lt R e).1; omega))
      have Hgr := Lib.hid (grownBy_trans Hgr.out hgS); clear hgS hs0 hs1
      by_cases h0 : s = 0
      · subst h0
        go_wp2_with fail
        refine (drawMembers R (pB + 1) c.length _ (by omega) (by omega) Hrd.out (by omega)).mono ?_
        rintro e wX ⟨um, ms, pX, rfl, hum, hml, hrX, hpX, hgX⟩
        have hsX := hgX.size
        have Ht := Lib.hid (Ht.out.kept hgX (by simp; omega))
        have Hz := Lib.hid (Hz.out.kept hgX (by simp; omega))
        have Hgr := Lib.hid (grownBy_trans Hgr.out hgX); clear hgX
        obtain ⟨am, cm, rfl, _, _⟩ := hum.ints
        have Hum := Lib.hid hum; clear hum
        have hnbm : (Value.slice am ms.length cm).ownBlock ≠ some Bv := fun e => by have := (Hum.out.lt _ e).1; omega
        have hn6 : (Value.slice am ms.length cm).ownBlock ≠ some w.heap.size := fun e => by have := (Hum.out.lt _ e).1; omega
        have o29 := Ht.out.cell 2 (v := .slice pa ps.length pc) rfl
        have f29 := Ht.out.frozen 2
        have t0 : Str (wX.setCell ⟨Bv, 2, none⟩ (.slice am ms.length cm)) Bv 25 #[.int .i64 N, .int .i64 a, .slice am ms.length cm, .int .i64 d] := by have := Ht.out.set 2 (.slice am ms.length cm); simpa using this
        have t1 := Hz.out.other hB6 2 (.slice am ms.length cm)
        have m0 := Str.cell t0 0 (v := .int .i64 N) rfl
        have m1 := Str.cell t0 1 (v := .int .i64 a) rfl
        have m2 := Str.cell t0 2 (v := .slice am ms.length cm) rfl
        have m3 := Str.cell t0 3 (v := .int .i64 d) rfl
        have j0 := Str.cell t1 0 (v := (.int .i64 0)) rfl
        have j1 := Str.cell t1 1 (v := (.int .i64 0)) rfl
        have j2 := Str.cell t1 2 (v := (.slice none 0 0)) rfl
        have j3 := Str.cell t1 3 (v := (.int .i64 0)) rfl
        have g0 := Str.frozen t1 0
        have g1 := Str.frozen t1 1
        have g2 := Str.frozen t1 2
        have g3 := Str.frozen t1 3
        have u := (Str.set (Str.set (Str.set (Str.set t1 0 (.int .i64 N)) 1 (.int .i64 a)) 2 (.slice am ms.length cm)) 3 (.int .i64 d))
        have e0 := Str.cell u 0 (v := .int .i64 N) rfl
        have e1 := Str.cell u 1 (v := .int .i64 a) rfl
        have e2 := Str.cell u 2 (v := .slice am ms.length cm) rfl
        have e3 := Str.cell u 3 (v := .int .i64 d) rfl
        clear u t0 t1
        go_wp2
        refine bodyPost_ret (v := .agg #[.int .i64 N, .int .i64 a, .slice am ms.length cm, .int .i64 d]) (by simp [results, Try.f26, go_sem, e0, e1, e2, e3]) rfl ?_
        exact ⟨⟨N, a, ms, d⟩, _, rfl, (Own.set_other (Own.set_other (Own.set_other (Own.set_other ((Hum.out.mono (show w.heap.size ≤ wS.heap.size by omega)).set_other hnbm 2 (.slice am ms.length cm)) hn6 0 _) hn6 1 _) hn6 2 _) hn6 3 _), (by show ms.length ≤ 300; omega), (grown_row (grown_row (grown_row (grown_row (grown_row Hgr.out (grownBy_set wX Bv 2 (.slice am ms.length cm)) (fun q e => by cases e; omega)) (grownBy_set _ w.heap.size 0 (.int .i64 N)) (fun q e => by cases e; exact Nat.le_refl _)) (grownBy_set _ w.heap.size 1 (.int .i64 a)) (fun q e => by cases e; exact Nat.le_refl _)) (grownBy_set _ w.heap.size 2 (.slice am ms.length cm)) (fun q e => by cases e; exact Nat.le_refl _)) (grownBy_set _ w.heap.size 3 (.int .i64 d)) (fun q e => by cases e; exact Nat.le_refl _))⟩
      have e0' : (s == 0) = false := by rw [beq_eq_false_iff_ne]; exact h0
      clear h0
      by_cases h1 : s = 1
      · subst h1
        go_wp2_with fail
        refine (pick_any R 9 (pB + 1) _ (by omega) Hrd.out (by omega)).mono ?_
        rintro e wX ⟨z, rfl, hz0, hz1, hrX, hgX⟩
        have hsX := hgX.size
        have Ht := Lib.hid (Ht.out.kept hgX (by simp; omega))
        have Hz := Lib.hid (Hz.out.kept hgX (by simp; omega))
        have Hop := Lib.hid (Hop.out.kept hgX (.inr fun e => by have := (Hop.out.lt R e).1; omega))
        have Hgr := Lib.hid (grownBy_trans Hgr.out hgX); clear hgX
        have hwz : IntKind.i64.wrap (z - 1) = z - 1 := IntWalk.i64_in _ (by omega)
        have hnb : (Value.slice pa ps.length pc).ownBlock ≠ some Bv := Hnb.out
        have hn6 : (Value.slice pa ps.length pc).ownBlock ≠ some w.heap.size := fun e => by have := (Hop.out.lt _ e).1; omega
        have o19 := Ht.out.cell 1 (v := .int .i64 a) rfl
        have f19 := Ht.out.frozen 1
        have t0 : Str (wX.setCell ⟨Bv, 1, none⟩ (.int .i64 (z - 1))) Bv 25 #[.int .i64 N, .int .i64 (z - 1), .slice pa ps.length pc, .int .i64 d] := by have := Ht.out.set 1 (.int .i64 (z - 1)); simpa using this
        have t1 := Hz.out.other hB6 1 (.int .i64 (z - 1))
        have m0 := Str.cell t0 0 (v := .int .i64 N) rfl
        have m1 := Str.cell t0 1 (v := .int .i64 (z - 1)) rfl
        have m2 := Str.cell t0 2 (v := .slice pa ps.length pc) rfl
        have m3 := Str.cell t0 3 (v := .int .i64 d) rfl
        have j0 := Str.cell t1 0 (v := (.int .i64 0)) rfl
        have j1 := Str.cell t1 1 (v := (.int .i64 0)) rfl
        have j2 := Str.cell t1 2 (v := (.slice none 0 0)) rfl
        have j3 := Str.cell t1 3 (v := (.int .i64 0)) rfl
        have g0 := Str.frozen t1 0
        have g1 := Str.frozen t1 1
        have g2 := Str.frozen t1 2
        have g3 := Str.frozen t1 3
        have u := (Str.set (Str.set (Str.set (Str.set t1 0 (.int .i64 N)) 1 (.int .i64 (z - 1))) 2 (.slice pa ps.length pc)) 3 (.int .i64 d))
        have e0 := Str.cell u 0 (v := .int .i64 N) rfl
        have e1 := Str.cell u 1 (v := .int .i64 (z - 1)) rfl
        have e2 := Str.cell u 2 (v := .slice pa ps.length pc) rfl
        have e3 := Str.cell u 3 (v := .int .i64 d) rfl
        clear u t0 t1
        go_wp2
        refine bodyPost_ret (v := .agg #[.int .i64 N, .int .i64 (z - 1), .slice pa ps.length pc, .int .i64 d]) (by simp [results, Try.f26, go_sem, e0, e1, e2, e3]) rfl ?_
        exact ⟨⟨N, (z - 1), ps, d⟩, _, rfl, (Own.set_other (Own.set_other (Own.set_other (Own.set_other ((Hop.out.mono (Nat.le_succ _)).set_other hnb 1 (.int .i64 (z - 1))) hn6 0 _) hn6 1 _) hn6 2 _) hn6 3 _), hpl, (grown_row (grown_row (grown_row (grown_row (grown_row Hgr.out (grownBy_set wX Bv 1 (.int .i64 (z - 1))) (fun q e => by cases e; omega)) (grownBy_set _ w.heap.size 0 (.int .i64 N)) (fun q e => by cases e; exact Nat.le_refl _)) (grownBy_set _ w.heap.size 1 (.int .i64 (z - 1))) (fun q e => by cases e; exact Nat.le_refl _)) (grownBy_set _ w.heap.size 2 (.slice pa ps.length pc)) (fun q e => by cases e; exact Nat.le_refl _)) (grownBy_set _ w.heap.size 3 (.int .i64 d)) (fun q e => by cases e; exact Nat.le_refl _))⟩
      have e1' : (s == 1) = false := by rw [beq_eq_false_iff_ne]; exact h1
      clear h1
      by_cases h2 : s = 2
      · subst h2
        go_wp2_with fail
        refine (pick_any R 33 (pB + 1) _ (by omega) Hrd.out (by omega)).mono ?_
        rintro e wX ⟨z, rfl, hz0, hz1, hrX, hgX⟩
        have hsX := hgX.size
        have Ht := Lib.hid (Ht.out.kept hgX (by simp; omega))
        have Hz := Lib.hid (Hz.out.kept hgX (by simp; omega))
        have Hop := Lib.hid (Hop.out.kept hgX (.inr fun e => by have := (Hop.out.lt R e).1; omega))
        have Hgr := Lib.hid (grownBy_trans Hgr.out hgX); clear hgX
        have hwz : IntKind.i64.wrap (z - 1) = z - 1 := IntWalk.i64_in _ (by omega)
        have hnb : (Value.slice pa ps.length pc).ownBlock ≠ some Bv := Hnb.out
        have hn6 : (Value.slice pa ps.length pc).ownBlock ≠ some w.heap.size := fun e => by have := (Hop.out.lt _ e).1; omega
        have o09 := Ht.out.cell 0 (v := .int .i64 N) rfl
        have f09 := Ht.out.frozen 0
        have t0 : Str (wX.setCell ⟨Bv, 0, none⟩ (.int .i64 (z - 1))) Bv 25 #[.int .i64 (z - 1), .int .i64 a, .slice pa ps.length pc, .int .i64 d] := by have := Ht.out.set 0 (.int .i64 (z - 1)); simpa using this
        have t1 := Hz.out.other hB6 0 (.int .i64 (z - 1))
        have m0 := Str.cell t0 0 (v := .int .i64 (z - 1)) rfl
        have m1 := Str.cell t0 1 (v := .int .i64 a) rfl
        have m2 := Str.cell t0 2 (v := .slice pa ps.length pc) rfl
        have m3 := Str.cell t0 3 (v := .int .i64 d) rfl
        have j0 := Str.cell t1 0 (v := (.int .i64 0)) rfl
        have j1 := Str.cell t1 1 (v := (.int .i64 0)) rfl
        have j2 := Str.cell t1 2 (v := (.slice none 0 0)) rfl
        have j3 := Str.cell t1 3 (v := (.int .i64 0)) rfl
        have g0 := Str.frozen t1 0
        have g1 := Str.frozen t1 1
        have g2 := Str.frozen t1 2
        have g3 := Str.frozen t1 3
        have u := (Str.set (Str.set (Str.set (Str.set t1 0 (.int .i64 (z - 1))) 1 (.int .i64 a)) 2 (.slice pa ps.length pc)) 3 (.int .i64 d))
        have e0 := Str.cell u 0 (v := .int .i64 (z - 1)) rfl
        have e1 := Str.cell u 1 (v := .int .i64 a) rfl
        have e2 := Str.cell u 2 (v := .slice pa ps.length pc) rfl
        have e3 := Str.cell u 3 (v := .int .i64 d) rfl
        clear u t0 t1
        go_wp2
        refine bodyPost_ret (v := .agg #[.int .i64 (z - 1), .int .i64 a, .slice pa ps.length pc, .int .i64 d]) (by simp [results, Try.f26, go_sem, e0, e1, e2, e3]) rfl ?_
        exact ⟨⟨(z - 1), a, ps, d⟩, _, rfl, (Own.set_other (Own.set_other (Own.set_other (Own.set_other ((Hop.out.mono (Nat.le_succ _)).set_other hnb 0 (.int .i64 (z - 1))) hn6 0 _) hn6 1 _) hn6 2 _) hn6 3 _), hpl, (grown_row (grown_row (grown_row (grown_row (grown_row Hgr.out (grownBy_set wX Bv 0 (.int .i64 (z - 1))) (fun q e => by cases e; omega)) (grownBy_set _ w.heap.size 0 (.int .i64 (z - 1))) (fun q e => by cases e; exact Nat.le_refl _)) (grownBy_set _ w.heap.size 1 (.int .i64 a)) (fun q e => by cases e; exact Nat.le_refl _)) (grownBy_set _ w.heap.size 2 (.slice pa ps.length pc)) (fun q e => by cases e; exact Nat.le_refl _)) (grownBy_set _ w.heap.size 3 (.int .i64 d)) (fun q e => by cases e; exact Nat.le_refl _))⟩
      have e2' : (s == 2) = false := by rw [beq_eq_false_iff_ne]; exact h2
      clear h2
      by_cases h3 : s = 3
      · subst h3
        by_cases hgz : g.length = 0
        · have hd0 : decide ((0 : Int) < (g.length : Int)) = false := decide_eq_false (by omega)
          have hd0' : ¬ (0 : Int) < (g.length : Int) := by omega
          have hnb : (Value.slice pa ps.length pc).ownBlock ≠ some Bv := Hnb.out
          have hn6 : (Value.slice pa ps.length pc).ownBlock ≠ some w.heap.size := fun e => by have := (Hop.out.lt _ e).1; omega
          have t0 := Ht.out
          have t1 := Hz.out
          clear hnb
          have m0 := Str.cell t0 0 (v := .int .i64 N) rfl
          have m1 := Str.cell t0 1 (v := .int .i64 a) rfl
          have m2 := Str.cell t0 2 (v := .slice pa ps.length pc) rfl
          have m3 := Str.cell t0 3 (v := .int .i64 d) rfl
          have j0 := Str.cell t1 0 (v := (.int .i64 0)) rfl
          have j1 := Str.cell t1 1 (v := (.int .i64 0)) rfl
          have j2 := Str.cell t1 2 (v := (.slice none 0 0)) rfl
          have j3 := Str.cell t1 3 (v := (.int .i64 0)) rfl
          have g0 := Str.frozen t1 0
          have g1 := Str.frozen t1 1
          have g2 := Str.frozen t1 2
          have g3 := Str.frozen t1 3
          have u := (Str.set (Str.set (Str.set (Str.set t1 0 (.int .i64 N)) 1 (.int .i64 a)) 2 (.slice pa ps.length pc)) 3 (.int .i64 d))
          have e0 := Str.cell u 0 (v := .int .i64 N) rfl
          have e1 := Str.cell u 1 (v := .int .i64 a) rfl
          have e2 := Str.cell u 2 (v := .slice pa ps.length pc) rfl
          have e3 := Str.cell u 3 (v := .int .i64 d) rfl
          clear u t1
          go_wp2
          refine bodyPost_ret (v := .agg #[.int .i64 N, .int .i64 a, .slice pa ps.length pc, .int .i64 d]) (by simp [results, Try.f26, go_sem, e0, e1, e2, e3]) rfl ?_
          exact ⟨⟨N, a, ps, d⟩, _, rfl, (Own.set_other (Own.set_other (Own.set_other (Own.set_other (Hop.out.mono (Nat.le_succ _)) hn6 0 _) hn6 1 _) hn6 2 _) hn6 3 _), hpl, (grown_row (grown_row (grown_row (grown_row Hgr.out (grownBy_set _ w.heap.size 0 (.int .i64 N)) (fun q e => by cases e; exact Nat.le_refl _)) (grownBy_set _ w.heap.size 1 (.int .i64 a)) (fun q e => by cases e; exact Nat.le_refl _)) (grownBy_set _ w.heap.size 2 (.slice pa ps.length pc)) (fun q e => by cases e; exact Nat.le_refl _)) (grownBy_set _ w.heap.size 3 (.int .i64 d)) (fun q e => by cases e; exact Nat.le_refl _))⟩
        have hd0 : decide ((0 : Int) < (g.length : Int)) = true := decide_eq_true (by omega)
        have hd0' : (0 : Int) < (g.length : Int) := by omega
        go_wp2_with fail
        refine (pick_any R (g.length : Int) (pB + 1) _ (by omega) Hrd.out (by omega)).mono ?_
        rintro e wX ⟨k, rfl, hk0, hk1, hrX, hgX⟩
        obtain ⟨k, rfl⟩ := Int.eq_ofNat_of_zero_le hk0
        have hk : k < g.length := by omega
        have hsX := hgX.size
        have Hz := Lib.hid (Hz.out.kept hgX (by simp; omega))
        have Hgr := Lib.hid (grownBy_trans Hgr.out hgX); clear hgX
        obtain ⟨gb, off, rfl, _, hat⟩ := (Hg.out _ Hgr.out).at (by omega)
        obtain ⟨c0, c1, ⟨pk, ck, c2, i2, s2⟩, c3⟩ := hat k hk
        have hpk := Hps.out _ (List.getElem_mem hk)
        have Hone := Lib.hid (spec_l11One g[k].r g[k].a g[k].d pk ck g[k].ps wX (by omega) s2 i2)
        clear hat i2 s2
        generalize g[k] = x at *
        go_wp2_with fail
        refine Hone.out.mono ?_
        rintro e wY ⟨uy, rfl, huy, hbY⟩
        have hsY := hbY.size
        have t1 : Str wY w.heap.size 25 #[.int .i64 0, .int .i64 0, .slice none 0 0, .int .i64 0] := (hbY.block _ Hz.out.lt).trans Hz.out
        have Hgr := Lib.hid (grown_row Hgr.out (below_grown hbY) (fun q e => by cases e)); clear hbY
        obtain ⟨ay, cy, rfl, _, _⟩ := huy.ints
        have Huy := Lib.hid huy; clear huy
        have hn6 : (Value.slice ay x.ps.length cy).ownBlock ≠ some w.heap.size := fun e => by have := (Huy.out.lt _ e).1; omega
        have j0 := Str.cell t1 0 (v := (.int .i64 0)) rfl
        have j1 := Str.cell t1 1 (v := (.int .i64 0)) rfl
        have j2 := Str.cell t1 2 (v := (.slice none 0 0)) rfl
        have j3 := Str.cell t1 3 (v := (.int .i64 0)) rfl
        have g0 := Str.frozen t1 0
        have g1 := Str.frozen t1 1
        have g2 := Str.frozen t1 2
        have g3 := Str.frozen t1 3
        have u := (Str.set (Str.set (Str.set (Str.set t1 0 (.int .i64 x.r)) 1 (.int .i64 x.a)) 2 (.slice ay x.ps.length cy)) 3 (.int .i64 x.d))
        have e0 := Str.cell u 0 (v := .int .i64 x.r) rfl
        have e1 := Str.cell u 1 (v := .int .i64 x.a) rfl
        have e2 := Str.cell u 2 (v := .slice ay x.ps.length cy) rfl
        have e3 := Str.cell u 3 (v := .int .i64 x.d) rfl
        clear u t1
        go_wp2
        refine bodyPost_ret (v := .agg #[.int .i64 x.r, .int .i64 x.a, .slice ay x.ps.length cy, .int .i64 x.d]) (by simp [results, Try.f26, go_sem, e0, e1, e2, e3]) rfl ?_
        exact ⟨⟨x.r, x.a, x.ps, x.d⟩, _, rfl, (Own.set_other (Own.set_other (Own.set_other (Own.set_other (Huy.out.mono (show w.heap.size ≤ wX.heap.size by omega)) hn6 0 _) hn6 1 _) hn6 2 _) hn6 3 _), (by show x.ps.length ≤ 300; omega), (grown_row (grown_row (grown_row (grown_row Hgr.out (grownBy_set _ w.heap.size 0 (.int .i64 x.r)) (fun q e => by cases e; exact Nat.le_refl _)) (grownBy_set _ w.heap.size 1 (.int .i64 x.a)) (fun q e => by cases e; exact Nat.le_refl _)) (grownBy_set _ w.heap.size 2 (.slice ay x.ps.length cy)) (fun q e => by cases e; exact Nat.le_refl _)) (grownBy_set _ w.heap.size 3 (.int .i64 x.d)) (fun q e => by cases e; exact Nat.le_refl _))⟩
      have e3' : (s == 3) = false := by rw [beq_eq_false_iff_ne]; exact h3
      clear h3
      by_cases h4 : s = 4
      · subst h4
        by_cases hgz : g.length = 0
        · have hd0 : decide ((0 : Int) < (g.length : Int)) = false := decide_eq_false (by omega)
          have hd0' : ¬ (0 : Int) < (g.length : Int) := by omega
          have hnb : (Value.slice pa ps.length pc).ownBlock ≠ some Bv := Hnb.out
          have hn6 : (Value.slice pa ps.length pc).ownBlock ≠ some w.heap.size := fun e => by have := (Hop.out.lt _ e).1; omega
          have t0 := Ht.out
          have t1 := Hz.out
          clear hnb
          have m0 := Str.cell t0 0 (v := .int .i64 N) rfl
          have m1 := Str.cell t0 1 (v := .int .i64 a) rfl
          have m2 := Str.cell t0 2 (v := .slice pa ps.length pc) rfl
          have m3 := Str.cell t0 3 (v := .int .i64 d) rfl
          have j0 := Str.cell t1 0 (v := (.int .i64 0)) rfl
          have j1 := Str.cell t1 1 (v := (.int .i64 0)) rfl
          have j2 := Str.cell t1 2 (v := (.slice none 0 0)) rfl
          have j3 := Str.cell t1 3 (v := (.int .i64 0)) rfl
          have g0 := Str.frozen t1 0
          have g1 := Str.frozen t1 1
          have g2 := Str.frozen t1 2
          have g3 := Str.frozen t1 3
          have u := (Str.set (Str.set (Str.set (Str.set t1 0 (.int .i64 N)) 1 (.int .i64 a)) 2 (.slice pa ps.length pc)) 3 (.int .i64 d))
          have e0 := Str.cell u 0 (v := .int .i64 N) rfl
          have e1 := Str.cell u 1 (v := .int .i64 a) rfl
          have e2 := Str.cell u 2 (v := .slice pa ps.length pc) rfl
          have e3 := Str.cell u 3 (v := .int .i64 d) rfl
          clear u t1
          go_wp2
          refine bodyPost_ret (v := .agg #[.int .i64 N, .int .i64 a, .slice pa ps.length pc, .int .i64 d]) (by simp [results, Try.f26, go_sem, e0, e1, e2, e3]) rfl ?_
          exact ⟨⟨N, a, ps, d⟩, _, rfl, (Own.set_other (Own.set_other (Own.set_other (Own.set_other (Hop.out.mono (Nat.le_succ _)) hn6 0 _) hn6 1 _) hn6 2 _) hn6 3 _), hpl, (grown_row (grown_row (grown_row (grown_row Hgr.out (grownBy_set _ w.heap.size 0 (.int .i64 N)) (fun q e => by cases e; exact Nat.le_refl _)) (grownBy_set _ w.heap.size 1 (.int .i64 a)) (fun q e => by cases e; exact Nat.le_refl _)) (grownBy_set _ w.heap.size 2 (.slice pa ps.length pc)) (fun q e => by cases e; exact Nat.le_refl _)) (grownBy_set _ w.heap.size 3 (.int .i64 d)) (fun q e => by cases e; exact Nat.le_refl _))⟩
        have hd0 : decide ((0 : Int) < (g.length : Int)) = true := decide_eq_true (by omega)
        have hd0' : (0 : Int) < (g.length : Int) := by omega
        go_wp2_with fail
        refine (pick_any R (g.length : Int) (pB + 1) _ (by omega) Hrd.out (by omega)).mono ?_
        rintro e wX ⟨k, rfl, hk0, hk1, hrX, hgX⟩
        obtain ⟨k, rfl⟩ := Int.eq_ofNat_of_zero_le hk0
        have hk : k < g.length := by omega
        have hsX := hgX.size
        have Hz := Lib.hid (Hz.out.kept hgX (by simp; omega))
        have Hgr := Lib.hid (grownBy_trans Hgr.out hgX); clear hgX
        obtain ⟨gb, off, rfl, _, hat⟩ := (Hg.out _ Hgr.out).at (by omega)
        obtain ⟨c0, c1, ⟨pk, ck, c2, i2, s2⟩, c3⟩ := hat k hk
        have hpk := Hps.out _ (List.getElem_mem hk)
        have Hone := Lib.hid (spec_l11One g[k].r g[k].a g[k].d pk ck g[k].ps wX (by omega) s2 i2)
        clear hat i2 s2
        generalize g[k] = x at *
        go_wp2_with fail
        refine Hone.out.mono ?_
        rintro e wY ⟨uy, rfl, huy, hbY⟩
        have hsY := hbY.size
        have t1 : Str wY w.heap.size 25 #[.int .i64 0, .int .i64 0, .slice none 0 0, .int .i64 0] := (hbY.block _ Hz.out.lt).trans Hz.out
        have Hgr := Lib.hid (grown_row Hgr.out (below_grown hbY) (fun q e => by cases e)); clear hbY
        obtain ⟨ay, cy, rfl, _, _⟩ := huy.ints
        have Huy := Lib.hid huy; clear huy
        have hn6 : (Value.slice ay x.ps.length cy).ownBlock ≠ some w.heap.size := fun e => by have := (Huy.out.lt _ e).1; omega
        have j0 := Str.cell t1 0 (v := (.int .i64 0)) rfl
        have j1 := Str.cell t1 1 (v := (.int .i64 0)) rfl
        have j2 := Str.cell t1 2 (v := (.slice none 0 0)) rfl
        have j3 := Str.cell t1 3 (v := (.int .i64 0)) rfl
        have g0 := Str.frozen t1 0
        have g1 := Str.frozen t1 1
        have g2 := Str.frozen t1 2
        have g3 := Str.frozen t1 3
        have u := (Str.set (Str.set (Str.set (Str.set t1 0 (.int .i64 x.r)) 1 (.int .i64 x.a)) 2 (.slice ay x.ps.length cy)) 3 (.int .i64 x.d))
        have e0 := Str.cell u 0 (v := .int .i64 x.r) rfl
        have e1 := Str.cell u 1 (v := .int .i64 x.a) rfl
        have e2 := Str.cell u 2 (v := .slice ay x.ps.length cy) rfl
        have e3 := Str.cell u 3 (v := .int .i64 x.d) rfl
        clear u t1
        go_wp2
        refine bodyPost_ret (v := .agg #[.int .i64 x.r, .int .i64 x.a, .slice ay x.ps.length cy, .int .i64 x.d]) (by simp [results, Try.f26, go_sem, e0, e1, e2, e3]) rfl ?_
        exact ⟨⟨x.r, x.a, x.ps, x.d⟩, _, rfl, (Own.set_other (Own.set_other (Own.set_other (Own.set_other (Huy.out.mono (show w.heap.size ≤ wX.heap.size by omega)) hn6 0 _) hn6 1 _) hn6 2 _) hn6 3 _), (by show x.ps.length ≤ 300; omega), (grown_row (grown_row (grown_row (grown_row Hgr.out (grownBy_set _ w.heap.size 0 (.int .i64 x.r)) (fun q e => by cases e; exact Nat.le_refl _)) (grownBy_set _ w.heap.size 1 (.int .i64 x.a)) (fun q e => by cases e; exact Nat.le_refl _)) (grownBy_set _ w.heap.size 2 (.slice ay x.ps.length cy)) (fun q e => by cases e; exact Nat.le_refl _)) (grownBy_set _ w.heap.size 3 (.int .i64 x.d)) (fun q e => by cases e; exact Nat.le_refl _))⟩
      have e4' : (s == 4) = false := by rw [beq_eq_false_iff_ne]; exact h4
      clear h4
      by_cases h5 : s = 5
      · subst h5
        by_cases hgz : g.length = 0
        · have hd0 : decide ((0 : Int) < (g.length : Int)) = false := decide_eq_false (by omega)
          have hd0' : ¬ (0 : Int) < (g.length : Int) := by omega
          have hnb : (Value.slice pa ps.length pc).ownBlock ≠ some Bv := Hnb.out
          have hn6 : (Value.slice pa ps.length pc).ownBlock ≠ some w.heap.size := fun e => by have := (Hop.out.lt _ e).1; omega
          have t0 := Ht.out
          have t1 := Hz.out
          clear hnb
          have m0 := Str.cell t0 0 (v := .int .i64 N) rfl
          have m1 := Str.cell t0 1 (v := .int .i64 a) rfl
          have m2 := Str.cell t0 2 (v := .slice pa ps.length pc) rfl
          have m3 := Str.cell t0 3 (v := .int .i64 d) rfl
          have j0 := Str.cell t1 0 (v := (.int .i64 0)) rfl
          have j1 := Str.cell t1 1 (v := (.int .i64 0)) rfl
          have j2 := Str.cell t1 2 (v := (.slice none 0 0)) rfl
          have j3 := Str.cell t1 3 (v := (.int .i64 0)) rfl
          have g0 := Str.frozen t1 0
          have g1 := Str.frozen t1 1
          have g2 := Str.frozen t1 2
          have g3 := Str.frozen t1 3
          have u := (Str.set (Str.set (Str.set (Str.set t1 0 (.int .i64 N)) 1 (.int .i64 a)) 2 (.slice pa ps.length pc)) 3 (.int .i64 d))
          have e0 := Str.cell u 0 (v := .int .i64 N) rfl
          have e1 := Str.cell u 1 (v := .int .i64 a) rfl
          have e2 := Str.cell u 2 (v := .slice pa ps.length pc) rfl
          have e3 := Str.cell u 3 (v := .int .i64 d) rfl
          clear u t1
          go_wp2
          refine bodyPost_ret (v := .agg #[.int .i64 N, .int .i64 a, .slice pa ps.length pc, .int .i64 d]) (by simp [results, Try.f26, go_sem, e0, e1, e2, e3]) rfl ?_
          exact ⟨⟨N, a, ps, d⟩, _, rfl, (Own.set_other (Own.set_other (Own.set_other (Own.set_other (Hop.out.mono (Nat.le_succ _)) hn6 0 _) hn6 1 _) hn6 2 _) hn6 3 _), hpl, (grown_row (grown_row (grown_row (grown_row Hgr.out (grownBy_set _ w.heap.size 0 (.int .i64 N)) (fun q e => by cases e; exact Nat.le_refl _)) (grownBy_set _ w.heap.size 1 (.int .i64 a)) (fun q e => by cases e; exact Nat.le_refl _)) (grownBy_set _ w.heap.size 2 (.slice pa ps.length pc)) (fun q e => by cases e; exact Nat.le_refl _)) (grownBy_set _ w.heap.size 3 (.int .i64 d)) (fun q e => by cases e; exact Nat.le_refl _))⟩
        have hd0 : decide ((0 : Int) < (g.length : Int)) = true := decide_eq_true (by omega)
        have hd0' : (0 : Int) < (g.length : Int) := by omega
        go_wp2_with fail
        refine (pick_any R (g.length : Int) (pB + 1) _ (by omega) Hrd.out (by omega)).mono ?_
        rintro e wX ⟨k, rfl, hk0, hk1, hrX, hgX⟩
        obtain ⟨k, rfl⟩ := Int.eq_ofNat_of_zero_le hk0
        have hk : k < g.length := by omega
        have hsX := hgX.size
        have Hz := Lib.hid (Hz.out.kept hgX (by simp; omega))
        have Hgr := Lib.hid (grownBy_trans Hgr.out hgX); clear hgX
        obtain ⟨gb, off, rfl, _, hat⟩ := (Hg.out _ Hgr.out).at (by omega)
        obtain ⟨c0, c1, ⟨pk, ck, c2, i2, s2⟩, c3⟩ := hat k hk
        have hpk := Hps.out _ (List.getElem_mem hk)
        have Hone := Lib.hid (spec_l11One g[k].r g[k].a g[k].d pk ck g[k].ps wX (by omega) s2 i2)
        clear hat i2 s2
        generalize g[k] = x at *
        go_wp2_with fail
        refine Hone.out.mono ?_
        rintro e wY ⟨uy, rfl, huy, hbY⟩
        have hsY := hbY.size
        have t1 : Str wY w.heap.size 25 #[.int .i64 0, .int .i64 0, .slice none 0 0, .int .i64 0] := (hbY.block _ Hz.out.lt).trans Hz.out
        have Hgr := Lib.hid (grown_row Hgr.out (below_grown hbY) (fun q e => by cases e)); clear hbY
        obtain ⟨ay, cy, rfl, _, _⟩ := huy.ints
        have Huy := Lib.hid huy; clear huy
        have hn6 : (Value.slice ay x.ps.length cy).ownBlock ≠ some w.heap.size := fun e => by have := (Huy.out.lt _ e).1; omega
        have j0 := Str.cell t1 0 (v := (.int .i64 0)) rfl
        have j1 := Str.cell t1 1 (v := (.int .i64 0)) rfl
        have j2 := Str.cell t1 2 (v := (.slice none 0 0)) rfl
        have j3 := Str.cell t1 3 (v := (.int .i64 0)) rfl
        have g0 := Str.frozen t1 0
        have g1 := Str.frozen t1 1
        have g2 := Str.frozen t1 2
        have g3 := Str.frozen t1 3
        have u := (Str.set (Str.set (Str.set (Str.set t1 0 (.int .i64 x.r)) 1 (.int .i64 x.a)) 2 (.slice ay x.ps.length cy)) 3 (.int .i64 x.d))
        have e0 := Str.cell u 0 (v := .int .i64 x.r) rfl
        have e1 := Str.cell u 1 (v := .int .i64 x.a) rfl
        have e2 := Str.cell u 2 (v := .slice ay x.ps.length cy) rfl
        have e3 := Str.cell u 3 (v := .int .i64 x.d) rfl
        clear u t1
        go_wp2
        refine bodyPost_ret (v := .agg #[.int .i64 x.r, .int .i64 x.a, .slice ay x.ps.length cy, .int .i64 x.d]) (by simp [results, Try.f26, go_sem, e0, e1, e2, e3]) rfl ?_
        exact ⟨⟨x.r, x.a, x.ps, x.d⟩, _, rfl, (Own.set_other (Own.set_other (Own.set_other (Own.set_other (Huy.out.mono (show w.heap.size ≤ wX.heap.size by omega)) hn6 0 _) hn6 1 _) hn6 2 _) hn6 3 _), (by show x.ps.length ≤ 300; omega), (grown_row (grown_row (grown_row (grown_row Hgr.out (grownBy_set _ w.heap.size 0 (.int .i64 x.r)) (fun q e => by cases e; exact Nat.le_refl _)) (grownBy_set _ w.heap.size 1 (.int .i64 x.a)) (fun q e => by cases e; exact Nat.le_refl _)) (grownBy_set _ w.heap.size 2 (.slice ay x.ps.length cy)) (fun q e => by cases e; exact Nat.le_refl _)) (grownBy_set _ w.heap.size 3 (.int .i64 x.d)) (fun q e => by cases e; exact Nat.le_refl _))⟩
      have e5' : (s == 5) = false := by rw [beq_eq_false_iff_ne]; exact h5
      clear h5
      have hnb : (Value.slice pa ps.length pc).ownBlock ≠ some Bv := Hnb.out
      have hn6 : (Value.slice pa ps.length pc).ownBlock ≠ some w.heap.size := fun e => by have := (Hop.out.lt _ e).1; omega
      have t0 := Ht.out
      have t1 := Hz.out
      clear hnb
      have m0 := Str.cell t0 0 (v := .int .i64 N) rfl
      have m1 := Str.cell t0 1 (v := .int .i64 a) rfl
      have m2 := Str.cell t0 2 (v := .slice pa ps.length pc) rfl
      have m3 := Str.cell t0 3 (v := .int .i64 d) rfl
      have j0 := Str.cell t1 0 (v := (.int .i64 0)) rfl
      have j1 := Str.cell t1 1 (v := (.int .i64 0)) rfl
      have j2 := Str.cell t1 2 (v := (.slice none 0 0)) rfl
      have j3 := Str.cell t1 3 (v := (.int .i64 0)) rfl
      have g0 := Str.frozen t1 0
      have g1 := Str.frozen t1 1
      have g2 := Str.frozen t1 2
      have g3 := Str.frozen t1 3
      have u := (Str.set (Str.set (Str.set (Str.set t1 0 (.int .i64 N)) 1 (.int .i64 a)) 2 (.slice pa ps.length pc)) 3 (.int .i64 d))
      have e0 := Str.cell u 0 (v := .int .i64 N) rfl
      have e1 := Str.cell u 1 (v := .int .i64 a) rfl
      have e2 := Str.cell u 2 (v := .slice pa ps.length pc) rfl
      have e3 := Str.cell u 3 (v := .int .i64 d) rfl
      clear u t0 t1
      go_wp2
      refine bodyPost_ret (v := .agg #[.int .i64 N, .int .i64 a, .slice pa ps.length pc, .int .i64 d]) (by simp [results, Try.f26, go_sem, e0, e1, e2, e3]) rfl ?_
      exact ⟨⟨N, a, ps, d⟩, _, rfl, (Own.set_other (Own.set_other (Own.set_other (Own.set_other (Hop.out.mono (Nat.le_succ _)) hn6 0 _) hn6 1 _) hn6 2 _) hn6 3 _), hpl, (grown_row (grown_row (grown_row (grown_row Hgr.out (grownBy_set _ w.heap.size 0 (.int .i64 N)) (fun q e => by cases e; exact Nat.le_refl _)) (grownBy_set _ w.heap.size 1 (.int .i64 a)) (fun q e => by cases e; exact Nat.le_refl _)) (grownBy_set _ w.heap.size 2 (.slice pa ps.length pc)) (fun q e => by cases e; exact Nat.le_refl _)) (grownBy_set _ w.heap.size 3 (.int .i64 d)) (fun q e => by cases e; exact Nat.le_refl _))⟩
    have hNd : decide ((0 : Int) < N) = false := decide_eq_false hN
    go_wp2_with fail
    generalize wB.alloc (.cells #[.int .i64 N, .int .i64 a, .slice (some ⟨wA.heap.size, 0, none⟩) 0 0, .int .i64 d] 25) = wC at *
    generalize wB.heap.size = Bv at *
    obtain ⟨pa, pc, ps, e1, e2, e3⟩ : ∃ (pa : Option Addr) (pc : Nat) (ps : List Int), pa = some ⟨wA.heap.size, 0, none⟩ ∧ pc = 0 ∧ ps = [] := ⟨_, _, _, rfl, rfl, rfl⟩
    have hpl : ps.length ≤ 300 := by subst e3; simp
    have Hop : Hid (Own 3 wC (w.heap.size + 1) (.slice pa ps.length pc) ps) := by subst e1 e2 e3; exact Hop0
    have Ht : Hid (Str wC Bv 25 #[.int .i64 N, .int .i64 a, .slice pa ps.length pc, .int .i64 d]) := by subst e1 e2 e3; exact Ht
    have Hnb : Hid ((Value.slice pa ps.length pc).ownBlock ≠ some Bv) := by subst e1 e2 e3; exact Lib.hid (by simp [Value.ownBlock]; omega)
    clear e1 e2 e3 Hop0
    refine (pick_any R 12 (pB) _ (by omega) Hrd.out (by omega)).mono ?_
    rintro e wS ⟨s, rfl, hs0, hs1, hrS, hgS⟩
    have hsS := hgS.size
    have Hrd := Lib.hid hrS; clear hrS
    have Ht := Lib.hid (Ht.out.kept hgS (by simp; omega))
    have Hz := Lib.hid (Hz.out.kept hgS (by simp; omega))
    have Hop := Lib.hid (Hop.out.kept hgS (.inr fun e => by have := (Hop.out.lt R e).1; omega))
    have Hgr := Lib.hid (grownBy_trans Hgr.out hgS); clear hgS hs0 hs1
    by_cases h0 : s = 0
    · subst h0
      go_wp2_with fail
      refine (drawMembers R (pB + 1) c.length _ (by omega) (by omega) Hrd.out (by omega)).mono ?_
      rintro e wX ⟨um, ms, pX, rfl, hum, hml, hrX, hpX, hgX⟩
      have hsX := hgX.size
      have Ht := Lib.hid (Ht.out.kept hgX (by simp; omega))
      have Hz := Lib.hid (Hz.out.kept hgX (by simp; omega))
      have Hgr := Lib.hid (grownBy_trans Hgr.out hgX); clear hgX
      obtain ⟨am, cm, rfl, _, _⟩ := hum.ints
      have Hum := Lib.hid hum; clear hum
      have hnbm : (Value.slice am ms.length cm).ownBlock ≠ some Bv := fun e => by have := (Hum.out.lt _ e).1; omega
      have hn6 : (Value.slice am ms.length cm).ownBlock ≠ some w.heap.size := fun e => by have := (Hum.out.lt _ e).1; omega
      have o29 := Ht.out.cell 2 (v := .slice pa ps.length pc) rfl
      have f29 := Ht.out.frozen 2
      have t0 : Str (wX.setCell ⟨Bv, 2, none⟩ (.slice am ms.length cm)) Bv 25 #[.int .i64 N, .int .i64 a, .slice am ms.length cm, .int .i64 d] := by have := Ht.out.set 2 (.slice am ms.length cm); simpa using this
      have t1 := Hz.out.other hB6 2 (.slice am ms.length cm)
      have m0 := Str.cell t0 0 (v := .int .i64 N) rfl
      have m1 := Str.cell t0 1 (v := .int .i64 a) rfl
      have m2 := Str.cell t0 2 (v := .slice am ms.length cm) rfl
      have m3 := Str.cell t0 3 (v := .int .i64 d) rfl
      have j0 := Str.cell t1 0 (v := (.int .i64 0)) rfl
      have j1 := Str.cell t1 1 (v := (.int .i64 0)) rfl
      have j2 := Str.cell t1 2 (v := (.slice none 0 0)) rfl
      have j3 := Str.cell t1 3 (v := (.int .i64 0)) rfl
      have g0 := Str.frozen t1 0
      have g1 := Str.frozen t1 1
      have g2 := Str.frozen t1 2
      have g3 := Str.frozen t1 3
      have u := (Str.set (Str.set (Str.set (Str.set t1 0 (.int .i64 N)) 1 (.int .i64 a)) 2 (.slice am ms.length cm)) 3 (.int .i64 d))
      have e0 := Str.cell u 0 (v := .int .i64 N) rfl
      have e1 := Str.cell u 1 (v := .int .i64 a) rfl
      have e2 := Str.cell u 2 (v := .slice am ms.length cm) rfl
      have e3 := Str.cell u 3 (v := .int .i64 d) rfl
      clear u t0 t1
      go_wp2
      refine bodyPost_ret (v := .agg #[.int .i64 N, .int .i64 a, .slice am ms.length cm, .int .i64 d]) (by simp [results, Try.f26, go_sem, e0, e1, e2, e3]) rfl ?_
      exact ⟨⟨N, a, ms, d⟩, _, rfl, (Own.set_other (Own.set_other (Own.set_other (Own.set_other ((Hum.out.mono (show w.heap.size ≤ wS.heap.size by omega)).set_other hnbm 2 (.slice am ms.length cm)) hn6 0 _) hn6 1 _) hn6 2 _) hn6 3 _), (by show ms.length ≤ 300; omega), (grown_row (grown_row (grown_row (grown_row (grown_row Hgr.out (grownBy_set wX Bv 2 (.slice am ms.length cm)) (fun q e => by cases e; omega)) (grownBy_set _ w.heap.size 0 (.int .i64 N)) (fun q e => by cases e; exact Nat.le_refl _)) (grownBy_set _ w.heap.size 1 (.int .i64 a)) (fun q e => by cases e; exact Nat.le_refl _)) (grownBy_set _ w.heap.size 2 (.slice am ms.length cm)) (fun q e => by cases e; exact Nat.le_refl _)) (grownBy_set _ w.heap.size 3 (.int .i64 d)) (fun q e => by cases e; exact Nat.le_refl _))⟩
    have e0' : (s == 0) = false := by rw [beq_eq_false_iff_ne]; exact h0
    clear h0
    by_cases h1 : s = 1
    · subst h1
      go_wp2_with fail
      refine (pick_any R 9 (pB + 1) _ (by omega) Hrd.out (by omega)).mono ?_
      rintro e wX ⟨z, rfl, hz0, hz1, hrX, hgX⟩
      have hsX := hgX.size
      have Ht := Lib.hid (Ht.out.kept hgX (by simp; omega))
      have Hz := Lib.hid (Hz.out.kept hgX (by simp; omega))
      have Hop := Lib.hid (Hop.out.kept hgX (.inr fun e => by have := (Hop.out.lt R e).1; omega))
      have Hgr := Lib.hid (grownBy_trans Hgr.out hgX); clear hgX
      have hwz : IntKind.i64.wrap (z - 1) = z - 1 := IntWalk.i64_in _ (by omega)
      have hnb : (Value.slice pa ps.length pc).ownBlock ≠ some Bv := Hnb.out
      have hn6 : (Value.slice pa ps.length pc).ownBlock ≠ some w.heap.size := fun e => by have := (Hop.out.lt _ e).1; omega
      have o19 := Ht.out.cell 1 (v := .int .i64 a) rfl
      have f19 := Ht.out.frozen 1
      have t0 : Str (wX.setCell ⟨Bv, 1, none⟩ (.int .i64 (z - 1))) Bv 25 #[.int .i64 N, .int .i64 (z - 1), .slice pa ps.length pc, .int .i64 d] := by have := Ht.out.set 1 (.int .i64 (z - 1)); simpa using this
      have t1 := Hz.out.other hB6 1 (.int .i64 (z - 1))
      have m0 := Str.cell t0 0 (v := .int .i64 N) rfl
      have m1 := Str.cell t0 1 (v := .int .i64 (z - 1)) rfl
      have m2 := Str.cell t0 2 (v := .slice pa ps.length pc) rfl
      have m3 := Str.cell t0 3 (v := .int .i64 d) rfl
      have j0 := Str.cell t1 0 (v := (.int .i64 0)) rfl
      have j1 := Str.cell t1 1 (v := (.int .i64 0)) rfl
      have j2 := Str.cell t1 2 (v := (.slice none 0 0)) rfl
      have j3 := Str.cell t1 3 (v := (.int .i64 0)) rfl
      have g0 := Str.frozen t1 0
      have g1 := Str.frozen t1 1
      have g2 := Str.frozen t1 2
      have g3 := Str.frozen t1 3
      have u := (Str.set (Str.set (Str.set (Str.set t1 0 (.int .i64 N)) 1 (.int .i64 (z - 1))) 2 (.slice pa ps.length pc)) 3 (.int .i64 d))
      have e0 := Str.cell u 0 (v := .int .i64 N) rfl
      have e1 := Str.cell u 1 (v := .int .i64 (z - 1)) rfl
      have e2 := Str.cell u 2 (v := .slice pa ps.length pc) rfl
      have e3 := Str.cell u 3 (v := .int .i64 d) rfl
      clear u t0 t1
      go_wp2
      refine bodyPost_ret (v := .agg #[.int .i64 N, .int .i64 (z - 1), .slice pa ps.length pc, .int .i64 d]) (by simp [results, Try.f26, go_sem, e0, e1, e2, e3]) rfl ?_
      exact ⟨⟨N, (z - 1), ps, d⟩, _, rfl, (Own.set_other (Own.set_other (Own.set_other (Own.set_other ((Hop.out.mono (Nat.le_succ _)).set_other hnb 1 (.int .i64 (z - 1))) hn6 0 _) hn6 1 _) hn6 2 _) hn6 3 _), hpl, (grown_row (grown_row (grown_row (grown_row (grown_row Hgr.out (grownBy_set wX Bv 1 (.int .i64 (z - 1))) (fun q e => by cases e; omega)) (grownBy_set _ w.heap.size 0 (.int .i64 N)) (fun q e => by cases e; exact Nat.le_refl _)) (grownBy_set _ w.heap.size 1 (.int .i64 (z - 1))) (fun q e => by cases e; exact Nat.le_refl _)) (grownBy_set _ w.heap.size 2 (.slice pa ps.length pc)) (fun q e => by cases e; exact Nat.le_refl _)) (grownBy_set _ w.heap.size 3 (.int .i64 d)) (fun q e => by cases e; exact Nat.le_refl _))⟩
    have e1' : (s == 1) = false := by rw [beq_eq_false_iff_ne]; exact h1
    clear h1
    by_cases h2 : s = 2
    · subst h2
      go_wp2_with fail
      refine (pick_any R 33 (pB + 1) _ (by omega) Hrd.out (by omega)).mono ?_
      rintro e wX ⟨z, rfl, hz0, hz1, hrX, hgX⟩
      have hsX := hgX.size
      have Ht := Lib.hid (Ht.out.kept hgX (by simp; omega))
      have Hz := Lib.hid (Hz.out.kept hgX (by simp; omega))
      have Hop := Lib.hid (Hop.out.kept hgX (.inr fun e => by have := (Hop.out.lt R e).1; omega))
      have Hgr := Lib.hid (grownBy_trans Hgr.out hgX); clear hgX
      have hwz : IntKind.i64.wrap (z - 1) = z - 1 := IntWalk.i64_in _ (by omega)
      have hnb : (Value.slice pa ps.length pc).ownBlock ≠ some Bv := Hnb.out
      have hn6 : (Value.slice pa ps.length pc).ownBlock ≠ some w.heap.size := fun e => by have := (Hop.out.lt _ e).1; omega
      have o09 := Ht.out.cell 0 (v := .int .i64 N) rfl
      have f09 := Ht.out.frozen 0
      have t0 : Str (wX.setCell ⟨Bv, 0, none⟩ (.int .i64 (z - 1))) Bv 25 #[.int .i64 (z - 1), .int .i64 a, .slice pa ps.length pc, .int .i64 d] := by have := Ht.out.set 0 (.int .i64 (z - 1)); simpa using this
      have t1 := Hz.out.other hB6 0 (.int .i64 (z - 1))
      have m0 := Str.cell t0 0 (v := .int .i64 (z - 1)) rfl
      have m1 := Str.cell t0 1 (v := .int .i64 a) rfl
      have m2 := Str.cell t0 2 (v := .slice pa ps.length pc) rfl
      have m3 := Str.cell t0 3 (v := .int .i64 d) rfl
      have j0 := Str.cell t1 0 (v := (.int .i64 0)) rfl
      have j1 := Str.cell t1 1 (v := (.int .i64 0)) rfl
      have j2 := Str.cell t1 2 (v := (.slice none 0 0)) rfl
      have j3 := Str.cell t1 3 (v := (.int .i64 0)) rfl
      have g0 := Str.frozen t1 0
      have g1 := Str.frozen t1 1
      have g2 := Str.frozen t1 2
      have g3 := Str.frozen t1 3
      have u := (Str.set (Str.set (Str.set (Str.set t1 0 (.int .i64 (z - 1))) 1 (.int .i64 a)) 2 (.slice pa ps.length pc)) 3 (.int .i64 d))
      have e0 := Str.cell u 0 (v := .int .i64 (z - 1)) rfl
      have e1 := Str.cell u 1 (v := .int .i64 a) rfl
      have e2 := Str.cell u 2 (v := .slice pa ps.length pc) rfl
      have e3 := Str.cell u 3 (v := .int .i64 d) rfl
      clear u t0 t1
      go_wp2
      refine bodyPost_ret (v := .agg #[.int .i64 (z - 1), .int .i64 a, .slice pa ps.length pc, .int .i64 d]) (by simp [results, Try.f26, go_sem, e0, e1, e2, e3]) rfl ?_
      exact ⟨⟨(z - 1), a, ps, d⟩, _, rfl, (Own.set_other (Own.set_other (Own.set_other (Own.set_other ((Hop.out.mono (Nat.le_succ _)).set_other hnb 0 (.int .i64 (z - 1))) hn6 0 _) hn6 1 _) hn6 2 _) hn6 3 _), hpl, (grown_row (grown_row (grown_row (grown_row (grown_row Hgr.out (grownBy_set wX Bv 0 (.int .i64 (z - 1))) (fun q e => by cases e; omega)) (grownBy_set _ w.heap.size 0 (.int .i64 (z - 1))) (fun q e => by cases e; exact Nat.le_refl _)) (grownBy_set _ w.heap.size 1 (.int .i64 a)) (fun q e => by cases e; exact Nat.le_refl _)) (grownBy_set _ w.heap.size 2 (.slice pa ps.length pc)) (fun q e => by cases e; exact Nat.le_refl _)) (grownBy_set _ w.heap.size 3 (.int .i64 d)) (fun q e => by cases e; exact Nat.le_refl _))⟩
    have e2' : (s == 2) = false := by rw [beq_eq_false_iff_ne]; exact h2
    clear h2
    by_cases h3 : s = 3
    · subst h3
      by_cases hgz : g.length = 0
      · have hd0 : decide ((0 : Int) < (g.length : Int)) = false := decide_eq_false (by omega)
        have hd0' : ¬ (0 : Int) < (g.length : Int) := by omega
        have hnb : (Value.slice pa ps.length pc).ownBlock ≠ some Bv := Hnb.out
        have hn6 : (Value.slice pa ps.length pc).ownBlock ≠ some w.heap.size := fun e => by have := (Hop.out.lt _ e).1; omega
        have t0 := Ht.out
        have t1 := Hz.out
        clear hnb
        have m0 := Str.cell t0 0 (v := .int .i64 N) rfl
        have m1 := Str.cell t0 1 (v := .int .i64 a) rfl
        have m2 := Str.cell t0 2 (v := .slice pa ps.length pc) rfl
        have m3 := Str.cell t0 3 (v := .int .i64 d) rfl
        have j0 := Str.cell t1 0 (v := (.int .i64 0)) rfl
        have j1 := Str.cell t1 1 (v := (.int .i64 0)) rfl
        have j2 := Str.cell t1 2 (v := (.slice none 0 0)) rfl
        have j3 := Str.cell t1 3 (v := (.int .i64 0)) rfl
        have g0 := Str.frozen t1 0
        have g1 := Str.frozen t1 1
        have g2 := Str.frozen t1 2
        have g3 := Str.frozen t1 3
        have u := (Str.set (Str.set (Str.set (Str.set t1 0 (.int .i64 N)) 1 (.int .i64 a)) 2 (.slice pa ps.length pc)) 3 (.int .i64 d))
        have e0 := Str.cell u 0 (v := .int .i64 N) rfl
        have e1 := Str.cell u 1 (v := .int .i64 a) rfl
        have e2 := Str.cell u 2 (v := .slice pa ps.length pc) rfl
        have e3 := Str.cell u 3 (v := .int .i64 d) rfl
        clear u t1
        go_wp2
        refine bodyPost_ret (v := .agg #[.int .i64 N, .int .i64 a, .slice pa ps.length pc, .int .i64 d]) (by simp [results, Try.f26, go_sem, e0, e1, e2, e3]) rfl ?_
        exact ⟨⟨N, a, ps, d⟩, _, rfl, (Own.set_other (Own.set_other (Own.set_other (Own.set_other (Hop.out.mono (Nat.le_succ _)) hn6 0 _) hn6 1 _) hn6 2 _) hn6 3 _), hpl, (grown_row (grown_row (grown_row (grown_row Hgr.out (grownBy_set _ w.heap.size 0 (.int .i64 N)) (fun q e => by cases e; exact Nat.le_refl _)) (grownBy_set _ w.heap.size 1 (.int .i64 a)) (fun q e => by cases e; exact Nat.le_refl _)) (grownBy_set _ w.heap.size 2 (.slice pa ps.length pc)) (fun q e => by cases e; exact Nat.le_refl _)) (grownBy_set _ w.heap.size 3 (.int .i64 d)) (fun q e => by cases e; exact Nat.le_refl _))⟩
      have hd0 : decide ((0 : Int) < (g.length : Int)) = true := decide_eq_true (by omega)
      have hd0' : (0 : Int) < (g.length : Int) := by omega
      go_wp2_with fail
      refine (pick_any R (g.length : Int) (pB + 1) _ (by omega) Hrd.out (by omega)).mono ?_
      rintro e wX ⟨k, rfl, hk0, hk1, hrX, hgX⟩
      obtain ⟨k, rfl⟩ := Int.eq_ofNat_of_zero_le hk0
      have hk : k < g.length := by omega
      have hsX := hgX.size
      have Hz := Lib.hid (Hz.out.kept hgX (by simp; omega))
      have Hgr := Lib.hid (grownBy_trans Hgr.out hgX); clear hgX
      obtain ⟨gb, off, rfl, _, hat⟩ := (Hg.out _ Hgr.out).at (by omega)
      obtain ⟨c0, c1, ⟨pk, ck, c2, i2, s2⟩, c3⟩ := hat k hk
      have hpk := Hps.out _ (List.getElem_mem hk)
      have Hone := Lib.hid (spec_l11One g[k].r g[k].a g[k].d pk ck g[k].ps wX (by omega) s2 i2)
      clear hat i2 s2
      generalize g[k] = x at *
      go_wp2_with fail
      refine Hone.out.mono ?_
      rintro e wY ⟨uy, rfl, huy, hbY⟩
      have hsY := hbY.size
      have t1 : Str wY w.heap.size 25 #[.int .i64 0, .int .i64 0, .slice none 0 0, .int .i64 0] := (hbY.block _ Hz.out.lt).trans Hz.out
      have Hgr := Lib.hid (grown_row Hgr.out (below_grown hbY) (fun q e => by cases e)); clear hbY
      obtain ⟨ay, cy, rfl, _, _⟩ := huy.ints
      have Huy := Lib.hid huy; clear huy
      have hn6 : (Value.slice ay x.ps.length cy).ownBlock ≠ some w.heap.size := fun e => by have := (Huy.out.lt _ e).1; omega
      have j0 := Str.cell t1 0 (v := (.int .i64 0)) rfl
      have j1 := Str.cell t1 1 (v := (.int .i64 0)) rfl
      have j2 := Str.cell t1 2 (v := (.slice none 0 0)) rfl
      have j3 := Str.cell t1 3 (v := (.int .i64 0)) rfl
      have g0 := Str.frozen t1 0
      have g1 := Str.frozen t1 1
      have g2 := Str.frozen t1 2
      have g3 := Str.frozen t1 3
      have u := (Str.set (Str.set (Str.set (Str.set t1 0 (.int .i64 x.r)) 1 (.int .i64 x.a)) 2 (.slice ay x.ps.length cy)) 3 (.int .i64 x.d))
      have e0 := Str.cell u 0 (v := .int .i64 x.r) rfl
      have e1 := Str.cell u 1 (v := .int .i64 x.a) rfl
      have e2 := Str.cell u 2 (v := .slice ay x.ps.length cy) rfl
      have e3 := Str.cell u 3 (v := .int .i64 x.d) rfl
      clear u t1
      go_wp2
      refine bodyPost_ret (v := .agg #[.int .i64 x.r, .int .i64 x.a, .slice ay x.ps.length cy, .int .i64 x.d]) (by simp [results, Try.f26, go_sem, e0, e1, e2, e3]) rfl ?_
      exact ⟨⟨x.r, x.a, x.ps, x.d⟩, _, rfl, (Own.set_other (Own.set_other (Own.set_other (Own.set_other (Huy.out.mono (show w.heap.size ≤ wX.heap.size by omega)) hn6 0 _) hn6 1 _) hn6 2 _) hn6 3 _), (by show x.ps.length ≤ 300; omega), (grown_row (grown_row (grown_row (grown_row Hgr.out (grownBy_set _ w.heap.size 0 (.int .i64 x.r)) (fun q e => by cases e; exact Nat.le_refl _)) (grownBy_set _ w.heap.size 1 (.int .i64 x.a)) (fun q e => by cases e; exact Nat.le_refl _)) (grownBy_set _ w.heap.size 2 (.slice ay x.ps.length cy)) (fun q e => by cases e; exact Nat.le_refl _)) (grownBy_set _ w.heap.size 3 (.int .i64 x.d)) (fun q e => by cases e; exact Nat.le_refl _))⟩
    have e3' : (s == 3) = false := by rw [beq_eq_false_iff_ne]; exact h3
    clear h3
    by_cases h4 : s = 4
    · subst h4
      by_cases hgz : g.length = 0
      · have hd0 : decide ((0 : Int) < (g.length : Int)) = false := decide_eq_false (by omega)
        have hd0' : ¬ (0 : Int) < (g.length : Int) := by omega
        have hnb : (Value.slice pa ps.length pc).ownBlock ≠ some Bv := Hnb.out
        have hn6 : (Value.slice pa ps.length pc).ownBlock ≠ some w.heap.size := fun e => by have := (Hop.out.lt _ e).1; omega
        have t0 := Ht.out
        have t1 := Hz.out
        clear hnb
        have m0 := Str.cell t0 0 (v := .int .i64 N) rfl
        have m1 := Str.cell t0 1 (v := .int .i64 a) rfl
        have m2 := Str.cell t0 2 (v := .slice pa ps.length pc) rfl
        have m3 := Str.cell t0 3 (v := .int .i64 d) rfl
        have j0 := Str.cell t1 0 (v := (.int .i64 0)) rfl
        have j1 := Str.cell t1 1 (v := (.int .i64 0)) rfl
        have j2 := Str.cell t1 2 (v := (.slice none 0 0)) rfl
        have j3 := Str.cell t1 3 (v := (.int .i64 0)) rfl
        have g0 := Str.frozen t1 0
        have g1 := Str.frozen t1 1
        have g2 := Str.frozen t1 2
        have g3 := Str.frozen t1 3
        have u := (Str.set (Str.set (Str.set (Str.set t1 0 (.int .i64 N)) 1 (.int .i64 a)) 2 (.slice pa ps.length pc)) 3 (.int .i64 d))
        have e0 := Str.cell u 0 (v := .int .i64 N) rfl
        have e1 := Str.cell u 1 (v := .int .i64 a) rfl
        have e2 := Str.cell u 2 (v := .slice pa ps.length pc) rfl
        have e3 := Str.cell u 3 (v := .int .i64 d) rfl
        clear u t1
        go_wp2
        refine bodyPost_ret (v := .agg #[.int .i64 N, .int .i64 a, .slice pa ps.length pc, .int .i64 d]) (by simp [results, Try.f26, go_sem, e0, e1, e2, e3]) rfl ?_
        exact ⟨⟨N, a, ps, d⟩, _, rfl, (Own.set_other (Own.set_other (Own.set_other (Own.set_other (Hop.out.mono (Nat.le_succ _)) hn6 0 _) hn6 1 _) hn6 2 _) hn6 3 _), hpl, (grown_row (grown_row (grown_row (grown_row Hgr.out (grownBy_set _ w.heap.size 0 (.int .i64 N)) (fun q e => by cases e; exact Nat.le_refl _)) (grownBy_set _ w.heap.size 1 (.int .i64 a)) (fun q e => by cases e; exact Nat.le_refl _)) (grownBy_set _ w.heap.size 2 (.slice pa ps.length pc)) (fun q e => by cases e; exact Nat.le_refl _)) (grownBy_set _ w.heap.size 3 (.int .i64 d)) (fun q e => by cases e; exact Nat.le_refl _))⟩
      have hd0 : decide ((0 : Int) < (g.length : Int)) = true := decide_eq_true (by omega)
      have hd0' : (0 : Int) < (g.length : Int) := by omega
      go_wp2_with fail
      refine (pick_any R (g.length : Int) (pB + 1) _ (by omega) Hrd.out (by omega)).mono ?_
      rintro e wX ⟨k, rfl, hk0, hk1, hrX, hgX⟩
      obtain ⟨k, rfl⟩ := Int.eq_ofNat_of_zero_le hk0
      have hk : k < g.length := by omega
      have hsX := hgX.size
      have Hz := Lib.hid (Hz.out.kept hgX (by simp; omega))
      have Hgr := Lib.hid (grownBy_trans Hgr.out hgX); clear hgX
      obtain ⟨gb, off, rfl, _, hat⟩ := (Hg.out _ Hgr.out).at (by omega)
      obtain ⟨c0, c1, ⟨pk, ck, c2, i2, s2⟩, c3⟩ := hat k hk
      have hpk := Hps.out _ (List.getElem_mem hk)
      have Hone := Lib.hid (spec_l11One g[k].r g[k].a g[k].d pk ck g[k].ps wX (by omega) s2 i2)
      clear hat i2 s2
      generalize g[k] = x at *
      go_wp2_with fail
      refine Hone.out.mono ?_
      rintro e wY ⟨uy, rfl, huy, hbY⟩
      have hsY := hbY.size
      have t1 : Str wY w.heap.size 25 #[.int .i64 0, .int .i64 0, .slice none 0 0, .int .i64 0] := (hbY.block _ Hz.out.lt).trans Hz.out
      have Hgr := Lib.hid (grown_row Hgr.out (below_grown hbY) (fun q e => by cases e)); clear hbY
      obtain ⟨ay, cy, rfl, _, _⟩ := huy.ints
      have Huy := Lib.hid huy; clear huy
      have hn6 : (Value.slice ay x.ps.length cy).ownBlock ≠ some w.heap.size := fun e => by have := (Huy.out.lt _ e).1; omega
      have j0 := Str.cell t1 0 (v := (.int .i64 0)) rfl
      have j1 := Str.cell t1 1 (v := (.int .i64 0)) rfl
      have j2 := Str.cell t1 2 (v := (.slice none 0 0)) rfl
      have j3 := Str.cell t1 3 (v := (.int .i64 0)) rfl
      have g0 := Str.frozen t1 0
      have g1 := Str.frozen t1 1
      have g2 := Str.frozen t1 2
      have g3 := Str.frozen t1 3
      have u := (Str.set (Str.set (Str.set (Str.set t1 0 (.int .i64 x.r)) 1 (.int .i64 x.a)) 2 (.slice ay x.ps.length cy)) 3 (.int .i64 x.d))
      have e0 := Str.cell u 0 (v := .int .i64 x.r) rfl
      have e1 := Str.cell u 1 (v := .int .i64 x.a) rfl
      have e2 := Str.cell u 2 (v := .slice ay x.ps.length cy) rfl
      have e3 := Str.cell u 3 (v := .int .i64 x.d) rfl
      clear u t1
      go_wp2
      refine bodyPost_ret (v := .agg #[.int .i64 x.r, .int .i64 x.a, .slice ay x.ps.length cy, .int .i64 x.d]) (by simp [results, Try.f26, go_sem, e0, e1, e2, e3]) rfl ?_
      exact ⟨⟨x.r, x.a, x.ps, x.d⟩, _, rfl, (Own.set_other (Own.set_other (Own.set_other (Own.set_other (Huy.out.mono (show w.heap.size ≤ wX.heap.size by omega)) hn6 0 _) hn6 1 _) hn6 2 _) hn6 3 _), (by show x.ps.length ≤ 300; omega), (grown_row (grown_row (grown_row (grown_row Hgr.out (grownBy_set _ w.heap.size 0 (.int .i64 x.r)) (fun q e => by cases e; exact Nat.le_refl _)) (grownBy_set _ w.heap.size 1 (.int .i64 x.a)) (fun q e => by cases e; exact Nat.le_refl _)) (grownBy_set _ w.heap.size 2 (.slice ay x.ps.length cy)) (fun q e => by cases e; exact Nat.le_refl _)) (grownBy_set _ w.heap.size 3 (.int .i64 x.d)) (fun q e => by cases e; exact Nat.le_refl _))⟩
    have e4' : (s == 4) = false := by rw [beq_eq_false_iff_ne]; exact h4
    clear h4
    by_cases h5 : s = 5
    · subst h5
      by_cases hgz : g.length = 0
      · have hd0 : decide ((0 : Int) < (g.length : Int)) = false := decide_eq_false (by omega)
        have hd0' : ¬ (0 : Int) < (g.length : Int) := by omega
        have hnb : (Value.slice pa ps.length pc).ownBlock ≠ some Bv := Hnb.out
        have hn6 : (Value.slice pa ps.length pc).ownBlock ≠ some w.heap.size := fun e => by have := (Hop.out.lt _ e).1; omega
        have t0 := Ht.out
        have t1 := Hz.out
        clear hnb
        have m0 := Str.cell t0 0 (v := .int .i64 N) rfl
        have m1 := Str.cell t0 1 (v := .int .i64 a) rfl
        have m2 := Str.cell t0 2 (v := .slice pa ps.length pc) rfl
        have m3 := Str.cell t0 3 (v := .int .i64 d) rfl
        have j0 := Str.cell t1 0 (v := (.int .i64 0)) rfl
        have j1 := Str.cell t1 1 (v := (.int .i64 0)) rfl
        have j2 := Str.cell t1 2 (v := (.slice none 0 0)) rfl
        have j3 := Str.cell t1 3 (v := (.int .i64 0)) rfl
        have g0 := Str.frozen t1 0
        have g1 := Str.frozen t1 1
        have g2 := Str.frozen t1 2
        have g3 := Str.frozen t1 3
        have u := (Str.set (Str.set (Str.set (Str.set t1 0 (.int .i64 N)) 1 (.int .i64 a)) 2 (.slice pa ps.length pc)) 3 (.int .i64 d))
        have e0 := Str.cell u 0 (v := .int .i64 N) rfl
        have e1 := Str.cell u 1 (v := .int .i64 a) rfl
        have e2 := Str.cell u 2 (v := .slice pa ps.length pc) rfl
        have e3 := Str.cell u 3 (v := .int .i64 d) rfl
        clear u t1
        go_wp2
        refine bodyPost_ret (v := .agg #[.int .i64 N, .int .i64 a, .slice pa ps.length pc, .int .i64 d]) (by simp [results, Try.f26, go_sem, e0, e1, e2, e3]) rfl ?_
        exact ⟨⟨N, a, ps, d⟩, _, rfl, (Own.set_other (Own.set_other (Own.set_other (Own.set_other (Hop.out.mono (Nat.le_succ _)) hn6 0 _) hn6 1 _) hn6 2 _) hn6 3 _), hpl, (grown_row (grown_row (grown_row (grown_row Hgr.out (grownBy_set _ w.heap.size 0 (.int .i64 N)) (fun q e => by cases e; exact Nat.le_refl _)) (grownBy_set _ w.heap.size 1 (.int .i64 a)) (fun q e => by cases e; exact Nat.le_refl _)) (grownBy_set _ w.heap.size 2 (.slice pa ps.length pc)) (fun q e => by cases e; exact Nat.le_refl _)) (grownBy_set _ w.heap.size 3 (.int .i64 d)) (fun q e => by cases e; exact Nat.le_refl _))⟩
      have hd0 : decide ((0 : Int) < (g.length : Int)) = true := decide_eq_true (by omega)
      have hd0' : (0 : Int) < (g.length : Int) := by omega
      go_wp2_with fail
      refine (pick_any R (g.length : Int) (pB + 1) _ (by omega) Hrd.out (by omega)).mono ?_
      rintro e wX ⟨k, rfl, hk0, hk1, hrX, hgX⟩
      obtain ⟨k, rfl⟩ := Int.eq_ofNat_of_zero_le hk0
      have hk : k < g.length := by omega
      have hsX := hgX.size
      have Hz := Lib.hid (Hz.out.kept hgX (by simp; omega))
      have Hgr := Lib.hid (grownBy_trans Hgr.out hgX); clear hgX
      obtain ⟨gb, off, rfl, _, hat⟩ := (Hg.out _ Hgr.out).at (by omega)
      obtain ⟨c0, c1, ⟨pk, ck, c2, i2, s2⟩, c3⟩ := hat k hk
      have hpk := Hps.out _ (List.getElem_mem hk)
      have Hone := Lib.hid (spec_l11One g[k].r g[k].a g[k].d pk ck g[k].ps wX (by omega) s2 i2)
      clear hat i2 s2
      generalize g[k] = x at *
      go_wp2_with fail
      refine Hone.out.mono ?_
      rintro e wY ⟨uy, rfl, huy, hbY⟩
      have hsY := hbY.size
      have t1 : Str wY w.heap.size 25 #[.int .i64 0, .int .i64 0, .slice none 0 0, .int .i64 0] := (hbY.block _ Hz.out.lt).trans Hz.out
      have Hgr := Lib.hid (grown_row Hgr.out (below_grown hbY) (fun q e => by cases e)); clear hbY
      obtain ⟨ay, cy, rfl, _, _⟩ := huy.ints
      have Huy := Lib.hid huy; clear huy
      have hn6 : (Value.slice ay x.ps.length cy).ownBlock ≠ some w.heap.size := fun e => by have := (Huy.out.lt _ e).1; omega
      have j0 := Str.cell t1 0 (v := (.int .i64 0)) rfl
      have j1 := Str.cell t1 1 (v := (.int .i64 0)) rfl
      have j2 := Str.cell t1 2 (v := (.slice none 0 0)) rfl
      have j3 := Str.cell t1 3 (v := (.int .i64 0)) rfl
      have g0 := Str.frozen t1 0
      have g1 := Str.frozen t1 1
      have g2 := Str.frozen t1 2
      have g3 := Str.frozen t1 3
      have u := (Str.set (Str.set (Str.set (Str.set t1 0 (.int .i64 x.r)) 1 (.int .i64 x.a)) 2 (.slice ay x.ps.length cy)) 3 (.int .i64 x.d))
      have e0 := Str.cell u 0 (v := .int .i64 x.r) rfl
      have e1 := Str.cell u 1 (v := .int .i64 x.a) rfl
      have e2 := Str.cell u 2 (v := .slice ay x.ps.length cy) rfl
      have e3 := Str.cell u 3 (v := .int .i64 x.d) rfl
      clear u t1
      go_wp2
      refine bodyPost_ret (v := .agg #[.int .i64 x.r, .int .i64 x.a, .slice ay x.ps.length cy, .int .i64 x.d]) (by simp [results, Try.f26, go_sem, e0, e1, e2, e3]) rfl ?_
      exact ⟨⟨x.r, x.a, x.ps, x.d⟩, _, rfl, (Own.set_other (Own.set_other (Own.set_other (Own.set_other (Huy.out.mono (show w.heap.size ≤ wX.heap.size by omega)) hn6 0 _) hn6 1 _) hn6 2 _) hn6 3 _), (by show x.ps.length ≤ 300; omega), (grown_row (grown_row (grown_row (grown_row Hgr.out (grownBy_set _ w.heap.size 0 (.int .i64 x.r)) (fun q e => by cases e; exact Nat.le_refl _)) (grownBy_set _ w.heap.size 1 (.int .i64 x.a)) (fun q e => by cases e; exact Nat.le_refl _)) (grownBy_set _ w.heap.size 2 (.slice ay x.ps.length cy)) (fun q e => by cases e; exact Nat.le_refl _)) (grownBy_set _ w.heap.size 3 (.int .i64 x.d)) (fun q e => by cases e; exact Nat.le_refl _))⟩
    have e5' : (s == 5) = false := by rw [beq_eq_false_iff_ne]; exact h5
    clear h5
    have hnb : (Value.slice pa ps.length pc).ownBlock ≠ some Bv := Hnb.out
    have hn6 : (Value.slice pa ps.length pc).ownBlock ≠ some w.heap.size := fun e => by have := (Hop.out.lt _ e).1; omega
    have t0 := Ht.out
    have t1 := Hz.out
    clear hnb
    have m0 := Str.cell t0 0 (v := .int .i64 N) rfl
    have m1 := Str.cell t0 1 (v := .int .i64 a) rfl
    have m2 := Str.cell t0 2 (v := .slice pa ps.length pc) rfl
    have m3 := Str.cell t0 3 (v := .int .i64 d) rfl
    have j0 := Str.cell t1 0 (v := (.int .i64 0)) rfl
    have j1 := Str.cell t1 1 (v := (.int .i64 0)) rfl
    have j2 := Str.cell t1 2 (v := (.slice none 0 0)) rfl
    have j3 := Str.cell t1 3 (v := (.int .i64 0)) rfl
    have g0 := Str.frozen t1 0
    have g1 := Str.frozen t1 1
    have g2 := Str.frozen t1 2
    have g3 := Str.frozen t1 3
    have u := (Str.set (Str.set (Str.set (Str.set t1 0 (.int .i64 N)) 1 (.int .i64 a)) 2 (.slice pa ps.length pc)) 3 (.int .i64 d))
    have e0 := Str.cell u 0 (v := .int .i64 N) rfl
    have e1 := Str.cell u 1 (v := .int .i64 a) rfl
    have e2 := Str.cell u 2 (v := .slice pa ps.length pc) rfl
    have e3 := Str.cell u 3 (v := .int .i64 d) rfl
    clear u t0 t1
    go_wp2
    refine bodyPost_ret (v := .agg #[.int .i64 N, .int .i64 a, .slice pa ps.length pc, .int .i64 d]) (by simp [results, Try.f26, go_sem, e0, e1, e2, e3]) rfl ?_
    exact ⟨⟨N, a, ps, d⟩, _, rfl, (Own.set_other (Own.set_other (Own.set_other (Own.set_other (Hop.out.mono (Nat.le_succ _)) hn6 0 _) hn6 1 _) hn6 2 _) hn6 3 _), hpl, (grown_row (grown_row (grown_row (grown_row Hgr.out (grownBy_set _ w.heap.size 0 (.int .i64 N)) (fun q e => by cases e; exact Nat.le_refl _)) (grownBy_set _ w.heap.size 1 (.int .i64 a)) (fun q e => by cases e; exact Nat.le_refl _)) (grownBy_set _ w.heap.size 2 (.slice pa ps.length pc)) (fun q e => by cases e; exact Nat.le_refl _)) (grownBy_set _ w.heap.size 3 (.int .i64 d)) (fun q e => by cases e; exact Nat.le_refl _))⟩
  · go_wp2_with fail
    refine (HH.out w2 (Hc.out _ Hg2.out) (Hg.out _ Hg2.out)).mono ?_
    rintro e w3 ⟨rfl, hb3⟩
    have hs3 := hb3.size
    have Hr3 := Lib.hid (Hr2.out.kept (below_grown hb3) (fun q e => by cases e))
    have Hs3 := Lib.hid (show Str w3 w.heap.size 25 _ from (hb3.block _ Hs2.out.lt).trans Hs2.out)
    have Hg3 := Lib.hid (grown_row Hg2.out (below_grown hb3) (fun q e => by cases e)); clear hb3
    go_wp2_with fail
    refine (pick_any R 2 (p + 1 + 1) _ (by omega) Hr3.out (by omega)).mono ?_
    rintro e w4 ⟨y, rfl, hy0, hy1, hr4, hg4⟩
    have hs4 := hg4.size
    have Hrd := Lib.hid hr4; clear hr4
    have Hz := Lib.hid (Hs3.out.kept hg4 (by simp; omega))
    have Hgr := Lib.hid (grownBy_trans Hg3.out hg4); clear hg4
    have hN0 : 0 ≤ y ∧ y ≤ 31 := by omega
    have hwy : IntKind.i64.wrap y = y := IntWalk.i64_in _ (by omega)
    generalize y = N at *
    go_wp2_with fail
    refine (pick_any R (c.length : Int) (p + 1 + 1 + 1) _ (by omega) Hrd.out (by omega)).mono ?_
    rintro e wA ⟨a, rfl, ha0, ha1, hrA, hgA⟩
    have hsA := hgA.size
    have Hz := Lib.hid (Hz.out.kept hgA (by simp; omega))
    have Hgr := Lib.hid (grownBy_trans Hgr.out hgA); clear hgA
    have Hrd := Lib.hid hrA; clear hrA
    have hgE := grownBy_trans Hgr.out (World.grownBy_alloc wA (.cells #[] 3) (some R))
    have hzE := Hz.out.alloc (.cells #[] 3)
    have hoE := own_empty 3 wA (Nat.le_refl _)
    have hszE : (wA.alloc (.cells #[] 3)).heap.size = wA.heap.size + 1 := by simp
    go_wp2_with fail
    refine (drawDigest R (p + 1 + 1 + 1 + 1) _ (by omega) (Hrd.out.alloc _)).mono ?_
    rintro e wB ⟨d, pB, rfl, hd0, hd1, hrB, hpB, hgB⟩
    have hsB := hgB.size
    have hoB := hoE.kept hgB (.inr fun e => by simp [Value.ownBlock] at e; omega)
    have hzB := hzE.kept hgB (by simp; omega)
    have hgrB := grownBy_trans hgE hgB
    clear hgE hzE hoE hgB
    have ht := Str.new wB 25 #[.int .i64 N, .int .i64 a, .slice (some ⟨wA.heap.size, 0, none⟩) 0 0, .int .i64 d]
    have hgC := grownBy_trans hgrB (World.grownBy_alloc wB (.cells #[.int .i64 N, .int .i64 a, .slice (some ⟨wA.heap.size, 0, none⟩) 0 0, .int .i64 d] 25) (some R))
    have hrC := hrB.alloc (.cells #[.int .i64 N, .int .i64 a, .slice (some ⟨wA.heap.size, 0, none⟩) 0 0, .int .i64 d] 25)
    have hzC := hzB.alloc (.cells #[.int .i64 N, .int .i64 a, .slice (some ⟨wA.heap.size, 0, none⟩) 0 0, .int .i64 d] 25)
    have hoC := hoB.alloc (.cells #[.int .i64 N, .int .i64 a, .slice (some ⟨wA.heap.size, 0, none⟩) 0 0, .int .i64 d] 25)
    have hszC : (wB.alloc (.cells #[.int .i64 N, .int .i64 a, .slice (some ⟨wA.heap.size, 0, none⟩) 0 0, .int .i64 d] 25)).heap.size = wB.heap.size + 1 := by simp
    have Ht := Lib.hid ht
    have Hgr := Lib.hid hgC
    have Hrd := Lib.hid hrC
    have Hz := Lib.hid hzC
    have Hop0 := Lib.hid (Own.mono hoC (show w.heap.size + 1 ≤ wA.heap.size by omega))
    clear ht hgC hrC hzC hoC hrB hzB hoB hgrB
    have hB6 : w.heap.size ≠ wB.heap.size := by omega
    by_cases hN : 0 < N
    · have hNd : decide ((0 : Int) < N) = true := decide_eq_true hN
      have hwN : IntKind.i64.wrap (N - 1) = N - 1 := IntWalk.i64_in _ (by omega)
      go_wp2_with fail
      generalize wB.alloc (.cells #[.int .i64 N, .int .i64 a, .slice (some ⟨wA.heap.size, 0, none⟩) 0 0, .int .i64 d] 25) = wC at *
      generalize wB.heap.size = Bv at *
      refine (HA.out (N - 1) wC (Hg.out _ Hgr.out)).mono ?_
      rintro e wD ⟨ua, rfl, hua, hbD⟩
      have hsD := hbD.size
      have hal := authZ_len g (N - 1)
      obtain ⟨pa, pc, rfl, _, _⟩ := hua.ints
      generalize authZ g (N - 1) = ps at *
      have Ht := Lib.hid (show Str wD Bv 25 _ from (hbD.block _ Ht.out.lt).trans Ht.out)
      have Hz := Lib.hid (show Str wD w.heap.size 25 _ from (hbD.block _ Hz.out.lt).trans Hz.out)
      have Hrd := Lib.hid (Hrd.out.kept (below_grown hbD) (fun q e => by cases e))
      have Hgr := Lib.hid (grown_row Hgr.out (below_grown hbD) (fun q e => by cases e)); clear hbD
      have hltC : Bv < wC.heap.size := by omega
      have hnb : (Value.slice pa ps.length pc).ownBlock ≠ some Bv := fun e => by have := (hua.lt _ e).1; omega
      have Hua := Lib.hid (hua.mono (show w.heap.size + 1 ≤ wC.heap.size by omega)); clear hua
      have o29 := Ht.out.cell 2 (v := .slice (some ⟨wA.heap.size, 0, none⟩) 0 0) rfl
      have f29 := Ht.out.frozen 2
      have hRB : R < Bv := by omega
      have Hrd := Lib.hid (Hrd.out.kept (grownBy_set wD Bv 2 (.slice pa ps.length pc)) (fun q e => by cases e; exact hRB))
      have Hgr := Lib.hid (grown_row Hgr.out (grownBy_set wD Bv 2 (.slice pa ps.length pc)) (fun q e => by cases e; omega))
      have Hop := Lib.hid (Hua.out.set_other hnb 2 (.slice pa ps.length pc))
      have ht' : Str (wD.setCell ⟨Bv, 2, none⟩ (.slice pa ps.length pc)) Bv 25 #[.int .i64 N, .int .i64 a, .slice pa ps.length pc, .int .i64 d] := by have := Ht.out.set 2 (.slice pa ps.length pc); simpa using this
      have Hz := Lib.hid (Hz.out.other hB6 2 (.slice pa ps.length pc))
      have hszD : (wD.setCell ⟨Bv, 2, none⟩ (.slice pa ps.length pc)).heap.size = wD.heap.size := by simp [World.setCell]
      have Ht := Lib.hid ht'; clear ht' Hua
      have Hnb := Lib.hid hnb; clear hnb
      have hpl : ps.length ≤ 300 := by omega
      go_wp2_with fail
      generalize wD.setCell ⟨Bv, 2, none⟩ (.slice pa ps.length pc) = wE at *
      refine (pick_any R 12 (pB) _ (by omega) Hrd.out (by omega)).mono ?_
      rintro e wS ⟨s, rfl, hs0, hs1, hrS, hgS⟩
      have hsS := hgS.size
      have Hrd := Lib.hid hrS; clear hrS
      have Ht := Lib.hid (Ht.out.kept hgS (by simp; omega))
      have Hz := Lib.hid (Hz.out.kept hgS (by simp; omega))
      have Hop := Lib.hid (Hop.out.kept hgS (.inr fun e => by have := (Hop.out.lt R e).1; omega))
      have Hgr := Lib.hid (grownBy_trans Hgr.out hgS); clear hgS hs0 hs1
      by_cases h0 : s = 0
      · subst h0
        go_wp2_with fail
        refine (drawMembers R (pB + 1) c.length _ (by omega) (by omega) Hrd.out (by omega)).mono ?_
        rintro e wX ⟨um, ms, pX, rfl, hum, hml, hrX, hpX, hgX⟩
        have hsX := hgX.size
        have Ht := Lib.hid (Ht.out.kept hgX (by simp; omega))
        have Hz := Lib.hid (Hz.out.kept hgX (by simp; omega))
        have Hgr := Lib.hid (grownBy_trans Hgr.out hgX); clear hgX
        obtain ⟨am, cm, rfl, _, _⟩ := hum.ints
        have Hum := Lib.hid hum; clear hum
        have hnbm : (Value.slice am ms.length cm).ownBlock ≠ some Bv := fun e => by have := (Hum.out.lt _ e).1; omega
        have hn6 : (Value.slice am ms.length cm).ownBlock ≠ some w.heap.size := fun e => by have := (Hum.out.lt _ e).1; omega
        have o29 := Ht.out.cell 2 (v := .slice pa ps.length pc) rfl
        have f29 := Ht.out.frozen 2
        have t0 : Str (wX.setCell ⟨Bv, 2, none⟩ (.slice am ms.length cm)) Bv 25 #[.int .i64 N, .int .i64 a, .slice am ms.length cm, .int .i64 d] := by have := Ht.out.set 2 (.slice am ms.length cm); simpa using this
        have t1 := Hz.out.other hB6 2 (.slice am ms.length cm)
        have m0 := Str.cell t0 0 (v := .int .i64 N) rfl
        have m1 := Str.cell t0 1 (v := .int .i64 a) rfl
        have m2 := Str.cell t0 2 (v := .slice am ms.length cm) rfl
        have m3 := Str.cell t0 3 (v := .int .i64 d) rfl
        have j0 := Str.cell t1 0 (v := (.int .i64 0)) rfl
        have j1 := Str.cell t1 1 (v := (.int .i64 0)) rfl
        have j2 := Str.cell t1 2 (v := (.slice none 0 0)) rfl
        have j3 := Str.cell t1 3 (v := (.int .i64 0)) rfl
        have g0 := Str.frozen t1 0
        have g1 := Str.frozen t1 1
        have g2 := Str.frozen t1 2
        have g3 := Str.frozen t1 3
        have u := (Str.set (Str.set (Str.set (Str.set t1 0 (.int .i64 N)) 1 (.int .i64 a)) 2 (.slice am ms.length cm)) 3 (.int .i64 d))
        have e0 := Str.cell u 0 (v := .int .i64 N) rfl
        have e1 := Str.cell u 1 (v := .int .i64 a) rfl
        have e2 := Str.cell u 2 (v := .slice am ms.length cm) rfl
        have e3 := Str.cell u 3 (v := .int .i64 d) rfl
        clear u t0 t1
        go_wp2
        refine bodyPost_ret (v := .agg #[.int .i64 N, .int .i64 a, .slice am ms.length cm, .int .i64 d]) (by simp [results, Try.f26, go_sem, e0, e1, e2, e3]) rfl ?_
        exact ⟨⟨N, a, ms, d⟩, _, rfl, (Own.set_other (Own.set_other (Own.set_other (Own.set_other ((Hum.out.mono (show w.heap.size ≤ wS.heap.size by omega)).set_other hnbm 2 (.slice am ms.length cm)) hn6 0 _) hn6 1 _) hn6 2 _) hn6 3 _), (by show ms.length ≤ 300; omega), (grown_row (grown_row (grown_row (grown_row (grown_row Hgr.out (grownBy_set wX Bv 2 (.slice am ms.length cm)) (fun q e => by cases e; omega)) (grownBy_set _ w.heap.size 0 (.int .i64 N)) (fun q e => by cases e; exact Nat.le_refl _)) (grownBy_set _ w.heap.size 1 (.int .i64 a)) (fun q e => by cases e; exact Nat.le_refl _)) (grownBy_set _ w.heap.size 2 (.slice am ms.length cm)) (fun q e => by cases e; exact Nat.le_refl _)) (grownBy_set _ w.heap.size 3 (.int .i64 d)) (fun q e => by cases e; exact Nat.le_refl _))⟩
      have e0' : (s == 0) = false := by rw [beq_eq_false_iff_ne]; exact h0
      clear h0
      by_cases h1 : s = 1
      · subst h1
        go_wp2_with fail
        refine (pick_any R 9 (pB + 1) _ (by omega) Hrd.out (by omega)).mono ?_
        rintro e wX ⟨z, rfl, hz0, hz1, hrX, hgX⟩
        have hsX := hgX.size
        have Ht := Lib.hid (Ht.out.kept hgX (by simp; omega))
        have Hz := Lib.hid (Hz.out.kept hgX (by simp; omega))
        have Hop := Lib.hid (Hop.out.kept hgX (.inr fun e => by have := (Hop.out.lt R e).1; omega))
        have Hgr := Lib.hid (grownBy_trans Hgr.out hgX); clear hgX
        have hwz : IntKind.i64.wrap (z - 1) = z - 1 := IntWalk.i64_in _ (by omega)
        have hnb : (Value.slice pa ps.length pc).ownBlock ≠ some Bv := Hnb.out
        have hn6 : (Value.slice pa ps.length pc).ownBlock ≠ some w.heap.size := fun e => by have := (Hop.out.lt _ e).1; omega
        have o19 := Ht.out.cell 1 (v := .int .i64 a) rfl
        have f19 := Ht.out.frozen 1
        have t0 : Str (wX.setCell ⟨Bv, 1, none⟩ (.int .i64 (z - 1))) Bv 25 #[.int .i64 N, .int .i64 (z - 1), .slice pa ps.length pc, .int .i64 d] := by have := Ht.out.set 1 (.int .i64 (z - 1)); simpa using this
        have t1 := Hz.out.other hB6 1 (.int .i64 (z - 1))
        have m0 := Str.cell t0 0 (v := .int .i64 N) rfl
        have m1 := Str.cell t0 1 (v := .int .i64 (z - 1)) rfl
        have m2 := Str.cell t0 2 (v := .slice pa ps.length pc) rfl
        have m3 := Str.cell t0 3 (v := .int .i64 d) rfl
        have j0 := Str.cell t1 0 (v := (.int .i64 0)) rfl
        have j1 := Str.cell t1 1 (v := (.int .i64 0)) rfl
        have j2 := Str.cell t1 2 (v := (.slice none 0 0)) rfl
        have j3 := Str.cell t1 3 (v := (.int .i64 0)) rfl
        have g0 := Str.frozen t1 0
        have g1 := Str.frozen t1 1
        have g2 := Str.frozen t1 2
        have g3 := Str.frozen t1 3
        have u := (Str.set (Str.set (Str.set (Str.set t1 0 (.int .i64 N)) 1 (.int .i64 (z - 1))) 2 (.slice pa ps.length pc)) 3 (.int .i64 d))
        have e0 := Str.cell u 0 (v := .int .i64 N) rfl
        have e1 := Str.cell u 1 (v := .int .i64 (z - 1)) rfl
        have e2 := Str.cell u 2 (v := .slice pa ps.length pc) rfl
        have e3 := Str.cell u 3 (v := .int .i64 d) rfl
        clear u t0 t1
        go_wp2
        refine bodyPost_ret (v := .agg #[.int .i64 N, .int .i64 (z - 1), .slice pa ps.length pc, .int .i64 d]) (by simp [results, Try.f26, go_sem, e0, e1, e2, e3]) rfl ?_
        exact ⟨⟨N, (z - 1), ps, d⟩, _, rfl, (Own.set_other (Own.set_other (Own.set_other (Own.set_other ((Hop.out.mono (Nat.le_succ _)).set_other hnb 1 (.int .i64 (z - 1))) hn6 0 _) hn6 1 _) hn6 2 _) hn6 3 _), hpl, (grown_row (grown_row (grown_row (grown_row (grown_row Hgr.out (grownBy_set wX Bv 1 (.int .i64 (z - 1))) (fun q e => by cases e; omega)) (grownBy_set _ w.heap.size 0 (.int .i64 N)) (fun q e => by cases e; exact Nat.le_refl _)) (grownBy_set _ w.heap.size 1 (.int .i64 (z - 1))) (fun q e => by cases e; exact Nat.le_refl _)) (grownBy_set _ w.heap.size 2 (.slice pa ps.length pc)) (fun q e => by cases e; exact Nat.le_refl _)) (grownBy_set _ w.heap.size 3 (.int .i64 d)) (fun q e => by cases e; exact Nat.le_refl _))⟩
      have e1' : (s == 1) = false := by rw [beq_eq_false_iff_ne]; exact h1
      clear h1
      by_cases h2 : s = 2
      · subst h2
        go_wp2_with fail
        refine (pick_any R 33 (pB + 1) _ (by omega) Hrd.out (by omega)).mono ?_
        rintro e wX ⟨z, rfl, hz0, hz1, hrX, hgX⟩
        have hsX := hgX.size
        have Ht := Lib.hid (Ht.out.kept hgX (by simp; omega))
        have Hz := Lib.hid (Hz.out.kept hgX (by simp; omega))
        have Hop := Lib.hid (Hop.out.kept hgX (.inr fun e => by have := (Hop.out.lt R e).1; omega))
        have Hgr := Lib.hid (grownBy_trans Hgr.out hgX); clear hgX
        have hwz : IntKind.i64.wrap (z - 1) = z - 1 := IntWalk.i64_in _ (by omega)
        have hnb : (Value.slice pa ps.length pc).ownBlock ≠ some Bv := Hnb.out
        have hn6 : (Value.slice pa ps.length pc).ownBlock ≠ some w.heap.size := fun e => by have := (Hop.out.lt _ e).1; omega
        have o09 := Ht.out.cell 0 (v := .int .i64 N) rfl
        have f09 := Ht.out.frozen 0
        have t0 : Str (wX.setCell ⟨Bv, 0, none⟩ (.int .i64 (z - 1))) Bv 25 #[.int .i64 (z - 1), .int .i64 a, .slice pa ps.length pc, .int .i64 d] := by have := Ht.out.set 0 (.int .i64 (z - 1)); simpa using this
        have t1 := Hz.out.other hB6 0 (.int .i64 (z - 1))
        have m0 := Str.cell t0 0 (v := .int .i64 (z - 1)) rfl
        have m1 := Str.cell t0 1 (v := .int .i64 a) rfl
        have m2 := Str.cell t0 2 (v := .slice pa ps.length pc) rfl
        have m3 := Str.cell t0 3 (v := .int .i64 d) rfl
        have j0 := Str.cell t1 0 (v := (.int .i64 0)) rfl
        have j1 := Str.cell t1 1 (v := (.int .i64 0)) rfl
        have j2 := Str.cell t1 2 (v := (.slice none 0 0)) rfl
        have j3 := Str.cell t1 3 (v := (.int .i64 0)) rfl
        have g0 := Str.frozen t1 0
        have g1 := Str.frozen t1 1
        have g2 := Str.frozen t1 2
        have g3 := Str.frozen t1 3
        have u := (Str.set (Str.set (Str.set (Str.set t1 0 (.int .i64 (z - 1))) 1 (.int .i64 a)) 2 (.slice pa ps.length pc)) 3 (.int .i64 d))
        have e0 := Str.cell u 0 (v := .int .i64 (z - 1)) rfl
        have e1 := Str.cell u 1 (v := .int .i64 a) rfl
        have e2 := Str.cell u 2 (v := .slice pa ps.length pc) rfl
        have e3 := Str.cell u 3 (v := .int .i64 d) rfl
        clear u t0 t1
        go_wp2
        refine bodyPost_ret (v := .agg #[.int .i64 (z - 1), .int .i64 a, .slice pa ps.length pc, .int .i64 d]) (by simp [results, Try.f26, go_sem, e0, e1, e2, e3]) rfl ?_
        exact ⟨⟨(z - 1), a, ps, d⟩, _, rfl, (Own.set_other (Own.set_other (Own.set_other (Own.set_other ((Hop.out.mono (Nat.le_succ _)).set_other hnb 0 (.int .i64 (z - 1))) hn6 0 _) hn6 1 _) hn6 2 _) hn6 3 _), hpl, (grown_row (grown_row (grown_row (grown_row (grown_row Hgr.out (grownBy_set wX Bv 0 (.int .i64 (z - 1))) (fun q e => by cases e; omega)) (grownBy_set _ w.heap.size 0 (.int .i64 (z - 1))) (fun q e => by cases e; exact Nat.le_refl _)) (grownBy_set _ w.heap.size 1 (.int .i64 a)) (fun q e => by cases e; exact Nat.le_refl _)) (grownBy_set _ w.heap.size 2 (.slice pa ps.length pc)) (fun q e => by cases e; exact Nat.le_refl _)) (grownBy_set _ w.heap.size 3 (.int .i64 d)) (fun q e => by cases e; exact Nat.le_refl _))⟩
      have e2' : (s == 2) = false := by rw [beq_eq_false_iff_ne]; exact h2
      clear h2
      by_cases h3 : s = 3
      · subst h3
        by_cases hgz : g.length = 0
        · have hd0 : decide ((0 : Int) < (g.length : Int)) = false := decide_eq_false (by omega)
          have hd0' : ¬ (0 : Int) < (g.length : Int) := by omega
          have hnb : (Value.slice pa ps.length pc).ownBlock ≠ some Bv := Hnb.out
          have hn6 : (Value.slice pa ps.length pc).ownBlock ≠ some w.heap.size := fun e => by have := (Hop.out.lt _ e).1; omega
          have t0 := Ht.out
          have t1 := Hz.out
          clear hnb
          have m0 := Str.cell t0 0 (v := .int .i64 N) rfl
          have m1 := Str.cell t0 1 (v := .int .i64 a) rfl
          have m2 := Str.cell t0 2 (v := .slice pa ps.length pc) rfl
          have m3 := Str.cell t0 3 (v := .int .i64 d) rfl
          have j0 := Str.cell t1 0 (v := (.int .i64 0)) rfl
          have j1 := Str.cell t1 1 (v := (.int .i64 0)) rfl
          have j2 := Str.cell t1 2 (v := (.slice none 0 0)) rfl
          have j3 := Str.cell t1 3 (v := (.int .i64 0)) rfl
          have g0 := Str.frozen t1 0
          have g1 := Str.frozen t1 1
          have g2 := Str.frozen t1 2
          have g3 := Str.frozen t1 3
          have u := (Str.set (Str.set (Str.set (Str.set t1 0 (.int .i64 N)) 1 (.int .i64 a)) 2 (.slice pa ps.length pc)) 3 (.int .i64 d))
          have e0 := Str.cell u 0 (v := .int .i64 N) rfl
          have e1 := Str.cell u 1 (v := .int .i64 a) rfl
          have e2 := Str.cell u 2 (v := .slice pa ps.length pc) rfl
          have e3 := Str.cell u 3 (v := .int .i64 d) rfl
          clear u t1
          go_wp2
          refine bodyPost_ret (v := .agg #[.int .i64 N, .int .i64 a, .slice pa ps.length pc, .int .i64 d]) (by simp [results, Try.f26, go_sem, e0, e1, e2, e3]) rfl ?_
          exact ⟨⟨N, a, ps, d⟩, _, rfl, (Own.set_other (Own.set_other (Own.set_other (Own.set_other (Hop.out.mono (Nat.le_succ _)) hn6 0 _) hn6 1 _) hn6 2 _) hn6 3 _), hpl, (grown_row (grown_row (grown_row (grown_row Hgr.out (grownBy_set _ w.heap.size 0 (.int .i64 N)) (fun q e => by cases e; exact Nat.le_refl _)) (grownBy_set _ w.heap.size 1 (.int .i64 a)) (fun q e => by cases e; exact Nat.le_refl _)) (grownBy_set _ w.heap.size 2 (.slice pa ps.length pc)) (fun q e => by cases e; exact Nat.le_refl _)) (grownBy_set _ w.heap.size 3 (.int .i64 d)) (fun q e => by cases e; exact Nat.le_refl _))⟩
        have hd0 : decide ((0 : Int) < (g.length : Int)) = true := decide_eq_true (by omega)
        have hd0' : (0 : Int) < (g.length : Int) := by omega
        go_wp2_with fail
        refine (pick_any R (g.length : Int) (pB + 1) _ (by omega) Hrd.out (by omega)).mono ?_
        rintro e wX ⟨k, rfl, hk0, hk1, hrX, hgX⟩
        obtain ⟨k, rfl⟩ := Int.eq_ofNat_of_zero_le hk0
        have hk : k < g.length := by omega
        have hsX := hgX.size
        have Hz := Lib.hid (Hz.out.kept hgX (by simp; omega))
        have Hgr := Lib.hid (grownBy_trans Hgr.out hgX); clear hgX
        obtain ⟨gb, off, rfl, _, hat⟩ := (Hg.out _ Hgr.out).at (by omega)
        obtain ⟨c0, c1, ⟨pk, ck, c2, i2, s2⟩, c3⟩ := hat k hk
        have hpk := Hps.out _ (List.getElem_mem hk)
        have Hone := Lib.hid (spec_l11One g[k].r g[k].a g[k].d pk ck g[k].ps wX (by omega) s2 i2)
        clear hat i2 s2
        generalize g[k] = x at *
        go_wp2_with fail
        refine Hone.out.mono ?_
        rintro e wY ⟨uy, rfl, huy, hbY⟩
        have hsY := hbY.size
        have t1 : Str wY w.heap.size 25 #[.int .i64 0, .int .i64 0, .slice none 0 0, .int .i64 0] := (hbY.block _ Hz.out.lt).trans Hz.out
        have Hgr := Lib.hid (grown_row Hgr.out (below_grown hbY) (fun q e => by cases e)); clear hbY
        obtain ⟨ay, cy, rfl, _, _⟩ := huy.ints
        have Huy := Lib.hid huy; clear huy
        have hn6 : (Value.slice ay x.ps.length cy).ownBlock ≠ some w.heap.size := fun e => by have := (Huy.out.lt _ e).1; omega
        have j0 := Str.cell t1 0 (v := (.int .i64 0)) rfl
        have j1 := Str.cell t1 1 (v := (.int .i64 0)) rfl
        have j2 := Str.cell t1 2 (v := (.slice none 0 0)) rfl
        have j3 := Str.cell t1 3 (v := (.int .i64 0)) rfl
        have g0 := Str.frozen t1 0
        have g1 := Str.frozen t1 1
        have g2 := Str.frozen t1 2
        have g3 := Str.frozen t1 3
        have u := (Str.set (Str.set (Str.set (Str.set t1 0 (.int .i64 x.r)) 1 (.int .i64 x.a)) 2 (.slice ay x.ps.length cy)) 3 (.int .i64 x.d))
        have e0 := Str.cell u 0 (v := .int .i64 x.r) rfl
        have e1 := Str.cell u 1 (v := .int .i64 x.a) rfl
        have e2 := Str.cell u 2 (v := .slice ay x.ps.length cy) rfl
        have e3 := Str.cell u 3 (v := .int .i64 x.d) rfl
        clear u t1
        go_wp2
        refine bodyPost_ret (v := .agg #[.int .i64 x.r, .int .i64 x.a, .slice ay x.ps.length cy, .int .i64 x.d]) (by simp [results, Try.f26, go_sem, e0, e1, e2, e3]) rfl ?_
        exact ⟨⟨x.r, x.a, x.ps, x.d⟩, _, rfl, (Own.set_other (Own.set_other (Own.set_other (Own.set_other (Huy.out.mono (show w.heap.size ≤ wX.heap.size by omega)) hn6 0 _) hn6 1 _) hn6 2 _) hn6 3 _), (by show x.ps.length ≤ 300; omega), (grown_row (grown_row (grown_row (grown_row Hgr.out (grownBy_set _ w.heap.size 0 (.int .i64 x.r)) (fun q e => by cases e; exact Nat.le_refl _)) (grownBy_set _ w.heap.size 1 (.int .i64 x.a)) (fun q e => by cases e; exact Nat.le_refl _)) (grownBy_set _ w.heap.size 2 (.slice ay x.ps.length cy)) (fun q e => by cases e; exact Nat.le_refl _)) (grownBy_set _ w.heap.size 3 (.int .i64 x.d)) (fun q e => by cases e; exact Nat.le_refl _))⟩
      have e3' : (s == 3) = false := by rw [beq_eq_false_iff_ne]; exact h3
      clear h3
      by_cases h4 : s = 4
      · subst h4
        by_cases hgz : g.length = 0
        · have hd0 : decide ((0 : Int) < (g.length : Int)) = false := decide_eq_false (by omega)
          have hd0' : ¬ (0 : Int) < (g.length : Int) := by omega
          have hnb : (Value.slice pa ps.length pc).ownBlock ≠ some Bv := Hnb.out
          have hn6 : (Value.slice pa ps.length pc).ownBlock ≠ some w.heap.size := fun e => by have := (Hop.out.lt _ e).1; omega
          have t0 := Ht.out
          have t1 := Hz.out
          clear hnb
          have m0 := Str.cell t0 0 (v := .int .i64 N) rfl
          have m1 := Str.cell t0 1 (v := .int .i64 a) rfl
          have m2 := Str.cell t0 2 (v := .slice pa ps.length pc) rfl
          have m3 := Str.cell t0 3 (v := .int .i64 d) rfl
          have j0 := Str.cell t1 0 (v := (.int .i64 0)) rfl
          have j1 := Str.cell t1 1 (v := (.int .i64 0)) rfl
          have j2 := Str.cell t1 2 (v := (.slice none 0 0)) rfl
          have j3 := Str.cell t1 3 (v := (.int .i64 0)) rfl
          have g0 := Str.frozen t1 0
          have g1 := Str.frozen t1 1
          have g2 := Str.frozen t1 2
          have g3 := Str.frozen t1 3
          have u := (Str.set (Str.set (Str.set (Str.set t1 0 (.int .i64 N)) 1 (.int .i64 a)) 2 (.slice pa ps.length pc)) 3 (.int .i64 d))
          have e0 := Str.cell u 0 (v := .int .i64 N) rfl
          have e1 := Str.cell u 1 (v := .int .i64 a) rfl
          have e2 := Str.cell u 2 (v := .slice pa ps.length pc) rfl
          have e3 := Str.cell u 3 (v := .int .i64 d) rfl
          clear u t1
          go_wp2
          refine bodyPost_ret (v := .agg #[.int .i64 N, .int .i64 a, .slice pa ps.length pc, .int .i64 d]) (by simp [results, Try.f26, go_sem, e0, e1, e2, e3]) rfl ?_
          exact ⟨⟨N, a, ps, d⟩, _, rfl, (Own.set_other (Own.set_other (Own.set_other (Own.set_other (Hop.out.mono (Nat.le_succ _)) hn6 0 _) hn6 1 _) hn6 2 _) hn6 3 _), hpl, (grown_row (grown_row (grown_row (grown_row Hgr.out (grownBy_set _ w.heap.size 0 (.int .i64 N)) (fun q e => by cases e; exact Nat.le_refl _)) (grownBy_set _ w.heap.size 1 (.int .i64 a)) (fun q e => by cases e; exact Nat.le_refl _)) (grownBy_set _ w.heap.size 2 (.slice pa ps.length pc)) (fun q e => by cases e; exact Nat.le_refl _)) (grownBy_set _ w.heap.size 3 (.int .i64 d)) (fun q e => by cases e; exact Nat.le_refl _))⟩
        have hd0 : decide ((0 : Int) < (g.length : Int)) = true := decide_eq_true (by omega)
        have hd0' : (0 : Int) < (g.length : Int) := by omega
        go_wp2_with fail
        refine (pick_any R (g.length : Int) (pB + 1) _ (by omega) Hrd.out (by omega)).mono ?_
        rintro e wX ⟨k, rfl, hk0, hk1, hrX, hgX⟩
        obtain ⟨k, rfl⟩ := Int.eq_ofNat_of_zero_le hk0
        have hk : k < g.length := by omega
        have hsX := hgX.size
        have Hz := Lib.hid (Hz.out.kept hgX (by simp; omega))
        have Hgr := Lib.hid (grownBy_trans Hgr.out hgX); clear hgX
        obtain ⟨gb, off, rfl, _, hat⟩ := (Hg.out _ Hgr.out).at (by omega)
        obtain ⟨c0, c1, ⟨pk, ck, c2, i2, s2⟩, c3⟩ := hat k hk
        have hpk := Hps.out _ (List.getElem_mem hk)
        have Hone := Lib.hid (spec_l11One g[k].r g[k].a g[k].d pk ck g[k].ps wX (by omega) s2 i2)
        clear hat i2 s2
        generalize g[k] = x at *
        go_wp2_with fail
        refine Hone.out.mono ?_
        rintro e wY ⟨uy, rfl, huy, hbY⟩
        have hsY := hbY.size
        have t1 : Str wY w.heap.size 25 #[.int .i64 0, .int .i64 0, .slice none 0 0, .int .i64 0] := (hbY.block _ Hz.out.lt).trans Hz.out
        have Hgr := Lib.hid (grown_row Hgr.out (below_grown hbY) (fun q e => by cases e)); clear hbY
        obtain ⟨ay, cy, rfl, _, _⟩ := huy.ints
        have Huy := Lib.hid huy; clear huy
        have hn6 : (Value.slice ay x.ps.length cy).ownBlock ≠ some w.heap.size := fun e => by have := (Huy.out.lt _ e).1; omega
        have j0 := Str.cell t1 0 (v := (.int .i64 0)) rfl
        have j1 := Str.cell t1 1 (v := (.int .i64 0)) rfl
        have j2 := Str.cell t1 2 (v := (.slice none 0 0)) rfl
        have j3 := Str.cell t1 3 (v := (.int .i64 0)) rfl
        have g0 := Str.frozen t1 0
        have g1 := Str.frozen t1 1
        have g2 := Str.frozen t1 2
        have g3 := Str.frozen t1 3
        have u := (Str.set (Str.set (Str.set (Str.set t1 0 (.int .i64 x.r)) 1 (.int .i64 x.a)) 2 (.slice ay x.ps.length cy)) 3 (.int .i64 x.d))
        have e0 := Str.cell u 0 (v := .int .i64 x.r) rfl
        have e1 := Str.cell u 1 (v := .int .i64 x.a) rfl
        have e2 := Str.cell u 2 (v := .slice ay x.ps.length cy) rfl
        have e3 := Str.cell u 3 (v := .int .i64 x.d) rfl
        clear u t1
        go_wp2
        refine bodyPost_ret (v := .agg #[.int .i64 x.r, .int .i64 x.a, .slice ay x.ps.length cy, .int .i64 x.d]) (by simp [results, Try.f26, go_sem, e0, e1, e2, e3]) rfl ?_
        exact ⟨⟨x.r, x.a, x.ps, x.d⟩, _, rfl, (Own.set_other (Own.set_other (Own.set_other (Own.set_other (Huy.out.mono (show w.heap.size ≤ wX.heap.size by omega)) hn6 0 _) hn6 1 _) hn6 2 _) hn6 3 _), (by show x.ps.length ≤ 300; omega), (grown_row (grown_row (grown_row (grown_row Hgr.out (grownBy_set _ w.heap.size 0 (.int .i64 x.r)) (fun q e => by cases e; exact Nat.le_refl _)) (grownBy_set _ w.heap.size 1 (.int .i64 x.a)) (fun q e => by cases e; exact Nat.le_refl _)) (grownBy_set _ w.heap.size 2 (.slice ay x.ps.length cy)) (fun q e => by cases e; exact Nat.le_refl _)) (grownBy_set _ w.heap.size 3 (.int .i64 x.d)) (fun q e => by cases e; exact Nat.le_refl _))⟩
      have e4' : (s == 4) = false := by rw [beq_eq_false_iff_ne]; exact h4
      clear h4
      by_cases h5 : s = 5
      · subst h5
        by_cases hgz : g.length = 0
        · have hd0 : decide ((0 : Int) < (g.length : Int)) = false := decide_eq_false (by omega)
          have hd0' : ¬ (0 : Int) < (g.length : Int) := by omega
          have hnb : (Value.slice pa ps.length pc).ownBlock ≠ some Bv := Hnb.out
          have hn6 : (Value.slice pa ps.length pc).ownBlock ≠ some w.heap.size := fun e => by have := (Hop.out.lt _ e).1; omega
          have t0 := Ht.out
          have t1 := Hz.out
          clear hnb
          have m0 := Str.cell t0 0 (v := .int .i64 N) rfl
          have m1 := Str.cell t0 1 (v := .int .i64 a) rfl
          have m2 := Str.cell t0 2 (v := .slice pa ps.length pc) rfl
          have m3 := Str.cell t0 3 (v := .int .i64 d) rfl
          have j0 := Str.cell t1 0 (v := (.int .i64 0)) rfl
          have j1 := Str.cell t1 1 (v := (.int .i64 0)) rfl
          have j2 := Str.cell t1 2 (v := (.slice none 0 0)) rfl
          have j3 := Str.cell t1 3 (v := (.int .i64 0)) rfl
          have g0 := Str.frozen t1 0
          have g1 := Str.frozen t1 1
          have g2 := Str.frozen t1 2
          have g3 := Str.frozen t1 3
          have u := (Str.set (Str.set (Str.set (Str.set t1 0 (.int .i64 N)) 1 (.int .i64 a)) 2 (.slice pa ps.length pc)) 3 (.int .i64 d))
          have e0 := Str.cell u 0 (v := .int .i64 N) rfl
          have e1 := Str.cell u 1 (v := .int .i64 a) rfl
          have e2 := Str.cell u 2 (v := .slice pa ps.length pc) rfl
          have e3 := Str.cell u 3 (v := .int .i64 d) rfl
          clear u t1
          go_wp2
          refine bodyPost_ret (v := .agg #[.int .i64 N, .int .i64 a, .slice pa ps.length pc, .int .i64 d]) (by simp [results, Try.f26, go_sem, e0, e1, e2, e3]) rfl ?_
          exact ⟨⟨N, a, ps, d⟩, _, rfl, (Own.set_other (Own.set_other (Own.set_other (Own.set_other (Hop.out.mono (Nat.le_succ _)) hn6 0 _) hn6 1 _) hn6 2 _) hn6 3 _), hpl, (grown_row (grown_row (grown_row (grown_row Hgr.out (grownBy_set _ w.heap.size 0 (.int .i64 N)) (fun q e => by cases e; exact Nat.le_refl _)) (grownBy_set _ w.heap.size 1 (.int .i64 a)) (fun q e => by cases e; exact Nat.le_refl _)) (grownBy_set _ w.heap.size 2 (.slice pa ps.length pc)) (fun q e => by cases e; exact Nat.le_refl _)) (grownBy_set _ w.heap.size 3 (.int .i64 d)) (fun q e => by cases e; exact Nat.le_refl _))⟩
        have hd0 : decide ((0 : Int) < (g.length : Int)) = true := decide_eq_true (by omega)
        have hd0' : (0 : Int) < (g.length : Int) := by omega
        go_wp2_with fail
        refine (pick_any R (g.length : Int) (pB + 1) _ (by omega) Hrd.out (by omega)).mono ?_
        rintro e wX ⟨k, rfl, hk0, hk1, hrX, hgX⟩
        obtain ⟨k, rfl⟩ := Int.eq_ofNat_of_zero_le hk0
        have hk : k < g.length := by omega
        have hsX := hgX.size
        have Hz := Lib.hid (Hz.out.kept hgX (by simp; omega))
        have Hgr := Lib.hid (grownBy_trans Hgr.out hgX); clear hgX
        obtain ⟨gb, off, rfl, _, hat⟩ := (Hg.out _ Hgr.out).at (by omega)
        obtain ⟨c0, c1, ⟨pk, ck, c2, i2, s2⟩, c3⟩ := hat k hk
        have hpk := Hps.out _ (List.getElem_mem hk)
        have Hone := Lib.hid (spec_l11One g[k].r g[k].a g[k].d pk ck g[k].ps wX (by omega) s2 i2)
        clear hat i2 s2
        generalize g[k] = x at *
        go_wp2_with fail
        refine Hone.out.mono ?_
        rintro e wY ⟨uy, rfl, huy, hbY⟩
        have hsY := hbY.size
        have t1 : Str wY w.heap.size 25 #[.int .i64 0, .int .i64 0, .slice none 0 0, .int .i64 0] := (hbY.block _ Hz.out.lt).trans Hz.out
        have Hgr := Lib.hid (grown_row Hgr.out (below_grown hbY) (fun q e => by cases e)); clear hbY
        obtain ⟨ay, cy, rfl, _, _⟩ := huy.ints
        have Huy := Lib.hid huy; clear huy
        have hn6 : (Value.slice ay x.ps.length cy).ownBlock ≠ some w.heap.size := fun e => by have := (Huy.out.lt _ e).1; omega
        have j0 := Str.cell t1 0 (v := (.int .i64 0)) rfl
        have j1 := Str.cell t1 1 (v := (.int .i64 0)) rfl
        have j2 := Str.cell t1 2 (v := (.slice none 0 0)) rfl
        have j3 := Str.cell t1 3 (v := (.int .i64 0)) rfl
        have g0 := Str.frozen t1 0
        have g1 := Str.frozen t1 1
        have g2 := Str.frozen t1 2
        have g3 := Str.frozen t1 3
        have u := (Str.set (Str.set (Str.set (Str.set t1 0 (.int .i64 x.r)) 1 (.int .i64 x.a)) 2 (.slice ay x.ps.length cy)) 3 (.int .i64 x.d))
        have e0 := Str.cell u 0 (v := .int .i64 x.r) rfl
        have e1 := Str.cell u 1 (v := .int .i64 x.a) rfl
        have e2 := Str.cell u 2 (v := .slice ay x.ps.length cy) rfl
        have e3 := Str.cell u 3 (v := .int .i64 x.d) rfl
        clear u t1
        go_wp2
        refine bodyPost_ret (v := .agg #[.int .i64 x.r, .int .i64 x.a, .slice ay x.ps.length cy, .int .i64 x.d]) (by simp [results, Try.f26, go_sem, e0, e1, e2, e3]) rfl ?_
        exact ⟨⟨x.r, x.a, x.ps, x.d⟩, _, rfl, (Own.set_other (Own.set_other (Own.set_other (Own.set_other (Huy.out.mono (show w.heap.size ≤ wX.heap.size by omega)) hn6 0 _) hn6 1 _) hn6 2 _) hn6 3 _), (by show x.ps.length ≤ 300; omega), (grown_row (grown_row (grown_row (grown_row Hgr.out (grownBy_set _ w.heap.size 0 (.int .i64 x.r)) (fun q e => by cases e; exact Nat.le_refl _)) (grownBy_set _ w.heap.size 1 (.int .i64 x.a)) (fun q e => by cases e; exact Nat.le_refl _)) (grownBy_set _ w.heap.size 2 (.slice ay x.ps.length cy)) (fun q e => by cases e; exact Nat.le_refl _)) (grownBy_set _ w.heap.size 3 (.int .i64 x.d)) (fun q e => by cases e; exact Nat.le_refl _))⟩
      have e5' : (s == 5) = false := by rw [beq_eq_false_iff_ne]; exact h5
      clear h5
      have hnb : (Value.slice pa ps.length pc).ownBlock ≠ some Bv := Hnb.out
      have hn6 : (Value.slice pa ps.length pc).ownBlock ≠ some w.heap.size := fun e => by have := (Hop.out.lt _ e).1; omega
      have t0 := Ht.out
      have t1 := Hz.out
      clear hnb
      have m0 := Str.cell t0 0 (v := .int .i64 N) rfl
      have m1 := Str.cell t0 1 (v := .int .i64 a) rfl
      have m2 := Str.cell t0 2 (v := .slice pa ps.length pc) rfl
      have m3 := Str.cell t0 3 (v := .int .i64 d) rfl
      have j0 := Str.cell t1 0 (v := (.int .i64 0)) rfl
      have j1 := Str.cell t1 1 (v := (.int .i64 0)) rfl
      have j2 := Str.cell t1 2 (v := (.slice none 0 0)) rfl
      have j3 := Str.cell t1 3 (v := (.int .i64 0)) rfl
      have g0 := Str.frozen t1 0
      have g1 := Str.frozen t1 1
      have g2 := Str.frozen t1 2
      have g3 := Str.frozen t1 3
      have u := (Str.set (Str.set (Str.set (Str.set t1 0 (.int .i64 N)) 1 (.int .i64 a)) 2 (.slice pa ps.length pc)) 3 (.int .i64 d))
      have e0 := Str.cell u 0 (v := .int .i64 N) rfl
      have e1 := Str.cell u 1 (v := .int .i64 a) rfl
      have e2 := Str.cell u 2 (v := .slice pa ps.length pc) rfl
      have e3 := Str.cell u 3 (v := .int .i64 d) rfl
      clear u t0 t1
      go_wp2
      refine bodyPost_ret (v := .agg #[.int .i64 N, .int .i64 a, .slice pa ps.length pc, .int .i64 d]) (by simp [results, Try.f26, go_sem, e0, e1, e2, e3]) rfl ?_
      exact ⟨⟨N, a, ps, d⟩, _, rfl, (Own.set_other (Own.set_other (Own.set_other (Own.set_other (Hop.out.mono (Nat.le_succ _)) hn6 0 _) hn6 1 _) hn6 2 _) hn6 3 _), hpl, (grown_row (grown_row (grown_row (grown_row Hgr.out (grownBy_set _ w.heap.size 0 (.int .i64 N)) (fun q e => by cases e; exact Nat.le_refl _)) (grownBy_set _ w.heap.size 1 (.int .i64 a)) (fun q e => by cases e; exact Nat.le_refl _)) (grownBy_set _ w.heap.size 2 (.slice pa ps.length pc)) (fun q e => by cases e; exact Nat.le_refl _)) (grownBy_set _ w.heap.size 3 (.int .i64 d)) (fun q e => by cases e; exact Nat.le_refl _))⟩
    have hNd : decide ((0 : Int) < N) = false := decide_eq_false hN
    go_wp2_with fail
    generalize wB.alloc (.cells #[.int .i64 N, .int .i64 a, .slice (some ⟨wA.heap.size, 0, none⟩) 0 0, .int .i64 d] 25) = wC at *
    generalize wB.heap.size = Bv at *
    obtain ⟨pa, pc, ps, e1, e2, e3⟩ : ∃ (pa : Option Addr) (pc : Nat) (ps : List Int), pa = some ⟨wA.heap.size, 0, none⟩ ∧ pc = 0 ∧ ps = [] := ⟨_, _, _, rfl, rfl, rfl⟩
    have hpl : ps.length ≤ 300 := by subst e3; simp
    have Hop : Hid (Own 3 wC (w.heap.size + 1) (.slice pa ps.length pc) ps) := by subst e1 e2 e3; exact Hop0
    have Ht : Hid (Str wC Bv 25 #[.int .i64 N, .int .i64 a, .slice pa ps.length pc, .int .i64 d]) := by subst e1 e2 e3; exact Ht
    have Hnb : Hid ((Value.slice pa ps.length pc).ownBlock ≠ some Bv) := by subst e1 e2 e3; exact Lib.hid (by simp [Value.ownBlock]; omega)
    clear e1 e2 e3 Hop0
    refine (pick_any R 12 (pB) _ (by omega) Hrd.out (by omega)).mono ?_
    rintro e wS ⟨s, rfl, hs0, hs1, hrS, hgS⟩
    have hsS := hgS.size
    have Hrd := Lib.hid hrS; clear hrS
    have Ht := Lib.hid (Ht.out.kept hgS (by simp; omega))
    have Hz := Lib.hid (Hz.out.kept hgS (by simp; omega))
    have Hop := Lib.hid (Hop.out.kept hgS (.inr fun e => by have := (Hop.out.lt R e).1; omega))
    have Hgr := Lib.hid (grownBy_trans Hgr.out hgS); clear hgS hs0 hs1
    by_cases h0 : s = 0
    · subst h0
      go_wp2_with fail
      refine (drawMembers R (pB + 1) c.length _ (by omega) (by omega) Hrd.out (by omega)).mono ?_
      rintro e wX ⟨um, ms, pX, rfl, hum, hml, hrX, hpX, hgX⟩
      have hsX := hgX.size
      have Ht := Lib.hid (Ht.out.kept hgX (by simp; omega))
      have Hz := Lib.hid (Hz.out.kept hgX (by simp; omega))
      have Hgr := Lib.hid (grownBy_trans Hgr.out hgX); clear hgX
      obtain ⟨am, cm, rfl, _, _⟩ := hum.ints
      have Hum := Lib.hid hum; clear hum
      have hnbm : (Value.slice am ms.length cm).ownBlock ≠ some Bv := fun e => by have := (Hum.out.lt _ e).1; omega
      have hn6 : (Value.slice am ms.length cm).ownBlock ≠ some w.heap.size := fun e => by have := (Hum.out.lt _ e).1; omega
      have o29 := Ht.out.cell 2 (v := .slice pa ps.length pc) rfl
      have f29 := Ht.out.frozen 2
      have t0 : Str (wX.setCell ⟨Bv, 2, none⟩ (.slice am ms.length cm)) Bv 25 #[.int .i64 N, .int .i64 a, .slice am ms.length cm, .int .i64 d] := by have := Ht.out.set 2 (.slice am ms.length cm); simpa using this
      have t1 := Hz.out.other hB6 2 (.slice am ms.length cm)
      have m0 := Str.cell t0 0 (v := .int .i64 N) rfl
      have m1 := Str.cell t0 1 (v := .int .i64 a) rfl
      have m2 := Str.cell t0 2 (v := .slice am ms.length cm) rfl
      have m3 := Str.cell t0 3 (v := .int .i64 d) rfl
      have j0 := Str.cell t1 0 (v := (.int .i64 0)) rfl
      have j1 := Str.cell t1 1 (v := (.int .i64 0)) rfl
      have j2 := Str.cell t1 2 (v := (.slice none 0 0)) rfl
      have j3 := Str.cell t1 3 (v := (.int .i64 0)) rfl
      have g0 := Str.frozen t1 0
      have g1 := Str.frozen t1 1
      have g2 := Str.frozen t1 2
      have g3 := Str.frozen t1 3
      have u := (Str.set (Str.set (Str.set (Str.set t1 0 (.int .i64 N)) 1 (.int .i64 a)) 2 (.slice am ms.length cm)) 3 (.int .i64 d))
      have e0 := Str.cell u 0 (v := .int .i64 N) rfl
      have e1 := Str.cell u 1 (v := .int .i64 a) rfl
      have e2 := Str.cell u 2 (v := .slice am ms.length cm) rfl
      have e3 := Str.cell u 3 (v := .int .i64 d) rfl
      clear u t0 t1
      go_wp2
      refine bodyPost_ret (v := .agg #[.int .i64 N, .int .i64 a, .slice am ms.length cm, .int .i64 d]) (by simp [results, Try.f26, go_sem, e0, e1, e2, e3]) rfl ?_
      exact ⟨⟨N, a, ms, d⟩, _, rfl, (Own.set_other (Own.set_other (Own.set_other (Own.set_other ((Hum.out.mono (show w.heap.size ≤ wS.heap.size by omega)).set_other hnbm 2 (.slice am ms.length cm)) hn6 0 _) hn6 1 _) hn6 2 _) hn6 3 _), (by show ms.length ≤ 300; omega), (grown_row (grown_row (grown_row (grown_row (grown_row Hgr.out (grownBy_set wX Bv 2 (.slice am ms.length cm)) (fun q e => by cases e; omega)) (grownBy_set _ w.heap.size 0 (.int .i64 N)) (fun q e => by cases e; exact Nat.le_refl _)) (grownBy_set _ w.heap.size 1 (.int .i64 a)) (fun q e => by cases e; exact Nat.le_refl _)) (grownBy_set _ w.heap.size 2 (.slice am ms.length cm)) (fun q e => by cases e; exact Nat.le_refl _)) (grownBy_set _ w.heap.size 3 (.int .i64 d)) (fun q e => by cases e; exact Nat.le_refl _))⟩
    have e0' : (s == 0) = false := by rw [beq_eq_false_iff_ne]; exact h0
    clear h0
    by_cases h1 : s = 1
    · subst h1
      go_wp2_with fail
      refine (pick_any R 9 (pB + 1) _ (by omega) Hrd.out (by omega)).mono ?_
      rintro e wX ⟨z, rfl, hz0, hz1, hrX, hgX⟩
      have hsX := hgX.size
      have Ht := Lib.hid (Ht.out.kept hgX (by simp; omega))
      have Hz := Lib.hid (Hz.out.kept hgX (by simp; omega))
      have Hop := Lib.hid (Hop.out.kept hgX (.inr fun e => by have := (Hop.out.lt R e).1; omega))
      have Hgr := Lib.hid (grownBy_trans Hgr.out hgX); clear hgX
      have hwz : IntKind.i64.wrap (z - 1) = z - 1 := IntWalk.i64_in _ (by omega)
      have hnb : (Value.slice pa ps.length pc).ownBlock ≠ some Bv := Hnb.out
      have hn6 : (Value.slice pa ps.length pc).ownBlock ≠ some w.heap.size := fun e => by have := (Hop.out.lt _ e).1; omega
      have o19 := Ht.out.cell 1 (v := .int .i64 a) rfl
      have f19 := Ht.out.frozen 1
      have t0 : Str (wX.setCell ⟨Bv, 1, none⟩ (.int .i64 (z - 1))) Bv 25 #[.int .i64 N, .int .i64 (z - 1), .slice pa ps.length pc, .int .i64 d] := by have := Ht.out.set 1 (.int .i64 (z - 1)); simpa using this
      have t1 := Hz.out.other hB6 1 (.int .i64 (z - 1))
      have m0 := Str.cell t0 0 (v := .int .i64 N) rfl
      have m1 := Str.cell t0 1 (v := .int .i64 (z - 1)) rfl
      have m2 := Str.cell t0 2 (v := .slice pa ps.length pc) rfl
      have m3 := Str.cell t0 3 (v := .int .i64 d) rfl
      have j0 := Str.cell t1 0 (v := (.int .i64 0)) rfl
      have j1 := Str.cell t1 1 (v := (.int .i64 0)) rfl
      have j2 := Str.cell t1 2 (v := (.slice none 0 0)) rfl
      have j3 := Str.cell t1 3 (v := (.int .i64 0)) rfl
      have g0 := Str.frozen t1 0
      have g1 := Str.frozen t1 1
      have g2 := Str.frozen t1 2
      have g3 := Str.frozen t1 3
      have u := (Str.set (Str.set (Str.set (Str.set t1 0 (.int .i64 N)) 1 (.int .i64 (z - 1))) 2 (.slice pa ps.length pc)) 3 (.int .i64 d))
      have e0 := Str.cell u 0 (v := .int .i64 N) rfl
      have e1 := Str.cell u 1 (v := .int .i64 (z - 1)) rfl
      have e2 := Str.cell u 2 (v := .slice pa ps.length pc) rfl
      have e3 := Str.cell u 3 (v := .int .i64 d) rfl
      clear u t0 t1
      go_wp2
      refine bodyPost_ret (v := .agg #[.int .i64 N, .int .i64 (z - 1), .slice pa ps.length pc, .int .i64 d]) (by simp [results, Try.f26, go_sem, e0, e1, e2, e3]) rfl ?_
      exact ⟨⟨N, (z - 1), ps, d⟩, _, rfl, (Own.set_other (Own.set_other (Own.set_other (Own.set_other ((Hop.out.mono (Nat.le_succ _)).set_other hnb 1 (.int .i64 (z - 1))) hn6 0 _) hn6 1 _) hn6 2 _) hn6 3 _), hpl, (grown_row (grown_row (grown_row (grown_row (grown_row Hgr.out (grownBy_set wX Bv 1 (.int .i64 (z - 1))) (fun q e => by cases e; omega)) (grownBy_set _ w.heap.size 0 (.int .i64 N)) (fun q e => by cases e; exact Nat.le_refl _)) (grownBy_set _ w.heap.size 1 (.int .i64 (z - 1))) (fun q e => by cases e; exact Nat.le_refl _)) (grownBy_set _ w.heap.size 2 (.slice pa ps.length pc)) (fun q e => by cases e; exact Nat.le_refl _)) (grownBy_set _ w.heap.size 3 (.int .i64 d)) (fun q e => by cases e; exact Nat.le_refl _))⟩
    have e1' : (s == 1) = false := by rw [beq_eq_false_iff_ne]; exact h1
    clear h1
    by_cases h2 : s = 2
    · subst h2
      go_wp2_with fail
      refine (pick_any R 33 (pB + 1) _ (by omega) Hrd.out (by omega)).mono ?_
      rintro e wX ⟨z, rfl, hz0, hz1, hrX, hgX⟩
      have hsX := hgX.size
      have Ht := Lib.hid (Ht.out.kept hgX (by simp; omega))
      have Hz := Lib.hid (Hz.out.kept hgX (by simp; omega))
      have Hop := Lib.hid (Hop.out.kept hgX (.inr fun e => by have := (Hop.out.lt R e).1; omega))
      have Hgr := Lib.hid (grownBy_trans Hgr.out hgX); clear hgX
      have hwz : IntKind.i64.wrap (z - 1) = z - 1 := IntWalk.i64_in _ (by omega)
      have hnb : (Value.slice pa ps.length pc).ownBlock ≠ some Bv := Hnb.out
      have hn6 : (Value.slice pa ps.length pc).ownBlock ≠ some w.heap.size := fun e => by have := (Hop.out.lt _ e).1; omega
      have o09 := Ht.out.cell 0 (v := .int .i64 N) rfl
      have f09 := Ht.out.frozen 0
      have t0 : Str (wX.setCell ⟨Bv, 0, none⟩ (.int .i64 (z - 1))) Bv 25 #[.int .i64 (z - 1), .int .i64 a, .slice pa ps.length pc, .int .i64 d] := by have := Ht.out.set 0 (.int .i64 (z - 1)); simpa using this
      have t1 := Hz.out.other hB6 0 (.int .i64 (z - 1))
      have m0 := Str.cell t0 0 (v := .int .i64 (z - 1)) rfl
      have m1 := Str.cell t0 1 (v := .int .i64 a) rfl
      have m2 := Str.cell t0 2 (v := .slice pa ps.length pc) rfl
      have m3 := Str.cell t0 3 (v := .int .i64 d) rfl
      have j0 := Str.cell t1 0 (v := (.int .i64 0)) rfl
      have j1 := Str.cell t1 1 (v := (.int .i64 0)) rfl
      have j2 := Str.cell t1 2 (v := (.slice none 0 0)) rfl
      have j3 := Str.cell t1 3 (v := (.int .i64 0)) rfl
      have g0 := Str.frozen t1 0
      have g1 := Str.frozen t1 1
      have g2 := Str.frozen t1 2
      have g3 := Str.frozen t1 3
      have u := (Str.set (Str.set (Str.set (Str.set t1 0 (.int .i64 (z - 1))) 1 (.int .i64 a)) 2 (.slice pa ps.length pc)) 3 (.int .i64 d))
      have e0 := Str.cell u 0 (v := .int .i64 (z - 1)) rfl
      have e1 := Str.cell u 1 (v := .int .i64 a) rfl
      have e2 := Str.cell u 2 (v := .slice pa ps.length pc) rfl
      have e3 := Str.cell u 3 (v := .int .i64 d) rfl
      clear u t0 t1
      go_wp2
      refine bodyPost_ret (v := .agg #[.int .i64 (z - 1), .int .i64 a, .slice pa ps.length pc, .int .i64 d]) (by simp [results, Try.f26, go_sem, e0, e1, e2, e3]) rfl ?_
      exact ⟨⟨(z - 1), a, ps, d⟩, _, rfl, (Own.set_other (Own.set_other (Own.set_other (Own.set_other ((Hop.out.mono (Nat.le_succ _)).set_other hnb 0 (.int .i64 (z - 1))) hn6 0 _) hn6 1 _) hn6 2 _) hn6 3 _), hpl, (grown_row (grown_row (grown_row (grown_row (grown_row Hgr.out (grownBy_set wX Bv 0 (.int .i64 (z - 1))) (fun q e => by cases e; omega)) (grownBy_set _ w.heap.size 0 (.int .i64 (z - 1))) (fun q e => by cases e; exact Nat.le_refl _)) (grownBy_set _ w.heap.size 1 (.int .i64 a)) (fun q e => by cases e; exact Nat.le_refl _)) (grownBy_set _ w.heap.size 2 (.slice pa ps.length pc)) (fun q e => by cases e; exact Nat.le_refl _)) (grownBy_set _ w.heap.size 3 (.int .i64 d)) (fun q e => by cases e; exact Nat.le_refl _))⟩
    have e2' : (s == 2) = false := by rw [beq_eq_false_iff_ne]; exact h2
    clear h2
    by_cases h3 : s = 3
    · subst h3
      by_cases hgz : g.length = 0
      · have hd0 : decide ((0 : Int) < (g.length : Int)) = false := decide_eq_false (by omega)
        have hd0' : ¬ (0 : Int) < (g.length : Int) := by omega
        have hnb : (Value.slice pa ps.length pc).ownBlock ≠ some Bv := Hnb.out
        have hn6 : (Value.slice pa ps.length pc).ownBlock ≠ some w.heap.size := fun e => by have := (Hop.out.lt _ e).1; omega
        have t0 := Ht.out
        have t1 := Hz.out
        clear hnb
        have m0 := Str.cell t0 0 (v := .int .i64 N) rfl
        have m1 := Str.cell t0 1 (v := .int .i64 a) rfl
        have m2 := Str.cell t0 2 (v := .slice pa ps.length pc) rfl
        have m3 := Str.cell t0 3 (v := .int .i64 d) rfl
        have j0 := Str.cell t1 0 (v := (.int .i64 0)) rfl
        have j1 := Str.cell t1 1 (v := (.int .i64 0)) rfl
        have j2 := Str.cell t1 2 (v := (.slice none 0 0)) rfl
        have j3 := Str.cell t1 3 (v := (.int .i64 0)) rfl
        have g0 := Str.frozen t1 0
        have g1 := Str.frozen t1 1
        have g2 := Str.frozen t1 2
        have g3 := Str.frozen t1 3
        have u := (Str.set (Str.set (Str.set (Str.set t1 0 (.int .i64 N)) 1 (.int .i64 a)) 2 (.slice pa ps.length pc)) 3 (.int .i64 d))
        have e0 := Str.cell u 0 (v := .int .i64 N) rfl
        have e1 := Str.cell u 1 (v := .int .i64 a) rfl
        have e2 := Str.cell u 2 (v := .slice pa ps.length pc) rfl
        have e3 := Str.cell u 3 (v := .int .i64 d) rfl
        clear u t1
        go_wp2
        refine bodyPost_ret (v := .agg #[.int .i64 N, .int .i64 a, .slice pa ps.length pc, .int .i64 d]) (by simp [results, Try.f26, go_sem, e0, e1, e2, e3]) rfl ?_
        exact ⟨⟨N, a, ps, d⟩, _, rfl, (Own.set_other (Own.set_other (Own.set_other (Own.set_other (Hop.out.mono (Nat.le_succ _)) hn6 0 _) hn6 1 _) hn6 2 _) hn6 3 _), hpl, (grown_row (grown_row (grown_row (grown_row Hgr.out (grownBy_set _ w.heap.size 0 (.int .i64 N)) (fun q e => by cases e; exact Nat.le_refl _)) (grownBy_set _ w.heap.size 1 (.int .i64 a)) (fun q e => by cases e; exact Nat.le_refl _)) (grownBy_set _ w.heap.size 2 (.slice pa ps.length pc)) (fun q e => by cases e; exact Nat.le_refl _)) (grownBy_set _ w.heap.size 3 (.int .i64 d)) (fun q e => by cases e; exact Nat.le_refl _))⟩
      have hd0 : decide ((0 : Int) < (g.length : Int)) = true := decide_eq_true (by omega)
      have hd0' : (0 : Int) < (g.length : Int) := by omega
      go_wp2_with fail
      refine (pick_any R (g.length : Int) (pB + 1) _ (by omega) Hrd.out (by omega)).mono ?_
      rintro e wX ⟨k, rfl, hk0, hk1, hrX, hgX⟩
      obtain ⟨k, rfl⟩ := Int.eq_ofNat_of_zero_le hk0
      have hk : k < g.length := by omega
      have hsX := hgX.size
      have Hz := Lib.hid (Hz.out.kept hgX (by simp; omega))
      have Hgr := Lib.hid (grownBy_trans Hgr.out hgX); clear hgX
      obtain ⟨gb, off, rfl, _, hat⟩ := (Hg.out _ Hgr.out).at (by omega)
      obtain ⟨c0, c1, ⟨pk, ck, c2, i2, s2⟩, c3⟩ := hat k hk
      have hpk := Hps.out _ (List.getElem_mem hk)
      have Hone := Lib.hid (spec_l11One g[k].r g[k].a g[k].d pk ck g[k].ps wX (by omega) s2 i2)
      clear hat i2 s2
      generalize g[k] = x at *
      go_wp2_with fail
      refine Hone.out.mono ?_
      rintro e wY ⟨uy, rfl, huy, hbY⟩
      have hsY := hbY.size
      have t1 : Str wY w.heap.size 25 #[.int .i64 0, .int .i64 0, .slice none 0 0, .int .i64 0] := (hbY.block _ Hz.out.lt).trans Hz.out
      have Hgr := Lib.hid (grown_row Hgr.out (below_grown hbY) (fun q e => by cases e)); clear hbY
      obtain ⟨ay, cy, rfl, _, _⟩ := huy.ints
      have Huy := Lib.hid huy; clear huy
      have hn6 : (Value.slice ay x.ps.length cy).ownBlock ≠ some w.heap.size := fun e => by have := (Huy.out.lt _ e).1; omega
      have j0 := Str.cell t1 0 (v := (.int .i64 0)) rfl
      have j1 := Str.cell t1 1 (v := (.int .i64 0)) rfl
      have j2 := Str.cell t1 2 (v := (.slice none 0 0)) rfl
      have j3 := Str.cell t1 3 (v := (.int .i64 0)) rfl
      have g0 := Str.frozen t1 0
      have g1 := Str.frozen t1 1
      have g2 := Str.frozen t1 2
      have g3 := Str.frozen t1 3
      have u := (Str.set (Str.set (Str.set (Str.set t1 0 (.int .i64 x.r)) 1 (.int .i64 x.a)) 2 (.slice ay x.ps.length cy)) 3 (.int .i64 x.d))
      have e0 := Str.cell u 0 (v := .int .i64 x.r) rfl
      have e1 := Str.cell u 1 (v := .int .i64 x.a) rfl
      have e2 := Str.cell u 2 (v := .slice ay x.ps.length cy) rfl
      have e3 := Str.cell u 3 (v := .int .i64 x.d) rfl
      clear u t1
      go_wp2
      refine bodyPost_ret (v := .agg #[.int .i64 x.r, .int .i64 x.a, .slice ay x.ps.length cy, .int .i64 x.d]) (by simp [results, Try.f26, go_sem, e0, e1, e2, e3]) rfl ?_
      exact ⟨⟨x.r, x.a, x.ps, x.d⟩, _, rfl, (Own.set_other (Own.set_other (Own.set_other (Own.set_other (Huy.out.mono (show w.heap.size ≤ wX.heap.size by omega)) hn6 0 _) hn6 1 _) hn6 2 _) hn6 3 _), (by show x.ps.length ≤ 300; omega), (grown_row (grown_row (grown_row (grown_row Hgr.out (grownBy_set _ w.heap.size 0 (.int .i64 x.r)) (fun q e => by cases e; exact Nat.le_refl _)) (grownBy_set _ w.heap.size 1 (.int .i64 x.a)) (fun q e => by cases e; exact Nat.le_refl _)) (grownBy_set _ w.heap.size 2 (.slice ay x.ps.length cy)) (fun q e => by cases e; exact Nat.le_refl _)) (grownBy_set _ w.heap.size 3 (.int .i64 x.d)) (fun q e => by cases e; exact Nat.le_refl _))⟩
    have e3' : (s == 3) = false := by rw [beq_eq_false_iff_ne]; exact h3
    clear h3
    by_cases h4 : s = 4
    · subst h4
      by_cases hgz : g.length = 0
      · have hd0 : decide ((0 : Int) < (g.length : Int)) = false := decide_eq_false (by omega)
        have hd0' : ¬ (0 : Int) < (g.length : Int) := by omega
        have hnb : (Value.slice pa ps.length pc).ownBlock ≠ some Bv := Hnb.out
        have hn6 : (Value.slice pa ps.length pc).ownBlock ≠ some w.heap.size := fun e => by have := (Hop.out.lt _ e).1; omega
        have t0 := Ht.out
        have t1 := Hz.out
        clear hnb
        have m0 := Str.cell t0 0 (v := .int .i64 N) rfl
        have m1 := Str.cell t0 1 (v := .int .i64 a) rfl
        have m2 := Str.cell t0 2 (v := .slice pa ps.length pc) rfl
        have m3 := Str.cell t0 3 (v := .int .i64 d) rfl
        have j0 := Str.cell t1 0 (v := (.int .i64 0)) rfl
        have j1 := Str.cell t1 1 (v := (.int .i64 0)) rfl
        have j2 := Str.cell t1 2 (v := (.slice none 0 0)) rfl
        have j3 := Str.cell t1 3 (v := (.int .i64 0)) rfl
        have g0 := Str.frozen t1 0
        have g1 := Str.frozen t1 1
        have g2 := Str.frozen t1 2
        have g3 := Str.frozen t1 3
        have u := (Str.set (Str.set (Str.set (Str.set t1 0 (.int .i64 N)) 1 (.int .i64 a)) 2 (.slice pa ps.length pc)) 3 (.int .i64 d))
        have e0 := Str.cell u 0 (v := .int .i64 N) rfl
        have e1 := Str.cell u 1 (v := .int .i64 a) rfl
        have e2 := Str.cell u 2 (v := .slice pa ps.length pc) rfl
        have e3 := Str.cell u 3 (v := .int .i64 d) rfl
        clear u t1
        go_wp2
        refine bodyPost_ret (v := .agg #[.int .i64 N, .int .i64 a, .slice pa ps.length pc, .int .i64 d]) (by simp [results, Try.f26, go_sem, e0, e1, e2, e3]) rfl ?_
        exact ⟨⟨N, a, ps, d⟩, _, rfl, (Own.set_other (Own.set_other (Own.set_other (Own.set_other (Hop.out.mono (Nat.le_succ _)) hn6 0 _) hn6 1 _) hn6 2 _) hn6 3 _), hpl, (grown_row (grown_row (grown_row (grown_row Hgr.out (grownBy_set _ w.heap.size 0 (.int .i64 N)) (fun q e => by cases e; exact Nat.le_refl _)) (grownBy_set _ w.heap.size 1 (.int .i64 a)) (fun q e => by cases e; exact Nat.le_refl _)) (grownBy_set _ w.heap.size 2 (.slice pa ps.length pc)) (fun q e => by cases e; exact Nat.le_refl _)) (grownBy_set _ w.heap.size 3 (.int .i64 d)) (fun q e => by cases e; exact Nat.le_refl _))⟩
      have hd0 : decide ((0 : Int) < (g.length : Int)) = true := decide_eq_true (by omega)
      have hd0' : (0 : Int) < (g.length : Int) := by omega
      go_wp2_with fail
      refine (pick_any R (g.length : Int) (pB + 1) _ (by omega) Hrd.out (by omega)).mono ?_
      rintro e wX ⟨k, rfl, hk0, hk1, hrX, hgX⟩
      obtain ⟨k, rfl⟩ := Int.eq_ofNat_of_zero_le hk0
      have hk : k < g.length := by omega
      have hsX := hgX.size
      have Hz := Lib.hid (Hz.out.kept hgX (by simp; omega))
      have Hgr := Lib.hid (grownBy_trans Hgr.out hgX); clear hgX
      obtain ⟨gb, off, rfl, _, hat⟩ := (Hg.out _ Hgr.out).at (by omega)
      obtain ⟨c0, c1, ⟨pk, ck, c2, i2, s2⟩, c3⟩ := hat k hk
      have hpk := Hps.out _ (List.getElem_mem hk)
      have Hone := Lib.hid (spec_l11One g[k].r g[k].a g[k].d pk ck g[k].ps wX (by omega) s2 i2)
      clear hat i2 s2
      generalize g[k] = x at *
      go_wp2_with fail
      refine Hone.out.mono ?_
      rintro e wY ⟨uy, rfl, huy, hbY⟩
      have hsY := hbY.size
      have t1 : Str wY w.heap.size 25 #[.int .i64 0, .int .i64 0, .slice none 0 0, .int .i64 0] := (hbY.block _ Hz.out.lt).trans Hz.out
      have Hgr := Lib.hid (grown_row Hgr.out (below_grown hbY) (fun q e => by cases e)); clear hbY
      obtain ⟨ay, cy, rfl, _, _⟩ := huy.ints
      have Huy := Lib.hid huy; clear huy
      have hn6 : (Value.slice ay x.ps.length cy).ownBlock ≠ some w.heap.size := fun e => by have := (Huy.out.lt _ e).1; omega
      have j0 := Str.cell t1 0 (v := (.int .i64 0)) rfl
      have j1 := Str.cell t1 1 (v := (.int .i64 0)) rfl
      have j2 := Str.cell t1 2 (v := (.slice none 0 0)) rfl
      have j3 := Str.cell t1 3 (v := (.int .i64 0)) rfl
      have g0 := Str.frozen t1 0
      have g1 := Str.frozen t1 1
      have g2 := Str.frozen t1 2
      have g3 := Str.frozen t1 3
      have u := (Str.set (Str.set (Str.set (Str.set t1 0 (.int .i64 x.r)) 1 (.int .i64 x.a)) 2 (.slice ay x.ps.length cy)) 3 (.int .i64 x.d))
      have e0 := Str.cell u 0 (v := .int .i64 x.r) rfl
      have e1 := Str.cell u 1 (v := .int .i64 x.a) rfl
      have e2 := Str.cell u 2 (v := .slice ay x.ps.length cy) rfl
      have e3 := Str.cell u 3 (v := .int .i64 x.d) rfl
      clear u t1
      go_wp2
      refine bodyPost_ret (v := .agg #[.int .i64 x.r, .int .i64 x.a, .slice ay x.ps.length cy, .int .i64 x.d]) (by simp [results, Try.f26, go_sem, e0, e1, e2, e3]) rfl ?_
      exact ⟨⟨x.r, x.a, x.ps, x.d⟩, _, rfl, (Own.set_other (Own.set_other (Own.set_other (Own.set_other (Huy.out.mono (show w.heap.size ≤ wX.heap.size by omega)) hn6 0 _) hn6 1 _) hn6 2 _) hn6 3 _), (by show x.ps.length ≤ 300; omega), (grown_row (grown_row (grown_row (grown_row Hgr.out (grownBy_set _ w.heap.size 0 (.int .i64 x.r)) (fun q e => by cases e; exact Nat.le_refl _)) (grownBy_set _ w.heap.size 1 (.int .i64 x.a)) (fun q e => by cases e; exact Nat.le_refl _)) (grownBy_set _ w.heap.size 2 (.slice ay x.ps.length cy)) (fun q e => by cases e; exact Nat.le_refl _)) (grownBy_set _ w.heap.size 3 (.int .i64 x.d)) (fun q e => by cases e; exact Nat.le_refl _))⟩
    have e4' : (s == 4) = false := by rw [beq_eq_false_iff_ne]; exact h4
    clear h4
    by_cases h5 : s = 5
    · subst h5
      by_cases hgz : g.length = 0
      · have hd0 : decide ((0 : Int) < (g.length : Int)) = false := decide_eq_false (by omega)
        have hd0' : ¬ (0 : Int) < (g.length : Int) := by omega
        have hnb : (Value.slice pa ps.length pc).ownBlock ≠ some Bv := Hnb.out
        have hn6 : (Value.slice pa ps.length pc).ownBlock ≠ some w.heap.size := fun e => by have := (Hop.out.lt _ e).1; omega
        have t0 := Ht.out
        have t1 := Hz.out
        clear hnb
        have m0 := Str.cell t0 0 (v := .int .i64 N) rfl
        have m1 := Str.cell t0 1 (v := .int .i64 a) rfl
        have m2 := Str.cell t0 2 (v := .slice pa ps.length pc) rfl
        have m3 := Str.cell t0 3 (v := .int .i64 d) rfl
        have j0 := Str.cell t1 0 (v := (.int .i64 0)) rfl
        have j1 := Str.cell t1 1 (v := (.int .i64 0)) rfl
        have j2 := Str.cell t1 2 (v := (.slice none 0 0)) rfl
        have j3 := Str.cell t1 3 (v := (.int .i64 0)) rfl
        have g0 := Str.frozen t1 0
        have g1 := Str.frozen t1 1
        have g2 := Str.frozen t1 2
        have g3 := Str.frozen t1 3
        have u := (Str.set (Str.set (Str.set (Str.set t1 0 (.int .i64 N)) 1 (.int .i64 a)) 2 (.slice pa ps.length pc)) 3 (.int .i64 d))
        have e0 := Str.cell u 0 (v := .int .i64 N) rfl
        have e1 := Str.cell u 1 (v := .int .i64 a) rfl
        have e2 := Str.cell u 2 (v := .slice pa ps.length pc) rfl
        have e3 := Str.cell u 3 (v := .int .i64 d) rfl
        clear u t1
        go_wp2
        refine bodyPost_ret (v := .agg #[.int .i64 N, .int .i64 a, .slice pa ps.length pc, .int .i64 d]) (by simp [results, Try.f26, go_sem, e0, e1, e2, e3]) rfl ?_
        exact ⟨⟨N, a, ps, d⟩, _, rfl, (Own.set_other (Own.set_other (Own.set_other (Own.set_other (Hop.out.mono (Nat.le_succ _)) hn6 0 _) hn6 1 _) hn6 2 _) hn6 3 _), hpl, (grown_row (grown_row (grown_row (grown_row Hgr.out (grownBy_set _ w.heap.size 0 (.int .i64 N)) (fun q e => by cases e; exact Nat.le_refl _)) (grownBy_set _ w.heap.size 1 (.int .i64 a)) (fun q e => by cases e; exact Nat.le_refl _)) (grownBy_set _ w.heap.size 2 (.slice pa ps.length pc)) (fun q e => by cases e; exact Nat.le_refl _)) (grownBy_set _ w.heap.size 3 (.int .i64 d)) (fun q e => by cases e; exact Nat.le_refl _))⟩
      have hd0 : decide ((0 : Int) < (g.length : Int)) = true := decide_eq_true (by omega)
      have hd0' : (0 : Int) < (g.length : Int) := by omega
      go_wp2_with fail
      refine (pick_any R (g.length : Int) (pB + 1) _ (by omega) Hrd.out (by omega)).mono ?_
      rintro e wX ⟨k, rfl, hk0, hk1, hrX, hgX⟩
      obtain ⟨k, rfl⟩ := Int.eq_ofNat_of_zero_le hk0
      have hk : k < g.length := by omega
      have hsX := hgX.size
      have Hz := Lib.hid (Hz.out.kept hgX (by simp; omega))
      have Hgr := Lib.hid (grownBy_trans Hgr.out hgX); clear hgX
      obtain ⟨gb, off, rfl, _, hat⟩ := (Hg.out _ Hgr.out).at (by omega)
      obtain ⟨c0, c1, ⟨pk, ck, c2, i2, s2⟩, c3⟩ := hat k hk
      have hpk := Hps.out _ (List.getElem_mem hk)
      have Hone := Lib.hid (spec_l11One g[k].r g[k].a g[k].d pk ck g[k].ps wX (by omega) s2 i2)
      clear hat i2 s2
      generalize g[k] = x at *
      go_wp2_with fail
      refine Hone.out.mono ?_
      rintro e wY ⟨uy, rfl, huy, hbY⟩
      have hsY := hbY.size
      have t1 : Str wY w.heap.size 25 #[.int .i64 0, .int .i64 0, .slice none 0 0, .int .i64 0] := (hbY.block _ Hz.out.lt).trans Hz.out
      have Hgr := Lib.hid (grown_row Hgr.out (below_grown hbY) (fun q e => by cases e)); clear hbY
      obtain ⟨ay, cy, rfl, _, _⟩ := huy.ints
      have Huy := Lib.hid huy; clear huy
      have hn6 : (Value.slice ay x.ps.length cy).ownBlock ≠ some w.heap.size := fun e => by have := (Huy.out.lt _ e).1; omega
      have j0 := Str.cell t1 0 (v := (.int .i64 0)) rfl
      have j1 := Str.cell t1 1 (v := (.int .i64 0)) rfl
      have j2 := Str.cell t1 2 (v := (.slice none 0 0)) rfl
      have j3 := Str.cell t1 3 (v := (.int .i64 0)) rfl
      have g0 := Str.frozen t1 0
      have g1 := Str.frozen t1 1
      have g2 := Str.frozen t1 2
      have g3 := Str.frozen t1 3
      have u := (Str.set (Str.set (Str.set (Str.set t1 0 (.int .i64 x.r)) 1 (.int .i64 x.a)) 2 (.slice ay x.ps.length cy)) 3 (.int .i64 x.d))
      have e0 := Str.cell u 0 (v := .int .i64 x.r) rfl
      have e1 := Str.cell u 1 (v := .int .i64 x.a) rfl
      have e2 := Str.cell u 2 (v := .slice ay x.ps.length cy) rfl
      have e3 := Str.cell u 3 (v := .int .i64 x.d) rfl
      clear u t1
      go_wp2
      refine bodyPost_ret (v := .agg #[.int .i64 x.r, .int .i64 x.a, .slice ay x.ps.length cy, .int .i64 x.d]) (by simp [results, Try.f26, go_sem, e0, e1, e2, e3]) rfl ?_
      exact ⟨⟨x.r, x.a, x.ps, x.d⟩, _, rfl, (Own.set_other (Own.set_other (Own.set_other (Own.set_other (Huy.out.mono (show w.heap.size ≤ wX.heap.size by omega)) hn6 0 _) hn6 1 _) hn6 2 _) hn6 3 _), (by show x.ps.length ≤ 300; omega), (grown_row (grown_row (grown_row (grown_row Hgr.out (grownBy_set _ w.heap.size 0 (.int .i64 x.r)) (fun q e => by cases e; exact Nat.le_refl _)) (grownBy_set _ w.heap.size 1 (.int .i64 x.a)) (fun q e => by cases e; exact Nat.le_refl _)) (grownBy_set _ w.heap.size 2 (.slice ay x.ps.length cy)) (fun q e => by cases e; exact Nat.le_refl _)) (grownBy_set _ w.heap.size 3 (.int .i64 x.d)) (fun q e => by cases e; exact Nat.le_refl _))⟩
    have e5' : (s == 5) = false := by rw [beq_eq_false_iff_ne]; exact h5
    clear h5
    have hnb : (Value.slice pa ps.length pc).ownBlock ≠ some Bv := Hnb.out
    have hn6 : (Value.slice pa ps.length pc).ownBlock ≠ some w.heap.size := fun e => by have := (Hop.out.lt _ e).1; omega
    have t0 := Ht.out
    have t1 := Hz.out
    clear hnb
    have m0 := Str.cell t0 0 (v := .int .i64 N) rfl
    have m1 := Str.cell t0 1 (v := .int .i64 a) rfl
    have m2 := Str.cell t0 2 (v := .slice pa ps.length pc) rfl
    have m3 := Str.cell t0 3 (v := .int .i64 d) rfl
    have j0 := Str.cell t1 0 (v := (.int .i64 0)) rfl
    have j1 := Str.cell t1 1 (v := (.int .i64 0)) rfl
    have j2 := Str.cell t1 2 (v := (.slice none 0 0)) rfl
    have j3 := Str.cell t1 3 (v := (.int .i64 0)) rfl
    have g0 := Str.frozen t1 0
    have g1 := Str.frozen t1 1
    have g2 := Str.frozen t1 2
    have g3 := Str.frozen t1 3
    have u := (Str.set (Str.set (Str.set (Str.set t1 0 (.int .i64 N)) 1 (.int .i64 a)) 2 (.slice pa ps.length pc)) 3 (.int .i64 d))
    have e0 := Str.cell u 0 (v := .int .i64 N) rfl
    have e1 := Str.cell u 1 (v := .int .i64 a) rfl
    have e2 := Str.cell u 2 (v := .slice pa ps.length pc) rfl
    have e3 := Str.cell u 3 (v := .int .i64 d) rfl
    clear u t0 t1
    go_wp2
    refine bodyPost_ret (v := .agg #[.int .i64 N, .int .i64 a, .slice pa ps.length pc, .int .i64 d]) (by simp [results, Try.f26, go_sem, e0, e1, e2, e3]) rfl ?_
    exact ⟨⟨N, a, ps, d⟩, _, rfl, (Own.set_other (Own.set_other (Own.set_other (Own.set_other (Hop.out.mono (Nat.le_succ _)) hn6 0 _) hn6 1 _) hn6 2 _) hn6 3 _), hpl, (grown_row (grown_row (grown_row (grown_row Hgr.out (grownBy_set _ w.heap.size 0 (.int .i64 N)) (fun q e => by cases e; exact Nat.le_refl _)) (grownBy_set _ w.heap.size 1 (.int .i64 a)) (fun q e => by cases e; exact Nat.le_refl _)) (grownBy_set _ w.heap.size 2 (.slice pa ps.length pc)) (fun q e => by cases e; exact Nat.le_refl _)) (grownBy_set _ w.heap.size 3 (.int .i64 d)) (fun q e => by cases e; exact Nat.le_refl _))⟩

end Go.Proofs.Ythnbjdijcpcafaa

/- The draws of GraphValid, GraphAuthors and GraphHeight: what is drawn reads as a graph in new memory; each by a walk of its text; condition: the code is shorter than 2^20. -/
namespace Go.Proofs.Ythnbjdijcpcafaa
open Go.RowKit

theorem Gr.capl {w : World} {g : List Vx} {a : Option Addr} {cap : Nat} {fp : List Nat} (h : Gr w g (.slice a g.length cap) fp) : g.length ≤ cap := by
  unfold Gr rowsD at h
  obtain ⟨a', cap', h1 | ⟨h1, _⟩⟩ := Rd.list h
  · obtain ⟨e, hle⟩ := h1
    simp only [Value.slice.injEq] at e
    obtain ⟨_, _, rfl⟩ := e
    simpa using hle
  · have : g.length = 0 := by simpa using congrArg List.length h1
    omega

end Go.Proofs.Ythnbjdijcpcafaa

/- What the laws of graphs say of the reference's answers: a first part of a graph is a graph, the rounds up to the height are those with a quorum, the listed authors; plain facts on lists, nothing here is walked. -/
namespace Go.Proofs.Ythnbjdijcpcafaa
open Go.RowKit

theorem graph_take {c : List Int} {g : List Vx} (h : graphB c g = true) (k : Nat) : graphB c (g.take k) = true := by
  obtain ⟨h1, h2, h3, h4⟩ := graph_iff.1 h
  refine graph_iff.2 ⟨h1, h2.sublist (List.take_sublist _ _), fun y hy => h3 y (List.mem_of_mem_take hy), fun y hy => parB_iff.2 fun p hp => ?_⟩
  obtain ⟨z, hz, er, ea⟩ := parB_iff.1 (h4 y (List.mem_of_mem_take hy)) p hp
  refine ⟨z, ?_, er, ea⟩
  obtain ⟨i, hi, rfl⟩ := List.mem_iff_getElem.1 hy
  obtain ⟨j, hj, rfl⟩ := List.mem_iff_getElem.1 hz
  rw [List.getElem_take] at er
  rw [List.length_take] at hi
  have hji : j < i := by
    rcases Nat.lt_trichotomy j i with h5 | h5 | h5
    · exact h5
    · subst h5; omega
    · have := befB_iff.1 (List.pairwise_iff_getElem.1 h2 i j (by omega) hj h5); omega
  exact List.mem_iff_getElem.2 ⟨j, by rw [List.length_take]; omega, by rw [List.getElem_take]⟩
theorem mem_authZ {g : List Vx} {r m : Int} : m ∈ authZ g r ↔ ∃ z ∈ g, z.r = r ∧ z.a = m := by
  unfold authZ authP
  simp [List.mem_map, List.mem_filter, and_assoc]
theorem q_down {c : List Int} {g : List Vx} (h : graphB c g = true) {r : Int} (hr : 0 < r) (hq : qAt c g r = true) : qAt c g (r - 1) = true := by
  obtain ⟨h1, h2, h3, h4⟩ := graph_iff.1 h
  unfold qAt at hq ⊢
  rw [decide_eq_true_eq] at hq ⊢
  have hp := quorum_pos h1
  match hps : authZ g r with
  | [] => rw [hps] at hq; have : weightZ c [] = 0 := rfl; omega
  | m :: ms =>
    obtain ⟨y, hy, er, _⟩ := mem_authZ.1 (show m ∈ authZ g r by rw [hps]; simp)
    refine Int.le_trans (vtx_quo (h3 y hy) (by omega)) (weight_mono h1 (ascP_of (vtx_mem (h3 y hy))) (ascP_of (auth_members h (r - 1))) fun p hp => ?_)
    obtain ⟨z, hz, er2, ea2⟩ := parB_iff.1 (h4 y hy) p hp
    exact mem_authZ.2 ⟨z, hz, by omega, ea2⟩
theorem q_downs {c : List Int} {g : List Vx} (h : graphB c g = true) (n : Nat) (hq : qAt c g n = true) : ∀ d, d ≤ n → qAt c g ((n - d : Nat) : Int) = true
  | 0, _ => by simpa using hq
  | d + 1, hd => by
    have ih := q_downs h n hq d (by omega)
    have := q_down h (r := ((n - d : Nat) : Int)) (by omega) ih
    rwa [show ((n - d : Nat) : Int) - 1 = ((n - (d + 1) : Nat) : Int) by omega] at this
theorem hgt_iff {c : List Int} {g : List Vx} (h : graphB c g = true) : ∀ (n r : Nat), r < n → (qAt c g r = true ↔ (r : Int) ≤ hgtTo c g n)
  | n + 1, r, hr => by
    unfold hgtTo
    by_cases hq : qAt c g n = true
    · rw [if_pos hq]
      refine ⟨fun _ => by omega, fun _ => ?_⟩
      have := q_downs h n hq (n - r) (by omega)
      rwa [show n - (n - r) = r by omega] at this
    · rw [if_neg hq]
      by_cases e : r = n
      · subst e
        have := (hgt_bd c g r).2
        exact ⟨fun h9 => absurd h9 hq, fun h9 => by omega⟩
      · exact hgt_iff h n r (by omega)
theorem auth_has {c : List Int} {g : List Vx} (h : graphB c g = true) (r a : Int) : hasB (authZ g r) a = decide (0 ≤ findZ g r a) := by
  obtain ⟨h1, h2, h3, h4⟩ := graph_iff.1 h
  rw [Bool.eq_iff_iff, decide_eq_true_eq]
  constructor
  · intro hh
    have hm : a ∈ authZ g r := by unfold hasB at hh; simpa using hh
    obtain ⟨z, hz, er, ea⟩ := mem_authZ.1 hm
    obtain ⟨k, _, ek, _⟩ := findZ_mem h2 hz
    rw [er, ea] at ek; omega
  · intro hh
    have hm : a ∈ authZ g r := by
      rcases findZ_cases g r a with ⟨e, _⟩ | ⟨j, hj, e, hs, _⟩
      · omega
      · obtain ⟨er, ea⟩ := of_decide_eq_true hs
        exact mem_authZ.2 ⟨_, List.getElem_mem hj, er, ea⟩
    unfold hasB; simpa using hm
/-- A first part of a graph reads as one. -/
theorem Gr.take {w : World} {g : List Vx} {a : Option Addr} {cap : Nat} {fp : List Nat} (h : Gr w g (.slice a g.length cap) fp) (k : Nat) (hk : k ≤ g.length) : ∃ fp', Gr w (g.take k) (.slice a (g.take k).length cap) fp' := by
  by_cases h0 : g.length = 0
  · have e : g = [] := by cases g with | nil => rfl | cons => simp at h0
    subst e
    exact ⟨fp, by simpa using h⟩
  obtain ⟨b, off, rfl, _, _⟩ := h.at (by omega)
  have hl : (g.take k).length = k := by rw [List.length_take]; omega
  rw [hl]
  unfold Gr rowsD at h ⊢
  obtain ⟨fp', h2, _⟩ := Rd.cut h (sz := 4) (by intro e he; simp only [List.map_map, List.mem_map] at he; obtain ⟨x, _, rfl⟩ := he; rfl) 0 k off cap (by simp; omega) (fun _ => by omega) (fun h9 => by omega)
  refine ⟨fp', ?_⟩
  rw [List.drop_zero, ← List.map_take, ← List.map_take] at h2
  exact h2
end Go.Proofs.Ythnbjdijcpcafaa
