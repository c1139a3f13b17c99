/- Texts that the laws of this folder share, one behind another; no conditions. -/
import Derived.Test.YteglefchkecfjabRows
import Derived.Test.YteglefchkecfjabBu4
import Derived.Test.YteglefchkecfjabBu1
import Derived.Test.YteglefchkecfjabBu0
import Derived.Test.YteglefchkecfjabBu2
import Derived.Deep.QuietTactic
import Derived.BigQuiet
import Derived.RangeFuncNested
import Derived.RangeFuncBound
import Derived.RangeFuncCalls
import Derived.RangeFuncLeaves
import Derived.Shelf.Abstract
import Derived.Shelf.RegionOpen
import Derived.WalkKit
import Derived.OwnWalkIn
import Derived.TacticsInMore
import Derived.LoopNIn
import Derived.LoopIn
import Derived.Deep.RegionHeld3
import Derived.RangeFuncBox
import Derived.Test.YteglefchkecfjabBu3

/- The draw of a graph and a vertex; by a walk of its text; condition: the code is shorter than 2^20. -/
namespace Go.Proofs.Yteglefchkecfjab
open Go.RowKit

set_option maxHeartbeats 2000000 in
theorem spec_DrawGraphAdd (a : Option Addr) (cap : Nat) (zs : List Int) (w : World) (h : CodeAt w a cap zs) :
    Calls Try.prog 15 #[.slice a zs.length cap] w fun e w' => ∃ vc c vg g fp x pa pc, e = .returned (.tuple #[vc, vg, .agg #[.int .i64 (Vx.r x), .int .i64 x.a, .slice pa x.ps.length pc, .int .i64 x.d]]) ∧ Own 3 w' w.heap.size vc c ∧ c.length ≤ 11 ∧ Gr w' g vg fp ∧ (∀ r ∈ fp, w.heap.size ≤ r) ∧ g.length ≤ 281 ∧ (∀ x ∈ g, x.ps.length ≤ 100) ∧ IntsAt w' pa x.ps ∧ SrcAt w' pa pc x.ps ∧ x.ps.length ≤ pc ∧ x.ps.length ≤ 300 ∧ Below w.heap.size w w' := by
  have Hs0 := Lib.hid (Str.new w 30 #[.int .i64 0, .int .i64 0, .slice none 0 0, .int .i64 0])
  have hb0 : Below w.heap.size w (w.alloc (.cells #[.int .i64 0, .int .i64 0, .slice none 0 0, .int .i64 0] 30)) := (Below.refl _ _).alloc (Nat.le_refl _) _
  have hz0 : (w.alloc (.cells #[.int .i64 0, .int .i64 0, .slice none 0 0, .int .i64 0] 30)).heap.size = w.heap.size + 1 := by simp
  have Hop := Lib.hid (open_any a cap zs _ (h.below hb0)); clear h
  have Hb0 := Lib.hid hb0; clear hb0
  go_enter Try.func15, Try.ntmps15
  go_wp2_with fail
  generalize w.alloc (.cells #[.int .i64 0, .int .i64 0, .slice none 0 0, .int .i64 0] 30) = w0 at *
  refine Hop.out.mono ?_
  rintro e w1 ⟨R, rfl, hR0, hR1, hr1, hb1⟩
  have hs1 := hb1.size
  have Hz1 := Lib.hid (show Str w1 w.heap.size 30 _ from (hb1.block _ Hs0.out.lt).trans Hs0.out)
  have Hr1 := Lib.hid hr1; clear hr1
  have Hb1 := Lib.hid (below_step Hb0.out Hb0.out.size hb1); clear hb1
  go_wp2_with fail
  refine (pick_any R 6 0 _ (by omega) Hr1.out (by omega)).mono ?_
  rintro e w2 ⟨n, rfl, hn0, hn1, hr2, hg2⟩
  have hs2 := hg2.size
  have Hr2 := Lib.hid hr2; clear hr2
  have Hz2 := Lib.hid (Hz1.out.kept hg2 (by simp; omega))
  have Hb2 := Lib.hid (Hb1.out.grown hg2 Hb1.out.size (fun g e => by cases e; omega)); clear hg2
  go_wp2_with fail
  refine (drawSpoilt R (0 + 1) n w2 (by omega) hn0 (by omega) Hr2.out (by omega)).mono ?_
  rintro e w3 ⟨vc, c, vg, g, fp, p3, rfl, hoc, hcl, hgr, hfp, hgl, hps, hr3, hp3, hg3⟩
  have hs3 := hg3.size
  obtain ⟨ac, cc, rfl, _, _⟩ := hoc.ints
  obtain ⟨ag, cg, rfl⟩ := hgr.slice
  have Hz3 := Lib.hid (Hz2.out.kept hg3 (by simp; omega))
  have Hb3 := Lib.hid (Hb2.out.grown hg3 Hb2.out.size (fun g e => by cases e; omega)); clear hg3
  have HV := Lib.hid (spec_GraphValid ac cc c g (.slice ag g.length cg) fp w3 (by omega) (by omega) (fun x hx => Nat.le_trans (hps x hx) (by omega)) hoc.at hgr)
  have hfn : w.heap.size ∉ fp := fun hm => by have := hfp _ hm; omega
  have hRf : R ∉ fp := fun hm => by have := hfp _ hm; omega
  have hn4 : (Value.slice ac c.length cc).ownBlock ≠ some w.heap.size := fun e => by have := (hoc.lt _ e).1; omega
  have hcR : (Value.slice ac c.length cc).ownBlock ≠ some R := fun e => by have := (hoc.lt _ e).1; omega
  have Hoc3 := Lib.hid hoc; clear hoc
  have Hgr3 := Lib.hid hgr; clear hgr
  have Hfp := Lib.hid hfp; clear hfp
  have Hr3 := Lib.hid hr3; clear hr3
  cases hgb : graphB c g with
  | false =>
    rw [hgb] at HV
    go_wp2_with fail
    refine HV.out.mono ?_
    rintro e w4 ⟨rfl, hb4⟩
    have hs4 := hb4.size
    have Hz4 := Lib.hid (show Str w4 w.heap.size 30 _ from (hb4.block _ Hz3.out.lt).trans Hz3.out)
    have Hoc4 := Lib.hid (Hoc3.out.below hb4)
    have Hgr4 := Lib.hid (Hgr3.out.under hb4)
    have Hr4 := Lib.hid (Hr3.out.kept (below_grown hb4) (fun q e => by cases e))
    have Hb4 := Lib.hid (below_step Hb3.out Hb3.out.size hb4); clear hb4
    go_wp2_with fail
    refine (pick_any R 4 p3 _ (by omega) Hr4.out (by omega)).mono ?_
    rintro e w5 ⟨y, rfl, hy0, hy1, hr5, hg5⟩
    have hs5 := hg5.size
    have Hz5 := Lib.hid (Hz4.out.kept hg5 (by simp; omega))
    have Hoc5 := Lib.hid (Hoc4.out.kept hg5 (.inr hcR))
    have Hgr5 := Lib.hid (show Gr w5 g _ fp from Rd.grown hg5 Hgr4.out (fun r e hm => by cases e; exact hRf hm))
    have Hr5 := Lib.hid hr5; clear hr5
    have Hb5 := Lib.hid (Hb4.out.grown hg5 Hb4.out.size (fun g e => by cases e; omega)); clear hg5
    go_wp2_with fail
    refine (drawDigest R (p3 + 1) _ (by omega) Hr5.out).mono ?_
    rintro e w6 ⟨d, p6, rfl, hd0, hd1, hr6, hp6, hg6⟩
    have hs6 := hg6.size
    have t1 := Hz5.out.kept hg6 (by simp; omega)
    have Hoc6 := Lib.hid (Hoc5.out.kept hg6 (.inr hcR))
    have Hgr6 := Lib.hid (show Gr w6 g _ fp from Rd.grown hg6 Hgr5.out (fun r e hm => by cases e; exact hRf hm))
    have Hb6 := Lib.hid (Hb5.out.grown hg6 Hb5.out.size (fun g e => by cases e; omega)); clear hg6 hr6
    have j0 := Str.cell t1 0 (v := (.int .i64 0)) rfl
    have j1 := Str.cell t1 1 (v := (.int .i64 0)) rfl
    have j2 := Str.cell t1 2 (v := (.slice none 0 0)) rfl
    have j3 := Str.cell t1 3 (v := (.int .i64 0)) rfl
    have g0 := Str.frozen t1 0
    have g1 := Str.frozen t1 1
    have g2 := Str.frozen t1 2
    have g3 := Str.frozen t1 3
    have u := (Str.set (Str.set (Str.set (Str.set t1 0 (.int .i64 0)) 1 (.int .i64 y)) 2 (.slice none 0 0)) 3 (.int .i64 d))
    have e0 := Str.cell u 0 (v := .int .i64 0) rfl
    have e1 := Str.cell u 1 (v := .int .i64 y) rfl
    have e2 := Str.cell u 2 (v := .slice none 0 0) rfl
    have e3 := Str.cell u 3 (v := .int .i64 d) rfl
    clear u t1
    go_wp2
    refine bodyPost_ret (v := .tuple #[.slice ac c.length cc, .slice ag g.length cg, .agg #[.int .i64 0, .int .i64 y, .slice none 0 0, .int .i64 d]]) (by simp [results, Try.f15, go_sem, e0, e1, e2, e3]) rfl ?_
    exact ⟨_, c, _, g, fp, ⟨0, y, [], d⟩, none, 0, rfl, (Own.set_other (Own.set_other (Own.set_other (Own.set_other (Hoc6.out.mono (show w.heap.size ≤ w2.heap.size by omega)) hn4 0 (.int .i64 0)) hn4 1 (.int .i64 y)) hn4 2 (.slice none 0 0)) hn4 3 (.int .i64 d)), hcl, (Rd.grown (grownBy_set _ w.heap.size 3 (.int .i64 d)) (Rd.grown (grownBy_set _ w.heap.size 2 (.slice none 0 0)) (Rd.grown (grownBy_set _ w.heap.size 1 (.int .i64 y)) (Rd.grown (grownBy_set _ w.heap.size 0 (.int .i64 0)) Hgr6.out (fun r e hm => by cases e; exact hfn hm)) (fun r e hm => by cases e; exact hfn hm)) (fun r e hm => by cases e; exact hfn hm)) (fun r e hm => by cases e; exact hfn hm)), fun r hr => Nat.le_trans (by omega) (Hfp.out r hr), hgl, hps, .inl rfl, .inl ⟨rfl, rfl, rfl⟩, by simp, by simp, (Below.setCell (p := ⟨w.heap.size, 3, none⟩) (Below.setCell (p := ⟨w.heap.size, 2, none⟩) (Below.setCell (p := ⟨w.heap.size, 1, none⟩) (Below.setCell (p := ⟨w.heap.size, 0, none⟩) Hb6.out (Nat.le_refl _) (.int .i64 0)) (Nat.le_refl _) (.int .i64 y)) (Nat.le_refl _) (.slice none 0 0)) (Nat.le_refl _) (.int .i64 d))⟩
  | true =>
    rw [hgb] at HV
    go_wp2_with fail
    refine HV.out.mono ?_
    rintro e w4 ⟨rfl, hb4⟩
    have hs4 := hb4.size
    have Hz4 := Lib.hid (show Str w4 w.heap.size 30 _ from (hb4.block _ Hz3.out.lt).trans Hz3.out)
    have Hoc4 := Lib.hid (Hoc3.out.below hb4)
    have Hgr4 := Lib.hid (Hgr3.out.under hb4)
    have Hr4 := Lib.hid (Hr3.out.kept (below_grown hb4) (fun q e => by cases e))
    have Hb4 := Lib.hid (below_step Hb3.out Hb3.out.size hb4); clear hb4
    have HX := Lib.hid (drawVertex R p3 w4 ac cc c g (.slice ag g.length cg) fp (by omega) hgb hgl hps Hr4.out (by omega) (fun W hW => (Hoc4.out.kept hW (.inr hcR)).at) (fun W hW => Rd.grown hW Hgr4.out (fun r e hm => by cases e; exact hRf hm)))
    clear hgb
    go_wp2_with fail
    refine HX.out.mono ?_
    rintro e w5 ⟨x, vp, rfl, huv, hxl, hg5⟩
    have hs5 := hg5.size
    have t1 := Hz4.out.kept hg5 (by simp; omega)
    have Hoc5 := Lib.hid (Hoc4.out.kept hg5 (.inr hcR))
    have Hgr5 := Lib.hid (show Gr w5 g _ fp from Rd.grown hg5 Hgr4.out (fun r e hm => by cases e; exact hRf hm))
    have Hb5 := Lib.hid (Hb4.out.grown hg5 Hb4.out.size (fun g e => by cases e; omega)); clear hg5
    obtain ⟨pa, pc, rfl, _, _⟩ := huv.ints
    have hn5 : (Value.slice pa x.ps.length pc).ownBlock ≠ some w.heap.size := fun e => by have := (huv.lt _ e).1; omega
    have Huv := Lib.hid huv; clear huv
    have j0 := Str.cell t1 0 (v := (.int .i64 0)) rfl
    have j1 := Str.cell t1 1 (v := (.int .i64 0)) rfl
    have j2 := Str.cell t1 2 (v := (.slice none 0 0)) rfl
    have j3 := Str.cell t1 3 (v := (.int .i64 0)) rfl
    have g0 := Str.frozen t1 0
    have g1 := Str.frozen t1 1
    have g2 := Str.frozen t1 2
    have g3 := Str.frozen t1 3
    have u := (Str.set (Str.set (Str.set (Str.set t1 0 (.int .i64 x.r)) 1 (.int .i64 x.a)) 2 (.slice pa x.ps.length pc)) 3 (.int .i64 x.d))
    have e0 := Str.cell u 0 (v := .int .i64 x.r) rfl
    have e1 := Str.cell u 1 (v := .int .i64 x.a) rfl
    have e2 := Str.cell u 2 (v := .slice pa x.ps.length pc) rfl
    have e3 := Str.cell u 3 (v := .int .i64 x.d) rfl
    clear u t1
    go_wp2
    refine bodyPost_ret (v := .tuple #[.slice ac c.length cc, .slice ag g.length cg, .agg #[.int .i64 x.r, .int .i64 x.a, .slice pa x.ps.length pc, .int .i64 x.d]]) (by simp [results, Try.f15, go_sem, e0, e1, e2, e3]) rfl ?_
    have hv := (Own.set_other (Own.set_other (Own.set_other (Own.set_other Huv.out hn5 0 (.int .i64 x.r)) hn5 1 (.int .i64 x.a)) hn5 2 (.slice pa x.ps.length pc)) hn5 3 (.int .i64 x.d))
    obtain ⟨_, _, e, hi, hsr, hcp⟩ := hv.src
    cases e
    exact ⟨_, c, _, g, fp, x, pa, pc, rfl, (Own.set_other (Own.set_other (Own.set_other (Own.set_other (Hoc5.out.mono (show w.heap.size ≤ w2.heap.size by omega)) hn4 0 (.int .i64 x.r)) hn4 1 (.int .i64 x.a)) hn4 2 (.slice pa x.ps.length pc)) hn4 3 (.int .i64 x.d)), hcl, (Rd.grown (grownBy_set _ w.heap.size 3 (.int .i64 x.d)) (Rd.grown (grownBy_set _ w.heap.size 2 (.slice pa x.ps.length pc)) (Rd.grown (grownBy_set _ w.heap.size 1 (.int .i64 x.a)) (Rd.grown (grownBy_set _ w.heap.size 0 (.int .i64 x.r)) Hgr5.out (fun r e hm => by cases e; exact hfn hm)) (fun r e hm => by cases e; exact hfn hm)) (fun r e hm => by cases e; exact hfn hm)) (fun r e hm => by cases e; exact hfn hm)), fun r hr => Nat.le_trans (by omega) (Hfp.out r hr), hgl, hps, hi, hsr, hcp, hxl, (Below.setCell (p := ⟨w.heap.size, 3, none⟩) (Below.setCell (p := ⟨w.heap.size, 2, none⟩) (Below.setCell (p := ⟨w.heap.size, 1, none⟩) (Below.setCell (p := ⟨w.heap.size, 0, none⟩) Hb5.out (Nat.le_refl _) (.int .i64 x.r)) (Nat.le_refl _) (.int .i64 x.a)) (Nat.le_refl _) (.slice pa x.ps.length pc)) (Nat.le_refl _) (.int .i64 x.d))⟩

end Go.Proofs.Yteglefchkecfjab

/- The laws' tests whether two vertices or two graphs are the same, each by a walk of its text; conditions: lists are shorter than 2^40. -/
namespace Go.Proofs.Yteglefchkecfjab
open Go.RowKit

theorem same_yes' {x y : Vx} (h1 : x.r = y.r) (h2 : x.a = y.a) (h4 : x.d = y.d) : sameB x y = decide (x.ps = y.ps) := by
  by_cases h : x.ps = y.ps
  · rw [decide_eq_true h]; exact decide_eq_true (vx_ext h1 h2 h h4)
  · rw [decide_eq_false h]; exact decide_eq_false fun e => h (by rw [e])
theorem eqB_dec (a b : List Int) : eqB a b = decide (a = b) := rfl

set_option maxHeartbeats 1000000 in
theorem laws_sameVertex (x y : Vx) (pa pa' : Option Addr) (pc pc' : Nat) (w : World) (hx : x.ps.length ≤ 1099511627776) (hy : y.ps.length ≤ 1099511627776) (hp : IntsAt w pa x.ps) (hp' : IntsAt w pa' y.ps) :
    Calls Try.prog 63 #[.agg #[.int .i64 x.r, .int .i64 x.a, .slice pa x.ps.length pc, .int .i64 x.d], .agg #[.int .i64 y.r, .int .i64 y.a, .slice pa' y.ps.length pc', .int .i64 y.d]] w fun e w' => e = .returned (.bool (sameB x y)) ∧ Below w.heap.size w w' := by
  have hb : Below w.heap.size w ((w.alloc (.cells #[.int .i64 x.r, .int .i64 x.a, .slice pa x.ps.length pc, .int .i64 x.d] 30)).alloc (.cells #[.int .i64 y.r, .int .i64 y.a, .slice pa' y.ps.length pc', .int .i64 y.d] 30)) := ((Below.refl _ w).alloc (Nat.le_refl _) _).alloc (by simp) _
  have H4 := Lib.hid (laws_sameInts pa pa' pc pc' x.ps y.ps _ hx hy (hp.below hb) (hp'.below hb))
  have Hb := Lib.hid hb; clear hb hp hp'
  by_cases h1 : x.r = y.r
  case neg =>
    have Hz := Lib.hid (sameB_no (x := x) (y := y) (fun e => h1 (by rw [e])))
    have e1 : (x.r == y.r) = false := by simpa using h1
    clear h1
    go_enter Try.func63, Try.ntmps63
    go_wp2
    go_ret
    exact ⟨by first | rfl | exact ret_bool (by rw [Hz.out]), Hb.out⟩
  have e1 : (x.r == y.r) = true := by simpa using h1
  by_cases h2 : x.a = y.a
  case neg =>
    have Hz := Lib.hid (sameB_no (x := x) (y := y) (fun e => h2 (by rw [e])))
    have e2 : (x.a == y.a) = false := by simpa using h2
    clear h1 h2
    go_enter Try.func63, Try.ntmps63
    go_wp2
    go_ret
    exact ⟨by first | rfl | exact ret_bool (by rw [Hz.out]), Hb.out⟩
  have e2 : (x.a == y.a) = true := by simpa using h2
  by_cases h4 : x.d = y.d
  case neg =>
    have Hz := Lib.hid (sameB_no (x := x) (y := y) (fun e => h4 (by rw [e])))
    have e4 : (x.d == y.d) = false := by simpa using h4
    clear h1 h2 h4
    go_enter Try.func63, Try.ntmps63
    go_wp2
    go_ret
    exact ⟨by first | rfl | exact ret_bool (by rw [Hz.out]), Hb.out⟩
  have e4 : (x.d == y.d) = true := by simpa using h4
  have Hz := Lib.hid ((same_yes' h1 h2 h4).trans (eqB_dec x.ps y.ps).symm)
  clear h1 h2 h4
  go_enter Try.func63, Try.ntmps63
  go_wp2_with fail
  refine H4.out.mono ?_
  rintro e w1 ⟨rfl, hd⟩
  have Hb1 := Lib.hid (below_step Hb.out Hb.out.size (hd.below _))
  clear hd
  go_wp2
  go_ret
  exact ⟨ret_bool (by rw [Hz.out]), Hb1.out⟩


set_option maxHeartbeats 1000000 in
theorem laws_sameGraph (g : List Vx) (v v' : Value) (fp fp' : List Nat) (w : World) (hbig : g.length ≤ 1099511627776) (hps : ∀ x ∈ g, x.ps.length ≤ 1099511627776) (hg : Gr w g v fp) (hg' : Gr w g v' fp') :
    Calls Try.prog 18 #[v, v'] w fun e w' => e = .returned (.bool true) ∧ Below w.heap.size w w' := by
  obtain ⟨va, vc, rfl⟩ := hg.slice
  obtain ⟨va', vc', rfl⟩ := hg'.slice
  have Hg := Lib.hid hg; clear hg
  have Hg' := Lib.hid hg'; clear hg'
  have HP := Lib.hid hps; clear hps
  have hn0 : ((g.length : Int) != (g.length : Int)) = false := by simp
  go_enter Try.func18, Try.ntmps18
  go_wp2_with fail
  go_loopw [5] (fun i wr => ∃ k : Nat, k ≤ g.length ∧ i = .int .i64 k ∧ Below w.heap.size w wr) (fun i _ => g.length - (intOf i).toNat)
  case atStart => exact ⟨0, by omega, rfl, Below.refl _ _⟩
  case round =>
    obtain ⟨k, hk, rfl, hbel⟩ := hrel
    have Hbel := Lib.hid hbel; clear hbel
    by_cases hlt : k < g.length
    · obtain ⟨b, off, rfl, hb, hat⟩ := (Hg.out.under Hbel.out).at (by omega)
      obtain ⟨b', off', rfl, hb', hat'⟩ := (Hg'.out.under Hbel.out).at (by omega)
      obtain ⟨c0, c1, ⟨pa, pc, c2, i2, _⟩, c3⟩ := hat k hlt
      obtain ⟨d0, d1, ⟨pa', pc', d2, j2, _⟩, d3⟩ := hat' k hlt
      have hp := HP.out _ (List.getElem_mem hlt)
      have HS := Lib.hid (fun W (h : IntsAt W pa g[k].ps) (h' : IntsAt W pa' g[k].ps) => laws_sameVertex g[k] g[k] pa pa' pc pc' W hp hp h h')
      rw [show sameB g[k] g[k] = true from decide_eq_true rfl] at HS
      have Hi2 := Lib.hid i2
      have Hj2 := Lib.hid j2
      clear hat hat' i2 j2 hp
      generalize g[k] = x at *
      obtain ⟨xr, xa, xp, xd⟩ := x
      dsimp only at *
      go_wp2_with fail
      refine wp_region_held_drew (S := fun w' => Below wr.heap.size wr w' ∧ w'.cell? ⟨b, off + k * 4, none⟩ = some (.int .i64 xr) ∧ w'.cell? ⟨b, off + k * 4 + 1, none⟩ = some (.int .i64 xa) ∧ w'.cell? ⟨b, off + k * 4 + 2, none⟩ = some (.slice pa xp.length pc) ∧ w'.cell? ⟨b, off + k * 4 + 3, none⟩ = some (.int .i64 xd) ∧ w'.cell? ⟨b', off' + k * 4, none⟩ = some (.int .i64 xr) ∧ w'.cell? ⟨b', off' + k * 4 + 1, none⟩ = some (.int .i64 xa) ∧ w'.cell? ⟨b', off' + k * 4 + 2, none⟩ = some (.slice pa' xp.length pc') ∧ w'.cell? ⟨b', off' + k * 4 + 3, none⟩ = some (.int .i64 xd)) (by kernel_rfl) ⟨(Below.refl _ _).drew, c0, c1, c2, c3, d0, d1, d2, d3⟩ (fun hH => ?_)
      refine takeH 0 (v := ?vr0) rfl (by kernel_rfl) (by kernel_rfl) (by kernel_rfl) (fun _ _ _ h => h) hH rfl ?yr0 ?rr0
      case yr0 => intro W hSw; go_simp; try with_reducible rfl
      try simp only [Act.put, List.setIfInBounds_toArray, List.set_cons_zero, List.set_cons_succ]
      refine takeH 1 (v := ?vr1) rfl (by kernel_rfl) (by kernel_rfl) (by kernel_rfl) (fun _ _ _ h => h) hH rfl ?yr1 ?rr1
      case yr1 => intro W hSw; go_simp; try with_reducible rfl
      try simp only [Act.put, List.setIfInBounds_toArray, List.set_cons_zero, List.set_cons_succ]
      refine takeH 2 (v := ?vr2) rfl (by kernel_rfl) (by kernel_rfl) (by kernel_rfl) (fun _ _ _ h => h) hH rfl ?yr2 ?rr2
      case yr2 => intro W hSw; go_simp; try with_reducible rfl
      try simp only [Act.put, List.setIfInBounds_toArray, List.set_cons_zero, List.set_cons_succ]
      refine takeH 3 (v := ?vr3) rfl (by kernel_rfl) (by kernel_rfl) (by kernel_rfl) (fun _ _ _ h => h) hH rfl ?yr3 ?rr3
      case yr3 => intro W hSw; go_simp; try with_reducible rfl
      try simp only [Act.put, List.setIfInBounds_toArray, List.set_cons_zero, List.set_cons_succ]
      refine takeH 4 (v := ?vr4) rfl (by kernel_rfl) (by kernel_rfl) (by kernel_rfl) (fun _ _ _ h => h) hH rfl ?yr4 ?rr4
      case yr4 => intro W hSw; go_simp; try with_reducible rfl
      try simp only [Act.put, List.setIfInBounds_toArray, List.set_cons_zero, List.set_cons_succ]
      refine takeH 5 (v := ?vr5) rfl (by kernel_rfl) (by kernel_rfl) (by kernel_rfl) (fun _ _ _ h => h) hH rfl ?yr5 ?rr5
      case yr5 => intro W hSw; go_simp; try with_reducible rfl
      try simp only [Act.put, List.setIfInBounds_toArray, List.set_cons_zero, List.set_cons_succ]
      refine takeH 6 (v := ?vr6) rfl (by kernel_rfl) (by kernel_rfl) (by kernel_rfl) (fun _ _ _ h => h) hH rfl ?yr6 ?rr6
      case yr6 => intro W hSw; go_simp; try with_reducible rfl
      try simp only [Act.put, List.setIfInBounds_toArray, List.set_cons_zero, List.set_cons_succ]
      refine takeH 7 (v := ?vr7) rfl (by kernel_rfl) (by kernel_rfl) (by kernel_rfl) (fun _ _ _ h => h) hH rfl ?yr7 ?rr7
      case yr7 => intro W hSw; go_simp; try with_reducible rfl
      try simp only [Act.put, List.setIfInBounds_toArray, List.set_cons_zero, List.set_cons_succ]
      refine callH 8 rfl (by kernel_rfl) rfl (fun K hK => ?_)
      go_simp
      go_at_call 63
      refine (HS.out _ (Hi2.out.below hH.1) (Hj2.out.below hH.1)).mono ?_
      rintro e wx ⟨rfl, hbx⟩
      refine hK.out _ _ ⟨hH.1.trans (hbx.mono hH.1.size), (hbx.cell (p := ⟨b, off + k * 4, none⟩) (by simp only; have := hH.1.size; omega)).trans hH.2.1, (hbx.cell (p := ⟨b, off + k * 4 + 1, none⟩) (by simp only; have := hH.1.size; omega)).trans hH.2.2.1, (hbx.cell (p := ⟨b, off + k * 4 + 2, none⟩) (by simp only; have := hH.1.size; omega)).trans hH.2.2.2.1, (hbx.cell (p := ⟨b, off + k * 4 + 3, none⟩) (by simp only; have := hH.1.size; omega)).trans hH.2.2.2.2.1, (hbx.cell (p := ⟨b', off' + k * 4, none⟩) (by simp only; have := hH.1.size; omega)).trans hH.2.2.2.2.2.1, (hbx.cell (p := ⟨b', off' + k * 4 + 1, none⟩) (by simp only; have := hH.1.size; omega)).trans hH.2.2.2.2.2.2.1, (hbx.cell (p := ⟨b', off' + k * 4 + 2, none⟩) (by simp only; have := hH.1.size; omega)).trans hH.2.2.2.2.2.2.2.1, (hbx.cell (p := ⟨b', off' + k * 4 + 3, none⟩) (by simp only; have := hH.1.size; omega)).trans hH.2.2.2.2.2.2.2.2⟩ (fun hH => ?_)
      clear hK K
      try simp only [Act.put, List.setIfInBounds_toArray, List.set_cons_zero, List.set_cons_succ]
      refine takeH 9 (v := ?vr9) rfl (by kernel_rfl) (by kernel_rfl) (by kernel_rfl) (fun _ _ _ h => h) hH rfl ?yr9 ?rr9
      case yr9 => intro W hSw; go_simp; try with_reducible rfl
      try simp only [Act.put, List.setIfInBounds_toArray, List.set_cons_zero, List.set_cons_succ]
      refine wpAnyH_done (by kernel_rfl) ?_ _
      try simp only [Act.put]
      obtain ⟨hbw, _⟩ := hH
      have Hbw := Lib.hid (below_step Hbel.out Hbel.out.size hbw)
      clear hbw c0 c1 c2 c3 d0 d1 d2 d3
      go_wp2
      go_roundw
      case rel => exact ⟨k + 1, by omega, by go_num, Hbw.out⟩
      case measure => simp [intOf]; omega
    · go_wp2
      go_ret
      exact ⟨rfl, Hbel.out⟩

end Go.Proofs.Yteglefchkecfjab

/- The laws' test whether a graph has a vertex, by a walk of its text; conditions: lists are shorter than 2^40. -/
namespace Go.Proofs.Yteglefchkecfjab
open Go.RowKit

def hasVx (g : List Vx) (x : Vx) : Bool := g.any fun y => sameB y x
theorem hasVx_yes {g : List Vx} {x : Vx} (h : x ∈ g) : hasVx g x = true := by
  unfold hasVx; rw [List.any_eq_true]; exact ⟨x, h, by unfold sameB; exact decide_eq_true rfl⟩
set_option maxRecDepth 8000 in
set_option maxHeartbeats 2000000 in
theorem laws_hasVertex (g : List Vx) (va : Option Addr) (vc : Nat) (fp : List Nat) (x : Vx) (pa : Option Addr) (pc : Nat) (w : World) (hbig : g.length ≤ 1099511627776) (hps : ∀ y ∈ g, y.ps.length ≤ 1099511627776) (hxp : x.ps.length ≤ 1099511627776) (hg : Gr w g (.slice va g.length vc) fp) (hp : IntsAt w pa x.ps) :
    Calls Try.prog 19 #[.slice va g.length vc, .agg #[.int .i64 x.r, .int .i64 x.a, .slice pa x.ps.length pc, .int .i64 x.d]] w fun e w' => e = .returned (.bool (hasVx g x)) ∧ Below w.heap.size w w' := by
  have hbA : Below w.heap.size w (w.alloc (.cells #[.int .i64 x.r, .int .i64 x.a, .slice pa x.ps.length pc, .int .i64 x.d] 30)) := (Below.refl _ _).alloc (Nat.le_refl _) _
  have HsA := Lib.hid (Str.new w 30 #[.int .i64 x.r, .int .i64 x.a, .slice pa x.ps.length pc, .int .i64 x.d])
  have hzA : (w.alloc (.cells #[.int .i64 x.r, .int .i64 x.a, .slice pa x.ps.length pc, .int .i64 x.d] 30)).heap.size = w.heap.size + 1 := by simp
  have HzA := Lib.hid hzA
  have HgA := Lib.hid (hg.under hbA); have HpA := Lib.hid (hp.below hbA); have HbA := Lib.hid hbA; have HP := Lib.hid hps
  clear hg hp hbA hps hzA
  go_enter Try.func19, Try.ntmps19
  go_wp2
  generalize w.alloc (.cells #[.int .i64 x.r, .int .i64 x.a, .slice pa x.ps.length pc, .int .i64 x.d] 30) = wA at *
  go_loopw [5] (fun i wr => ∃ k : Nat, k ≤ g.length ∧ i = .int .i64 k ∧ Hid (Upto (fun j => !(sameB (g.getD j vx0) x)) k) ∧ Below wA.heap.size wA wr) (fun i _ => g.length - (intOf i).toNat)
  case atStart => exact ⟨0, by omega, rfl, Lib.hid (upto_zero _), Below.refl _ _⟩
  case round =>
    obtain ⟨k, hk, rfl, Hup, hb⟩ := hrel
    have Hbr := Lib.hid hb; clear hb
    by_cases hlt : k < g.length
    · have hlt' : (k : Int) < (g.length : Int) := by omega
      obtain ⟨b, off, rfl, hb9, hat⟩ := (HgA.out.under Hbr.out).at (by omega)
      obtain ⟨c0, c1, ⟨qa, qc, c2, i2, _⟩, c3⟩ := hat k hlt
      have hs := (Hbr.out.block _ HsA.out.lt).trans HsA.out
      have hs : Str wr w.heap.size 30 #[.int .i64 x.r, .int .i64 x.a, .slice pa x.ps.length pc, .int .i64 x.d] := hs
      have k0 := hs.cell 0 (v := .int .i64 x.r) rfl
      have k1 := hs.cell 1 (v := .int .i64 x.a) rfl
      have k2 := hs.cell 2 (v := .slice pa x.ps.length pc) rfl
      have k3 := hs.cell 3 (v := .int .i64 x.d) rfl
      have hzr : w.heap.size < wr.heap.size := hs.lt
      have Hi2 := Lib.hid i2; have Hpr := Lib.hid (HpA.out.below Hbr.out)
      have HS := Lib.hid (fun W (h : IntsAt W qa g[k].ps) (h' : IntsAt W pa x.ps) => laws_sameVertex g[k] x qa pa qc pc W (HP.out _ (List.getElem_mem hlt)) hxp h h')
      have Hno := Lib.hid (fun (h : sameB g[k] x = false) => upto_step Hup.out (show (fun j => !(sameB (g.getD j vx0) x)) k = true by simp only; rw [getV hlt, h]; rfl))
      have Hyes := Lib.hid (fun (h : sameB g[k] x = true) => show hasVx g x = true by unfold hasVx; rw [List.any_eq_true]; exact ⟨_, List.getElem_mem hlt, h⟩)
      clear hat i2 hs
      generalize g[k] = y at *
      obtain ⟨yr, ya, yp, yd⟩ := y
      dsimp only at *
      generalize sameB ⟨yr, ya, yp, yd⟩ x = SB at *
      go_wp2_with fail
      refine wp_region_held_drew (S := fun W => Below wr.heap.size wr W ∧ W.cell? ⟨b, off + k * 4, none⟩ = some (.int .i64 yr) ∧ W.cell? ⟨b, off + k * 4 + 1, none⟩ = some (.int .i64 ya) ∧ W.cell? ⟨b, off + k * 4 + 2, none⟩ = some (.slice qa yp.length qc) ∧ W.cell? ⟨b, off + k * 4 + 3, none⟩ = some (.int .i64 yd) ∧ W.cell? ⟨w.heap.size, 0, none⟩ = some (.int .i64 x.r) ∧ W.cell? ⟨w.heap.size, 1, none⟩ = some (.int .i64 x.a) ∧ W.cell? ⟨w.heap.size, 2, none⟩ = some (.slice pa x.ps.length pc) ∧ W.cell? ⟨w.heap.size, 3, none⟩ = some (.int .i64 x.d)) (by kernel_rfl) ⟨(Below.refl _ _).drew, c0, c1, c2, c3, k0, k1, k2, k3⟩ (fun hH => ?_)
      refine takeH 0 (v := ?vh1) rfl (by kernel_rfl) (by kernel_rfl) (by kernel_rfl) (fun _ _ _ h => h) hH rfl ?yh1 ?rh1
      case yh1 => intro W hSw; go_simp; try with_reducible rfl
      try simp only [Act.put, List.setIfInBounds_toArray, List.set_cons_zero, List.set_cons_succ]
      refine takeH 1 (v := ?vh2) rfl (by kernel_rfl) (by kernel_rfl) (by kernel_rfl) (fun _ _ _ h => h) hH rfl ?yh2 ?rh2
      case yh2 => intro W hSw; go_simp; try with_reducible rfl
      try simp only [Act.put, List.setIfInBounds_toArray, List.set_cons_zero, List.set_cons_succ]
      refine takeH 2 (v := ?vh3) rfl (by kernel_rfl) (by kernel_rfl) (by kernel_rfl) (fun _ _ _ h => h) hH rfl ?yh3 ?rh3
      case yh3 => intro W hSw; go_simp; try with_reducible rfl
      try simp only [Act.put, List.setIfInBounds_toArray, List.set_cons_zero, List.set_cons_succ]
      refine takeH 3 (v := ?vh4) rfl (by kernel_rfl) (by kernel_rfl) (by kernel_rfl) (fun _ _ _ h => h) hH rfl ?yh4 ?rh4
      case yh4 => intro W hSw; go_simp; try with_reducible rfl
      try simp only [Act.put, List.setIfInBounds_toArray, List.set_cons_zero, List.set_cons_succ]
      refine takeH 4 (v := ?vh5) rfl (by kernel_rfl) (by kernel_rfl) (by kernel_rfl) (fun _ _ _ h => h) hH rfl ?yh5 ?rh5
      case yh5 => intro W hSw; go_simp; try with_reducible rfl
      try simp only [Act.put, List.setIfInBounds_toArray, List.set_cons_zero, List.set_cons_succ]
      refine callH 5 rfl (by kernel_rfl) rfl (fun K hK => ?_)
      go_simp
      go_at_call 63
      refine (HS.out _ (Hi2.out.below hH.1) (Hpr.out.below hH.1)).mono ?_
      rintro e wx ⟨rfl, hbx⟩
      dsimp only
      refine hK.out _ _ ⟨hH.1.trans (hbx.mono hH.1.size), (hbx.cell (p := ⟨b, off + k * 4, none⟩) (by simp only; have := hH.1.size; omega)).trans hH.2.1, (hbx.cell (p := ⟨b, off + k * 4 + 1, none⟩) (by simp only; have := hH.1.size; omega)).trans hH.2.2.1, (hbx.cell (p := ⟨b, off + k * 4 + 2, none⟩) (by simp only; have := hH.1.size; omega)).trans hH.2.2.2.1, (hbx.cell (p := ⟨b, off + k * 4 + 3, none⟩) (by simp only; have := hH.1.size; omega)).trans hH.2.2.2.2.1, (hbx.cell (p := ⟨w.heap.size, 0, none⟩) (by simp only; have := hH.1.size; omega)).trans hH.2.2.2.2.2.1, (hbx.cell (p := ⟨w.heap.size, 1, none⟩) (by simp only; have := hH.1.size; omega)).trans hH.2.2.2.2.2.2.1, (hbx.cell (p := ⟨w.heap.size, 2, none⟩) (by simp only; have := hH.1.size; omega)).trans hH.2.2.2.2.2.2.2.1, (hbx.cell (p := ⟨w.heap.size, 3, none⟩) (by simp only; have := hH.1.size; omega)).trans hH.2.2.2.2.2.2.2.2⟩ (fun hH => ?_)
      clear hK K
      try simp only [Act.put, List.setIfInBounds_toArray, List.set_cons_zero, List.set_cons_succ]
      have Hbx := Lib.hid (below_step Hbr.out Hbr.out.size hH.1)
      refine wpAnyH_done (by kernel_rfl) ?_ _
      try simp only [Act.put]
      clear hH c0 c1 c2 c3 k0 k1 k2 k3 hzr
      cases SB with
      | true =>
        have Hr := Lib.hid (Hyes.out rfl)
        go_wp2
        go_ret
        exact ⟨ret_bool Hr.out.symm, HbA.out.trans (Hbx.out.mono HbA.out.size)⟩
      | false =>
        have Hn := Lib.hid (Hno.out rfl)
        go_wp2
        go_roundw
        case rel => exact ⟨k + 1, by omega, by go_num, Hn, Hbx.out⟩
        case measure => simp [intOf]; omega
    · have Hr := Lib.hid (show hasVx g x = false by
        unfold hasVx
        rw [List.any_eq_false]
        intro y hy
        obtain ⟨j, hj, rfl⟩ := List.mem_iff_getElem.1 hy
        have := Hup.out j (by omega)
        simp only [getV hj] at this
        simpa using this)
      go_wp2
      go_ret
      exact ⟨ret_bool Hr.out.symm, HbA.out.trans (Hbr.out.mono HbA.out.size)⟩

end Go.Proofs.Yteglefchkecfjab

/- Shards reckoned on lists; plain arithmetic, no walk and no condition of our own. -/
namespace Go.Proofs.Yteglefchkecfjab

def powF (b : Int) : Nat → Int
  | 0 => 1
  | n + 1 => powF b n * b % 251
theorem powF_bd (b : Int) : ∀ n, 0 ≤ powF b n ∧ powF b n ≤ 250 := by
  intro n
  cases n with
  | zero => simp [powF]
  | succ n => rw [powF]; omega
theorem mul_bd {x y B C : Int} (h0 : 0 ≤ x) (h1 : x ≤ B) (h2 : 0 ≤ y) (h3 : y ≤ C) : 0 ≤ x * y ∧ x * y ≤ B * C :=
  ⟨Int.mul_nonneg h0 h2, Int.mul_le_mul h1 h3 h2 (by omega)⟩
def symB (n : Int) : Bool := decide (0 ≤ n ∧ n ≤ 250)
theorem symB_bd {n : Int} (h : symB n = true) : 0 ≤ n ∧ n ≤ 250 := of_decide_eq_true h
theorem symB_yes {n : Int} (h : 0 ≤ n ∧ n ≤ 250) : symB n = true := decide_eq_true h
theorem symB_no {n : Int} (h : ¬ (0 ≤ n ∧ n ≤ 250)) : symB n = false := decide_eq_false h
/-- The value of the first k symbols of a column at a number. -/
def valTo (d : List Int) (need col : Nat) (x : Int) : Nat → Int
  | 0 => 0
  | k + 1 => if col * need + k < d.length then (valTo d need col x k + d.getD (col * need + k) 0 * powF x k) % 251 else valTo d need col x k
theorem valTo_bd (d : List Int) (need col : Nat) (x : Int) : ∀ k, 0 ≤ valTo d need col x k ∧ valTo d need col x k ≤ 250 := by
  intro k
  induction k with
  | zero => simp [valTo]
  | succ k ih => rw [valTo]; split <;> omega
def valZ (d : List Int) (need col : Nat) (x : Int) : Int := valTo d need col x need
def colsN (d : List Int) (need : Nat) : Nat := (d.length + need - 1) / need
def shardV (d : List Int) (need : Nat) (x : Int) : List Int := (List.range (colsN d need)).map fun c => valZ d need c x
theorem shardV_len (d : List Int) (need : Nat) (x : Int) : (shardV d need x).length = colsN d need := by simp [shardV]
theorem cols_lt {d : List Int} {need c : Nat} (hn : 1 ≤ need) : c < colsN d need ↔ c * need < d.length := by
  unfold colsN
  rw [Nat.lt_div_iff_mul_lt (by omega)]
  have e := Nat.mul_comm c need
  constructor <;> intro h <;> omega
theorem cols_le {d : List Int} {need : Nat} (hn : 1 ≤ need) (h : d.length ≤ 12) : colsN d need ≤ 12 := by
  rcases Nat.lt_or_ge 12 (colsN d need) with h' | h'
  · have := (cols_lt (d := d) (c := 12) hn).1 h'
    have := Nat.mul_le_mul_left 12 hn
    omega
  · exact h'
def dataB (d : List Int) (need : Int) : Bool := d.all symB && decide (1 ≤ d.length ∧ d.length ≤ 12) && decide (1 ≤ need ∧ need ≤ 8)
theorem dataB_iff {d : List Int} {need : Int} (h : dataB d need = true) : (∀ x ∈ d, 0 ≤ x ∧ x ≤ 250) ∧ (1 ≤ d.length ∧ d.length ≤ 12) ∧ 1 ≤ need ∧ need ≤ 8 := by
  unfold dataB at h
  simp only [Bool.and_eq_true, List.all_eq_true, decide_eq_true_eq] at h
  exact ⟨fun x hx => symB_bd (h.1.1 x hx), h.1.2, h.2⟩
theorem dataB_bad {d : List Int} {k : Nat} (need : Int) (hk : k < d.length) (h : symB d[k] = false) : dataB d need = false := by unfold dataB; rw [pre_not hk h]; rfl
def makeB (d : List Int) (need many : Int) : Bool := dataB d need && decide (need ≤ many ∧ many ≤ 8)
def shardZ (d : List Int) (need : Nat) (k : Nat) : Int × List Int := ((k : Int) + 1, shardV d need ((k : Int) + 1))
def makeZ (d : List Int) (need many : Int) : List (Int × List Int) := if makeB d need many = true then (List.range many.toNat).map (shardZ d need.toNat) else []
theorem makeZ_yes {d : List Int} {need many : Nat} (h : makeB d need many = true) : makeZ d need many = (List.range many).map (shardZ d need) := by unfold makeZ; rw [if_pos h]; rfl
theorem makeZ_no {d : List Int} {need many : Int} (h : makeB d need many = false) : makeZ d need many = [] := by unfold makeZ; rw [if_neg (by simp [h])]

theorem makeB_iff {d : List Int} {need many : Int} (h : makeB d need many = true) : dataB d need = true ∧ need ≤ many ∧ many ≤ 8 := by
  unfold makeB at h; simp only [Bool.and_eq_true, decide_eq_true_eq] at h; exact h
theorem makeZ_len {d : List Int} {need many : Int} : (makeZ d need many).length ≤ 8 := by
  cases h : makeB d need many with
  | true =>
    have := makeB_iff h
    unfold makeZ; rw [if_pos h]; simp; omega
  | false => rw [makeZ_no h]; simp
theorem makeZ_in {d : List Int} {need many : Int} : ∀ s ∈ makeZ d need many, s.2.length ≤ 12 := by
  cases h : makeB d need many with
  | true =>
    have h1 := makeB_iff h
    have h2 := dataB_iff h1.1
    intro s hs
    unfold makeZ at hs; rw [if_pos h] at hs
    obtain ⟨k, _, rfl⟩ := List.mem_map.1 hs
    show (shardV _ _ _).length ≤ 12
    rw [shardV_len]
    exact cols_le (by omega) h2.2.1.2
  | false => rw [makeZ_no h]; simp
theorem cols_int {d : List Int} {need : Nat} (hn : 1 ≤ need) : ((colsN d need : Nat) : Int) = ((d.length : Int) + (need : Int) - 1) / (need : Int) := by
  unfold colsN
  rw [Int.natCast_ediv]
  congr 1
  omega

/-! shards are linear -/
def dblZ (x : Int) : Int := 2 * x % 251
theorem dbl_prod (x p : Int) : (dblZ x * p) % 251 = 2 * (x * p) % 251 := by
  unfold dblZ
  rw [Int.mul_emod, Int.emod_emod, ← Int.mul_emod, Int.mul_assoc]
theorem valTo_dbl (d : List Int) (need col : Nat) (x : Int) : ∀ k, valTo (d.map dblZ) need col x k = 2 * valTo d need col x k % 251 := by
  intro k
  induction k with
  | zero => simp [valTo]
  | succ k ih =>
    rw [valTo, valTo, List.length_map]
    by_cases h : col * need + k < d.length
    · rw [if_pos h, if_pos h, ih]
      have hg : (d.map dblZ).getD (col * need + k) 0 = dblZ (d.getD (col * need + k) 0) := by
        rw [getD_get (by simpa using h), getD_get h]; simp
      rw [hg]
      have := dbl_prod (d.getD (col * need + k) 0) (powF x k)
      generalize dblZ (d.getD (col * need + k) 0) * powF x k = q at *
      generalize d.getD (col * need + k) 0 * powF x k = r at *
      omega
    · rw [if_neg h, if_neg h, ih]
theorem valZ_dbl (d : List Int) (need col : Nat) (x : Int) : valZ (d.map dblZ) need col x = 2 * valZ d need col x % 251 := valTo_dbl d need col x need
theorem colsN_map (d : List Int) (f : Int → Int) (need : Nat) : colsN (d.map f) need = colsN d need := by unfold colsN; rw [List.length_map]
theorem dbl_data {d : List Int} {need : Int} (h : dataB d need = true) : dataB (d.map dblZ) need = true := by
  unfold dataB at *
  simp only [Bool.and_eq_true, List.all_eq_true, decide_eq_true_eq, List.length_map] at *
  refine ⟨⟨fun x hx => ?_, h.1.2⟩, h.2⟩
  obtain ⟨y, _, rfl⟩ := List.mem_map.1 hx
  exact symB_yes (by unfold dblZ; omega)
theorem shardV_get {d : List Int} {need : Nat} {x : Int} {c : Nat} (h : c < (shardV d need x).length) : (shardV d need x)[c] = valZ d need c x := by simp [shardV]

end Go.Proofs.Yteglefchkecfjab

/- Linear equations of shards, solved by elimination modulo 251; plain arithmetic, no walk and no condition of our own. -/
namespace Go.Proofs.Yteglefchkecfjab

/-- Congruent modulo 251. -/
def Cg (a b : Int) : Prop := ∃ k, a = b + 251 * k
theorem Cg.refl (a : Int) : Cg a a := ⟨0, by omega⟩
theorem Cg.of_eq {a b : Int} (h : a = b) : Cg a b := ⟨0, by omega⟩
theorem Cg.symm {a b : Int} (h : Cg a b) : Cg b a := by obtain ⟨k, h⟩ := h; exact ⟨-k, by omega⟩
theorem Cg.trans {a b c : Int} (h : Cg a b) (g : Cg b c) : Cg a c := by obtain ⟨k, h⟩ := h; obtain ⟨l, g⟩ := g; exact ⟨k + l, by omega⟩
theorem Cg.add {a b c d : Int} (h : Cg a b) (g : Cg c d) : Cg (a + c) (b + d) := by obtain ⟨k, h⟩ := h; obtain ⟨l, g⟩ := g; exact ⟨k + l, by omega⟩
theorem Cg.sub {a b c d : Int} (h : Cg a b) (g : Cg c d) : Cg (a - c) (b - d) := by obtain ⟨k, h⟩ := h; obtain ⟨l, g⟩ := g; exact ⟨k - l, by omega⟩
theorem Cg.mul {a b c d : Int} (h : Cg a b) (g : Cg c d) : Cg (a * c) (b * d) := by
  obtain ⟨k, rfl⟩ := h; obtain ⟨l, rfl⟩ := g
  refine ⟨b * l + k * d + 251 * (k * l), ?_⟩
  grind
theorem Cg.mod (a : Int) : Cg (a % 251) a := ⟨-(a / 251), by omega⟩
theorem Cg.eq {a b : Int} (h : Cg a b) (ha : 0 ≤ a ∧ a ≤ 250) (hb : 0 ≤ b ∧ b ≤ 250) : a = b := by obtain ⟨k, h⟩ := h; omega
theorem Cg.zmul {a : Int} (c : Int) (h : Cg a 0) : Cg (c * a) 0 := by
  have := (Cg.refl c).mul h
  rwa [Int.mul_zero] at this

def invZ (n : Int) : Int := powF n 249
theorem inv_all : ∀ m : Fin 251, m.val = 0 ∨ ((m.val : Int) * invZ m.val) % 251 = 1 := by decide +kernel
theorem inv_mul {n : Int} (h : 1 ≤ n ∧ n ≤ 250) : n * invZ n % 251 = 1 := by
  obtain ⟨m, rfl⟩ := Int.eq_ofNat_of_zero_le (show 0 ≤ n by omega)
  rcases inv_all ⟨m, by omega⟩ with h0 | h0
  · simp at h0; omega
  · exact h0
theorem nz_mul {a b : Int} (ha : ¬ Cg a 0) (hb : ¬ Cg b 0) : ¬ Cg (a * b) 0 := by
  intro h
  have h1 : 1 ≤ a % 251 ∧ a % 251 ≤ 250 := by
    refine ⟨?_, by omega⟩
    rcases Int.lt_or_le (a % 251) 1 with h1 | h1
    · exact absurd (show Cg a 0 from ⟨a / 251, by omega⟩) ha
    · exact h1
  have h2 := inv_mul h1
  have h3 : Cg (invZ (a % 251) * a) 1 := by
    have e : Cg (a % 251 * invZ (a % 251)) 1 := ⟨(a % 251 * invZ (a % 251)) / 251, by omega⟩
    rw [Int.mul_comm] at e
    exact ((Cg.refl _).mul (Cg.mod a).symm).trans e
  have h4 := (Cg.zmul (invZ (a % 251)) h)
  rw [← Int.mul_assoc] at h4
  have h5 := (h3.mul (Cg.refl b)).symm.trans h4
  rw [Int.one_mul] at h5
  exact hb h5

/-! sums -/
def sm : Nat → (Nat → Int) → Int
  | 0, _ => 0
  | n + 1, f => sm n f + f n
theorem sm_congr {f g : Nat → Int} : ∀ n, (∀ i, i < n → f i = g i) → sm n f = sm n g
  | 0, _ => rfl
  | n + 1, h => by rw [sm, sm, sm_congr n (fun i hi => h i (by omega)), h n (by omega)]
theorem sm_cg {f g : Nat → Int} : ∀ n, (∀ i, i < n → Cg (f i) (g i)) → Cg (sm n f) (sm n g)
  | 0, _ => Cg.refl _
  | n + 1, h => (sm_cg n (fun i hi => h i (by omega))).add (h n (by omega))
theorem sm_mul (c : Int) (f : Nat → Int) : ∀ n, sm n (fun i => c * f i) = c * sm n f
  | 0 => by simp [sm]
  | n + 1 => by rw [sm, sm, sm_mul c f n, Int.mul_add]
theorem sm_sub (f g : Nat → Int) : ∀ n, sm n (fun i => f i - g i) = sm n f - sm n g
  | 0 => by simp [sm]
  | n + 1 => by rw [sm, sm, sm, sm_sub f g n]; omega
theorem sm_shift (f : Nat → Int) : ∀ n, sm (n + 1) f = f 0 + sm n (fun i => f (i + 1))
  | 0 => by simp [sm]
  | n + 1 => by rw [sm, sm_shift f n, sm]; omega
theorem sm_zero {f : Nat → Int} : ∀ n, (∀ i, i < n → f i = 0) → sm n f = 0
  | 0, _ => rfl
  | n + 1, h => by rw [sm, sm_zero n (fun i hi => h i (by omega)), h n (by omega)]; rfl
/-- A sum whose terms from m on are 0. -/
theorem sm_cut {f : Nat → Int} {m : Nat} : ∀ n, m ≤ n → (∀ i, m ≤ i → i < n → f i = 0) → sm n f = sm m f
  | 0, h, _ => by have : m = 0 := by omega
                  subst this; rfl
  | n + 1, h, hz => by
    by_cases e : m = n + 1
    · subst e; rfl
    · rw [sm, sm_cut n (by omega) (fun i h1 h2 => hz i h1 (by omega)), hz n (by omega) (by omega)]; omega
/-- A sum with one term that is not 0. -/
theorem sm_one {f : Nat → Int} {m : Nat} : ∀ n, m < n → (∀ i, i < n → i ≠ m → f i = 0) → sm n f = f m
  | 0, h, _ => by omega
  | n + 1, h, hz => by
    by_cases e : m = n
    · subst e
      rw [sm, sm_zero m (fun i hi => hz i (by omega) (by omega))]; omega
    · rw [sm, sm_one n (by omega) (fun i h1 h2 => hz i (by omega) h2), hz n (by omega) (by omega)]; omega

/-! a polynomial with given roots -/
def pc (xs : Nat → Int) : Nat → Nat → Int
  | 0, i => if i = 0 then 1 else 0
  | p + 1, i => (if i = 0 then 0 else pc xs p (i - 1)) - xs p * pc xs p i
theorem pc_above (xs : Nat → Int) : ∀ p i, p < i → pc xs p i = 0
  | 0, i, h => by rw [pc, if_neg (by omega)]
  | p + 1, i, h => by rw [pc, if_neg (by omega), pc_above xs p _ (by omega), pc_above xs p _ (by omega)]; simp
theorem pc_top (xs : Nat → Int) : ∀ p, pc xs p p = 1
  | 0 => by simp [pc]
  | p + 1 => by rw [pc, if_neg (by omega), Nat.add_sub_cancel, pc_top xs p, pc_above xs p _ (by omega)]; simp
def prodTo (xs : Nat → Int) (x : Int) : Nat → Int
  | 0 => 1
  | p + 1 => prodTo xs x p * (x - xs p)
theorem pc_eval (xs : Nat → Int) (x : Int) : ∀ p n, p + 1 ≤ n → Cg (sm n fun i => powF x i * pc xs p i) (prodTo xs x p)
  | 0, n, h => by
    rw [sm_one (m := 0) n (by omega) (fun i _ h2 => by simp [pc, h2])]
    exact Cg.of_eq (by simp [pc, powF, prodTo])
  | p + 1, n, h => by
    obtain ⟨m, rfl⟩ : ∃ m, n = m + 1 := ⟨n - 1, by omega⟩
    have h1 := pc_eval xs x p m (by omega)
    have h2 := pc_eval xs x p (m + 1) (by omega)
    have e1 : sm (m + 1) (fun i => powF x i * pc xs (p + 1) i) = sm (m + 1) (fun i => powF x i * (if i = 0 then 0 else pc xs p (i - 1))) - xs p * sm (m + 1) (fun i => powF x i * pc xs p i) := by
      rw [← sm_mul, ← sm_sub]
      refine sm_congr _ fun i _ => ?_
      rw [pc]; grind
    have e2 : sm (m + 1) (fun i => powF x i * (if i = 0 then 0 else pc xs p (i - 1))) = sm m (fun i => powF x (i + 1) * pc xs p i) := by
      rw [sm_shift]; simp
    have e3 : Cg (sm m (fun i => powF x (i + 1) * pc xs p i)) (x * sm m (fun i => powF x i * pc xs p i)) := by
      rw [← sm_mul]
      refine sm_cg _ fun i _ => ?_
      rw [powF, ← Int.mul_assoc, Int.mul_comm x]
      exact (Cg.mod _).mul (Cg.refl _)
    rw [e1, e2, prodTo]
    have e4 : prodTo xs x p * (x - xs p) = x * prodTo xs x p - xs p * prodTo xs x p := by grind
    rw [e4]
    exact (e3.trans ((Cg.refl x).mul h1)).sub ((Cg.refl _).mul h2)
theorem prod_nz {xs : Nat → Int} {x : Int} : ∀ p, (∀ k, k < p → ¬ Cg (x - xs k) 0) → ¬ Cg (prodTo xs x p) 0
  | 0, _ => by rintro ⟨k, h⟩; rw [prodTo] at h; omega
  | p + 1, h => by rw [prodTo]; exact nz_mul (prod_nz p fun k hk => h k (by omega)) (h p (by omega))

/-! elimination -/
abbrev Eqn := Nat → Int
def tmsE (e : Eqn) (c : Int) : Eqn := fun i => e i * c % 251
def wthE (e f : Eqn) : Eqn := fun i => (e i + 251 - f i) % 251
def elimTo (S : Nat → Eqn) (i m : Nat) : Nat → Eqn := fun k => if k = i then tmsE (S i) (invZ (S i i)) else if k < m then wthE (S k) (tmsE (tmsE (S i) (invZ (S i i))) (S k i)) else S k
def stAt (need : Nat) (S : Nat → Eqn) : Nat → Nat → Eqn
  | 0 => S
  | p + 1 => elimTo (stAt need S p) p need
def dot (e v : Nat → Int) : Int := sm 20 fun i => e i * v i
def Bd (S : Nat → Eqn) : Prop := ∀ k c, 0 ≤ S k c ∧ S k c ≤ 250
theorem tms_bd (e : Eqn) (c : Int) (i : Nat) : 0 ≤ tmsE e c i ∧ tmsE e c i ≤ 250 := by unfold tmsE; omega
theorem wth_bd (e f : Eqn) (i : Nat) : 0 ≤ wthE e f i ∧ wthE e f i ≤ 250 := by unfold wthE; omega
theorem elim_bd {S : Nat → Eqn} (h : Bd S) (i m : Nat) : Bd (elimTo S i m) := by
  intro k c
  unfold elimTo
  split
  · exact tms_bd _ _ _
  · split
    · exact wth_bd _ _ _
    · exact h k c
theorem stAt_bd {S : Nat → Eqn} (h : Bd S) (need : Nat) : ∀ p, Bd (stAt need S p)
  | 0 => h
  | p + 1 => elim_bd (stAt_bd h need p) p need
theorem dot_tms (e : Eqn) (c : Int) (v : Nat → Int) : Cg (dot (tmsE e c) v) (c * dot e v) := by
  unfold dot
  rw [← sm_mul]
  refine sm_cg _ fun i _ => ?_
  unfold tmsE
  rw [← Int.mul_assoc, Int.mul_comm c]
  exact (Cg.mod _).mul (Cg.refl _)
theorem dot_wth (e f : Eqn) (v : Nat → Int) : Cg (dot (wthE e f) v) (dot e v - dot f v) := by
  unfold dot
  rw [← sm_sub]
  refine sm_cg _ fun i _ => ?_
  unfold wthE
  rw [← Int.sub_mul]
  refine ((Cg.mod _).mul (Cg.refl (v i))).trans (Cg.mul ⟨1, by omega⟩ (Cg.refl _))
theorem inv_a (need : Nat) (S : Nat → Eqn) (v : Nat → Int) : ∀ p, p ≤ need → (∀ k, k < p → Cg (dot (S k) v) 0) →
    (∀ k, k < p → Cg (dot (stAt need S p k) v) 0) ∧ ∀ j, p ≤ j → j < need → Cg (dot (stAt need S p j) v) (dot (S j) v)
  | 0, _, _ => ⟨fun k h => by omega, fun j _ _ => Cg.refl _⟩
  | p + 1, hp, h => by
    obtain ⟨h1, h2⟩ := inv_a need S v p (by omega) (fun k hk => h k (by omega))
    have hpp : Cg (dot (stAt need S p p) v) 0 := (h2 p (Nat.le_refl _) (by omega)).trans (h p (by omega))
    have hR : Cg (dot (tmsE (stAt need S p p) (invZ (stAt need S p p p))) v) 0 := (dot_tms _ _ _).trans (Cg.zmul _ hpp)
    have hrow : ∀ k, k < need → k ≠ p → Cg (dot (stAt need S (p + 1) k) v) (dot (stAt need S p k) v) := by
      intro k hk hne
      show Cg (dot (elimTo (stAt need S p) p need k) v) _
      unfold elimTo
      rw [if_neg hne, if_pos hk]
      have := (dot_wth (stAt need S p k) _ v).trans ((Cg.refl (dot (stAt need S p k) v)).sub ((dot_tms _ (stAt need S p k p) v).trans (Cg.zmul _ hR)))
      rwa [Int.sub_zero] at this
    refine ⟨fun k hk => ?_, fun j h3 h4 => (hrow j h4 (by omega)).trans (h2 j (by omega) h4)⟩
    by_cases e : k = p
    · subst e
      show Cg (dot (elimTo (stAt need S k) k need k) v) _
      unfold elimTo
      rw [if_pos rfl]
      exact hR
    · exact (hrow k (by omega) e).trans (h1 k (by omega))
def dlt (j i : Nat) : Int := if j = i then 1 else 0
theorem inv_b {need : Nat} {S : Nat → Eqn} (hb : Bd S) (hpiv : ∀ p, p < need → (∀ j i, j < need → i < p → stAt need S p j i = dlt j i) → stAt need S p p p ≠ 0) :
    ∀ p, p ≤ need → ∀ j i, j < need → i < p → stAt need S p j i = dlt j i
  | 0, _, j, i, _, h => by omega
  | p + 1, hp, j, i, hj, hi => by
    have ih := inv_b hb hpiv p (by omega)
    have hne := hpiv p (by omega) ih
    have hbp := stAt_bd hb need p
    generalize hT : stAt need S p = T at *
    have hpp := hbp p p
    have hinv := inv_mul (n := T p p) (by omega)
    show elimTo (stAt need S p) p need j i = _
    rw [hT]
    unfold elimTo
    have hRi : i < p → tmsE (T p) (invZ (T p p)) i = 0 := fun h => by
      unfold tmsE; rw [ih p i (by omega) h, dlt, if_neg (by omega)]; simp
    have hRp : tmsE (T p) (invZ (T p p)) p = 1 := hinv
    by_cases e : j = p
    · subst e
      rw [if_pos rfl]
      by_cases e2 : i = j
      · subst e2; rw [hRp, dlt, if_pos rfl]
      · rw [hRi (by omega), dlt, if_neg (by omega)]
    · rw [if_neg e, if_pos hj]
      have hbj := hbp j p
      generalize tmsE (T p) (invZ (T p p)) = R at *
      by_cases e2 : i = p
      · subst e2
        unfold wthE tmsE
        rw [hRp, dlt, if_neg e, Int.one_mul]
        omega
      · unfold wthE tmsE
        rw [hRi (by omega), ih j i hj (by omega), Int.zero_mul, dlt]
        split <;> omega

/-! the equations of shards -/
def eqOf (need : Nat) (x : Int) (vs : List Int) : Eqn := fun i => if i < need then powF x i else if i < 8 then 0 else vs.getD (i - 8) 0
def eqs0 (need : Nat) (xs : Nat → Int) (vs : Nat → List Int) (m : Nat) : Nat → Eqn := fun k => if k < m then eqOf need (xs k) (vs k) else fun _ => 0
theorem eqs0_at {need : Nat} {xs : Nat → Int} {vs : Nat → List Int} {m k : Nat} (h : k < m) : eqs0 need xs vs m k = eqOf need (xs k) (vs k) := by unfold eqs0; rw [if_pos h]
theorem getD_bd {l : List Int} (h : ∀ y ∈ l, 0 ≤ y ∧ y ≤ 250) (i : Nat) : 0 ≤ l.getD i 0 ∧ l.getD i 0 ≤ 250 := by
  by_cases hi : i < l.length
  · rw [getD_get hi]; exact h _ (List.getElem_mem hi)
  · rw [List.getD_eq_getElem?_getD, List.getElem?_eq_none (by omega)]; simp
theorem eqOf_bd {need : Nat} {x : Int} {vs : List Int} (h : ∀ y ∈ vs, 0 ≤ y ∧ y ≤ 250) (i : Nat) : 0 ≤ eqOf need x vs i ∧ eqOf need x vs i ≤ 250 := by
  unfold eqOf
  split
  · exact powF_bd _ _
  · split
    · omega
    · exact getD_bd h _
theorem eqs0_bd {need : Nat} {xs : Nat → Int} {vs : Nat → List Int} {m : Nat} (h : ∀ k, k < m → ∀ y ∈ vs k, 0 ≤ y ∧ y ≤ 250) : Bd (eqs0 need xs vs m) := by
  intro k c
  by_cases hk : k < m
  · rw [eqs0_at hk]; exact eqOf_bd (h k hk) c
  · unfold eqs0; rw [if_neg hk]; omega
theorem dot_low {need : Nat} (hn : need ≤ 8) (x : Int) (vs : List Int) (v : Nat → Int) (hv : ∀ i, need ≤ i → v i = 0) : dot (eqOf need x vs) v = sm need fun i => powF x i * v i := by
  unfold dot
  rw [sm_cut (m := need) 20 (by omega) (fun i h _ => by rw [hv i h, Int.mul_zero])]
  refine sm_congr _ fun i hi => ?_
  unfold eqOf; rw [if_pos hi]
theorem pivot_nz {need : Nat} (hn : need ≤ 8) {xs : Nat → Int} {vs : Nat → List Int} (hx : ∀ i j, i < need → j < i → ¬ Cg (xs i - xs j) 0) :
    ∀ p, p < need → (∀ j i, j < need → i < p → stAt need (eqs0 need xs vs need) p j i = dlt j i) → stAt need (eqs0 need xs vs need) p p p ≠ 0 := by
  intro p hp hred h0
  have hv : ∀ i, need ≤ i → pc xs p i = 0 := fun i hi => pc_above xs p i (by omega)
  have hd : ∀ k, k < need → Cg (dot (eqs0 need xs vs need k) (pc xs p)) (prodTo xs (xs k) p) := fun k hk => by
    rw [eqs0_at hk, dot_low hn _ _ _ hv]; exact pc_eval xs (xs k) p need (by omega)
  have hz : ∀ q k, k < q → prodTo xs (xs k) q = 0 := by
    intro q
    induction q with
    | zero => intro k h; omega
    | succ q ih =>
      intro k h
      rw [prodTo]
      by_cases e : k = q
      · subst e; simp
      · rw [ih k (by omega), Int.zero_mul]
  have ha := (inv_a need (eqs0 need xs vs need) (pc xs p) p (by omega) (fun k hk => by have := hd k (by omega); rwa [hz p k hk] at this)).2 p (Nat.le_refl _) hp
  have he : dot (stAt need (eqs0 need xs vs need) p p) (pc xs p) = 0 := by
    unfold dot
    refine sm_zero 20 fun i _ => ?_
    rcases Nat.lt_trichotomy i p with h | h | h
    · rw [hred p i hp h, dlt, if_neg (by omega), Int.zero_mul]
    · subst h; rw [h0, Int.zero_mul]
    · rw [pc_above xs p i h, Int.mul_zero]
  rw [he] at ha
  exact prod_nz p (fun k hk => hx p k hp hk) (ha.trans (hd p hp)).symm
/-- What elimination finds is the only solution. -/
theorem solve_at {need : Nat} (hn : need ≤ 8) {xs : Nat → Int} {vs : Nat → List Int} (hb : ∀ k, k < need → ∀ y ∈ vs k, 0 ≤ y ∧ y ≤ 250) (hx : ∀ i j, i < need → j < i → ¬ Cg (xs i - xs j) 0)
    {c : Nat} (hc : c < 12) (u : Nat → Int) (hu : ∀ j, j < need → Cg (sm need fun i => powF (xs j) i * u i) ((vs j).getD c 0)) : ∀ j, j < need → Cg (stAt need (eqs0 need xs vs need) need j (8 + c)) (u j) := by
  intro j hj
  have hs : ∀ e : Eqn, dot e (fun i => if i < need then u i else if i = 8 + c then -1 else 0) = sm need (fun i => e i * u i) - e (8 + c) := by
    intro e
    have h1 : dot e (fun i => if i < need then u i else if i = 8 + c then -1 else 0) = sm 20 (fun i => (if i < need then e i * u i else 0) - (if i = 8 + c then e i else 0)) := by
      unfold dot
      refine sm_congr _ fun i hi => ?_
      show e i * (if i < need then u i else if i = 8 + c then -1 else 0) = (if i < need then e i * u i else 0) - (if i = 8 + c then e i else 0)
      by_cases h2 : i < need
      · rw [if_pos h2, if_pos h2, if_neg (by omega)]; omega
      · rw [if_neg h2, if_neg h2]
        by_cases h3 : i = 8 + c
        · rw [if_pos h3, if_pos h3]; omega
        · rw [if_neg h3, if_neg h3]; simp
    rw [h1, sm_sub, sm_cut (m := need) 20 (by omega) (fun i h _ => by rw [if_neg (by omega)]), sm_one (m := 8 + c) 20 (by omega) (fun i _ h => by rw [if_neg h]), if_pos rfl]
    congr 1
    exact sm_congr _ fun i hi => by rw [if_pos hi]
  have hd : ∀ k, k < need → Cg (dot (eqs0 need xs vs need k) (fun i => if i < need then u i else if i = 8 + c then -1 else 0)) 0 := by
    intro k hk
    rw [hs, eqs0_at hk]
    have e1 : sm need (fun i => eqOf need (xs k) (vs k) i * u i) = sm need fun i => powF (xs k) i * u i := sm_congr _ fun i hi => by unfold eqOf; rw [if_pos hi]
    have e2 : eqOf need (xs k) (vs k) (8 + c) = (vs k).getD c 0 := by
      unfold eqOf; rw [if_neg (by omega), if_neg (by omega), show 8 + c - 8 = c by omega]
    rw [e1, e2]
    have := (hu k hk).sub (Cg.refl ((vs k).getD c 0))
    rwa [Int.sub_self] at this
  have h1 := (inv_a need (eqs0 need xs vs need) _ need (Nat.le_refl _) hd).1 j hj
  rw [hs] at h1
  have hred := inv_b (eqs0_bd hb) (pivot_nz hn (vs := vs) hx) need (Nat.le_refl _)
  rw [sm_one (m := j) need hj (fun i hi hne => by rw [hred j i hj hi, dlt, if_neg (by omega), Int.zero_mul]), hred j j hj hj, dlt, if_pos rfl, Int.one_mul] at h1
  have := (Cg.refl (u j)).sub h1
  rw [Int.sub_zero] at this
  exact (Cg.of_eq (by omega)).trans this

end Go.Proofs.Yteglefchkecfjab

/- Shards joined: what elimination finds is the only data that has the shards; plain arithmetic, no walk and no condition of our own. -/
namespace Go.Proofs.Yteglefchkecfjab

theorem val_sm (d : List Int) (need col : Nat) (x : Int) : ∀ k, Cg (valTo d need col x k) (sm k fun i => powF x i * d.getD (col * need + i) 0)
  | 0 => Cg.refl _
  | k + 1 => by
    rw [valTo, sm]
    split
    · refine (Cg.mod _).trans ((val_sm d need col x k).add (Cg.of_eq (Int.mul_comm _ _)))
    · rename_i h
      rw [List.getD_eq_getElem?_getD, List.getElem?_eq_none (by omega)]
      simp only [Option.getD_none, Int.mul_zero, Int.add_zero]
      exact val_sm d need col x k
theorem valZ_bd (d : List Int) (need col : Nat) (x : Int) : 0 ≤ valZ d need col x ∧ valZ d need col x ≤ 250 := valTo_bd _ _ _ _ _

/-! a column by Horner's rule -/
def horZ (l : List Int) (x : Int) : Int := l.foldr (fun s acc => (acc * x + s) % 251) 0
theorem horZ_cons (s : Int) (l : List Int) (x : Int) : horZ (s :: l) x = (horZ l x * x + s) % 251 := rfl
theorem horZ_bd (l : List Int) (x : Int) : 0 ≤ horZ l x ∧ horZ l x ≤ 250 := by
  cases l with
  | nil => simp [horZ]
  | cons s l => rw [horZ_cons]; omega
theorem horZ_drop {l : List Int} {i : Nat} (h : i < l.length) (x : Int) : horZ (l.drop i) x = (horZ (l.drop (i + 1)) x * x + l[i]) % 251 := by
  rw [List.drop_eq_getElem_cons h]; rfl
theorem hor_sm (x : Int) : ∀ l : List Int, Cg (horZ l x) (sm l.length fun i => powF x i * l.getD i 0)
  | [] => Cg.refl _
  | s :: l => by
    rw [horZ_cons, List.length_cons, sm_shift]
    have h1 := hor_sm x l
    have e3 : Cg (sm l.length (fun i => powF x (i + 1) * (s :: l).getD (i + 1) 0)) (x * sm l.length (fun i => powF x i * l.getD i 0)) := by
      rw [← sm_mul]
      refine sm_cg _ fun i _ => ?_
      rw [powF, ← Int.mul_assoc, Int.mul_comm x]
      exact (Cg.mod _).mul (Cg.refl _)
    refine (Cg.mod _).trans ?_
    rw [Int.add_comm]
    refine Cg.add (Cg.of_eq (by simp [powF])) (Cg.trans ?_ e3.symm)
    rw [Int.mul_comm]
    exact (Cg.refl x).mul h1
theorem hor_val (d : List Int) (need c : Nat) (x : Int) : horZ ((d.drop (c * need)).take need) x = valZ d need c x := by
  refine Cg.eq ?_ (horZ_bd _ _) (valZ_bd _ _ _ _)
  refine (hor_sm x _).trans (Cg.trans ?_ (val_sm d need c x need).symm)
  refine Cg.of_eq ?_
  rw [← sm_cut (m := ((d.drop (c * need)).take need).length) need (by simp; omega)]
  · refine sm_congr _ fun i hi => ?_
    congr 1
    simp only [List.getD_eq_getElem?_getD, List.getElem?_take, List.getElem?_drop, if_pos hi]
  · intro i h1 h2
    rw [List.getD_eq_getElem?_getD, List.getElem?_eq_none h1]; simp

/-! lists of shards -/
abbrev Sh := Int × List Int
def okS (cols : Nat) (s : Sh) : Bool := decide (1 ≤ s.1 ∧ s.1 ≤ 8) && decide (s.2.length = cols) && s.2.all symB
theorem okS_iff {cols : Nat} {s : Sh} (h : okS cols s = true) : (1 ≤ s.1 ∧ s.1 ≤ 8) ∧ s.2.length = cols ∧ ∀ y ∈ s.2, 0 ≤ y ∧ y ≤ 250 := by
  unfold okS at h
  simp only [Bool.and_eq_true, decide_eq_true_eq, List.all_eq_true] at h
  exact ⟨h.1.1, h.1.2, fun y hy => symB_bd (h.2 y hy)⟩
def xsOf (L : List Sh) (k : Nat) : Int := (L.getD k (0, [])).1
def vsOf (L : List Sh) (k : Nat) : List Int := (L.getD k (0, [])).2
theorem getS {L : List Sh} {k : Nat} (h : k < L.length) : L.getD k (0, []) = L[k] := by simp [List.getD, List.getElem?_eq_getElem h]
def newAt (L : List Sh) (k : Nat) : Bool := allB (fun j => decide (xsOf L j ≠ xsOf L k)) k
def shAt (cols : Nat) (L : List Sh) (k : Nat) : Bool := okS cols (L.getD k (0, [])) && newAt L k
def shsB (cols : Nat) (L : List Sh) : Bool := allB (shAt cols L) L.length
def lenB (need : Int) (L : List Sh) : Bool := decide (need ≤ L.length ∧ L.length ≤ 8)
theorem shAt_iff {cols : Nat} {L : List Sh} {k : Nat} (hk : k < L.length) (h : shAt cols L k = true) : ((1 ≤ L[k].1 ∧ L[k].1 ≤ 8) ∧ L[k].2.length = cols ∧ ∀ y ∈ L[k].2, 0 ≤ y ∧ y ≤ 250) ∧ ∀ j, j < k → xsOf L j ≠ xsOf L k := by
  unfold shAt at h
  rw [Bool.and_eq_true, getS hk] at h
  refine ⟨okS_iff h.1, fun j hj => ?_⟩
  have := allB_upto h.2 j hj
  simpa using this
theorem shsB_at {cols : Nat} {L : List Sh} (h : shsB cols L = true) {k : Nat} (hk : k < L.length) : ((1 ≤ L[k].1 ∧ L[k].1 ≤ 8) ∧ L[k].2.length = cols ∧ ∀ y ∈ L[k].2, 0 ≤ y ∧ y ≤ 250) ∧ ∀ j, j < k → xsOf L j ≠ xsOf L k :=
  shAt_iff hk (allB_upto h k hk)

/-- The symbols that elimination finds. -/
def dataI (size need : Nat) (L : List Sh) : List Int := (List.range size).map fun i => stAt need (eqs0 need (xsOf L) (vsOf L) need) need (i % need) (8 + i / need)
theorem dataI_len (size need : Nat) (L : List Sh) : (dataI size need L).length = size := by simp [dataI]
def matB (d : List Int) (need : Int) (s : Sh) : Bool := dataB d need && decide (1 ≤ s.1 ∧ s.1 ≤ 8) && decide (shardV d need.toNat s.1 = s.2)
theorem div_lt12 {i size need : Nat} (_h1 : 1 ≤ need) (hi : i < size) (hs : size ≤ 12) : i / need < 12 := Nat.lt_of_le_of_lt (Nat.div_le_self _ _) (by omega)
theorem idx_div {i need : Nat} : i / need * need + i % need = i := by rw [Nat.mul_comm]; exact Nat.div_add_mod _ _
theorem shard_getD {d : List Int} {need : Nat} {x : Int} {c : Nat} (h : c < colsN d need) : (shardV d need x).getD c 0 = valZ d need c x := by
  rw [getD_get (by rw [shardV_len]; exact h), shardV_get]
theorem diff_nz {x y : Int} (hx : 1 ≤ x ∧ x ≤ 8) (hy : 1 ≤ y ∧ y ≤ 8) (h : y ≠ x) : ¬ Cg (x - y) 0 := by rintro ⟨k, e⟩; omega
/-- The values of data at need numbers fix the data. -/
theorem solve_data {d : List Int} {need : Nat} (h1 : 1 ≤ need) (h8 : need ≤ 8) (hd : ∀ y ∈ d, 0 ≤ y ∧ y ≤ 250) (hl : d.length ≤ 12) {xs : Nat → Int} {vs : Nat → List Int} (hx : ∀ i j, i < need → j < i → ¬ Cg (xs i - xs j) 0)
    (hv : ∀ j, j < need → vs j = shardV d need (xs j)) {i : Nat} (hi : i < d.length) : stAt need (eqs0 need xs vs need) need (i % need) (8 + i / need) = d[i] := by
  have hc := div_lt12 h1 hi hl
  have hb : ∀ k, k < need → ∀ y ∈ vs k, 0 ≤ y ∧ y ≤ 250 := by
    intro k hk y hy
    rw [hv k hk] at hy
    obtain ⟨j, hj, rfl⟩ := List.mem_iff_getElem.1 hy
    rw [shardV_get]; exact valZ_bd _ _ _ _
  have hcol : i / need < colsN d need := (cols_lt h1).2 (by have := idx_div (i := i) (need := need); omega)
  have := solve_at h8 hb hx hc (fun k => d.getD (i / need * need + k) 0) (fun j hj => by
    rw [hv j hj, shard_getD hcol]; exact (val_sm d need (i / need) (xs j) need).symm) (i % need) (Nat.mod_lt _ h1)
  simp only [idx_div] at this
  rw [getD_get hi] at this
  exact this.eq (stAt_bd (eqs0_bd hb) need need _ _) (hd _ (List.getElem_mem hi))
theorem uniq_data {d d' : List Int} {need : Nat} (h1 : 1 ≤ need) (h8 : need ≤ 8) (hd : ∀ y ∈ d, 0 ≤ y ∧ y ≤ 250) (hd' : ∀ y ∈ d', 0 ≤ y ∧ y ≤ 250) (hl : d.length ≤ 12) (hll : d.length = d'.length) {xs : Nat → Int} (hx : ∀ i j, i < need → j < i → ¬ Cg (xs i - xs j) 0)
    (hv : ∀ j, j < need → shardV d need (xs j) = shardV d' need (xs j)) : d = d' := by
  refine List.ext_getElem hll fun i hi hi' => ?_
  rw [← solve_data h1 h8 hd hl hx (vs := fun j => shardV d need (xs j)) (fun _ _ => rfl) hi, ← solve_data h1 h8 hd' (by omega) hx (vs := fun j => shardV d need (xs j)) hv hi']
/-- What ShardJoin answers. -/
def joinOk (size need : Int) (L : List Sh) : Bool := decide (1 ≤ size ∧ size ≤ 12) && decide (1 ≤ need ∧ need ≤ 8) && (lenB need L && shsB ((size.toNat + need.toNat - 1) / need.toNat) L)
def joinB (size need : Int) (L : List Sh) : Bool := joinOk size need L && L.all (matB (dataI size.toNat need.toNat L) need)
def joinD (size need : Int) (L : List Sh) : List Int := if joinB size need L = true then dataI size.toNat need.toNat L else []
theorem joinOk_iff {size need : Int} {L : List Sh} (h : joinOk size need L = true) : (1 ≤ size ∧ size ≤ 12) ∧ (1 ≤ need ∧ need ≤ 8) ∧ (need ≤ L.length ∧ L.length ≤ 8) ∧ shsB ((size.toNat + need.toNat - 1) / need.toNat) L = true := by
  unfold joinOk lenB at h
  simp only [Bool.and_eq_true, decide_eq_true_eq] at h
  exact ⟨h.1.1, h.1.2, h.2.1, h.2.2⟩
theorem xs_nz {cols : Nat} {L : List Sh} (h : shsB cols L = true) : ∀ i j, i < L.length → j < i → ¬ Cg (xsOf L i - xsOf L j) 0 := by
  intro i j hi hj
  have a := shsB_at h hi
  have b := shsB_at h (k := j) (by omega)
  have e1 : xsOf L i = L[i].1 := by unfold xsOf; rw [getS hi]
  have e2 : xsOf L j = L[j].1 := by unfold xsOf; rw [getS (by omega)]
  exact diff_nz (by rw [e1]; exact a.1.1) (by rw [e2]; exact b.1.1) (a.2 j hj)
/-- Data that has the shards is what is found. -/
theorem dataI_eq {d : List Int} {need : Nat} {L : List Sh} (hd : dataB d need = true) (hn : need ≤ L.length) (hs : shsB (colsN d need) L = true) (hv : ∀ s ∈ L, s.2 = shardV d need s.1) : dataI d.length need L = d := by
  obtain ⟨hd0, ⟨_, hd2⟩, h1, h8⟩ := dataB_iff hd
  refine List.ext_getElem (dataI_len _ _ _) fun i hi hi' => ?_
  simp only [dataI, List.getElem_map, List.getElem_range]
  refine solve_data (by omega) (by omega) hd0 hd2 (fun i j hi hj => xs_nz hs i j (by omega) hj) (fun j hj => ?_) hi'
  unfold vsOf xsOf
  rw [getS (show j < L.length by omega)]
  exact hv _ (List.getElem_mem _)

end Go.Proofs.Yteglefchkecfjab

/- Plain facts on the coin: shares, parts, the member that a value draws; nothing here speaks of the program. -/
namespace Go.Proofs.Yteglefchkecfjab
open Go.RowKit

/-- The part of a share for a wave. -/
def cmZ (s wv : Int) : Int := if symB s = true ∧ 1 ≤ wv ∧ wv ≤ 15 then s * (7 * wv + 1) % 251 else -1
theorem cmZ_yes {s wv : Int} (h : symB s = true) (h1 : 1 ≤ wv) (h2 : wv ≤ 15) : cmZ s wv = s * (7 * wv + 1) % 251 := if_pos ⟨h, h1, h2⟩
theorem cmZ_no {s wv : Int} (h : ¬ (symB s = true ∧ 1 ≤ wv ∧ wv ≤ 15)) : cmZ s wv = -1 := if_neg h
theorem symB_dec (n : Int) : symB n = decide (0 ≤ n ∧ n ≤ 250) := by
  by_cases h : 0 ≤ n ∧ n ≤ 250
  · rw [symB_yes h, decide_eq_true h]
  · rw [symB_no h, decide_eq_false h]
theorem cm_bd {s wv : Int} (h0 : 0 ≤ s) (h1 : s ≤ 250) (h2 : 1 ≤ wv) (h3 : wv ≤ 15) : 0 ≤ s * (7 * wv + 1) ∧ s * (7 * wv + 1) ≤ 26500 := by
  refine ⟨Int.mul_nonneg h0 (by omega), ?_⟩
  have := Int.mul_le_mul h1 (show 7 * wv + 1 ≤ 106 by omega) (by omega) (by omega)
  omega
theorem cmZ_bd {s wv : Int} : -1 ≤ cmZ s wv ∧ cmZ s wv ≤ 250 := by
  unfold cmZ; split <;> omega

/-- The member whose weight ends after n. -/
def drwN : List Int → Int → Nat
  | [], _ => 0
  | x :: xs, n => if n < x then 0 else drwN xs (n - x) + 1
theorem sumTo_cons (x : Int) (xs : List Int) (k : Nat) : sumTo (x :: xs) (k + 1) = x + sumTo xs k := by
  unfold sumTo; simp [List.take_succ_cons]
theorem drw_eq : ∀ (c : List Int) (n : Int) (k : Nat), k < c.length → (∀ j, j ≤ k → sumTo c j ≤ n) → n < sumTo c (k + 1) → drwN c n = k
  | [], _, _, h, _, _ => by simp at h
  | x :: xs, n, k, hk, hl, hu => by
    cases k with
    | zero =>
      rw [sumTo_cons, sumTo_zero] at hu
      unfold drwN; rw [if_pos (by omega)]
    | succ k =>
      have h1 := hl 1 (by omega)
      rw [show (1 : Nat) = 0 + 1 from rfl, sumTo_cons, sumTo_zero] at h1
      rw [sumTo_cons] at hu
      unfold drwN; rw [if_neg (by omega)]
      rw [drw_eq xs (n - x) k (by simpa using hk) (fun j hj => by have := hl (j + 1) (by omega); rw [sumTo_cons] at this; omega) (by omega)]
theorem drw_spec : ∀ (c : List Int) (n : Int), 0 ≤ n → n < totalZ c → drwN c n < c.length ∧ sumTo c (drwN c n) ≤ n ∧ n < sumTo c (drwN c n + 1)
  | [], n, h0, h1 => by unfold totalZ sumTo at h1; simp at h1; omega
  | x :: xs, n, h0, h1 => by
    unfold drwN
    by_cases h : n < x
    · rw [if_pos h, sumTo_cons, sumTo_zero, sumTo_zero]; simp; omega
    · have ht : totalZ (x :: xs) = x + totalZ xs := by unfold totalZ; rw [List.length_cons, sumTo_cons]
      have := drw_spec xs (n - x) (by omega) (by omega)
      rw [if_neg h, sumTo_cons, sumTo_cons]
      simp only [List.length_cons]; omega
/-- The sums of weights ascend. -/
theorem sumTo_mono {c : List Int} (h : validB c = true) {i j : Nat} (hij : i ≤ j) (hj : j ≤ c.length) : sumTo c i ≤ sumTo c j := by
  induction j with
  | zero => rw [show i = 0 by omega]; omega
  | succ j ih =>
    by_cases e : i = j + 1
    · rw [e]; omega
    · have := ih (by omega) (by omega)
      have := (validB_good h j (by omega)).1
      rw [sumTo_succ (by omega)]; omega
theorem drw_iff {c : List Int} (h : validB c = true) {n : Int} (h0 : 0 ≤ n) (h1 : n < totalZ c) {m : Nat} (hm : m < c.length) : drwN c n = m ↔ sumTo c m ≤ n ∧ n < sumTo c (m + 1) := by
  constructor
  · rintro rfl; exact (drw_spec c n h0 h1).2
  · rintro ⟨h2, h3⟩
    exact drw_eq c n m hm (fun j hj => by have := sumTo_mono h hj (by omega); omega) h3
def clZ (c : List Int) (v : Int) : Int := if (validB c && symB v) = true then (drwN c (v % totalZ c) : Int) else -1
theorem clZ_yes {c : List Int} {v : Int} (h : validB c = true) (h' : symB v = true) : clZ c v = (drwN c (v % totalZ c) : Int) := by unfold clZ; rw [h, h']; rfl
theorem clZ_no {c : List Int} {v : Int} (h : (validB c && symB v) = false) : clZ c v = -1 := by unfold clZ; rw [h]; rfl

end Go.Proofs.Yteglefchkecfjab

/- What spec's functions of shards answer, each by a walk of its text; conditions: a list that is read has fewer than 2^40 elements, what is reckoned with is in the field. -/
namespace Go.Proofs.Yteglefchkecfjab
open Go.RowKit

theorem TI3 : IntT Try.prog 23 3 := ⟨Try.underlying23, by kernel_rfl⟩

/-- A shard as a row of data. -/
def shardD (s : Int × List Int) : List Dt := [.i s.1, intsD s.2]
def shardF (s : Int × List Int) : List Fd := [.i s.1, .l s.2]
theorem shardD_len (s : Int × List Int) : (shardD s).length = 2 := rfl

end Go.Proofs.Yteglefchkecfjab

/- A loop over a function at the wide fence, opened by one law: whoever walks the iterator gets a round for every call of yield, and owes that the loop's own two blocks lie as they lay; no conditions of our own. -/
namespace Go.Proofs.Yteglefchkecfjab
open Go.RowKit Go.Shelf

/-- How a round ends: the loop's block is busy still; off its end (yield says yes) or by a return (yield says no). -/
def RoundEnd (L : Nat) (rec : LoopState → Option Code → Obj) (R : Ending → World → Prop) : Exit → Act → World → Prop := fun e _ W =>
  W.heap[L]? = some (rec .busy none) ∧
  ((e = .normal ∧ R (.returned (.bool true)) (W.putObj L (rec .ready none))) ∨ (e = .ret ∧ R (.returned (.bool false)) (W.putObj L (rec .done (some .ret)))))

/-- A round, for whoever calls yield. -/
def Rounds (P : Program) (m : Nat) (a : Act) (ps : Array Tmp) (assign body : Code) (L : Nat) (rec : LoopState → Option Code → Obj) : Prop :=
  ∀ (args : Array Value) (W : World) (R : Ending → World → Prop), args.size = ps.size → W.heap[L]? = some (rec .ready none) →
    assign.wpIn (Fence.wide.inRound L) m P (Exit.then (fun a₁ W₁ => W₁.heap[L]? = some (rec .ready none) ∧ body.wpIn (Fence.wide.inRound L) m P (RoundEnd L rec R) a₁ (W₁.putObj L (rec .busy none))) (fun _ _ _ => False))
      { tmps := (ps.zip args).foldl (fun t (p, v) => t.setIfInBounds p v) a.tmps, defers := [] } W →
    YieldAt Fence.wide m P L args W R

theorem wpIn_over {P : Program} {n : Nat} {g : Operand} {ps : Array Tmp} {assign body : Code} {Q : Exit → Act → World → Prop} {a : Act} {w : World} {gf : Nat} {lb : Array Value}
    (hg : a.eval g = .func (.func gf) #[] lb) (eg : ∀ args w, (callFunc gf args).run P w = .ok (.enter gf args) w)
    (h : ∀ rec : LoopState → Option Code → Obj, (∀ st pe, (rec st pe).isCells = false) → Rounds P (n - 1 - 1) a ps assign body (w.heap.size + 1) rec →
      CallsIn Fence.wide (n - 1) P gf (#[.func (.yield (w.heap.size + 1)) #[] #[]] ++ lb) ((w.alloc (.deferred (some []))).alloc (rec .ready none)) fun e W => (∃ v, e = .returned v) ∧
        ((W.heap[w.heap.size + 1]? = some (rec .ready none) ∧ Q .normal { a with defers := { target := .collected w.heap.size, args := #[] } :: a.defers } (W.putObj (w.heap.size + 1) (rec .exhausted none))) ∨
         (W.heap[w.heap.size + 1]? = some (rec .done (some .ret)) ∧ Code.ret.wpIn Fence.wide n P Q { a with defers := { target := .collected w.heap.size, args := #[] } :: a.defers } (W.putObj (w.heap.size + 1) (rec .exhausted (some .ret)))))) :
    (Code.rangeFunc g ps assign body).wpIn Fence.wide n P Q a w := by
  refine wpIn_rangeFunc fun fn hfn => ?_
  obtain ⟨lp, hlp⟩ : ∃ lp : LoopState → Option Code → Loop, ∀ st pe, lp st pe = { state := st, pending := pe, fn := fn, tmps := a.tmps, params := ps, assign := assign, body := body, defers := w.heap.size } := ⟨fun _ _ => _, fun _ _ => rfl⟩
  have hb1 : ∀ {W : World}, W.heap[w.heap.size + 1]? = some (.loop (lp .ready none)) → (Instr.beginRound (w.heap.size + 1)).run P W = .ok () (W.putObj (w.heap.size + 1) (.loop (lp .busy none))) := fun hl => by
    have := run_beginRound (P := P) hl (by rw [hlp])
    rw [this]; simp only [hlp]
  have hb2 : ∀ {W : World} (j : Option Code), W.heap[w.heap.size + 1]? = some (.loop (lp .busy none)) → (Instr.endRound (w.heap.size + 1) j).run P W = .ok (.bool j.isNone) (W.putObj (w.heap.size + 1) (.loop (lp (if j.isNone then .ready else .done) j))) := fun j hl => by
    have := run_endRound (P := P) j hl
    rw [this]; simp only [hlp]
  have hb3 : ∀ {W : World} {st : LoopState} {j : Option Code}, st ≠ .busy → W.heap[w.heap.size + 1]? = some (.loop (lp st j)) → (Instr.endLoop (w.heap.size + 1)).run P W = .ok j (W.putObj (w.heap.size + 1) (.loop (lp .exhausted j))) := fun hs hl => by
    have := run_endLoop (P := P) hl (by rw [hlp]; exact hs)
    rw [this]; simp only [hlp]
  have hc := h (fun st pe => .loop (lp st pe)) (fun _ _ => rfl) (fun args W R hsz hl hw => by
    refine ⟨fn, _, assign, body, ?_, roundIn_of_wpIn hfn (wpIn_mono hw ?_)⟩
    · have := run_yield (P := P) (args := args) hl (by rw [hlp]; exact hsz)
      rw [this]; simp only [hlp]
    · rintro e a₁ W₁ he
      cases e with
      | normal =>
        obtain ⟨hl₁, hb⟩ := he
        refine ⟨_, hb1 hl₁, wpIn_mono hb ?_⟩
        rintro e a₂ W₂ ⟨hl₂, ⟨rfl, hR⟩ | ⟨rfl, hR⟩⟩
        · exact ⟨_, _, hb2 none hl₂, hR⟩
        · exact ⟨_, _, hb2 (some .ret) hl₂, hR⟩
      | _ => exact he.elim)
  have he : (Instr.enterLoop fn a.tmps ps assign body Fence.wide.round).run P w = .ok (w.heap.size + 1, [{ target := .collected w.heap.size, args := #[] }]) ((w.alloc (.deferred (some []))).alloc (.loop (lp .ready none))) := by
    rw [show Fence.wide.round = none from rfl, run_enterLoop_outer]; simp only [hlp]
  clear hb1 hb2 h
  generalize (w.alloc (.deferred (some []))).alloc (.loop (lp .ready none)) = W1 at hc he
  obtain ⟨ag, hag⟩ : ∃ ag : Array Value, ag = #[.func (.yield (w.heap.size + 1)) #[] #[]] := ⟨_, rfl⟩
  have hres : (resolve a.eval (rangeCall g (w.heap.size + 1)) 0).run P W1 = .ok { target := .fn (.func gf) lb, args := ag } W1 := by
    simp only [resolve, hg, hag]
    simp [go_sem]
  have hinv : (invoke (.fn (.func gf) lb) ag).run P W1 = .ok (.enter gf (ag ++ lb)) W1 := by
    simp [invoke, go_sem, eg]
  rw [← hag] at hc
  have hc2 := hc.mono (R' := rangePost Fence.wide n P (w.heap.size + 1) Q { a with defers := [{ target := .collected w.heap.size, args := #[] }] ++ a.defers }) (by
    rintro e W ⟨⟨v, rfl⟩, ⟨hl, hq⟩ | ⟨hl, hq⟩⟩
    · exact ⟨none, _, hb3 (by simp) hl, hq⟩
    · exact ⟨some .ret, _, hb3 (by simp) hl, hq⟩)
  exact ⟨_, _, _, _, _, _, _, _, he, hres, fun _ _ => trivial, hinv, fun h => by simp [Fence.wide] at h, hc2⟩

/-! a region that draws its order, in a round -/
theorem op_round {P : Program} {L n : Nat} {o : Oper} {a : Act} {w : World} {K : Act → World → Prop} {Q : Exit → Act → World → Prop} (hd : ∀ c, o.op ≠ .defer c) (h : o.wp P a w K Q) : o.wpIn (Fence.wide.inRound L) n P a w K Q := by
  refine ⟨fun _ _ => trivial, ?_⟩
  unfold Oper.wp at h
  rw [Fence.inRound_round, Oper.semAt_some L _ o hd]
  generalize (execOp a.eval o).run P w = r at *
  have hn : (Fence.wide.inRound L).depth.isSome = true → 1 ≤ n := fun h => by simp [Fence.wide] at h
  cases r with
  | ok x w' =>
    cases x <;> simp only [Oper.upon, Oper.uponIn] at h ⊢ <;>
      first
        | exact h
        | exact ⟨hn, CallsIn.inRound L (callsIn_wide.2 h)⟩
        | exact ⟨hn, fun c cs _ => let ⟨v, w', r, s⟩ := h c cs; ⟨v, w', r, stepsIn_wide.2 s⟩⟩
        | exact h.elim
  | halt x w' => cases x <;> simp only [Oper.upon, Oper.uponIn] at h ⊢ <;> exact h
/-- No operation of the region is a deferring. -/
def noDefer (ops : Array Oper) : Bool := ops.toList.all fun o => match o.op with | .defer _ => false | _ => true
theorem noDefer_at {ops : Array Oper} (h : noDefer ops = true) {i : Nat} {o : Oper} (hi : ops[i]? = some o) : ∀ c, o.op ≠ .defer c := by
  intro c e
  unfold noDefer at h
  rw [List.all_eq_true] at h
  have := h o (by rw [← Array.mem_def]; exact Array.mem_of_getElem? hi)
  rw [e] at this
  cases this
theorem any_round {P : Program} {L n : Nat} {md : Region.Mode} {ops : Array Oper} {Q : Exit → Act → World → Prop} (hd : noDefer ops = true) (hQ : ¬ LetsOut Q) :
    ∀ (fuel : Nat) (listed : Array Bool) (a : Act) (w : World), wpAny P md ops Q fuel listed a w → wpAnyIn (Fence.wide.inRound L) n P md ops Q fuel listed a w
  | 0, _, _, _, h => h
  | fuel + 1, listed, a, w, h => ⟨h.1, fun i hi => by
      have := h.2 i hi
      unfold wpOp at this
      unfold wpOpIn
      split
      · rename_i e
        simp only [e] at this
        exact any_round hd hQ fuel _ _ _ this
      · rename_i o e
        simp only [e] at this
        split
        · rename_i hw
          simp only [hw, if_true] at this
          rcases this with this | this
          · exact Oper.wpIn_mono (fun a w h => any_round hd hQ fuel _ a w h) (op_round (noDefer_at hd e) this)
          · exact absurd this.2 hQ
        · rename_i hw
          simp only [hw] at this
          exact ⟨fun _ _ => trivial, any_round hd hQ fuel _ _ _ this⟩⟩
/-- The region's end alone is let through. -/
def JustNormal (Q : Exit → Act → World → Prop) : Exit → Act → World → Prop
  | .normal, a, w => Q .normal a w
  | _, _, _ => False
theorem JustNormal.intro {Q : Exit → Act → World → Prop} {a : Act} {w : World} (h : Q .normal a w) : JustNormal Q .normal a w := h
theorem region_round {P : Program} {L n : Nat} {id : Nat} {ops : Array Oper} {Q : Exit → Act → World → Prop} {a : Act} {w : World} (S : World → Prop) (hm : P.follows .mixedOrders = true) (hd : noDefer ops = true) (hS : S w.drew)
    (h : S w.drew → wpAnyH P .any ops (JustNormal Q) S ops.size (Array.replicate ops.size false) a w.drew) : (Code.region id ops true).wpIn (Fence.wide.inRound L) n P Q a w :=
  Code.wpIn_mono (Q := JustNormal Q) (fun e a w q => by cases e <;> first | exact q | exact (q : False).elim)
    (wpIn_region_any hm (any_round hd (by rintro ⟨a, w, h⟩; exact h) _ _ _ _ (wpAny_of_held _ _ _ _ (h hS))))

end Go.Proofs.Yteglefchkecfjab

/- What impl's small functions of shards answer, and a column's value, each by a walk of its text; conditions: a list that is read has fewer than 2^40 elements, the numbers are ints. -/
namespace Go.Proofs.Yteglefchkecfjab
open Go.RowKit Go.Shelf
attribute [local go_sem] Oper.semAt_some

theorem IntsAt.other {W W' : World} {a : Option Addr} {x : List Int} {r : Nat} (h : IntsAt W a x) (hg : W.grownBy W' (some r)) (hne : ∀ b, a = some b → b.block ≠ r) : IntsAt W' a x :=
  h.grown hg fun b e e' => hne b e (by cases e'; rfl)

theorem impl_isSymbol (n : Int) (w : World) : Calls Try.prog 101 #[.int .i64 n] w fun e w' => e = .returned (.bool (symB n)) ∧ w = w' := by
  by_cases h : 0 ≤ n
  · have Hf := Lib.hid (show symB n = decide (n < 251) by unfold symB; rw [Bool.eq_iff_iff]; simp only [decide_eq_true_eq]; omega)
    go_enter Try.func101, Try.ntmps101
    go_wp2
    go_ret
    exact ⟨ret_bool Hf.out.symm, rfl⟩
  · have Hf := Lib.hid (show symB n = false by unfold symB; exact decide_eq_false (by omega))
    go_enter Try.func101, Try.ntmps101
    go_wp2
    go_ret
    exact ⟨ret_bool Hf.out.symm, rfl⟩

/-- Data that can be encoded. -/
def isdB (d : List Int) : Bool := decide (1 ≤ d.length ∧ d.length ≤ 12) && d.all symB
theorem isdB_data (d : List Int) (need : Int) : dataB d need = (isdB d && decide (1 ≤ need ∧ need ≤ 8)) := by unfold dataB isdB; rw [Bool.and_comm (d.all symB)]

end Go.Proofs.Yteglefchkecfjab

/- The coin's small functions, of both sides, each by a walk of its text; no conditions but that the numbers are ints. -/
namespace Go.Proofs.Yteglefchkecfjab
open Go.RowKit

theorem impl_isWave (n : Int) (w : World) : Calls Try.prog 102 #[.int .i64 n] w fun e w' => e = .returned (.bool (decide (1 ≤ n ∧ n ≤ 15))) ∧ w = w' := by
  by_cases h : 1 ≤ n
  · go_enter Try.func102, Try.ntmps102
    go_wp2
    go_ret
    exact ⟨ret_bool (by rw [Bool.eq_iff_iff]; simp only [decide_eq_true_eq]; omega), rfl⟩
  · go_enter Try.func102, Try.ntmps102
    go_wp2
    go_ret
    exact ⟨ret_bool (by rw [Bool.eq_iff_iff]; simp only [Bool.and_eq_true, decide_eq_true_eq, Bool.false_eq_true, false_iff]; omega), rfl⟩

theorem impl_CoinMake (s wv : Int) (w : World) : Calls Try.prog 48 #[.int .i64 s, .int .i64 wv] w fun e w' => e = .returned (.int .i64 (cmZ s wv)) ∧ w = w' := by
  have HS := Lib.hid (impl_isSymbol s w)
  have HW := Lib.hid (impl_isWave wv w)
  cases h1 : symB s with
  | false =>
    rw [h1] at HS
    have Hf := Lib.hid (cmZ_no (s := s) (wv := wv) (by simp [h1]))
    clear h1
    go_enter Try.func48, Try.ntmps48
    go_wp2_with fail
    refine HS.out.mono ?_
    rintro e w' ⟨rfl, rfl⟩
    go_wp2
    go_ret
    exact ⟨ret_int Hf.out.symm, rfl⟩
  | true =>
    rw [h1] at HS
    by_cases h2 : 1 ≤ wv ∧ wv ≤ 15
    · rw [decide_eq_true h2] at HW
      obtain ⟨h3, h4⟩ := h2
      have Hf := Lib.hid (cmZ_yes h1 h3 h4)
      obtain ⟨h5, h6⟩ := symB_bd h1
      have hm := cm_bd h5 h6 h3 h4
      clear h1
      generalize hq : s * (7 * wv + 1) = q at *
      obtain ⟨h7, h8⟩ := hm
      go_enter Try.func48, Try.ntmps48
      go_wp2_with fail
      refine HS.out.mono ?_
      rintro e w' ⟨rfl, rfl⟩
      go_wp2_with fail
      refine HW.out.mono ?_
      rintro e w' ⟨rfl, rfl⟩
      go_wp2
      go_ret
      exact ⟨ret_int Hf.out.symm, rfl⟩
    · rw [decide_eq_false h2] at HW
      have Hf := Lib.hid (cmZ_no (s := s) (wv := wv) (fun h => h2 h.2))
      clear h1 h2
      go_enter Try.func48, Try.ntmps48
      go_wp2_with fail
      refine HS.out.mono ?_
      rintro e w' ⟨rfl, rfl⟩
      go_wp2_with fail
      refine HW.out.mono ?_
      rintro e w' ⟨rfl, rfl⟩
      go_wp2
      go_ret
      exact ⟨ret_int Hf.out.symm, rfl⟩

theorem spec_CoinMake (s wv : Int) (w : World) : Calls Try.prog 49 #[.int .i64 s, .int .i64 wv] w fun e w' => e = .returned (.int .i64 (cmZ s wv)) ∧ w = w' := by
  have HS := Lib.hid (spec_l6In s 0 250 w)
  have HW := Lib.hid (spec_l6In wv 1 15 w)
  by_cases h1 : 0 ≤ s ∧ s ≤ 250
  · rw [decide_eq_true h1] at HS
    by_cases h2 : 1 ≤ wv ∧ wv ≤ 15
    · rw [decide_eq_true h2] at HW
      obtain ⟨h3, h4⟩ := h2
      obtain ⟨h5, h6⟩ := h1
      have Hf := Lib.hid (cmZ_yes (symB_yes ⟨h5, h6⟩) h3 h4)
      have hm := cm_bd h5 h6 h3 h4
      generalize hq : s * (7 * wv + 1) = q at *
      obtain ⟨h7, h8⟩ := hm
      go_enter Try.func49, Try.ntmps49
      go_wp2_with fail
      refine HS.out.mono ?_
      rintro e w' ⟨rfl, rfl⟩
      go_wp2_with fail
      refine HW.out.mono ?_
      rintro e w' ⟨rfl, rfl⟩
      go_wp2
      go_ret
      exact ⟨ret_int Hf.out.symm, rfl⟩
    · rw [decide_eq_false h2] at HW
      have Hf := Lib.hid (cmZ_no (s := s) (wv := wv) (fun h => h2 h.2))
      clear h1 h2
      go_enter Try.func49, Try.ntmps49
      go_wp2_with fail
      refine HS.out.mono ?_
      rintro e w' ⟨rfl, rfl⟩
      go_wp2_with fail
      refine HW.out.mono ?_
      rintro e w' ⟨rfl, rfl⟩
      go_wp2
      go_ret
      exact ⟨ret_int Hf.out.symm, rfl⟩
  · rw [decide_eq_false h1] at HS
    have Hf := Lib.hid (cmZ_no (s := s) (wv := wv) (fun h => by rw [symB_no h1] at h; simp at h))
    clear h1
    go_enter Try.func49, Try.ntmps49
    go_wp2_with fail
    refine HS.out.mono ?_
    rintro e w' ⟨rfl, rfl⟩
    go_wp2
    go_ret
    exact ⟨ret_int Hf.out.symm, rfl⟩

end Go.Proofs.Yteglefchkecfjab

/- The draw of a committee and a value of the coin, by a walk of its text; condition: the text of code is shorter than 2^20. -/
namespace Go.Proofs.Yteglefchkecfjab
open Go.RowKit

theorem below_of_rowC {w w' : World} {R B : Nat} (h : w.grownBy w' (some R)) (hR : B ≤ R) (hB : B ≤ w.heap.size) : Below B w w' :=
  ⟨h.os, h.tape, h.output, h.size, fun k hk => h.block k (by omega) (fun e => by injection e with e; omega)⟩

end Go.Proofs.Yteglefchkecfjab

/- The draw of a share and a wave, and that different shares have different parts; the draw by a walk of its text; condition: the code is shorter than 2^20. -/
namespace Go.Proofs.Yteglefchkecfjab
open Go.RowKit

/-- Different shares have different parts. -/
theorem coin_apart {s wv m : Int} (h : 0 ≤ cmZ s wv) (hm0 : 0 ≤ m) (hm1 : m ≤ 248) : (s + 1 + m) % 251 = s ∨ cmZ ((s + 1 + m) % 251) wv ≠ cmZ s wv := by
  by_cases hc : symB s = true ∧ 1 ≤ wv ∧ wv ≤ 15
  case neg => rw [cmZ_no hc] at h; omega
  obtain ⟨h1, h2, h3⟩ := hc
  have hs : 0 ≤ s ∧ s ≤ 250 := by rw [symB_dec] at h1; exact of_decide_eq_true h1
  refine .inr ?_
  obtain ⟨t, ht⟩ : ∃ t, (s + 1 + m) % 251 = t := ⟨_, rfl⟩
  have hts : 0 ≤ t ∧ t ≤ 250 ∧ t ≠ s := by omega
  rw [ht, cmZ_yes h1 h2 h3, cmZ_yes (by rw [symB_dec]; exact decide_eq_true ⟨hts.1, hts.2.1⟩) h2 h3]
  clear h ht h1
  have hw : wv = 1 ∨ wv = 2 ∨ wv = 3 ∨ wv = 4 ∨ wv = 5 ∨ wv = 6 ∨ wv = 7 ∨ wv = 8 ∨ wv = 9 ∨ wv = 10 ∨ wv = 11 ∨ wv = 12 ∨ wv = 13 ∨ wv = 14 ∨ wv = 15 := by omega
  rcases hw with rfl | rfl | rfl | rfl | rfl | rfl | rfl | rfl | rfl | rfl | rfl | rfl | rfl | rfl | rfl <;> simp only [Int.reduceMul, Int.reduceAdd] <;> omega
theorem lit4w_at (k : Nat) (hk : k < 4) : ∃ z : Int, (#[Value.int .i64 0, .int .i64 15, .int .i64 16, .int .i64 (-1)] : Array Value)[k]? = some (.int .i64 z) ∧ -1 ≤ z ∧ z ≤ 16 := by
  match k, hk with
  | 0, _ => exact ⟨0, rfl, by omega, by omega⟩
  | 1, _ => exact ⟨15, rfl, by omega, by omega⟩
  | 2, _ => exact ⟨16, rfl, by omega, by omega⟩
  | 3, _ => exact ⟨-1, rfl, by omega, by omega⟩

theorem drawWave (R p : Nat) (w : World) (hp : p ≤ 1000000) (hr : Rdr w R p) (hR : R < w.heap.size) :
    Calls Try.prog 100 #[.pointer (some ⟨R, 0, none⟩)] w fun e w' => ∃ x : Int, e = .returned (.int .i64 x) ∧ (-1 ≤ x ∧ x ≤ 16) ∧ w.grownBy w' (some R) := by
  have Hr := Lib.hid hr; clear hr
  go_enter Try.func100, Try.ntmps100
  go_wp2_with fail
  refine (pick_any R 12 p _ (by omega) Hr.out (by omega)).mono ?_
  rintro e w2 ⟨x, rfl, hx0, hx1, hr2, hg2⟩
  have Hg2 := Lib.hid hg2; clear hg2
  have hs2 := Hg2.out.size
  by_cases h0 : x = 0
  · subst h0
    have Hr2 := Lib.hid (hr2.alloc (.cells #[.int .i64 0, .int .i64 15, .int .i64 16, .int .i64 (-1)] 3)); clear hr2
    go_wp2_with fail
    refine (pick_any R 4 (p + 1) _ (by omega) Hr2.out (by omega)).mono ?_
    rintro e w3 ⟨u, rfl, hu0, hu1, _, hg3⟩
    obtain ⟨u, rfl⟩ := Int.eq_ofNat_of_zero_le hu0
    obtain ⟨z, hz, hz1, hz2⟩ := lit4w_at u (by omega)
    have hcell := lit_cell hg3 (by simp; omega) hz
    have Hg3 := Lib.hid (grownBy_trans (grownBy_trans Hg2.out (World.grownBy_alloc _ _ _)) hg3)
    have hu4 : u < 4 := by omega
    clear hg3 hz hu0 hu1
    go_wp2
    go_ret
    exact ⟨z, rfl, ⟨hz1, hz2⟩, Hg3.out⟩
  · have h0' : (x == 0) = false := by rw [beq_eq_false_iff_ne]; exact h0
    have Hr2 := Lib.hid hr2; clear hr2
    go_wp2_with fail
    refine (pick_any R 6 (p + 1) _ (by omega) Hr2.out (by omega)).mono ?_
    rintro e w3 ⟨u, rfl, hu0, hu1, _, hg3⟩
    have Hg3 := Lib.hid (grownBy_trans Hg2.out hg3)
    have hw9 : IntKind.i64.wrap (1 + u) = 1 + u := IntWalk.i64_in _ (by omega)
    clear hg3
    go_wp2
    go_ret
    exact ⟨_, rfl, by omega, Hg3.out⟩

theorem spec_DrawCoinMake (a : Option Addr) (cap : Nat) (zs : List Int) (w : World) (h : CodeAt w a cap zs) :
    Calls Try.prog 47 #[.slice a zs.length cap] w fun e w' => ∃ s x : Int, e = .returned (.tuple #[.int .i64 s, .int .i64 x]) ∧ (-1 ≤ s ∧ s ≤ 251) ∧ (-1 ≤ x ∧ x ≤ 16) ∧ Below w.heap.size w w' := by
  go_enter Try.func47, Try.ntmps47
  go_wp2_with fail
  refine (open_any a cap zs _ h).mono ?_
  rintro e w1 ⟨R, rfl, hR1, hR2, hr1, hb1⟩
  have Hr1 := Lib.hid hr1; clear hr1
  have hsz := hb1.size
  go_wp2_with fail
  refine (pick_any R 253 0 _ (by omega) Hr1.out (by omega)).mono ?_
  rintro e w2 ⟨x, rfl, hx0, hx1, hr2, hg2⟩
  have hs2 := hg2.size
  have Hr2 := Lib.hid hr2; clear hr2
  have hwx : IntKind.i64.wrap (x - 1) = x - 1 := IntWalk.i64_in _ (by omega)
  have Hb2 := Lib.hid (hb1.trans (below_of_rowC hg2 hR1 hsz))
  clear hg2 hb1
  go_wp2_with fail
  refine (drawWave R (0 + 1) _ (by omega) Hr2.out (by omega)).mono ?_
  rintro e w3 ⟨y, rfl, hy, hg3⟩
  have Hg := Lib.hid (Hb2.out.trans (below_of_rowC hg3 hR1 (by omega)))
  clear hg3
  go_wp2
  go_ret2
  exact ⟨x - 1, y, rfl, by omega, hy, Hg.out⟩

end Go.Proofs.Yteglefchkecfjab
