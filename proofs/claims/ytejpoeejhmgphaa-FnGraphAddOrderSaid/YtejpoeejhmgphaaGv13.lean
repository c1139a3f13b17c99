/- The draw of a graph and a vertex; by a walk of its text; condition: the code is shorter than 2^20. -/
import Derived.Test.YtejpoeejhmgphaaRows
import Derived.Test.YtejpoeejhmgphaaGv12
namespace Go.Proofs.Ytejpoeejhmgphaa
open Go.RowKit

set_option maxHeartbeats 2000000 in
theorem spec_DrawGraphAdd (a : Option Addr) (cap : Nat) (zs : List Int) (w : World) (h : CodeAt w a cap zs) :
    Calls Try.prog 15 #[.slice a zs.length cap] w fun e w' => ∃ vc c vg g fp x pa pc, e = .returned (.tuple #[vc, vg, .agg #[.int .i64 (Vx.r x), .int .i64 x.a, .slice pa x.ps.length pc, .int .i64 x.d]]) ∧ Own 3 w' w.heap.size vc c ∧ c.length ≤ 11 ∧ Gr w' g vg fp ∧ (∀ r ∈ fp, w.heap.size ≤ r) ∧ g.length ≤ 281 ∧ (∀ x ∈ g, x.ps.length ≤ 100) ∧ IntsAt w' pa x.ps ∧ SrcAt w' pa pc x.ps ∧ x.ps.length ≤ pc ∧ x.ps.length ≤ 300 ∧ Below w.heap.size w w' := by
  have Hs0 := Lib.hid (Str.new w 30 #[.int .i64 0, .int .i64 0, .slice none 0 0, .int .i64 0])
  have hb0 : Below w.heap.size w (w.alloc (.cells #[.int .i64 0, .int .i64 0, .slice none 0 0, .int .i64 0] 30)) := (Below.refl _ _).alloc (Nat.le_refl _) _
  have hz0 : (w.alloc (.cells #[.int .i64 0, .int .i64 0, .slice none 0 0, .int .i64 0] 30)).heap.size = w.heap.size + 1 := by simp
  have Hop := Lib.hid (open_any a cap zs _ (h.below hb0)); clear h
  have Hb0 := Lib.hid hb0; clear hb0
  go_enter Try.func15, Try.ntmps15
  go_wp2_with fail
  generalize w.alloc (.cells #[.int .i64 0, .int .i64 0, .slice none 0 0, .int .i64 0] 30) = w0 at *
  refine Hop.out.mono ?_
  rintro e w1 ⟨R, rfl, hR0, hR1, hr1, hb1⟩
  have hs1 := hb1.size
  have Hz1 := Lib.hid (show Str w1 w.heap.size 30 _ from (hb1.block _ Hs0.out.lt).trans Hs0.out)
  have Hr1 := Lib.hid hr1; clear hr1
  have Hb1 := Lib.hid (below_step Hb0.out Hb0.out.size hb1); clear hb1
  go_wp2_with fail
  refine (pick_any R 6 0 _ (by omega) Hr1.out (by omega)).mono ?_
  rintro e w2 ⟨n, rfl, hn0, hn1, hr2, hg2⟩
  have hs2 := hg2.size
  have Hr2 := Lib.hid hr2; clear hr2
  have Hz2 := Lib.hid (Hz1.out.kept hg2 (by simp; omega))
  have Hb2 := Lib.hid (Hb1.out.grown hg2 Hb1.out.size (fun g e => by cases e; omega)); clear hg2
  go_wp2_with fail
  refine (drawSpoilt R (0 + 1) n w2 (by omega) hn0 (by omega) Hr2.out (by omega)).mono ?_
  rintro e w3 ⟨vc, c, vg, g, fp, p3, rfl, hoc, hcl, hgr, hfp, hgl, hps, hr3, hp3, hg3⟩
  have hs3 := hg3.size
  obtain ⟨ac, cc, rfl, _, _⟩ := hoc.ints
  obtain ⟨ag, cg, rfl⟩ := hgr.slice
  have Hz3 := Lib.hid (Hz2.out.kept hg3 (by simp; omega))
  have Hb3 := Lib.hid (Hb2.out.grown hg3 Hb2.out.size (fun g e => by cases e; omega)); clear hg3
  have HV := Lib.hid (spec_GraphValid ac cc c g (.slice ag g.length cg) fp w3 (by omega) (by omega) (fun x hx => Nat.le_trans (hps x hx) (by omega)) hoc.at hgr)
  have hfn : w.heap.size ∉ fp := fun hm => by have := hfp _ hm; omega
  have hRf : R ∉ fp := fun hm => by have := hfp _ hm; omega
  have hn4 : (Value.slice ac c.length cc).ownBlock ≠ some w.heap.size := fun e => by have := (hoc.lt _ e).1; omega
  have hcR : (Value.slice ac c.length cc).ownBlock ≠ some R := fun e => by have := (hoc.lt _ e).1; omega
  have Hoc3 := Lib.hid hoc; clear hoc
  have Hgr3 := Lib.hid hgr; clear hgr
  have Hfp := Lib.hid hfp; clear hfp
  have Hr3 := Lib.hid hr3; clear hr3
  cases hgb : graphB c g with
  | false =>
    rw [hgb] at HV
    go_wp2_with fail
    refine HV.out.mono ?_
    rintro e w4 ⟨rfl, hb4⟩
    have hs4 := hb4.size
    have Hz4 := Lib.hid (show Str w4 w.heap.size 30 _ from (hb4.block _ Hz3.out.lt).trans Hz3.out)
    have Hoc4 := Lib.hid (Hoc3.out.below hb4)
    have Hgr4 := Lib.hid (Hgr3.out.under hb4)
    have Hr4 := Lib.hid (Hr3.out.kept (below_grown hb4) (fun q e => by cases e))
    have Hb4 := Lib.hid (below_step Hb3.out Hb3.out.size hb4); clear hb4
    go_wp2_with fail
    refine (pick_any R 4 p3 _ (by omega) Hr4.out (by omega)).mono ?_
    rintro e w5 ⟨y, rfl, hy0, hy1, hr5, hg5⟩
    have hs5 := hg5.size
    have Hz5 := Lib.hid (Hz4.out.kept hg5 (by simp; omega))
    have Hoc5 := Lib.hid (Hoc4.out.kept hg5 (.inr hcR))
    have Hgr5 := Lib.hid (show Gr w5 g _ fp from Rd.grown hg5 Hgr4.out (fun r e hm => by cases e; exact hRf hm))
    have Hr5 := Lib.hid hr5; clear hr5
    have Hb5 := Lib.hid (Hb4.out.grown hg5 Hb4.out.size (fun g e => by cases e; omega)); clear hg5
    go_wp2_with fail
    refine (drawDigest R (p3 + 1) _ (by omega) Hr5.out).mono ?_
    rintro e w6 ⟨d, p6, rfl, hd0, hd1, hr6, hp6, hg6⟩
    have hs6 := hg6.size
    have t1 := Hz5.out.kept hg6 (by simp; omega)
    have Hoc6 := Lib.hid (Hoc5.out.kept hg6 (.inr hcR))
    have Hgr6 := Lib.hid (show Gr w6 g _ fp from Rd.grown hg6 Hgr5.out (fun r e hm => by cases e; exact hRf hm))
    have Hb6 := Lib.hid (Hb5.out.grown hg6 Hb5.out.size (fun g e => by cases e; omega)); clear hg6 hr6
    have j0 := Str.cell t1 0 (v := (.int .i64 0)) rfl
    have j1 := Str.cell t1 1 (v := (.int .i64 0)) rfl
    have j2 := Str.cell t1 2 (v := (.slice none 0 0)) rfl
    have j3 := Str.cell t1 3 (v := (.int .i64 0)) rfl
    have g0 := Str.frozen t1 0
    have g1 := Str.frozen t1 1
    have g2 := Str.frozen t1 2
    have g3 := Str.frozen t1 3
    have u := (Str.set (Str.set (Str.set (Str.set t1 0 (.int .i64 0)) 1 (.int .i64 y)) 2 (.slice none 0 0)) 3 (.int .i64 d))
    have e0 := Str.cell u 0 (v := .int .i64 0) rfl
    have e1 := Str.cell u 1 (v := .int .i64 y) rfl
    have e2 := Str.cell u 2 (v := .slice none 0 0) rfl
    have e3 := Str.cell u 3 (v := .int .i64 d) rfl
    clear u t1
    go_wp2
    refine bodyPost_ret (v := .tuple #[.slice ac c.length cc, .slice ag g.length cg, .agg #[.int .i64 0, .int .i64 y, .slice none 0 0, .int .i64 d]]) (by simp [results, Try.f15, go_sem, e0, e1, e2, e3]) rfl ?_
    exact ⟨_, c, _, g, fp, ⟨0, y, [], d⟩, none, 0, rfl, (Own.set_other (Own.set_other (Own.set_other (Own.set_other (Hoc6.out.mono (show w.heap.size ≤ w2.heap.size by omega)) hn4 0 (.int .i64 0)) hn4 1 (.int .i64 y)) hn4 2 (.slice none 0 0)) hn4 3 (.int .i64 d)), hcl, (Rd.grown (grownBy_set _ w.heap.size 3 (.int .i64 d)) (Rd.grown (grownBy_set _ w.heap.size 2 (.slice none 0 0)) (Rd.grown (grownBy_set _ w.heap.size 1 (.int .i64 y)) (Rd.grown (grownBy_set _ w.heap.size 0 (.int .i64 0)) Hgr6.out (fun r e hm => by cases e; exact hfn hm)) (fun r e hm => by cases e; exact hfn hm)) (fun r e hm => by cases e; exact hfn hm)) (fun r e hm => by cases e; exact hfn hm)), fun r hr => Nat.le_trans (by omega) (Hfp.out r hr), hgl, hps, .inl rfl, .inl ⟨rfl, rfl, rfl⟩, by simp, by simp, (Below.setCell (p := ⟨w.heap.size, 3, none⟩) (Below.setCell (p := ⟨w.heap.size, 2, none⟩) (Below.setCell (p := ⟨w.heap.size, 1, none⟩) (Below.setCell (p := ⟨w.heap.size, 0, none⟩) Hb6.out (Nat.le_refl _) (.int .i64 0)) (Nat.le_refl _) (.int .i64 y)) (Nat.le_refl _) (.slice none 0 0)) (Nat.le_refl _) (.int .i64 d))⟩
  | true =>
    rw [hgb] at HV
    go_wp2_with fail
    refine HV.out.mono ?_
    rintro e w4 ⟨rfl, hb4⟩
    have hs4 := hb4.size
    have Hz4 := Lib.hid (show Str w4 w.heap.size 30 _ from (hb4.block _ Hz3.out.lt).trans Hz3.out)
    have Hoc4 := Lib.hid (Hoc3.out.below hb4)
    have Hgr4 := Lib.hid (Hgr3.out.under hb4)
    have Hr4 := Lib.hid (Hr3.out.kept (below_grown hb4) (fun q e => by cases e))
    have Hb4 := Lib.hid (below_step Hb3.out Hb3.out.size hb4); clear hb4
    have HX := Lib.hid (drawVertex R p3 w4 ac cc c g (.slice ag g.length cg) fp (by omega) hgb hgl hps Hr4.out (by omega) (fun W hW => (Hoc4.out.kept hW (.inr hcR)).at) (fun W hW => Rd.grown hW Hgr4.out (fun r e hm => by cases e; exact hRf hm)))
    clear hgb
    go_wp2_with fail
    refine HX.out.mono ?_
    rintro e w5 ⟨x, vp, rfl, huv, hxl, hg5⟩
    have hs5 := hg5.size
    have t1 := Hz4.out.kept hg5 (by simp; omega)
    have Hoc5 := Lib.hid (Hoc4.out.kept hg5 (.inr hcR))
    have Hgr5 := Lib.hid (show Gr w5 g _ fp from Rd.grown hg5 Hgr4.out (fun r e hm => by cases e; exact hRf hm))
    have Hb5 := Lib.hid (Hb4.out.grown hg5 Hb4.out.size (fun g e => by cases e; omega)); clear hg5
    obtain ⟨pa, pc, rfl, _, _⟩ := huv.ints
    have hn5 : (Value.slice pa x.ps.length pc).ownBlock ≠ some w.heap.size := fun e => by have := (huv.lt _ e).1; omega
    have Huv := Lib.hid huv; clear huv
    have j0 := Str.cell t1 0 (v := (.int .i64 0)) rfl
    have j1 := Str.cell t1 1 (v := (.int .i64 0)) rfl
    have j2 := Str.cell t1 2 (v := (.slice none 0 0)) rfl
    have j3 := Str.cell t1 3 (v := (.int .i64 0)) rfl
    have g0 := Str.frozen t1 0
    have g1 := Str.frozen t1 1
    have g2 := Str.frozen t1 2
    have g3 := Str.frozen t1 3
    have u := (Str.set (Str.set (Str.set (Str.set t1 0 (.int .i64 x.r)) 1 (.int .i64 x.a)) 2 (.slice pa x.ps.length pc)) 3 (.int .i64 x.d))
    have e0 := Str.cell u 0 (v := .int .i64 x.r) rfl
    have e1 := Str.cell u 1 (v := .int .i64 x.a) rfl
    have e2 := Str.cell u 2 (v := .slice pa x.ps.length pc) rfl
    have e3 := Str.cell u 3 (v := .int .i64 x.d) rfl
    clear u t1
    go_wp2
    refine bodyPost_ret (v := .tuple #[.slice ac c.length cc, .slice ag g.length cg, .agg #[.int .i64 x.r, .int .i64 x.a, .slice pa x.ps.length pc, .int .i64 x.d]]) (by simp [results, Try.f15, go_sem, e0, e1, e2, e3]) rfl ?_
    have hv := (Own.set_other (Own.set_other (Own.set_other (Own.set_other Huv.out hn5 0 (.int .i64 x.r)) hn5 1 (.int .i64 x.a)) hn5 2 (.slice pa x.ps.length pc)) hn5 3 (.int .i64 x.d))
    obtain ⟨_, _, e, hi, hsr, hcp⟩ := hv.src
    cases e
    exact ⟨_, c, _, g, fp, x, pa, pc, rfl, (Own.set_other (Own.set_other (Own.set_other (Own.set_other (Hoc5.out.mono (show w.heap.size ≤ w2.heap.size by omega)) hn4 0 (.int .i64 x.r)) hn4 1 (.int .i64 x.a)) hn4 2 (.slice pa x.ps.length pc)) hn4 3 (.int .i64 x.d)), hcl, (Rd.grown (grownBy_set _ w.heap.size 3 (.int .i64 x.d)) (Rd.grown (grownBy_set _ w.heap.size 2 (.slice pa x.ps.length pc)) (Rd.grown (grownBy_set _ w.heap.size 1 (.int .i64 x.a)) (Rd.grown (grownBy_set _ w.heap.size 0 (.int .i64 x.r)) Hgr5.out (fun r e hm => by cases e; exact hfn hm)) (fun r e hm => by cases e; exact hfn hm)) (fun r e hm => by cases e; exact hfn hm)) (fun r e hm => by cases e; exact hfn hm)), fun r hr => Nat.le_trans (by omega) (Hfp.out r hr), hgl, hps, hi, hsr, hcp, hxl, (Below.setCell (p := ⟨w.heap.size, 3, none⟩) (Below.setCell (p := ⟨w.heap.size, 2, none⟩) (Below.setCell (p := ⟨w.heap.size, 1, none⟩) (Below.setCell (p := ⟨w.heap.size, 0, none⟩) Hb5.out (Nat.le_refl _) (.int .i64 x.r)) (Nat.le_refl _) (.int .i64 x.a)) (Nat.le_refl _) (.slice pa x.ps.length pc)) (Nat.le_refl _) (.int .i64 x.d))⟩

end Go.Proofs.Ytejpoeejhmgphaa
