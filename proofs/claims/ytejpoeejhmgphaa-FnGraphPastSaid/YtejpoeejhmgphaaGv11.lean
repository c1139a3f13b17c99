/- The draws of the graphs' laws: what is drawn reads as a graph in new memory; each by a walk of its text; condition: the code is shorter than 2^20. -/
import Derived.Test.YtejpoeejhmgphaaRows
import Derived.Test.YtejpoeejhmgphaaGv10
namespace Go.Proofs.Ytejpoeejhmgphaa
open Go.RowKit

set_option maxHeartbeats 1000000 in
theorem spec_DrawGraphFind (a : Option Addr) (cap : Nat) (zs : List Int) (w : World) (h : CodeAt w a cap zs) :
    Calls Try.prog 11 #[.slice a zs.length cap] w fun e w' => ∃ vc c vg g fp r1 a1, e = .returned (.tuple #[vc, vg, .int .i64 r1, .int .i64 a1]) ∧ Own 3 w' w.heap.size vc c ∧ c.length ≤ 11 ∧ Gr w' g vg fp ∧ (∀ r ∈ fp, w.heap.size ≤ r) ∧ g.length ≤ 281 ∧ (∀ x ∈ g, x.ps.length ≤ 100) ∧ Below w.heap.size w w' := by
  go_enter Try.func11, Try.ntmps11
  go_wp2_with fail
  refine (open_any a cap zs _ h).mono ?_
  rintro e w1 ⟨R, rfl, hR0, hR1, hr1, hb1⟩
  have Hr1 := Lib.hid hr1; clear hr1
  have Hb1 := Lib.hid hb1; clear hb1
  go_wp2_with fail
  refine (pick_any R 7 0 _ (by omega) Hr1.out (by omega)).mono ?_
  rintro e w2 ⟨n, rfl, hn0, hn1, hr2, hg2⟩
  have hs2 := hg2.size
  have Hr2 := Lib.hid hr2; clear hr2
  have Hb2 := Lib.hid (Hb1.out.grown hg2 Hb1.out.size (fun g e => by cases e; exact hR0)); clear hg2
  go_wp2_with fail
  refine (drawSpoilt R (0 + 1) n w2 (by omega) hn0 (by omega) Hr2.out (by omega)).mono ?_
  rintro e w3 ⟨vc, c, vg, g, fp, p3, rfl, hoc, hcl, hgr, hfp, hgl, hps, hr3, hp3, hg3⟩
  have hs3 := hg3.size
  obtain ⟨ac, cc, rfl, _, _⟩ := hoc.ints
  have hw12 := Hb2.out.size
  have Hoc3 := Lib.hid hoc; clear hoc
  have Hgr3 := Lib.hid hgr; clear hgr
  have Hfp := Lib.hid hfp; clear hfp
  have Hr3 := Lib.hid hr3; clear hr3
  have Hb3 := Lib.hid (Hb2.out.grown hg3 Hb2.out.size (fun g e => by cases e; exact hR0)); clear hg3
  go_wp2_with fail
  refine (pick_any R 8 p3 _ (by omega) Hr3.out (by omega)).mono ?_
  rintro e w4 ⟨x, rfl, hx0, hx1, hr4, hg4⟩
  have Hoc4 := Lib.hid (Hoc3.out.kept hg4 (.inr fun e => by have := (Hoc3.out.lt R e).1; omega))
  have Hgr4 := Lib.hid (show Gr w4 g vg fp from Rd.grown hg4 Hgr3.out (fun r e hm => by cases e; have := Hfp.out R hm; omega))
  have Hr4 := Lib.hid hr4; clear hr4
  have hs4 := hg4.size
  have Hb4 := Lib.hid (Hb3.out.grown hg4 Hb3.out.size (fun g e => by cases e; exact hR0)); clear hg4
  have hwx : IntKind.i64.wrap (x - 1) = x - 1 := IntWalk.i64_in _ (by omega)
  go_wp2_with fail
  refine (pick_any R 8 (p3 + 1) _ (by omega) Hr4.out (by omega)).mono ?_
  rintro e w5 ⟨y, rfl, hy0, hy1, hr5, hg5⟩
  have Hoc5 := Lib.hid (Hoc4.out.kept hg5 (.inr fun e => by have := (Hoc4.out.lt R e).1; omega))
  have Hgr5 := Lib.hid (show Gr w5 g vg fp from Rd.grown hg5 Hgr4.out (fun r e hm => by cases e; have := Hfp.out R hm; omega))
  have Hb5 := Lib.hid (Hb4.out.grown hg5 Hb4.out.size (fun g e => by cases e; exact hR0)); clear hg5 hr5
  have hwy : IntKind.i64.wrap (y - 1) = y - 1 := IntWalk.i64_in _ (by omega)
  go_wp2
  refine bodyPost_ret (v := .tuple #[.slice ac c.length cc, vg, .int .i64 (x - 1), .int .i64 (y - 1)]) (by simp [results, Try.f11, go_sem]) rfl ?_
  exact ⟨_, c, vg, g, fp, x - 1, y - 1, rfl, Hoc5.out.mono (by omega), hcl, Hgr5.out, fun r hr => Nat.le_trans (by omega) (Hfp.out r hr), hgl, hps, Hb5.out⟩

set_option maxHeartbeats 1000000 in
theorem spec_DrawGraphPast (a : Option Addr) (cap : Nat) (zs : List Int) (w : World) (h : CodeAt w a cap zs) :
    Calls Try.prog 20 #[.slice a zs.length cap] w fun e w' => ∃ vc c vg g fp r1 a1, e = .returned (.tuple #[vc, vg, .int .i64 r1, .int .i64 a1]) ∧ Own 3 w' w.heap.size vc c ∧ c.length ≤ 11 ∧ Gr w' g vg fp ∧ (∀ r ∈ fp, w.heap.size ≤ r) ∧ g.length ≤ 281 ∧ (∀ x ∈ g, x.ps.length ≤ 100) ∧ Below w.heap.size w w' := by
  go_enter Try.func20, Try.ntmps20
  go_wp2_with fail
  refine (open_any a cap zs _ h).mono ?_
  rintro e w1 ⟨R, rfl, hR0, hR1, hr1, hb1⟩
  have Hr1 := Lib.hid hr1; clear hr1
  have Hb1 := Lib.hid hb1; clear hb1
  go_wp2_with fail
  refine (pick_any R 7 0 _ (by omega) Hr1.out (by omega)).mono ?_
  rintro e w2 ⟨n, rfl, hn0, hn1, hr2, hg2⟩
  have hs2 := hg2.size
  have Hr2 := Lib.hid hr2; clear hr2
  have Hb2 := Lib.hid (Hb1.out.grown hg2 Hb1.out.size (fun g e => by cases e; exact hR0)); clear hg2
  have hwn : IntKind.i64.wrap (2 + n) = 2 + n := IntWalk.i64_in _ (by omega)
  go_wp2_with fail
  refine (drawSpoilt R (0 + 1) (2 + n) w2 (by omega) (by omega) (by omega) Hr2.out (by omega)).mono ?_
  rintro e w3 ⟨vc, c, vg, g, fp, p3, rfl, hoc, hcl, hgr, hfp, hgl, hps, hr3, hp3, hg3⟩
  have hs3 := hg3.size
  obtain ⟨ac, cc, rfl, _, _⟩ := hoc.ints
  obtain ⟨ag, cg, rfl⟩ := hgr.slice
  have hw12 := Hb2.out.size
  have Hoc3 := Lib.hid hoc; clear hoc
  have Hgr3 := Lib.hid hgr; clear hgr
  have Hfp := Lib.hid hfp; clear hfp
  have Hr3 := Lib.hid hr3; clear hr3
  have Hb3 := Lib.hid (Hb2.out.grown hg3 Hb2.out.size (fun g e => by cases e; exact hR0)); clear hg3
  have rest : ∀ (p4 : Nat) (w4 : World), Rdr w4 R p4 → p4 ≤ 200000 → w3.grownBy w4 (some R) → Own 3 w4 w2.heap.size (.slice ac c.length cc) c ∧ Gr w4 g (.slice ag g.length cg) fp ∧ Below w.heap.size w w4 := fun p4 w4 _ _ hg => ⟨Hoc3.out.kept hg (.inr fun e => by have := (Hoc3.out.lt R e).1; omega), Rd.grown hg Hgr3.out (fun r e hm => by cases e; have := Hfp.out R hm; omega), Hb3.out.grown hg Hb3.out.size (fun g e => by cases e; exact hR0)⟩
  have Hrest := Lib.hid rest; clear rest
  by_cases hg0 : g.length = 0
  · have hgn : g = [] := List.eq_nil_of_length_eq_zero hg0
    have hd0 : decide ((0 : Int) < (g.length : Int)) = false := decide_eq_false (by omega)
    have hd0' : ¬ (0 : Int) < (g.length : Int) := by omega
    clear hg0 hgn
    go_wp2_with fail
    refine (pick_any R 8 p3 _ (by omega) Hr3.out (by omega)).mono ?_
    rintro e w6 ⟨x, rfl, hx0, hx1, hr6, hg6⟩
    have Hr6 := Lib.hid hr6; clear hr6
    have Hg6 := Lib.hid (hg6); clear hg6
    have hwx : IntKind.i64.wrap (x - 1) = x - 1 := IntWalk.i64_in _ (by omega)
    go_wp2_with fail
    refine (pick_any R 8 (p3 + 1) _ (by omega) Hr6.out (by omega)).mono ?_
    rintro e w7 ⟨y, rfl, hy0, hy1, hr7, hg7⟩
    have Hg7 := Lib.hid (grownBy_trans Hg6.out hg7); clear hg7
    obtain ⟨hoc7, hgr7, hb7⟩ := Hrest.out _ w7 hr7 (by omega) Hg7.out
    have Hoc7 := Lib.hid hoc7; clear hoc7
    have Hgr7 := Lib.hid hgr7; clear hgr7
    have Hb7 := Lib.hid hb7; clear hb7
    have hwy : IntKind.i64.wrap (y - 1) = y - 1 := IntWalk.i64_in _ (by omega)
    go_wp2
    refine bodyPost_ret (v := .tuple #[.slice ac c.length cc, .slice ag g.length cg, .int .i64 (x - 1), .int .i64 (y - 1)]) (by simp [results, Try.f20, go_sem]) rfl ?_
    exact ⟨_, c, _, g, fp, x - 1, y - 1, rfl, Hoc7.out.mono (by omega), hcl, Hgr7.out, fun r hr => Nat.le_trans (by omega) (Hfp.out r hr), hgl, hps, Hb7.out⟩
  · have hd0 : decide ((0 : Int) < (g.length : Int)) = true := decide_eq_true (by omega)
    have hd0' : (0 : Int) < (g.length : Int) := by omega
    go_wp2_with fail
    refine (pick_any R 6 p3 _ (by omega) Hr3.out (by omega)).mono ?_
    rintro e w4 ⟨s, rfl, hs0, hs1, hr4, hg4⟩
    have Hr4 := Lib.hid hr4; clear hr4
    have Hg4 := Lib.hid hg4; clear hg4
    by_cases hs : 0 < s
    · have hsd : decide ((0 : Int) < s) = true := decide_eq_true hs
      go_wp2_with fail
      refine (pick_any R (g.length : Int) (p3 + 1) _ (by omega) Hr4.out (by omega)).mono ?_
      rintro e w5 ⟨k, rfl, hk0, hk1, hr5, hg5⟩
      obtain ⟨k, rfl⟩ := Int.eq_ofNat_of_zero_le hk0
      have hk : k < g.length := by omega
      have Hg5 := Lib.hid (grownBy_trans Hg4.out hg5); clear hg5
      obtain ⟨hoc5, hgr5, hb5⟩ := Hrest.out _ w5 hr5 (by omega) Hg5.out
      obtain ⟨gb, off, rfl, hgb, hat⟩ := hgr5.at (by omega)
      obtain ⟨c0, c1, ⟨pa, pc, c2, _⟩, c3⟩ := hat k hk
      have Hoc5 := Lib.hid hoc5; clear hoc5
      have Hgr5 := Lib.hid hgr5; clear hgr5
      have Hb5 := Lib.hid hb5; clear hb5 hat
      have hst := Str.new w5 30 #[.int .i64 g[k].r, .int .i64 g[k].a, .slice pa g[k].ps.length pc, .int .i64 g[k].d]
      have k0 := hst.cell 0 (v := .int .i64 g[k].r) rfl
      have k1 := hst.cell 1 (v := .int .i64 g[k].a) rfl
      have hbA := (Below.refl w5.heap.size w5).alloc (Nat.le_refl _) (.cells #[.int .i64 g[k].r, .int .i64 g[k].a, .slice pa g[k].ps.length pc, .int .i64 g[k].d] 30)
      have Hoc6 := Lib.hid (Hoc5.out.below hbA)
      have Hgr6 := Lib.hid (Hgr5.out.under hbA)
      have Hb6 := Lib.hid (below_step Hb5.out Hb5.out.size hbA)
      clear hbA hst
      generalize g[k] = x at *
      go_wp2
      go_quiet (fail)
      go_wp2
      refine bodyPost_ret (v := .tuple #[.slice ac c.length cc, .slice (some ⟨gb, off, none⟩) g.length cg, .int .i64 x.r, .int .i64 x.a]) (by simp [results, Try.f20, go_sem]) rfl ?_
      exact ⟨_, c, _, g, fp, x.r, x.a, rfl, Own.drewN (Hoc6.out.mono (by omega)) _, hcl, Hgr6.out.under (((Drawn.refl _).drewN _).below _), fun r hr => Nat.le_trans (by omega) (Hfp.out r hr), hgl, hps, Hb6.out.trans (((Drawn.refl _).drewN _).below _)⟩
    · have hsd : decide ((0 : Int) < s) = false := decide_eq_false hs
      clear hs0 hs1
      have Hr3 := Lib.hid Hr4.out
      go_wp2_with fail
      refine (pick_any R 8 (p3 + 1) _ (by omega) Hr3.out (by omega)).mono ?_
      rintro e w6 ⟨x, rfl, hx0, hx1, hr6, hg6⟩
      have Hr6 := Lib.hid hr6; clear hr6
      have Hg6 := Lib.hid (grownBy_trans Hg4.out hg6); clear hg6
      have hwx : IntKind.i64.wrap (x - 1) = x - 1 := IntWalk.i64_in _ (by omega)
      go_wp2_with fail
      refine (pick_any R 8 ((p3 + 1) + 1) _ (by omega) Hr6.out (by omega)).mono ?_
      rintro e w7 ⟨y, rfl, hy0, hy1, hr7, hg7⟩
      have Hg7 := Lib.hid (grownBy_trans Hg6.out hg7); clear hg7
      obtain ⟨hoc7, hgr7, hb7⟩ := Hrest.out _ w7 hr7 (by omega) Hg7.out
      have Hoc7 := Lib.hid hoc7; clear hoc7
      have Hgr7 := Lib.hid hgr7; clear hgr7
      have Hb7 := Lib.hid hb7; clear hb7
      have hwy : IntKind.i64.wrap (y - 1) = y - 1 := IntWalk.i64_in _ (by omega)
      go_wp2
      refine bodyPost_ret (v := .tuple #[.slice ac c.length cc, .slice ag g.length cg, .int .i64 (x - 1), .int .i64 (y - 1)]) (by simp [results, Try.f20, go_sem]) rfl ?_
      exact ⟨_, c, _, g, fp, x - 1, y - 1, rfl, Hoc7.out.mono (by omega), hcl, Hgr7.out, fun r hr => Nat.le_trans (by omega) (Hfp.out r hr), hgl, hps, Hb7.out⟩

end Go.Proofs.Ytejpoeejhmgphaa
