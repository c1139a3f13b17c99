/- Texts that the laws of this folder share, one behind another; no conditions. -/
import Derived.Test.YthnbjdijcpcafaaRows
import Derived.Test.YthnbjdijcpcafaaBu4
import Derived.Test.YthnbjdijcpcafaaBu0
import Derived.Test.YthnbjdijcpcafaaBu3
import Derived.Deep.QuietTactic
import Derived.BigQuiet

/- The draw of a committee and a vertex, by a walk of its text; condition: the code has at most 2^40 bytes. -/
namespace Go.Proofs.Ythnbjdijcpcafaa
open Go.RowKit

/-- What is drawn: a committee and a vertex. -/
def VvD (w : World) (e : Ending) (w' : World) : Prop := ∃ (vc : Value) (c : List Int) (x : Vx) (pa : Option Addr) (pc : Nat), e = .returned (.tuple #[vc, .agg #[.int .i64 x.r, .int .i64 x.a, .slice pa x.ps.length pc, .int .i64 x.d]]) ∧ Own 3 w' w.heap.size vc c ∧ c.length ≤ 11 ∧ Own 3 w' w.heap.size (.slice pa x.ps.length pc) x.ps ∧ x.ps.length ≤ 300 ∧ Below w.heap.size w w'
set_option maxHeartbeats 4000000 in
theorem spec_DrawVertexValid (a : Option Addr) (cap : Nat) (zs : List Int) (w : World) (h : CodeAt w a cap zs) :
    Calls Try.prog 7 #[.slice a zs.length cap] w (VvD w) := by
  have hpost : ∀ (vc : Value) (c : List Int) (x : Vx) (pa : Option Addr) (pc : Nat) (w' : World), Own 3 w' w.heap.size vc c → c.length ≤ 11 → Own 3 w' w.heap.size (.slice pa x.ps.length pc) x.ps → x.ps.length ≤ 300 → Below w.heap.size w w' → VvD w (.returned (.tuple #[vc, .agg #[.int .i64 x.r, .int .i64 x.a, .slice pa x.ps.length pc, .int .i64 x.d]])) w' := fun vc c x pa pc w' h1 h2 h3 h4 h5 => ⟨vc, c, x, pa, pc, rfl, h1, h2, h3, h4, h5⟩
  have Hpost := Lib.hid hpost; clear hpost
  generalize VvD w = POST at *
  have Hs0 := Lib.hid (Str.new w 25 #[.int .i64 0, .int .i64 0, .slice none 0 0, .int .i64 0])
  have hb0 : Below w.heap.size w (w.alloc (.cells #[.int .i64 0, .int .i64 0, .slice none 0 0, .int .i64 0] 25)) := (Below.refl _ _).alloc (Nat.le_refl _) _
  have hz0 : (w.alloc (.cells #[.int .i64 0, .int .i64 0, .slice none 0 0, .int .i64 0] 25)).heap.size = w.heap.size + 1 := by simp
  have Hop := Lib.hid (open_any a cap zs _ (h.below hb0)); clear h
  have Hb0 := Lib.hid hb0; clear hb0
  go_enter Try.func7, Try.ntmps7
  go_wp2_with fail
  generalize (w.alloc (.cells #[.int .i64 0, .int .i64 0, .slice none 0 0, .int .i64 0] 25)) = w0 at *
  refine Hop.out.mono ?_
  rintro e w1 ⟨R, rfl, hR0, hR1, hr1, hb1⟩
  have hs1 := hb1.size
  have Hz := Lib.hid (show Str w1 w.heap.size 25 #[.int .i64 0, .int .i64 0, .slice none 0 0, .int .i64 0] from (hb1.block _ Hs0.out.lt).trans Hs0.out)
  have Hr := Lib.hid hr1; clear hr1
  have Hb := Lib.hid (below_step Hb0.out Hb0.out.size hb1); clear hb1
  go_wp2_with fail
  refine (drawCommittee R 0 w1 (by omega) Hr.out (by omega)).mono ?_
  rintro e w2 ⟨vc, c, p2, rfl, hoc, hcl, _, hr2, hp2, hg2⟩
  have hs2 := hg2.size
  obtain ⟨ac, cc, rfl, _, _⟩ := hoc.ints
  have Hz := Lib.hid (Hz.out.kept hg2 (by simp; omega))
  have Hb := Lib.hid (Hb.out.grown hg2 Hb.out.size (fun g e => by cases e; omega)); clear hg2
  have hn4 : (Value.slice ac c.length cc).ownBlock ≠ some w.heap.size := fun e => by have := (hoc.lt _ e).1; omega
  have hcR : (Value.slice ac c.length cc).ownBlock ≠ some R := fun e => by have := (hoc.lt _ e).1; omega
  have Hoc := Lib.hid (hoc.mono (show w.heap.size ≤ _ by omega)); clear hoc
  have Hr := Lib.hid hr2; clear hr2
  have HV := spec_CommitteeValid ac cc c w2 (by omega) Hoc.out.at
  cases hgb : validB c with
  | false =>
    rw [hgb] at HV
    have HV := Lib.hid HV
    go_wp2_with fail
    refine HV.out.mono ?_
    rintro e w4 ⟨rfl, rfl⟩
    go_wp2_with fail
    refine (pick_any R 4 p2 _ (by omega) Hr.out (by omega)).mono ?_
    rintro e w5 ⟨y, rfl, hy0, hy1, hr5, hg5⟩
    have Hz := Lib.hid (Hz.out.kept hg5 (by simp; omega))
    have Hoc := Lib.hid (Hoc.out.kept hg5 (.inr hcR))
    have Hr := Lib.hid hr5; clear hr5
    have Hb := Lib.hid (Hb.out.grown hg5 Hb.out.size (fun g e => by cases e; omega)); clear hg5
    go_wp2_with fail
    refine (drawDigest R (p2 + 1) _ (by omega) Hr.out).mono ?_
    rintro e w6 ⟨d, p6, rfl, hd0, hd1, hr6, hp6, hg6⟩
    have Hz := Lib.hid (Hz.out.kept hg6 (by simp; omega))
    have Hoc := Lib.hid (Hoc.out.kept hg6 (.inr hcR))
    have Hb := Lib.hid (Hb.out.grown hg6 Hb.out.size (fun g e => by cases e; omega)); clear hg6 hr6
    have j0 := Str.cell Hz.out 0 (v := (.int .i64 0)) rfl
    have g0 := Str.frozen Hz.out 0
    have j1 := Str.cell Hz.out 1 (v := (.int .i64 0)) rfl
    have g1 := Str.frozen Hz.out 1
    have j2 := Str.cell Hz.out 2 (v := (.slice none 0 0)) rfl
    have g2 := Str.frozen Hz.out 2
    have j3 := Str.cell Hz.out 3 (v := (.int .i64 0)) rfl
    have g3 := Str.frozen Hz.out 3
    have u := (Str.set (Str.set (Str.set (Str.set Hz.out 0 (.int .i64 0)) 1 (.int .i64 y)) 2 (.slice none 0 0)) 3 (.int .i64 d))
    have e0 := Str.cell u 0 (v := .int .i64 0) rfl
    have e1 := Str.cell u 1 (v := .int .i64 y) rfl
    have e2 := Str.cell u 2 (v := .slice none 0 0) rfl
    have e3 := Str.cell u 3 (v := .int .i64 d) rfl
    have OC := Lib.hid (Own.set_other (Own.set_other (Own.set_other (Own.set_other Hoc.out hn4 0 (.int .i64 0)) hn4 1 (.int .i64 y)) hn4 2 (.slice none 0 0)) hn4 3 (.int .i64 d))
    have BT := Lib.hid ((((Hb.out.setCell (p := ⟨w.heap.size, 0, none⟩) (Nat.le_refl _) (.int .i64 0)).setCell (p := ⟨w.heap.size, 1, none⟩) (Nat.le_refl _) (.int .i64 y)).setCell (p := ⟨w.heap.size, 2, none⟩) (Nat.le_refl _) (.slice none 0 0)).setCell (p := ⟨w.heap.size, 3, none⟩) (Nat.le_refl _) (.int .i64 d))
    clear u
    go_wp2
    refine bodyPost_ret (v := .tuple #[.slice ac c.length cc, .agg #[.int .i64 0, .int .i64 y, .slice none 0 0, .int .i64 d]]) (by simp [results, Try.f7, go_sem, e0, e1, e2, e3]) rfl ?_
    exact Hpost.out _ c ⟨0, y, [], d⟩ _ _ _ OC.out hcl (Own.nil _ _ _) (by simp) BT.out
  | true =>
    rw [hgb] at HV
    have HV := Lib.hid HV
    go_wp2_with fail
    refine HV.out.mono ?_
    rintro e w4 ⟨rfl, rfl⟩
    go_wp2_with fail
    refine (pick_any R 4 p2 _ (by omega) Hr.out (by omega)).mono ?_
    rintro e w5 ⟨n, rfl, hn0, hn1, hr5, hg5⟩
    have hs5 := hg5.size
    have Hz := Lib.hid (Hz.out.kept hg5 (by simp; omega))
    have Hoc := Lib.hid (Hoc.out.kept hg5 (.inr hcR))
    have Hr := Lib.hid hr5; clear hr5
    have Hb := Lib.hid (Hb.out.grown hg5 Hb.out.size (fun g e => by cases e; omega)); clear hg5
    have HG := Lib.hid (drawGraph R (p2 + 1) n w5 ac cc c (by omega) hn0 (by omega) hgb Hr.out (by omega) (fun W hW => (Hoc.out.kept hW (.inr hcR)).at))
    go_wp2_with fail
    refine HG.out.mono ?_
    rintro e w6 ⟨vg, g, p6, rfl, hog, hgk, hgl, hr6, hp6, hg6⟩
    have hs6 := hg6.size
    have Hz := Lib.hid (Hz.out.kept hg6 (by simp; omega))
    have Hoc := Lib.hid (Hoc.out.kept hg6 (.inr hcR))
    have Hb := Lib.hid (Hb.out.grown hg6 Hb.out.size (fun g e => by cases e; omega)); clear hg6
    have Hr := Lib.hid hr6; clear hr6
    obtain ⟨fp, hgr, hfp⟩ := ownR_gr hog
    obtain ⟨ag, cg, rfl⟩ := hgr.slice
    have hRf : R ∉ fp := fun hm => by have := hfp _ hm; omega
    have hps := gOk_ps hgk
    have hm := fun r => (show membersB c.length (authZ g r) = true from of_ascP (gOk_auth hgk r))
    obtain ⟨hc1, hc7⟩ := validB_len hgb
    have HX := Lib.hid (drawVertex' R p6 w6 ac cc c g (.slice ag g.length cg) fp (by omega) hgb hm (by omega) (fun x hx => Nat.le_trans (hps x hx) (by omega)) Hr.out (by omega) (fun W hW => (Hoc.out.kept hW (.inr hcR)).at) (fun W hW => Rd.grown hW hgr (fun r e hm => by cases e; exact hRf hm)))
    clear hgk hog hgr hps hm HG HV
    go_wp2_with fail
    refine HX.out.mono ?_
    rintro e w7 ⟨x, vp, rfl, huv, hxl, hg7⟩
    have Hz := Lib.hid (Hz.out.kept hg7 (by simp; omega))
    have Hoc := Lib.hid (Hoc.out.kept hg7 (.inr hcR))
    have Hb := Lib.hid (Hb.out.grown hg7 Hb.out.size (fun g e => by cases e; omega)); clear hg7
    obtain ⟨pa, pc, rfl, _, _⟩ := huv.ints
    have hn5 : (Value.slice pa x.ps.length pc).ownBlock ≠ some w.heap.size := fun e => by have := (huv.lt _ e).1; omega
    have Huv := Lib.hid (huv.mono (show w.heap.size ≤ _ by omega)); clear huv HX
    have j0 := Str.cell Hz.out 0 (v := (.int .i64 0)) rfl
    have g0 := Str.frozen Hz.out 0
    have j1 := Str.cell Hz.out 1 (v := (.int .i64 0)) rfl
    have g1 := Str.frozen Hz.out 1
    have j2 := Str.cell Hz.out 2 (v := (.slice none 0 0)) rfl
    have g2 := Str.frozen Hz.out 2
    have j3 := Str.cell Hz.out 3 (v := (.int .i64 0)) rfl
    have g3 := Str.frozen Hz.out 3
    have u := (Str.set (Str.set (Str.set (Str.set Hz.out 0 (.int .i64 x.r)) 1 (.int .i64 x.a)) 2 (.slice pa x.ps.length pc)) 3 (.int .i64 x.d))
    have e0 := Str.cell u 0 (v := .int .i64 x.r) rfl
    have e1 := Str.cell u 1 (v := .int .i64 x.a) rfl
    have e2 := Str.cell u 2 (v := .slice pa x.ps.length pc) rfl
    have e3 := Str.cell u 3 (v := .int .i64 x.d) rfl
    have OC := Lib.hid (Own.set_other (Own.set_other (Own.set_other (Own.set_other Hoc.out hn4 0 (.int .i64 x.r)) hn4 1 (.int .i64 x.a)) hn4 2 (.slice pa x.ps.length pc)) hn4 3 (.int .i64 x.d))
    have BT := Lib.hid ((((Hb.out.setCell (p := ⟨w.heap.size, 0, none⟩) (Nat.le_refl _) (.int .i64 x.r)).setCell (p := ⟨w.heap.size, 1, none⟩) (Nat.le_refl _) (.int .i64 x.a)).setCell (p := ⟨w.heap.size, 2, none⟩) (Nat.le_refl _) (.slice pa x.ps.length pc)).setCell (p := ⟨w.heap.size, 3, none⟩) (Nat.le_refl _) (.int .i64 x.d))
    have OW := Lib.hid (Own.set_other (Own.set_other (Own.set_other (Own.set_other Huv.out hn5 0 (.int .i64 x.r)) hn5 1 (.int .i64 x.a)) hn5 2 (.slice pa x.ps.length pc)) hn5 3 (.int .i64 x.d))
    clear u
    go_wp2
    refine bodyPost_ret (v := .tuple #[.slice ac c.length cc, .agg #[.int .i64 x.r, .int .i64 x.a, .slice pa x.ps.length pc, .int .i64 x.d]]) (by simp [results, Try.f7, go_sem, e0, e1, e2, e3]) rfl ?_
    exact Hpost.out _ c x _ _ _ OC.out hcl OW.out hxl BT.out

end Go.Proofs.Ythnbjdijcpcafaa
