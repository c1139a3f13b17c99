/- The draw of a voter and a vote, by a walk of its text; condition: the text of code is shorter than 2^20. -/
import Derived.Test.YtkndndcjchlpdaaRows
import Derived.Test.YtkndndcjchlpdaaVd4
import Derived.Test.YtkndndcjchlpdaaVd5
import Derived.Deep.QuietTactic
import Derived.BigQuiet
namespace Go.Proofs.Ytkndndcjchlpdaa
open Go.RowKit

set_option maxHeartbeats 8000000 in
set_option maxRecDepth 8000 in
theorem spec_DrawVoterSign (a : Option Addr) (cap : Nat) (zs : List Int) (w : World) (h : CodeAt w a cap zs) :
    Calls Try.prog 11 #[.slice a zs.length cap] w (VsDraw w) := by
  have hb0 : Below w.heap.size w ((w.alloc (.cells #[.int .i64 0, .slice none 0 0] 25)).alloc (.cells #[.int .i64 0, .int .i64 0, .int .i64 0] 27)) := ((Below.refl _ _).alloc (Nat.le_refl _) _).alloc (by simp) _
  have sa := (Str.new w 25 #[.int .i64 0, .slice none 0 0]).alloc (.cells #[.int .i64 0, .int .i64 0, .int .i64 0] 27)
  have sb := Str.new (w.alloc (.cells #[.int .i64 0, .slice none 0 0] 25)) 27 #[.int .i64 0, .int .i64 0, .int .i64 0]
  simp only [World.size_alloc] at sb
  have hz0 : ((w.alloc (.cells #[.int .i64 0, .slice none 0 0] 25)).alloc (.cells #[.int .i64 0, .int .i64 0, .int .i64 0] 27)).heap.size = w.heap.size + 2 := by simp
  have Hz0 := Lib.hid hz0; clear hz0
  have Hb0 := Lib.hid hb0
  have SA := Lib.hid sa; have SB := Lib.hid sb
  have hcode : CodeAt ((w.alloc (.cells #[.int .i64 0, .slice none 0 0] 25)).alloc (.cells #[.int .i64 0, .int .i64 0, .int .i64 0] 27)) a cap zs := h.below hb0
  have Hc := Lib.hid hcode
  clear hb0 sa sb hcode h
  go_enter Try.func11, Try.ntmps11
  go_wp2_with fail
  generalize ((w.alloc (.cells #[.int .i64 0, .slice none 0 0] 25)).alloc (.cells #[.int .i64 0, .int .i64 0, .int .i64 0] 27)) = W0 at *
  refine (open_any a cap zs _ Hc.out).mono ?_
  rintro e w1 ⟨R, rfl, hR1, hR2, hr1, hb1⟩
  have hRs : w.heap.size + 2 ≤ R := by have := Hz0.out; omega
  have SA := Lib.hid (show Str w1 w.heap.size 25 #[.int .i64 0, .slice none 0 0] from (hb1.block _ SA.out.lt).trans SA.out)
  have SB := Lib.hid (show Str w1 (w.heap.size + 1) 27 #[.int .i64 0, .int .i64 0, .int .i64 0] from (hb1.block _ SB.out.lt).trans SB.out)
  have Hb1 := Lib.hid (below_step Hb0.out Hb0.out.size hb1)
  have Hr1 := Lib.hid hr1
  clear hb1 hr1
  go_wp2_with fail
  refine (drawVoter R 0 _ (by omega) Hr1.out hR2).mono ?_
  rintro e w2 ⟨f, g, u, p2, rfl, ho, hgl, hf, hr2, hp2, hg2⟩
  have hs2 := hg2.size
  obtain ⟨au, cu, rfl⟩ := ho.slice
  have SA := Lib.hid (SA.out.kept hg2 (by simp; omega))
  have SB := Lib.hid (SB.out.kept hg2 (by simp; omega))
  have Hb2 := Lib.hid (Hb1.out.grown hg2 Hb1.out.size (fun g e => by cases e; omega))
  have Hr2 := Lib.hid hr2; have Ho := Lib.hid ho
  clear hr2 ho hg2
  have halX : Below w2.heap.size w2 (w2.alloc (.cells #[.int .i64 f, .slice au g.length cu] 25)) := (Below.refl _ _).alloc (Nat.le_refl _) _
  have SX := Lib.hid (Str.new w2 25 #[.int .i64 f, .slice au g.length cu])
  have SA := Lib.hid (SA.out.alloc (.cells #[.int .i64 f, .slice au g.length cu] 25))
  have SB := Lib.hid (SB.out.alloc (.cells #[.int .i64 f, .slice au g.length cu] 25))
  have Hb3 := Lib.hid (below_step Hb2.out Hb2.out.size halX)
  have Hr3 := Lib.hid (Hr2.out.alloc (.cells #[.int .i64 f, .slice au g.length cu] 25))
  have HoX := Lib.hid (show ∀ b, (Value.slice au g.length cu).ownBlock = some b → R < b ∧ b < w2.heap.size from fun b e => by have := Ho.out.lt b e; omega)
  have Ho3 := Lib.hid (Ho.out.below halX)
  have hzX : w2.heap.size < (w2.alloc (.cells #[.int .i64 f, .slice au g.length cu] 25)).heap.size := by simp
  clear halX
  go_wp2_with fail
  generalize (w2.alloc (.cells #[.int .i64 f, .slice au g.length cu] 25)) = w3 at *
  generalize w2.heap.size = X at *
  have hXR : R < X := by omega
  refine (drawVote R p2 _ (by omega) Hr3.out (by omega)).mono ?_
  rintro e w4 ⟨v, p4, rfl, hv1, hv2, hr4, hp4, hg4⟩
  have hs4 := hg4.size
  clear hv1 hv2
  have halV : Below w4.heap.size w4 (w4.alloc (.cells #[.int .i64 v.r, .int .i64 v.a, .int .i64 v.d] 27)) := (Below.refl _ _).alloc (Nat.le_refl _) _
  have HV := Lib.hid (show Vsg R w w.heap.size (w.heap.size + 1) X w4.heap.size f v p4 (w4.alloc (.cells #[.int .i64 v.r, .int .i64 v.a, .int .i64 v.d] 27)) (.slice au g.length cu) g from ⟨(SX.out.kept hg4 (by simp; omega)).alloc _, Str.new w4 27 _, ((Ho3.out.grown hg4 (fun b e e' => by have h1 := (HoX.out b e).1; cases e'; omega)).below halV).mono (by have := Hz0.out; omega), fun b e => by have h1 := HoX.out b e; exact ⟨by omega, by omega, by omega, by omega, by omega⟩, (SA.out.kept hg4 (by simp; omega)).alloc _, (SB.out.kept hg4 (by simp; omega)).alloc _, hr4.alloc _, (Hb3.out.grown hg4 Hb3.out.size (fun g e => by cases e; omega)).alloc (by omega) _, by omega⟩)
  have hzV : w4.heap.size < (w4.alloc (.cells #[.int .i64 v.r, .int .i64 v.a, .int .i64 v.d] 27)).heap.size := by simp
  clear halV hr4 hg4
  go_wp2_with fail
  generalize (w4.alloc (.cells #[.int .i64 v.r, .int .i64 v.a, .int .i64 v.d] 27)) = w5 at *
  generalize w4.heap.size = V at *
  refine (pick_any R 4 p4 _ (by omega) HV.out.rd (by omega)).mono ?_
  rintro e w6 ⟨t, rfl, ht0, ht1, hr', hg'⟩
  have HV := Lib.hid (HV.out.picked hg' hr')
  clear hr' hg' SA SB SX Hb0 Hb1 Hb2 Hb3 Hr1 Hr2 Hr3 Ho Ho3
  by_cases ht : t = 0 ∧ 0 < g.length
  case neg =>
    by_cases ht2 : t = 0
    case pos =>
      have hg0 : ¬ (0 : Int) < (g.length : Int) := by omega
      subst ht2
      clear ht
      have c0 := HV.out.sx.cell 0 (v := .int .i64 f) rfl
      have c1 := HV.out.sx.cell 1 (v := .slice au g.length cu) rfl
      have d0 := HV.out.sv.cell 0 (v := .int .i64 v.r) rfl
      have d1 := HV.out.sv.cell 1 (v := .int .i64 v.a) rfl
      have d2 := HV.out.sv.cell 2 (v := .int .i64 v.d) rfl
      go_wp2_with fail
      refine wp_region_held_drew (S := fun w' => w'.cell? ⟨X, 0, none⟩ = some (.int .i64 f) ∧ w'.cell? ⟨X, 1, none⟩ = some (.slice au g.length cu) ∧ w'.cell? ⟨V, 0, none⟩ = some (.int .i64 v.r) ∧ w'.cell? ⟨V, 1, none⟩ = some (.int .i64 v.a) ∧ w'.cell? ⟨V, 2, none⟩ = some (.int .i64 v.d)) (by kernel_rfl) ⟨c0, c1, d0, d1, d2⟩ (fun hH => ?_)
      have HV := Lib.hid (HV.out.below ((Below.refl _ _).drew))
      clear c0 c1 d0 d1 d2
      generalize w6.drew = wd at *
      refine takeH 0 (v := ?vrf1) rfl (by kernel_rfl) (by kernel_rfl) (by kernel_rfl) (fun _ _ _ h => h) hH rfl ?yrf1 ?rrf1
      case yrf1 => intro W hSw; go_simp; try with_reducible rfl
      try simp only [Act.put, List.setIfInBounds_toArray, List.set_cons_zero, List.set_cons_succ]
      refine takeH 1 (v := ?vrf2) rfl (by kernel_rfl) (by kernel_rfl) (by kernel_rfl) (fun _ _ _ h => h) hH rfl ?yrf2 ?rrf2
      case yrf2 => intro W hSw; go_simp; try with_reducible rfl
      try simp only [Act.put, List.setIfInBounds_toArray, List.set_cons_zero, List.set_cons_succ]
      obtain ⟨hv9, ho9, hb9, sa9, sb9, sx9, sv9⟩ := HV.out.res
      have Hsx := Lib.hid sx9; have Hsv := Lib.hid sv9; have Hsa := Lib.hid sa9; have Hsb := Lib.hid sb9; have Ho9 := Lib.hid ho9; have Hb9 := Lib.hid hb9
      clear hv9 ho9 hb9 sa9 sb9 sx9 sv9
      refine callH 2 rfl (by kernel_rfl) rfl (fun K hK => ?_)
      have y0 := HV.out.sa.frozen 0
      have y1 := HV.out.sa.frozen 1
      have a0 := HV.out.sa.cell 0 (v := .int .i64 0) rfl
      have a1 := HV.out.sa.cell 1 (v := .slice none 0 0) rfl
      go_simp
      clear y0 y1 a0 a1
      refine hK.out _ _ ⟨Hsx.out.cell 0 rfl, Hsx.out.cell 1 rfl, Hsv.out.cell 0 rfl, Hsv.out.cell 1 rfl, Hsv.out.cell 2 rfl⟩ (fun hH => ?_)
      clear hK K
      try simp only [Act.put, List.setIfInBounds_toArray, List.set_cons_zero, List.set_cons_succ]
      generalize ((wd.setCell ⟨w.heap.size, 0, none⟩ (.int .i64 f)).setCell ⟨w.heap.size, 1, none⟩ (.slice au g.length cu)) = we at *
      have hn9 : ∀ b, (Value.slice au g.length cu).ownBlock = some b → b ≠ w.heap.size + 1 := fun b e => (HV.out.nx b e).2.2.2.1
      obtain ⟨k1, k2, k3, k4, k5⟩ := HV.out.ds
      have Hsx := Lib.hid (Str.other (B' := w.heap.size + 1) (Str.other (B' := w.heap.size + 1) (Str.other (B' := w.heap.size + 1) Hsx.out (by omega) 0 (.int .i64 v.r)) (by omega) 1 (.int .i64 v.a)) (by omega) 2 (.int .i64 v.d))
      have Hsv := Lib.hid (Str.other (B' := w.heap.size + 1) (Str.other (B' := w.heap.size + 1) (Str.other (B' := w.heap.size + 1) Hsv.out (by omega) 0 (.int .i64 v.r)) (by omega) 1 (.int .i64 v.a)) (by omega) 2 (.int .i64 v.d))
      have Hsa := Lib.hid (Str.other (B' := w.heap.size + 1) (Str.other (B' := w.heap.size + 1) (Str.other (B' := w.heap.size + 1) Hsa.out (by omega) 0 (.int .i64 v.r)) (by omega) 1 (.int .i64 v.a)) (by omega) 2 (.int .i64 v.d))
      have Ho9 := Lib.hid (((Ho9.out.setc hn9 0 (.int .i64 v.r)).setc hn9 1 (.int .i64 v.a)).setc hn9 2 (.int .i64 v.d))
      have Hb9 := Lib.hid (((Hb9.out.setCell (p := ⟨w.heap.size + 1, 0, none⟩) (by simp) (.int .i64 v.r)).setCell (p := ⟨w.heap.size + 1, 1, none⟩) (by simp) (.int .i64 v.a)).setCell (p := ⟨w.heap.size + 1, 2, none⟩) (by simp) (.int .i64 v.d))
      have Hsb0 := Hsb
      have Hsb := Lib.hid (((Hsb0.out.set 0 (.int .i64 v.r)).set 1 (.int .i64 v.a)).set 2 (.int .i64 v.d))
      clear hn9 k1 k2 k3 k4 k5
      refine callH 3 rfl (by kernel_rfl) rfl (fun K hK => ?_)
      have y0 := Hsb0.out.frozen 0
      have y1 := Hsb0.out.frozen 1
      have y2 := Hsb0.out.frozen 2
      have a0 := Hsb0.out.cell 0 (v := .int .i64 0) rfl
      have a1 := Hsb0.out.cell 1 (v := .int .i64 0) rfl
      have a2 := Hsb0.out.cell 2 (v := .int .i64 0) rfl
      go_simp
      clear y0 y1 y2 a0 a1 a2
      refine hK.out _ _ ⟨Hsx.out.cell 0 rfl, Hsx.out.cell 1 rfl, Hsv.out.cell 0 rfl, Hsv.out.cell 1 rfl, Hsv.out.cell 2 rfl⟩ (fun hH => ?_)
      clear hK K
      try simp only [Act.put, List.setIfInBounds_toArray, List.set_cons_zero, List.set_cons_succ]
      generalize (((we.setCell ⟨w.heap.size + 1, 0, none⟩ (.int .i64 v.r)).setCell ⟨w.heap.size + 1, 1, none⟩ (.int .i64 v.a)).setCell ⟨w.heap.size + 1, 2, none⟩ (.int .i64 v.d)) = wf at *
      refine wpAnyH_done (by kernel_rfl) ?_ _
      try simp only [Act.put]
      have e0 := Hsa.out.cell 0 (v := .int .i64 f) rfl
      have e1 := Hsa.out.cell 1 (v := .slice au g.length cu) rfl
      have x0 := Hsb.out.cell 0 (v := .int .i64 v.r) rfl
      have x1 := Hsb.out.cell 1 (v := .int .i64 v.a) rfl
      have x2 := Hsb.out.cell 2 (v := .int .i64 v.d) rfl
      clear Hsb0
      go_wp2
      refine bodyPost_ret (v := .tuple #[.agg #[.int .i64 f, .slice au g.length cu], .agg #[.int .i64 v.r, .int .i64 v.a, .int .i64 v.d]]) (by simp [results, Try.f11, go_sem, e0, e1, x0, x1, x2]) rfl ?_
      obtain ⟨fq, hfq⟩ := Ho9.out.vts
      exact ⟨f, g, _, fq, v, rfl, hfq, hgl, Hb9.out⟩
    have ht' : (t == 0) = false := by rw [beq_eq_false_iff_ne]; exact ht2
    clear ht ht2
    have c0 := HV.out.sx.cell 0 (v := .int .i64 f) rfl
    have c1 := HV.out.sx.cell 1 (v := .slice au g.length cu) rfl
    have d0 := HV.out.sv.cell 0 (v := .int .i64 v.r) rfl
    have d1 := HV.out.sv.cell 1 (v := .int .i64 v.a) rfl
    have d2 := HV.out.sv.cell 2 (v := .int .i64 v.d) rfl
    go_wp2_with fail
    refine wp_region_held_drew (S := fun w' => w'.cell? ⟨X, 0, none⟩ = some (.int .i64 f) ∧ w'.cell? ⟨X, 1, none⟩ = some (.slice au g.length cu) ∧ w'.cell? ⟨V, 0, none⟩ = some (.int .i64 v.r) ∧ w'.cell? ⟨V, 1, none⟩ = some (.int .i64 v.a) ∧ w'.cell? ⟨V, 2, none⟩ = some (.int .i64 v.d)) (by kernel_rfl) ⟨c0, c1, d0, d1, d2⟩ (fun hH => ?_)
    have HV := Lib.hid (HV.out.below ((Below.refl _ _).drew))
    clear c0 c1 d0 d1 d2
    generalize w6.drew = wd at *
    refine takeH 0 (v := ?vrg1) rfl (by kernel_rfl) (by kernel_rfl) (by kernel_rfl) (fun _ _ _ h => h) hH rfl ?yrg1 ?rrg1
    case yrg1 => intro W hSw; go_simp; try with_reducible rfl
    try simp only [Act.put, List.setIfInBounds_toArray, List.set_cons_zero, List.set_cons_succ]
    refine takeH 1 (v := ?vrg2) rfl (by kernel_rfl) (by kernel_rfl) (by kernel_rfl) (fun _ _ _ h => h) hH rfl ?yrg2 ?rrg2
    case yrg2 => intro W hSw; go_simp; try with_reducible rfl
    try simp only [Act.put, List.setIfInBounds_toArray, List.set_cons_zero, List.set_cons_succ]
    obtain ⟨hv9, ho9, hb9, sa9, sb9, sx9, sv9⟩ := HV.out.res
    have Hsx := Lib.hid sx9; have Hsv := Lib.hid sv9; have Hsa := Lib.hid sa9; have Hsb := Lib.hid sb9; have Ho9 := Lib.hid ho9; have Hb9 := Lib.hid hb9
    clear hv9 ho9 hb9 sa9 sb9 sx9 sv9
    refine callH 2 rfl (by kernel_rfl) rfl (fun K hK => ?_)
    have y0 := HV.out.sa.frozen 0
    have y1 := HV.out.sa.frozen 1
    have a0 := HV.out.sa.cell 0 (v := .int .i64 0) rfl
    have a1 := HV.out.sa.cell 1 (v := .slice none 0 0) rfl
    go_simp
    clear y0 y1 a0 a1
    refine hK.out _ _ ⟨Hsx.out.cell 0 rfl, Hsx.out.cell 1 rfl, Hsv.out.cell 0 rfl, Hsv.out.cell 1 rfl, Hsv.out.cell 2 rfl⟩ (fun hH => ?_)
    clear hK K
    try simp only [Act.put, List.setIfInBounds_toArray, List.set_cons_zero, List.set_cons_succ]
    generalize ((wd.setCell ⟨w.heap.size, 0, none⟩ (.int .i64 f)).setCell ⟨w.heap.size, 1, none⟩ (.slice au g.length cu)) = we at *
    have hn9 : ∀ b, (Value.slice au g.length cu).ownBlock = some b → b ≠ w.heap.size + 1 := fun b e => (HV.out.nx b e).2.2.2.1
    obtain ⟨k1, k2, k3, k4, k5⟩ := HV.out.ds
    have Hsx := Lib.hid (Str.other (B' := w.heap.size + 1) (Str.other (B' := w.heap.size + 1) (Str.other (B' := w.heap.size + 1) Hsx.out (by omega) 0 (.int .i64 v.r)) (by omega) 1 (.int .i64 v.a)) (by omega) 2 (.int .i64 v.d))
    have Hsv := Lib.hid (Str.other (B' := w.heap.size + 1) (Str.other (B' := w.heap.size + 1) (Str.other (B' := w.heap.size + 1) Hsv.out (by omega) 0 (.int .i64 v.r)) (by omega) 1 (.int .i64 v.a)) (by omega) 2 (.int .i64 v.d))
    have Hsa := Lib.hid (Str.other (B' := w.heap.size + 1) (Str.other (B' := w.heap.size + 1) (Str.other (B' := w.heap.size + 1) Hsa.out (by omega) 0 (.int .i64 v.r)) (by omega) 1 (.int .i64 v.a)) (by omega) 2 (.int .i64 v.d))
    have Ho9 := Lib.hid (((Ho9.out.setc hn9 0 (.int .i64 v.r)).setc hn9 1 (.int .i64 v.a)).setc hn9 2 (.int .i64 v.d))
    have Hb9 := Lib.hid (((Hb9.out.setCell (p := ⟨w.heap.size + 1, 0, none⟩) (by simp) (.int .i64 v.r)).setCell (p := ⟨w.heap.size + 1, 1, none⟩) (by simp) (.int .i64 v.a)).setCell (p := ⟨w.heap.size + 1, 2, none⟩) (by simp) (.int .i64 v.d))
    have Hsb0 := Hsb
    have Hsb := Lib.hid (((Hsb0.out.set 0 (.int .i64 v.r)).set 1 (.int .i64 v.a)).set 2 (.int .i64 v.d))
    clear hn9 k1 k2 k3 k4 k5
    refine callH 3 rfl (by kernel_rfl) rfl (fun K hK => ?_)
    have y0 := Hsb0.out.frozen 0
    have y1 := Hsb0.out.frozen 1
    have y2 := Hsb0.out.frozen 2
    have a0 := Hsb0.out.cell 0 (v := .int .i64 0) rfl
    have a1 := Hsb0.out.cell 1 (v := .int .i64 0) rfl
    have a2 := Hsb0.out.cell 2 (v := .int .i64 0) rfl
    go_simp
    clear y0 y1 y2 a0 a1 a2
    refine hK.out _ _ ⟨Hsx.out.cell 0 rfl, Hsx.out.cell 1 rfl, Hsv.out.cell 0 rfl, Hsv.out.cell 1 rfl, Hsv.out.cell 2 rfl⟩ (fun hH => ?_)
    clear hK K
    try simp only [Act.put, List.setIfInBounds_toArray, List.set_cons_zero, List.set_cons_succ]
    generalize (((we.setCell ⟨w.heap.size + 1, 0, none⟩ (.int .i64 v.r)).setCell ⟨w.heap.size + 1, 1, none⟩ (.int .i64 v.a)).setCell ⟨w.heap.size + 1, 2, none⟩ (.int .i64 v.d)) = wf at *
    refine wpAnyH_done (by kernel_rfl) ?_ _
    try simp only [Act.put]
    have e0 := Hsa.out.cell 0 (v := .int .i64 f) rfl
    have e1 := Hsa.out.cell 1 (v := .slice au g.length cu) rfl
    have x0 := Hsb.out.cell 0 (v := .int .i64 v.r) rfl
    have x1 := Hsb.out.cell 1 (v := .int .i64 v.a) rfl
    have x2 := Hsb.out.cell 2 (v := .int .i64 v.d) rfl
    clear Hsb0
    go_wp2
    refine bodyPost_ret (v := .tuple #[.agg #[.int .i64 f, .slice au g.length cu], .agg #[.int .i64 v.r, .int .i64 v.a, .int .i64 v.d]]) (by simp [results, Try.f11, go_sem, e0, e1, x0, x1, x2]) rfl ?_
    obtain ⟨fq, hfq⟩ := Ho9.out.vts
    exact ⟨f, g, _, fq, v, rfl, hfq, hgl, Hb9.out⟩
  obtain ⟨rfl, hg0⟩ := ht
  have hg0' : (0 : Int) < (g.length : Int) := by omega
  have c0 := HV.out.sx.cell 0 (v := .int .i64 f) rfl
  have c1 := HV.out.sx.cell 1 (v := .slice au g.length cu) rfl
  go_wp2_with fail
  refine wp_region_L 9 (fun w' => w'.cell? ⟨X, 0, none⟩ = some (.int .i64 f) ∧ w'.cell? ⟨X, 1, none⟩ = some (.slice au g.length cu)) (by kernel_rfl) ⟨c0, c1⟩ (fun hH => ?_)
  have HV := Lib.hid (HV.out.below ((Below.refl _ _).drew))
  clear c0 c1
  generalize w6.drew = wd at *
  refine takeL 0 (v := ?vrh1) rfl (by kernel_rfl) (by kernel_rfl) (by kernel_rfl) (by kernel_rfl) (by kernel_rfl) (fun _ _ _ h => h) hH rfl ?yrh1 ?rrh1
  case yrh1 => intro W hSw; go_simp; try with_reducible rfl
  try simp only [Act.put, List.setIfInBounds_toArray, List.set_cons_zero, List.set_cons_succ]
  refine takeL 1 (v := ?vrh2) rfl (by kernel_rfl) (by kernel_rfl) (by kernel_rfl) (by kernel_rfl) (by kernel_rfl) (fun _ _ _ h => h) hH rfl ?yrh2 ?rrh2
  case yrh2 => intro W hSw; go_simp; try with_reducible rfl
  try simp only [Act.put, List.setIfInBounds_toArray, List.set_cons_zero, List.set_cons_succ]
  refine takeL 2 (v := ?vrh3) rfl (by kernel_rfl) (by kernel_rfl) (by kernel_rfl) (by kernel_rfl) (by kernel_rfl) (fun _ _ _ h => h) hH rfl ?yrh3 ?rrh3
  case yrh3 => intro W hSw; go_simp; try with_reducible rfl
  try simp only [Act.put, List.setIfInBounds_toArray, List.set_cons_zero, List.set_cons_succ]
  refine takeL 3 (v := ?vrh4) rfl (by kernel_rfl) (by kernel_rfl) (by kernel_rfl) (by kernel_rfl) (by kernel_rfl) (fun _ _ _ h => h) hH rfl ?yrh4 ?rrh4
  case yrh4 => intro W hSw; go_simp; try with_reducible rfl
  try simp only [Act.put, List.setIfInBounds_toArray, List.set_cons_zero, List.set_cons_succ]
  refine takeL 4 (v := ?vrh5) rfl (by kernel_rfl) (by kernel_rfl) (by kernel_rfl) (by kernel_rfl) (by kernel_rfl) (fun _ _ _ h => h) hH rfl ?yrh5 ?rrh5
  case yrh5 => intro W hSw; go_simp; try with_reducible rfl
  try simp only [Act.put, List.setIfInBounds_toArray, List.set_cons_zero, List.set_cons_succ]
  refine takeL 5 (v := ?vrh6) rfl (by kernel_rfl) (by kernel_rfl) (by kernel_rfl) (by kernel_rfl) (by kernel_rfl) (fun _ _ _ h => h) hH rfl ?yrh6 ?rrh6
  case yrh6 => intro W hSw; go_simp; try with_reducible rfl
  try simp only [Act.put, List.setIfInBounds_toArray, List.set_cons_zero, List.set_cons_succ]
  refine callL 6 rfl (by kernel_rfl) rfl (fun K hK => ?_)
  go_simp
  go_at_call 38
  refine (pick_any R _ (p4 + 1) _ (by omega) HV.out.rd (by have := HV.out.sx.lt; have := HV.out.ds; omega)).mono ?_
  rintro e w7 ⟨k, rfl, hk0, hk1, hr', hg'⟩
  have HV := Lib.hid (HV.out.picked hg' hr')
  clear hr' hg'
  refine hK.out _ _ ⟨HV.out.sx.cell 0 rfl, HV.out.sx.cell 1 rfl⟩ (fun hH => ?_)
  clear hK K
  try simp only [Act.put, List.setIfInBounds_toArray, List.set_cons_zero, List.set_cons_succ]
  obtain ⟨k, rfl⟩ := Int.eq_ofNat_of_zero_le hk0
  have hkl : k < g.length := by omega
  obtain ⟨fq, hfq⟩ := HV.out.own.vts
  obtain ⟨bg, og, rfl, hbg, hat⟩ := hfq.at (by omega)
  obtain ⟨g0, g1, g2⟩ := hat k hkl
  clear hat hk0 hk1 hfq
  generalize g[k] = y at *
  have hkl2 : (k : Int) < (g.length : Int) := by omega
  refine callL 7 rfl (by kernel_rfl) rfl (fun K hK => ?_)
  go_simp
  refine hK.out _ _ ⟨HV.out.sx.cell 0 rfl, HV.out.sx.cell 1 rfl⟩ (fun hH => ?_)
  clear hK K
  try simp only [Act.put, List.setIfInBounds_toArray, List.set_cons_zero, List.set_cons_succ]
  refine callL 8 rfl (by kernel_rfl) rfl (fun K hK => ?_)
  go_simp
  refine hK.out _ _ ⟨HV.out.sx.cell 0 rfl, HV.out.sx.cell 1 rfl⟩ (fun hH => ?_)
  clear hK K
  try simp only [Act.put, List.setIfInBounds_toArray, List.set_cons_zero, List.set_cons_succ]
  clear g0 g1 g2
  have y0 := HV.out.sv.frozen 0
  have y1 := HV.out.sv.frozen 1
  have y2 := HV.out.sv.frozen 2
  have d0 := HV.out.sv.cell 0 (v := .int .i64 v.r) rfl
  have d1 := HV.out.sv.cell 1 (v := .int .i64 v.a) rfl
  have d2 := HV.out.sv.cell 2 (v := .int .i64 v.d) rfl
  refine lastL rfl (by kernel_rfl) (by kernel_rfl) (by kernel_rfl) rfl (fun K hK => ?_)
  go_simp
  clear y0 y1 y2 d0 d1 d2
  refine hK.out _ _ ?_
  clear hK K
  try simp only [Act.put]
  have HV := Lib.hid (HV.out.vote y.r y.a y.d)
  generalize (((w7.setCell ⟨V, 0, none⟩ (.int .i64 y.r)).setCell ⟨V, 1, none⟩ (.int .i64 y.a)).setCell ⟨V, 2, none⟩ (.int .i64 y.d)) = w8 at *
  clear hkl hkl2
  have d0 := HV.out.sv.cell 0 (v := .int .i64 y.r) rfl
  have d1 := HV.out.sv.cell 1 (v := .int .i64 y.a) rfl
  have d2 := HV.out.sv.cell 2 (v := .int .i64 y.d) rfl
  go_wp2_with fail
  refine wp_region_L 6 (fun w' => w'.cell? ⟨V, 0, none⟩ = some (.int .i64 y.r) ∧ w'.cell? ⟨V, 1, none⟩ = some (.int .i64 y.a) ∧ w'.cell? ⟨V, 2, none⟩ = some (.int .i64 y.d)) (by kernel_rfl) ⟨d0, d1, d2⟩ (fun hH => ?_)
  have HV := Lib.hid (HV.out.below ((Below.refl _ _).drew))
  clear d0 d1 d2
  generalize w8.drew = wd2 at *
  refine takeL 0 (v := ?vri1) rfl (by kernel_rfl) (by kernel_rfl) (by kernel_rfl) (by kernel_rfl) (by kernel_rfl) (fun _ _ _ h => h) hH rfl ?yri1 ?rri1
  case yri1 => intro W hSw; go_simp; try with_reducible rfl
  try simp only [Act.put, List.setIfInBounds_toArray, List.set_cons_zero, List.set_cons_succ]
  refine takeL 1 (v := ?vri2) rfl (by kernel_rfl) (by kernel_rfl) (by kernel_rfl) (by kernel_rfl) (by kernel_rfl) (fun _ _ _ h => h) hH rfl ?yri2 ?rri2
  case yri2 => intro W hSw; go_simp; try with_reducible rfl
  try simp only [Act.put, List.setIfInBounds_toArray, List.set_cons_zero, List.set_cons_succ]
  refine takeL 2 (v := ?vri3) rfl (by kernel_rfl) (by kernel_rfl) (by kernel_rfl) (by kernel_rfl) (by kernel_rfl) (fun _ _ _ h => h) hH rfl ?yri3 ?rri3
  case yri3 => intro W hSw; go_simp; try with_reducible rfl
  try simp only [Act.put, List.setIfInBounds_toArray, List.set_cons_zero, List.set_cons_succ]
  refine callL 3 rfl (by kernel_rfl) rfl (fun K hK => ?_)
  go_simp
  go_at_call 38
  refine (pick_any R 2 (p4 + 1 + 1) _ (by omega) HV.out.rd (by have := HV.out.sx.lt; have := HV.out.ds; omega)).mono ?_
  rintro e w9 ⟨z, rfl, hz0, hz1, hr', hg'⟩
  have HV := Lib.hid (HV.out.picked hg' hr')
  clear hr' hg'
  refine hK.out _ _ ⟨HV.out.sv.cell 0 rfl, HV.out.sv.cell 1 rfl, HV.out.sv.cell 2 rfl⟩ (fun hH => ?_)
  clear hK K
  try simp only [Act.put, List.setIfInBounds_toArray, List.set_cons_zero, List.set_cons_succ]
  refine takeL 4 (v := ?vri4) rfl (by kernel_rfl) (by kernel_rfl) (by kernel_rfl) (by kernel_rfl) (by kernel_rfl) (fun _ _ _ h => h) hH rfl ?yri4 ?rri4
  case yri4 => intro W hSw; go_simp; try with_reducible rfl
  try simp only [Act.put, List.setIfInBounds_toArray, List.set_cons_zero, List.set_cons_succ]
  refine takeL 5 (v := ?vri5) rfl (by kernel_rfl) (by kernel_rfl) (by kernel_rfl) (by kernel_rfl) (by kernel_rfl) (fun _ _ _ h => h) hH rfl ?yri5 ?rri5
  case yri5 => intro W hSw; go_simp; try with_reducible rfl
  try simp only [Act.put, List.setIfInBounds_toArray, List.set_cons_zero, List.set_cons_succ]
  have y2 := HV.out.sv.frozen 2
  have d2 := HV.out.sv.cell 2 (v := .int .i64 y.d) rfl
  refine lastL rfl (by kernel_rfl) (by kernel_rfl) (by kernel_rfl) rfl (fun K hK => ?_)
  go_simp
  clear y2 d2
  refine hK.out _ _ ?_
  clear hK K
  try simp only [Act.put]
  have HV := Lib.hid (HV.out.digest (IntKind.i64.wrap (y.d + z)))
  skip
  obtain ⟨v, hvv⟩ : ∃ v : Vt, v = ⟨y.r, y.a, IntKind.i64.wrap (y.d + z)⟩ := ⟨_, rfl⟩
  have hvd : IntKind.i64.wrap (y.d + z) = v.d := by rw [hvv]
  skip
  rw [← hvv, hvd] at HV
  try rw [hvd]
  generalize (w9.setCell ⟨V, 2, none⟩ (.int .i64 v.d)) = w10 at *
  clear hvv hvd
  have c0 := HV.out.sx.cell 0 (v := .int .i64 f) rfl
  have c1 := HV.out.sx.cell 1 (v := .slice (some ⟨bg, og, none⟩) g.length cu) rfl
  have d0 := HV.out.sv.cell 0 (v := .int .i64 v.r) rfl
  have d1 := HV.out.sv.cell 1 (v := .int .i64 v.a) rfl
  have d2 := HV.out.sv.cell 2 (v := .int .i64 v.d) rfl
  go_wp2_with fail
  refine wp_region_held_drew (S := fun w' => w'.cell? ⟨X, 0, none⟩ = some (.int .i64 f) ∧ w'.cell? ⟨X, 1, none⟩ = some (.slice (some ⟨bg, og, none⟩) g.length cu) ∧ w'.cell? ⟨V, 0, none⟩ = some (.int .i64 v.r) ∧ w'.cell? ⟨V, 1, none⟩ = some (.int .i64 v.a) ∧ w'.cell? ⟨V, 2, none⟩ = some (.int .i64 v.d)) (by kernel_rfl) ⟨c0, c1, d0, d1, d2⟩ (fun hH => ?_)
  have HV := Lib.hid (HV.out.below ((Below.refl _ _).drew))
  clear c0 c1 d0 d1 d2
  generalize w10.drew = wd at *
  refine takeH 0 (v := ?vrj1) rfl (by kernel_rfl) (by kernel_rfl) (by kernel_rfl) (fun _ _ _ h => h) hH rfl ?yrj1 ?rrj1
  case yrj1 => intro W hSw; go_simp; try with_reducible rfl
  try simp only [Act.put, List.setIfInBounds_toArray, List.set_cons_zero, List.set_cons_succ]
  refine takeH 1 (v := ?vrj2) rfl (by kernel_rfl) (by kernel_rfl) (by kernel_rfl) (fun _ _ _ h => h) hH rfl ?yrj2 ?rrj2
  case yrj2 => intro W hSw; go_simp; try with_reducible rfl
  try simp only [Act.put, List.setIfInBounds_toArray, List.set_cons_zero, List.set_cons_succ]
  obtain ⟨hv9, ho9, hb9, sa9, sb9, sx9, sv9⟩ := HV.out.res
  have Hsx := Lib.hid sx9; have Hsv := Lib.hid sv9; have Hsa := Lib.hid sa9; have Hsb := Lib.hid sb9; have Ho9 := Lib.hid ho9; have Hb9 := Lib.hid hb9
  clear hv9 ho9 hb9 sa9 sb9 sx9 sv9
  refine callH 2 rfl (by kernel_rfl) rfl (fun K hK => ?_)
  have y0 := HV.out.sa.frozen 0
  have y1 := HV.out.sa.frozen 1
  have a0 := HV.out.sa.cell 0 (v := .int .i64 0) rfl
  have a1 := HV.out.sa.cell 1 (v := .slice none 0 0) rfl
  go_simp
  clear y0 y1 a0 a1
  refine hK.out _ _ ⟨Hsx.out.cell 0 rfl, Hsx.out.cell 1 rfl, Hsv.out.cell 0 rfl, Hsv.out.cell 1 rfl, Hsv.out.cell 2 rfl⟩ (fun hH => ?_)
  clear hK K
  try simp only [Act.put, List.setIfInBounds_toArray, List.set_cons_zero, List.set_cons_succ]
  generalize ((wd.setCell ⟨w.heap.size, 0, none⟩ (.int .i64 f)).setCell ⟨w.heap.size, 1, none⟩ (.slice (some ⟨bg, og, none⟩) g.length cu)) = we at *
  have hn9 : ∀ b, (Value.slice (some ⟨bg, og, none⟩) g.length cu).ownBlock = some b → b ≠ w.heap.size + 1 := fun b e => (HV.out.nx b e).2.2.2.1
  obtain ⟨k1, k2, k3, k4, k5⟩ := HV.out.ds
  have Hsx := Lib.hid (Str.other (B' := w.heap.size + 1) (Str.other (B' := w.heap.size + 1) (Str.other (B' := w.heap.size + 1) Hsx.out (by omega) 0 (.int .i64 v.r)) (by omega) 1 (.int .i64 v.a)) (by omega) 2 (.int .i64 v.d))
  have Hsv := Lib.hid (Str.other (B' := w.heap.size + 1) (Str.other (B' := w.heap.size + 1) (Str.other (B' := w.heap.size + 1) Hsv.out (by omega) 0 (.int .i64 v.r)) (by omega) 1 (.int .i64 v.a)) (by omega) 2 (.int .i64 v.d))
  have Hsa := Lib.hid (Str.other (B' := w.heap.size + 1) (Str.other (B' := w.heap.size + 1) (Str.other (B' := w.heap.size + 1) Hsa.out (by omega) 0 (.int .i64 v.r)) (by omega) 1 (.int .i64 v.a)) (by omega) 2 (.int .i64 v.d))
  have Ho9 := Lib.hid (((Ho9.out.setc hn9 0 (.int .i64 v.r)).setc hn9 1 (.int .i64 v.a)).setc hn9 2 (.int .i64 v.d))
  have Hb9 := Lib.hid (((Hb9.out.setCell (p := ⟨w.heap.size + 1, 0, none⟩) (by simp) (.int .i64 v.r)).setCell (p := ⟨w.heap.size + 1, 1, none⟩) (by simp) (.int .i64 v.a)).setCell (p := ⟨w.heap.size + 1, 2, none⟩) (by simp) (.int .i64 v.d))
  have Hsb0 := Hsb
  have Hsb := Lib.hid (((Hsb0.out.set 0 (.int .i64 v.r)).set 1 (.int .i64 v.a)).set 2 (.int .i64 v.d))
  clear hn9 k1 k2 k3 k4 k5
  refine callH 3 rfl (by kernel_rfl) rfl (fun K hK => ?_)
  have y0 := Hsb0.out.frozen 0
  have y1 := Hsb0.out.frozen 1
  have y2 := Hsb0.out.frozen 2
  have a0 := Hsb0.out.cell 0 (v := .int .i64 0) rfl
  have a1 := Hsb0.out.cell 1 (v := .int .i64 0) rfl
  have a2 := Hsb0.out.cell 2 (v := .int .i64 0) rfl
  go_simp
  clear y0 y1 y2 a0 a1 a2
  refine hK.out _ _ ⟨Hsx.out.cell 0 rfl, Hsx.out.cell 1 rfl, Hsv.out.cell 0 rfl, Hsv.out.cell 1 rfl, Hsv.out.cell 2 rfl⟩ (fun hH => ?_)
  clear hK K
  try simp only [Act.put, List.setIfInBounds_toArray, List.set_cons_zero, List.set_cons_succ]
  generalize (((we.setCell ⟨w.heap.size + 1, 0, none⟩ (.int .i64 v.r)).setCell ⟨w.heap.size + 1, 1, none⟩ (.int .i64 v.a)).setCell ⟨w.heap.size + 1, 2, none⟩ (.int .i64 v.d)) = wf at *
  refine wpAnyH_done (by kernel_rfl) ?_ _
  try simp only [Act.put]
  have e0 := Hsa.out.cell 0 (v := .int .i64 f) rfl
  have e1 := Hsa.out.cell 1 (v := .slice (some ⟨bg, og, none⟩) g.length cu) rfl
  have x0 := Hsb.out.cell 0 (v := .int .i64 v.r) rfl
  have x1 := Hsb.out.cell 1 (v := .int .i64 v.a) rfl
  have x2 := Hsb.out.cell 2 (v := .int .i64 v.d) rfl
  clear Hsb0
  go_wp2
  refine bodyPost_ret (v := .tuple #[.agg #[.int .i64 f, .slice (some ⟨bg, og, none⟩) g.length cu], .agg #[.int .i64 v.r, .int .i64 v.a, .int .i64 v.d]]) (by simp [results, Try.f11, go_sem, e0, e1, x0, x1, x2]) rfl ?_
  obtain ⟨fq, hfq⟩ := Ho9.out.vts
  exact ⟨f, g, _, fq, v, rfl, hfq, hgl, Hb9.out⟩

end Go.Proofs.Ytkndndcjchlpdaa
