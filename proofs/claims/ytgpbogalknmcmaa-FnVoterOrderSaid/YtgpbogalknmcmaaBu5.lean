/- Texts that the laws of this folder share, one behind another; no conditions. -/
import Derived.Test.YtgpbogalknmcmaaRows
import Derived.Test.YtgpbogalknmcmaaBu4
import Derived.Deep.QuietTactic
import Derived.BigQuiet
import Derived.Test.YtgpbogalknmcmaaBu1
import Derived.Test.YtgpbogalknmcmaaBu2
import Derived.Test.YtgpbogalknmcmaaBu0

/- The draw of a voter and a vote, by a walk of its text; condition: the text of code is shorter than 2^20. -/
namespace Go.Proofs.Ytgpbogalknmcmaa
open Go.RowKit

set_option maxHeartbeats 8000000 in
set_option maxRecDepth 8000 in
theorem spec_DrawVoterSign (a : Option Addr) (cap : Nat) (zs : List Int) (w : World) (h : CodeAt w a cap zs) :
    Calls Try.prog 13 #[.slice a zs.length cap] w (VsDraw w) := by
  have hb0 : Below w.heap.size w ((w.alloc (.cells #[.int .i64 0, .slice none 0 0] 25)).alloc (.cells #[.int .i64 0, .int .i64 0, .int .i64 0] 27)) := ((Below.refl _ _).alloc (Nat.le_refl _) _).alloc (by simp) _
  have sa := (Str.new w 25 #[.int .i64 0, .slice none 0 0]).alloc (.cells #[.int .i64 0, .int .i64 0, .int .i64 0] 27)
  have sb := Str.new (w.alloc (.cells #[.int .i64 0, .slice none 0 0] 25)) 27 #[.int .i64 0, .int .i64 0, .int .i64 0]
  simp only [World.size_alloc] at sb
  have hz0 : ((w.alloc (.cells #[.int .i64 0, .slice none 0 0] 25)).alloc (.cells #[.int .i64 0, .int .i64 0, .int .i64 0] 27)).heap.size = w.heap.size + 2 := by simp
  have Hz0 := Lib.hid hz0; clear hz0
  have Hb0 := Lib.hid hb0
  have SA := Lib.hid sa; have SB := Lib.hid sb
  have hcode : CodeAt ((w.alloc (.cells #[.int .i64 0, .slice none 0 0] 25)).alloc (.cells #[.int .i64 0, .int .i64 0, .int .i64 0] 27)) a cap zs := h.below hb0
  have Hc := Lib.hid hcode
  clear hb0 sa sb hcode h
  go_enter Try.func13, Try.ntmps13
  go_wp2_with fail
  generalize ((w.alloc (.cells #[.int .i64 0, .slice none 0 0] 25)).alloc (.cells #[.int .i64 0, .int .i64 0, .int .i64 0] 27)) = W0 at *
  refine (open_any a cap zs _ Hc.out).mono ?_
  rintro e w1 ⟨R, rfl, hR1, hR2, hr1, hb1⟩
  have hRs : w.heap.size + 2 ≤ R := by have := Hz0.out; omega
  have SA := Lib.hid (show Str w1 w.heap.size 25 #[.int .i64 0, .slice none 0 0] from (hb1.block _ SA.out.lt).trans SA.out)
  have SB := Lib.hid (show Str w1 (w.heap.size + 1) 27 #[.int .i64 0, .int .i64 0, .int .i64 0] from (hb1.block _ SB.out.lt).trans SB.out)
  have Hb1 := Lib.hid (below_step Hb0.out Hb0.out.size hb1)
  have Hr1 := Lib.hid hr1
  clear hb1 hr1
  go_wp2_with fail
  refine (drawVoter R 0 _ (by omega) Hr1.out hR2).mono ?_
  rintro e w2 ⟨f, g, u, p2, rfl, ho, hgl, hf, hr2, hp2, hg2⟩
  have hs2 := hg2.size
  obtain ⟨au, cu, rfl⟩ := ho.slice
  have SA := Lib.hid (SA.out.kept hg2 (by simp; omega))
  have SB := Lib.hid (SB.out.kept hg2 (by simp; omega))
  have Hb2 := Lib.hid (Hb1.out.grown hg2 Hb1.out.size (fun g e => by cases e; omega))
  have Hr2 := Lib.hid hr2; have Ho := Lib.hid ho
  clear hr2 ho hg2
  have halX : Below w2.heap.size w2 (w2.alloc (.cells #[.int .i64 f, .slice au g.length cu] 25)) := (Below.refl _ _).alloc (Nat.le_refl _) _
  have SX := Lib.hid (Str.new w2 25 #[.int .i64 f, .slice au g.length cu])
  have SA := Lib.hid (SA.out.alloc (.cells #[.int .i64 f, .slice au g.length cu] 25))
  have SB := Lib.hid (SB.out.alloc (.cells #[.int .i64 f, .slice au g.length cu] 25))
  have Hb3 := Lib.hid (below_step Hb2.out Hb2.out.size halX)
  have Hr3 := Lib.hid (Hr2.out.alloc (.cells #[.int .i64 f, .slice au g.length cu] 25))
  have HoX := Lib.hid (show ∀ b, (Value.slice au g.length cu).ownBlock = some b → R < b ∧ b < w2.heap.size from fun b e => by have := Ho.out.lt b e; omega)
  have Ho3 := Lib.hid (Ho.out.below halX)
  have hzX : w2.heap.size < (w2.alloc (.cells #[.int .i64 f, .slice au g.length cu] 25)).heap.size := by simp
  clear halX
  go_wp2_with fail
  generalize (w2.alloc (.cells #[.int .i64 f, .slice au g.length cu] 25)) = w3 at *
  generalize w2.heap.size = X at *
  have hXR : R < X := by omega
  refine (drawVote R p2 _ (by omega) Hr3.out (by omega)).mono ?_
  rintro e w4 ⟨v, p4, rfl, hv1, hv2, hr4, hp4, hg4⟩
  have hs4 := hg4.size
  clear hv1 hv2
  have halV : Below w4.heap.size w4 (w4.alloc (.cells #[.int .i64 v.r, .int .i64 v.a, .int .i64 v.d] 27)) := (Below.refl _ _).alloc (Nat.le_refl _) _
  have HV := Lib.hid (show Vsg R w w.heap.size (w.heap.size + 1) X w4.heap.size f v p4 (w4.alloc (.cells #[.int .i64 v.r, .int .i64 v.a, .int .i64 v.d] 27)) (.slice au g.length cu) g from ⟨(SX.out.kept hg4 (by simp; omega)).alloc _, Str.new w4 27 _, ((Ho3.out.grown hg4 (fun b e e' => by have h1 := (HoX.out b e).1; cases e'; omega)).below halV).mono (by have := Hz0.out; omega), fun b e => by have h1 := HoX.out b e; exact ⟨by omega, by omega, by omega, by omega, by omega⟩, (SA.out.kept hg4 (by simp; omega)).alloc _, (SB.out.kept hg4 (by simp; omega)).alloc _, hr4.alloc _, (Hb3.out.grown hg4 Hb3.out.size (fun g e => by cases e; omega)).alloc (by omega) _, by omega⟩)
  have hzV : w4.heap.size < (w4.alloc (.cells #[.int .i64 v.r, .int .i64 v.a, .int .i64 v.d] 27)).heap.size := by simp
  clear halV hr4 hg4
  go_wp2_with fail
  generalize (w4.alloc (.cells #[.int .i64 v.r, .int .i64 v.a, .int .i64 v.d] 27)) = w5 at *
  generalize w4.heap.size = V at *
  refine (pick_any R 4 p4 _ (by omega) HV.out.rd (by omega)).mono ?_
  rintro e w6 ⟨t, rfl, ht0, ht1, hr', hg'⟩
  have HV := Lib.hid (HV.out.picked hg' hr')
  clear hr' hg' SA SB SX Hb0 Hb1 Hb2 Hb3 Hr1 Hr2 Hr3 Ho Ho3
  by_cases ht : t = 0 ∧ 0 < g.length
  case neg =>
    by_cases ht2 : t = 0
    case pos =>
      have hg0 : ¬ (0 : Int) < (g.length : Int) := by omega
      subst ht2
      clear ht
      have c0 := HV.out.sx.cell 0 (v := .int .i64 f) rfl
      have c1 := HV.out.sx.cell 1 (v := .slice au g.length cu) rfl
      have d0 := HV.out.sv.cell 0 (v := .int .i64 v.r) rfl
      have d1 := HV.out.sv.cell 1 (v := .int .i64 v.a) rfl
      have d2 := HV.out.sv.cell 2 (v := .int .i64 v.d) rfl
      go_wp2_with fail
      refine wp_region_held_drew (S := fun w' => w'.cell? ⟨X, 0, none⟩ = some (.int .i64 f) ∧ w'.cell? ⟨X, 1, none⟩ = some (.slice au g.length cu) ∧ w'.cell? ⟨V, 0, none⟩ = some (.int .i64 v.r) ∧ w'.cell? ⟨V, 1, none⟩ = some (.int .i64 v.a) ∧ w'.cell? ⟨V, 2, none⟩ = some (.int .i64 v.d)) (by kernel_rfl) ⟨c0, c1, d0, d1, d2⟩ (fun hH => ?_)
      have HV := Lib.hid (HV.out.below ((Below.refl _ _).drew))
      clear c0 c1 d0 d1 d2
      generalize w6.drew = wd at *
      refine takeH 0 (v := ?vrf1) rfl (by kernel_rfl) (by kernel_rfl) (by kernel_rfl) (fun _ _ _ h => h) hH rfl ?yrf1 ?rrf1
      case yrf1 => intro W hSw; go_simp; try with_reducible rfl
      try simp only [Act.put, List.setIfInBounds_toArray, List.set_cons_zero, List.set_cons_succ]
      refine takeH 1 (v := ?vrf2) rfl (by kernel_rfl) (by kernel_rfl) (by kernel_rfl) (fun _ _ _ h => h) hH rfl ?yrf2 ?rrf2
      case yrf2 => intro W hSw; go_simp; try with_reducible rfl
      try simp only [Act.put, List.setIfInBounds_toArray, List.set_cons_zero, List.set_cons_succ]
      obtain ⟨hv9, ho9, hb9, sa9, sb9, sx9, sv9⟩ := HV.out.res
      have Hsx := Lib.hid sx9; have Hsv := Lib.hid sv9; have Hsa := Lib.hid sa9; have Hsb := Lib.hid sb9; have Ho9 := Lib.hid ho9; have Hb9 := Lib.hid hb9
      clear hv9 ho9 hb9 sa9 sb9 sx9 sv9
      refine callH 2 rfl (by kernel_rfl) rfl (fun K hK => ?_)
      have y0 := HV.out.sa.frozen 0
      have y1 := HV.out.sa.frozen 1
      have a0 := HV.out.sa.cell 0 (v := .int .i64 0) rfl
      have a1 := HV.out.sa.cell 1 (v := .slice none 0 0) rfl
      go_simp
      clear y0 y1 a0 a1
      refine hK.out _ _ ⟨Hsx.out.cell 0 rfl, Hsx.out.cell 1 rfl, Hsv.out.cell 0 rfl, Hsv.out.cell 1 rfl, Hsv.out.cell 2 rfl⟩ (fun hH => ?_)
      clear hK K
      try simp only [Act.put, List.setIfInBounds_toArray, List.set_cons_zero, List.set_cons_succ]
      generalize ((wd.setCell ⟨w.heap.size, 0, none⟩ (.int .i64 f)).setCell ⟨w.heap.size, 1, none⟩ (.slice au g.length cu)) = we at *
      have hn9 : ∀ b, (Value.slice au g.length cu).ownBlock = some b → b ≠ w.heap.size + 1 := fun b e => (HV.out.nx b e).2.2.2.1
      obtain ⟨k1, k2, k3, k4, k5⟩ := HV.out.ds
      have Hsx := Lib.hid (Str.other (B' := w.heap.size + 1) (Str.other (B' := w.heap.size + 1) (Str.other (B' := w.heap.size + 1) Hsx.out (by omega) 0 (.int .i64 v.r)) (by omega) 1 (.int .i64 v.a)) (by omega) 2 (.int .i64 v.d))
      have Hsv := Lib.hid (Str.other (B' := w.heap.size + 1) (Str.other (B' := w.heap.size + 1) (Str.other (B' := w.heap.size + 1) Hsv.out (by omega) 0 (.int .i64 v.r)) (by omega) 1 (.int .i64 v.a)) (by omega) 2 (.int .i64 v.d))
      have Hsa := Lib.hid (Str.other (B' := w.heap.size + 1) (Str.other (B' := w.heap.size + 1) (Str.other (B' := w.heap.size + 1) Hsa.out (by omega) 0 (.int .i64 v.r)) (by omega) 1 (.int .i64 v.a)) (by omega) 2 (.int .i64 v.d))
      have Ho9 := Lib.hid (((Ho9.out.setc hn9 0 (.int .i64 v.r)).setc hn9 1 (.int .i64 v.a)).setc hn9 2 (.int .i64 v.d))
      have Hb9 := Lib.hid (((Hb9.out.setCell (p := ⟨w.heap.size + 1, 0, none⟩) (by simp) (.int .i64 v.r)).setCell (p := ⟨w.heap.size + 1, 1, none⟩) (by simp) (.int .i64 v.a)).setCell (p := ⟨w.heap.size + 1, 2, none⟩) (by simp) (.int .i64 v.d))
      have Hsb0 := Hsb
      have Hsb := Lib.hid (((Hsb0.out.set 0 (.int .i64 v.r)).set 1 (.int .i64 v.a)).set 2 (.int .i64 v.d))
      clear hn9 k1 k2 k3 k4 k5
      refine callH 3 rfl (by kernel_rfl) rfl (fun K hK => ?_)
      have y0 := Hsb0.out.frozen 0
      have y1 := Hsb0.out.frozen 1
      have y2 := Hsb0.out.frozen 2
      have a0 := Hsb0.out.cell 0 (v := .int .i64 0) rfl
      have a1 := Hsb0.out.cell 1 (v := .int .i64 0) rfl
      have a2 := Hsb0.out.cell 2 (v := .int .i64 0) rfl
      go_simp
      clear y0 y1 y2 a0 a1 a2
      refine hK.out _ _ ⟨Hsx.out.cell 0 rfl, Hsx.out.cell 1 rfl, Hsv.out.cell 0 rfl, Hsv.out.cell 1 rfl, Hsv.out.cell 2 rfl⟩ (fun hH => ?_)
      clear hK K
      try simp only [Act.put, List.setIfInBounds_toArray, List.set_cons_zero, List.set_cons_succ]
      generalize (((we.setCell ⟨w.heap.size + 1, 0, none⟩ (.int .i64 v.r)).setCell ⟨w.heap.size + 1, 1, none⟩ (.int .i64 v.a)).setCell ⟨w.heap.size + 1, 2, none⟩ (.int .i64 v.d)) = wf at *
      refine wpAnyH_done (by kernel_rfl) ?_ _
      try simp only [Act.put]
      have e0 := Hsa.out.cell 0 (v := .int .i64 f) rfl
      have e1 := Hsa.out.cell 1 (v := .slice au g.length cu) rfl
      have x0 := Hsb.out.cell 0 (v := .int .i64 v.r) rfl
      have x1 := Hsb.out.cell 1 (v := .int .i64 v.a) rfl
      have x2 := Hsb.out.cell 2 (v := .int .i64 v.d) rfl
      clear Hsb0
      go_wp2
      refine bodyPost_ret (v := .tuple #[.agg #[.int .i64 f, .slice au g.length cu], .agg #[.int .i64 v.r, .int .i64 v.a, .int .i64 v.d]]) (by simp [results, Try.f13, go_sem, e0, e1, x0, x1, x2]) rfl ?_
      obtain ⟨fq, hfq⟩ := Ho9.out.vts
      exact ⟨f, g, _, fq, v, rfl, hfq, hgl, Hb9.out⟩
    have ht' : (t == 0) = false := by rw [beq_eq_false_iff_ne]; exact ht2
    clear ht ht2
    have c0 := HV.out.sx.cell 0 (v := .int .i64 f) rfl
    have c1 := HV.out.sx.cell 1 (v := .slice au g.length cu) rfl
    have d0 := HV.out.sv.cell 0 (v := .int .i64 v.r) rfl
    have d1 := HV.out.sv.cell 1 (v := .int .i64 v.a) rfl
    have d2 := HV.out.sv.cell 2 (v := .int .i64 v.d) rfl
    go_wp2_with fail
    refine wp_region_held_drew (S := fun w' => w'.cell? ⟨X, 0, none⟩ = some (.int .i64 f) ∧ w'.cell? ⟨X, 1, none⟩ = some (.slice au g.length cu) ∧ w'.cell? ⟨V, 0, none⟩ = some (.int .i64 v.r) ∧ w'.cell? ⟨V, 1, none⟩ = some (.int .i64 v.a) ∧ w'.cell? ⟨V, 2, none⟩ = some (.int .i64 v.d)) (by kernel_rfl) ⟨c0, c1, d0, d1, d2⟩ (fun hH => ?_)
    have HV := Lib.hid (HV.out.below ((Below.refl _ _).drew))
    clear c0 c1 d0 d1 d2
    generalize w6.drew = wd at *
    refine takeH 0 (v := ?vrg1) rfl (by kernel_rfl) (by kernel_rfl) (by kernel_rfl) (fun _ _ _ h => h) hH rfl ?yrg1 ?rrg1
    case yrg1 => intro W hSw; go_simp; try with_reducible rfl
    try simp only [Act.put, List.setIfInBounds_toArray, List.set_cons_zero, List.set_cons_succ]
    refine takeH 1 (v := ?vrg2) rfl (by kernel_rfl) (by kernel_rfl) (by kernel_rfl) (fun _ _ _ h => h) hH rfl ?yrg2 ?rrg2
    case yrg2 => intro W hSw; go_simp; try with_reducible rfl
    try simp only [Act.put, List.setIfInBounds_toArray, List.set_cons_zero, List.set_cons_succ]
    obtain ⟨hv9, ho9, hb9, sa9, sb9, sx9, sv9⟩ := HV.out.res
    have Hsx := Lib.hid sx9; have Hsv := Lib.hid sv9; have Hsa := Lib.hid sa9; have Hsb := Lib.hid sb9; have Ho9 := Lib.hid ho9; have Hb9 := Lib.hid hb9
    clear hv9 ho9 hb9 sa9 sb9 sx9 sv9
    refine callH 2 rfl (by kernel_rfl) rfl (fun K hK => ?_)
    have y0 := HV.out.sa.frozen 0
    have y1 := HV.out.sa.frozen 1
    have a0 := HV.out.sa.cell 0 (v := .int .i64 0) rfl
    have a1 := HV.out.sa.cell 1 (v := .slice none 0 0) rfl
    go_simp
    clear y0 y1 a0 a1
    refine hK.out _ _ ⟨Hsx.out.cell 0 rfl, Hsx.out.cell 1 rfl, Hsv.out.cell 0 rfl, Hsv.out.cell 1 rfl, Hsv.out.cell 2 rfl⟩ (fun hH => ?_)
    clear hK K
    try simp only [Act.put, List.setIfInBounds_toArray, List.set_cons_zero, List.set_cons_succ]
    generalize ((wd.setCell ⟨w.heap.size, 0, none⟩ (.int .i64 f)).setCell ⟨w.heap.size, 1, none⟩ (.slice au g.length cu)) = we at *
    have hn9 : ∀ b, (Value.slice au g.length cu).ownBlock = some b → b ≠ w.heap.size + 1 := fun b e => (HV.out.nx b e).2.2.2.1
    obtain ⟨k1, k2, k3, k4, k5⟩ := HV.out.ds
    have Hsx := Lib.hid (Str.other (B' := w.heap.size + 1) (Str.other (B' := w.heap.size + 1) (Str.other (B' := w.heap.size + 1) Hsx.out (by omega) 0 (.int .i64 v.r)) (by omega) 1 (.int .i64 v.a)) (by omega) 2 (.int .i64 v.d))
    have Hsv := Lib.hid (Str.other (B' := w.heap.size + 1) (Str.other (B' := w.heap.size + 1) (Str.other (B' := w.heap.size + 1) Hsv.out (by omega) 0 (.int .i64 v.r)) (by omega) 1 (.int .i64 v.a)) (by omega) 2 (.int .i64 v.d))
    have Hsa := Lib.hid (Str.other (B' := w.heap.size + 1) (Str.other (B' := w.heap.size + 1) (Str.other (B' := w.heap.size + 1) Hsa.out (by omega) 0 (.int .i64 v.r)) (by omega) 1 (.int .i64 v.a)) (by omega) 2 (.int .i64 v.d))
    have Ho9 := Lib.hid (((Ho9.out.setc hn9 0 (.int .i64 v.r)).setc hn9 1 (.int .i64 v.a)).setc hn9 2 (.int .i64 v.d))
    have Hb9 := Lib.hid (((Hb9.out.setCell (p := ⟨w.heap.size + 1, 0, none⟩) (by simp) (.int .i64 v.r)).setCell (p := ⟨w.heap.size + 1, 1, none⟩) (by simp) (.int .i64 v.a)).setCell (p := ⟨w.heap.size + 1, 2, none⟩) (by simp) (.int .i64 v.d))
    have Hsb0 := Hsb
    have Hsb := Lib.hid (((Hsb0.out.set 0 (.int .i64 v.r)).set 1 (.int .i64 v.a)).set 2 (.int .i64 v.d))
    clear hn9 k1 k2 k3 k4 k5
    refine callH 3 rfl (by kernel_rfl) rfl (fun K hK => ?_)
    have y0 := Hsb0.out.frozen 0
    have y1 := Hsb0.out.frozen 1
    have y2 := Hsb0.out.frozen 2
    have a0 := Hsb0.out.cell 0 (v := .int .i64 0) rfl
    have a1 := Hsb0.out.cell 1 (v := .int .i64 0) rfl
    have a2 := Hsb0.out.cell 2 (v := .int .i64 0) rfl
    go_simp
    clear y0 y1 y2 a0 a1 a2
    refine hK.out _ _ ⟨Hsx.out.cell 0 rfl, Hsx.out.cell 1 rfl, Hsv.out.cell 0 rfl, Hsv.out.cell 1 rfl, Hsv.out.cell 2 rfl⟩ (fun hH => ?_)
    clear hK K
    try simp only [Act.put, List.setIfInBounds_toArray, List.set_cons_zero, List.set_cons_succ]
    generalize (((we.setCell ⟨w.heap.size + 1, 0, none⟩ (.int .i64 v.r)).setCell ⟨w.heap.size + 1, 1, none⟩ (.int .i64 v.a)).setCell ⟨w.heap.size + 1, 2, none⟩ (.int .i64 v.d)) = wf at *
    refine wpAnyH_done (by kernel_rfl) ?_ _
    try simp only [Act.put]
    have e0 := Hsa.out.cell 0 (v := .int .i64 f) rfl
    have e1 := Hsa.out.cell 1 (v := .slice au g.length cu) rfl
    have x0 := Hsb.out.cell 0 (v := .int .i64 v.r) rfl
    have x1 := Hsb.out.cell 1 (v := .int .i64 v.a) rfl
    have x2 := Hsb.out.cell 2 (v := .int .i64 v.d) rfl
    clear Hsb0
    go_wp2
    refine bodyPost_ret (v := .tuple #[.agg #[.int .i64 f, .slice au g.length cu], .agg #[.int .i64 v.r, .int .i64 v.a, .int .i64 v.d]]) (by simp [results, Try.f13, go_sem, e0, e1, x0, x1, x2]) rfl ?_
    obtain ⟨fq, hfq⟩ := Ho9.out.vts
    exact ⟨f, g, _, fq, v, rfl, hfq, hgl, Hb9.out⟩
  obtain ⟨rfl, hg0⟩ := ht
  have hg0' : (0 : Int) < (g.length : Int) := by omega
  have c0 := HV.out.sx.cell 0 (v := .int .i64 f) rfl
  have c1 := HV.out.sx.cell 1 (v := .slice au g.length cu) rfl
  go_wp2_with fail
  refine wp_region_L 9 (fun w' => w'.cell? ⟨X, 0, none⟩ = some (.int .i64 f) ∧ w'.cell? ⟨X, 1, none⟩ = some (.slice au g.length cu)) (by kernel_rfl) ⟨c0, c1⟩ (fun hH => ?_)
  have HV := Lib.hid (HV.out.below ((Below.refl _ _).drew))
  clear c0 c1
  generalize w6.drew = wd at *
  refine takeL 0 (v := ?vrh1) rfl (by kernel_rfl) (by kernel_rfl) (by kernel_rfl) (by kernel_rfl) (by kernel_rfl) (fun _ _ _ h => h) hH rfl ?yrh1 ?rrh1
  case yrh1 => intro W hSw; go_simp; try with_reducible rfl
  try simp only [Act.put, List.setIfInBounds_toArray, List.set_cons_zero, List.set_cons_succ]
  refine takeL 1 (v := ?vrh2) rfl (by kernel_rfl) (by kernel_rfl) (by kernel_rfl) (by kernel_rfl) (by kernel_rfl) (fun _ _ _ h => h) hH rfl ?yrh2 ?rrh2
  case yrh2 => intro W hSw; go_simp; try with_reducible rfl
  try simp only [Act.put, List.setIfInBounds_toArray, List.set_cons_zero, List.set_cons_succ]
  refine takeL 2 (v := ?vrh3) rfl (by kernel_rfl) (by kernel_rfl) (by kernel_rfl) (by kernel_rfl) (by kernel_rfl) (fun _ _ _ h => h) hH rfl ?yrh3 ?rrh3
  case yrh3 => intro W hSw; go_simp; try with_reducible rfl
  try simp only [Act.put, List.setIfInBounds_toArray, List.set_cons_zero, List.set_cons_succ]
  refine takeL 3 (v := ?vrh4) rfl (by kernel_rfl) (by kernel_rfl) (by kernel_rfl) (by kernel_rfl) (by kernel_rfl) (fun _ _ _ h => h) hH rfl ?yrh4 ?rrh4
  case yrh4 => intro W hSw; go_simp; try with_reducible rfl
  try simp only [Act.put, List.setIfInBounds_toArray, List.set_cons_zero, List.set_cons_succ]
  refine takeL 4 (v := ?vrh5) rfl (by kernel_rfl) (by kernel_rfl) (by kernel_rfl) (by kernel_rfl) (by kernel_rfl) (fun _ _ _ h => h) hH rfl ?yrh5 ?rrh5
  case yrh5 => intro W hSw; go_simp; try with_reducible rfl
  try simp only [Act.put, List.setIfInBounds_toArray, List.set_cons_zero, List.set_cons_succ]
  refine takeL 5 (v := ?vrh6) rfl (by kernel_rfl) (by kernel_rfl) (by kernel_rfl) (by kernel_rfl) (by kernel_rfl) (fun _ _ _ h => h) hH rfl ?yrh6 ?rrh6
  case yrh6 => intro W hSw; go_simp; try with_reducible rfl
  try simp only [Act.put, List.setIfInBounds_toArray, List.set_cons_zero, List.set_cons_succ]
  refine callL 6 rfl (by kernel_rfl) rfl (fun K hK => ?_)
  go_simp
  go_at_call 31
  refine (pick_any R _ (p4 + 1) _ (by omega) HV.out.rd (by have := HV.out.sx.lt; have := HV.out.ds; omega)).mono ?_
  rintro e w7 ⟨k, rfl, hk0, hk1, hr', hg'⟩
  have HV := Lib.hid (HV.out.picked hg' hr')
  clear hr' hg'
  refine hK.out _ _ ⟨HV.out.sx.cell 0 rfl, HV.out.sx.cell 1 rfl⟩ (fun hH => ?_)
  clear hK K
  try simp only [Act.put, List.setIfInBounds_toArray, List.set_cons_zero, List.set_cons_succ]
  obtain ⟨k, rfl⟩ := Int.eq_ofNat_of_zero_le hk0
  have hkl : k < g.length := by omega
  obtain ⟨fq, hfq⟩ := HV.out.own.vts
  obtain ⟨bg, og, rfl, hbg, hat⟩ := hfq.at (by omega)
  obtain ⟨g0, g1, g2⟩ := hat k hkl
  clear hat hk0 hk1 hfq
  generalize g[k] = y at *
  have hkl2 : (k : Int) < (g.length : Int) := by omega
  refine callL 7 rfl (by kernel_rfl) rfl (fun K hK => ?_)
  go_simp
  refine hK.out _ _ ⟨HV.out.sx.cell 0 rfl, HV.out.sx.cell 1 rfl⟩ (fun hH => ?_)
  clear hK K
  try simp only [Act.put, List.setIfInBounds_toArray, List.set_cons_zero, List.set_cons_succ]
  refine callL 8 rfl (by kernel_rfl) rfl (fun K hK => ?_)
  go_simp
  refine hK.out _ _ ⟨HV.out.sx.cell 0 rfl, HV.out.sx.cell 1 rfl⟩ (fun hH => ?_)
  clear hK K
  try simp only [Act.put, List.setIfInBounds_toArray, List.set_cons_zero, List.set_cons_succ]
  clear g0 g1 g2
  have y0 := HV.out.sv.frozen 0
  have y1 := HV.out.sv.frozen 1
  have y2 := HV.out.sv.frozen 2
  have d0 := HV.out.sv.cell 0 (v := .int .i64 v.r) rfl
  have d1 := HV.out.sv.cell 1 (v := .int .i64 v.a) rfl
  have d2 := HV.out.sv.cell 2 (v := .int .i64 v.d) rfl
  refine lastL rfl (by kernel_rfl) (by kernel_rfl) (by kernel_rfl) rfl (fun K hK => ?_)
  go_simp
  clear y0 y1 y2 d0 d1 d2
  refine hK.out _ _ ?_
  clear hK K
  try simp only [Act.put]
  have HV := Lib.hid (HV.out.vote y.r y.a y.d)
  generalize (((w7.setCell ⟨V, 0, none⟩ (.int .i64 y.r)).setCell ⟨V, 1, none⟩ (.int .i64 y.a)).setCell ⟨V, 2, none⟩ (.int .i64 y.d)) = w8 at *
  clear hkl hkl2
  have d0 := HV.out.sv.cell 0 (v := .int .i64 y.r) rfl
  have d1 := HV.out.sv.cell 1 (v := .int .i64 y.a) rfl
  have d2 := HV.out.sv.cell 2 (v := .int .i64 y.d) rfl
  go_wp2_with fail
  refine wp_region_L 6 (fun w' => w'.cell? ⟨V, 0, none⟩ = some (.int .i64 y.r) ∧ w'.cell? ⟨V, 1, none⟩ = some (.int .i64 y.a) ∧ w'.cell? ⟨V, 2, none⟩ = some (.int .i64 y.d)) (by kernel_rfl) ⟨d0, d1, d2⟩ (fun hH => ?_)
  have HV := Lib.hid (HV.out.below ((Below.refl _ _).drew))
  clear d0 d1 d2
  generalize w8.drew = wd2 at *
  refine takeL 0 (v := ?vri1) rfl (by kernel_rfl) (by kernel_rfl) (by kernel_rfl) (by kernel_rfl) (by kernel_rfl) (fun _ _ _ h => h) hH rfl ?yri1 ?rri1
  case yri1 => intro W hSw; go_simp; try with_reducible rfl
  try simp only [Act.put, List.setIfInBounds_toArray, List.set_cons_zero, List.set_cons_succ]
  refine takeL 1 (v := ?vri2) rfl (by kernel_rfl) (by kernel_rfl) (by kernel_rfl) (by kernel_rfl) (by kernel_rfl) (fun _ _ _ h => h) hH rfl ?yri2 ?rri2
  case yri2 => intro W hSw; go_simp; try with_reducible rfl
  try simp only [Act.put, List.setIfInBounds_toArray, List.set_cons_zero, List.set_cons_succ]
  refine takeL 2 (v := ?vri3) rfl (by kernel_rfl) (by kernel_rfl) (by kernel_rfl) (by kernel_rfl) (by kernel_rfl) (fun _ _ _ h => h) hH rfl ?yri3 ?rri3
  case yri3 => intro W hSw; go_simp; try with_reducible rfl
  try simp only [Act.put, List.setIfInBounds_toArray, List.set_cons_zero, List.set_cons_succ]
  refine callL 3 rfl (by kernel_rfl) rfl (fun K hK => ?_)
  go_simp
  go_at_call 31
  refine (pick_any R 2 (p4 + 1 + 1) _ (by omega) HV.out.rd (by have := HV.out.sx.lt; have := HV.out.ds; omega)).mono ?_
  rintro e w9 ⟨z, rfl, hz0, hz1, hr', hg'⟩
  have HV := Lib.hid (HV.out.picked hg' hr')
  clear hr' hg'
  refine hK.out _ _ ⟨HV.out.sv.cell 0 rfl, HV.out.sv.cell 1 rfl, HV.out.sv.cell 2 rfl⟩ (fun hH => ?_)
  clear hK K
  try simp only [Act.put, List.setIfInBounds_toArray, List.set_cons_zero, List.set_cons_succ]
  refine takeL 4 (v := ?vri4) rfl (by kernel_rfl) (by kernel_rfl) (by kernel_rfl) (by kernel_rfl) (by kernel_rfl) (fun _ _ _ h => h) hH rfl ?yri4 ?rri4
  case yri4 => intro W hSw; go_simp; try with_reducible rfl
  try simp only [Act.put, List.setIfInBounds_toArray, List.set_cons_zero, List.set_cons_succ]
  refine takeL 5 (v := ?vri5) rfl (by kernel_rfl) (by kernel_rfl) (by kernel_rfl) (by kernel_rfl) (by kernel_rfl) (fun _ _ _ h => h) hH rfl ?yri5 ?rri5
  case yri5 => intro W hSw; go_simp; try with_reducible rfl
  try simp only [Act.put, List.setIfInBounds_toArray, List.set_cons_zero, List.set_cons_succ]
  have y2 := HV.out.sv.frozen 2
  have d2 := HV.out.sv.cell 2 (v := .int .i64 y.d) rfl
  refine lastL rfl (by kernel_rfl) (by kernel_rfl) (by kernel_rfl) rfl (fun K hK => ?_)
  go_simp
  clear y2 d2
  refine hK.out _ _ ?_
  clear hK K
  try simp only [Act.put]
  have HV := Lib.hid (HV.out.digest (IntKind.i64.wrap (y.d + z)))
  skip
  obtain ⟨v, hvv⟩ : ∃ v : Vt, v = ⟨y.r, y.a, IntKind.i64.wrap (y.d + z)⟩ := ⟨_, rfl⟩
  have hvd : IntKind.i64.wrap (y.d + z) = v.d := by rw [hvv]
  skip
  rw [← hvv, hvd] at HV
  try rw [hvd]
  generalize (w9.setCell ⟨V, 2, none⟩ (.int .i64 v.d)) = w10 at *
  clear hvv hvd
  have c0 := HV.out.sx.cell 0 (v := .int .i64 f) rfl
  have c1 := HV.out.sx.cell 1 (v := .slice (some ⟨bg, og, none⟩) g.length cu) rfl
  have d0 := HV.out.sv.cell 0 (v := .int .i64 v.r) rfl
  have d1 := HV.out.sv.cell 1 (v := .int .i64 v.a) rfl
  have d2 := HV.out.sv.cell 2 (v := .int .i64 v.d) rfl
  go_wp2_with fail
  refine wp_region_held_drew (S := fun w' => w'.cell? ⟨X, 0, none⟩ = some (.int .i64 f) ∧ w'.cell? ⟨X, 1, none⟩ = some (.slice (some ⟨bg, og, none⟩) g.length cu) ∧ w'.cell? ⟨V, 0, none⟩ = some (.int .i64 v.r) ∧ w'.cell? ⟨V, 1, none⟩ = some (.int .i64 v.a) ∧ w'.cell? ⟨V, 2, none⟩ = some (.int .i64 v.d)) (by kernel_rfl) ⟨c0, c1, d0, d1, d2⟩ (fun hH => ?_)
  have HV := Lib.hid (HV.out.below ((Below.refl _ _).drew))
  clear c0 c1 d0 d1 d2
  generalize w10.drew = wd at *
  refine takeH 0 (v := ?vrj1) rfl (by kernel_rfl) (by kernel_rfl) (by kernel_rfl) (fun _ _ _ h => h) hH rfl ?yrj1 ?rrj1
  case yrj1 => intro W hSw; go_simp; try with_reducible rfl
  try simp only [Act.put, List.setIfInBounds_toArray, List.set_cons_zero, List.set_cons_succ]
  refine takeH 1 (v := ?vrj2) rfl (by kernel_rfl) (by kernel_rfl) (by kernel_rfl) (fun _ _ _ h => h) hH rfl ?yrj2 ?rrj2
  case yrj2 => intro W hSw; go_simp; try with_reducible rfl
  try simp only [Act.put, List.setIfInBounds_toArray, List.set_cons_zero, List.set_cons_succ]
  obtain ⟨hv9, ho9, hb9, sa9, sb9, sx9, sv9⟩ := HV.out.res
  have Hsx := Lib.hid sx9; have Hsv := Lib.hid sv9; have Hsa := Lib.hid sa9; have Hsb := Lib.hid sb9; have Ho9 := Lib.hid ho9; have Hb9 := Lib.hid hb9
  clear hv9 ho9 hb9 sa9 sb9 sx9 sv9
  refine callH 2 rfl (by kernel_rfl) rfl (fun K hK => ?_)
  have y0 := HV.out.sa.frozen 0
  have y1 := HV.out.sa.frozen 1
  have a0 := HV.out.sa.cell 0 (v := .int .i64 0) rfl
  have a1 := HV.out.sa.cell 1 (v := .slice none 0 0) rfl
  go_simp
  clear y0 y1 a0 a1
  refine hK.out _ _ ⟨Hsx.out.cell 0 rfl, Hsx.out.cell 1 rfl, Hsv.out.cell 0 rfl, Hsv.out.cell 1 rfl, Hsv.out.cell 2 rfl⟩ (fun hH => ?_)
  clear hK K
  try simp only [Act.put, List.setIfInBounds_toArray, List.set_cons_zero, List.set_cons_succ]
  generalize ((wd.setCell ⟨w.heap.size, 0, none⟩ (.int .i64 f)).setCell ⟨w.heap.size, 1, none⟩ (.slice (some ⟨bg, og, none⟩) g.length cu)) = we at *
  have hn9 : ∀ b, (Value.slice (some ⟨bg, og, none⟩) g.length cu).ownBlock = some b → b ≠ w.heap.size + 1 := fun b e => (HV.out.nx b e).2.2.2.1
  obtain ⟨k1, k2, k3, k4, k5⟩ := HV.out.ds
  have Hsx := Lib.hid (Str.other (B' := w.heap.size + 1) (Str.other (B' := w.heap.size + 1) (Str.other (B' := w.heap.size + 1) Hsx.out (by omega) 0 (.int .i64 v.r)) (by omega) 1 (.int .i64 v.a)) (by omega) 2 (.int .i64 v.d))
  have Hsv := Lib.hid (Str.other (B' := w.heap.size + 1) (Str.other (B' := w.heap.size + 1) (Str.other (B' := w.heap.size + 1) Hsv.out (by omega) 0 (.int .i64 v.r)) (by omega) 1 (.int .i64 v.a)) (by omega) 2 (.int .i64 v.d))
  have Hsa := Lib.hid (Str.other (B' := w.heap.size + 1) (Str.other (B' := w.heap.size + 1) (Str.other (B' := w.heap.size + 1) Hsa.out (by omega) 0 (.int .i64 v.r)) (by omega) 1 (.int .i64 v.a)) (by omega) 2 (.int .i64 v.d))
  have Ho9 := Lib.hid (((Ho9.out.setc hn9 0 (.int .i64 v.r)).setc hn9 1 (.int .i64 v.a)).setc hn9 2 (.int .i64 v.d))
  have Hb9 := Lib.hid (((Hb9.out.setCell (p := ⟨w.heap.size + 1, 0, none⟩) (by simp) (.int .i64 v.r)).setCell (p := ⟨w.heap.size + 1, 1, none⟩) (by simp) (.int .i64 v.a)).setCell (p := ⟨w.heap.size + 1, 2, none⟩) (by simp) (.int .i64 v.d))
  have Hsb0 := Hsb
  have Hsb := Lib.hid (((Hsb0.out.set 0 (.int .i64 v.r)).set 1 (.int .i64 v.a)).set 2 (.int .i64 v.d))
  clear hn9 k1 k2 k3 k4 k5
  refine callH 3 rfl (by kernel_rfl) rfl (fun K hK => ?_)
  have y0 := Hsb0.out.frozen 0
  have y1 := Hsb0.out.frozen 1
  have y2 := Hsb0.out.frozen 2
  have a0 := Hsb0.out.cell 0 (v := .int .i64 0) rfl
  have a1 := Hsb0.out.cell 1 (v := .int .i64 0) rfl
  have a2 := Hsb0.out.cell 2 (v := .int .i64 0) rfl
  go_simp
  clear y0 y1 y2 a0 a1 a2
  refine hK.out _ _ ⟨Hsx.out.cell 0 rfl, Hsx.out.cell 1 rfl, Hsv.out.cell 0 rfl, Hsv.out.cell 1 rfl, Hsv.out.cell 2 rfl⟩ (fun hH => ?_)
  clear hK K
  try simp only [Act.put, List.setIfInBounds_toArray, List.set_cons_zero, List.set_cons_succ]
  generalize (((we.setCell ⟨w.heap.size + 1, 0, none⟩ (.int .i64 v.r)).setCell ⟨w.heap.size + 1, 1, none⟩ (.int .i64 v.a)).setCell ⟨w.heap.size + 1, 2, none⟩ (.int .i64 v.d)) = wf at *
  refine wpAnyH_done (by kernel_rfl) ?_ _
  try simp only [Act.put]
  have e0 := Hsa.out.cell 0 (v := .int .i64 f) rfl
  have e1 := Hsa.out.cell 1 (v := .slice (some ⟨bg, og, none⟩) g.length cu) rfl
  have x0 := Hsb.out.cell 0 (v := .int .i64 v.r) rfl
  have x1 := Hsb.out.cell 1 (v := .int .i64 v.a) rfl
  have x2 := Hsb.out.cell 2 (v := .int .i64 v.d) rfl
  clear Hsb0
  go_wp2
  refine bodyPost_ret (v := .tuple #[.agg #[.int .i64 f, .slice (some ⟨bg, og, none⟩) g.length cu], .agg #[.int .i64 v.r, .int .i64 v.a, .int .i64 v.d]]) (by simp [results, Try.f13, go_sem, e0, e1, x0, x1, x2]) rfl ?_
  obtain ⟨fq, hfq⟩ := Ho9.out.vts
  exact ⟨f, g, _, fq, v, rfl, hfq, hgl, Hb9.out⟩

end Go.Proofs.Ytgpbogalknmcmaa

/- laws.sameVoter at two voters that read alike; condition: the list is shorter than 2^40. -/
namespace Go.Proofs.Ytgpbogalknmcmaa
open Go.RowKit

theorem sameVoter_self (f : Int) (g : List Vt) (v v2 : Value) (fp fp2 : List Nat) (w : World) (hbig : g.length ≤ 1099511627776) (hg : Vts w g v fp) (hg2 : Vts w g v2 fp2) :
    Calls Try.prog 16 #[.agg #[.int .i64 f, v], .agg #[.int .i64 f, v2]] w fun e w' => e = .returned (.bool true) ∧ Below w.heap.size w w' :=
  (laws_sameVoter f f g g v v2 fp fp2 w hbig hg hg2).mono fun _ _ h => ⟨by rw [h.1]; simp, h.2⟩

theorem has_succ {G : List Vt} {y : Vt} {q : Nat} (h : q < G.length) : (G.take (q + 1)).contains y = ((G.take q).contains y || decide (G[q] = y)) := by
  rw [List.take_succ_eq_append_getElem h, List.contains_eq_any_beq, List.contains_eq_any_beq, List.any_append]
  congr 1
  by_cases e : G[q] = y
  · simp [e]
  · have e' : ¬ y = G[q] := fun h => e h.symm
    simp [e, e']

theorem eq_vote (x y : Vt) (w : World) : (binOp .eql 27 (.agg #[.int .i64 x.r, .int .i64 x.a, .int .i64 x.d]) (.agg #[.int .i64 y.r, .int .i64 y.a, .int .i64 y.d])).run Try.prog w = .ok (.bool (decide (x = y))) w := by
  have hS : Try.prog.underlying 27 = some (.struct (Try.prog.fieldsOf 27)) := by kernel_rfl
  have hp : Try.prog.stoodInHeld 27 = false := by kernel_rfl
  rw [run_eql_struct, show (10000 : Nat) = 9999 + 1 from rfl, run_equalIn_agg w 9999 27 _ _ hS hp]
  simp only [Program.fieldsOf, Try.underlying27]
  go_simp
  obtain ⟨xr, xa, xd⟩ := x
  obtain ⟨yr, ya, yd⟩ := y
  by_cases h1 : xr = yr <;> by_cases h2 : xa = ya <;> by_cases h3 : xd = yd <;> simp [h1, h2, h3]

end Go.Proofs.Ytgpbogalknmcmaa

/- Signing a vote again; plain facts, nothing here speaks of the program. -/
namespace Go.Proofs.Ytgpbogalknmcmaa

theorem repeat_fact {f : Int} {g : List Vt} {v : Vt} (h : sgB f g v = true) : sgF (sgF f g v) (sgG f g v) v = sgF f g v ∧ sgG (sgF f g v) (sgG f g v) v = sgG f g v ∧ sgB (sgF f g v) (sgG f g v) v = true ∧ voterB (sgF f g v) (sgG f g v) = true := by
  obtain ⟨h1, h2, h3, h4, h5⟩ := sg_true h
  rw [h4, h5]
  have h6 := voter_sign (v := v) h1 h2
  obtain ⟨a, b, c⟩ := sg_yes h6 h2
  obtain ⟨d, e⟩ := sign_once (f' := f) (u := v) h3 rfl rfl
  exact ⟨a, b.trans e, c.trans (d.trans (decide_eq_true rfl)), h6⟩

end Go.Proofs.Ytgpbogalknmcmaa

/- The reference's VoterForget, by a walk of its text; condition: the list is shorter than 2^40. -/
namespace Go.Proofs.Ytgpbogalknmcmaa
open Go.RowKit

/-- What forgetting up to the floor n answers. -/
def fgB (f : Int) (g : List Vt) (n : Int) : Bool := voterB f g && decide (f ≤ n ∧ n ≤ 31)
def fgF (f : Int) (g : List Vt) (n : Int) : Int := if fgB f g n then n else 0
def fgG (f : Int) (g : List Vt) (n : Int) : List Vt := if fgB f g n then forgetG n g else []
theorem fg_no {f n : Int} {g : List Vt} (h : fgB f g n = false) : fgF f g n = 0 ∧ fgG f g n = [] ∧ fgB f g n = false := by unfold fgF fgG; rw [h]; exact ⟨rfl, rfl, rfl⟩
theorem fg_yes {f n : Int} {g : List Vt} (h : fgB f g n = true) : fgF f g n = n ∧ fgG f g n = forgetG n g ∧ fgB f g n = true := by unfold fgF fgG; rw [h]; exact ⟨rfl, rfl, rfl⟩
theorem fg_step (n : Int) (g : List Vt) (k : Nat) (h : k < g.length) : forgetG n (g.take (k + 1)) = forgetG n (g.take k) ++ (if n ≤ g[k].r then [g[k]] else []) := by
  unfold forgetG
  rw [List.take_succ_eq_append_getElem h, List.filter_append]
  by_cases hr : n ≤ g[k].r
  · rw [if_pos hr, List.filter_cons_of_pos (by simpa using hr)]; rfl
  · rw [if_neg hr, List.filter_cons_of_neg (by simpa using hr)]; rfl

set_option maxHeartbeats 8000000 in
set_option maxRecDepth 8000 in
theorem spec_VoterForget (f : Int) (g : List Vt) (v : Value) (fp : List Nat) (n : Int) (w : World) (hbig : g.length ≤ 1099511627776) (hg : Vts w g v fp) :
    Calls Try.prog 20 #[.agg #[.int .i64 f, v], .int .i64 n] w fun e w' => ∃ vv, e = .returned (.tuple #[.agg #[.int .i64 (fgF f g n), vv], .bool (fgB f g n)]) ∧ OwnR 27 3 3 w' w.heap.size w'.heap.size vv ((fgG f g n).map Vt.fd) ∧ Below w.heap.size w w' := by
  obtain ⟨va, vc, rfl⟩ := hg.slice
  have hb0 : Below w.heap.size w ((w.alloc (.cells #[.int .i64 f, .slice va g.length vc] 25)).alloc (.cells #[.int .i64 0, .slice none 0 0] 25)) := ((Below.refl _ _).alloc (Nat.le_refl _) _).alloc (by simp) _
  have sx := (Str.new w 25 #[.int .i64 f, .slice va g.length vc]).alloc (.cells #[.int .i64 0, .slice none 0 0] 25)
  have sr := Str.new (w.alloc (.cells #[.int .i64 f, .slice va g.length vc] 25)) 25 #[.int .i64 0, .slice none 0 0]
  have hz0 : w.heap.size + 2 ≤ ((w.alloc (.cells #[.int .i64 f, .slice va g.length vc] 25)).alloc (.cells #[.int .i64 0, .slice none 0 0] 25)).heap.size := by simp
  simp only [World.size_alloc] at sr
  have SX := Lib.hid (show Str ((w.alloc (.cells #[.int .i64 f, .slice va g.length vc] 25)).alloc (.cells #[.int .i64 0, .slice none 0 0] 25)) (w.heap.size) 25 #[.int .i64 f, .slice va g.length vc] from sx)
  have SR := Lib.hid (show Str ((w.alloc (.cells #[.int .i64 f, .slice va g.length vc] 25)).alloc (.cells #[.int .i64 0, .slice none 0 0] 25)) (w.heap.size + 1) 25 #[.int .i64 0, .slice none 0 0] from sr)
  have Hg := Lib.hid hg
  have Hb := Lib.hid hb0
  clear sx sr hb0 hg
  go_enter Try.func20, Try.ntmps20
  have cX_0 := SX.out.cell 0 (v := .int .i64 f) rfl
  have cX_1 := SX.out.cell 1 (v := .slice va g.length vc) rfl
  go_wp2_with fail
  clear cX_0 cX_1
  generalize ((w.alloc (.cells #[.int .i64 f, .slice va g.length vc] 25)).alloc (.cells #[.int .i64 0, .slice none 0 0] 25)) = W0 at *
  refine (spec_VoterValid f g _ fp _ hbig (Hg.out.under Hb.out)).mono ?_
  rintro e w1 ⟨rfl, hb1⟩
  have SX := Lib.hid (show Str w1 (w.heap.size) 25 #[.int .i64 f, .slice va g.length vc] from (hb1.block _ SX.out.lt).trans SX.out)
  have SR := Lib.hid (show Str w1 (w.heap.size + 1) 25 #[.int .i64 0, .slice none 0 0] from (hb1.block _ SR.out.lt).trans SR.out)
  have hsz9 := hb1.size
  have Hb := Lib.hid (below_step Hb.out Hb.out.size hb1)
  clear hb1
  cases h1 : voterB f g with
  | false =>
    obtain ⟨z1, z2, z3⟩ := fg_no (f := f) (g := g) (n := n) (by unfold fgB; rw [h1]; rfl)
    have Z1 := Lib.hid z1; have Z2 := Lib.hid z2; have Z3 := Lib.hid z3; clear z1 z2 z3
    have cX_0 := SX.out.cell 0 (v := .int .i64 f) rfl
    have cX_1 := SX.out.cell 1 (v := .slice va g.length vc) rfl
    have cR_0 := SR.out.cell 0 (v := .int .i64 0) rfl
    have cR_1 := SR.out.cell 1 (v := .slice none 0 0) rfl
    have fR_0 := SR.out.frozen 0
    have fR_1 := SR.out.frozen 1
    have sF := (SR.out.set 0 (.int .i64 0)).set 1 (.slice none 0 0)
    have e0 := sF.cell 0 (v := .int .i64 0) rfl
    have e1 := sF.cell 1 (v := .slice none 0 0) rfl
    clear sF
    go_wp2
    refine bodyPost_ret (v := .tuple #[.agg #[.int .i64 0, .slice none 0 0], .bool false]) (by simp [results, Try.f20, go_sem, e0, e1]) rfl ?_
    rw [Z1.out, Z2.out, Z3.out]
    exact ⟨_, rfl, OwnR.nil ⟨rfl, .inl ⟨rfl, rfl⟩⟩ (fun g e => by cases e), (Hb.out.setCell (p := ⟨w.heap.size + 1, 0, none⟩) (by simp only; omega) _).setCell (p := ⟨w.heap.size + 1, 1, none⟩) (by simp only; omega) _⟩
  | true =>
  have cX_0 := SX.out.cell 0 (v := .int .i64 f) rfl
  have cX_1 := SX.out.cell 1 (v := .slice va g.length vc) rfl
  go_wp2_with fail
  clear cX_0 cX_1
  refine (spec_l6In n f 31 _).mono ?_
  rintro e w2 ⟨rfl, rfl⟩
  cases h2 : decide (f ≤ n ∧ n ≤ 31) with
  | false =>
    obtain ⟨z1, z2, z3⟩ := fg_no (f := f) (g := g) (n := n) (by unfold fgB; rw [h1, h2]; rfl)
    have Z1 := Lib.hid z1; have Z2 := Lib.hid z2; have Z3 := Lib.hid z3; clear z1 z2 z3
    have cX_0 := SX.out.cell 0 (v := .int .i64 f) rfl
    have cX_1 := SX.out.cell 1 (v := .slice va g.length vc) rfl
    have cR_0 := SR.out.cell 0 (v := .int .i64 0) rfl
    have cR_1 := SR.out.cell 1 (v := .slice none 0 0) rfl
    have fR_0 := SR.out.frozen 0
    have fR_1 := SR.out.frozen 1
    have sF := (SR.out.set 0 (.int .i64 0)).set 1 (.slice none 0 0)
    have e0 := sF.cell 0 (v := .int .i64 0) rfl
    have e1 := sF.cell 1 (v := .slice none 0 0) rfl
    clear sF
    go_wp2
    refine bodyPost_ret (v := .tuple #[.agg #[.int .i64 0, .slice none 0 0], .bool false]) (by simp [results, Try.f20, go_sem, e0, e1]) rfl ?_
    rw [Z1.out, Z2.out, Z3.out]
    exact ⟨_, rfl, OwnR.nil ⟨rfl, .inl ⟨rfl, rfl⟩⟩ (fun g e => by cases e), (Hb.out.setCell (p := ⟨w.heap.size + 1, 0, none⟩) (by simp only; omega) _).setCell (p := ⟨w.heap.size + 1, 1, none⟩) (by simp only; omega) _⟩
  | true =>
  obtain ⟨z1, z2, z3⟩ := fg_yes (f := f) (g := g) (n := n) (by unfold fgB; rw [h1, h2]; rfl)
  have Z1 := Lib.hid z1; have Z2 := Lib.hid z2; have Z3 := Lib.hid z3; clear z1 z2 z3
  have hgl := (voter_len h1).2.2
  have so : Str ((w1.alloc (.cells #[] 27)).alloc (.cells #[.int .i64 n, .slice (some ⟨w1.heap.size, 0, none⟩) 0 0] 25)) (w1.heap.size + 1) 25 #[.int .i64 n, .slice (some ⟨w1.heap.size, 0, none⟩) 0 0] := by have := Str.new (w1.alloc (.cells #[] 27)) 25 #[.int .i64 n, .slice (some ⟨w1.heap.size, 0, none⟩) 0 0]; simpa only [World.size_alloc] using this
  have ol : OwnV 27 ((w1.alloc (.cells #[] 27)).alloc (.cells #[.int .i64 n, .slice (some ⟨w1.heap.size, 0, none⟩) 0 0] 25)) (w1.heap.size) (.slice (some ⟨w1.heap.size, 0, none⟩) 0 0) [] := (OwnV.empty 27 w1).below ((Below.refl _ _).alloc (Nat.le_refl _) _)
  have sx := (SX.out.alloc (.cells #[] 27)).alloc (.cells #[.int .i64 n, .slice (some ⟨w1.heap.size, 0, none⟩) 0 0] 25)
  have sr := (SR.out.alloc (.cells #[] 27)).alloc (.cells #[.int .i64 n, .slice (some ⟨w1.heap.size, 0, none⟩) 0 0] 25)
  have hb : Below w.heap.size w ((w1.alloc (.cells #[] 27)).alloc (.cells #[.int .i64 n, .slice (some ⟨w1.heap.size, 0, none⟩) 0 0] 25)) := (Hb.out.alloc (by omega) (.cells #[] 27)).alloc (by simp only [World.size_alloc]; omega) (.cells #[.int .i64 n, .slice (some ⟨w1.heap.size, 0, none⟩) 0 0] 25)
  have hne : ∀ q, (Value.slice (some ⟨w1.heap.size, 0, none⟩) 0 0).ownBlock = some q → q ≠ w1.heap.size + 1 := fun q e => by have e' : some (w1.heap.size) = some q := e; have := Option.some.inj e'; omega
  have hw2 : w.heap.size + 2 ≤ w1.heap.size := by omega
  have Q1 := Lib.hid so; have Q2 := Lib.hid ol; have Q3 := Lib.hid sx; have Q4 := Lib.hid sr; have Q5 := Lib.hid hb; have Q6 := Lib.hid hne; clear so ol sx sr hb hne
  have cX_0 := SX.out.cell 0 (v := .int .i64 f) rfl
  have cX_1 := SX.out.cell 1 (v := .slice va g.length vc) rfl
  have cR_0 := SR.out.cell 0 (v := .int .i64 0) rfl
  have cR_1 := SR.out.cell 1 (v := .slice none 0 0) rfl
  have fR_0 := SR.out.frozen 0
  have fR_1 := SR.out.frozen 1
  go_wp2
  clear cX_0 cX_1 cR_0 cR_1 fR_0 fR_1
  go_loopw [7] (fun i wr => ∃ (k : Nat) (a : Option Addr) (cc : Nat), k ≤ g.length ∧ i = .int .i64 k ∧ Str wr (w.heap.size) 25 #[.int .i64 f, .slice va g.length vc] ∧ Str wr (w.heap.size + 1) 25 #[.int .i64 0, .slice none 0 0] ∧ Str wr (w1.heap.size + 1) 25 #[.int .i64 n, .slice a (forgetG n (g.take k)).length cc] ∧ OwnV 27 wr (w1.heap.size) (.slice a (forgetG n (g.take k)).length cc) (forgetG n (g.take k)) ∧ (∀ q, (Value.slice a (forgetG n (g.take k)).length cc).ownBlock = some q → q ≠ w1.heap.size + 1) ∧ Below w.heap.size w wr) (fun i _ => g.length - (intOf i).toNat)
  case atStart => exact ⟨0, _, _, by omega, rfl, Q3.out, Q4.out, Q1.out, Q2.out, Q6.out, Q5.out⟩
  case round =>
    obtain ⟨k, a, cc, hk, rfl, sx, sr, so, ol, hne, hb⟩ := hrel
    clear SX SR Hb Q1 Q2 Q3 Q4 Q5 Q6
    have SX := Lib.hid sx; have SR := Lib.hid sr; have SO := Lib.hid so; have OL := Lib.hid ol; have Hb := Lib.hid hb; have Hne := Lib.hid hne; clear sx sr so ol hb hne
    have hfl : (forgetG n (g.take k)).length ≤ 40 := Nat.le_trans (List.length_filter_le _ _) (by rw [List.length_take]; omega)
    have hst := fun h => fg_step n g k h
    have hfk : k = g.length → forgetG n (g.take k) = forgetG n g := fun e => by rw [e, List.take_length]
    have Hst := Lib.hid hst; have Hfk := Lib.hid hfk; clear hst hfk
    generalize hF : forgetG n (g.take k) = F at *
    have HF := Lib.hid hF; clear hF
    have hob := SO.out.lt
    by_cases hlt : k < g.length
    · skip
      obtain ⟨b, off, rfl, hbk, hat⟩ := Hg.out.at (by omega)
      obtain ⟨e0, e1, e2⟩ := hat k hlt
      have hst := Hst.out hlt
      generalize hx : g[k] = x at *
      obtain ⟨xr, xa, xd⟩ := x
      dsimp only at *
      clear hat hx
      have Hst := Lib.hid hst; clear hst
      have C0 := Lib.hid ((Hb.out.cell (p := ⟨b, off + k * 3, none⟩) hbk).trans e0)
      have C1 := Lib.hid ((Hb.out.cell (p := ⟨b, off + k * 3 + 1, none⟩) hbk).trans e1)
      have C2 := Lib.hid ((Hb.out.cell (p := ⟨b, off + k * 3 + 2, none⟩) hbk).trans e2)
      clear e0 e1 e2
      by_cases hr : n ≤ xr
      · skip
        have hrd : decide (n ≤ xr) = true := decide_eq_true hr
        have HR := Lib.hid hr
        have c0 := C0.out
        have cX_0 := SX.out.cell 0 (v := .int .i64 f) rfl
        have cX_1 := SX.out.cell 1 (v := .slice (some ⟨b, off, none⟩) g.length vc) rfl
        have cO_0 := SO.out.cell 0 (v := .int .i64 n) rfl
        have cO_1 := SO.out.cell 1 (v := .slice a F.length cc) rfl
        go_wp2_with fail
        clear cX_0 cX_1 cO_0 cO_1
        clear c0
        have hdr : Below wr.heap.size wr wr.drew := (Below.refl _ _).drew
        have SX := Lib.hid (show Str wr.drew (w.heap.size) 25 #[.int .i64 f, .slice (some ⟨b, off, none⟩) g.length vc] from SX.out)
        have SR := Lib.hid (show Str wr.drew (w.heap.size + 1) 25 #[.int .i64 0, .slice none 0 0] from SR.out)
        have SO := Lib.hid (show Str wr.drew (w1.heap.size + 1) 25 #[.int .i64 n, .slice a F.length cc] from SO.out)
        have OL := Lib.hid (show OwnV 27 wr.drew (w1.heap.size) ((Value.slice a F.length cc)) (F) from OL.out)
        have C0 := Lib.hid (show wr.drew.cell? ⟨b, off + k * 3, none⟩ = some (.int .i64 xr) from C0.out)
        have C1 := Lib.hid (show wr.drew.cell? ⟨b, off + k * 3 + 1, none⟩ = some (.int .i64 xa) from C1.out)
        have C2 := Lib.hid (show wr.drew.cell? ⟨b, off + k * 3 + 2, none⟩ = some (.int .i64 xd) from C2.out)
        have Hb := Lib.hid Hb.out.drew
        have hzwd : wr.heap.size ≤ wr.drew.heap.size := Nat.le_refl _
        clear hdr
        refine wp_region_L 10 (fun w' => w'.cell? ⟨w.heap.size, 0, none⟩ = some (.int .i64 f) ∧ w'.cell? ⟨w.heap.size, 1, none⟩ = some (.slice (some ⟨b, off, none⟩) g.length vc) ∧ w'.cell? ⟨w1.heap.size + 1, 0, none⟩ = some (.int .i64 n) ∧ w'.cell? ⟨w1.heap.size + 1, 1, none⟩ = some (.slice a F.length cc) ∧ w'.cell? ⟨b, off + k * 3, none⟩ = some (.int .i64 xr) ∧ w'.cell? ⟨b, off + k * 3 + 1, none⟩ = some (.int .i64 xa) ∧ w'.cell? ⟨b, off + k * 3 + 2, none⟩ = some (.int .i64 xd)) (by kernel_rfl) ⟨SX.out.cell 0 (v := .int .i64 f) rfl, SX.out.cell 1 (v := .slice (some ⟨b, off, none⟩) g.length vc) rfl, SO.out.cell 0 (v := .int .i64 n) rfl, SO.out.cell 1 (v := .slice a F.length cc) rfl, C0.out, C1.out, C2.out⟩ (fun hH => ?_)
        generalize wr.drew = wd at *
        refine takeL 0 (v := ?vt1) rfl (by kernel_rfl) (by kernel_rfl) (by kernel_rfl) (by kernel_rfl) (by kernel_rfl) (fun _ _ _ h => h) hH rfl ?yt1 ?rt1
        case yt1 => intro W hSw; go_simp; try with_reducible rfl
        try simp only [Act.put, List.setIfInBounds_toArray, List.set_cons_zero, List.set_cons_succ]
        refine takeL 1 (v := ?vt2) rfl (by kernel_rfl) (by kernel_rfl) (by kernel_rfl) (by kernel_rfl) (by kernel_rfl) (fun _ _ _ h => h) hH rfl ?yt2 ?rt2
        case yt2 => intro W hSw; go_simp; try with_reducible rfl
        try simp only [Act.put, List.setIfInBounds_toArray, List.set_cons_zero, List.set_cons_succ]
        refine takeL 2 (v := ?vt3) rfl (by kernel_rfl) (by kernel_rfl) (by kernel_rfl) (by kernel_rfl) (by kernel_rfl) (fun _ _ _ h => h) hH rfl ?yt3 ?rt3
        case yt3 => intro W hSw; go_simp; try with_reducible rfl
        try simp only [Act.put, List.setIfInBounds_toArray, List.set_cons_zero, List.set_cons_succ]
        refine takeL 3 (v := ?vt4) rfl (by kernel_rfl) (by kernel_rfl) (by kernel_rfl) (by kernel_rfl) (by kernel_rfl) (fun _ _ _ h => h) hH rfl ?yt4 ?rt4
        case yt4 => intro W hSw; go_simp; try with_reducible rfl
        try simp only [Act.put, List.setIfInBounds_toArray, List.set_cons_zero, List.set_cons_succ]
        refine takeL 4 (v := ?vt5) rfl (by kernel_rfl) (by kernel_rfl) (by kernel_rfl) (by kernel_rfl) (by kernel_rfl) (fun _ _ _ h => h) hH rfl ?yt5 ?rt5
        case yt5 => intro W hSw; go_simp; try with_reducible rfl
        try simp only [Act.put, List.setIfInBounds_toArray, List.set_cons_zero, List.set_cons_succ]
        refine takeL 5 (v := ?vt6) rfl (by kernel_rfl) (by kernel_rfl) (by kernel_rfl) (by kernel_rfl) (by kernel_rfl) (fun _ _ _ h => h) hH rfl ?yt6 ?rt6
        case yt6 => intro W hSw; go_simp; try with_reducible rfl
        try simp only [Act.put, List.setIfInBounds_toArray, List.set_cons_zero, List.set_cons_succ]
        refine takeL 6 (v := ?vt7) rfl (by kernel_rfl) (by kernel_rfl) (by kernel_rfl) (by kernel_rfl) (by kernel_rfl) (fun _ _ _ h => h) hH rfl ?yt7 ?rt7
        case yt7 => intro W hSw; go_simp; try with_reducible rfl
        try simp only [Act.put, List.setIfInBounds_toArray, List.set_cons_zero, List.set_cons_succ]
        refine callL 7 rfl (by kernel_rfl) rfl (fun K hK => ?_)
        go_simp
        have hal : Below wd.heap.size wd (wd.alloc (.cells #[.int .i64 xr, .int .i64 xa, .int .i64 xd] 27)) := (Below.refl _ _).alloc (Nat.le_refl _) _
        have sN := Str.new wd 27 #[.int .i64 xr, .int .i64 xa, .int .i64 xd]
        have hzn : wd.heap.size < (wd.alloc (.cells #[.int .i64 xr, .int .i64 xa, .int .i64 xd] 27)).heap.size := by simp
        have SX := Lib.hid (show Str (wd.alloc (.cells #[.int .i64 xr, .int .i64 xa, .int .i64 xd] 27)) (w.heap.size) 25 #[.int .i64 f, .slice (some ⟨b, off, none⟩) g.length vc] from (hal.block _ SX.out.lt).trans SX.out)
        have SR := Lib.hid (show Str (wd.alloc (.cells #[.int .i64 xr, .int .i64 xa, .int .i64 xd] 27)) (w.heap.size + 1) 25 #[.int .i64 0, .slice none 0 0] from (hal.block _ SR.out.lt).trans SR.out)
        have SO := Lib.hid (show Str (wd.alloc (.cells #[.int .i64 xr, .int .i64 xa, .int .i64 xd] 27)) (w1.heap.size + 1) 25 #[.int .i64 n, .slice a F.length cc] from (hal.block _ SO.out.lt).trans SO.out)
        have OL := Lib.hid (show OwnV 27 (wd.alloc (.cells #[.int .i64 xr, .int .i64 xa, .int .i64 xd] 27)) (w1.heap.size) ((Value.slice a F.length cc)) (F) from OL.out.below hal)
        have C0 := Lib.hid (show (wd.alloc (.cells #[.int .i64 xr, .int .i64 xa, .int .i64 xd] 27)).cell? ⟨b, off + k * 3, none⟩ = some (.int .i64 xr) from (hal.cell (p := ⟨b, off + k * 3, none⟩) (show b < _ from Nat.lt_of_lt_of_le hbk Hb.out.size)).trans C0.out)
        have C1 := Lib.hid (show (wd.alloc (.cells #[.int .i64 xr, .int .i64 xa, .int .i64 xd] 27)).cell? ⟨b, off + k * 3 + 1, none⟩ = some (.int .i64 xa) from (hal.cell (p := ⟨b, off + k * 3 + 1, none⟩) (show b < _ from Nat.lt_of_lt_of_le hbk Hb.out.size)).trans C1.out)
        have C2 := Lib.hid (show (wd.alloc (.cells #[.int .i64 xr, .int .i64 xa, .int .i64 xd] 27)).cell? ⟨b, off + k * 3 + 2, none⟩ = some (.int .i64 xd) from (hal.cell (p := ⟨b, off + k * 3 + 2, none⟩) (show b < _ from Nat.lt_of_lt_of_le hbk Hb.out.size)).trans C2.out)
        have hsz9 := hal.size
        have Hb := Lib.hid (below_step Hb.out Hb.out.size hal)
        have SP := Lib.hid sN; clear sN hal
        refine hK.out _ _ ⟨SX.out.cell 0 (v := .int .i64 f) rfl, SX.out.cell 1 (v := .slice (some ⟨b, off, none⟩) g.length vc) rfl, SO.out.cell 0 (v := .int .i64 n) rfl, SO.out.cell 1 (v := .slice a F.length cc) rfl, C0.out, C1.out, C2.out⟩ (fun hH => ?_)
        clear hK K
        try simp only [Act.put, List.setIfInBounds_toArray, List.set_cons_zero, List.set_cons_succ]
        generalize (wd.alloc (.cells #[.int .i64 xr, .int .i64 xa, .int .i64 xd] 27)) = wp at *
        generalize hPB : wd.heap.size = PB at *
        refine callL 8 rfl (by kernel_rfl) rfl (fun K hK => ?_)
        refine op_app_V (.tmp 38) (.tmp 44) rfl (w1.heap.size) _ F [(⟨xr, xa, xd⟩ : Vt)] (some ⟨PB, 0, none⟩) 1 rfl OL.out rfl (.inr ⟨_, rfl, srcV_one SP.out⟩) (by simp only [List.length_singleton]; omega) (by omega) (fun u wa ho9 hg9 hp9 => ?_)
        have hrow : ∀ q, (Value.slice a F.length cc).ownBlock = some q → w1.heap.size ≤ q ∧ q ≠ w1.heap.size + 1 := fun q e => ⟨(OL.out.lt q e).1, Hne.out q e⟩
        have hne : ∀ q, u.ownBlock = some q → q ≠ w1.heap.size + 1 := fun q e => by rcases hp9 q e with h | h; exact Hne.out q h; omega
        clear hp9 Hne
        have Hne := Lib.hid hne; clear hne
        have C0 := Lib.hid (show wa.cell? ⟨b, off + k * 3, none⟩ = some (.int .i64 xr) from hg9.cell C0.out (fun e => by have := (hrow _ e.symm).1; have := Hb.out.size; simp only at *; omega))
        have C1 := Lib.hid (show wa.cell? ⟨b, off + k * 3 + 1, none⟩ = some (.int .i64 xa) from hg9.cell C1.out (fun e => by have := (hrow _ e.symm).1; have := Hb.out.size; simp only at *; omega))
        have C2 := Lib.hid (show wa.cell? ⟨b, off + k * 3 + 2, none⟩ = some (.int .i64 xd) from hg9.cell C2.out (fun e => by have := (hrow _ e.symm).1; have := Hb.out.size; simp only at *; omega))
        have SX := Lib.hid (show Str wa (w.heap.size) 25 #[.int .i64 f, .slice (some ⟨b, off, none⟩) g.length vc] from SX.out.kept hg9 (fun e => by have := hrow _ e.symm; omega))
        have SR := Lib.hid (show Str wa (w.heap.size + 1) 25 #[.int .i64 0, .slice none 0 0] from SR.out.kept hg9 (fun e => by have := hrow _ e.symm; omega))
        have SO := Lib.hid (show Str wa (w1.heap.size + 1) 25 #[.int .i64 n, .slice a F.length cc] from SO.out.kept hg9 (fun e => by have := hrow _ e.symm; omega))
        have hsz9 := hg9.size
        have Hb := Lib.hid (Hb.out.grown hg9 Hb.out.size (fun q e => by have := hrow q e; omega))
        clear hrow hg9
        have hF2 : F ++ [(⟨xr, xa, xd⟩ : Vt)] = forgetG n (g.take (k + 1)) := by rw [Hst.out, if_pos HR.out]
        have HF2 := Lib.hid hF2; clear hF2
        have OL := Lib.hid (show OwnV 27 wa (w1.heap.size) u (F ++ [(⟨xr, xa, xd⟩ : Vt)]) from ho9)
        clear ho9
        generalize F ++ [(⟨xr, xa, xd⟩ : Vt)] = F2 at *
        obtain ⟨a2, c2, rfl⟩ := OL.out.slice
        refine hK.out _ _ ⟨SX.out.cell 0 (v := .int .i64 f) rfl, SX.out.cell 1 (v := .slice (some ⟨b, off, none⟩) g.length vc) rfl, SO.out.cell 0 (v := .int .i64 n) rfl, SO.out.cell 1 (v := .slice a F.length cc) rfl, C0.out, C1.out, C2.out⟩ (fun hH => ?_)
        clear hK K
        try simp only [Act.put, List.setIfInBounds_toArray, List.set_cons_zero, List.set_cons_succ]
        try simp only [Act.put]
        refine callL 9 rfl (by kernel_rfl) rfl (fun K hK => ?_)
        go_simp
        refine hK.out _ _ ⟨SX.out.cell 0 (v := .int .i64 f) rfl, SX.out.cell 1 (v := .slice (some ⟨b, off, none⟩) g.length vc) rfl, SO.out.cell 0 (v := .int .i64 n) rfl, SO.out.cell 1 (v := .slice a F.length cc) rfl, C0.out, C1.out, C2.out⟩ (fun hH => ?_)
        clear hK K
        try simp only [Act.put, List.setIfInBounds_toArray, List.set_cons_zero, List.set_cons_succ]
        have cO_0 := SO.out.cell 0 (v := .int .i64 n) rfl
        have cO_1 := SO.out.cell 1 (v := .slice a F.length cc) rfl
        have fO_0 := SO.out.frozen 0
        have fO_1 := SO.out.frozen 1
        refine lastL rfl (by kernel_rfl) (by kernel_rfl) (by kernel_rfl) rfl (fun K hK => ?_)
        go_simp
        refine hK.out _ _ ?_
        clear hK K hH
        try simp only [Act.put]
        clear cO_0 cO_1 fO_0 fO_1
        have so := SO.out.set 1 (.slice a2 F2.length c2)
        have ol : OwnV 27 (wa.setCell ⟨w1.heap.size + 1, 1, none⟩ (.slice a2 F2.length c2)) (w1.heap.size) (.slice a2 F2.length c2) F2 := OL.out.kept fun q e => set1 (OL.out.lt q e).2 (Hne.out q e)
        have sx := SX.out.other (B' := w1.heap.size + 1) (by omega) 1 (.slice a2 F2.length c2)
        have sr := SR.out.other (B' := w1.heap.size + 1) (by omega) 1 (.slice a2 F2.length c2)
        have hb := Hb.out.setCell (p := ⟨w1.heap.size + 1, 1, none⟩) (by simp only; omega) (.slice a2 F2.length c2)
        generalize (wa.setCell ⟨w1.heap.size + 1, 1, none⟩ (.slice a2 F2.length c2)) = wz at *
        skip
        have Q1 := Lib.hid so; have Q2 := Lib.hid ol; have Q3 := Lib.hid sx; have Q4 := Lib.hid sr; have Q5 := Lib.hid hb; clear so ol sx sr hb
        go_wp2
        go_roundw
        case rel => refine ⟨k + 1, a2, c2, by omega, by go_num, ?_⟩; rw [← HF2.out]; exact ⟨Q3.out, Q4.out, Q1.out, Q2.out, Hne.out, Q5.out⟩
        case measure => simp [intOf]; omega
      have hrd : decide (n ≤ xr) = false := decide_eq_false hr
      have HR := Lib.hid hr
      have c0 := C0.out
      have cX_0 := SX.out.cell 0 (v := .int .i64 f) rfl
      have cX_1 := SX.out.cell 1 (v := .slice (some ⟨b, off, none⟩) g.length vc) rfl
      have cO_0 := SO.out.cell 0 (v := .int .i64 n) rfl
      have cO_1 := SO.out.cell 1 (v := .slice a F.length cc) rfl
      go_wp2
      clear cX_0 cX_1 cO_0 cO_1
      go_roundw
      case rel => refine ⟨k + 1, a, cc, by omega, by go_num, ?_⟩; rw [Hst.out, if_neg HR.out, List.append_nil]; exact ⟨SX.out, SR.out, SO.out, OL.out, Hne.out, Hb.out⟩
      case measure => simp [intOf]; omega
    have hFe := Hfk.out (by omega)
    have HFe := Lib.hid hFe; clear hFe
    have cX_0 := SX.out.cell 0 (v := .int .i64 f) rfl
    have cX_1 := SX.out.cell 1 (v := .slice va g.length vc) rfl
    have cO_0 := SO.out.cell 0 (v := .int .i64 n) rfl
    have cO_1 := SO.out.cell 1 (v := .slice a F.length cc) rfl
    have cR_0 := SR.out.cell 0 (v := .int .i64 0) rfl
    have cR_1 := SR.out.cell 1 (v := .slice none 0 0) rfl
    have fR_0 := SR.out.frozen 0
    have fR_1 := SR.out.frozen 1
    have sF := (SR.out.set 0 (.int .i64 n)).set 1 (.slice a F.length cc)
    have e0 := sF.cell 0 (v := .int .i64 n) rfl
    have e1 := sF.cell 1 (v := .slice a F.length cc) rfl
    clear sF
    go_wp2
    refine bodyPost_ret (v := .tuple #[.agg #[.int .i64 n, .slice a F.length cc], .bool true]) (by simp [results, Try.f20, go_sem, e0, e1]) rfl ?_
    clear cX_0 cX_1 cO_0 cO_1 cR_0 cR_1 fR_0 fR_1
    have ol : OwnV 27 ((wr.setCell ⟨w.heap.size + 1, 0, none⟩ (.int .i64 n)).setCell ⟨w.heap.size + 1, 1, none⟩ (.slice a F.length cc)) (w1.heap.size) (.slice a F.length cc) F := OL.out.kept fun q e => set2 (OL.out.lt q e).2 (by have := (OL.out.lt q e).1; omega)
    rw [Z1.out, Z2.out, Z3.out, ← HFe.out]
    exact ⟨.slice a F.length cc, rfl, OwnR.from (ol.ownR (Nat.le_refl _)) (by omega), (Hb.out.setCell (p := ⟨w.heap.size + 1, 0, none⟩) (by simp only; omega) _).setCell (p := ⟨w.heap.size + 1, 1, none⟩) (by simp only; omega) _⟩

end Go.Proofs.Ytgpbogalknmcmaa

/- A range over a map of votes under way while votes are deleted from it; general steps over the kit's laws on ranges. -/
namespace Go.Proofs.Ytgpbogalknmcmaa
open Go.RowKit

theorem apart_nodup {g : List Vt} (h : ApartV g) : g.Nodup := List.Pairwise.imp (fun {a b} hab e => hab (by subst e; exact ⟨rfl, rfl⟩)) h

/-- A range over the map in block b is under way, its iterator in block r; the map holds gc, of what it held at first (gm) all that P' keeps; whatever of gc has come fulfils P; cnt are still to come. -/
def RangeF (P' P : Vt → Prop) (w : World) (b r N : Nat) (gm gc : List Vt) (cnt : Nat) : Prop :=
  (∀ v ∈ gc, VtI v) ∧ ApartV gc ∧ (∀ v ∈ gc, v ∈ gm) ∧ (∀ v ∈ gm, P' v → v ∈ gc) ∧ ∃ (D : DataW Unit) (left : Lit → Bool), w.ranges Try.prog 61 (plainElem Try.prog 3) b r N D left cnt ∧ ReadsV D gc ∧ ∀ v ∈ gc, left (plK v.r v.a) = false → P v
variable {P' P : Vt → Prop} {w w' : World} {b r N cnt : Nat} {gm gc : List Vt}
theorem RangeF.map (h : RangeF P' P w b r N gm gc cnt) : MapV w b gc := by
  obtain ⟨h1, h2, _, _, D, left, h, ⟨h3, h4, h5⟩, _⟩ := h
  exact ⟨h1, h2, D, ownsMap_tight h.owns (Nat.le_of_eq h3), h3, h4, h5⟩
theorem RangeF.left_eq (h : RangeF P' P w b r N gm gc cnt) : w.rangeLeft b r = cnt := by
  obtain ⟨_, _, _, _, D, left, h, _⟩ := h
  exact h.left_eq
theorem RangeF.lt (h : RangeF P' P w b r N gm gc cnt) : r < w.heap.size ∧ b < w.heap.size ∧ r ≠ b := by
  obtain ⟨_, _, _, _, D, left, h, _⟩ := h
  exact ⟨h.lt, h.owns.lt, h.ne⟩
theorem RangeF.kept {row : Option Nat} (h : RangeF P' P w b r N gm gc cnt) (hg : w.grownBy w' row) (hb : some b ≠ row) (hr : some r ≠ row) : RangeF P' P w' b r N gm gc cnt := by
  obtain ⟨h1, h2, h3, h4, D, left, h, h5⟩ := h
  exact ⟨h1, h2, h3, h4, D, left, h.kept hg hb hr, h5⟩
theorem RangeF.weaken {Q : Vt → Prop} (h : RangeF P' P w b r N gm gc cnt) (hq : ∀ v ∈ gc, P v → Q v) : RangeF P' Q w b r N gm gc cnt := by
  obtain ⟨h1, h2, h3, h4, D, left, h, h5, h6⟩ := h
  exact ⟨h1, h2, h3, h4, D, left, h, h5, fun v hv hl => hq v hv (h6 v hv hl)⟩
theorem RangeF.sub (h : RangeF P' P w b r N gm gc cnt) : (∀ v ∈ gc, v ∈ gm) ∧ (∀ v ∈ gm, P' v → v ∈ gc) := ⟨h.2.2.1, h.2.2.2.1⟩
set_option maxRecDepth 8000 in
theorem MapV.rangeF {g : List Vt} (P' P : Vt → Prop) (h : MapV w b g) :
    ∃ w', (Instr.range 57 (.map (some b))).run Try.prog w = .ok (.pointer (some ⟨w.heap.size, 0, none⟩)) w' ∧ RangeF P' P w' b w.heap.size g.length g g g.length ∧ w.grownBy w' none ∧ w'.heap.size = w.heap.size + 1 := by
  obtain ⟨h1, h2, D, h, h3, h4, h5⟩ := h
  obtain ⟨w', hrun, hr, hg, hs⟩ := h.range pl_law mapV_tm
  refine ⟨w', hrun, ⟨h1, h2, fun _ hv => hv, fun _ hv _ => hv, D, _, h3 ▸ hr, ⟨h3, h4, h5⟩, ?_⟩, hg, hs⟩
  intro v hv hl
  have := (h4 v.r v.a (h1 v hv).1 (h1 v hv).2.1).2 ⟨v, hv, rfl, rfl⟩
  rw [this] at hl
  cases hl
theorem plK_same {g : List Vt} (h1 : ∀ v ∈ g, VtI v) (h2 : ApartV g) {u v : Vt} (hu : u ∈ g) (hv : v ∈ g) : (plK v.r v.a).sameKey (plK u.r u.a) = true ↔ v = u := by
  constructor
  · intro hs'
    exact apart_eq h2 hu hv (pl_inj (h1 v hv).1 (h1 v hv).2.1 (h1 u hu).1 (h1 u hu).2.1 (WideAt.sameKey_eq hs'))
  · rintro rfl
    exact WideAt.sameKey_self (pl_law.key (pl_key (h1 v hv).1 (h1 v hv).2.1))
set_option maxRecDepth 8000 in
theorem wpList_nextF {ops : Array Oper} {rest : List Oper} {o : Oper} {a : Act} {Q : Exit → Act → World → Prop} (hgd : o.guard = none) (it : Operand) (hop : o.op = Op.next it false) (hit : a.eval it = .pointer (some ⟨r, 0, none⟩)) (h : RangeF P' P w b r N gm gc cnt)
    (hDone : (∀ v ∈ gc, P v) → wpList Try.prog ops Q rest (a.put o.dst (.tuple #[.bool false])) w)
    (hMore : ∀ u w' cnt', u ∈ gc → RangeF P' (fun v => v = u ∨ P v) w' b r N gm gc cnt' → cnt' < cnt → w.grownBy w' (some r) → w'.heap.size = w.heap.size → (Instr.entry (.pointer (some ⟨r, 0, none⟩))).run Try.prog w' = .ok (.tuple #[.agg #[.int .i64 u.r, .int .i64 u.a], .int .i64 u.d]) w' →
      wpList Try.prog ops Q rest (a.put o.dst (.tuple #[.bool true, .agg #[.int .i64 u.r, .int .i64 u.a], .int .i64 u.d])) w') : wpList Try.prog ops Q (o :: rest) a w := by
  obtain ⟨h1, h2, hs1, hs2, D, left, hr, ⟨h3, h4, h5⟩, hP⟩ := h
  refine wpList_next_ranges w hgd it hop 61 pl_law (plainElem Try.prog 3) (fun p : Int × Int => .agg #[.int .i64 p.1, .int .i64 p.2]) (Value.int .i64) (fun key kl hk => by obtain ⟨x, y, _, _, e, _⟩ := pl_inv hk; exact ⟨(x, y), e⟩) (fun v y hv => by obtain ⟨c, e, _⟩ := plainElem_int_inv mapV_int hv; exact ⟨c, e⟩)
    b r N D left cnt hit hr (fun h0 hl => hDone fun v hv => hP v hv (hl _)) (fun p c kl y w' cnt' hk hl hv hat hr' hlt hg hs hen => ?_)
  obtain ⟨pr, pa⟩ := p
  obtain ⟨r', a', hir, hia, e, rfl⟩ := pl_inv hk
  simp only [Value.agg.injEq, Array.mk.injEq, List.cons.injEq, Value.int.injEq, true_and, and_true] at e
  obtain ⟨rfl, rfl⟩ := e
  have hhas := Maps.has_true_of_atKey hat
  obtain ⟨u, hu, e1, e2⟩ := (h4 pr pa hir hia).1 hhas
  subst e1 e2
  have hd : c = u.d := by
    obtain ⟨c', e3, e4, _⟩ := plainElem_int_inv mapV_int hv
    simp only [Value.int.injEq, true_and] at e3
    subst e3
    have h6 := hat (.lit (.int .i64 0))
    rw [h5 u hu, e4] at h6
    simp only at h6
    injection h6 with h6
    injection h6 with _ h6
    exact h6.symm
  subst hd
  refine hMore u w' cnt' hu ⟨h1, h2, hs1, hs2, D, _, hr', ⟨h3, h4, h5⟩, ?_⟩ hlt hg hs hen
  intro v hv' hl'
  by_cases e : v = u
  · exact .inl e
  · have : (plK v.r v.a).sameKey (plK u.r u.a) = false := by
      cases h8 : (plK v.r v.a).sameKey (plK u.r u.a) with
      | false => rfl
      | true => exact absurd ((plK_same h1 h2 hu hv').1 h8) e
    rw [this] at hl'
    exact .inr (hP v hv' (by simpa using hl'))
set_option maxRecDepth 8000 in
/-- A vote that P' does not keep is deleted. -/
theorem wpList_deleteF {ops : Array Oper} {rest : List Oper} {o : Oper} {a : Act} {Q : Exit → Act → World → Prop} (hgd : o.guard = none) (m x : Operand) (hop : o.op = Op.call { callee := Callee.builtin Builtin.delete, args := #[m, x], argTypes := #[57, 61] })
    (hm : a.eval m = .map (some b)) {u : Vt} (hx : a.eval x = .agg #[.int .i64 u.r, .int .i64 u.a]) (hu : u ∈ gc) (hnP : ¬ P' u) (h : RangeF P' P w b r N gm gc cnt)
    (hK : ∀ w' cnt', RangeF P' (fun v => P v ∧ v ≠ u) w' b r N gm (gc.erase u) cnt' → cnt' ≤ cnt → w.grownBy w' (some b) → wpList Try.prog ops Q rest (a.put o.dst (.tuple #[])) w') : wpList Try.prog ops Q (o :: rest) a w := by
  obtain ⟨h1, h2, hs1, hs2, D, left, hr, ⟨h3, h4, h5⟩, hP⟩ := h
  have hnd := apart_nodup h2
  have htd := hr.owns.tidy pl_law
  have hhas := (h4 u.r u.a (h1 u hu).1 (h1 u hu).2.1).2 ⟨u, hu, rfl, rfl⟩
  have hmem : ∀ v, v ∈ gc.erase u ↔ v ≠ u ∧ v ∈ gc := fun v => hnd.mem_erase_iff
  refine wpList_delete_ranges w hgd m x 57 61 hop 3 pl_law mapV_tm _ b r N D left cnt hm hr _ _ hx (pl_key (h1 u hu).1 (h1 u hu).2.1) (fun w' cnt' hr' hle hturn => ?_)
  refine hK w' cnt' ⟨fun v hv => h1 v ((hmem v).1 hv).2, h2.sublist List.erase_sublist, fun v hv => hs1 v ((hmem v).1 hv).2, fun v hv hp => (hmem v).2 ⟨fun e => hnP (e ▸ hp), hs2 v hv hp⟩, _, _, hr', ⟨?_, ?_, ?_⟩, ?_⟩ hle hturn.grown
  · have hsz := Maps.size_del (k := plK u.r u.a) htd
    rw [hhas, if_pos rfl, h3] at hsz
    rw [List.length_erase_of_mem hu]
    omega
  · intro r' a' hir hia
    by_cases e : u.r = r' ∧ u.a = a'
    · obtain ⟨rfl, rfl⟩ := e
      rw [Maps.has_del_same]
      refine ⟨fun h => (by cases h), ?_⟩
      rintro ⟨v, hv, e1, e2⟩
      exact absurd (apart_eq h2 hu ((hmem v).1 hv).2 ⟨e1, e2⟩) ((hmem v).1 hv).1
    · rw [Maps.has_del_other (fun hk => e (pl_inj (h1 u hu).1 (h1 u hu).2.1 hir hia hk.symm)), h4 r' a' hir hia]
      exact ⟨fun ⟨v, hv, h⟩ => ⟨v, (hmem v).2 ⟨fun e' => e (e' ▸ h), hv⟩, h⟩, fun ⟨v, hv, h⟩ => ⟨v, ((hmem v).1 hv).2, h⟩⟩
  · intro v hv zd
    have hv' := (hmem v).1 hv
    rw [Maps.atKey_del_other (fun hk => hv'.1 (apart_eq h2 hu hv'.2 (pl_inj (h1 v hv'.2).1 (h1 v hv'.2).2.1 (h1 u hu).1 (h1 u hu).2.1 hk)))]
    exact h5 v hv'.2 zd
  · intro v hv hl
    have hv' := (hmem v).1 hv
    have : (plK v.r v.a).sameKey (plK u.r u.a) = false := by
      cases h8 : (plK v.r v.a).sameKey (plK u.r u.a) with
      | false => rfl
      | true => exact absurd ((plK_same h1 h2 hu hv'.2).1 h8) hv'.1
    rw [this] at hl
    exact ⟨hP v hv'.2 (by simpa using hl), hv'.1⟩

end Go.Proofs.Ytgpbogalknmcmaa

/- Deleting from a map of votes those of elder rounds, by a walk of maps.DeleteFunc's text and of the test's; no conditions. -/
namespace Go.Proofs.Ytgpbogalknmcmaa
open Go.RowKit

def KeepN (n : Int) : Vt → Prop := fun v => n ≤ v.r

set_option maxRecDepth 8000 in
theorem forget_test (ur ua ud n : Int) (Bn : Nat) (w : World) (hn : Str w Bn 3 #[.int .i64 n]) :
    Calls Try.prog 42 #[.agg #[.int .i64 ur, .int .i64 ua], .int .i64 ud, .pointer (some ⟨Bn, 0, none⟩)] w fun e w' => e = .returned (.bool (decide (ur < n))) ∧ Below w.heap.size w w' := by
  have hal : Below w.heap.size w (w.alloc (.cells #[.int .i64 ur, .int .i64 ua] 61)) := (Below.refl _ _).alloc (Nat.le_refl _) _
  have sP := Str.new w 61 #[.int .i64 ur, .int .i64 ua]
  have p0 := sP.cell 0 (v := .int .i64 ur) rfl
  have p1 := sP.cell 1 (v := .int .i64 ua) rfl
  have n0 := (hn.alloc (.cells #[.int .i64 ur, .int .i64 ua] 61)).cell 0 (v := .int .i64 n) rfl
  have Hal := Lib.hid hal
  clear sP hal hn
  go_enter Try.func42, Try.ntmps42
  go_wp2
  go_ret
  exact ⟨rfl, Hal.out⟩

set_option maxHeartbeats 4000000 in
set_option maxRecDepth 8000 in
theorem votes_forget (b Bn : Nat) (n : Int) (gm : List Vt) (w : World) (hm : MapV w b gm) (hn : Str w Bn 3 #[.int .i64 n]) (hne : Bn ≠ b) :
    Calls Try.prog 41 #[.map (some b), .func (.func 42) #[] #[.pointer (some ⟨Bn, 0, none⟩)]] w fun e w' => e = .returned (.tuple #[]) ∧ ∃ gc, MapV w' b gc ∧ (∀ v, v ∈ gc ↔ v ∈ gm ∧ n ≤ v.r) ∧ gc.length ≤ gm.length ∧ w.grownBy w' (some b) := by
  obtain ⟨w2, hrun, hR2, hg2, hs2⟩ := hm.rangeF (KeepN n) (KeepN n)
  have hbn := hn.lt
  have Hn2 := Lib.hid (hn.kept hg2 (by simp))
  have HR2 := Lib.hid hR2
  have Hg2 := Lib.hid (hg2.but (some b))
  have Hne := Lib.hid hne
  clear hR2 hg2 hm hn hne
  go_enter Try.func41, Try.ntmps41
  go_wp2_with fail
  go_loopw [5] (fun _ wr => ∃ gc cnt, RangeF (KeepN n) (KeepN n) wr b w.heap.size gm.length gm gc cnt ∧ gc.length ≤ gm.length ∧ Str wr Bn 3 #[.int .i64 n] ∧ w.grownBy wr (some b)) (fun _ wr => wr.rangeLeft b w.heap.size)
  case atStart => exact ⟨gm, _, HR2.out, Nat.le_refl _, Hn2.out, Hg2.out⟩
  case round =>
    obtain ⟨gc, cnt, hR, hgl, hn, hgw⟩ := hrel
    have HR := Lib.hid hR
    have Hgl := Lib.hid hgl
    have Hn := Lib.hid hn
    have Hgw := Lib.hid hgw
    clear hgl hn hgw HR2 Hg2 Hn2 hrun hs2
    go_wp2_with (first
      | (at_next; refine wpList_nextF rfl _ rfl rfl hR ?_ ?_)
      | go_in)
    · intro hall
      clear hR
      have hsub := HR.out.sub
      go_wp2
      go_end0
      exact ⟨rfl, gc, HR.out.map, fun v => ⟨fun hv => ⟨hsub.1 v hv, hall v hv⟩, fun hv => hsub.2 v hv.1 hv.2⟩, Hgl.out, Hgw.out⟩
    · intro u w3 cnt3 hu hR3 hlt hg3 hs3 hen
      have hleft : wr.rangeLeft b w.heap.size = cnt := hR.left_eq
      have hal : Below w3.heap.size w3 (w3.alloc (.cells #[.int .i64 u.r, .int .i64 u.a] 61)) := (Below.refl _ _).alloc (Nat.le_refl _) _
      have sP := Str.new w3 61 #[.int .i64 u.r, .int .i64 u.a]
      have Hlt := Lib.hid hlt
      have hlt0 := hR.lt
      have HR := Lib.hid (hR3.kept (below_grown hal) (by simp) (by simp))
      have Hn := Lib.hid ((Hn.out.kept hg3 (by simp; omega)).alloc (.cells #[.int .i64 u.r, .int .i64 u.a] 61))
      have Hgw := Lib.hid ((Hgw.out.andThen hg3 (fun j hj => by cases hj; exact Or.inl (Nat.le_refl _))).andThen (below_grown hal) (fun j hj => by cases hj))
      have Hu := Lib.hid hu
      have HP := Lib.hid (hs3 ▸ sP)
      have p0 := sP.cell 0 (v := .int .i64 u.r) rfl
      have p1 := sP.cell 1 (v := .int .i64 u.a) rfl
      clear sP hal hR hR3 hg3 hu hlt
      go_wp2_with fail
      clear p0 p1 hen
      generalize hw4 : w3.alloc (.cells #[.int .i64 u.r, .int .i64 u.a] 61) = w4 at *
      refine (forget_test u.r u.a u.d n Bn w4 Hn.out).mono ?_
      rintro e w5 ⟨rfl, hb5⟩
      have HR := Lib.hid (HR.out.kept (below_grown hb5) (by simp) (by simp))
      have Hn := Lib.hid (Hn.out.kept (below_grown hb5) (by simp))
      have Hgw := Lib.hid (Hgw.out.andThen (below_grown hb5) (fun j hj => by cases hj))
      have HP := Lib.hid (HP.out.kept (below_grown hb5) (by simp))
      have p0 := HP.out.cell 0 (v := .int .i64 u.r) rfl
      have p1 := HP.out.cell 1 (v := .int .i64 u.a) rfl
      clear hb5
      cases hun : decide (u.r < n) with
      | true =>
        have hnk : ¬ KeepN n u := by simp only [decide_eq_true_eq] at hun; unfold KeepN; omega
        clear hun
        go_wp2_with (first
          | (at_delete; refine wpList_deleteF rfl _ _ rfl rfl (u := u) rfl Hu.out hnk HR.out ?_; intro w6 cnt6 hR6 hle6 hg6; go_frame)
          | go_in)
        clear p0 p1
        go_roundw
        case rel => exact ⟨gc.erase u, cnt6, hR6.weaken (fun v _ hv => by rcases hv with ⟨h | h, h'⟩; exact absurd h h'; exact h), Nat.le_trans List.length_erase_le Hgl.out, Hn.out.kept hg6 (by simpa using Hne.out), Hgw.out.andThen hg6 (fun j hj => by cases hj; exact Or.inr rfl)⟩
        case measure => rw [hR6.left_eq, hleft]; have := Hlt.out; omega
      | false =>
        have hnk : KeepN n u := by simp only [decide_eq_false_iff_not] at hun; unfold KeepN; omega
        clear hun
        go_wp2
        clear p0 p1
        go_roundw
        case rel => exact ⟨gc, cnt3, HR.out.weaken (fun v _ hv => by rcases hv with h | h; exact h ▸ hnk; exact h), Hgl.out, Hn.out, Hgw.out⟩
        case measure => rw [HR.out.left_eq, hleft]; exact Hlt.out

end Go.Proofs.Ytgpbogalknmcmaa

/- impl.VoterForget, by a walk of its text; condition: the list is shorter than 2^40. -/
namespace Go.Proofs.Ytgpbogalknmcmaa
open Go.RowKit

set_option maxHeartbeats 8000000 in
set_option maxRecDepth 8000 in
theorem impl_VoterForget (f : Int) (g : List Vt) (v : Value) (fp : List Nat) (n : Int) (w : World) (hbig : g.length ≤ 1099511627776) (hg : Vts w g v fp) :
    Calls Try.prog 19 #[.agg #[.int .i64 f, v], .int .i64 n] w fun e w' => ∃ vv, e = .returned (.tuple #[.agg #[.int .i64 (fgF f g n), vv], .bool (fgB f g n)]) ∧ OwnR 27 3 3 w' w.heap.size w'.heap.size vv ((fgG f g n).map Vt.fd) ∧ Below w.heap.size w w' := by
  obtain ⟨va, vc, rfl⟩ := hg.slice
  have hmf : ∀ (fn : Fn) (first cap : Array Value) (w : World), (Instr.makeFunc fn first cap).run Try.prog w = .ok (.func fn first cap) w := fun _ _ _ _ => rfl
  have hb0 : Below w.heap.size w (((w.alloc (.cells #[.int .i64 f, .slice va g.length vc] 25)).alloc (.cells #[.int .i64 n] 3)).alloc (.cells #[.int .i64 0, .slice none 0 0] 25)) := (((Below.refl _ _).alloc (Nat.le_refl _) _).alloc (by simp) _).alloc (by simp; omega) _
  have sx := ((Str.new w 25 #[.int .i64 f, .slice va g.length vc]).alloc (.cells #[.int .i64 n] 3)).alloc (.cells #[.int .i64 0, .slice none 0 0] 25)
  have sv := (Str.new (w.alloc (.cells #[.int .i64 f, .slice va g.length vc] 25)) 3 #[.int .i64 n]).alloc (.cells #[.int .i64 0, .slice none 0 0] 25)
  have sr := Str.new ((w.alloc (.cells #[.int .i64 f, .slice va g.length vc] 25)).alloc (.cells #[.int .i64 n] 3)) 25 #[.int .i64 0, .slice none 0 0]
  have hz0 : (((w.alloc (.cells #[.int .i64 f, .slice va g.length vc] 25)).alloc (.cells #[.int .i64 n] 3)).alloc (.cells #[.int .i64 0, .slice none 0 0] 25)).heap.size = w.heap.size + 3 := by simp
  simp only [World.size_alloc] at sv sr
  have SX := Lib.hid (show Str (((w.alloc (.cells #[.int .i64 f, .slice va g.length vc] 25)).alloc (.cells #[.int .i64 n] 3)).alloc (.cells #[.int .i64 0, .slice none 0 0] 25)) (w.heap.size) 25 #[.int .i64 f, .slice va g.length vc] from sx)
  have SN := Lib.hid (show Str (((w.alloc (.cells #[.int .i64 f, .slice va g.length vc] 25)).alloc (.cells #[.int .i64 n] 3)).alloc (.cells #[.int .i64 0, .slice none 0 0] 25)) (w.heap.size + 1) 3 #[.int .i64 n] from sv)
  have SR := Lib.hid (show Str (((w.alloc (.cells #[.int .i64 f, .slice va g.length vc] 25)).alloc (.cells #[.int .i64 n] 3)).alloc (.cells #[.int .i64 0, .slice none 0 0] 25)) (w.heap.size + 2) 25 #[.int .i64 0, .slice none 0 0] from sr)
  have Hg := Lib.hid (hg.under hb0)
  have Hb := Lib.hid hb0
  clear sx sv sr hb0 hg
  go_enter Try.func19, Try.ntmps19
  have cX_0 := SX.out.cell 0 (v := .int .i64 f) rfl
  have cX_1 := SX.out.cell 1 (v := .slice va g.length vc) rfl
  have cN_0 := SN.out.cell 0 (v := .int .i64 n) rfl
  go_wp2_with fail
  generalize (((w.alloc (.cells #[.int .i64 f, .slice va g.length vc] 25)).alloc (.cells #[.int .i64 n] 3)).alloc (.cells #[.int .i64 0, .slice none 0 0] 25)) = W0 at *
  refine (impl_VoterValid f g _ fp _ hbig Hg.out).mono ?_
  rintro e w1 ⟨rfl, hb1⟩
  clear cX_0 cX_1 cN_0
  have SX := Lib.hid (show Str w1 (w.heap.size) 25 #[.int .i64 f, .slice va g.length vc] from (hb1.block _ SX.out.lt).trans SX.out)
  have SN := Lib.hid (show Str w1 (w.heap.size + 1) 3 #[.int .i64 n] from (hb1.block _ SN.out.lt).trans SN.out)
  have SR := Lib.hid (show Str w1 (w.heap.size + 2) 25 #[.int .i64 0, .slice none 0 0] from (hb1.block _ SR.out.lt).trans SR.out)
  have Hg := Lib.hid (Hg.out.under hb1)
  have hsw1 := hb1.size
  have Hb := Lib.hid (below_step Hb.out Hb.out.size hb1)
  clear hb1
  cases h1 : voterB f g with
  | false =>
    obtain ⟨z1, z2, z3⟩ := fg_no (f := f) (g := g) (n := n) (by unfold fgB; rw [h1]; rfl)
    have Z1 := Lib.hid z1; have Z2 := Lib.hid z2; have Z3 := Lib.hid z3; clear z1 z2 z3
    have cX_0 := SX.out.cell 0 (v := .int .i64 f) rfl
    have cX_1 := SX.out.cell 1 (v := .slice va g.length vc) rfl
    have cN_0 := SN.out.cell 0 (v := .int .i64 n) rfl
    have cR_0 := SR.out.cell 0 (v := .int .i64 0) rfl
    have cR_1 := SR.out.cell 1 (v := .slice none 0 0) rfl
    have fR_0 := SR.out.frozen 0
    have fR_1 := SR.out.frozen 1
    have sF := (SR.out.set 0 (.int .i64 0)).set 1 (.slice none 0 0)
    have e0 := sF.cell 0 (v := .int .i64 0) rfl
    have e1 := sF.cell 1 (v := .slice none 0 0) rfl
    clear sF
    go_wp2
    refine bodyPost_ret (v := .tuple #[.agg #[.int .i64 0, .slice none 0 0], .bool false]) (by simp [results, Try.f19, go_sem, e0, e1]) rfl ?_
    rw [Z1.out, Z2.out, Z3.out]
    exact ⟨_, rfl, OwnR.nil ⟨rfl, .inl ⟨rfl, rfl⟩⟩ (fun g e => by cases e), (Hb.out.setCell (p := ⟨w.heap.size + 2, 0, none⟩) (by simp only; omega) _).setCell (p := ⟨w.heap.size + 2, 1, none⟩) (by simp only; omega) _⟩
  | true =>
  have HF := Lib.hid (fun W => vt_isFloor n W)
  by_cases hq0 : 0 ≤ n ∧ n ≤ 31
  case neg =>
    rw [decide_eq_false hq0] at HF
    have cX_0 := SX.out.cell 0 (v := .int .i64 f) rfl
    have cX_1 := SX.out.cell 1 (v := .slice va g.length vc) rfl
    have cN_0 := SN.out.cell 0 (v := .int .i64 n) rfl
    go_wp2_with fail
    refine (HF.out _).mono ?_
    rintro e w2 ⟨rfl, rfl⟩
    clear cX_0 cX_1 cN_0
    obtain ⟨z1, z2, z3⟩ := fg_no (f := f) (g := g) (n := n) (by have hvl := voter_len h1; unfold fgB; rw [h1, decide_eq_false (by omega)]; rfl)
    have Z1 := Lib.hid z1; have Z2 := Lib.hid z2; have Z3 := Lib.hid z3; clear z1 z2 z3
    have cX_0 := SX.out.cell 0 (v := .int .i64 f) rfl
    have cX_1 := SX.out.cell 1 (v := .slice va g.length vc) rfl
    have cN_0 := SN.out.cell 0 (v := .int .i64 n) rfl
    have cR_0 := SR.out.cell 0 (v := .int .i64 0) rfl
    have cR_1 := SR.out.cell 1 (v := .slice none 0 0) rfl
    have fR_0 := SR.out.frozen 0
    have fR_1 := SR.out.frozen 1
    have sF := (SR.out.set 0 (.int .i64 0)).set 1 (.slice none 0 0)
    have e0 := sF.cell 0 (v := .int .i64 0) rfl
    have e1 := sF.cell 1 (v := .slice none 0 0) rfl
    clear sF
    go_wp2
    refine bodyPost_ret (v := .tuple #[.agg #[.int .i64 0, .slice none 0 0], .bool false]) (by simp [results, Try.f19, go_sem, e0, e1]) rfl ?_
    rw [Z1.out, Z2.out, Z3.out]
    exact ⟨_, rfl, OwnR.nil ⟨rfl, .inl ⟨rfl, rfl⟩⟩ (fun g e => by cases e), (Hb.out.setCell (p := ⟨w.heap.size + 2, 0, none⟩) (by simp only; omega) _).setCell (p := ⟨w.heap.size + 2, 1, none⟩) (by simp only; omega) _⟩
  rw [decide_eq_true hq0] at HF
  obtain ⟨hq2, hq3⟩ := hq0
  have cX_0 := SX.out.cell 0 (v := .int .i64 f) rfl
  have cX_1 := SX.out.cell 1 (v := .slice va g.length vc) rfl
  have cN_0 := SN.out.cell 0 (v := .int .i64 n) rfl
  go_wp2_with fail
  refine (HF.out _).mono ?_
  rintro e w2 ⟨rfl, rfl⟩
  clear cX_0 cX_1 cN_0
  by_cases hq1 : n < f
  case pos =>
    obtain ⟨z1, z2, z3⟩ := fg_no (f := f) (g := g) (n := n) (by unfold fgB; rw [h1, decide_eq_false (by omega)]; rfl)
    have Z1 := Lib.hid z1; have Z2 := Lib.hid z2; have Z3 := Lib.hid z3; clear z1 z2 z3
    have cX_0 := SX.out.cell 0 (v := .int .i64 f) rfl
    have cX_1 := SX.out.cell 1 (v := .slice va g.length vc) rfl
    have cN_0 := SN.out.cell 0 (v := .int .i64 n) rfl
    have cR_0 := SR.out.cell 0 (v := .int .i64 0) rfl
    have cR_1 := SR.out.cell 1 (v := .slice none 0 0) rfl
    have fR_0 := SR.out.frozen 0
    have fR_1 := SR.out.frozen 1
    have sF := (SR.out.set 0 (.int .i64 0)).set 1 (.slice none 0 0)
    have e0 := sF.cell 0 (v := .int .i64 0) rfl
    have e1 := sF.cell 1 (v := .slice none 0 0) rfl
    clear sF
    go_wp2
    refine bodyPost_ret (v := .tuple #[.agg #[.int .i64 0, .slice none 0 0], .bool false]) (by simp [results, Try.f19, go_sem, e0, e1]) rfl ?_
    rw [Z1.out, Z2.out, Z3.out]
    exact ⟨_, rfl, OwnR.nil ⟨rfl, .inl ⟨rfl, rfl⟩⟩ (fun g e => by cases e), (Hb.out.setCell (p := ⟨w.heap.size + 2, 0, none⟩) (by simp only; omega) _).setCell (p := ⟨w.heap.size + 2, 1, none⟩) (by simp only; omega) _⟩
  obtain ⟨z1, z2, z3⟩ := fg_yes (f := f) (g := g) (n := n) (by unfold fgB; rw [h1, decide_eq_true (by omega)]; rfl)
  obtain ⟨hl0, hl1, hl2⟩ := voter_len h1
  have hvn := voter_forget h1 (f' := n) (by omega)
  have Hvn := Lib.hid hvn
  have Z1 := Lib.hid z1; have Z2 := Lib.hid z2; have Z3 := Lib.hid z3; clear z1 z2 z3 hvn
  have H1 := Lib.hid h1
  have cX_0 := SX.out.cell 0 (v := .int .i64 f) rfl
  have cX_1 := SX.out.cell 1 (v := .slice va g.length vc) rfl
  have cN_0 := SN.out.cell 0 (v := .int .i64 n) rfl
  go_wp2_with fail
  refine (impl_votesOf g _ fp _ hbig (voter_I H1.out) (voter_apart H1.out) Hg.out).mono ?_
  rintro e w3 ⟨b, rfl, hbb, hM, hb3⟩
  clear cX_0 cX_1 cN_0
  have HM := Lib.hid hM; clear hM
  have SX := Lib.hid (show Str w3 (w.heap.size) 25 #[.int .i64 f, .slice va g.length vc] from (hb3.block _ SX.out.lt).trans SX.out)
  have SN := Lib.hid (show Str w3 (w.heap.size + 1) 3 #[.int .i64 n] from (hb3.block _ SN.out.lt).trans SN.out)
  have SR := Lib.hid (show Str w3 (w.heap.size + 2) 25 #[.int .i64 0, .slice none 0 0] from (hb3.block _ SR.out.lt).trans SR.out)
  have Hg := Lib.hid (Hg.out.under hb3)
  have hsw3 := hb3.size
  have Hb := Lib.hid (below_step Hb.out Hb.out.size hb3)
  clear hb3 h1
  clear Hg
  have cN_0 := SN.out.cell 0 (v := .int .i64 n) rfl
  go_wp2_with fail
  refine (votes_forget b (w.heap.size + 1) n g.reverse _ HM.out SN.out (by omega)).mono ?_
  rintro e wm ⟨rfl, gc, hMm, hmem, hgl, hgm⟩
  clear cN_0
  have SX := Lib.hid (show Str wm (w.heap.size) 25 #[.int .i64 f, .slice va g.length vc] from SX.out.kept hgm (by simp; omega))
  have SN := Lib.hid (show Str wm (w.heap.size + 1) 3 #[.int .i64 n] from SN.out.kept hgm (by simp; omega))
  have SR := Lib.hid (show Str wm (w.heap.size + 2) 25 #[.int .i64 0, .slice none 0 0] from SR.out.kept hgm (by simp; omega))
  have HM := Lib.hid hMm
  have Hmem := Lib.hid hmem
  rw [List.length_reverse] at hgl
  have hgl2 : gc.length ≤ 1048576 := by omega
  have Hgl := Lib.hid hgl2
  have Hb := Lib.hid (Hb.out.grown hgm Hb.out.size (fun q e => by cases e; omega))
  have hsm := hgm.size
  clear hMm hgm hmem hgl hgl2
  have cN_0 := SN.out.cell 0 (v := .int .i64 n) rfl
  go_wp2_with fail
  clear cN_0
  have SX := Lib.hid (show Str wm.drew (w.heap.size) 25 #[.int .i64 f, .slice va g.length vc] from SX.out)
  have SN := Lib.hid (show Str wm.drew (w.heap.size + 1) 3 #[.int .i64 n] from SN.out)
  have SR := Lib.hid (show Str wm.drew (w.heap.size + 2) 25 #[.int .i64 0, .slice none 0 0] from SR.out)
  have HM := Lib.hid (show MapV wm.drew b (gc) from HM.out.drew)
  have Hb := Lib.hid Hb.out.drew
  have hzwd : wm.drew.heap.size = wm.heap.size := rfl
  refine wp_region_L 5 (fun w' => w'.cell? ⟨w.heap.size + 1, 0, none⟩ = some (.int .i64 n)) (by kernel_rfl) (SN.out.cell 0 (v := .int .i64 n) rfl) (fun hH => ?_)
  generalize wm.drew = wd at *
  refine takeL 0 (v := ?vt1) rfl (by kernel_rfl) (by kernel_rfl) (by kernel_rfl) (by kernel_rfl) (by kernel_rfl) (fun _ _ _ h => h) hH rfl ?yt1 ?rt1
  case yt1 => intro W hSw; go_simp; try with_reducible rfl
  try simp only [Act.put, List.setIfInBounds_toArray, List.set_cons_zero, List.set_cons_succ]
  refine takeL 1 (v := ?vt2) rfl (by kernel_rfl) (by kernel_rfl) (by kernel_rfl) (by kernel_rfl) (by kernel_rfl) (fun _ _ _ h => h) hH rfl ?yt2 ?rt2
  case yt2 => intro W hSw; go_simp; try with_reducible rfl
  try simp only [Act.put, List.setIfInBounds_toArray, List.set_cons_zero, List.set_cons_succ]
  refine callL 2 rfl (by kernel_rfl) rfl (fun K hK => ?_)
  go_simp
  go_at_call 35
  refine (votes_list b (gc) _ Hgl.out HM.out).mono ?_
  rintro e w6 ⟨vl, G, rfl, hG1, hG2, hoG, hb6⟩
  obtain ⟨al, cl, rfl, _⟩ := hoG.slice
  rw [List.length_map] at *
  have SX := Lib.hid (show Str w6 (w.heap.size) 25 #[.int .i64 f, .slice va g.length vc] from (hb6.block _ SX.out.lt).trans SX.out)
  have SN := Lib.hid (show Str w6 (w.heap.size + 1) 3 #[.int .i64 n] from (hb6.block _ SN.out.lt).trans SN.out)
  have SR := Lib.hid (show Str w6 (w.heap.size + 2) 25 #[.int .i64 0, .slice none 0 0] from (hb6.block _ SR.out.lt).trans SR.out)
  have HM := Lib.hid (show MapV w6 b (gc) from HM.out.kept (below_grown hb6) (by simp))
  have hsw6 := hb6.size
  have Hb := Lib.hid (below_step Hb.out Hb.out.size hb6)
  have hGe : G = forgetG n g := sorted_ext _ _ hG1 (voter_sorted Hvn.out) (fun x => by rw [hG2 x, Hmem.out x]; unfold forgetG; simp)
  subst hGe
  have Ho := Lib.hid hoG; clear hoG hG1 hG2 hb6
  generalize hgs : forgetG n g = G at *
  clear hgs
  refine hK.out _ _ (SN.out.cell 0 (v := .int .i64 n) rfl) (fun hH => ?_)
  clear hK K
  try simp only [Act.put, List.setIfInBounds_toArray, List.set_cons_zero, List.set_cons_succ]
  refine takeL 3 (v := ?vt3) rfl (by kernel_rfl) (by kernel_rfl) (by kernel_rfl) (by kernel_rfl) (by kernel_rfl) (fun _ _ _ h => h) hH rfl ?yt3 ?rt3
  case yt3 => intro W hSw; go_simp; try with_reducible rfl
  try simp only [Act.put, List.setIfInBounds_toArray, List.set_cons_zero, List.set_cons_succ]
  have cR_0 := SR.out.cell 0 (v := .int .i64 0) rfl
  have cR_1 := SR.out.cell 1 (v := .slice none 0 0) rfl
  have fR_0 := SR.out.frozen 0
  have fR_1 := SR.out.frozen 1
  refine callL 4 rfl (by kernel_rfl) rfl (fun K hK => ?_)
  go_simp
  clear cR_0 cR_1 fR_0 fR_1
  have sF := (SR.out.set 0 (.int .i64 n)).set 1 (.slice al G.length cl)
  have SN := Lib.hid (show Str ((w6.setCell ⟨w.heap.size + 2, 0, none⟩ (.int .i64 n)).setCell ⟨w.heap.size + 2, 1, none⟩ (.slice al G.length cl)) (w.heap.size + 1) 3 #[.int .i64 n] from (SN.out.other (by omega) _ _).other (by omega) _ _)
  have hz8 : ((w6.setCell ⟨w.heap.size + 2, 0, none⟩ (.int .i64 n)).setCell ⟨w.heap.size + 2, 1, none⟩ (.slice al G.length cl)).heap.size = w6.heap.size := by simp
  have Ho := Lib.hid (ownR_set (g' := w.heap.size + 2) (ownR_set (g' := w.heap.size + 2) Ho.out (Nat.le_refl _) (by omega) 0 (.int .i64 n)) (by simp) (by omega) 1 (.slice al G.length cl))
  have Hb := Lib.hid ((Hb.out.setCell (p := ⟨w.heap.size + 2, 0, none⟩) (by simp only; omega) (.int .i64 n)).setCell (p := ⟨w.heap.size + 2, 1, none⟩) (by simp only; omega) (.slice al G.length cl))
  refine hK.out _ _ (SN.out.cell 0 (v := .int .i64 n) rfl) (fun hH => ?_)
  generalize ((w6.setCell ⟨w.heap.size + 2, 0, none⟩ (.int .i64 n)).setCell ⟨w.heap.size + 2, 1, none⟩ (.slice al G.length cl)) = w8 at *
  clear hK K
  try simp only [Act.put, List.setIfInBounds_toArray, List.set_cons_zero, List.set_cons_succ]
  refine lastL rfl (by kernel_rfl) (by kernel_rfl) (by kernel_rfl) rfl (fun K hK => ?_)
  go_simp
  refine hK.out _ _ ?_
  clear hK K hH
  try simp only [Act.put]
  have e0 := sF.cell 0 (v := .int .i64 n) rfl
  have e1 := sF.cell 1 (v := .slice al G.length cl) rfl
  clear sF
  go_wp2
  refine bodyPost_ret (v := .tuple #[.agg #[.int .i64 n, .slice al G.length cl], .bool true]) (by simp [results, Try.f19, go_sem, e0, e1]) rfl ?_
  rw [Z1.out, Z2.out, Z3.out]
  refine ⟨_, rfl, OwnR.mono (OwnR.from Ho.out ?_) ?_, Hb.out⟩
  · omega
  · first | exact Nat.le_refl _ | omega | (simp only [World.size_setCell]; omega)

end Go.Proofs.Ytgpbogalknmcmaa

/- Forgetting in steps; plain facts, nothing here speaks of the program. -/
namespace Go.Proofs.Ytgpbogalknmcmaa

theorem fg_len (f : Int) (g : List Vt) (n : Int) : (fgG f g n).length ≤ g.length := by
  unfold fgG
  split
  · exact List.length_filter_le _ _
  · exact Nat.zero_le _
theorem fg_fact {f n : Int} {g : List Vt} (h : fgB f g n = true) : (0 ≤ n ∧ n ≤ 31) ∧ fgF f g n = n ∧
    ∀ h, n ≤ h → h ≤ 31 → fgB (fgF f g n) (fgG f g n) h = true ∧ fgF (fgF f g n) (fgG f g n) h = h ∧ fgG (fgF f g n) (fgG f g n) h = fgG f g h ∧ fgB f g h = true ∧ fgF f g h = h := by
  have hb := h
  unfold fgB at hb
  simp only [Bool.and_eq_true, decide_eq_true_eq] at hb
  obtain ⟨hv, h1, h2⟩ := hb
  obtain ⟨hl0, hl1, hl2⟩ := voter_len hv
  obtain ⟨e1, e2, _⟩ := fg_yes h
  refine ⟨by omega, e1, fun m hm hm2 => ?_⟩
  have hb2 : fgB f g m = true := by unfold fgB; simp only [Bool.and_eq_true, decide_eq_true_eq]; exact ⟨hv, by omega, hm2⟩
  have hb3 : fgB n (forgetG n g) m = true := by unfold fgB; simp only [Bool.and_eq_true, decide_eq_true_eq]; exact ⟨voter_forget hv (by omega), hm, hm2⟩
  obtain ⟨k1, k2, _⟩ := fg_yes hb2
  obtain ⟨m1, m2, _⟩ := fg_yes hb3
  rw [e1, e2]
  exact ⟨hb3, m1, by rw [m2, k2]; exact forget_steps g hm, hb2, k1⟩

end Go.Proofs.Ytgpbogalknmcmaa

/- A voter and a floor are drawn, by a walk of the text; no conditions. -/
namespace Go.Proofs.Ytgpbogalknmcmaa
open Go.RowKit

/-- X: the voter; A: the result's cells; R: the reader. -/
structure Vsf (R : Nat) (w : World) (A X : Nat) (f : Int) (p : Nat) (wr : World) (u : Value) (g : List Vt) : Prop where
  sx : Str wr X 25 #[.int .i64 f, u]
  own : OwnV 27 wr w.heap.size u g
  nx : ∀ b, u.ownBlock = some b → b ≠ X ∧ b ≠ A ∧ b ≠ R
  sa : Str wr A 25 #[.int .i64 0, .slice none 0 0]
  rd : Rdr wr R p
  bel : Below w.heap.size w wr
  ds : w.heap.size ≤ A ∧ A < R ∧ R < X
section
variable {R : Nat} {w : World} {A X : Nat} {f : Int} {p : Nat} {wr : World} {u : Value} {g : List Vt}
theorem Vsf.picked (h : Vsf R w A X f p wr u g) {w2 : World} {p2 : Nat} (hg : wr.grownBy w2 (some R)) (hr : Rdr w2 R p2) : Vsf R w A X f p2 w2 u g := by
  obtain ⟨d1, d2, d3⟩ := h.ds
  exact ⟨h.sx.kept hg (by simp; omega), h.own.grown hg (fun b e e' => by cases e'; exact (h.nx _ e).2.2 rfl), h.nx, h.sa.kept hg (by simp; omega), hr,
    h.bel.grown hg h.bel.size (fun g e => by cases e; omega), h.ds⟩
theorem Vsf.below (h : Vsf R w A X f p wr u g) {w2 : World} (hb : Below wr.heap.size wr w2) : Vsf R w A X f p w2 u g :=
  ⟨(hb.block _ h.sx.lt).trans h.sx, h.own.below hb, h.nx, (hb.block _ h.sa.lt).trans h.sa, h.rd.kept (below_grown hb) (by simp), below_step h.bel h.bel.size hb, h.ds⟩
theorem Vsf.res (h : Vsf R w A X f p wr u g) : OwnV 27 ((wr.setCell ⟨A, 0, none⟩ (.int .i64 f)).setCell ⟨A, 1, none⟩ u) w.heap.size u g ∧ Below w.heap.size w ((wr.setCell ⟨A, 0, none⟩ (.int .i64 f)).setCell ⟨A, 1, none⟩ u) ∧
    Str ((wr.setCell ⟨A, 0, none⟩ (.int .i64 f)).setCell ⟨A, 1, none⟩ u) A 25 #[.int .i64 f, u] ∧ Str ((wr.setCell ⟨A, 0, none⟩ (.int .i64 f)).setCell ⟨A, 1, none⟩ u) X 25 #[.int .i64 f, u] := by
  obtain ⟨d1, d2, d3⟩ := h.ds
  have n := fun b e => (h.nx b e).2.1
  exact ⟨(h.own.setc n _ _).setc n _ _, (h.bel.setCell (p := ⟨A, 0, none⟩) (by simp only; omega) _).setCell (p := ⟨A, 1, none⟩) (by simp only; omega) _, (h.sa.set 0 _).set 1 _, (h.sx.other (by omega) _ _).other (by omega) _ _⟩
/-- What is drawn: a voter and a floor. -/
def VfDraw (w : World) (e : Ending) (w' : World) : Prop := ∃ (f : Int) (g : List Vt) (u : Value) (fp : List Nat) (n : Int), e = .returned (.tuple #[.agg #[.int .i64 f, u], .int .i64 n]) ∧ Vts w' g u fp ∧ g.length ≤ 41 ∧ Below w.heap.size w w'
end

set_option maxHeartbeats 8000000 in
set_option maxRecDepth 8000 in
theorem spec_DrawVoterForget (a : Option Addr) (cap : Nat) (zs : List Int) (w : World) (h : CodeAt w a cap zs) :
    Calls Try.prog 18 #[.slice a zs.length cap] w (VfDraw w) := by
  have hb0 : Below w.heap.size w (w.alloc (.cells #[.int .i64 0, .slice none 0 0] 25)) := (Below.refl _ _).alloc (Nat.le_refl _) _
  have sa := Str.new w 25 #[.int .i64 0, .slice none 0 0]
  have hz0 : (w.alloc (.cells #[.int .i64 0, .slice none 0 0] 25)).heap.size = w.heap.size + 1 := by simp
  have Hz0 := Lib.hid hz0; clear hz0
  have Hb0 := Lib.hid hb0
  have SA := Lib.hid sa
  have hcode : CodeAt (w.alloc (.cells #[.int .i64 0, .slice none 0 0] 25)) a cap zs := h.below hb0
  have Hc := Lib.hid hcode
  clear hb0 sa hcode h
  go_enter Try.func18, Try.ntmps18
  go_wp2_with fail
  generalize (w.alloc (.cells #[.int .i64 0, .slice none 0 0] 25)) = W0 at *
  refine (open_any a cap zs _ Hc.out).mono ?_
  rintro e w1 ⟨R, rfl, hR1, hR2, hr1, hb1⟩
  have hRs : w.heap.size + 1 ≤ R := by have := Hz0.out; omega
  have SA := Lib.hid (show Str w1 w.heap.size 25 #[.int .i64 0, .slice none 0 0] from (hb1.block _ SA.out.lt).trans SA.out)
  have Hb1 := Lib.hid (below_step Hb0.out Hb0.out.size hb1)
  have Hr1 := Lib.hid hr1
  clear hb1 hr1
  go_wp2_with fail
  refine (drawVoter R 0 _ (by omega) Hr1.out hR2).mono ?_
  rintro e w2 ⟨f, g, u, p2, rfl, ho, hgl, hf, hr2, hp2, hg2⟩
  have hs2 := hg2.size
  obtain ⟨au, cu, rfl⟩ := ho.slice
  have SA := Lib.hid (SA.out.kept hg2 (by simp; omega))
  have Hb2 := Lib.hid (Hb1.out.grown hg2 Hb1.out.size (fun g e => by cases e; omega))
  have Hr2 := Lib.hid hr2; have Ho := Lib.hid ho
  clear hr2 ho hg2
  have halX : Below w2.heap.size w2 (w2.alloc (.cells #[.int .i64 f, .slice au g.length cu] 25)) := (Below.refl _ _).alloc (Nat.le_refl _) _
  have HV := Lib.hid (show Vsf R w w.heap.size w2.heap.size f p2 (w2.alloc (.cells #[.int .i64 f, .slice au g.length cu] 25)) (.slice au g.length cu) g from ⟨Str.new w2 25 _, (Ho.out.below halX).mono (by omega), fun b e => by have h1 := Ho.out.lt b e; exact ⟨by omega, by omega, by omega⟩, SA.out.alloc _, Hr2.out.alloc _, Hb2.out.alloc (by omega) _, by omega⟩)
  have c0 := HV.out.sx.cell 0 (v := .int .i64 f) rfl
  have c1 := HV.out.sx.cell 1 (v := .slice au g.length cu) rfl
  clear halX SA Hb0 Hb1 Hb2 Hr1 Hr2 Ho Hc
  go_wp2_with fail
  clear c0 c1
  generalize (w2.alloc (.cells #[.int .i64 f, .slice au g.length cu] 25)) = w3 at *
  generalize w2.heap.size = X at *
  refine wp_region_L 17 (fun w' => w'.cell? ⟨X, 0, none⟩ = some (.int .i64 f) ∧ w'.cell? ⟨X, 1, none⟩ = some (.slice au g.length cu)) (by kernel_rfl) ⟨HV.out.sx.cell 0 rfl, HV.out.sx.cell 1 rfl⟩ (fun hH => ?_)
  have HV := Lib.hid (HV.out.below ((Below.refl _ _).drew))
  generalize w3.drew = wd at *
  refine takeL 0 (v := ?vrf1) rfl (by kernel_rfl) (by kernel_rfl) (by kernel_rfl) (by kernel_rfl) (by kernel_rfl) (fun _ _ _ h => h) hH rfl ?yrf1 ?rrf1
  case yrf1 => intro W hSw; go_simp; try with_reducible rfl
  try simp only [Act.put, List.setIfInBounds_toArray, List.set_cons_zero, List.set_cons_succ]
  refine takeL 1 (v := ?vrf2) rfl (by kernel_rfl) (by kernel_rfl) (by kernel_rfl) (by kernel_rfl) (by kernel_rfl) (fun _ _ _ h => h) hH rfl ?yrf2 ?rrf2
  case yrf2 => intro W hSw; go_simp; try with_reducible rfl
  try simp only [Act.put, List.setIfInBounds_toArray, List.set_cons_zero, List.set_cons_succ]
  refine takeL 2 (v := ?vrf3) rfl (by kernel_rfl) (by kernel_rfl) (by kernel_rfl) (by kernel_rfl) (by kernel_rfl) (fun _ _ _ h => h) hH rfl ?yrf3 ?rrf3
  case yrf3 => intro W hSw; go_simp; try with_reducible rfl
  try simp only [Act.put, List.setIfInBounds_toArray, List.set_cons_zero, List.set_cons_succ]
  refine takeL 3 (v := ?vrf4) rfl (by kernel_rfl) (by kernel_rfl) (by kernel_rfl) (by kernel_rfl) (by kernel_rfl) (fun _ _ _ h => h) hH rfl ?yrf4 ?rrf4
  case yrf4 => intro W hSw; go_simp; try with_reducible rfl
  try simp only [Act.put, List.setIfInBounds_toArray, List.set_cons_zero, List.set_cons_succ]
  refine takeL 6 (v := ?vrf5) rfl (by kernel_rfl) (by kernel_rfl) (by kernel_rfl) (by kernel_rfl) (by kernel_rfl) (fun _ _ _ h => h) hH rfl ?yrf5 ?rrf5
  case yrf5 => intro W hSw; go_simp; try with_reducible rfl
  try simp only [Act.put, List.setIfInBounds_toArray, List.set_cons_zero, List.set_cons_succ]
  refine takeL 11 (v := ?vrf6) rfl (by kernel_rfl) (by kernel_rfl) (by kernel_rfl) (by kernel_rfl) (by kernel_rfl) (fun _ _ _ h => h) hH rfl ?yrf6 ?rrf6
  case yrf6 => intro W hSw; go_simp; try with_reducible rfl
  try simp only [Act.put, List.setIfInBounds_toArray, List.set_cons_zero, List.set_cons_succ]
  refine callL 4 rfl (by kernel_rfl) rfl (fun K hK => ?_)
  go_simp
  go_at_call 31
  refine (pick_any R 6 p2 _ (by omega) HV.out.rd (by omega)).mono ?_
  rintro e w4 ⟨k1, rfl, hk10, hk11, hr', hg'⟩
  have HV := Lib.hid (HV.out.picked hg' hr')
  clear hr' hg'
  refine hK.out _ _ ⟨HV.out.sx.cell 0 rfl, HV.out.sx.cell 1 rfl⟩ (fun hH => ?_)
  clear hK K
  try simp only [Act.put, List.setIfInBounds_toArray, List.set_cons_zero, List.set_cons_succ]
  refine takeL 5 (v := ?vrf7) rfl (by kernel_rfl) (by kernel_rfl) (by kernel_rfl) (by kernel_rfl) (by kernel_rfl) (fun _ _ _ h => h) hH rfl ?yrf7 ?rrf7
  case yrf7 => intro W hSw; go_simp; try with_reducible rfl
  try simp only [Act.put, List.setIfInBounds_toArray, List.set_cons_zero, List.set_cons_succ]
  refine callL 7 rfl (by kernel_rfl) rfl (fun K hK => ?_)
  go_simp
  go_at_call 31
  refine (pick_any R 12 (p2 + 1) _ (by omega) HV.out.rd (by omega)).mono ?_
  rintro e w5 ⟨k2, rfl, hk20, hk21, hr', hg'⟩
  have HV := Lib.hid (HV.out.picked hg' hr')
  clear hr' hg'
  refine hK.out _ _ ⟨HV.out.sx.cell 0 rfl, HV.out.sx.cell 1 rfl⟩ (fun hH => ?_)
  clear hK K
  try simp only [Act.put, List.setIfInBounds_toArray, List.set_cons_zero, List.set_cons_succ]
  refine takeL 8 (v := ?vrf8) rfl (by kernel_rfl) (by kernel_rfl) (by kernel_rfl) (by kernel_rfl) (by kernel_rfl) (fun _ _ _ h => h) hH rfl ?yrf8 ?rrf8
  case yrf8 => intro W hSw; go_simp; try with_reducible rfl
  try simp only [Act.put, List.setIfInBounds_toArray, List.set_cons_zero, List.set_cons_succ]
  refine takeL 9 (v := ?vrf9) rfl (by kernel_rfl) (by kernel_rfl) (by kernel_rfl) (by kernel_rfl) (by kernel_rfl) (fun _ _ _ h => h) hH rfl ?yrf9 ?rrf9
  case yrf9 => intro W hSw; go_simp; try with_reducible rfl
  try simp only [Act.put, List.setIfInBounds_toArray, List.set_cons_zero, List.set_cons_succ]
  refine takeL 10 (v := ?vrf10) rfl (by kernel_rfl) (by kernel_rfl) (by kernel_rfl) (by kernel_rfl) (by kernel_rfl) (fun _ _ _ h => h) hH rfl ?yrf10 ?rrf10
  case yrf10 => intro W hSw; go_simp; try with_reducible rfl
  try simp only [Act.put, List.setIfInBounds_toArray, List.set_cons_zero, List.set_cons_succ]
  refine callL 12 rfl (by kernel_rfl) rfl (fun K hK => ?_)
  go_simp
  go_at_call 31
  refine (pick_any R 20 (p2 + 1 + 1) _ (by omega) HV.out.rd (by omega)).mono ?_
  rintro e w6 ⟨k3, rfl, hk30, hk31, hr', hg'⟩
  have HV := Lib.hid (HV.out.picked hg' hr')
  clear hr' hg'
  refine hK.out _ _ ⟨HV.out.sx.cell 0 rfl, HV.out.sx.cell 1 rfl⟩ (fun hH => ?_)
  clear hK K
  try simp only [Act.put, List.setIfInBounds_toArray, List.set_cons_zero, List.set_cons_succ]
  refine takeL 13 (v := ?vrf11) rfl (by kernel_rfl) (by kernel_rfl) (by kernel_rfl) (by kernel_rfl) (by kernel_rfl) (fun _ _ _ h => h) hH rfl ?yrf11 ?rrf11
  case yrf11 => intro W hSw; go_simp; try with_reducible rfl
  try simp only [Act.put, List.setIfInBounds_toArray, List.set_cons_zero, List.set_cons_succ]
  refine takeL 14 (v := ?vrf12) rfl (by kernel_rfl) (by kernel_rfl) (by kernel_rfl) (by kernel_rfl) (by kernel_rfl) (fun _ _ _ h => h) hH rfl ?yrf12 ?rrf12
  case yrf12 => intro W hSw; go_simp; try with_reducible rfl
  try simp only [Act.put, List.setIfInBounds_toArray, List.set_cons_zero, List.set_cons_succ]
  refine takeL 15 (v := ?vrf13) rfl (by kernel_rfl) (by kernel_rfl) (by kernel_rfl) (by kernel_rfl) (by kernel_rfl) (fun _ _ _ h => h) hH rfl ?yrf13 ?rrf13
  case yrf13 => intro W hSw; go_simp; try with_reducible rfl
  try simp only [Act.put, List.setIfInBounds_toArray, List.set_cons_zero, List.set_cons_succ]
  generalize (IntKind.i64.wrap (IntKind.i64.wrap (IntKind.i64.wrap (f + k1) - IntKind.i64.wrap (IntKind.i64.wrap (k2.tdiv 11) * 3)) + IntKind.i64.wrap (IntKind.i64.wrap (k3.tdiv 19) * 30))) = n
  obtain ⟨ho9, hb9, sa9, sx9⟩ := HV.out.res
  have Hsx := Lib.hid sx9; have Hsa := Lib.hid sa9; have Ho9 := Lib.hid ho9; have Hb9 := Lib.hid hb9
  clear ho9 hb9 sa9 sx9
  refine callL 16 rfl (by kernel_rfl) rfl (fun K hK => ?_)
  have y0 := HV.out.sa.frozen 0
  have y1 := HV.out.sa.frozen 1
  have a0 := HV.out.sa.cell 0 (v := .int .i64 0) rfl
  have a1 := HV.out.sa.cell 1 (v := .slice none 0 0) rfl
  go_simp
  clear y0 y1 a0 a1
  refine hK.out _ _ ⟨Hsx.out.cell 0 rfl, Hsx.out.cell 1 rfl⟩ (fun hH => ?_)
  clear hK K
  try simp only [Act.put, List.setIfInBounds_toArray, List.set_cons_zero, List.set_cons_succ]
  generalize ((w6.setCell ⟨w.heap.size, 0, none⟩ (.int .i64 f)).setCell ⟨w.heap.size, 1, none⟩ (.slice au g.length cu)) = we at *
  refine lastL rfl (by kernel_rfl) (by kernel_rfl) (by kernel_rfl) rfl (fun K hK => ?_)
  go_simp
  clear hH
  refine hK.out _ _ ?_
  clear hK K
  try simp only [Act.put]
  have e0 := Hsa.out.cell 0 (v := .int .i64 f) rfl
  have e1 := Hsa.out.cell 1 (v := .slice au g.length cu) rfl
  go_wp2
  refine bodyPost_ret (v := .tuple #[.agg #[.int .i64 f, .slice au g.length cu], .int .i64 n]) (by simp [results, Try.f18, go_sem, e0, e1]) rfl ?_
  obtain ⟨fq, hfq⟩ := Ho9.out.vts
  exact ⟨f, g, _, fq, n, rfl, hfq, hgl, Hb9.out⟩

end Go.Proofs.Ytgpbogalknmcmaa

/- No vote below the floor is signed after forgetting; plain facts, nothing here speaks of the program. -/
namespace Go.Proofs.Ytgpbogalknmcmaa

theorem forget_fact {f n : Int} {g : List Vt} (h : fgB f g n = true) : fgF f g n = n ∧ voterB n (fgG f g n) = true ∧ ∀ x : Vt, x.r < n → sgB n (fgG f g n) x = false := by
  have hb := h
  unfold fgB at hb
  simp only [Bool.and_eq_true, decide_eq_true_eq] at hb
  obtain ⟨hv, h1, h2⟩ := hb
  obtain ⟨hl0, hl1, hl2⟩ := voter_len hv
  obtain ⟨e1, e2, _⟩ := fg_yes h
  have hv2 := voter_forget hv (f' := n) (by omega)
  rw [e2]
  refine ⟨e1, hv2, fun x hx => ?_⟩
  cases hs : sgB n (forgetG n g) x with
  | false => rfl
  | true =>
    obtain ⟨_, _, h3, _, _⟩ := sg_true hs
    rcases (sign_iff (voter_sorted hv2)).1 h3 with h4 | ⟨_, h4, _⟩
    · have := (voter_mem hv2 h4).2; omega
    · omega

end Go.Proofs.Ytgpbogalknmcmaa

/- An owned list as the source of an append; a general step, nothing here speaks of the program. -/
namespace Go.Proofs.Ytgpbogalknmcmaa
open Go.RowKit

theorem own_src {E : TypeId} {w : World} {B n c : Nat} {a : Option Addr} {xs : List Int} (h : Own E w B (.slice a n c) xs) : SrcAt w a c xs := by
  obtain ⟨a', c', e, _, hs, _⟩ := h.src
  cases e
  exact hs

end Go.Proofs.Ytgpbogalknmcmaa

/- Rows of votes as rows of fields; no conditions. -/
namespace Go.Proofs.Ytgpbogalknmcmaa
open Go.RowKit

theorem rows_vt : ∀ {es : List (List Fd)}, (∀ e ∈ es, voteP e) → ∃ g : List Vt, es = g.map Vt.fd
  | [], _ => ⟨[], rfl⟩
  | e :: es, h => by
    obtain ⟨x0, x1, x2, rfl⟩ := h _ List.mem_cons_self
    obtain ⟨g, rfl⟩ := rows_vt (es := es) fun e he => h e (List.mem_cons_of_mem _ he)
    exact ⟨⟨x0, x1, x2⟩ :: g, rfl⟩

end Go.Proofs.Ytgpbogalknmcmaa

/- An answer's votes as rows of fields: their sizes; no conditions. -/
namespace Go.Proofs.Ytgpbogalknmcmaa
open Go.RowKit

theorem vt_rowsP (G : List Vt) : ∀ e ∈ G.map Vt.fd, voteP e := by
  intro e he
  obtain ⟨v, _, rfl⟩ := List.mem_map.1 he
  exact ⟨v.r, v.a, v.d, rfl⟩
theorem lnE_vt (v : Vt) : lnE v.fd = 0 := by simp [lnE, Vt.fd, Fd.ln]
theorem lnTo_vt : ∀ (G : List Vt) (k : Nat), lnTo (G.map Vt.fd) k = 0
  | [], k => by simp [lnTo]
  | v :: G, 0 => by simp [lnTo]
  | v :: G, k + 1 => by
    have h := lnTo_vt G k
    unfold lnTo at h ⊢
    rw [List.map_cons, List.take_succ_cons, List.map_cons, List.sum_cons, h, lnE_vt]
theorem vt_answer {G : List Vt} {n : Nat} (h1 : G.length ≤ n) :
    (G.map Vt.fd).length ≤ n ∧ (∀ e ∈ G.map Vt.fd, voteP e) ∧ (∀ e ∈ G.map Vt.fd, lnE e ≤ 1099511627776) ∧ ∀ k, kTo (G.map Vt.fd) k (G.map Vt.fd).length ≤ k + n * 3 := by
  refine ⟨by simpa using h1, vt_rowsP G, fun e he => ?_, fun k => ?_⟩
  · obtain ⟨v, _, rfl⟩ := List.mem_map.1 he
    rw [lnE_vt]
    omega
  · have := kTo_bd (voteP_len (vt_rowsP G)) k (G.map Vt.fd).length (Nat.le_refl _)
    rw [lnTo_vt, List.length_map] at this
    rw [List.length_map]
    omega

end Go.Proofs.Ytgpbogalknmcmaa
