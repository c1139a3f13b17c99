/- A voter and a floor are drawn, by a walk of the text; no conditions. -/
import Derived.Test.YtkndndcjchlpdaaRows
import Derived.Test.YtkndndcjchlpdaaVd4
import Derived.Test.YtkndndcjchlpdaaVd1
import Derived.Test.YtkndndcjchlpdaaEx
import Derived.Deep.QuietTactic
import Derived.BigQuiet
namespace Go.Proofs.Ytkndndcjchlpdaa
open Go.RowKit

/-- X: the voter; A: the result's cells; R: the reader. -/
structure Vsf (R : Nat) (w : World) (A X : Nat) (f : Int) (p : Nat) (wr : World) (u : Value) (g : List Vt) : Prop where
  sx : Str wr X 25 #[.int .i64 f, u]
  own : OwnV 27 wr w.heap.size u g
  nx : ∀ b, u.ownBlock = some b → b ≠ X ∧ b ≠ A ∧ b ≠ R
  sa : Str wr A 25 #[.int .i64 0, .slice none 0 0]
  rd : Rdr wr R p
  bel : Below w.heap.size w wr
  ds : w.heap.size ≤ A ∧ A < R ∧ R < X
section
variable {R : Nat} {w : World} {A X : Nat} {f : Int} {p : Nat} {wr : World} {u : Value} {g : List Vt}
theorem Vsf.picked (h : Vsf R w A X f p wr u g) {w2 : World} {p2 : Nat} (hg : wr.grownBy w2 (some R)) (hr : Rdr w2 R p2) : Vsf R w A X f p2 w2 u g := by
  obtain ⟨d1, d2, d3⟩ := h.ds
  exact ⟨h.sx.kept hg (by simp; omega), h.own.grown hg (fun b e e' => by cases e'; exact (h.nx _ e).2.2 rfl), h.nx, h.sa.kept hg (by simp; omega), hr,
    h.bel.grown hg h.bel.size (fun g e => by cases e; omega), h.ds⟩
theorem Vsf.below (h : Vsf R w A X f p wr u g) {w2 : World} (hb : Below wr.heap.size wr w2) : Vsf R w A X f p w2 u g :=
  ⟨(hb.block _ h.sx.lt).trans h.sx, h.own.below hb, h.nx, (hb.block _ h.sa.lt).trans h.sa, h.rd.kept (below_grown hb) (by simp), below_step h.bel h.bel.size hb, h.ds⟩
theorem Vsf.res (h : Vsf R w A X f p wr u g) : OwnV 27 ((wr.setCell ⟨A, 0, none⟩ (.int .i64 f)).setCell ⟨A, 1, none⟩ u) w.heap.size u g ∧ Below w.heap.size w ((wr.setCell ⟨A, 0, none⟩ (.int .i64 f)).setCell ⟨A, 1, none⟩ u) ∧
    Str ((wr.setCell ⟨A, 0, none⟩ (.int .i64 f)).setCell ⟨A, 1, none⟩ u) A 25 #[.int .i64 f, u] ∧ Str ((wr.setCell ⟨A, 0, none⟩ (.int .i64 f)).setCell ⟨A, 1, none⟩ u) X 25 #[.int .i64 f, u] := by
  obtain ⟨d1, d2, d3⟩ := h.ds
  have n := fun b e => (h.nx b e).2.1
  exact ⟨(h.own.setc n _ _).setc n _ _, (h.bel.setCell (p := ⟨A, 0, none⟩) (by simp only; omega) _).setCell (p := ⟨A, 1, none⟩) (by simp only; omega) _, (h.sa.set 0 _).set 1 _, (h.sx.other (by omega) _ _).other (by omega) _ _⟩
/-- What is drawn: a voter and a floor. -/
def VfDraw (w : World) (e : Ending) (w' : World) : Prop := ∃ (f : Int) (g : List Vt) (u : Value) (fp : List Nat) (n : Int), e = .returned (.tuple #[.agg #[.int .i64 f, u], .int .i64 n]) ∧ Vts w' g u fp ∧ g.length ≤ 41 ∧ Below w.heap.size w w'
end

set_option maxHeartbeats 8000000 in
set_option maxRecDepth 8000 in
theorem spec_DrawVoterForget (a : Option Addr) (cap : Nat) (zs : List Int) (w : World) (h : CodeAt w a cap zs) :
    Calls Try.prog 15 #[.slice a zs.length cap] w (VfDraw w) := by
  have hb0 : Below w.heap.size w (w.alloc (.cells #[.int .i64 0, .slice none 0 0] 25)) := (Below.refl _ _).alloc (Nat.le_refl _) _
  have sa := Str.new w 25 #[.int .i64 0, .slice none 0 0]
  have hz0 : (w.alloc (.cells #[.int .i64 0, .slice none 0 0] 25)).heap.size = w.heap.size + 1 := by simp
  have Hz0 := Lib.hid hz0; clear hz0
  have Hb0 := Lib.hid hb0
  have SA := Lib.hid sa
  have hcode : CodeAt (w.alloc (.cells #[.int .i64 0, .slice none 0 0] 25)) a cap zs := h.below hb0
  have Hc := Lib.hid hcode
  clear hb0 sa hcode h
  go_enter Try.func15, Try.ntmps15
  go_wp2_with fail
  generalize (w.alloc (.cells #[.int .i64 0, .slice none 0 0] 25)) = W0 at *
  refine (open_any a cap zs _ Hc.out).mono ?_
  rintro e w1 ⟨R, rfl, hR1, hR2, hr1, hb1⟩
  have hRs : w.heap.size + 1 ≤ R := by have := Hz0.out; omega
  have SA := Lib.hid (show Str w1 w.heap.size 25 #[.int .i64 0, .slice none 0 0] from (hb1.block _ SA.out.lt).trans SA.out)
  have Hb1 := Lib.hid (below_step Hb0.out Hb0.out.size hb1)
  have Hr1 := Lib.hid hr1
  clear hb1 hr1
  go_wp2_with fail
  refine (drawVoter R 0 _ (by omega) Hr1.out hR2).mono ?_
  rintro e w2 ⟨f, g, u, p2, rfl, ho, hgl, hf, hr2, hp2, hg2⟩
  have hs2 := hg2.size
  obtain ⟨au, cu, rfl⟩ := ho.slice
  have SA := Lib.hid (SA.out.kept hg2 (by simp; omega))
  have Hb2 := Lib.hid (Hb1.out.grown hg2 Hb1.out.size (fun g e => by cases e; omega))
  have Hr2 := Lib.hid hr2; have Ho := Lib.hid ho
  clear hr2 ho hg2
  have halX : Below w2.heap.size w2 (w2.alloc (.cells #[.int .i64 f, .slice au g.length cu] 25)) := (Below.refl _ _).alloc (Nat.le_refl _) _
  have HV := Lib.hid (show Vsf R w w.heap.size w2.heap.size f p2 (w2.alloc (.cells #[.int .i64 f, .slice au g.length cu] 25)) (.slice au g.length cu) g from ⟨Str.new w2 25 _, (Ho.out.below halX).mono (by omega), fun b e => by have h1 := Ho.out.lt b e; exact ⟨by omega, by omega, by omega⟩, SA.out.alloc _, Hr2.out.alloc _, Hb2.out.alloc (by omega) _, by omega⟩)
  have c0 := HV.out.sx.cell 0 (v := .int .i64 f) rfl
  have c1 := HV.out.sx.cell 1 (v := .slice au g.length cu) rfl
  clear halX SA Hb0 Hb1 Hb2 Hr1 Hr2 Ho Hc
  go_wp2_with fail
  clear c0 c1
  generalize (w2.alloc (.cells #[.int .i64 f, .slice au g.length cu] 25)) = w3 at *
  generalize w2.heap.size = X at *
  refine wp_region_L 17 (fun w' => w'.cell? ⟨X, 0, none⟩ = some (.int .i64 f) ∧ w'.cell? ⟨X, 1, none⟩ = some (.slice au g.length cu)) (by kernel_rfl) ⟨HV.out.sx.cell 0 rfl, HV.out.sx.cell 1 rfl⟩ (fun hH => ?_)
  have HV := Lib.hid (HV.out.below ((Below.refl _ _).drew))
  generalize w3.drew = wd at *
  refine takeL 0 (v := ?vrf1) rfl (by kernel_rfl) (by kernel_rfl) (by kernel_rfl) (by kernel_rfl) (by kernel_rfl) (fun _ _ _ h => h) hH rfl ?yrf1 ?rrf1
  case yrf1 => intro W hSw; go_simp; try with_reducible rfl
  try simp only [Act.put, List.setIfInBounds_toArray, List.set_cons_zero, List.set_cons_succ]
  refine takeL 1 (v := ?vrf2) rfl (by kernel_rfl) (by kernel_rfl) (by kernel_rfl) (by kernel_rfl) (by kernel_rfl) (fun _ _ _ h => h) hH rfl ?yrf2 ?rrf2
  case yrf2 => intro W hSw; go_simp; try with_reducible rfl
  try simp only [Act.put, List.setIfInBounds_toArray, List.set_cons_zero, List.set_cons_succ]
  refine takeL 2 (v := ?vrf3) rfl (by kernel_rfl) (by kernel_rfl) (by kernel_rfl) (by kernel_rfl) (by kernel_rfl) (fun _ _ _ h => h) hH rfl ?yrf3 ?rrf3
  case yrf3 => intro W hSw; go_simp; try with_reducible rfl
  try simp only [Act.put, List.setIfInBounds_toArray, List.set_cons_zero, List.set_cons_succ]
  refine takeL 3 (v := ?vrf4) rfl (by kernel_rfl) (by kernel_rfl) (by kernel_rfl) (by kernel_rfl) (by kernel_rfl) (fun _ _ _ h => h) hH rfl ?yrf4 ?rrf4
  case yrf4 => intro W hSw; go_simp; try with_reducible rfl
  try simp only [Act.put, List.setIfInBounds_toArray, List.set_cons_zero, List.set_cons_succ]
  refine takeL 6 (v := ?vrf5) rfl (by kernel_rfl) (by kernel_rfl) (by kernel_rfl) (by kernel_rfl) (by kernel_rfl) (fun _ _ _ h => h) hH rfl ?yrf5 ?rrf5
  case yrf5 => intro W hSw; go_simp; try with_reducible rfl
  try simp only [Act.put, List.setIfInBounds_toArray, List.set_cons_zero, List.set_cons_succ]
  refine takeL 11 (v := ?vrf6) rfl (by kernel_rfl) (by kernel_rfl) (by kernel_rfl) (by kernel_rfl) (by kernel_rfl) (fun _ _ _ h => h) hH rfl ?yrf6 ?rrf6
  case yrf6 => intro W hSw; go_simp; try with_reducible rfl
  try simp only [Act.put, List.setIfInBounds_toArray, List.set_cons_zero, List.set_cons_succ]
  refine callL 4 rfl (by kernel_rfl) rfl (fun K hK => ?_)
  go_simp
  go_at_call 38
  refine (pick_any R 6 p2 _ (by omega) HV.out.rd (by omega)).mono ?_
  rintro e w4 ⟨k1, rfl, hk10, hk11, hr', hg'⟩
  have HV := Lib.hid (HV.out.picked hg' hr')
  clear hr' hg'
  refine hK.out _ _ ⟨HV.out.sx.cell 0 rfl, HV.out.sx.cell 1 rfl⟩ (fun hH => ?_)
  clear hK K
  try simp only [Act.put, List.setIfInBounds_toArray, List.set_cons_zero, List.set_cons_succ]
  refine takeL 5 (v := ?vrf7) rfl (by kernel_rfl) (by kernel_rfl) (by kernel_rfl) (by kernel_rfl) (by kernel_rfl) (fun _ _ _ h => h) hH rfl ?yrf7 ?rrf7
  case yrf7 => intro W hSw; go_simp; try with_reducible rfl
  try simp only [Act.put, List.setIfInBounds_toArray, List.set_cons_zero, List.set_cons_succ]
  refine callL 7 rfl (by kernel_rfl) rfl (fun K hK => ?_)
  go_simp
  go_at_call 38
  refine (pick_any R 12 (p2 + 1) _ (by omega) HV.out.rd (by omega)).mono ?_
  rintro e w5 ⟨k2, rfl, hk20, hk21, hr', hg'⟩
  have HV := Lib.hid (HV.out.picked hg' hr')
  clear hr' hg'
  refine hK.out _ _ ⟨HV.out.sx.cell 0 rfl, HV.out.sx.cell 1 rfl⟩ (fun hH => ?_)
  clear hK K
  try simp only [Act.put, List.setIfInBounds_toArray, List.set_cons_zero, List.set_cons_succ]
  refine takeL 8 (v := ?vrf8) rfl (by kernel_rfl) (by kernel_rfl) (by kernel_rfl) (by kernel_rfl) (by kernel_rfl) (fun _ _ _ h => h) hH rfl ?yrf8 ?rrf8
  case yrf8 => intro W hSw; go_simp; try with_reducible rfl
  try simp only [Act.put, List.setIfInBounds_toArray, List.set_cons_zero, List.set_cons_succ]
  refine takeL 9 (v := ?vrf9) rfl (by kernel_rfl) (by kernel_rfl) (by kernel_rfl) (by kernel_rfl) (by kernel_rfl) (fun _ _ _ h => h) hH rfl ?yrf9 ?rrf9
  case yrf9 => intro W hSw; go_simp; try with_reducible rfl
  try simp only [Act.put, List.setIfInBounds_toArray, List.set_cons_zero, List.set_cons_succ]
  refine takeL 10 (v := ?vrf10) rfl (by kernel_rfl) (by kernel_rfl) (by kernel_rfl) (by kernel_rfl) (by kernel_rfl) (fun _ _ _ h => h) hH rfl ?yrf10 ?rrf10
  case yrf10 => intro W hSw; go_simp; try with_reducible rfl
  try simp only [Act.put, List.setIfInBounds_toArray, List.set_cons_zero, List.set_cons_succ]
  refine callL 12 rfl (by kernel_rfl) rfl (fun K hK => ?_)
  go_simp
  go_at_call 38
  refine (pick_any R 20 (p2 + 1 + 1) _ (by omega) HV.out.rd (by omega)).mono ?_
  rintro e w6 ⟨k3, rfl, hk30, hk31, hr', hg'⟩
  have HV := Lib.hid (HV.out.picked hg' hr')
  clear hr' hg'
  refine hK.out _ _ ⟨HV.out.sx.cell 0 rfl, HV.out.sx.cell 1 rfl⟩ (fun hH => ?_)
  clear hK K
  try simp only [Act.put, List.setIfInBounds_toArray, List.set_cons_zero, List.set_cons_succ]
  refine takeL 13 (v := ?vrf11) rfl (by kernel_rfl) (by kernel_rfl) (by kernel_rfl) (by kernel_rfl) (by kernel_rfl) (fun _ _ _ h => h) hH rfl ?yrf11 ?rrf11
  case yrf11 => intro W hSw; go_simp; try with_reducible rfl
  try simp only [Act.put, List.setIfInBounds_toArray, List.set_cons_zero, List.set_cons_succ]
  refine takeL 14 (v := ?vrf12) rfl (by kernel_rfl) (by kernel_rfl) (by kernel_rfl) (by kernel_rfl) (by kernel_rfl) (fun _ _ _ h => h) hH rfl ?yrf12 ?rrf12
  case yrf12 => intro W hSw; go_simp; try with_reducible rfl
  try simp only [Act.put, List.setIfInBounds_toArray, List.set_cons_zero, List.set_cons_succ]
  refine takeL 15 (v := ?vrf13) rfl (by kernel_rfl) (by kernel_rfl) (by kernel_rfl) (by kernel_rfl) (by kernel_rfl) (fun _ _ _ h => h) hH rfl ?yrf13 ?rrf13
  case yrf13 => intro W hSw; go_simp; try with_reducible rfl
  try simp only [Act.put, List.setIfInBounds_toArray, List.set_cons_zero, List.set_cons_succ]
  generalize (IntKind.i64.wrap (IntKind.i64.wrap (IntKind.i64.wrap (f + k1) - IntKind.i64.wrap (IntKind.i64.wrap (k2.tdiv 11) * 3)) + IntKind.i64.wrap (IntKind.i64.wrap (k3.tdiv 19) * 30))) = n
  obtain ⟨ho9, hb9, sa9, sx9⟩ := HV.out.res
  have Hsx := Lib.hid sx9; have Hsa := Lib.hid sa9; have Ho9 := Lib.hid ho9; have Hb9 := Lib.hid hb9
  clear ho9 hb9 sa9 sx9
  refine callL 16 rfl (by kernel_rfl) rfl (fun K hK => ?_)
  have y0 := HV.out.sa.frozen 0
  have y1 := HV.out.sa.frozen 1
  have a0 := HV.out.sa.cell 0 (v := .int .i64 0) rfl
  have a1 := HV.out.sa.cell 1 (v := .slice none 0 0) rfl
  go_simp
  clear y0 y1 a0 a1
  refine hK.out _ _ ⟨Hsx.out.cell 0 rfl, Hsx.out.cell 1 rfl⟩ (fun hH => ?_)
  clear hK K
  try simp only [Act.put, List.setIfInBounds_toArray, List.set_cons_zero, List.set_cons_succ]
  generalize ((w6.setCell ⟨w.heap.size, 0, none⟩ (.int .i64 f)).setCell ⟨w.heap.size, 1, none⟩ (.slice au g.length cu)) = we at *
  refine lastL rfl (by kernel_rfl) (by kernel_rfl) (by kernel_rfl) rfl (fun K hK => ?_)
  go_simp
  clear hH
  refine hK.out _ _ ?_
  clear hK K
  try simp only [Act.put]
  have e0 := Hsa.out.cell 0 (v := .int .i64 f) rfl
  have e1 := Hsa.out.cell 1 (v := .slice au g.length cu) rfl
  go_wp2
  refine bodyPost_ret (v := .tuple #[.agg #[.int .i64 f, .slice au g.length cu], .int .i64 n]) (by simp [results, Try.f15, go_sem, e0, e1]) rfl ?_
  obtain ⟨fq, hfq⟩ := Ho9.out.vts
  exact ⟨f, g, _, fq, n, rfl, hfq, hgl, Hb9.out⟩

end Go.Proofs.Ytkndndcjchlpdaa
