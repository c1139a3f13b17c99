/- impl.VoterForget, by a walk of its text; condition: the list is shorter than 2^40. -/
import Derived.Test.YtkndndcjchlpdaaRows
import Derived.Test.YtkndndcjchlpdaaVm2
import Derived.Test.YtkndndcjchlpdaaVm4
import Derived.Test.YtkndndcjchlpdaaVc2
import Derived.Test.YtkndndcjchlpdaaVa5
import Derived.Test.YtkndndcjchlpdaaVf2
import Derived.Test.YtkndndcjchlpdaaRVoter
import Derived.Test.YtkndndcjchlpdaaEx
import Derived.Deep.QuietTactic
import Derived.BigQuiet
namespace Go.Proofs.Ytkndndcjchlpdaa
open Go.RowKit

set_option maxHeartbeats 8000000 in
set_option maxRecDepth 8000 in
theorem impl_VoterForget (f : Int) (g : List Vt) (v : Value) (fp : List Nat) (n : Int) (w : World) (hbig : g.length ≤ 1099511627776) (hg : Vts w g v fp) :
    Calls Try.prog 16 #[.agg #[.int .i64 f, v], .int .i64 n] w fun e w' => ∃ vv, e = .returned (.tuple #[.agg #[.int .i64 (fgF f g n), vv], .bool (fgB f g n)]) ∧ OwnR 27 3 3 w' w.heap.size w'.heap.size vv ((fgG f g n).map Vt.fd) ∧ Below w.heap.size w w' := by
  obtain ⟨va, vc, rfl⟩ := hg.slice
  have hmf : ∀ (fn : Fn) (first cap : Array Value) (w : World), (Instr.makeFunc fn first cap).run Try.prog w = .ok (.func fn first cap) w := fun _ _ _ _ => rfl
  have hb0 : Below w.heap.size w (((w.alloc (.cells #[.int .i64 f, .slice va g.length vc] 25)).alloc (.cells #[.int .i64 n] 3)).alloc (.cells #[.int .i64 0, .slice none 0 0] 25)) := (((Below.refl _ _).alloc (Nat.le_refl _) _).alloc (by simp) _).alloc (by simp; omega) _
  have sx := ((Str.new w 25 #[.int .i64 f, .slice va g.length vc]).alloc (.cells #[.int .i64 n] 3)).alloc (.cells #[.int .i64 0, .slice none 0 0] 25)
  have sv := (Str.new (w.alloc (.cells #[.int .i64 f, .slice va g.length vc] 25)) 3 #[.int .i64 n]).alloc (.cells #[.int .i64 0, .slice none 0 0] 25)
  have sr := Str.new ((w.alloc (.cells #[.int .i64 f, .slice va g.length vc] 25)).alloc (.cells #[.int .i64 n] 3)) 25 #[.int .i64 0, .slice none 0 0]
  have hz0 : (((w.alloc (.cells #[.int .i64 f, .slice va g.length vc] 25)).alloc (.cells #[.int .i64 n] 3)).alloc (.cells #[.int .i64 0, .slice none 0 0] 25)).heap.size = w.heap.size + 3 := by simp
  simp only [World.size_alloc] at sv sr
  have SX := Lib.hid (show Str (((w.alloc (.cells #[.int .i64 f, .slice va g.length vc] 25)).alloc (.cells #[.int .i64 n] 3)).alloc (.cells #[.int .i64 0, .slice none 0 0] 25)) (w.heap.size) 25 #[.int .i64 f, .slice va g.length vc] from sx)
  have SN := Lib.hid (show Str (((w.alloc (.cells #[.int .i64 f, .slice va g.length vc] 25)).alloc (.cells #[.int .i64 n] 3)).alloc (.cells #[.int .i64 0, .slice none 0 0] 25)) (w.heap.size + 1) 3 #[.int .i64 n] from sv)
  have SR := Lib.hid (show Str (((w.alloc (.cells #[.int .i64 f, .slice va g.length vc] 25)).alloc (.cells #[.int .i64 n] 3)).alloc (.cells #[.int .i64 0, .slice none 0 0] 25)) (w.heap.size + 2) 25 #[.int .i64 0, .slice none 0 0] from sr)
  have Hg := Lib.hid (hg.under hb0)
  have Hb := Lib.hid hb0
  clear sx sv sr hb0 hg
  go_enter Try.func16, Try.ntmps16
  have cX_0 := SX.out.cell 0 (v := .int .i64 f) rfl
  have cX_1 := SX.out.cell 1 (v := .slice va g.length vc) rfl
  have cN_0 := SN.out.cell 0 (v := .int .i64 n) rfl
  go_wp2_with fail
  generalize (((w.alloc (.cells #[.int .i64 f, .slice va g.length vc] 25)).alloc (.cells #[.int .i64 n] 3)).alloc (.cells #[.int .i64 0, .slice none 0 0] 25)) = W0 at *
  refine (impl_VoterValid f g _ fp _ hbig Hg.out).mono ?_
  rintro e w1 ⟨rfl, hb1⟩
  clear cX_0 cX_1 cN_0
  have SX := Lib.hid (show Str w1 (w.heap.size) 25 #[.int .i64 f, .slice va g.length vc] from (hb1.block _ SX.out.lt).trans SX.out)
  have SN := Lib.hid (show Str w1 (w.heap.size + 1) 3 #[.int .i64 n] from (hb1.block _ SN.out.lt).trans SN.out)
  have SR := Lib.hid (show Str w1 (w.heap.size + 2) 25 #[.int .i64 0, .slice none 0 0] from (hb1.block _ SR.out.lt).trans SR.out)
  have Hg := Lib.hid (Hg.out.under hb1)
  have hsw1 := hb1.size
  have Hb := Lib.hid (below_step Hb.out Hb.out.size hb1)
  clear hb1
  cases h1 : voterB f g with
  | false =>
    obtain ⟨z1, z2, z3⟩ := fg_no (f := f) (g := g) (n := n) (by unfold fgB; rw [h1]; rfl)
    have Z1 := Lib.hid z1; have Z2 := Lib.hid z2; have Z3 := Lib.hid z3; clear z1 z2 z3
    have cX_0 := SX.out.cell 0 (v := .int .i64 f) rfl
    have cX_1 := SX.out.cell 1 (v := .slice va g.length vc) rfl
    have cN_0 := SN.out.cell 0 (v := .int .i64 n) rfl
    have cR_0 := SR.out.cell 0 (v := .int .i64 0) rfl
    have cR_1 := SR.out.cell 1 (v := .slice none 0 0) rfl
    have fR_0 := SR.out.frozen 0
    have fR_1 := SR.out.frozen 1
    have sF := (SR.out.set 0 (.int .i64 0)).set 1 (.slice none 0 0)
    have e0 := sF.cell 0 (v := .int .i64 0) rfl
    have e1 := sF.cell 1 (v := .slice none 0 0) rfl
    clear sF
    go_wp2
    refine bodyPost_ret (v := .tuple #[.agg #[.int .i64 0, .slice none 0 0], .bool false]) (by simp [results, Try.f16, go_sem, e0, e1]) rfl ?_
    rw [Z1.out, Z2.out, Z3.out]
    exact ⟨_, rfl, OwnR.nil ⟨rfl, .inl ⟨rfl, rfl⟩⟩ (fun g e => by cases e), (Hb.out.setCell (p := ⟨w.heap.size + 2, 0, none⟩) (by simp only; omega) _).setCell (p := ⟨w.heap.size + 2, 1, none⟩) (by simp only; omega) _⟩
  | true =>
  by_cases hq1 : n < f
  case pos =>
    obtain ⟨z1, z2, z3⟩ := fg_no (f := f) (g := g) (n := n) (by unfold fgB; rw [h1, decide_eq_false (by omega)]; rfl)
    have Z1 := Lib.hid z1; have Z2 := Lib.hid z2; have Z3 := Lib.hid z3; clear z1 z2 z3
    have cX_0 := SX.out.cell 0 (v := .int .i64 f) rfl
    have cX_1 := SX.out.cell 1 (v := .slice va g.length vc) rfl
    have cN_0 := SN.out.cell 0 (v := .int .i64 n) rfl
    have cR_0 := SR.out.cell 0 (v := .int .i64 0) rfl
    have cR_1 := SR.out.cell 1 (v := .slice none 0 0) rfl
    have fR_0 := SR.out.frozen 0
    have fR_1 := SR.out.frozen 1
    have sF := (SR.out.set 0 (.int .i64 0)).set 1 (.slice none 0 0)
    have e0 := sF.cell 0 (v := .int .i64 0) rfl
    have e1 := sF.cell 1 (v := .slice none 0 0) rfl
    clear sF
    go_wp2
    refine bodyPost_ret (v := .tuple #[.agg #[.int .i64 0, .slice none 0 0], .bool false]) (by simp [results, Try.f16, go_sem, e0, e1]) rfl ?_
    rw [Z1.out, Z2.out, Z3.out]
    exact ⟨_, rfl, OwnR.nil ⟨rfl, .inl ⟨rfl, rfl⟩⟩ (fun g e => by cases e), (Hb.out.setCell (p := ⟨w.heap.size + 2, 0, none⟩) (by simp only; omega) _).setCell (p := ⟨w.heap.size + 2, 1, none⟩) (by simp only; omega) _⟩
  by_cases hq2 : 31 < n
  case pos =>
    obtain ⟨z1, z2, z3⟩ := fg_no (f := f) (g := g) (n := n) (by unfold fgB; rw [h1, decide_eq_false (by omega)]; rfl)
    have Z1 := Lib.hid z1; have Z2 := Lib.hid z2; have Z3 := Lib.hid z3; clear z1 z2 z3
    have cX_0 := SX.out.cell 0 (v := .int .i64 f) rfl
    have cX_1 := SX.out.cell 1 (v := .slice va g.length vc) rfl
    have cN_0 := SN.out.cell 0 (v := .int .i64 n) rfl
    have cR_0 := SR.out.cell 0 (v := .int .i64 0) rfl
    have cR_1 := SR.out.cell 1 (v := .slice none 0 0) rfl
    have fR_0 := SR.out.frozen 0
    have fR_1 := SR.out.frozen 1
    have sF := (SR.out.set 0 (.int .i64 0)).set 1 (.slice none 0 0)
    have e0 := sF.cell 0 (v := .int .i64 0) rfl
    have e1 := sF.cell 1 (v := .slice none 0 0) rfl
    clear sF
    go_wp2
    refine bodyPost_ret (v := .tuple #[.agg #[.int .i64 0, .slice none 0 0], .bool false]) (by simp [results, Try.f16, go_sem, e0, e1]) rfl ?_
    rw [Z1.out, Z2.out, Z3.out]
    exact ⟨_, rfl, OwnR.nil ⟨rfl, .inl ⟨rfl, rfl⟩⟩ (fun g e => by cases e), (Hb.out.setCell (p := ⟨w.heap.size + 2, 0, none⟩) (by simp only; omega) _).setCell (p := ⟨w.heap.size + 2, 1, none⟩) (by simp only; omega) _⟩
  obtain ⟨z1, z2, z3⟩ := fg_yes (f := f) (g := g) (n := n) (by unfold fgB; rw [h1, decide_eq_true (by omega)]; rfl)
  obtain ⟨hl0, hl1, hl2⟩ := voter_len h1
  have hvn := voter_forget h1 (f' := n) (by omega)
  have Hvn := Lib.hid hvn
  have Z1 := Lib.hid z1; have Z2 := Lib.hid z2; have Z3 := Lib.hid z3; clear z1 z2 z3 hvn
  have H1 := Lib.hid h1
  have cX_0 := SX.out.cell 0 (v := .int .i64 f) rfl
  have cX_1 := SX.out.cell 1 (v := .slice va g.length vc) rfl
  have cN_0 := SN.out.cell 0 (v := .int .i64 n) rfl
  go_wp2_with fail
  refine (impl_votesOf g _ fp _ hbig (voter_I H1.out) (voter_apart H1.out) Hg.out).mono ?_
  rintro e w3 ⟨b, rfl, hbb, hM, hb3⟩
  clear cX_0 cX_1 cN_0
  have HM := Lib.hid hM; clear hM
  have SX := Lib.hid (show Str w3 (w.heap.size) 25 #[.int .i64 f, .slice va g.length vc] from (hb3.block _ SX.out.lt).trans SX.out)
  have SN := Lib.hid (show Str w3 (w.heap.size + 1) 3 #[.int .i64 n] from (hb3.block _ SN.out.lt).trans SN.out)
  have SR := Lib.hid (show Str w3 (w.heap.size + 2) 25 #[.int .i64 0, .slice none 0 0] from (hb3.block _ SR.out.lt).trans SR.out)
  have Hg := Lib.hid (Hg.out.under hb3)
  have hsw3 := hb3.size
  have Hb := Lib.hid (below_step Hb.out Hb.out.size hb3)
  clear hb3 h1
  clear Hg
  have cN_0 := SN.out.cell 0 (v := .int .i64 n) rfl
  go_wp2_with fail
  refine (votes_forget b (w.heap.size + 1) n g.reverse _ HM.out SN.out (by omega)).mono ?_
  rintro e wm ⟨rfl, gc, hMm, hmem, hgl, hgm⟩
  clear cN_0
  have SX := Lib.hid (show Str wm (w.heap.size) 25 #[.int .i64 f, .slice va g.length vc] from SX.out.kept hgm (by simp; omega))
  have SN := Lib.hid (show Str wm (w.heap.size + 1) 3 #[.int .i64 n] from SN.out.kept hgm (by simp; omega))
  have SR := Lib.hid (show Str wm (w.heap.size + 2) 25 #[.int .i64 0, .slice none 0 0] from SR.out.kept hgm (by simp; omega))
  have HM := Lib.hid hMm
  have Hmem := Lib.hid hmem
  rw [List.length_reverse] at hgl
  have hgl2 : gc.length ≤ 1048576 := by omega
  have Hgl := Lib.hid hgl2
  have Hb := Lib.hid (Hb.out.grown hgm Hb.out.size (fun q e => by cases e; omega))
  have hsm := hgm.size
  clear hMm hgm hmem hgl hgl2
  have cN_0 := SN.out.cell 0 (v := .int .i64 n) rfl
  go_wp2_with fail
  clear cN_0
  have SX := Lib.hid (show Str wm.drew (w.heap.size) 25 #[.int .i64 f, .slice va g.length vc] from SX.out)
  have SN := Lib.hid (show Str wm.drew (w.heap.size + 1) 3 #[.int .i64 n] from SN.out)
  have SR := Lib.hid (show Str wm.drew (w.heap.size + 2) 25 #[.int .i64 0, .slice none 0 0] from SR.out)
  have HM := Lib.hid (show MapV wm.drew b (gc) from HM.out.drew)
  have Hb := Lib.hid Hb.out.drew
  have hzwd : wm.drew.heap.size = wm.heap.size := rfl
  refine wp_region_L 5 (fun w' => w'.cell? ⟨w.heap.size + 1, 0, none⟩ = some (.int .i64 n)) (by kernel_rfl) (SN.out.cell 0 (v := .int .i64 n) rfl) (fun hH => ?_)
  generalize wm.drew = wd at *
  refine takeL 0 (v := ?vt1) rfl (by kernel_rfl) (by kernel_rfl) (by kernel_rfl) (by kernel_rfl) (by kernel_rfl) (fun _ _ _ h => h) hH rfl ?yt1 ?rt1
  case yt1 => intro W hSw; go_simp; try with_reducible rfl
  try simp only [Act.put, List.setIfInBounds_toArray, List.set_cons_zero, List.set_cons_succ]
  refine takeL 1 (v := ?vt2) rfl (by kernel_rfl) (by kernel_rfl) (by kernel_rfl) (by kernel_rfl) (by kernel_rfl) (fun _ _ _ h => h) hH rfl ?yt2 ?rt2
  case yt2 => intro W hSw; go_simp; try with_reducible rfl
  try simp only [Act.put, List.setIfInBounds_toArray, List.set_cons_zero, List.set_cons_succ]
  refine callL 2 rfl (by kernel_rfl) rfl (fun K hK => ?_)
  go_simp
  go_at_call 43
  refine (votes_list b (gc) _ Hgl.out HM.out).mono ?_
  rintro e w6 ⟨vl, G, rfl, hG1, hG2, hoG, hb6⟩
  obtain ⟨al, cl, rfl, _⟩ := hoG.slice
  rw [List.length_map] at *
  have SX := Lib.hid (show Str w6 (w.heap.size) 25 #[.int .i64 f, .slice va g.length vc] from (hb6.block _ SX.out.lt).trans SX.out)
  have SN := Lib.hid (show Str w6 (w.heap.size + 1) 3 #[.int .i64 n] from (hb6.block _ SN.out.lt).trans SN.out)
  have SR := Lib.hid (show Str w6 (w.heap.size + 2) 25 #[.int .i64 0, .slice none 0 0] from (hb6.block _ SR.out.lt).trans SR.out)
  have HM := Lib.hid (show MapV w6 b (gc) from HM.out.kept (below_grown hb6) (by simp))
  have hsw6 := hb6.size
  have Hb := Lib.hid (below_step Hb.out Hb.out.size hb6)
  have hGe : G = forgetG n g := sorted_ext _ _ hG1 (voter_sorted Hvn.out) (fun x => by rw [hG2 x, Hmem.out x]; unfold forgetG; simp)
  subst hGe
  have Ho := Lib.hid hoG; clear hoG hG1 hG2 hb6
  generalize hgs : forgetG n g = G at *
  clear hgs
  refine hK.out _ _ (SN.out.cell 0 (v := .int .i64 n) rfl) (fun hH => ?_)
  clear hK K
  try simp only [Act.put, List.setIfInBounds_toArray, List.set_cons_zero, List.set_cons_succ]
  refine takeL 3 (v := ?vt3) rfl (by kernel_rfl) (by kernel_rfl) (by kernel_rfl) (by kernel_rfl) (by kernel_rfl) (fun _ _ _ h => h) hH rfl ?yt3 ?rt3
  case yt3 => intro W hSw; go_simp; try with_reducible rfl
  try simp only [Act.put, List.setIfInBounds_toArray, List.set_cons_zero, List.set_cons_succ]
  have cR_0 := SR.out.cell 0 (v := .int .i64 0) rfl
  have cR_1 := SR.out.cell 1 (v := .slice none 0 0) rfl
  have fR_0 := SR.out.frozen 0
  have fR_1 := SR.out.frozen 1
  refine callL 4 rfl (by kernel_rfl) rfl (fun K hK => ?_)
  go_simp
  clear cR_0 cR_1 fR_0 fR_1
  have sF := (SR.out.set 0 (.int .i64 n)).set 1 (.slice al G.length cl)
  have SN := Lib.hid (show Str ((w6.setCell ⟨w.heap.size + 2, 0, none⟩ (.int .i64 n)).setCell ⟨w.heap.size + 2, 1, none⟩ (.slice al G.length cl)) (w.heap.size + 1) 3 #[.int .i64 n] from (SN.out.other (by omega) _ _).other (by omega) _ _)
  have hz8 : ((w6.setCell ⟨w.heap.size + 2, 0, none⟩ (.int .i64 n)).setCell ⟨w.heap.size + 2, 1, none⟩ (.slice al G.length cl)).heap.size = w6.heap.size := by simp
  have Ho := Lib.hid (ownR_set (g' := w.heap.size + 2) (ownR_set (g' := w.heap.size + 2) Ho.out (Nat.le_refl _) (by omega) 0 (.int .i64 n)) (by simp) (by omega) 1 (.slice al G.length cl))
  have Hb := Lib.hid ((Hb.out.setCell (p := ⟨w.heap.size + 2, 0, none⟩) (by simp only; omega) (.int .i64 n)).setCell (p := ⟨w.heap.size + 2, 1, none⟩) (by simp only; omega) (.slice al G.length cl))
  refine hK.out _ _ (SN.out.cell 0 (v := .int .i64 n) rfl) (fun hH => ?_)
  generalize ((w6.setCell ⟨w.heap.size + 2, 0, none⟩ (.int .i64 n)).setCell ⟨w.heap.size + 2, 1, none⟩ (.slice al G.length cl)) = w8 at *
  clear hK K
  try simp only [Act.put, List.setIfInBounds_toArray, List.set_cons_zero, List.set_cons_succ]
  refine lastL rfl (by kernel_rfl) (by kernel_rfl) (by kernel_rfl) rfl (fun K hK => ?_)
  go_simp
  refine hK.out _ _ ?_
  clear hK K hH
  try simp only [Act.put]
  have e0 := sF.cell 0 (v := .int .i64 n) rfl
  have e1 := sF.cell 1 (v := .slice al G.length cl) rfl
  clear sF
  go_wp2
  refine bodyPost_ret (v := .tuple #[.agg #[.int .i64 n, .slice al G.length cl], .bool true]) (by simp [results, Try.f16, go_sem, e0, e1]) rfl ?_
  rw [Z1.out, Z2.out, Z3.out]
  refine ⟨_, rfl, OwnR.mono (OwnR.from Ho.out ?_) ?_, Hb.out⟩
  · omega
  · first | exact Nat.le_refl _ | omega | (simp only [World.size_setCell]; omega)

end Go.Proofs.Ytkndndcjchlpdaa
