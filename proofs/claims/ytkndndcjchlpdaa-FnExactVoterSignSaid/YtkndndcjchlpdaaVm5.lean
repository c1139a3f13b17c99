/- impl.VoterSign, by a walk of its text; condition: the list is shorter than 2^40. -/
import Derived.Test.YtkndndcjchlpdaaRows
import Derived.Test.YtkndndcjchlpdaaVm2
import Derived.Test.YtkndndcjchlpdaaVm4
import Derived.Test.YtkndndcjchlpdaaVc2
import Derived.Test.YtkndndcjchlpdaaVq1
import Derived.Test.YtkndndcjchlpdaaRVoter
import Derived.Test.YtkndndcjchlpdaaEx
import Derived.Deep.QuietTactic
import Derived.BigQuiet
namespace Go.Proofs.Ytkndndcjchlpdaa
open Go.RowKit

set_option maxHeartbeats 8000000 in
set_option maxRecDepth 8000 in
theorem impl_VoterSign (f : Int) (g : List Vt) (v : Value) (fp : List Nat) (ur ua ud : Int) (w : World) (hbig : g.length ≤ 1099511627776) (hg : Vts w g v fp) :
    Calls Try.prog 12 #[.agg #[.int .i64 f, v], .agg #[.int .i64 ur, .int .i64 ua, .int .i64 ud]] w fun e w' => ∃ vv, e = .returned (.tuple #[.agg #[.int .i64 (sgF f g ⟨ur, ua, ud⟩), vv], .bool (sgB f g ⟨ur, ua, ud⟩)]) ∧ OwnR 27 3 3 w' w.heap.size w'.heap.size vv ((sgG f g ⟨ur, ua, ud⟩).map Vt.fd) ∧ Below w.heap.size w w' := by
  obtain ⟨va, vc, rfl⟩ := hg.slice
  have hb0 : Below w.heap.size w (((w.alloc (.cells #[.int .i64 f, .slice va g.length vc] 25)).alloc (.cells #[.int .i64 ur, .int .i64 ua, .int .i64 ud] 27)).alloc (.cells #[.int .i64 0, .slice none 0 0] 25)) := (((Below.refl _ _).alloc (Nat.le_refl _) _).alloc (by simp) _).alloc (by simp; omega) _
  have sx := ((Str.new w 25 #[.int .i64 f, .slice va g.length vc]).alloc (.cells #[.int .i64 ur, .int .i64 ua, .int .i64 ud] 27)).alloc (.cells #[.int .i64 0, .slice none 0 0] 25)
  have sv := (Str.new (w.alloc (.cells #[.int .i64 f, .slice va g.length vc] 25)) 27 #[.int .i64 ur, .int .i64 ua, .int .i64 ud]).alloc (.cells #[.int .i64 0, .slice none 0 0] 25)
  have sr := Str.new ((w.alloc (.cells #[.int .i64 f, .slice va g.length vc] 25)).alloc (.cells #[.int .i64 ur, .int .i64 ua, .int .i64 ud] 27)) 25 #[.int .i64 0, .slice none 0 0]
  have hz0 : (((w.alloc (.cells #[.int .i64 f, .slice va g.length vc] 25)).alloc (.cells #[.int .i64 ur, .int .i64 ua, .int .i64 ud] 27)).alloc (.cells #[.int .i64 0, .slice none 0 0] 25)).heap.size = w.heap.size + 3 := by simp
  simp only [World.size_alloc] at sv sr
  have SX := Lib.hid (show Str (((w.alloc (.cells #[.int .i64 f, .slice va g.length vc] 25)).alloc (.cells #[.int .i64 ur, .int .i64 ua, .int .i64 ud] 27)).alloc (.cells #[.int .i64 0, .slice none 0 0] 25)) (w.heap.size) 25 #[.int .i64 f, .slice va g.length vc] from sx)
  have SV := Lib.hid (show Str (((w.alloc (.cells #[.int .i64 f, .slice va g.length vc] 25)).alloc (.cells #[.int .i64 ur, .int .i64 ua, .int .i64 ud] 27)).alloc (.cells #[.int .i64 0, .slice none 0 0] 25)) (w.heap.size + 1) 27 #[.int .i64 ur, .int .i64 ua, .int .i64 ud] from sv)
  have SR := Lib.hid (show Str (((w.alloc (.cells #[.int .i64 f, .slice va g.length vc] 25)).alloc (.cells #[.int .i64 ur, .int .i64 ua, .int .i64 ud] 27)).alloc (.cells #[.int .i64 0, .slice none 0 0] 25)) (w.heap.size + 2) 25 #[.int .i64 0, .slice none 0 0] from sr)
  have Hg := Lib.hid (hg.under hb0)
  have Hb := Lib.hid hb0
  clear sx sv sr hb0 hg
  skip
  go_enter Try.func12, Try.ntmps12
  have cX_0 := SX.out.cell 0 (v := .int .i64 f) rfl
  have cX_1 := SX.out.cell 1 (v := .slice va g.length vc) rfl
  have cV_0 := SV.out.cell 0 (v := .int .i64 ur) rfl
  have cV_1 := SV.out.cell 1 (v := .int .i64 ua) rfl
  have cV_2 := SV.out.cell 2 (v := .int .i64 ud) rfl
  go_wp2_with fail
  generalize (((w.alloc (.cells #[.int .i64 f, .slice va g.length vc] 25)).alloc (.cells #[.int .i64 ur, .int .i64 ua, .int .i64 ud] 27)).alloc (.cells #[.int .i64 0, .slice none 0 0] 25)) = W0 at *
  refine (impl_VoterValid f g _ fp _ hbig Hg.out).mono ?_
  rintro e w1 ⟨rfl, hb1⟩
  clear cX_0 cX_1 cV_0 cV_1 cV_2
  have SX := Lib.hid (show Str w1 (w.heap.size) 25 #[.int .i64 f, .slice va g.length vc] from (hb1.block _ SX.out.lt).trans SX.out)
  have SV := Lib.hid (show Str w1 (w.heap.size + 1) 27 #[.int .i64 ur, .int .i64 ua, .int .i64 ud] from (hb1.block _ SV.out.lt).trans SV.out)
  have SR := Lib.hid (show Str w1 (w.heap.size + 2) 25 #[.int .i64 0, .slice none 0 0] from (hb1.block _ SR.out.lt).trans SR.out)
  have Hg := Lib.hid (Hg.out.under hb1)
  have hsw1 := hb1.size
  have Hb := Lib.hid (below_step Hb.out Hb.out.size hb1)
  clear hb1
  cases h1 : voterB f g with
  | false =>
    obtain ⟨z1, z2, z3⟩ := sg_no (f := f) (g := g) (v := ⟨ur, ua, ud⟩) (by rw [h1]; rfl)
    have Z1 := Lib.hid z1; have Z2 := Lib.hid z2; have Z3 := Lib.hid z3; clear z1 z2 z3
    have cX_0 := SX.out.cell 0 (v := .int .i64 f) rfl
    have cX_1 := SX.out.cell 1 (v := .slice va g.length vc) rfl
    have cV_0 := SV.out.cell 0 (v := .int .i64 ur) rfl
    have cV_1 := SV.out.cell 1 (v := .int .i64 ua) rfl
    have cV_2 := SV.out.cell 2 (v := .int .i64 ud) rfl
    have cR_0 := SR.out.cell 0 (v := .int .i64 0) rfl
    have cR_1 := SR.out.cell 1 (v := .slice none 0 0) rfl
    have fR_0 := SR.out.frozen 0
    have fR_1 := SR.out.frozen 1
    have sF := (SR.out.set 0 (.int .i64 0)).set 1 (.slice none 0 0)
    have e0 := sF.cell 0 (v := .int .i64 0) rfl
    have e1 := sF.cell 1 (v := .slice none 0 0) rfl
    clear sF
    go_wp2
    refine bodyPost_ret (v := .tuple #[.agg #[.int .i64 0, .slice none 0 0], .bool false]) (by simp [results, Try.f12, go_sem, e0, e1]) rfl ?_
    rw [Z1.out, Z2.out, Z3.out]
    exact ⟨_, rfl, OwnR.nil ⟨rfl, .inl ⟨rfl, rfl⟩⟩ (fun g e => by cases e), (Hb.out.setCell (p := ⟨w.heap.size + 2, 0, none⟩) (by simp only; omega) _).setCell (p := ⟨w.heap.size + 2, 1, none⟩) (by simp only; omega) _⟩
  | true =>
  have cX_0 := SX.out.cell 0 (v := .int .i64 f) rfl
  have cX_1 := SX.out.cell 1 (v := .slice va g.length vc) rfl
  have cV_0 := SV.out.cell 0 (v := .int .i64 ur) rfl
  have cV_1 := SV.out.cell 1 (v := .int .i64 ua) rfl
  have cV_2 := SV.out.cell 2 (v := .int .i64 ud) rfl
  go_wp2_with fail
  refine (vote_valid ur ua ud _).mono ?_
  rintro e w2 ⟨rfl, hb2⟩
  clear cX_0 cX_1 cV_0 cV_1 cV_2
  have SX := Lib.hid (show Str w2 (w.heap.size) 25 #[.int .i64 f, .slice va g.length vc] from (hb2.block _ SX.out.lt).trans SX.out)
  have SV := Lib.hid (show Str w2 (w.heap.size + 1) 27 #[.int .i64 ur, .int .i64 ua, .int .i64 ud] from (hb2.block _ SV.out.lt).trans SV.out)
  have SR := Lib.hid (show Str w2 (w.heap.size + 2) 25 #[.int .i64 0, .slice none 0 0] from (hb2.block _ SR.out.lt).trans SR.out)
  have Hg := Lib.hid (Hg.out.under hb2)
  have hsw2 := hb2.size
  have Hb := Lib.hid (below_step Hb.out Hb.out.size hb2)
  clear hb2
  cases h2 : voteB ⟨ur, ua, ud⟩ with
  | false =>
    obtain ⟨z1, z2, z3⟩ := sg_no (f := f) (g := g) (v := ⟨ur, ua, ud⟩) (by rw [h1, h2]; rfl)
    have Z1 := Lib.hid z1; have Z2 := Lib.hid z2; have Z3 := Lib.hid z3; clear z1 z2 z3
    have cX_0 := SX.out.cell 0 (v := .int .i64 f) rfl
    have cX_1 := SX.out.cell 1 (v := .slice va g.length vc) rfl
    have cV_0 := SV.out.cell 0 (v := .int .i64 ur) rfl
    have cV_1 := SV.out.cell 1 (v := .int .i64 ua) rfl
    have cV_2 := SV.out.cell 2 (v := .int .i64 ud) rfl
    have cR_0 := SR.out.cell 0 (v := .int .i64 0) rfl
    have cR_1 := SR.out.cell 1 (v := .slice none 0 0) rfl
    have fR_0 := SR.out.frozen 0
    have fR_1 := SR.out.frozen 1
    have sF := (SR.out.set 0 (.int .i64 0)).set 1 (.slice none 0 0)
    have e0 := sF.cell 0 (v := .int .i64 0) rfl
    have e1 := sF.cell 1 (v := .slice none 0 0) rfl
    clear sF
    go_wp2
    refine bodyPost_ret (v := .tuple #[.agg #[.int .i64 0, .slice none 0 0], .bool false]) (by simp [results, Try.f12, go_sem, e0, e1]) rfl ?_
    rw [Z1.out, Z2.out, Z3.out]
    exact ⟨_, rfl, OwnR.nil ⟨rfl, .inl ⟨rfl, rfl⟩⟩ (fun g e => by cases e), (Hb.out.setCell (p := ⟨w.heap.size + 2, 0, none⟩) (by simp only; omega) _).setCell (p := ⟨w.heap.size + 2, 1, none⟩) (by simp only; omega) _⟩
  | true =>
  obtain ⟨z1, z2, z3⟩ := sg_yes h1 h2
  have hvi := vote_I h2
  obtain ⟨hvi1, hvi2, hvi3⟩ := hvi
  dsimp only at hvi1 hvi2 hvi3
  obtain ⟨hl0, hl1, hl2⟩ := voter_len h1
  have Z1 := Lib.hid z1; have Z2 := Lib.hid z2; have Z3 := Lib.hid z3; clear z1 z2 z3
  have H1 := Lib.hid h1; have H2 := Lib.hid h2
  have cX_0 := SX.out.cell 0 (v := .int .i64 f) rfl
  have cX_1 := SX.out.cell 1 (v := .slice va g.length vc) rfl
  have cV_0 := SV.out.cell 0 (v := .int .i64 ur) rfl
  have cV_1 := SV.out.cell 1 (v := .int .i64 ua) rfl
  have cV_2 := SV.out.cell 2 (v := .int .i64 ud) rfl
  go_wp2_with fail
  refine (impl_votesOf g _ fp _ hbig (voter_I H1.out) (voter_apart H1.out) Hg.out).mono ?_
  rintro e w3 ⟨b, rfl, hbb, hM, hb3⟩
  clear cX_0 cX_1 cV_0 cV_1 cV_2
  have HM := Lib.hid hM; clear hM
  have SX := Lib.hid (show Str w3 (w.heap.size) 25 #[.int .i64 f, .slice va g.length vc] from (hb3.block _ SX.out.lt).trans SX.out)
  have SV := Lib.hid (show Str w3 (w.heap.size + 1) 27 #[.int .i64 ur, .int .i64 ua, .int .i64 ud] from (hb3.block _ SV.out.lt).trans SV.out)
  have SR := Lib.hid (show Str w3 (w.heap.size + 2) 25 #[.int .i64 0, .slice none 0 0] from (hb3.block _ SR.out.lt).trans SR.out)
  have Hg := Lib.hid (Hg.out.under hb3)
  have hsw3 := hb3.size
  have Hb := Lib.hid (below_step Hb.out Hb.out.size hb3)
  clear hb3
  clear Hg
  have cX_0 := SX.out.cell 0 (v := .int .i64 f) rfl
  have cX_1 := SX.out.cell 1 (v := .slice va g.length vc) rfl
  have cV_0 := SV.out.cell 0 (v := .int .i64 ur) rfl
  have cV_1 := SV.out.cell 1 (v := .int .i64 ua) rfl
  have cV_2 := SV.out.cell 2 (v := .int .i64 ud) rfl
  go_wp2_with fail
  refine (vote_place ur ua ud _).mono ?_
  rintro e w4 ⟨rfl, hb4⟩
  clear cX_0 cX_1 cV_0 cV_1 cV_2
  have SX := Lib.hid (show Str w4 (w.heap.size) 25 #[.int .i64 f, .slice va g.length vc] from (hb4.block _ SX.out.lt).trans SX.out)
  have SV := Lib.hid (show Str w4 (w.heap.size + 1) 27 #[.int .i64 ur, .int .i64 ua, .int .i64 ud] from (hb4.block _ SV.out.lt).trans SV.out)
  have SR := Lib.hid (show Str w4 (w.heap.size + 2) 25 #[.int .i64 0, .slice none 0 0] from (hb4.block _ SR.out.lt).trans SR.out)
  have HM := Lib.hid (show MapV w4 b (g.reverse) from HM.out.kept (below_grown hb4) (by simp))
  have hsw4 := hb4.size
  have Hb := Lib.hid (below_step Hb.out Hb.out.size hb4)
  clear hb4
  obtain ⟨dd, ok, hrun, hok, _⟩ := HM.out.look hvi1 hvi2
  have hmem : (∃ y ∈ g.reverse, y.r = ur ∧ y.a = ua) ↔ ∃ y ∈ g, SamePl y ⟨ur, ua, ud⟩ := by simp [SamePl]
  rw [hmem] at hok
  have Hok := Lib.hid hok; clear hok hmem h1 h2
  cases hoc : ok with
  | true =>
    subst hoc
    have hex := Hok.out.1 rfl
    obtain ⟨s1, s2⟩ := sign_there H1.out hex
    have hfin : ∀ x, x ∈ g.reverse ↔ x ∈ signG f g ⟨ur, ua, ud⟩ := fun x => by rw [s1]; simp
    have hfb : decide ((⟨ur, ua, ud⟩ : Vt) ∈ g.reverse) = signB f g ⟨ur, ua, ud⟩ := by rw [s2]; simp
    clear s1 s2
    have hgl : g.reverse.length ≤ 1048576 := by rw [List.length_reverse]; omega
    have Hfin := Lib.hid hfin; have Hfb := Lib.hid hfb; have Hgl := Lib.hid hgl; clear hfin hfb hgl
    have cX_0 := SX.out.cell 0 (v := .int .i64 f) rfl
    have cX_1 := SX.out.cell 1 (v := .slice va g.length vc) rfl
    have cV_0 := SV.out.cell 0 (v := .int .i64 ur) rfl
    have cV_1 := SV.out.cell 1 (v := .int .i64 ua) rfl
    have cV_2 := SV.out.cell 2 (v := .int .i64 ud) rfl
    go_wp2_with fail
    clear cX_0 cX_1 cV_0 cV_1 cV_2
    have SX := Lib.hid (show Str w4.drew (w.heap.size) 25 #[.int .i64 f, .slice va g.length vc] from SX.out)
    have SV := Lib.hid (show Str w4.drew (w.heap.size + 1) 27 #[.int .i64 ur, .int .i64 ua, .int .i64 ud] from SV.out)
    have SR := Lib.hid (show Str w4.drew (w.heap.size + 2) 25 #[.int .i64 0, .slice none 0 0] from SR.out)
    have HM := Lib.hid (show MapV w4.drew b (g.reverse) from HM.out.drew)
    have Hb := Lib.hid Hb.out.drew
    have hzwd : w4.drew.heap.size = w4.heap.size := rfl
    refine wp_region_L 9 (fun w' => w'.cell? ⟨w.heap.size, 0, none⟩ = some (.int .i64 f) ∧ w'.cell? ⟨w.heap.size, 1, none⟩ = some (.slice va g.length vc) ∧ w'.cell? ⟨w.heap.size + 1, 0, none⟩ = some (.int .i64 ur) ∧ w'.cell? ⟨w.heap.size + 1, 1, none⟩ = some (.int .i64 ua) ∧ w'.cell? ⟨w.heap.size + 1, 2, none⟩ = some (.int .i64 ud)) (by kernel_rfl) ⟨SX.out.cell 0 (v := .int .i64 f) rfl, SX.out.cell 1 (v := .slice va g.length vc) rfl, SV.out.cell 0 (v := .int .i64 ur) rfl, SV.out.cell 1 (v := .int .i64 ua) rfl, SV.out.cell 2 (v := .int .i64 ud) rfl⟩ (fun hH => ?_)
    generalize w4.drew = wd at *
    refine takeL 0 (v := ?vt1) rfl (by kernel_rfl) (by kernel_rfl) (by kernel_rfl) (by kernel_rfl) (by kernel_rfl) (fun _ _ _ h => h) hH rfl ?yt1 ?rt1
    case yt1 => intro W hSw; go_simp; try with_reducible rfl
    try simp only [Act.put, List.setIfInBounds_toArray, List.set_cons_zero, List.set_cons_succ]
    refine takeL 1 (v := ?vt2) rfl (by kernel_rfl) (by kernel_rfl) (by kernel_rfl) (by kernel_rfl) (by kernel_rfl) (fun _ _ _ h => h) hH rfl ?yt2 ?rt2
    case yt2 => intro W hSw; go_simp; try with_reducible rfl
    try simp only [Act.put, List.setIfInBounds_toArray, List.set_cons_zero, List.set_cons_succ]
    refine takeL 2 (v := ?vt3) rfl (by kernel_rfl) (by kernel_rfl) (by kernel_rfl) (by kernel_rfl) (by kernel_rfl) (fun _ _ _ h => h) hH rfl ?yt3 ?rt3
    case yt3 => intro W hSw; go_simp; try with_reducible rfl
    try simp only [Act.put, List.setIfInBounds_toArray, List.set_cons_zero, List.set_cons_succ]
    refine takeL 5 (v := ?vt4) rfl (by kernel_rfl) (by kernel_rfl) (by kernel_rfl) (by kernel_rfl) (by kernel_rfl) (fun _ _ _ h => h) hH rfl ?yt4 ?rt4
    case yt4 => intro W hSw; go_simp; try with_reducible rfl
    try simp only [Act.put, List.setIfInBounds_toArray, List.set_cons_zero, List.set_cons_succ]
    refine takeL 6 (v := ?vt5) rfl (by kernel_rfl) (by kernel_rfl) (by kernel_rfl) (by kernel_rfl) (by kernel_rfl) (fun _ _ _ h => h) hH rfl ?yt5 ?rt5
    case yt5 => intro W hSw; go_simp; try with_reducible rfl
    try simp only [Act.put, List.setIfInBounds_toArray, List.set_cons_zero, List.set_cons_succ]
    refine callL 3 rfl (by kernel_rfl) rfl (fun K hK => ?_)
    go_simp
    go_at_call 43
    refine (votes_list b (g.reverse) _ Hgl.out HM.out).mono ?_
    rintro e w6 ⟨vl, G, rfl, hG1, hG2, hoG, hb6⟩
    obtain ⟨al, cl, rfl, _⟩ := hoG.slice
    rw [List.length_map] at *
    have SX := Lib.hid (show Str w6 (w.heap.size) 25 #[.int .i64 f, .slice va g.length vc] from (hb6.block _ SX.out.lt).trans SX.out)
    have SV := Lib.hid (show Str w6 (w.heap.size + 1) 27 #[.int .i64 ur, .int .i64 ua, .int .i64 ud] from (hb6.block _ SV.out.lt).trans SV.out)
    have SR := Lib.hid (show Str w6 (w.heap.size + 2) 25 #[.int .i64 0, .slice none 0 0] from (hb6.block _ SR.out.lt).trans SR.out)
    have HM := Lib.hid (show MapV w6 b (g.reverse) from HM.out.kept (below_grown hb6) (by simp))
    have hsw6 := hb6.size
    have Hb := Lib.hid (below_step Hb.out Hb.out.size hb6)
    have hGe := sign_ext H1.out H2.out hG1 (fun x => (hG2 x).trans (Hfin.out x))
    subst hGe
    have Ho := Lib.hid hoG; clear hoG hG1 hG2 hb6
    generalize hgs : signG f g ⟨ur, ua, ud⟩ = G at *
    clear hgs
    refine hK.out _ _ ⟨SX.out.cell 0 (v := .int .i64 f) rfl, SX.out.cell 1 (v := .slice va g.length vc) rfl, SV.out.cell 0 (v := .int .i64 ur) rfl, SV.out.cell 1 (v := .int .i64 ua) rfl, SV.out.cell 2 (v := .int .i64 ud) rfl⟩ (fun hH => ?_)
    clear hK K
    try simp only [Act.put, List.setIfInBounds_toArray, List.set_cons_zero, List.set_cons_succ]
    refine takeL 4 (v := ?vt6) rfl (by kernel_rfl) (by kernel_rfl) (by kernel_rfl) (by kernel_rfl) (by kernel_rfl) (fun _ _ _ h => h) hH rfl ?yt6 ?rt6
    case yt6 => intro W hSw; go_simp; try with_reducible rfl
    try simp only [Act.put, List.setIfInBounds_toArray, List.set_cons_zero, List.set_cons_succ]
    refine callL 7 rfl (by kernel_rfl) rfl (fun K hK => ?_)
    go_simp
    go_at_call 44
    refine (votes_has b (g.reverse) ur ua ud _ hvi1 hvi2 HM.out).mono ?_
    rintro e w7 ⟨rfl, hb7⟩
    rw [Hfb.out]
    have Ho := Lib.hid (Ho.out.below hb7 (Nat.le_refl _))
    have SX := Lib.hid (show Str w7 (w.heap.size) 25 #[.int .i64 f, .slice va g.length vc] from (hb7.block _ SX.out.lt).trans SX.out)
    have SV := Lib.hid (show Str w7 (w.heap.size + 1) 27 #[.int .i64 ur, .int .i64 ua, .int .i64 ud] from (hb7.block _ SV.out.lt).trans SV.out)
    have SR := Lib.hid (show Str w7 (w.heap.size + 2) 25 #[.int .i64 0, .slice none 0 0] from (hb7.block _ SR.out.lt).trans SR.out)
    have HM := Lib.hid (show MapV w7 b (g.reverse) from HM.out.kept (below_grown hb7) (by simp))
    have hsw7 := hb7.size
    have Hb := Lib.hid (below_step Hb.out Hb.out.size hb7)
    refine hK.out _ _ ⟨SX.out.cell 0 (v := .int .i64 f) rfl, SX.out.cell 1 (v := .slice va g.length vc) rfl, SV.out.cell 0 (v := .int .i64 ur) rfl, SV.out.cell 1 (v := .int .i64 ua) rfl, SV.out.cell 2 (v := .int .i64 ud) rfl⟩ (fun hH => ?_)
    clear hK K hb7
    try simp only [Act.put, List.setIfInBounds_toArray, List.set_cons_zero, List.set_cons_succ]
    have cR_0 := SR.out.cell 0 (v := .int .i64 0) rfl
    have cR_1 := SR.out.cell 1 (v := .slice none 0 0) rfl
    have fR_0 := SR.out.frozen 0
    have fR_1 := SR.out.frozen 1
    refine callL 8 rfl (by kernel_rfl) rfl (fun K hK => ?_)
    go_simp
    clear cR_0 cR_1 fR_0 fR_1
    have sF := (SR.out.set 0 (.int .i64 f)).set 1 (.slice al G.length cl)
    have SX := Lib.hid (show Str ((w7.setCell ⟨w.heap.size + 2, 0, none⟩ (.int .i64 f)).setCell ⟨w.heap.size + 2, 1, none⟩ (.slice al G.length cl)) (w.heap.size) 25 #[.int .i64 f, .slice va g.length vc] from (SX.out.other (by omega) _ _).other (by omega) _ _)
    have SV := Lib.hid (show Str ((w7.setCell ⟨w.heap.size + 2, 0, none⟩ (.int .i64 f)).setCell ⟨w.heap.size + 2, 1, none⟩ (.slice al G.length cl)) (w.heap.size + 1) 27 #[.int .i64 ur, .int .i64 ua, .int .i64 ud] from (SV.out.other (by omega) _ _).other (by omega) _ _)
    have hz8 : ((w7.setCell ⟨w.heap.size + 2, 0, none⟩ (.int .i64 f)).setCell ⟨w.heap.size + 2, 1, none⟩ (.slice al G.length cl)).heap.size = w7.heap.size := by simp
    have Ho := Lib.hid (ownR_set (g' := w.heap.size + 2) (ownR_set (g' := w.heap.size + 2) Ho.out hsw7 (by omega) 0 (.int .i64 f)) (by simpa using hsw7) (by omega) 1 (.slice al G.length cl))
    have Hb := Lib.hid ((Hb.out.setCell (p := ⟨w.heap.size + 2, 0, none⟩) (by simp only; omega) (.int .i64 f)).setCell (p := ⟨w.heap.size + 2, 1, none⟩) (by simp only; omega) (.slice al G.length cl))
    refine hK.out _ _ ⟨SX.out.cell 0 (v := .int .i64 f) rfl, SX.out.cell 1 (v := .slice va g.length vc) rfl, SV.out.cell 0 (v := .int .i64 ur) rfl, SV.out.cell 1 (v := .int .i64 ua) rfl, SV.out.cell 2 (v := .int .i64 ud) rfl⟩ (fun hH => ?_)
    generalize ((w7.setCell ⟨w.heap.size + 2, 0, none⟩ (.int .i64 f)).setCell ⟨w.heap.size + 2, 1, none⟩ (.slice al G.length cl)) = w8 at *
    clear hK K
    try simp only [Act.put, List.setIfInBounds_toArray, List.set_cons_zero, List.set_cons_succ]
    refine lastL rfl (by kernel_rfl) (by kernel_rfl) (by kernel_rfl) rfl (fun K hK => ?_)
    go_simp
    refine hK.out _ _ ?_
    clear hK K hH
    try simp only [Act.put]
    have e0 := sF.cell 0 (v := .int .i64 f) rfl
    have e1 := sF.cell 1 (v := .slice al G.length cl) rfl
    clear sF
    go_wp2
    refine bodyPost_ret (v := .tuple #[.agg #[.int .i64 f, .slice al G.length cl], .bool (signB f g ⟨ur, ua, ud⟩)]) (by simp [results, Try.f12, go_sem, e0, e1]) rfl ?_
    rw [Z1.out, Z2.out, Z3.out]
    refine ⟨_, rfl, OwnR.mono (OwnR.from Ho.out ?_) ?_, Hb.out⟩
    · omega
    · first | exact Nat.le_refl _ | omega | (simp only [World.size_setCell]; omega)
  | false =>
  subst hoc
  have hno : ∀ y ∈ g, ¬ SamePl y ⟨ur, ua, ud⟩ := fun y hy hs => by have := Hok.out.2 ⟨y, hy, hs⟩; cases this
  have Hno := Lib.hid hno; clear hno
  by_cases hrf : f ≤ ur
  case neg =>
    obtain ⟨s1, s2⟩ := sign_not (f := f) Hno.out (.inl (show ur < f by omega))
    have hfin : ∀ x, x ∈ g.reverse ↔ x ∈ signG f g ⟨ur, ua, ud⟩ := fun x => by rw [s1]; simp
    have hfb : decide ((⟨ur, ua, ud⟩ : Vt) ∈ g.reverse) = signB f g ⟨ur, ua, ud⟩ := by rw [s2]; simp
    clear s1 s2
    have hgl : g.reverse.length ≤ 1048576 := by rw [List.length_reverse]; omega
    have Hfin := Lib.hid hfin; have Hfb := Lib.hid hfb; have Hgl := Lib.hid hgl; clear hfin hfb hgl
    have cX_0 := SX.out.cell 0 (v := .int .i64 f) rfl
    have cX_1 := SX.out.cell 1 (v := .slice va g.length vc) rfl
    have cV_0 := SV.out.cell 0 (v := .int .i64 ur) rfl
    have cV_1 := SV.out.cell 1 (v := .int .i64 ua) rfl
    have cV_2 := SV.out.cell 2 (v := .int .i64 ud) rfl
    go_wp2_with fail
    clear cX_0 cX_1 cV_0 cV_1 cV_2
    have SX := Lib.hid (show Str w4.drew (w.heap.size) 25 #[.int .i64 f, .slice va g.length vc] from SX.out)
    have SV := Lib.hid (show Str w4.drew (w.heap.size + 1) 27 #[.int .i64 ur, .int .i64 ua, .int .i64 ud] from SV.out)
    have SR := Lib.hid (show Str w4.drew (w.heap.size + 2) 25 #[.int .i64 0, .slice none 0 0] from SR.out)
    have HM := Lib.hid (show MapV w4.drew b (g.reverse) from HM.out.drew)
    have Hb := Lib.hid Hb.out.drew
    have hzwd : w4.drew.heap.size = w4.heap.size := rfl
    refine wp_region_L 9 (fun w' => w'.cell? ⟨w.heap.size, 0, none⟩ = some (.int .i64 f) ∧ w'.cell? ⟨w.heap.size, 1, none⟩ = some (.slice va g.length vc) ∧ w'.cell? ⟨w.heap.size + 1, 0, none⟩ = some (.int .i64 ur) ∧ w'.cell? ⟨w.heap.size + 1, 1, none⟩ = some (.int .i64 ua) ∧ w'.cell? ⟨w.heap.size + 1, 2, none⟩ = some (.int .i64 ud)) (by kernel_rfl) ⟨SX.out.cell 0 (v := .int .i64 f) rfl, SX.out.cell 1 (v := .slice va g.length vc) rfl, SV.out.cell 0 (v := .int .i64 ur) rfl, SV.out.cell 1 (v := .int .i64 ua) rfl, SV.out.cell 2 (v := .int .i64 ud) rfl⟩ (fun hH => ?_)
    generalize w4.drew = wd at *
    refine takeL 0 (v := ?vt7) rfl (by kernel_rfl) (by kernel_rfl) (by kernel_rfl) (by kernel_rfl) (by kernel_rfl) (fun _ _ _ h => h) hH rfl ?yt7 ?rt7
    case yt7 => intro W hSw; go_simp; try with_reducible rfl
    try simp only [Act.put, List.setIfInBounds_toArray, List.set_cons_zero, List.set_cons_succ]
    refine takeL 1 (v := ?vt8) rfl (by kernel_rfl) (by kernel_rfl) (by kernel_rfl) (by kernel_rfl) (by kernel_rfl) (fun _ _ _ h => h) hH rfl ?yt8 ?rt8
    case yt8 => intro W hSw; go_simp; try with_reducible rfl
    try simp only [Act.put, List.setIfInBounds_toArray, List.set_cons_zero, List.set_cons_succ]
    refine takeL 2 (v := ?vt9) rfl (by kernel_rfl) (by kernel_rfl) (by kernel_rfl) (by kernel_rfl) (by kernel_rfl) (fun _ _ _ h => h) hH rfl ?yt9 ?rt9
    case yt9 => intro W hSw; go_simp; try with_reducible rfl
    try simp only [Act.put, List.setIfInBounds_toArray, List.set_cons_zero, List.set_cons_succ]
    refine takeL 5 (v := ?vt10) rfl (by kernel_rfl) (by kernel_rfl) (by kernel_rfl) (by kernel_rfl) (by kernel_rfl) (fun _ _ _ h => h) hH rfl ?yt10 ?rt10
    case yt10 => intro W hSw; go_simp; try with_reducible rfl
    try simp only [Act.put, List.setIfInBounds_toArray, List.set_cons_zero, List.set_cons_succ]
    refine takeL 6 (v := ?vt11) rfl (by kernel_rfl) (by kernel_rfl) (by kernel_rfl) (by kernel_rfl) (by kernel_rfl) (fun _ _ _ h => h) hH rfl ?yt11 ?rt11
    case yt11 => intro W hSw; go_simp; try with_reducible rfl
    try simp only [Act.put, List.setIfInBounds_toArray, List.set_cons_zero, List.set_cons_succ]
    refine callL 3 rfl (by kernel_rfl) rfl (fun K hK => ?_)
    go_simp
    go_at_call 43
    refine (votes_list b (g.reverse) _ Hgl.out HM.out).mono ?_
    rintro e w6 ⟨vl, G, rfl, hG1, hG2, hoG, hb6⟩
    obtain ⟨al, cl, rfl, _⟩ := hoG.slice
    rw [List.length_map] at *
    have SX := Lib.hid (show Str w6 (w.heap.size) 25 #[.int .i64 f, .slice va g.length vc] from (hb6.block _ SX.out.lt).trans SX.out)
    have SV := Lib.hid (show Str w6 (w.heap.size + 1) 27 #[.int .i64 ur, .int .i64 ua, .int .i64 ud] from (hb6.block _ SV.out.lt).trans SV.out)
    have SR := Lib.hid (show Str w6 (w.heap.size + 2) 25 #[.int .i64 0, .slice none 0 0] from (hb6.block _ SR.out.lt).trans SR.out)
    have HM := Lib.hid (show MapV w6 b (g.reverse) from HM.out.kept (below_grown hb6) (by simp))
    have hsw6 := hb6.size
    have Hb := Lib.hid (below_step Hb.out Hb.out.size hb6)
    have hGe := sign_ext H1.out H2.out hG1 (fun x => (hG2 x).trans (Hfin.out x))
    subst hGe
    have Ho := Lib.hid hoG; clear hoG hG1 hG2 hb6
    generalize hgs : signG f g ⟨ur, ua, ud⟩ = G at *
    clear hgs
    refine hK.out _ _ ⟨SX.out.cell 0 (v := .int .i64 f) rfl, SX.out.cell 1 (v := .slice va g.length vc) rfl, SV.out.cell 0 (v := .int .i64 ur) rfl, SV.out.cell 1 (v := .int .i64 ua) rfl, SV.out.cell 2 (v := .int .i64 ud) rfl⟩ (fun hH => ?_)
    clear hK K
    try simp only [Act.put, List.setIfInBounds_toArray, List.set_cons_zero, List.set_cons_succ]
    refine takeL 4 (v := ?vt12) rfl (by kernel_rfl) (by kernel_rfl) (by kernel_rfl) (by kernel_rfl) (by kernel_rfl) (fun _ _ _ h => h) hH rfl ?yt12 ?rt12
    case yt12 => intro W hSw; go_simp; try with_reducible rfl
    try simp only [Act.put, List.setIfInBounds_toArray, List.set_cons_zero, List.set_cons_succ]
    refine callL 7 rfl (by kernel_rfl) rfl (fun K hK => ?_)
    go_simp
    go_at_call 44
    refine (votes_has b (g.reverse) ur ua ud _ hvi1 hvi2 HM.out).mono ?_
    rintro e w7 ⟨rfl, hb7⟩
    rw [Hfb.out]
    have Ho := Lib.hid (Ho.out.below hb7 (Nat.le_refl _))
    have SX := Lib.hid (show Str w7 (w.heap.size) 25 #[.int .i64 f, .slice va g.length vc] from (hb7.block _ SX.out.lt).trans SX.out)
    have SV := Lib.hid (show Str w7 (w.heap.size + 1) 27 #[.int .i64 ur, .int .i64 ua, .int .i64 ud] from (hb7.block _ SV.out.lt).trans SV.out)
    have SR := Lib.hid (show Str w7 (w.heap.size + 2) 25 #[.int .i64 0, .slice none 0 0] from (hb7.block _ SR.out.lt).trans SR.out)
    have HM := Lib.hid (show MapV w7 b (g.reverse) from HM.out.kept (below_grown hb7) (by simp))
    have hsw7 := hb7.size
    have Hb := Lib.hid (below_step Hb.out Hb.out.size hb7)
    refine hK.out _ _ ⟨SX.out.cell 0 (v := .int .i64 f) rfl, SX.out.cell 1 (v := .slice va g.length vc) rfl, SV.out.cell 0 (v := .int .i64 ur) rfl, SV.out.cell 1 (v := .int .i64 ua) rfl, SV.out.cell 2 (v := .int .i64 ud) rfl⟩ (fun hH => ?_)
    clear hK K hb7
    try simp only [Act.put, List.setIfInBounds_toArray, List.set_cons_zero, List.set_cons_succ]
    have cR_0 := SR.out.cell 0 (v := .int .i64 0) rfl
    have cR_1 := SR.out.cell 1 (v := .slice none 0 0) rfl
    have fR_0 := SR.out.frozen 0
    have fR_1 := SR.out.frozen 1
    refine callL 8 rfl (by kernel_rfl) rfl (fun K hK => ?_)
    go_simp
    clear cR_0 cR_1 fR_0 fR_1
    have sF := (SR.out.set 0 (.int .i64 f)).set 1 (.slice al G.length cl)
    have SX := Lib.hid (show Str ((w7.setCell ⟨w.heap.size + 2, 0, none⟩ (.int .i64 f)).setCell ⟨w.heap.size + 2, 1, none⟩ (.slice al G.length cl)) (w.heap.size) 25 #[.int .i64 f, .slice va g.length vc] from (SX.out.other (by omega) _ _).other (by omega) _ _)
    have SV := Lib.hid (show Str ((w7.setCell ⟨w.heap.size + 2, 0, none⟩ (.int .i64 f)).setCell ⟨w.heap.size + 2, 1, none⟩ (.slice al G.length cl)) (w.heap.size + 1) 27 #[.int .i64 ur, .int .i64 ua, .int .i64 ud] from (SV.out.other (by omega) _ _).other (by omega) _ _)
    have hz8 : ((w7.setCell ⟨w.heap.size + 2, 0, none⟩ (.int .i64 f)).setCell ⟨w.heap.size + 2, 1, none⟩ (.slice al G.length cl)).heap.size = w7.heap.size := by simp
    have Ho := Lib.hid (ownR_set (g' := w.heap.size + 2) (ownR_set (g' := w.heap.size + 2) Ho.out hsw7 (by omega) 0 (.int .i64 f)) (by simpa using hsw7) (by omega) 1 (.slice al G.length cl))
    have Hb := Lib.hid ((Hb.out.setCell (p := ⟨w.heap.size + 2, 0, none⟩) (by simp only; omega) (.int .i64 f)).setCell (p := ⟨w.heap.size + 2, 1, none⟩) (by simp only; omega) (.slice al G.length cl))
    refine hK.out _ _ ⟨SX.out.cell 0 (v := .int .i64 f) rfl, SX.out.cell 1 (v := .slice va g.length vc) rfl, SV.out.cell 0 (v := .int .i64 ur) rfl, SV.out.cell 1 (v := .int .i64 ua) rfl, SV.out.cell 2 (v := .int .i64 ud) rfl⟩ (fun hH => ?_)
    generalize ((w7.setCell ⟨w.heap.size + 2, 0, none⟩ (.int .i64 f)).setCell ⟨w.heap.size + 2, 1, none⟩ (.slice al G.length cl)) = w8 at *
    clear hK K
    try simp only [Act.put, List.setIfInBounds_toArray, List.set_cons_zero, List.set_cons_succ]
    refine lastL rfl (by kernel_rfl) (by kernel_rfl) (by kernel_rfl) rfl (fun K hK => ?_)
    go_simp
    refine hK.out _ _ ?_
    clear hK K hH
    try simp only [Act.put]
    have e0 := sF.cell 0 (v := .int .i64 f) rfl
    have e1 := sF.cell 1 (v := .slice al G.length cl) rfl
    clear sF
    go_wp2
    refine bodyPost_ret (v := .tuple #[.agg #[.int .i64 f, .slice al G.length cl], .bool (signB f g ⟨ur, ua, ud⟩)]) (by simp [results, Try.f12, go_sem, e0, e1]) rfl ?_
    rw [Z1.out, Z2.out, Z3.out]
    refine ⟨_, rfl, OwnR.mono (OwnR.from Ho.out ?_) ?_, Hb.out⟩
    · omega
    · first | exact Nat.le_refl _ | omega | (simp only [World.size_setCell]; omega)
  have hlen := fun ty => HM.out.len ty
  rw [List.length_reverse] at hlen
  by_cases hl40 : g.length < 40
  case neg =>
    have hl40' : ¬ (g.length : Int) < 40 := by omega
    obtain ⟨s1, s2⟩ := sign_not (f := f) Hno.out (.inr (show 40 ≤ g.length by omega))
    have hfin : ∀ x, x ∈ g.reverse ↔ x ∈ signG f g ⟨ur, ua, ud⟩ := fun x => by rw [s1]; simp
    have hfb : decide ((⟨ur, ua, ud⟩ : Vt) ∈ g.reverse) = signB f g ⟨ur, ua, ud⟩ := by rw [s2]; simp
    clear s1 s2
    have hgl : g.reverse.length ≤ 1048576 := by rw [List.length_reverse]; omega
    have Hfin := Lib.hid hfin; have Hfb := Lib.hid hfb; have Hgl := Lib.hid hgl; clear hfin hfb hgl
    have cX_0 := SX.out.cell 0 (v := .int .i64 f) rfl
    have cX_1 := SX.out.cell 1 (v := .slice va g.length vc) rfl
    have cV_0 := SV.out.cell 0 (v := .int .i64 ur) rfl
    have cV_1 := SV.out.cell 1 (v := .int .i64 ua) rfl
    have cV_2 := SV.out.cell 2 (v := .int .i64 ud) rfl
    go_wp2_with fail
    clear cX_0 cX_1 cV_0 cV_1 cV_2
    have SX := Lib.hid (show Str w4.drew (w.heap.size) 25 #[.int .i64 f, .slice va g.length vc] from SX.out)
    have SV := Lib.hid (show Str w4.drew (w.heap.size + 1) 27 #[.int .i64 ur, .int .i64 ua, .int .i64 ud] from SV.out)
    have SR := Lib.hid (show Str w4.drew (w.heap.size + 2) 25 #[.int .i64 0, .slice none 0 0] from SR.out)
    have HM := Lib.hid (show MapV w4.drew b (g.reverse) from HM.out.drew)
    have Hb := Lib.hid Hb.out.drew
    have hzwd : w4.drew.heap.size = w4.heap.size := rfl
    refine wp_region_L 9 (fun w' => w'.cell? ⟨w.heap.size, 0, none⟩ = some (.int .i64 f) ∧ w'.cell? ⟨w.heap.size, 1, none⟩ = some (.slice va g.length vc) ∧ w'.cell? ⟨w.heap.size + 1, 0, none⟩ = some (.int .i64 ur) ∧ w'.cell? ⟨w.heap.size + 1, 1, none⟩ = some (.int .i64 ua) ∧ w'.cell? ⟨w.heap.size + 1, 2, none⟩ = some (.int .i64 ud)) (by kernel_rfl) ⟨SX.out.cell 0 (v := .int .i64 f) rfl, SX.out.cell 1 (v := .slice va g.length vc) rfl, SV.out.cell 0 (v := .int .i64 ur) rfl, SV.out.cell 1 (v := .int .i64 ua) rfl, SV.out.cell 2 (v := .int .i64 ud) rfl⟩ (fun hH => ?_)
    generalize w4.drew = wd at *
    refine takeL 0 (v := ?vt13) rfl (by kernel_rfl) (by kernel_rfl) (by kernel_rfl) (by kernel_rfl) (by kernel_rfl) (fun _ _ _ h => h) hH rfl ?yt13 ?rt13
    case yt13 => intro W hSw; go_simp; try with_reducible rfl
    try simp only [Act.put, List.setIfInBounds_toArray, List.set_cons_zero, List.set_cons_succ]
    refine takeL 1 (v := ?vt14) rfl (by kernel_rfl) (by kernel_rfl) (by kernel_rfl) (by kernel_rfl) (by kernel_rfl) (fun _ _ _ h => h) hH rfl ?yt14 ?rt14
    case yt14 => intro W hSw; go_simp; try with_reducible rfl
    try simp only [Act.put, List.setIfInBounds_toArray, List.set_cons_zero, List.set_cons_succ]
    refine takeL 2 (v := ?vt15) rfl (by kernel_rfl) (by kernel_rfl) (by kernel_rfl) (by kernel_rfl) (by kernel_rfl) (fun _ _ _ h => h) hH rfl ?yt15 ?rt15
    case yt15 => intro W hSw; go_simp; try with_reducible rfl
    try simp only [Act.put, List.setIfInBounds_toArray, List.set_cons_zero, List.set_cons_succ]
    refine takeL 5 (v := ?vt16) rfl (by kernel_rfl) (by kernel_rfl) (by kernel_rfl) (by kernel_rfl) (by kernel_rfl) (fun _ _ _ h => h) hH rfl ?yt16 ?rt16
    case yt16 => intro W hSw; go_simp; try with_reducible rfl
    try simp only [Act.put, List.setIfInBounds_toArray, List.set_cons_zero, List.set_cons_succ]
    refine takeL 6 (v := ?vt17) rfl (by kernel_rfl) (by kernel_rfl) (by kernel_rfl) (by kernel_rfl) (by kernel_rfl) (fun _ _ _ h => h) hH rfl ?yt17 ?rt17
    case yt17 => intro W hSw; go_simp; try with_reducible rfl
    try simp only [Act.put, List.setIfInBounds_toArray, List.set_cons_zero, List.set_cons_succ]
    refine callL 3 rfl (by kernel_rfl) rfl (fun K hK => ?_)
    go_simp
    go_at_call 43
    refine (votes_list b (g.reverse) _ Hgl.out HM.out).mono ?_
    rintro e w6 ⟨vl, G, rfl, hG1, hG2, hoG, hb6⟩
    obtain ⟨al, cl, rfl, _⟩ := hoG.slice
    rw [List.length_map] at *
    have SX := Lib.hid (show Str w6 (w.heap.size) 25 #[.int .i64 f, .slice va g.length vc] from (hb6.block _ SX.out.lt).trans SX.out)
    have SV := Lib.hid (show Str w6 (w.heap.size + 1) 27 #[.int .i64 ur, .int .i64 ua, .int .i64 ud] from (hb6.block _ SV.out.lt).trans SV.out)
    have SR := Lib.hid (show Str w6 (w.heap.size + 2) 25 #[.int .i64 0, .slice none 0 0] from (hb6.block _ SR.out.lt).trans SR.out)
    have HM := Lib.hid (show MapV w6 b (g.reverse) from HM.out.kept (below_grown hb6) (by simp))
    have hsw6 := hb6.size
    have Hb := Lib.hid (below_step Hb.out Hb.out.size hb6)
    have hGe := sign_ext H1.out H2.out hG1 (fun x => (hG2 x).trans (Hfin.out x))
    subst hGe
    have Ho := Lib.hid hoG; clear hoG hG1 hG2 hb6
    generalize hgs : signG f g ⟨ur, ua, ud⟩ = G at *
    clear hgs
    refine hK.out _ _ ⟨SX.out.cell 0 (v := .int .i64 f) rfl, SX.out.cell 1 (v := .slice va g.length vc) rfl, SV.out.cell 0 (v := .int .i64 ur) rfl, SV.out.cell 1 (v := .int .i64 ua) rfl, SV.out.cell 2 (v := .int .i64 ud) rfl⟩ (fun hH => ?_)
    clear hK K
    try simp only [Act.put, List.setIfInBounds_toArray, List.set_cons_zero, List.set_cons_succ]
    refine takeL 4 (v := ?vt18) rfl (by kernel_rfl) (by kernel_rfl) (by kernel_rfl) (by kernel_rfl) (by kernel_rfl) (fun _ _ _ h => h) hH rfl ?yt18 ?rt18
    case yt18 => intro W hSw; go_simp; try with_reducible rfl
    try simp only [Act.put, List.setIfInBounds_toArray, List.set_cons_zero, List.set_cons_succ]
    refine callL 7 rfl (by kernel_rfl) rfl (fun K hK => ?_)
    go_simp
    go_at_call 44
    refine (votes_has b (g.reverse) ur ua ud _ hvi1 hvi2 HM.out).mono ?_
    rintro e w7 ⟨rfl, hb7⟩
    rw [Hfb.out]
    have Ho := Lib.hid (Ho.out.below hb7 (Nat.le_refl _))
    have SX := Lib.hid (show Str w7 (w.heap.size) 25 #[.int .i64 f, .slice va g.length vc] from (hb7.block _ SX.out.lt).trans SX.out)
    have SV := Lib.hid (show Str w7 (w.heap.size + 1) 27 #[.int .i64 ur, .int .i64 ua, .int .i64 ud] from (hb7.block _ SV.out.lt).trans SV.out)
    have SR := Lib.hid (show Str w7 (w.heap.size + 2) 25 #[.int .i64 0, .slice none 0 0] from (hb7.block _ SR.out.lt).trans SR.out)
    have HM := Lib.hid (show MapV w7 b (g.reverse) from HM.out.kept (below_grown hb7) (by simp))
    have hsw7 := hb7.size
    have Hb := Lib.hid (below_step Hb.out Hb.out.size hb7)
    refine hK.out _ _ ⟨SX.out.cell 0 (v := .int .i64 f) rfl, SX.out.cell 1 (v := .slice va g.length vc) rfl, SV.out.cell 0 (v := .int .i64 ur) rfl, SV.out.cell 1 (v := .int .i64 ua) rfl, SV.out.cell 2 (v := .int .i64 ud) rfl⟩ (fun hH => ?_)
    clear hK K hb7
    try simp only [Act.put, List.setIfInBounds_toArray, List.set_cons_zero, List.set_cons_succ]
    have cR_0 := SR.out.cell 0 (v := .int .i64 0) rfl
    have cR_1 := SR.out.cell 1 (v := .slice none 0 0) rfl
    have fR_0 := SR.out.frozen 0
    have fR_1 := SR.out.frozen 1
    refine callL 8 rfl (by kernel_rfl) rfl (fun K hK => ?_)
    go_simp
    clear cR_0 cR_1 fR_0 fR_1
    have sF := (SR.out.set 0 (.int .i64 f)).set 1 (.slice al G.length cl)
    have SX := Lib.hid (show Str ((w7.setCell ⟨w.heap.size + 2, 0, none⟩ (.int .i64 f)).setCell ⟨w.heap.size + 2, 1, none⟩ (.slice al G.length cl)) (w.heap.size) 25 #[.int .i64 f, .slice va g.length vc] from (SX.out.other (by omega) _ _).other (by omega) _ _)
    have SV := Lib.hid (show Str ((w7.setCell ⟨w.heap.size + 2, 0, none⟩ (.int .i64 f)).setCell ⟨w.heap.size + 2, 1, none⟩ (.slice al G.length cl)) (w.heap.size + 1) 27 #[.int .i64 ur, .int .i64 ua, .int .i64 ud] from (SV.out.other (by omega) _ _).other (by omega) _ _)
    have hz8 : ((w7.setCell ⟨w.heap.size + 2, 0, none⟩ (.int .i64 f)).setCell ⟨w.heap.size + 2, 1, none⟩ (.slice al G.length cl)).heap.size = w7.heap.size := by simp
    have Ho := Lib.hid (ownR_set (g' := w.heap.size + 2) (ownR_set (g' := w.heap.size + 2) Ho.out hsw7 (by omega) 0 (.int .i64 f)) (by simpa using hsw7) (by omega) 1 (.slice al G.length cl))
    have Hb := Lib.hid ((Hb.out.setCell (p := ⟨w.heap.size + 2, 0, none⟩) (by simp only; omega) (.int .i64 f)).setCell (p := ⟨w.heap.size + 2, 1, none⟩) (by simp only; omega) (.slice al G.length cl))
    refine hK.out _ _ ⟨SX.out.cell 0 (v := .int .i64 f) rfl, SX.out.cell 1 (v := .slice va g.length vc) rfl, SV.out.cell 0 (v := .int .i64 ur) rfl, SV.out.cell 1 (v := .int .i64 ua) rfl, SV.out.cell 2 (v := .int .i64 ud) rfl⟩ (fun hH => ?_)
    generalize ((w7.setCell ⟨w.heap.size + 2, 0, none⟩ (.int .i64 f)).setCell ⟨w.heap.size + 2, 1, none⟩ (.slice al G.length cl)) = w8 at *
    clear hK K
    try simp only [Act.put, List.setIfInBounds_toArray, List.set_cons_zero, List.set_cons_succ]
    refine lastL rfl (by kernel_rfl) (by kernel_rfl) (by kernel_rfl) rfl (fun K hK => ?_)
    go_simp
    refine hK.out _ _ ?_
    clear hK K hH
    try simp only [Act.put]
    have e0 := sF.cell 0 (v := .int .i64 f) rfl
    have e1 := sF.cell 1 (v := .slice al G.length cl) rfl
    clear sF
    go_wp2
    refine bodyPost_ret (v := .tuple #[.agg #[.int .i64 f, .slice al G.length cl], .bool (signB f g ⟨ur, ua, ud⟩)]) (by simp [results, Try.f12, go_sem, e0, e1]) rfl ?_
    rw [Z1.out, Z2.out, Z3.out]
    refine ⟨_, rfl, OwnR.mono (OwnR.from Ho.out ?_) ?_, Hb.out⟩
    · omega
    · first | exact Nat.le_refl _ | omega | (simp only [World.size_setCell]; omega)
  have hl40' : (g.length : Int) < 40 := by omega
  have cX_0 := SX.out.cell 0 (v := .int .i64 f) rfl
  have cX_1 := SX.out.cell 1 (v := .slice va g.length vc) rfl
  have cV_0 := SV.out.cell 0 (v := .int .i64 ur) rfl
  have cV_1 := SV.out.cell 1 (v := .int .i64 ua) rfl
  have cV_2 := SV.out.cell 2 (v := .int .i64 ud) rfl
  go_wp2_with fail
  clear cX_0 cX_1 cV_0 cV_1 cV_2
  have SX := Lib.hid (show Str w4.drew (w.heap.size) 25 #[.int .i64 f, .slice va g.length vc] from SX.out)
  have SV := Lib.hid (show Str w4.drew (w.heap.size + 1) 27 #[.int .i64 ur, .int .i64 ua, .int .i64 ud] from SV.out)
  have SR := Lib.hid (show Str w4.drew (w.heap.size + 2) 25 #[.int .i64 0, .slice none 0 0] from SR.out)
  have HM := Lib.hid (show MapV w4.drew b (g.reverse) from HM.out.drew)
  have Hb := Lib.hid Hb.out.drew
  have hzwe : w4.drew.heap.size = w4.heap.size := rfl
  refine wp_region_L 5 (fun w' => w'.cell? ⟨w.heap.size, 0, none⟩ = some (.int .i64 f) ∧ w'.cell? ⟨w.heap.size, 1, none⟩ = some (.slice va g.length vc) ∧ w'.cell? ⟨w.heap.size + 1, 0, none⟩ = some (.int .i64 ur) ∧ w'.cell? ⟨w.heap.size + 1, 1, none⟩ = some (.int .i64 ua) ∧ w'.cell? ⟨w.heap.size + 1, 2, none⟩ = some (.int .i64 ud)) (by kernel_rfl) ⟨SX.out.cell 0 (v := .int .i64 f) rfl, SX.out.cell 1 (v := .slice va g.length vc) rfl, SV.out.cell 0 (v := .int .i64 ur) rfl, SV.out.cell 1 (v := .int .i64 ua) rfl, SV.out.cell 2 (v := .int .i64 ud) rfl⟩ (fun hH => ?_)
  generalize w4.drew = we at *
  refine takeL 0 (v := ?vt19) rfl (by kernel_rfl) (by kernel_rfl) (by kernel_rfl) (by kernel_rfl) (by kernel_rfl) (fun _ _ _ h => h) hH rfl ?yt19 ?rt19
  case yt19 => intro W hSw; go_simp; try with_reducible rfl
  try simp only [Act.put, List.setIfInBounds_toArray, List.set_cons_zero, List.set_cons_succ]
  refine takeL 1 (v := ?vt20) rfl (by kernel_rfl) (by kernel_rfl) (by kernel_rfl) (by kernel_rfl) (by kernel_rfl) (fun _ _ _ h => h) hH rfl ?yt20 ?rt20
  case yt20 => intro W hSw; go_simp; try with_reducible rfl
  try simp only [Act.put, List.setIfInBounds_toArray, List.set_cons_zero, List.set_cons_succ]
  refine takeL 3 (v := ?vt21) rfl (by kernel_rfl) (by kernel_rfl) (by kernel_rfl) (by kernel_rfl) (by kernel_rfl) (fun _ _ _ h => h) hH rfl ?yt21 ?rt21
  case yt21 => intro W hSw; go_simp; try with_reducible rfl
  try simp only [Act.put, List.setIfInBounds_toArray, List.set_cons_zero, List.set_cons_succ]
  refine takeL 4 (v := ?vt22) rfl (by kernel_rfl) (by kernel_rfl) (by kernel_rfl) (by kernel_rfl) (by kernel_rfl) (fun _ _ _ h => h) hH rfl ?yt22 ?rt22
  case yt22 => intro W hSw; go_simp; try with_reducible rfl
  try simp only [Act.put, List.setIfInBounds_toArray, List.set_cons_zero, List.set_cons_succ]
  refine callL 2 rfl (by kernel_rfl) rfl (fun K hK => ?_)
  go_simp
  go_at_call 42
  refine (vote_place ur ua ud _).mono ?_
  rintro e w5 ⟨rfl, hb5⟩
  have SX := Lib.hid (show Str w5 (w.heap.size) 25 #[.int .i64 f, .slice va g.length vc] from (hb5.block _ SX.out.lt).trans SX.out)
  have SV := Lib.hid (show Str w5 (w.heap.size + 1) 27 #[.int .i64 ur, .int .i64 ua, .int .i64 ud] from (hb5.block _ SV.out.lt).trans SV.out)
  have SR := Lib.hid (show Str w5 (w.heap.size + 2) 25 #[.int .i64 0, .slice none 0 0] from (hb5.block _ SR.out.lt).trans SR.out)
  have HM := Lib.hid (show MapV w5 b (g.reverse) from HM.out.kept (below_grown hb5) (by simp))
  have hsw5 := hb5.size
  have Hb := Lib.hid (below_step Hb.out Hb.out.size hb5)
  refine hK.out _ _ ⟨SX.out.cell 0 (v := .int .i64 f) rfl, SX.out.cell 1 (v := .slice va g.length vc) rfl, SV.out.cell 0 (v := .int .i64 ur) rfl, SV.out.cell 1 (v := .int .i64 ua) rfl, SV.out.cell 2 (v := .int .i64 ud) rfl⟩ (fun hH => ?_)
  clear hK K hb5
  try simp only [Act.put, List.setIfInBounds_toArray, List.set_cons_zero, List.set_cons_succ]
  clear hrun hlen
  obtain ⟨wm, hrun, hMm, hgm⟩ := HM.out.store (v := ⟨ur, ua, ud⟩) ⟨hvi1, hvi2, hvi3⟩ (fun y hy => Hno.out y (List.mem_reverse.1 hy)) (by rw [List.length_reverse]; omega)
  dsimp only at hrun
  refine lastL rfl (by kernel_rfl) (by kernel_rfl) (by kernel_rfl) rfl (fun K hK => ?_)
  go_simp
  refine hK.out _ _ ?_
  clear hK K hH hrun
  try simp only [Act.put]
  have SX := Lib.hid (show Str wm (w.heap.size) 25 #[.int .i64 f, .slice va g.length vc] from SX.out.kept hgm (by simp; omega))
  have SV := Lib.hid (show Str wm (w.heap.size + 1) 27 #[.int .i64 ur, .int .i64 ua, .int .i64 ud] from SV.out.kept hgm (by simp; omega))
  have SR := Lib.hid (show Str wm (w.heap.size + 2) 25 #[.int .i64 0, .slice none 0 0] from SR.out.kept hgm (by simp; omega))
  have HM := Lib.hid hMm
  have Hb := Lib.hid (Hb.out.grown hgm Hb.out.size (fun q e => by cases e; omega))
  have hsm := hgm.size
  clear hMm hgm
  obtain ⟨s1, s2⟩ := sign_new H1.out Hno.out hrf hl40
  have hfin : ∀ x, x ∈ (⟨ur, ua, ud⟩ : Vt) :: g.reverse ↔ x ∈ signG f g ⟨ur, ua, ud⟩ := fun x => by rw [s2]; simp
  have hfb : decide ((⟨ur, ua, ud⟩ : Vt) ∈ (⟨ur, ua, ud⟩ : Vt) :: g.reverse) = signB f g ⟨ur, ua, ud⟩ := by rw [s1]; simp
  clear s1 s2
  have hgl : ((⟨ur, ua, ud⟩ : Vt) :: g.reverse).length ≤ 1048576 := by rw [List.length_cons, List.length_reverse]; omega
  have Hfin := Lib.hid hfin; have Hfb := Lib.hid hfb; have Hgl := Lib.hid hgl; clear hfin hfb hgl
  have cX_0 := SX.out.cell 0 (v := .int .i64 f) rfl
  have cX_1 := SX.out.cell 1 (v := .slice va g.length vc) rfl
  have cV_0 := SV.out.cell 0 (v := .int .i64 ur) rfl
  have cV_1 := SV.out.cell 1 (v := .int .i64 ua) rfl
  have cV_2 := SV.out.cell 2 (v := .int .i64 ud) rfl
  go_wp2_with fail
  clear cX_0 cX_1 cV_0 cV_1 cV_2
  have SX := Lib.hid (show Str wm.drew (w.heap.size) 25 #[.int .i64 f, .slice va g.length vc] from SX.out)
  have SV := Lib.hid (show Str wm.drew (w.heap.size + 1) 27 #[.int .i64 ur, .int .i64 ua, .int .i64 ud] from SV.out)
  have SR := Lib.hid (show Str wm.drew (w.heap.size + 2) 25 #[.int .i64 0, .slice none 0 0] from SR.out)
  have HM := Lib.hid (show MapV wm.drew b ((⟨ur, ua, ud⟩ : Vt) :: g.reverse) from HM.out.drew)
  have Hb := Lib.hid Hb.out.drew
  have hzwd : wm.drew.heap.size = wm.heap.size := rfl
  refine wp_region_L 9 (fun w' => w'.cell? ⟨w.heap.size, 0, none⟩ = some (.int .i64 f) ∧ w'.cell? ⟨w.heap.size, 1, none⟩ = some (.slice va g.length vc) ∧ w'.cell? ⟨w.heap.size + 1, 0, none⟩ = some (.int .i64 ur) ∧ w'.cell? ⟨w.heap.size + 1, 1, none⟩ = some (.int .i64 ua) ∧ w'.cell? ⟨w.heap.size + 1, 2, none⟩ = some (.int .i64 ud)) (by kernel_rfl) ⟨SX.out.cell 0 (v := .int .i64 f) rfl, SX.out.cell 1 (v := .slice va g.length vc) rfl, SV.out.cell 0 (v := .int .i64 ur) rfl, SV.out.cell 1 (v := .int .i64 ua) rfl, SV.out.cell 2 (v := .int .i64 ud) rfl⟩ (fun hH => ?_)
  generalize wm.drew = wd at *
  refine takeL 0 (v := ?vt23) rfl (by kernel_rfl) (by kernel_rfl) (by kernel_rfl) (by kernel_rfl) (by kernel_rfl) (fun _ _ _ h => h) hH rfl ?yt23 ?rt23
  case yt23 => intro W hSw; go_simp; try with_reducible rfl
  try simp only [Act.put, List.setIfInBounds_toArray, List.set_cons_zero, List.set_cons_succ]
  refine takeL 1 (v := ?vt24) rfl (by kernel_rfl) (by kernel_rfl) (by kernel_rfl) (by kernel_rfl) (by kernel_rfl) (fun _ _ _ h => h) hH rfl ?yt24 ?rt24
  case yt24 => intro W hSw; go_simp; try with_reducible rfl
  try simp only [Act.put, List.setIfInBounds_toArray, List.set_cons_zero, List.set_cons_succ]
  refine takeL 2 (v := ?vt25) rfl (by kernel_rfl) (by kernel_rfl) (by kernel_rfl) (by kernel_rfl) (by kernel_rfl) (fun _ _ _ h => h) hH rfl ?yt25 ?rt25
  case yt25 => intro W hSw; go_simp; try with_reducible rfl
  try simp only [Act.put, List.setIfInBounds_toArray, List.set_cons_zero, List.set_cons_succ]
  refine takeL 5 (v := ?vt26) rfl (by kernel_rfl) (by kernel_rfl) (by kernel_rfl) (by kernel_rfl) (by kernel_rfl) (fun _ _ _ h => h) hH rfl ?yt26 ?rt26
  case yt26 => intro W hSw; go_simp; try with_reducible rfl
  try simp only [Act.put, List.setIfInBounds_toArray, List.set_cons_zero, List.set_cons_succ]
  refine takeL 6 (v := ?vt27) rfl (by kernel_rfl) (by kernel_rfl) (by kernel_rfl) (by kernel_rfl) (by kernel_rfl) (fun _ _ _ h => h) hH rfl ?yt27 ?rt27
  case yt27 => intro W hSw; go_simp; try with_reducible rfl
  try simp only [Act.put, List.setIfInBounds_toArray, List.set_cons_zero, List.set_cons_succ]
  refine callL 3 rfl (by kernel_rfl) rfl (fun K hK => ?_)
  go_simp
  go_at_call 43
  refine (votes_list b ((⟨ur, ua, ud⟩ : Vt) :: g.reverse) _ Hgl.out HM.out).mono ?_
  rintro e w6 ⟨vl, G, rfl, hG1, hG2, hoG, hb6⟩
  obtain ⟨al, cl, rfl, _⟩ := hoG.slice
  rw [List.length_map] at *
  have SX := Lib.hid (show Str w6 (w.heap.size) 25 #[.int .i64 f, .slice va g.length vc] from (hb6.block _ SX.out.lt).trans SX.out)
  have SV := Lib.hid (show Str w6 (w.heap.size + 1) 27 #[.int .i64 ur, .int .i64 ua, .int .i64 ud] from (hb6.block _ SV.out.lt).trans SV.out)
  have SR := Lib.hid (show Str w6 (w.heap.size + 2) 25 #[.int .i64 0, .slice none 0 0] from (hb6.block _ SR.out.lt).trans SR.out)
  have HM := Lib.hid (show MapV w6 b ((⟨ur, ua, ud⟩ : Vt) :: g.reverse) from HM.out.kept (below_grown hb6) (by simp))
  have hsw6 := hb6.size
  have Hb := Lib.hid (below_step Hb.out Hb.out.size hb6)
  have hGe := sign_ext H1.out H2.out hG1 (fun x => (hG2 x).trans (Hfin.out x))
  subst hGe
  have Ho := Lib.hid hoG; clear hoG hG1 hG2 hb6
  generalize hgs : signG f g ⟨ur, ua, ud⟩ = G at *
  clear hgs
  refine hK.out _ _ ⟨SX.out.cell 0 (v := .int .i64 f) rfl, SX.out.cell 1 (v := .slice va g.length vc) rfl, SV.out.cell 0 (v := .int .i64 ur) rfl, SV.out.cell 1 (v := .int .i64 ua) rfl, SV.out.cell 2 (v := .int .i64 ud) rfl⟩ (fun hH => ?_)
  clear hK K
  try simp only [Act.put, List.setIfInBounds_toArray, List.set_cons_zero, List.set_cons_succ]
  refine takeL 4 (v := ?vt28) rfl (by kernel_rfl) (by kernel_rfl) (by kernel_rfl) (by kernel_rfl) (by kernel_rfl) (fun _ _ _ h => h) hH rfl ?yt28 ?rt28
  case yt28 => intro W hSw; go_simp; try with_reducible rfl
  try simp only [Act.put, List.setIfInBounds_toArray, List.set_cons_zero, List.set_cons_succ]
  refine callL 7 rfl (by kernel_rfl) rfl (fun K hK => ?_)
  go_simp
  go_at_call 44
  refine (votes_has b ((⟨ur, ua, ud⟩ : Vt) :: g.reverse) ur ua ud _ hvi1 hvi2 HM.out).mono ?_
  rintro e w7 ⟨rfl, hb7⟩
  rw [Hfb.out]
  have Ho := Lib.hid (Ho.out.below hb7 (Nat.le_refl _))
  have SX := Lib.hid (show Str w7 (w.heap.size) 25 #[.int .i64 f, .slice va g.length vc] from (hb7.block _ SX.out.lt).trans SX.out)
  have SV := Lib.hid (show Str w7 (w.heap.size + 1) 27 #[.int .i64 ur, .int .i64 ua, .int .i64 ud] from (hb7.block _ SV.out.lt).trans SV.out)
  have SR := Lib.hid (show Str w7 (w.heap.size + 2) 25 #[.int .i64 0, .slice none 0 0] from (hb7.block _ SR.out.lt).trans SR.out)
  have HM := Lib.hid (show MapV w7 b ((⟨ur, ua, ud⟩ : Vt) :: g.reverse) from HM.out.kept (below_grown hb7) (by simp))
  have hsw7 := hb7.size
  have Hb := Lib.hid (below_step Hb.out Hb.out.size hb7)
  refine hK.out _ _ ⟨SX.out.cell 0 (v := .int .i64 f) rfl, SX.out.cell 1 (v := .slice va g.length vc) rfl, SV.out.cell 0 (v := .int .i64 ur) rfl, SV.out.cell 1 (v := .int .i64 ua) rfl, SV.out.cell 2 (v := .int .i64 ud) rfl⟩ (fun hH => ?_)
  clear hK K hb7
  try simp only [Act.put, List.setIfInBounds_toArray, List.set_cons_zero, List.set_cons_succ]
  have cR_0 := SR.out.cell 0 (v := .int .i64 0) rfl
  have cR_1 := SR.out.cell 1 (v := .slice none 0 0) rfl
  have fR_0 := SR.out.frozen 0
  have fR_1 := SR.out.frozen 1
  refine callL 8 rfl (by kernel_rfl) rfl (fun K hK => ?_)
  go_simp
  clear cR_0 cR_1 fR_0 fR_1
  have sF := (SR.out.set 0 (.int .i64 f)).set 1 (.slice al G.length cl)
  have SX := Lib.hid (show Str ((w7.setCell ⟨w.heap.size + 2, 0, none⟩ (.int .i64 f)).setCell ⟨w.heap.size + 2, 1, none⟩ (.slice al G.length cl)) (w.heap.size) 25 #[.int .i64 f, .slice va g.length vc] from (SX.out.other (by omega) _ _).other (by omega) _ _)
  have SV := Lib.hid (show Str ((w7.setCell ⟨w.heap.size + 2, 0, none⟩ (.int .i64 f)).setCell ⟨w.heap.size + 2, 1, none⟩ (.slice al G.length cl)) (w.heap.size + 1) 27 #[.int .i64 ur, .int .i64 ua, .int .i64 ud] from (SV.out.other (by omega) _ _).other (by omega) _ _)
  have hz8 : ((w7.setCell ⟨w.heap.size + 2, 0, none⟩ (.int .i64 f)).setCell ⟨w.heap.size + 2, 1, none⟩ (.slice al G.length cl)).heap.size = w7.heap.size := by simp
  have Ho := Lib.hid (ownR_set (g' := w.heap.size + 2) (ownR_set (g' := w.heap.size + 2) Ho.out hsw7 (by omega) 0 (.int .i64 f)) (by simpa using hsw7) (by omega) 1 (.slice al G.length cl))
  have Hb := Lib.hid ((Hb.out.setCell (p := ⟨w.heap.size + 2, 0, none⟩) (by simp only; omega) (.int .i64 f)).setCell (p := ⟨w.heap.size + 2, 1, none⟩) (by simp only; omega) (.slice al G.length cl))
  refine hK.out _ _ ⟨SX.out.cell 0 (v := .int .i64 f) rfl, SX.out.cell 1 (v := .slice va g.length vc) rfl, SV.out.cell 0 (v := .int .i64 ur) rfl, SV.out.cell 1 (v := .int .i64 ua) rfl, SV.out.cell 2 (v := .int .i64 ud) rfl⟩ (fun hH => ?_)
  generalize ((w7.setCell ⟨w.heap.size + 2, 0, none⟩ (.int .i64 f)).setCell ⟨w.heap.size + 2, 1, none⟩ (.slice al G.length cl)) = w8 at *
  clear hK K
  try simp only [Act.put, List.setIfInBounds_toArray, List.set_cons_zero, List.set_cons_succ]
  refine lastL rfl (by kernel_rfl) (by kernel_rfl) (by kernel_rfl) rfl (fun K hK => ?_)
  go_simp
  refine hK.out _ _ ?_
  clear hK K hH
  try simp only [Act.put]
  have e0 := sF.cell 0 (v := .int .i64 f) rfl
  have e1 := sF.cell 1 (v := .slice al G.length cl) rfl
  clear sF
  go_wp2
  refine bodyPost_ret (v := .tuple #[.agg #[.int .i64 f, .slice al G.length cl], .bool (signB f g ⟨ur, ua, ud⟩)]) (by simp [results, Try.f12, go_sem, e0, e1]) rfl ?_
  rw [Z1.out, Z2.out, Z3.out]
  refine ⟨_, rfl, OwnR.mono (OwnR.from Ho.out ?_) ?_, Hb.out⟩
  · omega
  · first | exact Nat.le_refl _ | omega | (simp only [World.size_setCell]; omega)

end Go.Proofs.Ytkndndcjchlpdaa
