/- The reference's VoterSign, by a walk of its text; condition: the list is shorter than 2^40. -/
import Derived.Test.YtkndndcjchlpdaaRows
import Derived.Test.YtkndndcjchlpdaaVa2
import Derived.Test.YtkndndcjchlpdaaVt2
import Derived.Test.YtkndndcjchlpdaaVq1
import Derived.Test.YtkndndcjchlpdaaRVoter
import Derived.Test.YtkndndcjchlpdaaEx
import Derived.Deep.QuietTactic
import Derived.BigQuiet
namespace Go.Proofs.Ytkndndcjchlpdaa
open Go.RowKit

set_option maxHeartbeats 8000000 in
set_option maxRecDepth 8000 in
theorem spec_VoterSign (f : Int) (g : List Vt) (v : Value) (fp : List Nat) (ur ua ud : Int) (w : World) (hbig : g.length ≤ 1099511627776) (hg : Vts w g v fp) :
    Calls Try.prog 13 #[.agg #[.int .i64 f, v], .agg #[.int .i64 ur, .int .i64 ua, .int .i64 ud]] w fun e w' => ∃ vv, e = .returned (.tuple #[.agg #[.int .i64 (sgF f g ⟨ur, ua, ud⟩), vv], .bool (sgB f g ⟨ur, ua, ud⟩)]) ∧ OwnR 27 3 3 w' w.heap.size w'.heap.size vv ((sgG f g ⟨ur, ua, ud⟩).map Vt.fd) ∧ Below w.heap.size w w' := by
  obtain ⟨va, vc, rfl⟩ := hg.slice
  have hb0 : Below w.heap.size w (((w.alloc (.cells #[.int .i64 f, .slice va g.length vc] 25)).alloc (.cells #[.int .i64 ur, .int .i64 ua, .int .i64 ud] 27)).alloc (.cells #[.int .i64 0, .slice none 0 0] 25)) := (((Below.refl _ _).alloc (Nat.le_refl _) _).alloc (by simp) _).alloc (by simp; omega) _
  have sx := ((Str.new w 25 #[.int .i64 f, .slice va g.length vc]).alloc (.cells #[.int .i64 ur, .int .i64 ua, .int .i64 ud] 27)).alloc (.cells #[.int .i64 0, .slice none 0 0] 25)
  have sv := (Str.new (w.alloc (.cells #[.int .i64 f, .slice va g.length vc] 25)) 27 #[.int .i64 ur, .int .i64 ua, .int .i64 ud]).alloc (.cells #[.int .i64 0, .slice none 0 0] 25)
  have sr := Str.new ((w.alloc (.cells #[.int .i64 f, .slice va g.length vc] 25)).alloc (.cells #[.int .i64 ur, .int .i64 ua, .int .i64 ud] 27)) 25 #[.int .i64 0, .slice none 0 0]
  have hz0 : w.heap.size + 3 ≤ (((w.alloc (.cells #[.int .i64 f, .slice va g.length vc] 25)).alloc (.cells #[.int .i64 ur, .int .i64 ua, .int .i64 ud] 27)).alloc (.cells #[.int .i64 0, .slice none 0 0] 25)).heap.size := by simp
  simp only [World.size_alloc] at sv sr
  have SX := Lib.hid (show Str (((w.alloc (.cells #[.int .i64 f, .slice va g.length vc] 25)).alloc (.cells #[.int .i64 ur, .int .i64 ua, .int .i64 ud] 27)).alloc (.cells #[.int .i64 0, .slice none 0 0] 25)) (w.heap.size) 25 #[.int .i64 f, .slice va g.length vc] from sx)
  have SV := Lib.hid (show Str (((w.alloc (.cells #[.int .i64 f, .slice va g.length vc] 25)).alloc (.cells #[.int .i64 ur, .int .i64 ua, .int .i64 ud] 27)).alloc (.cells #[.int .i64 0, .slice none 0 0] 25)) (w.heap.size + 1) 27 #[.int .i64 ur, .int .i64 ua, .int .i64 ud] from sv)
  have SR := Lib.hid (show Str (((w.alloc (.cells #[.int .i64 f, .slice va g.length vc] 25)).alloc (.cells #[.int .i64 ur, .int .i64 ua, .int .i64 ud] 27)).alloc (.cells #[.int .i64 0, .slice none 0 0] 25)) (w.heap.size + 2) 25 #[.int .i64 0, .slice none 0 0] from sr)
  have Hg := Lib.hid hg
  have Hb := Lib.hid hb0
  clear sx sv sr hb0 hg
  go_enter Try.func13, Try.ntmps13
  have cX_0 := SX.out.cell 0 (v := .int .i64 f) rfl
  have cX_1 := SX.out.cell 1 (v := .slice va g.length vc) rfl
  have cV_0 := SV.out.cell 0 (v := .int .i64 ur) rfl
  have cV_1 := SV.out.cell 1 (v := .int .i64 ua) rfl
  have cV_2 := SV.out.cell 2 (v := .int .i64 ud) rfl
  go_wp2_with fail
  clear cX_0 cX_1 cV_0 cV_1 cV_2
  generalize (((w.alloc (.cells #[.int .i64 f, .slice va g.length vc] 25)).alloc (.cells #[.int .i64 ur, .int .i64 ua, .int .i64 ud] 27)).alloc (.cells #[.int .i64 0, .slice none 0 0] 25)) = W0 at *
  refine (spec_VoterValid f g _ fp _ hbig (Hg.out.under Hb.out)).mono ?_
  rintro e w1 ⟨rfl, hb1⟩
  have SX := Lib.hid (show Str w1 (w.heap.size) 25 #[.int .i64 f, .slice va g.length vc] from (hb1.block _ SX.out.lt).trans SX.out)
  have SV := Lib.hid (show Str w1 (w.heap.size + 1) 27 #[.int .i64 ur, .int .i64 ua, .int .i64 ud] from (hb1.block _ SV.out.lt).trans SV.out)
  have SR := Lib.hid (show Str w1 (w.heap.size + 2) 25 #[.int .i64 0, .slice none 0 0] from (hb1.block _ SR.out.lt).trans SR.out)
  have hsz9 := hb1.size
  have Hb := Lib.hid (below_step Hb.out Hb.out.size hb1)
  clear hb1
  cases h1 : voterB f g with
  | false =>
    obtain ⟨z1, z2, z3⟩ := sg_no (f := f) (g := g) (v := ⟨ur, ua, ud⟩) (by rw [h1]; rfl)
    have Z1 := Lib.hid z1; have Z2 := Lib.hid z2; have Z3 := Lib.hid z3; clear z1 z2 z3
    have cX_0 := SX.out.cell 0 (v := .int .i64 f) rfl
    have cX_1 := SX.out.cell 1 (v := .slice va g.length vc) rfl
    have cV_0 := SV.out.cell 0 (v := .int .i64 ur) rfl
    have cV_1 := SV.out.cell 1 (v := .int .i64 ua) rfl
    have cV_2 := SV.out.cell 2 (v := .int .i64 ud) rfl
    have cR_0 := SR.out.cell 0 (v := .int .i64 0) rfl
    have cR_1 := SR.out.cell 1 (v := .slice none 0 0) rfl
    have fR_0 := SR.out.frozen 0
    have fR_1 := SR.out.frozen 1
    have sF := (SR.out.set 0 (.int .i64 0)).set 1 (.slice none 0 0)
    have e0 := sF.cell 0 (v := .int .i64 0) rfl
    have e1 := sF.cell 1 (v := .slice none 0 0) rfl
    clear sF
    go_wp2
    refine bodyPost_ret (v := .tuple #[.agg #[.int .i64 0, .slice none 0 0], .bool false]) (by simp [results, Try.f13, go_sem, e0, e1]) rfl ?_
    rw [Z1.out, Z2.out, Z3.out]
    exact ⟨_, rfl, OwnR.nil ⟨rfl, .inl ⟨rfl, rfl⟩⟩ (fun g e => by cases e), (Hb.out.setCell (p := ⟨w.heap.size + 2, 0, none⟩) (by simp only; omega) _).setCell (p := ⟨w.heap.size + 2, 1, none⟩) (by simp only; omega) _⟩
  | true =>
  have cX_0 := SX.out.cell 0 (v := .int .i64 f) rfl
  have cX_1 := SX.out.cell 1 (v := .slice va g.length vc) rfl
  have cV_0 := SV.out.cell 0 (v := .int .i64 ur) rfl
  have cV_1 := SV.out.cell 1 (v := .int .i64 ua) rfl
  have cV_2 := SV.out.cell 2 (v := .int .i64 ud) rfl
  go_wp2_with fail
  clear cX_0 cX_1 cV_0 cV_1 cV_2
  refine (spec_l12Vote ur ua ud _).mono ?_
  rintro e w2 ⟨rfl, hb2⟩
  have SX := Lib.hid (show Str w2 (w.heap.size) 25 #[.int .i64 f, .slice va g.length vc] from (hb2.block _ SX.out.lt).trans SX.out)
  have SV := Lib.hid (show Str w2 (w.heap.size + 1) 27 #[.int .i64 ur, .int .i64 ua, .int .i64 ud] from (hb2.block _ SV.out.lt).trans SV.out)
  have SR := Lib.hid (show Str w2 (w.heap.size + 2) 25 #[.int .i64 0, .slice none 0 0] from (hb2.block _ SR.out.lt).trans SR.out)
  have hsz9 := hb2.size
  have Hb := Lib.hid (below_step Hb.out Hb.out.size hb2)
  clear hb2
  cases h2 : voteB ⟨ur, ua, ud⟩ with
  | false =>
    obtain ⟨z1, z2, z3⟩ := sg_no (f := f) (g := g) (v := ⟨ur, ua, ud⟩) (by rw [h1, h2]; rfl)
    have Z1 := Lib.hid z1; have Z2 := Lib.hid z2; have Z3 := Lib.hid z3; clear z1 z2 z3
    have cX_0 := SX.out.cell 0 (v := .int .i64 f) rfl
    have cX_1 := SX.out.cell 1 (v := .slice va g.length vc) rfl
    have cV_0 := SV.out.cell 0 (v := .int .i64 ur) rfl
    have cV_1 := SV.out.cell 1 (v := .int .i64 ua) rfl
    have cV_2 := SV.out.cell 2 (v := .int .i64 ud) rfl
    have cR_0 := SR.out.cell 0 (v := .int .i64 0) rfl
    have cR_1 := SR.out.cell 1 (v := .slice none 0 0) rfl
    have fR_0 := SR.out.frozen 0
    have fR_1 := SR.out.frozen 1
    have sF := (SR.out.set 0 (.int .i64 0)).set 1 (.slice none 0 0)
    have e0 := sF.cell 0 (v := .int .i64 0) rfl
    have e1 := sF.cell 1 (v := .slice none 0 0) rfl
    clear sF
    go_wp2
    refine bodyPost_ret (v := .tuple #[.agg #[.int .i64 0, .slice none 0 0], .bool false]) (by simp [results, Try.f13, go_sem, e0, e1]) rfl ?_
    rw [Z1.out, Z2.out, Z3.out]
    exact ⟨_, rfl, OwnR.nil ⟨rfl, .inl ⟨rfl, rfl⟩⟩ (fun g e => by cases e), (Hb.out.setCell (p := ⟨w.heap.size + 2, 0, none⟩) (by simp only; omega) _).setCell (p := ⟨w.heap.size + 2, 1, none⟩) (by simp only; omega) _⟩
  | true =>
  obtain ⟨z1, z2, z3⟩ := sg_yes h1 h2
  obtain ⟨hl0, hl1, hl2⟩ := voter_len h1
  have Z1 := Lib.hid z1; have Z2 := Lib.hid z2; have Z3 := Lib.hid z3; clear z1 z2 z3
  have cX_0 := SX.out.cell 0 (v := .int .i64 f) rfl
  have cX_1 := SX.out.cell 1 (v := .slice va g.length vc) rfl
  have cV_0 := SV.out.cell 0 (v := .int .i64 ur) rfl
  have cV_1 := SV.out.cell 1 (v := .int .i64 ua) rfl
  have cV_2 := SV.out.cell 2 (v := .int .i64 ud) rfl
  go_wp2_with fail
  clear cX_0 cX_1 cV_0 cV_1 cV_2
  refine (spec_l12Sign f g _ fp ur ua ud _ hl2 (Hg.out.under Hb.out)).mono ?_
  rintro e w3 ⟨vv, rfl, ho, hb3⟩
  have SX := Lib.hid (show Str w3 (w.heap.size) 25 #[.int .i64 f, .slice va g.length vc] from (hb3.block _ SX.out.lt).trans SX.out)
  have SV := Lib.hid (show Str w3 (w.heap.size + 1) 27 #[.int .i64 ur, .int .i64 ua, .int .i64 ud] from (hb3.block _ SV.out.lt).trans SV.out)
  have SR := Lib.hid (show Str w3 (w.heap.size + 2) 25 #[.int .i64 0, .slice none 0 0] from (hb3.block _ SR.out.lt).trans SR.out)
  have hsz9 := hb3.size
  have Hb := Lib.hid (below_step Hb.out Hb.out.size hb3)
  have hlo := hb3.size
  have hw2 : w.heap.size + 3 ≤ w2.heap.size := by omega
  obtain ⟨al, cl, rfl, _⟩ := ho.slice
  rw [List.length_map] at *
  have Ho := Lib.hid (ho.from (B' := w.heap.size + 3) hw2)
  clear ho hb3
  generalize hgs : signG f g ⟨ur, ua, ud⟩ = G at *
  generalize hbs : signB f g ⟨ur, ua, ud⟩ = bb at *
  have cX_0 := SX.out.cell 0 (v := .int .i64 f) rfl
  have cX_1 := SX.out.cell 1 (v := .slice va g.length vc) rfl
  have cV_0 := SV.out.cell 0 (v := .int .i64 ur) rfl
  have cV_1 := SV.out.cell 1 (v := .int .i64 ua) rfl
  have cV_2 := SV.out.cell 2 (v := .int .i64 ud) rfl
  have cR_0 := SR.out.cell 0 (v := .int .i64 0) rfl
  have cR_1 := SR.out.cell 1 (v := .slice none 0 0) rfl
  have fR_0 := SR.out.frozen 0
  have fR_1 := SR.out.frozen 1
  have sF := (SR.out.set 0 (.int .i64 f)).set 1 (.slice al G.length cl)
  have e0 := sF.cell 0 (v := .int .i64 f) rfl
  have e1 := sF.cell 1 (v := .slice al G.length cl) rfl
  clear sF
  go_wp2
  refine bodyPost_ret (v := .tuple #[.agg #[.int .i64 f, .slice al G.length cl], .bool bb]) (by simp [results, Try.f13, go_sem, e0, e1]) rfl ?_
  rw [Z1.out, Z2.out, Z3.out]
  exact ⟨.slice al G.length cl, rfl, OwnR.mono (OwnR.from (ownR_set (g' := w.heap.size + 2) (ownR_set (g' := w.heap.size + 2) Ho.out (Nat.le_refl _) (by omega) 0 _) (by simp) (by omega) 1 _) (by omega)) (by simp), (Hb.out.setCell (p := ⟨w.heap.size + 2, 0, none⟩) (by simp only; omega) _).setCell (p := ⟨w.heap.size + 2, 1, none⟩) (by simp only; omega) _⟩

end Go.Proofs.Ytkndndcjchlpdaa
