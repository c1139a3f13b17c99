/- Texts that the laws of this folder share, one behind another; no conditions. -/
import Derived.Test.YtgpbogalknmcmaaRows
import Derived.Test.YtgpbogalknmcmaaBu3
import Derived.Test.YtgpbogalknmcmaaBu1
import Derived.Test.YtgpbogalknmcmaaBu2
import Derived.Test.YtgpbogalknmcmaaBu0
import Derived.Deep.QuietTactic
import Derived.BigQuiet
import Derived.Laws.StructEq

/- The reference's VoterSign, by a walk of its text; condition: the list is shorter than 2^40. -/
namespace Go.Proofs.Ytgpbogalknmcmaa
open Go.RowKit

set_option maxHeartbeats 8000000 in
set_option maxRecDepth 8000 in
theorem spec_VoterSign (f : Int) (g : List Vt) (v : Value) (fp : List Nat) (ur ua ud : Int) (w : World) (hbig : g.length ≤ 1099511627776) (hg : Vts w g v fp) :
    Calls Try.prog 15 #[.agg #[.int .i64 f, v], .agg #[.int .i64 ur, .int .i64 ua, .int .i64 ud]] w fun e w' => ∃ vv, e = .returned (.tuple #[.agg #[.int .i64 (sgF f g ⟨ur, ua, ud⟩), vv], .bool (sgB f g ⟨ur, ua, ud⟩)]) ∧ OwnR 27 3 3 w' w.heap.size w'.heap.size vv ((sgG f g ⟨ur, ua, ud⟩).map Vt.fd) ∧ Below w.heap.size w w' := by
  obtain ⟨va, vc, rfl⟩ := hg.slice
  have hb0 : Below w.heap.size w (((w.alloc (.cells #[.int .i64 f, .slice va g.length vc] 25)).alloc (.cells #[.int .i64 ur, .int .i64 ua, .int .i64 ud] 27)).alloc (.cells #[.int .i64 0, .slice none 0 0] 25)) := (((Below.refl _ _).alloc (Nat.le_refl _) _).alloc (by simp) _).alloc (by simp; omega) _
  have sx := ((Str.new w 25 #[.int .i64 f, .slice va g.length vc]).alloc (.cells #[.int .i64 ur, .int .i64 ua, .int .i64 ud] 27)).alloc (.cells #[.int .i64 0, .slice none 0 0] 25)
  have sv := (Str.new (w.alloc (.cells #[.int .i64 f, .slice va g.length vc] 25)) 27 #[.int .i64 ur, .int .i64 ua, .int .i64 ud]).alloc (.cells #[.int .i64 0, .slice none 0 0] 25)
  have sr := Str.new ((w.alloc (.cells #[.int .i64 f, .slice va g.length vc] 25)).alloc (.cells #[.int .i64 ur, .int .i64 ua, .int .i64 ud] 27)) 25 #[.int .i64 0, .slice none 0 0]
  have hz0 : w.heap.size + 3 ≤ (((w.alloc (.cells #[.int .i64 f, .slice va g.length vc] 25)).alloc (.cells #[.int .i64 ur, .int .i64 ua, .int .i64 ud] 27)).alloc (.cells #[.int .i64 0, .slice none 0 0] 25)).heap.size := by simp
  simp only [World.size_alloc] at sv sr
  have SX := Lib.hid (show Str (((w.alloc (.cells #[.int .i64 f, .slice va g.length vc] 25)).alloc (.cells #[.int .i64 ur, .int .i64 ua, .int .i64 ud] 27)).alloc (.cells #[.int .i64 0, .slice none 0 0] 25)) (w.heap.size) 25 #[.int .i64 f, .slice va g.length vc] from sx)
  have SV := Lib.hid (show Str (((w.alloc (.cells #[.int .i64 f, .slice va g.length vc] 25)).alloc (.cells #[.int .i64 ur, .int .i64 ua, .int .i64 ud] 27)).alloc (.cells #[.int .i64 0, .slice none 0 0] 25)) (w.heap.size + 1) 27 #[.int .i64 ur, .int .i64 ua, .int .i64 ud] from sv)
  have SR := Lib.hid (show Str (((w.alloc (.cells #[.int .i64 f, .slice va g.length vc] 25)).alloc (.cells #[.int .i64 ur, .int .i64 ua, .int .i64 ud] 27)).alloc (.cells #[.int .i64 0, .slice none 0 0] 25)) (w.heap.size + 2) 25 #[.int .i64 0, .slice none 0 0] from sr)
  have Hg := Lib.hid hg
  have Hb := Lib.hid hb0
  clear sx sv sr hb0 hg
  go_enter Try.func15, Try.ntmps15
  have cX_0 := SX.out.cell 0 (v := .int .i64 f) rfl
  have cX_1 := SX.out.cell 1 (v := .slice va g.length vc) rfl
  have cV_0 := SV.out.cell 0 (v := .int .i64 ur) rfl
  have cV_1 := SV.out.cell 1 (v := .int .i64 ua) rfl
  have cV_2 := SV.out.cell 2 (v := .int .i64 ud) rfl
  go_wp2_with fail
  clear cX_0 cX_1 cV_0 cV_1 cV_2
  generalize (((w.alloc (.cells #[.int .i64 f, .slice va g.length vc] 25)).alloc (.cells #[.int .i64 ur, .int .i64 ua, .int .i64 ud] 27)).alloc (.cells #[.int .i64 0, .slice none 0 0] 25)) = W0 at *
  refine (spec_VoterValid f g _ fp _ hbig (Hg.out.under Hb.out)).mono ?_
  rintro e w1 ⟨rfl, hb1⟩
  have SX := Lib.hid (show Str w1 (w.heap.size) 25 #[.int .i64 f, .slice va g.length vc] from (hb1.block _ SX.out.lt).trans SX.out)
  have SV := Lib.hid (show Str w1 (w.heap.size + 1) 27 #[.int .i64 ur, .int .i64 ua, .int .i64 ud] from (hb1.block _ SV.out.lt).trans SV.out)
  have SR := Lib.hid (show Str w1 (w.heap.size + 2) 25 #[.int .i64 0, .slice none 0 0] from (hb1.block _ SR.out.lt).trans SR.out)
  have hsz9 := hb1.size
  have Hb := Lib.hid (below_step Hb.out Hb.out.size hb1)
  clear hb1
  cases h1 : voterB f g with
  | false =>
    obtain ⟨z1, z2, z3⟩ := sg_no (f := f) (g := g) (v := ⟨ur, ua, ud⟩) (by rw [h1]; rfl)
    have Z1 := Lib.hid z1; have Z2 := Lib.hid z2; have Z3 := Lib.hid z3; clear z1 z2 z3
    have cX_0 := SX.out.cell 0 (v := .int .i64 f) rfl
    have cX_1 := SX.out.cell 1 (v := .slice va g.length vc) rfl
    have cV_0 := SV.out.cell 0 (v := .int .i64 ur) rfl
    have cV_1 := SV.out.cell 1 (v := .int .i64 ua) rfl
    have cV_2 := SV.out.cell 2 (v := .int .i64 ud) rfl
    have cR_0 := SR.out.cell 0 (v := .int .i64 0) rfl
    have cR_1 := SR.out.cell 1 (v := .slice none 0 0) rfl
    have fR_0 := SR.out.frozen 0
    have fR_1 := SR.out.frozen 1
    have sF := (SR.out.set 0 (.int .i64 0)).set 1 (.slice none 0 0)
    have e0 := sF.cell 0 (v := .int .i64 0) rfl
    have e1 := sF.cell 1 (v := .slice none 0 0) rfl
    clear sF
    go_wp2
    refine bodyPost_ret (v := .tuple #[.agg #[.int .i64 0, .slice none 0 0], .bool false]) (by simp [results, Try.f15, go_sem, e0, e1]) rfl ?_
    rw [Z1.out, Z2.out, Z3.out]
    exact ⟨_, rfl, OwnR.nil ⟨rfl, .inl ⟨rfl, rfl⟩⟩ (fun g e => by cases e), (Hb.out.setCell (p := ⟨w.heap.size + 2, 0, none⟩) (by simp only; omega) _).setCell (p := ⟨w.heap.size + 2, 1, none⟩) (by simp only; omega) _⟩
  | true =>
  have cX_0 := SX.out.cell 0 (v := .int .i64 f) rfl
  have cX_1 := SX.out.cell 1 (v := .slice va g.length vc) rfl
  have cV_0 := SV.out.cell 0 (v := .int .i64 ur) rfl
  have cV_1 := SV.out.cell 1 (v := .int .i64 ua) rfl
  have cV_2 := SV.out.cell 2 (v := .int .i64 ud) rfl
  go_wp2_with fail
  clear cX_0 cX_1 cV_0 cV_1 cV_2
  refine (spec_l12Vote ur ua ud _).mono ?_
  rintro e w2 ⟨rfl, hb2⟩
  have SX := Lib.hid (show Str w2 (w.heap.size) 25 #[.int .i64 f, .slice va g.length vc] from (hb2.block _ SX.out.lt).trans SX.out)
  have SV := Lib.hid (show Str w2 (w.heap.size + 1) 27 #[.int .i64 ur, .int .i64 ua, .int .i64 ud] from (hb2.block _ SV.out.lt).trans SV.out)
  have SR := Lib.hid (show Str w2 (w.heap.size + 2) 25 #[.int .i64 0, .slice none 0 0] from (hb2.block _ SR.out.lt).trans SR.out)
  have hsz9 := hb2.size
  have Hb := Lib.hid (below_step Hb.out Hb.out.size hb2)
  clear hb2
  cases h2 : voteB ⟨ur, ua, ud⟩ with
  | false =>
    obtain ⟨z1, z2, z3⟩ := sg_no (f := f) (g := g) (v := ⟨ur, ua, ud⟩) (by rw [h1, h2]; rfl)
    have Z1 := Lib.hid z1; have Z2 := Lib.hid z2; have Z3 := Lib.hid z3; clear z1 z2 z3
    have cX_0 := SX.out.cell 0 (v := .int .i64 f) rfl
    have cX_1 := SX.out.cell 1 (v := .slice va g.length vc) rfl
    have cV_0 := SV.out.cell 0 (v := .int .i64 ur) rfl
    have cV_1 := SV.out.cell 1 (v := .int .i64 ua) rfl
    have cV_2 := SV.out.cell 2 (v := .int .i64 ud) rfl
    have cR_0 := SR.out.cell 0 (v := .int .i64 0) rfl
    have cR_1 := SR.out.cell 1 (v := .slice none 0 0) rfl
    have fR_0 := SR.out.frozen 0
    have fR_1 := SR.out.frozen 1
    have sF := (SR.out.set 0 (.int .i64 0)).set 1 (.slice none 0 0)
    have e0 := sF.cell 0 (v := .int .i64 0) rfl
    have e1 := sF.cell 1 (v := .slice none 0 0) rfl
    clear sF
    go_wp2
    refine bodyPost_ret (v := .tuple #[.agg #[.int .i64 0, .slice none 0 0], .bool false]) (by simp [results, Try.f15, go_sem, e0, e1]) rfl ?_
    rw [Z1.out, Z2.out, Z3.out]
    exact ⟨_, rfl, OwnR.nil ⟨rfl, .inl ⟨rfl, rfl⟩⟩ (fun g e => by cases e), (Hb.out.setCell (p := ⟨w.heap.size + 2, 0, none⟩) (by simp only; omega) _).setCell (p := ⟨w.heap.size + 2, 1, none⟩) (by simp only; omega) _⟩
  | true =>
  obtain ⟨z1, z2, z3⟩ := sg_yes h1 h2
  obtain ⟨hl0, hl1, hl2⟩ := voter_len h1
  have Z1 := Lib.hid z1; have Z2 := Lib.hid z2; have Z3 := Lib.hid z3; clear z1 z2 z3
  have cX_0 := SX.out.cell 0 (v := .int .i64 f) rfl
  have cX_1 := SX.out.cell 1 (v := .slice va g.length vc) rfl
  have cV_0 := SV.out.cell 0 (v := .int .i64 ur) rfl
  have cV_1 := SV.out.cell 1 (v := .int .i64 ua) rfl
  have cV_2 := SV.out.cell 2 (v := .int .i64 ud) rfl
  go_wp2_with fail
  clear cX_0 cX_1 cV_0 cV_1 cV_2
  refine (spec_l12Sign f g _ fp ur ua ud _ hl2 (Hg.out.under Hb.out)).mono ?_
  rintro e w3 ⟨vv, rfl, ho, hb3⟩
  have SX := Lib.hid (show Str w3 (w.heap.size) 25 #[.int .i64 f, .slice va g.length vc] from (hb3.block _ SX.out.lt).trans SX.out)
  have SV := Lib.hid (show Str w3 (w.heap.size + 1) 27 #[.int .i64 ur, .int .i64 ua, .int .i64 ud] from (hb3.block _ SV.out.lt).trans SV.out)
  have SR := Lib.hid (show Str w3 (w.heap.size + 2) 25 #[.int .i64 0, .slice none 0 0] from (hb3.block _ SR.out.lt).trans SR.out)
  have hsz9 := hb3.size
  have Hb := Lib.hid (below_step Hb.out Hb.out.size hb3)
  have hlo := hb3.size
  have hw2 : w.heap.size + 3 ≤ w2.heap.size := by omega
  obtain ⟨al, cl, rfl, _⟩ := ho.slice
  rw [List.length_map] at *
  have Ho := Lib.hid (ho.from (B' := w.heap.size + 3) hw2)
  clear ho hb3
  generalize hgs : signG f g ⟨ur, ua, ud⟩ = G at *
  generalize hbs : signB f g ⟨ur, ua, ud⟩ = bb at *
  have cX_0 := SX.out.cell 0 (v := .int .i64 f) rfl
  have cX_1 := SX.out.cell 1 (v := .slice va g.length vc) rfl
  have cV_0 := SV.out.cell 0 (v := .int .i64 ur) rfl
  have cV_1 := SV.out.cell 1 (v := .int .i64 ua) rfl
  have cV_2 := SV.out.cell 2 (v := .int .i64 ud) rfl
  have cR_0 := SR.out.cell 0 (v := .int .i64 0) rfl
  have cR_1 := SR.out.cell 1 (v := .slice none 0 0) rfl
  have fR_0 := SR.out.frozen 0
  have fR_1 := SR.out.frozen 1
  have sF := (SR.out.set 0 (.int .i64 f)).set 1 (.slice al G.length cl)
  have e0 := sF.cell 0 (v := .int .i64 f) rfl
  have e1 := sF.cell 1 (v := .slice al G.length cl) rfl
  clear sF
  go_wp2
  refine bodyPost_ret (v := .tuple #[.agg #[.int .i64 f, .slice al G.length cl], .bool bb]) (by simp [results, Try.f15, go_sem, e0, e1]) rfl ?_
  rw [Z1.out, Z2.out, Z3.out]
  exact ⟨.slice al G.length cl, rfl, OwnR.mono (OwnR.from (ownR_set (g' := w.heap.size + 2) (ownR_set (g' := w.heap.size + 2) Ho.out (Nat.le_refl _) (by omega) 0 _) (by simp) (by omega) 1 _) (by omega)) (by simp), (Hb.out.setCell (p := ⟨w.heap.size + 2, 0, none⟩) (by simp only; omega) _).setCell (p := ⟨w.heap.size + 2, 1, none⟩) (by simp only; omega) _⟩

end Go.Proofs.Ytgpbogalknmcmaa

/- laws.sameVoter, by a walk of its text; condition: the lists are shorter than 2^40. -/
namespace Go.Proofs.Ytgpbogalknmcmaa
open Go.RowKit

theorem sv_step {g g2 : List Vt} {k : Nat} (h : k < g.length) (h2 : k < g2.length) (e : g.take k = g2.take k) : (g[k] = g2[k] → g.take (k + 1) = g2.take (k + 1)) ∧ (g[k] ≠ g2[k] → g ≠ g2) := by
  refine ⟨fun hx => by rw [List.take_succ_eq_append_getElem h, List.take_succ_eq_append_getElem h2, e, hx], fun hx hg => hx (by subst hg; rfl)⟩
theorem neq_vote (x y : Vt) (w : World) : (binOp .neq 27 (.agg #[.int .i64 x.r, .int .i64 x.a, .int .i64 x.d]) (.agg #[.int .i64 y.r, .int .i64 y.a, .int .i64 y.d])).run Try.prog w = .ok (.bool (decide (x ≠ y))) w := by
  have hS : Try.prog.underlying 27 = some (.struct (Try.prog.fieldsOf 27)) := by kernel_rfl
  have hp : Try.prog.stoodInHeld 27 = false := by kernel_rfl
  rw [run_neq_struct, show (10000 : Nat) = 9999 + 1 from rfl, run_equalIn_agg w 9999 27 _ _ hS hp]
  simp only [Program.fieldsOf, Try.underlying27]
  go_simp
  obtain ⟨xr, xa, xd⟩ := x
  obtain ⟨yr, ya, yd⟩ := y
  by_cases h1 : xr = yr <;> by_cases h2 : xa = ya <;> by_cases h3 : xd = yd <;> simp [h1, h2, h3]
set_option maxHeartbeats 4000000 in
set_option maxRecDepth 8000 in
theorem laws_sameVoter (f f2 : Int) (g g2 : List Vt) (v v2 : Value) (fp fp2 : List Nat) (w : World) (hbig : g.length ≤ 1099511627776) (hg : Vts w g v fp) (hg2 : Vts w g2 v2 fp2) :
    Calls Try.prog 16 #[.agg #[.int .i64 f, v], .agg #[.int .i64 f2, v2]] w fun e w' => e = .returned (.bool (decide (f = f2) && decide (g = g2))) ∧ Below w.heap.size w w' := by
  obtain ⟨va, vc, rfl⟩ := hg.slice
  obtain ⟨va2, vc2, rfl⟩ := hg2.slice
  have hb0 : Below w.heap.size w ((w.alloc (.cells #[.int .i64 f, .slice va g.length vc] 25)).alloc (.cells #[.int .i64 f2, .slice va2 g2.length vc2] 25)) := ((Below.refl _ _).alloc (Nat.le_refl _) _).alloc (by simp) _
  have sx := (Str.new w 25 #[.int .i64 f, .slice va g.length vc]).alloc (.cells #[.int .i64 f2, .slice va2 g2.length vc2] 25)
  have sy := Str.new (w.alloc (.cells #[.int .i64 f, .slice va g.length vc] 25)) 25 #[.int .i64 f2, .slice va2 g2.length vc2]
  simp only [World.size_alloc] at sy
  have SX := Lib.hid (show Str ((w.alloc (.cells #[.int .i64 f, .slice va g.length vc] 25)).alloc (.cells #[.int .i64 f2, .slice va2 g2.length vc2] 25)) (w.heap.size) 25 #[.int .i64 f, .slice va g.length vc] from sx)
  have SY := Lib.hid (show Str ((w.alloc (.cells #[.int .i64 f, .slice va g.length vc] 25)).alloc (.cells #[.int .i64 f2, .slice va2 g2.length vc2] 25)) (w.heap.size + 1) 25 #[.int .i64 f2, .slice va2 g2.length vc2] from sy)
  have Hg := Lib.hid hg; have Hg2 := Lib.hid hg2
  have Hb := Lib.hid hb0
  clear sx sy hb0 hg hg2
  go_enter Try.func16, Try.ntmps16
  by_cases hf : f = f2
  case neg =>
    have Hf := Lib.hid hf
    have cX_0 := SX.out.cell 0 (v := .int .i64 f) rfl
    have cX_1 := SX.out.cell 1 (v := .slice va g.length vc) rfl
    have cY_0 := SY.out.cell 0 (v := .int .i64 f2) rfl
    have cY_1 := SY.out.cell 1 (v := .slice va2 g2.length vc2) rfl
    go_wp2
    clear cX_0 cX_1 cY_0 cY_1
    go_ret
    exact ⟨ret_bool (by simp [Hf.out]), Hb.out⟩
  subst hf
  by_cases hl : (g.length : Int) = (g2.length : Int)
  case neg =>
    have Hl := Lib.hid hl
    have cX_0 := SX.out.cell 0 (v := .int .i64 f) rfl
    have cX_1 := SX.out.cell 1 (v := .slice va g.length vc) rfl
    have cY_0 := SY.out.cell 0 (v := .int .i64 f) rfl
    have cY_1 := SY.out.cell 1 (v := .slice va2 g2.length vc2) rfl
    go_wp2
    clear cX_0 cX_1 cY_0 cY_1
    go_ret
    exact ⟨ret_bool (by have : g ≠ g2 := fun e => Hl.out (by rw [e]); simp [this]), Hb.out⟩
  have Hl := Lib.hid hl
  have cX_0 := SX.out.cell 0 (v := .int .i64 f) rfl
  have cX_1 := SX.out.cell 1 (v := .slice va g.length vc) rfl
  have cY_0 := SY.out.cell 0 (v := .int .i64 f) rfl
  have cY_1 := SY.out.cell 1 (v := .slice va2 g2.length vc2) rfl
  go_wp2
  clear cX_0 cX_1 cY_0 cY_1
  generalize ((w.alloc (.cells #[.int .i64 f, .slice va g.length vc] 25)).alloc (.cells #[.int .i64 f, .slice va2 g2.length vc2] 25)) = W0 at *
  go_loopw [5] (fun i wr => ∃ k : Nat, k ≤ g.length ∧ i = .int .i64 k ∧ g.take k = g2.take k ∧ Below W0.heap.size W0 wr) (fun i _ => g.length - (intOf i).toNat)
  case atStart => exact ⟨0, by omega, rfl, rfl, Below.refl _ _⟩
  case round =>
    obtain ⟨k, hk, rfl, hup, hbel⟩ := hrel
    have SX := Lib.hid (show Str wr (w.heap.size) 25 #[.int .i64 f, .slice va g.length vc] from (hbel.block _ SX.out.lt).trans SX.out)
    have SY := Lib.hid (show Str wr (w.heap.size + 1) 25 #[.int .i64 f, .slice va2 g2.length vc2] from (hbel.block _ SY.out.lt).trans SY.out)
    have hsz9 := hbel.size
    have Hb := Lib.hid (below_step Hb.out Hb.out.size hbel)
    have HW := Lib.hid hbel
    have Hup := Lib.hid hup
    clear hbel hup
    by_cases hlt : k < g.length
    · skip
      have hlt2 : k < g2.length := by have := Hl.out; omega
      obtain ⟨b, off, rfl, hbk, hat⟩ := Hg.out.at (by omega)
      obtain ⟨e0, e1, e2⟩ := hat k hlt
      clear hat
      have C0 := Lib.hid ((Hb.out.cell (p := ⟨b, off + k * 3, none⟩) hbk).trans e0)
      have C1 := Lib.hid ((Hb.out.cell (p := ⟨b, off + k * 3 + 1, none⟩) hbk).trans e1)
      have C2 := Lib.hid ((Hb.out.cell (p := ⟨b, off + k * 3 + 2, none⟩) hbk).trans e2)
      clear e0 e1 e2
      obtain ⟨b2, off2, rfl, hb2k, hat⟩ := Hg2.out.at (by omega)
      obtain ⟨e0, e1, e2⟩ := hat k hlt2
      clear hat
      have D0 := Lib.hid ((Hb.out.cell (p := ⟨b2, off2 + k * 3, none⟩) hb2k).trans e0)
      have D1 := Lib.hid ((Hb.out.cell (p := ⟨b2, off2 + k * 3 + 1, none⟩) hb2k).trans e1)
      have D2 := Lib.hid ((Hb.out.cell (p := ⟨b2, off2 + k * 3 + 2, none⟩) hb2k).trans e2)
      clear e0 e1 e2
      have hst := sv_step hlt hlt2 Hup.out
      have Hst := Lib.hid hst; clear hst
      generalize hx : g[k] = x at *
      generalize hy : g2[k] = y at *
      obtain ⟨xr, xa, xd⟩ := x
      obtain ⟨yr, ya, yd⟩ := y
      dsimp only at *
      clear hx hy
      have hd : decide ((k : Int) < (g.length : Int)) = true := decide_eq_true (by omega)
      have hd' : (k : Int) < (g.length : Int) := by omega
      have hd2 : (k : Int) < (g2.length : Int) := by omega
      by_cases hxy : (⟨xr, xa, xd⟩ : Vt) = ⟨yr, ya, yd⟩
      · skip
        have hq := fun W => neq_vote ⟨xr, xa, xd⟩ ⟨yr, ya, yd⟩ W
        rw [show decide ((⟨xr, xa, xd⟩ : Vt) ≠ ⟨yr, ya, yd⟩) = false from decide_eq_false (by simpa using hxy)] at hq
        have Hxy := Lib.hid hxy; clear hxy
        dsimp only at hq
        have cX_0 := SX.out.cell 0 (v := .int .i64 f) rfl
        have cX_1 := SX.out.cell 1 (v := .slice (some ⟨b, off, none⟩) g.length vc) rfl
        have cY_0 := SY.out.cell 0 (v := .int .i64 f) rfl
        have cY_1 := SY.out.cell 1 (v := .slice (some ⟨b2, off2, none⟩) g2.length vc2) rfl
        go_wp2_with fail
        clear cX_0 cX_1 cY_0 cY_1
        have hdr : Below wr.heap.size wr wr.drew := (Below.refl _ _).drew
        have SX := Lib.hid (show Str wr.drew (w.heap.size) 25 #[.int .i64 f, .slice (some ⟨b, off, none⟩) g.length vc] from SX.out)
        have SY := Lib.hid (show Str wr.drew (w.heap.size + 1) 25 #[.int .i64 f, .slice (some ⟨b2, off2, none⟩) g2.length vc2] from SY.out)
        have C0 := Lib.hid (show wr.drew.cell? ⟨b, off + k * 3, none⟩ = some (.int .i64 xr) from C0.out)
        have C1 := Lib.hid (show wr.drew.cell? ⟨b, off + k * 3 + 1, none⟩ = some (.int .i64 xa) from C1.out)
        have C2 := Lib.hid (show wr.drew.cell? ⟨b, off + k * 3 + 2, none⟩ = some (.int .i64 xd) from C2.out)
        have D0 := Lib.hid (show wr.drew.cell? ⟨b2, off2 + k * 3, none⟩ = some (.int .i64 yr) from D0.out)
        have D1 := Lib.hid (show wr.drew.cell? ⟨b2, off2 + k * 3 + 1, none⟩ = some (.int .i64 ya) from D1.out)
        have D2 := Lib.hid (show wr.drew.cell? ⟨b2, off2 + k * 3 + 2, none⟩ = some (.int .i64 yd) from D2.out)
        have HW := Lib.hid HW.out.drew
        have Hb := Lib.hid Hb.out.drew
        have hzwd : wr.heap.size ≤ wr.drew.heap.size := Nat.le_refl _
        clear hdr
        refine wp_region_held_drew (S := fun w' => w'.cell? ⟨w.heap.size, 0, none⟩ = some (.int .i64 f) ∧ w'.cell? ⟨w.heap.size, 1, none⟩ = some (.slice (some ⟨b, off, none⟩) g.length vc) ∧ w'.cell? ⟨w.heap.size + 1, 0, none⟩ = some (.int .i64 f) ∧ w'.cell? ⟨w.heap.size + 1, 1, none⟩ = some (.slice (some ⟨b2, off2, none⟩) g2.length vc2) ∧ w'.cell? ⟨b, off + k * 3, none⟩ = some (.int .i64 xr) ∧ w'.cell? ⟨b, off + k * 3 + 1, none⟩ = some (.int .i64 xa) ∧ w'.cell? ⟨b, off + k * 3 + 2, none⟩ = some (.int .i64 xd) ∧ w'.cell? ⟨b2, off2 + k * 3, none⟩ = some (.int .i64 yr) ∧ w'.cell? ⟨b2, off2 + k * 3 + 1, none⟩ = some (.int .i64 ya) ∧ w'.cell? ⟨b2, off2 + k * 3 + 2, none⟩ = some (.int .i64 yd)) (by kernel_rfl) ⟨SX.out.cell 0 (v := .int .i64 f) rfl, SX.out.cell 1 (v := .slice (some ⟨b, off, none⟩) g.length vc) rfl, SY.out.cell 0 (v := .int .i64 f) rfl, SY.out.cell 1 (v := .slice (some ⟨b2, off2, none⟩) g2.length vc2) rfl, C0.out, C1.out, C2.out, D0.out, D1.out, D2.out⟩ (fun hH => ?_)
        generalize wr.drew = wd at *
        refine takeH 0 (v := ?vt1) rfl (by kernel_rfl) (by kernel_rfl) (by kernel_rfl) (fun _ _ _ h => h) hH rfl ?yt1 ?rt1
        case yt1 => intro W hSw; go_simp; try with_reducible rfl
        try simp only [Act.put, List.setIfInBounds_toArray, List.set_cons_zero, List.set_cons_succ]
        refine takeH 1 (v := ?vt2) rfl (by kernel_rfl) (by kernel_rfl) (by kernel_rfl) (fun _ _ _ h => h) hH rfl ?yt2 ?rt2
        case yt2 => intro W hSw; go_simp; try with_reducible rfl
        try simp only [Act.put, List.setIfInBounds_toArray, List.set_cons_zero, List.set_cons_succ]
        refine takeH 2 (v := ?vt3) rfl (by kernel_rfl) (by kernel_rfl) (by kernel_rfl) (fun _ _ _ h => h) hH rfl ?yt3 ?rt3
        case yt3 => intro W hSw; go_simp; try with_reducible rfl
        try simp only [Act.put, List.setIfInBounds_toArray, List.set_cons_zero, List.set_cons_succ]
        refine takeH 3 (v := ?vt4) rfl (by kernel_rfl) (by kernel_rfl) (by kernel_rfl) (fun _ _ _ h => h) hH rfl ?yt4 ?rt4
        case yt4 => intro W hSw; go_simp; try with_reducible rfl
        try simp only [Act.put, List.setIfInBounds_toArray, List.set_cons_zero, List.set_cons_succ]
        refine takeH 4 (v := ?vt5) rfl (by kernel_rfl) (by kernel_rfl) (by kernel_rfl) (fun _ _ _ h => h) hH rfl ?yt5 ?rt5
        case yt5 => intro W hSw; go_simp; try with_reducible rfl
        try simp only [Act.put, List.setIfInBounds_toArray, List.set_cons_zero, List.set_cons_succ]
        refine takeH 5 (v := ?vt6) rfl (by kernel_rfl) (by kernel_rfl) (by kernel_rfl) (fun _ _ _ h => h) hH rfl ?yt6 ?rt6
        case yt6 => intro W hSw; go_simp; try with_reducible rfl
        try simp only [Act.put, List.setIfInBounds_toArray, List.set_cons_zero, List.set_cons_succ]
        refine takeH 6 (v := ?vt7) rfl (by kernel_rfl) (by kernel_rfl) (by kernel_rfl) (fun _ _ _ h => h) hH rfl ?yt7 ?rt7
        case yt7 => intro W hSw; go_simp; try with_reducible rfl
        try simp only [Act.put, List.setIfInBounds_toArray, List.set_cons_zero, List.set_cons_succ]
        refine takeH 7 (v := ?vt8) rfl (by kernel_rfl) (by kernel_rfl) (by kernel_rfl) (fun _ _ _ h => h) hH rfl ?yt8 ?rt8
        case yt8 => intro W hSw; go_simp; try with_reducible rfl
        try simp only [Act.put, List.setIfInBounds_toArray, List.set_cons_zero, List.set_cons_succ]
        refine takeH 8 (v := ?vt9) rfl (by kernel_rfl) (by kernel_rfl) (by kernel_rfl) (fun _ _ _ h => h) hH rfl ?yt9 ?rt9
        case yt9 => intro W hSw; go_simp; try with_reducible rfl
        try simp only [Act.put, List.setIfInBounds_toArray, List.set_cons_zero, List.set_cons_succ]
        refine takeH 9 (v := ?vt10) rfl (by kernel_rfl) (by kernel_rfl) (by kernel_rfl) (fun _ _ _ h => h) hH rfl ?yt10 ?rt10
        case yt10 => intro W hSw; go_simp; try with_reducible rfl
        try simp only [Act.put, List.setIfInBounds_toArray, List.set_cons_zero, List.set_cons_succ]
        refine takeH 10 (v := ?vt11) rfl (by kernel_rfl) (by kernel_rfl) (by kernel_rfl) (fun _ _ _ h => h) hH rfl ?yt11 ?rt11
        case yt11 => intro W hSw; go_simp; try with_reducible rfl
        try simp only [Act.put, List.setIfInBounds_toArray, List.set_cons_zero, List.set_cons_succ]
        refine wpAnyH_done (by kernel_rfl) ?_ _
        clear hH hq
        try simp only [Act.put]
        go_wp2
        go_roundw
        case rel => exact ⟨k + 1, by omega, by go_num, Hst.out.1 Hxy.out, HW.out⟩
        case measure => simp [intOf]; omega
      have hq := fun W => neq_vote ⟨xr, xa, xd⟩ ⟨yr, ya, yd⟩ W
      rw [show decide ((⟨xr, xa, xd⟩ : Vt) ≠ ⟨yr, ya, yd⟩) = true from decide_eq_true hxy] at hq
      have Hxy := Lib.hid hxy; clear hxy
      dsimp only at hq
      have cX_0 := SX.out.cell 0 (v := .int .i64 f) rfl
      have cX_1 := SX.out.cell 1 (v := .slice (some ⟨b, off, none⟩) g.length vc) rfl
      have cY_0 := SY.out.cell 0 (v := .int .i64 f) rfl
      have cY_1 := SY.out.cell 1 (v := .slice (some ⟨b2, off2, none⟩) g2.length vc2) rfl
      go_wp2_with fail
      clear cX_0 cX_1 cY_0 cY_1
      have hdr : Below wr.heap.size wr wr.drew := (Below.refl _ _).drew
      have SX := Lib.hid (show Str wr.drew (w.heap.size) 25 #[.int .i64 f, .slice (some ⟨b, off, none⟩) g.length vc] from SX.out)
      have SY := Lib.hid (show Str wr.drew (w.heap.size + 1) 25 #[.int .i64 f, .slice (some ⟨b2, off2, none⟩) g2.length vc2] from SY.out)
      have C0 := Lib.hid (show wr.drew.cell? ⟨b, off + k * 3, none⟩ = some (.int .i64 xr) from C0.out)
      have C1 := Lib.hid (show wr.drew.cell? ⟨b, off + k * 3 + 1, none⟩ = some (.int .i64 xa) from C1.out)
      have C2 := Lib.hid (show wr.drew.cell? ⟨b, off + k * 3 + 2, none⟩ = some (.int .i64 xd) from C2.out)
      have D0 := Lib.hid (show wr.drew.cell? ⟨b2, off2 + k * 3, none⟩ = some (.int .i64 yr) from D0.out)
      have D1 := Lib.hid (show wr.drew.cell? ⟨b2, off2 + k * 3 + 1, none⟩ = some (.int .i64 ya) from D1.out)
      have D2 := Lib.hid (show wr.drew.cell? ⟨b2, off2 + k * 3 + 2, none⟩ = some (.int .i64 yd) from D2.out)
      have HW := Lib.hid HW.out.drew
      have Hb := Lib.hid Hb.out.drew
      have hzwd : wr.heap.size ≤ wr.drew.heap.size := Nat.le_refl _
      clear hdr
      refine wp_region_held_drew (S := fun w' => w'.cell? ⟨w.heap.size, 0, none⟩ = some (.int .i64 f) ∧ w'.cell? ⟨w.heap.size, 1, none⟩ = some (.slice (some ⟨b, off, none⟩) g.length vc) ∧ w'.cell? ⟨w.heap.size + 1, 0, none⟩ = some (.int .i64 f) ∧ w'.cell? ⟨w.heap.size + 1, 1, none⟩ = some (.slice (some ⟨b2, off2, none⟩) g2.length vc2) ∧ w'.cell? ⟨b, off + k * 3, none⟩ = some (.int .i64 xr) ∧ w'.cell? ⟨b, off + k * 3 + 1, none⟩ = some (.int .i64 xa) ∧ w'.cell? ⟨b, off + k * 3 + 2, none⟩ = some (.int .i64 xd) ∧ w'.cell? ⟨b2, off2 + k * 3, none⟩ = some (.int .i64 yr) ∧ w'.cell? ⟨b2, off2 + k * 3 + 1, none⟩ = some (.int .i64 ya) ∧ w'.cell? ⟨b2, off2 + k * 3 + 2, none⟩ = some (.int .i64 yd)) (by kernel_rfl) ⟨SX.out.cell 0 (v := .int .i64 f) rfl, SX.out.cell 1 (v := .slice (some ⟨b, off, none⟩) g.length vc) rfl, SY.out.cell 0 (v := .int .i64 f) rfl, SY.out.cell 1 (v := .slice (some ⟨b2, off2, none⟩) g2.length vc2) rfl, C0.out, C1.out, C2.out, D0.out, D1.out, D2.out⟩ (fun hH => ?_)
      generalize wr.drew = wd at *
      refine takeH 0 (v := ?vt12) rfl (by kernel_rfl) (by kernel_rfl) (by kernel_rfl) (fun _ _ _ h => h) hH rfl ?yt12 ?rt12
      case yt12 => intro W hSw; go_simp; try with_reducible rfl
      try simp only [Act.put, List.setIfInBounds_toArray, List.set_cons_zero, List.set_cons_succ]
      refine takeH 1 (v := ?vt13) rfl (by kernel_rfl) (by kernel_rfl) (by kernel_rfl) (fun _ _ _ h => h) hH rfl ?yt13 ?rt13
      case yt13 => intro W hSw; go_simp; try with_reducible rfl
      try simp only [Act.put, List.setIfInBounds_toArray, List.set_cons_zero, List.set_cons_succ]
      refine takeH 2 (v := ?vt14) rfl (by kernel_rfl) (by kernel_rfl) (by kernel_rfl) (fun _ _ _ h => h) hH rfl ?yt14 ?rt14
      case yt14 => intro W hSw; go_simp; try with_reducible rfl
      try simp only [Act.put, List.setIfInBounds_toArray, List.set_cons_zero, List.set_cons_succ]
      refine takeH 3 (v := ?vt15) rfl (by kernel_rfl) (by kernel_rfl) (by kernel_rfl) (fun _ _ _ h => h) hH rfl ?yt15 ?rt15
      case yt15 => intro W hSw; go_simp; try with_reducible rfl
      try simp only [Act.put, List.setIfInBounds_toArray, List.set_cons_zero, List.set_cons_succ]
      refine takeH 4 (v := ?vt16) rfl (by kernel_rfl) (by kernel_rfl) (by kernel_rfl) (fun _ _ _ h => h) hH rfl ?yt16 ?rt16
      case yt16 => intro W hSw; go_simp; try with_reducible rfl
      try simp only [Act.put, List.setIfInBounds_toArray, List.set_cons_zero, List.set_cons_succ]
      refine takeH 5 (v := ?vt17) rfl (by kernel_rfl) (by kernel_rfl) (by kernel_rfl) (fun _ _ _ h => h) hH rfl ?yt17 ?rt17
      case yt17 => intro W hSw; go_simp; try with_reducible rfl
      try simp only [Act.put, List.setIfInBounds_toArray, List.set_cons_zero, List.set_cons_succ]
      refine takeH 6 (v := ?vt18) rfl (by kernel_rfl) (by kernel_rfl) (by kernel_rfl) (fun _ _ _ h => h) hH rfl ?yt18 ?rt18
      case yt18 => intro W hSw; go_simp; try with_reducible rfl
      try simp only [Act.put, List.setIfInBounds_toArray, List.set_cons_zero, List.set_cons_succ]
      refine takeH 7 (v := ?vt19) rfl (by kernel_rfl) (by kernel_rfl) (by kernel_rfl) (fun _ _ _ h => h) hH rfl ?yt19 ?rt19
      case yt19 => intro W hSw; go_simp; try with_reducible rfl
      try simp only [Act.put, List.setIfInBounds_toArray, List.set_cons_zero, List.set_cons_succ]
      refine takeH 8 (v := ?vt20) rfl (by kernel_rfl) (by kernel_rfl) (by kernel_rfl) (fun _ _ _ h => h) hH rfl ?yt20 ?rt20
      case yt20 => intro W hSw; go_simp; try with_reducible rfl
      try simp only [Act.put, List.setIfInBounds_toArray, List.set_cons_zero, List.set_cons_succ]
      refine takeH 9 (v := ?vt21) rfl (by kernel_rfl) (by kernel_rfl) (by kernel_rfl) (fun _ _ _ h => h) hH rfl ?yt21 ?rt21
      case yt21 => intro W hSw; go_simp; try with_reducible rfl
      try simp only [Act.put, List.setIfInBounds_toArray, List.set_cons_zero, List.set_cons_succ]
      refine takeH 10 (v := ?vt22) rfl (by kernel_rfl) (by kernel_rfl) (by kernel_rfl) (fun _ _ _ h => h) hH rfl ?yt22 ?rt22
      case yt22 => intro W hSw; go_simp; try with_reducible rfl
      try simp only [Act.put, List.setIfInBounds_toArray, List.set_cons_zero, List.set_cons_succ]
      refine wpAnyH_done (by kernel_rfl) ?_ _
      clear hH hq
      try simp only [Act.put]
      go_wp2
      go_ret
      exact ⟨ret_bool (by simp [Hst.out.2 Hxy.out]), Hb.out⟩
    have hge : ¬ (k : Int) < (g.length : Int) := by omega
    have hd : decide ((k : Int) < (g.length : Int)) = false := decide_eq_false hge
    have heq : g = g2 := by have h := Hup.out; rwa [List.take_of_length_le (by omega), List.take_of_length_le (by have := Hl.out; omega)] at h
    have Heq := Lib.hid heq; clear heq
    have cX_0 := SX.out.cell 0 (v := .int .i64 f) rfl
    have cX_1 := SX.out.cell 1 (v := .slice va g.length vc) rfl
    have cY_0 := SY.out.cell 0 (v := .int .i64 f) rfl
    have cY_1 := SY.out.cell 1 (v := .slice va2 g2.length vc2) rfl
    go_wp2
    clear cX_0 cX_1 cY_0 cY_1
    go_ret
    exact ⟨ret_bool (by simp [Heq.out]), Hb.out⟩

end Go.Proofs.Ytgpbogalknmcmaa

/- The map that impl makes of a list of votes, and whether it has a vote, by walks of its text; conditions: the votes are for different places. -/
namespace Go.Proofs.Ytgpbogalknmcmaa
open Go.RowKit

set_option maxHeartbeats 2000000 in
theorem impl_votesOf (g : List Vt) (v : Value) (fp : List Nat) (w : World) (hbig : g.length ≤ 1099511627776) (hi : ∀ u ∈ g, VtI u) (hap : ApartV g) (hg : Vts w g v fp) :
    Calls Try.prog 33 #[v] w fun e w' => ∃ b, e = .returned (.map (some b)) ∧ w.heap.size ≤ b ∧ MapV w' b g.reverse ∧ Below w.heap.size w w' := by
  obtain ⟨va, vc, rfl⟩ := hg.slice
  have hmm := @run_makeMap Try.prog
  have hM := MapV.new w
  have hb0 : Below w.heap.size w (w.alloc (.map #[] 0)) := (Below.refl _ _).alloc (Nat.le_refl _) _
  have Hg := Lib.hid hg; clear hg
  have HM := Lib.hid hM
  have Hb0 := Lib.hid hb0
  clear hM hb0
  go_enter Try.func33, Try.ntmps33
  go_wp2_with fail
  go_loopw [9] (fun i wr => ∃ k : Nat, k ≤ g.length ∧ i = .int .i64 k ∧ MapV wr w.heap.size (g.take k).reverse ∧ Below w.heap.size w wr) (fun i _ => g.length - (intOf i).toNat)
  case atStart => exact ⟨0, by omega, rfl, by simpa using HM.out, Hb0.out⟩
  case round =>
    obtain ⟨k, hk, rfl, hmv, hbel⟩ := hrel
    clear HM Hb0 hmm
    by_cases hlt : k < g.length
    · have Hg1 := Lib.hid (Hg.out.under hbel)
      obtain ⟨b, off, rfl, hb, hat⟩ := Hg1.out.at (by omega)
      obtain ⟨c0, c1, c2⟩ := hat k hlt
      have htk : (g.take (k + 1)).reverse = g[k] :: (g.take k).reverse := by rw [List.take_succ_eq_append_getElem hlt]; simp
      have hvi := hi _ (List.getElem_mem hlt)
      have hfr : ∀ u ∈ (g.take k).reverse, ¬ SamePl u g[k] := by
        intro u hu
        rw [List.mem_reverse, List.mem_take_iff_getElem] at hu
        obtain ⟨j, hj, rfl⟩ := hu
        exact (List.pairwise_iff_getElem.1 hap) j k (by omega) hlt (by omega)
      have hln : (g.take k).reverse.length ≤ 1099511627776 := by rw [List.length_reverse, List.length_take]; omega
      have Htk := Lib.hid htk; clear htk hat
      have Hbel := Lib.hid hbel; clear hbel
      have Hmv := Lib.hid hmv; clear hmv
      generalize hx : g[k] = x at *
      generalize (g.take k).reverse = gk at *
      obtain ⟨xr, xa, xd⟩ := x
      dsimp only at *
      clear hx
      have HP := Lib.hid (fun W => vote_place xr xa xd W)
      have hal : Below wr.heap.size wr (wr.alloc (.cells #[.int .i64 xr, .int .i64 xa, .int .i64 xd] 27)) := (Below.refl _ _).alloc (Nat.le_refl _) _
      have sX := Str.new wr 27 #[.int .i64 xr, .int .i64 xa, .int .i64 xd]
      have hzx : (wr.alloc (.cells #[.int .i64 xr, .int .i64 xa, .int .i64 xd] 27)).heap.size = wr.heap.size + 1 := by simp
      have x0 := sX.cell 0 (v := .int .i64 xr) rfl
      have x1 := sX.cell 1 (v := .int .i64 xa) rfl
      have x2 := sX.cell 2 (v := .int .i64 xd) rfl
      have Hmv := Lib.hid (Hmv.out.kept (below_grown hal) (by simp))
      have Hbel := Lib.hid (below_step Hbel.out Hbel.out.size hal)
      clear sX hal
      have hmt := Hmv.out.lt
      go_wp2_with fail
      generalize wr.alloc (.cells #[.int .i64 xr, .int .i64 xa, .int .i64 xd] 27) = w1 at *
      have hx1 : wr.heap.size < w1.heap.size := by omega
      refine wp_region_L 5 (fun w' => w'.cell? ⟨wr.heap.size, 0, none⟩ = some (.int .i64 xr) ∧ w'.cell? ⟨wr.heap.size, 1, none⟩ = some (.int .i64 xa) ∧ w'.cell? ⟨wr.heap.size, 2, none⟩ = some (.int .i64 xd)) (by kernel_rfl) ⟨x0, x1, x2⟩ (fun hH => ?_)
      have Hmv := Lib.hid Hmv.out.drew
      have Hbel := Lib.hid Hbel.out.drew
      have hzd : w1.drew.heap.size = w1.heap.size := rfl
      generalize w1.drew = w2 at *
      clear x0 x1 x2 c0 c1 c2
      refine takeL 0 (v := ?va0) rfl (by kernel_rfl) (by kernel_rfl) (by kernel_rfl) (by kernel_rfl) (by kernel_rfl) (fun _ _ _ h => h) hH rfl ?ya0 ?ra0
      case ya0 => intro W hSw; go_simp; try with_reducible rfl
      try simp only [Act.put, List.setIfInBounds_toArray, List.set_cons_zero, List.set_cons_succ]
      refine takeL 1 (v := ?va1) rfl (by kernel_rfl) (by kernel_rfl) (by kernel_rfl) (by kernel_rfl) (by kernel_rfl) (fun _ _ _ h => h) hH rfl ?ya1 ?ra1
      case ya1 => intro W hSw; go_simp; try with_reducible rfl
      try simp only [Act.put, List.setIfInBounds_toArray, List.set_cons_zero, List.set_cons_succ]
      refine takeL 3 (v := ?va3) rfl (by kernel_rfl) (by kernel_rfl) (by kernel_rfl) (by kernel_rfl) (by kernel_rfl) (fun _ _ _ h => h) hH rfl ?ya3 ?ra3
      case ya3 => intro W hSw; go_simp; try with_reducible rfl
      try simp only [Act.put, List.setIfInBounds_toArray, List.set_cons_zero, List.set_cons_succ]
      refine takeL 4 (v := ?va4) rfl (by kernel_rfl) (by kernel_rfl) (by kernel_rfl) (by kernel_rfl) (by kernel_rfl) (fun _ _ _ h => h) hH rfl ?ya4 ?ra4
      case ya4 => intro W hSw; go_simp; try with_reducible rfl
      try simp only [Act.put, List.setIfInBounds_toArray, List.set_cons_zero, List.set_cons_succ]
      refine callL 2 rfl (by kernel_rfl) rfl (fun K hK => ?_)
      go_simp
      go_at_call 34
      refine (HP.out _).mono ?_
      rintro e w3 ⟨rfl, hb3⟩
      have Hmv := Lib.hid (Hmv.out.kept (below_grown hb3) (by simp))
      have Hbel := Lib.hid (below_step Hbel.out Hbel.out.size hb3)
      refine hK.out _ _ ⟨(hb3.cell (p := ⟨wr.heap.size, 0, none⟩) (by simp only; omega)).trans hH.1, (hb3.cell (p := ⟨wr.heap.size, 1, none⟩) (by simp only; omega)).trans hH.2.1, (hb3.cell (p := ⟨wr.heap.size, 2, none⟩) (by simp only; omega)).trans hH.2.2⟩ (fun hH => ?_)
      clear hK K hb3
      try simp only [Act.put, List.setIfInBounds_toArray, List.set_cons_zero, List.set_cons_succ]
      obtain ⟨w4, hrun, hm4, hg4⟩ := Hmv.out.store (v := ⟨xr, xa, xd⟩) hvi hfr hln
      dsimp only at hrun
      refine lastL rfl (by kernel_rfl) (by kernel_rfl) (by kernel_rfl) rfl (fun K hK => ?_)
      go_simp
      refine hK.out _ _ ?_
      clear hK K
      try simp only [Act.put]
      have Hb4 := Lib.hid (Hbel.out.grown hg4 Hbel.out.size (fun q e => by cases e; exact Nat.le_refl _))
      have Hm4 := Lib.hid hm4
      clear hH hrun hm4 hg4
      go_wp2
      go_roundw
      case rel => exact ⟨k + 1, by omega, by go_num, by rw [Htk.out]; exact Hm4.out, Hb4.out⟩
      case measure => simp [intOf]; omega
    · have hkn : k = g.length := by omega
      subst hkn
      rw [List.take_length] at hmv
      have Hmv := Lib.hid hmv; clear hmv
      have Hbel := Lib.hid hbel; clear hbel
      go_wp2
      go_ret
      exact ⟨_, rfl, Nat.le_refl _, Hmv.out, Hbel.out⟩

set_option maxHeartbeats 1000000 in
theorem votes_has (b : Nat) (gm : List Vt) (r a d : Int) (w : World) (hr : inI r) (ha : inI a) (hm : MapV w b gm) :
    Calls Try.prog 36 #[.map (some b), .agg #[.int .i64 r, .int .i64 a, .int .i64 d]] w fun e w' => e = .returned (.bool (decide (⟨r, a, d⟩ ∈ gm))) ∧ Below w.heap.size w w' := by
  have hb0 : Below w.heap.size w (w.alloc (.cells #[.int .i64 r, .int .i64 a, .int .i64 d] 27)) := (Below.refl _ _).alloc (Nat.le_refl _) _
  have s0 := Str.new w 27 #[.int .i64 r, .int .i64 a, .int .i64 d]
  have hz0 : (w.alloc (.cells #[.int .i64 r, .int .i64 a, .int .i64 d] 27)).heap.size = w.heap.size + 1 := by simp
  have k0 := s0.cell 0 (v := .int .i64 r) rfl
  have k1 := s0.cell 1 (v := .int .i64 a) rfl
  have k2 := s0.cell 2 (v := .int .i64 d) rfl
  have HM := Lib.hid (hm.kept (below_grown hb0) (by simp))
  have Hb0 := Lib.hid hb0; clear hb0 s0 hm
  have H1 := Lib.hid (fun W => vote_place r a d W)
  go_enter Try.func36, Try.ntmps36
  go_wp2_with fail
  generalize w.alloc (.cells #[.int .i64 r, .int .i64 a, .int .i64 d] 27) = W0 at *
  refine (H1.out W0).mono ?_
  rintro e w1 ⟨rfl, hb1⟩
  have k2 := (hb1.cell (p := ⟨w.heap.size, 2, none⟩) (by simp only; omega)).trans k2
  have hm1 := HM.out.kept (below_grown hb1) (by simp)
  have Hb1 := Lib.hid (below_step Hb0.out Hb0.out.size hb1)
  obtain ⟨dd, ok, hrun, hok, hd⟩ := hm1.look hr ha
  have hmem : decide ((⟨r, a, d⟩ : Vt) ∈ gm) = (ok && decide (dd = d)) := by
    rw [Bool.eq_iff_iff, decide_eq_true_iff, Bool.and_eq_true, hok, decide_eq_true_iff]
    constructor
    · intro hin
      exact ⟨⟨_, hin, rfl, rfl⟩, hd _ hin rfl rfl⟩
    · rintro ⟨⟨u, hu, e1, e2⟩, e3⟩
      have e4 := hd u hu e1 e2
      have : u = ⟨r, a, d⟩ := by cases u; simp only at *; rw [e1, e2, ← e4, e3]
      rw [← this]; exact hu
  have Hmem := Lib.hid hmem
  clear hmem hok hd hm1 hb1 k0 k1 HM H1
  cases ok with
  | false =>
    go_wp2
    go_ret
    exact ⟨ret_bool (by rw [Hmem.out]; rfl), Hb1.out⟩
  | true =>
    go_wp2
    go_ret
    exact ⟨ret_bool (by rw [Hmem.out]; by_cases h : dd = d <;> simp [h]), Hb1.out⟩

end Go.Proofs.Ytgpbogalknmcmaa

/- impl.VoterSign, by a walk of its text; condition: the list is shorter than 2^40. -/
namespace Go.Proofs.Ytgpbogalknmcmaa
open Go.RowKit

set_option maxHeartbeats 8000000 in
set_option maxRecDepth 8000 in
theorem impl_VoterSign (f : Int) (g : List Vt) (v : Value) (fp : List Nat) (ur ua ud : Int) (w : World) (hbig : g.length ≤ 1099511627776) (hg : Vts w g v fp) :
    Calls Try.prog 14 #[.agg #[.int .i64 f, v], .agg #[.int .i64 ur, .int .i64 ua, .int .i64 ud]] w fun e w' => ∃ vv, e = .returned (.tuple #[.agg #[.int .i64 (sgF f g ⟨ur, ua, ud⟩), vv], .bool (sgB f g ⟨ur, ua, ud⟩)]) ∧ OwnR 27 3 3 w' w.heap.size w'.heap.size vv ((sgG f g ⟨ur, ua, ud⟩).map Vt.fd) ∧ Below w.heap.size w w' := by
  obtain ⟨va, vc, rfl⟩ := hg.slice
  have hb0 : Below w.heap.size w (((w.alloc (.cells #[.int .i64 f, .slice va g.length vc] 25)).alloc (.cells #[.int .i64 ur, .int .i64 ua, .int .i64 ud] 27)).alloc (.cells #[.int .i64 0, .slice none 0 0] 25)) := (((Below.refl _ _).alloc (Nat.le_refl _) _).alloc (by simp) _).alloc (by simp; omega) _
  have sx := ((Str.new w 25 #[.int .i64 f, .slice va g.length vc]).alloc (.cells #[.int .i64 ur, .int .i64 ua, .int .i64 ud] 27)).alloc (.cells #[.int .i64 0, .slice none 0 0] 25)
  have sv := (Str.new (w.alloc (.cells #[.int .i64 f, .slice va g.length vc] 25)) 27 #[.int .i64 ur, .int .i64 ua, .int .i64 ud]).alloc (.cells #[.int .i64 0, .slice none 0 0] 25)
  have sr := Str.new ((w.alloc (.cells #[.int .i64 f, .slice va g.length vc] 25)).alloc (.cells #[.int .i64 ur, .int .i64 ua, .int .i64 ud] 27)) 25 #[.int .i64 0, .slice none 0 0]
  have hz0 : (((w.alloc (.cells #[.int .i64 f, .slice va g.length vc] 25)).alloc (.cells #[.int .i64 ur, .int .i64 ua, .int .i64 ud] 27)).alloc (.cells #[.int .i64 0, .slice none 0 0] 25)).heap.size = w.heap.size + 3 := by simp
  simp only [World.size_alloc] at sv sr
  have SX := Lib.hid (show Str (((w.alloc (.cells #[.int .i64 f, .slice va g.length vc] 25)).alloc (.cells #[.int .i64 ur, .int .i64 ua, .int .i64 ud] 27)).alloc (.cells #[.int .i64 0, .slice none 0 0] 25)) (w.heap.size) 25 #[.int .i64 f, .slice va g.length vc] from sx)
  have SV := Lib.hid (show Str (((w.alloc (.cells #[.int .i64 f, .slice va g.length vc] 25)).alloc (.cells #[.int .i64 ur, .int .i64 ua, .int .i64 ud] 27)).alloc (.cells #[.int .i64 0, .slice none 0 0] 25)) (w.heap.size + 1) 27 #[.int .i64 ur, .int .i64 ua, .int .i64 ud] from sv)
  have SR := Lib.hid (show Str (((w.alloc (.cells #[.int .i64 f, .slice va g.length vc] 25)).alloc (.cells #[.int .i64 ur, .int .i64 ua, .int .i64 ud] 27)).alloc (.cells #[.int .i64 0, .slice none 0 0] 25)) (w.heap.size + 2) 25 #[.int .i64 0, .slice none 0 0] from sr)
  have Hg := Lib.hid (hg.under hb0)
  have Hb := Lib.hid hb0
  clear sx sv sr hb0 hg
  skip
  go_enter Try.func14, Try.ntmps14
  have cX_0 := SX.out.cell 0 (v := .int .i64 f) rfl
  have cX_1 := SX.out.cell 1 (v := .slice va g.length vc) rfl
  have cV_0 := SV.out.cell 0 (v := .int .i64 ur) rfl
  have cV_1 := SV.out.cell 1 (v := .int .i64 ua) rfl
  have cV_2 := SV.out.cell 2 (v := .int .i64 ud) rfl
  go_wp2_with fail
  generalize (((w.alloc (.cells #[.int .i64 f, .slice va g.length vc] 25)).alloc (.cells #[.int .i64 ur, .int .i64 ua, .int .i64 ud] 27)).alloc (.cells #[.int .i64 0, .slice none 0 0] 25)) = W0 at *
  refine (impl_VoterValid f g _ fp _ hbig Hg.out).mono ?_
  rintro e w1 ⟨rfl, hb1⟩
  clear cX_0 cX_1 cV_0 cV_1 cV_2
  have SX := Lib.hid (show Str w1 (w.heap.size) 25 #[.int .i64 f, .slice va g.length vc] from (hb1.block _ SX.out.lt).trans SX.out)
  have SV := Lib.hid (show Str w1 (w.heap.size + 1) 27 #[.int .i64 ur, .int .i64 ua, .int .i64 ud] from (hb1.block _ SV.out.lt).trans SV.out)
  have SR := Lib.hid (show Str w1 (w.heap.size + 2) 25 #[.int .i64 0, .slice none 0 0] from (hb1.block _ SR.out.lt).trans SR.out)
  have Hg := Lib.hid (Hg.out.under hb1)
  have hsw1 := hb1.size
  have Hb := Lib.hid (below_step Hb.out Hb.out.size hb1)
  clear hb1
  cases h1 : voterB f g with
  | false =>
    obtain ⟨z1, z2, z3⟩ := sg_no (f := f) (g := g) (v := ⟨ur, ua, ud⟩) (by rw [h1]; rfl)
    have Z1 := Lib.hid z1; have Z2 := Lib.hid z2; have Z3 := Lib.hid z3; clear z1 z2 z3
    have cX_0 := SX.out.cell 0 (v := .int .i64 f) rfl
    have cX_1 := SX.out.cell 1 (v := .slice va g.length vc) rfl
    have cV_0 := SV.out.cell 0 (v := .int .i64 ur) rfl
    have cV_1 := SV.out.cell 1 (v := .int .i64 ua) rfl
    have cV_2 := SV.out.cell 2 (v := .int .i64 ud) rfl
    have cR_0 := SR.out.cell 0 (v := .int .i64 0) rfl
    have cR_1 := SR.out.cell 1 (v := .slice none 0 0) rfl
    have fR_0 := SR.out.frozen 0
    have fR_1 := SR.out.frozen 1
    have sF := (SR.out.set 0 (.int .i64 0)).set 1 (.slice none 0 0)
    have e0 := sF.cell 0 (v := .int .i64 0) rfl
    have e1 := sF.cell 1 (v := .slice none 0 0) rfl
    clear sF
    go_wp2
    refine bodyPost_ret (v := .tuple #[.agg #[.int .i64 0, .slice none 0 0], .bool false]) (by simp [results, Try.f14, go_sem, e0, e1]) rfl ?_
    rw [Z1.out, Z2.out, Z3.out]
    exact ⟨_, rfl, OwnR.nil ⟨rfl, .inl ⟨rfl, rfl⟩⟩ (fun g e => by cases e), (Hb.out.setCell (p := ⟨w.heap.size + 2, 0, none⟩) (by simp only; omega) _).setCell (p := ⟨w.heap.size + 2, 1, none⟩) (by simp only; omega) _⟩
  | true =>
  have cX_0 := SX.out.cell 0 (v := .int .i64 f) rfl
  have cX_1 := SX.out.cell 1 (v := .slice va g.length vc) rfl
  have cV_0 := SV.out.cell 0 (v := .int .i64 ur) rfl
  have cV_1 := SV.out.cell 1 (v := .int .i64 ua) rfl
  have cV_2 := SV.out.cell 2 (v := .int .i64 ud) rfl
  go_wp2_with fail
  refine (vote_valid ur ua ud _).mono ?_
  rintro e w2 ⟨rfl, hb2⟩
  clear cX_0 cX_1 cV_0 cV_1 cV_2
  have SX := Lib.hid (show Str w2 (w.heap.size) 25 #[.int .i64 f, .slice va g.length vc] from (hb2.block _ SX.out.lt).trans SX.out)
  have SV := Lib.hid (show Str w2 (w.heap.size + 1) 27 #[.int .i64 ur, .int .i64 ua, .int .i64 ud] from (hb2.block _ SV.out.lt).trans SV.out)
  have SR := Lib.hid (show Str w2 (w.heap.size + 2) 25 #[.int .i64 0, .slice none 0 0] from (hb2.block _ SR.out.lt).trans SR.out)
  have Hg := Lib.hid (Hg.out.under hb2)
  have hsw2 := hb2.size
  have Hb := Lib.hid (below_step Hb.out Hb.out.size hb2)
  clear hb2
  cases h2 : voteB ⟨ur, ua, ud⟩ with
  | false =>
    obtain ⟨z1, z2, z3⟩ := sg_no (f := f) (g := g) (v := ⟨ur, ua, ud⟩) (by rw [h1, h2]; rfl)
    have Z1 := Lib.hid z1; have Z2 := Lib.hid z2; have Z3 := Lib.hid z3; clear z1 z2 z3
    have cX_0 := SX.out.cell 0 (v := .int .i64 f) rfl
    have cX_1 := SX.out.cell 1 (v := .slice va g.length vc) rfl
    have cV_0 := SV.out.cell 0 (v := .int .i64 ur) rfl
    have cV_1 := SV.out.cell 1 (v := .int .i64 ua) rfl
    have cV_2 := SV.out.cell 2 (v := .int .i64 ud) rfl
    have cR_0 := SR.out.cell 0 (v := .int .i64 0) rfl
    have cR_1 := SR.out.cell 1 (v := .slice none 0 0) rfl
    have fR_0 := SR.out.frozen 0
    have fR_1 := SR.out.frozen 1
    have sF := (SR.out.set 0 (.int .i64 0)).set 1 (.slice none 0 0)
    have e0 := sF.cell 0 (v := .int .i64 0) rfl
    have e1 := sF.cell 1 (v := .slice none 0 0) rfl
    clear sF
    go_wp2
    refine bodyPost_ret (v := .tuple #[.agg #[.int .i64 0, .slice none 0 0], .bool false]) (by simp [results, Try.f14, go_sem, e0, e1]) rfl ?_
    rw [Z1.out, Z2.out, Z3.out]
    exact ⟨_, rfl, OwnR.nil ⟨rfl, .inl ⟨rfl, rfl⟩⟩ (fun g e => by cases e), (Hb.out.setCell (p := ⟨w.heap.size + 2, 0, none⟩) (by simp only; omega) _).setCell (p := ⟨w.heap.size + 2, 1, none⟩) (by simp only; omega) _⟩
  | true =>
  obtain ⟨z1, z2, z3⟩ := sg_yes h1 h2
  have hvi := vote_I h2
  obtain ⟨hvi1, hvi2, hvi3⟩ := hvi
  dsimp only at hvi1 hvi2 hvi3
  obtain ⟨hl0, hl1, hl2⟩ := voter_len h1
  have Z1 := Lib.hid z1; have Z2 := Lib.hid z2; have Z3 := Lib.hid z3; clear z1 z2 z3
  have H1 := Lib.hid h1; have H2 := Lib.hid h2
  have cX_0 := SX.out.cell 0 (v := .int .i64 f) rfl
  have cX_1 := SX.out.cell 1 (v := .slice va g.length vc) rfl
  have cV_0 := SV.out.cell 0 (v := .int .i64 ur) rfl
  have cV_1 := SV.out.cell 1 (v := .int .i64 ua) rfl
  have cV_2 := SV.out.cell 2 (v := .int .i64 ud) rfl
  go_wp2_with fail
  refine (impl_votesOf g _ fp _ hbig (voter_I H1.out) (voter_apart H1.out) Hg.out).mono ?_
  rintro e w3 ⟨b, rfl, hbb, hM, hb3⟩
  clear cX_0 cX_1 cV_0 cV_1 cV_2
  have HM := Lib.hid hM; clear hM
  have SX := Lib.hid (show Str w3 (w.heap.size) 25 #[.int .i64 f, .slice va g.length vc] from (hb3.block _ SX.out.lt).trans SX.out)
  have SV := Lib.hid (show Str w3 (w.heap.size + 1) 27 #[.int .i64 ur, .int .i64 ua, .int .i64 ud] from (hb3.block _ SV.out.lt).trans SV.out)
  have SR := Lib.hid (show Str w3 (w.heap.size + 2) 25 #[.int .i64 0, .slice none 0 0] from (hb3.block _ SR.out.lt).trans SR.out)
  have Hg := Lib.hid (Hg.out.under hb3)
  have hsw3 := hb3.size
  have Hb := Lib.hid (below_step Hb.out Hb.out.size hb3)
  clear hb3
  clear Hg
  have cX_0 := SX.out.cell 0 (v := .int .i64 f) rfl
  have cX_1 := SX.out.cell 1 (v := .slice va g.length vc) rfl
  have cV_0 := SV.out.cell 0 (v := .int .i64 ur) rfl
  have cV_1 := SV.out.cell 1 (v := .int .i64 ua) rfl
  have cV_2 := SV.out.cell 2 (v := .int .i64 ud) rfl
  go_wp2_with fail
  refine (vote_place ur ua ud _).mono ?_
  rintro e w4 ⟨rfl, hb4⟩
  clear cX_0 cX_1 cV_0 cV_1 cV_2
  have SX := Lib.hid (show Str w4 (w.heap.size) 25 #[.int .i64 f, .slice va g.length vc] from (hb4.block _ SX.out.lt).trans SX.out)
  have SV := Lib.hid (show Str w4 (w.heap.size + 1) 27 #[.int .i64 ur, .int .i64 ua, .int .i64 ud] from (hb4.block _ SV.out.lt).trans SV.out)
  have SR := Lib.hid (show Str w4 (w.heap.size + 2) 25 #[.int .i64 0, .slice none 0 0] from (hb4.block _ SR.out.lt).trans SR.out)
  have HM := Lib.hid (show MapV w4 b (g.reverse) from HM.out.kept (below_grown hb4) (by simp))
  have hsw4 := hb4.size
  have Hb := Lib.hid (below_step Hb.out Hb.out.size hb4)
  clear hb4
  obtain ⟨dd, ok, hrun, hok, _⟩ := HM.out.look hvi1 hvi2
  have hmem : (∃ y ∈ g.reverse, y.r = ur ∧ y.a = ua) ↔ ∃ y ∈ g, SamePl y ⟨ur, ua, ud⟩ := by simp [SamePl]
  rw [hmem] at hok
  have Hok := Lib.hid hok; clear hok hmem h1 h2
  cases hoc : ok with
  | true =>
    subst hoc
    have hex := Hok.out.1 rfl
    obtain ⟨s1, s2⟩ := sign_there H1.out hex
    have hfin : ∀ x, x ∈ g.reverse ↔ x ∈ signG f g ⟨ur, ua, ud⟩ := fun x => by rw [s1]; simp
    have hfb : decide ((⟨ur, ua, ud⟩ : Vt) ∈ g.reverse) = signB f g ⟨ur, ua, ud⟩ := by rw [s2]; simp
    clear s1 s2
    have hgl : g.reverse.length ≤ 1048576 := by rw [List.length_reverse]; omega
    have Hfin := Lib.hid hfin; have Hfb := Lib.hid hfb; have Hgl := Lib.hid hgl; clear hfin hfb hgl
    have cX_0 := SX.out.cell 0 (v := .int .i64 f) rfl
    have cX_1 := SX.out.cell 1 (v := .slice va g.length vc) rfl
    have cV_0 := SV.out.cell 0 (v := .int .i64 ur) rfl
    have cV_1 := SV.out.cell 1 (v := .int .i64 ua) rfl
    have cV_2 := SV.out.cell 2 (v := .int .i64 ud) rfl
    go_wp2_with fail
    clear cX_0 cX_1 cV_0 cV_1 cV_2
    have SX := Lib.hid (show Str w4.drew (w.heap.size) 25 #[.int .i64 f, .slice va g.length vc] from SX.out)
    have SV := Lib.hid (show Str w4.drew (w.heap.size + 1) 27 #[.int .i64 ur, .int .i64 ua, .int .i64 ud] from SV.out)
    have SR := Lib.hid (show Str w4.drew (w.heap.size + 2) 25 #[.int .i64 0, .slice none 0 0] from SR.out)
    have HM := Lib.hid (show MapV w4.drew b (g.reverse) from HM.out.drew)
    have Hb := Lib.hid Hb.out.drew
    have hzwd : w4.drew.heap.size = w4.heap.size := rfl
    refine wp_region_L 9 (fun w' => w'.cell? ⟨w.heap.size, 0, none⟩ = some (.int .i64 f) ∧ w'.cell? ⟨w.heap.size, 1, none⟩ = some (.slice va g.length vc) ∧ w'.cell? ⟨w.heap.size + 1, 0, none⟩ = some (.int .i64 ur) ∧ w'.cell? ⟨w.heap.size + 1, 1, none⟩ = some (.int .i64 ua) ∧ w'.cell? ⟨w.heap.size + 1, 2, none⟩ = some (.int .i64 ud)) (by kernel_rfl) ⟨SX.out.cell 0 (v := .int .i64 f) rfl, SX.out.cell 1 (v := .slice va g.length vc) rfl, SV.out.cell 0 (v := .int .i64 ur) rfl, SV.out.cell 1 (v := .int .i64 ua) rfl, SV.out.cell 2 (v := .int .i64 ud) rfl⟩ (fun hH => ?_)
    generalize w4.drew = wd at *
    refine takeL 0 (v := ?vt1) rfl (by kernel_rfl) (by kernel_rfl) (by kernel_rfl) (by kernel_rfl) (by kernel_rfl) (fun _ _ _ h => h) hH rfl ?yt1 ?rt1
    case yt1 => intro W hSw; go_simp; try with_reducible rfl
    try simp only [Act.put, List.setIfInBounds_toArray, List.set_cons_zero, List.set_cons_succ]
    refine takeL 1 (v := ?vt2) rfl (by kernel_rfl) (by kernel_rfl) (by kernel_rfl) (by kernel_rfl) (by kernel_rfl) (fun _ _ _ h => h) hH rfl ?yt2 ?rt2
    case yt2 => intro W hSw; go_simp; try with_reducible rfl
    try simp only [Act.put, List.setIfInBounds_toArray, List.set_cons_zero, List.set_cons_succ]
    refine takeL 2 (v := ?vt3) rfl (by kernel_rfl) (by kernel_rfl) (by kernel_rfl) (by kernel_rfl) (by kernel_rfl) (fun _ _ _ h => h) hH rfl ?yt3 ?rt3
    case yt3 => intro W hSw; go_simp; try with_reducible rfl
    try simp only [Act.put, List.setIfInBounds_toArray, List.set_cons_zero, List.set_cons_succ]
    refine takeL 5 (v := ?vt4) rfl (by kernel_rfl) (by kernel_rfl) (by kernel_rfl) (by kernel_rfl) (by kernel_rfl) (fun _ _ _ h => h) hH rfl ?yt4 ?rt4
    case yt4 => intro W hSw; go_simp; try with_reducible rfl
    try simp only [Act.put, List.setIfInBounds_toArray, List.set_cons_zero, List.set_cons_succ]
    refine takeL 6 (v := ?vt5) rfl (by kernel_rfl) (by kernel_rfl) (by kernel_rfl) (by kernel_rfl) (by kernel_rfl) (fun _ _ _ h => h) hH rfl ?yt5 ?rt5
    case yt5 => intro W hSw; go_simp; try with_reducible rfl
    try simp only [Act.put, List.setIfInBounds_toArray, List.set_cons_zero, List.set_cons_succ]
    refine callL 3 rfl (by kernel_rfl) rfl (fun K hK => ?_)
    go_simp
    go_at_call 35
    refine (votes_list b (g.reverse) _ Hgl.out HM.out).mono ?_
    rintro e w6 ⟨vl, G, rfl, hG1, hG2, hoG, hb6⟩
    obtain ⟨al, cl, rfl, _⟩ := hoG.slice
    rw [List.length_map] at *
    have SX := Lib.hid (show Str w6 (w.heap.size) 25 #[.int .i64 f, .slice va g.length vc] from (hb6.block _ SX.out.lt).trans SX.out)
    have SV := Lib.hid (show Str w6 (w.heap.size + 1) 27 #[.int .i64 ur, .int .i64 ua, .int .i64 ud] from (hb6.block _ SV.out.lt).trans SV.out)
    have SR := Lib.hid (show Str w6 (w.heap.size + 2) 25 #[.int .i64 0, .slice none 0 0] from (hb6.block _ SR.out.lt).trans SR.out)
    have HM := Lib.hid (show MapV w6 b (g.reverse) from HM.out.kept (below_grown hb6) (by simp))
    have hsw6 := hb6.size
    have Hb := Lib.hid (below_step Hb.out Hb.out.size hb6)
    have hGe := sign_ext H1.out H2.out hG1 (fun x => (hG2 x).trans (Hfin.out x))
    subst hGe
    have Ho := Lib.hid hoG; clear hoG hG1 hG2 hb6
    generalize hgs : signG f g ⟨ur, ua, ud⟩ = G at *
    clear hgs
    refine hK.out _ _ ⟨SX.out.cell 0 (v := .int .i64 f) rfl, SX.out.cell 1 (v := .slice va g.length vc) rfl, SV.out.cell 0 (v := .int .i64 ur) rfl, SV.out.cell 1 (v := .int .i64 ua) rfl, SV.out.cell 2 (v := .int .i64 ud) rfl⟩ (fun hH => ?_)
    clear hK K
    try simp only [Act.put, List.setIfInBounds_toArray, List.set_cons_zero, List.set_cons_succ]
    refine takeL 4 (v := ?vt6) rfl (by kernel_rfl) (by kernel_rfl) (by kernel_rfl) (by kernel_rfl) (by kernel_rfl) (fun _ _ _ h => h) hH rfl ?yt6 ?rt6
    case yt6 => intro W hSw; go_simp; try with_reducible rfl
    try simp only [Act.put, List.setIfInBounds_toArray, List.set_cons_zero, List.set_cons_succ]
    refine callL 7 rfl (by kernel_rfl) rfl (fun K hK => ?_)
    go_simp
    go_at_call 36
    refine (votes_has b (g.reverse) ur ua ud _ hvi1 hvi2 HM.out).mono ?_
    rintro e w7 ⟨rfl, hb7⟩
    rw [Hfb.out]
    have Ho := Lib.hid (Ho.out.below hb7 (Nat.le_refl _))
    have SX := Lib.hid (show Str w7 (w.heap.size) 25 #[.int .i64 f, .slice va g.length vc] from (hb7.block _ SX.out.lt).trans SX.out)
    have SV := Lib.hid (show Str w7 (w.heap.size + 1) 27 #[.int .i64 ur, .int .i64 ua, .int .i64 ud] from (hb7.block _ SV.out.lt).trans SV.out)
    have SR := Lib.hid (show Str w7 (w.heap.size + 2) 25 #[.int .i64 0, .slice none 0 0] from (hb7.block _ SR.out.lt).trans SR.out)
    have HM := Lib.hid (show MapV w7 b (g.reverse) from HM.out.kept (below_grown hb7) (by simp))
    have hsw7 := hb7.size
    have Hb := Lib.hid (below_step Hb.out Hb.out.size hb7)
    refine hK.out _ _ ⟨SX.out.cell 0 (v := .int .i64 f) rfl, SX.out.cell 1 (v := .slice va g.length vc) rfl, SV.out.cell 0 (v := .int .i64 ur) rfl, SV.out.cell 1 (v := .int .i64 ua) rfl, SV.out.cell 2 (v := .int .i64 ud) rfl⟩ (fun hH => ?_)
    clear hK K hb7
    try simp only [Act.put, List.setIfInBounds_toArray, List.set_cons_zero, List.set_cons_succ]
    have cR_0 := SR.out.cell 0 (v := .int .i64 0) rfl
    have cR_1 := SR.out.cell 1 (v := .slice none 0 0) rfl
    have fR_0 := SR.out.frozen 0
    have fR_1 := SR.out.frozen 1
    refine callL 8 rfl (by kernel_rfl) rfl (fun K hK => ?_)
    go_simp
    clear cR_0 cR_1 fR_0 fR_1
    have sF := (SR.out.set 0 (.int .i64 f)).set 1 (.slice al G.length cl)
    have SX := Lib.hid (show Str ((w7.setCell ⟨w.heap.size + 2, 0, none⟩ (.int .i64 f)).setCell ⟨w.heap.size + 2, 1, none⟩ (.slice al G.length cl)) (w.heap.size) 25 #[.int .i64 f, .slice va g.length vc] from (SX.out.other (by omega) _ _).other (by omega) _ _)
    have SV := Lib.hid (show Str ((w7.setCell ⟨w.heap.size + 2, 0, none⟩ (.int .i64 f)).setCell ⟨w.heap.size + 2, 1, none⟩ (.slice al G.length cl)) (w.heap.size + 1) 27 #[.int .i64 ur, .int .i64 ua, .int .i64 ud] from (SV.out.other (by omega) _ _).other (by omega) _ _)
    have hz8 : ((w7.setCell ⟨w.heap.size + 2, 0, none⟩ (.int .i64 f)).setCell ⟨w.heap.size + 2, 1, none⟩ (.slice al G.length cl)).heap.size = w7.heap.size := by simp
    have Ho := Lib.hid (ownR_set (g' := w.heap.size + 2) (ownR_set (g' := w.heap.size + 2) Ho.out hsw7 (by omega) 0 (.int .i64 f)) (by simpa using hsw7) (by omega) 1 (.slice al G.length cl))
    have Hb := Lib.hid ((Hb.out.setCell (p := ⟨w.heap.size + 2, 0, none⟩) (by simp only; omega) (.int .i64 f)).setCell (p := ⟨w.heap.size + 2, 1, none⟩) (by simp only; omega) (.slice al G.length cl))
    refine hK.out _ _ ⟨SX.out.cell 0 (v := .int .i64 f) rfl, SX.out.cell 1 (v := .slice va g.length vc) rfl, SV.out.cell 0 (v := .int .i64 ur) rfl, SV.out.cell 1 (v := .int .i64 ua) rfl, SV.out.cell 2 (v := .int .i64 ud) rfl⟩ (fun hH => ?_)
    generalize ((w7.setCell ⟨w.heap.size + 2, 0, none⟩ (.int .i64 f)).setCell ⟨w.heap.size + 2, 1, none⟩ (.slice al G.length cl)) = w8 at *
    clear hK K
    try simp only [Act.put, List.setIfInBounds_toArray, List.set_cons_zero, List.set_cons_succ]
    refine lastL rfl (by kernel_rfl) (by kernel_rfl) (by kernel_rfl) rfl (fun K hK => ?_)
    go_simp
    refine hK.out _ _ ?_
    clear hK K hH
    try simp only [Act.put]
    have e0 := sF.cell 0 (v := .int .i64 f) rfl
    have e1 := sF.cell 1 (v := .slice al G.length cl) rfl
    clear sF
    go_wp2
    refine bodyPost_ret (v := .tuple #[.agg #[.int .i64 f, .slice al G.length cl], .bool (signB f g ⟨ur, ua, ud⟩)]) (by simp [results, Try.f14, go_sem, e0, e1]) rfl ?_
    rw [Z1.out, Z2.out, Z3.out]
    refine ⟨_, rfl, OwnR.mono (OwnR.from Ho.out ?_) ?_, Hb.out⟩
    · omega
    · first | exact Nat.le_refl _ | omega | (simp only [World.size_setCell]; omega)
  | false =>
  subst hoc
  have hno : ∀ y ∈ g, ¬ SamePl y ⟨ur, ua, ud⟩ := fun y hy hs => by have := Hok.out.2 ⟨y, hy, hs⟩; cases this
  have Hno := Lib.hid hno; clear hno
  by_cases hrf : f ≤ ur
  case neg =>
    obtain ⟨s1, s2⟩ := sign_not (f := f) Hno.out (.inl (show ur < f by omega))
    have hfin : ∀ x, x ∈ g.reverse ↔ x ∈ signG f g ⟨ur, ua, ud⟩ := fun x => by rw [s1]; simp
    have hfb : decide ((⟨ur, ua, ud⟩ : Vt) ∈ g.reverse) = signB f g ⟨ur, ua, ud⟩ := by rw [s2]; simp
    clear s1 s2
    have hgl : g.reverse.length ≤ 1048576 := by rw [List.length_reverse]; omega
    have Hfin := Lib.hid hfin; have Hfb := Lib.hid hfb; have Hgl := Lib.hid hgl; clear hfin hfb hgl
    have cX_0 := SX.out.cell 0 (v := .int .i64 f) rfl
    have cX_1 := SX.out.cell 1 (v := .slice va g.length vc) rfl
    have cV_0 := SV.out.cell 0 (v := .int .i64 ur) rfl
    have cV_1 := SV.out.cell 1 (v := .int .i64 ua) rfl
    have cV_2 := SV.out.cell 2 (v := .int .i64 ud) rfl
    go_wp2_with fail
    clear cX_0 cX_1 cV_0 cV_1 cV_2
    have SX := Lib.hid (show Str w4.drew (w.heap.size) 25 #[.int .i64 f, .slice va g.length vc] from SX.out)
    have SV := Lib.hid (show Str w4.drew (w.heap.size + 1) 27 #[.int .i64 ur, .int .i64 ua, .int .i64 ud] from SV.out)
    have SR := Lib.hid (show Str w4.drew (w.heap.size + 2) 25 #[.int .i64 0, .slice none 0 0] from SR.out)
    have HM := Lib.hid (show MapV w4.drew b (g.reverse) from HM.out.drew)
    have Hb := Lib.hid Hb.out.drew
    have hzwd : w4.drew.heap.size = w4.heap.size := rfl
    refine wp_region_L 9 (fun w' => w'.cell? ⟨w.heap.size, 0, none⟩ = some (.int .i64 f) ∧ w'.cell? ⟨w.heap.size, 1, none⟩ = some (.slice va g.length vc) ∧ w'.cell? ⟨w.heap.size + 1, 0, none⟩ = some (.int .i64 ur) ∧ w'.cell? ⟨w.heap.size + 1, 1, none⟩ = some (.int .i64 ua) ∧ w'.cell? ⟨w.heap.size + 1, 2, none⟩ = some (.int .i64 ud)) (by kernel_rfl) ⟨SX.out.cell 0 (v := .int .i64 f) rfl, SX.out.cell 1 (v := .slice va g.length vc) rfl, SV.out.cell 0 (v := .int .i64 ur) rfl, SV.out.cell 1 (v := .int .i64 ua) rfl, SV.out.cell 2 (v := .int .i64 ud) rfl⟩ (fun hH => ?_)
    generalize w4.drew = wd at *
    refine takeL 0 (v := ?vt7) rfl (by kernel_rfl) (by kernel_rfl) (by kernel_rfl) (by kernel_rfl) (by kernel_rfl) (fun _ _ _ h => h) hH rfl ?yt7 ?rt7
    case yt7 => intro W hSw; go_simp; try with_reducible rfl
    try simp only [Act.put, List.setIfInBounds_toArray, List.set_cons_zero, List.set_cons_succ]
    refine takeL 1 (v := ?vt8) rfl (by kernel_rfl) (by kernel_rfl) (by kernel_rfl) (by kernel_rfl) (by kernel_rfl) (fun _ _ _ h => h) hH rfl ?yt8 ?rt8
    case yt8 => intro W hSw; go_simp; try with_reducible rfl
    try simp only [Act.put, List.setIfInBounds_toArray, List.set_cons_zero, List.set_cons_succ]
    refine takeL 2 (v := ?vt9) rfl (by kernel_rfl) (by kernel_rfl) (by kernel_rfl) (by kernel_rfl) (by kernel_rfl) (fun _ _ _ h => h) hH rfl ?yt9 ?rt9
    case yt9 => intro W hSw; go_simp; try with_reducible rfl
    try simp only [Act.put, List.setIfInBounds_toArray, List.set_cons_zero, List.set_cons_succ]
    refine takeL 5 (v := ?vt10) rfl (by kernel_rfl) (by kernel_rfl) (by kernel_rfl) (by kernel_rfl) (by kernel_rfl) (fun _ _ _ h => h) hH rfl ?yt10 ?rt10
    case yt10 => intro W hSw; go_simp; try with_reducible rfl
    try simp only [Act.put, List.setIfInBounds_toArray, List.set_cons_zero, List.set_cons_succ]
    refine takeL 6 (v := ?vt11) rfl (by kernel_rfl) (by kernel_rfl) (by kernel_rfl) (by kernel_rfl) (by kernel_rfl) (fun _ _ _ h => h) hH rfl ?yt11 ?rt11
    case yt11 => intro W hSw; go_simp; try with_reducible rfl
    try simp only [Act.put, List.setIfInBounds_toArray, List.set_cons_zero, List.set_cons_succ]
    refine callL 3 rfl (by kernel_rfl) rfl (fun K hK => ?_)
    go_simp
    go_at_call 35
    refine (votes_list b (g.reverse) _ Hgl.out HM.out).mono ?_
    rintro e w6 ⟨vl, G, rfl, hG1, hG2, hoG, hb6⟩
    obtain ⟨al, cl, rfl, _⟩ := hoG.slice
    rw [List.length_map] at *
    have SX := Lib.hid (show Str w6 (w.heap.size) 25 #[.int .i64 f, .slice va g.length vc] from (hb6.block _ SX.out.lt).trans SX.out)
    have SV := Lib.hid (show Str w6 (w.heap.size + 1) 27 #[.int .i64 ur, .int .i64 ua, .int .i64 ud] from (hb6.block _ SV.out.lt).trans SV.out)
    have SR := Lib.hid (show Str w6 (w.heap.size + 2) 25 #[.int .i64 0, .slice none 0 0] from (hb6.block _ SR.out.lt).trans SR.out)
    have HM := Lib.hid (show MapV w6 b (g.reverse) from HM.out.kept (below_grown hb6) (by simp))
    have hsw6 := hb6.size
    have Hb := Lib.hid (below_step Hb.out Hb.out.size hb6)
    have hGe := sign_ext H1.out H2.out hG1 (fun x => (hG2 x).trans (Hfin.out x))
    subst hGe
    have Ho := Lib.hid hoG; clear hoG hG1 hG2 hb6
    generalize hgs : signG f g ⟨ur, ua, ud⟩ = G at *
    clear hgs
    refine hK.out _ _ ⟨SX.out.cell 0 (v := .int .i64 f) rfl, SX.out.cell 1 (v := .slice va g.length vc) rfl, SV.out.cell 0 (v := .int .i64 ur) rfl, SV.out.cell 1 (v := .int .i64 ua) rfl, SV.out.cell 2 (v := .int .i64 ud) rfl⟩ (fun hH => ?_)
    clear hK K
    try simp only [Act.put, List.setIfInBounds_toArray, List.set_cons_zero, List.set_cons_succ]
    refine takeL 4 (v := ?vt12) rfl (by kernel_rfl) (by kernel_rfl) (by kernel_rfl) (by kernel_rfl) (by kernel_rfl) (fun _ _ _ h => h) hH rfl ?yt12 ?rt12
    case yt12 => intro W hSw; go_simp; try with_reducible rfl
    try simp only [Act.put, List.setIfInBounds_toArray, List.set_cons_zero, List.set_cons_succ]
    refine callL 7 rfl (by kernel_rfl) rfl (fun K hK => ?_)
    go_simp
    go_at_call 36
    refine (votes_has b (g.reverse) ur ua ud _ hvi1 hvi2 HM.out).mono ?_
    rintro e w7 ⟨rfl, hb7⟩
    rw [Hfb.out]
    have Ho := Lib.hid (Ho.out.below hb7 (Nat.le_refl _))
    have SX := Lib.hid (show Str w7 (w.heap.size) 25 #[.int .i64 f, .slice va g.length vc] from (hb7.block _ SX.out.lt).trans SX.out)
    have SV := Lib.hid (show Str w7 (w.heap.size + 1) 27 #[.int .i64 ur, .int .i64 ua, .int .i64 ud] from (hb7.block _ SV.out.lt).trans SV.out)
    have SR := Lib.hid (show Str w7 (w.heap.size + 2) 25 #[.int .i64 0, .slice none 0 0] from (hb7.block _ SR.out.lt).trans SR.out)
    have HM := Lib.hid (show MapV w7 b (g.reverse) from HM.out.kept (below_grown hb7) (by simp))
    have hsw7 := hb7.size
    have Hb := Lib.hid (below_step Hb.out Hb.out.size hb7)
    refine hK.out _ _ ⟨SX.out.cell 0 (v := .int .i64 f) rfl, SX.out.cell 1 (v := .slice va g.length vc) rfl, SV.out.cell 0 (v := .int .i64 ur) rfl, SV.out.cell 1 (v := .int .i64 ua) rfl, SV.out.cell 2 (v := .int .i64 ud) rfl⟩ (fun hH => ?_)
    clear hK K hb7
    try simp only [Act.put, List.setIfInBounds_toArray, List.set_cons_zero, List.set_cons_succ]
    have cR_0 := SR.out.cell 0 (v := .int .i64 0) rfl
    have cR_1 := SR.out.cell 1 (v := .slice none 0 0) rfl
    have fR_0 := SR.out.frozen 0
    have fR_1 := SR.out.frozen 1
    refine callL 8 rfl (by kernel_rfl) rfl (fun K hK => ?_)
    go_simp
    clear cR_0 cR_1 fR_0 fR_1
    have sF := (SR.out.set 0 (.int .i64 f)).set 1 (.slice al G.length cl)
    have SX := Lib.hid (show Str ((w7.setCell ⟨w.heap.size + 2, 0, none⟩ (.int .i64 f)).setCell ⟨w.heap.size + 2, 1, none⟩ (.slice al G.length cl)) (w.heap.size) 25 #[.int .i64 f, .slice va g.length vc] from (SX.out.other (by omega) _ _).other (by omega) _ _)
    have SV := Lib.hid (show Str ((w7.setCell ⟨w.heap.size + 2, 0, none⟩ (.int .i64 f)).setCell ⟨w.heap.size + 2, 1, none⟩ (.slice al G.length cl)) (w.heap.size + 1) 27 #[.int .i64 ur, .int .i64 ua, .int .i64 ud] from (SV.out.other (by omega) _ _).other (by omega) _ _)
    have hz8 : ((w7.setCell ⟨w.heap.size + 2, 0, none⟩ (.int .i64 f)).setCell ⟨w.heap.size + 2, 1, none⟩ (.slice al G.length cl)).heap.size = w7.heap.size := by simp
    have Ho := Lib.hid (ownR_set (g' := w.heap.size + 2) (ownR_set (g' := w.heap.size + 2) Ho.out hsw7 (by omega) 0 (.int .i64 f)) (by simpa using hsw7) (by omega) 1 (.slice al G.length cl))
    have Hb := Lib.hid ((Hb.out.setCell (p := ⟨w.heap.size + 2, 0, none⟩) (by simp only; omega) (.int .i64 f)).setCell (p := ⟨w.heap.size + 2, 1, none⟩) (by simp only; omega) (.slice al G.length cl))
    refine hK.out _ _ ⟨SX.out.cell 0 (v := .int .i64 f) rfl, SX.out.cell 1 (v := .slice va g.length vc) rfl, SV.out.cell 0 (v := .int .i64 ur) rfl, SV.out.cell 1 (v := .int .i64 ua) rfl, SV.out.cell 2 (v := .int .i64 ud) rfl⟩ (fun hH => ?_)
    generalize ((w7.setCell ⟨w.heap.size + 2, 0, none⟩ (.int .i64 f)).setCell ⟨w.heap.size + 2, 1, none⟩ (.slice al G.length cl)) = w8 at *
    clear hK K
    try simp only [Act.put, List.setIfInBounds_toArray, List.set_cons_zero, List.set_cons_succ]
    refine lastL rfl (by kernel_rfl) (by kernel_rfl) (by kernel_rfl) rfl (fun K hK => ?_)
    go_simp
    refine hK.out _ _ ?_
    clear hK K hH
    try simp only [Act.put]
    have e0 := sF.cell 0 (v := .int .i64 f) rfl
    have e1 := sF.cell 1 (v := .slice al G.length cl) rfl
    clear sF
    go_wp2
    refine bodyPost_ret (v := .tuple #[.agg #[.int .i64 f, .slice al G.length cl], .bool (signB f g ⟨ur, ua, ud⟩)]) (by simp [results, Try.f14, go_sem, e0, e1]) rfl ?_
    rw [Z1.out, Z2.out, Z3.out]
    refine ⟨_, rfl, OwnR.mono (OwnR.from Ho.out ?_) ?_, Hb.out⟩
    · omega
    · first | exact Nat.le_refl _ | omega | (simp only [World.size_setCell]; omega)
  have hlen := fun ty => HM.out.len ty
  rw [List.length_reverse] at hlen
  by_cases hl40 : g.length < 40
  case neg =>
    have hl40' : ¬ (g.length : Int) < 40 := by omega
    obtain ⟨s1, s2⟩ := sign_not (f := f) Hno.out (.inr (show 40 ≤ g.length by omega))
    have hfin : ∀ x, x ∈ g.reverse ↔ x ∈ signG f g ⟨ur, ua, ud⟩ := fun x => by rw [s1]; simp
    have hfb : decide ((⟨ur, ua, ud⟩ : Vt) ∈ g.reverse) = signB f g ⟨ur, ua, ud⟩ := by rw [s2]; simp
    clear s1 s2
    have hgl : g.reverse.length ≤ 1048576 := by rw [List.length_reverse]; omega
    have Hfin := Lib.hid hfin; have Hfb := Lib.hid hfb; have Hgl := Lib.hid hgl; clear hfin hfb hgl
    have cX_0 := SX.out.cell 0 (v := .int .i64 f) rfl
    have cX_1 := SX.out.cell 1 (v := .slice va g.length vc) rfl
    have cV_0 := SV.out.cell 0 (v := .int .i64 ur) rfl
    have cV_1 := SV.out.cell 1 (v := .int .i64 ua) rfl
    have cV_2 := SV.out.cell 2 (v := .int .i64 ud) rfl
    go_wp2_with fail
    clear cX_0 cX_1 cV_0 cV_1 cV_2
    have SX := Lib.hid (show Str w4.drew (w.heap.size) 25 #[.int .i64 f, .slice va g.length vc] from SX.out)
    have SV := Lib.hid (show Str w4.drew (w.heap.size + 1) 27 #[.int .i64 ur, .int .i64 ua, .int .i64 ud] from SV.out)
    have SR := Lib.hid (show Str w4.drew (w.heap.size + 2) 25 #[.int .i64 0, .slice none 0 0] from SR.out)
    have HM := Lib.hid (show MapV w4.drew b (g.reverse) from HM.out.drew)
    have Hb := Lib.hid Hb.out.drew
    have hzwd : w4.drew.heap.size = w4.heap.size := rfl
    refine wp_region_L 9 (fun w' => w'.cell? ⟨w.heap.size, 0, none⟩ = some (.int .i64 f) ∧ w'.cell? ⟨w.heap.size, 1, none⟩ = some (.slice va g.length vc) ∧ w'.cell? ⟨w.heap.size + 1, 0, none⟩ = some (.int .i64 ur) ∧ w'.cell? ⟨w.heap.size + 1, 1, none⟩ = some (.int .i64 ua) ∧ w'.cell? ⟨w.heap.size + 1, 2, none⟩ = some (.int .i64 ud)) (by kernel_rfl) ⟨SX.out.cell 0 (v := .int .i64 f) rfl, SX.out.cell 1 (v := .slice va g.length vc) rfl, SV.out.cell 0 (v := .int .i64 ur) rfl, SV.out.cell 1 (v := .int .i64 ua) rfl, SV.out.cell 2 (v := .int .i64 ud) rfl⟩ (fun hH => ?_)
    generalize w4.drew = wd at *
    refine takeL 0 (v := ?vt13) rfl (by kernel_rfl) (by kernel_rfl) (by kernel_rfl) (by kernel_rfl) (by kernel_rfl) (fun _ _ _ h => h) hH rfl ?yt13 ?rt13
    case yt13 => intro W hSw; go_simp; try with_reducible rfl
    try simp only [Act.put, List.setIfInBounds_toArray, List.set_cons_zero, List.set_cons_succ]
    refine takeL 1 (v := ?vt14) rfl (by kernel_rfl) (by kernel_rfl) (by kernel_rfl) (by kernel_rfl) (by kernel_rfl) (fun _ _ _ h => h) hH rfl ?yt14 ?rt14
    case yt14 => intro W hSw; go_simp; try with_reducible rfl
    try simp only [Act.put, List.setIfInBounds_toArray, List.set_cons_zero, List.set_cons_succ]
    refine takeL 2 (v := ?vt15) rfl (by kernel_rfl) (by kernel_rfl) (by kernel_rfl) (by kernel_rfl) (by kernel_rfl) (fun _ _ _ h => h) hH rfl ?yt15 ?rt15
    case yt15 => intro W hSw; go_simp; try with_reducible rfl
    try simp only [Act.put, List.setIfInBounds_toArray, List.set_cons_zero, List.set_cons_succ]
    refine takeL 5 (v := ?vt16) rfl (by kernel_rfl) (by kernel_rfl) (by kernel_rfl) (by kernel_rfl) (by kernel_rfl) (fun _ _ _ h => h) hH rfl ?yt16 ?rt16
    case yt16 => intro W hSw; go_simp; try with_reducible rfl
    try simp only [Act.put, List.setIfInBounds_toArray, List.set_cons_zero, List.set_cons_succ]
    refine takeL 6 (v := ?vt17) rfl (by kernel_rfl) (by kernel_rfl) (by kernel_rfl) (by kernel_rfl) (by kernel_rfl) (fun _ _ _ h => h) hH rfl ?yt17 ?rt17
    case yt17 => intro W hSw; go_simp; try with_reducible rfl
    try simp only [Act.put, List.setIfInBounds_toArray, List.set_cons_zero, List.set_cons_succ]
    refine callL 3 rfl (by kernel_rfl) rfl (fun K hK => ?_)
    go_simp
    go_at_call 35
    refine (votes_list b (g.reverse) _ Hgl.out HM.out).mono ?_
    rintro e w6 ⟨vl, G, rfl, hG1, hG2, hoG, hb6⟩
    obtain ⟨al, cl, rfl, _⟩ := hoG.slice
    rw [List.length_map] at *
    have SX := Lib.hid (show Str w6 (w.heap.size) 25 #[.int .i64 f, .slice va g.length vc] from (hb6.block _ SX.out.lt).trans SX.out)
    have SV := Lib.hid (show Str w6 (w.heap.size + 1) 27 #[.int .i64 ur, .int .i64 ua, .int .i64 ud] from (hb6.block _ SV.out.lt).trans SV.out)
    have SR := Lib.hid (show Str w6 (w.heap.size + 2) 25 #[.int .i64 0, .slice none 0 0] from (hb6.block _ SR.out.lt).trans SR.out)
    have HM := Lib.hid (show MapV w6 b (g.reverse) from HM.out.kept (below_grown hb6) (by simp))
    have hsw6 := hb6.size
    have Hb := Lib.hid (below_step Hb.out Hb.out.size hb6)
    have hGe := sign_ext H1.out H2.out hG1 (fun x => (hG2 x).trans (Hfin.out x))
    subst hGe
    have Ho := Lib.hid hoG; clear hoG hG1 hG2 hb6
    generalize hgs : signG f g ⟨ur, ua, ud⟩ = G at *
    clear hgs
    refine hK.out _ _ ⟨SX.out.cell 0 (v := .int .i64 f) rfl, SX.out.cell 1 (v := .slice va g.length vc) rfl, SV.out.cell 0 (v := .int .i64 ur) rfl, SV.out.cell 1 (v := .int .i64 ua) rfl, SV.out.cell 2 (v := .int .i64 ud) rfl⟩ (fun hH => ?_)
    clear hK K
    try simp only [Act.put, List.setIfInBounds_toArray, List.set_cons_zero, List.set_cons_succ]
    refine takeL 4 (v := ?vt18) rfl (by kernel_rfl) (by kernel_rfl) (by kernel_rfl) (by kernel_rfl) (by kernel_rfl) (fun _ _ _ h => h) hH rfl ?yt18 ?rt18
    case yt18 => intro W hSw; go_simp; try with_reducible rfl
    try simp only [Act.put, List.setIfInBounds_toArray, List.set_cons_zero, List.set_cons_succ]
    refine callL 7 rfl (by kernel_rfl) rfl (fun K hK => ?_)
    go_simp
    go_at_call 36
    refine (votes_has b (g.reverse) ur ua ud _ hvi1 hvi2 HM.out).mono ?_
    rintro e w7 ⟨rfl, hb7⟩
    rw [Hfb.out]
    have Ho := Lib.hid (Ho.out.below hb7 (Nat.le_refl _))
    have SX := Lib.hid (show Str w7 (w.heap.size) 25 #[.int .i64 f, .slice va g.length vc] from (hb7.block _ SX.out.lt).trans SX.out)
    have SV := Lib.hid (show Str w7 (w.heap.size + 1) 27 #[.int .i64 ur, .int .i64 ua, .int .i64 ud] from (hb7.block _ SV.out.lt).trans SV.out)
    have SR := Lib.hid (show Str w7 (w.heap.size + 2) 25 #[.int .i64 0, .slice none 0 0] from (hb7.block _ SR.out.lt).trans SR.out)
    have HM := Lib.hid (show MapV w7 b (g.reverse) from HM.out.kept (below_grown hb7) (by simp))
    have hsw7 := hb7.size
    have Hb := Lib.hid (below_step Hb.out Hb.out.size hb7)
    refine hK.out _ _ ⟨SX.out.cell 0 (v := .int .i64 f) rfl, SX.out.cell 1 (v := .slice va g.length vc) rfl, SV.out.cell 0 (v := .int .i64 ur) rfl, SV.out.cell 1 (v := .int .i64 ua) rfl, SV.out.cell 2 (v := .int .i64 ud) rfl⟩ (fun hH => ?_)
    clear hK K hb7
    try simp only [Act.put, List.setIfInBounds_toArray, List.set_cons_zero, List.set_cons_succ]
    have cR_0 := SR.out.cell 0 (v := .int .i64 0) rfl
    have cR_1 := SR.out.cell 1 (v := .slice none 0 0) rfl
    have fR_0 := SR.out.frozen 0
    have fR_1 := SR.out.frozen 1
    refine callL 8 rfl (by kernel_rfl) rfl (fun K hK => ?_)
    go_simp
    clear cR_0 cR_1 fR_0 fR_1
    have sF := (SR.out.set 0 (.int .i64 f)).set 1 (.slice al G.length cl)
    have SX := Lib.hid (show Str ((w7.setCell ⟨w.heap.size + 2, 0, none⟩ (.int .i64 f)).setCell ⟨w.heap.size + 2, 1, none⟩ (.slice al G.length cl)) (w.heap.size) 25 #[.int .i64 f, .slice va g.length vc] from (SX.out.other (by omega) _ _).other (by omega) _ _)
    have SV := Lib.hid (show Str ((w7.setCell ⟨w.heap.size + 2, 0, none⟩ (.int .i64 f)).setCell ⟨w.heap.size + 2, 1, none⟩ (.slice al G.length cl)) (w.heap.size + 1) 27 #[.int .i64 ur, .int .i64 ua, .int .i64 ud] from (SV.out.other (by omega) _ _).other (by omega) _ _)
    have hz8 : ((w7.setCell ⟨w.heap.size + 2, 0, none⟩ (.int .i64 f)).setCell ⟨w.heap.size + 2, 1, none⟩ (.slice al G.length cl)).heap.size = w7.heap.size := by simp
    have Ho := Lib.hid (ownR_set (g' := w.heap.size + 2) (ownR_set (g' := w.heap.size + 2) Ho.out hsw7 (by omega) 0 (.int .i64 f)) (by simpa using hsw7) (by omega) 1 (.slice al G.length cl))
    have Hb := Lib.hid ((Hb.out.setCell (p := ⟨w.heap.size + 2, 0, none⟩) (by simp only; omega) (.int .i64 f)).setCell (p := ⟨w.heap.size + 2, 1, none⟩) (by simp only; omega) (.slice al G.length cl))
    refine hK.out _ _ ⟨SX.out.cell 0 (v := .int .i64 f) rfl, SX.out.cell 1 (v := .slice va g.length vc) rfl, SV.out.cell 0 (v := .int .i64 ur) rfl, SV.out.cell 1 (v := .int .i64 ua) rfl, SV.out.cell 2 (v := .int .i64 ud) rfl⟩ (fun hH => ?_)
    generalize ((w7.setCell ⟨w.heap.size + 2, 0, none⟩ (.int .i64 f)).setCell ⟨w.heap.size + 2, 1, none⟩ (.slice al G.length cl)) = w8 at *
    clear hK K
    try simp only [Act.put, List.setIfInBounds_toArray, List.set_cons_zero, List.set_cons_succ]
    refine lastL rfl (by kernel_rfl) (by kernel_rfl) (by kernel_rfl) rfl (fun K hK => ?_)
    go_simp
    refine hK.out _ _ ?_
    clear hK K hH
    try simp only [Act.put]
    have e0 := sF.cell 0 (v := .int .i64 f) rfl
    have e1 := sF.cell 1 (v := .slice al G.length cl) rfl
    clear sF
    go_wp2
    refine bodyPost_ret (v := .tuple #[.agg #[.int .i64 f, .slice al G.length cl], .bool (signB f g ⟨ur, ua, ud⟩)]) (by simp [results, Try.f14, go_sem, e0, e1]) rfl ?_
    rw [Z1.out, Z2.out, Z3.out]
    refine ⟨_, rfl, OwnR.mono (OwnR.from Ho.out ?_) ?_, Hb.out⟩
    · omega
    · first | exact Nat.le_refl _ | omega | (simp only [World.size_setCell]; omega)
  have hl40' : (g.length : Int) < 40 := by omega
  have cX_0 := SX.out.cell 0 (v := .int .i64 f) rfl
  have cX_1 := SX.out.cell 1 (v := .slice va g.length vc) rfl
  have cV_0 := SV.out.cell 0 (v := .int .i64 ur) rfl
  have cV_1 := SV.out.cell 1 (v := .int .i64 ua) rfl
  have cV_2 := SV.out.cell 2 (v := .int .i64 ud) rfl
  go_wp2_with fail
  clear cX_0 cX_1 cV_0 cV_1 cV_2
  have SX := Lib.hid (show Str w4.drew (w.heap.size) 25 #[.int .i64 f, .slice va g.length vc] from SX.out)
  have SV := Lib.hid (show Str w4.drew (w.heap.size + 1) 27 #[.int .i64 ur, .int .i64 ua, .int .i64 ud] from SV.out)
  have SR := Lib.hid (show Str w4.drew (w.heap.size + 2) 25 #[.int .i64 0, .slice none 0 0] from SR.out)
  have HM := Lib.hid (show MapV w4.drew b (g.reverse) from HM.out.drew)
  have Hb := Lib.hid Hb.out.drew
  have hzwe : w4.drew.heap.size = w4.heap.size := rfl
  refine wp_region_L 5 (fun w' => w'.cell? ⟨w.heap.size, 0, none⟩ = some (.int .i64 f) ∧ w'.cell? ⟨w.heap.size, 1, none⟩ = some (.slice va g.length vc) ∧ w'.cell? ⟨w.heap.size + 1, 0, none⟩ = some (.int .i64 ur) ∧ w'.cell? ⟨w.heap.size + 1, 1, none⟩ = some (.int .i64 ua) ∧ w'.cell? ⟨w.heap.size + 1, 2, none⟩ = some (.int .i64 ud)) (by kernel_rfl) ⟨SX.out.cell 0 (v := .int .i64 f) rfl, SX.out.cell 1 (v := .slice va g.length vc) rfl, SV.out.cell 0 (v := .int .i64 ur) rfl, SV.out.cell 1 (v := .int .i64 ua) rfl, SV.out.cell 2 (v := .int .i64 ud) rfl⟩ (fun hH => ?_)
  generalize w4.drew = we at *
  refine takeL 0 (v := ?vt19) rfl (by kernel_rfl) (by kernel_rfl) (by kernel_rfl) (by kernel_rfl) (by kernel_rfl) (fun _ _ _ h => h) hH rfl ?yt19 ?rt19
  case yt19 => intro W hSw; go_simp; try with_reducible rfl
  try simp only [Act.put, List.setIfInBounds_toArray, List.set_cons_zero, List.set_cons_succ]
  refine takeL 1 (v := ?vt20) rfl (by kernel_rfl) (by kernel_rfl) (by kernel_rfl) (by kernel_rfl) (by kernel_rfl) (fun _ _ _ h => h) hH rfl ?yt20 ?rt20
  case yt20 => intro W hSw; go_simp; try with_reducible rfl
  try simp only [Act.put, List.setIfInBounds_toArray, List.set_cons_zero, List.set_cons_succ]
  refine takeL 3 (v := ?vt21) rfl (by kernel_rfl) (by kernel_rfl) (by kernel_rfl) (by kernel_rfl) (by kernel_rfl) (fun _ _ _ h => h) hH rfl ?yt21 ?rt21
  case yt21 => intro W hSw; go_simp; try with_reducible rfl
  try simp only [Act.put, List.setIfInBounds_toArray, List.set_cons_zero, List.set_cons_succ]
  refine takeL 4 (v := ?vt22) rfl (by kernel_rfl) (by kernel_rfl) (by kernel_rfl) (by kernel_rfl) (by kernel_rfl) (fun _ _ _ h => h) hH rfl ?yt22 ?rt22
  case yt22 => intro W hSw; go_simp; try with_reducible rfl
  try simp only [Act.put, List.setIfInBounds_toArray, List.set_cons_zero, List.set_cons_succ]
  refine callL 2 rfl (by kernel_rfl) rfl (fun K hK => ?_)
  go_simp
  go_at_call 34
  refine (vote_place ur ua ud _).mono ?_
  rintro e w5 ⟨rfl, hb5⟩
  have SX := Lib.hid (show Str w5 (w.heap.size) 25 #[.int .i64 f, .slice va g.length vc] from (hb5.block _ SX.out.lt).trans SX.out)
  have SV := Lib.hid (show Str w5 (w.heap.size + 1) 27 #[.int .i64 ur, .int .i64 ua, .int .i64 ud] from (hb5.block _ SV.out.lt).trans SV.out)
  have SR := Lib.hid (show Str w5 (w.heap.size + 2) 25 #[.int .i64 0, .slice none 0 0] from (hb5.block _ SR.out.lt).trans SR.out)
  have HM := Lib.hid (show MapV w5 b (g.reverse) from HM.out.kept (below_grown hb5) (by simp))
  have hsw5 := hb5.size
  have Hb := Lib.hid (below_step Hb.out Hb.out.size hb5)
  refine hK.out _ _ ⟨SX.out.cell 0 (v := .int .i64 f) rfl, SX.out.cell 1 (v := .slice va g.length vc) rfl, SV.out.cell 0 (v := .int .i64 ur) rfl, SV.out.cell 1 (v := .int .i64 ua) rfl, SV.out.cell 2 (v := .int .i64 ud) rfl⟩ (fun hH => ?_)
  clear hK K hb5
  try simp only [Act.put, List.setIfInBounds_toArray, List.set_cons_zero, List.set_cons_succ]
  clear hrun hlen
  obtain ⟨wm, hrun, hMm, hgm⟩ := HM.out.store (v := ⟨ur, ua, ud⟩) ⟨hvi1, hvi2, hvi3⟩ (fun y hy => Hno.out y (List.mem_reverse.1 hy)) (by rw [List.length_reverse]; omega)
  dsimp only at hrun
  refine lastL rfl (by kernel_rfl) (by kernel_rfl) (by kernel_rfl) rfl (fun K hK => ?_)
  go_simp
  refine hK.out _ _ ?_
  clear hK K hH hrun
  try simp only [Act.put]
  have SX := Lib.hid (show Str wm (w.heap.size) 25 #[.int .i64 f, .slice va g.length vc] from SX.out.kept hgm (by simp; omega))
  have SV := Lib.hid (show Str wm (w.heap.size + 1) 27 #[.int .i64 ur, .int .i64 ua, .int .i64 ud] from SV.out.kept hgm (by simp; omega))
  have SR := Lib.hid (show Str wm (w.heap.size + 2) 25 #[.int .i64 0, .slice none 0 0] from SR.out.kept hgm (by simp; omega))
  have HM := Lib.hid hMm
  have Hb := Lib.hid (Hb.out.grown hgm Hb.out.size (fun q e => by cases e; omega))
  have hsm := hgm.size
  clear hMm hgm
  obtain ⟨s1, s2⟩ := sign_new H1.out Hno.out hrf hl40
  have hfin : ∀ x, x ∈ (⟨ur, ua, ud⟩ : Vt) :: g.reverse ↔ x ∈ signG f g ⟨ur, ua, ud⟩ := fun x => by rw [s2]; simp
  have hfb : decide ((⟨ur, ua, ud⟩ : Vt) ∈ (⟨ur, ua, ud⟩ : Vt) :: g.reverse) = signB f g ⟨ur, ua, ud⟩ := by rw [s1]; simp
  clear s1 s2
  have hgl : ((⟨ur, ua, ud⟩ : Vt) :: g.reverse).length ≤ 1048576 := by rw [List.length_cons, List.length_reverse]; omega
  have Hfin := Lib.hid hfin; have Hfb := Lib.hid hfb; have Hgl := Lib.hid hgl; clear hfin hfb hgl
  have cX_0 := SX.out.cell 0 (v := .int .i64 f) rfl
  have cX_1 := SX.out.cell 1 (v := .slice va g.length vc) rfl
  have cV_0 := SV.out.cell 0 (v := .int .i64 ur) rfl
  have cV_1 := SV.out.cell 1 (v := .int .i64 ua) rfl
  have cV_2 := SV.out.cell 2 (v := .int .i64 ud) rfl
  go_wp2_with fail
  clear cX_0 cX_1 cV_0 cV_1 cV_2
  have SX := Lib.hid (show Str wm.drew (w.heap.size) 25 #[.int .i64 f, .slice va g.length vc] from SX.out)
  have SV := Lib.hid (show Str wm.drew (w.heap.size + 1) 27 #[.int .i64 ur, .int .i64 ua, .int .i64 ud] from SV.out)
  have SR := Lib.hid (show Str wm.drew (w.heap.size + 2) 25 #[.int .i64 0, .slice none 0 0] from SR.out)
  have HM := Lib.hid (show MapV wm.drew b ((⟨ur, ua, ud⟩ : Vt) :: g.reverse) from HM.out.drew)
  have Hb := Lib.hid Hb.out.drew
  have hzwd : wm.drew.heap.size = wm.heap.size := rfl
  refine wp_region_L 9 (fun w' => w'.cell? ⟨w.heap.size, 0, none⟩ = some (.int .i64 f) ∧ w'.cell? ⟨w.heap.size, 1, none⟩ = some (.slice va g.length vc) ∧ w'.cell? ⟨w.heap.size + 1, 0, none⟩ = some (.int .i64 ur) ∧ w'.cell? ⟨w.heap.size + 1, 1, none⟩ = some (.int .i64 ua) ∧ w'.cell? ⟨w.heap.size + 1, 2, none⟩ = some (.int .i64 ud)) (by kernel_rfl) ⟨SX.out.cell 0 (v := .int .i64 f) rfl, SX.out.cell 1 (v := .slice va g.length vc) rfl, SV.out.cell 0 (v := .int .i64 ur) rfl, SV.out.cell 1 (v := .int .i64 ua) rfl, SV.out.cell 2 (v := .int .i64 ud) rfl⟩ (fun hH => ?_)
  generalize wm.drew = wd at *
  refine takeL 0 (v := ?vt23) rfl (by kernel_rfl) (by kernel_rfl) (by kernel_rfl) (by kernel_rfl) (by kernel_rfl) (fun _ _ _ h => h) hH rfl ?yt23 ?rt23
  case yt23 => intro W hSw; go_simp; try with_reducible rfl
  try simp only [Act.put, List.setIfInBounds_toArray, List.set_cons_zero, List.set_cons_succ]
  refine takeL 1 (v := ?vt24) rfl (by kernel_rfl) (by kernel_rfl) (by kernel_rfl) (by kernel_rfl) (by kernel_rfl) (fun _ _ _ h => h) hH rfl ?yt24 ?rt24
  case yt24 => intro W hSw; go_simp; try with_reducible rfl
  try simp only [Act.put, List.setIfInBounds_toArray, List.set_cons_zero, List.set_cons_succ]
  refine takeL 2 (v := ?vt25) rfl (by kernel_rfl) (by kernel_rfl) (by kernel_rfl) (by kernel_rfl) (by kernel_rfl) (fun _ _ _ h => h) hH rfl ?yt25 ?rt25
  case yt25 => intro W hSw; go_simp; try with_reducible rfl
  try simp only [Act.put, List.setIfInBounds_toArray, List.set_cons_zero, List.set_cons_succ]
  refine takeL 5 (v := ?vt26) rfl (by kernel_rfl) (by kernel_rfl) (by kernel_rfl) (by kernel_rfl) (by kernel_rfl) (fun _ _ _ h => h) hH rfl ?yt26 ?rt26
  case yt26 => intro W hSw; go_simp; try with_reducible rfl
  try simp only [Act.put, List.setIfInBounds_toArray, List.set_cons_zero, List.set_cons_succ]
  refine takeL 6 (v := ?vt27) rfl (by kernel_rfl) (by kernel_rfl) (by kernel_rfl) (by kernel_rfl) (by kernel_rfl) (fun _ _ _ h => h) hH rfl ?yt27 ?rt27
  case yt27 => intro W hSw; go_simp; try with_reducible rfl
  try simp only [Act.put, List.setIfInBounds_toArray, List.set_cons_zero, List.set_cons_succ]
  refine callL 3 rfl (by kernel_rfl) rfl (fun K hK => ?_)
  go_simp
  go_at_call 35
  refine (votes_list b ((⟨ur, ua, ud⟩ : Vt) :: g.reverse) _ Hgl.out HM.out).mono ?_
  rintro e w6 ⟨vl, G, rfl, hG1, hG2, hoG, hb6⟩
  obtain ⟨al, cl, rfl, _⟩ := hoG.slice
  rw [List.length_map] at *
  have SX := Lib.hid (show Str w6 (w.heap.size) 25 #[.int .i64 f, .slice va g.length vc] from (hb6.block _ SX.out.lt).trans SX.out)
  have SV := Lib.hid (show Str w6 (w.heap.size + 1) 27 #[.int .i64 ur, .int .i64 ua, .int .i64 ud] from (hb6.block _ SV.out.lt).trans SV.out)
  have SR := Lib.hid (show Str w6 (w.heap.size + 2) 25 #[.int .i64 0, .slice none 0 0] from (hb6.block _ SR.out.lt).trans SR.out)
  have HM := Lib.hid (show MapV w6 b ((⟨ur, ua, ud⟩ : Vt) :: g.reverse) from HM.out.kept (below_grown hb6) (by simp))
  have hsw6 := hb6.size
  have Hb := Lib.hid (below_step Hb.out Hb.out.size hb6)
  have hGe := sign_ext H1.out H2.out hG1 (fun x => (hG2 x).trans (Hfin.out x))
  subst hGe
  have Ho := Lib.hid hoG; clear hoG hG1 hG2 hb6
  generalize hgs : signG f g ⟨ur, ua, ud⟩ = G at *
  clear hgs
  refine hK.out _ _ ⟨SX.out.cell 0 (v := .int .i64 f) rfl, SX.out.cell 1 (v := .slice va g.length vc) rfl, SV.out.cell 0 (v := .int .i64 ur) rfl, SV.out.cell 1 (v := .int .i64 ua) rfl, SV.out.cell 2 (v := .int .i64 ud) rfl⟩ (fun hH => ?_)
  clear hK K
  try simp only [Act.put, List.setIfInBounds_toArray, List.set_cons_zero, List.set_cons_succ]
  refine takeL 4 (v := ?vt28) rfl (by kernel_rfl) (by kernel_rfl) (by kernel_rfl) (by kernel_rfl) (by kernel_rfl) (fun _ _ _ h => h) hH rfl ?yt28 ?rt28
  case yt28 => intro W hSw; go_simp; try with_reducible rfl
  try simp only [Act.put, List.setIfInBounds_toArray, List.set_cons_zero, List.set_cons_succ]
  refine callL 7 rfl (by kernel_rfl) rfl (fun K hK => ?_)
  go_simp
  go_at_call 36
  refine (votes_has b ((⟨ur, ua, ud⟩ : Vt) :: g.reverse) ur ua ud _ hvi1 hvi2 HM.out).mono ?_
  rintro e w7 ⟨rfl, hb7⟩
  rw [Hfb.out]
  have Ho := Lib.hid (Ho.out.below hb7 (Nat.le_refl _))
  have SX := Lib.hid (show Str w7 (w.heap.size) 25 #[.int .i64 f, .slice va g.length vc] from (hb7.block _ SX.out.lt).trans SX.out)
  have SV := Lib.hid (show Str w7 (w.heap.size + 1) 27 #[.int .i64 ur, .int .i64 ua, .int .i64 ud] from (hb7.block _ SV.out.lt).trans SV.out)
  have SR := Lib.hid (show Str w7 (w.heap.size + 2) 25 #[.int .i64 0, .slice none 0 0] from (hb7.block _ SR.out.lt).trans SR.out)
  have HM := Lib.hid (show MapV w7 b ((⟨ur, ua, ud⟩ : Vt) :: g.reverse) from HM.out.kept (below_grown hb7) (by simp))
  have hsw7 := hb7.size
  have Hb := Lib.hid (below_step Hb.out Hb.out.size hb7)
  refine hK.out _ _ ⟨SX.out.cell 0 (v := .int .i64 f) rfl, SX.out.cell 1 (v := .slice va g.length vc) rfl, SV.out.cell 0 (v := .int .i64 ur) rfl, SV.out.cell 1 (v := .int .i64 ua) rfl, SV.out.cell 2 (v := .int .i64 ud) rfl⟩ (fun hH => ?_)
  clear hK K hb7
  try simp only [Act.put, List.setIfInBounds_toArray, List.set_cons_zero, List.set_cons_succ]
  have cR_0 := SR.out.cell 0 (v := .int .i64 0) rfl
  have cR_1 := SR.out.cell 1 (v := .slice none 0 0) rfl
  have fR_0 := SR.out.frozen 0
  have fR_1 := SR.out.frozen 1
  refine callL 8 rfl (by kernel_rfl) rfl (fun K hK => ?_)
  go_simp
  clear cR_0 cR_1 fR_0 fR_1
  have sF := (SR.out.set 0 (.int .i64 f)).set 1 (.slice al G.length cl)
  have SX := Lib.hid (show Str ((w7.setCell ⟨w.heap.size + 2, 0, none⟩ (.int .i64 f)).setCell ⟨w.heap.size + 2, 1, none⟩ (.slice al G.length cl)) (w.heap.size) 25 #[.int .i64 f, .slice va g.length vc] from (SX.out.other (by omega) _ _).other (by omega) _ _)
  have SV := Lib.hid (show Str ((w7.setCell ⟨w.heap.size + 2, 0, none⟩ (.int .i64 f)).setCell ⟨w.heap.size + 2, 1, none⟩ (.slice al G.length cl)) (w.heap.size + 1) 27 #[.int .i64 ur, .int .i64 ua, .int .i64 ud] from (SV.out.other (by omega) _ _).other (by omega) _ _)
  have hz8 : ((w7.setCell ⟨w.heap.size + 2, 0, none⟩ (.int .i64 f)).setCell ⟨w.heap.size + 2, 1, none⟩ (.slice al G.length cl)).heap.size = w7.heap.size := by simp
  have Ho := Lib.hid (ownR_set (g' := w.heap.size + 2) (ownR_set (g' := w.heap.size + 2) Ho.out hsw7 (by omega) 0 (.int .i64 f)) (by simpa using hsw7) (by omega) 1 (.slice al G.length cl))
  have Hb := Lib.hid ((Hb.out.setCell (p := ⟨w.heap.size + 2, 0, none⟩) (by simp only; omega) (.int .i64 f)).setCell (p := ⟨w.heap.size + 2, 1, none⟩) (by simp only; omega) (.slice al G.length cl))
  refine hK.out _ _ ⟨SX.out.cell 0 (v := .int .i64 f) rfl, SX.out.cell 1 (v := .slice va g.length vc) rfl, SV.out.cell 0 (v := .int .i64 ur) rfl, SV.out.cell 1 (v := .int .i64 ua) rfl, SV.out.cell 2 (v := .int .i64 ud) rfl⟩ (fun hH => ?_)
  generalize ((w7.setCell ⟨w.heap.size + 2, 0, none⟩ (.int .i64 f)).setCell ⟨w.heap.size + 2, 1, none⟩ (.slice al G.length cl)) = w8 at *
  clear hK K
  try simp only [Act.put, List.setIfInBounds_toArray, List.set_cons_zero, List.set_cons_succ]
  refine lastL rfl (by kernel_rfl) (by kernel_rfl) (by kernel_rfl) rfl (fun K hK => ?_)
  go_simp
  refine hK.out _ _ ?_
  clear hK K hH
  try simp only [Act.put]
  have e0 := sF.cell 0 (v := .int .i64 f) rfl
  have e1 := sF.cell 1 (v := .slice al G.length cl) rfl
  clear sF
  go_wp2
  refine bodyPost_ret (v := .tuple #[.agg #[.int .i64 f, .slice al G.length cl], .bool (signB f g ⟨ur, ua, ud⟩)]) (by simp [results, Try.f14, go_sem, e0, e1]) rfl ?_
  rw [Z1.out, Z2.out, Z3.out]
  refine ⟨_, rfl, OwnR.mono (OwnR.from Ho.out ?_) ?_, Hb.out⟩
  · omega
  · first | exact Nat.le_refl _ | omega | (simp only [World.size_setCell]; omega)

end Go.Proofs.Ytgpbogalknmcmaa

/- Lists of votes of the call's own: from rows to cells, and an append in a region that keeps the text's order; general steps, nothing here speaks of the program but the type of votes. -/
namespace Go.Proofs.Ytgpbogalknmcmaa
open Go.RowKit

theorem OwnR.ownV {E Ei : TypeId} {w : World} {B hi : Nat} {v : Value} {es : List Vt} (h : OwnR E Ei 3 w B hi v (es.map Vt.fd)) : OwnV E w B v es := by
  obtain ⟨cs, h1, h2, _, _, _, _⟩ := h.row
  have hl : cs.length = es.length * 3 := by rw [h1.1, List.length_map]
  have he : cs = flV es := by
    refine List.ext_getElem? fun p => ?_
    by_cases hp : p < es.length * 3
    · have hk : p / 3 < es.length := by omega
      have e1 : p = p / 3 * 3 + p % 3 := by omega
      have hk' : p / 3 < (es.map Vt.fd).length := by simpa using hk
      have hge : (es.map Vt.fd)[p / 3] = es[p / 3].fd := by simp
      have h3 : p % 3 < 3 := by omega
      obtain ⟨c, hc, hf⟩ := h2 (p / 3) (p % 3) hk' (by rw [hge]; simpa [Vt.fd] using h3)
      rw [e1, hc, flV_at es (p / 3) (p % 3) hk h3]
      simp only [hge] at hf
      match hm : p % 3, h3 with
      | 0, _ => simp only [hm] at hf; have hf' : c = .int .i64 es[p / 3].r := hf; rw [hf']; rfl
      | 1, _ => simp only [hm] at hf; have hf' : c = .int .i64 es[p / 3].a := hf; rw [hf']; rfl
      | 2, _ => simp only [hm] at hf; have hf' : c = .int .i64 es[p / 3].d := hf; rw [hf']; rfl
    · rw [List.getElem?_eq_none (by omega), List.getElem?_eq_none (by rw [flV_len]; omega)]
  unfold OwnV
  rw [← he, ← List.length_map (f := Vt.fd)]
  exact h1
theorem OwnV.vts {E : TypeId} {w : World} {B : Nat} {v : Value} {es : List Vt} (h : OwnV E w B v es) : ∃ fp, Vts w es v fp := (h.ownR (Ei := E) (Nat.le_refl _)).reads
theorem OwnV.mono {E : TypeId} {w : World} {B B' : Nat} {v : Value} {es : List Vt} (h : OwnV E w B v es) (hB : B' ≤ B) : OwnV E w B' v es := by
  refine ⟨h.1, ?_⟩
  rcases h.2 with h0 | ⟨g, cap, cur, e, hb, rest⟩
  · exact .inl h0
  · exact .inr ⟨g, cap, cur, e, by omega, rest⟩
theorem OwnV.grown {E : TypeId} {w w' : World} {B : Nat} {v : Value} {es : List Vt} {row : Option Nat} (h : OwnV E w B v es) (hg : w.grownBy w' row) (hne : ∀ g, v.ownBlock = some g → row ≠ some g) : OwnV E w' B v es :=
  h.kept fun g e => hg.block g (h.lt g e).2 (fun e' => hne g e e'.symm)
theorem OwnV.setc {E : TypeId} {w : World} {B : Nat} {v : Value} {es : List Vt} (h : OwnV E w B v es) {b : Nat} (hne : ∀ g, v.ownBlock = some g → g ≠ b) (j : Nat) (u : Value) : OwnV E (w.setCell ⟨b, j, none⟩ u) B v es :=
  h.grown (grownBy_set w b j u) fun g e e' => hne g e (by cases e'; rfl)

theorem wpList_app_V {w : World} {ops : Array Oper} {rest : List Oper} {o : Oper} {a : Act} {Q : Exit → Act → World → Prop} (hgd : o.guard = none) (s x : Operand) (ho : o.op = .call { callee := .builtin .append, args := #[s, x], argTypes := #[23, 23] }) (B : Nat) (v : Value) (es es2 : List Vt) (ad : Option Addr) (c : Nat)
    (hs : a.eval s = v) (hb : OwnV 27 w B v es) (hx : a.eval x = .slice ad es2.length c) (hsrc : (ad = none ∧ es2 = [] ∧ c = 0) ∨ ∃ q, ad = some q ∧ SrcV w q es2) (hlen : es.length + es2.length ≤ 1048576) (hB : B ≤ w.heap.size)
    (h : ∀ v' w', OwnV 27 w' B v' (es ++ es2) → w.grownBy w' v.ownBlock → (∀ g, v'.ownBlock = some g → v.ownBlock = some g ∨ w.heap.size ≤ g) → wpList Try.prog ops Q rest (a.put o.dst v') w') : wpList Try.prog ops Q (o :: rest) a w := by
  refine wpList_want (by unfold Region.wanted; rw [hgd]) fun K hK => ?_
  exact op_app_V s x ho B v es es2 ad c hs hb hx hsrc hlen hB fun v' w' h1 h2 h3 => hK _ _ (h v' w' h1 h2 h3)

end Go.Proofs.Ytgpbogalknmcmaa

/- The draws of digests, leaves and texts: what is drawn is short and lies in new memory; each by a walk of its text; condition: at most 2^40 picks. -/
namespace Go.Proofs.Ytgpbogalknmcmaa
open Go.RowKit

/-- Numbers between -1 and 991. -/
def Digs (xs : List Int) : Prop := ∀ x ∈ xs, -1 ≤ x ∧ x ≤ 991
theorem digs_app {xs zs : List Int} (h : Digs xs) (k : Digs zs) : Digs (xs ++ zs) := fun x hx => by
  rcases List.mem_append.1 hx with hx | hx
  · exact h x hx
  · exact k x hx
theorem digs_one {z : Int} (h1 : -1 ≤ z) (h2 : z ≤ 991) : Digs [z] := fun x hx => by simp at hx; subst hx; exact ⟨h1, h2⟩
theorem digs_set {xs : List Int} (h : Digs xs) (j : Nat) {z : Int} (h1 : -1 ≤ z) (h2 : z ≤ 991) : Digs (xs.set j z) := fun x hx => by
  rcases List.mem_or_eq_of_mem_set hx with hx | rfl
  · exact h x hx
  · exact ⟨h1, h2⟩
theorem grown_row' {w a b : World} {R : Nat} {row : Option Nat} (h : w.grownBy a (some R)) (k : a.grownBy b row) (hr : ∀ g, row = some g → w.heap.size ≤ g) : w.grownBy b (some R) :=
  ⟨k.os.trans h.os, k.tape.trans h.tape, k.output.trans h.output, Nat.le_trans h.size k.size, fun i hi hne => (k.block i (Nat.lt_of_lt_of_le hi h.size) (fun e => by have := hr i e.symm; omega)).trans (h.block i hi hne)⟩
theorem below_of_row' {w w' : World} {R B : Nat} (h : w.grownBy w' (some R)) (hR : B ≤ R) (hB : B ≤ w.heap.size) : Below B w w' :=
  ⟨h.os, h.tape, h.output, h.size, fun k hk => h.block k (by omega) (fun e => by injection e with e; omega)⟩
theorem dig4_at (k : Nat) (hk : k < 4) : ∃ z : Int, (#[Value.int .i64 (-1), .int .i64 0, .int .i64 990, .int .i64 991] : Array Value)[k]? = some (.int .i64 z) ∧ -1 ≤ z ∧ z ≤ 991 := by
  match k, hk with
  | 0, _ => exact ⟨-1, rfl, by omega, by omega⟩
  | 1, _ => exact ⟨0, rfl, by omega, by omega⟩
  | 2, _ => exact ⟨990, rfl, by omega, by omega⟩
  | 3, _ => exact ⟨991, rfl, by omega, by omega⟩

theorem drawDigest (R p : Nat) (w : World) (hp : p ≤ 1000000) (hr : Rdr w R p) :
    Calls Try.prog 50 #[.pointer (some ⟨R, 0, none⟩)] w fun e w' => ∃ (d : Int) (p' : Nat), e = .returned (.int .i64 d) ∧ -1 ≤ d ∧ d ≤ 991 ∧ Rdr w' R p' ∧ p' ≤ p + 3 ∧ w.grownBy w' (some R) := by
  have Hr := Lib.hid hr; clear hr
  go_enter Try.func50, Try.ntmps50
  go_wp2_with fail
  refine (pick_any R 16 p _ (by omega) Hr.out (by omega)).mono ?_
  rintro e w1 ⟨x, rfl, hx0, hx1, hr1, hg1⟩
  have Hr1 := Lib.hid (hr1.alloc (.cells #[.int .i64 (-1), .int .i64 0, .int .i64 990, .int .i64 991] 3))
  have Hr1' := Lib.hid hr1; clear hr1
  have Hg1 := Lib.hid hg1; clear hg1
  have hRs := Hr1'.out.lt
  by_cases h0 : x = 0
  · subst h0
    go_wp2_with fail
    refine (pick_any R 4 (p + 1) _ (by omega) Hr1.out (by omega)).mono ?_
    rintro e w2 ⟨u, rfl, hu0, hu1, hr2, hg2⟩
    obtain ⟨u, rfl⟩ := Int.eq_ofNat_of_zero_le hu0
    obtain ⟨z, hz, hz1, hz2⟩ := dig4_at u (by omega)
    have hcell := lit_cell hg2 (by simp; omega) hz
    have Hg2 := Lib.hid (grownBy_trans (grownBy_trans Hg1.out (World.grownBy_alloc _ _ _)) hg2)
    have hu4 : u < 4 := by omega
    have Hr2 := Lib.hid hr2
    clear hg2 hz hu0 hu1 hr2
    go_wp2
    go_ret
    exact ⟨z, _, rfl, hz1, hz2, Hr2.out, by omega, Hg2.out⟩
  · have h0' : (x == 0) = false := by rw [beq_eq_false_iff_ne]; exact h0
    go_wp2_with fail
    refine (pick_any R 99 (p + 1) _ (by omega) Hr1'.out (by omega)).mono ?_
    rintro e w2 ⟨u, rfl, hu0, hu1, hr2, hg2⟩
    have Hr2 := Lib.hid hr2
    have Hg2 := Lib.hid (grownBy_trans Hg1.out hg2)
    clear hr2 hg2
    go_wp2_with fail
    refine (pick_any R 10 (p + 2) _ (by omega) Hr2.out (by omega)).mono ?_
    rintro e w3 ⟨y, rfl, hy0, hy1, hr3, hg3⟩
    have Hr3 := Lib.hid hr3
    have Hg3 := Lib.hid (grownBy_trans Hg2.out hg3)
    clear hr3 hg3
    go_wp2
    go_ret
    exact ⟨_, _, rfl, by omega, by omega, Hr3.out, by omega, Hg3.out⟩

end Go.Proofs.Ytgpbogalknmcmaa

/- The draws of votes and tallies: what is drawn is small and lies in new memory; each by a walk of its text; condition: at most 2^20 picks. -/
namespace Go.Proofs.Ytgpbogalknmcmaa
open Go.RowKit

/-- A vote of small numbers. -/
def VtS (v : Vt) : Prop := (-1 ≤ v.r ∧ v.r ≤ 31) ∧ (-1 ≤ v.a ∧ v.a ≤ 7) ∧ (-1 ≤ v.d ∧ v.d ≤ 994)
theorem rnd3_at (k : Nat) (hk : k < 3) : ∃ z : Int, (#[Value.int .i64 (-1), .int .i64 30, .int .i64 31] : Array Value)[k]? = some (.int .i64 z) ∧ -1 ≤ z ∧ z ≤ 31 := by
  match k, hk with
  | 0, _ => exact ⟨-1, rfl, by omega, by omega⟩
  | 1, _ => exact ⟨30, rfl, by omega, by omega⟩
  | 2, _ => exact ⟨31, rfl, by omega, by omega⟩
theorem grown_set {w a : World} {R B : Nat} (h : w.grownBy a (some R)) (hB : w.heap.size ≤ B) (j : Nat) (v : Value) : w.grownBy (a.setCell ⟨B, j, none⟩ v) (some R) := grown_row h (grownBy_set a B j v) (fun g e => by cases e; exact hB)

set_option maxHeartbeats 2000000 in
theorem drawVote (R p : Nat) (w : World) (hp : p ≤ 900000) (hr : Rdr w R p) (hR : R < w.heap.size) :
    Calls Try.prog 30 #[.pointer (some ⟨R, 0, none⟩)] w fun e w' => ∃ (v : Vt) (p' : Nat), e = .returned (.agg #[.int .i64 v.r, .int .i64 v.a, .int .i64 v.d]) ∧ VtS v ∧ v.d ≤ 991 ∧ Rdr w' R p' ∧ p' ≤ p + 8 ∧ w.grownBy w' (some R) := by
  have Hr0 := Lib.hid (hr.alloc (.cells #[.int .i64 0, .int .i64 0, .int .i64 0] 27)); clear hr
  have SA := Lib.hid (Str.new w 27 #[.int .i64 0, .int .i64 0, .int .i64 0])
  have Hg0 := Lib.hid (World.grownBy_alloc w (.cells #[.int .i64 0, .int .i64 0, .int .i64 0] 27) (some R))
  have hz0 : (w.alloc (.cells #[.int .i64 0, .int .i64 0, .int .i64 0] 27)).heap.size = w.heap.size + 1 := by simp
  go_enter Try.func30, Try.ntmps30
  have Hr := Hr0; clear Hr0
  have Hg := Hg0; clear Hg0
  go_wp2_with fail
  generalize w.alloc (.cells #[.int .i64 0, .int .i64 0, .int .i64 0] 27) = W0 at *
  refine (pick_any R 6 (p) _ (by omega) Hr.out (by omega)).mono ?_
  rintro e w1 ⟨x, rfl, hx0, hx1, hr', hg'⟩
  have hsz' := hg'.size
  have Hr := Lib.hid hr'
  have Hg := Lib.hid (grownBy_trans Hg.out hg')
  have SA := Lib.hid (show Str w1 w.heap.size 27 #[.int .i64 0, .int .i64 0, .int .i64 0] from SA.out.kept hg' (by simp; omega))
  clear hr' hg'
  go_wp2_with fail
  refine (pick_any R 4 (p + 1) _ (by omega) Hr.out (by omega)).mono ?_
  rintro e w2 ⟨y, rfl, hy0, hy1, hr', hg'⟩
  have hsz' := hg'.size
  have Hr := Lib.hid hr'
  have Hg := Lib.hid (grownBy_trans Hg.out hg')
  have SA := Lib.hid (show Str w2 w.heap.size 27 #[.int .i64 0, .int .i64 0, .int .i64 0] from SA.out.kept hg' (by simp; omega))
  clear hr' hg'
  go_wp2_with fail
  refine (pick_any R 3 (p + 1 + 1) _ (by omega) Hr.out (by omega)).mono ?_
  rintro e w3 ⟨z, rfl, hz0, hz1, hr', hg'⟩
  have hsz' := hg'.size
  have Hr := Lib.hid hr'
  have Hg := Lib.hid (grownBy_trans Hg.out hg')
  have SA := Lib.hid (show Str w3 w.heap.size 27 #[.int .i64 0, .int .i64 0, .int .i64 0] from SA.out.kept hg' (by simp; omega))
  clear hr' hg'
  have hw3 : w.heap.size + 1 ≤ w3.heap.size := by omega
  have Hr := Lib.hid (Hr.out.alloc (.cells #[.int .i64 x, .int .i64 y, .int .i64 (1 + z)] 27))
  have SC := Lib.hid (Str.new w3 27 #[.int .i64 x, .int .i64 y, .int .i64 (1 + z)])
  have SA := Lib.hid (show Str (w3.alloc (.cells #[.int .i64 x, .int .i64 y, .int .i64 (1 + z)] 27)) w.heap.size 27 #[.int .i64 0, .int .i64 0, .int .i64 0] from SA.out.alloc _)
  have Hg := Lib.hid (grownBy_trans Hg.out (World.grownBy_alloc w3 (.cells #[.int .i64 x, .int .i64 y, .int .i64 (1 + z)] 27) (some R)))
  have hz3 : (w3.alloc (.cells #[.int .i64 x, .int .i64 y, .int .i64 (1 + z)] 27)).heap.size = w3.heap.size + 1 := by simp
  have hRC : R < w3.heap.size := by omega
  go_wp2_with fail
  generalize w3.alloc (.cells #[.int .i64 x, .int .i64 y, .int .i64 (1 + z)] 27) = W3 at *
  refine (pick_any R 24 (p + 1 + 1 + 1) _ (by omega) Hr.out (by omega)).mono ?_
  rintro e w4 ⟨q, rfl, hq0, hq1, hr', hg'⟩
  have hsz' := hg'.size
  have Hr := Lib.hid hr'
  have Hg := Lib.hid (grownBy_trans Hg.out hg')
  have SA := Lib.hid (show Str w4 w.heap.size 27 #[.int .i64 0, .int .i64 0, .int .i64 0] from SA.out.kept hg' (by simp; omega))
  have SC := Lib.hid (show Str w4 w3.heap.size 27 #[.int .i64 x, .int .i64 y, .int .i64 (1 + z)] from SC.out.kept hg' (by simp; omega))
  clear hr' hg'
  by_cases h0 : q = 0
  case pos =>
    subst h0
    have Hr := Lib.hid (Hr.out.alloc (.cells #[.int .i64 (-1), .int .i64 30, .int .i64 31] 3))
    have SA := Lib.hid (show Str (w4.alloc (.cells #[.int .i64 (-1), .int .i64 30, .int .i64 31] 3)) w.heap.size 27 #[.int .i64 0, .int .i64 0, .int .i64 0] from SA.out.alloc _)
    have SC := Lib.hid (show Str (w4.alloc (.cells #[.int .i64 (-1), .int .i64 30, .int .i64 31] 3)) w3.heap.size 27 #[.int .i64 x, .int .i64 y, .int .i64 (1 + z)] from SC.out.alloc _)
    have Hg := Lib.hid (grownBy_trans Hg.out (World.grownBy_alloc w4 (.cells #[.int .i64 (-1), .int .i64 30, .int .i64 31] 3) (some R)))
    go_wp2_with fail
    refine (pick_any R 3 (p + 1 + 1 + 1 + 1) _ (by omega) Hr.out (by omega)).mono ?_
    rintro e w5 ⟨u, rfl, hu0, hu1, hr', hg'⟩
    have hsz5 := hg'.size
    simp only [World.size_alloc] at hsz5
    obtain ⟨u, rfl⟩ := Int.eq_ofNat_of_zero_le hu0
    obtain ⟨t, ht, ht1, ht2⟩ := rnd3_at u (by omega)
    have hcell := lit_cell hg' (by simp; omega) ht
    have hu4 : u < 3 := by omega
    have Hr := Lib.hid hr'
    have Hg := Lib.hid (grownBy_trans Hg.out hg')
    have SA := Lib.hid (show Str w5 w.heap.size 27 #[.int .i64 0, .int .i64 0, .int .i64 0] from SA.out.kept hg' (by simp; omega))
    have SC := Lib.hid (show Str w5 w3.heap.size 27 #[.int .i64 x, .int .i64 y, .int .i64 (1 + z)] from SC.out.kept hg' (by simp; omega))
    clear hr' hg' ht hu0 hu1
    have fc := SC.out.frozen 0
    have cc := SC.out.cell 0 (v := .int .i64 (x)) rfl
    have SC := Lib.hid (show Str (w5.setCell ⟨w3.heap.size, 0, none⟩ (.int .i64 (t))) w3.heap.size 27 #[.int .i64 (t), .int .i64 (y), .int .i64 (1 + z)] from SC.out.set 0 _)
    have SA := Lib.hid (show Str (w5.setCell ⟨w3.heap.size, 0, none⟩ (.int .i64 (t))) w.heap.size 27 #[.int .i64 0, .int .i64 0, .int .i64 0] from SA.out.other (by omega) _ _)
    have Hr := Lib.hid (Hr.out.kept (grownBy_set w5 w3.heap.size 0 (.int .i64 (t))) (fun g e => by cases e; omega))
    have Hg := Lib.hid (grown_set Hg.out (B := w3.heap.size) (by omega) 0 (.int .i64 (t)))
    skip
    have a0 := SA.out.cell 0 (v := .int .i64 0) rfl
    have a1 := SA.out.cell 1 (v := .int .i64 0) rfl
    have a2 := SA.out.cell 2 (v := .int .i64 0) rfl
    have f0 := SA.out.frozen 0
    have f1 := SA.out.frozen 1
    have f2 := SA.out.frozen 2
    have c0 := SC.out.cell 0 (v := .int .i64 (t)) rfl
    have c1 := SC.out.cell 1 (v := .int .i64 (y)) rfl
    have c2 := SC.out.cell 2 (v := .int .i64 (1 + z)) rfl
    have sF := ((SA.out.set 0 (.int .i64 (t))).set 1 (.int .i64 (y))).set 2 (.int .i64 (1 + z))
    have e0 := sF.cell 0 (v := .int .i64 (t)) rfl
    have e1 := sF.cell 1 (v := .int .i64 (y)) rfl
    have e2 := sF.cell 2 (v := .int .i64 (1 + z)) rfl
    clear sF
    go_wp2
    refine bodyPost_ret (v := .agg #[.int .i64 (t), .int .i64 (y), .int .i64 (1 + z)]) (by simp [results, Try.f30, go_sem, e0, e1, e2]) rfl ?_
    exact ⟨⟨t, y, 1 + z⟩, _, rfl, ⟨by simp only; omega, by simp only; omega, by simp only; omega⟩, by simp only; omega, ((Hr.out.kept (grownBy_set _ w.heap.size 0 _) (fun g e => by cases e; omega)).kept (grownBy_set _ w.heap.size 1 _) (fun g e => by cases e; omega)).kept (grownBy_set _ w.heap.size 2 _) (fun g e => by cases e; omega), by omega, grown_set (grown_set (grown_set Hg.out (Nat.le_refl _) _ _) (Nat.le_refl _) _ _) (Nat.le_refl _) _ _⟩
  have h0' : (q == 0) = false := by rw [beq_eq_false_iff_ne]; exact h0
  by_cases h1 : q = 1
  case pos =>
    subst h1
    go_wp2_with fail
    refine (pick_any R 9 (p + 1 + 1 + 1 + 1) _ (by omega) Hr.out (by omega)).mono ?_
    rintro e w5 ⟨u, rfl, hu0, hu1, hr', hg'⟩
    have hsz' := hg'.size
    have Hr := Lib.hid hr'
    have Hg := Lib.hid (grownBy_trans Hg.out hg')
    have SA := Lib.hid (show Str w5 w.heap.size 27 #[.int .i64 0, .int .i64 0, .int .i64 0] from SA.out.kept hg' (by simp; omega))
    have SC := Lib.hid (show Str w5 w3.heap.size 27 #[.int .i64 x, .int .i64 y, .int .i64 (1 + z)] from SC.out.kept hg' (by simp; omega))
    clear hr' hg'
    have fc := SC.out.frozen 1
    have cc := SC.out.cell 1 (v := .int .i64 (y)) rfl
    have SC := Lib.hid (show Str (w5.setCell ⟨w3.heap.size, 1, none⟩ (.int .i64 (u - 1))) w3.heap.size 27 #[.int .i64 (x), .int .i64 (u - 1), .int .i64 (1 + z)] from SC.out.set 1 _)
    have SA := Lib.hid (show Str (w5.setCell ⟨w3.heap.size, 1, none⟩ (.int .i64 (u - 1))) w.heap.size 27 #[.int .i64 0, .int .i64 0, .int .i64 0] from SA.out.other (by omega) _ _)
    have Hr := Lib.hid (Hr.out.kept (grownBy_set w5 w3.heap.size 1 (.int .i64 (u - 1))) (fun g e => by cases e; omega))
    have Hg := Lib.hid (grown_set Hg.out (B := w3.heap.size) (by omega) 1 (.int .i64 (u - 1)))
    have a0 := SA.out.cell 0 (v := .int .i64 0) rfl
    have a1 := SA.out.cell 1 (v := .int .i64 0) rfl
    have a2 := SA.out.cell 2 (v := .int .i64 0) rfl
    have f0 := SA.out.frozen 0
    have f1 := SA.out.frozen 1
    have f2 := SA.out.frozen 2
    have c0 := SC.out.cell 0 (v := .int .i64 (x)) rfl
    have c1 := SC.out.cell 1 (v := .int .i64 (u - 1)) rfl
    have c2 := SC.out.cell 2 (v := .int .i64 (1 + z)) rfl
    have sF := ((SA.out.set 0 (.int .i64 (x))).set 1 (.int .i64 (u - 1))).set 2 (.int .i64 (1 + z))
    have e0 := sF.cell 0 (v := .int .i64 (x)) rfl
    have e1 := sF.cell 1 (v := .int .i64 (u - 1)) rfl
    have e2 := sF.cell 2 (v := .int .i64 (1 + z)) rfl
    clear sF
    go_wp2
    refine bodyPost_ret (v := .agg #[.int .i64 (x), .int .i64 (u - 1), .int .i64 (1 + z)]) (by simp [results, Try.f30, go_sem, e0, e1, e2]) rfl ?_
    exact ⟨⟨x, u - 1, 1 + z⟩, _, rfl, ⟨by simp only; omega, by simp only; omega, by simp only; omega⟩, by simp only; omega, ((Hr.out.kept (grownBy_set _ w.heap.size 0 _) (fun g e => by cases e; omega)).kept (grownBy_set _ w.heap.size 1 _) (fun g e => by cases e; omega)).kept (grownBy_set _ w.heap.size 2 _) (fun g e => by cases e; omega), by omega, grown_set (grown_set (grown_set Hg.out (Nat.le_refl _) _ _) (Nat.le_refl _) _ _) (Nat.le_refl _) _ _⟩
  have h1' : (q == 1) = false := by rw [beq_eq_false_iff_ne]; exact h1
  by_cases h2 : q = 2
  case pos =>
    subst h2
    go_wp2_with fail
    refine (drawDigest R (p + 1 + 1 + 1 + 1) _ (by omega) Hr.out).mono ?_
    rintro e w5 ⟨d, p', rfl, hd0, hd1, hr', hp', hg'⟩
    have hsz5 := hg'.size
    have Hr := Lib.hid hr'
    have Hg := Lib.hid (grownBy_trans Hg.out hg')
    have SA := Lib.hid (show Str w5 w.heap.size 27 #[.int .i64 0, .int .i64 0, .int .i64 0] from SA.out.kept hg' (by simp; omega))
    have SC := Lib.hid (show Str w5 w3.heap.size 27 #[.int .i64 x, .int .i64 y, .int .i64 (1 + z)] from SC.out.kept hg' (by simp; omega))
    clear hr' hg'
    have fc := SC.out.frozen 2
    have cc := SC.out.cell 2 (v := .int .i64 (1 + z)) rfl
    have SC := Lib.hid (show Str (w5.setCell ⟨w3.heap.size, 2, none⟩ (.int .i64 (d))) w3.heap.size 27 #[.int .i64 (x), .int .i64 (y), .int .i64 (d)] from SC.out.set 2 _)
    have SA := Lib.hid (show Str (w5.setCell ⟨w3.heap.size, 2, none⟩ (.int .i64 (d))) w.heap.size 27 #[.int .i64 0, .int .i64 0, .int .i64 0] from SA.out.other (by omega) _ _)
    have Hr := Lib.hid (Hr.out.kept (grownBy_set w5 w3.heap.size 2 (.int .i64 (d))) (fun g e => by cases e; omega))
    have Hg := Lib.hid (grown_set Hg.out (B := w3.heap.size) (by omega) 2 (.int .i64 (d)))
    have a0 := SA.out.cell 0 (v := .int .i64 0) rfl
    have a1 := SA.out.cell 1 (v := .int .i64 0) rfl
    have a2 := SA.out.cell 2 (v := .int .i64 0) rfl
    have f0 := SA.out.frozen 0
    have f1 := SA.out.frozen 1
    have f2 := SA.out.frozen 2
    have c0 := SC.out.cell 0 (v := .int .i64 (x)) rfl
    have c1 := SC.out.cell 1 (v := .int .i64 (y)) rfl
    have c2 := SC.out.cell 2 (v := .int .i64 (d)) rfl
    have sF := ((SA.out.set 0 (.int .i64 (x))).set 1 (.int .i64 (y))).set 2 (.int .i64 (d))
    have e0 := sF.cell 0 (v := .int .i64 (x)) rfl
    have e1 := sF.cell 1 (v := .int .i64 (y)) rfl
    have e2 := sF.cell 2 (v := .int .i64 (d)) rfl
    clear sF
    go_wp2
    refine bodyPost_ret (v := .agg #[.int .i64 (x), .int .i64 (y), .int .i64 (d)]) (by simp [results, Try.f30, go_sem, e0, e1, e2]) rfl ?_
    exact ⟨⟨x, y, d⟩, _, rfl, ⟨by simp only; omega, by simp only; omega, by simp only; omega⟩, by simp only; omega, ((Hr.out.kept (grownBy_set _ w.heap.size 0 _) (fun g e => by cases e; omega)).kept (grownBy_set _ w.heap.size 1 _) (fun g e => by cases e; omega)).kept (grownBy_set _ w.heap.size 2 _) (fun g e => by cases e; omega), by omega, grown_set (grown_set (grown_set Hg.out (Nat.le_refl _) _ _) (Nat.le_refl _) _ _) (Nat.le_refl _) _ _⟩
  have h2' : (q == 2) = false := by rw [beq_eq_false_iff_ne]; exact h2
  have a0 := SA.out.cell 0 (v := .int .i64 0) rfl
  have a1 := SA.out.cell 1 (v := .int .i64 0) rfl
  have a2 := SA.out.cell 2 (v := .int .i64 0) rfl
  have f0 := SA.out.frozen 0
  have f1 := SA.out.frozen 1
  have f2 := SA.out.frozen 2
  have c0 := SC.out.cell 0 (v := .int .i64 (x)) rfl
  have c1 := SC.out.cell 1 (v := .int .i64 (y)) rfl
  have c2 := SC.out.cell 2 (v := .int .i64 (1 + z)) rfl
  have sF := ((SA.out.set 0 (.int .i64 (x))).set 1 (.int .i64 (y))).set 2 (.int .i64 (1 + z))
  have e0 := sF.cell 0 (v := .int .i64 (x)) rfl
  have e1 := sF.cell 1 (v := .int .i64 (y)) rfl
  have e2 := sF.cell 2 (v := .int .i64 (1 + z)) rfl
  clear sF
  go_wp2
  refine bodyPost_ret (v := .agg #[.int .i64 (x), .int .i64 (y), .int .i64 (1 + z)]) (by simp [results, Try.f30, go_sem, e0, e1, e2]) rfl ?_
  exact ⟨⟨x, y, 1 + z⟩, _, rfl, ⟨by simp only; omega, by simp only; omega, by simp only; omega⟩, by simp only; omega, ((Hr.out.kept (grownBy_set _ w.heap.size 0 _) (fun g e => by cases e; omega)).kept (grownBy_set _ w.heap.size 1 _) (fun g e => by cases e; omega)).kept (grownBy_set _ w.heap.size 2 _) (fun g e => by cases e; omega), by omega, grown_set (grown_set (grown_set Hg.out (Nat.le_refl _) _ _) (Nat.le_refl _) _ _) (Nat.le_refl _) _ _⟩

end Go.Proofs.Ytgpbogalknmcmaa

/- The state of a voter while it is drawn: its struct, its list of votes of the call's own, the reader; steps of the world; nothing here speaks of the program but types. -/
namespace Go.Proofs.Ytgpbogalknmcmaa
open Go.RowKit

structure Vst (R : Nat) (w : World) (X : Nat) (f : Int) (p : Nat) (wr : World) (u : Value) (g : List Vt) : Prop where
  sx : Str wr X 25 #[.int .i64 f, u]
  own : OwnV 27 wr w.heap.size u g
  nx : ∀ b, u.ownBlock = some b → b ≠ X ∧ b ≠ w.heap.size
  sr : Str wr w.heap.size 25 #[.int .i64 0, .slice none 0 0]
  rd : Rdr wr R p
  gr : w.grownBy wr (some R)
  hR : R < w.heap.size
  hX : w.heap.size < X
section
variable {R : Nat} {w : World} {X : Nat} {f : Int} {p : Nat} {wr : World} {u : Value} {g : List Vt}
theorem Vst.picked (h : Vst R w X f p wr u g) {w2 : World} {p2 : Nat} (hg : wr.grownBy w2 (some R)) (hr : Rdr w2 R p2) : Vst R w X f p2 w2 u g := by
  have h1 := h.hR; have h2 := h.hX
  exact ⟨h.sx.kept hg (by simp; omega), h.own.grown hg (fun b e e' => by have := (h.own.lt b e).1; cases e'; omega), h.nx, h.sr.kept hg (by simp; omega), hr, grownBy_trans h.gr hg, h1, h2⟩
theorem Vst.below (h : Vst R w X f p wr u g) {w2 : World} (hb : Below wr.heap.size wr w2) : Vst R w X f p w2 u g :=
  ⟨(hb.block _ h.sx.lt).trans h.sx, h.own.below hb, h.nx, (hb.block _ h.sr.lt).trans h.sr, h.rd.kept (below_grown hb) (by simp), grown_row h.gr (below_grown hb) (by simp), h.hR, h.hX⟩
theorem Vst.put (h : Vst R w X f p wr u g) {w2 : World} {u2 : Value} {g2 : List Vt} (ho : OwnV 27 w2 w.heap.size u2 g2) (hg : wr.grownBy w2 u.ownBlock) (hat : ∀ b, u2.ownBlock = some b → u.ownBlock = some b ∨ wr.heap.size ≤ b) :
    Vst R w X f p (w2.setCell ⟨X, 1, none⟩ u2) u2 g2 ∧ Str w2 X 25 #[.int .i64 f, u] := by
  have h1 := h.hR; have h2 := h.hX; have h3 := h.sx.lt; have h4 := h.sr.lt
  have hn : ∀ b, u2.ownBlock = some b → b ≠ X ∧ b ≠ w.heap.size := fun b e => by
    rcases hat b e with h' | h'
    · exact h.nx b h'
    · omega

  have hsx : Str w2 X 25 #[.int .i64 f, u] := h.sx.kept hg (fun e => (h.nx X e.symm).1 rfl)
  have hsr : Str w2 w.heap.size 25 #[.int .i64 0, .slice none 0 0] := h.sr.kept hg (fun e => (h.nx _ e.symm).2 rfl)
  exact ⟨⟨hsx.set 1 u2, ho.setc (fun b e => (hn b e).1) _ _, hn, hsr.other (by omega) _ _, (h.rd.kept hg (fun b e => by have := (h.own.lt b e).1; omega)).kept (grownBy_set w2 X 1 u2) (fun b e => by cases e; omega),
    grown_set (grown_row h.gr hg (fun b e => (h.own.lt b e).1)) (by omega) 1 u2, h1, h2⟩, hsx⟩
theorem Vst.put2 (h : Vst R w X f p wr u g) {w2 : World} {u2 : Value} {g2 : List Vt} (ho : OwnV 27 w2 w.heap.size u2 g2) (hg : wr.grownBy w2 u.ownBlock) (hat : ∀ b, u2.ownBlock = some b → u.ownBlock = some b ∨ wr.heap.size ≤ b) :
    Hid (Vst R w X f p (w2.setCell ⟨X, 1, none⟩ u2) u2 g2) ∧ w2.frozen? ⟨X, 1, none⟩ = false ∧ w2.cell? ⟨X, 1, none⟩ = some u := by
  obtain ⟨h1, h2⟩ := h.put ho hg hat
  exact ⟨Lib.hid h1, h2.frozen 1, h2.cell 1 rfl⟩
theorem Vst.move (h : Vst R w X f p wr u g) {f2 : Int} {u2 : Value} {g2 : List Vt} (ho : OwnV 27 wr w.heap.size u2 g2) (hn : ∀ b, u2.ownBlock = some b → b ≠ X ∧ b ≠ w.heap.size) :
    Vst R w X f2 p ((wr.setCell ⟨X, 0, none⟩ (.int .i64 f2)).setCell ⟨X, 1, none⟩ u2) u2 g2 := by
  have h1 := h.hR; have h2 := h.hX
  exact ⟨(h.sx.set 0 _).set 1 _, (ho.setc (fun b e => (hn b e).1) _ _).setc (fun b e => (hn b e).1) _ _, hn, (h.sr.other (by omega) _ _).other (by omega) _ _,
    (h.rd.kept (grownBy_set _ X 0 _) (fun b e => by cases e; omega)).kept (grownBy_set _ X 1 _) (fun b e => by cases e; omega), grown_set (grown_set h.gr (by omega) 0 _) (by omega) 1 _, h1, h2⟩
theorem Vst.floor (h : Vst R w X f p wr u g) (f2 : Int) : Vst R w X f2 p (wr.setCell ⟨X, 0, none⟩ (.int .i64 f2)) u g := by
  have h1 := h.hR; have h2 := h.hX
  exact ⟨h.sx.set 0 _, h.own.setc (fun b e => (h.nx b e).1) _ _, h.nx, h.sr.other (by omega) _ _, h.rd.kept (grownBy_set _ X 0 _) (fun b e => by cases e; omega), grown_set h.gr (by omega) 0 _, h1, h2⟩
theorem Vst.beside (h : Vst R w X f p wr u g) {Y : Nat} (h1 : Y ≠ X) (h2 : Y ≠ w.heap.size) (h3 : ∀ b, u.ownBlock = some b → b ≠ Y) (hlo : w.heap.size ≤ Y) (v0 v1 : Value) : Vst R w X f p ((wr.setCell ⟨Y, 0, none⟩ v0).setCell ⟨Y, 1, none⟩ v1) u g := by
  have k1 := h.hR; have k2 := h.hX
  exact ⟨(h.sx.other (Ne.symm h1) _ _).other (Ne.symm h1) _ _, (h.own.setc h3 _ _).setc h3 _ _, h.nx, (h.sr.other (Ne.symm h2) _ _).other (Ne.symm h2) _ _,
    (h.rd.kept (grownBy_set _ Y 0 _) (fun b e => by cases e; omega)).kept (grownBy_set _ Y 1 _) (fun b e => by cases e; omega), grown_set (grown_set h.gr hlo 0 _) hlo 1 _, k1, k2⟩
/-- What a drawn voter is. -/
def VoterDraw (R p : Nat) (w : World) (e : Ending) (w' : World) : Prop := ∃ (f : Int) (g : List Vt) (u : Value) (p' : Nat), e = .returned (.agg #[.int .i64 f, u]) ∧ OwnV 27 w' w.heap.size u g ∧ g.length ≤ 41 ∧ (-1 ≤ f ∧ f ≤ 34) ∧ Rdr w' R p' ∧ p' ≤ p + 400 ∧ w.grownBy w' (some R)
theorem Vst.fin (h : Vst R w X f p wr u g) {p0 : Nat} {e : Ending} (he : e = .returned (.agg #[.int .i64 f, u])) (hl : g.length ≤ 41) (hf : -1 ≤ f ∧ f ≤ 34) (hp : p ≤ p0 + 400) :
    VoterDraw R p0 w e ((wr.setCell ⟨w.heap.size, 0, none⟩ (.int .i64 f)).setCell ⟨w.heap.size, 1, none⟩ u) :=
  ⟨f, g, u, p, he, (h.own.setc (fun b e => (h.nx b e).2) _ _).setc (fun b e => (h.nx b e).2) _ _, hl, hf, (h.rd.kept (grownBy_set _ w.heap.size 0 _) (fun b e => by cases e; exact h.hR)).kept (grownBy_set _ w.heap.size 1 _) (fun b e => by cases e; exact h.hR), hp,
    grown_set (grown_set h.gr (Nat.le_refl _) 0 _) (Nat.le_refl _) 1 _⟩
end

end Go.Proofs.Ytgpbogalknmcmaa

/- The draw of a voter, by a walk of its text; condition: at most 2^19 picks. -/
namespace Go.Proofs.Ytgpbogalknmcmaa
open Go.RowKit

/-- What stands behind a drawn vote and its signing. -/
def R12 (F : Nat → Vt → Int → Value → Bool → Act) (R : Nat) (w : World) (X : Nat) (q : Int) (p' : Nat) (u : Value) (g : List Vt) : Exit → Act → World → Prop
  | .normal, a', w' => ∃ (Y : Nat) (v : Vt) (f' : Int) (u' : Value) (b : Bool) (g' : List Vt) (p2 : Nat), a' = F Y v f' u' b ∧ p2 ≤ p' + 8 ∧ Vst R w X q p2 w' u g ∧ Str w' Y 25 #[.int .i64 f', u'] ∧ OwnV 27 w' w.heap.size u' g' ∧ (∀ b, u'.ownBlock = some b → b ≠ X ∧ b ≠ w.heap.size) ∧ g'.length ≤ 41
  | _, _, _ => False
theorem sg_short (f : Int) (g : List Vt) (v : Vt) : (sgG f g v).length ≤ g.length + 1 := by
  have h := congrArg List.length (low_up g v)
  rw [List.length_append] at h
  unfold sgG
  split
  · unfold signG
    split
    · omega
    · split
      · omega
      · simp only [List.length_append, List.length_cons]; omega
  · simp
set_option maxHeartbeats 8000000 in
set_option maxRecDepth 8000 in
theorem drawVoter (R p : Nat) (w : World) (hp : p ≤ 500000) (hr : Rdr w R p) (hR : R < w.heap.size) :
    Calls Try.prog 29 #[.pointer (some ⟨R, 0, none⟩)] w (VoterDraw R p w) := by
  skip
  have SR := Lib.hid (Str.new w 25 #[.int .i64 0, .slice none 0 0])
  have Hr := Lib.hid (hr.alloc (.cells #[.int .i64 0, .slice none 0 0] 25)); clear hr
  have Hg := Lib.hid (World.grownBy_alloc w (.cells #[.int .i64 0, .slice none 0 0] 25) (some R))
  have hz0 : (w.alloc (.cells #[.int .i64 0, .slice none 0 0] 25)).heap.size = w.heap.size + 1 := by simp
  have Hz0 := Lib.hid hz0
  have hz1 : w.heap.size < (w.alloc (.cells #[.int .i64 0, .slice none 0 0] 25)).heap.size := by omega
  clear hz0
  go_enter Try.func29, Try.ntmps29
  go_wp2_with fail
  generalize w.alloc (.cells #[.int .i64 0, .slice none 0 0] 25) = W0 at *
  refine (pick_any R 3 (p) _ (by omega) Hr.out (by omega)).mono ?_
  rintro e w1 ⟨x, rfl, hx0, hx1, hr', hg'⟩
  have hsw1 := hg'.size
  have SR := Lib.hid (SR.out.kept hg' (by simp; omega))
  have Hr := Lib.hid hr'
  have Hg := Lib.hid (grownBy_trans Hg.out hg')
  clear hr' hg'
  go_wp2_with fail
  refine (pick_any R 2 (p + 1) _ (by omega) Hr.out (by omega)).mono ?_
  rintro e w2 ⟨y, rfl, hy0, hy1, hr', hg'⟩
  have hsw2 := hg'.size
  obtain ⟨q, hq, hq0, hq2⟩ : ∃ q : Int, x * y = q ∧ 0 ≤ q ∧ q ≤ 2 := by
    refine ⟨_, rfl, ?_⟩
    rcases (show y = 0 ∨ y = 1 by omega) with rfl | rfl <;> simp <;> omega
  have ho0 : OwnV 27 (w2.alloc (.cells #[] 27)) w.heap.size (.slice (some ⟨w2.heap.size, 0, none⟩) 0 0) [] := (OwnV.empty 27 w2).mono (by omega)
  have hal2 : Below (w2.alloc (.cells #[] 27)).heap.size (w2.alloc (.cells #[] 27)) ((w2.alloc (.cells #[] 27)).alloc (.cells #[.int .i64 q, (.slice (some ⟨w2.heap.size, 0, none⟩) 0 0)] 25)) := (Below.refl _ _).alloc (Nat.le_refl _) _
  have hzL : (w2.alloc (.cells #[] 27)).heap.size = w2.heap.size + 1 := by simp
  have HV := Lib.hid (show Vst R w (w2.heap.size + 1) q (p + 1 + 1) ((w2.alloc (.cells #[] 27)).alloc (.cells #[.int .i64 q, (.slice (some ⟨w2.heap.size, 0, none⟩) 0 0)] 25)) (.slice (some ⟨w2.heap.size, 0, none⟩) 0 0) [] from ⟨by rw [← hzL]; exact Str.new _ _ _, ho0.below hal2, (fun b e => (show w2.heap.size = b by simpa [Value.ownBlock] using e) ▸ ⟨by omega, by omega⟩), ((SR.out.kept hg' (by simp; omega)).alloc _).alloc _, (hr'.alloc _).alloc _, grown_row (grown_row (grownBy_trans Hg.out hg') (World.grownBy_alloc w2 _ none) (by simp)) (World.grownBy_alloc _ _ none) (by simp), hR, by omega⟩)
  have hzE : w2.heap.size + 1 < ((w2.alloc (.cells #[] 27)).alloc (.cells #[.int .i64 q, (.slice (some ⟨w2.heap.size, 0, none⟩) 0 0)] 25)).heap.size := by simp
  clear hr' hg' ho0 hal2 hzL SR Hr Hg
  go_wp2_with fail
  clear hq
  generalize ((w2.alloc (.cells #[] 27)).alloc (.cells #[.int .i64 q, (.slice (some ⟨w2.heap.size, 0, none⟩) 0 0)] 25)) = W3 at *
  generalize hX : w2.heap.size + 1 = X at *
  have hwX : w.heap.size < X := by omega
  clear hX
  refine (pick_any R 14 (p + 1 + 1) _ (by omega) HV.out.rd (by have := HV.out.sr.lt; omega)).mono ?_
  rintro e w3 ⟨n, rfl, hn0, hn1, hr', hg'⟩
  have hsw3 := hg'.size
  have HV := Lib.hid (HV.out.picked hg' hr')
  clear hr' hg'
  go_wp2_with fail
  refine (pick_any R 12 (p + 1 + 1 + 1) _ (by omega) HV.out.rd (by have := HV.out.sr.lt; omega)).mono ?_
  rintro e w4 ⟨t, rfl, ht0, ht1, hr', hg'⟩
  have hsw4 := hg'.size
  have HV := Lib.hid (HV.out.picked hg' hr')
  clear hr' hg'
  by_cases ht : t = 0
  case neg =>
    have ht' : (t == 0) = false := by rw [beq_eq_false_iff_ne]; exact ht
    clear ht0 ht1
    obtain ⟨p9, hpp, hp9⟩ : ∃ p9, p + 1 + 1 + 1 + 1 = p9 ∧ p9 ≤ p + 10 := ⟨_, rfl, by omega⟩
    rw [hpp] at HV
    clear hpp
    obtain ⟨g, hg40, hgn⟩ : ∃ g : List Vt, g.length ≤ 40 ∧ g = [] := ⟨[], by simp, rfl⟩
    rw [← hgn] at HV
    clear hgn
    obtain ⟨n, rfl⟩ := Int.eq_ofNat_of_zero_le hn0
    have hn13 : n ≤ 13 := by omega
    clear hn1
    have Hp9 := Lib.hid hp9
    go_wp2
    go_loopw [6] (fun i wr => ∃ (k p' : Nat) (u : Value) (g : List Vt), k ≤ n ∧ i = .int .i64 k ∧ p' ≤ p9 + 8 * k ∧ g.length ≤ 40 ∧ Vst R w X q p' wr u g) (fun i _ => n - (intOf i).toNat)
    case atStart => exact ⟨0, p9, _, g, by omega, rfl, by omega, hg40, HV.out⟩
    case round =>
      clear HV hg40
      obtain ⟨k, p', u, g, hk, rfl, hpk, hg40, hv⟩ := hrel
      obtain ⟨au, cu, rfl⟩ := hv.own.slice
      have hsz := hv.sr.lt
      have hxl := hv.sx.lt
      have HV := Lib.hid hv; clear hv
      by_cases hlt : k < n
      · skip
        have c0 := HV.out.sx.cell 0 (v := .int .i64 q) rfl
        have c1 := HV.out.sx.cell 1 (v := .slice au g.length cu) rfl
        go_wp2_with fail
        skip
        clear c0 c1
        refine Code.wp_mono (Q := R12 ?Fu R w X q p' (Value.slice au g.length cu) g) ?hq ?hc
        case hc =>
          refine wp_region_held_drew (S := fun w' => w'.cell? ⟨X, 0, none⟩ = some (.int .i64 q) ∧ w'.cell? ⟨X, 1, none⟩ = some (.slice au g.length cu)) (by kernel_rfl) ⟨HV.out.sx.cell 0 rfl, HV.out.sx.cell 1 rfl⟩ (fun hH => ?_)
          have HV := Lib.hid (HV.out.below ((Below.refl _ wr).drew))
          have hszd : w.heap.size < wr.drew.heap.size := hsz
          have hxld : X < wr.drew.heap.size := hxl
          generalize wr.drew = wd at *
          refine takeH 0 (v := ?vrau1) rfl (by kernel_rfl) (by kernel_rfl) (by kernel_rfl) (fun _ _ _ h => h) hH rfl ?yrau1 ?rrau1
          case yrau1 => intro W hSw; go_simp; try with_reducible rfl
          try simp only [Act.put, List.setIfInBounds_toArray, List.set_cons_zero, List.set_cons_succ]
          refine takeH 1 (v := ?vrau2) rfl (by kernel_rfl) (by kernel_rfl) (by kernel_rfl) (fun _ _ _ h => h) hH rfl ?yrau2 ?rrau2
          case yrau2 => intro W hSw; go_simp; try with_reducible rfl
          try simp only [Act.put, List.setIfInBounds_toArray, List.set_cons_zero, List.set_cons_succ]
          refine twoH 2 7 rfl rfl (by kernel_rfl) rfl rfl (fun K hK => ?_) (fun K hK => ?_)
          · skip
            go_simp
            go_at_call 30
            refine (drawVote R p' _ (by omega) HV.out.rd (by have := HV.out.sr.lt; have := HV.out.hR; omega)).mono ?_
            rintro e wv ⟨v, p2, rfl, hv1, hv2, hr', hp2, hg'⟩
            have HV := Lib.hid (HV.out.picked hg' hr')
            have hsv := hg'.size
            clear hr' hg' hv1 hv2
            refine hK.out _ _ ⟨HV.out.sx.cell 0 rfl, HV.out.sx.cell 1 rfl⟩ (fun hH => ?_)
            clear hK K
            try simp only [Act.put, List.setIfInBounds_toArray, List.set_cons_zero, List.set_cons_succ]
            refine twoH 3 7 rfl rfl (by kernel_rfl) rfl rfl (fun K hK => ?_) (fun K hK => ?_)
            · skip
              go_simp
              go_at_call 15
              obtain ⟨fq, hfq⟩ := HV.out.own.vts
              refine (spec_VoterSign q g _ fq v.r v.a v.d _ (by omega) hfq).mono ?_
              rintro e wy ⟨u', rfl, hor, hb'⟩
              have hgl9 := Nat.le_trans (sg_short q g ⟨v.r, v.a, v.d⟩) (show g.length + 1 ≤ 41 by omega)
              generalize sgG q g ⟨v.r, v.a, v.d⟩ = g' at *
              generalize sgF q g ⟨v.r, v.a, v.d⟩ = f' at *
              generalize sgB q g ⟨v.r, v.a, v.d⟩ = b' at *
              obtain ⟨ay, cy, rfl⟩ := hor.ownV.slice
              have hsy := hb'.size
              have hsw := HV.out.sr.lt
              have hsX := HV.out.sx.lt
              have Hnu := Lib.hid (show ∀ b, (Value.slice ay g'.length cy).ownBlock = some b → b ≠ X ∧ b ≠ w.heap.size from fun b e => by have h1 := (hor.lt b e).1; omega)
              have HO := Lib.hid (hor.ownV.mono (B' := w.heap.size) (by omega))
              have HV := Lib.hid (HV.out.below hb')
              clear hor hb' hfq
              refine hK.out _ _ ⟨HV.out.sx.cell 0 rfl, HV.out.sx.cell 1 rfl⟩ (fun hH => ?_)
              clear hK K
              try simp only [Act.put, List.setIfInBounds_toArray, List.set_cons_zero, List.set_cons_succ]
              refine takeH 4 (v := ?vrbu1) rfl (by kernel_rfl) (by kernel_rfl) (by kernel_rfl) (fun _ _ _ h => h) hH rfl ?yrbu1 ?rrbu1
              case yrbu1 => intro W hSw; go_simp; try with_reducible rfl
              try simp only [Act.put, List.setIfInBounds_toArray, List.set_cons_zero, List.set_cons_succ]
              refine takeH 5 (v := ?vrbu2) rfl (by kernel_rfl) (by kernel_rfl) (by kernel_rfl) (fun _ _ _ h => h) hH rfl ?yrbu2 ?rrbu2
              case yrbu2 => intro W hSw; go_simp; try with_reducible rfl
              try simp only [Act.put, List.setIfInBounds_toArray, List.set_cons_zero, List.set_cons_succ]
              refine takeH 6 (v := ?vrbu3) rfl (by kernel_rfl) (by kernel_rfl) (by kernel_rfl) (fun _ _ _ h => h) hH rfl ?yrbu3 ?rrbu3
              case yrbu3 => intro W hSw; go_simp; try with_reducible rfl
              try simp only [Act.put, List.setIfInBounds_toArray, List.set_cons_zero, List.set_cons_succ]
              refine callH 7 rfl (by kernel_rfl) rfl (fun K hK => ?_)
              go_simp
              have hal : Below wy.heap.size wy (wy.alloc (.cells #[.int .i64 0, .slice none 0 0] 25)) := (Below.refl _ _).alloc (Nat.le_refl _) _
              have hsw9 := HV.out.sr.lt
              have hsX9 := HV.out.sx.lt
              have SY := Lib.hid (Str.new wy 25 #[.int .i64 0, .slice none 0 0])
              have HgY := Lib.hid (show ∀ b, (Value.slice au g.length cu).ownBlock = some b → b ≠ wy.heap.size from fun b e => by have := (HV.out.own.lt b e).2; omega)
              have HnY := Lib.hid (show ∀ b, (Value.slice ay g'.length cy).ownBlock = some b → b ≠ wy.heap.size from fun b e => by have := (HO.out.lt b e).2; omega)
              have HO := Lib.hid (HO.out.below hal)
              have HV := Lib.hid (HV.out.below hal)
              clear hal
              refine hK.out _ _ ⟨HV.out.sx.cell 0 rfl, HV.out.sx.cell 1 rfl⟩ (fun hH => ?_)
              clear hK K
              try simp only [Act.put, List.setIfInBounds_toArray, List.set_cons_zero, List.set_cons_succ]
              have hYX : wy.heap.size ≠ X := by omega
              have hYw : wy.heap.size ≠ w.heap.size := by omega
              have hYl : w.heap.size ≤ wy.heap.size := by omega
              generalize (wy.alloc (.cells #[.int .i64 0, .slice none 0 0] 25)) = wa at *
              generalize wy.heap.size = Y at *
              have y0 := SY.out.frozen 0
              have y1 := SY.out.frozen 1
              have d0 := SY.out.cell 0 (v := .int .i64 0) rfl
              have d1 := SY.out.cell 1 (v := .slice none 0 0) rfl
              refine callH 8 rfl (by kernel_rfl) rfl (fun K hK => ?_)
              go_simp
              clear y0 y1 d0 d1
              have HV := Lib.hid (HV.out.beside hYX hYw HgY.out hYl (.int .i64 f') (Value.slice ay g'.length cy))
              have SY := Lib.hid ((SY.out.set 0 (.int .i64 f')).set 1 (Value.slice ay g'.length cy))
              have HO := Lib.hid ((HO.out.setc HnY.out 0 (.int .i64 f')).setc HnY.out 1 (Value.slice ay g'.length cy))
              refine hK.out _ _ ⟨HV.out.sx.cell 0 rfl, HV.out.sx.cell 1 rfl⟩ (fun hH => ?_)
              clear hK K
              try simp only [Act.put, List.setIfInBounds_toArray, List.set_cons_zero, List.set_cons_succ]
              generalize ((wa.setCell ⟨Y, 0, none⟩ (.int .i64 f')).setCell ⟨Y, 1, none⟩ (Value.slice ay g'.length cy)) = wz at *
              refine takeH 9 (v := ?vrbzu1) rfl (by kernel_rfl) (by kernel_rfl) (by kernel_rfl) (fun _ _ _ h => h) hH rfl ?yrbzu1 ?rrbzu1
              case yrbzu1 => intro W hSw; go_simp; try with_reducible rfl
              try simp only [Act.put, List.setIfInBounds_toArray, List.set_cons_zero, List.set_cons_succ]
              refine wpAnyH_done (by kernel_rfl) ?_ _
              try simp only [Act.put]
              generalize (Value.slice ay g'.length cy) = u' at *
              refine ⟨Y, v, f', u', b', g', p2, ?_, hp2, HV.out, SY.out, HO.out, Hnu.out, hgl9⟩
              rfl
            · skip
              go_simp
              have hal : Below wv.heap.size wv (wv.alloc (.cells #[.int .i64 0, .slice none 0 0] 25)) := (Below.refl _ _).alloc (Nat.le_refl _) _
              have hsw9 := HV.out.sr.lt
              have hsX9 := HV.out.sx.lt
              have SY := Lib.hid (Str.new wv 25 #[.int .i64 0, .slice none 0 0])
              have HgY := Lib.hid (show ∀ b, (Value.slice au g.length cu).ownBlock = some b → b ≠ wv.heap.size from fun b e => by have := (HV.out.own.lt b e).2; omega)
              have HV := Lib.hid (HV.out.below hal)
              clear hal
              refine hK.out _ _ ⟨HV.out.sx.cell 0 rfl, HV.out.sx.cell 1 rfl⟩ (fun hH => ?_)
              clear hK K
              try simp only [Act.put, List.setIfInBounds_toArray, List.set_cons_zero, List.set_cons_succ]
              have hYX : wv.heap.size ≠ X := by omega
              have hYw : wv.heap.size ≠ w.heap.size := by omega
              have hYl : w.heap.size ≤ wv.heap.size := by omega
              generalize (wv.alloc (.cells #[.int .i64 0, .slice none 0 0] 25)) = wa at *
              generalize wv.heap.size = Y at *
              refine callH 3 rfl (by kernel_rfl) rfl (fun K hK => ?_)
              go_simp
              go_at_call 15
              obtain ⟨fq, hfq⟩ := HV.out.own.vts
              refine (spec_VoterSign q g _ fq v.r v.a v.d _ (by omega) hfq).mono ?_
              rintro e wy ⟨u', rfl, hor, hb'⟩
              have hgl9 := Nat.le_trans (sg_short q g ⟨v.r, v.a, v.d⟩) (show g.length + 1 ≤ 41 by omega)
              generalize sgG q g ⟨v.r, v.a, v.d⟩ = g' at *
              generalize sgF q g ⟨v.r, v.a, v.d⟩ = f' at *
              generalize sgB q g ⟨v.r, v.a, v.d⟩ = b' at *
              obtain ⟨ay, cy, rfl⟩ := hor.ownV.slice
              have hsy := hb'.size
              have hsw := HV.out.sr.lt
              have hsX := HV.out.sx.lt
              have Hnu := Lib.hid (show ∀ b, (Value.slice ay g'.length cy).ownBlock = some b → b ≠ X ∧ b ≠ w.heap.size from fun b e => by have h1 := (hor.lt b e).1; omega)
              have HnY := Lib.hid (show ∀ b, (Value.slice ay g'.length cy).ownBlock = some b → b ≠ Y from fun b e => by have h1 := (hor.lt b e).1; have := SY.out.lt; omega)
              have SY := Lib.hid (show Str wy Y 25 #[.int .i64 0, .slice none 0 0] from (hb'.block _ SY.out.lt).trans SY.out)
              have HO := Lib.hid (hor.ownV.mono (B' := w.heap.size) (by omega))
              have HV := Lib.hid (HV.out.below hb')
              clear hor hb' hfq
              refine hK.out _ _ ⟨HV.out.sx.cell 0 rfl, HV.out.sx.cell 1 rfl⟩ (fun hH => ?_)
              clear hK K
              try simp only [Act.put, List.setIfInBounds_toArray, List.set_cons_zero, List.set_cons_succ]
              refine takeH 4 (v := ?vrcu1) rfl (by kernel_rfl) (by kernel_rfl) (by kernel_rfl) (fun _ _ _ h => h) hH rfl ?yrcu1 ?rrcu1
              case yrcu1 => intro W hSw; go_simp; try with_reducible rfl
              try simp only [Act.put, List.setIfInBounds_toArray, List.set_cons_zero, List.set_cons_succ]
              refine takeH 5 (v := ?vrcu2) rfl (by kernel_rfl) (by kernel_rfl) (by kernel_rfl) (fun _ _ _ h => h) hH rfl ?yrcu2 ?rrcu2
              case yrcu2 => intro W hSw; go_simp; try with_reducible rfl
              try simp only [Act.put, List.setIfInBounds_toArray, List.set_cons_zero, List.set_cons_succ]
              refine takeH 6 (v := ?vrcu3) rfl (by kernel_rfl) (by kernel_rfl) (by kernel_rfl) (fun _ _ _ h => h) hH rfl ?yrcu3 ?rrcu3
              case yrcu3 => intro W hSw; go_simp; try with_reducible rfl
              try simp only [Act.put, List.setIfInBounds_toArray, List.set_cons_zero, List.set_cons_succ]
              have y0 := SY.out.frozen 0
              have y1 := SY.out.frozen 1
              have d0 := SY.out.cell 0 (v := .int .i64 0) rfl
              have d1 := SY.out.cell 1 (v := .slice none 0 0) rfl
              refine callH 8 rfl (by kernel_rfl) rfl (fun K hK => ?_)
              go_simp
              clear y0 y1 d0 d1
              have HV := Lib.hid (HV.out.beside hYX hYw HgY.out hYl (.int .i64 f') (Value.slice ay g'.length cy))
              have SY := Lib.hid ((SY.out.set 0 (.int .i64 f')).set 1 (Value.slice ay g'.length cy))
              have HO := Lib.hid ((HO.out.setc HnY.out 0 (.int .i64 f')).setc HnY.out 1 (Value.slice ay g'.length cy))
              refine hK.out _ _ ⟨HV.out.sx.cell 0 rfl, HV.out.sx.cell 1 rfl⟩ (fun hH => ?_)
              clear hK K
              try simp only [Act.put, List.setIfInBounds_toArray, List.set_cons_zero, List.set_cons_succ]
              generalize ((wy.setCell ⟨Y, 0, none⟩ (.int .i64 f')).setCell ⟨Y, 1, none⟩ (Value.slice ay g'.length cy)) = wz at *
              refine takeH 9 (v := ?vrczu1) rfl (by kernel_rfl) (by kernel_rfl) (by kernel_rfl) (fun _ _ _ h => h) hH rfl ?yrczu1 ?rrczu1
              case yrczu1 => intro W hSw; go_simp; try with_reducible rfl
              try simp only [Act.put, List.setIfInBounds_toArray, List.set_cons_zero, List.set_cons_succ]
              refine wpAnyH_done (by kernel_rfl) ?_ _
              try simp only [Act.put]
              generalize (Value.slice ay g'.length cy) = u' at *
              refine ⟨Y, v, f', u', b', g', p2, ?_, hp2, HV.out, SY.out, HO.out, Hnu.out, hgl9⟩
              rfl
          · skip
            go_simp
            have hal : Below wd.heap.size wd (wd.alloc (.cells #[.int .i64 0, .slice none 0 0] 25)) := (Below.refl _ _).alloc (Nat.le_refl _) _
            have hsw9 := HV.out.sr.lt
            have hsX9 := HV.out.sx.lt
            have SY := Lib.hid (Str.new wd 25 #[.int .i64 0, .slice none 0 0])
            have HgY := Lib.hid (show ∀ b, (Value.slice au g.length cu).ownBlock = some b → b ≠ wd.heap.size from fun b e => by have := (HV.out.own.lt b e).2; omega)
            have HV := Lib.hid (HV.out.below hal)
            clear hal
            refine hK.out _ _ ⟨HV.out.sx.cell 0 rfl, HV.out.sx.cell 1 rfl⟩ (fun hH => ?_)
            clear hK K
            try simp only [Act.put, List.setIfInBounds_toArray, List.set_cons_zero, List.set_cons_succ]
            have hYX : wd.heap.size ≠ X := by omega
            have hYw : wd.heap.size ≠ w.heap.size := by omega
            have hYl : w.heap.size ≤ wd.heap.size := by omega
            generalize (wd.alloc (.cells #[.int .i64 0, .slice none 0 0] 25)) = wa at *
            generalize wd.heap.size = Y at *
            refine callH 2 rfl (by kernel_rfl) rfl (fun K hK => ?_)
            go_simp
            go_at_call 30
            refine (drawVote R p' _ (by omega) HV.out.rd (by have := HV.out.sr.lt; have := HV.out.hR; omega)).mono ?_
            rintro e wv ⟨v, p2, rfl, hv1, hv2, hr', hp2, hg'⟩
            have HV := Lib.hid (HV.out.picked hg' hr')
            have hsv := hg'.size
            have SY := Lib.hid (SY.out.kept hg' (by have := HV.out.hR; simp; omega))
            clear hr' hg' hv1 hv2
            refine hK.out _ _ ⟨HV.out.sx.cell 0 rfl, HV.out.sx.cell 1 rfl⟩ (fun hH => ?_)
            clear hK K
            try simp only [Act.put, List.setIfInBounds_toArray, List.set_cons_zero, List.set_cons_succ]
            refine callH 3 rfl (by kernel_rfl) rfl (fun K hK => ?_)
            go_simp
            go_at_call 15
            obtain ⟨fq, hfq⟩ := HV.out.own.vts
            refine (spec_VoterSign q g _ fq v.r v.a v.d _ (by omega) hfq).mono ?_
            rintro e wy ⟨u', rfl, hor, hb'⟩
            have hgl9 := Nat.le_trans (sg_short q g ⟨v.r, v.a, v.d⟩) (show g.length + 1 ≤ 41 by omega)
            generalize sgG q g ⟨v.r, v.a, v.d⟩ = g' at *
            generalize sgF q g ⟨v.r, v.a, v.d⟩ = f' at *
            generalize sgB q g ⟨v.r, v.a, v.d⟩ = b' at *
            obtain ⟨ay, cy, rfl⟩ := hor.ownV.slice
            have hsy := hb'.size
            have hsw := HV.out.sr.lt
            have hsX := HV.out.sx.lt
            have Hnu := Lib.hid (show ∀ b, (Value.slice ay g'.length cy).ownBlock = some b → b ≠ X ∧ b ≠ w.heap.size from fun b e => by have h1 := (hor.lt b e).1; omega)
            have HnY := Lib.hid (show ∀ b, (Value.slice ay g'.length cy).ownBlock = some b → b ≠ Y from fun b e => by have h1 := (hor.lt b e).1; have := SY.out.lt; omega)
            have SY := Lib.hid (show Str wy Y 25 #[.int .i64 0, .slice none 0 0] from (hb'.block _ SY.out.lt).trans SY.out)
            have HO := Lib.hid (hor.ownV.mono (B' := w.heap.size) (by omega))
            have HV := Lib.hid (HV.out.below hb')
            clear hor hb' hfq
            refine hK.out _ _ ⟨HV.out.sx.cell 0 rfl, HV.out.sx.cell 1 rfl⟩ (fun hH => ?_)
            clear hK K
            try simp only [Act.put, List.setIfInBounds_toArray, List.set_cons_zero, List.set_cons_succ]
            refine takeH 4 (v := ?vrdu1) rfl (by kernel_rfl) (by kernel_rfl) (by kernel_rfl) (fun _ _ _ h => h) hH rfl ?yrdu1 ?rrdu1
            case yrdu1 => intro W hSw; go_simp; try with_reducible rfl
            try simp only [Act.put, List.setIfInBounds_toArray, List.set_cons_zero, List.set_cons_succ]
            refine takeH 5 (v := ?vrdu2) rfl (by kernel_rfl) (by kernel_rfl) (by kernel_rfl) (fun _ _ _ h => h) hH rfl ?yrdu2 ?rrdu2
            case yrdu2 => intro W hSw; go_simp; try with_reducible rfl
            try simp only [Act.put, List.setIfInBounds_toArray, List.set_cons_zero, List.set_cons_succ]
            refine takeH 6 (v := ?vrdu3) rfl (by kernel_rfl) (by kernel_rfl) (by kernel_rfl) (fun _ _ _ h => h) hH rfl ?yrdu3 ?rrdu3
            case yrdu3 => intro W hSw; go_simp; try with_reducible rfl
            try simp only [Act.put, List.setIfInBounds_toArray, List.set_cons_zero, List.set_cons_succ]
            have y0 := SY.out.frozen 0
            have y1 := SY.out.frozen 1
            have d0 := SY.out.cell 0 (v := .int .i64 0) rfl
            have d1 := SY.out.cell 1 (v := .slice none 0 0) rfl
            refine callH 8 rfl (by kernel_rfl) rfl (fun K hK => ?_)
            go_simp
            clear y0 y1 d0 d1
            have HV := Lib.hid (HV.out.beside hYX hYw HgY.out hYl (.int .i64 f') (Value.slice ay g'.length cy))
            have SY := Lib.hid ((SY.out.set 0 (.int .i64 f')).set 1 (Value.slice ay g'.length cy))
            have HO := Lib.hid ((HO.out.setc HnY.out 0 (.int .i64 f')).setc HnY.out 1 (Value.slice ay g'.length cy))
            refine hK.out _ _ ⟨HV.out.sx.cell 0 rfl, HV.out.sx.cell 1 rfl⟩ (fun hH => ?_)
            clear hK K
            try simp only [Act.put, List.setIfInBounds_toArray, List.set_cons_zero, List.set_cons_succ]
            generalize ((wy.setCell ⟨Y, 0, none⟩ (.int .i64 f')).setCell ⟨Y, 1, none⟩ (Value.slice ay g'.length cy)) = wz at *
            refine takeH 9 (v := ?vrdzu1) rfl (by kernel_rfl) (by kernel_rfl) (by kernel_rfl) (fun _ _ _ h => h) hH rfl ?yrdzu1 ?rrdzu1
            case yrdzu1 => intro W hSw; go_simp; try with_reducible rfl
            try simp only [Act.put, List.setIfInBounds_toArray, List.set_cons_zero, List.set_cons_succ]
            refine wpAnyH_done (by kernel_rfl) ?_ _
            try simp only [Act.put]
            generalize (Value.slice ay g'.length cy) = u' at *
            refine ⟨Y, v, f', u', b', g', p2, ?_, hp2, HV.out, SY.out, HO.out, Hnu.out, hgl9⟩
            rfl
        case hq =>
          intro e a w1 hx
          unfold R12 at hx
          cases e <;> first | exact hx.elim | skip
          obtain ⟨Y, v, f', u', b', g', p2, rfl, hp2, hv, sy, ho', hnu, hg41⟩ := hx
          clear HV
          obtain ⟨ay, cy, rfl⟩ := ho'.slice
          have hsz1 := hv.sr.lt
          have HV := Lib.hid hv; have SY := Lib.hid sy; have HO := Lib.hid ho'; have Hnu := Lib.hid hnu
          clear hv sy ho' hnu
          have y0 := SY.out.cell 0 (v := .int .i64 f') rfl
          have y1 := SY.out.cell 1 (v := .slice ay g'.length cy) rfl
          skip
          obtain ⟨fq, hfq⟩ := HO.out.vts
          have HVV := Lib.hid (fun h9 => spec_VoterValid f' g' _ fq w1 h9 hfq)
          have Hbig := Lib.hid (show g'.length ≤ 1099511627776 by omega)
          clear hfq
          go_wp2_with fail
          refine (HVV.out Hbig.out).mono ?_
          rintro e w2 ⟨rfl, hb2⟩
          have HV := Lib.hid (HV.out.below hb2)
          have SY := Lib.hid (show Str w2 Y 25 #[.int .i64 f', .slice ay g'.length cy] from (hb2.block _ SY.out.lt).trans SY.out)
          have HO := Lib.hid (HO.out.below hb2)
          clear hb2 HVV y0 y1
          cases hvb : voterB f' g' with
          | false =>
            have c0 := HV.out.sx.cell 0 (v := .int .i64 q) rfl
            have c1 := HV.out.sx.cell 1 (v := .slice au g.length cu) rfl
            have y0 := SY.out.cell 0 (v := .int .i64 f') rfl
            have y1 := SY.out.cell 1 (v := .slice ay g'.length cy) rfl
            go_wp2
            go_roundw
            case rel => exact ⟨k + 1, p2, _, g, by omega, by go_num, by omega, hg40, HV.out⟩
            case measure => simp [intOf]; omega
          | true =>
          obtain ⟨_, _, hg40'⟩ := voter_len hvb
          have Hvb := Lib.hid hvb; clear hvb
          by_cases hff : f' = q
          case neg =>
            have hff' : (f' == q) = false := by rw [beq_eq_false_iff_ne]; exact hff
            have c0 := HV.out.sx.cell 0 (v := .int .i64 q) rfl
            have c1 := HV.out.sx.cell 1 (v := .slice au g.length cu) rfl
            have y0 := SY.out.cell 0 (v := .int .i64 f') rfl
            have y1 := SY.out.cell 1 (v := .slice ay g'.length cy) rfl
            go_wp2
            go_roundw
            case rel => exact ⟨k + 1, p2, _, g, by omega, by go_num, by omega, hg40, HV.out⟩
            case measure => simp [intOf]; omega
          have hff' : (f' == q) = true := by rw [beq_iff_eq]; exact hff
          have c0 := HV.out.sx.cell 0 (v := .int .i64 q) rfl
          have c1 := HV.out.sx.cell 1 (v := .slice au g.length cu) rfl
          have z0 := HV.out.sx.frozen 0
          have z1 := HV.out.sx.frozen 1
          have y0 := SY.out.cell 0 (v := .int .i64 f') rfl
          have y1 := SY.out.cell 1 (v := .slice ay g'.length cy) rfl
          have HM := Lib.hid (show Vst R w X q p2 ((w2.setCell ⟨X, 0, none⟩ (.int .i64 f')).setCell ⟨X, 1, none⟩ (.slice ay g'.length cy)) (.slice ay g'.length cy) g' by have h9 := HV.out.move (f2 := f') HO.out Hnu.out; rw [hff] at h9 ⊢; exact h9)
          have Hff := Lib.hid hff; clear hff
          go_wp2
          go_roundw
          case rel => exact ⟨k + 1, p2, _, g', by omega, by go_num, by omega, hg40', HM.out⟩
          case measure => simp [intOf]; omega
      · skip
        go_wp2_with fail
        refine (pick_any R 16 p' _ (by omega) HV.out.rd (by have := HV.out.sr.lt; have := HV.out.hR; omega)).mono ?_
        rintro e w5 ⟨s, rfl, hs0, hs1, hr', hg'⟩
        have HV := Lib.hid (HV.out.picked hg' hr')
        clear hr' hg'
        by_cases s0 : s = 0
        case pos =>
          subst s0
          go_wp2_with fail
          refine (pick_any R 35 (p' + 1) _ (by omega) HV.out.rd (by have := HV.out.sr.lt; omega)).mono ?_
          rintro e w6 ⟨z, rfl, hz0, hz1, hr', hg'⟩
          have hsw6 := hg'.size
          have HV := Lib.hid (HV.out.picked hg' hr')
          clear hr' hg'
          have c0 := HV.out.sx.cell 0 (v := .int .i64 q) rfl
          have c1 := HV.out.sx.cell 1 (v := .slice au g.length cu) rfl
          have z0 := HV.out.sx.frozen 0
          have HV0 := HV
          have HV := Lib.hid (HV.out.floor (z - 1))
          have x0 := HV.out.sx.cell 0 (v := .int .i64 (z - 1)) rfl
          have x1 := HV.out.sx.cell 1 (v := .slice au g.length cu) rfl
          have r0 := HV.out.sr.frozen 0
          have r1 := HV.out.sr.frozen 1
          have v0 := HV.out.sr.cell 0 (v := .int .i64 0) rfl
          have v1 := HV.out.sr.cell 1 (v := .slice none 0 0) rfl
          have sF := (HV.out.sr.set 0 (.int .i64 (z - 1))).set 1 (Value.slice au g.length cu)
          have e0 := sF.cell 0 (v := .int .i64 (z - 1)) rfl
          have e1 := sF.cell 1 (v := Value.slice au g.length cu) rfl
          clear sF
          go_wp2
          refine bodyPost_ret (v := .agg #[.int .i64 (z - 1), Value.slice au g.length cu]) (by simp [results, Try.f29, go_sem, e0, e1]) rfl ?_
          exact HV.out.fin rfl (by omega) (by omega) (by have := Hp9.out; omega)
        have s0' : (s == 0) = false := by rw [beq_eq_false_iff_ne]; exact s0
        by_cases s1 : s = 1
        case pos =>
          subst s1
          have c0 := HV.out.sx.cell 0 (v := .int .i64 q) rfl
          have c1 := HV.out.sx.cell 1 (v := .slice au g.length cu) rfl
          go_wp2_with fail
          refine wp_region_L 7 (fun w' => w'.cell? ⟨X, 0, none⟩ = some (.int .i64 q) ∧ w'.cell? ⟨X, 1, none⟩ = some (.slice au g.length cu)) (by kernel_rfl) ⟨c0, c1⟩ (fun hH => ?_)
          have HV := Lib.hid (HV.out.below ((Below.refl _ w5).drew))
          clear c0 c1
          generalize w5.drew = wd at *
          refine takeL 0 (v := ?vrsu1) rfl (by kernel_rfl) (by kernel_rfl) (by kernel_rfl) (by kernel_rfl) (by kernel_rfl) (fun _ _ _ h => h) hH rfl ?yrsu1 ?rrsu1
          case yrsu1 => intro W hSw; go_simp; try with_reducible rfl
          try simp only [Act.put, List.setIfInBounds_toArray, List.set_cons_zero, List.set_cons_succ]
          refine takeL 1 (v := ?vrsu2) rfl (by kernel_rfl) (by kernel_rfl) (by kernel_rfl) (by kernel_rfl) (by kernel_rfl) (fun _ _ _ h => h) hH rfl ?yrsu2 ?rrsu2
          case yrsu2 => intro W hSw; go_simp; try with_reducible rfl
          try simp only [Act.put, List.setIfInBounds_toArray, List.set_cons_zero, List.set_cons_succ]
          refine takeL 2 (v := ?vrsu3) rfl (by kernel_rfl) (by kernel_rfl) (by kernel_rfl) (by kernel_rfl) (by kernel_rfl) (fun _ _ _ h => h) hH rfl ?yrsu3 ?rrsu3
          case yrsu3 => intro W hSw; go_simp; try with_reducible rfl
          try simp only [Act.put, List.setIfInBounds_toArray, List.set_cons_zero, List.set_cons_succ]
          refine callL 3 rfl (by kernel_rfl) rfl (fun K hK => ?_)
          go_simp
          go_at_call 30
          refine (drawVote R (p' + 1) _ (by omega) HV.out.rd (by have := HV.out.sr.lt; have := HV.out.hR; omega)).mono ?_
          rintro e wv ⟨v, p2, rfl, hv1, hv2, hr', hp2, hg'⟩
          have HV := Lib.hid (HV.out.picked hg' hr')
          clear hr' hg' hv1 hv2
          refine hK.out _ _ ⟨HV.out.sx.cell 0 rfl, HV.out.sx.cell 1 rfl⟩ (fun hH => ?_)
          clear hK K
          try simp only [Act.put, List.setIfInBounds_toArray, List.set_cons_zero, List.set_cons_succ]
          refine callL 4 rfl (by kernel_rfl) rfl (fun K hK => ?_)
          go_simp
          have hal : Below wv.heap.size wv (wv.alloc (.cells #[.int .i64 v.r, .int .i64 v.a, .int .i64 v.d] 27)) := (Below.refl _ _).alloc (Nat.le_refl _) _
          have HV := Lib.hid (HV.out.below hal)
          have HS := Lib.hid (srcV_one (Str.new wv 27 #[.int .i64 v.r, .int .i64 v.a, .int .i64 v.d]))
          clear hal
          refine hK.out _ _ ⟨HV.out.sx.cell 0 rfl, HV.out.sx.cell 1 rfl⟩ (fun hH => ?_)
          clear hK K
          try simp only [Act.put, List.setIfInBounds_toArray, List.set_cons_zero, List.set_cons_succ]
          generalize hwa : (wv.alloc (.cells #[.int .i64 v.r, .int .i64 v.a, .int .i64 v.d] 27)) = wa at *
          have Hwa := Lib.hid hwa; clear hwa
          refine callL 5 rfl (by kernel_rfl) rfl (fun K hK => ?_)
          refine op_app_V (.tmp 74) (.tmp 77) rfl w.heap.size _ g [(⟨v.r, v.a, v.d⟩ : Vt)] (some ⟨wv.heap.size, 0, none⟩) 1 rfl HV.out.own rfl (.inr ⟨_, rfl, HS.out⟩) (by simp; omega) (by have := HV.out.sr.lt; omega) ?_
          intro u9 w9 ho9 hg9 hat9
          generalize hgg : g ++ [(⟨v.r, v.a, v.d⟩ : Vt)] = g9 at ho9
          have hl9 : g9.length ≤ 41 := by rw [← hgg]; simp; omega
          clear hgg
          have hg9 : wa.grownBy w9 (Value.slice au g.length cu).ownBlock := hg9
          have hat9 : ∀ b, u9.ownBlock = some b → (Value.slice au g.length cu).ownBlock = some b ∨ wa.heap.size ≤ b := hat9
          obtain ⟨hput, hst⟩ := HV.out.put ho9 hg9 hat9
          have Hst := Lib.hid hst; have Hput := Lib.hid hput; clear hput hst hg9 hat9
          obtain ⟨a9, c9, rfl⟩ := ho9.slice
          have Ho9 := Lib.hid ho9; clear ho9
          refine hK.out _ _ ⟨Hst.out.cell 0 rfl, Hst.out.cell 1 rfl⟩ (fun hH => ?_)
          clear hK K
          try simp only [Act.put, List.setIfInBounds_toArray, List.set_cons_zero, List.set_cons_succ]
          refine takeL 6 (v := ?vrsu4) rfl (by kernel_rfl) (by kernel_rfl) (by kernel_rfl) (by kernel_rfl) (by kernel_rfl) (fun _ _ _ h => h) hH rfl ?yrsu4 ?rrsu4
          case yrsu4 => intro W hSw; go_simp; try with_reducible rfl
          try simp only [Act.put, List.setIfInBounds_toArray, List.set_cons_zero, List.set_cons_succ]
          have k0 := Hst.out.frozen 1
          have k1 := Hst.out.cell 1 (v := .slice au g.length cu) rfl
          refine lastL rfl (by kernel_rfl) (by kernel_rfl) (by kernel_rfl) rfl (fun K hK => ?_)
          go_simp
          refine hK.out _ _ ?_
          clear hK K
          try simp only [Act.put]
          clear k0 k1
          have HV := Hput
          generalize (w9.setCell ⟨X, 1, none⟩ (Value.slice a9 g9.length c9)) = wb at *
          have x0 := HV.out.sx.cell 0 (v := .int .i64 q) rfl
          have x1 := HV.out.sx.cell 1 (v := .slice a9 g9.length c9) rfl
          have r0 := HV.out.sr.frozen 0
          have r1 := HV.out.sr.frozen 1
          have v0 := HV.out.sr.cell 0 (v := .int .i64 0) rfl
          have v1 := HV.out.sr.cell 1 (v := .slice none 0 0) rfl
          have sF := (HV.out.sr.set 0 (.int .i64 (q))).set 1 (Value.slice a9 g9.length c9)
          have e0 := sF.cell 0 (v := .int .i64 (q)) rfl
          have e1 := sF.cell 1 (v := Value.slice a9 g9.length c9) rfl
          clear sF
          go_wp2
          refine bodyPost_ret (v := .agg #[.int .i64 (q), Value.slice a9 g9.length c9]) (by simp [results, Try.f29, go_sem, e0, e1]) rfl ?_
          exact HV.out.fin rfl hl9 (by omega) (by have := Hp9.out; omega)
        have s1' : (s == 1) = false := by rw [beq_eq_false_iff_ne]; exact s1
        have x0 := HV.out.sx.cell 0 (v := .int .i64 q) rfl
        have x1 := HV.out.sx.cell 1 (v := .slice au g.length cu) rfl
        have r0 := HV.out.sr.frozen 0
        have r1 := HV.out.sr.frozen 1
        have v0 := HV.out.sr.cell 0 (v := .int .i64 0) rfl
        have v1 := HV.out.sr.cell 1 (v := .slice none 0 0) rfl
        have sF := (HV.out.sr.set 0 (.int .i64 (q))).set 1 (Value.slice au g.length cu)
        have e0 := sF.cell 0 (v := .int .i64 (q)) rfl
        have e1 := sF.cell 1 (v := Value.slice au g.length cu) rfl
        clear sF
        go_wp2
        refine bodyPost_ret (v := .agg #[.int .i64 (q), Value.slice au g.length cu]) (by simp [results, Try.f29, go_sem, e0, e1]) rfl ?_
        exact HV.out.fin rfl (by omega) (by omega) (by have := Hp9.out; omega)
  subst ht
  go_wp2
  go_loopw [5] (fun i wr => ∃ (k : Nat) (u : Value) (g : List Vt), k ≤ 40 ∧ i = .int .i64 k ∧ g.length = k ∧ Vst R w X q (p + 1 + 1 + 1 + 1) wr u g) (fun i _ => 40 - (intOf i).toNat)
  case atStart => exact ⟨0, _, [], by omega, rfl, rfl, HV.out⟩
  case round =>
    obtain ⟨k, u, g, hk, rfl, hgk, hv⟩ := hrel
    clear HV
    obtain ⟨au, cu, rfl⟩ := hv.own.slice
    have Hgk := Lib.hid hgk
    have hg40 : g.length ≤ 40 := by omega
    clear hgk
    have HV := Lib.hid hv; clear hv
    by_cases hlt : (k : Int) < 40
    · skip
      have c0 := HV.out.sx.cell 0 (v := .int .i64 q) rfl
      have c1 := HV.out.sx.cell 1 (v := .slice au g.length cu) rfl
      have hd7 : (k : Int) / 7 ≤ 5 ∧ 0 ≤ (k : Int) / 7 := by omega
      obtain ⟨hd71, hd72⟩ := hd7
      have hal : Below wr.heap.size wr (wr.alloc (.cells #[.int .i64 (q + (k : Int) / 7), .int .i64 ((k : Int) % 7), .int .i64 (k : Int)] 27)) := (Below.refl _ _).alloc (Nat.le_refl _) _
      have HV := Lib.hid (HV.out.below hal)
      have HS := Lib.hid (srcV_one (Str.new wr 27 #[.int .i64 (q + (k : Int) / 7), .int .i64 ((k : Int) % 7), .int .i64 (k : Int)]))
      clear hal
      go_wp2_with (at_builtin; (refine wpList_app_V rfl (.tmp 26) (.tmp 36) rfl w.heap.size _ g [(⟨q + (k : Int) / 7, (k : Int) % 7, (k : Int)⟩ : Vt)] (some ⟨wr.heap.size, 0, none⟩) 1 rfl HV.out.own rfl (.inr ⟨_, rfl, HS.out⟩) (by simp; omega) (by have := HV.out.sr.lt; omega) ?_); (intro u9 w9 ho9 hg9 hat9); (generalize hgg : g ++ [(⟨q + (k : Int) / 7, (k : Int) % 7, (k : Int)⟩ : Vt)] = g9 at ho9); (have Hgg := Lib.hid hgg); (clear hgg); (obtain ⟨a9, c9, rfl⟩ := ho9.slice); (obtain ⟨Hput, k0, k1⟩ := HV.out.put2 ho9 hg9 hat9))
      go_roundw
      case rel => exact ⟨k + 1, _, g9, by omega, by go_num, by rw [← Hgg.out, List.length_append, Hgk.out]; rfl, Hput.out⟩
      case measure => simp [intOf]; omega
    · skip
      go_wp2_with fail
      refine (pick_any R 2 (p + 1 + 1 + 1 + 1) _ (by omega) HV.out.rd (by have := HV.out.sr.lt; have := HV.out.hR; omega)).mono ?_
      rintro e w5 ⟨n, rfl, hn0, hn1, hr', hg'⟩
      have HV := Lib.hid (HV.out.picked hg' hr')
      clear hr' hg'
      have hn1 : n < 14 ∨ n = 0 := by omega
      obtain ⟨p9, hpp, hp9⟩ : ∃ p9, p + 1 + 1 + 1 + 1 + 1 = p9 ∧ p9 ≤ p + 10 := ⟨_, rfl, by omega⟩
      rw [hpp] at HV
      clear hpp Hgk
      obtain ⟨n, rfl⟩ := Int.eq_ofNat_of_zero_le hn0
      have hn13 : n ≤ 13 := by omega
      clear hn1
      have Hp9 := Lib.hid hp9
      go_wp2
      go_loopw [6] (fun i wr => ∃ (k p' : Nat) (u : Value) (g : List Vt), k ≤ n ∧ i = .int .i64 k ∧ p' ≤ p9 + 8 * k ∧ g.length ≤ 40 ∧ Vst R w X q p' wr u g) (fun i _ => n - (intOf i).toNat)
      case atStart => exact ⟨0, p9, _, g, by omega, rfl, by omega, hg40, HV.out⟩
      case round =>
        clear HV hg40
        obtain ⟨k, p', u, g, hk, rfl, hpk, hg40, hv⟩ := hrel
        obtain ⟨au, cu, rfl⟩ := hv.own.slice
        have hsz := hv.sr.lt
        have hxl := hv.sx.lt
        have HV := Lib.hid hv; clear hv
        by_cases hlt : k < n
        · skip
          have c0 := HV.out.sx.cell 0 (v := .int .i64 q) rfl
          have c1 := HV.out.sx.cell 1 (v := .slice au g.length cu) rfl
          go_wp2_with fail
          skip
          clear c0 c1
          refine Code.wp_mono (Q := R12 ?Fw R w X q p' (Value.slice au g.length cu) g) ?hq ?hc
          case hc =>
            refine wp_region_held_drew (S := fun w' => w'.cell? ⟨X, 0, none⟩ = some (.int .i64 q) ∧ w'.cell? ⟨X, 1, none⟩ = some (.slice au g.length cu)) (by kernel_rfl) ⟨HV.out.sx.cell 0 rfl, HV.out.sx.cell 1 rfl⟩ (fun hH => ?_)
            have HV := Lib.hid (HV.out.below ((Below.refl _ wr).drew))
            have hszd : w.heap.size < wr.drew.heap.size := hsz
            have hxld : X < wr.drew.heap.size := hxl
            generalize wr.drew = wd at *
            refine takeH 0 (v := ?vraw1) rfl (by kernel_rfl) (by kernel_rfl) (by kernel_rfl) (fun _ _ _ h => h) hH rfl ?yraw1 ?rraw1
            case yraw1 => intro W hSw; go_simp; try with_reducible rfl
            try simp only [Act.put, List.setIfInBounds_toArray, List.set_cons_zero, List.set_cons_succ]
            refine takeH 1 (v := ?vraw2) rfl (by kernel_rfl) (by kernel_rfl) (by kernel_rfl) (fun _ _ _ h => h) hH rfl ?yraw2 ?rraw2
            case yraw2 => intro W hSw; go_simp; try with_reducible rfl
            try simp only [Act.put, List.setIfInBounds_toArray, List.set_cons_zero, List.set_cons_succ]
            refine twoH 2 7 rfl rfl (by kernel_rfl) rfl rfl (fun K hK => ?_) (fun K hK => ?_)
            · skip
              go_simp
              go_at_call 30
              refine (drawVote R p' _ (by omega) HV.out.rd (by have := HV.out.sr.lt; have := HV.out.hR; omega)).mono ?_
              rintro e wv ⟨v, p2, rfl, hv1, hv2, hr', hp2, hg'⟩
              have HV := Lib.hid (HV.out.picked hg' hr')
              have hsv := hg'.size
              clear hr' hg' hv1 hv2
              refine hK.out _ _ ⟨HV.out.sx.cell 0 rfl, HV.out.sx.cell 1 rfl⟩ (fun hH => ?_)
              clear hK K
              try simp only [Act.put, List.setIfInBounds_toArray, List.set_cons_zero, List.set_cons_succ]
              refine twoH 3 7 rfl rfl (by kernel_rfl) rfl rfl (fun K hK => ?_) (fun K hK => ?_)
              · skip
                go_simp
                go_at_call 15
                obtain ⟨fq, hfq⟩ := HV.out.own.vts
                refine (spec_VoterSign q g _ fq v.r v.a v.d _ (by omega) hfq).mono ?_
                rintro e wy ⟨u', rfl, hor, hb'⟩
                have hgl9 := Nat.le_trans (sg_short q g ⟨v.r, v.a, v.d⟩) (show g.length + 1 ≤ 41 by omega)
                generalize sgG q g ⟨v.r, v.a, v.d⟩ = g' at *
                generalize sgF q g ⟨v.r, v.a, v.d⟩ = f' at *
                generalize sgB q g ⟨v.r, v.a, v.d⟩ = b' at *
                obtain ⟨ay, cy, rfl⟩ := hor.ownV.slice
                have hsy := hb'.size
                have hsw := HV.out.sr.lt
                have hsX := HV.out.sx.lt
                have Hnu := Lib.hid (show ∀ b, (Value.slice ay g'.length cy).ownBlock = some b → b ≠ X ∧ b ≠ w.heap.size from fun b e => by have h1 := (hor.lt b e).1; omega)
                have HO := Lib.hid (hor.ownV.mono (B' := w.heap.size) (by omega))
                have HV := Lib.hid (HV.out.below hb')
                clear hor hb' hfq
                refine hK.out _ _ ⟨HV.out.sx.cell 0 rfl, HV.out.sx.cell 1 rfl⟩ (fun hH => ?_)
                clear hK K
                try simp only [Act.put, List.setIfInBounds_toArray, List.set_cons_zero, List.set_cons_succ]
                refine takeH 4 (v := ?vrbw1) rfl (by kernel_rfl) (by kernel_rfl) (by kernel_rfl) (fun _ _ _ h => h) hH rfl ?yrbw1 ?rrbw1
                case yrbw1 => intro W hSw; go_simp; try with_reducible rfl
                try simp only [Act.put, List.setIfInBounds_toArray, List.set_cons_zero, List.set_cons_succ]
                refine takeH 5 (v := ?vrbw2) rfl (by kernel_rfl) (by kernel_rfl) (by kernel_rfl) (fun _ _ _ h => h) hH rfl ?yrbw2 ?rrbw2
                case yrbw2 => intro W hSw; go_simp; try with_reducible rfl
                try simp only [Act.put, List.setIfInBounds_toArray, List.set_cons_zero, List.set_cons_succ]
                refine takeH 6 (v := ?vrbw3) rfl (by kernel_rfl) (by kernel_rfl) (by kernel_rfl) (fun _ _ _ h => h) hH rfl ?yrbw3 ?rrbw3
                case yrbw3 => intro W hSw; go_simp; try with_reducible rfl
                try simp only [Act.put, List.setIfInBounds_toArray, List.set_cons_zero, List.set_cons_succ]
                refine callH 7 rfl (by kernel_rfl) rfl (fun K hK => ?_)
                go_simp
                have hal : Below wy.heap.size wy (wy.alloc (.cells #[.int .i64 0, .slice none 0 0] 25)) := (Below.refl _ _).alloc (Nat.le_refl _) _
                have hsw9 := HV.out.sr.lt
                have hsX9 := HV.out.sx.lt
                have SY := Lib.hid (Str.new wy 25 #[.int .i64 0, .slice none 0 0])
                have HgY := Lib.hid (show ∀ b, (Value.slice au g.length cu).ownBlock = some b → b ≠ wy.heap.size from fun b e => by have := (HV.out.own.lt b e).2; omega)
                have HnY := Lib.hid (show ∀ b, (Value.slice ay g'.length cy).ownBlock = some b → b ≠ wy.heap.size from fun b e => by have := (HO.out.lt b e).2; omega)
                have HO := Lib.hid (HO.out.below hal)
                have HV := Lib.hid (HV.out.below hal)
                clear hal
                refine hK.out _ _ ⟨HV.out.sx.cell 0 rfl, HV.out.sx.cell 1 rfl⟩ (fun hH => ?_)
                clear hK K
                try simp only [Act.put, List.setIfInBounds_toArray, List.set_cons_zero, List.set_cons_succ]
                have hYX : wy.heap.size ≠ X := by omega
                have hYw : wy.heap.size ≠ w.heap.size := by omega
                have hYl : w.heap.size ≤ wy.heap.size := by omega
                generalize (wy.alloc (.cells #[.int .i64 0, .slice none 0 0] 25)) = wa at *
                generalize wy.heap.size = Y at *
                have y0 := SY.out.frozen 0
                have y1 := SY.out.frozen 1
                have d0 := SY.out.cell 0 (v := .int .i64 0) rfl
                have d1 := SY.out.cell 1 (v := .slice none 0 0) rfl
                refine callH 8 rfl (by kernel_rfl) rfl (fun K hK => ?_)
                go_simp
                clear y0 y1 d0 d1
                have HV := Lib.hid (HV.out.beside hYX hYw HgY.out hYl (.int .i64 f') (Value.slice ay g'.length cy))
                have SY := Lib.hid ((SY.out.set 0 (.int .i64 f')).set 1 (Value.slice ay g'.length cy))
                have HO := Lib.hid ((HO.out.setc HnY.out 0 (.int .i64 f')).setc HnY.out 1 (Value.slice ay g'.length cy))
                refine hK.out _ _ ⟨HV.out.sx.cell 0 rfl, HV.out.sx.cell 1 rfl⟩ (fun hH => ?_)
                clear hK K
                try simp only [Act.put, List.setIfInBounds_toArray, List.set_cons_zero, List.set_cons_succ]
                generalize ((wa.setCell ⟨Y, 0, none⟩ (.int .i64 f')).setCell ⟨Y, 1, none⟩ (Value.slice ay g'.length cy)) = wz at *
                refine takeH 9 (v := ?vrbzw1) rfl (by kernel_rfl) (by kernel_rfl) (by kernel_rfl) (fun _ _ _ h => h) hH rfl ?yrbzw1 ?rrbzw1
                case yrbzw1 => intro W hSw; go_simp; try with_reducible rfl
                try simp only [Act.put, List.setIfInBounds_toArray, List.set_cons_zero, List.set_cons_succ]
                refine wpAnyH_done (by kernel_rfl) ?_ _
                try simp only [Act.put]
                generalize (Value.slice ay g'.length cy) = u' at *
                refine ⟨Y, v, f', u', b', g', p2, ?_, hp2, HV.out, SY.out, HO.out, Hnu.out, hgl9⟩
                rfl
              · skip
                go_simp
                have hal : Below wv.heap.size wv (wv.alloc (.cells #[.int .i64 0, .slice none 0 0] 25)) := (Below.refl _ _).alloc (Nat.le_refl _) _
                have hsw9 := HV.out.sr.lt
                have hsX9 := HV.out.sx.lt
                have SY := Lib.hid (Str.new wv 25 #[.int .i64 0, .slice none 0 0])
                have HgY := Lib.hid (show ∀ b, (Value.slice au g.length cu).ownBlock = some b → b ≠ wv.heap.size from fun b e => by have := (HV.out.own.lt b e).2; omega)
                have HV := Lib.hid (HV.out.below hal)
                clear hal
                refine hK.out _ _ ⟨HV.out.sx.cell 0 rfl, HV.out.sx.cell 1 rfl⟩ (fun hH => ?_)
                clear hK K
                try simp only [Act.put, List.setIfInBounds_toArray, List.set_cons_zero, List.set_cons_succ]
                have hYX : wv.heap.size ≠ X := by omega
                have hYw : wv.heap.size ≠ w.heap.size := by omega
                have hYl : w.heap.size ≤ wv.heap.size := by omega
                generalize (wv.alloc (.cells #[.int .i64 0, .slice none 0 0] 25)) = wa at *
                generalize wv.heap.size = Y at *
                refine callH 3 rfl (by kernel_rfl) rfl (fun K hK => ?_)
                go_simp
                go_at_call 15
                obtain ⟨fq, hfq⟩ := HV.out.own.vts
                refine (spec_VoterSign q g _ fq v.r v.a v.d _ (by omega) hfq).mono ?_
                rintro e wy ⟨u', rfl, hor, hb'⟩
                have hgl9 := Nat.le_trans (sg_short q g ⟨v.r, v.a, v.d⟩) (show g.length + 1 ≤ 41 by omega)
                generalize sgG q g ⟨v.r, v.a, v.d⟩ = g' at *
                generalize sgF q g ⟨v.r, v.a, v.d⟩ = f' at *
                generalize sgB q g ⟨v.r, v.a, v.d⟩ = b' at *
                obtain ⟨ay, cy, rfl⟩ := hor.ownV.slice
                have hsy := hb'.size
                have hsw := HV.out.sr.lt
                have hsX := HV.out.sx.lt
                have Hnu := Lib.hid (show ∀ b, (Value.slice ay g'.length cy).ownBlock = some b → b ≠ X ∧ b ≠ w.heap.size from fun b e => by have h1 := (hor.lt b e).1; omega)
                have HnY := Lib.hid (show ∀ b, (Value.slice ay g'.length cy).ownBlock = some b → b ≠ Y from fun b e => by have h1 := (hor.lt b e).1; have := SY.out.lt; omega)
                have SY := Lib.hid (show Str wy Y 25 #[.int .i64 0, .slice none 0 0] from (hb'.block _ SY.out.lt).trans SY.out)
                have HO := Lib.hid (hor.ownV.mono (B' := w.heap.size) (by omega))
                have HV := Lib.hid (HV.out.below hb')
                clear hor hb' hfq
                refine hK.out _ _ ⟨HV.out.sx.cell 0 rfl, HV.out.sx.cell 1 rfl⟩ (fun hH => ?_)
                clear hK K
                try simp only [Act.put, List.setIfInBounds_toArray, List.set_cons_zero, List.set_cons_succ]
                refine takeH 4 (v := ?vrcw1) rfl (by kernel_rfl) (by kernel_rfl) (by kernel_rfl) (fun _ _ _ h => h) hH rfl ?yrcw1 ?rrcw1
                case yrcw1 => intro W hSw; go_simp; try with_reducible rfl
                try simp only [Act.put, List.setIfInBounds_toArray, List.set_cons_zero, List.set_cons_succ]
                refine takeH 5 (v := ?vrcw2) rfl (by kernel_rfl) (by kernel_rfl) (by kernel_rfl) (fun _ _ _ h => h) hH rfl ?yrcw2 ?rrcw2
                case yrcw2 => intro W hSw; go_simp; try with_reducible rfl
                try simp only [Act.put, List.setIfInBounds_toArray, List.set_cons_zero, List.set_cons_succ]
                refine takeH 6 (v := ?vrcw3) rfl (by kernel_rfl) (by kernel_rfl) (by kernel_rfl) (fun _ _ _ h => h) hH rfl ?yrcw3 ?rrcw3
                case yrcw3 => intro W hSw; go_simp; try with_reducible rfl
                try simp only [Act.put, List.setIfInBounds_toArray, List.set_cons_zero, List.set_cons_succ]
                have y0 := SY.out.frozen 0
                have y1 := SY.out.frozen 1
                have d0 := SY.out.cell 0 (v := .int .i64 0) rfl
                have d1 := SY.out.cell 1 (v := .slice none 0 0) rfl
                refine callH 8 rfl (by kernel_rfl) rfl (fun K hK => ?_)
                go_simp
                clear y0 y1 d0 d1
                have HV := Lib.hid (HV.out.beside hYX hYw HgY.out hYl (.int .i64 f') (Value.slice ay g'.length cy))
                have SY := Lib.hid ((SY.out.set 0 (.int .i64 f')).set 1 (Value.slice ay g'.length cy))
                have HO := Lib.hid ((HO.out.setc HnY.out 0 (.int .i64 f')).setc HnY.out 1 (Value.slice ay g'.length cy))
                refine hK.out _ _ ⟨HV.out.sx.cell 0 rfl, HV.out.sx.cell 1 rfl⟩ (fun hH => ?_)
                clear hK K
                try simp only [Act.put, List.setIfInBounds_toArray, List.set_cons_zero, List.set_cons_succ]
                generalize ((wy.setCell ⟨Y, 0, none⟩ (.int .i64 f')).setCell ⟨Y, 1, none⟩ (Value.slice ay g'.length cy)) = wz at *
                refine takeH 9 (v := ?vrczw1) rfl (by kernel_rfl) (by kernel_rfl) (by kernel_rfl) (fun _ _ _ h => h) hH rfl ?yrczw1 ?rrczw1
                case yrczw1 => intro W hSw; go_simp; try with_reducible rfl
                try simp only [Act.put, List.setIfInBounds_toArray, List.set_cons_zero, List.set_cons_succ]
                refine wpAnyH_done (by kernel_rfl) ?_ _
                try simp only [Act.put]
                generalize (Value.slice ay g'.length cy) = u' at *
                refine ⟨Y, v, f', u', b', g', p2, ?_, hp2, HV.out, SY.out, HO.out, Hnu.out, hgl9⟩
                rfl
            · skip
              go_simp
              have hal : Below wd.heap.size wd (wd.alloc (.cells #[.int .i64 0, .slice none 0 0] 25)) := (Below.refl _ _).alloc (Nat.le_refl _) _
              have hsw9 := HV.out.sr.lt
              have hsX9 := HV.out.sx.lt
              have SY := Lib.hid (Str.new wd 25 #[.int .i64 0, .slice none 0 0])
              have HgY := Lib.hid (show ∀ b, (Value.slice au g.length cu).ownBlock = some b → b ≠ wd.heap.size from fun b e => by have := (HV.out.own.lt b e).2; omega)
              have HV := Lib.hid (HV.out.below hal)
              clear hal
              refine hK.out _ _ ⟨HV.out.sx.cell 0 rfl, HV.out.sx.cell 1 rfl⟩ (fun hH => ?_)
              clear hK K
              try simp only [Act.put, List.setIfInBounds_toArray, List.set_cons_zero, List.set_cons_succ]
              have hYX : wd.heap.size ≠ X := by omega
              have hYw : wd.heap.size ≠ w.heap.size := by omega
              have hYl : w.heap.size ≤ wd.heap.size := by omega
              generalize (wd.alloc (.cells #[.int .i64 0, .slice none 0 0] 25)) = wa at *
              generalize wd.heap.size = Y at *
              refine callH 2 rfl (by kernel_rfl) rfl (fun K hK => ?_)
              go_simp
              go_at_call 30
              refine (drawVote R p' _ (by omega) HV.out.rd (by have := HV.out.sr.lt; have := HV.out.hR; omega)).mono ?_
              rintro e wv ⟨v, p2, rfl, hv1, hv2, hr', hp2, hg'⟩
              have HV := Lib.hid (HV.out.picked hg' hr')
              have hsv := hg'.size
              have SY := Lib.hid (SY.out.kept hg' (by have := HV.out.hR; simp; omega))
              clear hr' hg' hv1 hv2
              refine hK.out _ _ ⟨HV.out.sx.cell 0 rfl, HV.out.sx.cell 1 rfl⟩ (fun hH => ?_)
              clear hK K
              try simp only [Act.put, List.setIfInBounds_toArray, List.set_cons_zero, List.set_cons_succ]
              refine callH 3 rfl (by kernel_rfl) rfl (fun K hK => ?_)
              go_simp
              go_at_call 15
              obtain ⟨fq, hfq⟩ := HV.out.own.vts
              refine (spec_VoterSign q g _ fq v.r v.a v.d _ (by omega) hfq).mono ?_
              rintro e wy ⟨u', rfl, hor, hb'⟩
              have hgl9 := Nat.le_trans (sg_short q g ⟨v.r, v.a, v.d⟩) (show g.length + 1 ≤ 41 by omega)
              generalize sgG q g ⟨v.r, v.a, v.d⟩ = g' at *
              generalize sgF q g ⟨v.r, v.a, v.d⟩ = f' at *
              generalize sgB q g ⟨v.r, v.a, v.d⟩ = b' at *
              obtain ⟨ay, cy, rfl⟩ := hor.ownV.slice
              have hsy := hb'.size
              have hsw := HV.out.sr.lt
              have hsX := HV.out.sx.lt
              have Hnu := Lib.hid (show ∀ b, (Value.slice ay g'.length cy).ownBlock = some b → b ≠ X ∧ b ≠ w.heap.size from fun b e => by have h1 := (hor.lt b e).1; omega)
              have HnY := Lib.hid (show ∀ b, (Value.slice ay g'.length cy).ownBlock = some b → b ≠ Y from fun b e => by have h1 := (hor.lt b e).1; have := SY.out.lt; omega)
              have SY := Lib.hid (show Str wy Y 25 #[.int .i64 0, .slice none 0 0] from (hb'.block _ SY.out.lt).trans SY.out)
              have HO := Lib.hid (hor.ownV.mono (B' := w.heap.size) (by omega))
              have HV := Lib.hid (HV.out.below hb')
              clear hor hb' hfq
              refine hK.out _ _ ⟨HV.out.sx.cell 0 rfl, HV.out.sx.cell 1 rfl⟩ (fun hH => ?_)
              clear hK K
              try simp only [Act.put, List.setIfInBounds_toArray, List.set_cons_zero, List.set_cons_succ]
              refine takeH 4 (v := ?vrdw1) rfl (by kernel_rfl) (by kernel_rfl) (by kernel_rfl) (fun _ _ _ h => h) hH rfl ?yrdw1 ?rrdw1
              case yrdw1 => intro W hSw; go_simp; try with_reducible rfl
              try simp only [Act.put, List.setIfInBounds_toArray, List.set_cons_zero, List.set_cons_succ]
              refine takeH 5 (v := ?vrdw2) rfl (by kernel_rfl) (by kernel_rfl) (by kernel_rfl) (fun _ _ _ h => h) hH rfl ?yrdw2 ?rrdw2
              case yrdw2 => intro W hSw; go_simp; try with_reducible rfl
              try simp only [Act.put, List.setIfInBounds_toArray, List.set_cons_zero, List.set_cons_succ]
              refine takeH 6 (v := ?vrdw3) rfl (by kernel_rfl) (by kernel_rfl) (by kernel_rfl) (fun _ _ _ h => h) hH rfl ?yrdw3 ?rrdw3
              case yrdw3 => intro W hSw; go_simp; try with_reducible rfl
              try simp only [Act.put, List.setIfInBounds_toArray, List.set_cons_zero, List.set_cons_succ]
              have y0 := SY.out.frozen 0
              have y1 := SY.out.frozen 1
              have d0 := SY.out.cell 0 (v := .int .i64 0) rfl
              have d1 := SY.out.cell 1 (v := .slice none 0 0) rfl
              refine callH 8 rfl (by kernel_rfl) rfl (fun K hK => ?_)
              go_simp
              clear y0 y1 d0 d1
              have HV := Lib.hid (HV.out.beside hYX hYw HgY.out hYl (.int .i64 f') (Value.slice ay g'.length cy))
              have SY := Lib.hid ((SY.out.set 0 (.int .i64 f')).set 1 (Value.slice ay g'.length cy))
              have HO := Lib.hid ((HO.out.setc HnY.out 0 (.int .i64 f')).setc HnY.out 1 (Value.slice ay g'.length cy))
              refine hK.out _ _ ⟨HV.out.sx.cell 0 rfl, HV.out.sx.cell 1 rfl⟩ (fun hH => ?_)
              clear hK K
              try simp only [Act.put, List.setIfInBounds_toArray, List.set_cons_zero, List.set_cons_succ]
              generalize ((wy.setCell ⟨Y, 0, none⟩ (.int .i64 f')).setCell ⟨Y, 1, none⟩ (Value.slice ay g'.length cy)) = wz at *
              refine takeH 9 (v := ?vrdzw1) rfl (by kernel_rfl) (by kernel_rfl) (by kernel_rfl) (fun _ _ _ h => h) hH rfl ?yrdzw1 ?rrdzw1
              case yrdzw1 => intro W hSw; go_simp; try with_reducible rfl
              try simp only [Act.put, List.setIfInBounds_toArray, List.set_cons_zero, List.set_cons_succ]
              refine wpAnyH_done (by kernel_rfl) ?_ _
              try simp only [Act.put]
              generalize (Value.slice ay g'.length cy) = u' at *
              refine ⟨Y, v, f', u', b', g', p2, ?_, hp2, HV.out, SY.out, HO.out, Hnu.out, hgl9⟩
              rfl
          case hq =>
            intro e a w1 hx
            unfold R12 at hx
            cases e <;> first | exact hx.elim | skip
            obtain ⟨Y, v, f', u', b', g', p2, rfl, hp2, hv, sy, ho', hnu, hg41⟩ := hx
            clear HV
            obtain ⟨ay, cy, rfl⟩ := ho'.slice
            have hsz1 := hv.sr.lt
            have HV := Lib.hid hv; have SY := Lib.hid sy; have HO := Lib.hid ho'; have Hnu := Lib.hid hnu
            clear hv sy ho' hnu
            have y0 := SY.out.cell 0 (v := .int .i64 f') rfl
            have y1 := SY.out.cell 1 (v := .slice ay g'.length cy) rfl
            skip
            obtain ⟨fq, hfq⟩ := HO.out.vts
            have HVV := Lib.hid (fun h9 => spec_VoterValid f' g' _ fq w1 h9 hfq)
            have Hbig := Lib.hid (show g'.length ≤ 1099511627776 by omega)
            clear hfq
            go_wp2_with fail
            refine (HVV.out Hbig.out).mono ?_
            rintro e w2 ⟨rfl, hb2⟩
            have HV := Lib.hid (HV.out.below hb2)
            have SY := Lib.hid (show Str w2 Y 25 #[.int .i64 f', .slice ay g'.length cy] from (hb2.block _ SY.out.lt).trans SY.out)
            have HO := Lib.hid (HO.out.below hb2)
            clear hb2 HVV y0 y1
            cases hvb : voterB f' g' with
            | false =>
              have c0 := HV.out.sx.cell 0 (v := .int .i64 q) rfl
              have c1 := HV.out.sx.cell 1 (v := .slice au g.length cu) rfl
              have y0 := SY.out.cell 0 (v := .int .i64 f') rfl
              have y1 := SY.out.cell 1 (v := .slice ay g'.length cy) rfl
              go_wp2
              go_roundw
              case rel => exact ⟨k + 1, p2, _, g, by omega, by go_num, by omega, hg40, HV.out⟩
              case measure => simp [intOf]; omega
            | true =>
            obtain ⟨_, _, hg40'⟩ := voter_len hvb
            have Hvb := Lib.hid hvb; clear hvb
            by_cases hff : f' = q
            case neg =>
              have hff' : (f' == q) = false := by rw [beq_eq_false_iff_ne]; exact hff
              have c0 := HV.out.sx.cell 0 (v := .int .i64 q) rfl
              have c1 := HV.out.sx.cell 1 (v := .slice au g.length cu) rfl
              have y0 := SY.out.cell 0 (v := .int .i64 f') rfl
              have y1 := SY.out.cell 1 (v := .slice ay g'.length cy) rfl
              go_wp2
              go_roundw
              case rel => exact ⟨k + 1, p2, _, g, by omega, by go_num, by omega, hg40, HV.out⟩
              case measure => simp [intOf]; omega
            have hff' : (f' == q) = true := by rw [beq_iff_eq]; exact hff
            have c0 := HV.out.sx.cell 0 (v := .int .i64 q) rfl
            have c1 := HV.out.sx.cell 1 (v := .slice au g.length cu) rfl
            have z0 := HV.out.sx.frozen 0
            have z1 := HV.out.sx.frozen 1
            have y0 := SY.out.cell 0 (v := .int .i64 f') rfl
            have y1 := SY.out.cell 1 (v := .slice ay g'.length cy) rfl
            have HM := Lib.hid (show Vst R w X q p2 ((w2.setCell ⟨X, 0, none⟩ (.int .i64 f')).setCell ⟨X, 1, none⟩ (.slice ay g'.length cy)) (.slice ay g'.length cy) g' by have h9 := HV.out.move (f2 := f') HO.out Hnu.out; rw [hff] at h9 ⊢; exact h9)
            have Hff := Lib.hid hff; clear hff
            go_wp2
            go_roundw
            case rel => exact ⟨k + 1, p2, _, g', by omega, by go_num, by omega, hg40', HM.out⟩
            case measure => simp [intOf]; omega
        · skip
          go_wp2_with fail
          refine (pick_any R 16 p' _ (by omega) HV.out.rd (by have := HV.out.sr.lt; have := HV.out.hR; omega)).mono ?_
          rintro e w5 ⟨s, rfl, hs0, hs1, hr', hg'⟩
          have HV := Lib.hid (HV.out.picked hg' hr')
          clear hr' hg'
          by_cases s0 : s = 0
          case pos =>
            subst s0
            go_wp2_with fail
            refine (pick_any R 35 (p' + 1) _ (by omega) HV.out.rd (by have := HV.out.sr.lt; omega)).mono ?_
            rintro e w6 ⟨z, rfl, hz0, hz1, hr', hg'⟩
            have hsw6 := hg'.size
            have HV := Lib.hid (HV.out.picked hg' hr')
            clear hr' hg'
            have c0 := HV.out.sx.cell 0 (v := .int .i64 q) rfl
            have c1 := HV.out.sx.cell 1 (v := .slice au g.length cu) rfl
            have z0 := HV.out.sx.frozen 0
            have HV0 := HV
            have HV := Lib.hid (HV.out.floor (z - 1))
            have x0 := HV.out.sx.cell 0 (v := .int .i64 (z - 1)) rfl
            have x1 := HV.out.sx.cell 1 (v := .slice au g.length cu) rfl
            have r0 := HV.out.sr.frozen 0
            have r1 := HV.out.sr.frozen 1
            have v0 := HV.out.sr.cell 0 (v := .int .i64 0) rfl
            have v1 := HV.out.sr.cell 1 (v := .slice none 0 0) rfl
            have sF := (HV.out.sr.set 0 (.int .i64 (z - 1))).set 1 (Value.slice au g.length cu)
            have e0 := sF.cell 0 (v := .int .i64 (z - 1)) rfl
            have e1 := sF.cell 1 (v := Value.slice au g.length cu) rfl
            clear sF
            go_wp2
            refine bodyPost_ret (v := .agg #[.int .i64 (z - 1), Value.slice au g.length cu]) (by simp [results, Try.f29, go_sem, e0, e1]) rfl ?_
            exact HV.out.fin rfl (by omega) (by omega) (by have := Hp9.out; omega)
          have s0' : (s == 0) = false := by rw [beq_eq_false_iff_ne]; exact s0
          by_cases s1 : s = 1
          case pos =>
            subst s1
            have c0 := HV.out.sx.cell 0 (v := .int .i64 q) rfl
            have c1 := HV.out.sx.cell 1 (v := .slice au g.length cu) rfl
            go_wp2_with fail
            refine wp_region_L 7 (fun w' => w'.cell? ⟨X, 0, none⟩ = some (.int .i64 q) ∧ w'.cell? ⟨X, 1, none⟩ = some (.slice au g.length cu)) (by kernel_rfl) ⟨c0, c1⟩ (fun hH => ?_)
            have HV := Lib.hid (HV.out.below ((Below.refl _ w5).drew))
            clear c0 c1
            generalize w5.drew = wd at *
            refine takeL 0 (v := ?vrsw1) rfl (by kernel_rfl) (by kernel_rfl) (by kernel_rfl) (by kernel_rfl) (by kernel_rfl) (fun _ _ _ h => h) hH rfl ?yrsw1 ?rrsw1
            case yrsw1 => intro W hSw; go_simp; try with_reducible rfl
            try simp only [Act.put, List.setIfInBounds_toArray, List.set_cons_zero, List.set_cons_succ]
            refine takeL 1 (v := ?vrsw2) rfl (by kernel_rfl) (by kernel_rfl) (by kernel_rfl) (by kernel_rfl) (by kernel_rfl) (fun _ _ _ h => h) hH rfl ?yrsw2 ?rrsw2
            case yrsw2 => intro W hSw; go_simp; try with_reducible rfl
            try simp only [Act.put, List.setIfInBounds_toArray, List.set_cons_zero, List.set_cons_succ]
            refine takeL 2 (v := ?vrsw3) rfl (by kernel_rfl) (by kernel_rfl) (by kernel_rfl) (by kernel_rfl) (by kernel_rfl) (fun _ _ _ h => h) hH rfl ?yrsw3 ?rrsw3
            case yrsw3 => intro W hSw; go_simp; try with_reducible rfl
            try simp only [Act.put, List.setIfInBounds_toArray, List.set_cons_zero, List.set_cons_succ]
            refine callL 3 rfl (by kernel_rfl) rfl (fun K hK => ?_)
            go_simp
            go_at_call 30
            refine (drawVote R (p' + 1) _ (by omega) HV.out.rd (by have := HV.out.sr.lt; have := HV.out.hR; omega)).mono ?_
            rintro e wv ⟨v, p2, rfl, hv1, hv2, hr', hp2, hg'⟩
            have HV := Lib.hid (HV.out.picked hg' hr')
            clear hr' hg' hv1 hv2
            refine hK.out _ _ ⟨HV.out.sx.cell 0 rfl, HV.out.sx.cell 1 rfl⟩ (fun hH => ?_)
            clear hK K
            try simp only [Act.put, List.setIfInBounds_toArray, List.set_cons_zero, List.set_cons_succ]
            refine callL 4 rfl (by kernel_rfl) rfl (fun K hK => ?_)
            go_simp
            have hal : Below wv.heap.size wv (wv.alloc (.cells #[.int .i64 v.r, .int .i64 v.a, .int .i64 v.d] 27)) := (Below.refl _ _).alloc (Nat.le_refl _) _
            have HV := Lib.hid (HV.out.below hal)
            have HS := Lib.hid (srcV_one (Str.new wv 27 #[.int .i64 v.r, .int .i64 v.a, .int .i64 v.d]))
            clear hal
            refine hK.out _ _ ⟨HV.out.sx.cell 0 rfl, HV.out.sx.cell 1 rfl⟩ (fun hH => ?_)
            clear hK K
            try simp only [Act.put, List.setIfInBounds_toArray, List.set_cons_zero, List.set_cons_succ]
            generalize hwa : (wv.alloc (.cells #[.int .i64 v.r, .int .i64 v.a, .int .i64 v.d] 27)) = wa at *
            have Hwa := Lib.hid hwa; clear hwa
            refine callL 5 rfl (by kernel_rfl) rfl (fun K hK => ?_)
            refine op_app_V (.tmp 74) (.tmp 77) rfl w.heap.size _ g [(⟨v.r, v.a, v.d⟩ : Vt)] (some ⟨wv.heap.size, 0, none⟩) 1 rfl HV.out.own rfl (.inr ⟨_, rfl, HS.out⟩) (by simp; omega) (by have := HV.out.sr.lt; omega) ?_
            intro u9 w9 ho9 hg9 hat9
            generalize hgg : g ++ [(⟨v.r, v.a, v.d⟩ : Vt)] = g9 at ho9
            have hl9 : g9.length ≤ 41 := by rw [← hgg]; simp; omega
            clear hgg
            have hg9 : wa.grownBy w9 (Value.slice au g.length cu).ownBlock := hg9
            have hat9 : ∀ b, u9.ownBlock = some b → (Value.slice au g.length cu).ownBlock = some b ∨ wa.heap.size ≤ b := hat9
            obtain ⟨hput, hst⟩ := HV.out.put ho9 hg9 hat9
            have Hst := Lib.hid hst; have Hput := Lib.hid hput; clear hput hst hg9 hat9
            obtain ⟨a9, c9, rfl⟩ := ho9.slice
            have Ho9 := Lib.hid ho9; clear ho9
            refine hK.out _ _ ⟨Hst.out.cell 0 rfl, Hst.out.cell 1 rfl⟩ (fun hH => ?_)
            clear hK K
            try simp only [Act.put, List.setIfInBounds_toArray, List.set_cons_zero, List.set_cons_succ]
            refine takeL 6 (v := ?vrsw4) rfl (by kernel_rfl) (by kernel_rfl) (by kernel_rfl) (by kernel_rfl) (by kernel_rfl) (fun _ _ _ h => h) hH rfl ?yrsw4 ?rrsw4
            case yrsw4 => intro W hSw; go_simp; try with_reducible rfl
            try simp only [Act.put, List.setIfInBounds_toArray, List.set_cons_zero, List.set_cons_succ]
            have k0 := Hst.out.frozen 1
            have k1 := Hst.out.cell 1 (v := .slice au g.length cu) rfl
            refine lastL rfl (by kernel_rfl) (by kernel_rfl) (by kernel_rfl) rfl (fun K hK => ?_)
            go_simp
            refine hK.out _ _ ?_
            clear hK K
            try simp only [Act.put]
            clear k0 k1
            have HV := Hput
            generalize (w9.setCell ⟨X, 1, none⟩ (Value.slice a9 g9.length c9)) = wb at *
            have x0 := HV.out.sx.cell 0 (v := .int .i64 q) rfl
            have x1 := HV.out.sx.cell 1 (v := .slice a9 g9.length c9) rfl
            have r0 := HV.out.sr.frozen 0
            have r1 := HV.out.sr.frozen 1
            have v0 := HV.out.sr.cell 0 (v := .int .i64 0) rfl
            have v1 := HV.out.sr.cell 1 (v := .slice none 0 0) rfl
            have sF := (HV.out.sr.set 0 (.int .i64 (q))).set 1 (Value.slice a9 g9.length c9)
            have e0 := sF.cell 0 (v := .int .i64 (q)) rfl
            have e1 := sF.cell 1 (v := Value.slice a9 g9.length c9) rfl
            clear sF
            go_wp2
            refine bodyPost_ret (v := .agg #[.int .i64 (q), Value.slice a9 g9.length c9]) (by simp [results, Try.f29, go_sem, e0, e1]) rfl ?_
            exact HV.out.fin rfl hl9 (by omega) (by have := Hp9.out; omega)
          have s1' : (s == 1) = false := by rw [beq_eq_false_iff_ne]; exact s1
          have x0 := HV.out.sx.cell 0 (v := .int .i64 q) rfl
          have x1 := HV.out.sx.cell 1 (v := .slice au g.length cu) rfl
          have r0 := HV.out.sr.frozen 0
          have r1 := HV.out.sr.frozen 1
          have v0 := HV.out.sr.cell 0 (v := .int .i64 0) rfl
          have v1 := HV.out.sr.cell 1 (v := .slice none 0 0) rfl
          have sF := (HV.out.sr.set 0 (.int .i64 (q))).set 1 (Value.slice au g.length cu)
          have e0 := sF.cell 0 (v := .int .i64 (q)) rfl
          have e1 := sF.cell 1 (v := Value.slice au g.length cu) rfl
          clear sF
          go_wp2
          refine bodyPost_ret (v := .agg #[.int .i64 (q), Value.slice au g.length cu]) (by simp [results, Try.f29, go_sem, e0, e1]) rfl ?_
          exact HV.out.fin rfl (by omega) (by omega) (by have := Hp9.out; omega)

end Go.Proofs.Ytgpbogalknmcmaa

/- The state while a voter and a vote are drawn: structs, the list of votes, the reader; steps of the world; nothing here speaks of the program but types. -/
namespace Go.Proofs.Ytgpbogalknmcmaa
open Go.RowKit

/-- X: the voter; V: the vote; A, B: the results' cells; R: the reader. -/
structure Vsg (R : Nat) (w : World) (A B X V : Nat) (f : Int) (v : Vt) (p : Nat) (wr : World) (u : Value) (g : List Vt) : Prop where
  sx : Str wr X 25 #[.int .i64 f, u]
  sv : Str wr V 27 #[.int .i64 v.r, .int .i64 v.a, .int .i64 v.d]
  own : OwnV 27 wr w.heap.size u g
  nx : ∀ b, u.ownBlock = some b → b ≠ X ∧ b ≠ V ∧ b ≠ A ∧ b ≠ B ∧ b ≠ R
  sa : Str wr A 25 #[.int .i64 0, .slice none 0 0]
  sb : Str wr B 27 #[.int .i64 0, .int .i64 0, .int .i64 0]
  rd : Rdr wr R p
  bel : Below w.heap.size w wr
  ds : w.heap.size ≤ A ∧ A < B ∧ B < R ∧ R < X ∧ X < V
section
variable {R : Nat} {w : World} {A B X V : Nat} {f : Int} {v : Vt} {p : Nat} {wr : World} {u : Value} {g : List Vt}
theorem Vsg.picked (h : Vsg R w A B X V f v p wr u g) {w2 : World} {p2 : Nat} (hg : wr.grownBy w2 (some R)) (hr : Rdr w2 R p2) : Vsg R w A B X V f v p2 w2 u g := by
  obtain ⟨d1, d2, d3, d4, d5⟩ := h.ds
  exact ⟨h.sx.kept hg (by simp; omega), h.sv.kept hg (by simp; omega), h.own.grown hg (fun b e e' => by cases e'; exact (h.nx _ e).2.2.2.2 rfl), h.nx, h.sa.kept hg (by simp; omega), h.sb.kept hg (by simp; omega), hr,
    h.bel.grown hg h.bel.size (fun g e => by cases e; omega), h.ds⟩
theorem Vsg.below (h : Vsg R w A B X V f v p wr u g) {w2 : World} (hb : Below wr.heap.size wr w2) : Vsg R w A B X V f v p w2 u g :=
  ⟨(hb.block _ h.sx.lt).trans h.sx, (hb.block _ h.sv.lt).trans h.sv, h.own.below hb, h.nx, (hb.block _ h.sa.lt).trans h.sa, (hb.block _ h.sb.lt).trans h.sb, h.rd.kept (below_grown hb) (by simp), below_step h.bel h.bel.size hb, h.ds⟩
theorem Vsg.vote (h : Vsg R w A B X V f v p wr u g) (r a d : Int) : Vsg R w A B X V f ⟨r, a, d⟩ p (((wr.setCell ⟨V, 0, none⟩ (.int .i64 r)).setCell ⟨V, 1, none⟩ (.int .i64 a)).setCell ⟨V, 2, none⟩ (.int .i64 d)) u g := by
  obtain ⟨d1, d2, d3, d4, d5⟩ := h.ds
  have n := fun b e => (h.nx b e).2.1
  exact ⟨((h.sx.other (by omega) _ _).other (by omega) _ _).other (by omega) _ _, ((h.sv.set 0 _).set 1 _).set 2 _, ((h.own.setc n _ _).setc n _ _).setc n _ _, h.nx, ((h.sa.other (by omega) _ _).other (by omega) _ _).other (by omega) _ _, ((h.sb.other (by omega) _ _).other (by omega) _ _).other (by omega) _ _,
    ((h.rd.kept (grownBy_set _ V 0 _) (fun b e => by cases e; omega)).kept (grownBy_set _ V 1 _) (fun b e => by cases e; omega)).kept (grownBy_set _ V 2 _) (fun b e => by cases e; omega),
    ((h.bel.setCell (p := ⟨V, 0, none⟩) (by simp only; omega) _).setCell (p := ⟨V, 1, none⟩) (by simp only; omega) _).setCell (p := ⟨V, 2, none⟩) (by simp only; omega) _, h.ds⟩
theorem Vsg.digest (h : Vsg R w A B X V f v p wr u g) (d : Int) : Vsg R w A B X V f ⟨v.r, v.a, d⟩ p (wr.setCell ⟨V, 2, none⟩ (.int .i64 d)) u g := by
  obtain ⟨d1, d2, d3, d4, d5⟩ := h.ds
  have n := fun b e => (h.nx b e).2.1
  exact ⟨h.sx.other (by omega) _ _, h.sv.set 2 _, h.own.setc n _ _, h.nx, h.sa.other (by omega) _ _, h.sb.other (by omega) _ _,
    h.rd.kept (grownBy_set _ V 2 _) (fun b e => by cases e; omega), h.bel.setCell (p := ⟨V, 2, none⟩) (by simp only; omega) _, h.ds⟩
/-- What is drawn: a voter and a vote. -/
def VsDraw (w : World) (e : Ending) (w' : World) : Prop := ∃ (f : Int) (g : List Vt) (u : Value) (fp : List Nat) (v : Vt), e = .returned (.tuple #[.agg #[.int .i64 f, u], .agg #[.int .i64 v.r, .int .i64 v.a, .int .i64 v.d]]) ∧ Vts w' g u fp ∧ g.length ≤ 41 ∧ Below w.heap.size w w'
theorem Vsg.res (h : Vsg R w A B X V f v p wr u g) : Vsg R w A B X V f v p wr u g ∧ OwnV 27 ((wr.setCell ⟨A, 0, none⟩ (.int .i64 f)).setCell ⟨A, 1, none⟩ u) w.heap.size u g ∧ Below w.heap.size w ((wr.setCell ⟨A, 0, none⟩ (.int .i64 f)).setCell ⟨A, 1, none⟩ u) ∧
    Str ((wr.setCell ⟨A, 0, none⟩ (.int .i64 f)).setCell ⟨A, 1, none⟩ u) A 25 #[.int .i64 f, u] ∧ Str ((wr.setCell ⟨A, 0, none⟩ (.int .i64 f)).setCell ⟨A, 1, none⟩ u) B 27 #[.int .i64 0, .int .i64 0, .int .i64 0] ∧
    Str ((wr.setCell ⟨A, 0, none⟩ (.int .i64 f)).setCell ⟨A, 1, none⟩ u) X 25 #[.int .i64 f, u] ∧ Str ((wr.setCell ⟨A, 0, none⟩ (.int .i64 f)).setCell ⟨A, 1, none⟩ u) V 27 #[.int .i64 v.r, .int .i64 v.a, .int .i64 v.d] := by
  obtain ⟨d1, d2, d3, d4, d5⟩ := h.ds
  have n := fun b e => (h.nx b e).2.2.1
  exact ⟨h, (h.own.setc n _ _).setc n _ _, (h.bel.setCell (p := ⟨A, 0, none⟩) (by simp only; omega) _).setCell (p := ⟨A, 1, none⟩) (by simp only; omega) _, (h.sa.set 0 _).set 1 _, (h.sb.other (by omega) _ _).other (by omega) _ _, (h.sx.other (by omega) _ _).other (by omega) _ _, (h.sv.other (by omega) _ _).other (by omega) _ _⟩
end

end Go.Proofs.Ytgpbogalknmcmaa
