/- laws.sameVoter, by a walk of its text; condition: the lists are shorter than 2^40. -/
import Derived.Test.YtkndndcjchlpdaaRows
import Derived.Test.YtkndndcjchlpdaaVt1
import Derived.Deep.QuietTactic
import Derived.BigQuiet
import Derived.Laws.StructEq
namespace Go.Proofs.Ytkndndcjchlpdaa
open Go.RowKit

theorem sv_step {g g2 : List Vt} {k : Nat} (h : k < g.length) (h2 : k < g2.length) (e : g.take k = g2.take k) : (g[k] = g2[k] → g.take (k + 1) = g2.take (k + 1)) ∧ (g[k] ≠ g2[k] → g ≠ g2) := by
  refine ⟨fun hx => by rw [List.take_succ_eq_append_getElem h, List.take_succ_eq_append_getElem h2, e, hx], fun hx hg => hx (by subst hg; rfl)⟩
theorem neq_vote (x y : Vt) (w : World) : (binOp .neq 27 (.agg #[.int .i64 x.r, .int .i64 x.a, .int .i64 x.d]) (.agg #[.int .i64 y.r, .int .i64 y.a, .int .i64 y.d])).run Try.prog w = .ok (.bool (decide (x ≠ y))) w := by
  have hS : Try.prog.underlying 27 = some (.struct (Try.prog.fieldsOf 27)) := by kernel_rfl
  have hp : Try.prog.stoodInHeld 27 = false := by kernel_rfl
  rw [run_neq_struct, show (10000 : Nat) = 9999 + 1 from rfl, run_equalIn_agg w 9999 27 _ _ hS hp]
  simp only [Program.fieldsOf, Try.underlying27]
  go_simp
  obtain ⟨xr, xa, xd⟩ := x
  obtain ⟨yr, ya, yd⟩ := y
  by_cases h1 : xr = yr <;> by_cases h2 : xa = ya <;> by_cases h3 : xd = yd <;> simp [h1, h2, h3]
set_option maxHeartbeats 4000000 in
set_option maxRecDepth 8000 in
theorem laws_sameVoter (f f2 : Int) (g g2 : List Vt) (v v2 : Value) (fp fp2 : List Nat) (w : World) (hbig : g.length ≤ 1099511627776) (hg : Vts w g v fp) (hg2 : Vts w g2 v2 fp2) :
    Calls Try.prog 14 #[.agg #[.int .i64 f, v], .agg #[.int .i64 f2, v2]] w fun e w' => e = .returned (.bool (decide (f = f2) && decide (g = g2))) ∧ Below w.heap.size w w' := by
  obtain ⟨va, vc, rfl⟩ := hg.slice
  obtain ⟨va2, vc2, rfl⟩ := hg2.slice
  have hb0 : Below w.heap.size w ((w.alloc (.cells #[.int .i64 f, .slice va g.length vc] 25)).alloc (.cells #[.int .i64 f2, .slice va2 g2.length vc2] 25)) := ((Below.refl _ _).alloc (Nat.le_refl _) _).alloc (by simp) _
  have sx := (Str.new w 25 #[.int .i64 f, .slice va g.length vc]).alloc (.cells #[.int .i64 f2, .slice va2 g2.length vc2] 25)
  have sy := Str.new (w.alloc (.cells #[.int .i64 f, .slice va g.length vc] 25)) 25 #[.int .i64 f2, .slice va2 g2.length vc2]
  simp only [World.size_alloc] at sy
  have SX := Lib.hid (show Str ((w.alloc (.cells #[.int .i64 f, .slice va g.length vc] 25)).alloc (.cells #[.int .i64 f2, .slice va2 g2.length vc2] 25)) (w.heap.size) 25 #[.int .i64 f, .slice va g.length vc] from sx)
  have SY := Lib.hid (show Str ((w.alloc (.cells #[.int .i64 f, .slice va g.length vc] 25)).alloc (.cells #[.int .i64 f2, .slice va2 g2.length vc2] 25)) (w.heap.size + 1) 25 #[.int .i64 f2, .slice va2 g2.length vc2] from sy)
  have Hg := Lib.hid hg; have Hg2 := Lib.hid hg2
  have Hb := Lib.hid hb0
  clear sx sy hb0 hg hg2
  go_enter Try.func14, Try.ntmps14
  by_cases hf : f = f2
  case neg =>
    have Hf := Lib.hid hf
    have cX_0 := SX.out.cell 0 (v := .int .i64 f) rfl
    have cX_1 := SX.out.cell 1 (v := .slice va g.length vc) rfl
    have cY_0 := SY.out.cell 0 (v := .int .i64 f2) rfl
    have cY_1 := SY.out.cell 1 (v := .slice va2 g2.length vc2) rfl
    go_wp2
    clear cX_0 cX_1 cY_0 cY_1
    go_ret
    exact ⟨ret_bool (by simp [Hf.out]), Hb.out⟩
  subst hf
  by_cases hl : (g.length : Int) = (g2.length : Int)
  case neg =>
    have Hl := Lib.hid hl
    have cX_0 := SX.out.cell 0 (v := .int .i64 f) rfl
    have cX_1 := SX.out.cell 1 (v := .slice va g.length vc) rfl
    have cY_0 := SY.out.cell 0 (v := .int .i64 f) rfl
    have cY_1 := SY.out.cell 1 (v := .slice va2 g2.length vc2) rfl
    go_wp2
    clear cX_0 cX_1 cY_0 cY_1
    go_ret
    exact ⟨ret_bool (by have : g ≠ g2 := fun e => Hl.out (by rw [e]); simp [this]), Hb.out⟩
  have Hl := Lib.hid hl
  have cX_0 := SX.out.cell 0 (v := .int .i64 f) rfl
  have cX_1 := SX.out.cell 1 (v := .slice va g.length vc) rfl
  have cY_0 := SY.out.cell 0 (v := .int .i64 f) rfl
  have cY_1 := SY.out.cell 1 (v := .slice va2 g2.length vc2) rfl
  go_wp2
  clear cX_0 cX_1 cY_0 cY_1
  generalize ((w.alloc (.cells #[.int .i64 f, .slice va g.length vc] 25)).alloc (.cells #[.int .i64 f, .slice va2 g2.length vc2] 25)) = W0 at *
  go_loopw [5] (fun i wr => ∃ k : Nat, k ≤ g.length ∧ i = .int .i64 k ∧ g.take k = g2.take k ∧ Below W0.heap.size W0 wr) (fun i _ => g.length - (intOf i).toNat)
  case atStart => exact ⟨0, by omega, rfl, rfl, Below.refl _ _⟩
  case round =>
    obtain ⟨k, hk, rfl, hup, hbel⟩ := hrel
    have SX := Lib.hid (show Str wr (w.heap.size) 25 #[.int .i64 f, .slice va g.length vc] from (hbel.block _ SX.out.lt).trans SX.out)
    have SY := Lib.hid (show Str wr (w.heap.size + 1) 25 #[.int .i64 f, .slice va2 g2.length vc2] from (hbel.block _ SY.out.lt).trans SY.out)
    have hsz9 := hbel.size
    have Hb := Lib.hid (below_step Hb.out Hb.out.size hbel)
    have HW := Lib.hid hbel
    have Hup := Lib.hid hup
    clear hbel hup
    by_cases hlt : k < g.length
    · skip
      have hlt2 : k < g2.length := by have := Hl.out; omega
      obtain ⟨b, off, rfl, hbk, hat⟩ := Hg.out.at (by omega)
      obtain ⟨e0, e1, e2⟩ := hat k hlt
      clear hat
      have C0 := Lib.hid ((Hb.out.cell (p := ⟨b, off + k * 3, none⟩) hbk).trans e0)
      have C1 := Lib.hid ((Hb.out.cell (p := ⟨b, off + k * 3 + 1, none⟩) hbk).trans e1)
      have C2 := Lib.hid ((Hb.out.cell (p := ⟨b, off + k * 3 + 2, none⟩) hbk).trans e2)
      clear e0 e1 e2
      obtain ⟨b2, off2, rfl, hb2k, hat⟩ := Hg2.out.at (by omega)
      obtain ⟨e0, e1, e2⟩ := hat k hlt2
      clear hat
      have D0 := Lib.hid ((Hb.out.cell (p := ⟨b2, off2 + k * 3, none⟩) hb2k).trans e0)
      have D1 := Lib.hid ((Hb.out.cell (p := ⟨b2, off2 + k * 3 + 1, none⟩) hb2k).trans e1)
      have D2 := Lib.hid ((Hb.out.cell (p := ⟨b2, off2 + k * 3 + 2, none⟩) hb2k).trans e2)
      clear e0 e1 e2
      have hst := sv_step hlt hlt2 Hup.out
      have Hst := Lib.hid hst; clear hst
      generalize hx : g[k] = x at *
      generalize hy : g2[k] = y at *
      obtain ⟨xr, xa, xd⟩ := x
      obtain ⟨yr, ya, yd⟩ := y
      dsimp only at *
      clear hx hy
      have hd : decide ((k : Int) < (g.length : Int)) = true := decide_eq_true (by omega)
      have hd' : (k : Int) < (g.length : Int) := by omega
      have hd2 : (k : Int) < (g2.length : Int) := by omega
      by_cases hxy : (⟨xr, xa, xd⟩ : Vt) = ⟨yr, ya, yd⟩
      · skip
        have hq := fun W => neq_vote ⟨xr, xa, xd⟩ ⟨yr, ya, yd⟩ W
        rw [show decide ((⟨xr, xa, xd⟩ : Vt) ≠ ⟨yr, ya, yd⟩) = false from decide_eq_false (by simpa using hxy)] at hq
        have Hxy := Lib.hid hxy; clear hxy
        dsimp only at hq
        have cX_0 := SX.out.cell 0 (v := .int .i64 f) rfl
        have cX_1 := SX.out.cell 1 (v := .slice (some ⟨b, off, none⟩) g.length vc) rfl
        have cY_0 := SY.out.cell 0 (v := .int .i64 f) rfl
        have cY_1 := SY.out.cell 1 (v := .slice (some ⟨b2, off2, none⟩) g2.length vc2) rfl
        go_wp2_with fail
        clear cX_0 cX_1 cY_0 cY_1
        have hdr : Below wr.heap.size wr wr.drew := (Below.refl _ _).drew
        have SX := Lib.hid (show Str wr.drew (w.heap.size) 25 #[.int .i64 f, .slice (some ⟨b, off, none⟩) g.length vc] from SX.out)
        have SY := Lib.hid (show Str wr.drew (w.heap.size + 1) 25 #[.int .i64 f, .slice (some ⟨b2, off2, none⟩) g2.length vc2] from SY.out)
        have C0 := Lib.hid (show wr.drew.cell? ⟨b, off + k * 3, none⟩ = some (.int .i64 xr) from C0.out)
        have C1 := Lib.hid (show wr.drew.cell? ⟨b, off + k * 3 + 1, none⟩ = some (.int .i64 xa) from C1.out)
        have C2 := Lib.hid (show wr.drew.cell? ⟨b, off + k * 3 + 2, none⟩ = some (.int .i64 xd) from C2.out)
        have D0 := Lib.hid (show wr.drew.cell? ⟨b2, off2 + k * 3, none⟩ = some (.int .i64 yr) from D0.out)
        have D1 := Lib.hid (show wr.drew.cell? ⟨b2, off2 + k * 3 + 1, none⟩ = some (.int .i64 ya) from D1.out)
        have D2 := Lib.hid (show wr.drew.cell? ⟨b2, off2 + k * 3 + 2, none⟩ = some (.int .i64 yd) from D2.out)
        have HW := Lib.hid HW.out.drew
        have Hb := Lib.hid Hb.out.drew
        have hzwd : wr.heap.size ≤ wr.drew.heap.size := Nat.le_refl _
        clear hdr
        refine wp_region_held_drew (S := fun w' => w'.cell? ⟨w.heap.size, 0, none⟩ = some (.int .i64 f) ∧ w'.cell? ⟨w.heap.size, 1, none⟩ = some (.slice (some ⟨b, off, none⟩) g.length vc) ∧ w'.cell? ⟨w.heap.size + 1, 0, none⟩ = some (.int .i64 f) ∧ w'.cell? ⟨w.heap.size + 1, 1, none⟩ = some (.slice (some ⟨b2, off2, none⟩) g2.length vc2) ∧ w'.cell? ⟨b, off + k * 3, none⟩ = some (.int .i64 xr) ∧ w'.cell? ⟨b, off + k * 3 + 1, none⟩ = some (.int .i64 xa) ∧ w'.cell? ⟨b, off + k * 3 + 2, none⟩ = some (.int .i64 xd) ∧ w'.cell? ⟨b2, off2 + k * 3, none⟩ = some (.int .i64 yr) ∧ w'.cell? ⟨b2, off2 + k * 3 + 1, none⟩ = some (.int .i64 ya) ∧ w'.cell? ⟨b2, off2 + k * 3 + 2, none⟩ = some (.int .i64 yd)) (by kernel_rfl) ⟨SX.out.cell 0 (v := .int .i64 f) rfl, SX.out.cell 1 (v := .slice (some ⟨b, off, none⟩) g.length vc) rfl, SY.out.cell 0 (v := .int .i64 f) rfl, SY.out.cell 1 (v := .slice (some ⟨b2, off2, none⟩) g2.length vc2) rfl, C0.out, C1.out, C2.out, D0.out, D1.out, D2.out⟩ (fun hH => ?_)
        generalize wr.drew = wd at *
        refine takeH 0 (v := ?vt1) rfl (by kernel_rfl) (by kernel_rfl) (by kernel_rfl) (fun _ _ _ h => h) hH rfl ?yt1 ?rt1
        case yt1 => intro W hSw; go_simp; try with_reducible rfl
        try simp only [Act.put, List.setIfInBounds_toArray, List.set_cons_zero, List.set_cons_succ]
        refine takeH 1 (v := ?vt2) rfl (by kernel_rfl) (by kernel_rfl) (by kernel_rfl) (fun _ _ _ h => h) hH rfl ?yt2 ?rt2
        case yt2 => intro W hSw; go_simp; try with_reducible rfl
        try simp only [Act.put, List.setIfInBounds_toArray, List.set_cons_zero, List.set_cons_succ]
        refine takeH 2 (v := ?vt3) rfl (by kernel_rfl) (by kernel_rfl) (by kernel_rfl) (fun _ _ _ h => h) hH rfl ?yt3 ?rt3
        case yt3 => intro W hSw; go_simp; try with_reducible rfl
        try simp only [Act.put, List.setIfInBounds_toArray, List.set_cons_zero, List.set_cons_succ]
        refine takeH 3 (v := ?vt4) rfl (by kernel_rfl) (by kernel_rfl) (by kernel_rfl) (fun _ _ _ h => h) hH rfl ?yt4 ?rt4
        case yt4 => intro W hSw; go_simp; try with_reducible rfl
        try simp only [Act.put, List.setIfInBounds_toArray, List.set_cons_zero, List.set_cons_succ]
        refine takeH 4 (v := ?vt5) rfl (by kernel_rfl) (by kernel_rfl) (by kernel_rfl) (fun _ _ _ h => h) hH rfl ?yt5 ?rt5
        case yt5 => intro W hSw; go_simp; try with_reducible rfl
        try simp only [Act.put, List.setIfInBounds_toArray, List.set_cons_zero, List.set_cons_succ]
        refine takeH 5 (v := ?vt6) rfl (by kernel_rfl) (by kernel_rfl) (by kernel_rfl) (fun _ _ _ h => h) hH rfl ?yt6 ?rt6
        case yt6 => intro W hSw; go_simp; try with_reducible rfl
        try simp only [Act.put, List.setIfInBounds_toArray, List.set_cons_zero, List.set_cons_succ]
        refine takeH 6 (v := ?vt7) rfl (by kernel_rfl) (by kernel_rfl) (by kernel_rfl) (fun _ _ _ h => h) hH rfl ?yt7 ?rt7
        case yt7 => intro W hSw; go_simp; try with_reducible rfl
        try simp only [Act.put, List.setIfInBounds_toArray, List.set_cons_zero, List.set_cons_succ]
        refine takeH 7 (v := ?vt8) rfl (by kernel_rfl) (by kernel_rfl) (by kernel_rfl) (fun _ _ _ h => h) hH rfl ?yt8 ?rt8
        case yt8 => intro W hSw; go_simp; try with_reducible rfl
        try simp only [Act.put, List.setIfInBounds_toArray, List.set_cons_zero, List.set_cons_succ]
        refine takeH 8 (v := ?vt9) rfl (by kernel_rfl) (by kernel_rfl) (by kernel_rfl) (fun _ _ _ h => h) hH rfl ?yt9 ?rt9
        case yt9 => intro W hSw; go_simp; try with_reducible rfl
        try simp only [Act.put, List.setIfInBounds_toArray, List.set_cons_zero, List.set_cons_succ]
        refine takeH 9 (v := ?vt10) rfl (by kernel_rfl) (by kernel_rfl) (by kernel_rfl) (fun _ _ _ h => h) hH rfl ?yt10 ?rt10
        case yt10 => intro W hSw; go_simp; try with_reducible rfl
        try simp only [Act.put, List.setIfInBounds_toArray, List.set_cons_zero, List.set_cons_succ]
        refine takeH 10 (v := ?vt11) rfl (by kernel_rfl) (by kernel_rfl) (by kernel_rfl) (fun _ _ _ h => h) hH rfl ?yt11 ?rt11
        case yt11 => intro W hSw; go_simp; try with_reducible rfl
        try simp only [Act.put, List.setIfInBounds_toArray, List.set_cons_zero, List.set_cons_succ]
        refine wpAnyH_done (by kernel_rfl) ?_ _
        clear hH hq
        try simp only [Act.put]
        go_wp2
        go_roundw
        case rel => exact ⟨k + 1, by omega, by go_num, Hst.out.1 Hxy.out, HW.out⟩
        case measure => simp [intOf]; omega
      have hq := fun W => neq_vote ⟨xr, xa, xd⟩ ⟨yr, ya, yd⟩ W
      rw [show decide ((⟨xr, xa, xd⟩ : Vt) ≠ ⟨yr, ya, yd⟩) = true from decide_eq_true hxy] at hq
      have Hxy := Lib.hid hxy; clear hxy
      dsimp only at hq
      have cX_0 := SX.out.cell 0 (v := .int .i64 f) rfl
      have cX_1 := SX.out.cell 1 (v := .slice (some ⟨b, off, none⟩) g.length vc) rfl
      have cY_0 := SY.out.cell 0 (v := .int .i64 f) rfl
      have cY_1 := SY.out.cell 1 (v := .slice (some ⟨b2, off2, none⟩) g2.length vc2) rfl
      go_wp2_with fail
      clear cX_0 cX_1 cY_0 cY_1
      have hdr : Below wr.heap.size wr wr.drew := (Below.refl _ _).drew
      have SX := Lib.hid (show Str wr.drew (w.heap.size) 25 #[.int .i64 f, .slice (some ⟨b, off, none⟩) g.length vc] from SX.out)
      have SY := Lib.hid (show Str wr.drew (w.heap.size + 1) 25 #[.int .i64 f, .slice (some ⟨b2, off2, none⟩) g2.length vc2] from SY.out)
      have C0 := Lib.hid (show wr.drew.cell? ⟨b, off + k * 3, none⟩ = some (.int .i64 xr) from C0.out)
      have C1 := Lib.hid (show wr.drew.cell? ⟨b, off + k * 3 + 1, none⟩ = some (.int .i64 xa) from C1.out)
      have C2 := Lib.hid (show wr.drew.cell? ⟨b, off + k * 3 + 2, none⟩ = some (.int .i64 xd) from C2.out)
      have D0 := Lib.hid (show wr.drew.cell? ⟨b2, off2 + k * 3, none⟩ = some (.int .i64 yr) from D0.out)
      have D1 := Lib.hid (show wr.drew.cell? ⟨b2, off2 + k * 3 + 1, none⟩ = some (.int .i64 ya) from D1.out)
      have D2 := Lib.hid (show wr.drew.cell? ⟨b2, off2 + k * 3 + 2, none⟩ = some (.int .i64 yd) from D2.out)
      have HW := Lib.hid HW.out.drew
      have Hb := Lib.hid Hb.out.drew
      have hzwd : wr.heap.size ≤ wr.drew.heap.size := Nat.le_refl _
      clear hdr
      refine wp_region_held_drew (S := fun w' => w'.cell? ⟨w.heap.size, 0, none⟩ = some (.int .i64 f) ∧ w'.cell? ⟨w.heap.size, 1, none⟩ = some (.slice (some ⟨b, off, none⟩) g.length vc) ∧ w'.cell? ⟨w.heap.size + 1, 0, none⟩ = some (.int .i64 f) ∧ w'.cell? ⟨w.heap.size + 1, 1, none⟩ = some (.slice (some ⟨b2, off2, none⟩) g2.length vc2) ∧ w'.cell? ⟨b, off + k * 3, none⟩ = some (.int .i64 xr) ∧ w'.cell? ⟨b, off + k * 3 + 1, none⟩ = some (.int .i64 xa) ∧ w'.cell? ⟨b, off + k * 3 + 2, none⟩ = some (.int .i64 xd) ∧ w'.cell? ⟨b2, off2 + k * 3, none⟩ = some (.int .i64 yr) ∧ w'.cell? ⟨b2, off2 + k * 3 + 1, none⟩ = some (.int .i64 ya) ∧ w'.cell? ⟨b2, off2 + k * 3 + 2, none⟩ = some (.int .i64 yd)) (by kernel_rfl) ⟨SX.out.cell 0 (v := .int .i64 f) rfl, SX.out.cell 1 (v := .slice (some ⟨b, off, none⟩) g.length vc) rfl, SY.out.cell 0 (v := .int .i64 f) rfl, SY.out.cell 1 (v := .slice (some ⟨b2, off2, none⟩) g2.length vc2) rfl, C0.out, C1.out, C2.out, D0.out, D1.out, D2.out⟩ (fun hH => ?_)
      generalize wr.drew = wd at *
      refine takeH 0 (v := ?vt12) rfl (by kernel_rfl) (by kernel_rfl) (by kernel_rfl) (fun _ _ _ h => h) hH rfl ?yt12 ?rt12
      case yt12 => intro W hSw; go_simp; try with_reducible rfl
      try simp only [Act.put, List.setIfInBounds_toArray, List.set_cons_zero, List.set_cons_succ]
      refine takeH 1 (v := ?vt13) rfl (by kernel_rfl) (by kernel_rfl) (by kernel_rfl) (fun _ _ _ h => h) hH rfl ?yt13 ?rt13
      case yt13 => intro W hSw; go_simp; try with_reducible rfl
      try simp only [Act.put, List.setIfInBounds_toArray, List.set_cons_zero, List.set_cons_succ]
      refine takeH 2 (v := ?vt14) rfl (by kernel_rfl) (by kernel_rfl) (by kernel_rfl) (fun _ _ _ h => h) hH rfl ?yt14 ?rt14
      case yt14 => intro W hSw; go_simp; try with_reducible rfl
      try simp only [Act.put, List.setIfInBounds_toArray, List.set_cons_zero, List.set_cons_succ]
      refine takeH 3 (v := ?vt15) rfl (by kernel_rfl) (by kernel_rfl) (by kernel_rfl) (fun _ _ _ h => h) hH rfl ?yt15 ?rt15
      case yt15 => intro W hSw; go_simp; try with_reducible rfl
      try simp only [Act.put, List.setIfInBounds_toArray, List.set_cons_zero, List.set_cons_succ]
      refine takeH 4 (v := ?vt16) rfl (by kernel_rfl) (by kernel_rfl) (by kernel_rfl) (fun _ _ _ h => h) hH rfl ?yt16 ?rt16
      case yt16 => intro W hSw; go_simp; try with_reducible rfl
      try simp only [Act.put, List.setIfInBounds_toArray, List.set_cons_zero, List.set_cons_succ]
      refine takeH 5 (v := ?vt17) rfl (by kernel_rfl) (by kernel_rfl) (by kernel_rfl) (fun _ _ _ h => h) hH rfl ?yt17 ?rt17
      case yt17 => intro W hSw; go_simp; try with_reducible rfl
      try simp only [Act.put, List.setIfInBounds_toArray, List.set_cons_zero, List.set_cons_succ]
      refine takeH 6 (v := ?vt18) rfl (by kernel_rfl) (by kernel_rfl) (by kernel_rfl) (fun _ _ _ h => h) hH rfl ?yt18 ?rt18
      case yt18 => intro W hSw; go_simp; try with_reducible rfl
      try simp only [Act.put, List.setIfInBounds_toArray, List.set_cons_zero, List.set_cons_succ]
      refine takeH 7 (v := ?vt19) rfl (by kernel_rfl) (by kernel_rfl) (by kernel_rfl) (fun _ _ _ h => h) hH rfl ?yt19 ?rt19
      case yt19 => intro W hSw; go_simp; try with_reducible rfl
      try simp only [Act.put, List.setIfInBounds_toArray, List.set_cons_zero, List.set_cons_succ]
      refine takeH 8 (v := ?vt20) rfl (by kernel_rfl) (by kernel_rfl) (by kernel_rfl) (fun _ _ _ h => h) hH rfl ?yt20 ?rt20
      case yt20 => intro W hSw; go_simp; try with_reducible rfl
      try simp only [Act.put, List.setIfInBounds_toArray, List.set_cons_zero, List.set_cons_succ]
      refine takeH 9 (v := ?vt21) rfl (by kernel_rfl) (by kernel_rfl) (by kernel_rfl) (fun _ _ _ h => h) hH rfl ?yt21 ?rt21
      case yt21 => intro W hSw; go_simp; try with_reducible rfl
      try simp only [Act.put, List.setIfInBounds_toArray, List.set_cons_zero, List.set_cons_succ]
      refine takeH 10 (v := ?vt22) rfl (by kernel_rfl) (by kernel_rfl) (by kernel_rfl) (fun _ _ _ h => h) hH rfl ?yt22 ?rt22
      case yt22 => intro W hSw; go_simp; try with_reducible rfl
      try simp only [Act.put, List.setIfInBounds_toArray, List.set_cons_zero, List.set_cons_succ]
      refine wpAnyH_done (by kernel_rfl) ?_ _
      clear hH hq
      try simp only [Act.put]
      go_wp2
      go_ret
      exact ⟨ret_bool (by simp [Hst.out.2 Hxy.out]), Hb.out⟩
    have hge : ¬ (k : Int) < (g.length : Int) := by omega
    have hd : decide ((k : Int) < (g.length : Int)) = false := decide_eq_false hge
    have heq : g = g2 := by have h := Hup.out; rwa [List.take_of_length_le (by omega), List.take_of_length_le (by have := Hl.out; omega)] at h
    have Heq := Lib.hid heq; clear heq
    have cX_0 := SX.out.cell 0 (v := .int .i64 f) rfl
    have cX_1 := SX.out.cell 1 (v := .slice va g.length vc) rfl
    have cY_0 := SY.out.cell 0 (v := .int .i64 f) rfl
    have cY_1 := SY.out.cell 1 (v := .slice va2 g2.length vc2) rfl
    go_wp2
    clear cX_0 cX_1 cY_0 cY_1
    go_ret
    exact ⟨ret_bool (by simp [Heq.out]), Hb.out⟩

end Go.Proofs.Ytkndndcjchlpdaa
