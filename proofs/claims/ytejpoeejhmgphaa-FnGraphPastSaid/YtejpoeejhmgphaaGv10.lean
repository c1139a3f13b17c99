/- The draw of a graph that is seldom invalid: what is drawn reads as a graph in new memory; by a walk of its text; condition: at most 10^4 picks before. -/
import Derived.Test.YtejpoeejhmgphaaRows
import Derived.Test.YtejpoeejhmgphaaGv9
import Derived.Test.YtejpoeejhmgphaaBa
namespace Go.Proofs.Ytejpoeejhmgphaa
open Go.RowKit

theorem members_geG {n : Nat} {ms : List Int} (h : membersB n ms = true) : ∀ k (hk : k < ms.length), (k : Int) ≤ ms[k] := by
  intro k
  induction k with
  | zero => intro hk; have := (okAt_bd hk (allB_upto h 0 hk)).1; omega
  | succ k ih =>
    intro hk
    have h1 := ih (by omega)
    have := (okAt_bd hk (allB_upto h (k + 1) hk)).2.2
    rcases this with h0 | h0
    · omega
    · rw [Nat.add_sub_cancel, getD_get (by omega)] at h0; omega
theorem members_lenG {n : Nat} {ms : List Int} (h : membersB n ms = true) : ms.length ≤ n := by
  rcases Nat.eq_zero_or_pos ms.length with h0 | h0
  · omega
  · have h1 := members_geG h (ms.length - 1) (by omega)
    have h2 := (membersB_at h (ms.length - 1) (by omega)).2
    omega
theorem gOk_ps {c : List Int} {g : List Vx} (h : GOk c g) : ∀ x ∈ g, x.ps.length ≤ c.length := fun x hx => by
  have := h.1 x hx
  unfold vtxB at this
  simp only [Bool.and_eq_true] at this
  exact members_lenG this.2.2.1
theorem ownR_gr {E Ei : TypeId} {sz : Nat} {w : World} {B hi : Nat} {v : Value} {g : List Vx} (h : OwnR E Ei sz w B hi v (g.map Vx.fd)) : ∃ fp, Gr w g v fp ∧ ∀ r ∈ fp, B ≤ r := by
  obtain ⟨fp, hr, hf⟩ := h.bld.rd
  exact ⟨fp, hr, hf⟩
theorem set_mem {g : List Vx} {k : Nat} {x : Vx} {m : Nat} (h : ∀ y ∈ g, y.ps.length ≤ m) (hx : x.ps.length ≤ m) : ∀ y ∈ g.set k x, y.ps.length ≤ m := fun y hy => by
  rcases List.mem_or_eq_of_mem_set hy with hy | rfl
  · exact h y hy
  · exact hx
section
variable {E Ei : TypeId} {w : World} {B hi gb n cap : Nat} {g : List Vx} {k : Nat}
theorem vx_cells (h : OwnR E Ei 4 w B hi (.slice (some ⟨gb, 0, none⟩) n cap) (g.map Vx.fd)) (hk : k < g.length) :
    w.cell? ⟨gb, k * 4, none⟩ = some (.int .i64 g[k].r) ∧ w.cell? ⟨gb, k * 4 + 1, none⟩ = some (.int .i64 g[k].a) ∧ (∃ pa pc, w.cell? ⟨gb, k * 4 + 2, none⟩ = some (.slice pa g[k].ps.length pc)) ∧ w.cell? ⟨gb, k * 4 + 3, none⟩ = some (.int .i64 g[k].d) ∧
    w.frozen? ⟨gb, k * 4, none⟩ = false ∧ w.frozen? ⟨gb, k * 4 + 1, none⟩ = false ∧ w.frozen? ⟨gb, k * 4 + 2, none⟩ = false ∧ w.frozen? ⟨gb, k * 4 + 3, none⟩ = false := by
  have hk' : k < (g.map Vx.fd).length := by simpa using hk
  have he : (g.map Vx.fd)[k] = g[k].fd := by simp
  have h0 := h.fieldI (k := k) (j := 0) hk' (by rw [he]; simp [Vx.fd]) (x := g[k].r) (by simp only [he]; rfl)
  have h1 := h.fieldI (k := k) (j := 1) hk' (by rw [he]; simp [Vx.fd]) (x := g[k].a) (by simp only [he]; rfl)
  obtain ⟨pa, pc, h2, _, f2, _⟩ := h.fieldL (k := k) (j := 2) hk' (by rw [he]; simp [Vx.fd]) (xs := g[k].ps) (by simp only [he]; rfl)
  have h3 := h.fieldI (k := k) (j := 3) hk' (by rw [he]; simp [Vx.fd]) (x := g[k].d) (by simp only [he]; rfl)
  exact ⟨h0.1, h1.1, ⟨pa, pc, h2⟩, h3.1, h0.2, h1.2, f2, h3.2⟩
theorem vx_setI (h : OwnR E Ei 4 w B hi (.slice (some ⟨gb, 0, none⟩) n cap) (g.map Vx.fd)) (hn : n = g.length) (hk : k < g.length) (j : Nat) (hj : j < 4) (z : Int) (x : Vx) (hx : (g[k].fd).set j (.i z) = x.fd) :
    OwnR E Ei 4 (w.setCell ⟨gb, k * 4 + j, none⟩ (.int .i64 z)) B hi (.slice (some ⟨gb, 0, none⟩) n cap) ((g.set k x).map Vx.fd) := by
  have := h.setI (by simpa using hn) (k := k) (j := j) (by simpa using hk) hj z
  rwa [List.getElem_map, hx, ← List.map_set] at this
theorem vx_setP {hi' : Nat} {u : Value} {ps : List Int} (h : OwnR E Ei 4 w B hi (.slice (some ⟨gb, 0, none⟩) n cap) (g.map Vx.fd)) (hn : n = g.length) (hk : k < g.length) (ho : Own Ei w B u ps) (hhi : hi ≤ hi') (hu : ∀ b, u.ownBlock = some b → hi ≤ b ∧ b < hi') :
    OwnR E Ei 4 (w.setCell ⟨gb, k * 4 + 2, none⟩ u) B hi' (.slice (some ⟨gb, 0, none⟩) n cap) ((g.set k ⟨g[k].r, g[k].a, ps, g[k].d⟩).map Vx.fd) := by
  have := h.setF (by simpa using hn) (k := k) (j := 2) (by simpa using hk) (by omega) (f := .l ps) (show FdOk Ei w B u (.l ps) from ho) hhi hu
  rwa [List.getElem_map, show (g[k].fd).set 2 (.l ps) = Vx.fd ⟨g[k].r, g[k].a, ps, g[k].d⟩ from rfl, ← List.map_set] at this
end

set_option maxRecDepth 8000 in
set_option maxHeartbeats 4000000 in
theorem drawSpoilt (R p : Nat) (rounds : Int) (w : World) (hp : p ≤ 10000) (hn0 : 0 ≤ rounds) (hn1 : rounds ≤ 40) (hr : Rdr w R p) (hR : R < w.heap.size) :
    Calls Try.prog 28 #[.pointer (some ⟨R, 0, none⟩), .int .i64 rounds] w fun e w' => ∃ vc c vg g fp p', e = .returned (.tuple #[vc, vg]) ∧ Own 3 w' w.heap.size vc c ∧ c.length ≤ 11 ∧ Gr w' g vg fp ∧ (∀ r ∈ fp, w.heap.size ≤ r) ∧ g.length ≤ 281 ∧ (∀ x ∈ g, x.ps.length ≤ 100) ∧ Rdr w' R p' ∧ p' ≤ p + 90000 ∧ w.grownBy w' (some R) := by
  go_enter Try.func28, Try.ntmps28
  go_wp2_with fail
  refine (drawGoodV R p _ (by omega) hr hR).mono ?_
  rintro e w1 ⟨vc, c, p1, rfl, hoc, hv, hr1, hp1, hg1⟩
  obtain ⟨ac, cc, rfl, hic, _⟩ := hoc.ints
  obtain ⟨hc1, hc7⟩ := validB_len hv
  have hs1 := hg1.size
  have hR1 : R < w1.heap.size := by omega
  have Hoc := Lib.hid hoc; clear hoc
  have Hcb := Lib.hid (fun b e => (Hoc.out.lt b e).2)
  have Hdg := Lib.hid (drawGraph R p1 rounds w1 ac cc c (by omega) hn0 hn1 hv hr1 hR1 (fun W hW => (Hoc.out.kept hW (.inr fun e => by have := (Hoc.out.lt R e).1; omega)).at))
  have Hg1 := Lib.hid hg1; clear hg1 hr1 hic
  go_wp2_with fail
  refine Hdg.out.mono ?_
  rintro e w2 ⟨vg, g, p2, rfl, hog, hok, hgl, hr2, hp2, hg2⟩
  have hs2 := hg2.size
  have Hoc2 := Lib.hid (Hoc.out.kept hg2 (.inr fun e => by have := (Hoc.out.lt R e).1; omega))
  have Hr2 := Lib.hid hr2; clear hr2
  have Hg2 := Lib.hid (grownBy_trans Hg1.out hg2); clear hg2
  have Hog2 := Lib.hid hog; clear hog
  have hps := gOk_ps hok
  have Hps := Lib.hid (show ∀ x ∈ g, x.ps.length ≤ 100 from fun x hx => Nat.le_trans (hps x hx) (by omega)); clear hps hok hv Hdg Hoc
  by_cases hg0 : g.length = 0
  · have hgn : g = [] := List.eq_nil_of_length_eq_zero hg0
    subst hgn
    obtain ⟨ag, cg, rfl, _⟩ := Hog2.out.slice
    go_wp2
    go_ret2
    obtain ⟨fp, h1, h2⟩ := ownR_gr Hog2.out
    exact ⟨_, c, _, [], fp, p2, rfl, Hoc2.out, by omega, h1, fun r hr => Nat.le_trans hs1 (h2 r hr), by simp, by simp, Hr2.out, by omega, Hg2.out⟩
  obtain ⟨gb, cg, rfl, hBg, hgh, hgs⟩ := Hog2.out.head (by rw [List.length_map]; omega)
  rw [List.length_map] at *
  have hgne : ((g.length : Int) == 0) = false := by rw [beq_eq_false_iff_ne]; omega
  go_wp2_with fail
  refine (pick_any R (g.length : Int) p2 _ (by omega) Hr2.out (by omega)).mono ?_
  rintro e w3 ⟨k, rfl, hk0, hk1, hr3, hg3⟩
  obtain ⟨k, rfl⟩ := Int.eq_ofNat_of_zero_le hk0
  have hk : k < g.length := by omega
  have hs3 := hg3.size
  have Hoc3 := Lib.hid (Hoc2.out.kept hg3 (.inr fun e => by have := (Hoc2.out.lt R e).1; omega))
  have Hog3 := Lib.hid (Hog2.out.same fun b h1 h2 => hg3.block b (by omega) (fun e => by cases e; omega))
  have Hr3 := Lib.hid hr3; clear hr3
  have Hg3 := Lib.hid (grownBy_trans Hg2.out hg3); clear hg3
  go_wp2_with fail
  refine (pick_any R 20 (p2 + 1) _ (by omega) Hr3.out (by omega)).mono ?_
  rintro e w4 ⟨s, rfl, hs0, hs20, hr4, hg4⟩
  have hs4 := hg4.size
  have Hoc4 := Lib.hid (Hoc3.out.kept hg4 (.inr fun e => by have := (Hoc3.out.lt R e).1; omega))
  have Hog4 := Lib.hid (Hog3.out.same fun b h1 h2 => hg4.block b (by omega) (fun e => by cases e; omega))
  have Hr4 := Lib.hid hr4; clear hr4
  have Hg4 := Lib.hid (grownBy_trans Hg3.out hg4); clear hg4
  clear Hoc2 Hoc3 Hog2 Hog3 Hr2 Hr3 Hg1 Hg2 Hg3 hk0 hk1 hg0 hgne hs20 hs0
  by_cases h0 : s = 0
  · subst h0
    go_wp2_with fail
    refine (drawDigest R (p2 + 1 + 1) _ (by omega) Hr4.out).mono ?_
    rintro e w5 ⟨d, p5, rfl, hd0, hd1, hr5, hp5, hg5⟩
    have hs5 := hg5.size
    have Hoc5 := Lib.hid (Hoc4.out.kept hg5 (.inr fun e => by have := (Hoc4.out.lt R e).1; omega))
    have hog5 := Hog4.out.same fun b h1 h2 => hg5.block b (by omega) (fun e => by cases e; omega)
    obtain ⟨q0, q1, ⟨pa, pc, q2⟩, q3, f0, f1, f2, f3⟩ := vx_cells hog5 hk
    have Hog5 := Lib.hid (show OwnR 30 3 4 (w5.setCell ⟨gb, k * 4 + 3, none⟩ (.int .i64 (d))) _ _ _ _ from vx_setI hog5 rfl hk 3 (by omega) (d) ⟨g[k].r, g[k].a, g[k].ps, d⟩ rfl); clear hog5
    have Hr5 := Lib.hid hr5; clear hr5
    have Hg5 := Lib.hid (grownBy_trans Hg4.out hg5); clear hg5
    have hpk := Hps.out _ (List.getElem_mem hk)
    go_wp2
    go_ret2
    obtain ⟨fp, h1, h2⟩ := ownR_gr Hog5.out
    exact ⟨_, c, _, _, fp, p5, rfl, Hoc5.out.set_other (fun e => by have := Hcb.out gb e; omega) _ _, by omega, h1, fun r hr => Nat.le_trans hs1 (h2 r hr), by rw [List.length_set]; omega, set_mem Hps.out hpk, Hr5.out.kept (grownBy_set w5 gb _ _) (fun g e => by cases e; omega), by omega, grown_row Hg5.out (grownBy_set w5 gb _ _) (fun g e => by cases e; omega)⟩
  have e0 : (s == 0) = false := by rw [beq_eq_false_iff_ne]; exact h0
  clear h0
  by_cases h1 : s = 1
  · subst h1
    go_wp2_with fail
    refine (pick_any R 33 (p2 + 1 + 1) _ (by omega) Hr4.out (by omega)).mono ?_
    rintro e w5 ⟨d, rfl, hd0, hd1, hr5, hg5⟩
    have hs5 := hg5.size
    have Hoc5 := Lib.hid (Hoc4.out.kept hg5 (.inr fun e => by have := (Hoc4.out.lt R e).1; omega))
    have hog5 := Hog4.out.same fun b h1 h2 => hg5.block b (by omega) (fun e => by cases e; omega)
    obtain ⟨q0, q1, ⟨pa, pc, q2⟩, q3, f0, f1, f2, f3⟩ := vx_cells hog5 hk
    have Hog5 := Lib.hid (show OwnR 30 3 4 (w5.setCell ⟨gb, k * 4, none⟩ (.int .i64 (d - 1))) _ _ _ _ from by have := vx_setI hog5 rfl hk 0 (by omega) (d - 1) ⟨d - 1, g[k].a, g[k].ps, g[k].d⟩ rfl; rwa [Nat.add_zero] at this); clear hog5
    have Hr5 := Lib.hid hr5; clear hr5
    have Hg5 := Lib.hid (grownBy_trans Hg4.out hg5); clear hg5
    have hpk := Hps.out _ (List.getElem_mem hk)
    have hwd : IntKind.i64.wrap (d - 1) = d - 1 := IntWalk.i64_in _ (by omega)
    go_wp2
    go_ret2
    obtain ⟨fp, h1, h2⟩ := ownR_gr Hog5.out
    exact ⟨_, c, _, _, fp, p2 + 1 + 1 + 1, rfl, Hoc5.out.set_other (fun e => by have := Hcb.out gb e; omega) _ _, by omega, h1, fun r hr => Nat.le_trans hs1 (h2 r hr), by rw [List.length_set]; omega, set_mem Hps.out hpk, Hr5.out.kept (grownBy_set w5 gb _ _) (fun g e => by cases e; omega), by omega, grown_row Hg5.out (grownBy_set w5 gb _ _) (fun g e => by cases e; omega)⟩
  have e1 : (s == 1) = false := by rw [beq_eq_false_iff_ne]; exact h1
  clear h1
  by_cases h2 : s = 2
  · subst h2
    go_wp2_with fail
    refine (pick_any R 9 (p2 + 1 + 1) _ (by omega) Hr4.out (by omega)).mono ?_
    rintro e w5 ⟨d, rfl, hd0, hd1, hr5, hg5⟩
    have hs5 := hg5.size
    have Hoc5 := Lib.hid (Hoc4.out.kept hg5 (.inr fun e => by have := (Hoc4.out.lt R e).1; omega))
    have hog5 := Hog4.out.same fun b h1 h2 => hg5.block b (by omega) (fun e => by cases e; omega)
    obtain ⟨q0, q1, ⟨pa, pc, q2⟩, q3, f0, f1, f2, f3⟩ := vx_cells hog5 hk
    have Hog5 := Lib.hid (show OwnR 30 3 4 (w5.setCell ⟨gb, k * 4 + 1, none⟩ (.int .i64 (d - 1))) _ _ _ _ from vx_setI hog5 rfl hk 1 (by omega) (d - 1) ⟨g[k].r, d - 1, g[k].ps, g[k].d⟩ rfl); clear hog5
    have Hr5 := Lib.hid hr5; clear hr5
    have Hg5 := Lib.hid (grownBy_trans Hg4.out hg5); clear hg5
    have hpk := Hps.out _ (List.getElem_mem hk)
    have hwd : IntKind.i64.wrap (d - 1) = d - 1 := IntWalk.i64_in _ (by omega)
    go_wp2
    go_ret2
    obtain ⟨fp, h1, h2⟩ := ownR_gr Hog5.out
    exact ⟨_, c, _, _, fp, p2 + 1 + 1 + 1, rfl, Hoc5.out.set_other (fun e => by have := Hcb.out gb e; omega) _ _, by omega, h1, fun r hr => Nat.le_trans hs1 (h2 r hr), by rw [List.length_set]; omega, set_mem Hps.out hpk, Hr5.out.kept (grownBy_set w5 gb _ _) (fun g e => by cases e; omega), by omega, grown_row Hg5.out (grownBy_set w5 gb _ _) (fun g e => by cases e; omega)⟩
  have e2 : (s == 2) = false := by rw [beq_eq_false_iff_ne]; exact h2
  clear h2
  by_cases h3 : s = 3
  · subst h3
    go_wp2_with fail
    refine (drawMembers R (p2 + 1 + 1) c.length _ (by omega) (by omega) Hr4.out (by omega)).mono ?_
    rintro e w5 ⟨u, ps, p5, rfl, hu, hul, hr5, hp5, hg5⟩
    have hs5 := hg5.size
    have Hoc5 := Lib.hid (Hoc4.out.kept hg5 (.inr fun e => by have := (Hoc4.out.lt R e).1; omega))
    have hog5 := Hog4.out.same fun b h1 h2 => hg5.block b (by omega) (fun e => by cases e; omega)
    obtain ⟨q0, q1, ⟨pa, pc, q2⟩, q3, f0, f1, f2, f3⟩ := vx_cells hog5 hk
    have hul2 := hu.lt
    obtain ⟨au, cu, rfl, _, _⟩ := hu.ints
    have Hog5 := Lib.hid (vx_setP (hi' := w5.heap.size) hog5 rfl hk (hu.mono (show w1.heap.size ≤ w4.heap.size by omega)) (by omega) (fun b e => by have := hul2 b e; omega)); clear hog5 hu hul2
    have Hr5 := Lib.hid hr5; clear hr5
    have Hg5 := Lib.hid (grownBy_trans Hg4.out hg5); clear hg5
    go_wp2
    go_ret2
    obtain ⟨fp, h1, h2⟩ := ownR_gr Hog5.out
    exact ⟨_, c, _, _, fp, p5, rfl, Hoc5.out.set_other (fun e => by have := Hcb.out gb e; omega) _ _, by omega, h1, fun r hr => Nat.le_trans hs1 (h2 r hr), by rw [List.length_set]; omega, set_mem Hps.out (by simp only; omega), Hr5.out.kept (grownBy_set w5 gb _ _) (fun g e => by cases e; omega), by omega, grown_row Hg5.out (grownBy_set w5 gb _ _) (fun g e => by cases e; omega)⟩
  have e3 : (s == 3) = false := by rw [beq_eq_false_iff_ne]; exact h3
  clear h3
  by_cases h4 : s = 4
  · subst h4
    obtain ⟨fp, hgr, hfp⟩ := ownR_gr Hog4.out
    have hfl := hgr.lt
    obtain ⟨_, _, e, _, _, h9, hcg, h8⟩ := Rd.at hgr (sz := 4) (by simp; omega) (by intro e he; obtain ⟨e', he', rfl⟩ := List.mem_map.1 he; obtain ⟨y, _, rfl⟩ := List.mem_map.1 he'; rfl)
    clear e h9 h8
    have hsz4 : ∀ e ∈ (g.map Vx.fd).map (fun e => e.map Fd.dt), e.length = 4 := by intro e he; obtain ⟨e', he', rfl⟩ := List.mem_map.1 he; obtain ⟨y, _, rfl⟩ := List.mem_map.1 he'; rfl
    obtain ⟨fpA, hA, hAf⟩ := Rd.cut hgr hsz4 0 k 0 cg (by simp; omega) (fun _ => by simp) (fun _ => by omega)
    obtain ⟨o2, hif, fpB, hB, hBf⟩ := Rd.tail hgr hsz4 (k + 1) (by simp; omega)
    rw [Nat.zero_add] at hif
    rw [List.drop_zero] at hA
    simp only [List.length_map] at hB
    have HA := Lib.hid hA; clear hA
    have HB := Lib.hid hB; clear hB
    have HAf := Lib.hid (show ∀ r ∈ fpA, w1.heap.size ≤ r ∧ r < w4.heap.size from fun r hr => ⟨hfp r (hAf r hr), hfl r (hAf r hr)⟩)
    have HBf := Lib.hid (show ∀ r ∈ fpB, w1.heap.size ≤ r ∧ r < w4.heap.size from fun r hr => ⟨hfp r (hBf r hr), hfl r (hBf r hr)⟩)
    have Hszs := Lib.hid hsz4; clear hsz4 hgr hfp hfl hAf hBf Hog4
    have hwk : IntKind.i64.wrap ((k : Int) + 1) = (k : Int) + 1 := IntWalk.i64_in _ (by omega)
    have e1 : ((k : Int) + 1).toNat = k + 1 := by omega
    have e2 : 0 ≤ (k : Int) + 1 := by omega
    have e3' : (k : Int) + 1 ≤ (g.length : Int) := by omega
    have e4' : (k : Int) ≤ (cg : Int) := by omega
    have e5' : k ≤ cg := by omega
    have e6' : k + 1 ≤ g.length := by omega
    have e7' : (g.length : Int) ≤ (cg : Int) := by omega
    go_wp2_with fail
    refine wp_region_held_drew (S := fun _ => True) (by kernel_rfl) trivial (fun hH => ?_)
    refine takeH 1 (v := ?v1) rfl (by kernel_rfl) (by kernel_rfl) (by kernel_rfl) (fun _ _ _ h => h) hH rfl ?y1 ?r1
    case y1 => intro W hSw; go_simp; try with_reducible rfl
    try simp only [Act.put, List.setIfInBounds_toArray, List.set_cons_zero, List.set_cons_succ]
    refine takeH 2 (v := ?v2) rfl (by kernel_rfl) (by kernel_rfl) (by kernel_rfl) (fun _ _ _ h => h) hH rfl ?y2 ?r2
    case y2 => intro W hSw; go_simp; try with_reducible rfl
    try simp only [Act.put, List.setIfInBounds_toArray, List.set_cons_zero, List.set_cons_succ]
    refine takeH 3 (v := ?v3) rfl (by kernel_rfl) (by kernel_rfl) (by kernel_rfl) (fun _ _ _ h => h) hH rfl ?y3 ?r3
    case y3 => intro W hSw; go_simp; try with_reducible rfl
    try simp only [Act.put, List.setIfInBounds_toArray, List.set_cons_zero, List.set_cons_succ]
    refine takeH 5 (v := ?v5) rfl (by kernel_rfl) (by kernel_rfl) (by kernel_rfl) (fun _ _ _ h => h) hH rfl ?y5 ?r5
    case y5 => intro W hSw; go_simp; try with_reducible rfl
    try simp only [Act.put, List.setIfInBounds_toArray, List.set_cons_zero, List.set_cons_succ]
    refine takeH 6 (v := ?v6) rfl (by kernel_rfl) (by kernel_rfl) (by kernel_rfl) (fun _ _ _ h => h) hH rfl ?y6 ?r6
    case y6 => intro W hSw; go_simp; try with_reducible rfl
    try simp only [Act.put, List.setIfInBounds_toArray, List.set_cons_zero, List.set_cons_succ]
    refine takeH 7 (v := ?v7) rfl (by kernel_rfl) (by kernel_rfl) (by kernel_rfl) (fun _ _ _ h => h) hH rfl ?y7 ?r7
    case y7 => intro W hSw; go_simp; try with_reducible rfl
    try simp only [Act.put, List.setIfInBounds_toArray, List.set_cons_zero, List.set_cons_succ]
    refine takeH 8 (v := ?v8) rfl (by kernel_rfl) (by kernel_rfl) (by kernel_rfl) (fun _ _ _ h => h) hH rfl ?y8 ?r8
    case y8 => intro W hSw; go_simp; try with_reducible rfl
    try simp only [Act.put, List.setIfInBounds_toArray, List.set_cons_zero, List.set_cons_succ]
    refine callH 0 rfl (by kernel_rfl) rfl (fun K hK => ?_)
    go_simp
    refine hK.out _ _ trivial (fun hH => ?_)
    clear hK K
    try simp only [Act.put, List.setIfInBounds_toArray, List.set_cons_zero, List.set_cons_succ]
    have hga : w4.grownBy ((w4.alloc (.cells #[] 30)).drew) none := grownBy_drewN (World.grownBy_alloc w4 (.cells #[] 30) none) 1
    have hbn : Bld 30 4 ((w4.alloc (.cells #[] 30)).drew) w1.heap.size (.slice (some ⟨w4.heap.size, 0, none⟩) 0 0) [] := Bld.nil (World.ownsRow_made w4 #[] 0 (show w1.heap.size ≤ w4.heap.size by omega) (by simp) (by simp))
    have hza : ((w4.alloc (.cells #[] 30)).drew).heap.size = w4.heap.size + 1 := by show (w4.alloc (.cells #[] 30)).heap.size = _; rw [World.size_alloc]
    have hA1 := HA.out.grown hga (fun r e => by cases e)
    have hB1 := HB.out.grown hga (fun r e => by cases e)
    generalize (w4.alloc (.cells #[] 30)).drew = w5 at *
    refine callH 4 rfl (by kernel_rfl) rfl (fun K hK => ?_)
    refine op_app_rows Try.underlying24 vertex_inf rfl (by decide) (by decide) w5 (.tmp 64) (.tmp 67) rfl w1.heap.size (.slice (some ⟨w4.heap.size, 0, none⟩) 0 0) (.slice (some ⟨gb, 0, none⟩) k cg) [] _ fpA rfl hbn rfl hA1 (fun e he => Hszs.out e (List.mem_of_mem_take he)) (fun r hr => ⟨(HAf.out r hr).1, fun e => by have := (HAf.out r hr).2; simp [Value.ownBlock] at e; omega⟩) (by simp; omega) (by omega) ?_
    intro v6 w6 hbl6 hg6 hlo6
    rw [List.nil_append] at hbl6
    have hB2 := hB1.grown hg6 (fun r e hm => by have := (HBf.out r hm).2; simp [Value.ownBlock] at e; omega)
    have hs6 := hg6.size
    refine hK.out _ _ trivial (fun hH => ?_)
    clear hK K
    try simp only [Act.put, List.setIfInBounds_toArray, List.set_cons_zero, List.set_cons_succ]
    refine callH 9 rfl (by kernel_rfl) rfl (fun K hK => ?_)
    refine op_app_rows Try.underlying24 vertex_inf rfl (by decide) (by decide) w6 (.tmp 68) (.tmp 72) rfl w1.heap.size v6 (.slice (some ⟨gb, o2, none⟩) (g.length - (k + 1)) (cg - (k + 1))) _ _ fpB rfl hbl6 (by first | rfl | (rw [← hif]; rfl)) hB2 (fun e he => Hszs.out e (List.mem_of_mem_drop he)) (fun r hr => ⟨(HBf.out r hr).1, fun e => by
      have := (HBf.out r hr).2
      rcases hlo6 r e with h | h
      · simp [Value.ownBlock] at h; omega
      · omega⟩) (by simp; omega) (by omega) ?_
    intro v7 w7 hbl7 hg7 hlo7
    refine hK.out _ _ trivial (fun hH => ?_)
    clear hK K
    try simp only [Act.put, List.setIfInBounds_toArray, List.set_cons_zero, List.set_cons_succ]
    refine takeH 10 (v := ?v10) rfl (by kernel_rfl) (by kernel_rfl) (by kernel_rfl) (fun _ _ _ h => h) hH rfl ?y10 ?r10
    case y10 => intro W hSw; go_simp; try with_reducible rfl
    try simp only [Act.put, List.setIfInBounds_toArray, List.set_cons_zero, List.set_cons_succ]
    refine wpAnyH_done (by kernel_rfl) ?_ _
    try simp only [Act.put]
    have hv6 : ∀ q, v6.ownBlock = some q → w4.heap.size ≤ q := fun q e => by
      rcases hlo6 q e with h | h
      · simp [Value.ownBlock] at h; omega
      · omega
    have hr5 := (Hr4.out.kept hga (fun q e => by cases e)).kept hg6 (fun q e => by have h : w4.heap.size = q := (by simpa [Value.ownBlock] using e); omega)
    have hoc7 := ((Hoc4.out.kept hga (by cases (Value.slice ac c.length cc).ownBlock <;> simp)).kept hg6 (.inr (fun e => by have h : w4.heap.size < w1.heap.size := Hcb.out _ e; omega))).kept hg7 (by
      cases hvc : (Value.slice ac c.length cc).ownBlock with
      | none => exact .inl rfl
      | some q => exact .inr fun e => by have := Hcb.out q hvc; have := hv6 q e.symm; omega)
    have Hr7 := Lib.hid (hr5.kept hg7 (fun q e => by have := hv6 q e; omega))
    have Hoc7 := Lib.hid hoc7
    have Hg7 := Lib.hid (grown_row (grown_row (grown_row Hg4.out hga (fun q e => by cases e)) hg6 (fun q e => by have h : w4.heap.size = q := (by simpa [Value.ownBlock] using e); omega)) hg7 (fun q e => by have := hv6 q e; omega))
    obtain ⟨fp, h1, h2⟩ := hbl7.rd
    have hgr : Gr w7 (g.take k ++ g.drop (k + 1)) v7 fp := by unfold Gr rowsD; rw [List.map_append, List.map_append, List.map_take, List.map_take, List.map_drop, List.map_drop]; exact h1
    have Hgr := Lib.hid hgr
    have Hfp := Lib.hid h2
    have Hps7 := Lib.hid (show ∀ x ∈ g.take k ++ g.drop (k + 1), x.ps.length ≤ 100 from fun x hx => by
      rcases List.mem_append.1 hx with hx | hx
      · exact Hps.out x (List.mem_of_mem_take hx)
      · exact Hps.out x (List.mem_of_mem_drop hx))
    clear hgr h1 h2 hoc7 hr5 hbl7 hbl6 hB2 hA1 hB1 hg7 hg6 hga
    go_wp2
    go_ret2
    exact ⟨_, c, v7, _, fp, p2 + 1 + 1, rfl, Hoc7.out, by omega, Hgr.out, fun r hr => Nat.le_trans hs1 (Hfp.out r hr), by rw [List.length_append, List.length_take, List.length_drop]; omega, Hps7.out, Hr7.out, by omega, Hg7.out⟩
  have e4 : (s == 4) = false := by rw [beq_eq_false_iff_ne]; exact h4
  clear h4
  by_cases h5 : s = 5
  · subst h5
    have hk' : k < (g.map Vx.fd).length := by simpa using hk
    have he : (g.map Vx.fd)[k] = g[k].fd := by simp
    obtain ⟨q0, q1, _, q3, _⟩ := vx_cells Hog4.out hk
    obtain ⟨pa, pc, q2, ho2, _, hne2, _⟩ := Hog4.out.fieldL (k := k) (j := 2) hk' (by rw [he]; simp [Vx.fd]) (xs := g[k].ps) (by simp only [he]; rfl)
    obtain ⟨fp2, hr2, hf2⟩ := Rd.of_own ho2
    have hcr : CellsRd w4 w1.heap.size (Value.slice (some ⟨gb, 0, none⟩) g.length cg).ownBlock [.int .i64 g[k].r, .int .i64 g[k].a, .slice pa g[k].ps.length pc, .int .i64 g[k].d] [.i g[k].r, .i g[k].a, intsD g[k].ps, .i g[k].d] := by
      intro j hj
      match j, hj with
      | 0, _ => exact ⟨_, [], rfl, .i _, by simp⟩
      | 1, _ => exact ⟨_, [], rfl, .i _, by simp⟩
      | 2, _ => exact ⟨_, fp2, rfl, hr2, fun r hr => ⟨(hf2 r hr).1, fun e => hne2 ((hf2 r hr).2.trans e.symm)⟩⟩
      | 3, _ => exact ⟨_, [], rfl, .i _, by simp⟩
    have Hcr := Lib.hid hcr; clear hcr ho2 hr2 hf2 hne2
    have Hbl := Lib.hid Hog4.out.bld
    have hel : ((g.map Vx.fd).map fun e => e.map Fd.dt).length ≤ 1048576 := by rw [List.length_map, List.length_map]; omega
    have Hex := Lib.hid (show ((g ++ [g[k]]).map Vx.fd).map (fun e => e.map Fd.dt) = (g.map Vx.fd).map (fun e => e.map Fd.dt) ++ [[.i g[k].r, .i g[k].a, intsD g[k].ps, .i g[k].d]] by rw [List.map_append, List.map_append]; rfl)
    have Hlt4 := Lib.hid Hog4.out.lt
    have hB4 : w1.heap.size ≤ w4.heap.size := by omega
    have hpk := Hps.out _ (List.getElem_mem hk)
    have Hap := Lib.hid (Hog4.out.apartI Hoc4.out (by decide))
    clear Hog4 he hk'
    generalize (g.map Vx.fd).map (fun e => e.map Fd.dt) = es at *
    generalize hy : g[k] = y at *
    go_wp2_with (at_builtin; refine wpList_push_row Try.underlying24 vertex_inf rfl (by decide) (by decide) rfl (.tmp 76) (.tmp 81) rfl w1.heap.size (.slice (some ⟨gb, 0, none⟩) g.length cg) es _ _ _ rfl rfl (by intro u hu; simp at hu; rcases hu with rfl | rfl | rfl | rfl <;> rfl) rfl Hbl.out rfl Hcr.out hel rfl hB4 ?_; intro v8 w8 hbl8 hg8 hat8)
    go_ret2
    obtain ⟨fp, h1, h2⟩ := hbl8.rd
    have hgr : Gr w8 (g ++ [y]) v8 fp := by unfold Gr rowsD; rw [Hex.out]; exact h1
    exact ⟨_, c, v8, g ++ [y], fp, p2 + 1 + 1, rfl, Hoc4.out.kept hg8 Hap.out, by omega, hgr, fun r hr => Nat.le_trans hs1 (h2 r hr), by rw [List.length_append]; simp; omega, fun x hx => by
      rcases List.mem_append.1 hx with hx | hx
      · exact Hps.out x hx
      · simp at hx; subst hx; exact hpk, Hr4.out.kept hg8 (fun q e => by have := (Hbl.out.lt q e).1; omega), by omega, grown_row Hg4.out hg8 (fun q e => by have := (Hbl.out.lt q e).1; omega)⟩
  have e5 : (s == 5) = false := by rw [beq_eq_false_iff_ne]; exact h5
  clear h5
  by_cases h6 : s = 6
  · subst h6
    go_wp2_with fail
    refine (drawCommittee R (p2 + 1 + 1) _ (by omega) Hr4.out (by omega)).mono ?_
    rintro e w5 ⟨u, c5, p5, rfl, hu, hul, _, hr5, hp5, hg5⟩
    have hs5 := hg5.size
    have Hog5 := Lib.hid (Hog4.out.same fun b h1 h2 => hg5.block b (by omega) (fun e => by cases e; omega))
    obtain ⟨au, cu, rfl, _, _⟩ := hu.ints
    have Hu := Lib.hid (hu.mono (show w.heap.size ≤ w4.heap.size by omega)); clear hu
    have Hr5 := Lib.hid hr5; clear hr5
    have Hg5 := Lib.hid (grownBy_trans Hg4.out hg5); clear hg5
    go_wp2
    go_ret2
    obtain ⟨fp, h1, h2⟩ := ownR_gr Hog5.out
    exact ⟨_, c5, _, g, fp, p5, rfl, Hu.out, hul, h1, fun r hr => Nat.le_trans hs1 (h2 r hr), by omega, Hps.out, Hr5.out, by omega, Hg5.out⟩
  have e6 : (s == 6) = false := by rw [beq_eq_false_iff_ne]; exact h6
  clear h6
  go_wp2
  go_ret2
  obtain ⟨fp, h1, h2⟩ := ownR_gr Hog4.out
  exact ⟨_, c, _, g, fp, p2 + 1 + 1, rfl, Hoc4.out, by omega, h1, fun r hr => Nat.le_trans hs1 (h2 r hr), by omega, Hps.out, Hr4.out, by omega, Hg4.out⟩

end Go.Proofs.Ytejpoeejhmgphaa
