/- Texts that the laws of this folder share, one behind another; no conditions. -/
import Derived.Test.YthnbjdijcpcafaaRows
import Derived.Test.YthnbjdijcpcafaaBu2
import Derived.Test.YthnbjdijcpcafaaBu0
import Derived.Deep.MidRow
import Derived.Laws.Rows
import Derived.Laws.CopyRow
import Derived.Test.YthnbjdijcpcafaaBu1
import Derived.Maps.AppendAt

/- impl's linking of a list of vertices, by a walk of its text; conditions: lists are shorter than 2^40 (a graph: 2^20). -/
namespace Go.Proofs.Ythnbjdijcpcafaa
open Go.RowKit

/-- The vertex at place k may be added to those ahead of it. -/
def stepB (c : List Int) (g : List Vx) (k : Nat) : Bool := (k == 0 || befB (g.getD (k - 1) vx0) (g.getD k vx0)) && (vtxB c (g.getD k vx0) && parB (g.take k) (g.getD k vx0))
theorem hasP_iff {g : List Vx} {r : Int} {ps : List Int} {k : Nat} : hasP g r ps k = true ↔ ∃ y ∈ g, y.r = r - 1 ∧ y.a = ps.getD k 0 := by
  unfold hasP
  rw [decide_eq_true_iff]
  rcases findZ_cases g (r - 1) (ps.getD k 0) with ⟨e, hn⟩ | ⟨j, hj, e, hs, _⟩
  · rw [e]
    refine ⟨fun h => by omega, fun ⟨y, hy, er, ea⟩ => ?_⟩
    have := hn y hy
    unfold sameRA at this
    simp [er, ea] at this
  · rw [e]
    refine ⟨fun _ => ⟨g[j], List.getElem_mem hj, of_decide_eq_true hs⟩, fun _ => by omega⟩
theorem parB_iff {g : List Vx} {x : Vx} : parB g x = true ↔ ∀ p ∈ x.ps, ∃ y ∈ g, y.r = x.r - 1 ∧ y.a = p := by
  constructor
  · intro h p hp
    obtain ⟨k, hk, rfl⟩ := List.mem_iff_getElem.1 hp
    have := hasP_iff.1 (allB_upto h k hk)
    rwa [getD_get hk] at this
  · intro h
    refine allB_yes (k := x.ps.length) (fun k hk => hasP_iff.2 ?_) (Nat.le_refl _)
    rw [getD_get hk]
    exact h _ (List.getElem_mem hk)
theorem step_srt {c : List Int} {g : List Vx} : ∀ k, k ≤ g.length → Upto (stepB c g) k → Srt (g.take k) ∧ ∀ y ∈ g.take k, vtxB c y = true
  | 0, _, _ => ⟨by simp [Srt], by simp⟩
  | k + 1, hk, h => by
    obtain ⟨h1, h2⟩ := step_srt k (by omega) (fun j hj => h j (by omega))
    have hs := h k (by omega)
    unfold stepB at hs
    rw [getV (show k < g.length by omega)] at hs
    simp only [Bool.and_eq_true, Bool.or_eq_true, beq_iff_eq] at hs
    rw [List.take_succ_eq_append_getElem (show k < g.length by omega)]
    refine ⟨?_, ?_⟩
    · unfold Srt at *
      rw [List.pairwise_append]
      refine ⟨h1, by simp, fun a ha b hb => ?_⟩
      simp at hb; subst hb
      rcases hs.1 with e | e
      · subst e; simp at ha
      · rcases Nat.eq_zero_or_pos k with e0 | e0
        · subst e0; simp at ha
        · rw [getV (show k - 1 < g.length by omega)] at e
          obtain ⟨j, hj, rfl⟩ := List.mem_iff_getElem.1 ha
          rw [List.length_take] at hj
          rw [List.getElem_take]
          by_cases ej : j = k - 1
          · subst ej; exact e
          · have := (List.pairwise_iff_getElem.1 h1) j (k - 1) (by rw [List.length_take]; omega) (by rw [List.length_take]; omega) (by omega)
            rw [List.getElem_take, List.getElem_take] at this
            exact bef_trans this e
    · intro y hy
      rcases List.mem_append.1 hy with hy | hy
      · exact h2 y hy
      · simp at hy; subst hy; exact hs.2.1
theorem graph_step {c : List Int} {g : List Vx} : graphB c g = (validB c && allB (stepB c g) g.length) := by
  rw [Bool.eq_iff_iff]
  constructor
  · intro h
    have hs := graph_sorted h
    unfold graphB at h
    rw [Bool.and_eq_true] at h
    rw [Bool.and_eq_true]
    refine ⟨h.1, allB_yes (k := g.length) (fun k hk => ?_) (Nat.le_refl _)⟩
    have ho := allB_upto h.2 k hk
    unfold okV at ho
    unfold stepB
    simp only [Bool.and_eq_true] at ho ⊢
    refine ⟨ho.2.1, ho.1, parB_iff.2 fun p hp => ?_⟩
    obtain ⟨y, hy, er, ea⟩ := parB_iff.1 ho.2.2 p hp
    obtain ⟨j, hj, rfl⟩ := List.mem_iff_getElem.1 hy
    refine ⟨g[j], ?_, er, ea⟩
    rw [getV hk] at er
    have hjk : j < k := by
      rcases Nat.lt_trichotomy j k with h1 | h1 | h1
      · exact h1
      · subst h1; omega
      · have := befB_iff.1 ((List.pairwise_iff_getElem.1 hs) k j hk hj h1); omega
    exact List.mem_iff_getElem.2 ⟨j, by rw [List.length_take]; omega, by rw [List.getElem_take]⟩
  · intro h
    rw [Bool.and_eq_true] at h
    unfold graphB
    rw [Bool.and_eq_true]
    refine ⟨h.1, allB_yes (k := g.length) (fun k hk => ?_) (Nat.le_refl _)⟩
    have hs := allB_upto h.2 k hk
    unfold stepB at hs
    unfold okV
    simp only [Bool.and_eq_true] at hs ⊢
    refine ⟨hs.2.1, hs.1, parB_iff.2 fun p hp => ?_⟩
    obtain ⟨y, hy, er, ea⟩ := parB_iff.1 hs.2.2 p hp
    exact ⟨y, List.mem_of_mem_take hy, er, ea⟩
/-- What adding the next vertex answers, where it comes behind the one ahead of it. -/
theorem step_add {c : List Int} {g : List Vx} {k : Nat} (hk : k < g.length) (hu : Upto (stepB c g) k) (hb : k = 0 ∨ befB (g.getD (k - 1) vx0) g[k] = true) :
    (stepB c g k = true → adN c (g.take k) g[k] = 0 ∧ adG c (g.take k) g[k] = g.take (k + 1)) ∧ (stepB c g k = false → adN c (g.take k) g[k] ≠ 0) := by
  obtain ⟨h1, h2⟩ := step_srt k (by omega) hu
  have hall : ∀ y ∈ g.take k, befB y g[k] = true := by
    intro y hy
    rcases hb with e | e
    · subst e; simp at hy
    · rcases Nat.eq_zero_or_pos k with e0 | e0
      · subst e0; simp at hy
      · rw [getV (show k - 1 < g.length by omega)] at e
        obtain ⟨j, hj, rfl⟩ := List.mem_iff_getElem.1 hy
        rw [List.length_take] at hj
        rw [List.getElem_take]
        by_cases ej : j = k - 1
        · subst ej; exact e
        · have := (List.pairwise_iff_getElem.1 h1) j (k - 1) (by rw [List.length_take]; omega) (by rw [List.length_take]; omega) (by omega)
          rw [List.getElem_take, List.getElem_take] at this
          exact bef_trans this e
  have hno : ∀ y ∈ g.take k, ¬ (y.r = g[k].r ∧ y.a = g[k].a) := fun y hy e => by
    have := befB_iff.1 (hall y hy); omega
  have hs : stepB c g k = (vtxB c g[k] && parB (g.take k) g[k]) := by
    unfold stepB
    rw [getV hk]
    rcases hb with e | e
    · subst e; rfl
    · rw [e]; simp
  rw [hs]
  cases hv : vtxB c g[k] with
  | false => exact ⟨fun h => by simp at h, fun _ => by rw [(ad_not hv).1]; decide⟩
  | true =>
    obtain ⟨f1, f2⟩ := add_fresh hv hno
    refine ⟨fun h => ?_, fun h => ?_⟩
    · obtain ⟨e1, e2⟩ := f2 (by simpa using h)
      exact ⟨e1, by rw [e2, ins_last hall, List.take_succ_eq_append_getElem hk]⟩
    · rw [(f1 (by simpa using h)).1]; decide

def OfPost (w : World) (mv : Value) (c : List Int) (g : List Vx) : Ending → World → Prop := fun e w' => Below w.heap.size w w' ∧
  ((graphB c g = false ∧ e = .returned (.tuple #[.pointer none, .bool false])) ∨ (graphB c g = true ∧ ∃ G hi h, e = .returned (.tuple #[.pointer (some ⟨G, 0, none⟩), .bool true]) ∧ w.heap.size ≤ G ∧ Lk w w' hi G mv h g))
theorem of_no {w w' : World} {mv : Value} {c : List Int} {g : List Vx} {e : Ending} (h : graphB c g = false) (he : e = .returned (.tuple #[.pointer none, .bool false])) (hb : Below w.heap.size w w') : OfPost w mv c g e w' := ⟨hb, .inl ⟨h, he⟩⟩
theorem of_yes {w w' : World} {mv : Value} {c : List Int} {g : List Vx} {e : Ending} {G hi : Nat} {h : Nat → Value} (hg : graphB c g = true) (he : e = .returned (.tuple #[.pointer (some ⟨G, 0, none⟩), .bool true])) (hb : Below w.heap.size w w') (hG : w.heap.size ≤ G) (hl : Lk w w' hi G mv h g) : OfPost w mv c g e w' :=
  ⟨hb, .inr ⟨hg, G, hi, h, he, hG, hl⟩⟩
set_option maxRecDepth 8000 in
set_option maxHeartbeats 4000000 in
theorem impl_graphOf (ac : Option Addr) (capc : Nat) (c : List Int) (g : List Vx) (v : Value) (fp : List Nat) (w : World) (hn : c.length ≤ 1099511627776) (hbig : g.length ≤ 1048576) (hps : ∀ x ∈ g, x.ps.length ≤ 1099511627776) (hc : IntsAt w ac c) (hg : Gr w g v fp) :
    Calls Try.prog 35 #[.slice ac c.length capc, v] w (OfPost w (.slice ac c.length capc) c g) := by
  obtain ⟨va, vc, rfl⟩ := hg.slice
  have Hcv := Lib.hid (impl_CommitteeValid ac capc c w hn hc)
  cases hv : validB c with
  | false =>
    have hz : graphB c g = false := by unfold graphB; rw [hv]; rfl
    rw [hv] at Hcv
    have Hz := Lib.hid hz; clear hz hc hg hps
    go_enter Try.func35, Try.ntmps35
    go_wp2_with fail
    refine Hcv.out.mono ?_
    rintro e w1 ⟨rfl, rfl⟩
    go_wp2
    go_ret2
    exact of_no Hz.out rfl (Below.refl _ _)
  | true =>
  rw [hv] at Hcv
  have Hres := Lib.hid (show graphB c g = allB (stepB c g) g.length by rw [graph_step, hv]; rfl)
  have hA : Try.zeroCells77.setIfInBounds 0 (.slice ac c.length capc) = arrP 218 fun i => if i = 0 then .slice ac c.length capc else .pointer none := by kernel_rfl
  have hb0 : Below w.heap.size w (w.alloc (.cells (Try.zeroCells77.setIfInBounds 0 (.slice ac c.length capc)) 77)) := (Below.refl _ _).alloc (Nat.le_refl _) _
  have hL0 : Lk w (w.alloc (.cells (Try.zeroCells77.setIfInBounds 0 (.slice ac c.length capc)) 77)) (w.heap.size + 1) w.heap.size (.slice ac c.length capc) (fun i => if i = 0 then .slice ac c.length capc else .pointer none) [] :=
    Lk.new (by rw [hA]; exact Str.new w 77 _) (Nat.le_refl _) (by omega) (by simp)
  clear hA
  have HL0 := Lib.hid hL0; clear hL0
  have HP := Lib.hid hps; clear hps
  have Hc := Lib.hid hc; clear hc
  have Hg := Lib.hid hg; clear hg
  have Hb0 := Lib.hid hb0; clear hb0
  go_enter Try.func35, Try.ntmps35
  go_wp2_with fail
  refine Hcv.out.mono ?_
  rintro e w1 ⟨rfl, rfl⟩
  go_wp2_with fail
  go_loopw [17] (fun i wr => ∃ (k hi : Nat) (h : Nat → Value), k ≤ g.length ∧ i = .int .i64 k ∧ Upto (stepB c g) k ∧ Lk w wr hi w.heap.size (.slice ac c.length capc) h (g.take k) ∧ Below w.heap.size w wr) (fun i _ => g.length - (intOf i).toNat)
  case atStart => exact ⟨0, _, _, by omega, rfl, upto_zero _, HL0.out, Hb0.out⟩
  case round =>
    obtain ⟨k, hi, h, hk, rfl, hup, hL, hbel⟩ := hrel
    have HL := Lib.hid hL; clear hL
    have Hbel := Lib.hid hbel; clear hbel
    have Hup := Lib.hid hup; clear hup
    by_cases hlt : k < g.length
    · obtain ⟨b, off, rfl, hb, hat⟩ := Hg.out.at (by omega)
      obtain ⟨c0, c1, ⟨pa, pc, c2, i2, s2⟩, c3⟩ := hat k hlt
      have hpx := HP.out _ (List.getElem_mem hlt)
      have c0 := (Hbel.out.cell (p := ⟨b, off + k * 4, none⟩) hb).trans c0
      have c1 := (Hbel.out.cell (p := ⟨b, off + k * 4 + 1, none⟩) hb).trans c1
      have c2 := (Hbel.out.cell (p := ⟨b, off + k * 4 + 2, none⟩) hb).trans c2
      have c3 := (Hbel.out.cell (p := ⟨b, off + k * 4 + 3, none⟩) hb).trans c3
      have Hat := Lib.hid hat; clear hat
      have HSA := Lib.hid (step_add hlt Hup.out)
      have hbA : Below wr.heap.size wr (wr.alloc (.cells #[.int .i64 g[k].r, .int .i64 g[k].a, .slice pa g[k].ps.length pc, .int .i64 g[k].d] 25)) := (Below.refl _ _).alloc (Nat.le_refl _) _
      have s0 := Str.new wr 25 #[.int .i64 g[k].r, .int .i64 g[k].a, .slice pa g[k].ps.length pc, .int .i64 g[k].d]
      have k0 := s0.cell 0 (v := .int .i64 g[k].r) rfl
      have k1 := s0.cell 1 (v := .int .i64 g[k].a) rfl
      have k2 := s0.cell 2 (v := .slice pa g[k].ps.length pc) rfl
      have k3 := s0.cell 3 (v := .int .i64 g[k].d) rfl
      have hbwA := below_step Hbel.out Hbel.out.size hbA
      have hsr := step_srt k (by omega) Hup.out
      have hgpt : ∀ y ∈ g.take k, y.ps.length ≤ 1099511627776 := fun y hy => HP.out y (List.mem_of_mem_take hy)
      have HAdd := Lib.hid (fun W (hW : Below (wr.alloc (.cells #[.int .i64 g[k].r, .int .i64 g[k].a, .slice pa g[k].ps.length pc, .int .i64 g[k].d] 25)).heap.size (wr.alloc (.cells #[.int .i64 g[k].r, .int .i64 g[k].a, .slice pa g[k].ps.length pc, .int .i64 g[k].d] 25)) W) =>
        graph_add w W hi w.heap.size ac capc c h (g.take k) g[k] pa pc hv hpx hgpt s2 i2 Hc.out (below_step hbwA hbwA.size hW) ((HL.out.under hbA).under hW) hsr.1 hsr.2)
      have hltB : b < (wr.alloc (.cells #[.int .i64 g[k].r, .int .i64 g[k].a, .slice pa g[k].ps.length pc, .int .i64 g[k].d] 25)).heap.size := Nat.lt_of_lt_of_le hb hbwA.size
      have hlwB : w.heap.size < wr.heap.size := Nat.lt_of_lt_of_le HL.out.lt HL.out.le
      have hwrB : wr.heap.size < (wr.alloc (.cells #[.int .i64 g[k].r, .int .i64 g[k].a, .slice pa g[k].ps.length pc, .int .i64 g[k].d] 25)).heap.size := by simp
      have Hg1 := Lib.hid (show ∀ j, j < g.length → (wr.alloc (.cells #[.int .i64 g[k].r, .int .i64 g[k].a, .slice pa g[k].ps.length pc, .int .i64 g[k].d] 25)).cell? ⟨b, off + j * 4, none⟩ = some (.int .i64 (g.getD j vx0).r) ∧ (wr.alloc (.cells #[.int .i64 g[k].r, .int .i64 g[k].a, .slice pa g[k].ps.length pc, .int .i64 g[k].d] 25)).cell? ⟨b, off + j * 4 + 1, none⟩ = some (.int .i64 (g.getD j vx0).a) ∧ ∃ pa' pc', (wr.alloc (.cells #[.int .i64 g[k].r, .int .i64 g[k].a, .slice pa g[k].ps.length pc, .int .i64 g[k].d] 25)).cell? ⟨b, off + j * 4 + 2, none⟩ = some (.slice pa' (g.getD j vx0).ps.length pc') ∧ (wr.alloc (.cells #[.int .i64 g[k].r, .int .i64 g[k].a, .slice pa g[k].ps.length pc, .int .i64 g[k].d] 25)).cell? ⟨b, off + j * 4 + 3, none⟩ = some (.int .i64 (g.getD j vx0).d) from fun j hj => by
        obtain ⟨d0, d1, ⟨pa', pc', d2, _⟩, d3⟩ := Hat.out j hj
        rw [getV hj]
        exact ⟨(hbwA.cell (p := ⟨b, off + j * 4, none⟩) hb).trans d0, (hbwA.cell (p := ⟨b, off + j * 4 + 1, none⟩) hb).trans d1, pa', pc', (hbwA.cell (p := ⟨b, off + j * 4 + 2, none⟩) hb).trans d2, (hbwA.cell (p := ⟨b, off + j * 4 + 3, none⟩) hb).trans d3⟩)
      have HbwA := Lib.hid hbwA
      have hgk := getV hlt
      have Hgk := Lib.hid hgk
      clear hbA s0 hbwA hsr hgpt i2 s2 hpx Hat hgk HL
      generalize hx : g[k] = x at *
      have Hx := Lib.hid hx; clear hx
      obtain ⟨xr, xa, xp, xd⟩ := x
      dsimp only at *
      go_wp2_with fail
      generalize wr.alloc (.cells #[.int .i64 xr, .int .i64 xa, .slice pa xp.length pc, .int .i64 xd] 25) = wB at *
      clear c0 c1 c2 c3
      have hw1 : IntKind.i64.wrap ((k : Int) - 1) = k - 1 := IntWalk.i64_in _ (by omega)
      by_cases h0 : k = 0
      · have hgt : decide ((0 : Int) < (k : Int)) = false := decide_eq_false (by omega)
        have hgt' : ¬ (0 : Int) < (k : Int) := by omega
        have HS2 := Lib.hid (HSA.out (.inl h0))
        have H0 := Lib.hid h0; clear h0 hw1 HSA
        cases hst : stepB c g k with
        | false =>
          have Hne := Lib.hid (HS2.out.2 hst)
          have Hz := Lib.hid (allB_no hlt hst)
          refine wp_region_held_drew (S := fun w' => wB.grownBy w' (some w.heap.size) ∧ w'.cell? ⟨wr.heap.size, 0, none⟩ = some (.int .i64 xr) ∧ w'.cell? ⟨wr.heap.size, 1, none⟩ = some (.int .i64 xa) ∧ w'.cell? ⟨wr.heap.size, 2, none⟩ = some (.slice pa xp.length pc) ∧ w'.cell? ⟨wr.heap.size, 3, none⟩ = some (.int .i64 xd)) (by kernel_rfl) ⟨below_rowP (Below.refl _ _).drew _, k0, k1, k2, k3⟩ (fun hH => ?_)
          refine takeH 0 (v := ?va0) rfl (by kernel_rfl) (by kernel_rfl) (by kernel_rfl) (fun _ _ _ h => h) hH rfl ?ya0 ?ra0
          case ya0 => intro W hSw; go_simp; try with_reducible rfl
          try simp only [Act.put, List.setIfInBounds_toArray, List.set_cons_zero, List.set_cons_succ]
          refine takeH 1 (v := .bool false) rfl (by kernel_rfl) (by kernel_rfl) (by kernel_rfl) (fun _ _ _ h => h) hH rfl ?ya1 ?ra1
          case ya1 => intro W hSw; go_simp; first | done | simp only [hgt] | omega | (simp; omega)
          try simp only [Act.put, List.setIfInBounds_toArray, List.set_cons_zero, List.set_cons_succ]
          refine takeH 2 (v := ?va2) rfl (by kernel_rfl) (by kernel_rfl) (by kernel_rfl) (fun _ _ _ h => h) hH rfl ?ya2 ?ra2
          case ya2 => intro W hSw; go_simp; try with_reducible rfl
          try simp only [Act.put, List.setIfInBounds_toArray, List.set_cons_zero, List.set_cons_succ]
          refine skipH 3 rfl (by kernel_rfl) (by kernel_rfl) (by kernel_rfl) (fun _ _ _ h => h) hH rfl ?_
          try simp only [Act.put, List.setIfInBounds_toArray, List.set_cons_zero, List.set_cons_succ]
          refine skipH 4 rfl (by kernel_rfl) (by kernel_rfl) (by kernel_rfl) (fun _ _ _ h => h) hH rfl ?_
          try simp only [Act.put, List.setIfInBounds_toArray, List.set_cons_zero, List.set_cons_succ]
          refine skipH 5 rfl (by kernel_rfl) (by kernel_rfl) (by kernel_rfl) (fun _ _ _ h => h) hH rfl ?_
          try simp only [Act.put, List.setIfInBounds_toArray, List.set_cons_zero, List.set_cons_succ]
          refine skipH 6 rfl (by kernel_rfl) (by kernel_rfl) (by kernel_rfl) (fun _ _ _ h => h) hH rfl ?_
          try simp only [Act.put, List.setIfInBounds_toArray, List.set_cons_zero, List.set_cons_succ]
          refine skipH 7 rfl (by kernel_rfl) (by kernel_rfl) (by kernel_rfl) (fun _ _ _ h => h) hH rfl ?_
          try simp only [Act.put, List.setIfInBounds_toArray, List.set_cons_zero, List.set_cons_succ]
          refine skipH 8 rfl (by kernel_rfl) (by kernel_rfl) (by kernel_rfl) (fun _ _ _ h => h) hH rfl ?_
          try simp only [Act.put, List.setIfInBounds_toArray, List.set_cons_zero, List.set_cons_succ]
          refine skipH 9 rfl (by kernel_rfl) (by kernel_rfl) (by kernel_rfl) (fun _ _ _ h => h) hH rfl ?_
          try simp only [Act.put, List.setIfInBounds_toArray, List.set_cons_zero, List.set_cons_succ]
          refine skipH 10 rfl (by kernel_rfl) (by kernel_rfl) (by kernel_rfl) (fun _ _ _ h => h) hH rfl ?_
          try simp only [Act.put, List.setIfInBounds_toArray, List.set_cons_zero, List.set_cons_succ]
          refine takeH 11 (v := ?va11) rfl (by kernel_rfl) (by kernel_rfl) (by kernel_rfl) (fun _ _ _ h => h) hH rfl ?ya11 ?ra11
          case ya11 => intro W hSw; go_simp; try with_reducible rfl
          try simp only [Act.put, List.setIfInBounds_toArray, List.set_cons_zero, List.set_cons_succ]
          refine takeH 12 (v := ?va12) rfl (by kernel_rfl) (by kernel_rfl) (by kernel_rfl) (fun _ _ _ h => h) hH rfl ?ya12 ?ra12
          case ya12 => intro W hSw; go_simp; try with_reducible rfl
          try simp only [Act.put, List.setIfInBounds_toArray, List.set_cons_zero, List.set_cons_succ]
          refine takeH 13 (v := ?va13) rfl (by kernel_rfl) (by kernel_rfl) (by kernel_rfl) (fun _ _ _ h => h) hH rfl ?ya13 ?ra13
          case ya13 => intro W hSw; go_simp; try with_reducible rfl
          try simp only [Act.put, List.setIfInBounds_toArray, List.set_cons_zero, List.set_cons_succ]
          refine takeH 14 (v := ?va14) rfl (by kernel_rfl) (by kernel_rfl) (by kernel_rfl) (fun _ _ _ h => h) hH rfl ?ya14 ?ra14
          case ya14 => intro W hSw; go_simp; try with_reducible rfl
          try simp only [Act.put, List.setIfInBounds_toArray, List.set_cons_zero, List.set_cons_succ]
          refine callH 15 rfl (by kernel_rfl) rfl (fun K hK => ?_)
          go_simp
          go_at_call 36
          refine (HAdd.out _ ((Below.refl _ _).drew)).mono ?_
          rintro e wz ⟨rfl, hgz, _⟩
          generalize hm : adN c (g.take k) ⟨xr, xa, xp, xd⟩ = m at *
          have hm' : (m != 0) = true := by simpa using Hne.out
          clear hm
          refine hK.out _ _ ⟨grownBy_trans hH.1 (hgz), (hgz).cell hH.2.1 (by simp only [ne_eq, Option.some.injEq]; omega), (hgz).cell hH.2.2.1 (by simp only [ne_eq, Option.some.injEq]; omega), (hgz).cell hH.2.2.2.1 (by simp only [ne_eq, Option.some.injEq]; omega), (hgz).cell hH.2.2.2.2 (by simp only [ne_eq, Option.some.injEq]; omega)⟩ (fun hH => ?_)
          clear hK K
          try simp only [Act.put, List.setIfInBounds_toArray, List.set_cons_zero, List.set_cons_succ]
          refine takeH 16 (v := ?va16) rfl (by kernel_rfl) (by kernel_rfl) (by kernel_rfl) (fun _ _ _ h => h) hH rfl ?ya16 ?ra16
          case ya16 => intro W hSw; go_simp; try with_reducible rfl
          try simp only [Act.put, List.setIfInBounds_toArray, List.set_cons_zero, List.set_cons_succ]
          refine takeH 17 (v := ?va17) rfl (by kernel_rfl) (by kernel_rfl) (by kernel_rfl) (fun _ _ _ h => h) hH rfl ?ya17 ?ra17
          case ya17 => intro W hSw; go_simp; try with_reducible rfl
          try simp only [Act.put, List.setIfInBounds_toArray, List.set_cons_zero, List.set_cons_succ]
          refine wpAnyH_done (by kernel_rfl) ?_ _
          try simp only [Act.put]
          have Hend := Lib.hid (HbwA.out.grown hH.1 HbwA.out.size (fun g e => by cases e; exact Nat.le_refl _))
          go_wp2
          go_ret2
          exact of_no (by rw [Hres.out, Hz.out]) rfl Hend.out
        | true =>
          obtain ⟨hz1, hz2⟩ := HS2.out.1 hst
          have Hz1 := Lib.hid hz1
          have Hz2 := Lib.hid hz2
          have Hup1 := Lib.hid (upto_step Hup.out hst)
          clear hz1 hz2
          refine wp_region_held_drew (S := fun w' => wB.grownBy w' (some w.heap.size) ∧ w'.cell? ⟨wr.heap.size, 0, none⟩ = some (.int .i64 xr) ∧ w'.cell? ⟨wr.heap.size, 1, none⟩ = some (.int .i64 xa) ∧ w'.cell? ⟨wr.heap.size, 2, none⟩ = some (.slice pa xp.length pc) ∧ w'.cell? ⟨wr.heap.size, 3, none⟩ = some (.int .i64 xd)) (by kernel_rfl) ⟨below_rowP (Below.refl _ _).drew _, k0, k1, k2, k3⟩ (fun hH => ?_)
          refine takeH 0 (v := ?vb0) rfl (by kernel_rfl) (by kernel_rfl) (by kernel_rfl) (fun _ _ _ h => h) hH rfl ?yb0 ?rb0
          case yb0 => intro W hSw; go_simp; try with_reducible rfl
          try simp only [Act.put, List.setIfInBounds_toArray, List.set_cons_zero, List.set_cons_succ]
          refine takeH 1 (v := .bool false) rfl (by kernel_rfl) (by kernel_rfl) (by kernel_rfl) (fun _ _ _ h => h) hH rfl ?yb1 ?rb1
          case yb1 => intro W hSw; go_simp; first | done | simp only [hgt] | omega | (simp; omega)
          try simp only [Act.put, List.setIfInBounds_toArray, List.set_cons_zero, List.set_cons_succ]
          refine takeH 2 (v := ?vb2) rfl (by kernel_rfl) (by kernel_rfl) (by kernel_rfl) (fun _ _ _ h => h) hH rfl ?yb2 ?rb2
          case yb2 => intro W hSw; go_simp; try with_reducible rfl
          try simp only [Act.put, List.setIfInBounds_toArray, List.set_cons_zero, List.set_cons_succ]
          refine skipH 3 rfl (by kernel_rfl) (by kernel_rfl) (by kernel_rfl) (fun _ _ _ h => h) hH rfl ?_
          try simp only [Act.put, List.setIfInBounds_toArray, List.set_cons_zero, List.set_cons_succ]
          refine skipH 4 rfl (by kernel_rfl) (by kernel_rfl) (by kernel_rfl) (fun _ _ _ h => h) hH rfl ?_
          try simp only [Act.put, List.setIfInBounds_toArray, List.set_cons_zero, List.set_cons_succ]
          refine skipH 5 rfl (by kernel_rfl) (by kernel_rfl) (by kernel_rfl) (fun _ _ _ h => h) hH rfl ?_
          try simp only [Act.put, List.setIfInBounds_toArray, List.set_cons_zero, List.set_cons_succ]
          refine skipH 6 rfl (by kernel_rfl) (by kernel_rfl) (by kernel_rfl) (fun _ _ _ h => h) hH rfl ?_
          try simp only [Act.put, List.setIfInBounds_toArray, List.set_cons_zero, List.set_cons_succ]
          refine skipH 7 rfl (by kernel_rfl) (by kernel_rfl) (by kernel_rfl) (fun _ _ _ h => h) hH rfl ?_
          try simp only [Act.put, List.setIfInBounds_toArray, List.set_cons_zero, List.set_cons_succ]
          refine skipH 8 rfl (by kernel_rfl) (by kernel_rfl) (by kernel_rfl) (fun _ _ _ h => h) hH rfl ?_
          try simp only [Act.put, List.setIfInBounds_toArray, List.set_cons_zero, List.set_cons_succ]
          refine skipH 9 rfl (by kernel_rfl) (by kernel_rfl) (by kernel_rfl) (fun _ _ _ h => h) hH rfl ?_
          try simp only [Act.put, List.setIfInBounds_toArray, List.set_cons_zero, List.set_cons_succ]
          refine skipH 10 rfl (by kernel_rfl) (by kernel_rfl) (by kernel_rfl) (fun _ _ _ h => h) hH rfl ?_
          try simp only [Act.put, List.setIfInBounds_toArray, List.set_cons_zero, List.set_cons_succ]
          refine takeH 11 (v := ?vb11) rfl (by kernel_rfl) (by kernel_rfl) (by kernel_rfl) (fun _ _ _ h => h) hH rfl ?yb11 ?rb11
          case yb11 => intro W hSw; go_simp; try with_reducible rfl
          try simp only [Act.put, List.setIfInBounds_toArray, List.set_cons_zero, List.set_cons_succ]
          refine takeH 12 (v := ?vb12) rfl (by kernel_rfl) (by kernel_rfl) (by kernel_rfl) (fun _ _ _ h => h) hH rfl ?yb12 ?rb12
          case yb12 => intro W hSw; go_simp; try with_reducible rfl
          try simp only [Act.put, List.setIfInBounds_toArray, List.set_cons_zero, List.set_cons_succ]
          refine takeH 13 (v := ?vb13) rfl (by kernel_rfl) (by kernel_rfl) (by kernel_rfl) (fun _ _ _ h => h) hH rfl ?yb13 ?rb13
          case yb13 => intro W hSw; go_simp; try with_reducible rfl
          try simp only [Act.put, List.setIfInBounds_toArray, List.set_cons_zero, List.set_cons_succ]
          refine takeH 14 (v := ?vb14) rfl (by kernel_rfl) (by kernel_rfl) (by kernel_rfl) (fun _ _ _ h => h) hH rfl ?yb14 ?rb14
          case yb14 => intro W hSw; go_simp; try with_reducible rfl
          try simp only [Act.put, List.setIfInBounds_toArray, List.set_cons_zero, List.set_cons_succ]
          refine callH 15 rfl (by kernel_rfl) rfl (fun K hK => ?_)
          go_simp
          go_at_call 36
          refine (HAdd.out _ ((Below.refl _ _).drew)).mono ?_
          rintro e wz ⟨rfl, hgz, hi2, h2, hl2⟩
          rw [Hz1.out]
          rw [Hz2.out] at hl2
          have Hadd := Lib.hid hl2
          clear hl2
          refine hK.out _ _ ⟨grownBy_trans hH.1 (hgz), (hgz).cell hH.2.1 (by simp only [ne_eq, Option.some.injEq]; omega), (hgz).cell hH.2.2.1 (by simp only [ne_eq, Option.some.injEq]; omega), (hgz).cell hH.2.2.2.1 (by simp only [ne_eq, Option.some.injEq]; omega), (hgz).cell hH.2.2.2.2 (by simp only [ne_eq, Option.some.injEq]; omega)⟩ (fun hH => ?_)
          clear hK K
          try simp only [Act.put, List.setIfInBounds_toArray, List.set_cons_zero, List.set_cons_succ]
          refine takeH 16 (v := ?vb16) rfl (by kernel_rfl) (by kernel_rfl) (by kernel_rfl) (fun _ _ _ h => h) hH rfl ?yb16 ?rb16
          case yb16 => intro W hSw; go_simp; try with_reducible rfl
          try simp only [Act.put, List.setIfInBounds_toArray, List.set_cons_zero, List.set_cons_succ]
          refine takeH 17 (v := ?vb17) rfl (by kernel_rfl) (by kernel_rfl) (by kernel_rfl) (fun _ _ _ h => h) hH rfl ?yb17 ?rb17
          case yb17 => intro W hSw; go_simp; try with_reducible rfl
          try simp only [Act.put, List.setIfInBounds_toArray, List.set_cons_zero, List.set_cons_succ]
          refine wpAnyH_done (by kernel_rfl) ?_ _
          try simp only [Act.put]
          have Hend := Lib.hid (HbwA.out.grown hH.1 HbwA.out.size (fun g e => by cases e; exact Nat.le_refl _))
          go_wp2
          go_roundw
          case rel => exact ⟨k + 1, _, _, by omega, by go_num, Hup1.out, Hadd.out, Hend.out⟩
          case measure => simp [intOf]; omega
      · have hgt : decide ((0 : Int) < (k : Int)) = true := decide_eq_true (by omega)
        have hgt' : (0 : Int) < (k : Int) := by omega
        obtain ⟨d0, d1, pa', pc', d2, d3⟩ := Hg1.out (k - 1) (by omega)
        have Hk0 := Lib.hid (show (k == 0) = false by simpa using h0)
        have Hst := Lib.hid (show befB (g.getD (k - 1) vx0) ⟨xr, xa, xp, xd⟩ = false → stepB c g k = false from fun h => by unfold stepB; rw [Hk0.out, Hgk.out, h]; rfl)
        have HS2 := Lib.hid (fun h => HSA.out (.inr h))
        clear Hg1 HSA
        generalize hy : g.getD (k - 1) vx0 = y at *
        have Hy := Lib.hid hy; clear hy
        obtain ⟨yr, ya, yp, yd⟩ := y
        dsimp only at *
        have HB := Lib.hid (vertex_isBefore ⟨yr, ya, yp, yd⟩ ⟨xr, xa, xp, xd⟩ pa' pa pc' pc)
        have e3 : ((k : Int) - 1).toNat = k - 1 := by omega
        have e4 : 0 ≤ (k : Int) - 1 := by omega
        have e5 : 1 ≤ (k : Int) := by omega
        have e6 : (k : Int) - 1 < g.length := by omega
        cases h2 : befB ⟨yr, ya, yp, yd⟩ ⟨xr, xa, xp, xd⟩ with
        | false =>
          rw [h2] at HB
          have Hz := Lib.hid (allB_no hlt (Hst.out h2))
          refine wp_region_held_drew (S := fun w' => wB.grownBy w' (some w.heap.size) ∧ w'.cell? ⟨wr.heap.size, 0, none⟩ = some (.int .i64 xr) ∧ w'.cell? ⟨wr.heap.size, 1, none⟩ = some (.int .i64 xa) ∧ w'.cell? ⟨wr.heap.size, 2, none⟩ = some (.slice pa xp.length pc) ∧ w'.cell? ⟨wr.heap.size, 3, none⟩ = some (.int .i64 xd) ∧ w'.cell? ⟨b, off + (k - 1) * 4, none⟩ = some (.int .i64 yr) ∧ w'.cell? ⟨b, off + (k - 1) * 4 + 1, none⟩ = some (.int .i64 ya) ∧ w'.cell? ⟨b, off + (k - 1) * 4 + 2, none⟩ = some (.slice pa' yp.length pc') ∧ w'.cell? ⟨b, off + (k - 1) * 4 + 3, none⟩ = some (.int .i64 yd)) (by kernel_rfl) ⟨below_rowP (Below.refl _ _).drew _, k0, k1, k2, k3, d0, d1, d2, d3⟩ (fun hH => ?_)
          refine takeH 0 (v := ?vd0) rfl (by kernel_rfl) (by kernel_rfl) (by kernel_rfl) (fun _ _ _ h => h) hH rfl ?yd0 ?rd0
          case yd0 => intro W hSw; go_simp; try with_reducible rfl
          try simp only [Act.put, List.setIfInBounds_toArray, List.set_cons_zero, List.set_cons_succ]
          refine takeH 1 (v := .bool true) rfl (by kernel_rfl) (by kernel_rfl) (by kernel_rfl) (fun _ _ _ h => h) hH rfl ?yd1 ?rd1
          case yd1 => intro W hSw; go_simp; first | done | simp only [hgt] | omega | (simp; omega)
          try simp only [Act.put, List.setIfInBounds_toArray, List.set_cons_zero, List.set_cons_succ]
          refine takeH 2 (v := ?vd2) rfl (by kernel_rfl) (by kernel_rfl) (by kernel_rfl) (fun _ _ _ h => h) hH rfl ?yd2 ?rd2
          case yd2 => intro W hSw; go_simp; try with_reducible rfl
          try simp only [Act.put, List.setIfInBounds_toArray, List.set_cons_zero, List.set_cons_succ]
          refine takeH 3 (v := ?vd3) rfl (by kernel_rfl) (by kernel_rfl) (by kernel_rfl) (fun _ _ _ h => h) hH rfl ?yd3 ?rd3
          case yd3 => intro W hSw; go_simp; try with_reducible rfl
          try simp only [Act.put, List.setIfInBounds_toArray, List.set_cons_zero, List.set_cons_succ]
          refine takeH 4 (v := ?vd4) rfl (by kernel_rfl) (by kernel_rfl) (by kernel_rfl) (fun _ _ _ h => h) hH rfl ?yd4 ?rd4
          case yd4 => intro W hSw; go_simp; try with_reducible rfl
          try simp only [Act.put, List.setIfInBounds_toArray, List.set_cons_zero, List.set_cons_succ]
          refine takeH 5 (v := ?vd5) rfl (by kernel_rfl) (by kernel_rfl) (by kernel_rfl) (fun _ _ _ h => h) hH rfl ?yd5 ?rd5
          case yd5 => intro W hSw; go_simp; try with_reducible rfl
          try simp only [Act.put, List.setIfInBounds_toArray, List.set_cons_zero, List.set_cons_succ]
          refine takeH 6 (v := ?vd6) rfl (by kernel_rfl) (by kernel_rfl) (by kernel_rfl) (fun _ _ _ h => h) hH rfl ?yd6 ?rd6
          case yd6 => intro W hSw; go_simp; try with_reducible rfl
          try simp only [Act.put, List.setIfInBounds_toArray, List.set_cons_zero, List.set_cons_succ]
          refine takeH 7 (v := ?vd7) rfl (by kernel_rfl) (by kernel_rfl) (by kernel_rfl) (fun _ _ _ h => h) hH rfl ?yd7 ?rd7
          case yd7 => intro W hSw; go_simp; try with_reducible rfl
          try simp only [Act.put, List.setIfInBounds_toArray, List.set_cons_zero, List.set_cons_succ]
          refine takeH 8 (v := ?vd8) rfl (by kernel_rfl) (by kernel_rfl) (by kernel_rfl) (fun _ _ _ h => h) hH rfl ?yd8 ?rd8
          case yd8 => intro W hSw; go_simp; try with_reducible rfl
          try simp only [Act.put, List.setIfInBounds_toArray, List.set_cons_zero, List.set_cons_succ]
          refine callH 9 rfl (by kernel_rfl) rfl (fun K hK => ?_)
          go_simp
          go_at_call 59
          refine (HB.out _).mono ?_
          rintro e wx ⟨rfl, hbx⟩
          refine hK.out _ _ ⟨grownBy_trans hH.1 (below_rowP hbx (some w.heap.size)), (below_rowP hbx (some w.heap.size)).cell hH.2.1 (by simp only [ne_eq, Option.some.injEq]; omega), (below_rowP hbx (some w.heap.size)).cell hH.2.2.1 (by simp only [ne_eq, Option.some.injEq]; omega), (below_rowP hbx (some w.heap.size)).cell hH.2.2.2.1 (by simp only [ne_eq, Option.some.injEq]; omega), (below_rowP hbx (some w.heap.size)).cell hH.2.2.2.2.1 (by simp only [ne_eq, Option.some.injEq]; omega), (below_rowP hbx (some w.heap.size)).cell hH.2.2.2.2.2.1 (by simp only [ne_eq, Option.some.injEq]; omega), (below_rowP hbx (some w.heap.size)).cell hH.2.2.2.2.2.2.1 (by simp only [ne_eq, Option.some.injEq]; omega), (below_rowP hbx (some w.heap.size)).cell hH.2.2.2.2.2.2.2.1 (by simp only [ne_eq, Option.some.injEq]; omega), (below_rowP hbx (some w.heap.size)).cell hH.2.2.2.2.2.2.2.2 (by simp only [ne_eq, Option.some.injEq]; omega)⟩ (fun hH => ?_)
          clear hK K
          try simp only [Act.put, List.setIfInBounds_toArray, List.set_cons_zero, List.set_cons_succ]
          refine takeH 10 (v := ?vd10) rfl (by kernel_rfl) (by kernel_rfl) (by kernel_rfl) (fun _ _ _ h => h) hH rfl ?yd10 ?rd10
          case yd10 => intro W hSw; go_simp; try with_reducible rfl
          try simp only [Act.put, List.setIfInBounds_toArray, List.set_cons_zero, List.set_cons_succ]
          refine takeH 11 (v := ?vd11) rfl (by kernel_rfl) (by kernel_rfl) (by kernel_rfl) (fun _ _ _ h => h) hH rfl ?yd11 ?rd11
          case yd11 => intro W hSw; go_simp; try with_reducible rfl
          try simp only [Act.put, List.setIfInBounds_toArray, List.set_cons_zero, List.set_cons_succ]
          refine takeH 12 (v := ?vd12) rfl (by kernel_rfl) (by kernel_rfl) (by kernel_rfl) (fun _ _ _ h => h) hH rfl ?yd12 ?rd12
          case yd12 => intro W hSw; go_simp; try with_reducible rfl
          try simp only [Act.put, List.setIfInBounds_toArray, List.set_cons_zero, List.set_cons_succ]
          refine skipH 13 rfl (by kernel_rfl) (by kernel_rfl) (by kernel_rfl) (fun _ _ _ h => h) hH rfl ?_
          try simp only [Act.put, List.setIfInBounds_toArray, List.set_cons_zero, List.set_cons_succ]
          refine skipH 14 rfl (by kernel_rfl) (by kernel_rfl) (by kernel_rfl) (fun _ _ _ h => h) hH rfl ?_
          try simp only [Act.put, List.setIfInBounds_toArray, List.set_cons_zero, List.set_cons_succ]
          refine skipH 15 rfl (by kernel_rfl) (by kernel_rfl) (by kernel_rfl) (fun _ _ _ h => h) hH rfl ?_
          try simp only [Act.put, List.setIfInBounds_toArray, List.set_cons_zero, List.set_cons_succ]
          refine skipH 16 rfl (by kernel_rfl) (by kernel_rfl) (by kernel_rfl) (fun _ _ _ h => h) hH rfl ?_
          try simp only [Act.put, List.setIfInBounds_toArray, List.set_cons_zero, List.set_cons_succ]
          refine takeH 17 (v := ?vd17) rfl (by kernel_rfl) (by kernel_rfl) (by kernel_rfl) (fun _ _ _ h => h) hH rfl ?yd17 ?rd17
          case yd17 => intro W hSw; go_simp; try with_reducible rfl
          try simp only [Act.put, List.setIfInBounds_toArray, List.set_cons_zero, List.set_cons_succ]
          refine wpAnyH_done (by kernel_rfl) ?_ _
          try simp only [Act.put]
          have Hend := Lib.hid (HbwA.out.grown hH.1 HbwA.out.size (fun g e => by cases e; exact Nat.le_refl _))
          go_wp2
          go_ret2
          exact of_no (by rw [Hres.out, Hz.out]) rfl Hend.out
        | true =>
        rw [h2] at HB
        have HS2 := Lib.hid (HS2.out h2)
        cases hst : stepB c g k with
        | false =>
          have Hne := Lib.hid (HS2.out.2 hst)
          have Hz := Lib.hid (allB_no hlt hst)
          refine wp_region_held_drew (S := fun w' => wB.grownBy w' (some w.heap.size) ∧ w'.cell? ⟨wr.heap.size, 0, none⟩ = some (.int .i64 xr) ∧ w'.cell? ⟨wr.heap.size, 1, none⟩ = some (.int .i64 xa) ∧ w'.cell? ⟨wr.heap.size, 2, none⟩ = some (.slice pa xp.length pc) ∧ w'.cell? ⟨wr.heap.size, 3, none⟩ = some (.int .i64 xd) ∧ w'.cell? ⟨b, off + (k - 1) * 4, none⟩ = some (.int .i64 yr) ∧ w'.cell? ⟨b, off + (k - 1) * 4 + 1, none⟩ = some (.int .i64 ya) ∧ w'.cell? ⟨b, off + (k - 1) * 4 + 2, none⟩ = some (.slice pa' yp.length pc') ∧ w'.cell? ⟨b, off + (k - 1) * 4 + 3, none⟩ = some (.int .i64 yd)) (by kernel_rfl) ⟨below_rowP (Below.refl _ _).drew _, k0, k1, k2, k3, d0, d1, d2, d3⟩ (fun hH => ?_)
          refine takeH 0 (v := ?ve0) rfl (by kernel_rfl) (by kernel_rfl) (by kernel_rfl) (fun _ _ _ h => h) hH rfl ?ye0 ?re0
          case ye0 => intro W hSw; go_simp; try with_reducible rfl
          try simp only [Act.put, List.setIfInBounds_toArray, List.set_cons_zero, List.set_cons_succ]
          refine takeH 1 (v := .bool true) rfl (by kernel_rfl) (by kernel_rfl) (by kernel_rfl) (fun _ _ _ h => h) hH rfl ?ye1 ?re1
          case ye1 => intro W hSw; go_simp; first | done | simp only [hgt] | omega | (simp; omega)
          try simp only [Act.put, List.setIfInBounds_toArray, List.set_cons_zero, List.set_cons_succ]
          refine takeH 2 (v := ?ve2) rfl (by kernel_rfl) (by kernel_rfl) (by kernel_rfl) (fun _ _ _ h => h) hH rfl ?ye2 ?re2
          case ye2 => intro W hSw; go_simp; try with_reducible rfl
          try simp only [Act.put, List.setIfInBounds_toArray, List.set_cons_zero, List.set_cons_succ]
          refine takeH 3 (v := ?ve3) rfl (by kernel_rfl) (by kernel_rfl) (by kernel_rfl) (fun _ _ _ h => h) hH rfl ?ye3 ?re3
          case ye3 => intro W hSw; go_simp; try with_reducible rfl
          try simp only [Act.put, List.setIfInBounds_toArray, List.set_cons_zero, List.set_cons_succ]
          refine takeH 4 (v := ?ve4) rfl (by kernel_rfl) (by kernel_rfl) (by kernel_rfl) (fun _ _ _ h => h) hH rfl ?ye4 ?re4
          case ye4 => intro W hSw; go_simp; try with_reducible rfl
          try simp only [Act.put, List.setIfInBounds_toArray, List.set_cons_zero, List.set_cons_succ]
          refine takeH 5 (v := ?ve5) rfl (by kernel_rfl) (by kernel_rfl) (by kernel_rfl) (fun _ _ _ h => h) hH rfl ?ye5 ?re5
          case ye5 => intro W hSw; go_simp; try with_reducible rfl
          try simp only [Act.put, List.setIfInBounds_toArray, List.set_cons_zero, List.set_cons_succ]
          refine takeH 6 (v := ?ve6) rfl (by kernel_rfl) (by kernel_rfl) (by kernel_rfl) (fun _ _ _ h => h) hH rfl ?ye6 ?re6
          case ye6 => intro W hSw; go_simp; try with_reducible rfl
          try simp only [Act.put, List.setIfInBounds_toArray, List.set_cons_zero, List.set_cons_succ]
          refine takeH 7 (v := ?ve7) rfl (by kernel_rfl) (by kernel_rfl) (by kernel_rfl) (fun _ _ _ h => h) hH rfl ?ye7 ?re7
          case ye7 => intro W hSw; go_simp; try with_reducible rfl
          try simp only [Act.put, List.setIfInBounds_toArray, List.set_cons_zero, List.set_cons_succ]
          refine takeH 8 (v := ?ve8) rfl (by kernel_rfl) (by kernel_rfl) (by kernel_rfl) (fun _ _ _ h => h) hH rfl ?ye8 ?re8
          case ye8 => intro W hSw; go_simp; try with_reducible rfl
          try simp only [Act.put, List.setIfInBounds_toArray, List.set_cons_zero, List.set_cons_succ]
          refine callH 9 rfl (by kernel_rfl) rfl (fun K hK => ?_)
          go_simp
          go_at_call 59
          refine (HB.out _).mono ?_
          rintro e wx ⟨rfl, hbx⟩
          refine hK.out _ _ ⟨grownBy_trans hH.1 (below_rowP hbx (some w.heap.size)), (below_rowP hbx (some w.heap.size)).cell hH.2.1 (by simp only [ne_eq, Option.some.injEq]; omega), (below_rowP hbx (some w.heap.size)).cell hH.2.2.1 (by simp only [ne_eq, Option.some.injEq]; omega), (below_rowP hbx (some w.heap.size)).cell hH.2.2.2.1 (by simp only [ne_eq, Option.some.injEq]; omega), (below_rowP hbx (some w.heap.size)).cell hH.2.2.2.2.1 (by simp only [ne_eq, Option.some.injEq]; omega), (below_rowP hbx (some w.heap.size)).cell hH.2.2.2.2.2.1 (by simp only [ne_eq, Option.some.injEq]; omega), (below_rowP hbx (some w.heap.size)).cell hH.2.2.2.2.2.2.1 (by simp only [ne_eq, Option.some.injEq]; omega), (below_rowP hbx (some w.heap.size)).cell hH.2.2.2.2.2.2.2.1 (by simp only [ne_eq, Option.some.injEq]; omega), (below_rowP hbx (some w.heap.size)).cell hH.2.2.2.2.2.2.2.2 (by simp only [ne_eq, Option.some.injEq]; omega)⟩ (fun hH => ?_)
          clear hK K
          try simp only [Act.put, List.setIfInBounds_toArray, List.set_cons_zero, List.set_cons_succ]
          refine takeH 10 (v := ?ve10) rfl (by kernel_rfl) (by kernel_rfl) (by kernel_rfl) (fun _ _ _ h => h) hH rfl ?ye10 ?re10
          case ye10 => intro W hSw; go_simp; try with_reducible rfl
          try simp only [Act.put, List.setIfInBounds_toArray, List.set_cons_zero, List.set_cons_succ]
          refine takeH 11 (v := ?ve11) rfl (by kernel_rfl) (by kernel_rfl) (by kernel_rfl) (fun _ _ _ h => h) hH rfl ?ye11 ?re11
          case ye11 => intro W hSw; go_simp; try with_reducible rfl
          try simp only [Act.put, List.setIfInBounds_toArray, List.set_cons_zero, List.set_cons_succ]
          refine takeH 12 (v := ?ve12) rfl (by kernel_rfl) (by kernel_rfl) (by kernel_rfl) (fun _ _ _ h => h) hH rfl ?ye12 ?re12
          case ye12 => intro W hSw; go_simp; try with_reducible rfl
          try simp only [Act.put, List.setIfInBounds_toArray, List.set_cons_zero, List.set_cons_succ]
          refine takeH 13 (v := ?ve13) rfl (by kernel_rfl) (by kernel_rfl) (by kernel_rfl) (fun _ _ _ h => h) hH rfl ?ye13 ?re13
          case ye13 => intro W hSw; go_simp; try with_reducible rfl
          try simp only [Act.put, List.setIfInBounds_toArray, List.set_cons_zero, List.set_cons_succ]
          refine takeH 14 (v := ?ve14) rfl (by kernel_rfl) (by kernel_rfl) (by kernel_rfl) (fun _ _ _ h => h) hH rfl ?ye14 ?re14
          case ye14 => intro W hSw; go_simp; try with_reducible rfl
          try simp only [Act.put, List.setIfInBounds_toArray, List.set_cons_zero, List.set_cons_succ]
          refine callH 15 rfl (by kernel_rfl) rfl (fun K hK => ?_)
          go_simp
          go_at_call 36
          refine (HAdd.out _ ((Below.refl _ _).drew.trans hbx)).mono ?_
          rintro e wz ⟨rfl, hgz, _⟩
          generalize hm : adN c (g.take k) ⟨xr, xa, xp, xd⟩ = m at *
          have hm' : (m != 0) = true := by simpa using Hne.out
          clear hm
          refine hK.out _ _ ⟨grownBy_trans hH.1 (hgz), (hgz).cell hH.2.1 (by simp only [ne_eq, Option.some.injEq]; omega), (hgz).cell hH.2.2.1 (by simp only [ne_eq, Option.some.injEq]; omega), (hgz).cell hH.2.2.2.1 (by simp only [ne_eq, Option.some.injEq]; omega), (hgz).cell hH.2.2.2.2.1 (by simp only [ne_eq, Option.some.injEq]; omega), (hgz).cell hH.2.2.2.2.2.1 (by simp only [ne_eq, Option.some.injEq]; omega), (hgz).cell hH.2.2.2.2.2.2.1 (by simp only [ne_eq, Option.some.injEq]; omega), (hgz).cell hH.2.2.2.2.2.2.2.1 (by simp only [ne_eq, Option.some.injEq]; omega), (hgz).cell hH.2.2.2.2.2.2.2.2 (by simp only [ne_eq, Option.some.injEq]; omega)⟩ (fun hH => ?_)
          clear hK K
          try simp only [Act.put, List.setIfInBounds_toArray, List.set_cons_zero, List.set_cons_succ]
          refine takeH 16 (v := ?ve16) rfl (by kernel_rfl) (by kernel_rfl) (by kernel_rfl) (fun _ _ _ h => h) hH rfl ?ye16 ?re16
          case ye16 => intro W hSw; go_simp; try with_reducible rfl
          try simp only [Act.put, List.setIfInBounds_toArray, List.set_cons_zero, List.set_cons_succ]
          refine takeH 17 (v := ?ve17) rfl (by kernel_rfl) (by kernel_rfl) (by kernel_rfl) (fun _ _ _ h => h) hH rfl ?ye17 ?re17
          case ye17 => intro W hSw; go_simp; try with_reducible rfl
          try simp only [Act.put, List.setIfInBounds_toArray, List.set_cons_zero, List.set_cons_succ]
          refine wpAnyH_done (by kernel_rfl) ?_ _
          try simp only [Act.put]
          have Hend := Lib.hid (HbwA.out.grown hH.1 HbwA.out.size (fun g e => by cases e; exact Nat.le_refl _))
          go_wp2
          go_ret2
          exact of_no (by rw [Hres.out, Hz.out]) rfl Hend.out
        | true =>
          obtain ⟨hz1, hz2⟩ := HS2.out.1 hst
          have Hz1 := Lib.hid hz1
          have Hz2 := Lib.hid hz2
          have Hup1 := Lib.hid (upto_step Hup.out hst)
          clear hz1 hz2
          refine wp_region_held_drew (S := fun w' => wB.grownBy w' (some w.heap.size) ∧ w'.cell? ⟨wr.heap.size, 0, none⟩ = some (.int .i64 xr) ∧ w'.cell? ⟨wr.heap.size, 1, none⟩ = some (.int .i64 xa) ∧ w'.cell? ⟨wr.heap.size, 2, none⟩ = some (.slice pa xp.length pc) ∧ w'.cell? ⟨wr.heap.size, 3, none⟩ = some (.int .i64 xd) ∧ w'.cell? ⟨b, off + (k - 1) * 4, none⟩ = some (.int .i64 yr) ∧ w'.cell? ⟨b, off + (k - 1) * 4 + 1, none⟩ = some (.int .i64 ya) ∧ w'.cell? ⟨b, off + (k - 1) * 4 + 2, none⟩ = some (.slice pa' yp.length pc') ∧ w'.cell? ⟨b, off + (k - 1) * 4 + 3, none⟩ = some (.int .i64 yd)) (by kernel_rfl) ⟨below_rowP (Below.refl _ _).drew _, k0, k1, k2, k3, d0, d1, d2, d3⟩ (fun hH => ?_)
          refine takeH 0 (v := ?vf0) rfl (by kernel_rfl) (by kernel_rfl) (by kernel_rfl) (fun _ _ _ h => h) hH rfl ?yf0 ?rf0
          case yf0 => intro W hSw; go_simp; try with_reducible rfl
          try simp only [Act.put, List.setIfInBounds_toArray, List.set_cons_zero, List.set_cons_succ]
          refine takeH 1 (v := .bool true) rfl (by kernel_rfl) (by kernel_rfl) (by kernel_rfl) (fun _ _ _ h => h) hH rfl ?yf1 ?rf1
          case yf1 => intro W hSw; go_simp; first | done | simp only [hgt] | omega | (simp; omega)
          try simp only [Act.put, List.setIfInBounds_toArray, List.set_cons_zero, List.set_cons_succ]
          refine takeH 2 (v := ?vf2) rfl (by kernel_rfl) (by kernel_rfl) (by kernel_rfl) (fun _ _ _ h => h) hH rfl ?yf2 ?rf2
          case yf2 => intro W hSw; go_simp; try with_reducible rfl
          try simp only [Act.put, List.setIfInBounds_toArray, List.set_cons_zero, List.set_cons_succ]
          refine takeH 3 (v := ?vf3) rfl (by kernel_rfl) (by kernel_rfl) (by kernel_rfl) (fun _ _ _ h => h) hH rfl ?yf3 ?rf3
          case yf3 => intro W hSw; go_simp; try with_reducible rfl
          try simp only [Act.put, List.setIfInBounds_toArray, List.set_cons_zero, List.set_cons_succ]
          refine takeH 4 (v := ?vf4) rfl (by kernel_rfl) (by kernel_rfl) (by kernel_rfl) (fun _ _ _ h => h) hH rfl ?yf4 ?rf4
          case yf4 => intro W hSw; go_simp; try with_reducible rfl
          try simp only [Act.put, List.setIfInBounds_toArray, List.set_cons_zero, List.set_cons_succ]
          refine takeH 5 (v := ?vf5) rfl (by kernel_rfl) (by kernel_rfl) (by kernel_rfl) (fun _ _ _ h => h) hH rfl ?yf5 ?rf5
          case yf5 => intro W hSw; go_simp; try with_reducible rfl
          try simp only [Act.put, List.setIfInBounds_toArray, List.set_cons_zero, List.set_cons_succ]
          refine takeH 6 (v := ?vf6) rfl (by kernel_rfl) (by kernel_rfl) (by kernel_rfl) (fun _ _ _ h => h) hH rfl ?yf6 ?rf6
          case yf6 => intro W hSw; go_simp; try with_reducible rfl
          try simp only [Act.put, List.setIfInBounds_toArray, List.set_cons_zero, List.set_cons_succ]
          refine takeH 7 (v := ?vf7) rfl (by kernel_rfl) (by kernel_rfl) (by kernel_rfl) (fun _ _ _ h => h) hH rfl ?yf7 ?rf7
          case yf7 => intro W hSw; go_simp; try with_reducible rfl
          try simp only [Act.put, List.setIfInBounds_toArray, List.set_cons_zero, List.set_cons_succ]
          refine takeH 8 (v := ?vf8) rfl (by kernel_rfl) (by kernel_rfl) (by kernel_rfl) (fun _ _ _ h => h) hH rfl ?yf8 ?rf8
          case yf8 => intro W hSw; go_simp; try with_reducible rfl
          try simp only [Act.put, List.setIfInBounds_toArray, List.set_cons_zero, List.set_cons_succ]
          refine callH 9 rfl (by kernel_rfl) rfl (fun K hK => ?_)
          go_simp
          go_at_call 59
          refine (HB.out _).mono ?_
          rintro e wx ⟨rfl, hbx⟩
          refine hK.out _ _ ⟨grownBy_trans hH.1 (below_rowP hbx (some w.heap.size)), (below_rowP hbx (some w.heap.size)).cell hH.2.1 (by simp only [ne_eq, Option.some.injEq]; omega), (below_rowP hbx (some w.heap.size)).cell hH.2.2.1 (by simp only [ne_eq, Option.some.injEq]; omega), (below_rowP hbx (some w.heap.size)).cell hH.2.2.2.1 (by simp only [ne_eq, Option.some.injEq]; omega), (below_rowP hbx (some w.heap.size)).cell hH.2.2.2.2.1 (by simp only [ne_eq, Option.some.injEq]; omega), (below_rowP hbx (some w.heap.size)).cell hH.2.2.2.2.2.1 (by simp only [ne_eq, Option.some.injEq]; omega), (below_rowP hbx (some w.heap.size)).cell hH.2.2.2.2.2.2.1 (by simp only [ne_eq, Option.some.injEq]; omega), (below_rowP hbx (some w.heap.size)).cell hH.2.2.2.2.2.2.2.1 (by simp only [ne_eq, Option.some.injEq]; omega), (below_rowP hbx (some w.heap.size)).cell hH.2.2.2.2.2.2.2.2 (by simp only [ne_eq, Option.some.injEq]; omega)⟩ (fun hH => ?_)
          clear hK K
          try simp only [Act.put, List.setIfInBounds_toArray, List.set_cons_zero, List.set_cons_succ]
          refine takeH 10 (v := ?vf10) rfl (by kernel_rfl) (by kernel_rfl) (by kernel_rfl) (fun _ _ _ h => h) hH rfl ?yf10 ?rf10
          case yf10 => intro W hSw; go_simp; try with_reducible rfl
          try simp only [Act.put, List.setIfInBounds_toArray, List.set_cons_zero, List.set_cons_succ]
          refine takeH 11 (v := ?vf11) rfl (by kernel_rfl) (by kernel_rfl) (by kernel_rfl) (fun _ _ _ h => h) hH rfl ?yf11 ?rf11
          case yf11 => intro W hSw; go_simp; try with_reducible rfl
          try simp only [Act.put, List.setIfInBounds_toArray, List.set_cons_zero, List.set_cons_succ]
          refine takeH 12 (v := ?vf12) rfl (by kernel_rfl) (by kernel_rfl) (by kernel_rfl) (fun _ _ _ h => h) hH rfl ?yf12 ?rf12
          case yf12 => intro W hSw; go_simp; try with_reducible rfl
          try simp only [Act.put, List.setIfInBounds_toArray, List.set_cons_zero, List.set_cons_succ]
          refine takeH 13 (v := ?vf13) rfl (by kernel_rfl) (by kernel_rfl) (by kernel_rfl) (fun _ _ _ h => h) hH rfl ?yf13 ?rf13
          case yf13 => intro W hSw; go_simp; try with_reducible rfl
          try simp only [Act.put, List.setIfInBounds_toArray, List.set_cons_zero, List.set_cons_succ]
          refine takeH 14 (v := ?vf14) rfl (by kernel_rfl) (by kernel_rfl) (by kernel_rfl) (fun _ _ _ h => h) hH rfl ?yf14 ?rf14
          case yf14 => intro W hSw; go_simp; try with_reducible rfl
          try simp only [Act.put, List.setIfInBounds_toArray, List.set_cons_zero, List.set_cons_succ]
          refine callH 15 rfl (by kernel_rfl) rfl (fun K hK => ?_)
          go_simp
          go_at_call 36
          refine (HAdd.out _ ((Below.refl _ _).drew.trans hbx)).mono ?_
          rintro e wz ⟨rfl, hgz, hi2, h2, hl2⟩
          rw [Hz1.out]
          rw [Hz2.out] at hl2
          have Hadd := Lib.hid hl2
          clear hl2
          refine hK.out _ _ ⟨grownBy_trans hH.1 (hgz), (hgz).cell hH.2.1 (by simp only [ne_eq, Option.some.injEq]; omega), (hgz).cell hH.2.2.1 (by simp only [ne_eq, Option.some.injEq]; omega), (hgz).cell hH.2.2.2.1 (by simp only [ne_eq, Option.some.injEq]; omega), (hgz).cell hH.2.2.2.2.1 (by simp only [ne_eq, Option.some.injEq]; omega), (hgz).cell hH.2.2.2.2.2.1 (by simp only [ne_eq, Option.some.injEq]; omega), (hgz).cell hH.2.2.2.2.2.2.1 (by simp only [ne_eq, Option.some.injEq]; omega), (hgz).cell hH.2.2.2.2.2.2.2.1 (by simp only [ne_eq, Option.some.injEq]; omega), (hgz).cell hH.2.2.2.2.2.2.2.2 (by simp only [ne_eq, Option.some.injEq]; omega)⟩ (fun hH => ?_)
          clear hK K
          try simp only [Act.put, List.setIfInBounds_toArray, List.set_cons_zero, List.set_cons_succ]
          refine takeH 16 (v := ?vf16) rfl (by kernel_rfl) (by kernel_rfl) (by kernel_rfl) (fun _ _ _ h => h) hH rfl ?yf16 ?rf16
          case yf16 => intro W hSw; go_simp; try with_reducible rfl
          try simp only [Act.put, List.setIfInBounds_toArray, List.set_cons_zero, List.set_cons_succ]
          refine takeH 17 (v := ?vf17) rfl (by kernel_rfl) (by kernel_rfl) (by kernel_rfl) (fun _ _ _ h => h) hH rfl ?yf17 ?rf17
          case yf17 => intro W hSw; go_simp; try with_reducible rfl
          try simp only [Act.put, List.setIfInBounds_toArray, List.set_cons_zero, List.set_cons_succ]
          refine wpAnyH_done (by kernel_rfl) ?_ _
          try simp only [Act.put]
          have Hend := Lib.hid (HbwA.out.grown hH.1 HbwA.out.size (fun g e => by cases e; exact Nat.le_refl _))
          go_wp2
          go_roundw
          case rel => exact ⟨k + 1, _, _, by omega, by go_num, Hup1.out, Hadd.out, Hend.out⟩
          case measure => simp [intOf]; omega
    · have hke : k = g.length := by omega
      subst hke
      rw [List.take_length] at HL
      have Hz := Lib.hid (show graphB c g = true by rw [Hres.out]; exact allB_yes Hup.out (Nat.le_refl _))
      go_wp2
      go_ret2
      exact of_yes Hz.out rfl Hbel.out (Nat.le_refl _) HL.out

end Go.Proofs.Ythnbjdijcpcafaa

/- What the laws of graphs say of the reference's answers, and the past of a vertex: it is closed, it ends with the vertex; plain facts on lists, nothing here is walked. -/
namespace Go.Proofs.Ythnbjdijcpcafaa
open Go.RowKit

theorem Own.cap' {E : TypeId} {w : World} {B : Nat} {v : Value} {xs : List Int} (h : Own E w B v xs) : ∀ a n c, v = .slice a n c → xs.length ≤ c := fun a n c e => by subst e; exact h.cap
/-- In a valid graph a vertex is found where it stands. -/
theorem find_uni {c : List Int} {g : List Vx} {r a : Int} (h : graphB c g = true) (k : Nat) (hk : k < g.length) : (g[k].r = r ∧ g[k].a = a) ↔ (k : Int) = findZ g r a := by
  have hs := List.pairwise_iff_getElem.1 (graph_sorted h)
  rcases findZ_cases g r a with ⟨e, hno⟩ | ⟨j, hj, e, hyes, hbef⟩
  · constructor
    · intro hh
      have := hno _ (List.getElem_mem hk)
      exact absurd (decide_eq_true hh) (by unfold sameRA at this; rw [this]; simp)
    · intro hh; omega
  · have hj2 : g[j].r = r ∧ g[j].a = a := of_decide_eq_true hyes
    constructor
    · intro hh
      rcases Nat.lt_trichotomy j k with hlt | heq | hgt
      · have := of_decide_eq_true (hs j k hj hk hlt)
        omega
      · omega
      · have := of_decide_eq_true (hs k j hk hj hgt)
        omega
    · intro hh
      have : k = j := by omega
      subst this
      exact hj2
theorem find_lt (g : List Vx) (r a : Int) : findZ g r a < g.length := by
  rcases findZ_cases g r a with ⟨e, _⟩ | ⟨j, hj, e, _⟩ <;> omega
theorem parent_lt {c : List Int} {g : List Vx} (h : graphB c g = true) {i j : Nat} (hi : i < g.length) {p : Int} (hj : j < g.length) (e : findZ g (g[i].r - 1) p = j) : j < i := by
  have hs := List.pairwise_iff_getElem.1 (graph_sorted h)
  rcases findZ_cases g (g[i].r - 1) p with ⟨e', _⟩ | ⟨j', hj', e', hyes, _⟩
  · omega
  · have : j' = j := by omega
    subst this
    have hr : g[j'].r = g[i].r - 1 := (of_decide_eq_true hyes).1
    rcases Nat.lt_trichotomy j' i with hlt | heq | hgt
    · exact hlt
    · subst heq; omega
    · have := of_decide_eq_true (hs i j' hi hj hgt)
      omega
theorem setB_get (bs : List Bool) (i j : Nat) : (bs.set i true).getD j false = true ↔ bs.getD j false = true ∨ (i = j ∧ j < bs.length) := by
  simp only [List.getD_eq_getElem?_getD, List.getElem?_set]
  by_cases e : i = j
  · subst e
    rw [if_pos rfl]
    by_cases h : i < bs.length
    · rw [if_pos h]; simp [h]
    · rw [if_neg h, List.getElem?_eq_none (by omega)]; simp [h]
  · rw [if_neg e]; simp [e]
theorem foldB_get (g : List Vx) (r : Int) : ∀ (ps : List Int) (bs : List Bool) (j : Nat), (ps.foldl (putB g r) bs).getD j false = true ↔ bs.getD j false = true ∨ ∃ p ∈ ps, (findZ g (r - 1) p).toNat = j ∧ j < bs.length
  | [], bs, j => by simp
  | p :: ps, bs, j => by
    rw [List.foldl_cons, foldB_get g r ps, putB_len]
    unfold putB
    rw [setB_get]
    constructor
    · rintro ((h | h) | ⟨q, hq, h⟩)
      · exact .inl h
      · exact .inr ⟨p, by simp, h⟩
      · exact .inr ⟨q, List.mem_cons_of_mem _ hq, h⟩
    · rintro (h | ⟨q, hq, h⟩)
      · exact .inl (.inl h)
      · rcases List.mem_cons.1 hq with rfl | hq
        · exact .inl (.inr h)
        · exact .inr ⟨q, hq, h⟩
/-- From row n on, the parents of what is marked are marked. -/
def ClosedFrom (g : List Vx) (bs : List Bool) (n : Nat) : Prop := ∀ i (hi : i < g.length), n ≤ i → bs.getD i false = true → ∀ k (hk : k < g[i].ps.length), bs.getD (findZ g (g[i].r - 1) g[i].ps[k]).toNat false = true
theorem fromB_len (g : List Vx) (bs : List Bool) (x : Vx) (i : Nat) : (fromB g bs x i 0).length = bs.length := by
  have hf : ∀ (r : Int) (ps : List Int) (bs : List Bool), (ps.foldl (putB g r) bs).length = bs.length := by
    intro r ps
    induction ps with
    | nil => intro bs; rfl
    | cons p ps ih => intro bs; rw [List.foldl_cons, ih, putB_len]
  unfold fromB
  split
  · exact hf _ _ _
  · rfl
theorem down_closed {c : List Int} {g : List Vx} (h : graphB c g = true) : ∀ (n : Nat) (bs : List Bool), n ≤ g.length → bs.length = g.length → ClosedFrom g bs n → ClosedFrom g (downB g n bs) 0 ∧ (∀ j, bs.getD j false = true → (downB g n bs).getD j false = true) ∧ ∀ j, n ≤ j → (downB g n bs).getD j false = true → bs.getD j false = true
  | 0, bs, _, _, hc => ⟨hc, fun _ h => h, fun _ _ h => h⟩
  | n + 1, bs, hn, hl, hc => by
    have hnl : n < g.length := by omega
    have hpar := fun k hk => graph_parents h n hnl k hk
    rw [downB, getV hnl]
    have hget : ∀ j, (fromB g bs g[n] n 0).getD j false = true ↔ bs.getD j false = true ∨ (bs.getD n false = true ∧ ∃ p ∈ g[n].ps, (findZ g (g[n].r - 1) p).toNat = j ∧ j < bs.length) := by
      intro j
      unfold fromB
      split
      · rename_i hb
        rw [List.drop_zero, foldB_get]
        exact ⟨fun h => h.imp id (fun h => ⟨hb, h⟩), fun h => h.imp id (·.2)⟩
      · rename_i hb
        exact ⟨.inl, fun h => h.elim id fun h => absurd h.1 hb⟩
    have hlow : ∀ j, n ≤ j → (fromB g bs g[n] n 0).getD j false = true → bs.getD j false = true := by
      intro j hj hb
      rcases (hget j).1 hb with hb | ⟨_, p, hp, e, hjl⟩
      · exact hb
      · obtain ⟨k, hk, rfl⟩ := List.mem_iff_getElem.1 hp
        obtain ⟨j', hj', e'⟩ := hpar k hk
        have := parent_lt h hnl hj' e'
        rw [e'] at e
        have : j' = j := by simpa using e
        omega
    have hcl : ClosedFrom g (fromB g bs g[n] n 0) n := by
      intro i hi hni hb k hk
      have hbi := hlow i hni hb
      rcases Nat.eq_or_lt_of_le hni with heq | hlt
      · subst heq
        obtain ⟨j', hj', e'⟩ := hpar k hk
        rw [hget]
        exact .inr ⟨hbi, g[n].ps[k], List.getElem_mem hk, rfl, by rw [e', hl]; simpa using hj'⟩
      · rw [hget]
        exact .inl (hc i hi (by omega) hbi k hk)
    obtain ⟨h1, h2, h3⟩ := down_closed h n _ (by omega) (by rw [fromB_len]; exact hl) hcl
    exact ⟨h1, fun j hb => h2 j ((hget j).2 (.inl hb)), fun j hj hb => hlow j (by omega) (h3 j (by omega) hb)⟩
theorem fromB_get {g : List Vx} {bs : List Bool} {x : Vx} {n : Nat} (j : Nat) : (fromB g bs x n 0).getD j false = true ↔ bs.getD j false = true ∨ (bs.getD n false = true ∧ ∃ p ∈ x.ps, (findZ g (x.r - 1) p).toNat = j ∧ j < bs.length) := by
  unfold fromB
  split
  · rename_i hb
    rw [List.drop_zero, foldB_get]
    exact ⟨fun h => h.imp id (fun h => ⟨hb, h⟩), fun h => h.imp id (·.2)⟩
  · rename_i hb
    exact ⟨.inl, fun h => h.elim id fun h => absurd h.1 hb⟩
/-- What is marked is the vertex itself or a parent of what is marked from row n on. -/
def ProvFrom (g : List Vx) (a : Nat) (bs : List Bool) (n : Nat) : Prop := ∀ j, bs.getD j false = true → j = a ∨ ∃ i, ∃ hi : i < g.length, n ≤ i ∧ bs.getD i false = true ∧ ∃ p ∈ g[i].ps, (findZ g (g[i].r - 1) p).toNat = j
theorem down_prov {g : List Vx} {a : Nat} : ∀ (n : Nat) (bs : List Bool), n ≤ g.length → bs.length = g.length → ProvFrom g a bs n → ProvFrom g a (downB g n bs) 0
  | 0, _, _, _, h => h
  | n + 1, bs, hn, hl, h => by
    have hnl : n < g.length := by omega
    rw [downB, getV hnl]
    refine down_prov n _ (by omega) (by rw [fromB_len]; exact hl) fun j hj => ?_
    rcases (fromB_get j).1 hj with hb | ⟨hb, p, hp, e, _⟩
    · rcases h j hb with e | ⟨i, hi, hni, hbi, hp⟩
      · exact .inl e
      · exact .inr ⟨i, hi, by omega, (fromB_get i).2 (.inl hbi), hp⟩
    · exact .inr ⟨n, hnl, Nat.le_refl _, (fromB_get n).2 (.inl hb), p, hp, e⟩
/-- Each marked vertex but the last has a later marked one that refers to it. -/
theorem past_least {c : List Int} {g : List Vx} (h : graphB c g = true) {a : Nat} (ha : a < g.length) (j : Nat) (hj : (pastB g (a : Int)).getD j false = true) (hne : j ≠ a) :
    ∃ i, ∃ hi : i < g.length, j < i ∧ (pastB g (a : Int)).getD i false = true ∧ ∃ hjl : j < g.length, g[i].r = g[j].r + 1 ∧ g[j].a ∈ g[i].ps := by
  have e : pastB g (a : Int) = downB g (a + 1) ((List.replicate g.length false).set a true) := by unfold pastB; rw [if_neg (by omega)]; rfl
  have hp : ProvFrom g a (pastB g (a : Int)) 0 := by
    rw [e]
    refine down_prov (a + 1) _ (by omega) (by simp) fun j hb => ?_
    rw [setB_get] at hb
    rcases hb with hb | hb
    · rw [List.getD_eq_getElem?_getD, List.getElem?_replicate] at hb
      split at hb <;> simp at hb
    · exact .inl hb.1.symm
  rcases hp j hj with e1 | ⟨i, hi, _, hbi, p, hpm, ej⟩
  · exact absurd e1 hne
  · obtain ⟨k, hk, rfl⟩ := List.mem_iff_getElem.1 hpm
    obtain ⟨j', hj', e'⟩ := graph_parents h i hi k hk
    rw [e'] at ej
    have : j' = j := by simpa using ej
    subst this
    have hlt := parent_lt h hi hj' e'
    rcases findZ_cases g (g[i].r - 1) g[i].ps[k] with ⟨e2, _⟩ | ⟨j2, hj2, e2, hy, _⟩
    · omega
    · have : j2 = j' := by omega
      subst this
      have hy2 : g[j2].r = g[i].r - 1 ∧ g[j2].a = g[i].ps[k] := of_decide_eq_true hy
      exact ⟨i, hi, hlt, hbi, hj2, by omega, by rw [hy2.2]; exact List.getElem_mem hk⟩
/-- The past of a vertex that is there: it is closed, it has the vertex, and none behind it. -/
theorem past_closed {c : List Int} {g : List Vx} (h : graphB c g = true) {a : Nat} (ha : a < g.length) : ClosedFrom g (pastB g a) 0 ∧ (pastB g a).getD a false = true ∧ ∀ j, a < j → (pastB g a).getD j false = false := by
  have e : pastB g (a : Int) = downB g (a + 1) ((List.replicate g.length false).set a true) := by unfold pastB; rw [if_neg (by omega)]; rfl
  have hb : ∀ j, ((List.replicate g.length false).set a true).getD j false = true ↔ a = j := by
    intro j
    rw [setB_get]
    have : (List.replicate g.length false).getD j false = false := by
      rw [List.getD_eq_getElem?_getD, List.getElem?_replicate]
      split <;> rfl
    rw [this]
    simp
    omega
  obtain ⟨h1, h2, h3⟩ := down_closed h (a + 1) ((List.replicate g.length false).set a true) (by omega) (by simp) (fun i hi hni hbi => by have := (hb i).1 hbi; omega)
  rw [e]
  refine ⟨h1, h2 a ((hb a).2 rfl), fun j hj => Bool.eq_false_iff.2 fun hh => ?_⟩
  have := (hb j).1 (h3 j hj hh)
  omega

theorem idxTo_mem {bs : List Bool} {n m : Nat} : (m : Int) ∈ idxTo bs n ↔ m < n ∧ bs.getD m false = true := by
  unfold idxTo
  rw [List.mem_map]
  constructor
  · rintro ⟨k, hk, e⟩
    have : k = m := by have : (k : Int) = m := e; omega
    subst this
    have := List.mem_filter.1 hk
    exact ⟨List.mem_range.1 this.1, this.2⟩
  · rintro ⟨h1, h2⟩
    exact ⟨m, List.mem_filter.2 ⟨List.mem_range.2 h1, h2⟩, rfl⟩
theorem idxTo_all {bs : List Bool} {n : Nat} : ∀ x ∈ idxTo bs n, ∃ m : Nat, x = m ∧ m < n ∧ bs.getD m false = true := by
  intro x hx
  have hx' := hx
  unfold idxTo at hx
  obtain ⟨k, _, rfl⟩ := List.mem_map.1 hx
  exact ⟨k, rfl, idxTo_mem.1 hx'⟩
theorem idxTo_asc (bs : List Bool) (n : Nat) : (idxTo bs n).Pairwise (· < ·) := by
  unfold idxTo
  rw [List.pairwise_map]
  refine (List.Pairwise.filter _ List.pairwise_lt_range).imp fun {a b} h => ?_
  show (a : Int) < b
  omega
/-- What the law of the past asks of the indexes. -/
theorem past_law {c : List Int} {g : List Vx} {r b : Int} {L : List Int} (hL : gpZ c g r b = L) (hne : 0 < L.length) : graphB c g = true ∧ ∃ a : Nat, a < g.length ∧ findZ g r b = a ∧
    (∀ i (hi : i < L.length), ∃ m : Nat, ∃ hm : m < g.length, L[i] = m ∧ ∀ k (hk : k < g[m].ps.length), ∃ j : Nat, j < g.length ∧ findZ g (g[m].r - 1) g[m].ps[k] = j ∧ (j : Int) ∈ L) ∧
    (∀ i (hi : i < L.length), 0 < i → L[i - 1]'(by omega) < L[i]) ∧ L[L.length - 1]'(by omega) = a := by
  cases hgb : graphB c g with
  | false =>
    exfalso
    unfold gpZ at hL
    rw [hgb] at hL
    subst hL
    simp at hne
  | true =>
    have e : idxTo (pastB g (findZ g r b)) g.length = L := by rw [← hL]; unfold gpZ; rw [if_pos hgb]
    rcases findZ_cases g r b with ⟨ez, _⟩ | ⟨a, ha, ez, _⟩
    · exfalso
      rw [ez] at e
      have hall := idxTo_all (bs := pastB g (-1)) (n := g.length)
      rw [e] at hall
      obtain ⟨m, _, _, hm⟩ := hall _ (List.getElem_mem hne)
      unfold pastB at hm
      rw [if_pos (by omega), List.getD_eq_getElem?_getD, List.getElem?_replicate] at hm
      split at hm <;> simp at hm
    · rw [ez] at e
      obtain ⟨h1, h2, h3⟩ := past_closed hgb ha
      have hpw := idxTo_asc (pastB g (a : Int)) g.length
      have hall := idxTo_all (bs := pastB g (a : Int)) (n := g.length)
      have hmem := fun m => idxTo_mem (bs := pastB g (a : Int)) (n := g.length) (m := m)
      rw [e] at hpw hall
      simp only [e] at hmem
      have hasc := List.pairwise_iff_getElem.1 hpw
      refine ⟨rfl, a, ha, ez, fun i hi => ?_, fun i hi h0 => hasc (i - 1) i (by omega) hi (by omega), ?_⟩
      · obtain ⟨m, em, hm, hb⟩ := hall _ (List.getElem_mem hi)
        refine ⟨m, hm, em, fun k hk => ?_⟩
        obtain ⟨j, hj, ej⟩ := graph_parents hgb m hm k hk
        have := h1 m hm (by omega) hb k hk
        rw [ej] at this
        exact ⟨j, hj, ej, (hmem j).2 ⟨hj, this⟩⟩
      · obtain ⟨i, hi, ei⟩ := List.mem_iff_getElem.1 ((hmem a).2 ⟨ha, h2⟩)
        obtain ⟨m, em, hm, hb⟩ := hall _ (List.getElem_mem (show L.length - 1 < L.length by omega))
        have hma : m ≤ a := by
          refine Nat.le_of_not_lt fun hlt => ?_
          rw [h3 m hlt] at hb
          simp at hb
        rcases Nat.eq_or_lt_of_le (show i ≤ L.length - 1 by omega) with hq | hq
        · simp only [← hq, ei]
        · have := hasc i (L.length - 1) hi (by omega) hq
          omega

/-- What P47 asks of the indexes. -/
theorem least_law {c : List Int} {g : List Vx} {r b : Int} {L : List Int} (hL : gpZ c g r b = L) (i : Nat) (hi : i + 1 < L.length) :
    ∃ k, ∃ hk : k < L.length, i < k ∧ ∃ m : Nat, ∃ hm : m < g.length, L[i] = m ∧ ∃ m' : Nat, ∃ hm' : m' < g.length, L[k] = m' ∧ g[m'].r = g[m].r + 1 ∧ g[m].a ∈ g[m'].ps := by
  obtain ⟨hgb, a, ha, hfa, hrow, hasc, hlast⟩ := past_law hL (by omega)
  have e : idxTo (pastB g (a : Int)) g.length = L := by rw [← hL]; unfold gpZ; rw [if_pos hgb, hfa]
  have hpw := idxTo_asc (pastB g (a : Int)) g.length
  have hall := idxTo_all (bs := pastB g (a : Int)) (n := g.length)
  have hmem := fun m => idxTo_mem (bs := pastB g (a : Int)) (n := g.length) (m := m)
  rw [e] at hpw hall
  simp only [e] at hmem
  have hasc := List.pairwise_iff_getElem.1 hpw
  obtain ⟨m, em, hm, hb⟩ := hall _ (List.getElem_mem (show i < L.length by omega))
  have hne : m ≠ a := by
    intro h
    have := hasc i (L.length - 1) (by omega) (by omega) (by omega)
    omega
  obtain ⟨m', hm', hlt, hb', _, h1, h2⟩ := past_least hgb ha m hb hne
  obtain ⟨k, hk, ek⟩ := List.mem_iff_getElem.1 ((hmem m').2 ⟨hm', hb'⟩)
  refine ⟨k, hk, ?_, m, hm, em, m', hm', ek, h1, h2⟩
  rcases Nat.lt_trichotomy i k with h | h | h
  · exact h
  · subst h; omega
  · have := hasc k i hk (by omega) h
    omega

end Go.Proofs.Ythnbjdijcpcafaa

/- What the laws of adding vertices say of the reference's answers; plain facts on lists, nothing here is walked. -/
namespace Go.Proofs.Ythnbjdijcpcafaa
open Go.RowKit

theorem graph_iff {c : List Int} {g : List Vx} : graphB c g = true ↔ validB c = true ∧ Srt g ∧ (∀ y ∈ g, vtxB c y = true) ∧ ∀ y ∈ g, parB g y = true := by
  constructor
  · intro h
    have h2 := h
    unfold graphB at h2
    rw [Bool.and_eq_true] at h2
    refine ⟨h2.1, graph_sorted h, graph_vtx h, fun y hy => ?_⟩
    obtain ⟨k, hk, rfl⟩ := List.mem_iff_getElem.1 hy
    have := allB_upto h2.2 k hk
    unfold okV at this
    simp only [Bool.and_eq_true] at this
    rw [getV hk] at this
    exact this.2.2
  · rintro ⟨h1, h2, h3, h4⟩
    unfold graphB
    rw [Bool.and_eq_true]
    refine ⟨h1, allB_yes (k := g.length) (fun k hk => ?_) (Nat.le_refl _)⟩
    unfold okV
    simp only [Bool.and_eq_true, Bool.or_eq_true, beq_iff_eq]
    rw [getV hk]
    refine ⟨h3 _ (List.getElem_mem hk), ?_, h4 _ (List.getElem_mem hk)⟩
    by_cases e : k = 0
    · exact .inl e
    · refine .inr ?_
      rw [getV (show k - 1 < g.length by omega)]
      exact List.pairwise_iff_getElem.1 h2 (k - 1) k (by omega) hk (by omega)
theorem srt_irr {x : Vx} (h : befB x x = true) : False := by have := befB_iff.1 h; omega
theorem srt_ext : ∀ {a b : List Vx}, Srt a → Srt b → (∀ x, x ∈ a ↔ x ∈ b) → a = b
  | [], [], _, _, _ => rfl
  | [], y :: b, _, _, h => by have := (h y).2 (by simp); cases this
  | x :: a, [], _, _, h => by have := (h x).1 (by simp); cases this
  | x :: a, y :: b, ha, hb, h => by
    obtain ⟨ha1, ha2⟩ := List.pairwise_cons.1 ha
    obtain ⟨hb1, hb2⟩ := List.pairwise_cons.1 hb
    have e : x = y := by
      rcases List.mem_cons.1 ((h x).1 (by simp)) with e | e
      · exact e
      · rcases List.mem_cons.1 ((h y).2 (by simp)) with e2 | e2
        · exact e2.symm
        · exact (srt_irr (bef_trans (ha1 y e2) (hb1 x e))).elim
    subst e
    congr 1
    refine srt_ext ha2 hb2 fun z => ⟨fun hz => ?_, fun hz => ?_⟩
    · rcases List.mem_cons.1 ((h z).1 (List.mem_cons_of_mem _ hz)) with e | e
      · subst e; exact (srt_irr (ha1 z hz)).elim
      · exact e
    · rcases List.mem_cons.1 ((h z).2 (List.mem_cons_of_mem _ hz)) with e | e
      · subst e; exact (srt_irr (hb1 z hz)).elim
      · exact e
theorem add0 {g : List Vx} {x : Vx} (hs : Srt g) (h : addN g x = 0) : (∀ y ∈ g, ¬ (y.r = x.r ∧ y.a = x.a)) ∧ parB g x = true := by
  unfold addN at h
  by_cases h1 : 0 ≤ findZ g x.r x.a
  · rw [if_pos h1] at h; split at h <;> cases h
  · rw [if_neg h1] at h
    refine ⟨fun y hy e => ?_, ?_⟩
    · obtain ⟨k, _, ek, _⟩ := findZ_mem hs hy
      rw [e.1, e.2] at ek; omega
    · by_cases h2 : parB g x = true
      · exact h2
      · rw [if_neg h2] at h; cases h
theorem of_add0 {g : List Vx} {x : Vx} (hn : ∀ y ∈ g, ¬ (y.r = x.r ∧ y.a = x.a)) (hp : parB g x = true) : addN g x = 0 ∧ addG g x = insG g x := addN_done (findZ_none hn) hp
theorem par_ins {g : List Vx} {x y : Vx} (h : parB g y = true) : parB (insG g x) y = true := by
  rw [parB_iff] at h ⊢
  intro p hp
  obtain ⟨z, hz, e⟩ := h p hp
  exact ⟨z, ins_mem.2 (.inl hz), e⟩
/-- The graph with one vertex more is valid. -/
theorem ins_graph {c : List Int} {g : List Vx} {x : Vx} (h : graphB c g = true) (hx : vtxB c x = true) (h0 : addN g x = 0) : graphB c (insG g x) = true := by
  obtain ⟨h1, h2, h3, h4⟩ := graph_iff.1 h
  obtain ⟨hn, hp⟩ := add0 h2 h0
  refine graph_iff.2 ⟨h1, ins_srt h2 hn, fun y hy => ?_, fun y hy => ?_⟩
  · rcases ins_mem.1 hy with hy | rfl
    · exact h3 y hy
    · exact hx
  · rcases ins_mem.1 hy with hy | rfl
    · exact par_ins (h4 y hy)
    · exact par_ins hp
theorem add_at {g : List Vx} {x y : Vx} (hs : Srt g) (hy : y ∈ g) (hr : y.r = x.r) (ha : y.a = x.a) : (addN g x = if sameB y x = true then 1 else 2) ∧ addG g x = g := by
  obtain ⟨k, hk, e, rfl⟩ := findZ_mem hs hy
  rw [hr, ha] at e
  cases h : sameB g[k] x with
  | true => obtain ⟨h1, h2⟩ := addN_same hk e h; exact ⟨h1, h2⟩
  | false => obtain ⟨h1, h2⟩ := addN_twice hk e h; exact ⟨by rw [h1]; rfl, h2⟩
theorem sameB_iff {x y : Vx} : sameB x y = true ↔ x = y := by unfold sameB; exact decide_eq_true_iff
theorem gaN_0 {c : List Int} {g : List Vx} {x : Vx} (h : gaN c g x = 0) : graphB c g = true ∧ vtxB c x = true ∧ addN g x = 0 ∧ gaG c g x = insG g x := by
  unfold gaN at h
  by_cases hb : gaB c g x = true
  · rw [if_pos hb] at h
    have hb2 := hb
    unfold gaB at hb2
    rw [Bool.and_eq_true] at hb2
    refine ⟨hb2.1, hb2.2, h, ?_⟩
    unfold gaG addG
    rw [if_pos hb, if_pos h]
  · rw [if_neg hb] at h; cases h
theorem ga_of {c : List Int} {g : List Vx} {x : Vx} (h1 : graphB c g = true) (h2 : vtxB c x = true) : gaN c g x = addN g x ∧ gaG c g x = addG g x := ga_yes (by unfold gaB; rw [h1, h2]; rfl)
/-- P43: a vertex that has been added is known; another one with its round and author is a second one. -/
theorem twice_law {c : List Int} {g : List Vx} {x u : Vx} (h : gaN c g x = 0) (hu : vtxB c x = true → vtxB c u = true) (hr : u.r = x.r) (ha : u.a = x.a) :
    gaN c (gaG c g x) x = 1 ∧ gaG c (gaG c g x) x = gaG c g x ∧ gaG c (gaG c g x) u = gaG c g x ∧ (gaN c (gaG c g x) u = 2 ∨ u.d = x.d) := by
  obtain ⟨h1, h2, h3, h4⟩ := gaN_0 h
  have hg := ins_graph h1 h2 h3
  have hs := graph_sorted hg
  have hm : x ∈ insG g x := ins_mem.2 (.inr rfl)
  rw [h4]
  obtain ⟨e1, e2⟩ := ga_of hg h2
  obtain ⟨e3, e4⟩ := ga_of hg (hu h2)
  obtain ⟨f1, f2⟩ := add_at (x := x) hs hm rfl rfl
  obtain ⟨f3, f4⟩ := add_at (x := u) hs hm hr.symm ha.symm
  rw [if_pos (sameB_iff.2 rfl)] at f1
  refine ⟨by rw [e1, f1], by rw [e2, f2], by rw [e4, f4], ?_⟩
  by_cases e : x = u
  · exact .inr (by rw [e])
  · rw [if_neg (fun h => e (sameB_iff.1 h))] at f3
    exact .inl (by rw [e3, f3])
/-- P45: two vertices may be added in either order. -/
theorem order_law {c : List Int} {g : List Vx} {v u : Vx} (h : gaN c g v = 0) (h1 : gaN c (gaG c g v) u = 0) (h2 : gaN c g u = 0) : gaN c (gaG c g u) v = 0 ∧ gaG c (gaG c g u) v = gaG c (gaG c g v) u := by
  obtain ⟨a1, a2, a3, a4⟩ := gaN_0 h
  obtain ⟨b1, b2, b3, b4⟩ := gaN_0 h2
  obtain ⟨d1, d2, d3, d4⟩ := gaN_0 h1
  rw [a4] at d3 d4 d1 ⊢
  rw [d4, b4]
  have hgu := ins_graph b1 b2 b3
  have hsv := graph_sorted a1
  obtain ⟨nv, pv⟩ := add0 hsv a3
  obtain ⟨nu, pu⟩ := add0 hsv b3
  obtain ⟨nvu, _⟩ := add0 (graph_sorted d1) d3
  have hne : ¬ (v.r = u.r ∧ v.a = u.a) := nvu v (ins_mem.2 (.inr rfl))
  have nuv : ∀ y ∈ insG g u, ¬ (y.r = v.r ∧ y.a = v.a) := fun y hy e => by
    rcases ins_mem.1 hy with hy | rfl
    · exact nv y hy e
    · exact hne ⟨e.1.symm, e.2.symm⟩
  obtain ⟨f1, f2⟩ := of_add0 nuv (par_ins pv)
  obtain ⟨e1, e2⟩ := ga_of hgu a2
  refine ⟨by rw [e1, f1], ?_⟩
  rw [e2, f2]
  refine srt_ext (ins_srt (ins_srt hsv nu) nuv) (ins_srt (ins_srt hsv nv) nvu) fun x => ?_
  rw [ins_mem, ins_mem, ins_mem, ins_mem]
  constructor
  · rintro ((h | h) | h)
    · exact .inl (.inl h)
    · exact .inr h
    · exact .inl (.inr h)
  · rintro ((h | h) | h)
    · exact .inl (.inl h)
    · exact .inr h
    · exact .inl (.inr h)
/-- P44: what each code says. -/
theorem codes_law {c : List Int} {g : List Vx} {x : Vx} (h0 : gaN c g x ≠ 0) (h4 : gaN c g x ≠ 4) : graphB c g = true ∧ vtxB c x = true ∧ gaG c g x = g ∧
    (gaN c g x = 1 ↔ ∃ k : Nat, ∃ hk : k < g.length, findZ g x.r x.a = k ∧ g[k] = x) ∧ (gaN c g x = 3 ↔ findZ g x.r x.a < 0 ∧ parB g x = false) := by
  have hb : gaB c g x = true := by
    by_cases hb : gaB c g x = true
    · exact hb
    · exact absurd (ga_no (by simpa using hb)).1 h4
  have hb2 := hb
  unfold gaB at hb2
  rw [Bool.and_eq_true] at hb2
  obtain ⟨e1, e2⟩ := ga_of hb2.1 hb2.2
  rw [e1] at h0 ⊢
  refine ⟨hb2.1, hb2.2, by rw [e2]; unfold addG; rw [if_neg h0], ?_, ?_⟩
  · unfold addN
    rcases findZ_cases g x.r x.a with ⟨e, _⟩ | ⟨k, hk, e, _⟩
    · rw [e, if_neg (by omega)]
      constructor
      · intro h; split at h <;> cases h
      · rintro ⟨k, _, h, _⟩; omega
    · rw [e, if_pos (by omega), Int.toNat_natCast, getV hk]
      constructor
      · intro h
        by_cases hs : sameB g[k] x = true
        · exact ⟨k, hk, rfl, sameB_iff.1 hs⟩
        · rw [if_neg hs] at h; cases h
      · rintro ⟨k', hk', e', h'⟩
        have : k' = k := by omega
        subst this
        rw [if_pos (sameB_iff.2 h')]
  · unfold addN
    rcases findZ_cases g x.r x.a with ⟨e, _⟩ | ⟨k, hk, e, _⟩
    · rw [e, if_neg (by omega)]
      cases hp : parB g x with
      | true => simp
      | false => simp
    · rw [e, if_pos (by omega)]
      constructor
      · intro h; split at h <;> cases h
      · rintro ⟨h, _⟩; omega

/-! the past as a list of vertices -/
def psV (c : List Int) (g : List Vx) (r a : Int) : List Vx := (gpZ c g r a).map fun i => g.getD i.toNat vx0
/-- A vertex of a graph's past: the least set that is closed. -/
inductive Past (g : List Vx) (y : Vx) : Vx → Prop
  | it : Past g y y
  | up {x z : Vx} : Past g y x → z ∈ g → z.r = x.r - 1 → z.a ∈ x.ps → Past g y z
theorem past_mem {g : List Vx} {y x : Vx} (hy : y ∈ g) (h : Past g y x) : x ∈ g := by
  cases h with
  | it => exact hy
  | up _ hz _ _ => exact hz
theorem pastB_iff {c : List Int} {g : List Vx} (h : graphB c g = true) {a : Nat} (ha : a < g.length) (j : Nat) (hj : j < g.length) : (pastB g a).getD j false = true ↔ Past g g[a] g[j] := by
  have hs := graph_sorted h
  obtain ⟨hcl, hca, hcb⟩ := past_closed h ha
  have huni : ∀ i j (hi : i < g.length) (hj : j < g.length), g[i] = g[j] → i = j := fun i j hi hj e => by
    rcases Nat.lt_trichotomy i j with h1 | h1 | h1
    · have := List.pairwise_iff_getElem.1 hs i j hi hj h1; rw [e] at this; exact (srt_irr this).elim
    · exact h1
    · have := List.pairwise_iff_getElem.1 hs j i hj hi h1; rw [e] at this; exact (srt_irr this).elim
  constructor
  · suffices hh : ∀ n j, (hj : j < g.length) → g.length - j ≤ n → (pastB g a).getD j false = true → Past g g[a] g[j] from hh (g.length - j) j hj (Nat.le_refl _)
    intro n
    induction n with
    | zero => intro j hj hn; omega
    | succ n ih =>
      intro j hj hn hb
      by_cases e : j = a
      · subst e; exact .it
      · obtain ⟨i, hi, hji, hbi, _, er, ep⟩ := past_least h ha j hb e
        exact .up (ih i hi (by omega) hbi) (List.getElem_mem hj) (by omega) ep
  · intro hp
    suffices hh : ∀ x, Past g g[a] x → ∀ j (hj : j < g.length), g[j] = x → (pastB g a).getD j false = true from hh _ hp j hj rfl
    intro x hx
    induction hx with
    | it => intro j hj e; rw [huni j a hj ha e]; exact hca
    | @up x z hpx hz er ep ih =>
      intro j hj e
      have hxm := past_mem (List.getElem_mem ha) hpx
      obtain ⟨i, hi, rfl⟩ := List.mem_iff_getElem.1 hxm
      have hbi := ih i hi rfl
      obtain ⟨k, hk, ek⟩ := List.mem_iff_getElem.1 ep
      have := hcl i hi (Nat.zero_le _) hbi k hk
      obtain ⟨m, hm, em, em2⟩ := findZ_mem hs hz
      rw [er, ← ek] at em
      rw [em, Int.toNat_natCast, huni m j hm hj (by rw [em2, e])] at this
      exact this
theorem idx_filter (g : List Vx) (P : Nat → Bool) (p : Vx → Bool) (h : ∀ j (hj : j < g.length), P j = p g[j]) : ∀ n, n ≤ g.length → (((List.range n).filter P).map fun i => g.getD i vx0) = (g.take n).filter p := by
  intro n
  induction n with
  | zero => intro _; simp
  | succ n ih =>
    intro hn
    rw [List.range_succ, List.filter_append, List.map_append, ih (by omega), List.take_succ_eq_append_getElem (show n < g.length by omega), List.filter_append]
    congr 1
    have := h n (by omega)
    by_cases hp : p g[n] = true
    · rw [hp] at this
      simp [this, hp, List.getElem?_eq_getElem (show n < g.length by omega)]
    · have hp' : p g[n] = false := by simpa using hp
      rw [hp'] at this
      simp [this, hp']
open Classical in
theorem psV_eq {c : List Int} {g : List Vx} (h : graphB c g = true) {y : Vx} (hy : y ∈ g) : psV c g y.r y.a = g.filter fun z => decide (Past g y z) := by
  have hs := graph_sorted h
  obtain ⟨a, ha, ea, rfl⟩ := findZ_mem hs hy
  unfold psV gpZ idxTo
  rw [if_pos h, ea, List.map_map]
  have := idx_filter g (fun i => (pastB g a).getD i false) (fun z => decide (Past g g[a] z)) (fun j hj => by
    rw [Bool.eq_iff_iff, decide_eq_true_iff]; exact pastB_iff h ha j hj) g.length (Nat.le_refl _)
  rw [List.take_length] at this
  rw [← this]
  apply List.map_congr_left
  intro i _
  simp
theorem past_ins {g : List Vx} {x y z : Vx} (hpar : ∀ w ∈ g, parB g w = true) (hn : ∀ w ∈ g, ¬ (w.r = x.r ∧ w.a = x.a)) (hy : y ∈ g) : Past (insG g x) y z ↔ Past g y z := by
  constructor
  · intro h
    induction h with
    | it => exact .it
    | @up w z hw hz er ep ih =>
      have hwm := past_mem hy ih
      obtain ⟨z', hz', er', ea'⟩ := parB_iff.1 (hpar w hwm) z.a ep
      have hz2 : z ∈ g := by
        rcases ins_mem.1 hz with h | rfl
        · exact h
        · exact (hn z' hz' ⟨by omega, ea'⟩).elim
      exact .up ih hz2 er ep
  · intro h
    induction h with
    | it => exact .it
    | up _ hz er ep ih => exact .up ih (ins_mem.2 (.inl hz)) er ep
theorem past_new {g : List Vx} {x y : Vx} (hpar : ∀ w ∈ g, parB g w = true) (hn : ∀ w ∈ g, ¬ (w.r = x.r ∧ w.a = x.a)) (hy : y ∈ g) : ¬ Past (insG g x) y x := by
  intro h
  have := past_mem hy ((past_ins hpar hn hy).1 h)
  exact hn x this ⟨rfl, rfl⟩
open Classical in
/-- P48: a vertex's past stays as it was. -/
theorem keeps_law {c : List Int} {g : List Vx} {x y : Vx} (h : gaN c g x = 0) (hy : y ∈ g) : psV c (gaG c g x) y.r y.a = psV c g y.r y.a := by
  obtain ⟨h1, h2, h3, h4⟩ := gaN_0 h
  obtain ⟨g1, g2, g3, g4⟩ := graph_iff.1 h1
  obtain ⟨hn, hp⟩ := add0 g2 h3
  have hg := ins_graph h1 h2 h3
  rw [h4, psV_eq hg (ins_mem.2 (.inl hy)), psV_eq h1 hy]
  have e1 : (insG g x).filter (fun z => decide (Past (insG g x) y z)) = (insG g x).filter fun z => decide (Past g y z) := by
    refine List.filter_congr fun z _ => ?_
    rw [Bool.eq_iff_iff, decide_eq_true_iff, decide_eq_true_iff]
    exact past_ins g4 hn hy
  rw [e1]
  unfold insG
  rw [List.filter_append, List.filter_append]
  have e2 : [x].filter (fun z => decide (Past g y z)) = [] := by
    rw [List.filter_eq_nil_iff]
    intro z hz
    simp at hz
    subst hz
    rw [decide_eq_true_iff]
    exact fun hpast => hn z (past_mem hy hpast) ⟨rfl, rfl⟩
  rw [e2, List.append_nil, ← List.filter_append, List.take_append_drop]
theorem gp_range {c : List Int} {g : List Vx} {r a : Int} (i : Nat) (hi : i < (gpZ c g r a).length) : ∃ m : Nat, m < g.length ∧ (gpZ c g r a)[i] = m := by
  have hx := List.getElem_mem hi
  generalize hv : (gpZ c g r a)[i] = v at *
  unfold gpZ at hx
  split at hx
  · obtain ⟨m, e, hm, _⟩ := idxTo_all v hx
    exact ⟨m, hm, e⟩
  · cases hx
theorem keeps_at {c : List Int} {g G : List Vx} {r a : Int} (h : psV c G r a = psV c g r a) : (gpZ c G r a).length = (gpZ c g r a).length ∧
    ∀ i (h1 : i < (gpZ c g r a).length) (h2 : i < (gpZ c G r a).length), ∃ m m' : Nat, ∃ hm : m < g.length, ∃ hm' : m' < G.length, (gpZ c g r a)[i] = m ∧ (gpZ c G r a)[i] = m' ∧ G[m'] = g[m] := by
  unfold psV at h
  have hl : (gpZ c G r a).length = (gpZ c g r a).length := by have := congrArg List.length h; simpa using this
  refine ⟨hl, fun i h1 h2 => ?_⟩
  obtain ⟨m, hm, e⟩ := gp_range i h1
  obtain ⟨m', hm', e'⟩ := gp_range i h2
  refine ⟨m, m', hm, hm', e, e', ?_⟩
  have h3 := congrArg (fun l => l[i]?) h
  simp only [List.getElem?_map, List.getElem?_eq_getElem h1, List.getElem?_eq_getElem h2, Option.map_some, e, e', Int.toNat_natCast, Option.some.injEq] at h3
  rwa [getV hm, getV hm'] at h3
theorem keeps_at' {c : List Int} {g G : List Vx} {r a : Int} {L1 L2 : List Int} (e1 : gpZ c g r a = L1) (e2 : gpZ c G r a = L2) (h : psV c G r a = psV c g r a) : L2.length = L1.length ∧
    ∀ i (h1 : i < L1.length) (h2 : i < L2.length), ∃ m m' : Nat, ∃ hm : m < g.length, ∃ hm' : m' < G.length, L1[i] = m ∧ L2[i] = m' ∧ G[m'] = g[m] := by
  subst e1 e2
  exact keeps_at h
/-- P44: which code, in each case. -/
theorem codes3 {c : List Int} {g : List Vx} {x : Vx} (h0 : gaN c g x ≠ 0) (h4 : gaN c g x ≠ 4) : graphB c g = true ∧ vtxB c x = true ∧ gaG c g x = g ∧
    ((∃ k : Nat, ∃ hk : k < g.length, findZ g x.r x.a = k ∧ sameB g[k] x = true ∧ gaN c g x = 1) ∨ (∃ k : Nat, ∃ hk : k < g.length, findZ g x.r x.a = k ∧ sameB g[k] x = false ∧ gaN c g x = 2) ∨
     (findZ g x.r x.a = -1 ∧ parB g x = false ∧ gaN c g x = 3)) := by
  obtain ⟨h1, h2, h3, _, _⟩ := codes_law h0 h4
  refine ⟨h1, h2, h3, ?_⟩
  obtain ⟨e1, _⟩ := ga_of h1 h2
  rw [e1] at h0 ⊢
  unfold addN at h0 ⊢
  rcases findZ_cases g x.r x.a with ⟨e, _⟩ | ⟨k, hk, e, _⟩
  · rw [e, if_neg (by omega)] at h0 ⊢
    cases hp : parB g x with
    | true => rw [hp] at h0; exact absurd rfl h0
    | false => exact .inr (.inr ⟨rfl, rfl, rfl⟩)
  · rw [e, if_pos (by omega), Int.toNat_natCast, getV hk]
    cases hs : sameB g[k] x with
    | true => exact .inl ⟨k, hk, rfl, hs, rfl⟩
    | false => exact .inr (.inl ⟨k, hk, rfl, hs, rfl⟩)
def misB (g : List Vx) (r : Int) (ps : List Int) (k : Nat) : Bool := !(allB (hasP g r ps) k)
theorem mis_zero (g : List Vx) (r : Int) (ps : List Int) : misB g r ps 0 = false := rfl
theorem mis_succ (g : List Vx) (r : Int) (ps : List Int) (k : Nat) : misB g r ps (k + 1) = (misB g r ps k || !(hasP g r ps k)) := by
  unfold misB allB
  rw [List.range_succ, List.all_append]
  simp
theorem mis_true {g : List Vx} {r : Int} {ps : List Int} {k : Nat} (h : misB g r ps k = true) : misB g r ps (k + 1) = true := by rw [mis_succ, h]; rfl
theorem mis_next {g : List Vx} {r : Int} {ps : List Int} {k : Nat} (h : misB g r ps k = false) (hk : k < ps.length) : misB g r ps (k + 1) = decide (findZ g (r - 1) ps[k] < 0) := by
  rw [mis_succ, h, Bool.false_or]
  unfold hasP
  rw [getD_get hk, Bool.eq_iff_iff, Bool.not_eq_true', decide_eq_false_iff_not, decide_eq_true_iff]
  omega

end Go.Proofs.Ythnbjdijcpcafaa

/- What the law of the past's rounds says of the reference's answers; plain facts on lists, nothing here is walked. -/
namespace Go.Proofs.Ythnbjdijcpcafaa
open Go.RowKit

theorem weight_mono {c a b : List Int} (h : validB c = true) (ha : AscP c.length a) (hb : AscP c.length b) (hs : ∀ x ∈ a, x ∈ b) : weightZ c a ≤ weightZ c b := by
  rw [weight_isum c c.length a ha, weight_isum c c.length b hb]
  refine isum_le fun i hi => ?_
  unfold wAt
  have hp := c_nonneg h i hi
  by_cases h1 : hasB a i = true
  · have h2 : hasB b i = true := by
      unfold hasB at h1 ⊢
      simp at h1 ⊢
      exact hs _ h1
    rw [if_pos h1, if_pos h2]; omega
  · rw [if_neg h1]
    split
    · exact hp
    · omega
theorem quorum_pos {c : List Int} (h : validB c = true) : 1 ≤ quorumZ c := by have := totalZ_bd h; unfold quorumZ; omega
theorem vtx_quo {c : List Int} {x : Vx} (h : vtxB c x = true) (h0 : ¬ x.r = 0) : quorumZ c ≤ weightZ c x.ps := by
  unfold vtxB quoB at h
  simp only [Bool.and_eq_true, if_neg h0, decide_eq_true_eq] at h
  exact h.2.2.2.2
theorem past_rounds {c : List Int} {g : List Vx} (h : graphB c g = true) {y : Vx} (hy : y ∈ g) : ∀ k : Nat, (k : Int) ≤ y.r → ∃ z, Past g y z ∧ z.r = y.r - k := by
  obtain ⟨h1, h2, h3, h4⟩ := graph_iff.1 h
  intro k
  induction k with
  | zero => intro _; exact ⟨y, .it, by omega⟩
  | succ k ih =>
    intro hk
    obtain ⟨z, hz, er⟩ := ih (by omega)
    have hzm := past_mem hy hz
    have hq := vtx_quo (h3 z hzm) (by omega)
    have hp := quorum_pos h1
    match hps : z.ps with
    | [] => rw [hps] at hq; have : weightZ c [] = 0 := rfl; omega
    | p :: ps =>
      obtain ⟨z', hz', er', ea'⟩ := parB_iff.1 (h4 z hzm) p (by rw [hps]; simp)
      exact ⟨z', .up hz hz' er' (by rw [ea', hps]; simp), by omega⟩
open Classical in
/-- P49: in each round before the vertex's, the past's authors are a quorum. -/
theorem rounds_law {c : List Int} {g : List Vx} {r a : Int} (hne : 0 < (gpZ c g r a).length) (q : Int) (h0 : 0 ≤ q) (hq : q < r) : validB c = true ∧ quorumZ c ≤ mwZ c (authZ (psV c g r a) q) := by
  have hgb : graphB c g = true := by
    cases hgb : graphB c g with
    | true => rfl
    | false => exfalso; unfold gpZ at hne; rw [hgb] at hne; simp at hne
  obtain ⟨h1, h2, h3, h4⟩ := graph_iff.1 hgb
  obtain ⟨hgb', k, hk, ek, _⟩ := past_law (c := c) (g := g) (r := r) (b := a) rfl hne
  have hs : sameRA r a g[k] = true := by
    rcases findZ_cases g r a with ⟨e, _⟩ | ⟨j, hj, e, hs, _⟩
    · omega
    · have : j = k := by omega
      subst this; exact hs
  obtain ⟨er, ea⟩ := of_decide_eq_true hs
  have hym := List.getElem_mem hk
  generalize g[k] = y at *
  have hps : psV c g r a = g.filter fun z => decide (Past g y z) := by rw [← er, ← ea]; exact psV_eq hgb hym
  refine ⟨h1, ?_⟩
  rw [hps]
  have hsub : authZ (g.filter fun z => decide (Past g y z)) q = ((g.filter (authP q)).filter fun z => decide (Past g y z)).map (·.a) := by
    unfold authZ
    rw [List.filter_filter, List.filter_filter]
    congr 1
    exact List.filter_congr fun z _ => Bool.and_comm _ _
  have hall := ascP_of (auth_members hgb q)
  have hasc : AscP c.length (authZ (g.filter fun z => decide (Past g y z)) q) := by
    rw [hsub]
    have hsl : (((g.filter (authP q)).filter fun z => decide (Past g y z)).map (·.a)).Sublist (authZ g q) := List.Sublist.map _ List.filter_sublist
    exact ⟨hall.1.sublist hsl, fun m hm => hall.2 m (hsl.mem hm)⟩
  rw [mwZ_of h1 hasc]
  obtain ⟨z, hz, ez⟩ := past_rounds hgb hym (r - q - 1).toNat (by rw [er]; omega)
  have ezr : z.r = q + 1 := by rw [ez, er]; omega
  have hzm := past_mem hym hz
  have hzq := vtx_quo (h3 z hzm) (by omega)
  have hzs : AscP c.length z.ps := ascP_of (vtx_mem (h3 z hzm))
  refine Int.le_trans hzq (weight_mono h1 hzs hasc fun p hp => ?_)
  obtain ⟨z', hz', er', ea'⟩ := parB_iff.1 (h4 z hzm) p hp
  unfold authZ
  refine List.mem_map.2 ⟨z', List.mem_filter.2 ⟨List.mem_filter.2 ⟨hz', by rw [decide_eq_true_iff]; exact .up hz hz' er' (by rw [ea']; exact hp)⟩, ?_⟩, ea'⟩
  unfold authP
  exact decide_eq_true (by omega)
theorem psV_at {c : List Int} {g : List Vx} {r a : Int} (i : Nat) (hi : i < (gpZ c g r a).length) : ∃ m : Nat, ∃ hm : m < g.length, ∃ hi' : i < (psV c g r a).length, (gpZ c g r a)[i] = m ∧ (psV c g r a)[i] = g[m] := by
  obtain ⟨m, hm, e⟩ := gp_range i hi
  refine ⟨m, hm, by unfold psV; rw [List.length_map]; exact hi, e, ?_⟩
  unfold psV
  rw [List.getElem_map, e, Int.toNat_natCast, getV hm]
theorem psV_len (c : List Int) (g : List Vx) (r a : Int) : (psV c g r a).length = (gpZ c g r a).length := by unfold psV; rw [List.length_map]
theorem rounds_bd {c : List Int} {g : List Vx} {r a : Int} (hne : 0 < (gpZ c g r a).length) : r ≤ 30 := by
  have hgb : graphB c g = true := by
    cases hgb : graphB c g with
    | true => rfl
    | false => exfalso; unfold gpZ at hne; rw [hgb] at hne; simp at hne
  obtain ⟨_, k, hk, ek, _⟩ := past_law (c := c) (g := g) (r := r) (b := a) rfl hne
  rcases findZ_cases g r a with ⟨e, _⟩ | ⟨j, hj, e, hs, _⟩
  · omega
  · have := (vtx_round (graph_vtx hgb _ (List.getElem_mem hj))).2
    rw [(of_decide_eq_true hs).1] at this
    exact this

end Go.Proofs.Ythnbjdijcpcafaa

/- impl's list of a graph of pointers, by a walk of its text; conditions: lists are shorter than 2^40 (a graph: 2^20), the graph's vertices lie in order and in range. -/
namespace Go.Proofs.Ythnbjdijcpcafaa
open Go.RowKit

theorem arrP_extract (n : Nat) (f : Nat → Value) (o k : Nat) (h : o + k ≤ n) : (arrP n f).extract o (o + k) = arrP k fun a => f (o + a) := by
  apply Array.ext
  · simp [arrP]; omega
  · intro j h1 h2
    simp [arrP]
theorem arrP_one {n : Nat} {f : Nat → Value} (h : ∀ i, i < n → (f i).oneCell' = true) : (arrP n f).all (·.oneCell') = true := by
  rw [Array.all_eq_true_iff_forall_mem]
  intro v hv
  simp only [arrP, List.mem_toArray, List.mem_map, List.mem_range] at hv
  obtain ⟨i, hi, rfl⟩ := hv
  exact h i hi
theorem run_index_row {P : Program} {T E : TypeId} {n k s : Nat} {d : TypeDesc} {cs : Array Value} (hu : P.underlying T = some (.array n E)) (hE : P.underlying E = some d) (hd : (match d with | .struct _ | .array _ _ => true | _ => false) = true)
    (hs : (P.info? E).map (·.size) = some s) (hk : k < n) (w : World) : (Instr.index T (.agg cs) (.int .i64 k)).run P w = .ok (.agg (cs.extract (k * s) (k * s + s))) w := by
  have h1 := run_underlying hu w
  have h2 : (isAgg E).run P w = .ok true w := by
    unfold isAgg; rw [Sem.run_bind, run_underlying hE w]; cases d <;> simp_all
  cases hq : P.info? E with
  | none => simp [hq] at hs
  | some i =>
    have hz : i.size = s := by simpa [hq] using hs
    simp [Instr.index, asIntOf, Sem.run_bind, h1, part, h2, sizeOf, typeInfo, hq, hz, hk]
theorem run_index_one {P : Program} {T E : TypeId} {n k : Nat} {d : TypeDesc} {cs : Array Value} {v : Value} (hu : P.underlying T = some (.array n E)) (hE : P.underlying E = some d) (hd : (match d with | .struct _ | .array _ _ => true | _ => false) = false)
    (hs : (P.info? E).map (·.size) = some 1) (hk : k < n) (hc : cs[k]? = some v) (w : World) : (Instr.index T (.agg cs) (.int .i64 k)).run P w = .ok v w := by
  have h1 := run_underlying hu w
  have h2 : (isAgg E).run P w = .ok false w := by
    unfold isAgg; rw [Sem.run_bind, run_underlying hE w]; cases d <;> simp_all
  cases hq : P.info? E with
  | none => simp [hq] at hs
  | some i =>
    have hz : i.size = 1 := by simpa [hq] using hs
    simp [Instr.index, asIntOf, Sem.run_bind, h1, part, h2, sizeOf, typeInfo, hq, hz, hk, hc]
theorem setRow_strP {W : World} {B : Nat} {t : TypeId} {vs : Array Value} (h : Str W B t vs) (cs : Array Value) : Str (W.setRow B cs) B t cs := setRow_heap W B vs cs t (0, 0) h
theorem grownBy_setRowP (W : World) (B : Nat) (cs : Array Value) : W.grownBy (W.setRow B cs) (some B) := ⟨rfl, rfl, rfl, by simp [World.setRow], fun k _ hk => setRow_other W B k cs (fun e => hk (by rw [e]))⟩

theorem Lk.cases {w0 w : World} {hi G : Nat} {mv : Value} {h : Nat → Value} {g : List Vx} (l : Lk w0 w hi G mv h g) (r a : Nat) (hr : r < 31) (ha : a < 7) :
    (∃ y ∈ g, y.r = r ∧ y.a = a ∧ ∃ q, h (1 + (r * 7 + a)) = ptrV q ∧ Nd w0 w hi G h q y) ∨ (h (1 + (r * 7 + a)) = .pointer none ∧ ∀ y ∈ g, ¬ (y.r = (r : Int) ∧ y.a = (a : Int))) := by
  have hp : plN (r : Int) (a : Int) = 1 + (r * 7 + a) := by unfold plN; simp
  by_cases he : ∃ y ∈ g, y.r = r ∧ y.a = a
  · obtain ⟨y, hy, er, ea⟩ := he
    obtain ⟨q, hq, hn⟩ := l.has y hy
    rw [er, ea, hp] at hq
    exact .inl ⟨y, hy, er, ea, q, hq, hn⟩
  · have hn : ∀ y ∈ g, ¬ (y.r = (r : Int) ∧ y.a = (a : Int)) := fun y hy e => he ⟨y, hy, e⟩
    have := l.non r a (by omega) (by omega) (by omega) (by omega) hn
    rw [hp] at this
    exact .inr ⟨this, hn⟩
theorem Lk.one {w0 w : World} {hi G : Nat} {mv : Value} {h : Nat → Value} {g : List Vx} (l : Lk w0 w hi G mv h g) (i : Nat) (hi : i < 217) : (h (1 + i)).oneCell' = true := by
  have e : i = i / 7 * 7 + i % 7 := by omega
  rcases l.cases (i / 7) (i % 7) (by omega) (by omega) with ⟨_, _, _, _, q, hq, _⟩ | ⟨hq, _⟩
  · rw [← e] at hq; rw [hq]; rfl
  · rw [← e] at hq; rw [hq]; rfl

set_option maxRecDepth 8000 in
set_option maxHeartbeats 4000000 in
theorem graph_list (w0 w : World) (hi G : Nat) (mv : Value) (h : Nat → Value) (g : List Vx) (hb : Below w0.heap.size w0 w) (hL : Lk w0 w hi G mv h g) (hsrt : Srt g) (hin : ∀ y ∈ g, inPl y) (hgp : ∀ y ∈ g, y.ps.length ≤ 1099511627776) (hbig : g.length ≤ 1048577) :
    Calls Try.prog 37 #[.pointer (some ⟨G, 0, none⟩)] w fun e w' => ∃ u, e = .returned u ∧ OwnR 25 3 4 w' w.heap.size w'.heap.size u (g.map Vx.fd) ∧ Below w.heap.size w w' := by
  have hb0 : Below w.heap.size w (w.alloc (.cells #[] 25)) := (Below.refl _ _).alloc (Nat.le_refl _) _
  have hv0 : OwnR 25 3 4 (w.alloc (.cells #[] 25)) w.heap.size (w.alloc (.cells #[] 25)).heap.size (.slice (some ⟨w.heap.size, 0, none⟩) 0 0) [] := .nil (World.ownsRow_made w #[] 0 (Nat.le_refl _) (by simp) (by simp)) (fun g e => by cases e; simp)
  have hrange : (w.alloc (.cells #[] 25)).rangeAt G 1 (arrP 217 fun i => h (1 + i)).toList := by
    have h1 := World.rangeAt_of_block (hL.under hb0).str 1 217
    rwa [arrP_extract 218 h 1 217 (by omega)] at h1
  have HL := Lib.hid (fun W (hW : Below w.heap.size w W) => hL.under hW)
  have H1 := Lib.hid hL.one
  have Hv0 := Lib.hid hv0; clear hv0
  have Hz := Lib.hid (outZ_zero hin)
  have Hrow := Lib.hid (outZ_row hin)
  have Hend := Lib.hid (outZ_end hin)
  have Hyes := Lib.hid (fun (r a : Nat) (x : Vx) => outZ_yes (r := r) (a := a) (x := x) hsrt)
  have Hno := Lib.hid (fun (r a : Nat) => outZ_no (r := r) (a := a) hsrt)
  have Hgp := Lib.hid hgp
  have HB := Lib.hid hb
  have Hrange := Lib.hid hrange
  have hlen := outZ_len g
  have Hlen := Lib.hid hlen
  clear hb hL hsrt hin hgp hrange hlen
  go_enter Try.func37, Try.ntmps37
  go_wp2_with (refine wpList_load_mid rfl 75 _ rfl G 1 rfl (arrP 217 fun i => h (1 + i)).toList _ Hrange.out Try.underlying75 rfl (by rw [Array.length_toList, arrP_size]; kernel_rfl) ?_)
  generalize hcs : arrP 217 (fun i => h (1 + i)) = cs
  have Hcs := Lib.hid hcs; clear hcs
  clear Hrange
  go_loopw [3, 13] (fun u i wr => ∃ r : Nat, r ≤ 31 ∧ i = .int .i64 r ∧ OwnR 25 3 4 wr w.heap.size wr.heap.size u ((outZ g r 0).map Vx.fd) ∧ Below w.heap.size w wr) (fun _ i _ => 31 - (intOf i).toNat)
  case atStart => exact ⟨0, Nat.zero_le _, rfl, by rw [Hz.out]; exact Hv0.out, hb0⟩
  case round =>
    obtain ⟨r, hk, rfl, hbld, hbel⟩ := hrel
    obtain ⟨Wo, hWo⟩ : ∃ Wo, Wo = wr := ⟨_, rfl⟩
    subst hWo
    clear hb0
    by_cases hlt : r < 31
    · have hlt' : (r : Int) < 31 := by omega
      have hx1 := fun W => run_index_row (P := Try.prog) (cs := cs) Try.underlying75 Try.underlying74 rfl (s := 7) (by kernel_rfl) hlt W
      rw [← Hcs.out, arrP_extract 217 _ (r * 7) 7 (by omega), Hcs.out] at hx1
      generalize hrw : arrP 7 (fun a => h (1 + (r * 7 + a))) = row at *
      have h7 : row.size = 7 := by rw [← hrw]; exact arrP_size _ _
      have h71 : row.all (·.oneCell') = true := by rw [← hrw]; exact arrP_one fun i hi => H1.out _ (by omega)
      have hget : ∀ a, a < 7 → row[a]? = some (h (1 + (r * 7 + a))) := fun a ha => by rw [← hrw]; exact arrP_get ha
      have Hget := Lib.hid hget; clear hget hrw
      have hbA : Below Wo.heap.size Wo (Wo.alloc (.cells #[.pointer none, .pointer none, .pointer none, .pointer none, .pointer none, .pointer none, .pointer none] 74)) := (Below.refl _ _).alloc (Nat.le_refl _) _
      have sN := Str.new Wo 74 #[.pointer none, .pointer none, .pointer none, .pointer none, .pointer none, .pointer none, .pointer none]
      have hzA : (Wo.alloc (.cells #[.pointer none, .pointer none, .pointer none, .pointer none, .pointer none, .pointer none, .pointer none] 74)).heap.size = Wo.heap.size + 1 := by simp
      have hgA := grownBy_trans (World.grownBy_alloc Wo (.cells #[.pointer none, .pointer none, .pointer none, .pointer none, .pointer none, .pointer none, .pointer none] 74) (some Wo.heap.size)) (grownBy_setRowP (Wo.alloc (.cells #[.pointer none, .pointer none, .pointer none, .pointer none, .pointer none, .pointer none, .pointer none] 74)) Wo.heap.size row)
      have hsR := setRow_strP sN row
      have Hsz := Lib.hid h7
      have Hone := Lib.hid h71
      have HsN := Lib.hid sN
      have HsR := Lib.hid hsR
      have hbR := hbel.grown hgA hbel.size (fun g e => by cases e; exact hbel.size)
      have hbldR := hbld.same (w' := (Wo.alloc (.cells #[.pointer none, .pointer none, .pointer none, .pointer none, .pointer none, .pointer none, .pointer none] 74)).setRow Wo.heap.size row) (fun b _ hb2 => hgA.block b hb2 (by intro e; cases e; omega))
      have hbldR' := hbldR.mono (hi' := ((Wo.alloc (.cells #[.pointer none, .pointer none, .pointer none, .pointer none, .pointer none, .pointer none, .pointer none] 74)).setRow Wo.heap.size row).heap.size) hgA.size
      have HbR := Lib.hid hbR
      have HbldR := Lib.hid hbldR'
      clear hbld hbldR hbldR' hbR hsR hgA sN h7 h71 hbA hzA
      go_wp2_with (first
        | refine wpList_store_row rfl 74 _ _ rfl Wo.heap.size row rfl rfl 74 #[.pointer none, .pointer none, .pointer none, .pointer none, .pointer none, .pointer none, .pointer none] HsN.out (by rw [Hsz.out]; kernel_rfl) (by rw [Hsz.out]; rfl) Hone.out ?_
        | refine wpList_load_row rfl 74 _ rfl Wo.heap.size rfl 74 row (0, 0) _ HsR.out Try.underlying74 rfl (by rw [Hsz.out]; kernel_rfl) ?_)
      generalize (Wo.alloc (.cells #[.pointer none, .pointer none, .pointer none, .pointer none, .pointer none, .pointer none, .pointer none] 74)).setRow Wo.heap.size row = W1 at *
      clear HsN HsR hbel hlt'
      go_loopw [3, 17] (fun u i wr => ∃ a : Nat, a ≤ 7 ∧ i = .int .i64 a ∧ OwnR 25 3 4 wr w.heap.size wr.heap.size u ((outZ g r a).map Vx.fd) ∧ Below w.heap.size w wr) (fun _ i _ => 7 - (intOf i).toNat)
      case atStart => exact ⟨0, Nat.zero_le _, rfl, HbldR.out, HbR.out⟩
      case round =>
        obtain ⟨a, ha, rfl, hbld, hbel⟩ := hrel
        have Hbld := Lib.hid hbld; clear hbld
        have Hbel := Lib.hid hbel; clear hbel
        by_cases hla : a < 7
        · have hla' : (a : Int) < 7 := by omega
          have hcs := HL.out wr Hbel.out
          have hx2 := fun W => run_index_one (P := Try.prog) (cs := row) Try.underlying74 Try.underlying73 rfl (by kernel_rfl) hla (Hget.out a hla) W
          rcases hcs.cases r a hlt hla with ⟨y, hy, er, ea, q, hq, hn⟩ | ⟨hq, hn⟩
          · rw [hq] at hx2
            unfold ptrV at hx2
            have hstep := Hyes.out r a y hy er ea
            have hpy := Hgp.out y hy
            obtain ⟨pa, pc, pv, qs, sq, iq, srq, _⟩ := hn.ex
            have hb0w := below_step HB.out HB.out.size Hbel.out
            have Hcall := Lib.hid (impl_copyOfVertex y.r y.a y.d pa pc y.ps wr hpy (srq.under iq hb0w) (iq.below hb0w))
            have q0 := sq.cell 0 (v := .int .i64 y.r) rfl
            have q1 := sq.cell 1 (v := .int .i64 y.a) rfl
            have q2 := sq.cell 2 (v := .slice pa y.ps.length pc) rfl
            have q3 := sq.cell 3 (v := .int .i64 y.d) rfl
            have Hex := Lib.hid (show (outZ g r (a + 1)).map Vx.fd = (outZ g r a).map Vx.fd ++ [[.i y.r, .i y.a, .l y.ps, .i y.d]] by rw [hstep, List.map_append]; rfl)
            have hel : ((outZ g r a).map Vx.fd).length ≤ 1048576 := by have := Hlen.out r (a + 1); rw [hstep, List.length_append] at this; simp at this ⊢; omega
            clear hcs hn sq iq srq hpy hstep hb0w er ea hq hy
            generalize (outZ g r a).map Vx.fd = es at *
            obtain ⟨xr, xa, xp, xd⟩ := y
            dsimp only at *
            go_wp2_with fail
            refine Hcall.out.mono ?_
            rintro e w6 ⟨v2, rfl, hown2, hb6⟩
            obtain ⟨a2, c2, rfl, _, _⟩ := hown2.ints
            have hbw6 := below_step Hbel.out Hbel.out.size hb6
            have hB6 := hbw6.size
            have hs6 := hb6.size
            have Hbld6 := Lib.hid (Hbld.out.below hb6 (Nat.le_refl _))
            obtain ⟨hfd, hap, hnew⟩ := vertex_new (B := w.heap.size) xr xa xd hown2 Hbel.out.size
            have Hfd := Lib.hid hfd; clear hfd
            have Hap := Lib.hid hap; clear hap
            have Hnew := Lib.hid hnew; clear hnew hown2 q0 q1 q2 q3
            go_wp2_with (at_builtin; refine wpList_push_own (Ei := 3) Try.underlying32 vertex_inf rfl (by decide) (by decide) rfl (.tmp 22) (.tmp 28) rfl w.heap.size _ es _ _ _ rfl rfl (by intro u hu; simp at hu; rcases hu with rfl | rfl | rfl | rfl <;> rfl) rfl rfl Hfd.out Hap.out wr.heap.size Hbld6.out hs6 Hnew.out hel rfl hB6 ?_; intro v8 w8 hbld8 hg8 hat8)
            go_roundw
            case rel => exact ⟨a + 1, by omega, by go_num, by rw [Hex.out]; exact hbld8, hbw6.grown hg8 hB6 (fun g e => (Hbld.out.lt g e).1)⟩
            case measure => simp [intOf]; omega
          · rw [hq] at hx2
            have Hs := Lib.hid (Hno.out r a hn)
            clear hcs hn hq
            go_wp2
            go_roundw
            case rel => exact ⟨a + 1, by omega, by go_num, by rw [Hs.out]; exact Hbld.out, Hbel.out⟩
            case measure => simp [intOf]; omega
        · have e7 : a = 7 := by omega
          subst e7
          have Hs := Lib.hid (Hrow.out r)
          go_wp2
          go_roundw
          case rel => exact ⟨r + 1, by omega, by go_num, by rw [← Hs.out]; exact Hbld.out, Hbel.out⟩
          case measure => simp [intOf]; omega
    · have e31 : r = 31 := by omega
      subst e31
      have Hbld := Lib.hid hbld; clear hbld
      go_wp2
      go_ret
      exact ⟨_, rfl, by rw [Hend.out] at Hbld; exact Hbld.out, hbel⟩

end Go.Proofs.Ythnbjdijcpcafaa

/- impl's authors of a round, GraphValid, VertexValid, GraphAdd, GraphAuthors, GraphHeight and GraphMerge, each by a walk of its text; conditions: lists are shorter than 2^40 (a graph: 2^20). -/
namespace Go.Proofs.Ythnbjdijcpcafaa
open Go.RowKit

section
variable (ac : Option Addr) (capc : Nat) (c : List Int) (g : List Vx) (v : Value) (fp : List Nat) (w : World) (hn : c.length ≤ 1099511627776) (hbig : g.length ≤ 1048576) (hps : ∀ x ∈ g, x.ps.length ≤ 1099511627776) (hc : IntsAt w ac c) (hg : Gr w g v fp)
include hn hbig hps hc hg
theorem graphOf_no (h : graphB c g = false) : Calls Try.prog 35 #[.slice ac c.length capc, v] w fun e w' => e = .returned (.tuple #[.pointer none, .bool false]) ∧ Below w.heap.size w w' :=
  (impl_graphOf ac capc c g v fp w hn hbig hps hc hg).mono fun e w' hp => by
    obtain ⟨hb, ⟨_, he⟩ | ⟨ht, _⟩⟩ := hp
    · exact ⟨he, hb⟩
    · rw [h] at ht; cases ht
theorem graphOf_yes (h : graphB c g = true) : Calls Try.prog 35 #[.slice ac c.length capc, v] w fun e w' => ∃ G, e = .returned (.tuple #[.pointer (some ⟨G, 0, none⟩), .bool true]) ∧ Below w.heap.size w w' ∧ w.heap.size ≤ G ∧ ∃ hi h, Lk w w' hi G (.slice ac c.length capc) h g :=
  (impl_graphOf ac capc c g v fp w hn hbig hps hc hg).mono fun e w' hp => by
    obtain ⟨hb, ⟨hf, _⟩ | ⟨_, G, hi, h', he, hG, hl⟩⟩ := hp
    · rw [h] at hf; cases hf
    · exact ⟨G, he, hb, hG, hi, h', hl⟩
end

theorem impl_GraphValid' (ac : Option Addr) (capc : Nat) (c : List Int) (g : List Vx) (v : Value) (fp : List Nat) (w : World) (hn : c.length ≤ 1099511627776) (hbig : g.length ≤ 1048576) (hps : ∀ x ∈ g, x.ps.length ≤ 1099511627776) (hc : IntsAt w ac c) (hg : Gr w g v fp) :
    Calls Try.prog 17 #[.slice ac c.length capc, v] w fun e w' => e = .returned (.bool (graphB c g)) ∧ Below w.heap.size w w' := by
  cases h : graphB c g with
  | false =>
    have H := Lib.hid (graphOf_no ac capc c g v fp w hn hbig hps hc hg h)
    clear hc hg hps h
    go_enter Try.func17, Try.ntmps17
    go_wp2_with fail
    refine H.out.mono ?_
    rintro e w1 ⟨rfl, hb⟩
    go_wp2
    go_ret
    exact ⟨rfl, hb⟩
  | true =>
    have H := Lib.hid (graphOf_yes ac capc c g v fp w hn hbig hps hc hg h)
    clear hc hg hps h
    go_enter Try.func17, Try.ntmps17
    go_wp2_with fail
    refine H.out.mono ?_
    rintro e w1 ⟨G, rfl, hb, _⟩
    go_wp2
    go_ret
    exact ⟨rfl, hb⟩

theorem impl_VertexValid' (ac : Option Addr) (capc : Nat) (c : List Int) (x : Vx) (pa : Option Addr) (pc : Nat) (w : World) (hn : c.length ≤ 1099511627776) (hbig : x.ps.length ≤ 1099511627776) (hc : IntsAt w ac c) (hp : IntsAt w pa x.ps) :
    Calls Try.prog 8 #[.slice ac c.length capc, .agg #[.int .i64 x.r, .int .i64 x.a, .slice pa x.ps.length pc, .int .i64 x.d]] w fun e w' => e = .returned (.bool (vvB c x)) ∧ Below w.heap.size w w' := by
  have hb0 : Below w.heap.size w (w.alloc (.cells #[.int .i64 x.r, .int .i64 x.a, .slice pa x.ps.length pc, .int .i64 x.d] 25)) := (Below.refl _ _).alloc (Nat.le_refl _) _
  have s0 := Str.new w 25 #[.int .i64 x.r, .int .i64 x.a, .slice pa x.ps.length pc, .int .i64 x.d]
  have k0 := s0.cell 0 (v := .int .i64 x.r) rfl
  have k1 := s0.cell 1 (v := .int .i64 x.a) rfl
  have k2 := s0.cell 2 (v := .slice pa x.ps.length pc) rfl
  have k3 := s0.cell 3 (v := .int .i64 x.d) rfl
  have H1 := Lib.hid (impl_CommitteeValid ac capc c _ hn (hc.below hb0))
  have Hb := Lib.hid hb0
  cases hv : validB c with
  | false =>
    rw [hv] at H1
    have Hz := Lib.hid (show vvB c x = false by unfold vvB; rw [hv]; rfl)
    clear hc hp hv s0 hb0
    go_enter Try.func8, Try.ntmps8
    go_wp2_with fail
    generalize w.alloc (.cells #[.int .i64 x.r, .int .i64 x.a, .slice pa x.ps.length pc, .int .i64 x.d] 25) = W0 at *
    refine H1.out.mono ?_
    rintro e w1 ⟨rfl, rfl⟩
    go_wp2
    go_ret
    exact ⟨ret_bool (by rw [Hz.out]), Hb.out⟩
  | true =>
    rw [hv] at H1
    have H2 := Lib.hid (vertex_fits ac capc c x pa pc _ hv hbig (hc.below hb0) (hp.below hb0))
    have Hz := Lib.hid (show vvB c x = vtxB c x by unfold vvB; rw [hv]; rfl)
    clear hc hp hv s0 hb0
    go_enter Try.func8, Try.ntmps8
    go_wp2_with fail
    generalize w.alloc (.cells #[.int .i64 x.r, .int .i64 x.a, .slice pa x.ps.length pc, .int .i64 x.d] 25) = W0 at *
    refine H1.out.mono ?_
    rintro e w1 ⟨rfl, rfl⟩
    go_wp2_with fail
    refine H2.out.mono ?_
    rintro e w1 ⟨rfl, hb⟩
    go_wp2
    go_ret
    exact ⟨ret_bool (by rw [Hz.out]), below_step Hb.out Hb.out.size hb⟩

theorem addN_cases (g : List Vx) (x : Vx) : addN g x = 0 ∨ addN g x = 1 ∨ addN g x = 2 ∨ addN g x = 3 := by
  unfold addN
  by_cases h1 : 0 ≤ findZ g x.r x.a
  · rw [if_pos h1]
    by_cases h2 : sameB (g.getD (findZ g x.r x.a).toNat vx0) x = true
    · rw [if_pos h2]; omega
    · rw [if_neg h2]; omega
  · rw [if_neg h1]
    by_cases h2 : parB g x = true
    · rw [if_pos h2]; omega
    · rw [if_neg h2]; omega
theorem addG_srt {g : List Vx} {x : Vx} (h : Srt g) : Srt (addG g x) := by
  unfold addG
  split
  · rename_i h0
    refine ins_srt h fun y hy e => ?_
    obtain ⟨k, hk, ek, _⟩ := findZ_mem h hy
    rw [e.1, e.2] at ek
    unfold addN at h0
    rw [if_pos (by rw [ek]; omega)] at h0
    split at h0 <;> simp at h0
  · exact h
set_option maxRecDepth 8000 in
set_option maxHeartbeats 1000000 in
theorem impl_GraphMerge' (ac : Option Addr) (capc : Nat) (c : List Int) (a b : List Vx) (va vb : Value) (fa fb : List Nat) (w : World) (hn : c.length ≤ 1099511627776) (hbig : a.length + b.length ≤ 1048576) (hpa : ∀ y ∈ a, y.ps.length ≤ 1099511627776) (hpb : ∀ y ∈ b, y.ps.length ≤ 1099511627776) (hc : IntsAt w ac c) (ha : Gr w a va fa) (hb : Gr w b vb fb) :
    Calls Try.prog 13 #[.slice ac c.length capc, va, vb] w fun e w' => ∃ u, e = .returned (.tuple #[u, .bool (mgB c a b)]) ∧ OwnR 25 3 4 w' w.heap.size w'.heap.size u ((mgG c a b).map Vx.fd) ∧ Below w.heap.size w w' := by
  have HVb := Lib.hid (fun W h h' => impl_GraphValid' ac capc c b vb fb W hn (by omega) hpb h h')
  have hno := mg_no (c := c) (a := a) (b := b)
  cases hga : graphB c a with
  | false =>
    obtain ⟨hz2, hz1⟩ := hno (fun h => by rw [hga] at h; exact absurd h.1 (by simp))
    have H := Lib.hid (graphOf_no ac capc c a va fa w hn (by omega) hpa hc ha hga)
    have Hz1 := Lib.hid hz1
    have Hz2 := Lib.hid hz2
    clear hz1 hz2 hno hc ha hb hpa hpb
    go_enter Try.func13, Try.ntmps13
    go_wp2_with fail
    refine H.out.mono ?_
    rintro e w1 ⟨rfl, hb1⟩
    have Hb1 := Lib.hid hb1; clear hb1
    go_wp2
    go_ret2
    exact ⟨_, by rw [Hz1.out]; rfl, by rw [Hz2.out]; exact ownR_none _ _ Hb1.out.size, Hb1.out.alloc Hb1.out.size _⟩
  | true =>
  have H := Lib.hid (graphOf_yes ac capc c a va fa w hn (by omega) hpa hc ha hga)
  have Hc := Lib.hid hc; clear hc
  have Ha := Lib.hid ha; clear ha
  have Hb := Lib.hid hb; clear hb
  cases hgb : graphB c b with
  | false =>
    rw [hgb] at HVb
    obtain ⟨hz2, hz1⟩ := hno (fun h => by rw [hgb] at h; exact absurd h.2 (by simp))
    have Hz1 := Lib.hid hz1
    have Hz2 := Lib.hid hz2
    clear hz1 hz2 hno
    go_enter Try.func13, Try.ntmps13
    go_wp2_with fail
    refine H.out.mono ?_
    rintro e w1 ⟨G, rfl, hb1, _⟩
    have HV1 := Lib.hid (HVb.out w1 (Hc.out.below hb1) (Hb.out.under hb1))
    have Hb1 := Lib.hid hb1; clear hb1
    go_wp2_with fail
    refine HV1.out.mono ?_
    rintro e w2 ⟨rfl, hb2⟩
    have Hb2 := Lib.hid (below_step Hb1.out Hb1.out.size hb2); clear hb2
    go_wp2
    go_ret2
    exact ⟨_, by rw [Hz1.out]; rfl, by rw [Hz2.out]; exact ownR_none _ _ Hb2.out.size, Hb2.out.alloc Hb2.out.size _⟩
  | true =>
  rw [hgb] at HVb
  have hv : validB c = true := by unfold graphB at hga; simp only [Bool.and_eq_true] at hga; exact hga.1
  have hO : mgO c a b = mrgF a b := by unfold mgO; rw [if_pos ⟨hga, hgb⟩]
  have Hnone := Lib.hid (show mrgF a b = none → mgB c a b = false ∧ mgG c a b = [] from fun h => by unfold mgB mgG; rw [hO, h]; exact ⟨rfl, rfl⟩)
  have Hsome := Lib.hid (show ∀ out, mrgF a b = some out → mgB c a b = true ∧ mgG c a b = out from fun out h => by unfold mgB mgG; rw [hO, h]; exact ⟨rfl, rfl⟩)
  have Hva := Lib.hid (graph_vtx hga)
  have Hvb := Lib.hid (graph_vtx hgb)
  have Hsa := Lib.hid (graph_sorted hga)
  have HPb := Lib.hid hpb; clear hpb
  have HPa := Lib.hid hpa; clear hpa
  have Hv := Lib.hid hv; clear hv
  obtain ⟨ab, cb, rfl⟩ := Hb.out.slice
  clear hno hO hga hgb
  go_enter Try.func13, Try.ntmps13
  go_wp2_with fail
  refine H.out.mono ?_
  rintro e w1 ⟨G, rfl, hb1, hG, hi1, h1, hl1⟩
  have HV1 := Lib.hid (HVb.out w1 (Hc.out.below hb1) (Hb.out.under hb1))
  have Hl1 := Lib.hid hl1
  have Hb1 := Lib.hid hb1; clear hb1 hl1
  go_wp2_with fail
  refine HV1.out.mono ?_
  rintro e w2 ⟨rfl, hb2⟩
  have Hl2 := Lib.hid (Hl1.out.under hb2)
  have Hb2 := Lib.hid (below_step Hb1.out Hb1.out.size hb2); clear hb2
  go_wp2
  try simp only [Bool.not_true]
  go_loopw [29] (fun i wr => ∃ (k : Nat) (out : List Vx) (hi : Nat) (h : Nat → Value), k ≤ b.length ∧ i = .int .i64 k ∧ out.length ≤ a.length + k ∧ (∀ y ∈ out, y.ps.length ≤ 1099511627776) ∧ mrgF out (b.drop k) = mrgF a b ∧ Srt out ∧ (∀ y ∈ out, vtxB c y = true) ∧ Lk w wr hi G (.slice ac c.length capc) h out ∧ Below w.heap.size w wr) (fun i _ => b.length - (intOf i).toNat)
  case atStart => exact ⟨0, a, _, _, Nat.zero_le _, rfl, by omega, HPa.out, rfl, Hsa.out, Hva.out, Hl2.out, Hb2.out⟩
  case round =>
    obtain ⟨k, out, hi, h, hk, rfl, hol, hop, hmr, hsr, hvo, hL, hbel⟩ := hrel
    have Hbel := Lib.hid hbel; clear hbel
    have Hmr := Lib.hid hmr; clear hmr
    have HL := Lib.hid hL; clear hL
    have Hsr := Lib.hid hsr; clear hsr
    have Hvo := Lib.hid hvo; clear hvo
    have Hop := Lib.hid hop; clear hop
    by_cases hlt : k < b.length
    · obtain ⟨gb, off, rfl, hbb, hat⟩ := Hb.out.at (by omega)
      obtain ⟨c0, c1, ⟨pa, pc, c2, i2, s2⟩, c3⟩ := hat k hlt
      have hpy := HPb.out _ (List.getElem_mem hlt)
      have hvy := Hvb.out _ (List.getElem_mem hlt)
      have c0 := (Hbel.out.cell (p := ⟨gb, off + k * 4, none⟩) hbb).trans c0
      have c1 := (Hbel.out.cell (p := ⟨gb, off + k * 4 + 1, none⟩) hbb).trans c1
      have c2 := (Hbel.out.cell (p := ⟨gb, off + k * 4 + 2, none⟩) hbb).trans c2
      have c3 := (Hbel.out.cell (p := ⟨gb, off + k * 4 + 3, none⟩) hbb).trans c3
      have hbA : Below wr.heap.size wr (wr.alloc (.cells #[.int .i64 b[k].r, .int .i64 b[k].a, .slice pa b[k].ps.length pc, .int .i64 b[k].d] 25)) := (Below.refl _ _).alloc (Nat.le_refl _) _
      have s0 := Str.new wr 25 #[.int .i64 b[k].r, .int .i64 b[k].a, .slice pa b[k].ps.length pc, .int .i64 b[k].d]
      have k0 := s0.cell 0 (v := .int .i64 b[k].r) rfl
      have k1 := s0.cell 1 (v := .int .i64 b[k].a) rfl
      have k2 := s0.cell 2 (v := .slice pa b[k].ps.length pc) rfl
      have k3 := s0.cell 3 (v := .int .i64 b[k].d) rfl
      have hbwA := below_step Hbel.out Hbel.out.size hbA
      have HAdd := Lib.hid (graph_add w _ hi G ac capc c h out b[k] pa pc Hv.out hpy Hop.out s2 i2 Hc.out hbwA (HL.out.under hbA) Hsr.out Hvo.out)
      have HbwA := Lib.hid hbwA
      have hN : adN c out b[k] = addN out b[k] := by unfold adN; rw [if_pos hvy]
      have hGr : adG c out b[k] = addG out b[k] := by unfold adG; rw [if_pos hvy]
      have Hstop := Lib.hid (mrg_stop hlt Hmr.out)
      have Hstep := Lib.hid (mrg_step hlt Hmr.out)
      have hal := addG_len out b[k]
      have Hin := Lib.hid (show ∀ y ∈ addG out b[k], y.ps.length ≤ 1099511627776 from fun y hy => by
        rcases addG_mem hy with h | rfl
        · exact Hop.out y h
        · exact hpy)
      have Hvn := Lib.hid (show ∀ y ∈ addG out b[k], vtxB c y = true from fun y hy => by
        rcases addG_mem hy with h | rfl
        · exact Hvo.out y h
        · exact hvy)
      have HN := Lib.hid hN
      have HGr := Lib.hid hGr
      have Hss := Lib.hid (addG_srt (x := b[k]) Hsr.out)
      clear hat i2 s2 hpy hvy hbA s0 hbwA hN hGr
      generalize b[k] = y at *
      go_wp2_with fail
      generalize wr.alloc (.cells #[.int .i64 y.r, .int .i64 y.a, .slice pa y.ps.length pc, .int .i64 y.d] 25) = wB at *
      clear c0 c1 c2 c3
      refine HAdd.out.mono ?_
      rintro e w6 ⟨rfl, hg6, hi6, h6, hl6⟩
      have Hb6 := Lib.hid (HbwA.out.grown hg6 HbwA.out.size (fun g e => by cases e; exact hG))
      rw [HN.out]
      rw [HGr.out] at hl6
      have Hl6 := Lib.hid hl6
      clear hg6 hl6 k0 k1 k2 k3
      by_cases h2 : addN out y = 2
      · obtain ⟨hz1, hz2⟩ := Hnone.out (Hstop.out h2)
        have Hz1 := Lib.hid hz1
        have Hz2 := Lib.hid hz2
        have e2 : (addN out y == 2) = true := by simpa using h2
        clear hz1 hz2 h2
        generalize addN out y = N at *
        go_wp2
        go_ret2
        exact ⟨_, by rw [Hz1.out]; rfl, by rw [Hz2.out]; exact ownR_none _ _ Hb6.out.size, Hb6.out.alloc Hb6.out.size _⟩
      · have Hst := Lib.hid (Hstep.out h2)
        have e2 : (addN out y == 2) = false := by simpa using h2
        clear h2 Hstop HN Hstep
        generalize addN out y = N at *
        go_wp2
        go_roundw
        case rel => exact ⟨k + 1, _, _, _, by omega, by go_num, by omega, Hin.out, Hst.out, Hss.out, Hvn.out, Hl6.out, Hb6.out⟩
        case measure => simp [intOf]; omega
    · have hke : k = b.length := by omega
      subst hke
      obtain ⟨hz1, hz2⟩ := Hsome.out out (mrg_end Hmr.out)
      have Hz1 := Lib.hid hz1
      have Hz2 := Lib.hid hz2
      have HLs := Lib.hid (graph_list w wr hi G _ h out Hbel.out HL.out Hsr.out (fun y hy => vtx_pl Hv.out (Hvo.out y hy)) Hop.out (by omega))
      clear hz1 hz2
      go_wp2_with fail
      refine HLs.out.mono ?_
      rintro e w3 ⟨u, rfl, ho, hb3⟩
      have Ho := Lib.hid (ho.from Hbel.out.size)
      have Hb3 := Lib.hid (below_step Hbel.out Hbel.out.size hb3)
      clear ho hb3
      go_wp2
      go_ret2
      exact ⟨_, by rw [Hz1.out]; rfl, by rw [Hz2.out]; exact Ho.out, Hb3.out⟩

end Go.Proofs.Ythnbjdijcpcafaa

/- The draws of digests, leaves and texts: what is drawn is short and lies in new memory; each by a walk of its text; condition: at most 2^40 picks. -/
namespace Go.Proofs.Ythnbjdijcpcafaa
open Go.RowKit

/-- Numbers between -1 and 991. -/
def Digs (xs : List Int) : Prop := ∀ x ∈ xs, -1 ≤ x ∧ x ≤ 991
theorem digs_app {xs zs : List Int} (h : Digs xs) (k : Digs zs) : Digs (xs ++ zs) := fun x hx => by
  rcases List.mem_append.1 hx with hx | hx
  · exact h x hx
  · exact k x hx
theorem digs_one {z : Int} (h1 : -1 ≤ z) (h2 : z ≤ 991) : Digs [z] := fun x hx => by simp at hx; subst hx; exact ⟨h1, h2⟩
theorem digs_set {xs : List Int} (h : Digs xs) (j : Nat) {z : Int} (h1 : -1 ≤ z) (h2 : z ≤ 991) : Digs (xs.set j z) := fun x hx => by
  rcases List.mem_or_eq_of_mem_set hx with hx | rfl
  · exact h x hx
  · exact ⟨h1, h2⟩
theorem grown_row' {w a b : World} {R : Nat} {row : Option Nat} (h : w.grownBy a (some R)) (k : a.grownBy b row) (hr : ∀ g, row = some g → w.heap.size ≤ g) : w.grownBy b (some R) :=
  ⟨k.os.trans h.os, k.tape.trans h.tape, k.output.trans h.output, Nat.le_trans h.size k.size, fun i hi hne => (k.block i (Nat.lt_of_lt_of_le hi h.size) (fun e => by have := hr i e.symm; omega)).trans (h.block i hi hne)⟩
theorem below_of_row' {w w' : World} {R B : Nat} (h : w.grownBy w' (some R)) (hR : B ≤ R) (hB : B ≤ w.heap.size) : Below B w w' :=
  ⟨h.os, h.tape, h.output, h.size, fun k hk => h.block k (by omega) (fun e => by injection e with e; omega)⟩
theorem dig4_at (k : Nat) (hk : k < 4) : ∃ z : Int, (#[Value.int .i64 (-1), .int .i64 0, .int .i64 990, .int .i64 991] : Array Value)[k]? = some (.int .i64 z) ∧ -1 ≤ z ∧ z ≤ 991 := by
  match k, hk with
  | 0, _ => exact ⟨-1, rfl, by omega, by omega⟩
  | 1, _ => exact ⟨0, rfl, by omega, by omega⟩
  | 2, _ => exact ⟨990, rfl, by omega, by omega⟩
  | 3, _ => exact ⟨991, rfl, by omega, by omega⟩

theorem drawDigest (R p : Nat) (w : World) (hp : p ≤ 1000000) (hr : Rdr w R p) :
    Calls Try.prog 24 #[.pointer (some ⟨R, 0, none⟩)] w fun e w' => ∃ (d : Int) (p' : Nat), e = .returned (.int .i64 d) ∧ -1 ≤ d ∧ d ≤ 991 ∧ Rdr w' R p' ∧ p' ≤ p + 3 ∧ w.grownBy w' (some R) := by
  have Hr := Lib.hid hr; clear hr
  go_enter Try.func24, Try.ntmps24
  go_wp2_with fail
  refine (pick_any R 16 p _ (by omega) Hr.out (by omega)).mono ?_
  rintro e w1 ⟨x, rfl, hx0, hx1, hr1, hg1⟩
  have Hr1 := Lib.hid (hr1.alloc (.cells #[.int .i64 (-1), .int .i64 0, .int .i64 990, .int .i64 991] 3))
  have Hr1' := Lib.hid hr1; clear hr1
  have Hg1 := Lib.hid hg1; clear hg1
  have hRs := Hr1'.out.lt
  by_cases h0 : x = 0
  · subst h0
    go_wp2_with fail
    refine (pick_any R 4 (p + 1) _ (by omega) Hr1.out (by omega)).mono ?_
    rintro e w2 ⟨u, rfl, hu0, hu1, hr2, hg2⟩
    obtain ⟨u, rfl⟩ := Int.eq_ofNat_of_zero_le hu0
    obtain ⟨z, hz, hz1, hz2⟩ := dig4_at u (by omega)
    have hcell := lit_cell hg2 (by simp; omega) hz
    have Hg2 := Lib.hid (grownBy_trans (grownBy_trans Hg1.out (World.grownBy_alloc _ _ _)) hg2)
    have hu4 : u < 4 := by omega
    have Hr2 := Lib.hid hr2
    clear hg2 hz hu0 hu1 hr2
    go_wp2
    go_ret
    exact ⟨z, _, rfl, hz1, hz2, Hr2.out, by omega, Hg2.out⟩
  · have h0' : (x == 0) = false := by rw [beq_eq_false_iff_ne]; exact h0
    go_wp2_with fail
    refine (pick_any R 99 (p + 1) _ (by omega) Hr1'.out (by omega)).mono ?_
    rintro e w2 ⟨u, rfl, hu0, hu1, hr2, hg2⟩
    have Hr2 := Lib.hid hr2
    have Hg2 := Lib.hid (grownBy_trans Hg1.out hg2)
    clear hr2 hg2
    go_wp2_with fail
    refine (pick_any R 10 (p + 2) _ (by omega) Hr2.out (by omega)).mono ?_
    rintro e w3 ⟨y, rfl, hy0, hy1, hr3, hg3⟩
    have Hr3 := Lib.hid hr3
    have Hg3 := Lib.hid (grownBy_trans Hg2.out hg3)
    clear hr3 hg3
    go_wp2
    go_ret
    exact ⟨_, _, rfl, by omega, by omega, Hr3.out, by omega, Hg3.out⟩

end Go.Proofs.Ythnbjdijcpcafaa

/- The draws of graphs: what is drawn is a graph in new memory, each by a walk of its text; condition: at most 10^5 picks before. -/
namespace Go.Proofs.Ythnbjdijcpcafaa
open Go.RowKit

theorem own_litG (E : TypeId) (w : World) {B : Nat} (xs : List Int) (hB : B ≤ w.heap.size) (hm : xs.length ≤ maxLen) :
    Own E (w.alloc (.cells (xs.map (Value.int .i64)).toArray E)) B (.slice (some ⟨w.heap.size, 0, none⟩) xs.length xs.length) xs :=
  ⟨by simp, .inr ⟨w.heap.size, xs.length, _, rfl, hB, heap_alloc_new w _, Nat.le_refl _, hm, by simp, by simp [List.take_of_length_le]⟩⟩

theorem drawGoodV (R p : Nat) (w : World) (hp : p ≤ 1000000) (hr : Rdr w R p) (hR : R < w.heap.size) :
    Calls Try.prog 33 #[.pointer (some ⟨R, 0, none⟩)] w fun e w' => ∃ v xs p', e = .returned v ∧ Own 3 w' w.heap.size v xs ∧ validB xs = true ∧ Rdr w' R p' ∧ p' ≤ p + 20 ∧ w.grownBy w' (some R) := by
  go_enter Try.func33, Try.ntmps33
  go_wp2_with fail
  refine (drawCommittee R p _ hp hr hR).mono ?_
  rintro e w2 ⟨v, c, p', rfl, hown, hcl, hsm, hr2, hp', hg2⟩
  obtain ⟨a, cap, rfl, hi, _⟩ := hown.ints
  have hz := hg2.size
  have hv' := spec_CommitteeValid a cap c w2 (by omega) hi
  have Hr2 := Lib.hid hr2; clear hr2
  have Hg2 := Lib.hid hg2; clear hg2
  cases hv : validB c with
  | true =>
    rw [hv] at hv'
    have Hvv := Lib.hid hv
    have Hv := Lib.hid hv'; clear hv' hv hi
    have Hown := Lib.hid hown; clear hown
    go_wp2_with fail
    refine Hv.out.mono ?_
    rintro e w3 ⟨rfl, rfl⟩
    go_wp2
    go_ret
    exact ⟨_, c, p', rfl, Hown.out, Hvv.out, Hr2.out, hp', Hg2.out⟩
  | false =>
    rw [hv] at hv'
    have Hv := Lib.hid hv'; clear hv' hv hi hown
    go_wp2_with fail
    refine Hv.out.mono ?_
    rintro e w3 ⟨rfl, rfl⟩
    go_wp2
    go_ret
    exact ⟨_, [1, 1, 1, 1], p', rfl, own_litG 3 w2 [1, 1, 1, 1] hz (by unfold maxLen; simp), by decide, Hr2.out.alloc _, hp', grownBy_trans Hg2.out (World.grownBy_alloc _ _ _)⟩

/-- Valid vertices in order. -/
def GOk (c : List Int) (g : List Vx) : Prop := (∀ x ∈ g, vtxB c x = true) ∧ g.Pairwise fun a b => befB a b = true
theorem gOk_nil (c : List Int) : GOk c [] := ⟨by simp, .nil⟩
theorem gOk_push {c : List Int} {g : List Vx} {x : Vx} (h : GOk c g) (hx : vtxB c x = true) (hb : ∀ y ∈ g, y.r < x.r ∨ y.r = x.r ∧ y.a < x.a) : GOk c (g ++ [x]) := by
  refine ⟨fun y hy => ?_, List.pairwise_append.2 ⟨h.2, by simp, fun a ha b hb' => ?_⟩⟩
  · rcases List.mem_append.1 hy with hy | hy
    · exact h.1 y hy
    · simp at hy; subst hy; exact hx
  · simp at hb'; subst hb'
    exact decide_eq_true (hb a ha)
theorem gOk_auth {c : List Int} {g : List Vx} (h : GOk c g) (r : Int) : (authZ g r).Pairwise (· < ·) ∧ ∀ m ∈ authZ g r, 0 ≤ m ∧ m < c.length := by
  refine ⟨?_, fun m hm => ?_⟩
  · unfold authZ
    rw [List.pairwise_map]
    refine List.Pairwise.imp_of_mem (R := fun a b => befB a b = true) (fun {a b} ha hb hab => ?_) (h.2.filter _)
    have ha := of_decide_eq_true (List.mem_filter.1 ha).2
    have hb := of_decide_eq_true (List.mem_filter.1 hb).2
    have := of_decide_eq_true hab
    omega
  · unfold authZ at hm
    obtain ⟨x, hx, rfl⟩ := List.mem_map.1 hm
    exact vtx_author (h.1 x (List.mem_filter.1 hx).1)
theorem members_sub {n : Nat} {H ps : List Int} (h : H.Pairwise (· < ·) ∧ ∀ m ∈ H, 0 ≤ m ∧ m < n) (hs : ps.Sublist H) : membersB n ps = true :=
  members_pairwise (h.1.sublist hs) fun m hm => h.2 m (hs.subset hm)

theorem OwnR.apartI {E E' Ei : TypeId} {sz : Nat} {w : World} {B B' hi : Nat} {v u : Value} {es : List (List Fd)} {xs : List Int} (h : OwnR E Ei sz w B hi v es) (h' : Own E' w B' u xs) (hE : E ≠ E') : u.ownBlock = none ∨ u.ownBlock ≠ v.ownBlock := by
  obtain ⟨cs, h1, _⟩ := h.row
  rcases h'.2 with ⟨rfl, _⟩ | ⟨g, cap, cur, rfl, _, hg, _⟩
  · exact .inl rfl
  · rcases h1.2 with ⟨rfl, _⟩ | ⟨g', cap', cur', rfl, _, hg', _⟩
    · exact .inr (fun e => by cases e)
    · refine .inr fun e => hE ?_
      have e' : g = g' := by cases e; rfl
      subst e'
      rw [hg] at hg'
      cases hg'
      rfl

set_option maxRecDepth 8000 in
set_option maxHeartbeats 4000000 in
theorem drawGraph (R p : Nat) (rounds : Int) (w : World) (ac : Option Addr) (capc : Nat) (c : List Int) (hp : p ≤ 100000) (hn0 : 0 ≤ rounds) (hn1 : rounds ≤ 40) (hv : validB c = true) (hr : Rdr w R p) (hR : R < w.heap.size) (hc : ∀ W, w.grownBy W (some R) → IntsAt W ac c) :
    Calls Try.prog 25 #[.pointer (some ⟨R, 0, none⟩), .slice ac c.length capc, .int .i64 rounds] w fun e w' => ∃ v g p', e = .returned v ∧ OwnR 25 3 4 w' w.heap.size w'.heap.size v (g.map Vx.fd) ∧ GOk c g ∧ g.length ≤ 280 ∧ Rdr w' R p' ∧ p' ≤ p + 80000 ∧ w.grownBy w' (some R) := by
  obtain ⟨hc1, hc7⟩ := validB_len hv
  have Hr0 := Lib.hid (hr.alloc (.cells #[] 25)); clear hr
  have Hg0 := Lib.hid (World.grownBy_alloc w (.cells #[] 25) (some R))
  have hv0 : OwnR 25 3 4 (w.alloc (.cells #[] 25)) w.heap.size (w.alloc (.cells #[] 25)).heap.size (.slice (some ⟨w.heap.size, 0, none⟩) 0 0) [] := .nil (World.ownsRow_made w #[] 0 (Nat.le_refl _) (by simp) (by simp)) (fun g e => by cases e; simp)
  have Hv0 := Lib.hid hv0; clear hv0
  have Hc := Lib.hid hc; clear hc
  obtain ⟨rounds, rfl⟩ := Int.eq_ofNat_of_zero_le hn0
  have HWt := Lib.hid (fun ps am cap W (hm : membersB c.length ps = true) (hl : ps.length ≤ 1099511627776) h h' => spec_l1Weight ac capc c am cap ps W hv hm hl h h')
  have HQt := Lib.hid (fun W h => spec_l1Quorum ac capc c W hv h)
  have HVx := Lib.hid (fun r a d pa pc ps W (hl : ps.length ≤ 1099511627776) h h' => spec_l11Vertex ac capc c r a d pa pc ps W hv hl h h')
  go_enter Try.func25, Try.ntmps25
  go_wp2_with fail
  go_loopw [7, 8] (fun v i wr => ∃ (n : Nat) (g : List Vx) (q : Nat), n ≤ rounds ∧ i = .int .i64 n ∧ OwnR 25 3 4 wr w.heap.size wr.heap.size v (g.map Vx.fd) ∧ GOk c g ∧ (∀ x ∈ g, x.r < n) ∧ g.length ≤ 7 * n ∧ Rdr wr R q ∧ q ≤ p + 2000 * n ∧ w.grownBy wr (some R)) (fun _ i _ => rounds - (intOf i).toNat)
  case atStart => exact ⟨0, [], p, Nat.zero_le _, rfl, Hv0.out, gOk_nil c, by simp, by simp, Hr0.out, by omega, Hg0.out⟩
  case round =>
    obtain ⟨n, g0, q0, hn, rfl, hown, hok, hlt0, hgl, hrd, hq, hgr⟩ := hrel
    have Hown := Lib.hid hown; clear hown
    have Hrd := Lib.hid hrd; clear hrd
    have Hgr := Lib.hid hgr; clear hgr
    have Hok := Lib.hid hok; clear hok
    have Hlt0 := Lib.hid hlt0; clear hlt0
    by_cases hlt : n < rounds
    case neg =>
      have hn40 : n ≤ 40 := by omega
      go_wp2
      go_ret
      exact ⟨_, g0, q0, rfl, Hown.out, Hok.out, by omega, Hrd.out, by omega, Hgr.out⟩
    case pos =>
    obtain ⟨fo, hro⟩ := Hown.out.reads
    have hwn : IntKind.i64.wrap ((n : Int) - 1) = n - 1 := IntWalk.i64_in _ (by omega)
    have Hau := Lib.hid (spec_l11Authors g0 _ fo ((n : Int) - 1) wr (by omega) hro); clear hro
    have Hasc := Lib.hid (gOk_auth Hok.out ((n : Int) - 1))
    have hHl := authZ_len g0 ((n : Int) - 1)
    generalize authZ g0 ((n : Int) - 1) = H at *
    go_wp2_with fail
    refine Hau.out.mono ?_
    rintro e w2 ⟨uh, rfl, hoh, hb2⟩
    have hs2 := hb2.size
    have Hown2 := Lib.hid (Hown.out.below hb2 (Nat.le_refl _))
    have Hrd2 := Lib.hid (Hrd.out.kept (below_grown hb2) (fun g e => by cases e))
    have Hgr2 := Lib.hid (grown_row Hgr.out (below_grown hb2) (fun g e => by cases e))
    have hRw := Hgr.out.size
    have Hoh := Lib.hid (hoh.mono hRw)
    obtain ⟨ah, ch, rfl, hih, hsh, _⟩ := hoh.src
    clear hb2 hoh hih hsh
    go_wp2
    go_loopw [7, 10] (fun v i wr => ∃ (a : Nat) (g : List Vx) (q : Nat), a ≤ c.length ∧ i = .int .i64 a ∧ OwnR 25 3 4 wr w.heap.size wr.heap.size v (g.map Vx.fd) ∧ GOk c g ∧ (∀ x ∈ g, x.r < n ∨ x.r = n ∧ x.a < a) ∧ g.length ≤ 7 * n + a ∧ Rdr wr R q ∧ q ≤ p + 2000 * n + 283 * a ∧ w.grownBy wr (some R) ∧ Own 3 wr w.heap.size (.slice ah H.length ch) H ∧ w2.heap.size ≤ wr.heap.size) (fun _ i _ => c.length - (intOf i).toNat)
    case atStart => exact ⟨0, g0, q0, Nat.zero_le _, rfl, Hown2.out.mono hs2, Hok.out, fun x hx => .inl (Hlt0.out x hx), by omega, Hrd2.out, by omega, Hgr2.out, Hoh.out, Nat.le_refl _⟩
    case round =>
      obtain ⟨a, g, q, ha, rfl, hown, hok, hord, hgl, hrd, hq, hgr, hoh, hsz⟩ := hrel
      have Hown := Lib.hid hown; clear hown
      have Hrd := Lib.hid hrd; clear hrd
      have Hgr := Lib.hid hgr; clear hgr
      have Hok := Lib.hid hok; clear hok
      have Hord := Lib.hid hord; clear hord
      have Hoh := Lib.hid hoh; clear hoh
      by_cases hal : a < c.length
      case neg =>
        have hac : a = c.length := by omega
        subst hac
        go_wp2
        go_roundw
        case rel => exact ⟨n + 1, g, q, by omega, by go_num, Hown.out, Hok.out, fun x hx => by have := Hord.out x hx; omega, by omega, Hrd.out, by omega, Hgr.out⟩
        case measure => simp [intOf]; omega
      case pos =>
      go_wp2_with fail
      refine (pick_any R 6 q _ (by omega) Hrd.out (by omega)).mono ?_
      rintro e w3 ⟨z, rfl, hz0, hz1, hr3, hg3⟩
      have hs3 := hg3.size
      have Hrd3 := Lib.hid hr3; clear hr3
      have Hgr3 := Lib.hid (grownBy_trans Hgr.out hg3)
      have Hown3 := Lib.hid ((Hown.out.same fun b h1 h2 => hg3.block b (by omega) (fun e => by cases e; omega)).mono hs3)
      have Hoh3 := Lib.hid (Hoh.out.kept hg3 (.inr fun e => by have := (Hoh.out.lt R e).1; omega))
      clear hg3
      by_cases hz : z = 0
      · subst hz
        go_wp2
        go_roundw
        case rel => exact ⟨a + 1, g, q + 1, by omega, by go_num, Hown3.out, Hok.out, fun x hx => by have := Hord.out x hx; omega, by omega, Hrd3.out, by omega, Hgr3.out, Hoh3.out, by omega⟩
        case measure => simp [intOf]; omega
      have hz' : (z == 0) = false := by simpa using hz
      clear hz hz0 hz1 Hrd Hgr Hown Hoh
      have hwa : IntKind.i64.wrap (31 * (n : Int)) = 31 * n := IntWalk.i64_in _ (by omega)
      have hwb : IntKind.i64.wrap (7 * (a : Int)) = 7 * a := IntWalk.i64_in _ (by omega)
      have hwc : IntKind.i64.wrap (31 * (n : Int) + 7 * (a : Int)) = 31 * n + 7 * a := IntWalk.i64_in _ (by omega)
      go_wp2_with fail
      refine (pick_any R 90 (q + 1) _ (by omega) (Hrd3.out.alloc _) (by omega)).mono ?_
      rintro e w5 ⟨y, rfl, hy0, hy1, hr5, hg5⟩
      have ho5 := (own_empty 3 w3 (Nat.le_refl _)).kept hg5 (.inr fun e => by have := Hrd3.out.lt; simp [Value.ownBlock] at e; omega)
      have hg5' := grownBy_trans (World.grownBy_alloc w3 (.cells #[] 3) (some R)) hg5
      have hs5 : w3.heap.size + 1 ≤ w5.heap.size := by have := hg5.size; simpa using this
      have Hrd5 := Lib.hid hr5; clear hr5
      have Ho5 := Lib.hid ho5; clear ho5
      have Hg5 := Lib.hid hg5'; clear hg5' hg5
      have hwd : IntKind.i64.wrap (31 * (n : Int) + 7 * (a : Int) + y) = 31 * n + 7 * a + y := IntWalk.i64_in _ (by omega)
      obtain ⟨D, hD⟩ : ∃ D, (31 * (n : Int) + 7 * (a : Int) + y).tmod 991 = D := ⟨_, rfl⟩
      have hDb : -9223372036854775808 ≤ D ∧ D ≤ 9223372036854775807 := by
        rw [← hD, Int.tmod_eq_emod_of_nonneg (by omega)]; omega
      have hs0 := Str.new w5 25 #[.int .i64 n, .int .i64 a, .slice (some ⟨w3.heap.size, 0, none⟩) 0 0, .int .i64 D]
      have hgA := grownBy_trans Hg5.out (World.grownBy_alloc w5 (.cells #[.int .i64 n, .int .i64 a, .slice (some ⟨w3.heap.size, 0, none⟩) 0 0, .int .i64 D] 25) (some R))
      have hoA := Ho5.out.alloc (.cells #[.int .i64 n, .int .i64 a, .slice (some ⟨w3.heap.size, 0, none⟩) 0 0, .int .i64 D] 25)
      have hrA := Hrd5.out.alloc (.cells #[.int .i64 n, .int .i64 a, .slice (some ⟨w3.heap.size, 0, none⟩) 0 0, .int .i64 D] 25)
      have HsA := Lib.hid hs0; clear hs0
      have HgA := Lib.hid hgA; clear hgA
      have HoA := Lib.hid hoA; clear hoA
      have HrA := Lib.hid hrA; clear hrA Hrd5 Ho5 Hg5
      have hw3 := Hgr3.out.size
      go_wp2
      clear hwa hwb hwc hwd hD
      generalize w5.alloc (.cells #[.int .i64 n, .int .i64 a, .slice (some ⟨w3.heap.size, 0, none⟩) 0 0, .int .i64 D] 25) = w6 at *
      generalize w5.heap.size = Bv at *
      go_loopw [12] (fun i wr => ∃ (k : Nat) (ps : List Int) (vp : Value) (q2 : Nat), k ≤ H.length ∧ i = .int .i64 k ∧ ps.Sublist (H.take k) ∧ Str wr Bv 25 #[.int .i64 n, .int .i64 a, vp, .int .i64 D] ∧ Own 3 wr w3.heap.size vp ps ∧ vp.ownBlock ≠ some Bv ∧ Rdr wr R q2 ∧ q2 ≤ q + 2 + k ∧ w3.grownBy wr (some R)) (fun i _ => H.length - (intOf i).toNat)
      case atStart => exact ⟨0, [], _, q + 1 + 1, Nat.zero_le _, rfl, by simp, HsA.out, HoA.out, by simp [Value.ownBlock]; omega, HrA.out, by omega, HgA.out⟩
      case round =>
        obtain ⟨k, ps, vp, q2, hk, rfl, hsub, hst, hop, hne, hrd, hq2, hg3r⟩ := hrel
        have Hst := Lib.hid hst; clear hst
        have Hop := Lib.hid hop; clear hop
        have Hrd := Lib.hid hrd; clear hrd
        have Hg3r := Lib.hid hg3r; clear hg3r
        have Hsub := Lib.hid hsub; clear hsub
        have Hne := Lib.hid hne; clear hne
        have hBw := Hst.out.lt
        have Hohr := Lib.hid (Hoh3.out.kept Hg3r.out (.inr fun e => by have := (Hoh3.out.lt R e).1; omega))
        by_cases hlt2 : k < H.length
        · obtain ⟨bh, ch', e, hbB, hbs, _, hcells, _⟩ := Hohr.out.row (by omega)
          simp only [Value.slice.injEq, true_and] at e
          obtain ⟨rfl, rfl⟩ := e
          have hch := hcells k hlt2
          have hb3 : bh < w3.heap.size := by
            exact (Hoh3.out.lt bh rfl).2
          clear hcells
          by_cases hn0 : n = 0
          · exfalso; omega
          have hnn : decide ((0 : Int) < (n : Int)) = true := decide_eq_true (by omega)
          have hnn' : (0 : Int) < (n : Int) := by omega
          clear hn0
          go_wp2_with fail
          refine (pick_any R 8 q2 _ (by omega) Hrd.out (by omega)).mono ?_
          rintro e w7 ⟨u, rfl, hu0, hu1, hr7, hg7⟩
          have hs7 := hg7.size
          have Hrd7 := Lib.hid hr7; clear hr7
          have Hst7 := Lib.hid (Hst.out.kept hg7 (by simp; omega))
          have Hop7 := Lib.hid (Hop.out.kept hg7 (.inr fun e => by have := (Hop.out.lt R e).1; have := Hgr3.out.size; omega))
          have Hg37 := Lib.hid (grownBy_trans Hg3r.out hg7)
          have hch7 : w7.cell? ⟨bh, k, none⟩ = some (.int .i64 H[k]) := hg7.cell hch (by simp; omega)
          clear hg7 hch
          by_cases hu : 0 < u
          · have hud : decide ((0 : Int) < u) = true := decide_eq_true hu
            have Hsub' := Lib.hid (show (ps ++ [H[k]]).Sublist (H.take (k + 1)) by
              rw [List.take_succ_eq_append_getElem hlt2]
              exact Hsub.out.append (List.Sublist.refl _))
            generalize H[k] = x at *
            have h2 : w7.drew.cell? ⟨Bv, 2, none⟩ = some vp := Hst7.out.cell 2 (v := vp) rfl
            have h3 : w7.drew.cell? ⟨bh, k, none⟩ = some (.int .i64 x) := hch7
            go_wp2_with fail
            refine wp_region_L 9 (fun w' => w'.cell? ⟨Bv, 2, none⟩ = some vp ∧ w'.cell? ⟨bh, k, none⟩ = some (.int .i64 x)) (by kernel_rfl) ⟨h2, h3⟩ (fun hH => ?_)
            refine takeL 0 (v := ?v0) rfl (by kernel_rfl) (by kernel_rfl) (by kernel_rfl) (by kernel_rfl) (by kernel_rfl) (fun _ _ _ h => h) hH rfl ?y0 ?r0
            case y0 => intro W hSw; go_simp; try with_reducible rfl
            try simp only [Act.put, List.setIfInBounds_toArray, List.set_cons_zero, List.set_cons_succ]
            refine takeL 1 (v := ?v1) rfl (by kernel_rfl) (by kernel_rfl) (by kernel_rfl) (by kernel_rfl) (by kernel_rfl) (fun _ _ _ h => h) hH rfl ?y1 ?r1
            case y1 => intro W hSw; go_simp; try with_reducible rfl
            try simp only [Act.put, List.setIfInBounds_toArray, List.set_cons_zero, List.set_cons_succ]
            refine takeL 2 (v := ?v2) rfl (by kernel_rfl) (by kernel_rfl) (by kernel_rfl) (by kernel_rfl) (by kernel_rfl) (fun _ _ _ h => h) hH rfl ?y2 ?r2
            case y2 => intro W hSw; go_simp; try with_reducible rfl
            try simp only [Act.put, List.setIfInBounds_toArray, List.set_cons_zero, List.set_cons_succ]
            refine takeL 3 (v := ?v3) rfl (by kernel_rfl) (by kernel_rfl) (by kernel_rfl) (by kernel_rfl) (by kernel_rfl) (fun _ _ _ h => h) hH rfl ?y3 ?r3
            case y3 => intro W hSw; go_simp; try with_reducible rfl
            try simp only [Act.put, List.setIfInBounds_toArray, List.set_cons_zero, List.set_cons_succ]
            refine takeL 4 (v := ?v4) rfl (by kernel_rfl) (by kernel_rfl) (by kernel_rfl) (by kernel_rfl) (by kernel_rfl) (fun _ _ _ h => h) hH rfl ?y4 ?r4
            case y4 => intro W hSw; go_simp; try with_reducible rfl
            try simp only [Act.put, List.setIfInBounds_toArray, List.set_cons_zero, List.set_cons_succ]
            refine takeL 5 (v := ?v5) rfl (by kernel_rfl) (by kernel_rfl) (by kernel_rfl) (by kernel_rfl) (by kernel_rfl) (fun _ _ _ h => h) hH rfl ?y5 ?r5
            case y5 => intro W hSw; go_simp; try with_reducible rfl
            try simp only [Act.put, List.setIfInBounds_toArray, List.set_cons_zero, List.set_cons_succ]
            refine callL 6 rfl (by kernel_rfl) rfl (fun K hK => ?_)
            go_simp
            refine hK.out _ _ ⟨(World.grownBy_alloc w7.drew _ none).cell h2 (by simp), (World.grownBy_alloc w7.drew _ none).cell h3 (by simp)⟩ (fun hH => ?_)
            clear hK K
            try simp only [Act.put, List.setIfInBounds_toArray, List.set_cons_zero, List.set_cons_succ]
            have hown7 : Own 3 w7.drew w3.heap.size vp ps := Hop7.out
            have hst7 : Str w7.drew Bv 25 #[.int .i64 n, .int .i64 a, vp, .int .i64 D] := Hst7.out
            have hpl : ps.length ≤ 1099511627776 := by have := Hsub.out.length_le; rw [List.length_take] at this; omega
            have hB7 : w3.heap.size ≤ w7.drew.heap.size := Hg37.out.size
            have hg37 : w3.grownBy w7.drew (some R) := grownBy_drewN Hg37.out 1
            have hrd7 : Rdr w7.drew R (q2 + 1) := Hrd7.out.drewN 1
            refine callL 7 rfl (by kernel_rfl) rfl (fun K hK => ?_)
            refine op_push_at TIg w7.drew (.tmp 59) (.tmp 64) rfl w3.heap.size vp ps x rfl hown7 hpl rfl hB7 ?_
            intro v9 w9 hown9 hg9 hat9
            obtain ⟨g9, c9, rfl⟩ := own_succ hown9
            have s9 := hst7.kept hg9 (fun e => Hne.out e.symm)
            have h9 := s9.cell 2 (v := vp) rfl
            have f9 := s9.frozen 2
            have h39 : w9.cell? ⟨bh, k, none⟩ = some (.int .i64 x) := hg9.cell h3 (by intro e; have h' : w3.heap.size ≤ bh := (hown7.lt _ e.symm).1; omega)
            refine hK.out _ _ ⟨h9, h39⟩ (fun hH => ?_)
            clear hK K
            try simp only [Act.put, List.setIfInBounds_toArray, List.set_cons_zero, List.set_cons_succ]
            refine takeL 8 (v := ?v8) rfl (by kernel_rfl) (by kernel_rfl) (by kernel_rfl) (by kernel_rfl) (by kernel_rfl) (fun _ _ _ h => h) hH rfl ?y8 ?r8
            case y8 => intro W hSw; go_simp; try with_reducible rfl
            try simp only [Act.put, List.setIfInBounds_toArray, List.set_cons_zero, List.set_cons_succ]
            refine lastL rfl (by kernel_rfl) (by kernel_rfl) (by kernel_rfl) rfl (fun K hK => ?_)
            go_simp
            refine hK.out _ _ ?_
            clear hK K
            try simp only [Act.put, List.setIfInBounds_toArray, List.set_cons_zero, List.set_cons_succ]
            have hBs : Bv < w7.drew.heap.size := hst7.lt
            have hne9 : (Value.slice (some ⟨g9, 0, none⟩) (ps.length + 1) c9).ownBlock ≠ some Bv := by
              rcases hat9 with h | ⟨g', h, h'⟩
              · rw [h]; exact Hne.out
              · rw [h]; simp; omega
            have hRB : R < Bv := by omega
            go_wp2
            go_roundw
            case rel => exact ⟨k + 1, ps ++ [x], _, q2 + 1, by omega, by go_num, Hsub'.out, (by have := s9.set 2 (.slice (some ⟨g9, 0, none⟩) (ps.length + 1) c9); simpa using this), hown9.set_other hne9 2 _, hne9, (hrd7.kept hg9 (fun g e => by have := (hown7.lt g e).1; omega)).kept (grownBy_set w9 Bv 2 _) (fun g e => by cases e; exact hRB), by omega, grown_row (grown_row hg37 hg9 (fun g e => (hown7.lt g e).1)) (grownBy_set w9 Bv 2 _) (fun g e => by cases e; omega)⟩
            case measure => simp [intOf]; omega
          · have hud : decide ((0 : Int) < u) = false := decide_eq_false hu
            clear hu0 hu1
            go_wp2
            go_roundw
            case rel => exact ⟨k + 1, ps, vp, q2 + 1, by omega, by go_num, Hsub.out.trans (List.take_sublist_take_left (by omega)), Hst7.out, Hop7.out, Hne.out, Hrd7.out, by omega, Hg37.out⟩
            case measure => simp [intOf]; omega
        · have hke : k = H.length := by omega
          subst hke
          rw [List.take_length] at Hsub
          have hpl : ps.length ≤ 1099511627776 := by have := Hsub.out.length_le; omega
          obtain ⟨ap, cp, rfl, hip, _⟩ := Hop.out.ints
          clear hip
          by_cases hn0 : n = 0
          · have hnn : decide ((0 : Int) < (n : Int)) = false := decide_eq_false (by omega)
            have hnn' : ¬ (0 : Int) < (n : Int) := by omega
            clear hn0
            have hgW := grownBy_trans Hgr3.out Hg3r.out
            have hcW := Hc.out _ hgW
            have HgW := Lib.hid hgW; clear hgW
            have st := Hst.out
            have c0 := st.cell 0 (v := .int .i64 n) rfl
            have c1 := st.cell 1 (v := .int .i64 a) rfl
            have c2 := st.cell 2 (v := .slice ap ps.length cp) rfl
            have c3 := st.cell 3 (v := .int .i64 D) rfl
            have Hcall := Lib.hid (HVx.out n a D ap cp ps _ hpl hcW Hop.out.at)
            clear st hcW
            cases hvx : vtxB c ⟨n, a, ps, D⟩ with
            | false =>
              rw [hvx] at Hcall
              clear Hst Hop Hne
              go_wp2_with fail
              refine Hcall.out.mono ?_
              rintro e w8 ⟨rfl, hb8⟩
              have Hg38 := Lib.hid (grown_row (w := w3) Hg3r.out (below_grown hb8) (fun g e => by cases e))
              have Hown8 := Lib.hid (Hown3.out.same fun b h1 h2 => Hg38.out.block b h2 (fun e => by cases e; omega))
              have Hoh8 := Lib.hid (Hoh3.out.kept Hg38.out (.inr fun e => by have := (Hoh3.out.lt R e).1; omega))
              have Hrd8 := Lib.hid (Hrd.out.kept (below_grown hb8) (fun g e => by cases e))
              have hs8 := Hg38.out.size
              have HgW8 := Lib.hid (grownBy_trans Hgr3.out Hg38.out)
              clear hb8 c0 c1 c2 c3
              go_wp2
              go_roundw
              case rel => exact ⟨a + 1, g, q2, by omega, by go_num, Hown8.out.mono hs8, Hok.out, fun x hx => by have := Hord.out x hx; omega, by omega, Hrd8.out, by omega, HgW8.out, Hoh8.out, by omega⟩
              case measure => simp [intOf]; omega
            | true =>
              rw [hvx] at Hcall
              have Hok' := Lib.hid (gOk_push Hok.out hvx Hord.out)
              clear hvx
              go_wp2_with fail
              refine Hcall.out.mono ?_
              rintro e w8 ⟨rfl, hb8⟩
              have Hg38 := Lib.hid (grown_row (w := w3) Hg3r.out (below_grown hb8) (fun g e => by cases e))
              have Hown8 := Lib.hid (Hown3.out.same fun b h1 h2 => Hg38.out.block b h2 (fun e => by cases e; omega))
              have Hoh8 := Lib.hid (Hoh3.out.kept Hg38.out (.inr fun e => by have := (Hoh3.out.lt R e).1; omega))
              have Hrd8 := Lib.hid (Hrd.out.kept (below_grown hb8) (fun g e => by cases e))
              have hs8 := Hg38.out.size
              have HgW8 := Lib.hid (grownBy_trans Hgr3.out Hg38.out)
              have st := (hb8.block _ Hst.out.lt).trans Hst.out
              have hop8 := Hop.out.below hb8
              have c0 := Str.cell st 0 (v := .int .i64 n) rfl
              have c1 := Str.cell st 1 (v := .int .i64 a) rfl
              have c2 := Str.cell st 2 (v := .slice ap ps.length cp) rfl
              have c3 := Str.cell st 3 (v := .int .i64 D) rfl
              obtain ⟨hfd, hap, hnew⟩ := vertex_new (B := w.heap.size) n a D hop8 hw3
              have Hfd := Lib.hid hfd; clear hfd
              have Hap := Lib.hid hap; clear hap
              have Hnew := Lib.hid hnew; clear hnew hop8 st hb8
              have hel : (g.map Vx.fd).length ≤ 1048576 := by rw [List.length_map]; omega
              have Hex := Lib.hid (show (g ++ [(⟨n, a, ps, D⟩ : Vx)]).map Vx.fd = g.map Vx.fd ++ [[.i n, .i a, .l ps, .i D]] by rw [List.map_append]; rfl)
              have hB8 : w.heap.size ≤ w8.heap.size := by omega
              generalize g.map Vx.fd = es at *
              go_wp2_with (at_builtin; refine wpList_push_own (Ei := 3) Try.underlying32 vertex_inf rfl (by decide) (by decide) rfl (.tmp 85) (.tmp 87) rfl w.heap.size _ es _ _ _ rfl rfl (by intro u hu; simp at hu; rcases hu with rfl | rfl | rfl | rfl <;> rfl) rfl rfl Hfd.out Hap.out w3.heap.size Hown8.out hs8 Hnew.out hel rfl hB8 ?_; intro v9 w9 hown9 hg9 hat9)
              go_roundw
              case rel => exact ⟨a + 1, g ++ [⟨n, a, ps, D⟩], q2, by omega, by go_num, by rw [Hex.out]; exact hown9, Hok'.out, fun x hx => by
                rcases List.mem_append.1 hx with hx | hx
                · have := Hord.out x hx; omega
                · simp at hx; subst hx; exact .inr ⟨rfl, (show (a : Int) < ((a + 1 : Nat) : Int) by omega)⟩, by have := hgl; rw [List.length_append]; simp only [List.length_singleton]; omega, Hrd8.out.kept hg9 (fun g e => by have := (Hown8.out.lt g e).1; omega), by omega, grown_row HgW8.out hg9 (fun g e => (Hown8.out.lt g e).1), Hoh8.out.kept hg9 (Hown8.out.apartI Hoh8.out (by decide)), by have := hg9.size; omega⟩
              case measure => simp [intOf]; omega
          have hnn : decide ((0 : Int) < (n : Int)) = true := decide_eq_true (by omega)
          have hnn' : (0 : Int) < (n : Int) := by omega
          clear hn0
          have hmb := members_sub Hasc.out Hsub.out
          have hcW0 := Hc.out _ (grownBy_trans Hgr3.out Hg3r.out)
          have k2 := Hst.out.cell 2 (v := .slice ap ps.length cp) rfl
          have HW1 := Lib.hid (HWt.out ps ap cp wr hmb hpl hcW0 Hop.out.at)
          have HQ1 := Lib.hid (HQt.out wr hcW0)
          clear hcW0 hmb
          go_wp2_with fail
          refine HW1.out.mono ?_
          rintro e w7 ⟨rfl, rfl⟩
          go_wp2_with fail
          refine HQ1.out.mono ?_
          rintro e w7 ⟨rfl, rfl⟩
          by_cases hlow : weightZ c ps < 2 * totalZ c / 3 + 1
          · have hld : decide (weightZ c ps < 2 * totalZ c / 3 + 1) = true := decide_eq_true hlow
            have hoE := own_empty 3 wr (Nat.le_refl wr.heap.size)
            have hsrc : SrcAt (wr.alloc (.cells #[] 3)) ah ch H := by
              obtain ⟨_, _, e, _, hs, _⟩ := (Hohr.out.alloc (.cells #[] 3)).src
              cases e
              exact hs
            have stE := Hst.out.alloc (.cells #[] 3)
            have hzE : (wr.alloc (.cells #[] 3)).heap.size = wr.heap.size + 1 := by simp
            have rdE := Hrd.out.alloc (.cells #[] 3)
            have hgE := grownBy_trans Hg3r.out (World.grownBy_alloc wr (.cells #[] 3) (some R))
            have hsr := Hg3r.out.size
            have hHl2 : H.length ≤ 1099511627776 := by omega
            have hRB : R < Bv := by omega
            have HoE := Lib.hid hoE; clear hoE
            have Hsrc := Lib.hid hsrc; clear hsrc
            have HstE := Lib.hid stE; clear stE
            have HrdE := Lib.hid rdE; clear rdE
            have HgE := Lib.hid hgE; clear hgE
            clear k2 hlow Hop Hst Hrd HW1 HQ1
            go_wp2_with (at_builtin; refine wpList_appI TIg rfl (.tmp 78) (.tmp 79) rfl wr.heap.size (.slice (some ⟨wr.heap.size, 0, none⟩) 0 0) [] H _ _ rfl HoE.out rfl Hsrc.out (by simp; omega) (by rw [hzE]; omega) ?_; intro v7 w7 hown7 hg7; (rw [List.nil_append] at hown7); (generalize wr.alloc (.cells #[] 3) = w71 at *); (have st7 := HstE.out.kept hg7 (by simp [Value.ownBlock]; omega)); (have Hrd7 := Lib.hid (HrdE.out.kept hg7 (fun g e => by have := (HoE.out.lt g e).1; omega))); (have Hg7 := Lib.hid (grown_row HgE.out hg7 (fun g e => by have := (HoE.out.lt g e).1; omega))); (have Hown7 := Lib.hid hown7); (obtain ⟨a7, c7, rfl, _, _⟩ := Hown7.out.ints); (have k2 := st7.cell 2 (v := .slice ap ps.length cp) rfl); (have f2 := st7.frozen 2); (have u := st7.set 2 (.slice a7 H.length c7)); (have e0 := u.cell 0 (v := .int .i64 n) rfl); (have e1 := u.cell 1 (v := .int .i64 a) rfl); (have e2 := u.cell 2 (v := .slice a7 H.length c7) rfl); (have e3 := u.cell 3 (v := .int .i64 D) rfl); (have Hu := Lib.hid u); (clear u st7 hown7 hg7))
            have hne7 : (Value.slice a7 H.length c7).ownBlock ≠ some Bv := fun e => by have := (Hown7.out.lt _ e).1; omega
            have Hrd := Lib.hid (Hrd7.out.kept (grownBy_set w7 Bv 2 (.slice a7 H.length c7)) (fun g e => by cases e; exact hRB))
            have Hg3r := Lib.hid (grown_row Hg7.out (grownBy_set w7 Bv 2 (.slice a7 H.length c7)) (fun g e => by cases e; omega))
            have Hop := Lib.hid ((Hown7.out.mono (show w3.heap.size ≤ wr.heap.size from hsr)).set_other hne7 2 (.slice a7 H.length c7))
            have Hst : Hid (Str (w7.setCell ⟨Bv, 2, none⟩ (.slice a7 H.length c7)) Bv 25 #[.int .i64 n, .int .i64 a, .slice a7 H.length c7, .int .i64 D]) := Lib.hid (by simpa using Hu.out)
            clear k2 f2 Hu Hown7 Hrd7 Hg7 hne7
            generalize w7.setCell ⟨Bv, 2, none⟩ (.slice a7 H.length c7) = wz at *
            have hBz := Hst.out.lt
            have hgW := grownBy_trans Hgr3.out Hg3r.out
            have hcW := Hc.out _ hgW
            have HgW := Lib.hid hgW; clear hgW
            have st := Hst.out
            clear e0 e1 e2 e3
            have c0 := st.cell 0 (v := .int .i64 n) rfl
            have c1 := st.cell 1 (v := .int .i64 a) rfl
            have c2 := st.cell 2 (v := .slice a7 H.length c7) rfl
            have c3 := st.cell 3 (v := .int .i64 D) rfl
            have Hcall := Lib.hid (HVx.out n a D a7 c7 H _ hHl2 hcW Hop.out.at)
            clear st hcW
            cases hvx : vtxB c ⟨n, a, H, D⟩ with
            | false =>
              rw [hvx] at Hcall
              clear Hst Hop
              refine Hcall.out.mono ?_
              rintro e w8 ⟨rfl, hb8⟩
              have Hg38 := Lib.hid (grown_row (w := w3) Hg3r.out (below_grown hb8) (fun g e => by cases e))
              have Hown8 := Lib.hid (Hown3.out.same fun b h1 h2 => Hg38.out.block b h2 (fun e => by cases e; omega))
              have Hoh8 := Lib.hid (Hoh3.out.kept Hg38.out (.inr fun e => by have := (Hoh3.out.lt R e).1; omega))
              have Hrd8 := Lib.hid (Hrd.out.kept (below_grown hb8) (fun g e => by cases e))
              have hs8 := Hg38.out.size
              have HgW8 := Lib.hid (grownBy_trans Hgr3.out Hg38.out)
              clear hb8 c0 c1 c2 c3
              go_wp2
              go_roundw
              case rel => exact ⟨a + 1, g, q2, by omega, by go_num, Hown8.out.mono hs8, Hok.out, fun x hx => by have := Hord.out x hx; omega, by omega, Hrd8.out, by omega, HgW8.out, Hoh8.out, by omega⟩
              case measure => simp [intOf]; omega
            | true =>
              rw [hvx] at Hcall
              have Hok' := Lib.hid (gOk_push Hok.out hvx Hord.out)
              clear hvx
              refine Hcall.out.mono ?_
              rintro e w8 ⟨rfl, hb8⟩
              have Hg38 := Lib.hid (grown_row (w := w3) Hg3r.out (below_grown hb8) (fun g e => by cases e))
              have Hown8 := Lib.hid (Hown3.out.same fun b h1 h2 => Hg38.out.block b h2 (fun e => by cases e; omega))
              have Hoh8 := Lib.hid (Hoh3.out.kept Hg38.out (.inr fun e => by have := (Hoh3.out.lt R e).1; omega))
              have Hrd8 := Lib.hid (Hrd.out.kept (below_grown hb8) (fun g e => by cases e))
              have hs8 := Hg38.out.size
              have HgW8 := Lib.hid (grownBy_trans Hgr3.out Hg38.out)
              have st := (hb8.block _ Hst.out.lt).trans Hst.out
              have hop8 := Hop.out.below hb8
              have c0 := Str.cell st 0 (v := .int .i64 n) rfl
              have c1 := Str.cell st 1 (v := .int .i64 a) rfl
              have c2 := Str.cell st 2 (v := .slice a7 H.length c7) rfl
              have c3 := Str.cell st 3 (v := .int .i64 D) rfl
              obtain ⟨hfd, hap, hnew⟩ := vertex_new (B := w.heap.size) n a D hop8 hw3
              have Hfd := Lib.hid hfd; clear hfd
              have Hap := Lib.hid hap; clear hap
              have Hnew := Lib.hid hnew; clear hnew hop8 st hb8
              have hel : (g.map Vx.fd).length ≤ 1048576 := by rw [List.length_map]; omega
              have Hex := Lib.hid (show (g ++ [(⟨n, a, H, D⟩ : Vx)]).map Vx.fd = g.map Vx.fd ++ [[.i n, .i a, .l H, .i D]] by rw [List.map_append]; rfl)
              have hB8 : w.heap.size ≤ w8.heap.size := by omega
              generalize g.map Vx.fd = es at *
              go_wp2_with (at_builtin; refine wpList_push_own (Ei := 3) Try.underlying32 vertex_inf rfl (by decide) (by decide) rfl (.tmp 85) (.tmp 87) rfl w.heap.size _ es _ _ _ rfl rfl (by intro u hu; simp at hu; rcases hu with rfl | rfl | rfl | rfl <;> rfl) rfl rfl Hfd.out Hap.out w3.heap.size Hown8.out hs8 Hnew.out hel rfl hB8 ?_; intro v9 w9 hown9 hg9 hat9)
              go_roundw
              case rel => exact ⟨a + 1, g ++ [⟨n, a, H, D⟩], q2, by omega, by go_num, by rw [Hex.out]; exact hown9, Hok'.out, fun x hx => by
                rcases List.mem_append.1 hx with hx | hx
                · have := Hord.out x hx; omega
                · simp at hx; subst hx; exact .inr ⟨rfl, (show (a : Int) < ((a + 1 : Nat) : Int) by omega)⟩, by have := hgl; rw [List.length_append]; simp only [List.length_singleton]; omega, Hrd8.out.kept hg9 (fun g e => by have := (Hown8.out.lt g e).1; omega), by omega, grown_row HgW8.out hg9 (fun g e => (Hown8.out.lt g e).1), Hoh8.out.kept hg9 (Hown8.out.apartI Hoh8.out (by decide)), by have := hg9.size; omega⟩
              case measure => simp [intOf]; omega
          · have hld : decide (weightZ c ps < 2 * totalZ c / 3 + 1) = false := decide_eq_false hlow
            clear k2
            have hgW := grownBy_trans Hgr3.out Hg3r.out
            have hcW := Hc.out _ hgW
            have HgW := Lib.hid hgW; clear hgW
            have st := Hst.out
            have c0 := st.cell 0 (v := .int .i64 n) rfl
            have c1 := st.cell 1 (v := .int .i64 a) rfl
            have c2 := st.cell 2 (v := .slice ap ps.length cp) rfl
            have c3 := st.cell 3 (v := .int .i64 D) rfl
            have Hcall := Lib.hid (HVx.out n a D ap cp ps _ hpl hcW Hop.out.at)
            clear st hcW
            cases hvx : vtxB c ⟨n, a, ps, D⟩ with
            | false =>
              rw [hvx] at Hcall
              clear Hst Hop Hne
              go_wp2_with fail
              refine Hcall.out.mono ?_
              rintro e w8 ⟨rfl, hb8⟩
              have Hg38 := Lib.hid (grown_row (w := w3) Hg3r.out (below_grown hb8) (fun g e => by cases e))
              have Hown8 := Lib.hid (Hown3.out.same fun b h1 h2 => Hg38.out.block b h2 (fun e => by cases e; omega))
              have Hoh8 := Lib.hid (Hoh3.out.kept Hg38.out (.inr fun e => by have := (Hoh3.out.lt R e).1; omega))
              have Hrd8 := Lib.hid (Hrd.out.kept (below_grown hb8) (fun g e => by cases e))
              have hs8 := Hg38.out.size
              have HgW8 := Lib.hid (grownBy_trans Hgr3.out Hg38.out)
              clear hb8 c0 c1 c2 c3
              go_wp2
              go_roundw
              case rel => exact ⟨a + 1, g, q2, by omega, by go_num, Hown8.out.mono hs8, Hok.out, fun x hx => by have := Hord.out x hx; omega, by omega, Hrd8.out, by omega, HgW8.out, Hoh8.out, by omega⟩
              case measure => simp [intOf]; omega
            | true =>
              rw [hvx] at Hcall
              have Hok' := Lib.hid (gOk_push Hok.out hvx Hord.out)
              clear hvx
              go_wp2_with fail
              refine Hcall.out.mono ?_
              rintro e w8 ⟨rfl, hb8⟩
              have Hg38 := Lib.hid (grown_row (w := w3) Hg3r.out (below_grown hb8) (fun g e => by cases e))
              have Hown8 := Lib.hid (Hown3.out.same fun b h1 h2 => Hg38.out.block b h2 (fun e => by cases e; omega))
              have Hoh8 := Lib.hid (Hoh3.out.kept Hg38.out (.inr fun e => by have := (Hoh3.out.lt R e).1; omega))
              have Hrd8 := Lib.hid (Hrd.out.kept (below_grown hb8) (fun g e => by cases e))
              have hs8 := Hg38.out.size
              have HgW8 := Lib.hid (grownBy_trans Hgr3.out Hg38.out)
              have st := (hb8.block _ Hst.out.lt).trans Hst.out
              have hop8 := Hop.out.below hb8
              have c0 := Str.cell st 0 (v := .int .i64 n) rfl
              have c1 := Str.cell st 1 (v := .int .i64 a) rfl
              have c2 := Str.cell st 2 (v := .slice ap ps.length cp) rfl
              have c3 := Str.cell st 3 (v := .int .i64 D) rfl
              obtain ⟨hfd, hap, hnew⟩ := vertex_new (B := w.heap.size) n a D hop8 hw3
              have Hfd := Lib.hid hfd; clear hfd
              have Hap := Lib.hid hap; clear hap
              have Hnew := Lib.hid hnew; clear hnew hop8 st hb8
              have hel : (g.map Vx.fd).length ≤ 1048576 := by rw [List.length_map]; omega
              have Hex := Lib.hid (show (g ++ [(⟨n, a, ps, D⟩ : Vx)]).map Vx.fd = g.map Vx.fd ++ [[.i n, .i a, .l ps, .i D]] by rw [List.map_append]; rfl)
              have hB8 : w.heap.size ≤ w8.heap.size := by omega
              generalize g.map Vx.fd = es at *
              go_wp2_with (at_builtin; refine wpList_push_own (Ei := 3) Try.underlying32 vertex_inf rfl (by decide) (by decide) rfl (.tmp 85) (.tmp 87) rfl w.heap.size _ es _ _ _ rfl rfl (by intro u hu; simp at hu; rcases hu with rfl | rfl | rfl | rfl <;> rfl) rfl rfl Hfd.out Hap.out w3.heap.size Hown8.out hs8 Hnew.out hel rfl hB8 ?_; intro v9 w9 hown9 hg9 hat9)
              go_roundw
              case rel => exact ⟨a + 1, g ++ [⟨n, a, ps, D⟩], q2, by omega, by go_num, by rw [Hex.out]; exact hown9, Hok'.out, fun x hx => by
                rcases List.mem_append.1 hx with hx | hx
                · have := Hord.out x hx; omega
                · simp at hx; subst hx; exact .inr ⟨rfl, (show (a : Int) < ((a + 1 : Nat) : Int) by omega)⟩, by have := hgl; rw [List.length_append]; simp only [List.length_singleton]; omega, Hrd8.out.kept hg9 (fun g e => by have := (Hown8.out.lt g e).1; omega), by omega, grown_row HgW8.out hg9 (fun g e => (Hown8.out.lt g e).1), Hoh8.out.kept hg9 (Hown8.out.apartI Hoh8.out (by decide)), by have := hg9.size; omega⟩
              case measure => simp [intOf]; omega

end Go.Proofs.Ythnbjdijcpcafaa

/- A list that reads as rows is appended to a list that the call builds; a row's cell of such a list is written over; general steps, nothing here speaks of the program. -/
namespace Go.Proofs.Ythnbjdijcpcafaa
open Go.RowKit

theorem Rd.one {w : World} {d : Dt} {c : Value} {fp : List Nat} (h : Rd w d c fp) : c.oneCell' = true := by
  cases h <;> rfl
/-- The cells of a list of rows, one after the other, and how they read. -/
theorem Rd.rows {w : World} {es : List (List Dt)} {u : Value} {fp : List Nat} (h : Rd w (.l es) u fp) {sz : Nat} (hsz : ∀ e ∈ es, e.length = sz) (hpos : 0 < sz) :
    (u = .slice none 0 0 ∧ es = []) ∨ ∃ (ad : Addr) (c : Nat) (vals : List Value), u = .slice (some ad) es.length c ∧ vals.length = es.length * sz ∧ (∀ j x, vals[j]? = some x → w.cell? (ad.add j) = some x) ∧ (∀ x ∈ vals, x.oneCell' = true) ∧
      ∀ k (hk : k < es.length) j (hj : j < (es[k]).length), ∃ c fp', (vals.drop (k * sz))[j]? = some c ∧ Rd w ((es[k])[j]) c fp' ∧ ∀ r ∈ fp', r ∈ fp := by
  generalize hd : Dt.l es = d at h
  cases h with
  | i n => cases hd
  | b x => cases hd
  | s t => cases hd
  | nil a cap hn =>
    cases hd
    cases a with
    | none => rw [hn rfl]; exact .inl ⟨rfl, rfl⟩
    | some ad => exact .inr ⟨ad, cap, [], rfl, by simp, by simp, by simp, fun k hk => by simp at hk⟩
  | l sz' es' g off cap V F hne hsz' hcap hgl hc hrd =>
    cases hd
    have hss : sz' = sz := by
      have h0 := List.getElem_mem hne
      rw [← hsz' _ h0, hsz _ h0]
    subst hss
    have hlt : ∀ p, p < es.length * sz' → p / sz' < es.length ∧ p % sz' < sz' := fun p hp => ⟨by rw [Nat.div_lt_iff_lt_mul hpos]; exact hp, Nat.mod_lt _ hpos⟩
    have hget : ∀ p, p < es.length * sz' → ((List.range (es.length * sz')).map fun p => V (p / sz') (p % sz'))[p]? = some (V (p / sz') (p % sz')) := by
      intro p hp
      simp [List.getElem?_map, List.getElem?_range hp]
    refine .inr ⟨⟨g, off, none⟩, cap, (List.range (es.length * sz')).map fun p => V (p / sz') (p % sz'), rfl, by simp, fun j x hx => ?_, fun x hx => ?_, fun k hk j hj => ?_⟩
    · have hj : j < es.length * sz' := by
        obtain ⟨h, _⟩ := List.getElem?_eq_some_iff.1 hx
        simpa using h
      rw [hget j hj] at hx
      cases hx
      obtain ⟨h1, h2⟩ := hlt j hj
      have := hc (j / sz') (j % sz') h1 h2
      rw [addr_add', ← this]
      congr 3
      rw [Nat.mul_comm]; exact (Nat.div_add_mod _ _).symm
    · obtain ⟨p, hp, rfl⟩ := List.mem_map.1 hx
      obtain ⟨h1, h2⟩ := hlt p (List.mem_range.1 hp)
      exact (hrd _ _ h1 (by rw [hsz _ (List.getElem_mem h1)]; exact h2)).one
    · have hj' : j < sz' := by rw [← hsz _ (List.getElem_mem hk)]; exact hj
      have hp : k * sz' + j < es.length * sz' := by
        have := Nat.mul_le_mul_right sz' (show k + 1 ≤ es.length by omega)
        rw [Nat.add_mul] at this; omega
      have e1 : (k * sz' + j) / sz' = k := by rw [Nat.add_comm, Nat.add_mul_div_right _ _ hpos, Nat.div_eq_of_lt hj', Nat.zero_add]
      have e2 : (k * sz' + j) % sz' = j := by rw [Nat.add_comm, Nat.add_mul_mod_self_right, Nat.mod_eq_of_lt hj']
      refine ⟨V k j, F k j, ?_, hrd k j hk hj, fun r hr => List.mem_cons_of_mem _ (List.mem_flatMap.2 ⟨k, List.mem_range.2 hk, List.mem_flatMap.2 ⟨j, List.mem_range.2 hj', hr⟩⟩)⟩
      rw [List.getElem?_drop, hget _ hp, e1, e2]
/-- 'append(s, t...)' at an operation: s is being built, t reads as rows in memory that is not the outer row's. -/
theorem op_app_rows {P : Program} {T E : TypeId} {z0 : Value} {sz bytes : Nat} (hsl : P.underlying T = some (.slice E)) (hinf : (P.info? E).map (fun i => (i.zero, i.size, i.bytes)) = some (some z0, sz, bytes)) (hz0 : z0.cells.size = sz) (hpos : 0 < sz) (hby : bytes ≤ 1000)
    (w : World) {o : Oper} {a : Act} {K : Act → World → Prop} {Q : Exit → Act → World → Prop} (s x : Operand) (ho : o.op = .call { callee := .builtin .append, args := #[s, x], argTypes := #[T, T] }) (B : Nat) (v u : Value) (es es2 : List (List Dt)) (fp2 : List Nat)
    (hs : a.eval s = v) (hb : Bld E sz w B v es) (hx : a.eval x = u) (hr : Rd w (.l es2) u fp2) (hsz2 : ∀ e ∈ es2, e.length = sz) (hfp : ∀ r ∈ fp2, B ≤ r ∧ v.ownBlock ≠ some r) (hlen : es.length + es2.length ≤ 1048576) (hB : B ≤ w.heap.size)
    (h : ∀ v' w', Bld E sz w' B v' (es ++ es2) → w.grownBy w' v.ownBlock → (∀ g, v'.ownBlock = some g → v.ownBlock = some g ∨ w.heap.size ≤ g) → K (a.put o.dst v') w') : Oper.wp P o a w K Q := by
  obtain ⟨i, hi, hz, hsz, hbb⟩ := info_parts hinf
  obtain ⟨cs, hown, hc⟩ := hb.row
  have hcl : cs.length = es.length * sz := hown.1
  have run : ∃ v' w' vals, (Builtin.append_ #[T, T] o.type #[v, u]).run P w = .ok v' w' ∧ w'.ownsRow B E sz v' (es.length + es2.length) (cs ++ vals) ∧ w.grownBy w' v.ownBlock ∧ (v'.ownBlock = v.ownBlock ∨ v'.ownBlock = some w.heap.size) ∧
      ∀ k (hk : k < es2.length) j (hj : j < (es2[k]).length), ∃ c fp', (vals.drop (k * sz))[j]? = some c ∧ Rd w ((es2[k])[j]) c fp' ∧ ∀ r ∈ fp', r ∈ fp2 := by
    rcases hr.rows hsz2 hpos with ⟨rfl, rfl⟩ | ⟨ad, c, vals, rfl, hvl, hcells, hone, hrd⟩
    · exact ⟨v, w, [], run_append_owned_none (P := P) (w := w) B T o.type E i sz hsl hi v es.length _ hown, by simpa using hown, ⟨rfl, rfl, rfl, Nat.le_refl _, fun _ _ _ => rfl⟩, .inl rfl, fun k hk => by simp at hk⟩
    · obtain ⟨v', w', h1, h2, h3, _, h4⟩ := run_append_own_at (P := P) w B T o.type E i z0 sz bytes hsl hi hz hsz hbb hz0 hpos v es.length _ hown ad es2.length c vals hvl hcells hone (by unfold maxLen; omega) (by
        have := Nat.mul_le_mul hlen hby; omega) hB
      exact ⟨v', w', vals, h1, h2, h3, h4, hrd⟩
  obtain ⟨v', w', vals, hrun, h1, hg, h4, hrd⟩ := run
  unfold Oper.wp execOp
  simp only [ho, resolve, invoke, builtin, Sem.run_bind, Sem.run_pure, Result.andThen_ok, List.map_toArray, List.map_cons, List.map_nil, hs, hx, hrun]
  have hloc : ∀ g, v'.ownBlock = some g → v.ownBlock = some g ∨ w.heap.size ≤ g := fun g e => by
    rcases h4 with h4 | h4
    · exact .inl (by rw [← h4]; exact e)
    · rw [h4] at e; cases e; exact .inr (Nat.le_refl _)
  refine h v' w' ⟨?_, cs ++ vals, by rw [List.length_append]; exact h1, fun k hk => ?_⟩ hg hloc
  · intro d hd
    rcases List.mem_append.1 hd with hd | hd
    · exact hb.szs d hd
    · exact hsz2 d hd
  · by_cases hke : k < es.length
    · have hkk : (es ++ es2)[k] = es[k] := List.getElem_append_left hke
      rw [hkk]
      have hcr := (hc k hke).step (blk' := v'.ownBlock) hg (fun r e => .inr e) hloc
      intro j hj
      obtain ⟨c, fp, hcc, hrest⟩ := hcr j hj
      refine ⟨c, fp, ?_, hrest⟩
      rw [List.getElem?_drop] at hcc ⊢
      rw [List.getElem?_append_left (by obtain ⟨h, _⟩ := List.getElem?_eq_some_iff.1 hcc; exact h)]
      exact hcc
    · have hk2 : k - es.length < es2.length := by rw [List.length_append] at hk; omega
      have hkk : (es ++ es2)[k] = es2[k - es.length] := List.getElem_append_right (by omega)
      rw [hkk]
      intro j hj
      obtain ⟨c, fp', hcc, hr', hin⟩ := hrd (k - es.length) hk2 j hj
      refine ⟨c, fp', ?_, hr'.grown hg (fun r e hm => (hfp r (hin r hm)).2 e), fun r hm => ⟨(hfp r (hin r hm)).1, fun e => ?_⟩⟩
      · rw [List.getElem?_drop] at hcc ⊢
        have hge : cs.length ≤ k * sz + j := by
          rw [hcl]
          have := Nat.mul_le_mul_right sz (show es.length ≤ k by omega)
          omega
        rw [List.getElem?_append_right hge, hcl]
        have hq : k * sz + j - es.length * sz = (k - es.length) * sz + j := by
          rw [Nat.sub_mul]
          have := Nat.mul_le_mul_right sz (show es.length ≤ k by omega)
          omega
        rw [hq]; exact hcc
      · rcases hloc r e with e' | e'
        · exact (hfp r (hin r hm)).2 e'
        · have := hr'.lt r hm; omega

end Go.Proofs.Ythnbjdijcpcafaa

/- The draw of a graph that is seldom invalid: what is drawn reads as a graph in new memory; by a walk of its text; condition: at most 10^4 picks before. -/
namespace Go.Proofs.Ythnbjdijcpcafaa
open Go.RowKit

theorem members_geG {n : Nat} {ms : List Int} (h : membersB n ms = true) : ∀ k (hk : k < ms.length), (k : Int) ≤ ms[k] := by
  intro k
  induction k with
  | zero => intro hk; have := (okAt_bd hk (allB_upto h 0 hk)).1; omega
  | succ k ih =>
    intro hk
    have h1 := ih (by omega)
    have := (okAt_bd hk (allB_upto h (k + 1) hk)).2.2
    rcases this with h0 | h0
    · omega
    · rw [Nat.add_sub_cancel, getD_get (by omega)] at h0; omega
theorem members_lenG {n : Nat} {ms : List Int} (h : membersB n ms = true) : ms.length ≤ n := by
  rcases Nat.eq_zero_or_pos ms.length with h0 | h0
  · omega
  · have h1 := members_geG h (ms.length - 1) (by omega)
    have h2 := (membersB_at h (ms.length - 1) (by omega)).2
    omega
theorem gOk_ps {c : List Int} {g : List Vx} (h : GOk c g) : ∀ x ∈ g, x.ps.length ≤ c.length := fun x hx => by
  have := h.1 x hx
  unfold vtxB at this
  simp only [Bool.and_eq_true] at this
  exact members_lenG this.2.2.1
theorem ownR_gr {E Ei : TypeId} {sz : Nat} {w : World} {B hi : Nat} {v : Value} {g : List Vx} (h : OwnR E Ei sz w B hi v (g.map Vx.fd)) : ∃ fp, Gr w g v fp ∧ ∀ r ∈ fp, B ≤ r := by
  obtain ⟨fp, hr, hf⟩ := h.bld.rd
  exact ⟨fp, hr, hf⟩
theorem set_mem {g : List Vx} {k : Nat} {x : Vx} {m : Nat} (h : ∀ y ∈ g, y.ps.length ≤ m) (hx : x.ps.length ≤ m) : ∀ y ∈ g.set k x, y.ps.length ≤ m := fun y hy => by
  rcases List.mem_or_eq_of_mem_set hy with hy | rfl
  · exact h y hy
  · exact hx
section
variable {E Ei : TypeId} {w : World} {B hi gb n cap : Nat} {g : List Vx} {k : Nat}
theorem vx_cells (h : OwnR E Ei 4 w B hi (.slice (some ⟨gb, 0, none⟩) n cap) (g.map Vx.fd)) (hk : k < g.length) :
    w.cell? ⟨gb, k * 4, none⟩ = some (.int .i64 g[k].r) ∧ w.cell? ⟨gb, k * 4 + 1, none⟩ = some (.int .i64 g[k].a) ∧ (∃ pa pc, w.cell? ⟨gb, k * 4 + 2, none⟩ = some (.slice pa g[k].ps.length pc)) ∧ w.cell? ⟨gb, k * 4 + 3, none⟩ = some (.int .i64 g[k].d) ∧
    w.frozen? ⟨gb, k * 4, none⟩ = false ∧ w.frozen? ⟨gb, k * 4 + 1, none⟩ = false ∧ w.frozen? ⟨gb, k * 4 + 2, none⟩ = false ∧ w.frozen? ⟨gb, k * 4 + 3, none⟩ = false := by
  have hk' : k < (g.map Vx.fd).length := by simpa using hk
  have he : (g.map Vx.fd)[k] = g[k].fd := by simp
  have h0 := h.fieldI (k := k) (j := 0) hk' (by rw [he]; simp [Vx.fd]) (x := g[k].r) (by simp only [he]; rfl)
  have h1 := h.fieldI (k := k) (j := 1) hk' (by rw [he]; simp [Vx.fd]) (x := g[k].a) (by simp only [he]; rfl)
  obtain ⟨pa, pc, h2, _, f2, _⟩ := h.fieldL (k := k) (j := 2) hk' (by rw [he]; simp [Vx.fd]) (xs := g[k].ps) (by simp only [he]; rfl)
  have h3 := h.fieldI (k := k) (j := 3) hk' (by rw [he]; simp [Vx.fd]) (x := g[k].d) (by simp only [he]; rfl)
  exact ⟨h0.1, h1.1, ⟨pa, pc, h2⟩, h3.1, h0.2, h1.2, f2, h3.2⟩
theorem vx_setI (h : OwnR E Ei 4 w B hi (.slice (some ⟨gb, 0, none⟩) n cap) (g.map Vx.fd)) (hn : n = g.length) (hk : k < g.length) (j : Nat) (hj : j < 4) (z : Int) (x : Vx) (hx : (g[k].fd).set j (.i z) = x.fd) :
    OwnR E Ei 4 (w.setCell ⟨gb, k * 4 + j, none⟩ (.int .i64 z)) B hi (.slice (some ⟨gb, 0, none⟩) n cap) ((g.set k x).map Vx.fd) := by
  have := h.setI (by simpa using hn) (k := k) (j := j) (by simpa using hk) hj z
  rwa [List.getElem_map, hx, ← List.map_set] at this
theorem vx_setP {hi' : Nat} {u : Value} {ps : List Int} (h : OwnR E Ei 4 w B hi (.slice (some ⟨gb, 0, none⟩) n cap) (g.map Vx.fd)) (hn : n = g.length) (hk : k < g.length) (ho : Own Ei w B u ps) (hhi : hi ≤ hi') (hu : ∀ b, u.ownBlock = some b → hi ≤ b ∧ b < hi') :
    OwnR E Ei 4 (w.setCell ⟨gb, k * 4 + 2, none⟩ u) B hi' (.slice (some ⟨gb, 0, none⟩) n cap) ((g.set k ⟨g[k].r, g[k].a, ps, g[k].d⟩).map Vx.fd) := by
  have := h.setF (by simpa using hn) (k := k) (j := 2) (by simpa using hk) (by omega) (f := .l ps) (show FdOk Ei w B u (.l ps) from ho) hhi hu
  rwa [List.getElem_map, show (g[k].fd).set 2 (.l ps) = Vx.fd ⟨g[k].r, g[k].a, ps, g[k].d⟩ from rfl, ← List.map_set] at this
end

end Go.Proofs.Ythnbjdijcpcafaa

/- The draws of the graphs' laws: what is drawn reads as a graph in new memory; each by a walk of its text; condition: the code is shorter than 2^20. -/
namespace Go.Proofs.Ythnbjdijcpcafaa
open Go.RowKit

end Go.Proofs.Ythnbjdijcpcafaa
