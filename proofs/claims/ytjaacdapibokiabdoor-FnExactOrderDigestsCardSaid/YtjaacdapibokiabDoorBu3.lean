/- Texts that the laws of this folder share, one behind another; no conditions. -/
import Derived.Test.YtjaacdapibokiabDoorRows
import Derived.Test.YtjaacdapibokiabDoorBu2
import Derived.Test.YtjaacdapibokiabDoorBu1
import Derived.Deep.QuietTactic
import Derived.BigQuiet
import Derived.Test.YtjaacdapibokiabDoorBu0
import Derived.LaidEqlPtr

/- impl's linking of a list of vertices, by a walk of its text; conditions: lists are shorter than 2^40 (a graph: 2^20). -/
namespace Go.Proofs.YtjaacdapibokiabDoor
open Go.RowKit

/-- The vertex at place k may be added to those ahead of it. -/
def stepB (c : List Int) (g : List Vx) (k : Nat) : Bool := (k == 0 || befB (g.getD (k - 1) vx0) (g.getD k vx0)) && (vtxB c (g.getD k vx0) && parB (g.take k) (g.getD k vx0))
theorem hasP_iff {g : List Vx} {r : Int} {ps : List Int} {k : Nat} : hasP g r ps k = true ↔ ∃ y ∈ g, y.r = r - 1 ∧ y.a = ps.getD k 0 := by
  unfold hasP
  rw [decide_eq_true_iff]
  rcases findZ_cases g (r - 1) (ps.getD k 0) with ⟨e, hn⟩ | ⟨j, hj, e, hs, _⟩
  · rw [e]
    refine ⟨fun h => by omega, fun ⟨y, hy, er, ea⟩ => ?_⟩
    have := hn y hy
    unfold sameRA at this
    simp [er, ea] at this
  · rw [e]
    refine ⟨fun _ => ⟨g[j], List.getElem_mem hj, of_decide_eq_true hs⟩, fun _ => by omega⟩
theorem parB_iff {g : List Vx} {x : Vx} : parB g x = true ↔ ∀ p ∈ x.ps, ∃ y ∈ g, y.r = x.r - 1 ∧ y.a = p := by
  constructor
  · intro h p hp
    obtain ⟨k, hk, rfl⟩ := List.mem_iff_getElem.1 hp
    have := hasP_iff.1 (allB_upto h k hk)
    rwa [getD_get hk] at this
  · intro h
    refine allB_yes (k := x.ps.length) (fun k hk => hasP_iff.2 ?_) (Nat.le_refl _)
    rw [getD_get hk]
    exact h _ (List.getElem_mem hk)
theorem step_srt {c : List Int} {g : List Vx} : ∀ k, k ≤ g.length → Upto (stepB c g) k → Srt (g.take k) ∧ ∀ y ∈ g.take k, vtxB c y = true
  | 0, _, _ => ⟨by simp [Srt], by simp⟩
  | k + 1, hk, h => by
    obtain ⟨h1, h2⟩ := step_srt k (by omega) (fun j hj => h j (by omega))
    have hs := h k (by omega)
    unfold stepB at hs
    rw [getV (show k < g.length by omega)] at hs
    simp only [Bool.and_eq_true, Bool.or_eq_true, beq_iff_eq] at hs
    rw [List.take_succ_eq_append_getElem (show k < g.length by omega)]
    refine ⟨?_, ?_⟩
    · unfold Srt at *
      rw [List.pairwise_append]
      refine ⟨h1, by simp, fun a ha b hb => ?_⟩
      simp at hb; subst hb
      rcases hs.1 with e | e
      · subst e; simp at ha
      · rcases Nat.eq_zero_or_pos k with e0 | e0
        · subst e0; simp at ha
        · rw [getV (show k - 1 < g.length by omega)] at e
          obtain ⟨j, hj, rfl⟩ := List.mem_iff_getElem.1 ha
          rw [List.length_take] at hj
          rw [List.getElem_take]
          by_cases ej : j = k - 1
          · subst ej; exact e
          · have := (List.pairwise_iff_getElem.1 h1) j (k - 1) (by rw [List.length_take]; omega) (by rw [List.length_take]; omega) (by omega)
            rw [List.getElem_take, List.getElem_take] at this
            exact bef_trans this e
    · intro y hy
      rcases List.mem_append.1 hy with hy | hy
      · exact h2 y hy
      · simp at hy; subst hy; exact hs.2.1
theorem graph_step {c : List Int} {g : List Vx} : graphB c g = (validB c && allB (stepB c g) g.length) := by
  rw [Bool.eq_iff_iff]
  constructor
  · intro h
    have hs := graph_sorted h
    unfold graphB at h
    rw [Bool.and_eq_true] at h
    rw [Bool.and_eq_true]
    refine ⟨h.1, allB_yes (k := g.length) (fun k hk => ?_) (Nat.le_refl _)⟩
    have ho := allB_upto h.2 k hk
    unfold okV at ho
    unfold stepB
    simp only [Bool.and_eq_true] at ho ⊢
    refine ⟨ho.2.1, ho.1, parB_iff.2 fun p hp => ?_⟩
    obtain ⟨y, hy, er, ea⟩ := parB_iff.1 ho.2.2 p hp
    obtain ⟨j, hj, rfl⟩ := List.mem_iff_getElem.1 hy
    refine ⟨g[j], ?_, er, ea⟩
    rw [getV hk] at er
    have hjk : j < k := by
      rcases Nat.lt_trichotomy j k with h1 | h1 | h1
      · exact h1
      · subst h1; omega
      · have := befB_iff.1 ((List.pairwise_iff_getElem.1 hs) k j hk hj h1); omega
    exact List.mem_iff_getElem.2 ⟨j, by rw [List.length_take]; omega, by rw [List.getElem_take]⟩
  · intro h
    rw [Bool.and_eq_true] at h
    unfold graphB
    rw [Bool.and_eq_true]
    refine ⟨h.1, allB_yes (k := g.length) (fun k hk => ?_) (Nat.le_refl _)⟩
    have hs := allB_upto h.2 k hk
    unfold stepB at hs
    unfold okV
    simp only [Bool.and_eq_true] at hs ⊢
    refine ⟨hs.2.1, hs.1, parB_iff.2 fun p hp => ?_⟩
    obtain ⟨y, hy, er, ea⟩ := parB_iff.1 hs.2.2 p hp
    exact ⟨y, List.mem_of_mem_take hy, er, ea⟩
/-- What adding the next vertex answers, where it comes behind the one ahead of it. -/
theorem step_add {c : List Int} {g : List Vx} {k : Nat} (hk : k < g.length) (hu : Upto (stepB c g) k) (hb : k = 0 ∨ befB (g.getD (k - 1) vx0) g[k] = true) :
    (stepB c g k = true → adN c (g.take k) g[k] = 0 ∧ adG c (g.take k) g[k] = g.take (k + 1)) ∧ (stepB c g k = false → adN c (g.take k) g[k] ≠ 0) := by
  obtain ⟨h1, h2⟩ := step_srt k (by omega) hu
  have hall : ∀ y ∈ g.take k, befB y g[k] = true := by
    intro y hy
    rcases hb with e | e
    · subst e; simp at hy
    · rcases Nat.eq_zero_or_pos k with e0 | e0
      · subst e0; simp at hy
      · rw [getV (show k - 1 < g.length by omega)] at e
        obtain ⟨j, hj, rfl⟩ := List.mem_iff_getElem.1 hy
        rw [List.length_take] at hj
        rw [List.getElem_take]
        by_cases ej : j = k - 1
        · subst ej; exact e
        · have := (List.pairwise_iff_getElem.1 h1) j (k - 1) (by rw [List.length_take]; omega) (by rw [List.length_take]; omega) (by omega)
          rw [List.getElem_take, List.getElem_take] at this
          exact bef_trans this e
  have hno : ∀ y ∈ g.take k, ¬ (y.r = g[k].r ∧ y.a = g[k].a) := fun y hy e => by
    have := befB_iff.1 (hall y hy); omega
  have hs : stepB c g k = (vtxB c g[k] && parB (g.take k) g[k]) := by
    unfold stepB
    rw [getV hk]
    rcases hb with e | e
    · subst e; rfl
    · rw [e]; simp
  rw [hs]
  cases hv : vtxB c g[k] with
  | false => exact ⟨fun h => by simp at h, fun _ => by rw [(ad_not hv).1]; decide⟩
  | true =>
    obtain ⟨f1, f2⟩ := add_fresh hv hno
    refine ⟨fun h => ?_, fun h => ?_⟩
    · obtain ⟨e1, e2⟩ := f2 (by simpa using h)
      exact ⟨e1, by rw [e2, ins_last hall, List.take_succ_eq_append_getElem hk]⟩
    · rw [(f1 (by simpa using h)).1]; decide

def OfPost (w : World) (mv : Value) (c : List Int) (g : List Vx) : Ending → World → Prop := fun e w' => Below w.heap.size w w' ∧
  ((graphB c g = false ∧ e = .returned (.tuple #[.pointer none, .bool false])) ∨ (graphB c g = true ∧ ∃ G hi h, e = .returned (.tuple #[.pointer (some ⟨G, 0, none⟩), .bool true]) ∧ w.heap.size ≤ G ∧ Lk w w' hi G mv h g))
theorem of_no {w w' : World} {mv : Value} {c : List Int} {g : List Vx} {e : Ending} (h : graphB c g = false) (he : e = .returned (.tuple #[.pointer none, .bool false])) (hb : Below w.heap.size w w') : OfPost w mv c g e w' := ⟨hb, .inl ⟨h, he⟩⟩
theorem of_yes {w w' : World} {mv : Value} {c : List Int} {g : List Vx} {e : Ending} {G hi : Nat} {h : Nat → Value} (hg : graphB c g = true) (he : e = .returned (.tuple #[.pointer (some ⟨G, 0, none⟩), .bool true])) (hb : Below w.heap.size w w') (hG : w.heap.size ≤ G) (hl : Lk w w' hi G mv h g) : OfPost w mv c g e w' :=
  ⟨hb, .inr ⟨hg, G, hi, h, he, hG, hl⟩⟩
set_option maxRecDepth 8000 in
set_option maxHeartbeats 4000000 in
theorem impl_graphOf (ac : Option Addr) (capc : Nat) (c : List Int) (g : List Vx) (v : Value) (fp : List Nat) (w : World) (hn : c.length ≤ 1099511627776) (hbig : g.length ≤ 1048576) (hps : ∀ x ∈ g, x.ps.length ≤ 1099511627776) (hc : IntsAt w ac c) (hg : Gr w g v fp) :
    Calls Tryd.prog 45 #[.slice ac c.length capc, v] w (OfPost w (.slice ac c.length capc) c g) := by
  obtain ⟨va, vc, rfl⟩ := hg.slice
  have Hcv := Lib.hid (impl_CommitteeValid ac capc c w hn hc)
  cases hv : validB c with
  | false =>
    have hz : graphB c g = false := by unfold graphB; rw [hv]; rfl
    rw [hv] at Hcv
    have Hz := Lib.hid hz; clear hz hc hg hps
    go_enter Tryd.func45, Tryd.ntmps45
    go_wp2_with fail
    refine Hcv.out.mono ?_
    rintro e w1 ⟨rfl, rfl⟩
    go_wp2
    go_ret2
    exact of_no Hz.out rfl (Below.refl _ _)
  | true =>
  rw [hv] at Hcv
  have Hres := Lib.hid (show graphB c g = allB (stepB c g) g.length by rw [graph_step, hv]; rfl)
  have hA : Tryd.zeroCells91.setIfInBounds 0 (.slice ac c.length capc) = arrP 218 fun i => if i = 0 then .slice ac c.length capc else .pointer none := by kernel_rfl
  have hb0 : Below w.heap.size w (w.alloc (.cells (Tryd.zeroCells91.setIfInBounds 0 (.slice ac c.length capc)) 91)) := (Below.refl _ _).alloc (Nat.le_refl _) _
  have hL0 : Lk w (w.alloc (.cells (Tryd.zeroCells91.setIfInBounds 0 (.slice ac c.length capc)) 91)) (w.heap.size + 1) w.heap.size (.slice ac c.length capc) (fun i => if i = 0 then .slice ac c.length capc else .pointer none) [] :=
    Lk.new (by rw [hA]; exact Str.new w 91 _) (Nat.le_refl _) (by omega) (by simp)
  clear hA
  have HL0 := Lib.hid hL0; clear hL0
  have HP := Lib.hid hps; clear hps
  have Hc := Lib.hid hc; clear hc
  have Hg := Lib.hid hg; clear hg
  have Hb0 := Lib.hid hb0; clear hb0
  go_enter Tryd.func45, Tryd.ntmps45
  go_wp2_with fail
  refine Hcv.out.mono ?_
  rintro e w1 ⟨rfl, rfl⟩
  go_wp2_with fail
  go_loopw [17] (fun i wr => ∃ (k hi : Nat) (h : Nat → Value), k ≤ g.length ∧ i = .int .i64 k ∧ Upto (stepB c g) k ∧ Lk w wr hi w.heap.size (.slice ac c.length capc) h (g.take k) ∧ Below w.heap.size w wr) (fun i _ => g.length - (intOf i).toNat)
  case atStart => exact ⟨0, _, _, by omega, rfl, upto_zero _, HL0.out, Hb0.out⟩
  case round =>
    obtain ⟨k, hi, h, hk, rfl, hup, hL, hbel⟩ := hrel
    have HL := Lib.hid hL; clear hL
    have Hbel := Lib.hid hbel; clear hbel
    have Hup := Lib.hid hup; clear hup
    by_cases hlt : k < g.length
    · obtain ⟨b, off, rfl, hb, hat⟩ := Hg.out.at (by omega)
      obtain ⟨c0, c1, ⟨pa, pc, c2, i2, s2⟩, c3⟩ := hat k hlt
      have hpx := HP.out _ (List.getElem_mem hlt)
      have c0 := (Hbel.out.cell (p := ⟨b, off + k * 4, none⟩) hb).trans c0
      have c1 := (Hbel.out.cell (p := ⟨b, off + k * 4 + 1, none⟩) hb).trans c1
      have c2 := (Hbel.out.cell (p := ⟨b, off + k * 4 + 2, none⟩) hb).trans c2
      have c3 := (Hbel.out.cell (p := ⟨b, off + k * 4 + 3, none⟩) hb).trans c3
      have Hat := Lib.hid hat; clear hat
      have HSA := Lib.hid (step_add hlt Hup.out)
      have hbA : Below wr.heap.size wr (wr.alloc (.cells #[.int .i64 g[k].r, .int .i64 g[k].a, .slice pa g[k].ps.length pc, .int .i64 g[k].d] 44)) := (Below.refl _ _).alloc (Nat.le_refl _) _
      have s0 := Str.new wr 44 #[.int .i64 g[k].r, .int .i64 g[k].a, .slice pa g[k].ps.length pc, .int .i64 g[k].d]
      have k0 := s0.cell 0 (v := .int .i64 g[k].r) rfl
      have k1 := s0.cell 1 (v := .int .i64 g[k].a) rfl
      have k2 := s0.cell 2 (v := .slice pa g[k].ps.length pc) rfl
      have k3 := s0.cell 3 (v := .int .i64 g[k].d) rfl
      have hbwA := below_step Hbel.out Hbel.out.size hbA
      have hsr := step_srt k (by omega) Hup.out
      have hgpt : ∀ y ∈ g.take k, y.ps.length ≤ 1099511627776 := fun y hy => HP.out y (List.mem_of_mem_take hy)
      have HAdd := Lib.hid (fun W (hW : Below (wr.alloc (.cells #[.int .i64 g[k].r, .int .i64 g[k].a, .slice pa g[k].ps.length pc, .int .i64 g[k].d] 44)).heap.size (wr.alloc (.cells #[.int .i64 g[k].r, .int .i64 g[k].a, .slice pa g[k].ps.length pc, .int .i64 g[k].d] 44)) W) =>
        graph_add w W hi w.heap.size ac capc c h (g.take k) g[k] pa pc hv hpx hgpt s2 i2 Hc.out (below_step hbwA hbwA.size hW) ((HL.out.under hbA).under hW) hsr.1 hsr.2)
      have hltB : b < (wr.alloc (.cells #[.int .i64 g[k].r, .int .i64 g[k].a, .slice pa g[k].ps.length pc, .int .i64 g[k].d] 44)).heap.size := Nat.lt_of_lt_of_le hb hbwA.size
      have hlwB : w.heap.size < wr.heap.size := Nat.lt_of_lt_of_le HL.out.lt HL.out.le
      have hwrB : wr.heap.size < (wr.alloc (.cells #[.int .i64 g[k].r, .int .i64 g[k].a, .slice pa g[k].ps.length pc, .int .i64 g[k].d] 44)).heap.size := by simp
      have Hg1 := Lib.hid (show ∀ j, j < g.length → (wr.alloc (.cells #[.int .i64 g[k].r, .int .i64 g[k].a, .slice pa g[k].ps.length pc, .int .i64 g[k].d] 44)).cell? ⟨b, off + j * 4, none⟩ = some (.int .i64 (g.getD j vx0).r) ∧ (wr.alloc (.cells #[.int .i64 g[k].r, .int .i64 g[k].a, .slice pa g[k].ps.length pc, .int .i64 g[k].d] 44)).cell? ⟨b, off + j * 4 + 1, none⟩ = some (.int .i64 (g.getD j vx0).a) ∧ ∃ pa' pc', (wr.alloc (.cells #[.int .i64 g[k].r, .int .i64 g[k].a, .slice pa g[k].ps.length pc, .int .i64 g[k].d] 44)).cell? ⟨b, off + j * 4 + 2, none⟩ = some (.slice pa' (g.getD j vx0).ps.length pc') ∧ (wr.alloc (.cells #[.int .i64 g[k].r, .int .i64 g[k].a, .slice pa g[k].ps.length pc, .int .i64 g[k].d] 44)).cell? ⟨b, off + j * 4 + 3, none⟩ = some (.int .i64 (g.getD j vx0).d) from fun j hj => by
        obtain ⟨d0, d1, ⟨pa', pc', d2, _⟩, d3⟩ := Hat.out j hj
        rw [getV hj]
        exact ⟨(hbwA.cell (p := ⟨b, off + j * 4, none⟩) hb).trans d0, (hbwA.cell (p := ⟨b, off + j * 4 + 1, none⟩) hb).trans d1, pa', pc', (hbwA.cell (p := ⟨b, off + j * 4 + 2, none⟩) hb).trans d2, (hbwA.cell (p := ⟨b, off + j * 4 + 3, none⟩) hb).trans d3⟩)
      have HbwA := Lib.hid hbwA
      have hgk := getV hlt
      have Hgk := Lib.hid hgk
      clear hbA s0 hbwA hsr hgpt i2 s2 hpx Hat hgk HL
      generalize hx : g[k] = x at *
      have Hx := Lib.hid hx; clear hx
      obtain ⟨xr, xa, xp, xd⟩ := x
      dsimp only at *
      go_wp2_with fail
      generalize wr.alloc (.cells #[.int .i64 xr, .int .i64 xa, .slice pa xp.length pc, .int .i64 xd] 44) = wB at *
      clear c0 c1 c2 c3
      have hw1 : IntKind.i64.wrap ((k : Int) - 1) = k - 1 := IntWalk.i64_in _ (by omega)
      by_cases h0 : k = 0
      · have hgt : decide ((0 : Int) < (k : Int)) = false := decide_eq_false (by omega)
        have hgt' : ¬ (0 : Int) < (k : Int) := by omega
        have HS2 := Lib.hid (HSA.out (.inl h0))
        have H0 := Lib.hid h0; clear h0 hw1 HSA
        cases hst : stepB c g k with
        | false =>
          have Hne := Lib.hid (HS2.out.2 hst)
          have Hz := Lib.hid (allB_no hlt hst)
          refine wp_region_held_drew (S := fun w' => wB.grownBy w' (some w.heap.size) ∧ w'.cell? ⟨wr.heap.size, 0, none⟩ = some (.int .i64 xr) ∧ w'.cell? ⟨wr.heap.size, 1, none⟩ = some (.int .i64 xa) ∧ w'.cell? ⟨wr.heap.size, 2, none⟩ = some (.slice pa xp.length pc) ∧ w'.cell? ⟨wr.heap.size, 3, none⟩ = some (.int .i64 xd)) (by kernel_rfl) ⟨below_rowP (Below.refl _ _).drew _, k0, k1, k2, k3⟩ (fun hH => ?_)
          refine takeH 0 (v := ?va0) rfl (by kernel_rfl) (by kernel_rfl) (by kernel_rfl) (fun _ _ _ h => h) hH rfl ?ya0 ?ra0
          case ya0 => intro W hSw; go_simp; try with_reducible rfl
          try simp only [Act.put, List.setIfInBounds_toArray, List.set_cons_zero, List.set_cons_succ]
          refine takeH 1 (v := .bool false) rfl (by kernel_rfl) (by kernel_rfl) (by kernel_rfl) (fun _ _ _ h => h) hH rfl ?ya1 ?ra1
          case ya1 => intro W hSw; go_simp; first | done | simp only [hgt] | omega | (simp; omega)
          try simp only [Act.put, List.setIfInBounds_toArray, List.set_cons_zero, List.set_cons_succ]
          refine takeH 2 (v := ?va2) rfl (by kernel_rfl) (by kernel_rfl) (by kernel_rfl) (fun _ _ _ h => h) hH rfl ?ya2 ?ra2
          case ya2 => intro W hSw; go_simp; try with_reducible rfl
          try simp only [Act.put, List.setIfInBounds_toArray, List.set_cons_zero, List.set_cons_succ]
          refine skipH 3 rfl (by kernel_rfl) (by kernel_rfl) (by kernel_rfl) (fun _ _ _ h => h) hH rfl ?_
          try simp only [Act.put, List.setIfInBounds_toArray, List.set_cons_zero, List.set_cons_succ]
          refine skipH 4 rfl (by kernel_rfl) (by kernel_rfl) (by kernel_rfl) (fun _ _ _ h => h) hH rfl ?_
          try simp only [Act.put, List.setIfInBounds_toArray, List.set_cons_zero, List.set_cons_succ]
          refine skipH 5 rfl (by kernel_rfl) (by kernel_rfl) (by kernel_rfl) (fun _ _ _ h => h) hH rfl ?_
          try simp only [Act.put, List.setIfInBounds_toArray, List.set_cons_zero, List.set_cons_succ]
          refine skipH 6 rfl (by kernel_rfl) (by kernel_rfl) (by kernel_rfl) (fun _ _ _ h => h) hH rfl ?_
          try simp only [Act.put, List.setIfInBounds_toArray, List.set_cons_zero, List.set_cons_succ]
          refine skipH 7 rfl (by kernel_rfl) (by kernel_rfl) (by kernel_rfl) (fun _ _ _ h => h) hH rfl ?_
          try simp only [Act.put, List.setIfInBounds_toArray, List.set_cons_zero, List.set_cons_succ]
          refine skipH 8 rfl (by kernel_rfl) (by kernel_rfl) (by kernel_rfl) (fun _ _ _ h => h) hH rfl ?_
          try simp only [Act.put, List.setIfInBounds_toArray, List.set_cons_zero, List.set_cons_succ]
          refine skipH 9 rfl (by kernel_rfl) (by kernel_rfl) (by kernel_rfl) (fun _ _ _ h => h) hH rfl ?_
          try simp only [Act.put, List.setIfInBounds_toArray, List.set_cons_zero, List.set_cons_succ]
          refine skipH 10 rfl (by kernel_rfl) (by kernel_rfl) (by kernel_rfl) (fun _ _ _ h => h) hH rfl ?_
          try simp only [Act.put, List.setIfInBounds_toArray, List.set_cons_zero, List.set_cons_succ]
          refine takeH 11 (v := ?va11) rfl (by kernel_rfl) (by kernel_rfl) (by kernel_rfl) (fun _ _ _ h => h) hH rfl ?ya11 ?ra11
          case ya11 => intro W hSw; go_simp; try with_reducible rfl
          try simp only [Act.put, List.setIfInBounds_toArray, List.set_cons_zero, List.set_cons_succ]
          refine takeH 12 (v := ?va12) rfl (by kernel_rfl) (by kernel_rfl) (by kernel_rfl) (fun _ _ _ h => h) hH rfl ?ya12 ?ra12
          case ya12 => intro W hSw; go_simp; try with_reducible rfl
          try simp only [Act.put, List.setIfInBounds_toArray, List.set_cons_zero, List.set_cons_succ]
          refine takeH 13 (v := ?va13) rfl (by kernel_rfl) (by kernel_rfl) (by kernel_rfl) (fun _ _ _ h => h) hH rfl ?ya13 ?ra13
          case ya13 => intro W hSw; go_simp; try with_reducible rfl
          try simp only [Act.put, List.setIfInBounds_toArray, List.set_cons_zero, List.set_cons_succ]
          refine takeH 14 (v := ?va14) rfl (by kernel_rfl) (by kernel_rfl) (by kernel_rfl) (fun _ _ _ h => h) hH rfl ?ya14 ?ra14
          case ya14 => intro W hSw; go_simp; try with_reducible rfl
          try simp only [Act.put, List.setIfInBounds_toArray, List.set_cons_zero, List.set_cons_succ]
          refine callH 15 rfl (by kernel_rfl) rfl (fun K hK => ?_)
          go_simp
          go_at_call 60
          refine (HAdd.out _ ((Below.refl _ _).drew)).mono ?_
          rintro e wz ⟨rfl, hgz, _⟩
          generalize hm : adN c (g.take k) ⟨xr, xa, xp, xd⟩ = m at *
          have hm' : (m != 0) = true := by simpa using Hne.out
          clear hm
          refine hK.out _ _ ⟨grownBy_trans hH.1 (hgz), (hgz).cell hH.2.1 (by simp only [ne_eq, Option.some.injEq]; omega), (hgz).cell hH.2.2.1 (by simp only [ne_eq, Option.some.injEq]; omega), (hgz).cell hH.2.2.2.1 (by simp only [ne_eq, Option.some.injEq]; omega), (hgz).cell hH.2.2.2.2 (by simp only [ne_eq, Option.some.injEq]; omega)⟩ (fun hH => ?_)
          clear hK K
          try simp only [Act.put, List.setIfInBounds_toArray, List.set_cons_zero, List.set_cons_succ]
          refine takeH 16 (v := ?va16) rfl (by kernel_rfl) (by kernel_rfl) (by kernel_rfl) (fun _ _ _ h => h) hH rfl ?ya16 ?ra16
          case ya16 => intro W hSw; go_simp; try with_reducible rfl
          try simp only [Act.put, List.setIfInBounds_toArray, List.set_cons_zero, List.set_cons_succ]
          refine takeH 17 (v := ?va17) rfl (by kernel_rfl) (by kernel_rfl) (by kernel_rfl) (fun _ _ _ h => h) hH rfl ?ya17 ?ra17
          case ya17 => intro W hSw; go_simp; try with_reducible rfl
          try simp only [Act.put, List.setIfInBounds_toArray, List.set_cons_zero, List.set_cons_succ]
          refine wpAnyH_done (by kernel_rfl) ?_ _
          try simp only [Act.put]
          have Hend := Lib.hid (HbwA.out.grown hH.1 HbwA.out.size (fun g e => by cases e; exact Nat.le_refl _))
          go_wp2
          go_ret2
          exact of_no (by rw [Hres.out, Hz.out]) rfl Hend.out
        | true =>
          obtain ⟨hz1, hz2⟩ := HS2.out.1 hst
          have Hz1 := Lib.hid hz1
          have Hz2 := Lib.hid hz2
          have Hup1 := Lib.hid (upto_step Hup.out hst)
          clear hz1 hz2
          refine wp_region_held_drew (S := fun w' => wB.grownBy w' (some w.heap.size) ∧ w'.cell? ⟨wr.heap.size, 0, none⟩ = some (.int .i64 xr) ∧ w'.cell? ⟨wr.heap.size, 1, none⟩ = some (.int .i64 xa) ∧ w'.cell? ⟨wr.heap.size, 2, none⟩ = some (.slice pa xp.length pc) ∧ w'.cell? ⟨wr.heap.size, 3, none⟩ = some (.int .i64 xd)) (by kernel_rfl) ⟨below_rowP (Below.refl _ _).drew _, k0, k1, k2, k3⟩ (fun hH => ?_)
          refine takeH 0 (v := ?vb0) rfl (by kernel_rfl) (by kernel_rfl) (by kernel_rfl) (fun _ _ _ h => h) hH rfl ?yb0 ?rb0
          case yb0 => intro W hSw; go_simp; try with_reducible rfl
          try simp only [Act.put, List.setIfInBounds_toArray, List.set_cons_zero, List.set_cons_succ]
          refine takeH 1 (v := .bool false) rfl (by kernel_rfl) (by kernel_rfl) (by kernel_rfl) (fun _ _ _ h => h) hH rfl ?yb1 ?rb1
          case yb1 => intro W hSw; go_simp; first | done | simp only [hgt] | omega | (simp; omega)
          try simp only [Act.put, List.setIfInBounds_toArray, List.set_cons_zero, List.set_cons_succ]
          refine takeH 2 (v := ?vb2) rfl (by kernel_rfl) (by kernel_rfl) (by kernel_rfl) (fun _ _ _ h => h) hH rfl ?yb2 ?rb2
          case yb2 => intro W hSw; go_simp; try with_reducible rfl
          try simp only [Act.put, List.setIfInBounds_toArray, List.set_cons_zero, List.set_cons_succ]
          refine skipH 3 rfl (by kernel_rfl) (by kernel_rfl) (by kernel_rfl) (fun _ _ _ h => h) hH rfl ?_
          try simp only [Act.put, List.setIfInBounds_toArray, List.set_cons_zero, List.set_cons_succ]
          refine skipH 4 rfl (by kernel_rfl) (by kernel_rfl) (by kernel_rfl) (fun _ _ _ h => h) hH rfl ?_
          try simp only [Act.put, List.setIfInBounds_toArray, List.set_cons_zero, List.set_cons_succ]
          refine skipH 5 rfl (by kernel_rfl) (by kernel_rfl) (by kernel_rfl) (fun _ _ _ h => h) hH rfl ?_
          try simp only [Act.put, List.setIfInBounds_toArray, List.set_cons_zero, List.set_cons_succ]
          refine skipH 6 rfl (by kernel_rfl) (by kernel_rfl) (by kernel_rfl) (fun _ _ _ h => h) hH rfl ?_
          try simp only [Act.put, List.setIfInBounds_toArray, List.set_cons_zero, List.set_cons_succ]
          refine skipH 7 rfl (by kernel_rfl) (by kernel_rfl) (by kernel_rfl) (fun _ _ _ h => h) hH rfl ?_
          try simp only [Act.put, List.setIfInBounds_toArray, List.set_cons_zero, List.set_cons_succ]
          refine skipH 8 rfl (by kernel_rfl) (by kernel_rfl) (by kernel_rfl) (fun _ _ _ h => h) hH rfl ?_
          try simp only [Act.put, List.setIfInBounds_toArray, List.set_cons_zero, List.set_cons_succ]
          refine skipH 9 rfl (by kernel_rfl) (by kernel_rfl) (by kernel_rfl) (fun _ _ _ h => h) hH rfl ?_
          try simp only [Act.put, List.setIfInBounds_toArray, List.set_cons_zero, List.set_cons_succ]
          refine skipH 10 rfl (by kernel_rfl) (by kernel_rfl) (by kernel_rfl) (fun _ _ _ h => h) hH rfl ?_
          try simp only [Act.put, List.setIfInBounds_toArray, List.set_cons_zero, List.set_cons_succ]
          refine takeH 11 (v := ?vb11) rfl (by kernel_rfl) (by kernel_rfl) (by kernel_rfl) (fun _ _ _ h => h) hH rfl ?yb11 ?rb11
          case yb11 => intro W hSw; go_simp; try with_reducible rfl
          try simp only [Act.put, List.setIfInBounds_toArray, List.set_cons_zero, List.set_cons_succ]
          refine takeH 12 (v := ?vb12) rfl (by kernel_rfl) (by kernel_rfl) (by kernel_rfl) (fun _ _ _ h => h) hH rfl ?yb12 ?rb12
          case yb12 => intro W hSw; go_simp; try with_reducible rfl
          try simp only [Act.put, List.setIfInBounds_toArray, List.set_cons_zero, List.set_cons_succ]
          refine takeH 13 (v := ?vb13) rfl (by kernel_rfl) (by kernel_rfl) (by kernel_rfl) (fun _ _ _ h => h) hH rfl ?yb13 ?rb13
          case yb13 => intro W hSw; go_simp; try with_reducible rfl
          try simp only [Act.put, List.setIfInBounds_toArray, List.set_cons_zero, List.set_cons_succ]
          refine takeH 14 (v := ?vb14) rfl (by kernel_rfl) (by kernel_rfl) (by kernel_rfl) (fun _ _ _ h => h) hH rfl ?yb14 ?rb14
          case yb14 => intro W hSw; go_simp; try with_reducible rfl
          try simp only [Act.put, List.setIfInBounds_toArray, List.set_cons_zero, List.set_cons_succ]
          refine callH 15 rfl (by kernel_rfl) rfl (fun K hK => ?_)
          go_simp
          go_at_call 60
          refine (HAdd.out _ ((Below.refl _ _).drew)).mono ?_
          rintro e wz ⟨rfl, hgz, hi2, h2, hl2⟩
          rw [Hz1.out]
          rw [Hz2.out] at hl2
          have Hadd := Lib.hid hl2
          clear hl2
          refine hK.out _ _ ⟨grownBy_trans hH.1 (hgz), (hgz).cell hH.2.1 (by simp only [ne_eq, Option.some.injEq]; omega), (hgz).cell hH.2.2.1 (by simp only [ne_eq, Option.some.injEq]; omega), (hgz).cell hH.2.2.2.1 (by simp only [ne_eq, Option.some.injEq]; omega), (hgz).cell hH.2.2.2.2 (by simp only [ne_eq, Option.some.injEq]; omega)⟩ (fun hH => ?_)
          clear hK K
          try simp only [Act.put, List.setIfInBounds_toArray, List.set_cons_zero, List.set_cons_succ]
          refine takeH 16 (v := ?vb16) rfl (by kernel_rfl) (by kernel_rfl) (by kernel_rfl) (fun _ _ _ h => h) hH rfl ?yb16 ?rb16
          case yb16 => intro W hSw; go_simp; try with_reducible rfl
          try simp only [Act.put, List.setIfInBounds_toArray, List.set_cons_zero, List.set_cons_succ]
          refine takeH 17 (v := ?vb17) rfl (by kernel_rfl) (by kernel_rfl) (by kernel_rfl) (fun _ _ _ h => h) hH rfl ?yb17 ?rb17
          case yb17 => intro W hSw; go_simp; try with_reducible rfl
          try simp only [Act.put, List.setIfInBounds_toArray, List.set_cons_zero, List.set_cons_succ]
          refine wpAnyH_done (by kernel_rfl) ?_ _
          try simp only [Act.put]
          have Hend := Lib.hid (HbwA.out.grown hH.1 HbwA.out.size (fun g e => by cases e; exact Nat.le_refl _))
          go_wp2
          go_roundw
          case rel => exact ⟨k + 1, _, _, by omega, by go_num, Hup1.out, Hadd.out, Hend.out⟩
          case measure => simp [intOf]; omega
      · have hgt : decide ((0 : Int) < (k : Int)) = true := decide_eq_true (by omega)
        have hgt' : (0 : Int) < (k : Int) := by omega
        obtain ⟨d0, d1, pa', pc', d2, d3⟩ := Hg1.out (k - 1) (by omega)
        have Hk0 := Lib.hid (show (k == 0) = false by simpa using h0)
        have Hst := Lib.hid (show befB (g.getD (k - 1) vx0) ⟨xr, xa, xp, xd⟩ = false → stepB c g k = false from fun h => by unfold stepB; rw [Hk0.out, Hgk.out, h]; rfl)
        have HS2 := Lib.hid (fun h => HSA.out (.inr h))
        clear Hg1 HSA
        generalize hy : g.getD (k - 1) vx0 = y at *
        have Hy := Lib.hid hy; clear hy
        obtain ⟨yr, ya, yp, yd⟩ := y
        dsimp only at *
        have HB := Lib.hid (vertex_isBefore ⟨yr, ya, yp, yd⟩ ⟨xr, xa, xp, xd⟩ pa' pa pc' pc)
        have e3 : ((k : Int) - 1).toNat = k - 1 := by omega
        have e4 : 0 ≤ (k : Int) - 1 := by omega
        have e5 : 1 ≤ (k : Int) := by omega
        have e6 : (k : Int) - 1 < g.length := by omega
        cases h2 : befB ⟨yr, ya, yp, yd⟩ ⟨xr, xa, xp, xd⟩ with
        | false =>
          rw [h2] at HB
          have Hz := Lib.hid (allB_no hlt (Hst.out h2))
          refine wp_region_held_drew (S := fun w' => wB.grownBy w' (some w.heap.size) ∧ w'.cell? ⟨wr.heap.size, 0, none⟩ = some (.int .i64 xr) ∧ w'.cell? ⟨wr.heap.size, 1, none⟩ = some (.int .i64 xa) ∧ w'.cell? ⟨wr.heap.size, 2, none⟩ = some (.slice pa xp.length pc) ∧ w'.cell? ⟨wr.heap.size, 3, none⟩ = some (.int .i64 xd) ∧ w'.cell? ⟨b, off + (k - 1) * 4, none⟩ = some (.int .i64 yr) ∧ w'.cell? ⟨b, off + (k - 1) * 4 + 1, none⟩ = some (.int .i64 ya) ∧ w'.cell? ⟨b, off + (k - 1) * 4 + 2, none⟩ = some (.slice pa' yp.length pc') ∧ w'.cell? ⟨b, off + (k - 1) * 4 + 3, none⟩ = some (.int .i64 yd)) (by kernel_rfl) ⟨below_rowP (Below.refl _ _).drew _, k0, k1, k2, k3, d0, d1, d2, d3⟩ (fun hH => ?_)
          refine takeH 0 (v := ?vd0) rfl (by kernel_rfl) (by kernel_rfl) (by kernel_rfl) (fun _ _ _ h => h) hH rfl ?yd0 ?rd0
          case yd0 => intro W hSw; go_simp; try with_reducible rfl
          try simp only [Act.put, List.setIfInBounds_toArray, List.set_cons_zero, List.set_cons_succ]
          refine takeH 1 (v := .bool true) rfl (by kernel_rfl) (by kernel_rfl) (by kernel_rfl) (fun _ _ _ h => h) hH rfl ?yd1 ?rd1
          case yd1 => intro W hSw; go_simp; first | done | simp only [hgt] | omega | (simp; omega)
          try simp only [Act.put, List.setIfInBounds_toArray, List.set_cons_zero, List.set_cons_succ]
          refine takeH 2 (v := ?vd2) rfl (by kernel_rfl) (by kernel_rfl) (by kernel_rfl) (fun _ _ _ h => h) hH rfl ?yd2 ?rd2
          case yd2 => intro W hSw; go_simp; try with_reducible rfl
          try simp only [Act.put, List.setIfInBounds_toArray, List.set_cons_zero, List.set_cons_succ]
          refine takeH 3 (v := ?vd3) rfl (by kernel_rfl) (by kernel_rfl) (by kernel_rfl) (fun _ _ _ h => h) hH rfl ?yd3 ?rd3
          case yd3 => intro W hSw; go_simp; try with_reducible rfl
          try simp only [Act.put, List.setIfInBounds_toArray, List.set_cons_zero, List.set_cons_succ]
          refine takeH 4 (v := ?vd4) rfl (by kernel_rfl) (by kernel_rfl) (by kernel_rfl) (fun _ _ _ h => h) hH rfl ?yd4 ?rd4
          case yd4 => intro W hSw; go_simp; try with_reducible rfl
          try simp only [Act.put, List.setIfInBounds_toArray, List.set_cons_zero, List.set_cons_succ]
          refine takeH 5 (v := ?vd5) rfl (by kernel_rfl) (by kernel_rfl) (by kernel_rfl) (fun _ _ _ h => h) hH rfl ?yd5 ?rd5
          case yd5 => intro W hSw; go_simp; try with_reducible rfl
          try simp only [Act.put, List.setIfInBounds_toArray, List.set_cons_zero, List.set_cons_succ]
          refine takeH 6 (v := ?vd6) rfl (by kernel_rfl) (by kernel_rfl) (by kernel_rfl) (fun _ _ _ h => h) hH rfl ?yd6 ?rd6
          case yd6 => intro W hSw; go_simp; try with_reducible rfl
          try simp only [Act.put, List.setIfInBounds_toArray, List.set_cons_zero, List.set_cons_succ]
          refine takeH 7 (v := ?vd7) rfl (by kernel_rfl) (by kernel_rfl) (by kernel_rfl) (fun _ _ _ h => h) hH rfl ?yd7 ?rd7
          case yd7 => intro W hSw; go_simp; try with_reducible rfl
          try simp only [Act.put, List.setIfInBounds_toArray, List.set_cons_zero, List.set_cons_succ]
          refine takeH 8 (v := ?vd8) rfl (by kernel_rfl) (by kernel_rfl) (by kernel_rfl) (fun _ _ _ h => h) hH rfl ?yd8 ?rd8
          case yd8 => intro W hSw; go_simp; try with_reducible rfl
          try simp only [Act.put, List.setIfInBounds_toArray, List.set_cons_zero, List.set_cons_succ]
          refine callH 9 rfl (by kernel_rfl) rfl (fun K hK => ?_)
          go_simp
          go_at_call 59
          refine (HB.out _).mono ?_
          rintro e wx ⟨rfl, hbx⟩
          refine hK.out _ _ ⟨grownBy_trans hH.1 (below_rowP hbx (some w.heap.size)), (below_rowP hbx (some w.heap.size)).cell hH.2.1 (by simp only [ne_eq, Option.some.injEq]; omega), (below_rowP hbx (some w.heap.size)).cell hH.2.2.1 (by simp only [ne_eq, Option.some.injEq]; omega), (below_rowP hbx (some w.heap.size)).cell hH.2.2.2.1 (by simp only [ne_eq, Option.some.injEq]; omega), (below_rowP hbx (some w.heap.size)).cell hH.2.2.2.2.1 (by simp only [ne_eq, Option.some.injEq]; omega), (below_rowP hbx (some w.heap.size)).cell hH.2.2.2.2.2.1 (by simp only [ne_eq, Option.some.injEq]; omega), (below_rowP hbx (some w.heap.size)).cell hH.2.2.2.2.2.2.1 (by simp only [ne_eq, Option.some.injEq]; omega), (below_rowP hbx (some w.heap.size)).cell hH.2.2.2.2.2.2.2.1 (by simp only [ne_eq, Option.some.injEq]; omega), (below_rowP hbx (some w.heap.size)).cell hH.2.2.2.2.2.2.2.2 (by simp only [ne_eq, Option.some.injEq]; omega)⟩ (fun hH => ?_)
          clear hK K
          try simp only [Act.put, List.setIfInBounds_toArray, List.set_cons_zero, List.set_cons_succ]
          refine takeH 10 (v := ?vd10) rfl (by kernel_rfl) (by kernel_rfl) (by kernel_rfl) (fun _ _ _ h => h) hH rfl ?yd10 ?rd10
          case yd10 => intro W hSw; go_simp; try with_reducible rfl
          try simp only [Act.put, List.setIfInBounds_toArray, List.set_cons_zero, List.set_cons_succ]
          refine takeH 11 (v := ?vd11) rfl (by kernel_rfl) (by kernel_rfl) (by kernel_rfl) (fun _ _ _ h => h) hH rfl ?yd11 ?rd11
          case yd11 => intro W hSw; go_simp; try with_reducible rfl
          try simp only [Act.put, List.setIfInBounds_toArray, List.set_cons_zero, List.set_cons_succ]
          refine takeH 12 (v := ?vd12) rfl (by kernel_rfl) (by kernel_rfl) (by kernel_rfl) (fun _ _ _ h => h) hH rfl ?yd12 ?rd12
          case yd12 => intro W hSw; go_simp; try with_reducible rfl
          try simp only [Act.put, List.setIfInBounds_toArray, List.set_cons_zero, List.set_cons_succ]
          refine skipH 13 rfl (by kernel_rfl) (by kernel_rfl) (by kernel_rfl) (fun _ _ _ h => h) hH rfl ?_
          try simp only [Act.put, List.setIfInBounds_toArray, List.set_cons_zero, List.set_cons_succ]
          refine skipH 14 rfl (by kernel_rfl) (by kernel_rfl) (by kernel_rfl) (fun _ _ _ h => h) hH rfl ?_
          try simp only [Act.put, List.setIfInBounds_toArray, List.set_cons_zero, List.set_cons_succ]
          refine skipH 15 rfl (by kernel_rfl) (by kernel_rfl) (by kernel_rfl) (fun _ _ _ h => h) hH rfl ?_
          try simp only [Act.put, List.setIfInBounds_toArray, List.set_cons_zero, List.set_cons_succ]
          refine skipH 16 rfl (by kernel_rfl) (by kernel_rfl) (by kernel_rfl) (fun _ _ _ h => h) hH rfl ?_
          try simp only [Act.put, List.setIfInBounds_toArray, List.set_cons_zero, List.set_cons_succ]
          refine takeH 17 (v := ?vd17) rfl (by kernel_rfl) (by kernel_rfl) (by kernel_rfl) (fun _ _ _ h => h) hH rfl ?yd17 ?rd17
          case yd17 => intro W hSw; go_simp; try with_reducible rfl
          try simp only [Act.put, List.setIfInBounds_toArray, List.set_cons_zero, List.set_cons_succ]
          refine wpAnyH_done (by kernel_rfl) ?_ _
          try simp only [Act.put]
          have Hend := Lib.hid (HbwA.out.grown hH.1 HbwA.out.size (fun g e => by cases e; exact Nat.le_refl _))
          go_wp2
          go_ret2
          exact of_no (by rw [Hres.out, Hz.out]) rfl Hend.out
        | true =>
        rw [h2] at HB
        have HS2 := Lib.hid (HS2.out h2)
        cases hst : stepB c g k with
        | false =>
          have Hne := Lib.hid (HS2.out.2 hst)
          have Hz := Lib.hid (allB_no hlt hst)
          refine wp_region_held_drew (S := fun w' => wB.grownBy w' (some w.heap.size) ∧ w'.cell? ⟨wr.heap.size, 0, none⟩ = some (.int .i64 xr) ∧ w'.cell? ⟨wr.heap.size, 1, none⟩ = some (.int .i64 xa) ∧ w'.cell? ⟨wr.heap.size, 2, none⟩ = some (.slice pa xp.length pc) ∧ w'.cell? ⟨wr.heap.size, 3, none⟩ = some (.int .i64 xd) ∧ w'.cell? ⟨b, off + (k - 1) * 4, none⟩ = some (.int .i64 yr) ∧ w'.cell? ⟨b, off + (k - 1) * 4 + 1, none⟩ = some (.int .i64 ya) ∧ w'.cell? ⟨b, off + (k - 1) * 4 + 2, none⟩ = some (.slice pa' yp.length pc') ∧ w'.cell? ⟨b, off + (k - 1) * 4 + 3, none⟩ = some (.int .i64 yd)) (by kernel_rfl) ⟨below_rowP (Below.refl _ _).drew _, k0, k1, k2, k3, d0, d1, d2, d3⟩ (fun hH => ?_)
          refine takeH 0 (v := ?ve0) rfl (by kernel_rfl) (by kernel_rfl) (by kernel_rfl) (fun _ _ _ h => h) hH rfl ?ye0 ?re0
          case ye0 => intro W hSw; go_simp; try with_reducible rfl
          try simp only [Act.put, List.setIfInBounds_toArray, List.set_cons_zero, List.set_cons_succ]
          refine takeH 1 (v := .bool true) rfl (by kernel_rfl) (by kernel_rfl) (by kernel_rfl) (fun _ _ _ h => h) hH rfl ?ye1 ?re1
          case ye1 => intro W hSw; go_simp; first | done | simp only [hgt] | omega | (simp; omega)
          try simp only [Act.put, List.setIfInBounds_toArray, List.set_cons_zero, List.set_cons_succ]
          refine takeH 2 (v := ?ve2) rfl (by kernel_rfl) (by kernel_rfl) (by kernel_rfl) (fun _ _ _ h => h) hH rfl ?ye2 ?re2
          case ye2 => intro W hSw; go_simp; try with_reducible rfl
          try simp only [Act.put, List.setIfInBounds_toArray, List.set_cons_zero, List.set_cons_succ]
          refine takeH 3 (v := ?ve3) rfl (by kernel_rfl) (by kernel_rfl) (by kernel_rfl) (fun _ _ _ h => h) hH rfl ?ye3 ?re3
          case ye3 => intro W hSw; go_simp; try with_reducible rfl
          try simp only [Act.put, List.setIfInBounds_toArray, List.set_cons_zero, List.set_cons_succ]
          refine takeH 4 (v := ?ve4) rfl (by kernel_rfl) (by kernel_rfl) (by kernel_rfl) (fun _ _ _ h => h) hH rfl ?ye4 ?re4
          case ye4 => intro W hSw; go_simp; try with_reducible rfl
          try simp only [Act.put, List.setIfInBounds_toArray, List.set_cons_zero, List.set_cons_succ]
          refine takeH 5 (v := ?ve5) rfl (by kernel_rfl) (by kernel_rfl) (by kernel_rfl) (fun _ _ _ h => h) hH rfl ?ye5 ?re5
          case ye5 => intro W hSw; go_simp; try with_reducible rfl
          try simp only [Act.put, List.setIfInBounds_toArray, List.set_cons_zero, List.set_cons_succ]
          refine takeH 6 (v := ?ve6) rfl (by kernel_rfl) (by kernel_rfl) (by kernel_rfl) (fun _ _ _ h => h) hH rfl ?ye6 ?re6
          case ye6 => intro W hSw; go_simp; try with_reducible rfl
          try simp only [Act.put, List.setIfInBounds_toArray, List.set_cons_zero, List.set_cons_succ]
          refine takeH 7 (v := ?ve7) rfl (by kernel_rfl) (by kernel_rfl) (by kernel_rfl) (fun _ _ _ h => h) hH rfl ?ye7 ?re7
          case ye7 => intro W hSw; go_simp; try with_reducible rfl
          try simp only [Act.put, List.setIfInBounds_toArray, List.set_cons_zero, List.set_cons_succ]
          refine takeH 8 (v := ?ve8) rfl (by kernel_rfl) (by kernel_rfl) (by kernel_rfl) (fun _ _ _ h => h) hH rfl ?ye8 ?re8
          case ye8 => intro W hSw; go_simp; try with_reducible rfl
          try simp only [Act.put, List.setIfInBounds_toArray, List.set_cons_zero, List.set_cons_succ]
          refine callH 9 rfl (by kernel_rfl) rfl (fun K hK => ?_)
          go_simp
          go_at_call 59
          refine (HB.out _).mono ?_
          rintro e wx ⟨rfl, hbx⟩
          refine hK.out _ _ ⟨grownBy_trans hH.1 (below_rowP hbx (some w.heap.size)), (below_rowP hbx (some w.heap.size)).cell hH.2.1 (by simp only [ne_eq, Option.some.injEq]; omega), (below_rowP hbx (some w.heap.size)).cell hH.2.2.1 (by simp only [ne_eq, Option.some.injEq]; omega), (below_rowP hbx (some w.heap.size)).cell hH.2.2.2.1 (by simp only [ne_eq, Option.some.injEq]; omega), (below_rowP hbx (some w.heap.size)).cell hH.2.2.2.2.1 (by simp only [ne_eq, Option.some.injEq]; omega), (below_rowP hbx (some w.heap.size)).cell hH.2.2.2.2.2.1 (by simp only [ne_eq, Option.some.injEq]; omega), (below_rowP hbx (some w.heap.size)).cell hH.2.2.2.2.2.2.1 (by simp only [ne_eq, Option.some.injEq]; omega), (below_rowP hbx (some w.heap.size)).cell hH.2.2.2.2.2.2.2.1 (by simp only [ne_eq, Option.some.injEq]; omega), (below_rowP hbx (some w.heap.size)).cell hH.2.2.2.2.2.2.2.2 (by simp only [ne_eq, Option.some.injEq]; omega)⟩ (fun hH => ?_)
          clear hK K
          try simp only [Act.put, List.setIfInBounds_toArray, List.set_cons_zero, List.set_cons_succ]
          refine takeH 10 (v := ?ve10) rfl (by kernel_rfl) (by kernel_rfl) (by kernel_rfl) (fun _ _ _ h => h) hH rfl ?ye10 ?re10
          case ye10 => intro W hSw; go_simp; try with_reducible rfl
          try simp only [Act.put, List.setIfInBounds_toArray, List.set_cons_zero, List.set_cons_succ]
          refine takeH 11 (v := ?ve11) rfl (by kernel_rfl) (by kernel_rfl) (by kernel_rfl) (fun _ _ _ h => h) hH rfl ?ye11 ?re11
          case ye11 => intro W hSw; go_simp; try with_reducible rfl
          try simp only [Act.put, List.setIfInBounds_toArray, List.set_cons_zero, List.set_cons_succ]
          refine takeH 12 (v := ?ve12) rfl (by kernel_rfl) (by kernel_rfl) (by kernel_rfl) (fun _ _ _ h => h) hH rfl ?ye12 ?re12
          case ye12 => intro W hSw; go_simp; try with_reducible rfl
          try simp only [Act.put, List.setIfInBounds_toArray, List.set_cons_zero, List.set_cons_succ]
          refine takeH 13 (v := ?ve13) rfl (by kernel_rfl) (by kernel_rfl) (by kernel_rfl) (fun _ _ _ h => h) hH rfl ?ye13 ?re13
          case ye13 => intro W hSw; go_simp; try with_reducible rfl
          try simp only [Act.put, List.setIfInBounds_toArray, List.set_cons_zero, List.set_cons_succ]
          refine takeH 14 (v := ?ve14) rfl (by kernel_rfl) (by kernel_rfl) (by kernel_rfl) (fun _ _ _ h => h) hH rfl ?ye14 ?re14
          case ye14 => intro W hSw; go_simp; try with_reducible rfl
          try simp only [Act.put, List.setIfInBounds_toArray, List.set_cons_zero, List.set_cons_succ]
          refine callH 15 rfl (by kernel_rfl) rfl (fun K hK => ?_)
          go_simp
          go_at_call 60
          refine (HAdd.out _ ((Below.refl _ _).drew.trans hbx)).mono ?_
          rintro e wz ⟨rfl, hgz, _⟩
          generalize hm : adN c (g.take k) ⟨xr, xa, xp, xd⟩ = m at *
          have hm' : (m != 0) = true := by simpa using Hne.out
          clear hm
          refine hK.out _ _ ⟨grownBy_trans hH.1 (hgz), (hgz).cell hH.2.1 (by simp only [ne_eq, Option.some.injEq]; omega), (hgz).cell hH.2.2.1 (by simp only [ne_eq, Option.some.injEq]; omega), (hgz).cell hH.2.2.2.1 (by simp only [ne_eq, Option.some.injEq]; omega), (hgz).cell hH.2.2.2.2.1 (by simp only [ne_eq, Option.some.injEq]; omega), (hgz).cell hH.2.2.2.2.2.1 (by simp only [ne_eq, Option.some.injEq]; omega), (hgz).cell hH.2.2.2.2.2.2.1 (by simp only [ne_eq, Option.some.injEq]; omega), (hgz).cell hH.2.2.2.2.2.2.2.1 (by simp only [ne_eq, Option.some.injEq]; omega), (hgz).cell hH.2.2.2.2.2.2.2.2 (by simp only [ne_eq, Option.some.injEq]; omega)⟩ (fun hH => ?_)
          clear hK K
          try simp only [Act.put, List.setIfInBounds_toArray, List.set_cons_zero, List.set_cons_succ]
          refine takeH 16 (v := ?ve16) rfl (by kernel_rfl) (by kernel_rfl) (by kernel_rfl) (fun _ _ _ h => h) hH rfl ?ye16 ?re16
          case ye16 => intro W hSw; go_simp; try with_reducible rfl
          try simp only [Act.put, List.setIfInBounds_toArray, List.set_cons_zero, List.set_cons_succ]
          refine takeH 17 (v := ?ve17) rfl (by kernel_rfl) (by kernel_rfl) (by kernel_rfl) (fun _ _ _ h => h) hH rfl ?ye17 ?re17
          case ye17 => intro W hSw; go_simp; try with_reducible rfl
          try simp only [Act.put, List.setIfInBounds_toArray, List.set_cons_zero, List.set_cons_succ]
          refine wpAnyH_done (by kernel_rfl) ?_ _
          try simp only [Act.put]
          have Hend := Lib.hid (HbwA.out.grown hH.1 HbwA.out.size (fun g e => by cases e; exact Nat.le_refl _))
          go_wp2
          go_ret2
          exact of_no (by rw [Hres.out, Hz.out]) rfl Hend.out
        | true =>
          obtain ⟨hz1, hz2⟩ := HS2.out.1 hst
          have Hz1 := Lib.hid hz1
          have Hz2 := Lib.hid hz2
          have Hup1 := Lib.hid (upto_step Hup.out hst)
          clear hz1 hz2
          refine wp_region_held_drew (S := fun w' => wB.grownBy w' (some w.heap.size) ∧ w'.cell? ⟨wr.heap.size, 0, none⟩ = some (.int .i64 xr) ∧ w'.cell? ⟨wr.heap.size, 1, none⟩ = some (.int .i64 xa) ∧ w'.cell? ⟨wr.heap.size, 2, none⟩ = some (.slice pa xp.length pc) ∧ w'.cell? ⟨wr.heap.size, 3, none⟩ = some (.int .i64 xd) ∧ w'.cell? ⟨b, off + (k - 1) * 4, none⟩ = some (.int .i64 yr) ∧ w'.cell? ⟨b, off + (k - 1) * 4 + 1, none⟩ = some (.int .i64 ya) ∧ w'.cell? ⟨b, off + (k - 1) * 4 + 2, none⟩ = some (.slice pa' yp.length pc') ∧ w'.cell? ⟨b, off + (k - 1) * 4 + 3, none⟩ = some (.int .i64 yd)) (by kernel_rfl) ⟨below_rowP (Below.refl _ _).drew _, k0, k1, k2, k3, d0, d1, d2, d3⟩ (fun hH => ?_)
          refine takeH 0 (v := ?vf0) rfl (by kernel_rfl) (by kernel_rfl) (by kernel_rfl) (fun _ _ _ h => h) hH rfl ?yf0 ?rf0
          case yf0 => intro W hSw; go_simp; try with_reducible rfl
          try simp only [Act.put, List.setIfInBounds_toArray, List.set_cons_zero, List.set_cons_succ]
          refine takeH 1 (v := .bool true) rfl (by kernel_rfl) (by kernel_rfl) (by kernel_rfl) (fun _ _ _ h => h) hH rfl ?yf1 ?rf1
          case yf1 => intro W hSw; go_simp; first | done | simp only [hgt] | omega | (simp; omega)
          try simp only [Act.put, List.setIfInBounds_toArray, List.set_cons_zero, List.set_cons_succ]
          refine takeH 2 (v := ?vf2) rfl (by kernel_rfl) (by kernel_rfl) (by kernel_rfl) (fun _ _ _ h => h) hH rfl ?yf2 ?rf2
          case yf2 => intro W hSw; go_simp; try with_reducible rfl
          try simp only [Act.put, List.setIfInBounds_toArray, List.set_cons_zero, List.set_cons_succ]
          refine takeH 3 (v := ?vf3) rfl (by kernel_rfl) (by kernel_rfl) (by kernel_rfl) (fun _ _ _ h => h) hH rfl ?yf3 ?rf3
          case yf3 => intro W hSw; go_simp; try with_reducible rfl
          try simp only [Act.put, List.setIfInBounds_toArray, List.set_cons_zero, List.set_cons_succ]
          refine takeH 4 (v := ?vf4) rfl (by kernel_rfl) (by kernel_rfl) (by kernel_rfl) (fun _ _ _ h => h) hH rfl ?yf4 ?rf4
          case yf4 => intro W hSw; go_simp; try with_reducible rfl
          try simp only [Act.put, List.setIfInBounds_toArray, List.set_cons_zero, List.set_cons_succ]
          refine takeH 5 (v := ?vf5) rfl (by kernel_rfl) (by kernel_rfl) (by kernel_rfl) (fun _ _ _ h => h) hH rfl ?yf5 ?rf5
          case yf5 => intro W hSw; go_simp; try with_reducible rfl
          try simp only [Act.put, List.setIfInBounds_toArray, List.set_cons_zero, List.set_cons_succ]
          refine takeH 6 (v := ?vf6) rfl (by kernel_rfl) (by kernel_rfl) (by kernel_rfl) (fun _ _ _ h => h) hH rfl ?yf6 ?rf6
          case yf6 => intro W hSw; go_simp; try with_reducible rfl
          try simp only [Act.put, List.setIfInBounds_toArray, List.set_cons_zero, List.set_cons_succ]
          refine takeH 7 (v := ?vf7) rfl (by kernel_rfl) (by kernel_rfl) (by kernel_rfl) (fun _ _ _ h => h) hH rfl ?yf7 ?rf7
          case yf7 => intro W hSw; go_simp; try with_reducible rfl
          try simp only [Act.put, List.setIfInBounds_toArray, List.set_cons_zero, List.set_cons_succ]
          refine takeH 8 (v := ?vf8) rfl (by kernel_rfl) (by kernel_rfl) (by kernel_rfl) (fun _ _ _ h => h) hH rfl ?yf8 ?rf8
          case yf8 => intro W hSw; go_simp; try with_reducible rfl
          try simp only [Act.put, List.setIfInBounds_toArray, List.set_cons_zero, List.set_cons_succ]
          refine callH 9 rfl (by kernel_rfl) rfl (fun K hK => ?_)
          go_simp
          go_at_call 59
          refine (HB.out _).mono ?_
          rintro e wx ⟨rfl, hbx⟩
          refine hK.out _ _ ⟨grownBy_trans hH.1 (below_rowP hbx (some w.heap.size)), (below_rowP hbx (some w.heap.size)).cell hH.2.1 (by simp only [ne_eq, Option.some.injEq]; omega), (below_rowP hbx (some w.heap.size)).cell hH.2.2.1 (by simp only [ne_eq, Option.some.injEq]; omega), (below_rowP hbx (some w.heap.size)).cell hH.2.2.2.1 (by simp only [ne_eq, Option.some.injEq]; omega), (below_rowP hbx (some w.heap.size)).cell hH.2.2.2.2.1 (by simp only [ne_eq, Option.some.injEq]; omega), (below_rowP hbx (some w.heap.size)).cell hH.2.2.2.2.2.1 (by simp only [ne_eq, Option.some.injEq]; omega), (below_rowP hbx (some w.heap.size)).cell hH.2.2.2.2.2.2.1 (by simp only [ne_eq, Option.some.injEq]; omega), (below_rowP hbx (some w.heap.size)).cell hH.2.2.2.2.2.2.2.1 (by simp only [ne_eq, Option.some.injEq]; omega), (below_rowP hbx (some w.heap.size)).cell hH.2.2.2.2.2.2.2.2 (by simp only [ne_eq, Option.some.injEq]; omega)⟩ (fun hH => ?_)
          clear hK K
          try simp only [Act.put, List.setIfInBounds_toArray, List.set_cons_zero, List.set_cons_succ]
          refine takeH 10 (v := ?vf10) rfl (by kernel_rfl) (by kernel_rfl) (by kernel_rfl) (fun _ _ _ h => h) hH rfl ?yf10 ?rf10
          case yf10 => intro W hSw; go_simp; try with_reducible rfl
          try simp only [Act.put, List.setIfInBounds_toArray, List.set_cons_zero, List.set_cons_succ]
          refine takeH 11 (v := ?vf11) rfl (by kernel_rfl) (by kernel_rfl) (by kernel_rfl) (fun _ _ _ h => h) hH rfl ?yf11 ?rf11
          case yf11 => intro W hSw; go_simp; try with_reducible rfl
          try simp only [Act.put, List.setIfInBounds_toArray, List.set_cons_zero, List.set_cons_succ]
          refine takeH 12 (v := ?vf12) rfl (by kernel_rfl) (by kernel_rfl) (by kernel_rfl) (fun _ _ _ h => h) hH rfl ?yf12 ?rf12
          case yf12 => intro W hSw; go_simp; try with_reducible rfl
          try simp only [Act.put, List.setIfInBounds_toArray, List.set_cons_zero, List.set_cons_succ]
          refine takeH 13 (v := ?vf13) rfl (by kernel_rfl) (by kernel_rfl) (by kernel_rfl) (fun _ _ _ h => h) hH rfl ?yf13 ?rf13
          case yf13 => intro W hSw; go_simp; try with_reducible rfl
          try simp only [Act.put, List.setIfInBounds_toArray, List.set_cons_zero, List.set_cons_succ]
          refine takeH 14 (v := ?vf14) rfl (by kernel_rfl) (by kernel_rfl) (by kernel_rfl) (fun _ _ _ h => h) hH rfl ?yf14 ?rf14
          case yf14 => intro W hSw; go_simp; try with_reducible rfl
          try simp only [Act.put, List.setIfInBounds_toArray, List.set_cons_zero, List.set_cons_succ]
          refine callH 15 rfl (by kernel_rfl) rfl (fun K hK => ?_)
          go_simp
          go_at_call 60
          refine (HAdd.out _ ((Below.refl _ _).drew.trans hbx)).mono ?_
          rintro e wz ⟨rfl, hgz, hi2, h2, hl2⟩
          rw [Hz1.out]
          rw [Hz2.out] at hl2
          have Hadd := Lib.hid hl2
          clear hl2
          refine hK.out _ _ ⟨grownBy_trans hH.1 (hgz), (hgz).cell hH.2.1 (by simp only [ne_eq, Option.some.injEq]; omega), (hgz).cell hH.2.2.1 (by simp only [ne_eq, Option.some.injEq]; omega), (hgz).cell hH.2.2.2.1 (by simp only [ne_eq, Option.some.injEq]; omega), (hgz).cell hH.2.2.2.2.1 (by simp only [ne_eq, Option.some.injEq]; omega), (hgz).cell hH.2.2.2.2.2.1 (by simp only [ne_eq, Option.some.injEq]; omega), (hgz).cell hH.2.2.2.2.2.2.1 (by simp only [ne_eq, Option.some.injEq]; omega), (hgz).cell hH.2.2.2.2.2.2.2.1 (by simp only [ne_eq, Option.some.injEq]; omega), (hgz).cell hH.2.2.2.2.2.2.2.2 (by simp only [ne_eq, Option.some.injEq]; omega)⟩ (fun hH => ?_)
          clear hK K
          try simp only [Act.put, List.setIfInBounds_toArray, List.set_cons_zero, List.set_cons_succ]
          refine takeH 16 (v := ?vf16) rfl (by kernel_rfl) (by kernel_rfl) (by kernel_rfl) (fun _ _ _ h => h) hH rfl ?yf16 ?rf16
          case yf16 => intro W hSw; go_simp; try with_reducible rfl
          try simp only [Act.put, List.setIfInBounds_toArray, List.set_cons_zero, List.set_cons_succ]
          refine takeH 17 (v := ?vf17) rfl (by kernel_rfl) (by kernel_rfl) (by kernel_rfl) (fun _ _ _ h => h) hH rfl ?yf17 ?rf17
          case yf17 => intro W hSw; go_simp; try with_reducible rfl
          try simp only [Act.put, List.setIfInBounds_toArray, List.set_cons_zero, List.set_cons_succ]
          refine wpAnyH_done (by kernel_rfl) ?_ _
          try simp only [Act.put]
          have Hend := Lib.hid (HbwA.out.grown hH.1 HbwA.out.size (fun g e => by cases e; exact Nat.le_refl _))
          go_wp2
          go_roundw
          case rel => exact ⟨k + 1, _, _, by omega, by go_num, Hup1.out, Hadd.out, Hend.out⟩
          case measure => simp [intOf]; omega
    · have hke : k = g.length := by omega
      subst hke
      rw [List.take_length] at HL
      have Hz := Lib.hid (show graphB c g = true by rw [Hres.out]; exact allB_yes Hup.out (Nat.le_refl _))
      go_wp2
      go_ret2
      exact of_yes Hz.out rfl Hbel.out (Nat.le_refl _) HL.out

end Go.Proofs.YtjaacdapibokiabDoor

/- impl's authors of a round, GraphValid, VertexValid, GraphAdd, GraphAuthors, GraphHeight and GraphMerge, each by a walk of its text; conditions: lists are shorter than 2^40 (a graph: 2^20). -/
namespace Go.Proofs.YtjaacdapibokiabDoor
open Go.RowKit

section
variable (ac : Option Addr) (capc : Nat) (c : List Int) (g : List Vx) (v : Value) (fp : List Nat) (w : World) (hn : c.length ≤ 1099511627776) (hbig : g.length ≤ 1048576) (hps : ∀ x ∈ g, x.ps.length ≤ 1099511627776) (hc : IntsAt w ac c) (hg : Gr w g v fp)
include hn hbig hps hc hg
theorem graphOf_no (h : graphB c g = false) : Calls Tryd.prog 45 #[.slice ac c.length capc, v] w fun e w' => e = .returned (.tuple #[.pointer none, .bool false]) ∧ Below w.heap.size w w' :=
  (impl_graphOf ac capc c g v fp w hn hbig hps hc hg).mono fun e w' hp => by
    obtain ⟨hb, ⟨_, he⟩ | ⟨ht, _⟩⟩ := hp
    · exact ⟨he, hb⟩
    · rw [h] at ht; cases ht
theorem graphOf_yes (h : graphB c g = true) : Calls Tryd.prog 45 #[.slice ac c.length capc, v] w fun e w' => ∃ G, e = .returned (.tuple #[.pointer (some ⟨G, 0, none⟩), .bool true]) ∧ Below w.heap.size w w' ∧ w.heap.size ≤ G ∧ ∃ hi h, Lk w w' hi G (.slice ac c.length capc) h g :=
  (impl_graphOf ac capc c g v fp w hn hbig hps hc hg).mono fun e w' hp => by
    obtain ⟨hb, ⟨hf, _⟩ | ⟨_, G, hi, h', he, hG, hl⟩⟩ := hp
    · rw [h] at hf; cases hf
    · exact ⟨G, he, hb, hG, hi, h', hl⟩
end

theorem impl_GraphValid' (ac : Option Addr) (capc : Nat) (c : List Int) (g : List Vx) (v : Value) (fp : List Nat) (w : World) (hn : c.length ≤ 1099511627776) (hbig : g.length ≤ 1048576) (hps : ∀ x ∈ g, x.ps.length ≤ 1099511627776) (hc : IntsAt w ac c) (hg : Gr w g v fp) :
    Calls Tryd.prog 37 #[.slice ac c.length capc, v] w fun e w' => e = .returned (.bool (graphB c g)) ∧ Below w.heap.size w w' := by
  cases h : graphB c g with
  | false =>
    have H := Lib.hid (graphOf_no ac capc c g v fp w hn hbig hps hc hg h)
    clear hc hg hps h
    go_enter Tryd.func37, Tryd.ntmps37
    go_wp2_with fail
    refine H.out.mono ?_
    rintro e w1 ⟨rfl, hb⟩
    go_wp2
    go_ret
    exact ⟨rfl, hb⟩
  | true =>
    have H := Lib.hid (graphOf_yes ac capc c g v fp w hn hbig hps hc hg h)
    clear hc hg hps h
    go_enter Tryd.func37, Tryd.ntmps37
    go_wp2_with fail
    refine H.out.mono ?_
    rintro e w1 ⟨G, rfl, hb, _⟩
    go_wp2
    go_ret
    exact ⟨rfl, hb⟩

end Go.Proofs.YtjaacdapibokiabDoor

/- impl's marking of a vertex's past along pointers, by a walk of its text (it calls itself: by the vertex's round); the graph is valid. -/
namespace Go.Proofs.YtjaacdapibokiabDoor
open Go.RowKit

/-- The number of a mark. -/
def plM (r a : Int) : Nat := r.toNat * 7 + a.toNat
theorem plM_inj {r a r' a' : Int} (hr : 0 ≤ r) (ha : 0 ≤ a) (ha' : a ≤ 6) (hr2 : 0 ≤ r') (ha2 : 0 ≤ a') (ha2' : a' ≤ 6) (h : plM r a = plM r' a') : r = r' ∧ a = a' := by
  unfold plM at h; omega
theorem plM_bd {r a : Int} (h : r ≤ 30) (ha : a ≤ 6) : plM r a < 217 := by unfold plM; omega
/-- Each parent of a vertex is there. -/
def Par (g : List Vx) : Prop := ∀ y ∈ g, ∀ p ∈ y.ps, ∃ z ∈ g, z.r = y.r - 1 ∧ z.a = p
/-- What is marked in the first n rounds has its parents marked. -/
def ClsM (g : List Vx) (bs : Nat → Bool) (n : Int) : Prop := ∀ z ∈ g, z.r ≤ n → bs (plM z.r z.a) = true → ∀ p ∈ z.ps, bs (plM (z.r - 1) p) = true
/-- A set of vertices that is closed. -/
def ClsP (g : List Vx) (P : Vx → Prop) : Prop := ∀ y ∈ g, P y → ∀ p ∈ y.ps, ∀ z ∈ g, z.r = y.r - 1 → z.a = p → P z
def setM (bs : Nat → Bool) (i : Nat) : Nat → Bool := fun j => if j = i then true else bs j
def marksV (bs : Nat → Bool) : Array Value := arrP 217 fun i => .bool (bs i)
theorem marksV_set (bs : Nat → Bool) (i : Nat) : (marksV bs).setIfInBounds i (.bool true) = marksV (setM bs i) := by
  unfold marksV; rw [arrP_set]; congr 1; funext j
  unfold setM
  by_cases h : j = i <;> simp [h]
/-- What marking a vertex's past does to the marks. -/
structure Mkd (g : List Vx) (y : Vx) (bs bs' : Nat → Bool) : Prop where
  up : ∀ i, bs i = true → bs' i = true
  it : bs' (plM y.r y.a) = true
  cls : ClsM g bs' y.r
  new : ∀ i, bs' i = true → bs i = true ∨ i = plM y.r y.a ∨ i < y.r.toNat * 7
  only : ∀ P, ClsP g P → P y → ∀ z ∈ g, bs' (plM z.r z.a) = true → bs (plM z.r z.a) = true ∨ P z
theorem mkd_old {g : List Vx} {y : Vx} {bs : Nat → Bool} (h : bs (plM y.r y.a) = true) (hc : ClsM g bs y.r) : Mkd g y bs bs :=
  ⟨fun _ h => h, h, hc, fun _ h => .inl h, fun _ _ _ _ _ h => .inl h⟩
/-- Behind the first k parents. -/
structure Mkk (g : List Vx) (y : Vx) (bs bs' : Nat → Bool) (k : Nat) : Prop where
  up : ∀ i, bs i = true → bs' i = true
  it : bs' (plM y.r y.a) = true
  ps : ∀ j (h : j < y.ps.length), j < k → bs' (plM (y.r - 1) y.ps[j]) = true
  cls : ClsM g bs' (y.r - 1)
  new : ∀ i, bs' i = true → bs i = true ∨ i = plM y.r y.a ∨ i < y.r.toNat * 7
  only : ∀ P, ClsP g P → P y → ∀ z ∈ g, bs' (plM z.r z.a) = true → bs (plM z.r z.a) = true ∨ P z
theorem mkk_start {g : List Vx} {y : Vx} {bs : Nat → Bool} (hs : Srt g) (hin : ∀ z ∈ g, inPl z) (hy : y ∈ g) (hc : ClsM g bs y.r) : Mkk g y bs (setM bs (plM y.r y.a)) 0 := by
  refine ⟨fun i h => ?_, ?_, fun j _ h => by omega, fun z hz hr hm p hp => ?_, fun i h => ?_, fun P hP hPy z hz hm => ?_⟩
  · unfold setM; split
    · rfl
    · exact h
  · unfold setM; rw [if_pos rfl]
  · have iy := hin y hy
    have iz := hin z hz
    unfold inPl at iy iz
    unfold setM at hm ⊢
    rw [if_neg (fun e => by have := (plM_inj iz.1 iz.2.2.1 iz.2.2.2 iy.1 iy.2.2.1 iy.2.2.2 e).1; omega)] at hm
    split
    · rfl
    · exact hc z hz (by omega) hm p hp
  · unfold setM at h
    split at h
    · rename_i e; exact .inr (.inl e)
    · exact .inl h
  · unfold setM at hm
    split at hm
    · rename_i e
      have iy := hin y hy
      have iz := hin z hz
      unfold inPl at iy iz
      obtain ⟨e1, e2⟩ := plM_inj iz.1 iz.2.2.1 iz.2.2.2 iy.1 iy.2.2.1 iy.2.2.2 e
      rw [srt_uni hs hz hy e1 e2]
      exact .inr hPy
    · exact .inl hm
theorem mkk_step {g : List Vx} {y z : Vx} {bs b1 b2 : Nat → Bool} {k : Nat} (hin : ∀ z ∈ g, inPl z) (hy : y ∈ g) (h : Mkk g y bs b1 k) (hz : z ∈ g) (hk : k < y.ps.length) (hr : z.r = y.r - 1) (ha : z.a = y.ps[k]) (h2 : Mkd g z b1 b2) : Mkk g y bs b2 (k + 1) := by
  have iz := hin z hz
  unfold inPl at iz
  refine ⟨fun i hi => h2.up i (h.up i hi), h2.up _ h.it, fun j hj hjk => ?_, by rw [← hr]; exact h2.cls, fun i hi => ?_, fun P hP hPy x hx hm => ?_⟩
  · by_cases e : j = k
    · subst e; rw [← hr, ← ha]; exact h2.it
    · exact h2.up _ (h.ps j hj (by omega))
  · rcases h2.new i hi with h' | h' | h'
    · exact h.new i h'
    · exact .inr (.inr (by rw [h']; unfold plM; omega))
    · exact .inr (.inr (by omega))
  · have hPz : P z := hP y hy hPy _ (List.getElem_mem hk) z hz hr ha
    rcases h2.only P hP hPz x hx hm with h' | h'
    · exact h.only P hP hPy x hx h'
    · exact .inr h'
theorem mkk_end {g : List Vx} {y : Vx} {bs bs' : Nat → Bool} (hs : Srt g) (hin : ∀ z ∈ g, inPl z) (hy : y ∈ g) (hc : ClsM g bs y.r) (h : Mkk g y bs bs' y.ps.length) : Mkd g y bs bs' := by
  refine ⟨h.up, h.it, fun z hz hr hm p hp => ?_, h.new, h.only⟩
  have iy := hin y hy
  have iz := hin z hz
  unfold inPl at iy iz
  by_cases e : z.r ≤ y.r - 1
  · exact h.cls z hz e hm p hp
  · rcases h.new _ hm with h' | h' | h'
    · exact h.up _ (hc z hz hr h' p hp)
    · obtain ⟨e1, e2⟩ := plM_inj iz.1 iz.2.2.1 iz.2.2.2 iy.1 iy.2.2.1 iy.2.2.2 h'
      have := srt_uni hs hz hy e1 e2
      subst this
      obtain ⟨j, hj, rfl⟩ := List.mem_iff_getElem.1 hp
      exact h.ps j hj hj
    · unfold plM at h'; omega

theorem run_mark (M : Nat) (r a : Int) (hr : 0 ≤ r) (hr2 : r ≤ 30) (ha : 0 ≤ a) (ha2 : a ≤ 6) : ∃ o1, (∀ w, (Instr.indexAt 121 (.pointer (some ⟨M, 0, none⟩)) (.int .i64 r)).run Tryd.prog w = .ok (.pointer (some ⟨M, o1, none⟩)) w) ∧
    ∀ w, (Instr.indexAt 119 (.pointer (some ⟨M, o1, none⟩)) (.int .i64 a)).run Tryd.prog w = .ok (.pointer (some ⟨M, plM r a, none⟩)) w := by
  refine ⟨0 + r.toNat * 7, fun w => ?_, fun w => ?_⟩
  · exact run_index_z (s := 7) Tryd.underlying121 (by kernel_rfl) (by omega) (by omega) w
  · have := run_index_z (P := Tryd.prog) (B := M) (o := 0 + r.toNat * 7) (s := 1) (k := a.toNat) (z := a) Tryd.underlying119 (by kernel_rfl) (by omega) (by omega) w
    rw [this]
    unfold plM
    rw [Nat.mul_one, Nat.zero_add]
def MarkPost (w : World) (M : Nat) (g : List Vx) (y : Vx) (bs : Nat → Bool) : Ending → World → Prop := fun e w' =>
  e = .returned (.tuple #[]) ∧ w.grownBy w' (some M) ∧ ∃ bs', Str w' M 121 (marksV bs') ∧ Mkd g y bs bs'
set_option maxRecDepth 8000 in
set_option maxHeartbeats 4000000 in
theorem mark_past (w0 wl : World) (hi G : Nat) (mv : Value) (h : Nat → Value) (g : List Vx) (M : Nat) (hL : Lk w0 wl hi G mv h g) (hM : hi ≤ M) (hsrt : Srt g) (hin : ∀ y ∈ g, inPl y) (hpar : Par g) (hr0 : ∀ y ∈ g, y.r = 0 → y.ps.length = 0) (hgp : ∀ y ∈ g, y.ps.length ≤ 1099511627776) :
    ∀ (n : Nat) (y : Vx) (q : Nat) (w : World) (bs : Nat → Bool), y ∈ g → y.r.toNat = n → h (plN y.r y.a) = ptrV q → wl.grownBy w (some M) → Str w M 121 (marksV bs) → ClsM g bs y.r →
      Calls Tryd.prog 78 #[.pointer (some ⟨q, 0, none⟩), .pointer (some ⟨M, 0, none⟩)] w (MarkPost w M g y bs) := by
  have hself : ∀ y ∈ g, ∀ p ∈ y.ps, ∃ z ∈ g, z.r = y.r - 1 ∧ z.a = p := hpar
  have HL := Lib.hid hL; clear hL
  have Hsrt := Lib.hid hsrt; clear hsrt
  have Hin := Lib.hid hin; clear hin
  have Hpar := Lib.hid hself; clear hself hpar
  have Hr0 := Lib.hid hr0; clear hr0
  have Hgp := Lib.hid hgp; clear hgp
  intro n
  induction n using Nat.strongRecOn with
  | _ n ih =>
  intro y q w bs hy hn hq hg hM2 hc
  have iy := Hin.out y hy
  unfold inPl at iy
  obtain ⟨q', hq', nd⟩ := HL.out.has y hy
  have hqq : q' = q := by rw [hq] at hq'; unfold ptrV at hq'; simp at hq'; exact hq'.symm
  subst hqq
  obtain ⟨pa, pc, pv, qs, sq, iq, srq, own, hob, hql, hqp⟩ := nd.ex
  have hqM : q' < M := Nat.lt_of_lt_of_le nd.lt hM
  obtain ⟨pp, pcap, rfl, _⟩ := own.slice
  have HN := Lib.hid (fun W (hW : wl.grownBy W (some M)) => (⟨sq.kept hW (by intro e; cases e; omega), own.kept hW (by
    cases hv : (Value.slice pp qs.length pcap).ownBlock with
    | none => exact .inl rfl
    | some b => refine .inr fun e => ?_; cases e; have := (hob _ hv).2; omega)⟩ : Str W q' 59 #[.int .i64 y.r, .int .i64 y.a, .slice pa y.ps.length pc, .int .i64 y.d, .slice pp qs.length pcap] ∧ OwnP 57 W w0.heap.size (.slice pp qs.length pcap) qs))
  have hqlen : qs.length ≤ 1099511627776 := by have := Hgp.out y hy; omega
  obtain ⟨o1, ho1, ho2⟩ := run_mark M y.r y.a iy.1 iy.2.1 iy.2.2.1 iy.2.2.2
  have sqw := (HN.out w hg).1
  have e0 := sqw.cell 0 (v := .int .i64 y.r) rfl
  have e1 := sqw.cell 1 (v := .int .i64 y.a) rfl
  have em := hM2.cell (plM y.r y.a) (v := .bool (bs (plM y.r y.a))) (arrP_get (plM_bd iy.2.1 iy.2.2.2))
  have hmlt : M < w.heap.size := hM2.lt
  have HG := Lib.hid hg
  have HM2 := Lib.hid hM2
  have Hc := Lib.hid hc
  have Hn := Lib.hid hn
  have Hqp := Lib.hid hqp
  have Hql := Lib.hid hql
  have Hih := Lib.hid ih
  have Hiy := Lib.hid iy
  clear hg hM2 hc hn hqp hql sq iq srq own hob nd hq hq' sqw ih iy
  cases hb : bs (plM y.r y.a) with
  | true =>
    rw [hb] at em
    have Hd := Lib.hid (mkd_old hb Hc.out)
    clear hb
    go_enter Tryd.func78, Tryd.ntmps78
    go_wp2_with fail
    refine wp_region_held_drew (S := fun w' => w'.cell? ⟨q', 0, none⟩ = some (.int .i64 y.r) ∧ w'.cell? ⟨q', 1, none⟩ = some (.int .i64 y.a) ∧ w'.cell? ⟨M, plM y.r y.a, none⟩ = some (.bool true)) (by kernel_rfl) ⟨e0, e1, em⟩ (fun hH => ?_)
    refine takeH 0 (v := ?va0) rfl (by kernel_rfl) (by kernel_rfl) (by kernel_rfl) (fun _ _ _ h => h) hH rfl ?ya0 ?ra0
    case ya0 => intro W hSw; go_simp; try with_reducible rfl
    try simp only [Act.put, List.setIfInBounds_toArray, List.set_cons_zero, List.set_cons_succ]
    refine takeH 1 (v := ?va1) rfl (by kernel_rfl) (by kernel_rfl) (by kernel_rfl) (fun _ _ _ h => h) hH rfl ?ya1 ?ra1
    case ya1 => intro W hSw; go_simp; try with_reducible rfl
    try simp only [Act.put, List.setIfInBounds_toArray, List.set_cons_zero, List.set_cons_succ]
    refine takeH 2 (v := ?va2) rfl (by kernel_rfl) (by kernel_rfl) (by kernel_rfl) (fun _ _ _ h => h) hH rfl ?ya2 ?ra2
    case ya2 => intro W hSw; go_simp; try with_reducible rfl
    try simp only [Act.put, List.setIfInBounds_toArray, List.set_cons_zero, List.set_cons_succ]
    refine takeH 3 (v := ?va3) rfl (by kernel_rfl) (by kernel_rfl) (by kernel_rfl) (fun _ _ _ h => h) hH rfl ?ya3 ?ra3
    case ya3 => intro W hSw; go_simp; try with_reducible rfl
    try simp only [Act.put, List.setIfInBounds_toArray, List.set_cons_zero, List.set_cons_succ]
    refine takeH 4 (v := ?va4) rfl (by kernel_rfl) (by kernel_rfl) (by kernel_rfl) (fun _ _ _ h => h) hH rfl ?ya4 ?ra4
    case ya4 => intro W hSw; go_simp; try with_reducible rfl
    try simp only [Act.put, List.setIfInBounds_toArray, List.set_cons_zero, List.set_cons_succ]
    refine takeH 5 (v := ?va5) rfl (by kernel_rfl) (by kernel_rfl) (by kernel_rfl) (fun _ _ _ h => h) hH rfl ?ya5 ?ra5
    case ya5 => intro W hSw; go_simp; try with_reducible rfl
    try simp only [Act.put, List.setIfInBounds_toArray, List.set_cons_zero, List.set_cons_succ]
    refine takeH 6 (v := ?va6) rfl (by kernel_rfl) (by kernel_rfl) (by kernel_rfl) (fun _ _ _ h => h) hH rfl ?ya6 ?ra6
    case ya6 => intro W hSw; go_simp; try with_reducible rfl
    try simp only [Act.put, List.setIfInBounds_toArray, List.set_cons_zero, List.set_cons_succ]
    refine takeH 7 (v := ?va7) rfl (by kernel_rfl) (by kernel_rfl) (by kernel_rfl) (fun _ _ _ h => h) hH rfl ?ya7 ?ra7
    case ya7 => intro W hSw; go_simp; try with_reducible rfl
    try simp only [Act.put, List.setIfInBounds_toArray, List.set_cons_zero, List.set_cons_succ]
    refine takeH 8 (v := ?va8) rfl (by kernel_rfl) (by kernel_rfl) (by kernel_rfl) (fun _ _ _ h => h) hH rfl ?ya8 ?ra8
    case ya8 => intro W hSw; go_simp; try with_reducible rfl
    try simp only [Act.put, List.setIfInBounds_toArray, List.set_cons_zero, List.set_cons_succ]
    refine takeH 9 (v := ?va9) rfl (by kernel_rfl) (by kernel_rfl) (by kernel_rfl) (fun _ _ _ h => h) hH rfl ?ya9 ?ra9
    case ya9 => intro W hSw; go_simp; try with_reducible rfl
    try simp only [Act.put, List.setIfInBounds_toArray, List.set_cons_zero, List.set_cons_succ]
    refine takeH 10 (v := ?va10) rfl (by kernel_rfl) (by kernel_rfl) (by kernel_rfl) (fun _ _ _ h => h) hH rfl ?ya10 ?ra10
    case ya10 => intro W hSw; go_simp; try with_reducible rfl
    try simp only [Act.put, List.setIfInBounds_toArray, List.set_cons_zero, List.set_cons_succ]
    refine takeH 11 (v := ?va11) rfl (by kernel_rfl) (by kernel_rfl) (by kernel_rfl) (fun _ _ _ h => h) hH rfl ?ya11 ?ra11
    case ya11 => intro W hSw; go_simp; try with_reducible rfl
    try simp only [Act.put, List.setIfInBounds_toArray, List.set_cons_zero, List.set_cons_succ]
    refine takeH 12 (v := ?va12) rfl (by kernel_rfl) (by kernel_rfl) (by kernel_rfl) (fun _ _ _ h => h) hH rfl ?ya12 ?ra12
    case ya12 => intro W hSw; go_simp; try with_reducible rfl
    try simp only [Act.put, List.setIfInBounds_toArray, List.set_cons_zero, List.set_cons_succ]
    refine takeH 13 (v := ?va13) rfl (by kernel_rfl) (by kernel_rfl) (by kernel_rfl) (fun _ _ _ h => h) hH rfl ?ya13 ?ra13
    case ya13 => intro W hSw; go_simp; try with_reducible rfl
    try simp only [Act.put, List.setIfInBounds_toArray, List.set_cons_zero, List.set_cons_succ]
    refine takeH 14 (v := ?va14) rfl (by kernel_rfl) (by kernel_rfl) (by kernel_rfl) (fun _ _ _ h => h) hH rfl ?ya14 ?ra14
    case ya14 => intro W hSw; go_simp; try with_reducible rfl
    try simp only [Act.put, List.setIfInBounds_toArray, List.set_cons_zero, List.set_cons_succ]
    refine wpAnyH_done (by kernel_rfl) ?_ _
    try simp only [Act.put]
    have hdr : w.grownBy w.drew (some M) := below_rowP (Below.refl _ _).drew _
    have hst : Str w.drew M 121 (marksV bs) := HM2.out
    generalize w.drew = W1 at *
    go_wp2
    go_end0
    exact ⟨rfl, hdr, bs, hst, Hd.out⟩
  | false =>
    rw [hb] at em
    have Hk0 := Lib.hid (mkk_start Hsrt.out Hin.out hy Hc.out)
    clear hb
    go_enter Tryd.func78, Tryd.ntmps78
    go_wp2_with fail
    refine wp_region_held_drew (S := fun w' => w'.cell? ⟨q', 0, none⟩ = some (.int .i64 y.r) ∧ w'.cell? ⟨q', 1, none⟩ = some (.int .i64 y.a) ∧ w'.cell? ⟨M, plM y.r y.a, none⟩ = some (.bool false)) (by kernel_rfl) ⟨e0, e1, em⟩ (fun hH => ?_)
    refine takeH 0 (v := ?vb0) rfl (by kernel_rfl) (by kernel_rfl) (by kernel_rfl) (fun _ _ _ h => h) hH rfl ?yb0 ?rb0
    case yb0 => intro W hSw; go_simp; try with_reducible rfl
    try simp only [Act.put, List.setIfInBounds_toArray, List.set_cons_zero, List.set_cons_succ]
    refine takeH 1 (v := ?vb1) rfl (by kernel_rfl) (by kernel_rfl) (by kernel_rfl) (fun _ _ _ h => h) hH rfl ?yb1 ?rb1
    case yb1 => intro W hSw; go_simp; try with_reducible rfl
    try simp only [Act.put, List.setIfInBounds_toArray, List.set_cons_zero, List.set_cons_succ]
    refine takeH 2 (v := ?vb2) rfl (by kernel_rfl) (by kernel_rfl) (by kernel_rfl) (fun _ _ _ h => h) hH rfl ?yb2 ?rb2
    case yb2 => intro W hSw; go_simp; try with_reducible rfl
    try simp only [Act.put, List.setIfInBounds_toArray, List.set_cons_zero, List.set_cons_succ]
    refine takeH 3 (v := ?vb3) rfl (by kernel_rfl) (by kernel_rfl) (by kernel_rfl) (fun _ _ _ h => h) hH rfl ?yb3 ?rb3
    case yb3 => intro W hSw; go_simp; try with_reducible rfl
    try simp only [Act.put, List.setIfInBounds_toArray, List.set_cons_zero, List.set_cons_succ]
    refine takeH 4 (v := ?vb4) rfl (by kernel_rfl) (by kernel_rfl) (by kernel_rfl) (fun _ _ _ h => h) hH rfl ?yb4 ?rb4
    case yb4 => intro W hSw; go_simp; try with_reducible rfl
    try simp only [Act.put, List.setIfInBounds_toArray, List.set_cons_zero, List.set_cons_succ]
    refine takeH 5 (v := ?vb5) rfl (by kernel_rfl) (by kernel_rfl) (by kernel_rfl) (fun _ _ _ h => h) hH rfl ?yb5 ?rb5
    case yb5 => intro W hSw; go_simp; try with_reducible rfl
    try simp only [Act.put, List.setIfInBounds_toArray, List.set_cons_zero, List.set_cons_succ]
    refine takeH 6 (v := ?vb6) rfl (by kernel_rfl) (by kernel_rfl) (by kernel_rfl) (fun _ _ _ h => h) hH rfl ?yb6 ?rb6
    case yb6 => intro W hSw; go_simp; try with_reducible rfl
    try simp only [Act.put, List.setIfInBounds_toArray, List.set_cons_zero, List.set_cons_succ]
    refine takeH 7 (v := ?vb7) rfl (by kernel_rfl) (by kernel_rfl) (by kernel_rfl) (fun _ _ _ h => h) hH rfl ?yb7 ?rb7
    case yb7 => intro W hSw; go_simp; try with_reducible rfl
    try simp only [Act.put, List.setIfInBounds_toArray, List.set_cons_zero, List.set_cons_succ]
    refine takeH 8 (v := ?vb8) rfl (by kernel_rfl) (by kernel_rfl) (by kernel_rfl) (fun _ _ _ h => h) hH rfl ?yb8 ?rb8
    case yb8 => intro W hSw; go_simp; try with_reducible rfl
    try simp only [Act.put, List.setIfInBounds_toArray, List.set_cons_zero, List.set_cons_succ]
    refine takeH 9 (v := ?vb9) rfl (by kernel_rfl) (by kernel_rfl) (by kernel_rfl) (fun _ _ _ h => h) hH rfl ?yb9 ?rb9
    case yb9 => intro W hSw; go_simp; try with_reducible rfl
    try simp only [Act.put, List.setIfInBounds_toArray, List.set_cons_zero, List.set_cons_succ]
    refine takeH 10 (v := ?vb10) rfl (by kernel_rfl) (by kernel_rfl) (by kernel_rfl) (fun _ _ _ h => h) hH rfl ?yb10 ?rb10
    case yb10 => intro W hSw; go_simp; try with_reducible rfl
    try simp only [Act.put, List.setIfInBounds_toArray, List.set_cons_zero, List.set_cons_succ]
    refine takeH 11 (v := ?vb11) rfl (by kernel_rfl) (by kernel_rfl) (by kernel_rfl) (fun _ _ _ h => h) hH rfl ?yb11 ?rb11
    case yb11 => intro W hSw; go_simp; try with_reducible rfl
    try simp only [Act.put, List.setIfInBounds_toArray, List.set_cons_zero, List.set_cons_succ]
    refine takeH 12 (v := ?vb12) rfl (by kernel_rfl) (by kernel_rfl) (by kernel_rfl) (fun _ _ _ h => h) hH rfl ?yb12 ?rb12
    case yb12 => intro W hSw; go_simp; try with_reducible rfl
    try simp only [Act.put, List.setIfInBounds_toArray, List.set_cons_zero, List.set_cons_succ]
    refine takeH 13 (v := ?vb13) rfl (by kernel_rfl) (by kernel_rfl) (by kernel_rfl) (fun _ _ _ h => h) hH rfl ?yb13 ?rb13
    case yb13 => intro W hSw; go_simp; try with_reducible rfl
    try simp only [Act.put, List.setIfInBounds_toArray, List.set_cons_zero, List.set_cons_succ]
    refine takeH 14 (v := ?vb14) rfl (by kernel_rfl) (by kernel_rfl) (by kernel_rfl) (fun _ _ _ h => h) hH rfl ?yb14 ?rb14
    case yb14 => intro W hSw; go_simp; try with_reducible rfl
    try simp only [Act.put, List.setIfInBounds_toArray, List.set_cons_zero, List.set_cons_succ]
    refine wpAnyH_done (by kernel_rfl) ?_ _
    try simp only [Act.put]
    have hdr : w.grownBy w.drew (some M) := below_rowP (Below.refl _ _).drew _
    have hst : Str w.drew M 121 (marksV bs) := HM2.out
    obtain ⟨e0, e1, em⟩ := hH
    generalize w.drew = W1 at *
    have HG1 := Lib.hid (grownBy_trans HG.out hdr)
    have Hdr := Lib.hid hdr
    have gm : W1.drew.cell? ⟨M, plM y.r y.a, none⟩ = some (.bool false) := em
    have gf : W1.drew.frozen? ⟨M, plM y.r y.a, none⟩ = false := hst.frozen _
    have Hst := Lib.hid hst
    clear hst hdr em
    go_wp2_with fail
    refine wp_region_L 14 (fun w' => w'.cell? ⟨q', 0, none⟩ = some (.int .i64 y.r) ∧ w'.cell? ⟨q', 1, none⟩ = some (.int .i64 y.a)) (by kernel_rfl) ⟨e0, e1⟩ (fun hH => ?_)
    refine takeL 0 (v := ?vc0) rfl (by kernel_rfl) (by kernel_rfl) (by kernel_rfl) (by kernel_rfl) (by kernel_rfl) (fun _ _ _ h => h) hH rfl ?yc0 ?rc0
    case yc0 => intro w hSw; go_simp; try with_reducible rfl
    try simp only [Act.put, List.setIfInBounds_toArray, List.set_cons_zero, List.set_cons_succ]
    refine takeL 1 (v := ?vc1) rfl (by kernel_rfl) (by kernel_rfl) (by kernel_rfl) (by kernel_rfl) (by kernel_rfl) (fun _ _ _ h => h) hH rfl ?yc1 ?rc1
    case yc1 => intro w hSw; go_simp; try with_reducible rfl
    try simp only [Act.put, List.setIfInBounds_toArray, List.set_cons_zero, List.set_cons_succ]
    refine takeL 2 (v := ?vc2) rfl (by kernel_rfl) (by kernel_rfl) (by kernel_rfl) (by kernel_rfl) (by kernel_rfl) (fun _ _ _ h => h) hH rfl ?yc2 ?rc2
    case yc2 => intro w hSw; go_simp; try with_reducible rfl
    try simp only [Act.put, List.setIfInBounds_toArray, List.set_cons_zero, List.set_cons_succ]
    refine takeL 3 (v := ?vc3) rfl (by kernel_rfl) (by kernel_rfl) (by kernel_rfl) (by kernel_rfl) (by kernel_rfl) (fun _ _ _ h => h) hH rfl ?yc3 ?rc3
    case yc3 => intro w hSw; go_simp; try with_reducible rfl
    try simp only [Act.put, List.setIfInBounds_toArray, List.set_cons_zero, List.set_cons_succ]
    refine takeL 4 (v := ?vc4) rfl (by kernel_rfl) (by kernel_rfl) (by kernel_rfl) (by kernel_rfl) (by kernel_rfl) (fun _ _ _ h => h) hH rfl ?yc4 ?rc4
    case yc4 => intro w hSw; go_simp; try with_reducible rfl
    try simp only [Act.put, List.setIfInBounds_toArray, List.set_cons_zero, List.set_cons_succ]
    refine takeL 5 (v := ?vc5) rfl (by kernel_rfl) (by kernel_rfl) (by kernel_rfl) (by kernel_rfl) (by kernel_rfl) (fun _ _ _ h => h) hH rfl ?yc5 ?rc5
    case yc5 => intro w hSw; go_simp; try with_reducible rfl
    try simp only [Act.put, List.setIfInBounds_toArray, List.set_cons_zero, List.set_cons_succ]
    refine takeL 6 (v := ?vc6) rfl (by kernel_rfl) (by kernel_rfl) (by kernel_rfl) (by kernel_rfl) (by kernel_rfl) (fun _ _ _ h => h) hH rfl ?yc6 ?rc6
    case yc6 => intro w hSw; go_simp; try with_reducible rfl
    try simp only [Act.put, List.setIfInBounds_toArray, List.set_cons_zero, List.set_cons_succ]
    refine takeL 7 (v := ?vc7) rfl (by kernel_rfl) (by kernel_rfl) (by kernel_rfl) (by kernel_rfl) (by kernel_rfl) (fun _ _ _ h => h) hH rfl ?yc7 ?rc7
    case yc7 => intro w hSw; go_simp; try with_reducible rfl
    try simp only [Act.put, List.setIfInBounds_toArray, List.set_cons_zero, List.set_cons_succ]
    refine takeL 8 (v := ?vc8) rfl (by kernel_rfl) (by kernel_rfl) (by kernel_rfl) (by kernel_rfl) (by kernel_rfl) (fun _ _ _ h => h) hH rfl ?yc8 ?rc8
    case yc8 => intro w hSw; go_simp; try with_reducible rfl
    try simp only [Act.put, List.setIfInBounds_toArray, List.set_cons_zero, List.set_cons_succ]
    refine takeL 9 (v := ?vc9) rfl (by kernel_rfl) (by kernel_rfl) (by kernel_rfl) (by kernel_rfl) (by kernel_rfl) (fun _ _ _ h => h) hH rfl ?yc9 ?rc9
    case yc9 => intro w hSw; go_simp; try with_reducible rfl
    try simp only [Act.put, List.setIfInBounds_toArray, List.set_cons_zero, List.set_cons_succ]
    refine takeL 10 (v := ?vc10) rfl (by kernel_rfl) (by kernel_rfl) (by kernel_rfl) (by kernel_rfl) (by kernel_rfl) (fun _ _ _ h => h) hH rfl ?yc10 ?rc10
    case yc10 => intro w hSw; go_simp; try with_reducible rfl
    try simp only [Act.put, List.setIfInBounds_toArray, List.set_cons_zero, List.set_cons_succ]
    refine callL 11 rfl (by kernel_rfl) rfl (fun K hK => ?_)
    go_simp
    refine hK.out _ _ hH (fun hH => ?_)
    clear hK K
    try simp only [Act.put, List.setIfInBounds_toArray, List.set_cons_zero, List.set_cons_succ]
    refine callL 12 rfl (by kernel_rfl) rfl (fun K hK => ?_)
    go_simp
    refine hK.out _ _ hH (fun hH => ?_)
    clear hK K
    try simp only [Act.put, List.setIfInBounds_toArray, List.set_cons_zero, List.set_cons_succ]
    refine callL 13 rfl (by kernel_rfl) rfl (fun K hK => ?_)
    go_simp
    refine hK.out _ _ hH (fun hH => ?_)
    clear hK K
    try simp only [Act.put, List.setIfInBounds_toArray, List.set_cons_zero, List.set_cons_succ]
    refine lastL rfl (by kernel_rfl) (by kernel_rfl) (by kernel_rfl) rfl (fun K hK => ?_)
    go_simp
    refine hK.out _ _ ?_
    clear hK K
    try simp only [Act.put, List.setIfInBounds_toArray, List.set_cons_zero, List.set_cons_succ]
    have hs2 : Str (W1.setCell ⟨M, plM y.r y.a, none⟩ (.bool true)).drew M 121 (marksV (setM bs (plM y.r y.a))) := by
      have := Str.set (W := W1) Hst.out (plM y.r y.a) (.bool true)
      rw [marksV_set] at this
      exact this
    have hg2 : W1.grownBy (W1.setCell ⟨M, plM y.r y.a, none⟩ (.bool true)).drew (some M) := grownBy_trans (grownBy_set W1 M (plM y.r y.a) (.bool true)) (below_rowP (Below.refl _ _).drew _)
    generalize (W1.setCell ⟨M, plM y.r y.a, none⟩ (.bool true)).drew = W2 at *
    have HG2 := Lib.hid (grownBy_trans HG1.out hg2)
    have Hg2 := Lib.hid (grownBy_trans Hdr.out hg2)
    have Hs2 := Lib.hid hs2
    have e4 := (HN.out W2 HG2.out).1.cell 4 (v := .slice pp qs.length pcap) rfl
    clear hs2 hg2 gm gf e0 e1 hH
    go_wp2_with fail
    go_loopw [40] (fun i wr => ∃ (k : Nat) (b2 : Nat → Bool), k ≤ qs.length ∧ i = .int .i64 k ∧ wl.grownBy wr (some M) ∧ w.grownBy wr (some M) ∧ Str wr M 121 (marksV b2) ∧ Mkk g y bs b2 k) (fun i _ => qs.length - (intOf i).toNat)
    case atStart => exact ⟨0, _, by omega, rfl, HG2.out, Hg2.out, Hs2.out, Hk0.out⟩
    case round =>
      obtain ⟨k, b2, hk, rfl, hgl, hgw, hsm, hmk⟩ := hrel
      by_cases hlt : k < qs.length
      · obtain ⟨gb, cap, ep, _, _, hcell⟩ := (HN.out wr hgl).2.cell k hlt
        have hkp : k < y.ps.length := by have := Hql.out; omega
        obtain ⟨z, hz, hzr, hza⟩ := Hpar.out y hy y.ps[k] (List.getElem_mem hkp)
        have hr1 : 1 ≤ y.r := by
          by_cases e : y.r = 0
          · have := Hr0.out y hy e; omega
          · have := Hiy.out.1; omega
        have hzq : h (plN z.r z.a) = ptrV qs[k] := by rw [hzr, hza]; exact Hqp.out k hlt hkp
        have iz := Hin.out z hz
        unfold inPl at iz
        have Hcall := Lib.hid (Hih.out z.r.toNat (by have := Hn.out; omega) z qs[k] wr b2 hz rfl hzq hgl hsm (by rw [hzr]; exact hmk.cls))
        have Hstep := Lib.hid (fun b3 => mkk_step (b2 := b3) Hin.out hy hmk hz hkp hzr hza)
        have Hgl := Lib.hid hgl
        have Hgw := Lib.hid hgw
        simp only [Value.slice.injEq, true_and] at ep
        obtain ⟨rfl, rfl⟩ := ep
        unfold ptrV at hcell
        generalize qs[k] = qk at *
        clear hgl hgw hsm hmk hzr hza hzq iz hr1 hkp
        go_wp2_with fail
        refine Hcall.out.mono ?_
        rintro e w2 ⟨rfl, hg3, b3, hs3, hd3⟩
        have Hg3 := Lib.hid hg3
        have Hs3 := Lib.hid hs3
        have Hd3 := Lib.hid hd3
        clear hg3 hs3 hd3 hcell
        go_wp2
        go_roundw
        case rel => exact ⟨k + 1, b3, by omega, by go_num, grownBy_trans Hgl.out Hg3.out, grownBy_trans Hgw.out Hg3.out, Hs3.out, Hstep.out _ Hd3.out⟩
        case measure => simp [intOf]; omega
      · have hke : k = y.ps.length := by have := Hql.out; omega
        rw [hke] at hmk
        have Hmk := Lib.hid (mkk_end Hsrt.out Hin.out hy Hc.out hmk)
        have Hgw := Lib.hid hgw
        have Hsm := Lib.hid hsm
        clear hmk hgl hgw hsm hke
        go_wp2
        go_end0
        exact ⟨rfl, Hgw.out, b2, Hsm.out, Hmk.out⟩

end Go.Proofs.YtjaacdapibokiabDoor

/- impl's GraphPast, by a walk of its text; conditions: lists are shorter than 2^40 (a graph: 2^20). -/
namespace Go.Proofs.YtjaacdapibokiabDoor
open Go.RowKit

theorem own_ne_str {E t : TypeId} {w : World} {B M : Nat} {v : Value} {xs : List Int} {vs : Array Value} (h : Own E w B v xs) (s : Str w M t vs) (hne : E ≠ t) : v.ownBlock ≠ some M := by
  intro e
  rcases h.2 with ⟨rfl, _⟩ | ⟨g, cap, cur, rfl, _, hg, _⟩
  · cases e
  · cases e
    have := hg.symm.trans s
    simp at this
    exact hne this.2
theorem pair_uni {g : List Vx} (h : Srt g) {i j : Nat} (hi : i < g.length) (hj : j < g.length) (hr : g[i].r = g[j].r) (ha : g[i].a = g[j].a) : i = j := by
  have hs := List.pairwise_iff_getElem.1 h
  rcases Nat.lt_trichotomy i j with h1 | h1 | h1
  · have := befB_iff.1 (hs i j hi hj h1); omega
  · exact h1
  · have := befB_iff.1 (hs j i hj hi h1); omega
/-- The marks are the past, as the reference reckons it. -/
theorem marks_past {c : List Int} {g : List Vx} (h : graphB c g = true) {a : Nat} (ha : a < g.length) {bs : Nat → Bool} (hm : Mkd g g[a] (fun _ => false) bs) (hr : ∀ z ∈ g, z.r ≤ g[a].r ∨ True) : ∀ j (hj : j < g.length), bs (plM g[j].r g[j].a) = (pastB g a).getD j false := by
  have hs := graph_sorted h
  obtain ⟨hcl, hca, hcb⟩ := past_closed h ha
  have hfind : ∀ j (hj : j < g.length), findZ g g[j].r g[j].a = j := fun j hj => by
    obtain ⟨k, hk, e, e2⟩ := findZ_mem hs (List.getElem_mem hj)
    rw [e, pair_uni hs hk hj (by rw [e2]) (by rw [e2])]
  have h1 : ∀ j (hj : j < g.length), bs (plM g[j].r g[j].a) = true → (pastB g a).getD j false = true := by
    intro j hj hb
    rcases hm.only (fun z => ∃ i, ∃ hi : i < g.length, g[i] = z ∧ (pastB g a).getD i false = true) (fun y hy hP p hp z hz er ea => by
      obtain ⟨i, hi, rfl, hb⟩ := hP
      obtain ⟨k, hk, rfl⟩ := List.mem_iff_getElem.1 hp
      obtain ⟨j, hj, e, e2⟩ := findZ_mem hs hz
      rw [er, ea] at e
      have := hcl i hi (Nat.zero_le _) hb k hk
      rw [e, Int.toNat_natCast] at this
      exact ⟨j, hj, e2, this⟩) ⟨a, ha, rfl, hca⟩ g[j] (List.getElem_mem hj) hb with h0 | ⟨i, hi, e, hb⟩
    · cases h0
    · rwa [pair_uni hs hi hj (by rw [e]) (by rw [e])] at hb
  have h2 : ∀ n j, (hj : j < g.length) → g.length - j ≤ n → (pastB g a).getD j false = true → bs (plM g[j].r g[j].a) = true ∧ g[j].r ≤ g[a].r := by
    intro n
    induction n with
    | zero => intro j hj hn; omega
    | succ n ih =>
      intro j hj hn hb
      by_cases e : j = a
      · subst e; exact ⟨hm.it, Int.le_refl _⟩
      · obtain ⟨i, hi, hji, hbi, _, er, ep⟩ := past_least h ha j hb e
        obtain ⟨i1, i2⟩ := ih i hi (by omega) hbi
        have := hm.cls g[i] (List.getElem_mem hi) i2 i1 g[j].a ep
        rw [show g[i].r - 1 = g[j].r by omega] at this
        exact ⟨this, by omega⟩
  intro j hj
  cases hb : (pastB g a).getD j false with
  | true => exact (h2 (g.length - j) j hj (Nat.le_refl _) hb).1
  | false =>
    cases hb2 : bs (plM g[j].r g[j].a) with
    | false => rfl
    | true => rw [h1 j hj hb2] at hb; cases hb
theorem pastB_none (g : List Vx) : idxTo (pastB g (-1)) g.length = [] := by
  unfold idxTo pastB
  rw [if_pos (by omega)]
  rw [List.map_eq_nil_iff, List.filter_eq_nil_iff]
  intro i hi
  have hi' := List.mem_range.1 hi
  simp [List.getD, hi']

end Go.Proofs.YtjaacdapibokiabDoor

/- impl's test of leaders, by walks of its texts; condition: lists are shorter than 2^40. -/
namespace Go.Proofs.YtjaacdapibokiabDoor
open Go.RowKit

set_option maxHeartbeats 1000000 in
theorem committee_hasLeaders (ac : Option Addr) (capc : Nat) (n : Nat) (al : Option Addr) (cap : Nat) (ls : List Int) (w : World) (_hn : n ≤ 1099511627776) (hbig : ls.length ≤ 1099511627776) (hc : IntsAt w al ls) :
    Calls Tryd.prog 61 #[.slice ac n capc, .slice al ls.length cap] w fun e w' => e = .returned (.bool (ldsB n ls)) ∧ w = w' := by
  have Hc := Lib.hid hc; clear hc
  by_cases h15 : ls.length ≤ 15
  case neg =>
    have hz := Lib.hid (show ldsB n ls = false by unfold ldsB; rw [decide_eq_false h15]; simp)
    have h15' : decide ((15 : Int) < (ls.length : Int)) = true := decide_eq_true (by omega)
    have h15'' : (15 : Int) < (ls.length : Int) := by omega
    go_enter Tryd.func61, Tryd.ntmps61
    go_wp2
    go_ret
    exact ⟨by rw [hz.out]; rfl, rfl⟩
  have hz := Lib.hid (show ldsB n ls = allB (okLd n ls) ls.length by unfold ldsB; rw [decide_eq_true h15]; simp)
  have h15' : ¬ (15 : Int) < (ls.length : Int) := by omega
  go_enter Tryd.func61, Tryd.ntmps61
  go_wp2
  go_loopw [12] (fun i wr => ∃ k : Nat, k ≤ ls.length ∧ i = .int .i64 k ∧ Hid (Upto (okLd n ls) k) ∧ w = wr) (fun i _ => ls.length - (intOf i).toNat)
  case atStart => exact ⟨0, by omega, rfl, Lib.hid (upto_zero _), rfl⟩
  case round =>
    obtain ⟨k, hk, rfl, hup, rfl⟩ := hrel
    by_cases hlt : k < ls.length
    · obtain ⟨b, off, rfl, hb, hat⟩ := Hc.out.cell (by omega)
      have hcell := hat k hlt
      have hgd := getD_get hlt
      have hok : okLd n ls k = decide (0 ≤ ls[k] ∧ ls[k] ≤ (n : Int) - 1) := by unfold okLd; rw [hgd]
      have Hok := Lib.hid hok
      clear hat hgd hok
      generalize ls[k] = x at *
      by_cases h1 : x < 0
      · have hres := Lib.hid (show ldsB n ls = false by rw [hz.out]; exact allB_no hlt (Hok.out.trans (decide_eq_false (by omega))))
        go_wp2
        go_ret
        exact ⟨by rw [hres.out]; rfl, rfl⟩
      by_cases h2 : (n : Int) ≤ x
      · have hres := Lib.hid (show ldsB n ls = false by rw [hz.out]; exact allB_no hlt (Hok.out.trans (decide_eq_false (by omega))))
        go_wp2
        go_ret
        exact ⟨by rw [hres.out]; rfl, rfl⟩
      have Hs := Lib.hid (upto_step hup.out (Hok.out.trans (decide_eq_true (by omega))))
      go_wp2
      go_roundw
      case rel => exact ⟨k + 1, by omega, by go_num, Lib.hid Hs.out, trivial⟩
      case measure => simp [intOf]; omega
    · have hres := Lib.hid (show ldsB n ls = true by rw [hz.out, allB_yes hup.out (by omega)])
      go_wp2
      go_ret
      exact ⟨by rw [hres.out]; rfl, rfl⟩

theorem impl_LeadersValid (ac : Option Addr) (capc : Nat) (c : List Int) (al : Option Addr) (cap : Nat) (ls : List Int) (w : World) (hn : c.length ≤ 1099511627776) (hl : ls.length ≤ 1099511627776) (hc : IntsAt w ac c) (hi : IntsAt w al ls) :
    Calls Tryd.prog 46 #[.slice ac c.length capc, .slice al ls.length cap] w fun e w' => e = .returned (.bool (lvB c ls)) ∧ w = w' := by
  have HV := Lib.hid (impl_CommitteeValid ac capc c w hn hc)
  have HL := Lib.hid (committee_hasLeaders ac capc c.length al cap ls w hn hl hi)
  have Hres := Lib.hid (show lvB c ls = (validB c && ldsB c.length ls) from rfl)
  clear hc hi
  go_enter Tryd.func46, Tryd.ntmps46
  go_wp2_with fail
  refine HV.out.mono ?_
  rintro e w1 ⟨rfl, rfl⟩
  cases h1 : validB c with
  | false =>
    go_wp2
    go_ret
    exact ⟨ret_bool (by rw [Hres.out, h1]; rfl), rfl⟩
  | true =>
  go_wp2_with fail
  refine HL.out.mono ?_
  rintro e w2 ⟨rfl, rfl⟩
  go_wp2
  go_ret
  exact ⟨ret_bool (by rw [Hres.out, h1]; rfl), rfl⟩

end Go.Proofs.YtjaacdapibokiabDoor

/- impl's graph with its leaders, each by a walk of its text; conditions: lists are shorter than 2^40 (a graph: 2^20). -/
namespace Go.Proofs.YtjaacdapibokiabDoor
open Go.RowKit

/-- The graph with its leaders. -/
structure Lg (w0 w : World) (hi G q : Nat) (mv : Value) (h : Nat → Value) (g : List Vx) (al : Option Addr) (cap : Nat) (ls : List Int) : Prop where
  lk : Lk w0 w hi G mv h g
  st : Str w q 84 #[.pointer (some ⟨G, 0, none⟩), .slice al ls.length cap]
  hq : hi ≤ q
theorem Lg.under {w0 w w' : World} {hi G q : Nat} {mv : Value} {h : Nat → Value} {g : List Vx} {al : Option Addr} {cap : Nat} {ls : List Int} (l : Lg w0 w hi G q mv h g al cap ls) (hb : Below w.heap.size w w') : Lg w0 w' hi G q mv h g al cap ls :=
  ⟨l.lk.under hb, (hb.block _ l.st.lt).trans l.st, l.hq⟩
set_option maxRecDepth 8000 in
theorem ledGraphOf_no (ac : Option Addr) (capc : Nat) (c : List Int) (g : List Vx) (v : Value) (fp : List Nat) (al : Option Addr) (cap : Nat) (ls : List Int) (eN eI : Addr) (w : World) (hn : c.length ≤ 1099511627776) (hbig : g.length ≤ 1048576) (hps : ∀ x ∈ g, x.ps.length ≤ 1099511627776) (hl : ls.length ≤ 1099511627776) (hc : IntsAt w ac c) (hg : Gr w g v fp) (hi : IntsAt w al ls) (hs : Sen w eN eI) (hno : waB c g ls = false) :
    Calls Tryd.prog 30 #[.slice ac c.length capc, v, .slice al ls.length cap] w fun e w' => e = .returned (.tuple #[.pointer none, .iface 139 (.pointer (some eI))]) ∧ Below w.heap.size w w' := by
  cases hgb : graphB c g with
  | false =>
    have H := Lib.hid (graphOf_no ac capc c g v fp w hn hbig hps hc hg hgb)
    have Hs := Lib.hid hs
    clear hc hg hps hi hs hno hgb
    go_enter Tryd.func30, Tryd.ntmps30
    go_wp2_with fail
    refine H.out.mono ?_
    rintro e w1 ⟨rfl, hb⟩
    have hgI := (Hs.out.below hb).gI
    have Hb := Lib.hid hb; clear hb
    go_wp2_with fail
    go_quiet (fail)
    go_wp2
    go_ret2
    exact ⟨rfl, below_step Hb.out Hb.out.size (((Drawn.refl _).drewN _).below _)⟩
  | true =>
    have hlv : lvB c ls = false := by
      unfold waB at hno; rw [hgb] at hno
      unfold lvB
      rw [show ldsB c.length ls = false by simpa using hno]; simp
    have H := Lib.hid (graphOf_yes ac capc c g v fp w hn hbig hps hc hg hgb)
    have HL := Lib.hid (fun W (hb : Below w.heap.size w W) => impl_LeadersValid ac capc c al cap ls W hn hl (hc.below hb) (hi.below hb))
    rw [hlv] at HL
    have Hs := Lib.hid hs
    clear hc hg hps hi hs hno hgb hlv
    go_enter Tryd.func30, Tryd.ntmps30
    go_wp2_with fail
    refine H.out.mono ?_
    rintro e w1 ⟨G, rfl, hb, _⟩
    have hgI := (Hs.out.below hb).gI
    have Hb := Lib.hid hb; clear hb
    go_wp2_with fail
    refine (HL.out w1 Hb.out).mono ?_
    rintro e w2 ⟨rfl, rfl⟩
    go_wp2_with fail
    go_quiet (fail)
    go_wp2
    go_ret2
    exact ⟨rfl, below_step Hb.out Hb.out.size (((Drawn.refl _).drewN _).below _)⟩
set_option maxRecDepth 8000 in
theorem ledGraphOf_yes (ac : Option Addr) (capc : Nat) (c : List Int) (g : List Vx) (v : Value) (fp : List Nat) (al : Option Addr) (cap : Nat) (ls : List Int) (w : World) (hn : c.length ≤ 1099511627776) (hbig : g.length ≤ 1048576) (hps : ∀ x ∈ g, x.ps.length ≤ 1099511627776) (hl : ls.length ≤ 1099511627776) (hc : IntsAt w ac c) (hg : Gr w g v fp) (hi : IntsAt w al ls) (hyes : waB c g ls = true) :
    Calls Tryd.prog 30 #[.slice ac c.length capc, v, .slice al ls.length cap] w fun e w' => ∃ q G hi' h, e = .returned (.tuple #[.pointer (some ⟨q, 0, none⟩), .nilIface]) ∧ Below w.heap.size w w' ∧ w.heap.size ≤ q ∧ Lg w w' hi' G q (.slice ac c.length capc) h g al cap ls := by
  have hgb : graphB c g = true := by unfold waB at hyes; simp only [Bool.and_eq_true] at hyes; exact hyes.1
  have hv : validB c = true := by have h := hgb; unfold graphB at h; simp only [Bool.and_eq_true] at h; exact h.1
  have hlv : lvB c ls = true := by
    unfold waB at hyes; simp only [Bool.and_eq_true] at hyes
    unfold lvB; rw [hv, hyes.2]; rfl
  have H := Lib.hid (graphOf_yes ac capc c g v fp w hn hbig hps hc hg hgb)
  have HL := Lib.hid (fun W (hb : Below w.heap.size w W) => impl_LeadersValid ac capc c al cap ls W hn hl (hc.below hb) (hi.below hb))
  rw [hlv] at HL
  clear hc hg hps hi hyes hgb hlv hv
  go_enter Tryd.func30, Tryd.ntmps30
  go_wp2_with fail
  refine H.out.mono ?_
  rintro e w1 ⟨G, rfl, hb, hG, hi', h, hL⟩
  have HLk := Lib.hid hL
  have Hb := Lib.hid hb; clear hb hL
  go_wp2_with fail
  refine (HL.out w1 Hb.out).mono ?_
  rintro e w2 ⟨rfl, rfl⟩
  have hal : Below w1.heap.size w1 (w1.alloc (.cells #[.pointer (some ⟨G, 0, none⟩), .slice al ls.length cap] 84)) := (Below.refl _ _).alloc (Nat.le_refl _) _
  have Hal := Lib.hid hal; clear hal
  have HS := Lib.hid (Str.new w1 84 #[.pointer (some ⟨G, 0, none⟩), .slice al ls.length cap])
  go_wp2
  go_ret2
  exact ⟨w1.heap.size, G, hi', h, rfl, below_step Hb.out Hb.out.size Hal.out, Hb.out.size, HLk.out.under Hal.out, HS.out, HLk.out.le⟩

end Go.Proofs.YtjaacdapibokiabDoor

/- impl's leader vertex of a wave, by walks of its text; condition: there are at most 15 leaders, each from 0 to 6. -/
namespace Go.Proofs.YtjaacdapibokiabDoor
open Go.RowKit

section
variable {w0 w : World} {hi G q : Nat} {mv : Value} {h : Nat → Value} {g : List Vx} {al : Option Addr} {cap : Nat} {ls : List Int} {eN eI : Addr}
set_option maxRecDepth 8000 in
theorem led_leader_bad (l : Lg w0 w hi G q mv h g al cap ls) (hs : Sen w eN eI) (k : Int) (_hl : ls.length ≤ 15) (hk : ¬ (1 ≤ k ∧ k ≤ ls.length)) :
    Calls Tryd.prog 32 #[.pointer (some ⟨q, 0, none⟩), .int .i64 k] w fun e w' => e = .returned (.tuple #[.pointer none, .iface 139 (.pointer (some eI))]) ∧ Drawn w w' := by
  have c1 := l.st.cell 1 (v := .slice al ls.length cap) rfl
  have hgI := hs.gI
  by_cases h1 : k < 1
  · have h1' : decide (k < 1) = true := decide_eq_true h1
    clear hs l hk
    go_enter Tryd.func32, Tryd.ntmps32
    go_wp2_with fail
    go_quiet (fail)
    go_wp2
    go_ret2
    exact ⟨rfl, (Drawn.refl _).drewN _⟩
  · have h1' : decide (k < 1) = false := decide_eq_false h1
    have h2 : (ls.length : Int) < k := by omega
    have h2' : decide ((ls.length : Int) < k) = true := decide_eq_true h2
    clear hs l hk
    go_enter Tryd.func32, Tryd.ntmps32
    go_wp2_with fail
    go_quiet (fail)
    go_wp2
    go_ret2
    exact ⟨rfl, (Drawn.refl _).drewN _⟩

/-- What the walk needs of a wave that exists. -/
theorem led_at (l : Lg w0 w hi G q mv h g al cap ls) (k : Nat) (hk : 1 ≤ k ∧ k ≤ ls.length) (hl : ls.length ≤ 15) (hls : ∀ j (hj : j < ls.length), 0 ≤ ls[j] ∧ ls[j] ≤ 6) (hi' : IntsAt w al ls) :
    ∃ (L : Int) (b off : Nat), L = ls.getD (k - 1) 0 ∧ 0 ≤ L ∧ L ≤ 6 ∧ al = some ⟨b, off, none⟩ ∧ w.cell? ⟨b, off + (k - 1), none⟩ = some (.int .i64 L) ∧ w.cell? ⟨G, plN (2 * (k : Int) - 1) L, none⟩ = some (h (plN (2 * (k : Int) - 1) L)) := by
  obtain ⟨b, off, rfl, hb, hat⟩ := hi'.cell (by omega)
  have h0 := hls (k - 1) (by omega)
  have hgd : ls.getD (k - 1) 0 = ls[k - 1]'(by omega) := getD_get (by omega)
  refine ⟨ls[k - 1]'(by omega), b, off, hgd.symm, h0.1, h0.2, rfl, hat (k - 1) (by omega), ?_⟩
  exact l.lk.cell (plN_bd (by omega) h0.2).2
set_option maxRecDepth 8000 in
set_option maxHeartbeats 1000000 in
theorem led_leader (l : Lg w0 w hi G q mv h g al cap ls) (hs : Sen w eN eI) (k : Nat) (hk : 1 ≤ k ∧ k ≤ ls.length) (hl : ls.length ≤ 15) (hls : ∀ j (hj : j < ls.length), 0 ≤ ls[j] ∧ ls[j] ≤ 6) (hi' : IntsAt w al ls) (hp : ∀ y ∈ g, inPl y) :
    Calls Tryd.prog 32 #[.pointer (some ⟨q, 0, none⟩), .int .i64 k] w fun e w' => ((ldZ g ls k = -1 ∧ e = .returned (.tuple #[.pointer none, .iface 139 (.pointer (some eN))])) ∨
      ∃ (j : Nat) (hj : j < g.length) (p : Nat), ldZ g ls k = j ∧ h (plN g[j].r g[j].a) = ptrV p ∧ e = .returned (.tuple #[.pointer (some ⟨p, 0, none⟩), .nilIface])) ∧ Drawn w w' := by
  obtain ⟨L, b, off, hL, hL0, hL6, rfl, hlc, hpc⟩ := led_at l k hk hl hls hi'
  obtain ⟨hk1, hk2⟩ := hk
  have c0 := l.st.cell 0 (v := .pointer (some ⟨G, 0, none⟩)) rfl
  have c1 := l.st.cell 1 (v := .slice (some ⟨b, off, none⟩) ls.length cap) rfl
  have hgN := hs.gN
  obtain ⟨o1, ho1, ho2⟩ := run_place G (2 * (k : Int) - 1) L (by omega) (by omega) hL0 hL6
  have Hz := Lib.hid (show ldZ g ls k = findZ g (2 * (k : Int) - 1) L by unfold ldZ; rw [hL])
  have e1 : IntKind.i64.wrap ((k : Int) - 1) = k - 1 := IntWalk.i64_in _ (by omega)
  have e2 : ((k : Int) - 1).toNat = k - 1 := by omega
  have e3 : 0 ≤ (k : Int) - 1 := by omega
  have e4 : (k : Int) - 1 < ls.length := by omega
  have e5 : 1 ≤ (k : Int) := by omega
  have e6 : (k : Int) ≤ 15 := by omega
  have e7 : decide ((k : Int) < 1) = false := decide_eq_false (by omega)
  have e8 : decide ((ls.length : Int) < (k : Int)) = false := decide_eq_false (by omega)
  have Hcase := Lib.hid (findZ_cases g (2 * (k : Int) - 1) L)
  have HLk := Lib.hid l
  have Hp := Lib.hid hp
  clear hs hls hi' hL l hp
  by_cases hz : ∃ (j : Nat) (hj : j < g.length), findZ g (2 * (k : Int) - 1) L = j ∧ g[j].r = 2 * (k : Int) - 1 ∧ g[j].a = L
  · obtain ⟨j, hj, ez, er, ea⟩ := hz
    obtain ⟨p, hq', _⟩ := HLk.out.lk.has g[j] (List.getElem_mem hj)
    have Hq := Lib.hid hq'
    rw [er, ea] at hq'
    rw [hq'] at hpc
    unfold ptrV at hpc
    have Hr := Lib.hid (show ldZ g ls k = j by rw [Hz.out, ez])
    clear hq' er ea ez
    go_enter Tryd.func32, Tryd.ntmps32
    go_wp2_with fail
    go_quiet (fail)
    go_wp2
    go_ret2
    exact ⟨.inr ⟨j, hj, p, Hr.out, Hq.out, rfl⟩, (Drawn.refl _).drewN _⟩
  · have hno : findZ g (2 * (k : Int) - 1) L = -1 ∧ ∀ y ∈ g, ¬ (y.r = 2 * (k : Int) - 1 ∧ y.a = L) := by
      rcases Hcase.out with ⟨e, hn⟩ | ⟨j, hj, e, hy, _⟩
      · exact ⟨e, fun y hy e2 => by have := hn y hy; unfold sameRA at this; simp at this; omega⟩
      · exact absurd ⟨j, hj, e, of_decide_eq_true hy⟩ hz
    have Hr := Lib.hid (show ldZ g ls k = -1 by rw [Hz.out]; exact hno.1)
    rw [HLk.out.lk.non _ _ (by omega) (by omega) hL0 hL6 hno.2] at hpc
    clear hno hz
    go_enter Tryd.func32, Tryd.ntmps32
    go_wp2_with fail
    go_quiet (fail)
    go_wp2_with fail
    go_quiet (fail)
    go_wp2
    go_ret2
    exact ⟨.inl ⟨Hr.out, rfl⟩, ((Drawn.refl _).drewN _).drewN _⟩
end

end Go.Proofs.YtjaacdapibokiabDoor

/- impl's votes for a leader vertex and the library's search among pointers, each by a walk of its text; conditions: the graph and the leaders are valid, lists are shorter than 2^40. -/
namespace Go.Proofs.YtjaacdapibokiabDoor
open Go.RowKit

/-- All that holds of a valid graph with valid leaders. -/
structure Good21 (c : List Int) (g : List Vx) (ls : List Int) : Prop where
  gb : graphB c g = true
  hv : validB c = true
  srt : Srt g
  pl : ∀ y ∈ g, inPl y
  aut : ∀ y ∈ g, 0 ≤ y.a ∧ y.a < (c.length : Int)
  par : Par g
  r0 : ∀ y ∈ g, y.r = 0 → y.ps.length = 0
  ps : ∀ y ∈ g, y.ps.length ≤ 1099511627776
  l15 : ls.length ≤ 15
  l6 : ∀ j (hj : j < ls.length), 0 ≤ ls[j] ∧ ls[j] ≤ 6
theorem good21 {c : List Int} {g : List Vx} {ls : List Int} (h : waB c g ls = true) (hps : ∀ x ∈ g, x.ps.length ≤ 1099511627776) : Good21 c g ls := by
  unfold waB at h; simp only [Bool.and_eq_true] at h
  obtain ⟨hgb, hl⟩ := h
  have hv : validB c = true := by have h := hgb; unfold graphB at h; simp only [Bool.and_eq_true] at h; exact h.1
  have hvx := graph_vtx hgb
  have hc7 := (validB_len hv).2
  obtain ⟨h15, h6⟩ := ldAt hl
  refine ⟨hgb, hv, graph_sorted hgb, fun y hy => vtx_pl hv (hvx y hy), fun y hy => by have := vtx_author (hvx y hy); exact this, ?_, fun y hy e => vtx_r0 (hvx y hy) e, hps, h15, fun j hj => by have := h6 j hj; omega⟩
  intro y hy p hp
  obtain ⟨i, hi, rfl⟩ := List.mem_iff_getElem.1 hy
  obtain ⟨k, hk, rfl⟩ := List.mem_iff_getElem.1 hp
  obtain ⟨j, hj, e⟩ := graph_parents hgb i hi k hk
  rcases findZ_cases g (g[i].r - 1) g[i].ps[k] with ⟨e', _⟩ | ⟨j', hj', e', hs, _⟩
  · omega
  · exact ⟨g[j'], List.getElem_mem hj', (of_decide_eq_true hs).1, (of_decide_eq_true hs).2⟩

/-! the votes, place by place -/
theorem votSum_filter {f : Vx → Int} {p : Vx → Bool} : ∀ (g : List Vx), (∀ y ∈ g, p y = false → f y = 0) → ((g.filter p).map f).sum = (g.map f).sum
  | [], _ => rfl
  | x :: g, h => by
    have ih := votSum_filter g fun y hy => h y (List.mem_cons_of_mem _ hy)
    cases hp : p x with
    | true => rw [List.filter_cons, if_pos hp, List.map_cons, List.map_cons, List.sum_cons, List.sum_cons, ih]
    | false => rw [List.filter_cons, if_neg (by rw [hp]; simp), List.map_cons, List.sum_cons, ih, h x (by simp) hp]; omega
def votP (c : List Int) (L : Int) (r : Nat) (g : List Vx) (a : Nat) : Int := ((outZ g r a).map (votC c L r)).sum
theorem votP_zero {c : List Int} {L : Int} {r : Nat} {g : List Vx} (h : ∀ v ∈ g, inPl v) : votP c L r g 0 = 0 := by
  unfold votP
  have : ∀ (l : List Vx), (∀ y ∈ l, y.r < (r : Int)) → (l.map (votC c L r)).sum = 0 := by
    intro l
    induction l with
    | nil => intro _; rfl
    | cons x l ih =>
      intro hl
      rw [List.map_cons, List.sum_cons, ih fun y hy => hl y (List.mem_cons_of_mem _ hy)]
      have := hl x (by simp)
      unfold votC
      rw [if_neg (by omega)]; omega
  refine this _ fun y hy => ?_
  unfold outZ at hy
  obtain ⟨hm, hp⟩ := List.mem_filter.1 hy
  have := h y hm
  unfold inPl at this
  unfold plB at hp
  simp at hp; omega
theorem votP_all {c : List Int} {L : Int} {r : Nat} {g : List Vx} (h : ∀ v ∈ g, inPl v) : votP c L r g 7 = votTo c L r g g.length := by
  unfold votP votTo outZ
  rw [List.take_length]
  refine votSum_filter g fun y hy hp => ?_
  have := h y hy
  unfold inPl at this
  unfold plB at hp
  simp at hp
  unfold votC
  rw [if_neg (by omega)]
theorem votP_yes {c : List Int} {L : Int} {r a : Nat} {g : List Vx} {y : Vx} (hs : Srt g) (hy : y ∈ g) (hr : y.r = r) (ha : y.a = a) : votP c L r g (a + 1) = votP c L r g a + (if hasB y.ps L = true then c.getD a 0 else 0) := by
  unfold votP
  rw [outZ_yes hs hy hr ha, List.map_append, List.sum_append]
  congr 1
  show votC c L r y + 0 = _
  unfold votC
  rw [ha, Int.toNat_natCast]
  by_cases hh : hasB y.ps L = true
  · rw [if_pos ⟨hr, hh⟩, if_pos hh]; omega
  · rw [if_neg (fun e => hh e.2), if_neg hh]; rfl
theorem votP_no {c : List Int} {L : Int} {r a : Nat} {g : List Vx} (hs : Srt g) (hn : ∀ v ∈ g, ¬ (v.r = (r : Int) ∧ v.a = (a : Int))) : votP c L r g (a + 1) = votP c L r g a := by
  unfold votP
  rw [outZ_no hs hn]
theorem votP_bd {c : List Int} {L : Int} {r a : Nat} {g : List Vx} (hv : validB c = true) : 0 ≤ votP c L r g a ∧ votP c L r g a ≤ 9 * g.length := by
  have h := votTo_bd (c := c) (L := L) (r := r) (g := outZ g r a) hv _ (Nat.le_refl _)
  have hl := outZ_len g r a
  unfold votTo at h
  rw [List.take_length] at h
  unfold votP
  omega

/-- A pointer is among a vertex's parents exactly if its author is. -/
theorem nd_has {w0 w : World} {hi G : Nat} {mv : Value} {h : Nat → Value} {g : List Vx} (l : Lk w0 w hi G mv h g) (hpar : Par g) {y z : Vx} (hy : y ∈ g) (hz : z ∈ g) (hr : z.r = y.r - 1) {p : Nat} (hp : h (plN z.r z.a) = ptrV p) {qs : List Nat} (hl : qs.length = y.ps.length)
    (hq : ∀ j (hj : j < qs.length) (hj' : j < y.ps.length), h (plN (y.r - 1) y.ps[j]) = ptrV qs[j]) : p ∈ qs ↔ hasB y.ps z.a = true := by
  have hinj : ∀ a b : Nat, ptrV a = ptrV b → a = b := fun a b e => by unfold ptrV at e; simpa using e
  constructor
  · intro hm
    obtain ⟨i, hi', e⟩ := List.mem_iff_getElem.1 hm
    have hii : i < y.ps.length := by omega
    obtain ⟨x, hx, hxr, hxa⟩ := hpar y hy y.ps[i] (List.getElem_mem hii)
    obtain ⟨qx, hqx, nx⟩ := l.has x hx
    obtain ⟨qz, hqz, nz⟩ := l.has z hz
    have h1 := hq i hi' hii
    rw [hxr, hxa, h1] at hqx
    have e1 := hinj _ _ hqx
    rw [hp] at hqz
    have e2 := hinj _ _ hqz
    have e3 : qx = qz := by rw [← e1, ← e2, e]
    obtain ⟨_, _, _, _, sx, _⟩ := nx.ex
    obtain ⟨_, _, _, _, sz, _⟩ := nz.ex
    rw [e3] at sx
    have e4 := (sx.cell 1 (v := .int .i64 x.a) rfl).symm.trans (sz.cell 1 (v := .int .i64 z.a) rfl)
    have e5 : x.a = z.a := by simpa using e4
    rw [← e5, hxa]
    exact hasB_yes hii
  · intro hh
    have hm : z.a ∈ y.ps := of_decide_eq_true hh
    obtain ⟨i, hi', e⟩ := List.mem_iff_getElem.1 hm
    have h1 := hq i (by omega) hi'
    rw [e, ← hr, hp] at h1
    rw [hinj _ _ h1]
    exact List.getElem_mem _

theorem lv_size : (Tryd.prog.info? 59).map (·.size) = some 5 := by kernel_rfl
set_option maxRecDepth 8000 in
theorem lib_IndexP (pp : Option Addr) (pcap : Nat) (qs : List Nat) (p B : Nat) (w : World) (hbig : qs.length ≤ 1099511627776) (ho : OwnP 57 w B (.slice pp qs.length pcap) qs) (hb : ∀ x, x = p ∨ x ∈ qs → ∃ c t, w.heap[x]? = some (.cells c t (0, 0))) :
    Calls Tryd.prog 84 #[.slice pp qs.length pcap, .pointer (some ⟨p, 0, none⟩)] w fun e w' => (∃ z : Int, e = .returned (.int .i64 z) ∧ (p ∈ qs → 0 ≤ z) ∧ (p ∉ qs → z = -1)) ∧ w = w' := by
  obtain ⟨i5, hi5, hsz⟩ := Option.map_eq_some_iff.1 lv_size
  have Ho := Lib.hid ho; have Hb := Lib.hid hb
  clear ho hb
  go_enter Tryd.func84, Tryd.ntmps84
  go_wp2
  go_loopw [8] (fun i wr => ∃ k : Nat, k ≤ qs.length ∧ i = .int .i64 k ∧ Hid (∀ j (hj : j < qs.length), j < k → qs[j] ≠ p) ∧ w = wr) (fun i _ => qs.length - (intOf i).toNat)
  case atStart => exact ⟨0, by omega, rfl, Lib.hid (fun j _ h => by omega), rfl⟩
  case round =>
    obtain ⟨k, hk, rfl, hup, rfl⟩ := hrel
    by_cases hlt : k < qs.length
    · obtain ⟨gb, cap', hpe, _, _, hcell⟩ := Ho.out.cell k hlt
      obtain ⟨rfl, rfl⟩ : pp = some ⟨gb, 0, none⟩ ∧ pcap = cap' := by simpa using hpe
      unfold ptrV at hcell
      clear hpe
      by_cases e : qs[k] = p
      · have hcell2 : w.cell? ⟨gb, k, none⟩ = some (.pointer (some ⟨p, 0, none⟩)) := by rw [hcell, e]
        have heq := run_eql_ptr_same (P := Tryd.prog) w ⟨p, 0, none⟩ Tryd.underlying57 hi5
        have hm : p ∈ qs := by rw [← e]; exact List.getElem_mem hlt
        have Hm := Lib.hid hm
        clear hcell hm e
        go_wp2
        go_ret
        exact ⟨⟨_, rfl, fun _ => by omega, fun h => absurd Hm.out h⟩, rfl⟩
      · obtain ⟨ca, ta, ha⟩ := Hb.out p (.inl rfl)
        obtain ⟨cb, tb, hb⟩ := Hb.out qs[k] (.inr (List.getElem_mem hlt))
        have heq := run_eql_ptr_other (P := Tryd.prog) w (a := ⟨p, 0, none⟩) (b := ⟨qs[k], 0, none⟩) Tryd.underlying57 hi5 (by rw [hsz]; decide) (fun h => e (by injection h with h1; exact h1.symm)) ha hb
        have Hs := Lib.hid (show ∀ j (hj : j < qs.length), j < k + 1 → qs[j] ≠ p from fun j hj hjk => by
          by_cases e2 : j = k
          · subst e2; exact e
          · exact hup.out j hj (by omega))
        clear e ha hb hup
        generalize qs[k] = y at *
        go_wp2
        go_roundw
        case rel => exact ⟨k + 1, by omega, by go_num, Lib.hid Hs.out, trivial⟩
        case measure => simp [intOf]; omega
    · go_wp2
      go_ret
      refine ⟨⟨_, rfl, fun h => ?_, fun _ => rfl⟩, rfl⟩
      obtain ⟨j, hj, e⟩ := List.mem_iff_getElem.1 h
      exact absurd e (hup.out j hj (by omega))

theorem lib_ContainsP (pp : Option Addr) (pcap : Nat) (qs : List Nat) (p B : Nat) (w : World) (hbig : qs.length ≤ 1099511627776) (ho : OwnP 57 w B (.slice pp qs.length pcap) qs) (hb : ∀ x, x = p ∨ x ∈ qs → ∃ c t, w.heap[x]? = some (.cells c t (0, 0))) :
    Calls Tryd.prog 74 #[.slice pp qs.length pcap, .pointer (some ⟨p, 0, none⟩)] w fun e w' => e = .returned (.bool (decide (p ∈ qs))) ∧ w = w' := by
  have H := Lib.hid (lib_IndexP pp pcap qs p B w hbig ho hb)
  clear ho hb
  go_enter Tryd.func74, Tryd.ntmps74
  go_wp2_with fail
  refine H.out.mono ?_
  rintro e w1 ⟨⟨z, rfl, h1, h2⟩, rfl⟩
  by_cases hm : p ∈ qs
  · have hz := h1 hm
    have Hr := Lib.hid (show decide (p ∈ qs) = true from decide_eq_true hm)
    have hz' : decide (0 ≤ z) = true := decide_eq_true hz
    clear h1 h2 hm
    go_wp2
    go_ret
    exact ⟨by rw [Hr.out]; rfl, rfl⟩
  · have hz := h2 hm
    subst hz
    have Hr := Lib.hid (show decide (p ∈ qs) = false from decide_eq_false hm)
    clear h1 h2 hm
    go_wp2
    go_ret
    exact ⟨by rw [Hr.out]; rfl, rfl⟩

end Go.Proofs.YtjaacdapibokiabDoor

/- Plain arithmetic of sets of members and their weights; no walk and no condition of our own. -/
namespace Go.Proofs.YtjaacdapibokiabDoor

/-- Ascending members below n. -/
def AscP (n : Nat) (ms : List Int) : Prop := ms.Pairwise (· < ·) ∧ ∀ m ∈ ms, 0 ≤ m ∧ m < n
theorem ascP_of {n : Nat} {ms : List Int} (h : membersB n ms = true) : AscP n ms := by
  have step : ∀ d i (hi : i + 1 + d < ms.length), ms[i] < ms[i + 1 + d] := by
    intro d
    induction d with
    | zero =>
      intro i hi
      have := okAt_bd hi (allB_upto h (i + 1) hi)
      rcases this.2.2 with h0 | h0
      · omega
      · rw [show i + 1 + 0 - 1 = i by omega, getD_get (by omega)] at h0; exact h0
    | succ d ih =>
      intro i hi
      have h1 := ih i (by omega)
      have := okAt_bd hi (allB_upto h (i + 1 + (d + 1)) hi)
      rcases this.2.2 with h0 | h0
      · omega
      · rw [show i + 1 + (d + 1) - 1 = i + 1 + d by omega, getD_get (by omega)] at h0
        exact Int.lt_trans h1 h0
  refine ⟨List.pairwise_iff_getElem.2 fun i j hi hj hij => ?_, fun m hm => ?_⟩
  · have := step (j - i - 1) i (by omega)
    simpa [show i + 1 + (j - i - 1) = j by omega] using this
  · obtain ⟨j, hj, rfl⟩ := List.mem_iff_getElem.1 hm
    exact membersB_at h j hj
theorem of_ascP {n : Nat} {ms : List Int} (h : AscP n ms) : membersB n ms = true := by
  unfold membersB
  refine allB_yes (k := ms.length) (fun j hj => ?_) (Nat.le_refl _)
  have hb := h.2 ms[j] (List.getElem_mem hj)
  refine okAt_yes hj hb.1 hb.2 ?_
  by_cases h0 : j = 0
  · exact .inl h0
  · refine .inr ?_
    rw [getD_get (by omega)]
    exact List.pairwise_iff_getElem.1 h.1 (j - 1) j (by omega) hj (by omega)
theorem ascP_filter {n : Nat} {ms : List Int} (p : Int → Bool) (h : AscP n ms) : AscP n (ms.filter p) :=
  ⟨h.1.filter p, fun m hm => h.2 m (List.mem_filter.1 hm).1⟩
theorem ascP_rangeF (p : Nat → Bool) (n : Nat) : AscP n (rangeF p n) := by
  induction n with
  | zero => exact ⟨by simp [rangeF], by simp [rangeF]⟩
  | succ n ih =>
    cases hp : p n with
    | false => rw [rangeF_no hp]; exact ⟨ih.1, fun m hm => by have := ih.2 m hm; omega⟩
    | true =>
      rw [rangeF_yes hp]
      refine ⟨List.pairwise_append.2 ⟨ih.1, by simp, fun a ha b hb => ?_⟩, fun m hm => ?_⟩
      · simp at hb; subst hb; exact (ih.2 a ha).2
      · rcases List.mem_append.1 hm with hm | hm
        · have := ih.2 m hm; omega
        · simp at hm; omega
theorem mem_rangeF {p : Nat → Bool} {n i : Nat} : (i : Int) ∈ rangeF p n ↔ i < n ∧ p i = true := by
  unfold rangeF
  simp only [List.mem_map, List.mem_filter, List.mem_range]
  constructor
  · rintro ⟨a, h, e⟩
    obtain rfl : a = i := by omega
    exact h
  · intro h; exact ⟨i, h, rfl⟩

/-- f 0 + .. + f (n - 1). -/
def isum (f : Nat → Int) : Nat → Int
  | 0 => 0
  | n + 1 => isum f n + f n
theorem isum_congr {f g : Nat → Int} {n : Nat} (h : ∀ i, i < n → f i = g i) : isum f n = isum g n := by
  induction n with
  | zero => rfl
  | succ n ih => simp only [isum]; rw [ih (fun i hi => h i (by omega)), h n (by omega)]
theorem isum_add (f g : Nat → Int) (n : Nat) : isum (fun i => f i + g i) n = isum f n + isum g n := by
  induction n with
  | zero => rfl
  | succ n ih => simp only [isum]; rw [ih]; omega
theorem isum_le {f g : Nat → Int} {n : Nat} (h : ∀ i, i < n → f i ≤ g i) : isum f n ≤ isum g n := by
  induction n with
  | zero => exact Int.le_refl _
  | succ n ih => simp only [isum]; have := ih (fun i hi => h i (by omega)); have := h n (by omega); omega
theorem isum_total (c : List Int) : isum (fun i => c.getD i 0) c.length = totalZ c := by
  have : ∀ k, k ≤ c.length → isum (fun i => c.getD i 0) k = sumTo c k := by
    intro k
    induction k with
    | zero => intro _; rfl
    | succ k ih => intro hk; simp only [isum]; rw [ih (by omega), sumTo_succ (by omega), getD_get (by omega)]
  exact this _ (Nat.le_refl _)

/-- The weight of i if it is among ms. -/
def wAt (c ms : List Int) (i : Nat) : Int := if hasB ms i = true then c.getD i 0 else 0
theorem weightTo_app (c ms : List Int) (x : Int) : weightZ c (ms ++ [x]) = weightZ c ms + c.getD x.toNat 0 := by
  unfold weightZ
  rw [List.length_append]
  simp only [List.length_cons, List.length_nil]
  rw [weightTo_succ (by simp)]
  congr 1
  · unfold weightTo; simp
  · simp
theorem weight_isum (c : List Int) : ∀ (n : Nat) (ms : List Int), AscP n ms → weightZ c ms = isum (wAt c ms) n := by
  intro n
  induction n with
  | zero =>
    intro ms h
    cases ms with
    | nil => rfl
    | cons m ms => have := h.2 m (by simp); omega
  | succ n ih =>
    intro ms h
    simp only [isum]
    rcases List.eq_nil_or_concat ms with rfl | ⟨l, x, rfl⟩
    · rw [← ih [] ⟨by simp, by simp⟩]; simp [wAt, hasB]
    · rw [List.concat_eq_append] at h ⊢
      have hp := List.pairwise_append.1 h.1
      have hx := h.2 x (by simp)
      have hl : ∀ m ∈ l, 0 ≤ m ∧ m < x := fun m hm => ⟨(h.2 m (by simp [hm])).1, hp.2.2 m hm x (by simp)⟩
      by_cases hxn : x = n
      · subst hxn
        have h1 := ih l ⟨hp.1, fun m hm => ⟨(hl m hm).1, by have := hl m hm; omega⟩⟩
        rw [weightTo_app, h1]
        congr 1
        · refine isum_congr fun i hi => ?_
          unfold wAt hasB
          have : ((i : Int) ∈ l ++ [(n : Int)]) = ((i : Int) ∈ l) := by
            rw [List.mem_append]; simp; omega
          simp only [this]
        · unfold wAt hasB; simp
      · have h1 := ih (l ++ [x]) ⟨h.1, fun m hm => by
          have := h.2 m hm
          rcases List.mem_append.1 hm with hm | hm
          · have := hl m hm; omega
          · simp at hm; omega⟩
        rw [h1]
        have : wAt c (l ++ [x]) n = 0 := by
          unfold wAt hasB
          rw [if_neg]
          rw [decide_eq_true_eq]
          intro hm
          rcases List.mem_append.1 hm with hm | hm
          · have := hl _ hm; omega
          · simp at hm; omega
        omega

theorem hasB_common (a b : List Int) (i : Int) : hasB (commonZ a b) i = (hasB a i && hasB b i) := by
  rw [commonZ_eq, Bool.eq_iff_iff]
  simp [hasB, List.mem_filter]
theorem c_nonneg {c : List Int} (h : validB c = true) (i : Nat) (hi : i < c.length) : 0 ≤ c.getD i 0 := by have := good_getD h hi; omega

/-- Two sets weigh no more together than all members and what is common. -/
theorem weights_meet {c a b : List Int} (h : validB c = true) (ha : AscP c.length a) (hb : AscP c.length b) : weightZ c a + weightZ c b ≤ totalZ c + weightZ c (commonZ a b) := by
  have hc : AscP c.length (commonZ a b) := by rw [commonZ_eq]; exact ascP_filter _ ha
  rw [weight_isum c _ a ha, weight_isum c _ b hb, weight_isum c _ _ hc, ← isum_total, ← isum_add, ← isum_add]
  refine isum_le fun i hi => ?_
  have := c_nonneg h i hi
  unfold wAt
  rw [hasB_common]
  generalize c.getD i 0 = x at *
  cases hasB a i <;> cases hasB b i <;> simp <;> omega
/-- Weights are added. -/
theorem weights_add {c a b : List Int} (ha : AscP c.length a) (hb : AscP c.length b) :
    weightZ c a + weightZ c b = weightZ c (rangeF (fun i => hasB a i || hasB b i) c.length) + weightZ c (commonZ a b) := by
  have hc : AscP c.length (commonZ a b) := by rw [commonZ_eq]; exact ascP_filter _ ha
  have hu := ascP_rangeF (fun i => hasB a i || hasB b i) c.length
  rw [weight_isum c _ a ha, weight_isum c _ b hb, weight_isum c _ _ hc, weight_isum c _ _ hu, ← isum_add, ← isum_add]
  refine isum_congr fun i hi => ?_
  unfold wAt
  rw [hasB_common]
  have : hasB (rangeF (fun i => hasB a i || hasB b i) c.length) i = (hasB a i || hasB b i) := by
    rw [Bool.eq_iff_iff]; unfold hasB; rw [decide_eq_true_eq, mem_rangeF]; simp [hi]
  rw [this]
  cases hasB a i <;> cases hasB b i <;> simp

/-- The weight of all members. -/
theorem weight_all {c : List Int} (h : validB c = true) : weightZ c (rangeF (bitB 127) c.length) = totalZ c := by
  rw [weight_isum c _ _ (ascP_rangeF _ _), ← isum_total]
  refine isum_congr fun i hi => ?_
  have hl := validB_len h
  have h7 : bitB 127 i = true := by
    have : i < 7 := by omega
    match i, this with
    | 0, _ => rfl
    | 1, _ => rfl
    | 2, _ => rfl
    | 3, _ => rfl
    | 4, _ => rfl
    | 5, _ => rfl
    | 6, _ => rfl
  have : hasB (rangeF (bitB 127) c.length) i = true := decide_eq_true (mem_rangeF.2 ⟨hi, h7⟩)
  unfold wAt
  rw [if_pos this]

theorem mwZ_of {c ms : List Int} (h : validB c = true) (hm : AscP c.length ms) : mwZ c ms = weightZ c ms := mwZ_yes (by rw [mvB_yes h]; exact of_ascP hm)
theorem mwZ_rangeF {c : List Int} (h : validB c = true) (p : Nat → Bool) : mwZ c (rangeF p c.length) = weightZ c (rangeF p c.length) := mwZ_of h (ascP_rangeF p _)

theorem weight_bd {c a : List Int} (h : validB c = true) (ha : AscP c.length a) : 0 ≤ weightZ c a ∧ weightZ c a ≤ totalZ c := by
  have h0 : isum (fun _ => 0) c.length = 0 := by
    generalize c.length = n
    induction n with
    | zero => rfl
    | succ n ih => simp only [isum]; rw [ih]; rfl
  rw [weight_isum c _ a ha, ← isum_total]
  refine ⟨Int.le_trans (Int.le_of_eq h0.symm) (isum_le fun i hi => ?_), isum_le fun i hi => ?_⟩ <;> (have := c_nonneg h i hi; unfold wAt; split <;> omega)
theorem ascP_common {n : Nat} {a b : List Int} (ha : AscP n a) : AscP n (commonZ a b) := by rw [commonZ_eq]; exact ascP_filter _ ha
theorem common_pos {c a b : List Int} (h : 0 < weightZ c (commonZ a b)) : 0 < (commonZ a b).length := by
  rcases Nat.eq_zero_or_pos (commonZ a b).length with h0 | h0
  · rw [List.eq_nil_of_length_eq_zero h0] at h; exact absurd h (by simp [weightZ, weightTo])
  · exact h0

theorem validB_iff (c : List Int) : validB c = true ↔ (1 ≤ c.length ∧ c.length ≤ 7) ∧ ∀ x ∈ c, 1 ≤ x ∧ x ≤ 9 := by
  unfold validB goodB
  rw [Bool.and_eq_true, decide_eq_true_eq, List.all_eq_true]
  simp
theorem valid_less {c : List Int} {k : Nat} (h : validB c = true) (hk : k < c.length) (h1 : c.length ≠ 1) : validB (c.take k ++ c.drop (k + 1)) = true := by
  rw [validB_iff] at h ⊢
  refine ⟨?_, fun x hx => h.2 x ?_⟩
  · rw [List.length_append, List.length_take, List.length_drop]; omega
  · rcases List.mem_append.1 hx with hx | hx
    · exact List.mem_of_mem_take hx
    · exact List.mem_of_mem_drop hx
theorem valid_zero {c : List Int} {k : Nat} (hk : k < c.length) : validB (c.set k 0) = false := by
  rw [Bool.eq_false_iff]
  intro h
  rw [validB_iff] at h
  have := h.2 0 (List.mem_set hk 0)
  omega

theorem members_less {n : Nat} {ms : List Int} {k : Nat} (h : AscP n ms) : AscP n (ms.take k ++ ms.drop (k + 1)) := by
  have hsub : (ms.take k ++ ms.drop (k + 1)).Sublist ms := by rw [← List.eraseIdx_eq_take_drop_succ]; exact List.eraseIdx_sublist ms k
  exact ⟨h.1.sublist hsub, fun m hm => h.2 m (hsub.subset hm)⟩
theorem members_twice {n : Nat} {ms : List Int} {k : Nat} (hk : k < ms.length) : membersB n (ms.take (k + 1) ++ ms.drop k) = false := by
  rw [Bool.eq_false_iff]
  intro h
  have hp := (List.pairwise_append.1 (ascP_of h).1).2.2 ms[k] (by rw [List.mem_take_iff_getElem]; exact ⟨k, by omega, rfl⟩) ms[k] (by rw [List.mem_drop_iff_getElem]; exact ⟨0, by omega, by simp⟩)
  omega

end Go.Proofs.YtjaacdapibokiabDoor

/- A wave that is committed directly is reached by every later vertex: a quorum and a supporting set have a member in common; plain facts, nothing here speaks of the program. -/
namespace Go.Proofs.YtjaacdapibokiabDoor
open Go.RowKit

/-- Whether the author i votes in round r for the vertex of L. -/
def vB (g : List Vx) (L : Int) (r : Nat) (i : Nat) : Bool := g.any fun y => decide (y.r = (r : Int) ∧ y.a = (i : Int)) && hasB y.ps L
theorem vB_of {g : List Vx} {L : Int} {r i : Nat} (h : vB g L r i = true) : ∃ y ∈ g, y.r = (r : Int) ∧ y.a = (i : Int) ∧ L ∈ y.ps := by
  unfold vB at h
  obtain ⟨y, hy, hh⟩ := List.any_eq_true.1 h
  simp only [Bool.and_eq_true, decide_eq_true_eq] at hh
  exact ⟨y, hy, hh.1.1, hh.1.2, of_decide_eq_true hh.2⟩
theorem votP_isum {c : List Int} {L : Int} {r : Nat} {g : List Vx} (hs : Srt g) (hp : ∀ v ∈ g, inPl v) : ∀ a, votP c L r g a = isum (fun i => if vB g L r i = true then c.getD i 0 else 0) a
  | 0 => by rw [votP_zero hp]; rfl
  | a + 1 => by
    have ih := votP_isum (c := c) (L := L) (r := r) hs hp a
    by_cases he : ∃ y ∈ g, y.r = (r : Int) ∧ y.a = (a : Int)
    · obtain ⟨y, hy, er, ea⟩ := he
      rw [votP_yes hs hy er ea, ih]
      have e : vB g L r a = hasB y.ps L := by
        rw [Bool.eq_iff_iff]
        constructor
        · intro h
          obtain ⟨z, hz, zr, za, hm⟩ := vB_of h
          have : z = y := srt_uni hs hz hy (by omega) (by omega)
          rw [← this]; exact decide_eq_true hm
        · intro h
          unfold vB
          exact List.any_eq_true.2 ⟨y, hy, by rw [h, decide_eq_true ⟨er, ea⟩]; rfl⟩
      show _ = isum _ a + (if vB g L r a = true then c.getD a 0 else 0)
      rw [e]
    · have hn : ∀ v ∈ g, ¬ (v.r = (r : Int) ∧ v.a = (a : Int)) := fun v hv e => he ⟨v, hv, e⟩
      rw [votP_no hs hn, ih]
      have e : vB g L r a = false := by
        cases h : vB g L r a with
        | false => rfl
        | true =>
          obtain ⟨z, hz, zr, za, _⟩ := vB_of h
          exact absurd ⟨zr, za⟩ (hn z hz)
      show _ = isum _ a + (if vB g L r a = true then c.getD a 0 else 0)
      rw [e]; simp

theorem isum_cut {f : Nat → Int} : ∀ (d n : Nat), (∀ i, n ≤ i → f i = 0) → isum f (n + d) = isum f n
  | 0, _, _ => rfl
  | d + 1, n, h => by rw [← Nat.add_assoc]; show isum f (n + d) + f (n + d) = _; rw [isum_cut d n h, h (n + d) (by omega)]; omega
theorem voZ_isum {c : List Int} {g : List Vx} {ls : List Int} {w : Nat} (ok : Good21 c g ls) (h0 : 0 ≤ ldZ g ls w) : voZ c g ls w = isum (fun i => if vB g (ls.getD (w - 1) 0) (2 * w) i = true then c.getD i 0 else 0) c.length := by
  have h7 := (validB_len ok.hv).2
  unfold voZ
  rw [if_pos h0, show (2 * (w : Int)) = ((2 * w : Nat) : Int) by omega, ← votP_all ok.pl, votP_isum ok.srt ok.pl]
  have := isum_cut (f := fun i => if vB g (ls.getD (w - 1) 0) (2 * w) i = true then c.getD i 0 else 0) (7 - c.length) c.length (fun i hi => by
    split
    · simp [List.getD, List.getElem?_eq_none hi]
    · rfl)
  rw [← this, show c.length + (7 - c.length) = 7 by omega]
/-- A quorum and the voters for a wave that is committed directly have a member in common. -/
theorem quo_meet {c : List Int} {g : List Vx} {ls : List Int} {w : Nat} (ok : Good21 c g ls) (hd : dirB c g ls w = true) {ps : List Int} (hm : membersB c.length ps = true) (hq : quorumZ c ≤ weightZ c ps) :
    ∃ y ∈ g, y.r = 2 * (w : Int) ∧ y.a ∈ ps ∧ ls.getD (w - 1) 0 ∈ y.ps := by
  have h0 := dir_has ok.hv hd
  have hd := of_decide_eq_true hd
  rw [voZ_isum ok h0] at hd
  rw [weight_isum c _ ps (ascP_of hm)] at hq
  have hbd := totalZ_bd ok.hv
  unfold quorumZ at hq
  by_cases he : ∃ i, i < c.length ∧ hasB ps i = true ∧ vB g (ls.getD (w - 1) 0) (2 * w) i = true
  · obtain ⟨i, hi, h1, h2⟩ := he
    obtain ⟨y, hy, yr, ya, hl⟩ := vB_of h2
    exact ⟨y, hy, by omega, by rw [ya]; exact of_decide_eq_true h1, hl⟩
  · have hle : isum (fun i => wAt c ps i + (if vB g (ls.getD (w - 1) 0) (2 * w) i = true then c.getD i 0 else 0)) c.length ≤ isum (fun i => c.getD i 0) c.length := isum_le fun i hi => by
      have hc := c_nonneg ok.hv i hi
      have hn : ¬ (hasB ps i = true ∧ vB g (ls.getD (w - 1) 0) (2 * w) i = true) := fun h => he ⟨i, hi, h.1, h.2⟩
      unfold wAt
      by_cases h1 : hasB ps i = true
      · rw [if_pos h1, if_neg (fun h => hn ⟨h1, h⟩)]; omega
      · rw [if_neg h1]
        split <;> omega
    rw [isum_add, isum_total] at hle
    omega

/-- One vertex is reached from another by way of parents. -/
inductive Rch (g : List Vx) : Vx → Vx → Prop where
  | refl (x : Vx) : Rch g x x
  | step {x z y : Vx} (hz : z ∈ g) (hr : z.r = x.r - 1) (ha : z.a ∈ x.ps) (h : Rch g z y) : Rch g x y
theorem Rch.snoc {g : List Vx} {x y z : Vx} (h : Rch g x y) (hz : z ∈ g) (hr : z.r = y.r - 1) (ha : z.a ∈ y.ps) : Rch g x z := by
  induction h with
  | refl x => exact .step hz hr ha (.refl _)
  | step h1 h2 h3 _ ih => exact .step h1 h2 h3 (ih hr ha)
/-- The past of a vertex is what it reaches. -/
theorem past_rch {c : List Int} {g : List Vx} (h : graphB c g = true) {a b : Nat} (ha : a < g.length) (hb : b < g.length) : (pastB g a).getD b false = true ↔ Rch g g[a] g[b] := by
  have hs := graph_sorted h
  obtain ⟨hcl, hca, _⟩ := past_closed h ha
  constructor
  · have key : ∀ n b, (hb : b < g.length) → g.length - b ≤ n → (pastB g a).getD b false = true → Rch g g[a] g[b] := by
      intro n
      induction n with
      | zero => intro b hb hn; omega
      | succ n ih =>
        intro b hb hn hbt
        by_cases e : b = a
        · subst e; exact .refl _
        · obtain ⟨i, hi, hji, hbi, _, er, ep⟩ := past_least h ha b hbt e
          exact (ih i hi (by omega) hbi).snoc (List.getElem_mem hb) (by omega) ep
    exact key (g.length - b) b hb (Nat.le_refl _)
  · have key : ∀ x y, Rch g x y → ∀ i (hi : i < g.length), g[i] = x → (pastB g a).getD i false = true → ∀ j (hj : j < g.length), g[j] = y → (pastB g a).getD j false = true := by
      intro x y hr
      induction hr with
      | refl x =>
        intro i hi e hbt j hj e2
        rwa [pair_uni hs hi hj (by rw [e, e2]) (by rw [e, e2])] at hbt
      | @step x z y hz hzr hza _ ih =>
        intro i hi e hbt j hj e2
        subst e
        obtain ⟨k, hk, ek⟩ := List.mem_iff_getElem.1 hza
        have h1 := hcl i hi (Nat.zero_le _) hbt k hk
        obtain ⟨m, hm, em, em2⟩ := findZ_mem hs hz
        rw [ek, ← hzr, em, Int.toNat_natCast] at h1
        exact ih m hm em2 h1 j hj e2
    intro hr
    exact key _ _ hr a ha rfl hca b hb rfl

/-- What a wave's leader vertex is, as an index. -/
theorem ld_at {g : List Vx} {ls : List Int} {w : Nat} (h : 0 ≤ ldZ g ls w) : ∃ j, ∃ hj : j < g.length, ldZ g ls w = (j : Int) ∧ g[j].r = 2 * (w : Int) - 1 ∧ g[j].a = ls.getD (w - 1) 0 := by
  rcases findZ_cases g (2 * (w : Int) - 1) (ls.getD (w - 1) 0) with ⟨e, _⟩ | ⟨j, hj, e, hsm, _⟩
  · exact absurd (show ldZ g ls w = -1 from e) (by omega)
  · have h2 : g[j].r = 2 * (w : Int) - 1 ∧ g[j].a = ls.getD (w - 1) 0 := of_decide_eq_true hsm
    exact ⟨j, hj, e, h2.1, h2.2⟩
/-- Every later vertex reaches the leader vertex of a wave that is committed directly. -/
theorem dir_reach {c : List Int} {g : List Vx} {ls : List Int} {w : Nat} (ok : Good21 c g ls) (hvx : ∀ y ∈ g, vtxB c y = true) (hw : 1 ≤ w) (hd : dirB c g ls w = true) {L : Vx} (hL : L ∈ g) (hLr : L.r = 2 * (w : Int) - 1) (hLa : L.a = ls.getD (w - 1) 0) :
    ∀ (n : Nat) (v : Vx), v ∈ g → v.r = 2 * (w : Int) + 1 + n → Rch g v L := by
  have quo : ∀ v ∈ g, 1 ≤ v.r → membersB c.length v.ps = true ∧ quorumZ c ≤ weightZ c v.ps := by
    intro v hv h1
    have := hvx v hv
    unfold vtxB quoB at this
    simp only [Bool.and_eq_true] at this
    rw [if_neg (by omega)] at this
    exact ⟨this.2.2.1, of_decide_eq_true this.2.2.2.2⟩
  intro n
  induction n with
  | zero =>
    intro v hv hr
    obtain ⟨hm, hq⟩ := quo v hv (by omega)
    obtain ⟨y, hy, yr, ya, yl⟩ := quo_meet ok hd hm hq
    exact .step hy (by omega) ya (.step hL (by omega) (by rw [hLa]; exact yl) (.refl _))
  | succ n ih =>
    intro v hv hr
    obtain ⟨hm, hq⟩ := quo v hv (by omega)
    have hne : v.ps ≠ [] := by
      intro e
      rw [e] at hq
      have : weightZ c [] = 0 := rfl
      have hbd := totalZ_bd ok.hv
      unfold quorumZ at hq
      omega
    obtain ⟨p, hp⟩ := List.exists_mem_of_ne_nil _ hne
    obtain ⟨z, hz, zr, za⟩ := ok.par v hv p hp
    exact .step hz zr (by rw [za]; exact hp) (ih z hz (by omega))
theorem dir_link {c : List Int} {g : List Vx} {ls : List Int} (ok : Good21 c g ls) (m u : Nat) (hm : 1 ≤ m) (hd : dirB c g ls m = true) (hmu : m < u) (hu : 0 ≤ ldZ g ls u) : lkB g ls u m = true := by
  obtain ⟨j, hj, ej, rj, aj⟩ := ld_at (dir_has ok.hv hd)
  obtain ⟨k, hk, ek, rk, ak⟩ := ld_at hu
  have hr := dir_reach ok (graph_vtx ok.gb) hm hd (List.getElem_mem hj) rj aj (2 * u - 2 - 2 * m) g[k] (List.getElem_mem hk) (by omega)
  unfold lkB linkB
  rw [ej, ek, Int.toNat_natCast, (past_rch ok.gb hk hj).2 hr]
  simp
/-- The committed waves are the whole chain back from the last one that is committed directly. -/
theorem cw_full {c : List Int} {g : List Vx} {ls : List Int} (ok : Good21 c g ls) (m : Nat) : (wvs c g ls m).1 = if (wvs c g ls m).2 = 0 then [] else (fuW (lkB g ls) (wvs c g ls m).2).map Int.ofNat :=
  wvs_full ok.hv (fun m u h1 h2 h3 h4 => dir_link ok m u h1 h2 h3 h4) m

/-- The votes, whether or not there is a leader vertex: without it nobody refers to it. -/
theorem vo_all {c : List Int} {g : List Vx} {ls : List Int} (ok : Good21 c g ls) (w : Nat) : voZ c g ls w = votTo c (ls.getD (w - 1) 0) (2 * (w : Int)) g g.length := by
  unfold voZ
  by_cases h0 : 0 ≤ ldZ g ls w
  · rw [if_pos h0]
  · rw [if_neg h0]
    have hz : ∀ l : List Vx, (∀ y ∈ l, y ∈ g) → (l.map (votC c (ls.getD (w - 1) 0) (2 * (w : Int)))).sum = 0 := by
      intro l
      induction l with
      | nil => intro _; rfl
      | cons y l ih =>
        intro hl
        rw [List.map_cons, List.sum_cons, ih fun z hz => hl z (List.mem_cons_of_mem _ hz)]
        have hy := hl y (by simp)
        unfold votC
        rw [if_neg]
        · omega
        · rintro ⟨hr, hh⟩
          obtain ⟨z, hz, zr, za⟩ := ok.par y hy _ (of_decide_eq_true hh)
          obtain ⟨j, hj, ej, _⟩ := findZ_mem ok.srt hz
          have : ldZ g ls w = j := by unfold ldZ; rw [← ej, zr, za, hr]
          omega
    unfold votTo
    rw [List.take_length]
    exact (hz g fun y hy => hy).symm

theorem hasB_idx {bs : List Bool} {n j : Nat} (hj : j < n) (h : bs.getD j false = true) : hasB (idxTo bs n) (j : Int) = true := by
  unfold hasB idxTo
  refine decide_eq_true (List.mem_map.2 ⟨j, List.mem_filter.2 ⟨List.mem_range.2 hj, h⟩, rfl⟩)
/-- What is committed, element by element. -/
structure CwOk (c : List Int) (g : List Vx) (ls : List Int) (O : List Nat) : Prop where
  ok : waB c g ls = true
  asc : O.Pairwise (· < ·)
  mem : ∀ y ∈ O, 1 ≤ y ∧ y ≤ ls.length ∧ 0 ≤ ldZ g ls y
  lkd : Lkd (lkB g ls) O
  last : ∀ h : O ≠ [], dirB c g ls (O.getLast h) = true
  all : ∀ w, 1 ≤ w → w ≤ ls.length → dirB c g ls w = true → w ∈ O
theorem getLast_snoc {l : List Nat} {x : Nat} (h : l ++ [x] ≠ []) : (l ++ [x]).getLast h = x := by simp
theorem cw_ok {c : List Int} {g : List Vx} {ls : List Int} (ok : waB c g ls = true) (hps : ∀ x ∈ g, x.ps.length ≤ 1099511627776) : ∃ O : List Nat, cwZ c g ls = O.map Int.ofNat ∧ CwOk c g ls O := by
  have gk := good21 ok hps
  have hl := wvs_last (c := c) (g := g) (ls := ls) ls.length
  have hf := cw_full gk ls.length
  have hcw : cwZ c g ls = (wvs c g ls ls.length).1 := by unfold cwZ; rw [if_pos ok]
  by_cases h0 : (wvs c g ls ls.length).2 = 0
  · rw [if_pos h0] at hf
    refine ⟨[], by rw [hcw, hf]; rfl, ok, .nil, (fun y hy => by cases hy), trivial, (fun h => absurd rfl h), fun w h1 h2 h3 => ?_⟩
    have := hl.2.2 w h1 h2 h3
    omega
  · rw [if_neg h0] at hf
    have hd := hl.2.1.resolve_left h0
    have hh := dir_has gk.hv hd
    have hlk : ∀ u x, lkB g ls u x = true → 0 ≤ ldZ g ls x := fun u x => lk_has
    refine ⟨_, by rw [hcw, hf], ok, fuW_asc hlk (by omega), fun y hy => ?_, fuW_lkd _, fun h => ?_, fun w h1 h2 h3 => ?_⟩
    · have := fuW_mem (has := fun u => 0 ≤ ldZ g ls u) hlk (by omega) hh y hy
      exact ⟨this.1, by omega, this.2.2⟩
    · rw [show (fuW (lkB g ls) (wvs c g ls ls.length).2).getLast h = (wvs c g ls ls.length).2 from getLast_snoc h]
      exact hd
    · have hw := hl.2.2 w h1 h2 h3
      have hp := fuW_pre (has := fun u => 0 ≤ ldZ g ls u) hlk h1 hw (fun u hu hh => dir_link gk w u h1 h3 hu hh) hh
      exact hp.subset (by unfold fuW; simp)
theorem cw_none {c : List Int} {g : List Vx} {ls : List Int} (h : waB c g ls = false) : cwZ c g ls = [] := by unfold cwZ; rw [h]; rfl
theorem wl_at {c : List Int} {g : List Vx} {ls : List Int} {y : Nat} (ok : waB c g ls = true) (h1 : 1 ≤ y) (h2 : y ≤ ls.length) : wlZ c g ls (y : Int) = ldZ g ls y ∧ wdB c g ls (y : Int) = dirB c g ls y ∧ wvZ c g ls (y : Int) = voZ c g ls y := by
  have hwl : wlB c g ls (y : Int) = true := by unfold wlB; rw [ok, decide_eq_true ⟨by omega, by omega⟩]; rfl
  refine ⟨?_, ?_, ?_⟩
  · unfold wlZ; rw [hwl]; simp
  · unfold wdB dirB; rw [hwl]; simp
  · unfold wvZ; rw [hwl]; simp

theorem cw_laws {c : List Int} {g : List Vx} {ls : List Int} (h0 : ¬ (cwZ c g ls).length = 0) (hps : ∀ x ∈ g, x.ps.length ≤ 1099511627776) :
    (∀ i, i < (cwZ c g ls).length → 0 ≤ wlZ c g ls ((cwZ c g ls).getD i 0)) ∧ (∀ i, i < (cwZ c g ls).length → 0 < i → (cwZ c g ls).getD (i - 1) 0 < (cwZ c g ls).getD i 0) ∧ wdB c g ls ((cwZ c g ls).getD ((cwZ c g ls).length - 1) 0) = true := by
  cases hw : waB c g ls with
  | false => rw [cw_none hw] at h0; exact absurd rfl h0
  | true =>
  obtain ⟨O, hO, ok⟩ := cw_ok hw hps
  have hl : (cwZ c g ls).length = O.length := by rw [hO]; simp
  have hat : ∀ i (h : i < O.length), (cwZ c g ls).getD i 0 = ((O[i] : Nat) : Int) := fun i h => by rw [getD_get (by omega)]; simp [hO]
  refine ⟨fun i h => ?_, fun i h hi => ?_, ?_⟩
  · have hm := ok.mem _ (List.getElem_mem (show i < O.length by omega))
    rw [hat i (by omega), (wl_at hw hm.1 hm.2.1).1]; exact hm.2.2
  · rw [hat i (by omega), hat (i - 1) (by omega)]
    have := List.pairwise_iff_getElem.1 ok.asc (i - 1) i (by omega) (by omega) (by omega)
    omega
  · have hne : O ≠ [] := by intro e; rw [e] at hl; exact h0 hl
    have hm := ok.mem _ (List.getElem_mem (show (cwZ c g ls).length - 1 < O.length by omega))
    rw [hat _ (by omega), (wl_at hw hm.1 hm.2.1).2.1]
    have := ok.last hne
    rw [List.getLast_eq_getElem] at this
    simpa [hl] using this

theorem cw_links {c : List Int} {g : List Vx} {ls : List Int} (hps : ∀ x ∈ g, x.ps.length ≤ 1099511627776) (i : Nat) (hi : i < (cwZ c g ls).length) (h0 : 0 < i) :
    ∃ k : Nat, (cwZ c g ls).getD i 0 = (k : Int) ∧ 1 ≤ k ∧ k ≤ ls.length ∧ k ≤ 15 ∧ hasB (gpZ c g (2 * (k : Int) - 1) (ls.getD (k - 1) 0)) (wlZ c g ls ((cwZ c g ls).getD (i - 1) 0)) = true := by
  cases hw : waB c g ls with
  | false => rw [cw_none hw] at hi; simp at hi
  | true =>
  obtain ⟨O, hO, ok⟩ := cw_ok hw hps
  have gk := good21 hw hps
  have hl : (cwZ c g ls).length = O.length := by rw [hO]; simp
  have hat : ∀ i (h : i < O.length), (cwZ c g ls).getD i 0 = ((O[i] : Nat) : Int) := fun i h => by rw [getD_get (by omega)]; simp [hO]
  have hm := ok.mem _ (List.getElem_mem (show i < O.length by omega))
  have hm' := ok.mem _ (List.getElem_mem (show i - 1 < O.length by omega))
  have h15 := gk.l15
  refine ⟨O[i]'(by omega), hat i (by omega), hm.1, hm.2.1, by omega, ?_⟩
  rw [hat (i - 1) (by omega), (wl_at hw hm'.1 hm'.2.1).1]
  have hlk := lkd_at O ok.lkd (i - 1) (by omega)
  have e : O[i - 1 + 1]'(by omega) = O[i]'(by omega) := by congr 1; omega
  rw [e] at hlk
  unfold lkB linkB at hlk
  obtain ⟨j, hj, ej, _⟩ := ld_at hm'.2.2
  rw [ej] at hlk ⊢
  simp only [Bool.and_eq_true] at hlk
  have hgp : gpZ c g (2 * ((O[i]'(by omega) : Nat) : Int) - 1) (ls.getD ((O[i]'(by omega)) - 1) 0) = idxTo (pastB g (ldZ g ls (O[i]'(by omega)))) g.length := by unfold gpZ; rw [if_pos gk.gb]; rfl
  rw [hgp]
  exact hasB_idx hj hlk.2

theorem cw_reach {c : List Int} {g : List Vx} {ls : List Int} (hgb : graphB c g = true) (hps : ∀ x ∈ g, x.ps.length ≤ 1099511627776) (k : Nat) (hk : k < g.length) (m : Nat) (hm : 1 ≤ m) (hm2 : m ≤ ls.length) (hr : 2 * (m : Int) < g[k].r) (hd : wdB c g ls (m : Int) = true) :
    hasB (gpZ c g g[k].r g[k].a) (wlZ c g ls (m : Int)) = true := by
  have hw : waB c g ls = true := (wl_ok (by unfold wdB at hd; simp only [Bool.and_eq_true] at hd; exact hd.1)).1
  have gk := good21 hw hps
  obtain ⟨e1, e2, _⟩ := wl_at hw hm hm2
  rw [e2] at hd
  obtain ⟨j, hj, ej, rj, aj⟩ := ld_at (dir_has gk.hv hd)
  have hrch := dir_reach gk (graph_vtx gk.gb) hm hd (List.getElem_mem hj) rj aj (g[k].r - 2 * (m : Int) - 1).toNat g[k] (List.getElem_mem hk) (by omega)
  have hfz : findZ g g[k].r g[k].a = k := by
    obtain ⟨i, hi, e, e3⟩ := findZ_mem gk.srt (List.getElem_mem hk)
    rw [e, pair_uni gk.srt hi hk (by rw [e3]) (by rw [e3])]
  rw [e1, ej, show gpZ c g g[k].r g[k].a = idxTo (pastB g k) g.length by unfold gpZ; rw [if_pos hgb, hfz]]
  exact hasB_idx hj ((past_rch hgb hk hj).2 hrch)

end Go.Proofs.YtjaacdapibokiabDoor

/- What a part of a graph commits is a first part of what the whole commits; so is what fewer leaders commit; plain facts, nothing here speaks of the program. -/
namespace Go.Proofs.YtjaacdapibokiabDoor
open Go.RowKit

/-! fewer leaders -/
theorem ldZ_take {g : List Vx} {ls : List Int} {k w : Nat} (h1 : 1 ≤ w) (h2 : w ≤ k) : ldZ g (ls.take k) w = ldZ g ls w ∧ (ls.take k).getD (w - 1) 0 = ls.getD (w - 1) 0 := by
  have e : (ls.take k).getD (w - 1) 0 = ls.getD (w - 1) 0 := by
    simp only [List.getD_eq_getElem?_getD]
    rw [List.getElem?_take_of_lt (by omega)]
  exact ⟨by unfold ldZ; rw [e], e⟩
theorem chZ_take {g : List Vx} {ls : List Int} {k lo : Nat} : ∀ (x : Nat) (ch : List Int) (at' : Int), x ≤ k → chZ g (ls.take k) lo x ch at' = chZ g ls lo x ch at'
  | 0, _, _, _ => rfl
  | x + 1, ch, at', h => by
    have e := (ldZ_take (g := g) (ls := ls) (k := k) (w := x + 1) (by omega) h).1
    have el : linkB g (ls.take k) at' (x + 1) = linkB g ls at' (x + 1) := by unfold linkB; rw [e]
    unfold chZ
    rw [el, e, chZ_take x _ _ (by omega), chZ_take x _ _ (by omega)]
theorem voZ_take {c : List Int} {g : List Vx} {ls : List Int} {k w : Nat} (h1 : 1 ≤ w) (h2 : w ≤ k) : voZ c g (ls.take k) w = voZ c g ls w := by
  obtain ⟨e1, e2⟩ := ldZ_take (g := g) (ls := ls) h1 h2
  unfold voZ
  rw [e1, e2]
theorem wvs_take {c : List Int} {g : List Vx} {ls : List Int} {k : Nat} : ∀ m, m ≤ k → wvs c g (ls.take k) m = wvs c g ls m
  | 0, _ => rfl
  | m + 1, h => by
    have ih := wvs_take (c := c) (g := g) (ls := ls) (k := k) m (by omega)
    unfold wvs
    rw [ih, voZ_take (by omega) h, (ldZ_take (g := g) (ls := ls) (by omega) h).1, chZ_take m _ _ (by omega)]
theorem wvs_mono {c : List Int} {g : List Vx} {ls : List Int} (k : Nat) : ∀ d, (wvs c g ls k).1 <+: (wvs c g ls (k + d)).1
  | 0 => List.prefix_refl _
  | d + 1 => by
    refine (wvs_mono k d).trans ?_
    show _ <+: (wvs c g ls (k + d + 1)).1
    rw [wvs.eq_2]
    split
    · exact List.prefix_refl _
    · exact List.prefix_append _ _
theorem ldsB_take {n : Nat} {ls : List Int} {k : Nat} (h : ldsB n ls = true) : ldsB n (ls.take k) = true := by
  obtain ⟨h15, h6⟩ := ldAt h
  unfold ldsB
  rw [Bool.and_eq_true, decide_eq_true_eq]
  refine ⟨allB_yes (k := (ls.take k).length) (fun j hj => ?_) (by omega), by rw [List.length_take]; omega⟩
  have hj' : j < (ls.take k).length := hj
  unfold okLd
  rw [getD_get hj', List.getElem_take]
  have := h6 j (by rw [List.length_take] at hj'; omega)
  exact decide_eq_true (by omega)
theorem cw_take {c : List Int} {g : List Vx} {ls : List Int} {k : Nat} (hk : k ≤ ls.length) (h : waB c g ls = true) : cwZ c g (ls.take k) <+: cwZ c g ls := by
  have hw : waB c g (ls.take k) = true := by
    unfold waB at h ⊢
    simp only [Bool.and_eq_true] at h ⊢
    exact ⟨h.1, ldsB_take h.2⟩
  unfold cwZ
  rw [if_pos h, if_pos hw, List.length_take, Nat.min_eq_left hk, wvs_take k (Nat.le_refl _)]
  have := wvs_mono (c := c) (g := g) (ls := ls) k (ls.length - k)
  rwa [show k + (ls.length - k) = ls.length by omega] at this

/-! a part of a graph -/
theorem srt_key {g : List Vx} (h : Srt g) {x y : Vx} (hx : x ∈ g) (hy : y ∈ g) (hr : x.r = y.r) (ha : x.a = y.a) : x = y := srt_uni h hx hy hr ha
section
variable {c : List Int} {g g' : List Vx} {ls : List Int} (ok : Good21 c g ls) (ok' : Good21 c g' ls) (hs : ∀ y ∈ g', y ∈ g)
include ok ok' hs
omit ok' in
theorem ld_part {u : Nat} (h : 0 ≤ ldZ g' ls u) : ∃ i, ∃ hi : i < g'.length, ∃ j, ∃ hj : j < g.length, ldZ g' ls u = (i : Int) ∧ ldZ g ls u = (j : Int) ∧ g'[i] = g[j] := by
  obtain ⟨i, hi, ei, ri, ai⟩ := ld_at h
  have hm := hs _ (List.getElem_mem hi)
  obtain ⟨j, hj, ej, e2⟩ := findZ_mem ok.srt hm
  exact ⟨i, hi, j, hj, ei, by unfold ldZ; rw [← ri, ← ai]; exact ej, e2.symm⟩
theorem rch_part {x y : Vx} (hx : x ∈ g') : Rch g' x y ↔ Rch g x y := by
  constructor
  · intro h
    clear hx
    induction h with
    | refl x => exact .refl _
    | step hz hr ha _ ih => exact .step (hs _ hz) hr ha ih
  · intro h
    induction h with
    | refl x => exact .refl _
    | @step x z y hz hr ha _ ih =>
      obtain ⟨z', hz', hr', ha'⟩ := ok'.par x hx z.a ha
      have e : z' = z := srt_uni ok.srt (hs _ hz') hz (by omega) ha'
      subst e
      exact .step hz' hr' ha (ih hz')
theorem rch_in {x y : Vx} (hx : x ∈ g') (h : Rch g x y) : y ∈ g' := by
  induction h with
  | refl x => exact hx
  | @step x z y hz hr ha _ ih =>
    obtain ⟨z', hz', hr', ha'⟩ := ok'.par x hx z.a ha
    have e : z' = z := srt_uni ok.srt (hs _ hz') hz (by omega) ha'
    subst e
    exact ih hz'
theorem lk_part (u x : Nat) (h : 0 ≤ ldZ g' ls u) : lkB g' ls u x = lkB g ls u x := by
  obtain ⟨i, hi, j, hj, ei, ej, e⟩ := ld_part ok hs h
  rw [Bool.eq_iff_iff]
  unfold lkB linkB
  rw [ei, ej]
  simp only [Bool.and_eq_true, decide_eq_true_eq]
  constructor
  · rintro ⟨h0, h1⟩
    obtain ⟨a, ha, b, hb, ea, eb, e2⟩ := ld_part ok hs h0
    rw [ea, Int.toNat_natCast] at h1
    rw [eb, Int.toNat_natCast]
    refine ⟨by omega, (past_rch ok.gb hj hb).2 ?_⟩
    have := (past_rch ok'.gb hi ha).1 h1
    rw [rch_part ok ok' hs (List.getElem_mem hi), e, e2] at this
    exact this
  · rintro ⟨h0, h1⟩
    obtain ⟨b, hb, eb, rb, ab⟩ := ld_at h0
    rw [eb, Int.toNat_natCast] at h1
    have hr := (past_rch ok.gb hj hb).1 h1
    rw [← e] at hr
    have hin := rch_in ok ok' hs (List.getElem_mem hi) hr
    obtain ⟨a, ha, ea, e3⟩ := findZ_mem ok'.srt hin
    have ea' : ldZ g' ls x = a := by unfold ldZ; rw [← rb, ← ab]; exact ea
    rw [ea', Int.toNat_natCast]
    refine ⟨by omega, (past_rch ok'.gb hi ha).2 ?_⟩
    rw [rch_part ok ok' hs (List.getElem_mem hi), e3]
    exact hr
theorem dir_part {w : Nat} (h : dirB c g' ls w = true) : dirB c g ls w = true := by
  have h0' := dir_has ok'.hv h
  obtain ⟨i, hi, j, hj, ei, ej, e⟩ := ld_part ok hs h0'
  have hle : voZ c g' ls w ≤ voZ c g ls w := by
    rw [voZ_isum ok' h0', voZ_isum ok (by omega)]
    refine isum_le fun a ha => ?_
    have hc := c_nonneg ok.hv a ha
    by_cases h1 : vB g' (ls.getD (w - 1) 0) (2 * w) a = true
    · have h2 : vB g (ls.getD (w - 1) 0) (2 * w) a = true := by
        obtain ⟨y, hy, yr, ya, hl⟩ := vB_of h1
        unfold vB
        exact List.any_eq_true.2 ⟨y, hs y hy, by rw [decide_eq_true ⟨yr, ya⟩, show hasB y.ps _ = true from decide_eq_true hl]; rfl⟩
      rw [if_pos h1, if_pos h2]; exact Int.le_refl _
    · rw [if_neg h1]; split <;> omega
  have := of_decide_eq_true h
  exact decide_eq_true (by omega)
theorem cw_part' : (wvs c g' ls ls.length).1 <+: (wvs c g ls ls.length).1 := by
  have hf := cw_full ok ls.length
  have hf' := cw_full ok' ls.length
  have hl := wvs_last (c := c) (g := g) (ls := ls) ls.length
  have hl' := wvs_last (c := c) (g := g') (ls := ls) ls.length
  by_cases h0' : (wvs c g' ls ls.length).2 = 0
  · rw [hf', if_pos h0']; exact List.nil_prefix
  · have hd' := hl'.2.1.resolve_left h0'
    have hd := dir_part ok ok' hs hd'
    have hle := hl.2.2 _ (by omega) hl'.1 hd
    have h0 : ¬ (wvs c g ls ls.length).2 = 0 := by omega
    have hdl := hl.2.1.resolve_left h0
    rw [hf, hf', if_neg h0, if_neg h0']
    have he : fuW (lkB g' ls) (wvs c g' ls ls.length).2 = fuW (lkB g ls) (wvs c g' ls ls.length).2 := by
      unfold fuW
      rw [chF_same (has' := fun u => 0 ≤ ldZ g' ls u) (fun u x => lk_has) (fun u x h => lk_part ok ok' hs u x h) 0 _ _ (dir_has ok'.hv hd')]
    rw [he]
    exact (fuW_pre (has := fun u => 0 ≤ ldZ g ls u) (fun u x => lk_has) (by omega) hle (fun u hu hh => dir_link ok _ u (by omega) hd hu hh) (dir_has ok.hv hdl)).map _
end
/-- What a part of a graph commits is a first part of what the graph commits. -/
theorem cw_part {c : List Int} {g g' : List Vx} {ls : List Int} (hgb : graphB c g = true) (hps : ∀ x ∈ g, x.ps.length ≤ 1099511627776) (hs : ∀ y ∈ g', y ∈ g) : cwZ c g' ls <+: cwZ c g ls := by
  cases hw' : waB c g' ls with
  | false => rw [cw_none hw']; exact List.nil_prefix
  | true =>
    have hw : waB c g ls = true := by
      unfold waB at hw' ⊢
      simp only [Bool.and_eq_true] at hw' ⊢
      exact ⟨hgb, hw'.2⟩
    have := cw_part' (good21 hw hps) (good21 hw' fun x hx => hps x (hs x hx)) hs
    unfold cwZ
    rw [if_pos hw, if_pos hw']
    exact this

/-- prefixInts. -/
def preB (a b : List Int) : Bool := decide (a.length ≤ b.length) && eqB a (b.take a.length)
theorem preB_of {a b : List Int} (h : a <+: b) : preB a b = true := by
  unfold preB
  rw [decide_eq_true h.length_le, ← List.prefix_iff_eq_take.1 h]
  exact decide_eq_true rfl
theorem preB_two {a b o : List Int} (ha : a <+: o) (hb : b <+: o) : preB a b = true ∨ preB b a = true := by
  by_cases h : a.length ≤ b.length
  · exact .inl (preB_of (List.prefix_of_prefix_length_le ha hb h))
  · exact .inr (preB_of (List.prefix_of_prefix_length_le hb ha (by omega)))

end Go.Proofs.YtjaacdapibokiabDoor

/- The order of vertices: which wave orders a vertex and in which order they stand; plain facts on lists, nothing here is walked. -/
namespace Go.Proofs.YtjaacdapibokiabDoor
open Go.RowKit

/-- Vertex k lies in the past of wave w's leader and not beyond the horizon. -/
def hitB (g : List Vx) (ls : List Int) (w k : Nat) : Bool := (pastB g (ldZ g ls w)).getD k false && decide (2 * (w : Int) - 7 ≤ (g.getD k vx0).r)
/-- The wave that orders vertex k, or 0. -/
def owN (g : List Vx) (ls : List Int) (O : List Nat) (k : Nat) : Nat := (O.find? fun w => hitB g ls w k).getD 0
/-- The places of the ordered vertices, in their order. -/
def ordI (g : List Vx) (ls : List Int) (O : List Nat) : List Nat := O.flatMap fun w => (List.range g.length).filter fun k => owN g ls O k == w
/-- The wave's leader vertex. -/
def ldV (g : List Vx) (ls : List Int) (w : Nat) : Vx := g.getD (ldZ g ls w).toNat vx0

section
variable {g : List Vx} {ls : List Int} {O : List Nat}
theorem ow_find {k : Nat} (h : owN g ls O k ≠ 0) : owN g ls O k ∈ O ∧ hitB g ls (owN g ls O k) k = true := by
  unfold owN at h ⊢
  cases e : O.find? fun w => hitB g ls w k with
  | none => rw [e] at h; exact absurd rfl h
  | some w => exact ⟨List.mem_of_find?_eq_some e, List.find?_some (p := fun w => hitB g ls w k) e⟩
theorem ow_le : ∀ {O : List Nat}, O.Pairwise (· < ·) → ∀ {w k : Nat}, w ∈ O → hitB g ls w k = true → owN g ls O k ≤ w ∧ (owN g ls O k ∈ O)
  | [], _, w, k, hw, _ => by cases hw
  | a :: r, hs, w, k, hw, hh => by
    obtain ⟨h1, h2⟩ := List.pairwise_cons.1 hs
    by_cases ha : hitB g ls a k = true
    · have e : owN g ls (a :: r) k = a := by unfold owN; simp [List.find?, ha]
      rw [e]
      rcases List.mem_cons.1 hw with rfl | hw
      · exact ⟨Nat.le_refl _, by simp⟩
      · exact ⟨Nat.le_of_lt (h1 w hw), by simp⟩
    · have e : owN g ls (a :: r) k = owN g ls r k := by unfold owN; simp [List.find?, ha]
      rw [e]
      rcases List.mem_cons.1 hw with rfl | hw
      · exact absurd hh ha
      · obtain ⟨h3, h4⟩ := ow_le h2 hw hh
        exact ⟨h3, List.mem_cons_of_mem _ h4⟩
theorem ord_mem (h1 : ∀ w ∈ O, 1 ≤ w) {k : Nat} : k ∈ ordI g ls O ↔ k < g.length ∧ owN g ls O k ≠ 0 := by
  unfold ordI
  simp only [List.mem_flatMap, List.mem_filter, List.mem_range, beq_iff_eq]
  constructor
  · rintro ⟨w, hw, hk, e⟩
    exact ⟨hk, by have := h1 w hw; omega⟩
  · rintro ⟨hk, h⟩
    exact ⟨_, (ow_find h).1, hk, rfl⟩
/-- Waves ascend, and within a wave the places do. -/
theorem ord_asc : ∀ {O' : List Nat}, O'.Pairwise (· < ·) → (O'.flatMap fun w => (List.range g.length).filter fun k => owN g ls O k == w).Pairwise fun a b => owN g ls O a < owN g ls O b ∨ owN g ls O a = owN g ls O b ∧ a < b
  | [], _ => by simp
  | w :: r, hs => by
    obtain ⟨h1, h2⟩ := List.pairwise_cons.1 hs
    rw [List.flatMap_cons]
    refine List.pairwise_append.2 ⟨?_, ord_asc h2, ?_⟩
    · refine List.Pairwise.imp_of_mem ?_ ((List.pairwise_lt_range).filter _)
      intro a b ha hb hab
      have ea : owN g ls O a = w := by simpa using (List.mem_filter.1 ha).2
      have eb : owN g ls O b = w := by simpa using (List.mem_filter.1 hb).2
      exact .inr ⟨by omega, hab⟩
    · intro a ha b hb
      have ea : owN g ls O a = w := by simpa using (List.mem_filter.1 ha).2
      obtain ⟨v, hv, hb⟩ := List.mem_flatMap.1 hb
      have eb : owN g ls O b = v := by simpa using (List.mem_filter.1 hb).2
      exact .inl (by have := h1 v hv; omega)
theorem ord_nodup (hs : O.Pairwise (· < ·)) : (ordI g ls O).Nodup := (ord_asc (O := O) (g := g) (ls := ls) hs).imp fun {a b} h e => by subst e; omega
end

section
variable {c : List Int} {g : List Vx} {ls : List Int} {O : List Nat} (ok : Good21 c g ls) (cw : CwOk c g ls O)
include ok
theorem hit_iff {w k : Nat} (h0 : 0 ≤ ldZ g ls w) (hk : k < g.length) : hitB g ls w k = true ↔ Rch g (ldV g ls w) g[k] ∧ 2 * (w : Int) - 7 ≤ g[k].r := by
  obtain ⟨j, hj, ej, _, _⟩ := ld_at h0
  unfold hitB ldV
  rw [ej, Int.toNat_natCast, getV hj, getV hk, Bool.and_eq_true, decide_eq_true_eq, past_rch ok.gb hj hk]
omit ok in
theorem ldV_at {w : Nat} (h0 : 0 ≤ ldZ g ls w) : ldV g ls w ∈ g ∧ (ldV g ls w).r = 2 * (w : Int) - 1 ∧ (ldV g ls w).a = ls.getD (w - 1) 0 := by
  obtain ⟨j, hj, ej, er, ea⟩ := ld_at h0
  unfold ldV
  rw [ej, Int.toNat_natCast, getV hj]
  exact ⟨List.getElem_mem hj, er, ea⟩
omit ok in
theorem rch_round {x y : Vx} (h : Rch g x y) : y.r ≤ x.r := by
  induction h with
  | refl => exact Int.le_refl _
  | step _ hr _ _ ih => omega
include cw
/-- P89: what the past of a committed leader holds up to the horizon is ordered. -/
theorem ord_past {w k : Nat} (hw : w ∈ O) (hk : k < g.length) (hr : Rch g (ldV g ls w) g[k]) (hh : 2 * (w : Int) - 7 ≤ g[k].r) : k ∈ ordI g ls O ∧ owN g ls O k ≤ w := by
  obtain ⟨h1, h2⟩ := ow_le cw.asc hw ((hit_iff ok (cw.mem w hw).2.2 hk).2 ⟨hr, hh⟩)
  exact ⟨(ord_mem fun v hv => (cw.mem v hv).1).2 ⟨hk, by have := (cw.mem _ h2).1; omega⟩, h1⟩
/-- The leader of a committed wave is ordered by its own wave. -/
theorem ow_leader {w j : Nat} (hw : w ∈ O) (hj : j < g.length) (e : g[j] = ldV g ls w) : owN g ls O j = w := by
  have h0 := (cw.mem w hw).2.2
  obtain ⟨_, er, _⟩ := ldV_at h0
  have hit : hitB g ls w j = true := (hit_iff ok h0 hj).2 ⟨by rw [e]; exact .refl _, by rw [e, er]; omega⟩
  obtain ⟨h1, h2⟩ := ow_le cw.asc hw hit
  have hne : owN g ls O j ≠ 0 := by have := (cw.mem _ h2).1; omega
  have h3 := (ow_find hne).2
  have h4 := ((hit_iff ok (cw.mem _ h2).2.2 hj).1 h3).1
  have h5 := rch_round h4
  have h6 := (ldV_at (cw.mem _ h2).2.2).2.1
  rw [e, er, h6] at h5
  omega
/-- P88: a parent that is ordered too is ordered first. -/
theorem ord_causal {i j : Nat} (hi : i < g.length) (hj : j < g.length) (hr : g[j].r = g[i].r - 1) (ha : g[j].a ∈ g[i].ps) (hoi : owN g ls O i ≠ 0) (hoj : owN g ls O j ≠ 0) : owN g ls O j < owN g ls O i ∨ owN g ls O j = owN g ls O i ∧ j < i := by
  obtain ⟨hwi, hti⟩ := ow_find hoi
  obtain ⟨hwj, htj⟩ := ow_find hoj
  obtain ⟨p1, p2⟩ := (hit_iff ok (cw.mem _ hwi).2.2 hi).1 hti
  obtain ⟨q1, q2⟩ := (hit_iff ok (cw.mem _ hwj).2.2 hj).1 htj
  have hrj : Rch g (ldV g ls (owN g ls O i)) g[j] := p1.snoc (List.getElem_mem hj) hr ha
  have hle : owN g ls O j ≤ owN g ls O i := by
    by_cases h : 2 * (owN g ls O i : Int) - 7 ≤ g[j].r
    · exact (ow_le cw.asc hwi ((hit_iff ok (cw.mem _ hwi).2.2 hj).2 ⟨hrj, h⟩)).1
    · omega
  rcases Nat.lt_or_ge (owN g ls O j) (owN g ls O i) with h | h
  · exact .inl h
  · refine .inr ⟨by omega, ?_⟩
    rcases Nat.lt_trichotomy j i with h2 | h2 | h2
    · exact h2
    · subst h2; omega
    · have := befB_iff.1 (List.pairwise_iff_getElem.1 ok.srt i j hi hj h2); omega
/-- P93: the parents of a committed leader are ordered. -/
theorem ord_parents {w : Nat} (hw : w ∈ O) {p : Int} (hp : p ∈ (ldV g ls w).ps) : ∃ j, ∃ hj : j < g.length, g[j].r = 2 * (w : Int) - 2 ∧ g[j].a = p ∧ j ∈ ordI g ls O := by
  have h0 := (cw.mem w hw).2.2
  obtain ⟨hm, er, _⟩ := ldV_at h0
  obtain ⟨z, hz, ezr, eza⟩ := ok.par _ hm p hp
  obtain ⟨j, hj, rfl⟩ := List.mem_iff_getElem.1 hz
  refine ⟨j, hj, by omega, eza, (ord_past ok cw hw hj (.step (List.getElem_mem hj) ezr (by rw [eza]; exact hp) (.refl _)) (by omega)).1⟩
end

end Go.Proofs.YtjaacdapibokiabDoor

/- The order of a part of a graph is a first part of the graph's; plain facts on lists, nothing here is walked. -/
namespace Go.Proofs.YtjaacdapibokiabDoor
open Go.RowKit

theorem srtx_irr {x : Vx} (h : befB x x = true) : False := by have := befB_iff.1 h; omega
theorem srtx_ext : ∀ {a b : List Vx}, Srt a → Srt b → (∀ x, x ∈ a ↔ x ∈ b) → a = b
  | [], [], _, _, _ => rfl
  | [], y :: b, _, _, h => by have := (h y).2 (by simp); cases this
  | x :: a, [], _, _, h => by have := (h x).1 (by simp); cases this
  | x :: a, y :: b, ha, hb, h => by
    obtain ⟨ha1, ha2⟩ := List.pairwise_cons.1 ha
    obtain ⟨hb1, hb2⟩ := List.pairwise_cons.1 hb
    have e : x = y := by
      rcases List.mem_cons.1 ((h x).1 (by simp)) with e | e
      · exact e
      · rcases List.mem_cons.1 ((h y).2 (by simp)) with e2 | e2
        · exact e2.symm
        · exact (srtx_irr (bef_trans (ha1 y e2) (hb1 x e))).elim
    subst e
    congr 1
    refine srtx_ext ha2 hb2 fun z => ⟨fun hz => ?_, fun hz => ?_⟩
    · rcases List.mem_cons.1 ((h z).1 (List.mem_cons_of_mem _ hz)) with e | e
      · subst e; exact (srtx_irr (ha1 z hz)).elim
      · exact e
    · rcases List.mem_cons.1 ((h z).2 (List.mem_cons_of_mem _ hz)) with e | e
      · subst e; exact (srtx_irr (hb1 z hz)).elim
      · exact e
/-- The vertices that wave w orders. -/
def segV (g : List Vx) (ls : List Int) (O : List Nat) (w : Nat) : List Vx := ((List.range g.length).filter fun k => owN g ls O k == w).map fun k => g.getD k vx0
/-- The ordered vertices. -/
def ordV (g : List Vx) (ls : List Int) (O : List Nat) : List Vx := (ordI g ls O).map fun k => g.getD k vx0
theorem ordV_seg (g : List Vx) (ls : List Int) (O : List Nat) : ordV g ls O = O.flatMap (segV g ls O) := by
  unfold ordV ordI segV
  rw [List.map_flatMap]
theorem seg_mem {g : List Vx} {ls : List Int} {O : List Nat} {w : Nat} {x : Vx} : x ∈ segV g ls O w ↔ ∃ k, ∃ hk : k < g.length, g[k] = x ∧ owN g ls O k = w := by
  unfold segV
  simp only [List.mem_map, List.mem_filter, List.mem_range, beq_iff_eq]
  constructor
  · rintro ⟨k, ⟨hk, e⟩, rfl⟩; exact ⟨k, hk, (getV hk).symm, e⟩
  · rintro ⟨k, hk, rfl, e⟩; exact ⟨k, ⟨hk, e⟩, getV hk⟩
theorem seg_srt {g : List Vx} {ls : List Int} {O : List Nat} {w : Nat} (h : Srt g) : Srt (segV g ls O w) := by
  unfold segV
  refine List.pairwise_map.2 (List.Pairwise.imp_of_mem ?_ ((List.pairwise_lt_range).filter _))
  intro a b ha hb hab
  have hal : a < g.length := List.mem_range.1 (List.mem_filter.1 ha).1
  have hbl : b < g.length := List.mem_range.1 (List.mem_filter.1 hb).1
  rw [getV hal, getV hbl]
  exact List.pairwise_iff_getElem.1 h a b hal hbl hab
theorem flat_congr {α β : Type} {f h : α → List β} : ∀ (l : List α), (∀ w ∈ l, f w = h w) → l.flatMap f = l.flatMap h
  | [], _ => rfl
  | a :: r, e => by rw [List.flatMap_cons, List.flatMap_cons, e a (by simp), flat_congr r fun w hw => e w (List.mem_cons_of_mem _ hw)]
theorem ow_first {g : List Vx} {ls : List Int} {O R : List Nat} {k w : Nat} (h : owN g ls O k = w) (hw : w ≠ 0) : owN g ls (O ++ R) k = w := by
  unfold owN at h ⊢
  rw [List.find?_append]
  cases e : O.find? fun w => hitB g ls w k with
  | none => rw [e] at h; exact absurd h.symm hw
  | some v => rw [e] at h; simpa using h
theorem ow_back {g : List Vx} {ls : List Int} {O R : List Nat} {k w : Nat} (h : owN g ls (O ++ R) k = w) (hw : w ∈ O) (h1 : 1 ≤ w) : owN g ls O k = w := by
  have hh : hitB g ls w k = true := by
    have := (ow_find (O := O ++ R) (g := g) (ls := ls) (k := k) (by omega)).2
    rwa [h] at this
  unfold owN at h ⊢
  rw [List.find?_append] at h
  cases e : O.find? fun w => hitB g ls w k with
  | none => exact absurd hh (by have := List.find?_eq_none.1 e w hw; simpa using this)
  | some v => rw [e] at h; simpa using h
section
variable {c : List Int} {g g' : List Vx} {ls : List Int} (ok : Good21 c g ls) (ok' : Good21 c g' ls) (hs : ∀ y ∈ g', y ∈ g)
include ok ok' hs
theorem hit_same {u i j : Nat} (h0 : 0 ≤ ldZ g' ls u) (hi : i < g'.length) (hj : j < g.length) (e : g'[i] = g[j]) : hitB g' ls u i = hitB g ls u j := by
  obtain ⟨i0, hi0, j0, hj0, ei, ej, e0⟩ := ld_part ok hs h0
  have hl : ldV g' ls u = ldV g ls u := by unfold ldV; rw [ei, ej, Int.toNat_natCast, Int.toNat_natCast, getV hi0, getV hj0]; exact e0
  rw [Bool.eq_iff_iff, hit_iff ok' h0 hi, hit_iff ok (by omega) hj, hl, e, rch_part ok ok' hs (by rw [← hl]; exact (ldV_at h0).1)]
theorem find_same {O : List Nat} {i j : Nat} (hO : ∀ u ∈ O, 0 ≤ ldZ g' ls u) (hi : i < g'.length) (hj : j < g.length) (e : g'[i] = g[j]) : owN g' ls O i = owN g ls O j := by
  unfold owN
  have : ∀ (l : List Nat), (∀ u ∈ l, 0 ≤ ldZ g' ls u) → l.find? (fun w => hitB g' ls w i) = l.find? (fun w => hitB g ls w j) := by
    intro l
    induction l with
    | nil => intro _; rfl
    | cons a r ih =>
      intro h
      have ha := hit_same ok ok' hs (h a (by simp)) hi hj e
      simp only [List.find?, ha, ih fun u hu => h u (List.mem_cons_of_mem _ hu)]
  rw [this O hO]
theorem seg_part {O R : List Nat} (h1 : ∀ u ∈ O, 1 ≤ u ∧ 0 ≤ ldZ g' ls u) {w : Nat} (hw : w ∈ O) : segV g' ls O w = segV g ls (O ++ R) w := by
  have hw0 := (h1 w hw).1
  refine srtx_ext (seg_srt ok'.srt) (seg_srt ok.srt) fun x => ?_
  rw [seg_mem, seg_mem]
  constructor
  · rintro ⟨i, hi, rfl, ew⟩
    obtain ⟨j, hj, e⟩ := List.mem_iff_getElem.1 (hs _ (List.getElem_mem hi))
    refine ⟨j, hj, e, ow_first ?_ (by omega)⟩
    rw [← find_same ok ok' hs (fun u hu => (h1 u hu).2) hi hj e.symm]
    exact ew
  · rintro ⟨j, hj, rfl, ew⟩
    have eb := ow_back ew hw hw0
    have hh := (ow_find (O := O) (g := g) (ls := ls) (k := j) (by omega)).2
    rw [eb] at hh
    obtain ⟨i0, hi0, j0, hj0, ei, ej, e0⟩ := ld_part ok hs (h1 w hw).2
    have hL : ldV g ls w ∈ g' := by unfold ldV; rw [ej, Int.toNat_natCast, getV hj0, ← e0]; exact List.getElem_mem hi0
    have hr := ((hit_iff ok (by omega) hj).1 hh).1
    obtain ⟨i, hi, e⟩ := List.mem_iff_getElem.1 (rch_in ok ok' hs hL hr)
    exact ⟨i, hi, e, by rw [find_same ok ok' hs (fun u hu => (h1 u hu).2) hi hj e]; exact eb⟩
/-- P86, P87: the order of a part is a first part of the graph's order. -/
theorem ord_part {O O' : List Nat} (h1 : ∀ u ∈ O', 1 ≤ u ∧ 0 ≤ ldZ g' ls u) (hp : O' <+: O) : ordV g' ls O' <+: ordV g ls O := by
  obtain ⟨R, rfl⟩ := hp
  rw [ordV_seg, ordV_seg, List.flatMap_append, flat_congr O' fun w hw => seg_part ok ok' hs (R := R) h1 hw]
  exact List.prefix_append _ _
end

end Go.Proofs.YtjaacdapibokiabDoor

/- The order of vertices by places: each place once, waves ascend, leaders in the order of waves; plain facts on lists, nothing here is walked. -/
namespace Go.Proofs.YtjaacdapibokiabDoor
open Go.RowKit

section
variable {c : List Int} {g : List Vx} {ls : List Int} {O : List Nat} (ok : Good21 c g ls) (cw : CwOk c g ls O)
include cw
theorem ordI_lt {i : Nat} (hi : i < (ordI g ls O).length) : (ordI g ls O)[i] < g.length ∧ owN g ls O (ordI g ls O)[i] ≠ 0 := (ord_mem fun v hv => (cw.mem v hv).1).1 (List.getElem_mem hi)
/-- P92: the waves of the ordered vertices never decrease, and within a wave the places ascend. -/
theorem ordI_asc {i j : Nat} (hij : i < j) (hj : j < (ordI g ls O).length) : owN g ls O ((ordI g ls O)[i]'(by omega)) < owN g ls O (ordI g ls O)[j] ∨ owN g ls O ((ordI g ls O)[i]'(by omega)) = owN g ls O (ordI g ls O)[j] ∧ (ordI g ls O)[i]'(by omega) < (ordI g ls O)[j] :=
  List.pairwise_iff_getElem.1 (ord_asc (O := O) (g := g) (ls := ls) cw.asc) i j (by show i < (ordI g ls O).length; omega) hj hij
include ok
/-- P84: no slot twice. -/
theorem ordI_once {i j : Nat} (hij : i < j) (hj : j < (ordI g ls O).length) : ∀ (h1 : (ordI g ls O)[i]'(by omega) < g.length) (h2 : (ordI g ls O)[j] < g.length), ¬ (g[(ordI g ls O)[i]'(by omega)].r = g[(ordI g ls O)[j]].r ∧ g[(ordI g ls O)[i]'(by omega)].a = g[(ordI g ls O)[j]].a) := by
  intro h1 h2 e
  have ha := ordI_asc cw hij hj
  generalize (ordI g ls O)[i]'(by omega) = a at *
  generalize (ordI g ls O)[j] = b at *
  have hab : a ≠ b := fun e2 => by subst e2; omega
  rcases Nat.lt_or_gt_of_ne hab with h | h
  · have := befB_iff.1 (List.pairwise_iff_getElem.1 ok.srt a b h1 h2 h); omega
  · have := befB_iff.1 (List.pairwise_iff_getElem.1 ok.srt b a h2 h1 h); omega
/-- Where the leader of the m-th committed wave stands in the order. -/
def posO (g : List Vx) (ls : List Int) (O : List Nat) (m : Nat) : Nat := (ordI g ls O).findIdx fun k => k == (ldZ g ls (O.getD m 0)).toNat
theorem pos_at {m : Nat} (hm : m < O.length) : ∃ h : posO g ls O m < (ordI g ls O).length, ((ordI g ls O)[posO g ls O m] : Nat) = ldZ g ls O[m] ∧ owN g ls O (ordI g ls O)[posO g ls O m] = O[m] := by
  have hw := List.getElem_mem hm
  obtain ⟨j, hj, ej, er, ea⟩ := ld_at (cw.mem _ hw).2.2
  have hl : g[j] = ldV g ls O[m] := by unfold ldV; rw [ej, Int.toNat_natCast, getV hj]
  have how := ow_leader ok cw hw hj hl
  have hin : j ∈ ordI g ls O := (ord_mem fun v hv => (cw.mem v hv).1).2 ⟨hj, by have := (cw.mem _ hw).1; omega⟩
  have hg : O.getD m 0 = O[m] := by simp [List.getD, List.getElem?_eq_getElem hm]
  have hp : posO g ls O m < (ordI g ls O).length := by
    unfold posO
    refine List.findIdx_lt_length_of_exists ⟨j, hin, ?_⟩
    rw [hg, ej, Int.toNat_natCast]; simp
  have he : (ordI g ls O)[posO g ls O m] = j := by
    have := List.findIdx_getElem (xs := ordI g ls O) (p := fun k => k == (ldZ g ls (O.getD m 0)).toNat) (w := hp)
    exact (beq_iff_eq.1 this).trans (by rw [hg, ej, Int.toNat_natCast])
  exact ⟨hp, by rw [he, ej], by rw [he]; exact how⟩
theorem pos_asc {m n : Nat} (hmn : m < n) (hn : n < O.length) : posO g ls O m < posO g ls O n := by
  obtain ⟨h1, _, e1⟩ := pos_at ok cw (show m < O.length by omega)
  obtain ⟨h2, _, e2⟩ := pos_at ok cw hn
  have ha : O[m] < O[n] := List.pairwise_iff_getElem.1 cw.asc m n (by omega) hn hmn
  rcases Nat.lt_trichotomy (posO g ls O m) (posO g ls O n) with h | h | h
  · exact h
  · have e3 : (ordI g ls O)[posO g ls O m] = (ordI g ls O)[posO g ls O n] := by congr 1
    rw [e3, e2] at e1
    omega
  · have := ordI_asc cw h h1
    rw [e1, e2] at this
    omega
/-- P85: behind i vertices, just the first n leaders stand there. -/
def CntO (g : List Vx) (ls : List Int) (O : List Nat) (n i : Nat) : Prop := n ≤ O.length ∧ (∀ m, m < n → posO g ls O m < i) ∧ ∀ m, n ≤ m → m < O.length → i ≤ posO g ls O m
omit ok cw in
theorem cnt_zero : CntO g ls O 0 0 := ⟨Nat.zero_le _, fun m h => by omega, fun m _ _ => Nat.zero_le _⟩
theorem cnt_yes {n i : Nat} (h : CntO g ls O n i) (hn : n < O.length) (e : posO g ls O n = i) : CntO g ls O (n + 1) (i + 1) := by
  refine ⟨hn, fun m hm => ?_, fun m h1 h2 => ?_⟩
  · by_cases e2 : m = n
    · subst e2; omega
    · have := h.2.1 m (by omega); omega
  · have := pos_asc ok cw (show n < m by omega) h2
    omega
omit ok cw in
theorem cnt_no {n i : Nat} (h : CntO g ls O n i) (e : n < O.length → posO g ls O n ≠ i) (ha : ∀ m, n < m → m < O.length → posO g ls O n < posO g ls O m) : CntO g ls O n (i + 1) := by
  refine ⟨h.1, fun m hm => by have := h.2.1 m hm; omega, fun m h1 h2 => ?_⟩
  have h3 := h.2.2 m h1 h2
  have h4 := e (by omega)
  have h5 := h.2.2 n (Nat.le_refl _) (by omega)
  by_cases e2 : m = n
  · subst e2; omega
  · have := ha m (by omega) h2; omega
theorem cnt_end {n : Nat} (h : CntO g ls O n (ordI g ls O).length) : n = O.length := by
  rcases Nat.lt_or_ge n O.length with h1 | h1
  · obtain ⟨h2, _⟩ := pos_at ok cw h1
    have := h.2.2 n (Nat.le_refl _) h1
    omega
  · have := h.1; omega
/-- The i-th slot is that of the n-th wave's leader just where the leader stands. -/
theorem pos_iff {n i : Nat} (hn : n < O.length) (hi : i < (ordI g ls O).length) (hk : (ordI g ls O)[i] < g.length) : (g[(ordI g ls O)[i]].r = 2 * (O[n] : Int) - 1 ∧ g[(ordI g ls O)[i]].a = ls.getD (O[n] - 1) 0) ↔ posO g ls O n = i := by
  have hw := List.getElem_mem hn
  obtain ⟨j, hj, ej, er, ea⟩ := ld_at (cw.mem _ hw).2.2
  obtain ⟨hp, ep, _⟩ := pos_at ok cw hn
  have ep2 : (ordI g ls O)[posO g ls O n] = j := by omega
  constructor
  · rintro ⟨h1, h2⟩
    rcases Nat.lt_trichotomy (posO g ls O n) i with h | h | h
    · exact absurd ⟨by simp only [ep2]; omega, by simp only [ep2]; rw [ea, h2]⟩ (ordI_once ok cw h hi (by rw [ep2]; exact hj) hk)
    · exact h
    · exact absurd ⟨by simp only [ep2]; omega, by simp only [ep2]; rw [ea, h2]⟩ (ordI_once ok cw h hp hk (by rw [ep2]; exact hj))
  · rintro rfl
    simp only [ep2]
    exact ⟨er, ea⟩
end

end Go.Proofs.YtjaacdapibokiabDoor

/- The order as the reference computes it: wave by wave over all numbers of waves; plain facts on lists, nothing here is walked. -/
namespace Go.Proofs.YtjaacdapibokiabDoor
open Go.RowKit

theorem flat_skip {β : Type} {f : Nat → List β} : ∀ (n lo : Nat) (O : List Nat), O.Pairwise (· < ·) → (∀ v ∈ O, lo < v ∧ v ≤ lo + n) → (∀ w, lo < w → w ∉ O → f w = []) → (List.range' (lo + 1) n).flatMap f = O.flatMap f
  | 0, lo, O, _, hb, _ => by
    cases O with
    | nil => rfl
    | cons a r => have := hb a (by simp); omega
  | n + 1, lo, O, hs, hb, hf => by
    rw [List.range'_succ, List.flatMap_cons]
    cases O with
    | nil => rw [hf (lo + 1) (by omega) (by simp), List.nil_append]; exact flat_skip n (lo + 1) [] .nil (by simp) fun w h _ => hf w (by omega) (by simp)
    | cons a r =>
      obtain ⟨h1, h2⟩ := List.pairwise_cons.1 hs
      have ha := hb a (by simp)
      by_cases e : a = lo + 1
      · subst e
        rw [List.flatMap_cons, flat_skip n (lo + 1) r h2 (fun v hv => ⟨h1 v hv, by have := (hb v (List.mem_cons_of_mem _ hv)).2; omega⟩) fun w h hw => hf w (by omega) fun h3 => by
          rcases List.mem_cons.1 h3 with h4 | h4
          · omega
          · exact hw h4]
      · rw [hf (lo + 1) (by omega) (fun h3 => by
          rcases List.mem_cons.1 h3 with h4 | h4
          · exact e h4.symm
          · have := h1 _ h4; omega), List.nil_append]
        exact flat_skip n (lo + 1) (a :: r) hs (fun v hv => ⟨by
          rcases List.mem_cons.1 hv with rfl | h4
          · omega
          · have := h1 v h4; omega, by have := (hb v hv).2; omega⟩) fun w h hw => hf w (by omega) hw
theorem ordI_range {g : List Vx} {ls : List Int} {O : List Nat} (hs : O.Pairwise (· < ·)) (hb : ∀ v ∈ O, 1 ≤ v ∧ v ≤ ls.length) : ordI g ls O = (List.range' 1 ls.length).flatMap fun w => (List.range g.length).filter fun k => owN g ls O k == w := by
  unfold ordI
  refine (flat_skip ls.length 0 O hs (fun v hv => by have := hb v hv; omega) fun w hw hn => ?_).symm
  rw [List.filter_eq_nil_iff]
  intro k _ e
  have e2 : owN g ls O k = w := by simpa using e
  exact hn (e2 ▸ (ow_find (by omega)).1)
/-- One more wave's vertices, one vertex after the other. -/
theorem ow_step {g : List Vx} {ls : List Int} {O : List Nat} (w k : Nat) : (List.range (k + 1)).filter (fun k => owN g ls O k == w) = (List.range k).filter (fun k => owN g ls O k == w) ++ (if owN g ls O k == w then [k] else []) := by
  rw [List.range_succ, List.filter_append]
  congr 1
  cases h : owN g ls O k == w <;> simp [h]
/-- A wave more: what is not ordered yet and is hit by it is ordered by it. -/
theorem ow_snoc {g : List Vx} {ls : List Int} {O : List Nat} {w k : Nat} (h1 : ∀ v ∈ O, 1 ≤ v) : owN g ls (O ++ [w]) k = if owN g ls O k = 0 ∧ hitB g ls w k = true then w else owN g ls O k := by
  unfold owN
  rw [List.find?_append]
  cases e : O.find? fun w => hitB g ls w k with
  | some v =>
    have := h1 v (List.mem_of_find?_eq_some e)
    simp only [Option.some_or, Option.getD_some]
    rw [if_neg (fun h => by omega)]
  | none =>
    by_cases hh : hitB g ls w k = true
    · simp [List.find?, hh]
    · simp [List.find?, hh]

end Go.Proofs.YtjaacdapibokiabDoor

/- Lists by a function of the place; the waves of all vertices as the reference keeps them; plain facts and lists of the call's own. -/
namespace Go.Proofs.YtjaacdapibokiabDoor
open Go.RowKit

def fnL (n : Nat) (f : Nat → Int) : List Int := (List.range n).map f
theorem fnL_len (n : Nat) (f : Nat → Int) : (fnL n f).length = n := by simp [fnL]
theorem fnL_get {n : Nat} {f : Nat → Int} {k : Nat} (h : k < (fnL n f).length) : (fnL n f)[k] = f k := by simp [fnL]
theorem fnL_set (n : Nat) (f : Nat → Int) (k : Nat) (v : Int) : (fnL n f).set k v = fnL n fun j => if j = k then v else f j := by
  apply List.ext_getElem
  · simp [fnL]
  · intro j h1 h2
    rw [List.getElem_set]
    by_cases e : k = j
    · subst e; simp [fnL]
    · have e' : ¬ j = k := fun h => e h.symm
      simp [fnL, e, e']
theorem fnL_congr {n : Nat} {f f' : Nat → Int} (h : ∀ k, k < n → f k = f' k) : fnL n f = fnL n f' := by
  unfold fnL
  exact List.map_congr_left fun k hk => h k (List.mem_range.1 hk)
theorem own_zeros (E : TypeId) (w : World) (n : Nat) (hm : n ≤ maxLen) : Own E (w.alloc (.cells (madeCells #[.int .i64 0] n) E)) w.heap.size (.slice (some ⟨w.heap.size, 0, none⟩) n n) (fnL n fun _ => 0) := by
  have h1 : (fnL n fun _ => 0).map (Value.int .i64) = (madeCells #[.int .i64 0] n).toList := by
    rw [toList_madeCells_one]
    apply List.ext_getElem
    · simp [fnL]
    · intro j h1 h2; simp [fnL]
  unfold Own
  rw [h1, fnL_len]
  exact World.ownsRow_lit w (madeCells #[.int .i64 0] n) n (Nat.le_refl _) hm (by simp [madeCells])
/-- The waves of all vertices. -/
def owL (g : List Vx) (ls : List Int) (O : List Nat) : List Int := fnL g.length fun k => (owN g ls O k : Int)
/-- Behind the first k vertices of one more wave. -/
def owM (g : List Vx) (ls : List Int) (O : List Nat) (w k : Nat) : List Int := fnL g.length fun j => if j < k then (owN g ls (O ++ [w]) j : Int) else owN g ls O j
theorem owM_zero (g : List Vx) (ls : List Int) (O : List Nat) (w : Nat) : owM g ls O w 0 = owL g ls O := fnL_congr fun k _ => by rw [if_neg (by omega)]
theorem owM_end (g : List Vx) (ls : List Int) (O : List Nat) (w : Nat) : owM g ls O w g.length = owL g ls (O ++ [w]) := fnL_congr fun k hk => by rw [if_pos hk]
theorem owM_get {g : List Vx} {ls : List Int} {O : List Nat} {w k : Nat} (h : k < g.length) : (owM g ls O w k).getD k 0 = (owN g ls O k : Int) := by
  unfold owM fnL; simp [List.getD, h]
theorem owM_yes {g : List Vx} {ls : List Int} {O : List Nat} {w k : Nat} (hO : ∀ v ∈ O, 1 ≤ v) (e : owN g ls O k = 0) (hh : hitB g ls w k = true) : (owM g ls O w k).set k (w : Int) = owM g ls O w (k + 1) := by
  unfold owM
  rw [fnL_set]
  refine fnL_congr fun j hj => ?_
  by_cases e1 : j = k
  · subst e1; rw [if_pos rfl, if_pos (by omega), ow_snoc hO, if_pos ⟨e, hh⟩]
  · rw [if_neg e1]
    by_cases e2 : j < k
    · rw [if_pos e2, if_pos (by omega)]
    · rw [if_neg e2, if_neg (by omega)]
theorem owM_no {g : List Vx} {ls : List Int} {O : List Nat} {w k : Nat} (hO : ∀ v ∈ O, 1 ≤ v) (e : ¬ (owN g ls O k = 0 ∧ hitB g ls w k = true)) : owM g ls O w k = owM g ls O w (k + 1) := by
  unfold owM
  refine fnL_congr fun j hj => ?_
  by_cases e1 : j = k
  · subst e1; rw [if_neg (by omega), if_pos (by omega), ow_snoc hO, if_neg e]
  · by_cases e2 : j < k
    · rw [if_pos e2, if_pos (by omega)]
    · rw [if_neg e2, if_neg (by omega)]
/-- Behind the first k vertices of the m-th number of waves. -/
def orK (g : List Vx) (ls : List Int) (O : List Nat) (w k : Nat) : List Nat := ((List.range' 1 (w - 1)).flatMap fun w => (List.range g.length).filter fun k => owN g ls O k == w) ++ (List.range k).filter fun k => owN g ls O k == w
theorem orK_zero (g : List Vx) (ls : List Int) (O : List Nat) : orK g ls O 1 0 = [] := rfl
theorem orK_yes {g : List Vx} {ls : List Int} {O : List Nat} {w k : Nat} (e : owN g ls O k = w) : orK g ls O w (k + 1) = orK g ls O w k ++ [k] := by
  unfold orK; rw [ow_step, List.append_assoc, if_pos (by simp [e])]
theorem orK_no {g : List Vx} {ls : List Int} {O : List Nat} {w k : Nat} (e : owN g ls O k ≠ w) : orK g ls O w (k + 1) = orK g ls O w k := by
  unfold orK; rw [ow_step, if_neg (by simp [e]), List.append_nil]
theorem orK_row {g : List Vx} {ls : List Int} {O : List Nat} {w : Nat} (hw : 1 ≤ w) : orK g ls O w g.length = orK g ls O (w + 1) 0 := by
  obtain ⟨m, rfl⟩ : ∃ m, w = m + 1 := ⟨w - 1, by omega⟩
  unfold orK
  simp only [Nat.add_sub_cancel, List.range_zero, List.filter_nil, List.append_nil]
  rw [List.range'_1_concat, List.flatMap_append, List.flatMap_singleton, Nat.add_comm 1 m]
theorem orK_end {g : List Vx} {ls : List Int} {O : List Nat} (hs : O.Pairwise (· < ·)) (hb : ∀ v ∈ O, 1 ≤ v ∧ v ≤ ls.length) : orK g ls O (ls.length + 1) 0 = ordI g ls O := by
  rw [ordI_range hs hb]
  unfold orK
  simp
theorem orK_len {g : List Vx} {ls : List Int} {O : List Nat} : ∀ (w k : Nat), k ≤ g.length → (orK g ls O w k).length ≤ (w - 1) * g.length + k := by
  intro w k hk
  unfold orK
  rw [List.length_append]
  have h1 : ((List.range k).filter fun k => owN g ls O k == w).length ≤ k := by
    have := List.length_filter_le (fun k => owN g ls O k == w) (List.range k); simpa using this
  have h2 : ∀ m, ((List.range' 1 m).flatMap fun w => (List.range g.length).filter fun k => owN g ls O k == w).length ≤ m * g.length := by
    intro m
    induction m with
    | zero => simp
    | succ m ih =>
      rw [List.range'_1_concat, List.flatMap_append, List.length_append, List.flatMap_singleton]
      have := List.length_filter_le (fun k => owN g ls O k == 1 + m) (List.range g.length)
      rw [List.length_range] at this
      rw [Nat.succ_mul]; omega
  have := h2 (w - 1)
  omega

end Go.Proofs.YtjaacdapibokiabDoor

/- What the functions of chapter 22 answer; plain facts, nothing here is walked. -/
namespace Go.Proofs.YtjaacdapibokiabDoor
open Go.RowKit

/-- The committed waves, as numbers from 1 on. -/
def cwN (c : List Int) (g : List Vx) (ls : List Int) : List Nat := (cwZ c g ls).map Int.toNat
/-- The places of the ordered vertices, in their order. -/
def osI (c : List Int) (g : List Vx) (ls : List Int) : List Nat := if waB c g ls = true then ordI g ls (cwN c g ls) else []
def slA (g : List Vx) (k : Nat) : Int × Int := ((g.getD k vx0).r, (g.getD k vx0).a)
def osS (c : List Int) (g : List Vx) (ls : List Int) : List (Int × Int) := (osI c g ls).map (slA g)
def osD (c : List Int) (g : List Vx) (ls : List Int) : List Int := (osI c g ls).map fun k => (g.getD k vx0).d
/-- The wave that orders a vertex, 0, or -1. -/
def owZ (c : List Int) (g : List Vx) (ls : List Int) (r a : Int) : Int := if waB c g ls = true ∧ 0 ≤ findZ g r a then (owN g ls (cwN c g ls) (findZ g r a).toNat : Int) else -1
theorem cwN_of {c : List Int} {g : List Vx} {ls : List Int} {O : List Nat} (h : cwZ c g ls = O.map Int.ofNat) : cwN c g ls = O := by
  unfold cwN; rw [h, List.map_map]
  exact (List.map_congr_left fun x _ => by simp).trans (List.map_id O)
theorem cwN_ok {c : List Int} {g : List Vx} {ls : List Int} (ok : waB c g ls = true) (hps : ∀ x ∈ g, x.ps.length ≤ 1099511627776) : cwZ c g ls = (cwN c g ls).map Int.ofNat ∧ CwOk c g ls (cwN c g ls) := by
  obtain ⟨O, h1, h2⟩ := cw_ok ok hps
  rw [cwN_of h1]; exact ⟨h1, h2⟩
theorem osI_yes {c : List Int} {g : List Vx} {ls : List Int} (ok : waB c g ls = true) : osI c g ls = ordI g ls (cwN c g ls) := if_pos ok
theorem osI_no {c : List Int} {g : List Vx} {ls : List Int} (ok : waB c g ls = false) : osI c g ls = [] := if_neg (by rw [ok]; simp)
theorem osS_no {c : List Int} {g : List Vx} {ls : List Int} (ok : waB c g ls = false) : osS c g ls = [] := by unfold osS; rw [osI_no ok]; rfl
theorem osS_len (c : List Int) (g : List Vx) (ls : List Int) : (osS c g ls).length = (osI c g ls).length := by unfold osS; simp
theorem osD_len (c : List Int) (g : List Vx) (ls : List Int) : (osD c g ls).length = (osI c g ls).length := by unfold osD; simp
theorem ordI_len {g : List Vx} {ls : List Int} {O : List Nat} (hs : O.Pairwise (· < ·)) (h1 : ∀ v ∈ O, 1 ≤ v) : (ordI g ls O).length ≤ g.length := by
  have hnd := ord_nodup (g := g) (ls := ls) hs
  have hb : ∀ k ∈ ordI g ls O, k ∈ List.range g.length := fun k hk => List.mem_range.2 ((ord_mem h1).1 hk).1
  have := hnd.length_le_of_subset (l₂ := List.range g.length) hb
  simpa using this
theorem osI_len {c : List Int} {g : List Vx} {ls : List Int} (hps : ∀ x ∈ g, x.ps.length ≤ 1099511627776) : (osI c g ls).length ≤ g.length := by
  unfold osI
  split
  · rename_i ok
    have h := (cwN_ok ok hps).2
    exact ordI_len h.asc fun v hv => (h.mem v hv).1
  · simp
theorem osI_lt {c : List Int} {g : List Vx} {ls : List Int} (hps : ∀ x ∈ g, x.ps.length ≤ 1099511627776) : ∀ k ∈ osI c g ls, k < g.length := by
  intro k hk
  unfold osI at hk
  split at hk
  · rename_i ok
    have h := (cwN_ok ok hps).2
    exact ((ord_mem fun v hv => (h.mem v hv).1).1 hk).1
  · cases hk
/-- The same as the vertices, wave by wave. -/
theorem osS_ordV {c : List Int} {g : List Vx} {ls : List Int} (ok : waB c g ls = true) : osS c g ls = (ordV g ls (cwN c g ls)).map fun v => (v.r, v.a) := by
  unfold osS ordV
  rw [osI_yes ok, List.map_map]; rfl
theorem osD_ordV {c : List Int} {g : List Vx} {ls : List Int} (ok : waB c g ls = true) : osD c g ls = (ordV g ls (cwN c g ls)).map fun v => v.d := by
  unfold osD ordV
  rw [osI_yes ok, List.map_map]; rfl

end Go.Proofs.YtjaacdapibokiabDoor

/- The reference's committed waves, by walks of its texts; condition: the graph has at most 2^20 vertices. -/
namespace Go.Proofs.YtjaacdapibokiabDoor
open Go.RowKit

theorem TIw : IntT Tryd.prog 22 3 := ⟨Tryd.underlying22, by kernel_rfl⟩

set_option maxHeartbeats 8000000 in
set_option maxRecDepth 8000 in
theorem spec_l21Waves (ac : Option Addr) (capc : Nat) (c : List Int) (g : List Vx) (v : Value) (fp : List Nat) (al : Option Addr) (cap : Nat) (ls : List Int) (w : World) (hgb : graphB c g = true) (hlb : ls.length ≤ 15) (hbig : g.length ≤ 1048576) (hps : ∀ x ∈ g, x.ps.length ≤ 1099511627776) (hc : IntsAt w ac c) (hg : Gr w g v fp) (hi : IntsAt w al ls) :
    Calls Tryd.prog 34 #[.slice ac c.length capc, v, .slice al ls.length cap] w fun e w' => ∃ u, e = .returned u ∧ Own 3 w' w.heap.size u (wvs c g ls ls.length).1 ∧ Below w.heap.size w w' := by
  have hv : validB c = true := by have h := hgb; unfold graphB at h; simp only [Bool.and_eq_true] at h; exact h.1
  have hb0 : Below w.heap.size w (w.alloc (.cells #[] 3)) := (Below.refl _ _).alloc (Nat.le_refl _) _
  have Ho := Lib.hid (own_empty 3 w (Nat.le_refl w.heap.size))
  have hz0 : (w.alloc (.cells #[] 3)).heap.size = w.heap.size + 1 := by simp
  have HV := Lib.hid (fun m hm W (hb : Below w.heap.size w W) => spec_l21Votes ac capc c g v fp al cap ls m W hgb (by omega) hps hm hlb (hc.below hb) (hg.under hb) (hi.below hb))
  have HS := Lib.hid (fun W (hb : Below w.heap.size w W) => spec_l1Support ac capc c W hv (hc.below hb))
  have HL := Lib.hid (fun m hm W (hb : Below w.heap.size w W) => spec_l21Leader g v fp al cap ls m W (by omega) hm hlb (hg.under hb) (hi.below hb))
  have HP := Lib.hid (fun at' ha W (hb : Below w.heap.size w W) => spec_l11Past c g v fp at' W hgb hbig hps ha (hg.under hb))
  have Hb0 := Lib.hid hb0
  clear hc hg hi hps hb0 hgb hv
  go_enter Tryd.func34, Tryd.ntmps34
  go_wp2
  go_loopw [7, 8, 9] (fun o la i wr => ∃ m : Nat, 1 ≤ m ∧ m ≤ ls.length + 1 ∧ i = .int .i64 m ∧ la = .int .i64 ((wvs c g ls (m - 1)).2 : Nat) ∧ Own 3 wr w.heap.size o (wvs c g ls (m - 1)).1 ∧ Below w.heap.size w wr) (fun _ _ i _ => ls.length + 1 - (intOf i).toNat)
  case atStart => exact ⟨1, by omega, by omega, rfl, rfl, Ho.out, Hb0.out⟩
  case round =>
    obtain ⟨m, hm1, hm2, rfl, rfl, ho, hb⟩ := hrel
    have hwl := wvs_len (c := c) (g := g) (ls := ls) (m - 1)
    clear Ho Hb0 hz0
    have Ho := Lib.hid ho; have Hb := Lib.hid hb
    clear ho hb
    by_cases hlt : m ≤ ls.length
    · have hlt' : (m : Int) ≤ (ls.length : Int) := by omega
      go_wp2_with fail
      refine (HV.out m ⟨hm1, hlt⟩ wr Hb.out).mono ?_
      rintro e w1 ⟨rfl, hd1⟩
      have Ho1 := Lib.hid (Ho.out.below (hd1.below _))
      have Hb1 := Lib.hid (below_step Hb.out Hb.out.size (hd1.below _))
      clear hd1 Ho Hb
      go_wp2_with fail
      refine (HS.out w1 Hb1.out).mono ?_
      rintro e w2 ⟨rfl, rfl⟩
      by_cases hq : voZ c g ls m < totalZ c / 3 + 1
      · have hn := Lib.hid (wvs_no hm1 hq)
        generalize voZ c g ls m = V at *
        go_wp2
        go_roundw
        case rel => exact ⟨m + 1, by omega, by omega, by go_num, by rw [Nat.add_sub_cancel, hn.out], by rw [Nat.add_sub_cancel, hn.out]; exact Ho1.out, Hb1.out⟩
        case measure => simp [intOf]; omega
      · have hy := wvs_yes hm1 hq
        have Hy1 := Lib.hid (show (wvs c g ls m).1 = (wvs c g ls (m - 1)).1 ++ chZ g ls (wvs c g ls (m - 1)).2 (m - 1) [(m : Int)] (ldZ g ls m) by rw [hy])
        have Hy2 := Lib.hid (show (wvs c g ls m).2 = m by rw [hy])
        clear hy
        generalize voZ c g ls m = V at *
        generalize (wvs c g ls (m - 1)).2 = lo at *
        generalize (wvs c g ls (m - 1)).1 = O at *
        have hcl := chZ_len (g := g) (ls := ls) (lo := lo) (m - 1) [(m : Int)] (ldZ g ls m)
        generalize hCH : chZ g ls lo (m - 1) [(m : Int)] (ldZ g ls m) = CH at *
        have HCH := Lib.hid hCH; clear hCH
        have hal : Below w1.heap.size w1 (w1.alloc (.cells #[.int .i64 m] 3)) := (Below.refl _ _).alloc (Nat.le_refl _) _
        have oc := own_single 3 w1 m
        have hz1 : (w1.alloc (.cells #[.int .i64 m] 3)).heap.size = w1.heap.size + 1 := by simp
        have Hnb := Lib.hid (Ho1.out.lt)
        have hsw := Hb1.out.size
        have Ho2 := Lib.hid (Ho1.out.below hal)
        have Hb2 := Lib.hid (below_step Hb1.out Hb1.out.size hal)
        have Hc2 := Lib.hid oc
        clear oc hal Ho1 Hb1
        go_wp2_with fail
        generalize hw2 : w1.alloc (.cells #[.int .i64 m] 3) = w2 at *
        generalize hNB : w1.heap.size = NB at *
        refine (HL.out m ⟨hm1, hlt⟩ w2 Hb2.out).mono ?_
        rintro e w3 ⟨rfl, rfl⟩
        have Hlc := Lib.hid (ldZ_cases g ls m)
        go_wp2_with fail
        refine (HP.out _ Hlc.out w2 Hb2.out).mono ?_
        rintro e w4 ⟨pv, rfl, hpo, hb4⟩
        have Ho4 := Lib.hid (Ho2.out.below hb4)
        have Hc4 := Lib.hid (Hc2.out.below hb4)
        have Hb4 := Lib.hid (below_step Hb2.out Hb2.out.size hb4)
        have hs4 := hb4.size
        have Hp4 := Lib.hid (hpo.mono (show NB ≤ w2.heap.size by omega))
        clear hb4 hpo Ho2 Hc2 Hb2 hw2
        have hm0 : IntKind.i64.wrap ((m : Int) - 1) = ((m - 1 : Nat) : Int) := by rw [IntWalk.i64_in _ (by omega)]; omega
        go_wp2
        go_loopw [10, 11, 12] (fun ch pa xx wr => ∃ (x : Nat) (C : List Int) (at' : Int), x ≤ m - 1 ∧ xx = .int .i64 x ∧ C.length + x ≤ m ∧ chZ g ls lo x C at' = CH ∧ Own 3 wr NB ch C ∧ OwnB 4 wr NB pa (pastB g at') ∧ Own 3 wr w.heap.size u7 O ∧ Below w.heap.size w wr ∧ NB ≤ wr.heap.size) (fun _ _ xx _ => (intOf xx).toNat)
        case atStart => exact ⟨m - 1, [(m : Int)], ldZ g ls m, by omega, by first | rfl | rw [hm0], by simp; omega, HCH.out, Hc4.out, Hp4.out, Ho4.out, Hb4.out, by omega⟩
        case round =>
          obtain ⟨x, C, at', hx, rfl, hCl, hch, hc5, hp5, ho5, hb5, hn5⟩ := hrel
          have Hc5 := Lib.hid hc5; have Hp5 := Lib.hid hp5; have Ho5 := Lib.hid ho5; have Hb5 := Lib.hid hb5; have Hch := Lib.hid hch
          clear hc5 hp5 ho5 hb5 hch Hc4 Hp4 Ho4 Hb4 hs4 hm0
          obtain ⟨ac5, cc5, rfl, _, _⟩ := Hc5.out.ints
          have hCb : C.length ≤ 15 := by omega
          by_cases hxl : lo < x
          · have hxl' : (lo : Int) < (x : Int) := by omega
            have hx1 : IntKind.i64.wrap ((x : Int) - 1) = ((x - 1 : Nat) : Int) := by rw [IntWalk.i64_in _ (by omega)]; omega
            have Hyes := Lib.hid (fun h => (chZ_yes (g := g) (ls := ls) (ch := C) (at' := at') hxl h).symm.trans Hch.out)
            have Hno := Lib.hid (fun h => (chZ_no (g := g) (ls := ls) (ch := C) (at' := at') hxl h).symm.trans Hch.out)
            have Hlk := Lib.hid (show linkB g ls at' x = (decide (0 ≤ ldZ g ls x) && (pastB g at').getD (ldZ g ls x).toNat false) from rfl)
            have Hpl := Lib.hid (pastB_len g at')
            have Hlc := Lib.hid (ldZ_cases g ls x)
            clear hxl
            go_wp2_with fail
            refine (HL.out x ⟨by omega, by omega⟩ wr Hb5.out).mono ?_
            rintro e w6 ⟨rfl, rfl⟩
            have HPx := Lib.hid (HP.out _ Hlc.out)
            by_cases hz : 0 ≤ ldZ g ls x
            · obtain ⟨j, hj, hje⟩ : ∃ j : Nat, j < g.length ∧ ldZ g ls x = j := by
                rcases Hlc.out with h | h
                · omega
                · exact h
              have Hj := Lib.hid hje
              have hbl : (pastB g at').length = g.length := Hpl.out
              obtain ⟨gp, pc, rfl, _, hgp, _, hcell, _⟩ := Hp5.out.row (by omega)
              have hj0 : j < (pastB g at').length := by omega
              have hcj := hcell j hj0
              have hgj : (pastB g at').getD j false = (pastB g at')[j] := by simp [List.getD, List.getElem?_eq_getElem hj0]
              rw [← hgj] at hcj
              have Hlk2 := Lib.hid (show linkB g ls at' x = (pastB g at').getD j false by rw [Hlk.out, hje]; simp)
              have hz' : decide (0 ≤ (j : Int)) = true := by simp
              have HPj := Lib.hid (HP.out (j : Int) (.inr ⟨j, hj, rfl⟩))
              rw [hje]
              have hjl : (j : Int) < ((pastB g at').length : Int) := by omega
              clear hcell hgj hz Hlk hbl hj0 hje HPx
              cases hbj : (pastB g at').getD j false with
              | true =>
                have Hy := Lib.hid ((Hyes.out (Hlk2.out.trans hbj)).symm ▸ (show chZ g ls lo (x - 1) ((x : Int) :: C) (j : Int) = chZ g ls lo (x - 1) ((x : Int) :: C) (ldZ g ls x) by rw [Hj.out]))
                rw [hbj] at hcj
                clear hbj Hlk2 Hyes Hno
                have hal5 : Below wr.heap.size wr (wr.alloc (.cells #[.int .i64 x] 3)) := (Below.refl _ _).alloc (Nat.le_refl _) _
                have hz5 : (wr.alloc (.cells #[.int .i64 x] 3)).heap.size = wr.heap.size + 1 := by simp
                have Oc := Lib.hid (own_single 3 wr x)
                have Hsr := Lib.hid (own_src (Hc5.out.below hal5))
                have Ho6 := Lib.hid (Ho5.out.below hal5)
                have hsb := Hb5.out.size
                have Hb6 := Lib.hid (below_step Hb5.out Hb5.out.size hal5)
                have Hlt := Lib.hid (fun q e => (Ho5.out.lt q e).2)
                clear hal5
                go_wp2_with (at_builtin; refine wpList_appI TIw rfl _ _ rfl wr.heap.size (.slice (some ⟨wr.heap.size, 0, none⟩) 1 1) [(x : Int)] C ac5 cc5 rfl Oc.out rfl Hsr.out (by simp; omega) (by rw [hz5]; omega) ?_; intro v7 w7 ho7 hg7)
                have hs7 := hg7.size
                have Hb7 := Lib.hid (Hb6.out.grown hg7 (by omega) (fun q e => by cases e; omega))
                have Ho7 := Lib.hid (Ho6.out.kept hg7 (.inr (fun e => by have h9 := Hlt.out wr.heap.size e; omega)))
                have Hc7 := Lib.hid ho7
                clear ho7 hg7 Ho6 Hb6 Hsr Oc
                refine (HPj.out w7 Hb7.out).mono ?_
                rintro e w8 ⟨pv8, rfl, hp8, hb8⟩
                have Ho8 := Lib.hid (Ho7.out.below hb8)
                have Hc8 := Lib.hid ((Hc7.out.below hb8).mono (show NB ≤ wr.heap.size from hn5))
                have Hb8 := Lib.hid (below_step Hb7.out Hb7.out.size hb8)
                have Hp8 := Lib.hid (hp8.mono (show NB ≤ w7.heap.size by omega))
                have hs8 := hb8.size
                clear hp8 hb8
                go_wp2
                go_roundw
                case rel => exact ⟨x - 1, (x : Int) :: C, (j : Int), by omega, by first | rfl | rw [hx1], by rw [List.length_cons]; omega, Hy.out, Hc8.out, Hp8.out, Ho8.out, Hb8.out, by omega⟩
                case measure => simp [intOf]; omega
              | false =>
                have Hn := Lib.hid (Hno.out (Hlk2.out.trans hbj))
                rw [hbj] at hcj
                clear hbj Hlk2 Hyes Hno
                go_wp2
                go_roundw
                case rel => exact ⟨x - 1, C, at', by omega, by first | rfl | rw [hx1], by omega, Hn.out, Hc5.out, Hp5.out, Ho5.out, Hb5.out, hn5⟩
                case measure => simp [intOf]; omega
            · have Hn := Lib.hid (Hno.out (by rw [Hlk.out, decide_eq_false hz]; rfl))
              clear Hyes Hno Hlk
              generalize ldZ g ls x = z at *
              go_wp2
              go_roundw
              case rel => exact ⟨x - 1, C, at', by omega, by first | rfl | rw [hx1], by omega, Hn.out, Hc5.out, Hp5.out, Ho5.out, Hb5.out, hn5⟩
              case measure => simp [intOf]; omega
          · have hCH := (chZ_done (g := g) (ls := ls) (ch := C) (at' := at') (show x ≤ lo by omega)).symm.trans Hch.out
            have HCC := Lib.hid hCH; clear hCH
            have Hsr := Lib.hid (own_src Hc5.out)
            have hsb := Hb5.out.size
            have Hlt := Lib.hid (fun q e => (Ho5.out.lt q e).1)
            go_wp2_with (at_builtin; refine wpList_appI TIw rfl _ _ rfl w.heap.size u7 O C ac5 cc5 rfl Ho5.out rfl Hsr.out (by omega) hsb ?_; intro v8 w8 ho8 hg8)
            have Hb8 := Lib.hid (Hb5.out.grown hg8 hsb (fun q e => Hlt.out q e))
            have Ho8 := Lib.hid ho8
            clear ho8 hg8
            go_roundw
            case rel => exact ⟨m + 1, by omega, by omega, by go_num, by rw [Nat.add_sub_cancel, Hy2.out], by rw [Nat.add_sub_cancel, Hy1.out, ← HCC.out]; exact Ho8.out, Hb8.out⟩
            case measure => simp [intOf]; omega
    · have hml : m - 1 = ls.length := by omega
      go_wp2
      go_ret
      exact ⟨_, rfl, by rw [← hml]; exact Ho.out, Hb.out⟩

end Go.Proofs.YtjaacdapibokiabDoor

/- The reference's CommitWaves, by a walk of its text; condition: the graph has at most 2^20 vertices. -/
namespace Go.Proofs.YtjaacdapibokiabDoor
open Go.RowKit

end Go.Proofs.YtjaacdapibokiabDoor
