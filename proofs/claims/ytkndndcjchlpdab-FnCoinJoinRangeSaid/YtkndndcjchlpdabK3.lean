/- What impl's shard of a number is, by a walk of its text; conditions: the data is symbols, at most twelve, and fits its capacity. -/
import Derived.Test.YtkndndcjchlpdabJ3
namespace Go.Proofs.Ytkndndcjchlpdab
open Go.RowKit Go.Shelf
attribute [local go_sem] Oper.semAt_some

theorem region_round_L {P : Program} {L n : Nat} {id : Nat} {ops : Array Oper} {Q : Exit → Act → World → Prop} {a : Act} {w : World} (m : Nat) (S : World → Prop) (hm : P.follows .mixedOrders = true) (hd : noDefer ops = true) (hS : S w.drew)
    (h : S w.drew → wpAnyL P .any ops (JustNormal Q) m S ops.size (Array.replicate ops.size false) a w.drew) : (Code.region id ops true).wpIn (Fence.wide.inRound L) n P Q a w :=
  Code.wpIn_mono (Q := JustNormal Q) (fun e a w q => by cases e <;> first | exact q | exact (q : False).elim)
    (wpIn_region_any hm (any_round hd (by rintro ⟨a, w, h⟩; exact h) _ _ _ _ (any_of_L _ _ _ _ (h hS))))
theorem shardV_take {d : List Int} {need c : Nat} {x : Int} (h : c < colsN d need) : (shardV d need x).take (c + 1) = (shardV d need x).take c ++ [horZ ((d.drop (c * need)).take need) x] := by
  rw [List.take_succ_eq_append_getElem (by rw [shardV_len]; exact h), shardV_get, hor_val]

set_option maxHeartbeats 2000000 in
theorem impl_shardOf (a : Option Addr) (cap : Nat) (d : List Int) (need : Nat) (x : Int) (w : World) (hd : ∀ y ∈ d, 0 ≤ y ∧ y ≤ 250) (hlen : d.length ≤ 12) (hneed : need ≤ 8) (hneed1 : 1 ≤ need) (hx0 : 0 ≤ x) (hx8 : x ≤ 8) (hcap : d.length ≤ cap) (hc : IntsAt w a d) :
    Calls Try.prog 75 #[.slice a d.length cap, .int .i64 need, .int .i64 x] w fun e w' => ∃ v, e = .returned (.agg #[.int .i64 x, v]) ∧ Own 3 w' w.heap.size v (shardV d need x) ∧ Below w.heap.size w w' := by
  refine (callsIn_wide (n := 3)).1 ?_
  have Hd := Lib.hid hd; clear hd
  have Hc := Lib.hid hc; clear hc
  have hcol := cols_le (d := d) (need := need) hneed1 hlen
  refine callsIn_of_wp_marks Try.func75 rfl trivial ?_ rfl
  simp only [Try.ntmps75, List.size_toArray, List.length_cons, List.length_nil, Nat.reduceAdd, Nat.reduceSub, Array.replicate_succ, Array.replicate_zero, List.push_toArray, List.append_toArray, List.nil_append, List.cons_append]
  gi_wp2_with fail
  refine ⟨trivial, (callsIn_wide.2 (lib_Chunk a d.length cap need _ (by omega))).mono ?_⟩
  rintro e w' ⟨rfl, rfl⟩
  gi_wp2_with fail
  have hoe : Own 3 (((w.alloc (.cells #[.int .i64 x] 3)).alloc (.cells #[.int .i64 0, .slice none 0 0] 55)).alloc (.cells #[] 3)) (w.heap.size + 1 + 1) (.slice (some ⟨w.heap.size + 1 + 1, 0, none⟩) 0 0) [] := by
    have := own_empty 3 ((w.alloc (.cells #[.int .i64 x] 3)).alloc (.cells #[.int .i64 0, .slice none 0 0] 55)) (B := w.heap.size + 1 + 1) (by simp)
    simpa only [World.size_alloc] using this
  obtain ⟨w1, hw1⟩ : ∃ w1, (((((w.alloc (.cells #[.int .i64 x] 3)).alloc (.cells #[.int .i64 0, .slice none 0 0] 55)).alloc (.cells #[] 3)).alloc (.cells #[.slice (some ⟨w.heap.size + 1 + 1, 0, none⟩) 0 0] 30)).alloc (.cells #[.slice a d.length cap] 30)).alloc (.cells #[.int .i64 (need : Int)] 3) = w1 := ⟨_, rfl⟩
  have hz1 : w1.heap.size = w.heap.size + 6 := by rw [← hw1]; simp
  have c0 : Boxed w1 w.heap.size 3 (.int .i64 x) := by rw [← hw1]; exact (((((Boxed.new _ _ _).alloc _).alloc _).alloc _).alloc _).alloc _
  have c1 : Str w1 (w.heap.size + 1) 55 #[.int .i64 0, .slice none 0 0] := by rw [← hw1]; have := ((((Str.new (w.alloc (.cells #[.int .i64 x] 3)) 55 #[.int .i64 0, .slice none 0 0]).alloc (.cells #[] 3)).alloc (.cells #[.slice (some ⟨w.heap.size + 1 + 1, 0, none⟩) 0 0] 30)).alloc (.cells #[.slice a d.length cap] 30)).alloc (.cells #[.int .i64 (need : Int)] 3); simpa only [World.size_alloc] using this
  have c2 : Own 3 w1 (w.heap.size + 1 + 1) (.slice (some ⟨w.heap.size + 1 + 1, 0, none⟩) 0 0) [] := by rw [← hw1]; exact ((hoe.alloc _).alloc _).alloc _
  have c3 : Boxed w1 (w.heap.size + 1 + 1 + 1) 30 (.slice (some ⟨w.heap.size + 1 + 1, 0, none⟩) 0 0) := by rw [← hw1]; have := ((Boxed.new (((w.alloc (.cells #[.int .i64 x] 3)).alloc (.cells #[.int .i64 0, .slice none 0 0] 55)).alloc (.cells #[] 3)) 30 (.slice (some ⟨w.heap.size + 1 + 1, 0, none⟩) 0 0)).alloc (.cells #[.slice a d.length cap] 30)).alloc (.cells #[.int .i64 (need : Int)] 3); simpa only [World.size_alloc] using this
  have c4 : Boxed w1 (w.heap.size + 1 + 1 + 1 + 1) 30 (.slice a d.length cap) := by rw [← hw1]; have := (Boxed.new ((((w.alloc (.cells #[.int .i64 x] 3)).alloc (.cells #[.int .i64 0, .slice none 0 0] 55)).alloc (.cells #[] 3)).alloc (.cells #[.slice (some ⟨w.heap.size + 1 + 1, 0, none⟩) 0 0] 30)) 30 (.slice a d.length cap)).alloc (.cells #[.int .i64 (need : Int)] 3); simpa only [World.size_alloc] using this
  have c5 : Boxed w1 (w.heap.size + 1 + 1 + 1 + 1 + 1) 3 (.int .i64 (need : Int)) := by rw [← hw1]; have := Boxed.new (((((w.alloc (.cells #[.int .i64 x] 3)).alloc (.cells #[.int .i64 0, .slice none 0 0] 55)).alloc (.cells #[] 3)).alloc (.cells #[.slice (some ⟨w.heap.size + 1 + 1, 0, none⟩) 0 0] 30)).alloc (.cells #[.slice a d.length cap] 30)) 3 (.int .i64 (need : Int)); simpa only [World.size_alloc] using this
  have hb1 : Below w.heap.size w w1 := by rw [← hw1]; exact ((((((Below.refl _ w).alloc (Nat.le_refl _) _).alloc (by simp) _).alloc (by simp; omega) _).alloc (by simp; omega) _).alloc (by simp; omega) _).alloc (by simp; omega) _
  rw [hw1]
  clear hw1 hoe
  refine wpIn_over (gf := 79) (lb := #[.pointer (some ⟨w.heap.size + 1 + 1 + 1 + 1, 0, none⟩), .pointer (some ⟨w.heap.size + 1 + 1 + 1 + 1 + 1, 0, none⟩)]) rfl (enters_of Try.func79 (by kernel_rfl) rfl) ?_
  intro rec _ hround
  have Hround := Lib.hid hround; clear hround
  obtain ⟨w2, hw2⟩ : ∃ w2, (w1.alloc (.deferred (some []))).alloc (rec .ready none) = w2 := ⟨_, rfl⟩
  have hD2 : w2.heap[w1.heap.size]? = some (.deferred (some [])) := by
    rw [← hw2]; exact (Below.heap_alloc _ _ _ (by simp)).trans (World.alloc_heap_new w1 _)
  have hL2 : w2.heap[w1.heap.size + 1]? = some (rec .ready none) := by
    rw [← hw2]; have := World.alloc_heap_new (w1.alloc (.deferred (some []))) (rec .ready none); rwa [World.size_alloc] at this
  have hb2 : Below w1.heap.size w1 w2 := by rw [← hw2]; exact ((Below.refl _ w1).alloc (Nat.le_refl _) _).alloc (by simp) _
  have hz2 : w1.heap.size + 2 ≤ w2.heap.size := by rw [← hw2]; simp
  rw [hw2]
  clear hw2
  refine (lib_Chunk1 (w1.heap.size + 1) (w.heap.size + 1 + 1 + 1 + 1) (w.heap.size + 1 + 1 + 1 + 1 + 1) a cap d need hneed1 hneed hlen hcap
    (fun c W => (∃ v, Boxed W (w.heap.size + 1 + 1 + 1) 30 v ∧ Own 3 W (w.heap.size + 1 + 1) v ((shardV d need x).take c) ∧ (∀ g, v.ownBlock = some g → g = w.heap.size + 1 + 1 ∨ w1.heap.size + 2 ≤ g)) ∧ w1.heap.size + 2 ≤ W.heap.size ∧ Boxed W w.heap.size 3 (.int .i64 x) ∧ Str W (w.heap.size + 1) 55 #[.int .i64 0, .slice none 0 0] ∧ Boxed W (w.heap.size + 1 + 1 + 1 + 1) 30 (.slice a d.length cap) ∧ Boxed W (w.heap.size + 1 + 1 + 1 + 1 + 1) 3 (.int .i64 (need : Int)) ∧ W.heap[w1.heap.size]? = some (.deferred (some [])) ∧ W.heap[w1.heap.size + 1]? = some (rec .ready none) ∧ Below w.heap.size w W) ?D ?C ?Y w2
    ⟨⟨_, (hb2.block _ (by omega)).trans c3, c2.below hb2, fun g e => .inl (by cases e; rfl)⟩, hz2, (hb2.block _ (by omega)).trans c0, (hb2.block _ (by omega)).trans c1, (hb2.block _ (by omega)).trans c4, (hb2.block _ (by omega)).trans c5, hD2, hL2, below_step hb1 hb1.size hb2⟩).mono ?_
  case D =>
    rintro c W q ⟨⟨v, h1, h2, h3⟩, h4, h5, h6, h7, h8, h9, h10, h11⟩
    exact ⟨⟨v, h1, h2, h3⟩, h4, h5, h6, h7, h8, h9, h10, below_drewN h11 q⟩
  case C =>
    rintro c W ⟨_, _, _, _, b4, b5, _, _, hB⟩
    exact ⟨b4.cell, b5.cell, Hc.out.below hB⟩
  case Y =>
    rintro c W ac hcd ⟨⟨v, b3, hown, hvb⟩, hsz, b0, b1, b4, b5, hD, hL, hB⟩ hiac hab
    have hLlt := (Array.getElem?_eq_some_iff.1 hL).1
    have hlc := (cols_lt (d := d) (c := c) hneed1).2 hcd
    have hpl : ((d.drop (c * need)).take need).length ≤ 12 := by simp; omega
    have hpd : ∀ y ∈ (d.drop (c * need)).take need, 0 ≤ y ∧ y ≤ 250 := fun y hy => Hd.out y (List.mem_of_mem_drop (List.mem_of_mem_take hy))
    have hacb : ∀ p, ac = some p → p.block < w.heap.size := fun p hp => by
      obtain ⟨q, hq, hpq⟩ := hab p hp
      obtain ⟨b', hb', h⟩ := Hc.out.block (show 0 < d.length by omega)
      rw [hq] at hb'; cases hb'; omega
    have Hz := Lib.hid (shardV_take (x := x) hlc)
    have hzl := Lib.hid (show ((shardV d need x).take c).length ≤ 1099511627776 by rw [List.length_take, shardV_len]; omega)
    have Hpd := Lib.hid hpd
    clear hpd hab hlc hcd
    generalize (d.drop (c * need)).take need = col at *
    refine Hround.out #[.slice ac col.length col.length] W _ rfl hL ?_
    gi_wp2
    refine ⟨hL, ?_⟩
    have hg1 := grownBy_putObj' W (w1.heap.size + 1) (rec .busy none)
    have hL3 : (W.putObj (w1.heap.size + 1) (rec .busy none)).heap[w1.heap.size + 1]? = some (rec .busy none) := World.putObj_heap_same hLlt
    have hD3 : (W.putObj (w1.heap.size + 1) (rec .busy none)).heap[w1.heap.size]? = some (.deferred (some [])) := (World.putObj_heap_other (by omega)).trans hD
    have b0 := b0.kept hg1 (by simp; omega)
    have b1 := b1.kept hg1 (by simp; omega)
    have b3 := b3.kept hg1 (by simp; omega)
    have b4 := b4.kept hg1 (by simp; omega)
    have b5 := b5.kept hg1 (by simp; omega)
    have hown := hown.kept hg1 (.inr (fun e => by rcases hvb _ e with h | h <;> omega))
    have hi3 := hiac.other hg1 (fun b' e => by have := hacb _ e; omega)
    have hB3 : Below w.heap.size w (W.putObj (w1.heap.size + 1) (rec .busy none)) := hB.grown hg1 hB.size (fun k e => by cases e; omega)
    have hsz3 : w1.heap.size + 2 ≤ (W.putObj (w1.heap.size + 1) (rec .busy none)).heap.size := by rw [World.putObj_size]; exact hsz
    clear hL hD hB hg1 hLlt hiac
    generalize W.putObj (w1.heap.size + 1) (rec .busy none) = W3 at *
    have Hcall := Lib.hid (fun W4 (h : IntsAt W4 ac col) => impl_valueAt ac col.length col x W4 (by omega) Hpd.out hx0 hx8 h)
    generalize horZ col x = z at *
    generalize (shardV d need x).take c = zs at hown Hz hzl
    have h3 := b3.cell
    have h0 := b0.cell
    gi_wp2_with fail
    refine region_round_L 6 (fun w' => w'.cell? ⟨w.heap.size + 1 + 1 + 1, 0, none⟩ = some v ∧ w'.cell? ⟨w.heap.size, 0, none⟩ = some (.int .i64 x)) (by kernel_rfl) (by kernel_rfl) ⟨h3, h0⟩ (fun hH => ?_)
    refine takeL 0 (v := ?v0) rfl (by kernel_rfl) (by kernel_rfl) (by kernel_rfl) (by kernel_rfl) (by kernel_rfl) (fun _ _ _ h => h) hH rfl ?y0 ?r0
    case y0 => intro w hSw; go_simp; try with_reducible rfl
    try simp only [Act.put, List.setIfInBounds_toArray, List.set_cons_zero, List.set_cons_succ]
    refine takeL 1 (v := ?v1) rfl (by kernel_rfl) (by kernel_rfl) (by kernel_rfl) (by kernel_rfl) (by kernel_rfl) (fun _ _ _ h => h) hH rfl ?y1 ?r1
    case y1 => intro w hSw; go_simp; try with_reducible rfl
    try simp only [Act.put, List.setIfInBounds_toArray, List.set_cons_zero, List.set_cons_succ]
    refine takeL 2 (v := ?v2) rfl (by kernel_rfl) (by kernel_rfl) (by kernel_rfl) (by kernel_rfl) (by kernel_rfl) (fun _ _ _ h => h) hH rfl ?y2 ?r2
    case y2 => intro w hSw; go_simp; try with_reducible rfl
    try simp only [Act.put, List.setIfInBounds_toArray, List.set_cons_zero, List.set_cons_succ]
    refine callL 3 rfl (by kernel_rfl) rfl (fun K hK => ?_)
    go_simp
    refine (Hcall.out W3.drew hi3).mono ?_
    rintro e W6 ⟨rfl, hb6⟩
    have hdr : W3.drew.heap.size = W3.heap.size := rfl
    have hs6 := hb6.size
    have hs3 : W3.heap.size ≤ W6.heap.size := hs6
    refine hK.out _ _ ⟨(hb6.cell (p := ⟨w.heap.size + 1 + 1 + 1, 0, none⟩) (by simp; omega)).trans h3, (hb6.cell (p := ⟨w.heap.size, 0, none⟩) (by simp; omega)).trans h0⟩ (fun hH => ?_)
    clear hK K
    try simp only [Act.put, List.setIfInBounds_toArray, List.set_cons_zero, List.set_cons_succ]
    refine callL 4 rfl (by kernel_rfl) rfl (fun K hK => ?_)
    go_simp
    refine hK.out _ _ ⟨(World.grownBy_alloc W6 _ none).cell hH.1 (by simp), (World.grownBy_alloc W6 _ none).cell hH.2 (by simp)⟩ (fun hH => ?_)
    clear hK K
    try simp only [Act.put, List.setIfInBounds_toArray, List.set_cons_zero, List.set_cons_succ]
    have hown6 := Own.below (w := W3.drew) hown hb6
    have hB6 := below_step hB3.drew hB3.size hb6
    have hb36 := hb6
    have b0 := (hb36.block _ b0.lt).trans b0
    have b1 := (hb36.block _ b1.lt).trans b1
    have b3 := (hb36.block _ b3.lt).trans b3
    have b4 := (hb36.block _ b4.lt).trans b4
    have b5 := (hb36.block _ b5.lt).trans b5
    have hL6 := (hb36.block _ (by omega)).trans hL3
    have hD6 := (hb36.block _ (by omega)).trans hD3
    refine callL 5 rfl (by kernel_rfl) rfl (fun K hK => ?_)
    refine op_push_at TI3 W6 (.tmp 14) (.tmp 18) rfl (w.heap.size + 1 + 1) v zs z rfl hown6 hzl.out rfl (by omega) ?_
    intro v8 W8 hown8 hg8 hat8
    have hn : ∀ B, B ≠ w.heap.size + 1 + 1 → B < w1.heap.size + 2 → some B ≠ v.ownBlock := fun B hB1 hB2 e => by rcases hvb _ e.symm with h | h <;> omega
    have b0 : Boxed W8 w.heap.size 3 (.int .i64 x) := (hg8.block _ (by omega) (hn _ (by omega) (by omega))).trans b0
    have b1 : Str W8 (w.heap.size + 1) 55 #[.int .i64 0, .slice none 0 0] := (hg8.block _ (by omega) (hn _ (by omega) (by omega))).trans b1
    have b3 : Boxed W8 (w.heap.size + 1 + 1 + 1) 30 v := (hg8.block _ (by omega) (hn _ (by omega) (by omega))).trans b3
    have b4 : Boxed W8 (w.heap.size + 1 + 1 + 1 + 1) 30 (.slice a d.length cap) := (hg8.block _ (by omega) (hn _ (by omega) (by omega))).trans b4
    have b5 : Boxed W8 (w.heap.size + 1 + 1 + 1 + 1 + 1) 3 (.int .i64 (need : Int)) := (hg8.block _ (by omega) (hn _ (by omega) (by omega))).trans b5
    have hL8 := (hg8.block _ (by omega) (hn _ (by omega) (by omega))).trans hL6
    have hD8 := (hg8.block _ (by omega) (hn _ (by omega) (by omega))).trans hD6
    have hB8 := hB6.grown hg8 (by omega) (fun g e => by rcases hvb g e with h | h <;> omega)
    have hs8 : w1.heap.size + 2 ≤ W8.heap.size := by have := hg8.size; omega
    have hvb8 : ∀ g, v8.ownBlock = some g → g = w.heap.size + 1 + 1 ∨ w1.heap.size + 2 ≤ g := fun g e => by
      rcases hat8 with h | ⟨g', h, h'⟩
      · exact hvb g (by rw [← h]; exact e)
      · rw [h] at e; cases e; exact .inr (by omega)
    have h3' := b3.cell
    have h0' := b0.cell
    have f3' := b3.frozen
    refine hK.out _ _ ⟨h3', h0'⟩ (fun hH => ?_)
    clear hK K
    try simp only [Act.put, List.setIfInBounds_toArray, List.set_cons_zero, List.set_cons_succ]
    obtain ⟨g8, c8, rfl⟩ := own_succ hown8
    refine lastL rfl (by kernel_rfl) (by kernel_rfl) (by kernel_rfl) rfl (fun K hK => ?_)
    go_simp
    refine hK.out _ _ ?_
    clear hK K
    try simp only [Act.put, List.setIfInBounds_toArray, List.set_cons_zero, List.set_cons_succ]
    refine JustNormal.intro ?_
    have hL9 : (W8.setCell ⟨w.heap.size + 1 + 1 + 1, 0, none⟩ (.slice (some ⟨g8, 0, none⟩) (zs.length + 1) c8)).heap[w1.heap.size + 1]? = some (rec .busy none) := (Below.heap_setCell _ _ _ _ (by simp; omega)).trans hL8
    have hL9lt := (Array.getElem?_eq_some_iff.1 hL9).1
    have hg9 := grownBy_putObj' (W8.setCell ⟨w.heap.size + 1 + 1 + 1, 0, none⟩ (.slice (some ⟨g8, 0, none⟩) (zs.length + 1) c8)) (w1.heap.size + 1) (rec .ready none)
    have hB9 := hB8.setCell (p := ⟨w.heap.size + 1 + 1 + 1, 0, none⟩) (by simp; omega) (.slice (some ⟨g8, 0, none⟩) (zs.length + 1) c8)
    refine ⟨hL9, .inl ⟨rfl, rfl, ⟨_, (b3.set _).kept hg9 (by simp; omega), ?_, hvb8⟩, ?_, ?_, ?_, ?_, ?_, ?_, World.putObj_heap_same hL9lt, ?_⟩⟩
    · rw [Hz.out]
      exact (hown8.set_other (fun e => by rcases hvb8 _ e with h | h <;> omega) 0 (.slice (some ⟨g8, 0, none⟩) (zs.length + 1) c8)).kept hg9 (.inr (fun e => by rcases hvb8 _ e with h | h <;> omega))
    · rw [World.putObj_size]; exact Nat.le_trans hs8 (grownBy_set W8 _ 0 (.slice (some ⟨g8, 0, none⟩) (zs.length + 1) c8)).size
    · exact (b0.other (B' := w.heap.size + 1 + 1 + 1) (by omega) _).kept hg9 (by simp; omega)
    · exact (b1.other (B' := w.heap.size + 1 + 1 + 1) (by omega) 0 _).kept hg9 (by simp; omega)
    · exact (b4.other (B' := w.heap.size + 1 + 1 + 1) (by omega) _).kept hg9 (by simp; omega)
    · exact (b5.other (B' := w.heap.size + 1 + 1 + 1) (by omega) _).kept hg9 (by simp; omega)
    · exact (World.putObj_heap_other (by omega)).trans ((Below.heap_setCell _ _ _ _ (by simp; omega)).trans hD8)
    · exact hB9.grown hg9 hB9.size (fun k e => by cases e; omega)
  · rintro e W ⟨hv, ⟨v, b3, hown, hvb⟩, hsz, b0, b1, b4, b5, hD, hL, hB⟩
    refine ⟨hv, .inl ⟨hL, ?_⟩⟩
    have hg1 := grownBy_putObj' W (w1.heap.size + 1) (rec .exhausted none)
    have hD1 : (W.putObj (w1.heap.size + 1) (rec .exhausted none)).heap[w1.heap.size]? = some (.deferred (some [])) := (World.putObj_heap_other (by omega)).trans hD
    have b0 := b0.kept hg1 (by simp; omega)
    have b1 := b1.kept hg1 (by simp; omega)
    have b3 := b3.kept hg1 (by simp; omega)
    have hown := hown.kept hg1 (.inr (fun e => by rcases hvb _ e with h | h <;> omega))
    have hB1 : Below w.heap.size w (W.putObj (w1.heap.size + 1) (rec .exhausted none)) := hB.grown hg1 hB.size (fun k e => by cases e; omega)
    clear b4 b5 hL hD hB hg1
    generalize W.putObj (w1.heap.size + 1) (rec .exhausted none) = W3 at *
    rw [List.take_of_length_le (by rw [shardV_len]; omega)] at hown
    obtain ⟨av, cv, rfl, _, _⟩ := hown.ints
    have h3 := b3.cell
    have h0 := b0.cell
    have k0 := b1.cell 0 (v := .int .i64 0) rfl
    have k1 := b1.cell 1 (v := .slice none 0 0) rfl
    have f0 := b1.frozen 0
    have f1 := b1.frozen 1
    have Hown := Lib.hid hown; clear hown
    gi_wp2
    have sF := (b1.set 0 (.int .i64 x)).set 1 (.slice av (shardV d need x).length cv)
    have hF := (hB1.setCell (p := ⟨w.heap.size + 1, 0, none⟩) (by simp) (.int .i64 x)).setCell (p := ⟨w.heap.size + 1, 1, none⟩) (by simp) (.slice av (shardV d need x).length cv)
    have hDF : ((W3.setCell ⟨w.heap.size + 1, 0, none⟩ (.int .i64 x)).setCell ⟨w.heap.size + 1, 1, none⟩ (.slice av (shardV d need x).length cv)).heap[w1.heap.size]? = some (.deferred (some [])) := (Below.heap_setCell _ _ _ _ (by simp; omega)).trans ((Below.heap_setCell _ _ _ _ (by simp; omega)).trans hD1)
    have hne : (Value.slice av (shardV d need x).length cv).ownBlock ≠ some (w.heap.size + 1) := fun e => by rcases hvb _ e with h | h <;> omega
    have oF := (Hown.out.set_other hne 0 (.int .i64 x)).set_other hne 1 (.slice av (shardV d need x).length cv)
    generalize ((W3.setCell ⟨w.heap.size + 1, 0, none⟩ (.int .i64 x)).setCell ⟨w.heap.size + 1, 1, none⟩ (.slice av (shardV d need x).length cv)) = W4 at *
    have hg4 := grownBy_putObj' W4 w1.heap.size (.deferred none)
    have sG := sF.kept hg4 (by simp; omega)
    have e0 := sG.cell 0 (v := .int .i64 x) rfl
    have e1 := sG.cell 1 (v := .slice av (shardV d need x).length cv) rfl
    refine ⟨by simp, .inl ⟨_, _, rfl, run_takeDeferred hDF, ?_⟩⟩
    refine ⟨.agg #[.int .i64 x, .slice av (shardV d need x).length cv], by simp [results, Try.f75, go_sem, e0, e1], ⟨_, rfl, (oF.kept hg4 (.inr (fun e => by rcases hvb _ e with h | h <;> omega))).mono (by omega), hF.grown hg4 hF.size (fun k e => by cases e; omega)⟩⟩

end Go.Proofs.Ytkndndcjchlpdab
