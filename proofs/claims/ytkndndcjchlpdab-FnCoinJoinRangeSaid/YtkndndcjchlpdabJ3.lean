/- What impl's value of a column and its shards are, each by a walk of its text; conditions: a list that is read is short, the numbers are symbols. -/
import Derived.Test.YtkndndcjchlpdabI3
import Derived.Test.YtkndndcjchlpdabSched
import Derived.Test.YtkndndcjchlpdabPush
namespace Go.Proofs.Ytkndndcjchlpdab
open Go.RowKit Go.Shelf
attribute [local go_sem] Oper.semAt_some

theorem impl_valueAt (a : Option Addr) (cap : Nat) (l : List Int) (x : Int) (w : World) (hbig : l.length ≤ 1000) (hd : ∀ y ∈ l, 0 ≤ y ∧ y ≤ 250) (hx0 : 0 ≤ x) (hx8 : x ≤ 8) (hc : IntsAt w a l) :
    Calls Try.prog 67 #[.slice a l.length cap, .int .i64 x] w fun e w' => e = .returned (.int .i64 (horZ l x)) ∧ Below w.heap.size w w' := by
  refine (callsIn_wide (n := 3)).1 ?_
  have Hd := Lib.hid hd; clear hd
  have Hc := Lib.hid hc; clear hc
  refine callsIn_of_wp_marks Try.func67 rfl trivial ?_ rfl
  simp only [Try.ntmps67, List.size_toArray, List.length_cons, List.length_nil, Nat.reduceAdd, Nat.reduceSub, Array.replicate_succ, Array.replicate_zero, List.push_toArray, List.append_toArray, List.nil_append, List.cons_append]
  gi_wp2_with fail
  refine ⟨trivial, (callsIn_wide.2 (lib_Backward a l.length cap _)).mono ?_⟩
  rintro e w' ⟨rfl, rfl⟩
  gi_wp2_with fail
  obtain ⟨w1, hw1⟩ : ∃ w1, ((w.alloc (.cells #[.int .i64 x] 3)).alloc (.cells #[.int .i64 0] 3)).alloc (.cells #[.slice a l.length cap] 30) = w1 := ⟨_, rfl⟩
  have hz1 : w1.heap.size = w.heap.size + 3 := by rw [← hw1]; simp
  have c0 : Boxed w1 w.heap.size 3 (.int .i64 x) := by rw [← hw1]; exact ((Boxed.new _ _ _).alloc _).alloc _
  have c1 : Boxed w1 (w.heap.size + 1) 3 (.int .i64 0) := by rw [← hw1]; have := (Boxed.new (w.alloc (.cells #[.int .i64 x] 3)) 3 (.int .i64 0)).alloc (.cells #[.slice a l.length cap] 30); simpa only [World.size_alloc] using this
  have c2 : Boxed w1 (w.heap.size + 1 + 1) 30 (.slice a l.length cap) := by rw [← hw1]; have := Boxed.new ((w.alloc (.cells #[.int .i64 x] 3)).alloc (.cells #[.int .i64 0] 3)) 30 (.slice a l.length cap); simpa only [World.size_alloc] using this
  have hb1 : Below w.heap.size w w1 := by rw [← hw1]; exact (((Below.refl _ w).alloc (Nat.le_refl _) _).alloc (by simp) _).alloc (by simp; omega) _
  rw [hw1]
  clear hw1
  refine wpIn_over (gf := 78) (lb := #[.pointer (some ⟨w.heap.size + 1 + 1, 0, none⟩)]) rfl (enters_of Try.func78 (by kernel_rfl) rfl) ?_
  intro rec _ hround
  have Hround := Lib.hid hround; clear hround
  obtain ⟨w2, hw2⟩ : ∃ w2, (w1.alloc (.deferred (some []))).alloc (rec .ready none) = w2 := ⟨_, rfl⟩
  have hD2 : w2.heap[w1.heap.size]? = some (.deferred (some [])) := by
    rw [← hw2]; exact (Below.heap_alloc _ _ _ (by simp)).trans (World.alloc_heap_new w1 _)
  have hL2 : w2.heap[w1.heap.size + 1]? = some (rec .ready none) := by
    rw [← hw2]; have := World.alloc_heap_new (w1.alloc (.deferred (some []))) (rec .ready none); rwa [World.size_alloc] at this
  have hb2 : Below w1.heap.size w1 w2 := by rw [← hw2]; exact ((Below.refl _ w1).alloc (Nat.le_refl _) _).alloc (by simp) _
  rw [hw2]
  clear hw2
  refine (lib_Backward1 (w1.heap.size + 1) (w.heap.size + 1 + 1) a cap l (by omega)
    (fun k W => Boxed W w.heap.size 3 (.int .i64 x) ∧ Boxed W (w.heap.size + 1) 3 (.int .i64 (horZ (l.drop k) x)) ∧ Boxed W (w.heap.size + 1 + 1) 30 (.slice a l.length cap) ∧ W.heap[w1.heap.size]? = some (.deferred (some [])) ∧ W.heap[w1.heap.size + 1]? = some (rec .ready none) ∧ Below w.heap.size w W) ?C ?Y w2
    ⟨(hb2.block _ (by omega)).trans c0, by rw [List.drop_length]; exact (hb2.block _ (by omega)).trans c1, (hb2.block _ (by omega)).trans c2, hD2, hL2, below_step hb1 hb1.size hb2⟩).mono ?_
  case C =>
    rintro i W ⟨_, _, b2, _, _, hB⟩
    exact ⟨b2.cell, Hc.out.below hB⟩
  case Y =>
    rintro k hk W ⟨b0, b1, b2, hD, hL, hB⟩
    have hLlt := (Array.getElem?_eq_some_iff.1 hL).1
    refine Hround.out #[.int .i64 (k : Int), .int .i64 l[k]] W _ rfl hL ?_
    gi_wp2
    refine ⟨hL, ?_⟩
    have hg1 := grownBy_putObj' W (w1.heap.size + 1) (rec .busy none)
    have hL3 : (W.putObj (w1.heap.size + 1) (rec .busy none)).heap[w1.heap.size + 1]? = some (rec .busy none) := World.putObj_heap_same hLlt
    have hD3 : (W.putObj (w1.heap.size + 1) (rec .busy none)).heap[w1.heap.size]? = some (.deferred (some [])) := (World.putObj_heap_other (by omega)).trans hD
    have b0 := b0.kept hg1 (by simp; omega)
    have b1 := b1.kept hg1 (by simp; omega)
    have b2 := b2.kept hg1 (by simp; omega)
    have hB3 : Below w.heap.size w (W.putObj (w1.heap.size + 1) (rec .busy none)) := hB.grown hg1 hB.size (fun k e => by cases e; omega)
    clear hL hD hB hg1 hLlt
    generalize W.putObj (w1.heap.size + 1) (rec .busy none) = W3 at *
    have hcb0 := b0.cell
    have hcb1 := b1.cell
    have hfb1 := b1.frozen
    have hh := Lib.hid (horZ_drop hk x)
    have hbd := horZ_bd (l.drop (k + 1)) x
    have hy := Hd.out _ (List.getElem_mem hk)
    generalize horZ (l.drop (k + 1)) x = h at *
    generalize l[k] = y at *
    have hm := mul_bd hbd.1 hbd.2 hx0 hx8
    have Hbx := Lib.hid b1
    obtain ⟨q, hq⟩ : ∃ q, h * x = q := ⟨_, rfl⟩
    rw [hq] at hm
    have hh' := Lib.hid (hh.out.trans (by rw [hq]))
    clear hh
    gi_wp2
    have hL4 : (W3.setCell ⟨w.heap.size + 1, 0, none⟩ (.int .i64 (horZ (l.drop k) x))).heap[w1.heap.size + 1]? = some (rec .busy none) := (Below.heap_setCell _ _ _ _ (by simp; omega)).trans hL3
    rw [← hh'.out]
    have hL4lt := (Array.getElem?_eq_some_iff.1 hL4).1
    have hg5 := grownBy_putObj' (W3.setCell ⟨w.heap.size + 1, 0, none⟩ (.int .i64 (horZ (l.drop k) x))) (w1.heap.size + 1) (rec .ready none)
    have hB4 := hB3.setCell (p := ⟨w.heap.size + 1, 0, none⟩) (by simp) (.int .i64 (horZ (l.drop k) x))
    refine ⟨hL4, .inl ⟨rfl, rfl, ?_, ?_, ?_, ?_, World.putObj_heap_same hL4lt, ?_⟩⟩
    · exact (b0.other (B' := w.heap.size + 1) (by omega) _).kept hg5 (by simp; omega)
    · exact (b1.set _).kept hg5 (by simp; omega)
    · exact (b2.other (B' := w.heap.size + 1) (by omega) _).kept hg5 (by simp; omega)
    · exact (World.putObj_heap_other (by omega)).trans ((Below.heap_setCell _ _ _ _ (by simp; omega)).trans hD3)
    · exact hB4.grown hg5 hB4.size (fun k e => by cases e; omega)
  · rintro e W ⟨hv, b0, b1, b2, hD, hL, hB⟩
    refine ⟨hv, .inl ⟨hL, ?_⟩⟩
    have hg1 := grownBy_putObj' W (w1.heap.size + 1) (rec .exhausted none)
    have hD1 : (W.putObj (w1.heap.size + 1) (rec .exhausted none)).heap[w1.heap.size]? = some (.deferred (some [])) := (World.putObj_heap_other (by omega)).trans hD
    have b1 := b1.kept hg1 (by simp; omega)
    have hB1 : Below w.heap.size w (W.putObj (w1.heap.size + 1) (rec .exhausted none)) := hB.grown hg1 hB.size (fun k e => by cases e; omega)
    clear b0 b2 hL hD hB hg1
    generalize W.putObj (w1.heap.size + 1) (rec .exhausted none) = W3 at *
    have hcb := b1.cell
    rw [List.drop_zero] at hcb
    gi_wp2
    refine ⟨by simp, .inl ⟨_, _, rfl, run_takeDeferred hD1, ?_⟩⟩
    refine ⟨_, results_tmp rfl _ _ _, ?_, hB1.grown (grownBy_putObj' _ _ _) hB1.size (fun k e => by cases e; omega)⟩
    exact rfl

theorem lib_Chunk (a : Option Addr) (n c : Nat) (need : Int) (w : World) (h1 : 1 ≤ need) : Calls Try.prog 77 #[.slice a n c, .int .i64 need] w fun e w' =>
    e = .returned (.func (.func 79) #[] #[.pointer (some ⟨w.heap.size, 0, none⟩), .pointer (some ⟨w.heap.size + 1, 0, none⟩)]) ∧ w' = (w.alloc (.cells #[.slice a n c] 30)).alloc (.cells #[.int .i64 need] 3) := by
  go_enter Try.func77, Try.ntmps77
  go_wp2
  go_ret
  exact ⟨rfl, rfl⟩

theorem IntsAt.part {w : World} {b off : Nat} {l : List Int} (hb : b < w.heap.size) (h : ∀ j (h : j < l.length), w.cell? ⟨b, off + j, none⟩ = some (.int .i64 l[j])) (m n : Nat) : IntsAt w (some ⟨b, off + m, none⟩) ((l.drop m).take n) := by
  refine .inr ⟨b, off + m, rfl, hb, fun j hj => ?_⟩
  simp only [List.length_take, List.length_drop] at hj
  have := h (m + j) (by omega)
  rw [Nat.add_assoc, this]
  simp
theorem mul_lt_cols {l : List Int} {need c : Nat} (hn : 1 ≤ need) (h : ¬ c * need < l.length) (hc : c ≤ colsN l need) : c = colsN l need := by
  rcases Nat.lt_or_ge c (colsN l need) with h' | h'
  · exact absurd ((cols_lt hn).1 h') h
  · omega

theorem lib_Chunk1 (L B1 B2 : Nat) (a : Option Addr) (cap : Nat) (l : List Int) (need : Nat) (h1 : 1 ≤ need) (h8 : need ≤ 8) (hbig : l.length ≤ 12) (hcap : l.length ≤ cap) (J : Nat → World → Prop)
    (hJ : ∀ c W q, J c W → J c (W.drewN q))
    (hc : ∀ c W, J c W → W.cell? ⟨B1, 0, none⟩ = some (.slice a l.length cap) ∧ W.cell? ⟨B2, 0, none⟩ = some (.int .i64 (need : Int)) ∧ IntsAt W a l)
    (hY : ∀ c (W : World) ac, c * need < l.length → J c W → IntsAt W ac ((l.drop (c * need)).take need) → (∀ p, ac = some p → ∃ q, a = some q ∧ p.block = q.block) → YieldAt Fence.wide 1 Try.prog L #[.slice ac ((l.drop (c * need)).take need).length ((l.drop (c * need)).take need).length] W fun e W' => e = .returned (.bool true) ∧ J (c + 1) W')
    (W : World) (h0 : J 0 W) :
    CallsIn Fence.wide 2 Try.prog 79 #[.func (.yield L) #[] #[], .pointer (some ⟨B1, 0, none⟩), .pointer (some ⟨B2, 0, none⟩)] W fun e W' => (∃ v, e = .returned v) ∧ J (colsN l need) W' := by
  have HY := Lib.hid hY; clear hY
  have Hc := Lib.hid hc; clear hc
  have HJ := Lib.hid hJ; clear hJ
  refine callsIn_of_wp Try.func79 rfl trivial ?_ rfl
  simp only [Try.ntmps79, List.size_toArray, List.length_cons, List.length_nil, Nat.reduceAdd, Nat.reduceSub, Array.replicate_succ, Array.replicate_zero, List.push_toArray, List.append_toArray, List.nil_append, List.cons_append]
  gi_wp2
  gi_loopw [4, 5] (fun i _ wr => ∃ c m : Nat, c ≤ colsN l need ∧ m = c * need ∧ i = .int .i64 (m : Int) ∧ J c wr) (fun i _ _ => l.length - (intOf i).toNat)
  case atStart => exact ⟨0, 0, Nat.zero_le _, (Nat.zero_mul _).symm, rfl, h0⟩
  case round =>
    obtain ⟨c, m, hcn, hm, rfl, hJc⟩ := hrel
    have Hm := Lib.hid hm; clear hm
    obtain ⟨hcell1, hcell2, hi⟩ := Hc.out _ _ hJc
    have Hi := Lib.hid hi; clear hi
    by_cases hlt : m < l.length
    · obtain ⟨b, off, rfl, hb, hcs⟩ := Hi.out.cell (by omega)
      have Hcs := Lib.hid hcs; clear hcs
      obtain ⟨e, he⟩ : ∃ e : Nat, min need (l.length - m) = e := ⟨_, rfl⟩
      have hpl : ((l.drop m).take need).length = e := by simp [he]
      have hmc : m < cap := by omega
      have hcs1 : c + 1 ≤ colsN l need := (cols_lt h1).2 (by rw [← Hm.out]; exact hlt)
      have hm1 := Lib.hid (show m + need = (c + 1) * need by rw [Nat.add_mul, Nat.one_mul, ← Hm.out])
      have hyy := HY.out c wr.drew (some ⟨b, off + m, none⟩) (by rw [← Hm.out]; exact hlt) (HJ.out c wr 1 hJc) (by rw [← Hm.out]; exact IntsAt.part (w := wr.drew) hb Hcs.out m need) (fun p hp => by cases hp; exact ⟨_, rfl, rfl⟩)
      rw [← Hm.out, hpl] at hyy
      by_cases hle : (need : Int) ≤ (l.length : Int) - (m : Int)
      · have hee : e = need := by omega
        rw [hee] at hyy
        clear hee he hpl
        obtain ⟨fn, tmps, assign, body, hy, hR⟩ := hyy
        gi_wp2
        gi_region
        gi_wp2
        refine hR.mono ?_
        rintro e W3 ⟨rfl, hJ3⟩
        obtain ⟨hd1, hd2, _⟩ := Hc.out _ _ hJ3
        clear hcell1 hcell2 hJc
        gi_wp2
        go_roundw
        case rel => exact ⟨c + 1, m + need, hcs1, hm1.out, by go_num, hJ3⟩
        case measure => simp [intOf]; omega
      · have hee : e = l.length - m := by omega
        rw [hee] at hyy
        clear hee he hpl
        obtain ⟨fn, tmps, assign, body, hy, hR⟩ := hyy
        gi_wp2
        gi_region
        gi_wp2
        refine hR.mono ?_
        rintro e W3 ⟨rfl, hJ3⟩
        obtain ⟨hd1, hd2, _⟩ := Hc.out _ _ hJ3
        clear hcell1 hcell2 hJc
        gi_wp2
        go_roundw
        case rel => exact ⟨c + 1, m + need, hcs1, hm1.out, by go_num, hJ3⟩
        case measure => simp [intOf]; omega
    · have hce := mul_lt_cols h1 (by rw [← Hm.out]; exact hlt) hcn
      have Hce := Lib.hid hce; clear hce
      gi_wp2
      go_end0
      exact ⟨⟨_, rfl⟩, by rw [← Hce.out]; exact hJc⟩

end Go.Proofs.Ytkndndcjchlpdab
