/- What impl's root of a tree answers, by a walk of its text; conditions: a list that is read has fewer than 2^40 elements and fits its capacity. -/
import Derived.Test.YtgkelcpiokmhfaaJ2
namespace Go.Proofs.Ytgkelcpiokmhfaa
open Go.RowKit Go.Shelf
attribute [local go_sem] Oper.semAt_some

theorem IntsAt.other {W W' : World} {a : Option Addr} {x : List Int} {r : Nat} (h : IntsAt W a x) (hg : W.grownBy W' (some r)) (hne : ∀ b, a = some b → b.block ≠ r) : IntsAt W' a x :=
  h.grown hg fun b e e' => hne b e (by cases e'; rfl)

theorem impl_MerkleRoot (a : Option Addr) (cap : Nat) (l : List Int) (w : World) (hbig : l.length ≤ 1099511627776) (hcap : l.length ≤ cap) (hc : IntsAt w a l) :
    Calls Try.prog 20 #[.slice a l.length cap] w fun e w' => e = .returned (.int .i64 (mrZ l)) ∧ Below w.heap.size w w' := by
  have hl := impl_areLeaves a cap l w hbig hc
  refine (callsIn_wide (n := 3)).1 ?_
  by_cases hv : leavesB l = true
  · rw [hv] at hl
    obtain ⟨⟨hlen1, hlen2⟩, hdig⟩ := leavesB_iff hv
    have Hf := Lib.hid (mrZ_yes hv); clear hv
    have Hl := Lib.hid hl; clear hl
    have Hd := Lib.hid hdig; clear hdig
    have Hc := Lib.hid hc; clear hc
    refine callsIn_of_wp_marks Try.func20 rfl trivial ?_ rfl
    simp only [Try.ntmps20, List.size_toArray, List.length_cons, List.length_nil, Nat.reduceAdd, Nat.reduceSub, Array.replicate_succ, Array.replicate_zero, List.push_toArray, List.append_toArray, List.nil_append, List.cons_append]
    gi_wp2_with fail
    refine ⟨trivial, (callsIn_wide.2 Hl.out).mono ?_⟩
    rintro e w' ⟨rfl, rfl⟩
    gi_wp2_with fail
    refine ⟨trivial, (callsIn_wide.2 (impl_levels a l.length cap _)).mono ?_⟩
    rintro e w' ⟨rfl, rfl⟩
    gi_wp2_with fail
    have hlt : ∀ b, a = some b → b.block < w.heap.size := fun b hb => by
      obtain ⟨b', hb', h⟩ := Hc.out.block hlen1
      rw [hb] at hb'; cases hb'; exact h
    obtain ⟨w1, hw1⟩ : ∃ w1, (w.alloc (.cells #[.int .i64 (-1)] 3)).alloc (.cells #[.slice a l.length cap] 30) = w1 := ⟨_, rfl⟩
    have hz1 : w1.heap.size = w.heap.size + 2 := by rw [← hw1]; simp
    have hr1 : Boxed w1 w.heap.size 3 (.int .i64 (-1)) := by rw [← hw1]; exact (Boxed.new _ _ _).alloc _
    have hl1 : w1.cell? ⟨w.heap.size + 1, 0, none⟩ = some (.slice a l.length cap) := by
      have := (Boxed.new (w.alloc (.cells #[.int .i64 (-1)] 3)) 30 (.slice a l.length cap)).cell
      rw [hw1, World.size_alloc] at this
      exact this
    have hb1 : Below w.heap.size w w1 := by rw [← hw1]; exact ((Below.refl _ w).alloc (Nat.le_refl _) _).alloc (by simp) _
    rw [hw1]
    clear hw1
    refine wpIn_over (gf := 44) (lb := #[.pointer (some ⟨w.heap.size + 1, 0, none⟩)]) rfl (enters_of Try.func44 (by kernel_rfl) rfl) ?_
    intro rec _ hround
    have Hround := Lib.hid hround; clear hround
    obtain ⟨w2, hw2⟩ : ∃ w2, (w1.alloc (.deferred (some []))).alloc (rec .ready none) = w2 := ⟨_, rfl⟩
    have hD2 : w2.heap[w1.heap.size]? = some (.deferred (some [])) := by
      rw [← hw2]; exact (Below.heap_alloc _ _ _ (by simp)).trans (World.alloc_heap_new w1 _)
    have hL2 : w2.heap[w1.heap.size + 1]? = some (rec .ready none) := by
      rw [← hw2]; have := World.alloc_heap_new (w1.alloc (.deferred (some []))) (rec .ready none); rwa [World.size_alloc] at this
    have hb2 : Below w1.heap.size w1 w2 := by rw [← hw2]; exact ((Below.refl _ w1).alloc (Nat.le_refl _) _).alloc (by simp) _
    rw [hw2]
    clear hw2
    refine (impl_levels1 (w1.heap.size + 1) (w.heap.size + 1) w.heap.size a cap l hlen1 hlen2 Hd.out hlt hcap
      (fun pre W => Boxed W w.heap.size 3 (.int .i64 (lastZ pre)) ∧ W.heap[w1.heap.size]? = some (.deferred (some [])) ∧ W.heap[w1.heap.size + 1]? = some (rec .ready none) ∧ Below w.heap.size w W) ?Y w2
      ((hb2.cell (p := ⟨w.heap.size + 1, 0, none⟩) (by simp; omega)).trans hl1) (Hc.out.below (below_step hb1 hb1.size hb2)) ⟨(hb2.block _ (by omega)).trans hr1, hD2, hL2, below_step hb1 hb1.size hb2⟩).mono ?_
    case Y =>
      rintro pre x rest ax cx W0 W hpre ⟨hbx, hD, hL, hB0⟩ hbel hfr hix hcx
      have hx1 : 1 ≤ x.length := lvls_some 4 l hlen1 x (by rw [← hpre]; simp)
      have hLlt := (Array.getElem?_eq_some_iff.1 hL).1
      have hbx1 : Boxed W w.heap.size 3 (.int .i64 (lastZ pre)) := (hbel.block _ hbx.lt).trans hbx
      have hD1 := (hbel.block _ (by omega)).trans hD
      have hL1 := (hbel.block _ hLlt).trans hL
      have hB1 := below_step hB0 hB0.size hbel
      obtain ⟨b, off, rfl, hb, hcell⟩ := hix.cell hx1
      have hbn := hfr _ rfl
      simp only at hbn
      have hWs := hB1.size
      refine Hround.out #[.slice (some ⟨b, off, none⟩) x.length cx] W _ rfl hL1 ?_
      gi_wp2
      refine ⟨hL1, ?_⟩
      have hg1 := grownBy_putObj' W (w1.heap.size + 1) (rec .busy none)
      have hsz3 : (W.putObj (w1.heap.size + 1) (rec .busy none)).heap.size = W.heap.size := World.putObj_size
      have hL3 : (W.putObj (w1.heap.size + 1) (rec .busy none)).heap[w1.heap.size + 1]? = some (rec .busy none) := World.putObj_heap_same (Array.getElem?_eq_some_iff.1 hL1).1
      have hD3 : (W.putObj (w1.heap.size + 1) (rec .busy none)).heap[w1.heap.size]? = some (.deferred (some [])) := (World.putObj_heap_other (by omega)).trans hD1
      have hbx3 : Boxed (W.putObj (w1.heap.size + 1) (rec .busy none)) w.heap.size 3 (.int .i64 (lastZ pre)) := hbx1.kept hg1 (by simp; omega)
      have hix3 := hix.other hg1 (fun b' e => by cases e; simp only; omega)
      have hB3 : Below w.heap.size w (W.putObj (w1.heap.size + 1) (rec .busy none)) := hB1.grown hg1 hWs (fun k e => by cases e; omega)
      have hc3 : (W.putObj (w1.heap.size + 1) (rec .busy none)).cell? ⟨b, off, none⟩ = some (.int .i64 (x.getD 0 0)) := by
        obtain ⟨b', off', e, hb', hcell'⟩ := hix3.cell hx1
        cases e
        exact (hcell' 0 (by omega)).trans (by rw [getD_get (show 0 < x.length by omega)])
      generalize W.putObj (w1.heap.size + 1) (rec .busy none) = W3 at *
      have hcb := hbx3.cell
      have hfb := hbx3.frozen
      gi_wp2
      have hg4 := grownBy_setCell' W3 w.heap.size (.int .i64 (x.getD 0 0))
      have hL4 : (W3.setCell ⟨w.heap.size, 0, none⟩ (.int .i64 (x.getD 0 0))).heap[w1.heap.size + 1]? = some (rec .busy none) := (Below.heap_setCell _ _ _ _ (by simp; omega)).trans hL3
      have hL4lt := (Array.getElem?_eq_some_iff.1 hL4).1
      have hg5 := grownBy_putObj' (W3.setCell ⟨w.heap.size, 0, none⟩ (.int .i64 (x.getD 0 0))) (w1.heap.size + 1) (rec .ready none)
      refine ⟨hL4, .inl ⟨rfl, rfl, ⟨?_, ?_, World.putObj_heap_same hL4lt, ?_⟩, ?_⟩⟩
      · rw [lastZ_snoc]; exact (hbx3.set _).kept hg5 (by simp; omega)
      · exact (World.putObj_heap_other (by omega)).trans ((Below.heap_setCell _ _ _ _ (by simp; omega)).trans hD3)
      · exact (hB3.setCell (p := ⟨w.heap.size, 0, none⟩) (Nat.le_refl _) _).grown hg5 (by simp [World.setCell]; omega) (fun k e => by cases e; omega)
      · exact (hix3.other hg4 (fun b' e => by cases e; simp only; omega)).other hg5 (fun b' e => by cases e; simp only; omega)
    · rintro e W ⟨hv, hbx, hD, hL, hB⟩
      refine ⟨hv, .inl ⟨hL, ?_⟩⟩
      have hLlt := (Array.getElem?_eq_some_iff.1 hL).1
      have hg1 := grownBy_putObj' W (w1.heap.size + 1) (rec .exhausted none)
      have hD1 : (W.putObj (w1.heap.size + 1) (rec .exhausted none)).heap[w1.heap.size]? = some (.deferred (some [])) := (World.putObj_heap_other (by omega)).trans hD
      have hbx1 := hbx.kept hg1 (by simp; omega)
      have hB1 : Below w.heap.size w (W.putObj (w1.heap.size + 1) (rec .exhausted none)) := hB.grown hg1 hB.size (fun k e => by cases e; omega)
      have hsz1 : (W.putObj (w1.heap.size + 1) (rec .exhausted none)).heap.size = W.heap.size := World.putObj_size
      generalize W.putObj (w1.heap.size + 1) (rec .exhausted none) = W3 at *
      have hcb := hbx1.cell
      rw [lastZ_lvls] at hcb
      gi_wp2
      refine ⟨by simp, .inl ⟨_, _, rfl, run_takeDeferred hD1, ?_⟩⟩
      refine ⟨_, results_tmp rfl _ _ _, ?_, hB1.grown (grownBy_putObj' _ _ _) hB1.size (fun k e => by cases e; omega)⟩
      exact ret_int Hf.out.symm
  · rw [Bool.not_eq_true] at hv
    rw [hv] at hl
    have Hf := Lib.hid (mrZ_no hv); clear hv
    have Hl := Lib.hid hl; clear hl
    refine callsIn_of_wp_marks Try.func20 rfl trivial ?_ rfl
    simp only [Try.ntmps20, List.size_toArray, List.length_cons, List.length_nil, Nat.reduceAdd, Nat.reduceSub, Array.replicate_succ, Array.replicate_zero, List.push_toArray, List.append_toArray, List.nil_append, List.cons_append]
    gi_wp2_with fail
    refine ⟨trivial, (callsIn_wide.2 Hl.out).mono ?_⟩
    rintro e w' ⟨rfl, rfl⟩
    gi_wp2
    refine ⟨_, results_tmp rfl _ _ _, ?_, Below.refl _ _⟩
    exact ret_int Hf.out.symm

end Go.Proofs.Ytgkelcpiokmhfaa
