/- What impl's check of a proof and its proofs answer, each by a walk of its text; conditions: a list that is read has fewer than 2^40 elements and fits its capacity, the numbers are ints. -/
import Derived.Test.YtgkelcpiokmhfaaS2
namespace Go.Proofs.Ytgkelcpiokmhfaa
open Go.RowKit Go.Shelf
attribute [local go_sem] Oper.semAt_some

theorem mcB_dig {root size i leaf : Int} {p : List Int} (h : p.all digB = false) : mcB root size i leaf p = false := by
  unfold mcB
  refine decide_eq_false fun hh => ?_
  rw [check_digs _ _ _ _ _ _ hh.2.2.2.2.2] at h
  cases h

set_option maxHeartbeats 2000000 in
theorem impl_MerkleCheck (root size i leaf : Int) (a : Option Addr) (cap : Nat) (p : List Int) (w : World) (hbig : p.length ≤ 1099511627776) (hcap : p.length ≤ cap) (_hs1 : -9223372036854775808 ≤ size) (_hs2 : size ≤ 9223372036854775807) (_hi1 : -9223372036854775808 ≤ i) (_hi2 : i ≤ 9223372036854775807) (hc : IntsAt w a p) :
    Calls Try.prog 21 #[.int .i64 root, .int .i64 size, .int .i64 i, .int .i64 leaf, .slice a p.length cap] w fun e w' => e = .returned (.bool (mcB root size i leaf p)) ∧ Below w.heap.size w w' := by
  have hz := fun w => impl_isTreeSize size w
  have hdl := fun w => impl_isDigest leaf w
  have hb0 : Below w.heap.size w (w.alloc (.cells #[.bool false] 4)) := (Below.refl _ _).alloc (Nat.le_refl _) _
  have hds := impl_areDigests a cap p _ hbig (hc.below hb0)
  refine (callsIn_wide (n := 3)).1 ?_
  by_cases h1 : 1 ≤ size ∧ size ≤ 16
  · rw [decide_eq_true h1] at hz
    have Hz := Lib.hid hz; clear hz
    by_cases h2 : i < 0
    · have Hf := Lib.hid (mcB_no (root := root) (leaf := leaf) (p := p) (show ¬ (1 ≤ size ∧ size ≤ 16 ∧ 0 ≤ i ∧ i < size ∧ digB leaf = true) by rintro ⟨_, _, h, _⟩; omega))
      clear hdl hds
      refine callsIn_of_wp_marks Try.func21 rfl trivial ?_ rfl
      simp only [Try.ntmps21, List.size_toArray, List.length_cons, List.length_nil, Nat.reduceAdd, Nat.reduceSub, Array.replicate_succ, Array.replicate_zero, List.push_toArray, List.append_toArray, List.nil_append, List.cons_append]
      gi_wp2_with fail
      refine ⟨trivial, (callsIn_wide.2 (Hz.out _)).mono ?_⟩
      rintro e w' ⟨rfl, rfl⟩
      gi_wp2
      repeat ((first | refine ⟨fun _ _ => trivial, ?_⟩ | refine ⟨trivial, ?_⟩); gi_wp2)
      have hc5 := (Boxed.new w 4 (.bool false)).cell
      refine ⟨.bool false, by simp [results, Try.f21, go_sem, hc5], ret_bool Hf.out.symm, (Below.refl _ w).alloc (Nat.le_refl _) _⟩
    by_cases h3 : size ≤ i
    · have Hf := Lib.hid (mcB_no (root := root) (leaf := leaf) (p := p) (show ¬ (1 ≤ size ∧ size ≤ 16 ∧ 0 ≤ i ∧ i < size ∧ digB leaf = true) by rintro ⟨_, _, _, h, _⟩; omega))
      clear hdl hds
      refine callsIn_of_wp_marks Try.func21 rfl trivial ?_ rfl
      simp only [Try.ntmps21, List.size_toArray, List.length_cons, List.length_nil, Nat.reduceAdd, Nat.reduceSub, Array.replicate_succ, Array.replicate_zero, List.push_toArray, List.append_toArray, List.nil_append, List.cons_append]
      gi_wp2_with fail
      refine ⟨trivial, (callsIn_wide.2 (Hz.out _)).mono ?_⟩
      rintro e w' ⟨rfl, rfl⟩
      gi_wp2
      repeat ((first | refine ⟨fun _ _ => trivial, ?_⟩ | refine ⟨trivial, ?_⟩); gi_wp2)
      have hc5 := (Boxed.new w 4 (.bool false)).cell
      refine ⟨.bool false, by simp [results, Try.f21, go_sem, hc5], ret_bool Hf.out.symm, (Below.refl _ w).alloc (Nat.le_refl _) _⟩
    by_cases h4 : digB leaf = true
    · rw [h4] at hdl
      have Hdl := Lib.hid hdl; clear hdl
      by_cases h5 : p.all digB = true
      · rw [h5] at hds
        have Hds := Lib.hid hds; clear hds
        obtain ⟨i, rfl⟩ := Int.eq_ofNat_of_zero_le (show 0 ≤ i by omega)
        obtain ⟨size, rfl⟩ := Int.eq_ofNat_of_zero_le (show 0 ≤ size by omega)
        have h16 : size ≤ 16 := by omega
        have his : i < size := by omega
        have Hf := Lib.hid ((mcB_yes (root := root) (leaf := leaf) (size := size) (i := i) (p := p) (by omega) (by omega) (by omega) h4).trans (by rw [check_sibs 4 0 size i leaf p (by rw [List.all_eq_true] at h5; exact h5)]))
        have Hp := Lib.hid (show ∀ q ∈ p, digB q = true by rw [List.all_eq_true] at h5; exact h5)
        have Hleaf := Lib.hid h4
        have Hc := Lib.hid hc
        clear hc h4 h5 h1
        refine callsIn_of_wp_marks Try.func21 rfl trivial ?_ rfl
        simp only [Try.ntmps21, List.size_toArray, List.length_cons, List.length_nil, Nat.reduceAdd, Nat.reduceSub, Array.replicate_succ, Array.replicate_zero, List.push_toArray, List.append_toArray, List.nil_append, List.cons_append]
        gi_wp2_with fail
        refine ⟨trivial, (callsIn_wide.2 (Hz.out _)).mono ?_⟩
        rintro e w' ⟨rfl, rfl⟩
        gi_wp2_with fail
        refine ⟨trivial, (callsIn_wide.2 (Hdl.out _)).mono ?_⟩
        rintro e w' ⟨rfl, rfl⟩
        gi_wp2_with fail
        refine ⟨trivial, (callsIn_wide.2 Hds.out).mono ?_⟩
        rintro e w' ⟨rfl, rfl⟩
        gi_wp2_with fail
        refine ⟨trivial, (callsIn_wide.2 (impl_siblings size i _)).mono ?_⟩
        rintro e w' ⟨rfl, rfl⟩
        gi_wp2_with fail
        obtain ⟨w1, hw1⟩ : ∃ w1, ((((w.alloc (.cells #[.bool false] 4)).alloc (.cells #[.int .i64 leaf] 3)).alloc (.cells #[.slice a p.length cap] 30)).alloc (.cells #[.int .i64 (size : Int)] 3)).alloc (.cells #[.int .i64 (i : Int)] 3) = w1 := ⟨_, rfl⟩
        have hz1 : w1.heap.size = w.heap.size + 5 := by rw [← hw1]; simp
        have c0 : Boxed w1 w.heap.size 4 (.bool false) := by rw [← hw1]; exact ((((Boxed.new _ _ _).alloc _).alloc _).alloc _).alloc _
        have c1 : Boxed w1 (w.heap.size + 1) 3 (.int .i64 leaf) := by rw [← hw1]; have := (((Boxed.new (w.alloc (.cells #[.bool false] 4)) 3 (.int .i64 leaf)).alloc (.cells #[.slice a p.length cap] 30)).alloc (.cells #[.int .i64 (size : Int)] 3)).alloc (.cells #[.int .i64 (i : Int)] 3); simpa only [World.size_alloc] using this
        have c2 : Boxed w1 (w.heap.size + 1 + 1) 30 (.slice a p.length cap) := by rw [← hw1]; have := ((Boxed.new ((w.alloc (.cells #[.bool false] 4)).alloc (.cells #[.int .i64 leaf] 3)) 30 (.slice a p.length cap)).alloc (.cells #[.int .i64 (size : Int)] 3)).alloc (.cells #[.int .i64 (i : Int)] 3); simpa only [World.size_alloc] using this
        have c3 : Boxed w1 (w.heap.size + 1 + 1 + 1) 3 (.int .i64 (size : Int)) := by rw [← hw1]; have := (Boxed.new (((w.alloc (.cells #[.bool false] 4)).alloc (.cells #[.int .i64 leaf] 3)).alloc (.cells #[.slice a p.length cap] 30)) 3 (.int .i64 (size : Int))).alloc (.cells #[.int .i64 (i : Int)] 3); simpa only [World.size_alloc] using this
        have c4 : Boxed w1 (w.heap.size + 1 + 1 + 1 + 1) 3 (.int .i64 (i : Int)) := by rw [← hw1]; have := Boxed.new ((((w.alloc (.cells #[.bool false] 4)).alloc (.cells #[.int .i64 leaf] 3)).alloc (.cells #[.slice a p.length cap] 30)).alloc (.cells #[.int .i64 (size : Int)] 3)) 3 (.int .i64 (i : Int)); simpa only [World.size_alloc] using this
        have hb1 : Below w.heap.size w w1 := by rw [← hw1]; exact (((((Below.refl _ w).alloc (Nat.le_refl _) _).alloc (by simp) _).alloc (by simp; omega) _).alloc (by simp; omega) _).alloc (by simp; omega) _
        rw [hw1]
        clear hw1
        refine wpIn_over (gf := 46) (lb := #[.pointer (some ⟨w.heap.size + 1 + 1 + 1, 0, none⟩), .pointer (some ⟨w.heap.size + 1 + 1 + 1 + 1, 0, none⟩)]) rfl (enters_of Try.func46 (by kernel_rfl) rfl) ?_
        intro rec hrc hround
        have Hround := Lib.hid hround; clear hround
        obtain ⟨w2, hw2⟩ : ∃ w2, (w1.alloc (.deferred (some []))).alloc (rec .ready none) = w2 := ⟨_, rfl⟩
        have hD2 : w2.heap[w1.heap.size]? = some (.deferred (some [])) := by
          rw [← hw2]; exact (Below.heap_alloc _ _ _ (by simp)).trans (World.alloc_heap_new w1 _)
        have hL2 : w2.heap[w1.heap.size + 1]? = some (rec .ready none) := by
          rw [← hw2]; have := World.alloc_heap_new (w1.alloc (.deferred (some []))) (rec .ready none); rwa [World.size_alloc] at this
        have hb2 : Below w1.heap.size w1 w2 := by rw [← hw2]; exact ((Below.refl _ w1).alloc (Nat.le_refl _) _).alloc (by simp) _
        rw [hw2]
        clear hw2
        have hbw : Below w.heap.size w w2 := below_step hb1 hb1.size hb2
        refine (impl_siblings1 (w1.heap.size + 1) (w.heap.size + 1 + 1 + 1) (w.heap.size + 1 + 1 + 1 + 1) size i h16 his
          (fun pre W => ∃ (ss : List (Nat × Nat)) (x : Int) (r : List Int) (ar : Option Addr) (cr : Nat), pre ++ ss = sibsF 4 0 size i ∧ checkG ss x r = checkG (sibsF 4 0 size i) leaf p ∧ digB x = true ∧ (∀ q ∈ r, digB q = true) ∧ r.length ≤ cr ∧ r.length ≤ 1099511627776 ∧ IntsAt w ar r ∧
            Boxed W w.heap.size 4 (.bool false) ∧ Boxed W (w.heap.size + 1) 3 (.int .i64 x) ∧ Boxed W (w.heap.size + 1 + 1) 30 (.slice ar r.length cr) ∧ W.heap[w1.heap.size]? = some (.deferred (some [])) ∧ W.heap[w1.heap.size + 1]? = some (rec .ready none) ∧ Below w.heap.size w W)
          (fun W => checkG (sibsF 4 0 size i) leaf p = none ∧ Boxed W w.heap.size 4 (.bool false) ∧ W.heap[w1.heap.size]? = some (.deferred (some [])) ∧ W.heap[w1.heap.size + 1]? = some (rec .done (some .ret)) ∧ Below w.heap.size w W)
          ?J ?Y w2 (hb2.cell (p := ⟨w.heap.size + 1 + 1 + 1, 0, none⟩) (by simp; omega) |>.trans c3.cell) (hb2.cell (p := ⟨w.heap.size + 1 + 1 + 1 + 1, 0, none⟩) (by simp; omega) |>.trans c4.cell)
          ⟨_, leaf, p, a, cap, rfl, rfl, Hleaf.out, Hp.out, hcap, hbig, Hc.out, (hb2.block _ (by omega)).trans c0, (hb2.block _ (by omega)).trans c1, (hb2.block _ (by omega)).trans c2, hD2, hL2, hbw⟩).mono ?_
        case J =>
          rintro W q ⟨ss, x, r, ar, cr, h1, h2, h3, h4, h5, h6, h7, h8, h9, h10, h11, h12, h13⟩
          exact ⟨ss, x, r, ar, cr, h1, h2, h3, h4, h5, h6, h7, h8, h9, h10, h11, h12, below_drewN h13 q⟩
        case Y =>
          rintro pre y rest W hpre ⟨ss, x, r, ar, cr, hss, hck, hx, hr, hcr, hrb, hir, b0, b1, b2, hD, hL, hB⟩
          obtain rfl : ss = y :: rest := List.append_cancel_left (hss.trans hpre.symm)
          have Hss := Lib.hid (show (pre ++ [y]) ++ rest = sibsF 4 0 size i by rw [List.append_assoc]; exact hpre)
          have Hck := Lib.hid hck
          have Hr := Lib.hid hr
          clear hpre hss hck hr
          have hLlt := (Array.getElem?_eq_some_iff.1 hL).1
          refine Hround.out #[.int .i64 (y.1 : Int), .int .i64 (y.2 : Int)] W _ rfl hL ?_
          gi_wp2
          refine ⟨hL, ?_⟩
          have hg1 := grownBy_putObj' W (w1.heap.size + 1) (rec .busy none)
          have hL3 : (W.putObj (w1.heap.size + 1) (rec .busy none)).heap[w1.heap.size + 1]? = some (rec .busy none) := World.putObj_heap_same hLlt
          have hD3 : (W.putObj (w1.heap.size + 1) (rec .busy none)).heap[w1.heap.size]? = some (.deferred (some [])) := (World.putObj_heap_other (by omega)).trans hD
          have b0 := b0.kept hg1 (by simp; omega)
          have b1 := b1.kept hg1 (by simp; omega)
          have b2 := b2.kept hg1 (by simp; omega)
          have hB3 : Below w.heap.size w (W.putObj (w1.heap.size + 1) (rec .busy none)) := hB.grown hg1 hB.size (fun k e => by cases e; omega)
          clear hL hD hB hg1 hLlt
          generalize W.putObj (w1.heap.size + 1) (rec .busy none) = W3 at *
          have hcb0 := b0.cell
          have hfb0 := b0.frozen
          have hcb2 := b2.cell
          rcases r with _ | ⟨q, r⟩
          · have Hn := Lib.hid (show checkG (sibsF 4 0 size i) leaf p = none by rw [← Hck.out]; rfl)
            gi_wp2
            have hL4 : (W3.setCell ⟨w.heap.size, 0, none⟩ (.bool false)).heap[w1.heap.size + 1]? = some (rec .busy none) := (Below.heap_setCell _ _ _ _ (by simp; omega)).trans hL3
            have hD4 : (W3.setCell ⟨w.heap.size, 0, none⟩ (.bool false)).heap[w1.heap.size]? = some (.deferred (some [])) := (Below.heap_setCell _ _ _ _ (by simp; omega)).trans hD3
            have hB4 := hB3.setCell (p := ⟨w.heap.size, 0, none⟩) (Nat.le_refl _) (.bool false)
            exact ⟨hL4, .inr ⟨rfl, .inr ⟨rfl, Hn.out, (b0.set (.bool false)).kept (grownBy_putObj' _ _ _) (by simp; omega), (World.putObj_heap_other (by omega)).trans hD4, World.putObj_heap_same (Array.getElem?_eq_some_iff.1 hL4).1, hB4.grown (grownBy_putObj' _ _ _) hB4.size (fun k e => by cases e; omega)⟩⟩⟩
          · have hq := Hr.out q (by simp)
            obtain ⟨b, off, rfl, hb, hcell⟩ := hir.cell (by simp)
            have hcq : W3.cell? ⟨b, off, none⟩ = some (.int .i64 q) := (hB3.cell (p := ⟨b, off, none⟩) hb).trans (hcell 0 (by simp))
            simp only [List.length_cons] at hcr hrb
            obtain ⟨o2, hif, hit⟩ := IntsAt.tail hcell hb hcr
            have Hit := Lib.hid hit
            clear hcell hit hir
            have b2' : Boxed W3.drew (w.heap.size + 1 + 1) 30 (.slice (some ⟨b, off, none⟩) (r.length + 1) cr) := b2
            simp only [List.length_cons] at hcb2
            have hcb1 := b1.cell
            have hfb1 := b1.frozen
            have hsl : 0 < (r.length : Int) + 1 := by omega
            have hs1 : 1 ≤ (r.length : Int) + 1 := by omega
            by_cases hodd : y.2 % 2 = 1
            · have hod : ((y.2 : Nat) : Int) % 2 = 1 := by omega
              have Hpair := Lib.hid (fun w => impl_HashPairW x q w)
              rw [hpZ_yes hx hq] at Hpair
              have Hn := Lib.hid (show checkG rest (pairZ x q) r = checkG (sibsF 4 0 size i) leaf p by rw [← Hck.out, checkG, if_pos hodd])
              have Hdg := Lib.hid (pairZ_dig x q)
              generalize pairZ x q = z at *
              gi_wp2_with fail
              refine region_round (S := fun w' => w'.cell? ⟨w.heap.size + 1 + 1, 0, none⟩ = some (.slice (some ⟨b, off, none⟩) (r.length + 1) cr) ∧ w'.cell? ⟨b, off, none⟩ = some (.int .i64 q)) (by kernel_rfl) (by kernel_rfl) ⟨hcb2, hcq⟩ (fun hH => ?_)
              refine takeH 1 (v := ?vo1) rfl (by kernel_rfl) (by kernel_rfl) (by kernel_rfl) (fun _ _ _ h => h) hH rfl ?yo1 ?ro1
              case yo1 => intro w hSw; go_simp; try with_reducible rfl
              try simp only [Act.put, List.setIfInBounds_toArray, List.set_cons_zero, List.set_cons_succ]
              refine takeH 2 (v := ?vo2) rfl (by kernel_rfl) (by kernel_rfl) (by kernel_rfl) (fun _ _ _ h => h) hH rfl ?yo2 ?ro2
              case yo2 => intro w hSw; go_simp; try with_reducible rfl
              try simp only [Act.put, List.setIfInBounds_toArray, List.set_cons_zero, List.set_cons_succ]
              refine takeH 3 (v := ?vo3) rfl (by kernel_rfl) (by kernel_rfl) (by kernel_rfl) (fun _ _ _ h => h) hH rfl ?yo3 ?ro3
              case yo3 => intro w hSw; go_simp; try with_reducible rfl
              try simp only [Act.put, List.setIfInBounds_toArray, List.set_cons_zero, List.set_cons_succ]
              refine callH 0 rfl (by kernel_rfl) rfl (fun K hK => ?_)
              go_simp
              refine hK.out _ _ hH (fun hH => ?_)
              clear hK K
              try simp only [Act.put, List.setIfInBounds_toArray, List.set_cons_zero, List.set_cons_succ]
              refine callH 4 rfl (by kernel_rfl) rfl (fun K hK => ?_)
              go_simp
              refine (Hpair.out _).mono ?_
              rintro e w' ⟨rfl, rfl⟩
              dsimp only
              refine hK.out _ _ hH (fun hH => ?_)
              clear hK K
              try simp only [Act.put, List.setIfInBounds_toArray, List.set_cons_zero, List.set_cons_succ]
              refine callH 5 rfl (by kernel_rfl) rfl (fun K hK => ?_)
              go_simp
              refine hK.out _ _ ⟨(b2'.other (by omega) _).cell, (((Below.refl w.heap.size W3.drew).setCell (p := ⟨w.heap.size + 1, 0, none⟩) (by simp) _).cell (p := ⟨b, off, none⟩) hb).trans hcq⟩ (fun hH => ?_)
              clear hK K
              try simp only [Act.put, List.setIfInBounds_toArray, List.set_cons_zero, List.set_cons_succ]
              refine wpAnyH_done (by kernel_rfl) ?_ _
              refine JustNormal.intro ?_
              try simp only [Act.put]
              clear hcb1 hfb1
              have hL4 : (W3.setCell ⟨w.heap.size + 1, 0, none⟩ (.int .i64 z)).drew.heap[w1.heap.size + 1]? = some (rec .busy none) := (Below.heap_setCell _ _ _ _ (by simp; omega)).trans hL3
              have hD4 : (W3.setCell ⟨w.heap.size + 1, 0, none⟩ (.int .i64 z)).drew.heap[w1.heap.size]? = some (.deferred (some [])) := (Below.heap_setCell _ _ _ _ (by simp; omega)).trans hD3
              have b0'' : Boxed (W3.setCell ⟨w.heap.size + 1, 0, none⟩ (.int .i64 z)).drew w.heap.size 4 (.bool false) := b0.other (B' := w.heap.size + 1) (by omega) (.int .i64 z)
              have b1'' : Boxed (W3.setCell ⟨w.heap.size + 1, 0, none⟩ (.int .i64 z)).drew (w.heap.size + 1) 3 (.int .i64 z) := b1.set (.int .i64 z)
              have b2'' : Boxed (W3.setCell ⟨w.heap.size + 1, 0, none⟩ (.int .i64 z)).drew (w.heap.size + 1 + 1) 30 (.slice (some ⟨b, off, none⟩) (r.length + 1) cr) := b2.other (B' := w.heap.size + 1) (by omega) (.int .i64 z)
              have hB4 := (hB3.setCell (p := ⟨w.heap.size + 1, 0, none⟩) (by simp) (.int .i64 z)).drew
              clear b0 b1 b2 b2' hcb2 hcb0 hfb0 hcq hL3 hD3 hB3 hH
              generalize (W3.setCell ⟨w.heap.size + 1, 0, none⟩ (.int .i64 z)).drew = W5 at *
              have hcb2 := b2''.cell
              have hfb2 := b2''.frozen
              gi_wp2
              have hL6 : ∀ u, (W5.setCell ⟨w.heap.size + 1 + 1, 0, none⟩ u).heap[w1.heap.size + 1]? = some (rec .busy none) := fun u => (Below.heap_setCell _ _ _ _ (by simp; omega)).trans hL4
              have hD6 : ∀ u, (W5.setCell ⟨w.heap.size + 1 + 1, 0, none⟩ u).heap[w1.heap.size]? = some (.deferred (some [])) := fun u => (Below.heap_setCell _ _ _ _ (by simp; omega)).trans hD4
              have b2f := b2''.set (.slice (some ⟨b, o2, none⟩) r.length (cr - 1))
              have b0f := b0''.other (B' := w.heap.size + 1 + 1) (by omega) (.slice (some ⟨b, o2, none⟩) r.length (cr - 1))
              have b1f := b1''.other (B' := w.heap.size + 1 + 1) (by omega) (.slice (some ⟨b, o2, none⟩) r.length (cr - 1))
              have hB6 := hB4.setCell (p := ⟨w.heap.size + 1 + 1, 0, none⟩) (by simp; omega) (.slice (some ⟨b, o2, none⟩) r.length (cr - 1))
              have hL6 := hL6 (.slice (some ⟨b, o2, none⟩) r.length (cr - 1))
              have hD6 := hD6 (.slice (some ⟨b, o2, none⟩) r.length (cr - 1))
              refine ⟨hL6, .inl ⟨rfl, .inl ⟨rfl, rest, z, r, some ⟨b, o2, none⟩, cr - 1, Hss.out, Hn.out, Hdg.out, fun y hy => Hr.out y (by simp [hy]), by omega, by omega, Hit.out, ?_, ?_, ?_, ?_, ?_, ?_⟩⟩⟩
              · exact b0f.kept (grownBy_putObj' _ _ _) (by simp; omega)
              · exact b1f.kept (grownBy_putObj' _ _ _) (by simp; omega)
              · exact b2f.kept (grownBy_putObj' _ _ _) (by simp; omega)
              · exact (World.putObj_heap_other (by omega)).trans hD6
              · exact World.putObj_heap_same (Array.getElem?_eq_some_iff.1 hL6).1
              · exact hB6.grown (grownBy_putObj' _ _ _) hB6.size (fun k e => by cases e; omega)
            · have hod : ¬ ((y.2 : Nat) : Int) % 2 = 1 := by omega
              have Hpair := Lib.hid (fun w => impl_HashPairW q x w)
              rw [hpZ_yes hq hx] at Hpair
              have Hn := Lib.hid (show checkG rest (pairZ q x) r = checkG (sibsF 4 0 size i) leaf p by rw [← Hck.out, checkG, if_neg hodd])
              have Hdg := Lib.hid (pairZ_dig q x)
              generalize pairZ q x = z at *
              gi_wp2_with fail
              refine region_round (S := fun w' => w'.cell? ⟨w.heap.size + 1 + 1, 0, none⟩ = some (.slice (some ⟨b, off, none⟩) (r.length + 1) cr) ∧ w'.cell? ⟨b, off, none⟩ = some (.int .i64 q)) (by kernel_rfl) (by kernel_rfl) ⟨hcb2, hcq⟩ (fun hH => ?_)
              refine takeH 0 (v := ?ve1) rfl (by kernel_rfl) (by kernel_rfl) (by kernel_rfl) (fun _ _ _ h => h) hH rfl ?ye1 ?re1
              case ye1 => intro w hSw; go_simp; try with_reducible rfl
              try simp only [Act.put, List.setIfInBounds_toArray, List.set_cons_zero, List.set_cons_succ]
              refine takeH 1 (v := ?ve2) rfl (by kernel_rfl) (by kernel_rfl) (by kernel_rfl) (fun _ _ _ h => h) hH rfl ?ye2 ?re2
              case ye2 => intro w hSw; go_simp; try with_reducible rfl
              try simp only [Act.put, List.setIfInBounds_toArray, List.set_cons_zero, List.set_cons_succ]
              refine takeH 2 (v := ?ve3) rfl (by kernel_rfl) (by kernel_rfl) (by kernel_rfl) (fun _ _ _ h => h) hH rfl ?ye3 ?re3
              case ye3 => intro w hSw; go_simp; try with_reducible rfl
              try simp only [Act.put, List.setIfInBounds_toArray, List.set_cons_zero, List.set_cons_succ]
              refine callH 3 rfl (by kernel_rfl) rfl (fun K hK => ?_)
              go_simp
              refine hK.out _ _ hH (fun hH => ?_)
              clear hK K
              try simp only [Act.put, List.setIfInBounds_toArray, List.set_cons_zero, List.set_cons_succ]
              refine callH 4 rfl (by kernel_rfl) rfl (fun K hK => ?_)
              go_simp
              refine (Hpair.out _).mono ?_
              rintro e w' ⟨rfl, rfl⟩
              dsimp only
              refine hK.out _ _ hH (fun hH => ?_)
              clear hK K
              try simp only [Act.put, List.setIfInBounds_toArray, List.set_cons_zero, List.set_cons_succ]
              refine callH 5 rfl (by kernel_rfl) rfl (fun K hK => ?_)
              go_simp
              refine hK.out _ _ ⟨(b2'.other (by omega) _).cell, (((Below.refl w.heap.size W3.drew).setCell (p := ⟨w.heap.size + 1, 0, none⟩) (by simp) _).cell (p := ⟨b, off, none⟩) hb).trans hcq⟩ (fun hH => ?_)
              clear hK K
              try simp only [Act.put, List.setIfInBounds_toArray, List.set_cons_zero, List.set_cons_succ]
              refine wpAnyH_done (by kernel_rfl) ?_ _
              refine JustNormal.intro ?_
              try simp only [Act.put]
              clear hcb1 hfb1
              have hL4 : (W3.setCell ⟨w.heap.size + 1, 0, none⟩ (.int .i64 z)).drew.heap[w1.heap.size + 1]? = some (rec .busy none) := (Below.heap_setCell _ _ _ _ (by simp; omega)).trans hL3
              have hD4 : (W3.setCell ⟨w.heap.size + 1, 0, none⟩ (.int .i64 z)).drew.heap[w1.heap.size]? = some (.deferred (some [])) := (Below.heap_setCell _ _ _ _ (by simp; omega)).trans hD3
              have b0'' : Boxed (W3.setCell ⟨w.heap.size + 1, 0, none⟩ (.int .i64 z)).drew w.heap.size 4 (.bool false) := b0.other (B' := w.heap.size + 1) (by omega) (.int .i64 z)
              have b1'' : Boxed (W3.setCell ⟨w.heap.size + 1, 0, none⟩ (.int .i64 z)).drew (w.heap.size + 1) 3 (.int .i64 z) := b1.set (.int .i64 z)
              have b2'' : Boxed (W3.setCell ⟨w.heap.size + 1, 0, none⟩ (.int .i64 z)).drew (w.heap.size + 1 + 1) 30 (.slice (some ⟨b, off, none⟩) (r.length + 1) cr) := b2.other (B' := w.heap.size + 1) (by omega) (.int .i64 z)
              have hB4 := (hB3.setCell (p := ⟨w.heap.size + 1, 0, none⟩) (by simp) (.int .i64 z)).drew
              clear b0 b1 b2 b2' hcb2 hcb0 hfb0 hcq hL3 hD3 hB3 hH
              generalize (W3.setCell ⟨w.heap.size + 1, 0, none⟩ (.int .i64 z)).drew = W5 at *
              have hcb2 := b2''.cell
              have hfb2 := b2''.frozen
              gi_wp2
              have hL6 : ∀ u, (W5.setCell ⟨w.heap.size + 1 + 1, 0, none⟩ u).heap[w1.heap.size + 1]? = some (rec .busy none) := fun u => (Below.heap_setCell _ _ _ _ (by simp; omega)).trans hL4
              have hD6 : ∀ u, (W5.setCell ⟨w.heap.size + 1 + 1, 0, none⟩ u).heap[w1.heap.size]? = some (.deferred (some [])) := fun u => (Below.heap_setCell _ _ _ _ (by simp; omega)).trans hD4
              have b2f := b2''.set (.slice (some ⟨b, o2, none⟩) r.length (cr - 1))
              have b0f := b0''.other (B' := w.heap.size + 1 + 1) (by omega) (.slice (some ⟨b, o2, none⟩) r.length (cr - 1))
              have b1f := b1''.other (B' := w.heap.size + 1 + 1) (by omega) (.slice (some ⟨b, o2, none⟩) r.length (cr - 1))
              have hB6 := hB4.setCell (p := ⟨w.heap.size + 1 + 1, 0, none⟩) (by simp; omega) (.slice (some ⟨b, o2, none⟩) r.length (cr - 1))
              have hL6 := hL6 (.slice (some ⟨b, o2, none⟩) r.length (cr - 1))
              have hD6 := hD6 (.slice (some ⟨b, o2, none⟩) r.length (cr - 1))
              refine ⟨hL6, .inl ⟨rfl, .inl ⟨rfl, rest, z, r, some ⟨b, o2, none⟩, cr - 1, Hss.out, Hn.out, Hdg.out, fun y hy => Hr.out y (by simp [hy]), by omega, by omega, Hit.out, ?_, ?_, ?_, ?_, ?_, ?_⟩⟩⟩
              · exact b0f.kept (grownBy_putObj' _ _ _) (by simp; omega)
              · exact b1f.kept (grownBy_putObj' _ _ _) (by simp; omega)
              · exact b2f.kept (grownBy_putObj' _ _ _) (by simp; omega)
              · exact (World.putObj_heap_other (by omega)).trans hD6
              · exact World.putObj_heap_same (Array.getElem?_eq_some_iff.1 hL6).1
              · exact hB6.grown (grownBy_putObj' _ _ _) hB6.size (fun k e => by cases e; omega)
        · rintro e W ⟨hv, ⟨ss, x, r, ar, cr, hss, hck, hx, hr, hcr, hrb, hir, b0, b1, b2, hD, hL, hB⟩ | ⟨hck, b0, hD, hL, hB⟩⟩
          · obtain rfl : ss = [] := List.append_right_eq_self.1 hss
            refine ⟨hv, .inl ⟨hL, ?_⟩⟩
            have hLlt := (Array.getElem?_eq_some_iff.1 hL).1
            have hg1 := grownBy_putObj' W (w1.heap.size + 1) (rec .exhausted none)
            have hD3 : (W.putObj (w1.heap.size + 1) (rec .exhausted none)).heap[w1.heap.size]? = some (.deferred (some [])) := (World.putObj_heap_other (by omega)).trans hD
            have b0 := b0.kept hg1 (by simp; omega)
            have b1 := b1.kept hg1 (by simp; omega)
            have b2 := b2.kept hg1 (by simp; omega)
            have hB3 : Below w.heap.size w (W.putObj (w1.heap.size + 1) (rec .exhausted none)) := hB.grown hg1 hB.size (fun k e => by cases e; omega)
            have Hck := Lib.hid hck
            clear hL hD hB hg1 hck hss hr hir
            generalize W.putObj (w1.heap.size + 1) (rec .exhausted none) = W3 at *
            have hcb0 := b0.cell
            have hfb0 := b0.frozen
            have hcb1 := b1.cell
            have hcb2 := b2.cell
            have fin : ∀ u : Bool, (Below w.heap.size w ((W3.setCell ⟨w.heap.size, 0, none⟩ (.bool u)).putObj w1.heap.size (.deferred none))) ∧ (W3.setCell ⟨w.heap.size, 0, none⟩ (.bool u)).heap[w1.heap.size]? = some (.deferred (some [])) ∧ ((W3.setCell ⟨w.heap.size, 0, none⟩ (.bool u)).putObj w1.heap.size (.deferred none)).cell? ⟨w.heap.size, 0, none⟩ = some (.bool u) := fun u => by
              have hB4 := hB3.setCell (p := ⟨w.heap.size, 0, none⟩) (Nat.le_refl _) (.bool u)
              exact ⟨hB4.grown (grownBy_putObj' _ _ _) hB4.size (fun k e => by cases e; omega), (Below.heap_setCell _ _ _ _ (by simp; omega)).trans hD3, ((b0.set (.bool u)).kept (grownBy_putObj' _ _ _) (by simp; omega)).cell⟩
            clear hz1
            rcases r with _ | ⟨q, r⟩
            · have Hres := Lib.hid (show mcB root size i leaf p = (x == root) by rw [Hf.out, ← Hck.out, checkG, if_pos rfl]; by_cases h : x = root <;> simp [h])
              gi_wp2
              obtain ⟨f1, f2, f3⟩ := fin (x == root)
              refine ⟨by simp, .inl ⟨_, _, rfl, run_takeDeferred f2, ?_⟩⟩
              refine ⟨.bool (x == root), by simp [results, Try.f21, go_sem, f3], ?_, f1⟩
              exact ret_bool Hres.out.symm
            · have Hres := Lib.hid (show mcB root size i leaf p = false by rw [Hf.out, ← Hck.out, checkG, if_neg (by simp)]; simp)
              simp only [List.length_cons] at hcb2
              gi_wp2
              obtain ⟨f1, f2, f3⟩ := fin false
              refine ⟨by simp, .inl ⟨_, _, rfl, run_takeDeferred f2, ?_⟩⟩
              refine ⟨.bool false, by simp [results, Try.f21, go_sem, f3], ?_, f1⟩
              exact ret_bool Hres.out.symm
          · refine ⟨hv, .inr ⟨hL, ?_⟩⟩
            have hLlt := (Array.getElem?_eq_some_iff.1 hL).1
            have hg1 := grownBy_putObj' W (w1.heap.size + 1) (rec .exhausted (some .ret))
            have hD3 : (W.putObj (w1.heap.size + 1) (rec .exhausted (some .ret))).heap[w1.heap.size]? = some (.deferred (some [])) := (World.putObj_heap_other (by omega)).trans hD
            have b0 := b0.kept hg1 (by simp; omega)
            have hB3 : Below w.heap.size w (W.putObj (w1.heap.size + 1) (rec .exhausted (some .ret))) := hB.grown hg1 hB.size (fun k e => by cases e; omega)
            have Hres := Lib.hid (show mcB root size i leaf p = false by rw [Hf.out, hck]; simp)
            generalize W.putObj (w1.heap.size + 1) (rec .exhausted (some .ret)) = W3 at *
            gi_wp2
            have f3 := (b0.kept (grownBy_putObj' W3 w1.heap.size (.deferred none)) (by simp; omega)).cell
            refine ⟨by simp, .inl ⟨_, _, rfl, run_takeDeferred hD3, ?_⟩⟩
            refine ⟨.bool false, by simp [results, Try.f21, go_sem, f3], ?_, hB3.grown (grownBy_putObj' _ _ _) hB3.size (fun k e => by cases e; omega)⟩
            exact ret_bool Hres.out.symm
      · rw [Bool.not_eq_true] at h5
        rw [h5] at hds
        have Hf := Lib.hid (mcB_dig (root := root) (size := size) (i := i) (leaf := leaf) h5)
        have Hds := Lib.hid hds; clear hds
        refine callsIn_of_wp_marks Try.func21 rfl trivial ?_ rfl
        simp only [Try.ntmps21, List.size_toArray, List.length_cons, List.length_nil, Nat.reduceAdd, Nat.reduceSub, Array.replicate_succ, Array.replicate_zero, List.push_toArray, List.append_toArray, List.nil_append, List.cons_append]
        gi_wp2_with fail
        refine ⟨trivial, (callsIn_wide.2 (Hz.out _)).mono ?_⟩
        rintro e w' ⟨rfl, rfl⟩
        gi_wp2_with fail
        refine ⟨trivial, (callsIn_wide.2 (Hdl.out _)).mono ?_⟩
        rintro e w' ⟨rfl, rfl⟩
        gi_wp2_with fail
        refine ⟨trivial, (callsIn_wide.2 Hds.out).mono ?_⟩
        rintro e w' ⟨rfl, rfl⟩
        gi_wp2
        repeat ((first | refine ⟨fun _ _ => trivial, ?_⟩ | refine ⟨trivial, ?_⟩); gi_wp2)
        have hc5 := (Boxed.new w 4 (.bool false)).cell
        refine ⟨.bool false, by simp [results, Try.f21, go_sem, hc5], ret_bool Hf.out.symm, (Below.refl _ w).alloc (Nat.le_refl _) _⟩
    · rw [Bool.not_eq_true] at h4
      rw [h4] at hdl
      have Hf := Lib.hid (mcB_no (root := root) (leaf := leaf) (p := p) (show ¬ (1 ≤ size ∧ size ≤ 16 ∧ 0 ≤ i ∧ i < size ∧ digB leaf = true) by rintro ⟨_, _, _, _, h⟩; rw [h4] at h; cases h))
      have Hdl := Lib.hid hdl; clear hdl hds
      refine callsIn_of_wp_marks Try.func21 rfl trivial ?_ rfl
      simp only [Try.ntmps21, List.size_toArray, List.length_cons, List.length_nil, Nat.reduceAdd, Nat.reduceSub, Array.replicate_succ, Array.replicate_zero, List.push_toArray, List.append_toArray, List.nil_append, List.cons_append]
      gi_wp2_with fail
      refine ⟨trivial, (callsIn_wide.2 (Hz.out _)).mono ?_⟩
      rintro e w' ⟨rfl, rfl⟩
      gi_wp2_with fail
      refine ⟨trivial, (callsIn_wide.2 (Hdl.out _)).mono ?_⟩
      rintro e w' ⟨rfl, rfl⟩
      gi_wp2
      repeat ((first | refine ⟨fun _ _ => trivial, ?_⟩ | refine ⟨trivial, ?_⟩); gi_wp2)
      have hc5 := (Boxed.new w 4 (.bool false)).cell
      refine ⟨.bool false, by simp [results, Try.f21, go_sem, hc5], ret_bool Hf.out.symm, (Below.refl _ w).alloc (Nat.le_refl _) _⟩
  · rw [decide_eq_false h1] at hz
    have Hf := Lib.hid (mcB_no (root := root) (leaf := leaf) (p := p) (show ¬ (1 ≤ size ∧ size ≤ 16 ∧ 0 ≤ i ∧ i < size ∧ digB leaf = true) by rintro ⟨h, h', _⟩; exact h1 ⟨h, h'⟩))
    have Hz := Lib.hid hz; clear hz hdl hds
    refine callsIn_of_wp_marks Try.func21 rfl trivial ?_ rfl
    simp only [Try.ntmps21, List.size_toArray, List.length_cons, List.length_nil, Nat.reduceAdd, Nat.reduceSub, Array.replicate_succ, Array.replicate_zero, List.push_toArray, List.append_toArray, List.nil_append, List.cons_append]
    gi_wp2_with fail
    refine ⟨trivial, (callsIn_wide.2 (Hz.out _)).mono ?_⟩
    rintro e w' ⟨rfl, rfl⟩
    gi_wp2
    repeat ((first | refine ⟨fun _ _ => trivial, ?_⟩ | refine ⟨trivial, ?_⟩); gi_wp2)
    have hc5 := (Boxed.new w 4 (.bool false)).cell
    refine ⟨.bool false, by simp [results, Try.f21, go_sem, hc5], ret_bool Hf.out.symm, (Below.refl _ w).alloc (Nat.le_refl _) _⟩

theorem own_succ {E : TypeId} {W : World} {B : Nat} {v : Value} {xs : List Int} {z : Int} (h : Own E W B v (xs ++ [z])) : ∃ g c, v = .slice (some ⟨g, 0, none⟩) (xs.length + 1) c := by
  obtain ⟨g, c, e, _⟩ := h.row (by simp)
  exact ⟨g, c, by rw [e]; simp⟩

set_option maxHeartbeats 2000000 in
theorem impl_MerkleProof (a : Option Addr) (cap : Nat) (l : List Int) (i : Int) (w : World) (hbig : l.length ≤ 1099511627776) (hcap : l.length ≤ cap) (_hi1 : -9223372036854775808 ≤ i) (_hi2 : i ≤ 9223372036854775807) (hc : IntsAt w a l) :
    Calls Try.prog 17 #[.slice a l.length cap, .int .i64 i] w fun e w' => ∃ v, e = .returned v ∧ Own 3 w' w.heap.size v (mpZ l i) ∧ Below w.heap.size w w' := by
  have hb0 : Below w.heap.size w ((w.alloc (.cells #[] 3)).alloc (.cells #[.slice (some ⟨w.heap.size, 0, none⟩) 0 0] 30)) := ((Below.refl _ _).alloc (Nat.le_refl _) _).alloc (by simp) _
  have ho0 : Own 3 ((w.alloc (.cells #[] 3)).alloc (.cells #[.slice (some ⟨w.heap.size, 0, none⟩) 0 0] 30)) w.heap.size (.slice (some ⟨w.heap.size, 0, none⟩) 0 0) [] := (own_empty _ w (Nat.le_refl _)).alloc _
  have Ho0 := Lib.hid ho0; clear ho0
  have hal := impl_areLeaves a cap l _ hbig (hc.below hb0)
  refine (callsIn_wide (n := 3)).1 ?_
  by_cases hv : leavesB l = true
  · rw [hv] at hal
    obtain ⟨⟨hlen1, hlen2⟩, hdig⟩ := leavesB_iff hv
    have Hal := Lib.hid hal; clear hal
    have Hd := Lib.hid hdig; clear hdig
    by_cases h2 : i < 0
    · have Hf := Lib.hid (mpZ_no (l := l) (i := i) (fun h => by omega)); clear hv
      refine callsIn_of_wp_marks Try.func17 rfl trivial ?_ rfl
      simp only [Try.ntmps17, List.size_toArray, List.length_cons, List.length_nil, Nat.reduceAdd, Nat.reduceSub, Array.replicate_succ, Array.replicate_zero, List.push_toArray, List.append_toArray, List.nil_append, List.cons_append]
      gi_wp2_with fail
      refine ⟨trivial, (callsIn_wide.2 Hal.out).mono ?_⟩
      rintro e w' ⟨rfl, rfl⟩
      gi_wp2
      repeat ((first | refine ⟨fun _ _ => trivial, ?_⟩ | refine ⟨trivial, ?_⟩); gi_wp2)
      refine ⟨_, results_tmp rfl _ _ _, _, rfl, ?_, hb0⟩
      rw [Hf.out]; exact Ho0.out
    by_cases h3 : (l.length : Int) ≤ i
    · have Hf := Lib.hid (mpZ_no (l := l) (i := i) (fun h => by omega)); clear hv
      refine callsIn_of_wp_marks Try.func17 rfl trivial ?_ rfl
      simp only [Try.ntmps17, List.size_toArray, List.length_cons, List.length_nil, Nat.reduceAdd, Nat.reduceSub, Array.replicate_succ, Array.replicate_zero, List.push_toArray, List.append_toArray, List.nil_append, List.cons_append]
      gi_wp2_with fail
      refine ⟨trivial, (callsIn_wide.2 Hal.out).mono ?_⟩
      rintro e w' ⟨rfl, rfl⟩
      gi_wp2
      repeat ((first | refine ⟨fun _ _ => trivial, ?_⟩ | refine ⟨trivial, ?_⟩); gi_wp2)
      refine ⟨_, results_tmp rfl _ _ _, _, rfl, ?_, hb0⟩
      rw [Hf.out]; exact Ho0.out
    obtain ⟨i, rfl⟩ := Int.eq_ofNat_of_zero_le (show 0 ≤ i by omega)
    have his : i < l.length := by omega
    have Hf := Lib.hid ((mpZ_yes hv his).trans (proof_sibs 4 0 l i).symm); clear hv
    have hlt : ∀ b, a = some b → b.block < w.heap.size := fun b hb => by
      obtain ⟨b', hb', h⟩ := hc.block hlen1
      rw [hb] at hb'; cases hb'; exact h
    have Hlt := Lib.hid hlt; clear hlt
    have Hc := Lib.hid (hc.below hb0); clear hc
    refine callsIn_of_wp_marks Try.func17 rfl trivial ?_ rfl
    simp only [Try.ntmps17, List.size_toArray, List.length_cons, List.length_nil, Nat.reduceAdd, Nat.reduceSub, Array.replicate_succ, Array.replicate_zero, List.push_toArray, List.append_toArray, List.nil_append, List.cons_append]
    gi_wp2_with fail
    refine ⟨trivial, (callsIn_wide.2 Hal.out).mono ?_⟩
    rintro e w' ⟨rfl, rfl⟩
    gi_wp2_with fail
    refine ⟨trivial, (callsIn_wide.2 (impl_levels a l.length cap _)).mono ?_⟩
    rintro e w' ⟨rfl, rfl⟩
    gi_wp2_with fail
    obtain ⟨w3, hw3⟩ : ∃ w3, ((w.alloc (.cells #[] 3)).alloc (.cells #[.slice (some ⟨w.heap.size, 0, none⟩) 0 0] 30)).alloc (.cells #[.slice a l.length cap] 30) = w3 := ⟨_, rfl⟩
    have hz3 : w3.heap.size = w.heap.size + 3 := by rw [← hw3]; simp
    have k1 : Boxed w3 (w.heap.size + 1) 30 (.slice (some ⟨w.heap.size, 0, none⟩) 0 0) := by rw [← hw3]; have := (Boxed.new (w.alloc (.cells #[] 3)) 30 (.slice (some ⟨w.heap.size, 0, none⟩) 0 0)).alloc (.cells #[.slice a l.length cap] 30); simpa only [World.size_alloc] using this
    have k2 : Boxed w3 (w.heap.size + 1 + 1) 30 (.slice a l.length cap) := by rw [← hw3]; have := Boxed.new ((w.alloc (.cells #[] 3)).alloc (.cells #[.slice (some ⟨w.heap.size, 0, none⟩) 0 0] 30)) 30 (.slice a l.length cap); simpa only [World.size_alloc] using this
    have hb3 : Below w.heap.size w w3 := by rw [← hw3]; exact hb0.alloc (by simp; omega) _
    have ho3 : Own 3 w3 w.heap.size (.slice (some ⟨w.heap.size, 0, none⟩) 0 0) [] := by rw [← hw3]; exact Ho0.out.alloc _
    have hi3 : IntsAt w3 a l := by rw [← hw3]; exact Hc.out.below ((Below.refl _ _).alloc (Nat.le_refl _) _)
    rw [hw3]
    clear hw3 hb0
    refine ⟨trivial, (callsIn_wide.2 (lib_Collect (w.heap.size + 1 + 1) w.heap.size a cap l hlen1 hlen2 Hd.out Hlt.out hcap w3 (by omega) (by omega) k2.cell hi3)).mono ?_⟩
    rintro e w5 ⟨vt, vs, N1, rfl, hrow, hent, hN, hb5⟩
    obtain ⟨t, ht⟩ := lvlsF_head 4 l
    have hTl : (lvlsF 4 l).length = t.length + 1 := by rw [ht]; rfl
    have hT5 := lvlsF_len 4 l
    have hrow' := hrow
    rw [hTl] at hrow'
    obtain ⟨gt, ct, rfl⟩ := ownsRow_succ hrow'
    clear hrow'
    have hgt := hrow.lt gt rfl
    have HTr := Lib.hid (tree_at hrow hent)
    clear hent hrow
    have Hi3 := Lib.hid hi3; clear hi3
    have Hz3 := Lib.hid hz3
    have ho5 := Lib.hid (ho3.below hb5)
    have k5 : Boxed w5 (w.heap.size + 1) 30 (.slice (some ⟨w.heap.size, 0, none⟩) 0 0) := (hb5.block _ (by omega)).trans k1
    have hbw5 : Below w.heap.size w w5 := below_step hb3 hb3.size hb5
    have hs5 := hb5.size
    clear k1 k2 ho3 hb3 hb5
    have HTl := Lib.hid hTl; clear hTl hz3
    gi_wp2_with fail
    refine ⟨trivial, (callsIn_wide.2 (impl_siblings l.length i _)).mono ?_⟩
    rintro e w' ⟨rfl, rfl⟩
    gi_wp2_with fail
    have hz5 := Hz3.out
    have hTl := HTl.out
    obtain ⟨w1, hw1⟩ : ∃ w1, ((w5.alloc (.cells #[.slice (some ⟨gt, 0, none⟩) (t.length + 1) ct] 46)).alloc (.cells #[.int .i64 (l.length : Int)] 3)).alloc (.cells #[.int .i64 (i : Int)] 3) = w1 := ⟨_, rfl⟩
    have hz1 : w1.heap.size = w5.heap.size + 3 := by rw [← hw1]; simp
    have c6 : Boxed w1 w5.heap.size 46 (.slice (some ⟨gt, 0, none⟩) (t.length + 1) ct) := by rw [← hw1]; exact ((Boxed.new _ _ _).alloc _).alloc _
    have c7 : Boxed w1 (w5.heap.size + 1) 3 (.int .i64 (l.length : Int)) := by rw [← hw1]; have := (Boxed.new (w5.alloc (.cells #[.slice (some ⟨gt, 0, none⟩) (t.length + 1) ct] 46)) 3 (.int .i64 (l.length : Int))).alloc (.cells #[.int .i64 (i : Int)] 3); simpa only [World.size_alloc] using this
    have c8 : Boxed w1 (w5.heap.size + 1 + 1) 3 (.int .i64 (i : Int)) := by rw [← hw1]; have := Boxed.new ((w5.alloc (.cells #[.slice (some ⟨gt, 0, none⟩) (t.length + 1) ct] 46)).alloc (.cells #[.int .i64 (l.length : Int)] 3)) 3 (.int .i64 (i : Int)); simpa only [World.size_alloc] using this
    have hb1 : Below w5.heap.size w5 w1 := by rw [← hw1]; exact (((Below.refl _ w5).alloc (Nat.le_refl _) _).alloc (by simp) _).alloc (by simp; omega) _
    rw [hw1]
    clear hw1
    refine wpIn_over (gf := 46) (lb := #[.pointer (some ⟨w5.heap.size + 1, 0, none⟩), .pointer (some ⟨w5.heap.size + 1 + 1, 0, none⟩)]) rfl (enters_of Try.func46 (by kernel_rfl) rfl) ?_
    intro rec hrc hround
    have Hround := Lib.hid hround; clear hround
    obtain ⟨w2, hw2⟩ : ∃ w2, (w1.alloc (.deferred (some []))).alloc (rec .ready none) = w2 := ⟨_, rfl⟩
    have hz2 : w2.heap.size = w1.heap.size + 2 := by rw [← hw2]; simp
    have hD2 : w2.heap[w1.heap.size]? = some (.deferred (some [])) := by
      rw [← hw2]; exact (Below.heap_alloc _ _ _ (by simp)).trans (World.alloc_heap_new w1 _)
    have hL2 : w2.heap[w1.heap.size + 1]? = some (rec .ready none) := by
      rw [← hw2]; have := World.alloc_heap_new (w1.alloc (.deferred (some []))) (rec .ready none); rwa [World.size_alloc] at this
    have hb2 : Below w1.heap.size w1 w2 := by rw [← hw2]; exact ((Below.refl _ w1).alloc (Nat.le_refl _) _).alloc (by simp) _
    rw [hw2]
    clear hw2
    have hb12 : Below w5.heap.size w5 w2 := below_step hb1 hb1.size hb2
    have hbw : Below w.heap.size w w2 := below_step hbw5 hbw5.size hb12
    refine (impl_siblings1 (w1.heap.size + 1) (w5.heap.size + 1) (w5.heap.size + 1 + 1) l.length i hlen2 his
      (fun pre W => ∃ pv, Boxed W (w.heap.size + 1) 30 pv ∧ Own 3 W w.heap.size pv (pre.map (nodeZ (lvlsF 4 l) 0)) ∧ (∀ g, pv.ownBlock = some g → g = w.heap.size ∨ w2.heap.size ≤ g) ∧ Boxed W w5.heap.size 46 (.slice (some ⟨gt, 0, none⟩) (t.length + 1) ct) ∧
        (∀ k, k < w5.heap.size → k ≠ w.heap.size → k ≠ w.heap.size + 1 → W.heap[k]? = w5.heap[k]?) ∧ W.heap[w1.heap.size]? = some (.deferred (some [])) ∧ W.heap[w1.heap.size + 1]? = some (rec .ready none) ∧ Below w.heap.size w W ∧ w2.heap.size ≤ W.heap.size)
      (fun W => False)
      ?J ?Y w2 (hb2.cell (p := ⟨w5.heap.size + 1, 0, none⟩) (by simp; omega) |>.trans c7.cell) (hb2.cell (p := ⟨w5.heap.size + 1 + 1, 0, none⟩) (by simp; omega) |>.trans c8.cell)
      ⟨_, (hb12.block _ (by omega)).trans k5, ho5.out.below hb12, fun g e => .inl (by cases e; rfl), (hb2.block _ (by omega)).trans c6, fun k hk _ _ => hb12.block k hk, hD2, hL2, hbw, Nat.le_refl _⟩).mono ?_
    case J =>
      rintro W q ⟨pv, h1, h2, h3, h4, h5, h6, h7, h8, h9⟩
      exact ⟨pv, h1, h2, h3, h4, h5, h6, h7, below_drewN h8 q, h9⟩
    case Y =>
      rintro pre y rest W hpre ⟨pv, b5, hpo, hpb, b6, hk, hD, hL, hB, hN2⟩
      have hmem : y ∈ sibsF 4 0 l.length i := by rw [← hpre]; simp
      obtain ⟨hy1, hy2⟩ := sibsF_in 4 0 l i y hmem
      have hplen : pre.length ≤ 4 := by
        have := congrArg List.length hpre
        have h4 := sibsF_len 4 0 l.length i
        rw [List.length_append, List.length_cons] at this
        omega
      rw [Nat.sub_zero] at hy1 hy2
      obtain ⟨ae, ce, hte, hie, hbe⟩ := HTr.out y.1 hy1
      rw [show (lvlsF 4 l).getD y.1 [] = (lvlsF 4 l)[y.1] by simp [hy1]] at hy2
      have hnode : nodeZ (lvlsF 4 l) 0 y = ((lvlsF 4 l)[y.1])[y.2] := by unfold nodeZ; simp [hy1, hy2]
      obtain ⟨b, off, rfl, hb, hcell⟩ := hie.cell (by omega)
      have hbb := hbe _ rfl
      simp only at hbb
      have hce : w5.cell? ⟨b, off + y.2, none⟩ = some (.int .i64 (nodeZ (lvlsF 4 l) 0 y)) := by rw [hnode]; exact hcell y.2 hy2
      generalize (lvlsF 4 l)[y.1] = T at *
      clear hcell hie hbe
      have hLlt := (Array.getElem?_eq_some_iff.1 hL).1
      refine Hround.out #[.int .i64 (y.1 : Int), .int .i64 (y.2 : Int)] W _ rfl hL ?_
      gi_wp2
      refine ⟨hL, ?_⟩
      have hg1 := grownBy_putObj' W (w1.heap.size + 1) (rec .busy none)
      have hL3 : (W.putObj (w1.heap.size + 1) (rec .busy none)).heap[w1.heap.size + 1]? = some (rec .busy none) := World.putObj_heap_same hLlt
      have hD3 : (W.putObj (w1.heap.size + 1) (rec .busy none)).heap[w1.heap.size]? = some (.deferred (some [])) := (World.putObj_heap_other (by omega)).trans hD
      have b5 := b5.kept hg1 (by simp; omega)
      have b6 := b6.kept hg1 (by simp; omega)
      have hpo := hpo.kept hg1 (.inr fun e => by have := hpb _ e; omega)
      have hB3 : Below w.heap.size w (W.putObj (w1.heap.size + 1) (rec .busy none)) := hB.grown hg1 hB.size (fun k e => by cases e; omega)
      have hk3 : ∀ k, k < w5.heap.size → k ≠ w.heap.size → k ≠ w.heap.size + 1 → (W.putObj (w1.heap.size + 1) (rec .busy none)).heap[k]? = w5.heap[k]? := fun k h h' h'' => (World.putObj_heap_other (by omega)).trans (hk k h h' h'')
      have hsz3 : (W.putObj (w1.heap.size + 1) (rec .busy none)).heap.size = W.heap.size := World.putObj_size
      have hs3 : w2.heap.size ≤ (W.putObj (w1.heap.size + 1) (rec .busy none)).heap.size := by omega
      clear hL hD hB hg1 hLlt hk hN2 hsz3
      generalize W.putObj (w1.heap.size + 1) (rec .busy none) = W3 at *
      have hcb5 := b5.cell
      have hfb5 := b5.frozen
      have hcb6 := b6.cell
      have hcr : W3.cell? ⟨gt, y.1, none⟩ = some (.slice (some ⟨b, off, none⟩) T.length ce) := (World.cell?_of_block (w := w5) (hk3 gt (by omega) (by omega) (by omega))).trans hte
      have hcz : W3.cell? ⟨b, off + y.2, none⟩ = some (.int .i64 (nodeZ (lvlsF 4 l) 0 y)) := (World.cell?_of_block (w := w5) (hk3 b (by omega) (by omega) (by omega))).trans hce
      have Hpo := Lib.hid hpo; clear hpo
      have Hpb := Lib.hid hpb; clear hpb
      have Hk3 := Lib.hid hk3; clear hk3
      have hy1' : (y.1 : Int) < (t.length : Int) + 1 := by omega
      have hnW3 : w.heap.size ≤ W3.drew.heap.size := by simp; omega
      have Hpl := Lib.hid (show (pre.map (nodeZ (lvlsF 4 l) 0)).length ≤ 1099511627776 by rw [List.length_map]; omega)
      have Hss := Lib.hid (show (pre ++ [y]) ++ rest = sibsF 4 0 l.length i by rw [List.append_assoc]; exact hpre)
      have Hnum := Lib.hid (show w3.heap.size = w.heap.size + 3 ∧ w3.heap.size ≤ w5.heap.size ∧ w1.heap.size = w5.heap.size + 3 ∧ w2.heap.size = w1.heap.size + 2 ∧ w2.heap.size ≤ W3.heap.size ∧ w3.heap.size ≤ N1 ∧ (w3.heap.size ≤ gt ∧ gt < w5.heap.size) ∧ (b < w.heap.size ∨ N1 ≤ b) ∧ b < w5.heap.size from ⟨hz5, hs5, hz1, hz2, hs3, hN, hgt, hbb⟩)
      clear hz5 hz1 hz2 hpre hnode hmem hte hce hs3 hTl ht hT5 hN hgt hbb hs5
      have hmap : (pre ++ [y]).map (nodeZ (lvlsF 4 l) 0) = pre.map (nodeZ (lvlsF 4 l) 0) ++ [nodeZ (lvlsF 4 l) 0 y] := by simp
      have Hmap := Lib.hid hmap; clear hmap
      have Hzz : ∃ zs, pre.map (nodeZ (lvlsF 4 l) 0) = zs := ⟨_, rfl⟩
      obtain ⟨zs, hzs⟩ := Hzz
      rw [hzs] at Hpo Hpl Hmap
      clear hzs
      generalize nodeZ (lvlsF 4 l) 0 y = z at *
      gi_wp2_with fail
      refine region_round (S := fun w' => w'.cell? ⟨w5.heap.size, 0, none⟩ = some (.slice (some ⟨gt, 0, none⟩) (t.length + 1) ct) ∧ w'.cell? ⟨gt, y.1, none⟩ = some (.slice (some ⟨b, off, none⟩) T.length ce) ∧ w'.cell? ⟨b, off + y.2, none⟩ = some (.int .i64 z)) (by kernel_rfl) (by kernel_rfl) ⟨hcb6, hcr, hcz⟩ (fun hH => ?_)
      refine takeH 1 (v := ?vp1) rfl (by kernel_rfl) (by kernel_rfl) (by kernel_rfl) (fun _ _ _ h => h) hH rfl ?yp1 ?rp1
      case yp1 => intro w hSw; go_simp; try with_reducible rfl
      try simp only [Act.put, List.setIfInBounds_toArray, List.set_cons_zero, List.set_cons_succ]
      refine takeH 2 (v := ?vp2) rfl (by kernel_rfl) (by kernel_rfl) (by kernel_rfl) (fun _ _ _ h => h) hH rfl ?yp2 ?rp2
      case yp2 => intro w hSw; go_simp; try with_reducible rfl
      try simp only [Act.put, List.setIfInBounds_toArray, List.set_cons_zero, List.set_cons_succ]
      refine takeH 3 (v := ?vp3) rfl (by kernel_rfl) (by kernel_rfl) (by kernel_rfl) (fun _ _ _ h => h) hH rfl ?yp3 ?rp3
      case yp3 => intro w hSw; go_simp; try with_reducible rfl
      try simp only [Act.put, List.setIfInBounds_toArray, List.set_cons_zero, List.set_cons_succ]
      refine takeH 4 (v := ?vp4) rfl (by kernel_rfl) (by kernel_rfl) (by kernel_rfl) (fun _ _ _ h => h) hH rfl ?yp4 ?rp4
      case yp4 => intro w hSw; go_simp; try with_reducible rfl
      try simp only [Act.put, List.setIfInBounds_toArray, List.set_cons_zero, List.set_cons_succ]
      refine takeH 5 (v := ?vp5) rfl (by kernel_rfl) (by kernel_rfl) (by kernel_rfl) (fun _ _ _ h => h) hH rfl ?yp5 ?rp5
      case yp5 => intro w hSw; go_simp; try with_reducible rfl
      try simp only [Act.put, List.setIfInBounds_toArray, List.set_cons_zero, List.set_cons_succ]
      refine takeH 6 (v := ?vp6) rfl (by kernel_rfl) (by kernel_rfl) (by kernel_rfl) (fun _ _ _ h => h) hH rfl ?yp6 ?rp6
      case yp6 => intro w hSw; go_simp; try with_reducible rfl
      try simp only [Act.put, List.setIfInBounds_toArray, List.set_cons_zero, List.set_cons_succ]
      refine takeH 7 (v := ?vp7) rfl (by kernel_rfl) (by kernel_rfl) (by kernel_rfl) (fun _ _ _ h => h) hH rfl ?yp7 ?rp7
      case yp7 => intro w hSw; go_simp; try with_reducible rfl
      try simp only [Act.put, List.setIfInBounds_toArray, List.set_cons_zero, List.set_cons_succ]
      refine twoH 0 8 rfl rfl (by kernel_rfl) rfl rfl (fun K hK => ?_) (fun K hK => ?_)
      · go_simp
        refine hK.out _ _ hH (fun hH => ?_)
        clear hK K
        try simp only [Act.put, List.setIfInBounds_toArray, List.set_cons_zero, List.set_cons_succ]
        refine callH 8 rfl (by kernel_rfl) rfl (fun K hK => ?_)
        go_simp
        refine hK.out _ _ ⟨(World.grownBy_alloc W3.drew _ none).cell hcb6 (by simp), (World.grownBy_alloc W3.drew _ none).cell hcr (by simp), (World.grownBy_alloc W3.drew _ none).cell hcz (by simp)⟩ (fun hH => ?_)
        clear hK K
        try simp only [Act.put, List.setIfInBounds_toArray, List.set_cons_zero, List.set_cons_succ]
        refine callH 9 rfl (by kernel_rfl) rfl (fun K hK => ?_)
        refine op_push_at TI2 W3.drew (.tmp 33) (.tmp 41) rfl w.heap.size pv zs z rfl Hpo.out Hpl.out rfl hnW3 ?_
        intro v4 w4 hown4 hg4 hat4
        obtain ⟨g4, c4, rfl⟩ := own_succ hown4
        have hb4 : ∀ g, pv.ownBlock = some g → g = w.heap.size ∨ w2.heap.size ≤ g := Hpb.out
        have hnum := Hnum.out
        have hd : W3.drew.heap.size = W3.heap.size := rfl
        have q6 : Boxed w4 w5.heap.size 46 (.slice (some ⟨gt, 0, none⟩) (t.length + 1) ct) := (show Boxed W3.drew _ _ _ from b6).kept hg4 (fun e => by have := hb4 _ e.symm; omega)
        have q5 : Boxed w4 (w.heap.size + 1) 30 pv := (show Boxed W3.drew _ _ _ from b5).kept hg4 (fun e => by have := hb4 _ e.symm; omega)
        have qr : w4.cell? ⟨gt, y.1, none⟩ = some (.slice (some ⟨b, off, none⟩) T.length ce) := hg4.cell (w := W3.drew) hcr (fun e => by have := hb4 gt e.symm; omega)
        have qz : w4.cell? ⟨b, off + y.2, none⟩ = some (.int .i64 z) := hg4.cell (w := W3.drew) hcz (fun e => by have := hb4 b e.symm; omega)
        have hs4 := hg4.size
        have hcq5 := q5.cell
        have hfq5 := q5.frozen
        refine hK.out _ _ ⟨q6.cell, qr, qz⟩ (fun hH => ?_)
        clear hK K
        try simp only [Act.put, List.setIfInBounds_toArray, List.set_cons_zero, List.set_cons_succ]
        refine callH 10 rfl (by kernel_rfl) rfl (fun K hK => ?_)
        go_simp
        refine hK.out _ _ ⟨(q6.other (B' := w.heap.size + 1) (by omega) (.slice (some ⟨g4, 0, none⟩) (zs.length + 1) c4)).cell, (grownBy_setCell' w4 (w.heap.size + 1) (.slice (some ⟨g4, 0, none⟩) (zs.length + 1) c4)).cell qr (fun e => by have := Option.some.inj e; simp only at this; omega), (grownBy_setCell' w4 (w.heap.size + 1) (.slice (some ⟨g4, 0, none⟩) (zs.length + 1) c4)).cell qz (fun e => by have := Option.some.inj e; simp only at this; omega)⟩ (fun hH => ?_)
        clear hK K
        try simp only [Act.put, List.setIfInBounds_toArray, List.set_cons_zero, List.set_cons_succ]
        refine wpAnyH_done (by kernel_rfl) ?_ _
        refine JustNormal.intro ?_
        try simp only [Act.put]
        try gi_wp2
        have hg5 := grownBy_setCell' w4 (w.heap.size + 1) (.slice (some ⟨g4, 0, none⟩) (zs.length + 1) c4)
        have q5f := q5.set (.slice (some ⟨g4, 0, none⟩) (zs.length + 1) c4)
        have q6f := q6.other (B' := w.heap.size + 1) (by omega) (.slice (some ⟨g4, 0, none⟩) (zs.length + 1) c4)
        have hat5 : ∀ g, some g4 = some g → g = w.heap.size ∨ w2.heap.size ≤ g := by
          intro g e
          rcases hat4 with h | ⟨g', h, h'⟩
          · exact hb4 g (h.symm.trans e)
          · have : g4 = g' := Option.some.inj h
            cases e; right; omega
        have ho6 := hown4.kept hg5 (.inr fun e => by have := hat5 _ e; omega)
        have hB6 := ((hB3.drew.grown hg4 hnW3 (fun g e => (Hpo.out.lt g e).1)).grown hg5 (by omega) (fun g e => by cases e; omega))
        have hL6 : (w4.setCell ⟨w.heap.size + 1, 0, none⟩ (.slice (some ⟨g4, 0, none⟩) (zs.length + 1) c4)).heap[w1.heap.size + 1]? = some (rec .busy none) := (Below.heap_setCell _ _ _ _ (by simp; omega)).trans ((hg4.block _ (by omega) (fun e => by have := hb4 _ e.symm; omega)).trans hL3)
        have hD6 : (w4.setCell ⟨w.heap.size + 1, 0, none⟩ (.slice (some ⟨g4, 0, none⟩) (zs.length + 1) c4)).heap[w1.heap.size]? = some (.deferred (some [])) := (Below.heap_setCell _ _ _ _ (by simp; omega)).trans ((hg4.block _ (by omega) (fun e => by have := hb4 _ e.symm; omega)).trans hD3)
        have hk6 : ∀ k, k < w5.heap.size → k ≠ w.heap.size → k ≠ w.heap.size + 1 → (w4.setCell ⟨w.heap.size + 1, 0, none⟩ (.slice (some ⟨g4, 0, none⟩) (zs.length + 1) c4)).heap[k]? = w5.heap[k]? := fun k h h' h'' => (Below.heap_setCell _ _ _ _ (by simp; omega)).trans ((hg4.block _ (by omega) (fun e => by have := hb4 _ e.symm; omega)).trans (Hk3.out k h h' h''))
        have hs6 := hg5.size
        generalize w4.setCell ⟨w.heap.size + 1, 0, none⟩ (.slice (some ⟨g4, 0, none⟩) (zs.length + 1) c4) = W6 at *
        have hg7 := grownBy_putObj' W6 (w1.heap.size + 1) (rec .ready none)
        have hs7 : (W6.putObj (w1.heap.size + 1) (rec .ready none)).heap.size = W6.heap.size := World.putObj_size
        refine ⟨hL6, .inl ⟨rfl, .inl ⟨rfl, _, q5f.kept hg7 (by simp; omega), ?_, hat5, q6f.kept hg7 (by simp; omega), fun k h h' h'' => (World.putObj_heap_other (by omega)).trans (hk6 k h h' h''), (World.putObj_heap_other (by omega)).trans hD6, World.putObj_heap_same (Array.getElem?_eq_some_iff.1 hL6).1, hB6.grown hg7 hB6.size (fun k e => by cases e; omega), by omega⟩⟩⟩
        rw [Hmap.out]
        exact ho6.kept hg7 (.inr fun e => by have := hat5 _ e; omega)
      · go_simp
        refine hK.out _ _ ⟨(World.grownBy_alloc W3.drew _ none).cell hcb6 (by simp), (World.grownBy_alloc W3.drew _ none).cell hcr (by simp), (World.grownBy_alloc W3.drew _ none).cell hcz (by simp)⟩ (fun hH => ?_)
        clear hK K
        try simp only [Act.put, List.setIfInBounds_toArray, List.set_cons_zero, List.set_cons_succ]
        have hcb5a : ∀ o, (W3.alloc o).cell? ⟨w.heap.size + 1, 0, none⟩ = some pv := fun o => (World.grownBy_alloc W3 o none).cell hcb5 (by simp)
        refine callH 0 rfl (by kernel_rfl) rfl (fun K hK => ?_)
        go_simp
        refine hK.out _ _ hH (fun hH => ?_)
        clear hK K
        try simp only [Act.put, List.setIfInBounds_toArray, List.set_cons_zero, List.set_cons_succ]
        clear hcb5a
        refine callH 9 rfl (by kernel_rfl) rfl (fun K hK => ?_)
        refine op_push_at TI2 W3.drew (.tmp 33) (.tmp 41) rfl w.heap.size pv zs z rfl Hpo.out Hpl.out rfl hnW3 ?_
        intro v4 w4 hown4 hg4 hat4
        obtain ⟨g4, c4, rfl⟩ := own_succ hown4
        have hb4 : ∀ g, pv.ownBlock = some g → g = w.heap.size ∨ w2.heap.size ≤ g := Hpb.out
        have hnum := Hnum.out
        have hd : W3.drew.heap.size = W3.heap.size := rfl
        have q6 : Boxed w4 w5.heap.size 46 (.slice (some ⟨gt, 0, none⟩) (t.length + 1) ct) := (show Boxed W3.drew _ _ _ from b6).kept hg4 (fun e => by have := hb4 _ e.symm; omega)
        have q5 : Boxed w4 (w.heap.size + 1) 30 pv := (show Boxed W3.drew _ _ _ from b5).kept hg4 (fun e => by have := hb4 _ e.symm; omega)
        have qr : w4.cell? ⟨gt, y.1, none⟩ = some (.slice (some ⟨b, off, none⟩) T.length ce) := hg4.cell (w := W3.drew) hcr (fun e => by have := hb4 gt e.symm; omega)
        have qz : w4.cell? ⟨b, off + y.2, none⟩ = some (.int .i64 z) := hg4.cell (w := W3.drew) hcz (fun e => by have := hb4 b e.symm; omega)
        have hs4 := hg4.size
        have hcq5 := q5.cell
        have hfq5 := q5.frozen
        refine hK.out _ _ ⟨q6.cell, qr, qz⟩ (fun hH => ?_)
        clear hK K
        try simp only [Act.put, List.setIfInBounds_toArray, List.set_cons_zero, List.set_cons_succ]
        refine callH 10 rfl (by kernel_rfl) rfl (fun K hK => ?_)
        go_simp
        refine hK.out _ _ ⟨(q6.other (B' := w.heap.size + 1) (by omega) (.slice (some ⟨g4, 0, none⟩) (zs.length + 1) c4)).cell, (grownBy_setCell' w4 (w.heap.size + 1) (.slice (some ⟨g4, 0, none⟩) (zs.length + 1) c4)).cell qr (fun e => by have := Option.some.inj e; simp only at this; omega), (grownBy_setCell' w4 (w.heap.size + 1) (.slice (some ⟨g4, 0, none⟩) (zs.length + 1) c4)).cell qz (fun e => by have := Option.some.inj e; simp only at this; omega)⟩ (fun hH => ?_)
        clear hK K
        try simp only [Act.put, List.setIfInBounds_toArray, List.set_cons_zero, List.set_cons_succ]
        refine wpAnyH_done (by kernel_rfl) ?_ _
        refine JustNormal.intro ?_
        try simp only [Act.put]
        try gi_wp2
        have hg5 := grownBy_setCell' w4 (w.heap.size + 1) (.slice (some ⟨g4, 0, none⟩) (zs.length + 1) c4)
        have q5f := q5.set (.slice (some ⟨g4, 0, none⟩) (zs.length + 1) c4)
        have q6f := q6.other (B' := w.heap.size + 1) (by omega) (.slice (some ⟨g4, 0, none⟩) (zs.length + 1) c4)
        have hat5 : ∀ g, some g4 = some g → g = w.heap.size ∨ w2.heap.size ≤ g := by
          intro g e
          rcases hat4 with h | ⟨g', h, h'⟩
          · exact hb4 g (h.symm.trans e)
          · have : g4 = g' := Option.some.inj h
            cases e; right; omega
        have ho6 := hown4.kept hg5 (.inr fun e => by have := hat5 _ e; omega)
        have hB6 := ((hB3.drew.grown hg4 hnW3 (fun g e => (Hpo.out.lt g e).1)).grown hg5 (by omega) (fun g e => by cases e; omega))
        have hL6 : (w4.setCell ⟨w.heap.size + 1, 0, none⟩ (.slice (some ⟨g4, 0, none⟩) (zs.length + 1) c4)).heap[w1.heap.size + 1]? = some (rec .busy none) := (Below.heap_setCell _ _ _ _ (by simp; omega)).trans ((hg4.block _ (by omega) (fun e => by have := hb4 _ e.symm; omega)).trans hL3)
        have hD6 : (w4.setCell ⟨w.heap.size + 1, 0, none⟩ (.slice (some ⟨g4, 0, none⟩) (zs.length + 1) c4)).heap[w1.heap.size]? = some (.deferred (some [])) := (Below.heap_setCell _ _ _ _ (by simp; omega)).trans ((hg4.block _ (by omega) (fun e => by have := hb4 _ e.symm; omega)).trans hD3)
        have hk6 : ∀ k, k < w5.heap.size → k ≠ w.heap.size → k ≠ w.heap.size + 1 → (w4.setCell ⟨w.heap.size + 1, 0, none⟩ (.slice (some ⟨g4, 0, none⟩) (zs.length + 1) c4)).heap[k]? = w5.heap[k]? := fun k h h' h'' => (Below.heap_setCell _ _ _ _ (by simp; omega)).trans ((hg4.block _ (by omega) (fun e => by have := hb4 _ e.symm; omega)).trans (Hk3.out k h h' h''))
        have hs6 := hg5.size
        generalize w4.setCell ⟨w.heap.size + 1, 0, none⟩ (.slice (some ⟨g4, 0, none⟩) (zs.length + 1) c4) = W6 at *
        have hg7 := grownBy_putObj' W6 (w1.heap.size + 1) (rec .ready none)
        have hs7 : (W6.putObj (w1.heap.size + 1) (rec .ready none)).heap.size = W6.heap.size := World.putObj_size
        refine ⟨hL6, .inl ⟨rfl, .inl ⟨rfl, _, q5f.kept hg7 (by simp; omega), ?_, hat5, q6f.kept hg7 (by simp; omega), fun k h h' h'' => (World.putObj_heap_other (by omega)).trans (hk6 k h h' h''), (World.putObj_heap_other (by omega)).trans hD6, World.putObj_heap_same (Array.getElem?_eq_some_iff.1 hL6).1, hB6.grown hg7 hB6.size (fun k e => by cases e; omega), by omega⟩⟩⟩
        rw [Hmap.out]
        exact ho6.kept hg7 (.inr fun e => by have := hat5 _ e; omega)
    · rintro e W ⟨hv, ⟨pv, b5, hpo, hpb, b6, hk, hD, hL, hB, hN2⟩ | h⟩
      · refine ⟨hv, .inl ⟨hL, ?_⟩⟩
        have hLlt := (Array.getElem?_eq_some_iff.1 hL).1
        have hg1 := grownBy_putObj' W (w1.heap.size + 1) (rec .exhausted none)
        have hD3 : (W.putObj (w1.heap.size + 1) (rec .exhausted none)).heap[w1.heap.size]? = some (.deferred (some [])) := (World.putObj_heap_other (by omega)).trans hD
        have b5 := b5.kept hg1 (by simp; omega)
        have hpo := hpo.kept hg1 (.inr fun e => by have := hpb _ e; omega)
        have hB3 : Below w.heap.size w (W.putObj (w1.heap.size + 1) (rec .exhausted none)) := hB.grown hg1 hB.size (fun k e => by cases e; omega)
        have hcb5 := b5.cell
        have Hpo := Lib.hid (hpo.kept (grownBy_putObj' _ w1.heap.size (.deferred none)) (.inr fun e => by have := hpb _ e; omega)); clear hpo
        have Hfin := Lib.hid (hB3.grown (grownBy_putObj' _ w1.heap.size (.deferred none)) hB3.size (fun k e => by cases e; omega))
        rw [← Hf.out] at Hpo
        clear hz1 hz2 hz5 ht hTl hT5
        generalize W.putObj (w1.heap.size + 1) (rec .exhausted none) = W3 at *
        gi_wp2
        refine ⟨by simp, .inl ⟨_, _, rfl, run_takeDeferred hD3, ?_⟩⟩
        exact ⟨_, results_tmp rfl _ _ _, pv, rfl, Hpo.out, Hfin.out⟩
      · exact h.elim
  · rw [Bool.not_eq_true] at hv
    have Hf := Lib.hid (mpZ_no (l := l) (i := i) (fun h => by rw [hv] at h; cases h.1))
    rw [hv] at hal
    have Hal := Lib.hid hal; clear hal hv
    refine callsIn_of_wp_marks Try.func17 rfl trivial ?_ rfl
    simp only [Try.ntmps17, List.size_toArray, List.length_cons, List.length_nil, Nat.reduceAdd, Nat.reduceSub, Array.replicate_succ, Array.replicate_zero, List.push_toArray, List.append_toArray, List.nil_append, List.cons_append]
    gi_wp2_with fail
    refine ⟨trivial, (callsIn_wide.2 Hal.out).mono ?_⟩
    rintro e w' ⟨rfl, rfl⟩
    gi_wp2
    repeat ((first | refine ⟨fun _ _ => trivial, ?_⟩ | refine ⟨trivial, ?_⟩); gi_wp2)
    refine ⟨_, results_tmp rfl _ _ _, _, rfl, ?_, hb0⟩
    rw [Hf.out]; exact Ho0.out

end Go.Proofs.Ytgkelcpiokmhfaa
