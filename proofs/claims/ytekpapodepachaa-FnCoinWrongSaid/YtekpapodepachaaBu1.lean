/- Texts that the laws of this folder share, one behind another; no conditions. -/
import Derived.Test.YtekpapodepachaaRows
import Derived.Test.YtekpapodepachaaBu0
import Derived.Deep.QuietTactic
import Derived.BigQuiet
import Derived.RangeFuncBox
import Derived.Laws.Rows
import Derived.Laws.CopyRow
import Derived.WalkSpells
import Derived.IntWalk

/- What impl's small functions of shards answer, and a column's value, each by a walk of its text; conditions: a list that is read has fewer than 2^40 elements, the numbers are ints. -/
namespace Go.Proofs.Ytekpapodepachaa
open Go.RowKit Go.Shelf
attribute [local go_sem] Oper.semAt_some

theorem IntsAt.other {W W' : World} {a : Option Addr} {x : List Int} {r : Nat} (h : IntsAt W a x) (hg : W.grownBy W' (some r)) (hne : ∀ b, a = some b → b.block ≠ r) : IntsAt W' a x :=
  h.grown hg fun b e e' => hne b e (by cases e'; rfl)

theorem impl_isSymbol (n : Int) (w : World) : Calls Try.prog 31 #[.int .i64 n] w fun e w' => e = .returned (.bool (symB n)) ∧ w = w' := by
  by_cases h : 0 ≤ n
  · have Hf := Lib.hid (show symB n = decide (n < 251) by unfold symB; rw [Bool.eq_iff_iff]; simp only [decide_eq_true_eq]; omega)
    go_enter Try.func31, Try.ntmps31
    go_wp2
    go_ret
    exact ⟨ret_bool Hf.out.symm, rfl⟩
  · have Hf := Lib.hid (show symB n = false by unfold symB; exact decide_eq_false (by omega))
    go_enter Try.func31, Try.ntmps31
    go_wp2
    go_ret
    exact ⟨ret_bool Hf.out.symm, rfl⟩

theorem impl_isShardNumber (n : Int) (w : World) : Calls Try.prog 34 #[.int .i64 n] w fun e w' => e = .returned (.bool (decide (1 ≤ n ∧ n ≤ 8))) ∧ w = w' := by
  by_cases h : 1 ≤ n
  · go_enter Try.func34, Try.ntmps34
    go_wp2
    go_ret
    exact ⟨ret_bool (by rw [Bool.eq_iff_iff]; simp only [decide_eq_true_eq]; omega), rfl⟩
  · go_enter Try.func34, Try.ntmps34
    go_wp2
    go_ret
    exact ⟨ret_bool (by rw [Bool.eq_iff_iff]; simp only [Bool.and_eq_true, decide_eq_true_eq, Bool.false_eq_true, false_iff]; omega), rfl⟩

theorem impl_isDataSize (n : Int) (w : World) : Calls Try.prog 33 #[.int .i64 n] w fun e w' => e = .returned (.bool (decide (1 ≤ n ∧ n ≤ 12))) ∧ w = w' := by
  by_cases h : 1 ≤ n
  · go_enter Try.func33, Try.ntmps33
    go_wp2
    go_ret
    exact ⟨ret_bool (by rw [Bool.eq_iff_iff]; simp only [decide_eq_true_eq]; omega), rfl⟩
  · go_enter Try.func33, Try.ntmps33
    go_wp2
    go_ret
    exact ⟨ret_bool (by rw [Bool.eq_iff_iff]; simp only [Bool.and_eq_true, decide_eq_true_eq, Bool.false_eq_true, false_iff]; omega), rfl⟩

theorem impl_areSymbols (a : Option Addr) (cap : Nat) (l : List Int) (w : World) (hbig : l.length ≤ 1099511627776) (hc : IntsAt w a l) :
    Calls Try.prog 27 #[.slice a l.length cap] w fun e w' => e = .returned (.bool (l.all symB)) ∧ w = w' := by
  rcases hc.len with h0 | ⟨b, off, rfl, hb, hc⟩
  all_goals
    go_enter Try.func27, Try.ntmps27
    go_wp2
    go_loop [7] (fun i => ∃ k : Nat, k ≤ l.length ∧ i = .int .i64 k ∧ Pre symB l k) (fun i => l.length - (intOf i).toNat)
    case atStart => exact ⟨0, by omega, rfl, pre_zero _ _⟩
    case round =>
      obtain ⟨k, hk, rfl, hg⟩ := hrel
      by_cases hlt : k < l.length
      · first
        | (exfalso; omega)
        | (have hcell := hc k hlt
           have Hc := Lib.hid hc; clear hc
           have hd := impl_isSymbol l[k] w
           by_cases h : symB l[k] = true
           · rw [h] at hd
             have Hd := Lib.hid hd; clear hd
             have Hs := Lib.hid (pre_step hg hlt h); clear hg h
             go_wp2_with fail
             refine Hd.out.mono ?_
             rintro e w' ⟨rfl, rfl⟩
             go_wp2
             go_round
             case rel => exact ⟨k + 1, by omega, by go_num, Hs.out⟩
             case measure => simp [intOf]; omega
           · rw [Bool.not_eq_true] at h
             rw [h] at hd
             have Hd := Lib.hid hd; clear hd
             have Hs := Lib.hid (pre_not hlt h); clear hg h
             go_wp2_with fail
             refine Hd.out.mono ?_
             rintro e w' ⟨rfl, rfl⟩
             go_wp2
             go_ret
             exact ⟨ret_bool Hs.out.symm, rfl⟩)
      · have Hs := Lib.hid (pre_all hg (by omega)); clear hg
        go_wp2
        go_ret
        exact ⟨ret_bool Hs.out.symm, rfl⟩

/-- Data that can be encoded. -/
def isdB (d : List Int) : Bool := decide (1 ≤ d.length ∧ d.length ≤ 12) && d.all symB
theorem isdB_data (d : List Int) (need : Int) : dataB d need = (isdB d && decide (1 ≤ need ∧ need ≤ 8)) := by unfold dataB isdB; rw [Bool.and_comm (d.all symB)]

theorem impl_isData (a : Option Addr) (cap : Nat) (l : List Int) (w : World) (hbig : l.length ≤ 1099511627776) (hc : IntsAt w a l) :
    Calls Try.prog 44 #[.slice a l.length cap] w fun e w' => e = .returned (.bool (isdB l)) ∧ w = w' := by
  have hz := impl_isDataSize (l.length : Int) w
  have hd := impl_areSymbols a cap l w hbig hc
  by_cases h : 1 ≤ (l.length : Int) ∧ (l.length : Int) ≤ 12
  · rw [decide_eq_true h] at hz
    have Hf := Lib.hid (show isdB l = l.all symB by unfold isdB; rw [decide_eq_true (by omega), Bool.true_and])
    have Hz := Lib.hid hz; clear hz
    have Hd := Lib.hid hd; clear hd hc h
    go_enter Try.func44, Try.ntmps44
    go_wp2_with fail
    refine Hz.out.mono ?_
    rintro e w' ⟨rfl, rfl⟩
    go_wp2_with fail
    refine Hd.out.mono ?_
    rintro e w' ⟨rfl, rfl⟩
    go_wp2
    go_ret
    exact ⟨ret_bool Hf.out.symm, rfl⟩
  · rw [decide_eq_false h] at hz
    have Hf := Lib.hid (show isdB l = false by unfold isdB; rw [decide_eq_false (by omega), Bool.false_and])
    have Hz := Lib.hid hz; clear hz hd hc h
    go_enter Try.func44, Try.ntmps44
    go_wp2_with fail
    refine Hz.out.mono ?_
    rintro e w' ⟨rfl, rfl⟩
    go_wp2
    go_ret
    exact ⟨ret_bool Hf.out.symm, rfl⟩

theorem impl_columnsOf (size need : Nat) (w : World) (h1 : 1 ≤ size) (h2 : size ≤ 12) (h3 : 1 ≤ need) (h4 : need ≤ 8) : Calls Try.prog 39 #[.int .i64 size, .int .i64 need] w fun e w' => e = .returned (.int .i64 (((size + need - 1) / need : Nat) : Int)) ∧ w = w' := by
  have hq := Lib.hid (show (((size + need - 1) / need : Nat) : Int) = ((size : Int) + (need : Int) - 1) / (need : Int) by rw [Int.natCast_ediv]; congr 1; omega)
  go_enter Try.func39, Try.ntmps39
  go_wp2
  go_ret
  exact ⟨ret_int hq.out.symm, rfl⟩

theorem lib_Backward (a : Option Addr) (n c : Nat) (w : World) : Calls Try.prog 38 #[.slice a n c] w fun e w' =>
    e = .returned (.func (.func 47) #[] #[.pointer (some ⟨w.heap.size, 0, none⟩)]) ∧ w' = w.alloc (.cells #[.slice a n c] 23) := by
  go_enter Try.func38, Try.ntmps38
  go_wp2
  go_ret
  exact ⟨rfl, rfl⟩

theorem lib_Backward1 (L Bl : Nat) (a : Option Addr) (c : Nat) (l : List Int) (hbig : l.length ≤ 1099511627776) (J : Nat → World → Prop)
    (hc : ∀ i W, J i W → W.cell? ⟨Bl, 0, none⟩ = some (.slice a l.length c) ∧ IntsAt W a l)
    (hY : ∀ i (hi : i < l.length) W, J (i + 1) W → YieldAt Fence.wide 1 Try.prog L #[.int .i64 (i : Int), .int .i64 l[i]] W fun e W' => e = .returned (.bool true) ∧ J i W')
    (W : World) (h0 : J l.length W) :
    CallsIn Fence.wide 2 Try.prog 47 #[.func (.yield L) #[] #[], .pointer (some ⟨Bl, 0, none⟩)] W fun e W' => (∃ v, e = .returned v) ∧ J 0 W' := by
  have hcl := (hc _ W h0).1
  have HY := Lib.hid hY; clear hY
  have Hc := Lib.hid hc; clear hc
  refine callsIn_of_wp Try.func47 rfl trivial ?_ rfl
  simp only [Try.ntmps47, List.size_toArray, List.length_cons, List.length_nil, Nat.reduceAdd, Nat.reduceSub, Array.replicate_succ, Array.replicate_zero, List.push_toArray, List.append_toArray, List.nil_append, List.cons_append]
  gi_wp2
  gi_loopw [3] (fun i wr => ∃ k : Nat, k ≤ l.length ∧ i = .int .i64 ((k : Int) - 1) ∧ J k wr) (fun i _ => (intOf i + 1).toNat)
  case atStart => exact ⟨l.length, Nat.le_refl _, rfl, h0⟩
  case round =>
    obtain ⟨k, hk, rfl, hJ⟩ := hrel
    rcases k with _ | k
    · gi_wp2
      go_end0
      exact ⟨⟨_, rfl⟩, hJ⟩
    · have hlt : k < l.length := by omega
      obtain ⟨hcell, hi⟩ := Hc.out _ wr hJ
      obtain ⟨b, off, rfl, hb, hcs⟩ := hi.cell (by omega)
      have hck := hcs k hlt
      clear hcs hi
      obtain ⟨fn, tmps, assign, body, hy, hR⟩ := HY.out k hlt wr hJ
      generalize l[k] = y at *
      have e1 : ((k + 1 : Nat) : Int) - 1 = (k : Int) := by omega
      rw [e1]
      clear e1
      gi_wp2
      refine hR.mono ?_
      rintro e W3 ⟨rfl, hJ3⟩
      gi_wp2
      go_roundw
      case rel => exact ⟨k, by omega, rfl, hJ3⟩
      case measure => simp [intOf]

end Go.Proofs.Ytekpapodepachaa

/- The coin's small functions, of both sides, each by a walk of its text; no conditions but that the numbers are ints. -/
namespace Go.Proofs.Ytekpapodepachaa
open Go.RowKit

theorem impl_isThreshold (n : Int) (w : World) : Calls Try.prog 23 #[.int .i64 n] w fun e w' => e = .returned (.bool (decide (1 ≤ n ∧ n ≤ 7))) ∧ w = w' := by
  by_cases h : 1 ≤ n
  · go_enter Try.func23, Try.ntmps23
    go_wp2
    go_ret
    exact ⟨ret_bool (by rw [Bool.eq_iff_iff]; simp only [decide_eq_true_eq]; omega), rfl⟩
  · go_enter Try.func23, Try.ntmps23
    go_wp2
    go_ret
    exact ⟨ret_bool (by rw [Bool.eq_iff_iff]; simp only [Bool.and_eq_true, decide_eq_true_eq, Bool.false_eq_true, false_iff]; omega), rfl⟩

theorem impl_isWave (n : Int) (w : World) : Calls Try.prog 32 #[.int .i64 n] w fun e w' => e = .returned (.bool (decide (1 ≤ n ∧ n ≤ 15))) ∧ w = w' := by
  by_cases h : 1 ≤ n
  · go_enter Try.func32, Try.ntmps32
    go_wp2
    go_ret
    exact ⟨ret_bool (by rw [Bool.eq_iff_iff]; simp only [decide_eq_true_eq]; omega), rfl⟩
  · go_enter Try.func32, Try.ntmps32
    go_wp2
    go_ret
    exact ⟨ret_bool (by rw [Bool.eq_iff_iff]; simp only [Bool.and_eq_true, decide_eq_true_eq, Bool.false_eq_true, false_iff]; omega), rfl⟩

theorem impl_numberOf (n : Int) (w : World) (h0 : -1 ≤ n) (h1 : n ≤ 100) : Calls Try.prog 28 #[.int .i64 n] w fun e w' => e = .returned (.int .i64 (n + 1)) ∧ w = w' := by
  go_enter Try.func28, Try.ntmps28
  go_wp2
  go_ret
  exact ⟨rfl, rfl⟩

theorem impl_CoinMake (s wv : Int) (w : World) : Calls Try.prog 22 #[.int .i64 s, .int .i64 wv] w fun e w' => e = .returned (.int .i64 (cmZ s wv)) ∧ w = w' := by
  have HS := Lib.hid (impl_isSymbol s w)
  have HW := Lib.hid (impl_isWave wv w)
  cases h1 : symB s with
  | false =>
    rw [h1] at HS
    have Hf := Lib.hid (cmZ_no (s := s) (wv := wv) (by simp [h1]))
    clear h1
    go_enter Try.func22, Try.ntmps22
    go_wp2_with fail
    refine HS.out.mono ?_
    rintro e w' ⟨rfl, rfl⟩
    go_wp2
    go_ret
    exact ⟨ret_int Hf.out.symm, rfl⟩
  | true =>
    rw [h1] at HS
    by_cases h2 : 1 ≤ wv ∧ wv ≤ 15
    · rw [decide_eq_true h2] at HW
      obtain ⟨h3, h4⟩ := h2
      have Hf := Lib.hid (cmZ_yes h1 h3 h4)
      obtain ⟨h5, h6⟩ := symB_bd h1
      have hm := cm_bd h5 h6 h3 h4
      clear h1
      generalize hq : s * (7 * wv + 1) = q at *
      obtain ⟨h7, h8⟩ := hm
      go_enter Try.func22, Try.ntmps22
      go_wp2_with fail
      refine HS.out.mono ?_
      rintro e w' ⟨rfl, rfl⟩
      go_wp2_with fail
      refine HW.out.mono ?_
      rintro e w' ⟨rfl, rfl⟩
      go_wp2
      go_ret
      exact ⟨ret_int Hf.out.symm, rfl⟩
    · rw [decide_eq_false h2] at HW
      have Hf := Lib.hid (cmZ_no (s := s) (wv := wv) (fun h => h2 h.2))
      clear h1 h2
      go_enter Try.func22, Try.ntmps22
      go_wp2_with fail
      refine HS.out.mono ?_
      rintro e w' ⟨rfl, rfl⟩
      go_wp2_with fail
      refine HW.out.mono ?_
      rintro e w' ⟨rfl, rfl⟩
      go_wp2
      go_ret
      exact ⟨ret_int Hf.out.symm, rfl⟩

theorem impl_CoinValue (s wv : Int) (w : World) : Calls Try.prog 13 #[.int .i64 s, .int .i64 wv] w fun e w' => e = .returned (.int .i64 (cmZ s wv)) ∧ w = w' := by
  have H := Lib.hid (impl_CoinMake s wv w)
  go_enter Try.func13, Try.ntmps13
  go_wp2_with fail
  refine H.out.mono ?_
  rintro e w' ⟨rfl, rfl⟩
  go_wp2
  go_ret
  exact ⟨rfl, rfl⟩

end Go.Proofs.Ytekpapodepachaa

/- What impl's value of a column and its shards are, each by a walk of its text; conditions: a list that is read is short, the numbers are symbols. -/
namespace Go.Proofs.Ytekpapodepachaa
open Go.RowKit Go.Shelf
attribute [local go_sem] Oper.semAt_some

theorem impl_valueAt (a : Option Addr) (cap : Nat) (l : List Int) (x : Int) (w : World) (hbig : l.length ≤ 1000) (hd : ∀ y ∈ l, 0 ≤ y ∧ y ≤ 250) (hx0 : 0 ≤ x) (hx8 : x ≤ 8) (hc : IntsAt w a l) :
    Calls Try.prog 29 #[.slice a l.length cap, .int .i64 x] w fun e w' => e = .returned (.int .i64 (horZ l x)) ∧ Below w.heap.size w w' := by
  refine (callsIn_wide (n := 3)).1 ?_
  have Hd := Lib.hid hd; clear hd
  have Hc := Lib.hid hc; clear hc
  refine callsIn_of_wp_marks Try.func29 rfl trivial ?_ rfl
  simp only [Try.ntmps29, List.size_toArray, List.length_cons, List.length_nil, Nat.reduceAdd, Nat.reduceSub, Array.replicate_succ, Array.replicate_zero, List.push_toArray, List.append_toArray, List.nil_append, List.cons_append]
  gi_wp2_with fail
  refine ⟨trivial, (callsIn_wide.2 (lib_Backward a l.length cap _)).mono ?_⟩
  rintro e w' ⟨rfl, rfl⟩
  gi_wp2_with fail
  obtain ⟨w1, hw1⟩ : ∃ w1, ((w.alloc (.cells #[.int .i64 x] 3)).alloc (.cells #[.int .i64 0] 3)).alloc (.cells #[.slice a l.length cap] 23) = w1 := ⟨_, rfl⟩
  have hz1 : w1.heap.size = w.heap.size + 3 := by rw [← hw1]; simp
  have c0 : Boxed w1 w.heap.size 3 (.int .i64 x) := by rw [← hw1]; exact ((Boxed.new _ _ _).alloc _).alloc _
  have c1 : Boxed w1 (w.heap.size + 1) 3 (.int .i64 0) := by rw [← hw1]; have := (Boxed.new (w.alloc (.cells #[.int .i64 x] 3)) 3 (.int .i64 0)).alloc (.cells #[.slice a l.length cap] 23); simpa only [World.size_alloc] using this
  have c2 : Boxed w1 (w.heap.size + 1 + 1) 23 (.slice a l.length cap) := by rw [← hw1]; have := Boxed.new ((w.alloc (.cells #[.int .i64 x] 3)).alloc (.cells #[.int .i64 0] 3)) 23 (.slice a l.length cap); simpa only [World.size_alloc] using this
  have hb1 : Below w.heap.size w w1 := by rw [← hw1]; exact (((Below.refl _ w).alloc (Nat.le_refl _) _).alloc (by simp) _).alloc (by simp; omega) _
  rw [hw1]
  clear hw1
  refine wpIn_over (gf := 47) (lb := #[.pointer (some ⟨w.heap.size + 1 + 1, 0, none⟩)]) rfl (enters_of Try.func47 (by kernel_rfl) rfl) ?_
  intro rec _ hround
  have Hround := Lib.hid hround; clear hround
  obtain ⟨w2, hw2⟩ : ∃ w2, (w1.alloc (.deferred (some []))).alloc (rec .ready none) = w2 := ⟨_, rfl⟩
  have hD2 : w2.heap[w1.heap.size]? = some (.deferred (some [])) := by
    rw [← hw2]; exact (Below.heap_alloc _ _ _ (by simp)).trans (World.alloc_heap_new w1 _)
  have hL2 : w2.heap[w1.heap.size + 1]? = some (rec .ready none) := by
    rw [← hw2]; have := World.alloc_heap_new (w1.alloc (.deferred (some []))) (rec .ready none); rwa [World.size_alloc] at this
  have hb2 : Below w1.heap.size w1 w2 := by rw [← hw2]; exact ((Below.refl _ w1).alloc (Nat.le_refl _) _).alloc (by simp) _
  rw [hw2]
  clear hw2
  refine (lib_Backward1 (w1.heap.size + 1) (w.heap.size + 1 + 1) a cap l (by omega)
    (fun k W => Boxed W w.heap.size 3 (.int .i64 x) ∧ Boxed W (w.heap.size + 1) 3 (.int .i64 (horZ (l.drop k) x)) ∧ Boxed W (w.heap.size + 1 + 1) 23 (.slice a l.length cap) ∧ W.heap[w1.heap.size]? = some (.deferred (some [])) ∧ W.heap[w1.heap.size + 1]? = some (rec .ready none) ∧ Below w.heap.size w W) ?C ?Y w2
    ⟨(hb2.block _ (by omega)).trans c0, by rw [List.drop_length]; exact (hb2.block _ (by omega)).trans c1, (hb2.block _ (by omega)).trans c2, hD2, hL2, below_step hb1 hb1.size hb2⟩).mono ?_
  case C =>
    rintro i W ⟨_, _, b2, _, _, hB⟩
    exact ⟨b2.cell, Hc.out.below hB⟩
  case Y =>
    rintro k hk W ⟨b0, b1, b2, hD, hL, hB⟩
    have hLlt := (Array.getElem?_eq_some_iff.1 hL).1
    refine Hround.out #[.int .i64 (k : Int), .int .i64 l[k]] W _ rfl hL ?_
    gi_wp2
    refine ⟨hL, ?_⟩
    have hg1 := grownBy_putObj' W (w1.heap.size + 1) (rec .busy none)
    have hL3 : (W.putObj (w1.heap.size + 1) (rec .busy none)).heap[w1.heap.size + 1]? = some (rec .busy none) := World.putObj_heap_same hLlt
    have hD3 : (W.putObj (w1.heap.size + 1) (rec .busy none)).heap[w1.heap.size]? = some (.deferred (some [])) := (World.putObj_heap_other (by omega)).trans hD
    have b0 := b0.kept hg1 (by simp; omega)
    have b1 := b1.kept hg1 (by simp; omega)
    have b2 := b2.kept hg1 (by simp; omega)
    have hB3 : Below w.heap.size w (W.putObj (w1.heap.size + 1) (rec .busy none)) := hB.grown hg1 hB.size (fun k e => by cases e; omega)
    clear hL hD hB hg1 hLlt
    generalize W.putObj (w1.heap.size + 1) (rec .busy none) = W3 at *
    have hcb0 := b0.cell
    have hcb1 := b1.cell
    have hfb1 := b1.frozen
    have hh := Lib.hid (horZ_drop hk x)
    have hbd := horZ_bd (l.drop (k + 1)) x
    have hy := Hd.out _ (List.getElem_mem hk)
    generalize horZ (l.drop (k + 1)) x = h at *
    generalize l[k] = y at *
    have hm := mul_bd hbd.1 hbd.2 hx0 hx8
    have Hbx := Lib.hid b1
    obtain ⟨q, hq⟩ : ∃ q, h * x = q := ⟨_, rfl⟩
    rw [hq] at hm
    have hh' := Lib.hid (hh.out.trans (by rw [hq]))
    clear hh
    gi_wp2
    have hL4 : (W3.setCell ⟨w.heap.size + 1, 0, none⟩ (.int .i64 (horZ (l.drop k) x))).heap[w1.heap.size + 1]? = some (rec .busy none) := (Below.heap_setCell _ _ _ _ (by simp; omega)).trans hL3
    rw [← hh'.out]
    have hL4lt := (Array.getElem?_eq_some_iff.1 hL4).1
    have hg5 := grownBy_putObj' (W3.setCell ⟨w.heap.size + 1, 0, none⟩ (.int .i64 (horZ (l.drop k) x))) (w1.heap.size + 1) (rec .ready none)
    have hB4 := hB3.setCell (p := ⟨w.heap.size + 1, 0, none⟩) (by simp) (.int .i64 (horZ (l.drop k) x))
    refine ⟨hL4, .inl ⟨rfl, rfl, ?_, ?_, ?_, ?_, World.putObj_heap_same hL4lt, ?_⟩⟩
    · exact (b0.other (B' := w.heap.size + 1) (by omega) _).kept hg5 (by simp; omega)
    · exact (b1.set _).kept hg5 (by simp; omega)
    · exact (b2.other (B' := w.heap.size + 1) (by omega) _).kept hg5 (by simp; omega)
    · exact (World.putObj_heap_other (by omega)).trans ((Below.heap_setCell _ _ _ _ (by simp; omega)).trans hD3)
    · exact hB4.grown hg5 hB4.size (fun k e => by cases e; omega)
  · rintro e W ⟨hv, b0, b1, b2, hD, hL, hB⟩
    refine ⟨hv, .inl ⟨hL, ?_⟩⟩
    have hg1 := grownBy_putObj' W (w1.heap.size + 1) (rec .exhausted none)
    have hD1 : (W.putObj (w1.heap.size + 1) (rec .exhausted none)).heap[w1.heap.size]? = some (.deferred (some [])) := (World.putObj_heap_other (by omega)).trans hD
    have b1 := b1.kept hg1 (by simp; omega)
    have hB1 : Below w.heap.size w (W.putObj (w1.heap.size + 1) (rec .exhausted none)) := hB.grown hg1 hB.size (fun k e => by cases e; omega)
    clear b0 b2 hL hD hB hg1
    generalize W.putObj (w1.heap.size + 1) (rec .exhausted none) = W3 at *
    have hcb := b1.cell
    rw [List.drop_zero] at hcb
    gi_wp2
    refine ⟨by simp, .inl ⟨_, _, rfl, run_takeDeferred hD1, ?_⟩⟩
    refine ⟨_, results_tmp rfl _ _ _, ?_, hB1.grown (grownBy_putObj' _ _ _) hB1.size (fun k e => by cases e; omega)⟩
    exact rfl

theorem lib_Chunk (a : Option Addr) (n c : Nat) (need : Int) (w : World) (h1 : 1 ≤ need) : Calls Try.prog 48 #[.slice a n c, .int .i64 need] w fun e w' =>
    e = .returned (.func (.func 49) #[] #[.pointer (some ⟨w.heap.size, 0, none⟩), .pointer (some ⟨w.heap.size + 1, 0, none⟩)]) ∧ w' = (w.alloc (.cells #[.slice a n c] 23)).alloc (.cells #[.int .i64 need] 3) := by
  go_enter Try.func48, Try.ntmps48
  go_wp2
  go_ret
  exact ⟨rfl, rfl⟩

theorem IntsAt.part {w : World} {b off : Nat} {l : List Int} (hb : b < w.heap.size) (h : ∀ j (h : j < l.length), w.cell? ⟨b, off + j, none⟩ = some (.int .i64 l[j])) (m n : Nat) : IntsAt w (some ⟨b, off + m, none⟩) ((l.drop m).take n) := by
  refine .inr ⟨b, off + m, rfl, hb, fun j hj => ?_⟩
  simp only [List.length_take, List.length_drop] at hj
  have := h (m + j) (by omega)
  rw [Nat.add_assoc, this]
  simp
theorem mul_lt_cols {l : List Int} {need c : Nat} (hn : 1 ≤ need) (h : ¬ c * need < l.length) (hc : c ≤ colsN l need) : c = colsN l need := by
  rcases Nat.lt_or_ge c (colsN l need) with h' | h'
  · exact absurd ((cols_lt hn).1 h') h
  · omega

theorem lib_Chunk1 (L B1 B2 : Nat) (a : Option Addr) (cap : Nat) (l : List Int) (need : Nat) (h1 : 1 ≤ need) (h8 : need ≤ 8) (hbig : l.length ≤ 12) (hcap : l.length ≤ cap) (J : Nat → World → Prop)
    (hJ : ∀ c W q, J c W → J c (W.drewN q))
    (hc : ∀ c W, J c W → W.cell? ⟨B1, 0, none⟩ = some (.slice a l.length cap) ∧ W.cell? ⟨B2, 0, none⟩ = some (.int .i64 (need : Int)) ∧ IntsAt W a l)
    (hY : ∀ c (W : World) ac, c * need < l.length → J c W → IntsAt W ac ((l.drop (c * need)).take need) → (∀ p, ac = some p → ∃ q, a = some q ∧ p.block = q.block) → YieldAt Fence.wide 1 Try.prog L #[.slice ac ((l.drop (c * need)).take need).length ((l.drop (c * need)).take need).length] W fun e W' => e = .returned (.bool true) ∧ J (c + 1) W')
    (W : World) (h0 : J 0 W) :
    CallsIn Fence.wide 2 Try.prog 49 #[.func (.yield L) #[] #[], .pointer (some ⟨B1, 0, none⟩), .pointer (some ⟨B2, 0, none⟩)] W fun e W' => (∃ v, e = .returned v) ∧ J (colsN l need) W' := by
  have HY := Lib.hid hY; clear hY
  have Hc := Lib.hid hc; clear hc
  have HJ := Lib.hid hJ; clear hJ
  refine callsIn_of_wp Try.func49 rfl trivial ?_ rfl
  simp only [Try.ntmps49, List.size_toArray, List.length_cons, List.length_nil, Nat.reduceAdd, Nat.reduceSub, Array.replicate_succ, Array.replicate_zero, List.push_toArray, List.append_toArray, List.nil_append, List.cons_append]
  gi_wp2
  gi_loopw [4, 5] (fun i _ wr => ∃ c m : Nat, c ≤ colsN l need ∧ m = c * need ∧ i = .int .i64 (m : Int) ∧ J c wr) (fun i _ _ => l.length - (intOf i).toNat)
  case atStart => exact ⟨0, 0, Nat.zero_le _, (Nat.zero_mul _).symm, rfl, h0⟩
  case round =>
    obtain ⟨c, m, hcn, hm, rfl, hJc⟩ := hrel
    have Hm := Lib.hid hm; clear hm
    obtain ⟨hcell1, hcell2, hi⟩ := Hc.out _ _ hJc
    have Hi := Lib.hid hi; clear hi
    by_cases hlt : m < l.length
    · obtain ⟨b, off, rfl, hb, hcs⟩ := Hi.out.cell (by omega)
      have Hcs := Lib.hid hcs; clear hcs
      obtain ⟨e, he⟩ : ∃ e : Nat, min need (l.length - m) = e := ⟨_, rfl⟩
      have hpl : ((l.drop m).take need).length = e := by simp [he]
      have hmc : m < cap := by omega
      have hcs1 : c + 1 ≤ colsN l need := (cols_lt h1).2 (by rw [← Hm.out]; exact hlt)
      have hm1 := Lib.hid (show m + need = (c + 1) * need by rw [Nat.add_mul, Nat.one_mul, ← Hm.out])
      have hyy := HY.out c wr.drew (some ⟨b, off + m, none⟩) (by rw [← Hm.out]; exact hlt) (HJ.out c wr 1 hJc) (by rw [← Hm.out]; exact IntsAt.part (w := wr.drew) hb Hcs.out m need) (fun p hp => by cases hp; exact ⟨_, rfl, rfl⟩)
      rw [← Hm.out, hpl] at hyy
      by_cases hle : (need : Int) ≤ (l.length : Int) - (m : Int)
      · have hee : e = need := by omega
        rw [hee] at hyy
        clear hee he hpl
        obtain ⟨fn, tmps, assign, body, hy, hR⟩ := hyy
        gi_wp2
        gi_region
        gi_wp2
        refine hR.mono ?_
        rintro e W3 ⟨rfl, hJ3⟩
        obtain ⟨hd1, hd2, _⟩ := Hc.out _ _ hJ3
        clear hcell1 hcell2 hJc
        gi_wp2
        go_roundw
        case rel => exact ⟨c + 1, m + need, hcs1, hm1.out, by go_num, hJ3⟩
        case measure => simp [intOf]; omega
      · have hee : e = l.length - m := by omega
        rw [hee] at hyy
        clear hee he hpl
        obtain ⟨fn, tmps, assign, body, hy, hR⟩ := hyy
        gi_wp2
        gi_region
        gi_wp2
        refine hR.mono ?_
        rintro e W3 ⟨rfl, hJ3⟩
        obtain ⟨hd1, hd2, _⟩ := Hc.out _ _ hJ3
        clear hcell1 hcell2 hJc
        gi_wp2
        go_roundw
        case rel => exact ⟨c + 1, m + need, hcs1, hm1.out, by go_num, hJ3⟩
        case measure => simp [intOf]; omega
    · have hce := mul_lt_cols h1 (by rw [← Hm.out]; exact hlt) hcn
      have Hce := Lib.hid hce; clear hce
      gi_wp2
      go_end0
      exact ⟨⟨_, rfl⟩, by rw [← Hce.out]; exact hJc⟩

end Go.Proofs.Ytekpapodepachaa

/- The shares of a secret, on both sides, each by a walk of its text; condition: a list that is read has fewer than 2^40 elements. -/
namespace Go.Proofs.Ytekpapodepachaa
open Go.RowKit

def polyB (d : List Int) : Bool := d.all symB && decide (1 ≤ d.length ∧ d.length ≤ 7)
theorem polyB_at {d : List Int} (h : polyB d = true) : (∀ y ∈ d, 0 ≤ y ∧ y ≤ 250) ∧ 1 ≤ d.length ∧ d.length ≤ 7 := by
  unfold polyB at h
  rw [Bool.and_eq_true, List.all_eq_true, decide_eq_true_eq] at h
  exact ⟨fun y hy => symB_bd (h.1 y hy), h.2⟩
/-- The first m shares. -/
def cdS (d : List Int) (m : Nat) : List Int := (List.range m).map fun i => horZ d ((i + 1 : Nat) : Int)
theorem cdS_len (d : List Int) (m : Nat) : (cdS d m).length = m := by simp [cdS]
theorem cdS_succ (d : List Int) (m : Nat) : cdS d (m + 1) = cdS d m ++ [horZ d ((m + 1 : Nat) : Int)] := by simp [cdS, List.range_succ]
def cdB (d : List Int) (many : Int) : Bool := polyB d && decide ((d.length : Int) ≤ many ∧ many ≤ 7)
def cdL (d : List Int) (many : Int) : List Int := if cdB d many = true then cdS d many.toNat else []
theorem cdL_yes {d : List Int} {m : Nat} (h : polyB d = true) (h1 : d.length ≤ m) (h2 : m ≤ 7) : cdL d (m : Int) = cdS d m := by
  unfold cdL cdB; rw [h, decide_eq_true (by omega)]; rfl
theorem cdL_no {d : List Int} {many : Int} (h : cdB d many = false) : cdL d many = [] := by unfold cdL; rw [h]; rfl
theorem cdL_len (d : List Int) (many : Int) : (cdL d many).length ≤ 7 := by
  unfold cdL
  split
  · rename_i h; unfold cdB at h; rw [Bool.and_eq_true, decide_eq_true_eq] at h; rw [cdS_len]; omega
  · simp
theorem val_hor (d : List Int) (x : Int) : valZ d d.length 0 x = horZ d x := by
  have := hor_val d d.length 0 x
  rw [Nat.zero_mul, List.drop_zero, List.take_length] at this
  exact this.symm

theorem spec_l13List (a : Option Addr) (cap : Nat) (l : List Int) (w : World) (hbig : l.length ≤ 1099511627776) (hc : IntsAt w a l) :
    Calls Try.prog 19 #[.slice a l.length cap] w fun e w' => e = .returned (.bool (polyB l)) ∧ w = w' := by
  rcases hc.len with h0 | ⟨b, off, rfl, hb, hc⟩
  all_goals
    go_enter Try.func19, Try.ntmps19
    go_wp2
    go_loop [3] (fun i => ∃ k : Nat, k ≤ l.length ∧ i = .int .i64 k ∧ Pre symB l k) (fun i => l.length - (intOf i).toNat)
    case atStart => exact ⟨0, by omega, rfl, pre_zero _ _⟩
    case round =>
      obtain ⟨k, hk, rfl, hg⟩ := hrel
      by_cases hlt : k < l.length
      · first
        | (exfalso; omega)
        | (have hcell := hc k hlt
           have Hc := Lib.hid hc; clear hc
           have hd := spec_l6In l[k] 0 250 w
           rw [← symB_dec] at hd
           by_cases h : symB l[k] = true
           · rw [h] at hd
             have Hd := Lib.hid hd; clear hd
             have Hs := Lib.hid (pre_step hg hlt h); clear hg h
             go_wp2_with fail
             refine Hd.out.mono ?_
             rintro e w' ⟨rfl, rfl⟩
             go_wp2
             go_round
             case rel => exact ⟨k + 1, by omega, by go_num, Hs.out⟩
             case measure => simp [intOf]; omega
           · rw [Bool.not_eq_true] at h
             rw [h] at hd
             have Hd := Lib.hid hd; clear hd
             have Hs := Lib.hid (show polyB l = false by unfold polyB; rw [pre_not hlt h]; rfl); clear hg h
             go_wp2_with fail
             refine Hd.out.mono ?_
             rintro e w' ⟨rfl, rfl⟩
             go_wp2
             go_ret
             exact ⟨ret_bool Hs.out.symm, rfl⟩)
      · have hs := pre_all hg (by omega)
        have Hs := Lib.hid (show polyB l = decide (1 ≤ (l.length : Int) ∧ (l.length : Int) ≤ 7) by unfold polyB; rw [hs, Bool.true_and, Bool.eq_iff_iff, decide_eq_true_iff, decide_eq_true_iff]; omega); clear hg hs
        have hi := spec_l6In (l.length : Int) 1 7 w
        rw [← Hs.out] at hi
        have HI := Lib.hid hi; clear hi
        go_wp2_with fail
        refine HI.out.mono ?_
        rintro e w' ⟨rfl, rfl⟩
        go_wp2
        go_ret
        exact ⟨rfl, rfl⟩

set_option maxRecDepth 8000 in
set_option maxHeartbeats 1000000 in
theorem spec_CoinDeal (a : Option Addr) (cap : Nat) (d : List Int) (many : Int) (w : World) (hbig : d.length ≤ 1099511627776) (hc : IntsAt w a d) :
    Calls Try.prog 9 #[.slice a d.length cap, .int .i64 many] w fun e w' => ∃ v, e = .returned v ∧ Own 3 w' w.heap.size v (cdL d many) ∧ Below w.heap.size w w' := by
  have hb0 : Below w.heap.size w (w.alloc (.cells #[] 3)) := (Below.refl _ _).alloc (Nat.le_refl _) _
  have HO := Lib.hid (own_empty 3 w (Nat.le_refl _))
  have Hb0 := Lib.hid hb0
  have Hc := Lib.hid hc
  have HV := Lib.hid (spec_l13List a cap d _ hbig (hc.below hb0)); clear hc hb0
  have HI := Lib.hid (fun W => spec_l6In many d.length 7 W)
  cases h1 : polyB d with
  | false =>
    rw [h1] at HV
    have Hf := Lib.hid (cdL_no (d := d) (many := many) (by unfold cdB; rw [h1]; rfl))
    clear h1
    go_enter Try.func9, Try.ntmps9
    go_wp2_with fail
    refine HV.out.mono ?_
    rintro e w' ⟨rfl, rfl⟩
    go_wp2
    go_ret
    exact ⟨_, rfl, by rw [Hf.out]; exact HO.out, Hb0.out⟩
  | true =>
  rw [h1] at HV
  obtain ⟨hsym, hl1, hl2⟩ := polyB_at h1
  by_cases hm : (d.length : Int) ≤ many ∧ many ≤ 7
  · rw [decide_eq_true hm] at HI
    obtain ⟨m, rfl⟩ := Int.eq_ofNat_of_zero_le (show 0 ≤ many by omega)
    have Hf := Lib.hid (cdL_yes (d := d) (m := m) h1 (by omega) (by omega))
    have Hsym := Lib.hid hsym; clear hsym h1
    go_enter Try.func9, Try.ntmps9
    go_wp2_with fail
    refine HV.out.mono ?_
    rintro e w' ⟨rfl, rfl⟩
    go_wp2_with fail
    refine (HI.out _).mono ?_
    rintro e w' ⟨rfl, rfl⟩
    go_wp2
    go_loopw [5, 6] (fun v i wr => ∃ k : Nat, 1 ≤ k ∧ k ≤ m + 1 ∧ i = .int .i64 k ∧ Own 3 wr w.heap.size v (cdS d (k - 1)) ∧ Below w.heap.size w wr) (fun _ i _ => m + 1 - (intOf i).toNat)
    case atStart => exact ⟨1, by omega, by omega, rfl, HO.out, Hb0.out⟩
    case round =>
      obtain ⟨k, hk1, hk, rfl, hown, hbel⟩ := hrel
      have hB := hbel.size
      by_cases hlt : k ≤ m
      · have hln : (cdS d (k - 1)).length ≤ 100 := by rw [cdS_len]; omega
        have Hsu := Lib.hid (show cdS d k = cdS d (k - 1) ++ [horZ d (k : Int)] by have := cdS_succ d (k - 1); rwa [show k - 1 + 1 = k by omega] at this)
        have hv := spec_l3Value a cap d d.length 0 k wr Hsym.out (by omega) (by omega) (by omega) (by omega) (Hc.out.below hbel)
        rw [val_hor, show ((0 : Nat) : Int) = 0 from rfl] at hv
        have HV2 := Lib.hid hv; clear hv
        generalize horZ d (k : Int) = z at *
        go_wp2_with fail
        refine HV2.out.mono ?_
        rintro e w2 ⟨rfl, hd2⟩
        have ho2 := hown.below (hd2.below _)
        have hb2 := below_step hbel hB (hd2.below _)
        have hB2 := hb2.size
        clear hd2 hown hbel
        generalize cdS d (k - 1) = zs at *
        go_wp2_with (at_builtin; refine wpList_push TI3 rfl (.tmp 24) (.tmp 30) rfl w.heap.size _ zs _ rfl ho2 (by omega) rfl hB2 ?_; intro v' w5 hown5 hg5)
        go_roundw
        case rel => exact ⟨k + 1, by omega, by omega, by go_num, by rw [Nat.add_sub_cancel, Hsu.out]; exact hown5, hb2.grown hg5 hB2 (fun g e => (ho2.lt g e).1)⟩
        case measure => simp [intOf]; omega
      · have hkm : k - 1 = m := by omega
        have Hk := Lib.hid hkm; clear hkm
        go_wp2
        go_ret
        exact ⟨_, rfl, by rw [Hf.out, ← Hk.out]; exact hown, hbel⟩
  · rw [decide_eq_false hm] at HI
    have Hf := Lib.hid (cdL_no (d := d) (many := many) (by unfold cdB; rw [h1, decide_eq_false hm]; rfl))
    clear h1 hm hsym
    go_enter Try.func9, Try.ntmps9
    go_wp2_with fail
    refine HV.out.mono ?_
    rintro e w' ⟨rfl, rfl⟩
    go_wp2_with fail
    refine (HI.out _).mono ?_
    rintro e w' ⟨rfl, rfl⟩
    go_wp2
    go_ret
    exact ⟨_, rfl, by rw [Hf.out]; exact HO.out, Hb0.out⟩

end Go.Proofs.Ytekpapodepachaa

/- A field of a row that lies in memory of its own is written over by a value with a new block; general steps, nothing here speaks of the program. -/
namespace Go.Proofs.Ytekpapodepachaa
open Go.RowKit

/-- A field is written over by a value whose block, if it has one, is new. -/
theorem OwnR.setF {E Ei : TypeId} {sz : Nat} {w : World} {B hi hi' g n cap : Nat} {es : List (List Fd)} (h : OwnR E Ei sz w B hi (.slice (some ⟨g, 0, none⟩) n cap) es) (hn : n = es.length) {k j : Nat} (hk : k < es.length) (hj : j < sz) {u : Value} {f : Fd}
    (hf : FdOk Ei w B u f) (hhi : hi ≤ hi') (hu : ∀ b, u.ownBlock = some b → hi ≤ b ∧ b < hi') :
    OwnR E Ei sz (w.setCell ⟨g, k * sz + j, none⟩ u) B hi' (.slice (some ⟨g, 0, none⟩) n cap) (es.set k ((es[k]).set j f)) := by
  subst hn
  obtain ⟨cs, h1, h2, h3, h4, h5, h6⟩ := h.row
  have hsz := h.szs _ (List.getElem_mem hk)
  have hlt : k * sz + j < cs.length := by
    rw [h1.1]
    have := Nat.mul_le_mul_right sz (show k + 1 ≤ es.length by omega)
    rw [Nat.add_mul] at this; omega
  have hgB := (h1.lt g rfl).1
  have hgh := h6 g rfl
  have hst := (World.ownsRow.stored (w := w) (base := B) (e := E) (size := sz) (g := g) (n := es.length) (cap := cap) h1 (k * sz + j) u).1
  have hbl : ∀ b, b ≠ g → (w.setCell ⟨g, k * sz + j, none⟩ u).heap[b]? = w.heap[b]? := fun b hb => Below.heap_setCell _ _ _ b hb
  have hset : ∀ (p : Nat) c, (cs.set (k * sz + j) u)[p]? = some c → (p ≠ k * sz + j ∧ cs[p]? = some c) ∨ (p = k * sz + j ∧ c = u) := by
    intro p c hp
    by_cases e : k * sz + j = p
    · subst e
      rw [List.getElem?_set_self hlt] at hp
      exact .inr ⟨rfl, by cases hp; rfl⟩
    · rw [List.getElem?_set_ne e] at hp
      exact .inl ⟨fun h => e h.symm, hp⟩
  refine ⟨fun e he => ?_, cs.set (k * sz + j) u, by rw [List.length_set]; exact hst, fun k' j' hk' hj' => ?_, fun p q c d hp hq hne => ?_, fun p c hp => ?_, fun p c b hp hb => ?_, fun b hb => Nat.lt_of_lt_of_le (h6 b hb) hhi⟩
  · rcases List.mem_or_eq_of_mem_set he with he | rfl
    · exact h.szs e he
    · rw [List.length_set]; exact hsz
  · by_cases e : k' = k ∧ j' = j
    · obtain ⟨rfl, rfl⟩ := e
      refine ⟨_, List.getElem?_set_self hlt, ?_⟩
      simp only [List.getElem_set_self]
      exact hf.same fun b hb => hbl b fun hg => by have := (hu b hb).1; omega
    · obtain ⟨a1, a2, a3⟩ := set_get (j := j) hk k' j' hk' hj' (by rw [List.length_set]) e (fun i _ _ hi => by rw [List.getElem_set_ne (fun h => hi h.symm)])
      obtain ⟨c, hc, hf⟩ := h2 k' j' a1 a2
      rw [a3]
      have hp : k * sz + j ≠ k' * sz + j' := by
        intro hh
        have hj2 : j' < sz := by rw [← h.szs _ (List.getElem_mem a1)]; exact a2
        have e1 : (k * sz + j) / sz = k := by rw [Nat.add_comm, Nat.add_mul_div_right _ _ (by omega), Nat.div_eq_of_lt hj, Nat.zero_add]
        have e2 : (k' * sz + j') / sz = k' := by rw [Nat.add_comm, Nat.add_mul_div_right _ _ (by omega), Nat.div_eq_of_lt hj2, Nat.zero_add]
        have : k' = k := by rw [← e1, ← e2, hh]
        subst this
        exact e ⟨rfl, by omega⟩
      exact ⟨c, by rw [List.getElem?_set_ne hp]; exact hc, hf.same fun b hb => hbl b fun hg => h4 _ c hc b hb (by rw [hg]; rfl)⟩
  · rcases hset p c hp with ⟨_, hp1⟩ | ⟨ep, ec⟩
    · rcases hset q d hq with ⟨_, hq1⟩ | ⟨eq, ed⟩
      · exact h3 p q c d hp1 hq1 hne
      · intro b e e'
        rw [ed] at e'
        have := (h5 p c b hp1 e).2; have := (hu b e').1; omega
    · rcases hset q d hq with ⟨_, hq1⟩ | ⟨eq, ed⟩
      · intro b e e'
        rw [ec] at e
        have := (h5 q d b hq1 e').2; have := (hu b e).1; omega
      · exact absurd (ep.trans eq.symm) hne
  · rcases hset p c hp with ⟨_, hp1⟩ | ⟨ep, ec⟩
    · exact h4 p c hp1
    · intro b e e'
      cases e'
      rw [ec] at e
      have h9 : hi ≤ g := (hu _ e).1
      omega
  · rcases hset p c hp with ⟨_, hp1⟩ | ⟨ep, ec⟩
    · have := h5 p c b hp1 hb; exact ⟨this.1, by omega⟩
    · rw [ec] at hb
      have := hu b hb; exact ⟨by omega, this.2⟩

end Go.Proofs.Ytekpapodepachaa

/- Rows of fields: the numbers that mark them, their sizes, their copies; general steps, nothing here speaks of the program. -/
namespace Go.Proofs.Ytekpapodepachaa
open Go.RowKit

/-! marks -/
/-- A field's mark, and the next number. -/
def Fd.mk' (k : Nat) : Fd → Fd
  | .i _ => .i k
  | .b _ => .b (k % 3 == 0)
  | .s t => .s t
  | .l xs => .l (markL k xs.length)
def Fd.nx (k : Nat) : Fd → Nat
  | .i _ => k + 1
  | .b _ => k + 1
  | .s _ => k
  | .l xs => k + xs.length
def mkE : Nat → List Fd → List Fd
  | _, [] => []
  | k, f :: e => f.mk' k :: mkE (f.nx k) e
def nxE : Nat → List Fd → Nat
  | k, [] => k
  | k, f :: e => nxE (f.nx k) e
theorem mkE_len : ∀ (k : Nat) (e : List Fd), (mkE k e).length = e.length
  | _, [] => rfl
  | k, f :: e => by simp [mkE, mkE_len (f.nx k) e]
/-- How many numbers a field takes. -/
def Fd.sz : Fd → Nat
  | .i _ => 1
  | .b _ => 1
  | .s _ => 0
  | .l xs => xs.length
theorem nx_sz (k : Nat) (f : Fd) : f.nx k = k + f.sz := by cases f <;> rfl
def szE (e : List Fd) : Nat := (e.map Fd.sz).sum
theorem nxE_sz : ∀ (e : List Fd) (k : Nat), nxE k e = k + szE e
  | [], k => by simp [nxE, szE]
  | f :: e, k => by rw [nxE, nxE_sz e, nx_sz]; simp [szE]; omega
/-- The number with which row i begins. -/
def kTo (es : List (List Fd)) (k i : Nat) : Nat := k + ((es.take i).map szE).sum
theorem kTo_zero (es : List (List Fd)) (k : Nat) : kTo es k 0 = k := by simp [kTo]
theorem kTo_succ {es : List (List Fd)} {k i : Nat} (h : i < es.length) : kTo es k (i + 1) = nxE (kTo es k i) es[i] := by
  unfold kTo
  rw [nxE_sz, List.take_succ_eq_append_getElem h, List.map_append, List.sum_append]
  simp; omega
theorem kTo_le {es : List (List Fd)} {k i n : Nat} (h : i ≤ n) : kTo es k i ≤ kTo es k n := by
  induction n with
  | zero => have : i = 0 := by omega
            subst this; exact Nat.le_refl _
  | succ n ih =>
    by_cases e : i = n + 1
    · subst e; exact Nat.le_refl _
    · refine Nat.le_trans (ih (by omega)) ?_
      by_cases hn : n < es.length
      · rw [kTo_succ hn, nxE_sz]; omega
      · unfold kTo
        rw [List.take_of_length_le (by omega), List.take_of_length_le (by omega)]
        exact Nat.le_refl _
/-- The rows when the first i are marked. -/
def mkTo (es : List (List Fd)) (k i : Nat) : List (List Fd) := (List.range es.length).map fun j => if j < i then mkE (kTo es k j) (es.getD j []) else es.getD j []
theorem mkTo_len (es : List (List Fd)) (k i : Nat) : (mkTo es k i).length = es.length := by simp [mkTo]
theorem getE {es : List (List Fd)} {j : Nat} (h : j < es.length) : es.getD j [] = es[j] := by simp [List.getD, List.getElem?_eq_getElem h]
theorem mkTo_get {es : List (List Fd)} {k i j : Nat} (h : j < (mkTo es k i).length) : (mkTo es k i)[j] = if j < i then mkE (kTo es k j) (es.getD j []) else es.getD j [] := by simp [mkTo]
theorem mkTo_zero (es : List (List Fd)) (k : Nat) : mkTo es k 0 = es := by
  apply List.ext_getElem
  · simp [mkTo]
  · intro j h1 h2
    rw [mkTo_get, if_neg (by omega), getE h2]
theorem mkTo_at {es : List (List Fd)} {k i : Nat} (h : i < es.length) (h' : i < (mkTo es k i).length) : (mkTo es k i)[i] = es[i] := by rw [mkTo_get, if_neg (by omega), getE h]
theorem mkTo_all {es : List (List Fd)} {k i : Nat} (h : i < es.length) (h' : i < (mkTo es k es.length).length) : (mkTo es k es.length)[i] = mkE (kTo es k i) es[i] := by rw [mkTo_get, if_pos h, getE h]
theorem mkTo_set {es : List (List Fd)} {k i : Nat} (h : i < es.length) : (mkTo es k i).set i (mkE (kTo es k i) es[i]) = mkTo es k (i + 1) := by
  apply List.ext_getElem
  · simp [mkTo]
  · intro j h1 h2
    by_cases e : j = i
    · subst e; simp only [List.getElem_set_self]; rw [mkTo_get, if_pos (by omega), getE h]
    · rw [List.getElem_set_ne (fun h => e h.symm), mkTo_get, mkTo_get]
      by_cases e2 : j < i
      · rw [if_pos e2, if_pos (by omega)]
      · rw [if_neg e2, if_neg (by omega)]

/-! sizes -/
def Fd.ln : Fd → Nat
  | .l xs => xs.length
  | _ => 0
def lnE (e : List Fd) : Nat := (e.map Fd.ln).sum
/-- How many numbers lie in the lists of the first k rows. -/
def lnTo (es : List (List Fd)) (k : Nat) : Nat := ((es.take k).map lnE).sum
theorem lnTo_zero (es : List (List Fd)) : lnTo es 0 = 0 := by simp [lnTo]
theorem lnTo_succ {es : List (List Fd)} {k : Nat} (h : k < es.length) : lnTo es (k + 1) = lnTo es k + lnE es[k] := by
  unfold lnTo
  rw [List.take_succ_eq_append_getElem h, List.map_append, List.sum_append]
  simp
theorem lnTo_le {es : List (List Fd)} {k n : Nat} (h : k ≤ n) : lnTo es k ≤ lnTo es n := by
  induction n with
  | zero => have : k = 0 := by omega
            subst this; exact Nat.le_refl _
  | succ n ih =>
    by_cases e : k = n + 1
    · subst e; exact Nat.le_refl _
    · refine Nat.le_trans (ih (by omega)) ?_
      by_cases hn : n < es.length
      · rw [lnTo_succ hn]; omega
      · unfold lnTo
        rw [List.take_of_length_le (by omega), List.take_of_length_le (by omega)]
        exact Nat.le_refl _
theorem lnTo_none {es : List (List Fd)} (h : ∀ e ∈ es, lnE e = 0) (k : Nat) : lnTo es k = 0 := by
  unfold lnTo
  rw [List.sum_eq_zero_iff_forall_eq_nat]
  intro n hn
  obtain ⟨e, he, rfl⟩ := List.mem_map.1 hn
  exact h e (List.mem_of_mem_take he)
theorem lnTo_in {es : List (List Fd)} {m : Nat} (h : lnTo es es.length ≤ m) : ∀ e ∈ es, lnE e ≤ m := by
  intro e he
  obtain ⟨k, hk, rfl⟩ := List.mem_iff_getElem.1 he
  have := lnTo_le (es := es) (show k + 1 ≤ es.length from hk)
  rw [lnTo_succ hk] at this
  omega
theorem ln_in {e : List Fd} {xs : List Int} {m : Nat} (h : lnE e ≤ m) (hx : Fd.l xs ∈ e) : xs.length ≤ m := by
  unfold lnE at h
  induction e with
  | nil => cases hx
  | cons f e ih =>
    rw [List.map_cons, List.sum_cons] at h
    rcases List.mem_cons.1 hx with rfl | hx
    · have : (Fd.l xs).ln = xs.length := rfl
      omega
    · exact ih (by omega) hx
theorem sz_ln (f : Fd) : f.sz ≤ 1 + f.ln := by cases f <;> simp [Fd.sz, Fd.ln]
theorem szE_ln : ∀ e : List Fd, szE e ≤ e.length + lnE e
  | [] => by simp [szE, lnE]
  | f :: e => by have := szE_ln e; have := sz_ln f; simp [szE, lnE] at *; omega
/-- The marks of rows of m fields are few. -/
theorem kTo_bd {es : List (List Fd)} {m : Nat} (hm : ∀ e ∈ es, e.length = m) (k : Nat) : ∀ i, i ≤ es.length → kTo es k i ≤ k + (i * m + lnTo es i)
  | 0, _ => by simp [kTo, lnTo]
  | i + 1, h => by
    have h1 := kTo_bd hm k i (by omega)
    have h2 := szE_ln es[i]
    rw [hm _ (List.getElem_mem _)] at h2
    rw [kTo_succ (by omega), nxE_sz, lnTo_succ (by omega), Nat.add_mul]
    omega

/-! copies -/
/-- Of these rows the first k have been copied, the others are the row z. -/
def cpTo (es : List (List Fd)) (z : List Fd) (k : Nat) : List (List Fd) := (List.range es.length).map fun i => if i < k then es.getD i [] else z
theorem cpTo_len (es : List (List Fd)) (z : List Fd) (k : Nat) : (cpTo es z k).length = es.length := by simp [cpTo]
theorem cpTo_get {es : List (List Fd)} {z : List Fd} {k i : Nat} (h : i < (cpTo es z k).length) : (cpTo es z k)[i] = if i < k then es.getD i [] else z := by simp [cpTo]
theorem cpTo_all (es : List (List Fd)) (z : List Fd) : cpTo es z es.length = es := by
  refine List.ext_getElem (by simp [cpTo]) fun i h1 h2 => ?_
  rw [cpTo_get, if_pos h2, getE h2]
theorem cpTo_step {es : List (List Fd)} {z : List Fd} {k : Nat} (hk : k < es.length) : (cpTo es z k).set k es[k] = cpTo es z (k + 1) := by
  refine List.ext_getElem (by simp [cpTo]) fun i h1 h2 => ?_
  by_cases hik : k = i
  · subst hik
    rw [List.getElem_set_self, cpTo_get, if_pos (by omega), getE hk]
  · rw [List.getElem_set_ne hik, cpTo_get, cpTo_get]
    by_cases h : i < k
    · rw [if_pos h, if_pos (by omega)]
    · rw [if_neg h, if_neg (by omega)]

/-! fields -/
/-- A truth value is stored. -/
theorem OwnR.setB {E Ei : TypeId} {sz : Nat} {w : World} {B hi g n cap : Nat} {es : List (List Fd)} (h : OwnR E Ei sz w B hi (.slice (some ⟨g, 0, none⟩) n cap) es) (hn : n = es.length) {k j : Nat} (hk : k < es.length) (hj : j < sz) (x : Bool) :
    OwnR E Ei sz (w.setCell ⟨g, k * sz + j, none⟩ (.bool x)) B hi (.slice (some ⟨g, 0, none⟩) n cap) (es.set k ((es[k]).set j (.b x))) :=
  h.setF hn hk hj (f := .b x) rfl (Nat.le_refl _) (fun b e => by cases e)
/-- The block of a field's list lies among the rows' own. -/
theorem OwnR.range {E Ei : TypeId} {sz : Nat} {w : World} {B hi g n cap : Nat} {es : List (List Fd)} (h : OwnR E Ei sz w B hi (.slice (some ⟨g, 0, none⟩) n cap) es) {k j : Nat} (hk : k < es.length) (hj : j < (es[k]).length) {c : Value} (hc : w.cell? ⟨g, k * sz + j, none⟩ = some c) :
    ∀ b, c.ownBlock = some b → B ≤ b ∧ b < hi := by
  obtain ⟨cs, o1, o2, _, _, o5, _⟩ := h.row
  obtain ⟨c', hc', _⟩ := o2 k j hk hj
  have hcc := World.ownsRow.cells o1 (g := g) rfl _ _ hc'
  rw [addr_add, hc] at hcc
  obtain rfl := Option.some.inj hcc
  exact fun b hb => o5 _ c b hc' hb
/-- A field's value by its kind. -/
theorem OwnR.fieldI {E Ei : TypeId} {sz : Nat} {w : World} {B hi g n cap : Nat} {es : List (List Fd)} (h : OwnR E Ei sz w B hi (.slice (some ⟨g, 0, none⟩) n cap) es) {k j : Nat} (hk : k < es.length) (hj : j < (es[k]).length) {x : Int} (hx : (es[k])[j] = .i x) :
    w.cell? ⟨g, k * sz + j, none⟩ = some (.int .i64 x) ∧ w.frozen? ⟨g, k * sz + j, none⟩ = false := by
  obtain ⟨c, h1, h2, h3, _⟩ := h.cell hk hj
  rw [hx] at h2
  obtain rfl : c = .int .i64 x := h2
  exact ⟨h1, h3⟩
theorem OwnR.fieldB {E Ei : TypeId} {sz : Nat} {w : World} {B hi g n cap : Nat} {es : List (List Fd)} (h : OwnR E Ei sz w B hi (.slice (some ⟨g, 0, none⟩) n cap) es) {k j : Nat} (hk : k < es.length) (hj : j < (es[k]).length) {x : Bool} (hx : (es[k])[j] = .b x) :
    w.cell? ⟨g, k * sz + j, none⟩ = some (.bool x) ∧ w.frozen? ⟨g, k * sz + j, none⟩ = false := by
  obtain ⟨c, h1, h2, h3, _⟩ := h.cell hk hj
  rw [hx] at h2
  obtain rfl : c = .bool x := h2
  exact ⟨h1, h3⟩
theorem OwnR.fieldL {E Ei : TypeId} {sz : Nat} {w : World} {B hi g n cap : Nat} {es : List (List Fd)} (h : OwnR E Ei sz w B hi (.slice (some ⟨g, 0, none⟩) n cap) es) {k j : Nat} (hk : k < es.length) (hj : j < (es[k]).length) {xs : List Int} (hx : (es[k])[j] = .l xs) :
    ∃ a c, w.cell? ⟨g, k * sz + j, none⟩ = some (.slice a xs.length c) ∧ Own Ei w B (.slice a xs.length c) xs ∧ w.frozen? ⟨g, k * sz + j, none⟩ = false ∧ (Value.slice a xs.length c).ownBlock ≠ some g ∧ ∀ b, (Value.slice a xs.length c).ownBlock = some b → B ≤ b ∧ b < hi := by
  obtain ⟨c, h1, h2, h3, h4⟩ := h.cell hk hj
  rw [hx] at h2
  have h2' : Own Ei w B c xs := h2
  obtain ⟨a, cap', rfl, _, _⟩ := h2'.ints
  exact ⟨a, cap', h1, h2', h3, h4, h.range hk hj h1⟩

/-! rows that are read -/
def rowsD (es : List (List Fd)) : Dt := .l (es.map fun e => e.map Fd.dt)
/-- A list of rows in memory: each field's cell and how it reads. -/
theorem rows_at {w : World} {es : List (List Fd)} {a : Option Addr} {n cap : Nat} {fp : List Nat} (h : Rd w (rowsD es) (.slice a n cap) fp) (hne : 0 < es.length) {m : Nat} (hm : ∀ e ∈ es, e.length = m) :
    ∃ g off, a = some ⟨g, off, none⟩ ∧ g < w.heap.size ∧ ∀ k (hk : k < es.length) j (hj : j < (es[k]).length), ∃ c fp', w.cell? ⟨g, off + k * m + j, none⟩ = some c ∧ Rd w (((es[k])[j]).dt) c fp' := by
  obtain ⟨g, off, rfl, hg, _, _, _, hc⟩ := Rd.at h (by simpa using hne) (sz := m) (by intro e he; obtain ⟨e', he', rfl⟩ := List.mem_map.1 he; rw [List.length_map]; exact hm e' he')
  refine ⟨g, off, rfl, hg, fun k hk j hj => ?_⟩
  obtain ⟨v, fp', h1, h2, _⟩ := hc k j (by simpa using hk) (by simpa using hj)
  refine ⟨v, fp', by rw [Nat.add_assoc]; exact h1, by simpa using h2⟩
theorem rd_i {w : World} {c : Value} {fp : List Nat} {f : Fd} {x : Int} (h : Rd w f.dt c fp) (hf : f = .i x) : c = .int .i64 x := by subst hf; exact (Rd.int h).1
theorem rd_b {w : World} {c : Value} {fp : List Nat} {f : Fd} {x : Bool} (h : Rd w f.dt c fp) (hf : f = .b x) : c = .bool x := by subst hf; exact (Rd.bool h).1
theorem rd_l {w : World} {c : Value} {fp : List Nat} {f : Fd} {xs : List Int} (h : Rd w f.dt c fp) (hf : f = .l xs) : ∃ a cap, c = .slice a xs.length cap ∧ IntsAt w a xs := by
  subst hf
  obtain ⟨a, cap, rfl, _, hi⟩ := Rd.ints (show Rd w (intsD xs) c fp from h)
  exact ⟨a, cap, rfl, hi⟩
theorem rd_ls {w : World} {c : Value} {fp : List Nat} {f : Fd} {xs : List Int} (h : Rd w f.dt c fp) (hf : f = .l xs) : ∃ a cap, c = .slice a xs.length cap ∧ IntsAt w a xs ∧ SrcAt w a cap xs := by
  subst hf
  have h' : Rd w (intsD xs) c fp := h
  obtain ⟨a, cap, rfl, _, hi⟩ := Rd.ints h'
  refine ⟨a, cap, rfl, hi, ?_⟩
  rcases hi with rfl | ⟨b, off, rfl, _, hc⟩
  · cases a with
    | none => exact .inl ⟨rfl, rfl, Rd.nilcap h'⟩
    | some ad => exact .inr ⟨ad, rfl, fun j hj => by simp at hj⟩
  · exact .inr ⟨_, rfl, fun j hj => by rw [addr_add']; exact hc j hj⟩
theorem OwnR.reads {E Ei : TypeId} {sz : Nat} {w : World} {B hi : Nat} {v : Value} {es : List (List Fd)} (h : OwnR E Ei sz w B hi v es) : ∃ fp, Rd w (rowsD es) v fp := by
  obtain ⟨fp, hr, _⟩ := h.bld.rd
  exact ⟨fp, hr⟩

/-! one row among rows -/
theorem set_self' {es : List (List Fd)} {j : Nat} {e : List Fd} (h : j < es.length) (he : es[j] = e) : es.set j e = es := by subst he; exact List.set_getElem_self h
section
variable {E Ei : TypeId} {sz : Nat} {w : World} {B hi g n cap : Nat} {es : List (List Fd)} {j : Nat} {row : List Fd}
theorem OwnR.rowI (h : OwnR E Ei sz w B hi (.slice (some ⟨g, 0, none⟩) n cap) (es.set j row)) (hn : n = es.length) (hj : j < es.length) (q : Nat) (hq : q < sz) (z : Int) :
    OwnR E Ei sz (w.setCell ⟨g, j * sz + q, none⟩ (.int .i64 z)) B hi (.slice (some ⟨g, 0, none⟩) n cap) (es.set j (row.set q (.i z))) := by
  have := h.setI (by rw [List.length_set]; exact hn) (k := j) (by rw [List.length_set]; exact hj) hq z
  rwa [List.getElem_set_self, List.set_set] at this
theorem OwnR.rowB (h : OwnR E Ei sz w B hi (.slice (some ⟨g, 0, none⟩) n cap) (es.set j row)) (hn : n = es.length) (hj : j < es.length) (q : Nat) (hq : q < sz) (z : Bool) :
    OwnR E Ei sz (w.setCell ⟨g, j * sz + q, none⟩ (.bool z)) B hi (.slice (some ⟨g, 0, none⟩) n cap) (es.set j (row.set q (.b z))) := by
  have := h.setB (by rw [List.length_set]; exact hn) (k := j) (by rw [List.length_set]; exact hj) hq z
  rwa [List.getElem_set_self, List.set_set] at this
theorem OwnR.rowF (h : OwnR E Ei sz w B hi (.slice (some ⟨g, 0, none⟩) n cap) (es.set j row)) (hn : n = es.length) (hj : j < es.length) (q : Nat) (hq : q < sz) {u : Value} {f : Fd} {hi' : Nat} (hf : FdOk Ei w B u f) (hhi : hi ≤ hi') (hu : ∀ b, u.ownBlock = some b → hi ≤ b ∧ b < hi') :
    OwnR E Ei sz (w.setCell ⟨g, j * sz + q, none⟩ u) B hi' (.slice (some ⟨g, 0, none⟩) n cap) (es.set j (row.set q f)) := by
  have := h.setF (by rw [List.length_set]; exact hn) (k := j) (by rw [List.length_set]; exact hj) hq hf hhi hu
  rwa [List.getElem_set_self, List.set_set] at this
theorem OwnR.rowL {w' : World} (h : OwnR E Ei sz w B hi (.slice (some ⟨g, 0, none⟩) n cap) (es.set j row)) (hj : j < es.length) (q : Nat) (hq : q < sz) {c : Value} (hc : w.cell? ⟨g, j * sz + q, none⟩ = some c) {ys : List Int} (hown : Own Ei w' B c ys) (hg : w.grownBy w' c.ownBlock) :
    OwnR E Ei sz w' B hi (.slice (some ⟨g, 0, none⟩) n cap) (es.set j (row.set q (.l ys))) := by
  have := h.setL (k := j) (by rw [List.length_set]; exact hj) hq hc hown (fun b hb hne => hg.block b hb fun e => hne e.symm)
  rwa [List.getElem_set_self, List.set_set] at this
theorem OwnR.rcI (h : OwnR E Ei sz w B hi (.slice (some ⟨g, 0, none⟩) n cap) (es.set j row)) (hj : j < es.length) (q : Nat) {x : Int} (hx : row[q]? = some (.i x)) :
    w.cell? ⟨g, j * sz + q, none⟩ = some (.int .i64 x) ∧ w.frozen? ⟨g, j * sz + q, none⟩ = false := by
  obtain ⟨hq, hx⟩ := List.getElem?_eq_some_iff.1 hx
  exact h.fieldI (k := j) (j := q) (by rw [List.length_set]; exact hj) (by rw [List.getElem_set_self]; exact hq) (by simp only [List.getElem_set_self]; exact hx)
theorem OwnR.rcB (h : OwnR E Ei sz w B hi (.slice (some ⟨g, 0, none⟩) n cap) (es.set j row)) (hj : j < es.length) (q : Nat) {x : Bool} (hx : row[q]? = some (.b x)) :
    w.cell? ⟨g, j * sz + q, none⟩ = some (.bool x) ∧ w.frozen? ⟨g, j * sz + q, none⟩ = false := by
  obtain ⟨hq, hx⟩ := List.getElem?_eq_some_iff.1 hx
  exact h.fieldB (k := j) (j := q) (by rw [List.length_set]; exact hj) (by rw [List.getElem_set_self]; exact hq) (by simp only [List.getElem_set_self]; exact hx)
theorem OwnR.rcL (h : OwnR E Ei sz w B hi (.slice (some ⟨g, 0, none⟩) n cap) (es.set j row)) (hj : j < es.length) (q : Nat) {xs : List Int} (hx : row[q]? = some (.l xs)) :
    ∃ a c, w.cell? ⟨g, j * sz + q, none⟩ = some (.slice a xs.length c) ∧ Own Ei w B (.slice a xs.length c) xs ∧ w.frozen? ⟨g, j * sz + q, none⟩ = false ∧ (Value.slice a xs.length c).ownBlock ≠ some g ∧ ∀ b, (Value.slice a xs.length c).ownBlock = some b → B ≤ b ∧ b < hi := by
  obtain ⟨hq, hx⟩ := List.getElem?_eq_some_iff.1 hx
  exact h.fieldL (k := j) (j := q) (by rw [List.length_set]; exact hj) (by rw [List.getElem_set_self]; exact hq) (by simp only [List.getElem_set_self]; exact hx)
end
/-- New rows are rows of zeros. -/
theorem made_at' (z : Array Value) {n p : Nat} (h : p < n) : (madeCells z n).toList[p]? = some z[p % z.size]! := by
  unfold madeCells; rw [Array.getElem?_toList, Array.getElem?_map, Array.getElem?_range]; simp [h]
theorem ownR_new {E Ei : TypeId} {m : Nat} (w : World) (es : List (List Fd)) (zv : List Value) (z : List Fd) (hm : es.length ≤ maxLen) (hl : zv.length = m) (hz : z.length = m) (hpos : 0 < m) (hn : ∀ c ∈ zv, c.ownBlock = none) (hok : ∀ W B j (h : j < zv.length) (h' : j < z.length), FdOk Ei W B zv[j] z[j]) :
    OwnR E Ei m (w.alloc (.cells (madeCells zv.toArray (es.length * m)) E)) w.heap.size (w.heap.size + 1) (.slice (some ⟨w.heap.size, 0, none⟩) es.length es.length) (cpTo es z 0) := by
  have hc : ∀ (p : Nat) (c : Value), (madeCells zv.toArray (es.length * m)).toList[p]? = some c → c ∈ zv := by
    intro p c h
    have hp : p < es.length * m := by
      obtain ⟨h1, _⟩ := List.getElem?_eq_some_iff.1 h
      simpa [madeCells] using h1
    rw [made_at' _ hp] at h
    have hq : p % zv.toArray.size < zv.length := by simp; exact Nat.mod_lt _ (by omega)
    have : c = zv[p % zv.toArray.size] := by
      have := Option.some.inj h
      rw [← this]
      have hq' : p % zv.length < zv.length := by simpa using hq
      simp [List.getElem?_eq_getElem hq']
    rw [this]; exact List.getElem_mem hq
  have hno : ∀ (p : Nat) (c : Value), (madeCells zv.toArray (es.length * m)).toList[p]? = some c → c.ownBlock = none := fun p c h => hn c (hc p c h)
  refine ⟨fun e he => ?_, (madeCells zv.toArray (es.length * m)).toList, ⟨by rw [cpTo_len]; simp [madeCells], .inr ⟨w.heap.size, es.length, _, by rw [cpTo_len], Nat.le_refl _, heap_alloc_new w _, by rw [cpTo_len]; exact Nat.le_refl _, hm, by simp [madeCells], by rw [cpTo_len]; exact List.take_of_length_le (by simp [madeCells])⟩⟩, fun k j hk hj => ?_, ?_, ?_, ?_, ?_⟩
  · unfold cpTo at he
    obtain ⟨i, _, rfl⟩ := List.mem_map.1 he
    rw [if_neg (by omega)]; exact hz
  · have hkL : k < es.length := by rw [cpTo_len] at hk; exact hk
    have hg : (cpTo es z 0)[k] = z := by rw [cpTo_get, if_neg (by omega)]
    simp only [hg] at hj ⊢
    have hlt : k * m + j < es.length * m := by
      have := Nat.mul_le_mul_right m (show k + 1 ≤ es.length by omega)
      rw [Nat.add_mul] at this; omega
    refine ⟨zv[j], ?_, hok _ _ j (by omega) hj⟩
    rw [made_at' _ hlt]
    have : (k * m + j) % zv.toArray.size = j := by
      rw [List.size_toArray, hl, Nat.add_comm, Nat.add_mul_mod_self_right, Nat.mod_eq_of_lt (by omega)]
    rw [this]
    simp [show j < zv.length by omega]
  · intro p q c d h1 h2 _ g e
    rw [hno p c h1] at e; cases e
  · intro p c h g e
    rw [hno p c h] at e; cases e
  · intro p c g h e
    rw [hno p c h] at e; cases e
  · intro g e
    cases e; exact Nat.lt_succ_self _

end Go.Proofs.Ytekpapodepachaa

/- Plain facts on parts of the coin: they are shards of a single column; nothing here speaks of the program. -/
namespace Go.Proofs.Ytekpapodepachaa
open Go.RowKit

abbrev Cp := Int × Int
def cpF (p : Cp) : List Fd := [.i p.1, .i p.2]
def cpM (l : List Cp) : List Int := l.map Prod.fst
def cpV (l : List Cp) : List Int := l.map Prod.snd
theorem cpM_len (l : List Cp) : (cpM l).length = l.length := by simp [cpM]
theorem cpV_len (l : List Cp) : (cpV l).length = l.length := by simp [cpV]
theorem cpM_get {l : List Cp} {k : Nat} (h : k < (cpM l).length) : (cpM l)[k] = (l[k]'(by simpa [cpM] using h)).1 := by simp [cpM]
theorem cpV_get {l : List Cp} {k : Nat} (h : k < (cpV l).length) : (cpV l)[k] = (l[k]'(by simpa [cpV] using h)).2 := by simp [cpV]
def partsB (l : List Cp) : Bool := membersB 7 (cpM l) && (cpV l).all symB
def shL (l : List Cp) : List Sh := l.map fun p => (p.1 + 1, [p.2])
theorem shL_len (l : List Cp) : (shL l).length = l.length := by simp [shL]
def cjOk (need : Int) (l : List Cp) : Bool := decide (1 ≤ need ∧ need ≤ 7) && partsB l
def cjB (need : Int) (l : List Cp) : Bool := cjOk need l && joinB need need (shL l)
def cjV (need : Int) (l : List Cp) : Int := if cjB need l = true then (joinD need need (shL l)).getD 0 0 else 0
theorem cj_no {need : Int} {l : List Cp} (h : cjB need l = false) : cjV need l = 0 := by unfold cjV; rw [h]; rfl
theorem cj_yes {need : Int} {l : List Cp} (h : cjB need l = true) : cjV need l = (joinD need need (shL l)).getD 0 0 := by unfold cjV; rw [h]; rfl
theorem cjB_ok {need : Int} {l : List Cp} (h : cjOk need l = true) : cjB need l = joinB need need (shL l) := by unfold cjB; rw [h]; rfl
theorem cjB_no {need : Int} {l : List Cp} (h : cjOk need l = false) : cjB need l = false := by unfold cjB; rw [h]; rfl

/-- Ascending numbers below n are at most n. -/
theorem asc_len : ∀ (ms : List Int) (lo n : Int), ms.Pairwise (· < ·) → (∀ m ∈ ms, lo ≤ m ∧ m < n) → lo ≤ n → (ms.length : Int) ≤ n - lo
  | [], lo, n, _, _, h => by simp; omega
  | m :: ms, lo, n, hp, hb, h => by
    rw [List.pairwise_cons] at hp
    have h1 := hb m List.mem_cons_self
    have := asc_len ms (m + 1) n hp.2 (fun x hx => ⟨by have := hp.1 x hx; omega, (hb x (List.mem_cons_of_mem _ hx)).2⟩) (by omega)
    simp only [List.length_cons]; omega
theorem parts_iff (l : List Cp) : partsB l = true ↔ AscP 7 (cpM l) ∧ ∀ p ∈ l, 0 ≤ p.2 ∧ p.2 ≤ 250 := by
  unfold partsB
  rw [Bool.and_eq_true, List.all_eq_true]
  constructor
  · rintro ⟨h1, h2⟩
    exact ⟨ascP_of h1, fun p hp => symB_bd (h2 p.2 (List.mem_map_of_mem hp))⟩
  · rintro ⟨h1, h2⟩
    refine ⟨of_ascP h1, fun y hy => ?_⟩
    obtain ⟨p, hp, rfl⟩ := List.mem_map.1 hy
    exact symB_yes (h2 p hp)
theorem parts_len {l : List Cp} (h : partsB l = true) : l.length ≤ 7 := by
  have h1 := ((parts_iff l).1 h).1
  have := asc_len (cpM l) 0 7 h1.1 (fun m hm => by have := h1.2 m hm; omega) (by omega)
  rw [cpM_len] at this; omega
theorem parts_sub {l l' : List Cp} (h : partsB l = true) (hs : l'.Sublist l) : partsB l' = true := by
  obtain ⟨h1, h2⟩ := (parts_iff l).1 h
  refine (parts_iff l').2 ⟨⟨h1.1.sublist (hs.map _), fun m hm => ?_⟩, fun p hp => h2 p (hs.subset hp)⟩
  obtain ⟨p, hp, rfl⟩ := List.mem_map.1 hm
  exact h1.2 _ (List.mem_map_of_mem (hs.subset hp))
theorem parts_mem {l : List Cp} (h : partsB l = true) {p : Cp} (hp : p ∈ l) : (0 ≤ p.1 ∧ p.1 ≤ 6) ∧ 0 ≤ p.2 ∧ p.2 ≤ 250 := by
  obtain ⟨h1, h2⟩ := (parts_iff l).1 h
  have := h1.2 p.1 (List.mem_map_of_mem hp)
  exact ⟨by omega, h2 p hp⟩
/-- Valid parts are valid shards of one column. -/
theorem parts_shs {l : List Cp} (h : partsB l = true) : shsB 1 (shL l) = true := by
  have hp := ((parts_iff l).1 h).1.1
  unfold shsB
  refine allB_yes (fun k hk => ?_) (Nat.le_refl _)
  have hk' : k < l.length := by rw [shL_len] at hk; exact hk
  have he : (shL l).getD k (0, []) = (l[k].1 + 1, [l[k].2]) := by rw [getS hk]; simp [shL]
  obtain ⟨hm, hv⟩ := parts_mem h (List.getElem_mem hk')
  unfold shAt
  rw [he, Bool.and_eq_true]
  refine ⟨?_, ?_⟩
  · unfold okS
    simp only [Bool.and_eq_true, decide_eq_true_eq, List.length_singleton, List.all_cons, List.all_nil, Bool.and_true, and_true]
    exact ⟨by omega, symB_yes hv⟩
  · unfold newAt
    refine allB_yes (fun j hj => ?_) (Nat.le_refl _)
    refine decide_eq_true ?_
    unfold xsOf
    rw [he, getS (by omega)]
    have hlt := List.pairwise_iff_getElem.1 hp j k (by rw [cpM_len]; omega) (by rw [cpM_len]; omega) hj
    rw [cpM_get, cpM_get] at hlt
    simp only [shL, List.getElem_map]
    omega
theorem cols_one {n : Nat} (h : 1 ≤ n) : (n + n - 1) / n = 1 := Nat.div_eq_of_lt_le (by omega) (by omega)
theorem parts_ok {need : Int} {l : List Cp} (h : cjOk need l = true) : joinOk need need (shL l) = decide (need ≤ l.length) := by
  unfold cjOk at h
  rw [Bool.and_eq_true, decide_eq_true_eq] at h
  obtain ⟨hn, hp⟩ := h
  have hl := parts_len hp
  obtain ⟨n, rfl⟩ := Int.eq_ofNat_of_zero_le (show 0 ≤ need by omega)
  unfold joinOk lenB
  rw [shL_len, Int.toNat_natCast, cols_one (by omega), parts_shs hp, decide_eq_true (show 1 ≤ (n : Int) ∧ (n : Int) ≤ 12 by omega), decide_eq_true (show 1 ≤ (n : Int) ∧ (n : Int) ≤ 8 by omega), Bool.true_and, Bool.true_and, Bool.and_true, Bool.eq_iff_iff, decide_eq_true_iff, decide_eq_true_iff]
  omega
theorem parts_few {need : Int} {l : List Cp} (h : cjOk need l = true) (hl : ¬ need ≤ l.length) : cjB need l = false := by
  rw [cjB_ok h]
  unfold joinB
  rw [parts_ok h, decide_eq_false hl, Bool.false_and]
theorem join_len {need : Int} {L : List Sh} (h : joinB need need L = true) : 1 ≤ (joinD need need L).length := by
  unfold joinD
  rw [if_pos h, dataI_len]
  unfold joinB at h
  rw [Bool.and_eq_true] at h
  have := joinOk_iff h.1
  omega
/-- What is joined is a number of the field. -/
theorem cj_range {need : Int} {l : List Cp} (h : cjB need l = true) : 0 ≤ cjV need l ∧ cjV need l ≤ 250 := by
  have hb : joinB need need (shL l) = true := by unfold cjB at h; rw [Bool.and_eq_true] at h; exact h.2
  have hl := join_len hb
  rw [cj_yes h, getD_get (by omega)]
  have hm := List.getElem_mem (l := joinD need need (shL l)) (n := 0) (by omega)
  have hD : joinD need need (shL l) = dataI need.toNat need.toNat (shL l) := by unfold joinD; rw [if_pos hb]
  unfold joinB at hb
  rw [Bool.and_eq_true] at hb
  obtain ⟨hj, ha⟩ := hb
  have ho := joinOk_iff hj
  rw [List.all_eq_true] at ha
  have h0 := ha _ (List.getElem_mem (show 0 < (shL l).length by omega))
  unfold matB at h0
  simp only [Bool.and_eq_true] at h0
  exact (dataB_iff h0.1.1).1 _ (hD ▸ hm)
/-- Some of the parts, enough of them, give the same. -/
theorem cj_sub {need : Int} {l l' : List Cp} (h : cjB need l = true) (hs : l'.Sublist l) (hn : need ≤ l'.length) : cjB need l' = true ∧ cjV need l' = cjV need l := by
  have hb : joinB need need (shL l) = true := by unfold cjB at h; rw [Bool.and_eq_true] at h; exact h.2
  have hok : cjOk need l = true := by unfold cjB at h; rw [Bool.and_eq_true] at h; exact h.1
  have hok2 : cjOk need l' = true := by
    unfold cjOk at hok ⊢
    rw [Bool.and_eq_true] at hok ⊢
    exact ⟨hok.1, parts_sub hok.2 hs⟩
  have hj2 : joinOk need need (shL l') = true := by rw [parts_ok hok2]; exact decide_eq_true hn
  have hD : joinD need need (shL l) = dataI need.toNat need.toNat (shL l) := by unfold joinD; rw [if_pos hb]
  have hbb := hb
  unfold joinB at hbb
  rw [Bool.and_eq_true, List.all_eq_true] at hbb
  obtain ⟨hj, ha⟩ := hbb
  have ho := joinOk_iff hj
  have ho2 := joinOk_iff hj2
  obtain ⟨n, rfl⟩ := Int.eq_ofNat_of_zero_le (show 0 ≤ need by omega)
  rw [Int.toNat_natCast] at ha hD ho ho2
  have hmat := ha
  generalize hd : dataI n n (shL l) = d at *
  have hdl : d.length = n := by rw [← hd]; exact dataI_len _ _ _
  have hm0 := ha _ (List.getElem_mem (show 0 < (shL l).length by omega))
  unfold matB at hm0
  simp only [Bool.and_eq_true] at hm0
  have hdB := hm0.1.1
  have hsub : ∀ s ∈ shL l', s ∈ shL l := fun s hs' => by
    obtain ⟨p, hp, rfl⟩ := List.mem_map.1 hs'
    exact List.mem_map_of_mem (hs.subset hp)
  have hcol : colsN d n = (n + n - 1) / n := by unfold colsN; rw [hdl]
  have he : dataI n n (shL l') = d := by
    have := dataI_eq (d := d) (need := n) (L := shL l') hdB (by omega) (by rw [hcol]; exact ho2.2.2.2) (fun s hs' => by
      have := ha s (hsub s hs')
      unfold matB at this
      simp only [Bool.and_eq_true, decide_eq_true_eq, Int.toNat_natCast] at this
      exact this.2.symm)
    rw [hdl] at this; exact this
  have hb2 : joinB (n : Int) (n : Int) (shL l') = true := by
    unfold joinB
    rw [hj2, Int.toNat_natCast, he, Bool.true_and, List.all_eq_true]
    exact fun s hs' => ha s (hsub s hs')
  have hc2 : cjB (n : Int) l' = true := by rw [cjB_ok hok2]; exact hb2
  refine ⟨hc2, ?_⟩
  rw [cj_yes hc2, cj_yes h, hD]
  unfold joinD
  rw [if_pos hb2, Int.toNat_natCast, he]

theorem cjB_len {need : Int} {l : List Cp} (h : cjB need l = true) : 1 ≤ need ∧ need ≤ l.length := by
  have hok : cjOk need l = true := by unfold cjB at h; rw [Bool.and_eq_true] at h; exact h.1
  have h1 : 1 ≤ need ∧ need ≤ 7 := by unfold cjOk at hok; rw [Bool.and_eq_true, decide_eq_true_eq] at hok; exact hok.1
  refine ⟨h1.1, ?_⟩
  by_cases hl : need ≤ l.length
  · exact hl
  · rw [parts_few hok hl] at h; cases h
theorem sub_omit (l : List Cp) (k : Nat) : (l.take k ++ l.drop (k + 1)).Sublist l := by
  have h := (List.Sublist.refl (l.take k)).append (List.drop_sublist 1 (l.drop k))
  rw [List.drop_drop, List.take_append_drop] at h
  exact h

end Go.Proofs.Ytekpapodepachaa

/- What impl's shard of a number is, by a walk of its text; conditions: the data is symbols, at most twelve, and fits its capacity. -/
namespace Go.Proofs.Ytekpapodepachaa
open Go.RowKit Go.Shelf
attribute [local go_sem] Oper.semAt_some

theorem region_round_L {P : Program} {L n : Nat} {id : Nat} {ops : Array Oper} {Q : Exit → Act → World → Prop} {a : Act} {w : World} (m : Nat) (S : World → Prop) (hm : P.follows .mixedOrders = true) (hd : noDefer ops = true) (hS : S w.drew)
    (h : S w.drew → wpAnyL P .any ops (JustNormal Q) m S ops.size (Array.replicate ops.size false) a w.drew) : (Code.region id ops true).wpIn (Fence.wide.inRound L) n P Q a w :=
  Code.wpIn_mono (Q := JustNormal Q) (fun e a w q => by cases e <;> first | exact q | exact (q : False).elim)
    (wpIn_region_any hm (any_round hd (by rintro ⟨a, w, h⟩; exact h) _ _ _ _ (any_of_L _ _ _ _ (h hS))))
theorem shardV_take {d : List Int} {need c : Nat} {x : Int} (h : c < colsN d need) : (shardV d need x).take (c + 1) = (shardV d need x).take c ++ [horZ ((d.drop (c * need)).take need) x] := by
  rw [List.take_succ_eq_append_getElem (by rw [shardV_len]; exact h), shardV_get, hor_val]

set_option maxHeartbeats 2000000 in
theorem impl_shardOf (a : Option Addr) (cap : Nat) (d : List Int) (need : Nat) (x : Int) (w : World) (hd : ∀ y ∈ d, 0 ≤ y ∧ y ≤ 250) (hlen : d.length ≤ 12) (hneed : need ≤ 8) (hneed1 : 1 ≤ need) (hx0 : 0 ≤ x) (hx8 : x ≤ 8) (hcap : d.length ≤ cap) (hc : IntsAt w a d) :
    Calls Try.prog 46 #[.slice a d.length cap, .int .i64 need, .int .i64 x] w fun e w' => ∃ v, e = .returned (.agg #[.int .i64 x, v]) ∧ Own 3 w' w.heap.size v (shardV d need x) ∧ Below w.heap.size w w' := by
  refine (callsIn_wide (n := 3)).1 ?_
  have Hd := Lib.hid hd; clear hd
  have Hc := Lib.hid hc; clear hc
  have hcol := cols_le (d := d) (need := need) hneed1 hlen
  refine callsIn_of_wp_marks Try.func46 rfl trivial ?_ rfl
  simp only [Try.ntmps46, List.size_toArray, List.length_cons, List.length_nil, Nat.reduceAdd, Nat.reduceSub, Array.replicate_succ, Array.replicate_zero, List.push_toArray, List.append_toArray, List.nil_append, List.cons_append]
  gi_wp2_with fail
  refine ⟨trivial, (callsIn_wide.2 (lib_Chunk a d.length cap need _ (by omega))).mono ?_⟩
  rintro e w' ⟨rfl, rfl⟩
  gi_wp2_with fail
  have hoe : Own 3 (((w.alloc (.cells #[.int .i64 x] 3)).alloc (.cells #[.int .i64 0, .slice none 0 0] 49)).alloc (.cells #[] 3)) (w.heap.size + 1 + 1) (.slice (some ⟨w.heap.size + 1 + 1, 0, none⟩) 0 0) [] := by
    have := own_empty 3 ((w.alloc (.cells #[.int .i64 x] 3)).alloc (.cells #[.int .i64 0, .slice none 0 0] 49)) (B := w.heap.size + 1 + 1) (by simp)
    simpa only [World.size_alloc] using this
  obtain ⟨w1, hw1⟩ : ∃ w1, (((((w.alloc (.cells #[.int .i64 x] 3)).alloc (.cells #[.int .i64 0, .slice none 0 0] 49)).alloc (.cells #[] 3)).alloc (.cells #[.slice (some ⟨w.heap.size + 1 + 1, 0, none⟩) 0 0] 23)).alloc (.cells #[.slice a d.length cap] 23)).alloc (.cells #[.int .i64 (need : Int)] 3) = w1 := ⟨_, rfl⟩
  have hz1 : w1.heap.size = w.heap.size + 6 := by rw [← hw1]; simp
  have c0 : Boxed w1 w.heap.size 3 (.int .i64 x) := by rw [← hw1]; exact (((((Boxed.new _ _ _).alloc _).alloc _).alloc _).alloc _).alloc _
  have c1 : Str w1 (w.heap.size + 1) 49 #[.int .i64 0, .slice none 0 0] := by rw [← hw1]; have := ((((Str.new (w.alloc (.cells #[.int .i64 x] 3)) 49 #[.int .i64 0, .slice none 0 0]).alloc (.cells #[] 3)).alloc (.cells #[.slice (some ⟨w.heap.size + 1 + 1, 0, none⟩) 0 0] 23)).alloc (.cells #[.slice a d.length cap] 23)).alloc (.cells #[.int .i64 (need : Int)] 3); simpa only [World.size_alloc] using this
  have c2 : Own 3 w1 (w.heap.size + 1 + 1) (.slice (some ⟨w.heap.size + 1 + 1, 0, none⟩) 0 0) [] := by rw [← hw1]; exact ((hoe.alloc _).alloc _).alloc _
  have c3 : Boxed w1 (w.heap.size + 1 + 1 + 1) 23 (.slice (some ⟨w.heap.size + 1 + 1, 0, none⟩) 0 0) := by rw [← hw1]; have := ((Boxed.new (((w.alloc (.cells #[.int .i64 x] 3)).alloc (.cells #[.int .i64 0, .slice none 0 0] 49)).alloc (.cells #[] 3)) 23 (.slice (some ⟨w.heap.size + 1 + 1, 0, none⟩) 0 0)).alloc (.cells #[.slice a d.length cap] 23)).alloc (.cells #[.int .i64 (need : Int)] 3); simpa only [World.size_alloc] using this
  have c4 : Boxed w1 (w.heap.size + 1 + 1 + 1 + 1) 23 (.slice a d.length cap) := by rw [← hw1]; have := (Boxed.new ((((w.alloc (.cells #[.int .i64 x] 3)).alloc (.cells #[.int .i64 0, .slice none 0 0] 49)).alloc (.cells #[] 3)).alloc (.cells #[.slice (some ⟨w.heap.size + 1 + 1, 0, none⟩) 0 0] 23)) 23 (.slice a d.length cap)).alloc (.cells #[.int .i64 (need : Int)] 3); simpa only [World.size_alloc] using this
  have c5 : Boxed w1 (w.heap.size + 1 + 1 + 1 + 1 + 1) 3 (.int .i64 (need : Int)) := by rw [← hw1]; have := Boxed.new (((((w.alloc (.cells #[.int .i64 x] 3)).alloc (.cells #[.int .i64 0, .slice none 0 0] 49)).alloc (.cells #[] 3)).alloc (.cells #[.slice (some ⟨w.heap.size + 1 + 1, 0, none⟩) 0 0] 23)).alloc (.cells #[.slice a d.length cap] 23)) 3 (.int .i64 (need : Int)); simpa only [World.size_alloc] using this
  have hb1 : Below w.heap.size w w1 := by rw [← hw1]; exact ((((((Below.refl _ w).alloc (Nat.le_refl _) _).alloc (by simp) _).alloc (by simp; omega) _).alloc (by simp; omega) _).alloc (by simp; omega) _).alloc (by simp; omega) _
  rw [hw1]
  clear hw1 hoe
  refine wpIn_over (gf := 49) (lb := #[.pointer (some ⟨w.heap.size + 1 + 1 + 1 + 1, 0, none⟩), .pointer (some ⟨w.heap.size + 1 + 1 + 1 + 1 + 1, 0, none⟩)]) rfl (enters_of Try.func49 (by kernel_rfl) rfl) ?_
  intro rec _ hround
  have Hround := Lib.hid hround; clear hround
  obtain ⟨w2, hw2⟩ : ∃ w2, (w1.alloc (.deferred (some []))).alloc (rec .ready none) = w2 := ⟨_, rfl⟩
  have hD2 : w2.heap[w1.heap.size]? = some (.deferred (some [])) := by
    rw [← hw2]; exact (Below.heap_alloc _ _ _ (by simp)).trans (World.alloc_heap_new w1 _)
  have hL2 : w2.heap[w1.heap.size + 1]? = some (rec .ready none) := by
    rw [← hw2]; have := World.alloc_heap_new (w1.alloc (.deferred (some []))) (rec .ready none); rwa [World.size_alloc] at this
  have hb2 : Below w1.heap.size w1 w2 := by rw [← hw2]; exact ((Below.refl _ w1).alloc (Nat.le_refl _) _).alloc (by simp) _
  have hz2 : w1.heap.size + 2 ≤ w2.heap.size := by rw [← hw2]; simp
  rw [hw2]
  clear hw2
  refine (lib_Chunk1 (w1.heap.size + 1) (w.heap.size + 1 + 1 + 1 + 1) (w.heap.size + 1 + 1 + 1 + 1 + 1) a cap d need hneed1 hneed hlen hcap
    (fun c W => (∃ v, Boxed W (w.heap.size + 1 + 1 + 1) 23 v ∧ Own 3 W (w.heap.size + 1 + 1) v ((shardV d need x).take c) ∧ (∀ g, v.ownBlock = some g → g = w.heap.size + 1 + 1 ∨ w1.heap.size + 2 ≤ g)) ∧ w1.heap.size + 2 ≤ W.heap.size ∧ Boxed W w.heap.size 3 (.int .i64 x) ∧ Str W (w.heap.size + 1) 49 #[.int .i64 0, .slice none 0 0] ∧ Boxed W (w.heap.size + 1 + 1 + 1 + 1) 23 (.slice a d.length cap) ∧ Boxed W (w.heap.size + 1 + 1 + 1 + 1 + 1) 3 (.int .i64 (need : Int)) ∧ W.heap[w1.heap.size]? = some (.deferred (some [])) ∧ W.heap[w1.heap.size + 1]? = some (rec .ready none) ∧ Below w.heap.size w W) ?D ?C ?Y w2
    ⟨⟨_, (hb2.block _ (by omega)).trans c3, c2.below hb2, fun g e => .inl (by cases e; rfl)⟩, hz2, (hb2.block _ (by omega)).trans c0, (hb2.block _ (by omega)).trans c1, (hb2.block _ (by omega)).trans c4, (hb2.block _ (by omega)).trans c5, hD2, hL2, below_step hb1 hb1.size hb2⟩).mono ?_
  case D =>
    rintro c W q ⟨⟨v, h1, h2, h3⟩, h4, h5, h6, h7, h8, h9, h10, h11⟩
    exact ⟨⟨v, h1, h2, h3⟩, h4, h5, h6, h7, h8, h9, h10, below_drewN h11 q⟩
  case C =>
    rintro c W ⟨_, _, _, _, b4, b5, _, _, hB⟩
    exact ⟨b4.cell, b5.cell, Hc.out.below hB⟩
  case Y =>
    rintro c W ac hcd ⟨⟨v, b3, hown, hvb⟩, hsz, b0, b1, b4, b5, hD, hL, hB⟩ hiac hab
    have hLlt := (Array.getElem?_eq_some_iff.1 hL).1
    have hlc := (cols_lt (d := d) (c := c) hneed1).2 hcd
    have hpl : ((d.drop (c * need)).take need).length ≤ 12 := by simp; omega
    have hpd : ∀ y ∈ (d.drop (c * need)).take need, 0 ≤ y ∧ y ≤ 250 := fun y hy => Hd.out y (List.mem_of_mem_drop (List.mem_of_mem_take hy))
    have hacb : ∀ p, ac = some p → p.block < w.heap.size := fun p hp => by
      obtain ⟨q, hq, hpq⟩ := hab p hp
      obtain ⟨b', hb', h⟩ := Hc.out.block (show 0 < d.length by omega)
      rw [hq] at hb'; cases hb'; omega
    have Hz := Lib.hid (shardV_take (x := x) hlc)
    have hzl := Lib.hid (show ((shardV d need x).take c).length ≤ 1099511627776 by rw [List.length_take, shardV_len]; omega)
    have Hpd := Lib.hid hpd
    clear hpd hab hlc hcd
    generalize (d.drop (c * need)).take need = col at *
    refine Hround.out #[.slice ac col.length col.length] W _ rfl hL ?_
    gi_wp2
    refine ⟨hL, ?_⟩
    have hg1 := grownBy_putObj' W (w1.heap.size + 1) (rec .busy none)
    have hL3 : (W.putObj (w1.heap.size + 1) (rec .busy none)).heap[w1.heap.size + 1]? = some (rec .busy none) := World.putObj_heap_same hLlt
    have hD3 : (W.putObj (w1.heap.size + 1) (rec .busy none)).heap[w1.heap.size]? = some (.deferred (some [])) := (World.putObj_heap_other (by omega)).trans hD
    have b0 := b0.kept hg1 (by simp; omega)
    have b1 := b1.kept hg1 (by simp; omega)
    have b3 := b3.kept hg1 (by simp; omega)
    have b4 := b4.kept hg1 (by simp; omega)
    have b5 := b5.kept hg1 (by simp; omega)
    have hown := hown.kept hg1 (.inr (fun e => by rcases hvb _ e with h | h <;> omega))
    have hi3 := hiac.other hg1 (fun b' e => by have := hacb _ e; omega)
    have hB3 : Below w.heap.size w (W.putObj (w1.heap.size + 1) (rec .busy none)) := hB.grown hg1 hB.size (fun k e => by cases e; omega)
    have hsz3 : w1.heap.size + 2 ≤ (W.putObj (w1.heap.size + 1) (rec .busy none)).heap.size := by rw [World.putObj_size]; exact hsz
    clear hL hD hB hg1 hLlt hiac
    generalize W.putObj (w1.heap.size + 1) (rec .busy none) = W3 at *
    have Hcall := Lib.hid (fun W4 (h : IntsAt W4 ac col) => impl_valueAt ac col.length col x W4 (by omega) Hpd.out hx0 hx8 h)
    generalize horZ col x = z at *
    generalize (shardV d need x).take c = zs at hown Hz hzl
    have h3 := b3.cell
    have h0 := b0.cell
    gi_wp2_with fail
    refine region_round_L 6 (fun w' => w'.cell? ⟨w.heap.size + 1 + 1 + 1, 0, none⟩ = some v ∧ w'.cell? ⟨w.heap.size, 0, none⟩ = some (.int .i64 x)) (by kernel_rfl) (by kernel_rfl) ⟨h3, h0⟩ (fun hH => ?_)
    refine takeL 0 (v := ?v0) rfl (by kernel_rfl) (by kernel_rfl) (by kernel_rfl) (by kernel_rfl) (by kernel_rfl) (fun _ _ _ h => h) hH rfl ?y0 ?r0
    case y0 => intro w hSw; go_simp; try with_reducible rfl
    try simp only [Act.put, List.setIfInBounds_toArray, List.set_cons_zero, List.set_cons_succ]
    refine takeL 1 (v := ?v1) rfl (by kernel_rfl) (by kernel_rfl) (by kernel_rfl) (by kernel_rfl) (by kernel_rfl) (fun _ _ _ h => h) hH rfl ?y1 ?r1
    case y1 => intro w hSw; go_simp; try with_reducible rfl
    try simp only [Act.put, List.setIfInBounds_toArray, List.set_cons_zero, List.set_cons_succ]
    refine takeL 2 (v := ?v2) rfl (by kernel_rfl) (by kernel_rfl) (by kernel_rfl) (by kernel_rfl) (by kernel_rfl) (fun _ _ _ h => h) hH rfl ?y2 ?r2
    case y2 => intro w hSw; go_simp; try with_reducible rfl
    try simp only [Act.put, List.setIfInBounds_toArray, List.set_cons_zero, List.set_cons_succ]
    refine callL 3 rfl (by kernel_rfl) rfl (fun K hK => ?_)
    go_simp
    refine (Hcall.out W3.drew hi3).mono ?_
    rintro e W6 ⟨rfl, hb6⟩
    have hdr : W3.drew.heap.size = W3.heap.size := rfl
    have hs6 := hb6.size
    have hs3 : W3.heap.size ≤ W6.heap.size := hs6
    refine hK.out _ _ ⟨(hb6.cell (p := ⟨w.heap.size + 1 + 1 + 1, 0, none⟩) (by simp; omega)).trans h3, (hb6.cell (p := ⟨w.heap.size, 0, none⟩) (by simp; omega)).trans h0⟩ (fun hH => ?_)
    clear hK K
    try simp only [Act.put, List.setIfInBounds_toArray, List.set_cons_zero, List.set_cons_succ]
    refine callL 4 rfl (by kernel_rfl) rfl (fun K hK => ?_)
    go_simp
    refine hK.out _ _ ⟨(World.grownBy_alloc W6 _ none).cell hH.1 (by simp), (World.grownBy_alloc W6 _ none).cell hH.2 (by simp)⟩ (fun hH => ?_)
    clear hK K
    try simp only [Act.put, List.setIfInBounds_toArray, List.set_cons_zero, List.set_cons_succ]
    have hown6 := Own.below (w := W3.drew) hown hb6
    have hB6 := below_step hB3.drew hB3.size hb6
    have hb36 := hb6
    have b0 := (hb36.block _ b0.lt).trans b0
    have b1 := (hb36.block _ b1.lt).trans b1
    have b3 := (hb36.block _ b3.lt).trans b3
    have b4 := (hb36.block _ b4.lt).trans b4
    have b5 := (hb36.block _ b5.lt).trans b5
    have hL6 := (hb36.block _ (by omega)).trans hL3
    have hD6 := (hb36.block _ (by omega)).trans hD3
    refine callL 5 rfl (by kernel_rfl) rfl (fun K hK => ?_)
    refine op_push_at TI3 W6 (.tmp 14) (.tmp 18) rfl (w.heap.size + 1 + 1) v zs z rfl hown6 hzl.out rfl (by omega) ?_
    intro v8 W8 hown8 hg8 hat8
    have hn : ∀ B, B ≠ w.heap.size + 1 + 1 → B < w1.heap.size + 2 → some B ≠ v.ownBlock := fun B hB1 hB2 e => by rcases hvb _ e.symm with h | h <;> omega
    have b0 : Boxed W8 w.heap.size 3 (.int .i64 x) := (hg8.block _ (by omega) (hn _ (by omega) (by omega))).trans b0
    have b1 : Str W8 (w.heap.size + 1) 49 #[.int .i64 0, .slice none 0 0] := (hg8.block _ (by omega) (hn _ (by omega) (by omega))).trans b1
    have b3 : Boxed W8 (w.heap.size + 1 + 1 + 1) 23 v := (hg8.block _ (by omega) (hn _ (by omega) (by omega))).trans b3
    have b4 : Boxed W8 (w.heap.size + 1 + 1 + 1 + 1) 23 (.slice a d.length cap) := (hg8.block _ (by omega) (hn _ (by omega) (by omega))).trans b4
    have b5 : Boxed W8 (w.heap.size + 1 + 1 + 1 + 1 + 1) 3 (.int .i64 (need : Int)) := (hg8.block _ (by omega) (hn _ (by omega) (by omega))).trans b5
    have hL8 := (hg8.block _ (by omega) (hn _ (by omega) (by omega))).trans hL6
    have hD8 := (hg8.block _ (by omega) (hn _ (by omega) (by omega))).trans hD6
    have hB8 := hB6.grown hg8 (by omega) (fun g e => by rcases hvb g e with h | h <;> omega)
    have hs8 : w1.heap.size + 2 ≤ W8.heap.size := by have := hg8.size; omega
    have hvb8 : ∀ g, v8.ownBlock = some g → g = w.heap.size + 1 + 1 ∨ w1.heap.size + 2 ≤ g := fun g e => by
      rcases hat8 with h | ⟨g', h, h'⟩
      · exact hvb g (by rw [← h]; exact e)
      · rw [h] at e; cases e; exact .inr (by omega)
    have h3' := b3.cell
    have h0' := b0.cell
    have f3' := b3.frozen
    refine hK.out _ _ ⟨h3', h0'⟩ (fun hH => ?_)
    clear hK K
    try simp only [Act.put, List.setIfInBounds_toArray, List.set_cons_zero, List.set_cons_succ]
    obtain ⟨g8, c8, rfl⟩ := own_succ hown8
    refine lastL rfl (by kernel_rfl) (by kernel_rfl) (by kernel_rfl) rfl (fun K hK => ?_)
    go_simp
    refine hK.out _ _ ?_
    clear hK K
    try simp only [Act.put, List.setIfInBounds_toArray, List.set_cons_zero, List.set_cons_succ]
    refine JustNormal.intro ?_
    have hL9 : (W8.setCell ⟨w.heap.size + 1 + 1 + 1, 0, none⟩ (.slice (some ⟨g8, 0, none⟩) (zs.length + 1) c8)).heap[w1.heap.size + 1]? = some (rec .busy none) := (Below.heap_setCell _ _ _ _ (by simp; omega)).trans hL8
    have hL9lt := (Array.getElem?_eq_some_iff.1 hL9).1
    have hg9 := grownBy_putObj' (W8.setCell ⟨w.heap.size + 1 + 1 + 1, 0, none⟩ (.slice (some ⟨g8, 0, none⟩) (zs.length + 1) c8)) (w1.heap.size + 1) (rec .ready none)
    have hB9 := hB8.setCell (p := ⟨w.heap.size + 1 + 1 + 1, 0, none⟩) (by simp; omega) (.slice (some ⟨g8, 0, none⟩) (zs.length + 1) c8)
    refine ⟨hL9, .inl ⟨rfl, rfl, ⟨_, (b3.set _).kept hg9 (by simp; omega), ?_, hvb8⟩, ?_, ?_, ?_, ?_, ?_, ?_, World.putObj_heap_same hL9lt, ?_⟩⟩
    · rw [Hz.out]
      exact (hown8.set_other (fun e => by rcases hvb8 _ e with h | h <;> omega) 0 (.slice (some ⟨g8, 0, none⟩) (zs.length + 1) c8)).kept hg9 (.inr (fun e => by rcases hvb8 _ e with h | h <;> omega))
    · rw [World.putObj_size]; exact Nat.le_trans hs8 (grownBy_set W8 _ 0 (.slice (some ⟨g8, 0, none⟩) (zs.length + 1) c8)).size
    · exact (b0.other (B' := w.heap.size + 1 + 1 + 1) (by omega) _).kept hg9 (by simp; omega)
    · exact (b1.other (B' := w.heap.size + 1 + 1 + 1) (by omega) 0 _).kept hg9 (by simp; omega)
    · exact (b4.other (B' := w.heap.size + 1 + 1 + 1) (by omega) _).kept hg9 (by simp; omega)
    · exact (b5.other (B' := w.heap.size + 1 + 1 + 1) (by omega) _).kept hg9 (by simp; omega)
    · exact (World.putObj_heap_other (by omega)).trans ((Below.heap_setCell _ _ _ _ (by simp; omega)).trans hD8)
    · exact hB9.grown hg9 hB9.size (fun k e => by cases e; omega)
  · rintro e W ⟨hv, ⟨v, b3, hown, hvb⟩, hsz, b0, b1, b4, b5, hD, hL, hB⟩
    refine ⟨hv, .inl ⟨hL, ?_⟩⟩
    have hg1 := grownBy_putObj' W (w1.heap.size + 1) (rec .exhausted none)
    have hD1 : (W.putObj (w1.heap.size + 1) (rec .exhausted none)).heap[w1.heap.size]? = some (.deferred (some [])) := (World.putObj_heap_other (by omega)).trans hD
    have b0 := b0.kept hg1 (by simp; omega)
    have b1 := b1.kept hg1 (by simp; omega)
    have b3 := b3.kept hg1 (by simp; omega)
    have hown := hown.kept hg1 (.inr (fun e => by rcases hvb _ e with h | h <;> omega))
    have hB1 : Below w.heap.size w (W.putObj (w1.heap.size + 1) (rec .exhausted none)) := hB.grown hg1 hB.size (fun k e => by cases e; omega)
    clear b4 b5 hL hD hB hg1
    generalize W.putObj (w1.heap.size + 1) (rec .exhausted none) = W3 at *
    rw [List.take_of_length_le (by rw [shardV_len]; omega)] at hown
    obtain ⟨av, cv, rfl, _, _⟩ := hown.ints
    have h3 := b3.cell
    have h0 := b0.cell
    have k0 := b1.cell 0 (v := .int .i64 0) rfl
    have k1 := b1.cell 1 (v := .slice none 0 0) rfl
    have f0 := b1.frozen 0
    have f1 := b1.frozen 1
    have Hown := Lib.hid hown; clear hown
    gi_wp2
    have sF := (b1.set 0 (.int .i64 x)).set 1 (.slice av (shardV d need x).length cv)
    have hF := (hB1.setCell (p := ⟨w.heap.size + 1, 0, none⟩) (by simp) (.int .i64 x)).setCell (p := ⟨w.heap.size + 1, 1, none⟩) (by simp) (.slice av (shardV d need x).length cv)
    have hDF : ((W3.setCell ⟨w.heap.size + 1, 0, none⟩ (.int .i64 x)).setCell ⟨w.heap.size + 1, 1, none⟩ (.slice av (shardV d need x).length cv)).heap[w1.heap.size]? = some (.deferred (some [])) := (Below.heap_setCell _ _ _ _ (by simp; omega)).trans ((Below.heap_setCell _ _ _ _ (by simp; omega)).trans hD1)
    have hne : (Value.slice av (shardV d need x).length cv).ownBlock ≠ some (w.heap.size + 1) := fun e => by rcases hvb _ e with h | h <;> omega
    have oF := (Hown.out.set_other hne 0 (.int .i64 x)).set_other hne 1 (.slice av (shardV d need x).length cv)
    generalize ((W3.setCell ⟨w.heap.size + 1, 0, none⟩ (.int .i64 x)).setCell ⟨w.heap.size + 1, 1, none⟩ (.slice av (shardV d need x).length cv)) = W4 at *
    have hg4 := grownBy_putObj' W4 w1.heap.size (.deferred none)
    have sG := sF.kept hg4 (by simp; omega)
    have e0 := sG.cell 0 (v := .int .i64 x) rfl
    have e1 := sG.cell 1 (v := .slice av (shardV d need x).length cv) rfl
    refine ⟨by simp, .inl ⟨_, _, rfl, run_takeDeferred hDF, ?_⟩⟩
    refine ⟨.agg #[.int .i64 x, .slice av (shardV d need x).length cv], by simp [results, Try.f46, go_sem, e0, e1], ⟨_, rfl, (oF.kept hg4 (.inr (fun e => by rcases hvb _ e with h | h <;> omega))).mono (by omega), hF.grown hg4 hF.size (fun k e => by cases e; omega)⟩⟩

end Go.Proofs.Ytekpapodepachaa

/- What impl's list of shards is, and whether a shard belongs to data, each by a walk of its text; conditions: a list that is read has fewer than 2^40 elements and fits its capacity. -/
namespace Go.Proofs.Ytekpapodepachaa
open Go.RowKit Go.Shelf

end Go.Proofs.Ytekpapodepachaa

/- Arrays of numbers as values and in memory; general steps, and what impl's inverse and its equations' two operations answer, each by a walk of its text; the numbers are symbols. -/
namespace Go.Proofs.Ytekpapodepachaa
open Go.RowKit

def arrC (n : Nat) (f : Nat → Value) : Array Value := ((List.range n).map f).toArray
theorem arrC_size (n : Nat) (f : Nat → Value) : (arrC n f).size = n := by simp [arrC]
theorem arrC_get {n : Nat} {f : Nat → Value} {j : Nat} (h : j < n) : (arrC n f)[j]? = some (f j) := by simp [arrC, h]
theorem arrC_set {n : Nat} {f : Nat → Value} {k : Nat} {v : Value} : (arrC n f).setIfInBounds k v = arrC n fun i => if i = k then v else f i := by
  apply Array.ext
  · simp [arrC]
  · intro j h1 h2
    have hj : j < n := by simpa [arrC] using h2
    rw [Array.getElem_setIfInBounds (by simpa [arrC] using hj)]
    by_cases e : k = j
    · subst e; simp [arrC]
    · have e' : ¬ j = k := fun h => e h.symm
      simp [arrC, e, e']
def eqC (e : Nat → Int) : Array Value := arrC 20 fun i => .int .i64 (e i)
theorem eqC_size (e : Nat → Int) : (eqC e).size = 20 := arrC_size _ _
theorem eqC_get {e : Nat → Int} {j : Nat} (h : j < 20) : (eqC e)[j]? = some (.int .i64 (e j)) := arrC_get h
theorem eqC_set {e : Nat → Int} {k : Nat} {z : Int} : (eqC e).setIfInBounds k (.int .i64 z) = eqC fun i => if i = k then z else e i := by
  unfold eqC; rw [arrC_set]; congr 1; funext i
  by_cases h : i = k <;> simp [h]
theorem eqC_congr {e f : Nat → Int} (h : ∀ i, i < 20 → e i = f i) : eqC e = eqC f := by
  unfold eqC arrC
  congr 1
  exact List.map_congr_left fun i hi => by rw [h i (List.mem_range.1 hi)]
theorem eqC_one (e : Nat → Int) : (eqC e).all (·.oneCell') = true := by
  rw [Array.all_eq_true_iff_forall_mem]
  intro v hv
  simp only [eqC, arrC, List.mem_toArray, List.mem_map] at hv
  obtain ⟨i, _, rfl⟩ := hv
  rfl

/-! reading an array -/
theorem run_index_arr {P : Program} {T E : TypeId} {n k : Nat} {d : TypeDesc} {cs : Array Value} {v : Value} (hu : P.underlying T = some (.array n E)) (hE : P.underlying E = some d) (hd : (match d with | .struct _ | .array _ _ => true | _ => false) = false)
    (hs : (P.info? E).map (·.size) = some 1) (hk : k < n) (hc : cs[k]? = some v) (w : World) : (Instr.index T (.agg cs) (.int .i64 k)).run P w = .ok v w := by
  have h1 := run_underlying hu w
  have h2 : (isAgg E).run P w = .ok false w := by
    unfold isAgg; rw [Sem.run_bind, run_underlying hE w]; cases d <;> simp_all
  cases hq : P.info? E with
  | none => simp [hq] at hs
  | some i =>
    have hz : i.size = 1 := by simpa [hq] using hs
    simp [Instr.index, asIntOf, Sem.run_bind, h1, part, h2, sizeOf, typeInfo, hq, hz, hk, hc]
theorem run_indexAt_arr {P : Program} {T E : TypeId} {n s k B o : Nat} (hu : P.underlying T = some (.array n E)) (hs : (P.info? E).map (·.size) = some s) (hk : k < n) (w : World) :
    (Instr.indexAt T (.pointer (some ⟨B, o, none⟩)) (.int .i64 k)).run P w = .ok (.pointer (some ⟨B, o + k * s, none⟩)) w := by
  have h1 := run_underlying hu w
  cases hq : P.info? E with
  | none => simp [hq] at hs
  | some i =>
    have hz : i.size = s := by simpa [hq] using hs
    simp [Instr.indexAt, asIntOf, Instr.sureAddr, Sem.run_bind, h1, sizeOf, typeInfo, hq, hz, hk, addr_add']
theorem zero20 : eqC (fun _ => 0) = #[.int .i64 0, .int .i64 0, .int .i64 0, .int .i64 0, .int .i64 0, .int .i64 0, .int .i64 0, .int .i64 0, .int .i64 0, .int .i64 0, .int .i64 0, .int .i64 0, .int .i64 0, .int .i64 0, .int .i64 0, .int .i64 0, .int .i64 0, .int .i64 0, .int .i64 0, .int .i64 0] := rfl
theorem setRow_str {W : World} {B : Nat} {t : TypeId} {vs : Array Value} (h : Str W B t vs) (cs : Array Value) : Str (W.setRow B cs) B t cs := setRow_heap W B vs cs t (0, 0) h
theorem grownBy_setRow (W : World) (B : Nat) (cs : Array Value) : W.grownBy (W.setRow B cs) (some B) := ⟨rfl, rfl, rfl, by simp [World.setRow], fun k _ hk => setRow_other W B k cs (fun e => hk (by rw [e]))⟩

theorem impl_inverse (n : Int) (w : World) (h0 : 0 ≤ n) (h1 : n ≤ 250) : Calls Try.prog 42 #[.int .i64 n] w fun e w' => e = .returned (.int .i64 (invZ n)) ∧ w = w' := by
  obtain ⟨m, hm⟩ : ∃ m : Nat, m = 249 := ⟨_, rfl⟩
  have Hm := Lib.hid hm; clear hm
  go_enter Try.func42, Try.ntmps42
  go_wp2
  go_loop [3, 4] (fun p i => ∃ k : Nat, k ≤ m ∧ i = .int .i64 k ∧ p = .int .i64 (powF n k)) (fun _ i => m - (intOf i).toNat)
  case atStart => exact ⟨0, Nat.zero_le _, rfl, rfl⟩
  case round =>
    obtain ⟨k, hk, rfl, rfl⟩ := hrel
    have hbd := powF_bd n k
    have hm := mul_bd hbd.1 hbd.2 h0 h1
    have hs := Lib.hid (show powF n (k + 1) = powF n k * n % 251 from rfl)
    by_cases hlt : k < m
    · have hlt' : (k : Int) < 249 := by have := Hm.out; omega
      generalize powF n k = p at *
      obtain ⟨q, hq⟩ : ∃ q, p * n = q := ⟨_, rfl⟩
      rw [hq] at hm
      have hs' := Lib.hid (hs.out.trans (by rw [hq]))
      clear hs
      go_wp2
      go_round
      case rel => exact ⟨k + 1, by omega, by go_num, int_eq (by rw [hs'.out])⟩
      case measure => simp [intOf]; omega
    · have hk2 : ¬ (k : Int) < 249 := by have := Hm.out; omega
      have hf := Lib.hid (show powF n k = invZ n by unfold invZ; congr 1; have := Hm.out; omega)
      go_wp2
      go_ret
      exact ⟨ret_int hf.out, rfl⟩

theorem impl_times (e : Nat → Int) (c : Int) (w : World) (he : ∀ i, 0 ≤ e i ∧ e i ≤ 250) (h0 : 0 ≤ c) (h1 : c ≤ 250) :
    Calls Try.prog 41 #[.agg (eqC e), .int .i64 c] w fun r w' => r = .returned (.agg (eqC (tmsE e c))) ∧ Below w.heap.size w w' := by
  have He := Lib.hid he; clear he
  go_enter Try.func41, Try.ntmps41
  go_wp2_with (refine wpList_load_row rfl 58 _ rfl w.heap.size rfl 58 (eqC e) (0, 0) _ ((Str.new w 58 (eqC e)).alloc _) Try.underlying58 rfl (by rw [eqC_size]; kernel_rfl) ?_)
  rw [← zero20]
  go_loopw [8] (fun i wr => ∃ k : Nat, k ≤ 20 ∧ i = .int .i64 k ∧ Str wr w.heap.size 58 (eqC fun j => if j < k then tmsE e c j else e j) ∧ Str wr (w.heap.size + 1) 58 (eqC fun _ => 0) ∧ Below w.heap.size w wr) (fun i _ => 20 - (intOf i).toNat)
  case atStart =>
    have h2 := Str.new (w.alloc (.cells (eqC e) 58)) 58 (eqC fun _ => 0)
    simp only [World.size_alloc] at h2
    exact ⟨0, by omega, rfl, by simpa using (Str.new w 58 (eqC e)).alloc _, h2, ((Below.refl _ w).alloc (Nat.le_refl _) _).alloc (by simp) _⟩
  case round =>
    obtain ⟨k, hk, rfl, s0, s1, hbel⟩ := hrel
    by_cases hlt : k < 20
    · have hlt' : (k : Int) < 20 := by omega
      have hx := fun w => run_index_arr (P := Try.prog) (cs := eqC e) Try.underlying58 Try.underlying3 rfl (by kernel_rfl) hlt (eqC_get hlt) w
      have hxa := fun w => run_indexAt_arr (P := Try.prog) (B := w.heap.size) (o := 0) Try.underlying58 (s := 1) (by kernel_rfl) hlt w
      simp only [Nat.zero_add, Nat.mul_one] at hxa
      have hcell := s0.cell k (v := .int .i64 (e k)) (by rw [eqC_get hlt]; simp)
      have hfr := s0.frozen k
      have hy := He.out k
      have ht := Lib.hid (show e k * c % 251 = tmsE e c k from rfl)
      generalize e k = y at *
      have hm := mul_bd hy.1 hy.2 h0 h1
      obtain ⟨q, hq⟩ : ∃ q, y * c = q := ⟨_, rfl⟩
      rw [hq] at hm
      have ht' := Lib.hid (show q % 251 = tmsE e c k by rw [← ht.out, hq])
      clear ht
      have Hs0 := Lib.hid s0; clear s0
      have Hs1 := Lib.hid s1; clear s1
      go_wp2
      go_roundw
      case rel =>
        refine ⟨k + 1, by omega, by go_num, ?_, Hs1.out.other (by omega) k _, hbel.setCell (p := ⟨w.heap.size, k, none⟩) (Nat.le_refl _) _⟩
        have := Hs0.out.set k (.int .i64 (q % 251))
        rw [eqC_set] at this
        rw [ht'.out] at this
        rw [show (eqC fun j => if j < k + 1 then tmsE e c j else e j) = eqC fun i => if i = k then tmsE e c k else if i < k then tmsE e c i else e i from eqC_congr fun i _ => by
          by_cases h1 : i = k
          · subst h1; simp
          · by_cases h2 : i < k
            · simp [h1, h2, show i < k + 1 by omega]
            · simp [h1, h2, show ¬ i < k + 1 by omega]]
        rw [ht'.out]
        exact this
      case measure => simp [intOf]; omega
    · have hk20 : k = 20 := by omega
      subst hk20
      rw [show (eqC fun j => if j < 20 then tmsE e c j else e j) = eqC (tmsE e c) from eqC_congr fun i hi => by simp [hi]] at s0
      go_wp2_with (first
        | refine wpList_load_row rfl 58 _ rfl w.heap.size rfl 58 (eqC (tmsE e c)) (0, 0) _ s0 Try.underlying58 rfl (by rw [eqC_size]; kernel_rfl) ?_
        | refine wpList_store_row rfl 58 _ _ rfl (w.heap.size + 1) (eqC (tmsE e c)) rfl rfl 58 (eqC fun _ => 0) s1 (by rw [eqC_size]; kernel_rfl) (by rw [eqC_size, eqC_size]) (eqC_one _) ?_)
      have sF := setRow_str s1 (eqC (tmsE e c))
      refine bodyPost_ret (results_cell_row rfl _ _ (w.heap.size + 1) 58 (eqC (tmsE e c)) (0, 0) _ rfl sF Try.underlying58 rfl (by rw [eqC_size]; kernel_rfl)) rfl ⟨rfl, ?_⟩
      exact hbel.grown (grownBy_setRow wr _ _) hbel.size (fun g e => by cases e; omega)

theorem impl_without (e f : Nat → Int) (w : World) (he : ∀ i, 0 ≤ e i ∧ e i ≤ 250) (hf : ∀ i, 0 ≤ f i ∧ f i ≤ 250) :
    Calls Try.prog 43 #[.agg (eqC e), .agg (eqC f)] w fun r w' => r = .returned (.agg (eqC (wthE e f))) ∧ Below w.heap.size w w' := by
  have He := Lib.hid he; clear he
  have Hf := Lib.hid hf; clear hf
  have hs1 := Str.new (w.alloc (.cells (eqC e) 58)) 58 (eqC f)
  simp only [World.size_alloc] at hs1
  have Hs1 := Lib.hid hs1; clear hs1
  go_enter Try.func43, Try.ntmps43
  go_wp2_with (refine wpList_load_row rfl 58 _ rfl (w.heap.size + 1) rfl 58 (eqC f) (0, 0) _ (Hs1.out.alloc _) Try.underlying58 rfl (by rw [eqC_size]; kernel_rfl) ?_)
  rw [← zero20]
  go_loopw [8] (fun i wr => ∃ k : Nat, k ≤ 20 ∧ i = .int .i64 k ∧ Str wr w.heap.size 58 (eqC fun j => if j < k then wthE e f j else e j) ∧ Str wr (w.heap.size + 1 + 1) 58 (eqC fun _ => 0) ∧ Below w.heap.size w wr) (fun i _ => 20 - (intOf i).toNat)
  case atStart =>
    have h2 := Str.new ((w.alloc (.cells (eqC e) 58)).alloc (.cells (eqC f) 58)) 58 (eqC fun _ => 0)
    simp only [World.size_alloc] at h2
    exact ⟨0, by omega, rfl, by simpa using ((Str.new w 58 (eqC e)).alloc _).alloc _, h2, (((Below.refl _ w).alloc (Nat.le_refl _) _).alloc (by simp) _).alloc (by simp; omega) _⟩
  case round =>
    obtain ⟨k, hk, rfl, s0, s1, hbel⟩ := hrel
    by_cases hlt : k < 20
    · have hlt' : (k : Int) < 20 := by omega
      have hx := fun w => run_index_arr (P := Try.prog) (cs := eqC f) Try.underlying58 Try.underlying3 rfl (by kernel_rfl) hlt (eqC_get hlt) w
      have hxa := fun w' => run_indexAt_arr (P := Try.prog) (B := w.heap.size) (o := 0) Try.underlying58 (s := 1) (by kernel_rfl) hlt w'
      simp only [Nat.zero_add, Nat.mul_one] at hxa
      have hcell := s0.cell k (v := .int .i64 (e k)) (by rw [eqC_get hlt]; simp)
      have hfr := s0.frozen k
      have hy := He.out k
      have hz := Hf.out k
      have ht := Lib.hid (show (e k + 251 - f k) % 251 = wthE e f k from rfl)
      generalize e k = y at *
      generalize f k = z at *
      have Hs0 := Lib.hid s0; clear s0
      have Hs1 := Lib.hid s1; clear s1
      go_wp2
      go_roundw
      case rel =>
        refine ⟨k + 1, by omega, by go_num, ?_, Hs1.out.other (by omega) k _, hbel.setCell (p := ⟨w.heap.size, k, none⟩) (Nat.le_refl _) _⟩
        have := Hs0.out.set k (.int .i64 ((y + 251 - z) % 251))
        rw [eqC_set] at this
        rw [ht.out] at this
        rw [show (eqC fun j => if j < k + 1 then wthE e f j else e j) = eqC fun i => if i = k then wthE e f k else if i < k then wthE e f i else e i from eqC_congr fun i _ => by
          by_cases h1 : i = k
          · subst h1; simp
          · by_cases h2 : i < k
            · simp [h1, h2, show i < k + 1 by omega]
            · simp [h1, h2, show ¬ i < k + 1 by omega]]
        rw [ht.out]
        exact this
      case measure => simp [intOf]; omega
    · have hk20 : k = 20 := by omega
      subst hk20
      rw [show (eqC fun j => if j < 20 then wthE e f j else e j) = eqC (wthE e f) from eqC_congr fun i hi => by simp [hi]] at s0
      go_wp2_with (first
        | refine wpList_load_row rfl 58 _ rfl w.heap.size rfl 58 (eqC (wthE e f)) (0, 0) _ s0 Try.underlying58 rfl (by rw [eqC_size]; kernel_rfl) ?_
        | refine wpList_store_row rfl 58 _ _ rfl (w.heap.size + 1 + 1) (eqC (wthE e f)) rfl rfl 58 (eqC fun _ => 0) s1 (by rw [eqC_size]; kernel_rfl) (by rw [eqC_size, eqC_size]) (eqC_one _) ?_)
      have sF := setRow_str s1 (eqC (wthE e f))
      refine bodyPost_ret (results_cell_row rfl _ _ (w.heap.size + 1 + 1) 58 (eqC (wthE e f)) (0, 0) _ rfl sF Try.underlying58 rfl (by rw [eqC_size]; kernel_rfl)) rfl ⟨rfl, ?_⟩
      exact hbel.grown (grownBy_setRow wr _ _) hbel.size (fun g e => by cases e; omega)

end Go.Proofs.Ytekpapodepachaa

/- What impl's equation of a shard is, by a walk of its text; conditions: the shard has a number up to eight and one to twelve values. -/
namespace Go.Proofs.Ytekpapodepachaa
open Go.RowKit

/-- copy of some numbers into a block known whole, as an operation of a region. -/
theorem op_copy {P : Program} {w : World} {o : Oper} {a : Act} {K : Act → World → Prop} {Q : Exit → Act → World → Prop} (d s : Operand) (dT sT : TypeId)
    (ho : o.op = .call { callee := .builtin .copy, args := #[d, s], argTypes := #[dT, sT] }) (elem : TypeId) (hu : P.underlying dT = some (.slice elem)) (hsz : (P.info? elem).map (·.size) = some 1)
    (g off dLen dCap : Nat) (ad : Addr) (sLen sCap : Nat) (hd : a.eval d = .slice (some ⟨g, off, none⟩) dLen dCap) (hs : a.eval s = .slice (some ad) sLen sCap)
    (cur : Array Value) (t : TypeId) (hg : w.heap[g]? = some (.cells cur t (0, 0))) (cs : List Value) (hn : cs.length = Nat.min sLen dLen)
    (hsrc : ∀ j v, cs[j]? = some v → w.cell? (ad.add j) = some v) (hfit : off + cs.length ≤ cur.size) (h1 : ∀ v ∈ cs, v.oneCell' = true)
    (h : K (a.put o.dst (goInt cs.length)) (w.setRow g (cur.toList.take off ++ (cs ++ cur.toList.drop (off + cs.length))).toArray)) : Oper.wp P o a w K Q := by
  have hrun := run_copy_row (P := P) w dT sT o.type elem g off dLen dCap ad sLen sCap cur t cs hu hsz hg hn hsrc hfit h1
  unfold Oper.wp
  simp [execOp, ho, resolve, invoke, builtin, hd, hs, hrun, Result.andThen]
  exact h
theorem eqn_splice {need : Nat} (hn : need ≤ 8) (x : Int) (vs : List Int) (hv : vs.length ≤ 12) :
    ((eqC fun j => if j < need then powF x j else 0).toList.take 8 ++ (vs.map (Value.int .i64) ++ (eqC fun j => if j < need then powF x j else 0).toList.drop (8 + (vs.map (Value.int .i64)).length))).toArray = eqC (eqOf need x vs) := by
  unfold eqC arrC
  congr 1
  apply List.ext_getElem
  · simp; omega
  · intro i h1 h2
    have hi : i < 20 := by simpa using h2
    rw [List.getElem_map, List.getElem_range]
    by_cases h8 : i < 8
    · rw [List.getElem_append_left (by simp; omega)]
      simp only [List.getElem_take, List.getElem_map, List.getElem_range]
      congr 1
      unfold eqOf
      by_cases hh : i < need
      · simp [hh]
      · simp [hh, h8]
    · by_cases hl : i < 8 + vs.length
      · rw [List.getElem_append_right (by simp; omega), List.getElem_append_left (by simp; omega)]
        simp only [List.getElem_map]
        congr 1
        unfold eqOf
        rw [if_neg (by omega), if_neg h8, getD_get (by omega)]
        congr 1
        all_goals simp
      · rw [List.getElem_append_right (by simp; omega), List.getElem_append_right (by simp; omega)]
        simp only [List.getElem_drop, List.getElem_map, List.getElem_range]
        congr 1
        unfold eqOf
        rw [if_neg (by omega), if_neg (by simp; omega), if_neg h8, List.getD_eq_getElem?_getD, List.getElem?_eq_none (by omega)]
        rfl

theorem impl_equationOf (need : Nat) (x : Int) (av : Option Addr) (cv : Nat) (vs : List Int) (w : World) (hn : need ≤ 8) (hx0 : 0 ≤ x) (hx8 : x ≤ 8) (hv1 : 1 ≤ vs.length) (hv12 : vs.length ≤ 12) (hc : IntsAt w av vs) :
    Calls Try.prog 40 #[.int .i64 (need : Int), .agg #[.int .i64 x, .slice av vs.length cv]] w fun r w' => r = .returned (.agg (eqC (eqOf need x vs))) ∧ Below w.heap.size w w' := by
  obtain ⟨b, off, rfl, hb, hcs⟩ := hc.cell (by omega)
  have Hcs := Lib.hid hcs; clear hcs hc
  go_enter Try.func40, Try.ntmps40
  go_wp2_with fail
  rw [← zero20]
  go_loopw [6, 9] (fun f i wr => ∃ k : Nat, k ≤ need ∧ i = .int .i64 k ∧ f = .int .i64 (powF x k) ∧ Str wr w.heap.size 49 #[.int .i64 x, .slice (some ⟨b, off, none⟩) vs.length cv] ∧ Str wr (w.heap.size + 1) 58 (eqC fun _ => 0) ∧ Str wr (w.heap.size + 1 + 1) 58 (eqC fun j => if j < k then powF x j else 0) ∧ Below w.heap.size w wr) (fun _ i _ => need - (intOf i).toNat)
  case atStart =>
    have h0 := ((Str.new w 49 #[.int .i64 x, .slice (some ⟨b, off, none⟩) vs.length cv]).alloc (.cells (eqC fun _ => 0) 58)).alloc (.cells (eqC fun _ => 0) 58)
    have h1 := (Str.new (w.alloc (.cells #[.int .i64 x, .slice (some ⟨b, off, none⟩) vs.length cv] 49)) 58 (eqC fun _ => 0)).alloc (.cells (eqC fun _ => 0) 58)
    have h2 := Str.new ((w.alloc (.cells #[.int .i64 x, .slice (some ⟨b, off, none⟩) vs.length cv] 49)).alloc (.cells (eqC fun _ => 0) 58)) 58 (eqC fun _ => 0)
    simp only [World.size_alloc] at h1 h2
    exact ⟨0, by omega, rfl, rfl, h0, h1, by simpa using h2, (((Below.refl _ w).alloc (Nat.le_refl _) _).alloc (by simp) _).alloc (by simp; omega) _⟩
  case round =>
    obtain ⟨k, hk, rfl, rfl, s0, s1, s2, hbel⟩ := hrel
    by_cases hlt : k < need
    · have hxa := fun w' => run_indexAt_arr (P := Try.prog) (B := w.heap.size + 1 + 1) (o := 0) Try.underlying58 (s := 1) (by kernel_rfl) (show k < 20 by omega) w'
      simp only [Nat.zero_add, Nat.mul_one] at hxa
      have hcell := s2.cell k (v := .int .i64 0) (by rw [eqC_get (by omega)]; simp)
      have hfr := s2.frozen k
      have hc0 := s0.cell 0 (v := .int .i64 x) rfl
      have hbd := powF_bd x k
      have hm := mul_bd hbd.1 hbd.2 hx0 hx8
      have ht := Lib.hid (show powF x (k + 1) = powF x k * x % 251 from rfl)
      have hpk := Lib.hid (show powF x k = powF x k from rfl)
      obtain ⟨p, hp⟩ : ∃ p, p = powF x k := ⟨_, rfl⟩
      rw [← hp] at hbd hm ht
      have Hp := Lib.hid hp
      rw [← hp]
      clear hp
      obtain ⟨q, hq⟩ : ∃ q, p * x = q := ⟨_, rfl⟩
      rw [hq] at hm
      have ht' := Lib.hid (ht.out.trans (by rw [hq]))
      clear ht hpk
      have Hs0 := Lib.hid s0; clear s0
      have Hs1 := Lib.hid s1; clear s1
      have Hs2 := Lib.hid s2; clear s2
      go_wp2
      go_roundw
      case rel =>
        refine ⟨k + 1, by omega, by go_num, int_eq ht'.out.symm, Hs0.out.other (by omega) k _, Hs1.out.other (by omega) k _, ?_, hbel.setCell (p := ⟨w.heap.size + 1 + 1, k, none⟩) (by simp; omega) _⟩
        have := Hs2.out.set k (.int .i64 p)
        rw [eqC_set] at this
        rw [show (eqC fun j => if j < k + 1 then powF x j else 0) = eqC fun i => if i = k then p else if i < k then powF x i else 0 from eqC_congr fun i _ => by
          by_cases h1 : i = k
          · subst h1; simp [Hp.out]
          · by_cases h2 : i < k
            · simp [h1, h2, show i < k + 1 by omega]
            · simp [h1, h2, show ¬ i < k + 1 by omega]]
        exact this
      case measure => simp [intOf]; omega
    · have hke : k = need := by omega
      subst hke
      have h0 := s0.cell 1 (v := .slice (some ⟨b, off, none⟩) vs.length cv) rfl
      go_wp2_with fail
      refine wp_region_L 3 (fun w' => w'.cell? ⟨w.heap.size, 1, none⟩ = some (.slice (some ⟨b, off, none⟩) vs.length cv)) (by kernel_rfl) h0 (fun hH => ?_)
      refine takeL 0 (v := ?v0) rfl (by kernel_rfl) (by kernel_rfl) (by kernel_rfl) (by kernel_rfl) (by kernel_rfl) (fun _ _ _ h => h) hH rfl ?y0 ?r0
      case y0 => intro w hSw; go_simp; try with_reducible rfl
      try simp only [Act.put, List.setIfInBounds_toArray, List.set_cons_zero, List.set_cons_succ]
      refine callL 1 rfl (by kernel_rfl) rfl (fun K hK => ?_)
      go_simp
      refine hK.out _ _ hH (fun hH => ?_)
      clear hK K
      try simp only [Act.put, List.setIfInBounds_toArray, List.set_cons_zero, List.set_cons_succ]
      refine takeL 2 (v := ?v2) rfl (by kernel_rfl) (by kernel_rfl) (by kernel_rfl) (by kernel_rfl) (by kernel_rfl) (fun _ _ _ h => h) hH rfl ?y2 ?r2
      case y2 => intro w hSw; go_simp; try with_reducible rfl
      try simp only [Act.put, List.setIfInBounds_toArray, List.set_cons_zero, List.set_cons_succ]
      refine lastL rfl (by kernel_rfl) (by kernel_rfl) (by kernel_rfl) rfl (fun K hK => ?_)
      refine op_copy (.tmp 21) (.tmp 23) 23 23 rfl 3 Try.underlying23 (by kernel_rfl) (w.heap.size + 1 + 1) 8 12 12 ⟨b, off, none⟩ vs.length cv rfl rfl _ 58 s2 (vs.map (Value.int .i64)) (by rw [List.length_map]; exact (Nat.min_eq_left hv12).symm) ?_ (by rw [eqC_size]; simp; omega) (by intro v hv; obtain ⟨z, _, rfl⟩ := List.mem_map.1 hv; rfl) ?_
      · intro j v hj
        rw [List.getElem?_map] at hj
        obtain ⟨z, hz, rfl⟩ := Option.map_eq_some_iff.1 hj
        obtain ⟨hjl, rfl⟩ := List.getElem?_eq_some_iff.1 hz
        rw [addr_add']
        exact (hbel.drew.cell (p := ⟨b, off + j, none⟩) hb).trans (Hcs.out j hjl)
      rw [eqn_splice hn x vs hv12]
      have sE := setRow_str (W := wr.drew) s2 (eqC (eqOf k x vs))
      have sR : Str (wr.drew.setRow (w.heap.size + 1 + 1) (eqC (eqOf k x vs))) (w.heap.size + 1) 58 (eqC fun _ => 0) := Str.kept (W := wr.drew) s1 (grownBy_setRow _ _ _) (by simp)
      have hbE := hbel.drew.grown (grownBy_setRow wr.drew (w.heap.size + 1 + 1) (eqC (eqOf k x vs))) hbel.size (fun g e => by cases e; omega)
      generalize wr.drew.setRow (w.heap.size + 1 + 1) (eqC (eqOf k x vs)) = W4 at *
      refine hK.out _ _ ?_
      clear hK K
      try simp only [Act.put, List.setIfInBounds_toArray, List.set_cons_zero, List.set_cons_succ]
      go_wp2_with (first
        | refine wpList_load_row rfl 58 _ rfl (w.heap.size + 1 + 1) rfl 58 (eqC (eqOf k x vs)) (0, 0) _ sE Try.underlying58 rfl (by rw [eqC_size]; kernel_rfl) ?_
        | refine wpList_store_row rfl 58 _ _ rfl (w.heap.size + 1) (eqC (eqOf k x vs)) rfl rfl 58 (eqC fun _ => 0) sR (by rw [eqC_size]; kernel_rfl) (by rw [eqC_size, eqC_size]) (eqC_one _) ?_)
      have sF := setRow_str sR (eqC (eqOf k x vs))
      refine bodyPost_ret (results_cell_row rfl _ _ (w.heap.size + 1) 58 (eqC (eqOf k x vs)) (0, 0) _ rfl sF Try.underlying58 rfl (by rw [eqC_size]; kernel_rfl)) rfl ⟨rfl, ?_⟩
      exact hbE.grown (grownBy_setRow W4 _ _) hbE.size (fun g e => by cases e; omega)

end Go.Proofs.Ytekpapodepachaa

/- What the helpers of the laws on shards answer where the two lists are equal, each by a walk of its text; conditions: the lists have fewer than 2^40 elements. -/
namespace Go.Proofs.Ytekpapodepachaa
open Go.RowKit

/-- A list of shards in memory. -/
theorem shards_at {w : World} {L : List (Int × List Int)} {a : Option Addr} {n cap : Nat} {fp : List Nat} (h : Rd w (.l (L.map shardD)) (.slice a n cap) fp) (hne : 0 < L.length) :
    ∃ g off, a = some ⟨g, off, none⟩ ∧ g < w.heap.size ∧ ∀ k (hk : k < L.length), ∃ av cv, w.cell? ⟨g, off + k * 2, none⟩ = some (.int .i64 L[k].1) ∧ w.cell? ⟨g, off + k * 2 + 1, none⟩ = some (.slice av L[k].2.length cv) ∧ IntsAt w av L[k].2 := by
  obtain ⟨g, off, rfl, hg, _, _, _, hc⟩ := Rd.at h (by simpa using hne) (sz := 2) (by intro e he; simp at he; obtain ⟨x, y, _, rfl⟩ := he; rfl)
  refine ⟨g, off, rfl, hg, fun k hk => ?_⟩
  have hk' : k < (L.map shardD).length := by simpa using hk
  have he : (L.map shardD)[k] = shardD L[k] := by simp
  obtain ⟨v0, f0, h0, r0, _⟩ := hc k 0 hk' (by rw [he]; simp [shardD])
  obtain ⟨v1, f1, h1, r1, _⟩ := hc k 1 hk' (by rw [he]; simp [shardD])
  have r0' : Rd w (.i L[k].1) v0 f0 := by simpa [shardD] using r0
  have r1' : Rd w (intsD L[k].2) v1 f1 := by simpa [shardD] using r1
  obtain ⟨rfl, _⟩ := r0'.int
  obtain ⟨av, cv, rfl, _, hi⟩ := r1'.ints
  exact ⟨av, cv, h0, by rw [Nat.add_assoc]; exact h1, hi⟩

end Go.Proofs.Ytekpapodepachaa

/- Whether shards have different numbers and the right lengths, as impl reckons it, by a walk of its text; conditions: the lists are short. -/
namespace Go.Proofs.Ytekpapodepachaa
open Go.RowKit

def seenB (L : List Sh) (k : Nat) (n : Nat) : Bool := (List.range k).any fun j => decide (xsOf L j = (n : Int))
def seenC (L : List Sh) (k : Nat) : Array Value := arrC 9 fun n => .bool (seenB L k n)
theorem seen0 (L : List Sh) : seenC L 0 = #[.bool false, .bool false, .bool false, .bool false, .bool false, .bool false, .bool false, .bool false, .bool false] := rfl
theorem seenB_succ (L : List Sh) (k n : Nat) : seenB L (k + 1) n = (seenB L k n || decide (xsOf L k = (n : Int))) := by
  unfold seenB; rw [List.range_succ, List.any_append]; simp
theorem seenC_set {L : List Sh} {k n : Nat} (h : xsOf L k = (n : Int)) : (seenC L k).setIfInBounds n (.bool true) = seenC L (k + 1) := by
  unfold seenC
  rw [arrC_set]
  congr 1
  funext i
  rw [seenB_succ, h]
  by_cases e : i = n
  · subst e; simp
  · have e' : ¬ (n : Int) = (i : Int) := by omega
    simp [e, e']
theorem newAt_seen {L : List Sh} {k n : Nat} (h : xsOf L k = (n : Int)) : newAt L k = !seenB L k n := by
  unfold newAt seenB allB
  rw [h, List.not_any_eq_all_not]
  congr 1
  funext j
  by_cases e : xsOf L j = (n : Int) <;> simp [e]
theorem shAt_num {cols : Nat} {L : List Sh} {k : Nat} (hk : k < L.length) (h : ¬ (1 ≤ L[k].1 ∧ L[k].1 ≤ 8)) : shAt cols L k = false := by
  unfold shAt okS; rw [getS hk, decide_eq_false h]; simp
theorem shAt_seen {cols : Nat} {L : List Sh} {k n : Nat} (hk : k < L.length) (hn : L[k].1 = (n : Int)) (h : seenB L k n = true) : shAt cols L k = false := by
  unfold shAt; rw [newAt_seen (n := n) (by unfold xsOf; rw [getS hk]; exact hn), h]; simp
theorem shAt_len {cols : Nat} {L : List Sh} {k : Nat} (hk : k < L.length) (h : ¬ L[k].2.length = cols) : shAt cols L k = false := by
  unfold shAt okS; rw [getS hk, decide_eq_false h]; simp
theorem shAt_sym {cols : Nat} {L : List Sh} {k : Nat} (hk : k < L.length) (h : L[k].2.all symB = false) : shAt cols L k = false := by
  unfold shAt okS; rw [getS hk, h]; simp
theorem shAt_yes {cols : Nat} {L : List Sh} {k n : Nat} (hk : k < L.length) (hn : L[k].1 = (n : Int)) (h1 : 1 ≤ L[k].1 ∧ L[k].1 ≤ 8) (h : seenB L k n = false) (hl : L[k].2.length = cols) (hs : L[k].2.all symB = true) : shAt cols L k = true := by
  unfold shAt okS; rw [newAt_seen (n := n) (by unfold xsOf; rw [getS hk]; exact hn), h, getS hk, decide_eq_true h1, decide_eq_true hl, hs]; rfl

set_option maxHeartbeats 1000000 in
theorem impl_areShards (size need : Nat) (L : List Sh) (v : Value) (fp : List Nat) (w : World) (hs1 : 1 ≤ size) (hs2 : size ≤ 12) (hn1 : 1 ≤ need) (hn2 : need ≤ 8) (hbig : L.length ≤ 1048576) (hin : ∀ s ∈ L, s.2.length ≤ 1048576) (hr : Rd w (.l (L.map shardD)) v fp) :
    Calls Try.prog 35 #[.int .i64 (size : Int), .int .i64 (need : Int), v] w fun e w' => e = .returned (.bool (lenB need L && shsB ((size + need - 1) / need) L)) ∧ Below w.heap.size w w' := by
  obtain ⟨a, cap, rfl⟩ := hr.slice
  rw [List.length_map] at *
  have Hr := Lib.hid hr; clear hr
  have Hin := Lib.hid hin; clear hin
  have Hcols := Lib.hid (fun w => impl_columnsOf size need w hs1 hs2 hn1 hn2)
  obtain ⟨cols, hcols⟩ : ∃ cols, (size + need - 1) / need = cols := ⟨_, rfl⟩
  rw [hcols] at Hcols ⊢
  clear hcols
  by_cases hl1 : L.length < need
  · have Hf := Lib.hid (show (lenB need L && shsB cols L) = false by unfold lenB; rw [decide_eq_false (by omega)]; rfl)
    go_enter Try.func35, Try.ntmps35
    go_wp2
    go_ret
    exact ⟨ret_bool Hf.out.symm, Below.refl _ _⟩
  by_cases hl2 : 8 < (L.length : Int)
  · have Hf := Lib.hid (show (lenB need L && shsB cols L) = false by unfold lenB; rw [decide_eq_false (by omega)]; rfl)
    have hl1' : need ≤ L.length := by omega
    go_enter Try.func35, Try.ntmps35
    go_wp2
    go_ret
    exact ⟨ret_bool Hf.out.symm, Below.refl _ _⟩
  have Hf := Lib.hid (show (lenB need L && shsB cols L) = shsB cols L by unfold lenB; rw [decide_eq_true (by omega)]; rfl)
  have hl1' : need ≤ L.length := by omega
  have hl1d : decide (L.length < need) = false := decide_eq_false hl1
  have hl2d : decide (8 < (L.length : Int)) = false := decide_eq_false hl2
  go_enter Try.func35, Try.ntmps35
  go_wp2
  rw [← seen0 L]
  go_loopw [21] (fun i wr => ∃ k : Nat, k ≤ L.length ∧ i = .int .i64 k ∧ Str wr w.heap.size 66 (seenC L k) ∧ Upto (shAt cols L) k ∧ Below w.heap.size w wr) (fun i _ => L.length - (intOf i).toNat)
  case atStart => exact ⟨0, by omega, rfl, Str.new w 66 (seenC L 0), upto_zero _, (Below.refl _ w).alloc (Nat.le_refl _) _⟩
  case round =>
    obtain ⟨k, hk, rfl, s0, hup, hbel⟩ := hrel
    by_cases hlt : k < L.length
    · obtain ⟨g, off, rfl, hg, hat⟩ := shards_at (Hr.out.underB hbel (fun r hr => Hr.out.lt r hr)) (by omega)
      obtain ⟨av, cv, C0, C1, I1⟩ := hat k hlt
      have hxs := Hin.out _ (List.getElem_mem hlt)
      clear hat
      have hsz := s0.lt
      have Hbel := Lib.hid hbel; clear hbel
      have Hup := Lib.hid hup; clear hup
      have Hs0 := Lib.hid s0; clear s0
      have hnm := fun w => impl_isShardNumber L[k].1 w
      by_cases hv : 1 ≤ L[k].1 ∧ L[k].1 ≤ 8
      · rw [decide_eq_true hv] at hnm
        have Hnm := Lib.hid hnm; clear hnm
        obtain ⟨n, hn⟩ : ∃ n : Nat, L[k].1 = (n : Int) := ⟨L[k].1.toNat, by omega⟩
        have hn9 : n < 9 := by omega
        have Hv := Lib.hid hv; clear hv
        have Hn := Lib.hid hn
        rw [hn] at C0 Hnm
        clear hn
        have hxa := fun w' => run_indexAt_arr (P := Try.prog) (B := w.heap.size) (o := 0) Try.underlying66 (s := 1) (by kernel_rfl) hn9 w'
        simp only [Nat.zero_add, Nat.mul_one] at hxa
        have hne1 : w.heap.size ≠ wr.heap.size := by omega
        have hne2 : wr.heap.size ≠ w.heap.size := by omega
        have hcell := Hs0.out.cell n (v := .bool (seenB L k n)) (arrC_get hn9)
        have hfr := Hs0.out.frozen n
        by_cases hse : seenB L k n = true
        · rw [hse] at hcell
          have Hbad := Lib.hid (shAt_seen (cols := cols) hlt Hn.out hse)
          clear hse
          go_wp2_with fail
          refine (Hnm.out _).mono ?_
          rintro e w' ⟨rfl, rfl⟩
          go_wp2
          go_ret
          exact ⟨ret_bool (by rw [Hf.out]; exact (allB_no hlt Hbad.out).symm), Hbel.out.alloc Hbel.out.size _⟩
        · rw [Bool.not_eq_true] at hse
          rw [hse] at hcell
          have Hse := Lib.hid hse; clear hse
          go_wp2_with fail
          refine (Hnm.out _).mono ?_
          rintro e w' ⟨rfl, rfl⟩
          go_wp2_with fail
          have Hvs : ∃ vs, L[k].2 = vs := ⟨_, rfl⟩
          obtain ⟨vs, hvs⟩ := Hvs
          rw [hvs] at C1 I1 hxs
          have Has := Lib.hid (fun W h => impl_areSymbols av cv vs W (by omega) h)
          have hia : IntsAt (wr.alloc (.cells #[.int .i64 (n : Int), .slice av vs.length cv] 49)) av vs := I1.below ((Below.refl _ wr).alloc (Nat.le_refl _) _)
          have Hia := Lib.hid hia; clear hia I1
          have Hbel2 := Lib.hid (Hbel.out.alloc Hbel.out.size (.cells #[.int .i64 (n : Int), .slice av vs.length cv] 49))
          have Hs2 := Lib.hid (Hs0.out.alloc (.cells #[.int .i64 (n : Int), .slice av vs.length cv] 49))
          have hc0 := (Str.new wr 49 #[.int .i64 (n : Int), .slice av vs.length cv]).cell 0 (v := .int .i64 (n : Int)) rfl
          have hc1 := (Str.new wr 49 #[.int .i64 (n : Int), .slice av vs.length cv]).cell 1 (v := .slice av vs.length cv) rfl
          have Hvs := Lib.hid hvs
          rw [hvs]
          clear hvs
          by_cases hcl : vs.length = cols
          · have hq : ((vs.length : Int) != (cols : Int)) = false := by rw [hcl]; simp
            have Hcl := Lib.hid hcl
            by_cases hsy : vs.all symB = true
            · have hay := fun W h => Has.out W h
              rw [hsy] at hay
              have Hay := Lib.hid hay; clear hay
              have Hok := Lib.hid (shAt_yes (cols := cols) hlt Hn.out Hv.out Hse.out (by rw [Hvs.out]; exact hcl) (by rw [Hvs.out]; exact hsy))
              clear hcl hsy hcell hfr
              go_quiet ((first | (go_at_call 39; exact Calls.quiet_of_same (turned (Hcols.out _))) | (go_at_call 27; exact Calls.quiet_of_same (turned (Hay.out _ Hia.out)))))
              have Hb5 := Lib.hid (below_drewN Hbel2.out nq)
              have hs5 : Str ((wr.alloc (.cells #[.int .i64 (n : Int), .slice av vs.length cv] 49)).drewN nq) w.heap.size 66 (seenC L k) := Hs2.out
              have hc5 : ((wr.alloc (.cells #[.int .i64 (n : Int), .slice av vs.length cv] 49)).drewN nq).cell? ⟨wr.heap.size, 0, none⟩ = some (.int .i64 (n : Int)) := hc0
              clear hc0 hc1 C0 C1
              generalize (wr.alloc (.cells #[.int .i64 (n : Int), .slice av vs.length cv] 49)).drewN nq = W5 at *
              have hcell := hs5.cell n (v := .bool (seenB L k n)) (arrC_get hn9)
              have hfr := hs5.frozen n
              have Hs5 := Lib.hid hs5; clear hs5
              go_wp2
              go_roundw
              case rel =>
                refine ⟨k + 1, by omega, by go_num, ?_, upto_step Hup.out Hok.out, Hb5.out.setCell (p := ⟨w.heap.size, n, none⟩) (Nat.le_refl _) _⟩
                have := Hs5.out.set n (.bool true)
                rwa [seenC_set (show xsOf L k = (n : Int) by unfold xsOf; rw [getS hlt]; exact Hn.out)] at this
              case measure => simp [intOf]; omega
            · rw [Bool.not_eq_true] at hsy
              have hay := fun W h => Has.out W h
              rw [hsy] at hay
              have Hay := Lib.hid hay; clear hay
              have Hbad := Lib.hid (shAt_sym (cols := cols) hlt (by rw [Hvs.out]; exact hsy))
              clear hcl hsy hcell hfr
              go_quiet ((first | (go_at_call 39; exact Calls.quiet_of_same (turned (Hcols.out _))) | (go_at_call 27; exact Calls.quiet_of_same (turned (Hay.out _ Hia.out)))))
              go_wp2
              go_ret
              exact ⟨ret_bool (by rw [Hf.out]; exact (allB_no hlt Hbad.out).symm), below_drewN Hbel2.out _⟩
          · have hq : ((vs.length : Int) != (cols : Int)) = true := by simp; omega
            have Hbad := Lib.hid (shAt_len (cols := cols) hlt (by rw [Hvs.out]; exact hcl))
            clear hcl hcell hfr
            go_quiet ((go_at_call 39; exact Calls.quiet_of_same (turned (Hcols.out _))))
            go_wp2
            go_ret
            exact ⟨ret_bool (by rw [Hf.out]; exact (allB_no hlt Hbad.out).symm), below_drewN Hbel2.out _⟩
      · rw [decide_eq_false hv] at hnm
        have Hnm := Lib.hid hnm; clear hnm
        have Hbad := Lib.hid (shAt_num (cols := cols) hlt hv)
        clear hv
        go_wp2_with fail
        refine (Hnm.out _).mono ?_
        rintro e w' ⟨rfl, rfl⟩
        go_wp2
        go_ret
        exact ⟨ret_bool (by rw [Hf.out]; exact (allB_no hlt Hbad.out).symm), Hbel.out.alloc Hbel.out.size _⟩
    · have Hs := Lib.hid (show shsB cols L = true from allB_yes hup (by omega))
      go_wp2
      go_ret
      exact ⟨ret_bool (by rw [Hf.out]; exact Hs.out.symm), hbel⟩

end Go.Proofs.Ytekpapodepachaa

/- Arrays of arrays of numbers in memory: a row read, a row stored; general steps, nothing here speaks of the program. -/
namespace Go.Proofs.Ytekpapodepachaa
open Go.RowKit

theorem run_loadVar_part {P : Program} (w : World) (g off n : Nat) (ty : TypeId) (f : Nat → Value) (d : TypeDesc) (hu : P.underlying ty = some d) (hd : (match d with | .struct _ | .array _ _ => true | _ => false) = true) (hi : (P.info? ty).map (·.size) = some n)
    (hc : ∀ j, j < n → w.cell? ⟨g, off + j, none⟩ = some (f j)) : (loadVar ty ⟨g, off, none⟩).run P w = .ok (.agg (arrC n f)) w := by
  have hl : (loadCells ⟨g, off, none⟩ (arrC n f).toList.length).run P w = .ok (arrC n f).toList.toArray w :=
    run_loadCells_list (P := P) w ⟨g, off, none⟩ (arrC n f).toList (fun j v hv => by
      rw [addr_add']
      have hj : j < n := by
        obtain ⟨h, _⟩ := List.getElem?_eq_some_iff.1 hv
        simpa [arrC] using h
      rw [hc j hj]
      simp [arrC, hj] at hv
      rw [hv])
  cases hq : P.info? ty with
  | none => simp [hq] at hi
  | some i =>
    have hs : i.size = n := by simpa [hq] using hi
    have hagg : (isAgg ty).run P w = .ok true w := by
      unfold isAgg
      rw [Sem.run_bind, run_underlying hu w]
      cases d <;> simp_all
    simp only [Array.length_toList, Array.toArray_toList, arrC_size] at hl
    simp [loadVar, Sem.run_bind, hagg, sizeOf, typeInfo, hq, hs, hl]
theorem exec_load_part {P : Program} {o : Oper} {a : Act} {w : World} (ty : TypeId) (x : Operand) (ho : o.op = .load ty x) (g off n : Nat) (hx : a.eval x = .pointer (some ⟨g, off, none⟩)) (f : Nat → Value) (d : TypeDesc) (hu : P.underlying ty = some d)
    (hd : (match d with | .struct _ | .array _ _ => true | _ => false) = true) (hi : (P.info? ty).map (·.size) = some n) (hc : ∀ j, j < n → w.cell? ⟨g, off + j, none⟩ = some (f j)) : (execOp a.eval o).run P w = .ok (.value (.agg (arrC n f))) w := by
  unfold execOp
  simp [ho, hx, Instr.loadAt, Instr.sureAddr, run_loadVar_part w g off n ty f d hu hd hi hc]
theorem run_storeVar_part {P : Program} (w : World) (g off : Nat) (t ty : TypeId) (old cells : Array Value) (hg : w.heap[g]? = some (.cells old t (0, 0))) (hi : (P.info? ty).map (·.size) = some cells.size) (ho : off + cells.size ≤ old.size) (h1 : cells.all (·.oneCell') = true) :
    (storeVar ty ⟨g, off, none⟩ (.agg cells)).run P w = .ok () (w.setRow g (old.toList.take off ++ cells.toList ++ old.toList.drop (off + cells.size)).toArray) := by
  have := run_storeCells_at P g off t cells.toList 0 old w hg (by simpa using ho) (fun v hv => (Array.all_eq_true_iff_forall_mem.1 h1) v (by simpa using hv))
  cases hq : P.info? ty with
  | none => simp [hq] at hi
  | some i =>
    have hs : cells.size = i.size := by simp [hq] at hi; omega
    simp only [Nat.add_zero, Array.length_toList] at this
    simp [storeVar, sizeOf, typeInfo, hq, Value.cells, ← hs, this]
theorem wp_store_part {P : Program} {o : Oper} {a : Act} {w : World} {K : Act → World → Prop} {Q : Exit → Act → World → Prop} (ty : TypeId) (x y : Operand) (ho : o.op = .store ty x y)
    (g off : Nat) (cells : Array Value) (hx : a.eval x = .pointer (some ⟨g, off, none⟩)) (hy : a.eval y = .agg cells)
    (t : TypeId) (old : Array Value) (hg : w.heap[g]? = some (.cells old t (0, 0))) (hi : (P.info? ty).map (·.size) = some cells.size)
    (hold : off + cells.size ≤ old.size) (h1 : cells.all (·.oneCell') = true)
    (h : K (a.put o.dst undef) (w.setRow g (old.toList.take off ++ cells.toList ++ old.toList.drop (off + cells.size)).toArray)) : o.wp P a w K Q := by
  unfold Oper.wp execOp
  simp only [ho, hx, hy, Instr.storeAt, Instr.sureAddr, Sem.run_bind, Sem.run_pure, Result.andThen_ok, run_storeVar_part w g off t ty old cells hg hi hold h1]
  exact h

/-! a grid of eight rows of twenty -/
def grC (S : Nat → Nat → Int) : Array Value := arrC 160 fun i => .int .i64 (S (i / 20) (i % 20))
theorem grC_size (S : Nat → Nat → Int) : (grC S).size = 160 := arrC_size _ _
theorem grC_get {S : Nat → Nat → Int} {k c : Nat} (hk : k < 8) (hc : c < 20) : (grC S)[k * 20 + c]? = some (.int .i64 (S k c)) := by
  unfold grC
  rw [arrC_get (by omega), show (k * 20 + c) / 20 = k by omega, show (k * 20 + c) % 20 = c by omega]
theorem grC_one (S : Nat → Nat → Int) : (grC S).all (·.oneCell') = true := by
  rw [Array.all_eq_true_iff_forall_mem]
  intro v hv
  simp only [grC, arrC, List.mem_toArray, List.mem_map] at hv
  obtain ⟨i, _, rfl⟩ := hv
  rfl
theorem grC_congr {S T : Nat → Nat → Int} (h : ∀ k c, k < 8 → c < 20 → S k c = T k c) : grC S = grC T := by
  unfold grC arrC
  congr 1
  exact List.map_congr_left fun i hi => by
    have := List.mem_range.1 hi
    rw [h _ _ (by omega) (Nat.mod_lt _ (by omega))]
def updR (S : Nat → Eqn) (k : Nat) (e : Eqn) : Nat → Eqn := fun j => if j = k then e else S j
theorem grid_splice {S : Nat → Nat → Int} {k : Nat} (hk : k < 8) (e : Nat → Int) : ((grC S).toList.take (k * 20) ++ (eqC e).toList ++ (grC S).toList.drop (k * 20 + (eqC e).size)).toArray = grC (updR S k e) := by
  rw [eqC_size]
  unfold grC eqC arrC
  congr 1
  apply List.ext_getElem
  · simp; omega
  · intro i h1 h2
    have hi : i < 160 := by simpa using h2
    rw [List.getElem_map, List.getElem_range]
    unfold updR
    by_cases ha : i < k * 20
    · rw [List.getElem_append_left (by simp; omega), List.getElem_append_left (by simp; omega)]
      simp only [List.getElem_take, List.getElem_map, List.getElem_range]
      rw [if_neg (by omega)]
    · by_cases hb : i < k * 20 + 20
      · rw [List.getElem_append_left (by simp; omega), List.getElem_append_right (by simp; omega)]
        simp only [List.getElem_map, List.getElem_range, List.length_take, List.length_map, List.length_range]
        rw [if_pos (by omega)]
        congr 2
        omega
      · rw [List.getElem_append_right (by simp; omega)]
        simp only [List.getElem_drop, List.getElem_map, List.getElem_range, List.length_append, List.length_take, List.length_map, List.length_range]
        rw [if_neg (by omega)]
        congr 2
        · omega
        · omega
theorem eqs0_step (need : Nat) (xs : Nat → Int) (vs : Nat → List Int) (k : Nat) : updR (eqs0 need xs vs k) k (eqOf need (xs k) (vs k)) = eqs0 need xs vs (k + 1) := by
  funext j
  unfold updR eqs0
  by_cases h : j = k
  · subst h; simp
  · by_cases h2 : j < k
    · simp [h, h2, show j < k + 1 by omega]
    · simp [h, h2, show ¬ j < k + 1 by omega]
theorem elim_zero (T : Nat → Eqn) (i : Nat) : updR T i (tmsE (T i) (invZ (T i i))) = elimTo T i 0 := by
  funext j
  unfold updR elimTo
  by_cases h : j = i
  · subst h; simp
  · simp [h]
theorem elim_same (T : Nat → Eqn) (i : Nat) : elimTo T i (i + 1) = elimTo T i i := by
  funext j
  unfold elimTo
  by_cases h : j = i
  · simp [h]
  · by_cases h2 : j < i
    · simp [h, h2, show j < i + 1 by omega]
    · simp [h, h2, show ¬ j < i + 1 by omega]
theorem elim_step {T : Nat → Eqn} {i j : Nat} (h : j ≠ i) : updR (elimTo T i j) j (wthE (elimTo T i j j) (tmsE (elimTo T i j i) (elimTo T i j j i))) = elimTo T i (j + 1) := by
  have e1 : elimTo T i j j = T j := by unfold elimTo; rw [if_neg h, if_neg (by omega)]
  have e2 : elimTo T i j i = tmsE (T i) (invZ (T i i)) := by unfold elimTo; rw [if_pos rfl]
  rw [e1, e2]
  funext k
  unfold updR elimTo
  by_cases hk : k = j
  · subst hk; simp [h]
  · by_cases hi : k = i
    · simp [hi]
      intro e; exact absurd e.symm h
    · by_cases h2 : k < j
      · simp [hk, hi, h2, show k < j + 1 by omega]
      · simp [hk, hi, h2, show ¬ k < j + 1 by omega]

theorem run_zeroValue {P : Program} {ty : TypeId} {v : Value} (h : (P.info? ty).map (·.zero) = some (some v)) (w : World) : (zeroValue ty).run P w = .ok v w := by
  cases hq : P.info? ty with
  | none => simp [hq] at h
  | some i =>
    have hz : i.zero = some v := by simpa [hq] using h
    simp [zeroValue, typeInfo, hq, hz]

theorem wp_store_grid {P : Program} {o : Oper} {a : Act} {w : World} {K : Act → World → Prop} {Q : Exit → Act → World → Prop} (ty : TypeId) (x y : Operand) (ho : o.op = .store ty x y) (g k : Nat) (S : Nat → Eqn) (e : Eqn) (hk : k < 8)
    (hx : a.eval x = .pointer (some ⟨g, k * 20, none⟩)) (hy : a.eval y = .agg (eqC e)) (t : TypeId) (hg : Str w g t (grC S)) (hi : (P.info? ty).map (·.size) = some 20)
    (h : ∀ w', Str w' g t (grC (updR S k e)) → w.grownBy w' (some g) → K (a.put o.dst undef) w') : o.wp P a w K Q := by
  refine wp_store_part ty x y ho g (k * 20) (eqC e) hx hy t (grC S) hg (by rw [eqC_size]; exact hi) (by rw [eqC_size, grC_size]; omega) (eqC_one e) ?_
  rw [grid_splice hk e]
  exact h _ (setRow_str hg _) (grownBy_setRow w g _)
theorem wpList_store_grid {P : Program} {ops : Array Oper} {rest : List Oper} {o : Oper} {a : Act} {w : World} {Q : Exit → Act → World → Prop} (hgd : o.guard = none) (ty : TypeId) (x y : Operand) (ho : o.op = .store ty x y) (g k : Nat) (S : Nat → Eqn) (e : Eqn) (hk : k < 8)
    (hx : a.eval x = .pointer (some ⟨g, k * 20, none⟩)) (hy : a.eval y = .agg (eqC e)) (t : TypeId) (hg : Str w g t (grC S)) (hi : (P.info? ty).map (·.size) = some 20)
    (h : ∀ w', Str w' g t (grC (updR S k e)) → w.grownBy w' (some g) → wpList P ops Q rest (a.put o.dst undef) w') : wpList P ops Q (o :: rest) a w :=
  wpList_plain hgd fun _ hK => wp_store_grid ty x y ho g k S e hk hx hy t hg hi fun w' h1 h2 => hK _ _ (h w' h1 h2)
theorem exec_load_row {P : Program} {o : Oper} {a : Act} {w : World} (ty : TypeId) (x : Operand) (ho : o.op = .load ty x) (g k : Nat) (S : Nat → Eqn) (hk : k < 8) (hx : a.eval x = .pointer (some ⟨g, k * 20, none⟩)) (d : TypeDesc) (hu : P.underlying ty = some d)
    (hd : (match d with | .struct _ | .array _ _ => true | _ => false) = true) (hi : (P.info? ty).map (·.size) = some 20) (t : TypeId) (hg : Str w g t (grC S)) : (execOp a.eval o).run P w = .ok (.value (.agg (eqC (S k)))) w :=
  exec_load_part ty x ho g (k * 20) 20 hx _ d hu hd hi fun _ hj => hg.cell _ (grC_get hk hj)

end Go.Proofs.Ytekpapodepachaa

/- What impl's elimination finds, by a walk of its text; conditions: as many shards as suffice, with different numbers and one to twelve values each. -/
namespace Go.Proofs.Ytekpapodepachaa
open Go.RowKit

set_option maxRecDepth 8000 in
set_option maxHeartbeats 2000000 in
theorem impl_solve (need cols : Nat) (L : List Sh) (v : Value) (fp : List Nat) (w : World) (hn1 : 1 ≤ need) (hn8 : need ≤ 8) (hlen : need ≤ L.length) (hc1 : 1 ≤ cols) (hc12 : cols ≤ 12) (hok : shsB cols L = true) (hr : Rd w (.l (L.map shardD)) v fp) :
    Calls Try.prog 36 #[.int .i64 (need : Int), v] w fun e w' => e = .returned (.agg (grC (stAt need (eqs0 need (xsOf L) (vsOf L) need) need))) ∧ Below w.heap.size w w' := by
  obtain ⟨a, cap, rfl⟩ := hr.slice
  rw [List.length_map] at *
  have Hr := Lib.hid hr; clear hr
  have Hok := Lib.hid hok; clear hok
  have hzv := fun w => run_zeroValue (P := Try.prog) (ty := 60) (v := .agg (grC fun _ _ => 0)) (by kernel_rfl) w
  go_enter Try.func36, Try.ntmps36
  go_wp2_with fail
  have hw1 : Str ((w.alloc (.cells (grC fun _ _ => 0) 60)).alloc (.cells (grC fun _ _ => 0) 60)) (w.heap.size + 1) 60 (grC (eqs0 need (xsOf L) (vsOf L) 0)) := by
    have := Str.new (w.alloc (.cells (grC fun _ _ => 0) 60)) 60 (grC fun _ _ => 0)
    simp only [World.size_alloc] at this
    rw [show grC (eqs0 need (xsOf L) (vsOf L) 0) = grC fun _ _ => 0 from grC_congr fun k c _ _ => by unfold eqs0; rw [if_neg (by omega)]]
    exact this
  have hw0 : Str ((w.alloc (.cells (grC fun _ _ => 0) 60)).alloc (.cells (grC fun _ _ => 0) 60)) w.heap.size 60 (grC fun _ _ => 0) := (Str.new w 60 (grC fun _ _ => 0)).alloc _
  have hwb : Below w.heap.size w ((w.alloc (.cells (grC fun _ _ => 0) 60)).alloc (.cells (grC fun _ _ => 0) 60)) := ((Below.refl _ w).alloc (Nat.le_refl _) _).alloc (by simp) _
  clear hzv
  generalize (w.alloc (.cells (grC fun _ _ => 0) 60)).alloc (.cells (grC fun _ _ => 0) 60) = W1 at *
  have Hw0 := Lib.hid hw0; clear hw0
  have Hw1 := Lib.hid hw1; clear hw1
  have Hwb := Lib.hid hwb; clear hwb
  go_loopw [10] (fun i wr => ∃ k : Nat, k ≤ need ∧ i = .int .i64 k ∧ Str wr w.heap.size 60 (grC fun _ _ => 0) ∧ Str wr (w.heap.size + 1) 60 (grC (eqs0 need (xsOf L) (vsOf L) k)) ∧ Below w.heap.size w wr) (fun i _ => need - (intOf i).toNat)
  case atStart => exact ⟨0, by omega, rfl, Hw0.out, Hw1.out, Hwb.out⟩
  case round =>
    obtain ⟨k, hk, rfl, s0, s1, hbel⟩ := hrel
    have hsz := s1.lt
    have Hs0 := Lib.hid s0; clear s0
    have Hs1 := Lib.hid s1; clear s1
    by_cases hlt : k < need
    · have hkL : k < L.length := by omega
      obtain ⟨g, off, rfl, hg, hat⟩ := shards_at (Hr.out.underB hbel (fun r hr => Hr.out.lt r hr)) (by omega)
      obtain ⟨av, cv, C0, C1, I1⟩ := hat k hkL
      have hsh := shsB_at Hok.out hkL
      have Hbel := Lib.hid hbel; clear hbel hat
      have Hstep := Lib.hid (eqs0_step need (xsOf L) (vsOf L) k)
      have hxk : xsOf L k = L[k].1 := by unfold xsOf; rw [getS hkL]
      have hvk : vsOf L k = L[k].2 := by unfold vsOf; rw [getS hkL]
      rw [hxk, hvk] at Hstep
      have hx := hsh.1.1
      have hvl := hsh.1.2.1
      clear hsh hxk hvk
      generalize L[k].1 = x at *
      generalize L[k].2 = vs at *
      have Hcall := Lib.hid (impl_equationOf need x av cv vs wr hn8 (by omega) (by omega) (by omega) (by omega) I1)
      have hxa := fun w' => run_indexAt_arr (P := Try.prog) (B := w.heap.size + 1) (o := 0) Try.underlying60 (s := 20) (by kernel_rfl) (show k < 8 by omega) w'
      rw [Nat.zero_add] at hxa
      clear hvl I1
      go_wp2_with fail
      refine Hcall.out.mono ?_
      rintro e w6 ⟨rfl, hb6⟩
      have Hs06 := Lib.hid ((hb6.block _ Hs0.out.lt).trans Hs0.out)
      have Hs16 := Lib.hid ((hb6.block _ Hs1.out.lt).trans Hs1.out)
      have Hb6 := Lib.hid (below_step Hbel.out Hbel.out.size hb6)
      have hsz6 := hb6.size
      clear hb6
      go_wp2_with (refine wpList_store_grid rfl 58 _ _ rfl (w.heap.size + 1) k (eqs0 need (xsOf L) (vsOf L) k) (eqOf need x vs) (by omega) rfl rfl 60 Hs16.out (by kernel_rfl) ?_; intro w8 hs8 hg8)
      rw [Hstep.out] at hs8
      have Hs8 := Lib.hid hs8; clear hs8
      go_roundw
      case rel => exact ⟨k + 1, by omega, by go_num, Str.kept Hs06.out hg8 (by simp), Hs8.out, Hb6.out.grown hg8 Hb6.out.size (fun g e => by cases e; omega)⟩
      case measure => simp [intOf]; omega
    · have hke : k = need := by omega
      subst hke
      have hS0b : Bd (eqs0 k (xsOf L) (vsOf L) k) := eqs0_bd fun j hj y hy => by
        have := (shsB_at Hok.out (show j < L.length by omega)).1.2.2 y
        unfold vsOf at hy; rw [getS (show j < L.length by omega)] at hy
        exact this hy
      have HS0b := Lib.hid hS0b; clear hS0b
      clear Hw1 Hw0
      generalize hS0 : eqs0 k (xsOf L) (vsOf L) k = S0 at *
      have HS0 := Lib.hid hS0; clear hS0
      have Hbel := Lib.hid hbel; clear hbel
      go_wp2_with fail
      go_loopw [23] (fun i wi => ∃ p : Nat, p ≤ k ∧ i = .int .i64 p ∧ Str wi w.heap.size 60 (grC fun _ _ => 0) ∧ Str wi (w.heap.size + 1) 60 (grC (stAt k S0 p)) ∧ Below w.heap.size w wi) (fun i _ => k - (intOf i).toNat)
      case atStart => exact ⟨0, by omega, rfl, Hs0.out, Hs1.out, Hbel.out⟩
      case round =>
        obtain ⟨p, hp, rfl, s0, s1, hbel⟩ := hrel
        clear Hs0 Hs1 Hbel
        have hsz := s1.lt
        have Hs0 := Lib.hid s0; clear s0
        have Hbel := Lib.hid hbel; clear hbel
        by_cases hlt : p < k
        · have hTb := stAt_bd HS0b.out k p
          have HE := Lib.hid (show elimTo (stAt k S0 p) p k = stAt k S0 (p + 1) from rfl)
          generalize stAt k S0 p = T at *
          have HTb := Lib.hid hTb; clear hTb
          have Hz := Lib.hid (elim_zero T p)
          have hxa := fun w' => run_indexAt_arr (P := Try.prog) (B := w.heap.size + 1) (o := 0) Try.underlying60 (s := 20) (by kernel_rfl) (show p < 8 by omega) w'
          have hxb := fun w' => run_indexAt_arr (P := Try.prog) (B := w.heap.size + 1) (o := p * 20) Try.underlying58 (s := 1) (by kernel_rfl) (show p < 20 by omega) w'
          rw [Nat.zero_add] at hxa
          rw [Nat.mul_one] at hxb
          go_wp2_with fail
          refine wp_region_L 12 (fun w' => Str w' (w.heap.size + 1) 60 (grC T)) (by kernel_rfl) s1 (fun hH => ?_)
          refine takeL 0 (v := ?va0) rfl (by kernel_rfl) (by kernel_rfl) (by kernel_rfl) (by kernel_rfl) (by kernel_rfl) (fun _ _ _ h => h) hH rfl ?ya0 ?ra0
          case ya0 => intro W hSw; go_simp; try with_reducible rfl
          try simp only [Act.put, List.setIfInBounds_toArray, List.set_cons_zero, List.set_cons_succ]
          refine takeL 1 (v := ?va1) rfl (by kernel_rfl) (by kernel_rfl) (by kernel_rfl) (by kernel_rfl) (by kernel_rfl) (fun _ _ _ h => h) hH rfl ?ya1 ?ra1
          case ya1 => intro W hSw; go_simp; try with_reducible rfl
          try simp only [Act.put, List.setIfInBounds_toArray, List.set_cons_zero, List.set_cons_succ]
          refine takeL 2 (v := ?va2) rfl (by kernel_rfl) (by kernel_rfl) (by kernel_rfl) (by kernel_rfl) (by kernel_rfl) (fun _ _ _ h => h) hH rfl ?ya2 ?ra2
          case ya2 => intro W hSw; go_simp; try with_reducible rfl
          try simp only [Act.put, List.setIfInBounds_toArray, List.set_cons_zero, List.set_cons_succ]
          refine takeL 3 (v := ?va3) rfl (by kernel_rfl) (by kernel_rfl) (by kernel_rfl) (by kernel_rfl) (by kernel_rfl) (fun _ _ _ h => h) hH rfl ?ya3 ?ra3
          case ya3 => intro W hSw; refine Eq.trans (exec_load_row 58 _ rfl (w.heap.size + 1) p T (by omega) rfl _ Try.underlying58 rfl (by kernel_rfl) 60 hSw) ?_; with_reducible rfl
          try simp only [Act.put, List.setIfInBounds_toArray, List.set_cons_zero, List.set_cons_succ]
          refine takeL 4 (v := ?va4) rfl (by kernel_rfl) (by kernel_rfl) (by kernel_rfl) (by kernel_rfl) (by kernel_rfl) (fun _ _ _ h => h) hH rfl ?ya4 ?ra4
          case ya4 => intro W hSw; go_simp; try with_reducible rfl
          try simp only [Act.put, List.setIfInBounds_toArray, List.set_cons_zero, List.set_cons_succ]
          refine takeL 5 (v := ?va5) rfl (by kernel_rfl) (by kernel_rfl) (by kernel_rfl) (by kernel_rfl) (by kernel_rfl) (fun _ _ _ h => h) hH rfl ?ya5 ?ra5
          case ya5 => intro W hSw; go_simp; try with_reducible rfl
          try simp only [Act.put, List.setIfInBounds_toArray, List.set_cons_zero, List.set_cons_succ]
          refine takeL 6 (v := ?va6) rfl (by kernel_rfl) (by kernel_rfl) (by kernel_rfl) (by kernel_rfl) (by kernel_rfl) (fun _ _ _ h => h) hH rfl ?ya6 ?ra6
          case ya6 => intro W hSw; go_simp; try with_reducible rfl
          try simp only [Act.put, List.setIfInBounds_toArray, List.set_cons_zero, List.set_cons_succ]
          refine takeL 7 (v := ?va7) rfl (by kernel_rfl) (by kernel_rfl) (by kernel_rfl) (by kernel_rfl) (by kernel_rfl) (fun _ _ _ h => h) hH rfl ?ya7 ?ra7
          case ya7 => intro W hSw; go_simp; try with_reducible rfl
          try simp only [Act.put, List.setIfInBounds_toArray, List.set_cons_zero, List.set_cons_succ]
          refine takeL 8 (v := ?va8) rfl (by kernel_rfl) (by kernel_rfl) (by kernel_rfl) (by kernel_rfl) (by kernel_rfl) (fun _ _ _ h => h) hH rfl ?ya8 ?ra8
          case ya8 => intro W hSw; have hcc := Str.cell hSw (p * 20 + p) (grC_get (S := T) (k := p) (c := p) (by omega) (by omega)); go_simp; try with_reducible rfl
          try simp only [Act.put, List.setIfInBounds_toArray, List.set_cons_zero, List.set_cons_succ]
          refine callL 9 rfl (by kernel_rfl) rfl (fun K hK => ?_)
          go_simp
          refine (impl_inverse (T p p) _ (HTb.out p p).1 (HTb.out p p).2).mono ?_
          rintro e w' ⟨rfl, rfl⟩
          dsimp only
          refine hK.out _ _ hH (fun hH => ?_)
          clear hK K
          try simp only [Act.put, List.setIfInBounds_toArray, List.set_cons_zero, List.set_cons_succ]
          refine callL 10 rfl (by kernel_rfl) rfl (fun K hK => ?_)
          go_simp
          refine (impl_times (T p) (invZ (T p p)) _ (HTb.out p) (powF_bd _ _).1 (powF_bd _ _).2).mono ?_
          rintro e w6 ⟨rfl, hb6⟩
          dsimp only
          have hwd : wr.drew.heap.size = wr.heap.size := rfl
          refine hK.out _ _ ((hb6.block _ (by omega)).trans hH) (fun hH => ?_)
          clear hK K
          try simp only [Act.put, List.setIfInBounds_toArray, List.set_cons_zero, List.set_cons_succ]
          have Hs06 := Lib.hid ((hb6.block _ (by omega)).trans Hs0.out)
          have Hb6 := Lib.hid (below_step Hbel.out.drew Hbel.out.size hb6)
          have hsz6 := hb6.size
          clear hb6
          refine takeL 11 (v := ?va11) rfl (by kernel_rfl) (by kernel_rfl) (by kernel_rfl) (by kernel_rfl) (by kernel_rfl) (fun _ _ _ h => h) hH rfl ?ya11 ?ra11
          case ya11 => intro W hSw; go_simp; try with_reducible rfl
          try simp only [Act.put, List.setIfInBounds_toArray, List.set_cons_zero, List.set_cons_succ]
          refine lastL rfl (by kernel_rfl) (by kernel_rfl) (by kernel_rfl) rfl (fun K hK => ?_)
          refine wp_store_grid 58 _ _ rfl (w.heap.size + 1) p T (tmsE (T p) (invZ (T p p))) (by omega) rfl rfl 60 hH (by kernel_rfl) ?_
          intro w8 hs8 hg8
          refine hK.out _ _ ?_
          clear hK K
          try simp only [Act.put]
          rw [Hz.out] at hs8
          have Hs8 := Lib.hid hs8; clear hs8
          have Hs08 := Lib.hid (Str.kept Hs06.out hg8 (by simp))
          have Hb8 := Lib.hid (Hb6.out.grown hg8 Hb6.out.size (fun g e => by cases e; omega))
          clear hg8 hH s1
          clear hxa hxb Hs06 Hb6
          go_wp2_with fail
          go_loopw [39] (fun i wj => ∃ j : Nat, j ≤ k ∧ i = .int .i64 j ∧ Str wj w.heap.size 60 (grC fun _ _ => 0) ∧ Str wj (w.heap.size + 1) 60 (grC (elimTo T p j)) ∧ Below w.heap.size w wj) (fun i _ => k - (intOf i).toNat)
          case atStart => exact ⟨0, by omega, rfl, Hs08.out, Hs8.out, Hb8.out⟩
          case round =>
            clear Hs8 Hs08 Hb8
            obtain ⟨j, hj, rfl, s0, s1, hbel⟩ := hrel
            have hszj := s1.lt
            have Hs0 := Lib.hid s0; clear s0
            have Hbel := Lib.hid hbel; clear hbel
            by_cases hjk : j < k
            · by_cases hjp : j = p
              · subst hjp
                rw [← elim_same] at s1
                have Hs1 := Lib.hid s1; clear s1
                go_wp2
                go_roundw
                case rel => exact ⟨j + 1, by omega, by go_num, Hs0.out, Hs1.out, Hbel.out⟩
                case measure => simp [intOf]; omega
              · have hq : ((j : Int) == (p : Int)) = false := by rw [beq_eq_false_iff_ne]; omega
                have hq' : ((j : Int) != (p : Int)) = true := by simp; omega
                have Hz := Lib.hid (elim_step (T := T) hjp)
                have hVb := elim_bd HTb.out p j
                generalize hV : elimTo T p j = V at *
                clear hV
                have HVb := Lib.hid hVb; clear hVb
                have hxj := fun w' => run_indexAt_arr (P := Try.prog) (B := w.heap.size + 1) (o := 0) Try.underlying60 (s := 20) (by kernel_rfl) (show j < 8 by omega) w'
                have hxp := fun w' => run_indexAt_arr (P := Try.prog) (B := w.heap.size + 1) (o := 0) Try.underlying60 (s := 20) (by kernel_rfl) (show p < 8 by omega) w'
                have hxb := fun w' => run_indexAt_arr (P := Try.prog) (B := w.heap.size + 1) (o := j * 20) Try.underlying58 (s := 1) (by kernel_rfl) (show p < 20 by omega) w'
                rw [Nat.zero_add] at hxj hxp
                rw [Nat.mul_one] at hxb
                clear hjp
                go_wp2_with fail
                refine wp_region_L 15 (fun w' => Str w' (w.heap.size + 1) 60 (grC V)) (by kernel_rfl) s1 (fun hH => ?_)
                refine takeL 0 (v := ?vb0) rfl (by kernel_rfl) (by kernel_rfl) (by kernel_rfl) (by kernel_rfl) (by kernel_rfl) (fun _ _ _ h => h) hH rfl ?yb0 ?rb0
                case yb0 => intro W hSw; go_simp; try with_reducible rfl
                try simp only [Act.put, List.setIfInBounds_toArray, List.set_cons_zero, List.set_cons_succ]
                refine takeL 1 (v := ?vb1) rfl (by kernel_rfl) (by kernel_rfl) (by kernel_rfl) (by kernel_rfl) (by kernel_rfl) (fun _ _ _ h => h) hH rfl ?yb1 ?rb1
                case yb1 => intro W hSw; go_simp; try with_reducible rfl
                try simp only [Act.put, List.setIfInBounds_toArray, List.set_cons_zero, List.set_cons_succ]
                refine takeL 2 (v := ?vb2) rfl (by kernel_rfl) (by kernel_rfl) (by kernel_rfl) (by kernel_rfl) (by kernel_rfl) (fun _ _ _ h => h) hH rfl ?yb2 ?rb2
                case yb2 => intro W hSw; go_simp; try with_reducible rfl
                try simp only [Act.put, List.setIfInBounds_toArray, List.set_cons_zero, List.set_cons_succ]
                refine takeL 3 (v := ?vb3) rfl (by kernel_rfl) (by kernel_rfl) (by kernel_rfl) (by kernel_rfl) (by kernel_rfl) (fun _ _ _ h => h) hH rfl ?yb3 ?rb3
                case yb3 => intro W hSw; refine Eq.trans (exec_load_row 58 _ rfl (w.heap.size + 1) j V (by omega) rfl _ Try.underlying58 rfl (by kernel_rfl) 60 hSw) ?_; with_reducible rfl
                try simp only [Act.put, List.setIfInBounds_toArray, List.set_cons_zero, List.set_cons_succ]
                refine takeL 4 (v := ?vb4) rfl (by kernel_rfl) (by kernel_rfl) (by kernel_rfl) (by kernel_rfl) (by kernel_rfl) (fun _ _ _ h => h) hH rfl ?yb4 ?rb4
                case yb4 => intro W hSw; go_simp; try with_reducible rfl
                try simp only [Act.put, List.setIfInBounds_toArray, List.set_cons_zero, List.set_cons_succ]
                refine takeL 5 (v := ?vb5) rfl (by kernel_rfl) (by kernel_rfl) (by kernel_rfl) (by kernel_rfl) (by kernel_rfl) (fun _ _ _ h => h) hH rfl ?yb5 ?rb5
                case yb5 => intro W hSw; go_simp; try with_reducible rfl
                try simp only [Act.put, List.setIfInBounds_toArray, List.set_cons_zero, List.set_cons_succ]
                refine takeL 6 (v := ?vb6) rfl (by kernel_rfl) (by kernel_rfl) (by kernel_rfl) (by kernel_rfl) (by kernel_rfl) (fun _ _ _ h => h) hH rfl ?yb6 ?rb6
                case yb6 => intro W hSw; refine Eq.trans (exec_load_row 58 _ rfl (w.heap.size + 1) p V (by omega) rfl _ Try.underlying58 rfl (by kernel_rfl) 60 hSw) ?_; with_reducible rfl
                try simp only [Act.put, List.setIfInBounds_toArray, List.set_cons_zero, List.set_cons_succ]
                refine takeL 7 (v := ?vb7) rfl (by kernel_rfl) (by kernel_rfl) (by kernel_rfl) (by kernel_rfl) (by kernel_rfl) (fun _ _ _ h => h) hH rfl ?yb7 ?rb7
                case yb7 => intro W hSw; go_simp; try with_reducible rfl
                try simp only [Act.put, List.setIfInBounds_toArray, List.set_cons_zero, List.set_cons_succ]
                refine takeL 8 (v := ?vb8) rfl (by kernel_rfl) (by kernel_rfl) (by kernel_rfl) (by kernel_rfl) (by kernel_rfl) (fun _ _ _ h => h) hH rfl ?yb8 ?rb8
                case yb8 => intro W hSw; go_simp; try with_reducible rfl
                try simp only [Act.put, List.setIfInBounds_toArray, List.set_cons_zero, List.set_cons_succ]
                refine takeL 9 (v := ?vb9) rfl (by kernel_rfl) (by kernel_rfl) (by kernel_rfl) (by kernel_rfl) (by kernel_rfl) (fun _ _ _ h => h) hH rfl ?yb9 ?rb9
                case yb9 => intro W hSw; go_simp; try with_reducible rfl
                try simp only [Act.put, List.setIfInBounds_toArray, List.set_cons_zero, List.set_cons_succ]
                refine takeL 10 (v := ?vb10) rfl (by kernel_rfl) (by kernel_rfl) (by kernel_rfl) (by kernel_rfl) (by kernel_rfl) (fun _ _ _ h => h) hH rfl ?yb10 ?rb10
                case yb10 => intro W hSw; go_simp; try with_reducible rfl
                try simp only [Act.put, List.setIfInBounds_toArray, List.set_cons_zero, List.set_cons_succ]
                refine takeL 11 (v := ?vb11) rfl (by kernel_rfl) (by kernel_rfl) (by kernel_rfl) (by kernel_rfl) (by kernel_rfl) (fun _ _ _ h => h) hH rfl ?yb11 ?rb11
                case yb11 => intro W hSw; have hcc := Str.cell hSw (j * 20 + p) (grC_get (S := V) (k := j) (c := p) (by omega) (by omega)); go_simp; try with_reducible rfl
                try simp only [Act.put, List.setIfInBounds_toArray, List.set_cons_zero, List.set_cons_succ]
                refine callL 12 rfl (by kernel_rfl) rfl (fun K hK => ?_)
                go_simp
                refine (impl_times (V p) (V j p) _ (HVb.out p) (HVb.out j p).1 (HVb.out j p).2).mono ?_
                rintro e w6 ⟨rfl, hb6⟩
                dsimp only
                have hwd : wr.drew.heap.size = wr.heap.size := rfl
                refine hK.out _ _ ((hb6.block _ (by omega)).trans hH) (fun hH => ?_)
                clear hK K
                try simp only [Act.put, List.setIfInBounds_toArray, List.set_cons_zero, List.set_cons_succ]
                have Hs06 := Lib.hid ((hb6.block _ (by omega)).trans Hs0.out)
                have Hb6 := Lib.hid (below_step Hbel.out.drew Hbel.out.size hb6)
                have hsz6 := hb6.size
                clear hb6
                refine callL 13 rfl (by kernel_rfl) rfl (fun K hK => ?_)
                go_simp
                refine (impl_without (V j) (tmsE (V p) (V j p)) _ (HVb.out j) (tms_bd _ _)).mono ?_
                rintro e w7 ⟨rfl, hb7⟩
                dsimp only
                refine hK.out _ _ ((hb7.block _ (by omega)).trans hH) (fun hH => ?_)
                clear hK K
                try simp only [Act.put, List.setIfInBounds_toArray, List.set_cons_zero, List.set_cons_succ]
                have Hs07 := Lib.hid ((hb7.block _ (by omega)).trans Hs06.out)
                have Hb7 := Lib.hid (below_step Hb6.out Hb6.out.size hb7)
                have hsz7 := hb7.size
                clear hb7
                refine takeL 14 (v := ?vb14) rfl (by kernel_rfl) (by kernel_rfl) (by kernel_rfl) (by kernel_rfl) (by kernel_rfl) (fun _ _ _ h => h) hH rfl ?yb14 ?rb14
                case yb14 => intro W hSw; go_simp; try with_reducible rfl
                try simp only [Act.put, List.setIfInBounds_toArray, List.set_cons_zero, List.set_cons_succ]
                refine lastL rfl (by kernel_rfl) (by kernel_rfl) (by kernel_rfl) rfl (fun K hK => ?_)
                refine wp_store_grid 58 _ _ rfl (w.heap.size + 1) j V (wthE (V j) (tmsE (V p) (V j p))) (by omega) rfl rfl 60 hH (by kernel_rfl) ?_
                intro w8 hs8 hg8
                refine hK.out _ _ ?_
                clear hK K
                try simp only [Act.put]
                rw [Hz.out] at hs8
                have Hs8 := Lib.hid hs8; clear hs8
                have Hs08 := Lib.hid (Str.kept Hs07.out hg8 (by simp))
                have Hb8 := Lib.hid (Hb7.out.grown hg8 Hb7.out.size (fun g e => by cases e; omega))
                clear hg8 hH s1 hxj hxp hxb
                go_wp2
                go_roundw
                case rel => exact ⟨j + 1, by omega, by go_num, Hs08.out, Hs8.out, Hb8.out⟩
                case measure => simp [intOf]; omega
            · have hjk' : j = k := by omega
              subst hjk'
              rw [HE.out] at s1
              have Hs1 := Lib.hid s1; clear s1
              go_wp2
              go_roundw
              case rel => exact ⟨p + 1, by omega, by go_num, Hs0.out, Hs1.out, Hbel.out⟩
              case measure => simp [intOf]; omega
        · have hpk : p = k := by omega
          subst hpk
          go_wp2_with (first
            | refine wpList_load_row rfl 60 _ rfl (w.heap.size + 1) rfl 60 (grC (stAt p S0 p)) (0, 0) _ s1 Try.underlying60 rfl (by rw [grC_size]; kernel_rfl) ?_
            | refine wpList_store_row rfl 60 _ _ rfl w.heap.size (grC (stAt p S0 p)) rfl rfl 60 (grC fun _ _ => 0) Hs0.out (by rw [grC_size]; kernel_rfl) (by rw [grC_size, grC_size]) (grC_one _) ?_)
          have sF := setRow_str Hs0.out (grC (stAt p S0 p))
          refine bodyPost_ret (results_cell_row rfl _ _ w.heap.size 60 (grC (stAt p S0 p)) (0, 0) _ rfl sF Try.underlying60 rfl (by rw [grC_size]; kernel_rfl)) rfl ⟨by rw [HS0.out], ?_⟩
          exact Hbel.out.grown (grownBy_setRow wr _ _) Hbel.out.size (fun g e => by cases e; omega)

end Go.Proofs.Ytekpapodepachaa

/- The library's test whether two lists of ints are the same, and its copy of a list of ints, by walks of their texts; conditions: the lists have fewer than 2^40 elements. -/
namespace Go.Proofs.Ytekpapodepachaa
open Go.RowKit

def EqTo (xs ys : List Int) (k : Nat) : Prop := ∀ j (h : j < xs.length) (h' : j < ys.length), j < k → xs[j] = ys[j]
theorem eqTo_step {xs ys : List Int} {k : Nat} (h : EqTo xs ys k) (hk : k < xs.length) (hk' : k < ys.length) (e : xs[k] = ys[k]) : EqTo xs ys (k + 1) := by
  intro j hj hj' hjk
  by_cases ej : j = k
  · subst ej; exact e
  · exact h j hj hj' (by omega)
theorem eqTo_all {xs ys : List Int} {k : Nat} (h : EqTo xs ys k) (hk : xs.length ≤ k) (hl : xs.length = ys.length) : xs = ys :=
  List.ext_getElem hl fun j h1 h2 => h j h1 h2 (by omega)

theorem lib_Equal (a a' : Option Addr) (c c' : Nat) (xs ys : List Int) (w : World) (hbig : xs.length ≤ 1099511627776) (hbig' : ys.length ≤ 1099511627776) (hc : IntsAt w a xs) (hc' : IntsAt w a' ys) :
    Calls Try.prog 45 #[.slice a xs.length c, .slice a' ys.length c'] w fun e w' => e = .returned (.bool (decide (xs = ys))) ∧ Drawn w w' := by
  by_cases hl : xs.length = ys.length
  · rcases hc.len with h0 | ⟨b, off, rfl, hb, hc⟩
    · have Hf := Lib.hid (show decide (xs = ys) = true from decide_eq_true (List.ext_getElem hl fun j h1 h2 => by omega))
      have hl0 : xs.length = 0 := by omega
      rw [← hl, hl0]
      go_enter Try.func45, Try.ntmps45
      go_wp2
      go_loopw [13] (fun i wr => i = .int .i64 0 ∧ Drawn w wr) (fun _ _ => 0)
      case atStart => exact ⟨rfl, Drawn.refl _⟩
      case round =>
        obtain ⟨rfl, hdr⟩ := hrel
        go_wp2
        go_ret
        exact ⟨ret_bool Hf.out.symm, hdr⟩
    · rcases hc'.len with h0 | ⟨b', off', rfl, hb', hc'⟩
      · have Hf := Lib.hid (show decide (xs = ys) = true from decide_eq_true (List.ext_getElem hl fun j h1 h2 => by omega))
        have hl0 : xs.length = 0 := by omega
        rw [← hl, hl0]
        go_enter Try.func45, Try.ntmps45
        go_wp2
        go_loopw [13] (fun i wr => i = .int .i64 0 ∧ Drawn w wr) (fun _ _ => 0)
        case atStart => exact ⟨rfl, Drawn.refl _⟩
        case round =>
          obtain ⟨rfl, hdr⟩ := hrel
          go_wp2
          go_ret
          exact ⟨ret_bool Hf.out.symm, hdr⟩
      have Hl := Lib.hid hl
      rw [← hl]
      clear hl
      have Hc := Lib.hid hc; clear hc
      have Hc' := Lib.hid hc'; clear hc'
      go_enter Try.func45, Try.ntmps45
      go_wp2
      go_loopw [13] (fun i wr => ∃ k : Nat, k ≤ xs.length ∧ i = .int .i64 k ∧ EqTo xs ys k ∧ Drawn w wr) (fun i _ => xs.length - (intOf i).toNat)
      case atStart => exact ⟨0, by omega, rfl, fun j _ _ h => by omega, Drawn.refl _⟩
      case round =>
        obtain ⟨k, hk, rfl, heq, hdr⟩ := hrel
        have Heq := Lib.hid heq; clear heq
        by_cases hlt : k < xs.length
        · have hlt' : k < ys.length := by have := Hl.out; omega
          have c1 := (hdr.cell _).trans (Hc.out k hlt)
          have c2 := (hdr.cell _).trans (Hc'.out k hlt')
          by_cases he : xs[k] = ys[k]
          · have Hs := Lib.hid (eqTo_step Heq.out hlt hlt' he)
            rw [← he] at c2
            clear he
            generalize xs[k] = x at *
            go_wp2_with fail
            go_quiet (fail)
            go_wp2
            go_roundw
            case rel => exact ⟨k + 1, by omega, by go_num, Hs.out, hdr.drewN _⟩
            case measure => simp [intOf]; omega
          · have Hf := Lib.hid (show decide (xs = ys) = false from decide_eq_false fun e => he (by subst e; rfl))
            have hq : (xs[k] != ys[k]) = true := by simpa using he
            clear he
            generalize xs[k] = x at *
            generalize ys[k] = y at *
            go_wp2_with fail
            go_quiet (fail)
            go_wp2
            go_ret
            exact ⟨ret_bool Hf.out.symm, hdr.drewN _⟩
        · have Hf := Lib.hid (show decide (xs = ys) = true from decide_eq_true (eqTo_all Heq.out (by omega) Hl.out))
          go_wp2
          go_ret
          exact ⟨ret_bool Hf.out.symm, hdr⟩
  · have Hf := Lib.hid (show decide (xs = ys) = false from decide_eq_false fun e => hl (by rw [e]))
    have hq : ((xs.length : Int) != (ys.length : Int)) = true := by simp; omega
    clear hc hc'
    go_enter Try.func45, Try.ntmps45
    go_wp2
    go_ret
    exact ⟨ret_bool Hf.out.symm, Drawn.refl _⟩

end Go.Proofs.Ytekpapodepachaa

/- Whether a shard belongs to data, as impl reckons it, by a walk of its text; conditions: a list that is read has fewer than 2^40 elements and fits its capacity, the numbers are ints. -/
namespace Go.Proofs.Ytekpapodepachaa
open Go.RowKit

theorem matB_no1 {d : List Int} {need : Int} {s : Sh} (h : isdB d = false) : matB d need s = false := by unfold matB; rw [isdB_data, h]; rfl
theorem matB_no2 {d : List Int} {need : Int} {s : Sh} (h : ¬ (1 ≤ need ∧ need ≤ 8)) : matB d need s = false := by unfold matB; rw [isdB_data, decide_eq_false h, Bool.and_false]; rfl
theorem matB_no3 {d : List Int} {need : Int} {s : Sh} (h : ¬ (1 ≤ s.1 ∧ s.1 ≤ 8)) : matB d need s = false := by unfold matB; rw [decide_eq_false h, Bool.and_false]; rfl
theorem matB_yes {d : List Int} {need : Nat} {s : Sh} (h : dataB d need = true) (h' : 1 ≤ s.1 ∧ s.1 ≤ 8) : matB d need s = decide (shardV d need s.1 = s.2) := by unfold matB; rw [h, decide_eq_true h']; rfl

theorem sh_field (x : Int) (a : Option Addr) (n c : Nat) (W : World) : (Instr.field 49 (.agg #[.int .i64 x, .slice a n c]) 1).run Try.prog W = .ok (.slice a n c) W := by kernel_rfl

theorem impl_ShardMatches (a : Option Addr) (cap : Nat) (d : List Int) (need x : Int) (av : Option Addr) (cv : Nat) (vs : List Int) (w : World) (hbig : d.length ≤ 1099511627776) (hcap : d.length ≤ cap) (hvbig : vs.length ≤ 1099511627776) (hc : IntsAt w a d) (hv : IntsAt w av vs) :
    Calls Try.prog 37 #[.slice a d.length cap, .int .i64 need, .agg #[.int .i64 x, .slice av vs.length cv]] w fun e w' => e = .returned (.bool (matB d need (x, vs))) ∧ Below w.heap.size w w' := by
  have hb0 : Below w.heap.size w (w.alloc (.cells #[.int .i64 x, .slice av vs.length cv] 49)) := (Below.refl _ _).alloc (Nat.le_refl _) _
  have hdt := impl_isData a cap d _ hbig (hc.below hb0)
  have hnm := fun w => impl_isShardNumber need w
  have hxm := fun w => impl_isShardNumber x w
  cases hd : isdB d with
  | false =>
    rw [hd] at hdt
    have Hdt := Lib.hid hdt; clear hdt
    have Hf := Lib.hid (matB_no1 (need := need) (s := (x, vs)) hd)
    clear hd hc hv hnm hxm
    go_enter Try.func37, Try.ntmps37
    go_wp2_with fail
    refine Hdt.out.mono ?_
    rintro e w' ⟨rfl, rfl⟩
    go_wp2
    go_ret
    exact ⟨ret_bool Hf.out.symm, hb0⟩
  | true =>
    rw [hd] at hdt
    have Hdt := Lib.hid hdt; clear hdt
    by_cases hN : 1 ≤ need ∧ need ≤ 8
    · rw [decide_eq_true hN] at hnm
      have Hnm := Lib.hid hnm; clear hnm
      by_cases hX : 1 ≤ x ∧ x ≤ 8
      · rw [decide_eq_true hX] at hxm
        have Hxm := Lib.hid hxm; clear hxm
        obtain ⟨need, rfl⟩ := Int.eq_ofNat_of_zero_le (show 0 ≤ need by omega)
        have hdB : dataB d need = true := by rw [isdB_data, hd, decide_eq_true hN]; rfl
        obtain ⟨hsym, ⟨hd1, hd2⟩, _, _⟩ := dataB_iff hdB
        have Hf := Lib.hid (matB_yes (s := (x, vs)) hdB hX)
        have Hsh := Lib.hid (fun W h => impl_shardOf a cap d need x W hsym hd2 (by omega) (by omega) (by omega) (by omega) hcap h)
        have hcol := cols_le (d := d) (need := need) (by omega) hd2
        have hsv : (shardV d need x).length ≤ 12 := by rw [shardV_len]; exact hcol
        clear hd hdB hsym
        have S0 := Str.new w 49 #[.int .i64 x, .slice av vs.length cv]
        have Hc := Lib.hid (hc.below hb0); clear hc
        have Hv := Lib.hid (hv.below hb0); clear hv
        have Hb0 := Lib.hid hb0; clear hb0
        have hsz1 : w.heap.size < (w.alloc (.cells #[.int .i64 x, .slice av vs.length cv] 49)).heap.size := by simp
        have e0 := S0.cell 0 (v := .int .i64 x) rfl
        have e1 := S0.cell 1 (v := .slice av vs.length cv) rfl
        go_enter Try.func37, Try.ntmps37
        go_wp2_with fail
        refine Hdt.out.mono ?_
        rintro e w' ⟨rfl, rfl⟩
        go_wp2_with fail
        refine (Hnm.out _).mono ?_
        rintro e w' ⟨rfl, rfl⟩
        go_wp2_with fail
        refine (Hxm.out _).mono ?_
        rintro e w' ⟨rfl, rfl⟩
        go_wp2_with fail
        clear Hdt Hnm Hxm S0
        generalize w.alloc (.cells #[.int .i64 x, .slice av vs.length cv] 49) = W1 at *
        refine wp_region_held_drew (S := fun w' => w'.cell? ⟨w.heap.size, 0, none⟩ = some (.int .i64 x) ∧ w'.cell? ⟨w.heap.size, 1, none⟩ = some (.slice av vs.length cv)) (by kernel_rfl) ⟨e0, e1⟩ (fun hH => ?_)
        refine takeH 0 (v := ?vm0) rfl (by kernel_rfl) (by kernel_rfl) (by kernel_rfl) (fun _ _ _ h => h) hH rfl ?ym0 ?rm0
        case ym0 => intro W hSw; go_simp; try with_reducible rfl
        try simp only [Act.put, List.setIfInBounds_toArray, List.set_cons_zero, List.set_cons_succ]
        refine takeH 1 (v := ?vm1) rfl (by kernel_rfl) (by kernel_rfl) (by kernel_rfl) (fun _ _ _ h => h) hH rfl ?ym1 ?rm1
        case ym1 => intro W hSw; go_simp; try with_reducible rfl
        try simp only [Act.put, List.setIfInBounds_toArray, List.set_cons_zero, List.set_cons_succ]
        refine takeH 2 (v := ?vm2) rfl (by kernel_rfl) (by kernel_rfl) (by kernel_rfl) (fun _ _ _ h => h) hH rfl ?ym2 ?rm2
        case ym2 => intro W hSw; go_simp; try with_reducible rfl
        try simp only [Act.put, List.setIfInBounds_toArray, List.set_cons_zero, List.set_cons_succ]
        refine takeH 3 (v := ?vm3) rfl (by kernel_rfl) (by kernel_rfl) (by kernel_rfl) (fun _ _ _ h => h) hH rfl ?ym3 ?rm3
        case ym3 => intro W hSw; go_simp; try with_reducible rfl
        try simp only [Act.put, List.setIfInBounds_toArray, List.set_cons_zero, List.set_cons_succ]
        refine takeH 6 (v := ?vm6) rfl (by kernel_rfl) (by kernel_rfl) (by kernel_rfl) (fun _ _ _ h => h) hH rfl ?ym6 ?rm6
        case ym6 => intro W hSw; go_simp; try with_reducible rfl
        try simp only [Act.put, List.setIfInBounds_toArray, List.set_cons_zero, List.set_cons_succ]
        refine takeH 7 (v := ?vm7) rfl (by kernel_rfl) (by kernel_rfl) (by kernel_rfl) (fun _ _ _ h => h) hH rfl ?ym7 ?rm7
        case ym7 => intro W hSw; go_simp; try with_reducible rfl
        try simp only [Act.put, List.setIfInBounds_toArray, List.set_cons_zero, List.set_cons_succ]
        refine callH 4 rfl (by kernel_rfl) rfl (fun K hK => ?_)
        go_simp
        refine (Hsh.out W1.drew Hc.out).mono ?_
        rintro e w6 ⟨v6, rfl, hown, hb6⟩
        obtain ⟨a6, c6, rfl, hi6, _⟩ := hown.ints
        dsimp only
        have hwd : W1.drew.heap.size = W1.heap.size := rfl
        refine hK.out _ _ ⟨(hb6.cell (p := ⟨w.heap.size, 0, none⟩) (by simp only; omega)).trans hH.1, (hb6.cell (p := ⟨w.heap.size, 1, none⟩) (by simp only; omega)).trans hH.2⟩ (fun hH => ?_)
        clear hK K
        try simp only [Act.put, List.setIfInBounds_toArray, List.set_cons_zero, List.set_cons_succ]
        have Hi6 := Lib.hid hi6; clear hi6
        have Hv6 := Lib.hid (IntsAt.below (w := W1.drew) Hv.out hb6)
        have Hb6 := Lib.hid (below_step Hb0.out.drew Hb0.out.size hb6)
        clear hb6 hown
        have hfd := fun W => sh_field x a6 (shardV d need x).length c6 W
        refine takeH 5 (v := ?vm5) rfl (by kernel_rfl) (by kernel_rfl) (by kernel_rfl) (fun _ _ _ h => h) hH rfl ?ym5 ?rm5
        case ym5 => intro W hSw; go_simp; try with_reducible rfl
        try simp only [Act.put, List.setIfInBounds_toArray, List.set_cons_zero, List.set_cons_succ]
        refine callH 8 rfl (by kernel_rfl) rfl (fun K hK => ?_)
        go_simp
        refine (lib_Equal a6 av c6 cv (shardV d need x) vs _ (by omega) (by omega) Hi6.out Hv6.out).mono ?_
        rintro e w7 ⟨rfl, hdr⟩
        dsimp only
        refine hK.out _ _ ⟨(hdr.cell _).trans hH.1, (hdr.cell _).trans hH.2⟩ (fun hH => ?_)
        clear hK K
        try simp only [Act.put, List.setIfInBounds_toArray, List.set_cons_zero, List.set_cons_succ]
        refine takeH 9 (v := ?vm9) rfl (by kernel_rfl) (by kernel_rfl) (by kernel_rfl) (fun _ _ _ h => h) hH rfl ?ym9 ?rm9
        case ym9 => intro W hSw; go_simp; try with_reducible rfl
        try simp only [Act.put, List.setIfInBounds_toArray, List.set_cons_zero, List.set_cons_succ]
        refine wpAnyH_done (by kernel_rfl) ?_ _
        try simp only [Act.put]
        go_wp2
        go_ret
        exact ⟨ret_bool Hf.out.symm, below_step Hb6.out Hb6.out.size (hdr.below _)⟩
      · rw [decide_eq_false hX] at hxm
        have Hxm := Lib.hid hxm; clear hxm
        have Hf := Lib.hid (matB_no3 (d := d) (need := need) (s := (x, vs)) hX)
        clear hd hc hv
        go_enter Try.func37, Try.ntmps37
        go_wp2_with fail
        refine Hdt.out.mono ?_
        rintro e w' ⟨rfl, rfl⟩
        go_wp2_with fail
        refine (Hnm.out _).mono ?_
        rintro e w' ⟨rfl, rfl⟩
        go_wp2_with fail
        refine (Hxm.out _).mono ?_
        rintro e w' ⟨rfl, rfl⟩
        go_wp2
        go_ret
        exact ⟨ret_bool Hf.out.symm, hb0⟩
    · rw [decide_eq_false hN] at hnm
      have Hnm := Lib.hid hnm; clear hnm
      have Hf := Lib.hid (matB_no2 (d := d) (s := (x, vs)) hN)
      clear hd hc hv hxm
      go_enter Try.func37, Try.ntmps37
      go_wp2_with fail
      refine Hdt.out.mono ?_
      rintro e w' ⟨rfl, rfl⟩
      go_wp2_with fail
      refine (Hnm.out _).mono ?_
      rintro e w' ⟨rfl, rfl⟩
      go_wp2
      go_ret
      exact ⟨ret_bool Hf.out.symm, hb0⟩

end Go.Proofs.Ytekpapodepachaa

/- What impl's join of shards is, by a walk of its text; conditions: the lists are short, the numbers are ints. -/
namespace Go.Proofs.Ytekpapodepachaa
open Go.RowKit

theorem join_no {size need : Int} {L : List Sh} (h : joinOk size need L = false) : joinB size need L = false ∧ joinD size need L = [] := by
  have : joinB size need L = false := by unfold joinB; rw [h]; rfl
  exact ⟨this, by unfold joinD; rw [if_neg (by simp [this])]⟩
theorem join_yes {size need : Int} {L : List Sh} (h : joinOk size need L = true) (h' : L.all (matB (dataI size.toNat need.toNat L) need) = true) : joinB size need L = true ∧ joinD size need L = dataI size.toNat need.toNat L := by
  have : joinB size need L = true := by unfold joinB; rw [h, h']; rfl
  exact ⟨this, by unfold joinD; rw [if_pos this]⟩
theorem join_bad {size need : Int} {L : List Sh} (h' : L.all (matB (dataI size.toNat need.toNat L) need) = false) : joinB size need L = false ∧ joinD size need L = [] := by
  have : joinB size need L = false := by unfold joinB; rw [h', Bool.and_false]
  exact ⟨this, by unfold joinD; rw [if_neg (by simp [this])]⟩
def matAt (d : List Int) (need : Int) (L : List Sh) (k : Nat) : Bool := matB d need (L.getD k (0, []))
theorem mat_all {d : List Int} {need : Int} {L : List Sh} {k : Nat} (h : Upto (matAt d need L) k) (hk : L.length ≤ k) : L.all (matB d need) = true := by
  rw [List.all_eq_true]
  intro s hs
  obtain ⟨j, hj, rfl⟩ := List.mem_iff_getElem.1 hs
  have := h j (by omega)
  unfold matAt at this
  rwa [getS hj] at this
theorem mat_no {d : List Int} {need : Int} {L : List Sh} {k : Nat} (hk : k < L.length) (h : matB d need L[k] = false) : L.all (matB d need) = false := by
  rw [List.all_eq_false]; exact ⟨L[k], List.getElem_mem hk, by simp [h]⟩
theorem ownE (E : TypeId) (w : World) : Own E (w.alloc (.cells #[] E)) w.heap.size (.slice (some ⟨w.heap.size, 0, none⟩) 0 0) [] := own_empty E w (Nat.le_refl _)

set_option maxHeartbeats 2000000 in
theorem impl_ShardJoin (size need : Int) (L : List Sh) (v : Value) (fp : List Nat) (w : World) (hbig : L.length ≤ 1048576) (hin : ∀ s ∈ L, s.2.length ≤ 1048576) (hr : Rd w (.l (L.map shardD)) v fp) :
    Calls Try.prog 26 #[.int .i64 size, .int .i64 need, v] w fun e w' => ∃ u, e = .returned (.tuple #[u, .bool (joinB size need L)]) ∧ Own 3 w' w.heap.size u (joinD size need L) ∧ Below w.heap.size w w' := by
  obtain ⟨a, cap, rfl⟩ := hr.slice
  rw [List.length_map] at *
  have Hr := Lib.hid hr; clear hr
  have Hin := Lib.hid hin; clear hin
  have hds := fun w => impl_isDataSize size w
  have hnm := fun w => impl_isShardNumber need w
  by_cases hS : 1 ≤ size ∧ size ≤ 12
  · rw [decide_eq_true hS] at hds
    have Hds := Lib.hid hds; clear hds
    by_cases hN : 1 ≤ need ∧ need ≤ 8
    · rw [decide_eq_true hN] at hnm
      have Hnm := Lib.hid hnm; clear hnm
      obtain ⟨size, rfl⟩ := Int.eq_ofNat_of_zero_le (show 0 ≤ size by omega)
      obtain ⟨need, rfl⟩ := Int.eq_ofNat_of_zero_le (show 0 ≤ need by omega)
      have has := impl_areShards size need L _ fp w (by omega) (by omega) (by omega) (by omega) hbig Hin.out Hr.out
      cases hA : (lenB need L && shsB ((size + need - 1) / need) L) with
      | false =>
        rw [hA] at has
        have Has := Lib.hid has; clear has
        have Hf := Lib.hid (join_no (size := size) (need := need) (L := L) (by unfold joinOk; simp only [Int.toNat_natCast]; rw [hA, Bool.and_false]))
        clear hA
        go_enter Try.func26, Try.ntmps26
        go_wp2_with fail
        refine (Hds.out _).mono ?_
        rintro e w' ⟨rfl, rfl⟩
        go_wp2_with fail
        refine (Hnm.out _).mono ?_
        rintro e w' ⟨rfl, rfl⟩
        go_wp2_with fail
        refine Has.out.mono ?_
        rintro e w1 ⟨rfl, hb1⟩
        have Hb1 := Lib.hid hb1; clear hb1
        have hs1 := Hb1.out.size
        go_wp2
        refine bodyPost_ret (v := .tuple #[.slice (some ⟨w1.heap.size, 0, none⟩) 0 0, .bool false]) (by simp [results, Try.f26, go_sem]) rfl ?_
        rw [Hf.out.1, Hf.out.2]
        exact ⟨_, rfl, (ownE 3 w1).mono hs1, Hb1.out.alloc hs1 _⟩
      | true =>
        rw [hA] at has
        have Has := Lib.hid has; clear has
        obtain ⟨hl, hsh⟩ := Bool.and_eq_true_iff.1 hA
        unfold lenB at hl
        rw [decide_eq_true_eq] at hl
        have hJ : joinOk size need L = true := by unfold joinOk lenB; simp only [Int.toNat_natCast]; rw [hsh, decide_eq_true hS, decide_eq_true hN, decide_eq_true hl]; rfl
        have hcols1 : 1 ≤ (size + need - 1) / need := (Nat.le_div_iff_mul_le (by omega)).2 (by omega)
        have hcols2 : (size + need - 1) / need ≤ 12 := by
          have := cols_le (d := List.replicate size 0) (need := need) (by omega) (by simp; omega)
          unfold colsN at this; rwa [List.length_replicate] at this
        have Hsol := Lib.hid (fun W (h : Rd W (.l (L.map shardD)) (.slice a L.length cap) fp) => impl_solve need _ L _ fp W (by omega) (by omega) (by omega) hcols1 hcols2 hsh h)
        have hDat : dataI size need L = (List.range size).map fun i => stAt need (eqs0 need (xsOf L) (vsOf L) need) need (i % need) (8 + i / need) := rfl
        have HDat := Lib.hid hDat; clear hDat
        have HJ := Lib.hid hJ; clear hJ hA hsh hcols1 hcols2
        generalize hG : stAt need (eqs0 need (xsOf L) (vsOf L) need) need = G at *
        clear hG
        have hzv := fun w => run_zeroValue (P := Try.prog) (ty := 60) (v := .agg (grC fun _ _ => 0)) (by kernel_rfl) w
        go_enter Try.func26, Try.ntmps26
        go_wp2_with fail
        refine (Hds.out _).mono ?_
        rintro e w' ⟨rfl, rfl⟩
        go_wp2_with fail
        refine (Hnm.out _).mono ?_
        rintro e w' ⟨rfl, rfl⟩
        go_wp2_with fail
        refine Has.out.mono ?_
        rintro e w1 ⟨rfl, hb1⟩
        have Hb1 := Lib.hid hb1
        have hs1 := Hb1.out.size
        have Hr1 := Lib.hid (Hr.out.under hb1); clear hb1
        go_wp2_with fail
        refine (Hsol.out _ Hr1.out).mono ?_
        rintro e w2 ⟨rfl, hb2⟩
        have Hb2 := Lib.hid (below_step Hb1.out hs1 hb2)
        have hs2 := hb2.size
        have Hr2 := Lib.hid (Hr1.out.under hb2); clear hb2
        go_wp2_with (refine wpList_store_row rfl 60 _ _ rfl w2.heap.size (grC G) rfl rfl 60 (grC fun _ _ => 0) (Str.new w2 60 (grC fun _ _ => 0)) (by rw [grC_size]; kernel_rfl) (by rw [grC_size, grC_size]) (grC_one _) ?_)
        have hg3 : Str (((w2.alloc (.cells (grC fun _ _ => 0) 60)).setRow w2.heap.size (grC G)).alloc (.cells #[] 3)) w2.heap.size 60 (grC G) := (setRow_str (Str.new w2 60 (grC fun _ _ => 0)) (grC G)).alloc _
        have hz3 : ((w2.alloc (.cells (grC fun _ _ => 0) 60)).setRow w2.heap.size (grC G)).heap.size = w2.heap.size + 1 := by simp [World.setRow]
        have ho3 := ownE 3 ((w2.alloc (.cells (grC fun _ _ => 0) 60)).setRow w2.heap.size (grC G))
        have hb3 : Below w2.heap.size w2 (((w2.alloc (.cells (grC fun _ _ => 0) 60)).setRow w2.heap.size (grC G)).alloc (.cells #[] 3)) := (((Below.refl _ w2).alloc (Nat.le_refl _) _).grown (grownBy_setRow _ _ _) (by simp) (fun g e => by cases e; omega)).alloc (by rw [hz3]; omega) _
        rw [hz3] at ho3
        clear hz3 hzv
        generalize ((w2.alloc (.cells (grC fun _ _ => 0) 60)).setRow w2.heap.size (grC G)).alloc (.cells #[] 3) = W3 at *
        have Hg3 := Lib.hid hg3; clear hg3
        have Ho3 := Lib.hid ho3; clear ho3
        have Hb3 := Lib.hid hb3; clear hb3
        have hdl := dataI_len size need L
        have Hdl := Lib.hid hdl; clear hdl
        go_loopw [9, 34] (fun v i wr => ∃ k : Nat, k ≤ size ∧ i = .int .i64 k ∧ Own 3 wr (w2.heap.size + 1) v ((dataI size need L).take k) ∧ Str wr w2.heap.size 60 (grC G) ∧ Below w2.heap.size w2 wr) (fun _ i _ => size - (intOf i).toNat)
        case atStart => exact ⟨0, by omega, rfl, Ho3.out, Hg3.out, Hb3.out⟩
        case round =>
          obtain ⟨k, hk, rfl, hown, hg, hbel⟩ := hrel
          have hsz := hg.lt
          have Hbel := Lib.hid hbel; clear hbel
          by_cases hlt : k < size
          · have hr8 : k % need < need := Nat.mod_lt _ (by omega)
            have hq12 : k / need < 12 := div_lt12 (by omega) hlt (by omega)
            have Hz := Lib.hid (show (dataI size need L).take (k + 1) = (dataI size need L).take k ++ [G (k % need) (8 + k / need)] by
              rw [List.take_succ_eq_append_getElem (by rw [Hdl.out]; exact hlt)]
              congr 1
              simp only [HDat.out, List.getElem_map, List.getElem_range])
            have hzl := Lib.hid (show ((dataI size need L).take k).length ≤ 1099511627776 by rw [List.length_take, Hdl.out]; omega)
            have hme : ((k : Int)).tmod (need : Int) = ((k % need : Nat) : Int) := by rw [Int.tmod_eq_emod_of_nonneg (by omega)]; exact (Int.natCast_emod _ _).symm
            have hde : ((k : Int)).tdiv (need : Int) = ((k / need : Nat) : Int) := by rw [Int.tdiv_eq_ediv_of_nonneg (by omega)]; exact (Int.natCast_ediv _ _).symm
            generalize k % need = r at *
            generalize k / need = q at *
            obtain ⟨m, hm⟩ : ∃ m : Nat, 8 + q = m := ⟨_, rfl⟩
            rw [hm] at Hz
            have hm20 : m < 20 := by omega
            have hw1 : IntKind.i64.wrap (q : Int) = (q : Int) := IntWalk.i64_in _ (by omega)
            have hw2 : IntKind.i64.wrap (8 + (q : Int)) = (m : Int) := by rw [IntWalk.i64_in _ (by omega)]; omega
            have hx1 := fun W => run_indexAt_arr (P := Try.prog) (B := w2.heap.size) (o := 0) Try.underlying60 (s := 20) (by kernel_rfl) (show r < 8 by omega) W
            have hx2 := fun W => run_indexAt_arr (P := Try.prog) (B := w2.heap.size) (o := r * 20) Try.underlying58 (s := 1) (by kernel_rfl) hm20 W
            rw [Nat.zero_add] at hx1
            rw [Nat.mul_one] at hx2
            clear hm
            generalize (dataI size need L).take k = zs at hown Hz hzl
            go_wp2_with fail
            refine wp_region_held_drew (S := fun w' => Str w' w2.heap.size 60 (grC G)) (by kernel_rfl) hg (fun hH => ?_)
            refine takeH 0 (v := ?vj0) rfl (by kernel_rfl) (by kernel_rfl) (by kernel_rfl) (fun _ _ _ h => h) hH rfl ?yj0 ?rj0
            case yj0 => intro W hSw; go_simp; try with_reducible rfl
            try simp only [Act.put, List.setIfInBounds_toArray, List.set_cons_zero, List.set_cons_succ]
            refine takeH 1 (v := ?vj1) rfl (by kernel_rfl) (by kernel_rfl) (by kernel_rfl) (fun _ _ _ h => h) hH rfl ?yj1 ?rj1
            case yj1 => intro W hSw; go_simp; try with_reducible rfl
            try simp only [Act.put, List.setIfInBounds_toArray, List.set_cons_zero, List.set_cons_succ]
            refine takeH 2 (v := ?vj2) rfl (by kernel_rfl) (by kernel_rfl) (by kernel_rfl) (fun _ _ _ h => h) hH rfl ?yj2 ?rj2
            case yj2 => intro W hSw; go_simp; try with_reducible rfl
            try simp only [Act.put, List.setIfInBounds_toArray, List.set_cons_zero, List.set_cons_succ]
            refine takeH 3 (v := ?vj3) rfl (by kernel_rfl) (by kernel_rfl) (by kernel_rfl) (fun _ _ _ h => h) hH rfl ?yj3 ?rj3
            case yj3 => intro W hSw; go_simp; rw [if_neg (show ¬ need = 0 by omega)]
            try simp only [Act.put, List.setIfInBounds_toArray, List.set_cons_zero, List.set_cons_succ]
            refine takeH 4 (v := ?vj4) rfl (by kernel_rfl) (by kernel_rfl) (by kernel_rfl) (fun _ _ _ h => h) hH rfl ?yj4 ?rj4
            case yj4 => intro W hSw; go_simp; try with_reducible rfl
            try simp only [Act.put, List.setIfInBounds_toArray, List.set_cons_zero, List.set_cons_succ]
            refine takeH 5 (v := ?vj5) rfl (by kernel_rfl) (by kernel_rfl) (by kernel_rfl) (fun _ _ _ h => h) hH rfl ?yj5 ?rj5
            case yj5 => intro W hSw; go_simp; try with_reducible rfl
            try simp only [Act.put, List.setIfInBounds_toArray, List.set_cons_zero, List.set_cons_succ]
            refine takeH 6 (v := ?vj6) rfl (by kernel_rfl) (by kernel_rfl) (by kernel_rfl) (fun _ _ _ h => h) hH rfl ?yj6 ?rj6
            case yj6 => intro W hSw; go_simp; rw [if_neg (show ¬ need = 0 by omega)]
            try simp only [Act.put, List.setIfInBounds_toArray, List.set_cons_zero, List.set_cons_succ]
            refine takeH 7 (v := ?vj7) rfl (by kernel_rfl) (by kernel_rfl) (by kernel_rfl) (fun _ _ _ h => h) hH rfl ?yj7 ?rj7
            case yj7 => intro W hSw; go_simp; try with_reducible rfl
            try simp only [Act.put, List.setIfInBounds_toArray, List.set_cons_zero, List.set_cons_succ]
            refine takeH 8 (v := ?vj8) rfl (by kernel_rfl) (by kernel_rfl) (by kernel_rfl) (fun _ _ _ h => h) hH rfl ?yj8 ?rj8
            case yj8 => intro W hSw; go_simp; try with_reducible rfl
            try simp only [Act.put, List.setIfInBounds_toArray, List.set_cons_zero, List.set_cons_succ]
            refine takeH 9 (v := ?vj9) rfl (by kernel_rfl) (by kernel_rfl) (by kernel_rfl) (fun _ _ _ h => h) hH rfl ?yj9 ?rj9
            case yj9 => intro W hSw; go_simp; try with_reducible rfl
            try simp only [Act.put, List.setIfInBounds_toArray, List.set_cons_zero, List.set_cons_succ]
            refine takeH 10 (v := ?vj10) rfl (by kernel_rfl) (by kernel_rfl) (by kernel_rfl) (fun _ _ _ h => h) hH rfl ?yj10 ?rj10
            case yj10 => intro W hSw; have hcc := Str.cell hSw (r * 20 + m) (grC_get (S := G) (k := r) (c := m) (by omega) hm20); go_simp; try with_reducible rfl
            try simp only [Act.put, List.setIfInBounds_toArray, List.set_cons_zero, List.set_cons_succ]
            refine callH 11 rfl (by kernel_rfl) rfl (fun K hK => ?_)
            go_simp
            refine hK.out _ _ (Str.alloc (W := wr.drew) hH _) (fun hH => ?_)
            clear hK K
            try simp only [Act.put, List.setIfInBounds_toArray, List.set_cons_zero, List.set_cons_succ]
            generalize G r m = z at *
            refine callH 12 rfl (by kernel_rfl) rfl (fun K hK => ?_)
            refine op_push_at TI3 wr.drew (.tmp 37) (.tmp 48) rfl (w2.heap.size + 1) u9 zs z rfl hown hzl.out rfl hsz ?_
            intro v8 W8 hown8 hg8 hat8
            have hne8 : u9.ownBlock ≠ some w2.heap.size := fun e => by have := (hown.lt _ e).1; omega
            refine hK.out _ _ (Str.kept (W := wr.drew) hg hg8 (fun e => hne8 e.symm)) (fun hH => ?_)
            clear hK K
            try simp only [Act.put, List.setIfInBounds_toArray, List.set_cons_zero, List.set_cons_succ]
            refine takeH 13 (v := ?vj13) rfl (by kernel_rfl) (by kernel_rfl) (by kernel_rfl) (fun _ _ _ h => h) hH rfl ?yj13 ?rj13
            case yj13 => intro W hSw; go_simp; try with_reducible rfl
            try simp only [Act.put, List.setIfInBounds_toArray, List.set_cons_zero, List.set_cons_succ]
            refine wpAnyH_done (by kernel_rfl) ?_ _
            try simp only [Act.put]
            have Hown8 := Lib.hid hown8; clear hown8
            have Hh8 := Lib.hid hH; clear hH
            have Hb8 := Lib.hid (Hbel.out.drew.grown hg8 Hbel.out.size (fun g e => by have := (hown.lt _ e).1; omega))
            clear hat8 hg8 hx1 hx2 hw1 hw2 hme hde
            go_wp2
            go_roundw
            case rel => exact ⟨k + 1, by omega, by go_num, by rw [Hz.out]; exact Hown8.out, Hh8.out, Hb8.out⟩
            case measure => simp [intOf]; omega
          · have hke : k = size := by omega
            subst hke
            rw [List.take_of_length_le (by rw [Hdl.out]; exact Nat.le_refl _)] at hown
            have Hyes := Lib.hid (fun h => join_yes (L := L) HJ.out h)
            have Hbad := Lib.hid (fun h => join_bad (size := (k : Int)) (need := (need : Int)) (L := L) h)
            simp only [Int.toNat_natCast] at Hyes Hbad
            have hD12 : (dataI k need L).length ≤ 12 := by rw [Hdl.out]; omega
            clear HJ HDat Hdl
            generalize dataI k need L = D at *
            obtain ⟨ad, cd, rfl, _, _, hDc⟩ := hown.src
            have Hown := Lib.hid hown; clear hown
            have HrW := Lib.hid (Hr2.out.underB Hbel.out (fun r hr => Hr2.out.lt r hr))
            have HbW := Lib.hid (below_step Hb2.out Hb2.out.size Hbel.out)
            clear Hg3 Ho3 Hb3 hg Hb1 Hr1 Hb2 Hr2 Hbel Hsol
            go_wp2_with fail
            go_loopw [53] (fun i wq => ∃ j : Nat, j ≤ L.length ∧ i = .int .i64 j ∧ Upto (matAt D need L) j ∧ Below wr.heap.size wr wq) (fun i _ => L.length - (intOf i).toNat)
            case atStart => exact ⟨0, by omega, rfl, upto_zero _, Below.refl _ _⟩
            case round =>
              obtain ⟨j, hj, rfl, hup, hbel⟩ := hrel
              have Hup := Lib.hid hup; clear hup
              by_cases hlt : j < L.length
              · obtain ⟨g, off, rfl, hg, hat⟩ := shards_at (HrW.out.under hbel) (by omega)
                obtain ⟨av, cv, C0, C1, I1⟩ := hat j hlt
                have hxs := Hin.out _ (List.getElem_mem hlt)
                have Hms := Lib.hid (fun (h : matB D need L[j] = true) => upto_step Hup.out (show matAt D need L j = true by unfold matAt; rw [getS hlt]; exact h))
                have Hmn := Lib.hid (fun (h : matB D need L[j] = false) => mat_no hlt h)
                have Hbel := Lib.hid hbel
                have Hs := Lib.hid (show L[j] = (L[j].1, L[j].2) from rfl)
                rw [Hs.out] at Hms Hmn
                clear hat hbel Hs
                generalize L[j].1 = x at *
                generalize L[j].2 = vs at *
                have Hba := Lib.hid (Hbel.out.alloc Hbel.out.size (.cells #[.int .i64 x, .slice av vs.length cv] 49))
                have Hown2 := Lib.hid (Hown.out.below Hba.out)
                have hm := impl_ShardMatches ad cd D need x av cv vs _ (by omega) hDc (by omega) (IntsAt_own Hown2.out) (I1.below ((Below.refl _ _).alloc (Nat.le_refl _) (.cells #[.int .i64 x, .slice av vs.length cv] 49)))
                clear I1
                cases hmb : matB D need (x, vs) with
                | true =>
                  rw [hmb] at hm
                  have Hm := Lib.hid hm; clear hm
                  have Hms' := Lib.hid (Hms.out hmb)
                  clear hmb
                  go_wp2_with fail
                  refine Hm.out.mono ?_
                  rintro e w6 ⟨rfl, hb6⟩
                  have Hb6 := Lib.hid (below_step Hba.out Hba.out.size hb6)
                  clear hb6
                  go_wp2
                  go_roundw
                  case rel => exact ⟨j + 1, by omega, by go_num, Hms'.out, Hb6.out⟩
                  case measure => simp [intOf]; omega
                | false =>
                  rw [hmb] at hm
                  have Hm := Lib.hid hm; clear hm
                  have Hf := Lib.hid (Hbad.out (Hmn.out hmb))
                  clear hmb
                  go_wp2_with fail
                  refine Hm.out.mono ?_
                  rintro e w6 ⟨rfl, hb6⟩
                  have Hb6 := Lib.hid (below_step HbW.out HbW.out.size (below_step Hba.out Hba.out.size hb6))
                  have hs6 := Hb6.out.size
                  clear hb6
                  go_wp2
                  refine bodyPost_ret (v := .tuple #[.slice (some ⟨w6.heap.size, 0, none⟩) 0 0, .bool false]) (by simp [results, Try.f26, go_sem]) rfl ?_
                  rw [Hf.out.1, Hf.out.2]
                  exact ⟨_, rfl, (ownE 3 w6).mono hs6, Hb6.out.alloc hs6 _⟩
              · have Hf := Lib.hid (Hyes.out (mat_all Hup.out (by omega)))
                have Hown2 := Lib.hid (Hown.out.below hbel)
                have Hb2 := Lib.hid (below_step HbW.out HbW.out.size hbel)
                clear hbel
                go_wp2
                refine bodyPost_ret (v := .tuple #[.slice ad D.length cd, .bool true]) (by simp [results, Try.f26, go_sem]) rfl ?_
                rw [Hf.out.1, Hf.out.2]
                exact ⟨_, rfl, Hown2.out.mono (by omega), Hb2.out⟩
    · rw [decide_eq_false hN] at hnm
      have Hnm := Lib.hid hnm; clear hnm
      have Hf := Lib.hid (join_no (size := size) (L := L) (show joinOk size need L = false by unfold joinOk; rw [decide_eq_false hN, Bool.and_false]; rfl))
      go_enter Try.func26, Try.ntmps26
      go_wp2_with fail
      refine (Hds.out _).mono ?_
      rintro e w' ⟨rfl, rfl⟩
      go_wp2_with fail
      refine (Hnm.out _).mono ?_
      rintro e w' ⟨rfl, rfl⟩
      go_wp2
      refine bodyPost_ret (v := .tuple #[.slice (some ⟨w.heap.size, 0, none⟩) 0 0, .bool false]) (by simp [results, Try.f26, go_sem]) rfl ?_
      rw [Hf.out.1, Hf.out.2]
      exact ⟨_, rfl, ownE 3 w, (Below.refl _ _).alloc (Nat.le_refl _) _⟩
  · rw [decide_eq_false hS] at hds
    have Hds := Lib.hid hds; clear hds
    have Hf := Lib.hid (join_no (need := need) (L := L) (show joinOk size need L = false by unfold joinOk; rw [decide_eq_false hS]; rfl))
    go_enter Try.func26, Try.ntmps26
    go_wp2_with fail
    refine (Hds.out _).mono ?_
    rintro e w' ⟨rfl, rfl⟩
    go_wp2
    refine bodyPost_ret (v := .tuple #[.slice (some ⟨w.heap.size, 0, none⟩) 0 0, .bool false]) (by simp [results, Try.f26, go_sem]) rfl ?_
    rw [Hf.out.1, Hf.out.2]
    exact ⟨_, rfl, ownE 3 w, (Below.refl _ _).alloc (Nat.le_refl _) _⟩

end Go.Proofs.Ytekpapodepachaa
