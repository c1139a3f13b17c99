/- A certificate that came in by value, and the exact laws' copies and sizes of it, each by a walk of its text; conditions: a list that is read has fewer than 2^40 elements, the numbers are ints. -/
import Derived.Test.YtilkiiflcdmnpabDt
import Derived.Test.YtilkiiflcdmnpabOpen
import Derived.Test.YtilkiiflcdmnpabL1
import Derived.Test.YtilkiiflcdmnpabL2
namespace Go.Proofs.Ytilkiiflcdmnpab
open Go.RowKit

/-- A certificate that came in by value. -/
theorem open_cert {H : Type} {enc : TypeId × Value → H} {W : World} {base : Nat} {v : Value} {d : DataW H} {p : List MemPlace} (hv : Value.okWide Try.prog W .any base 44 v) (h : DataW.Trod enc Try.prog W 0 (fun _ => true) true 44 v d p) :
    ∃ n a cap xs s, v = .agg #[.int .i64 n, .slice a xs.length cap, .int .i64 s] ∧ (-9223372036854775808 ≤ n ∧ n ≤ 9223372036854775807) ∧ (-9223372036854775808 ≤ s ∧ s ≤ 9223372036854775807) ∧ xs.length ≤ maxLen ∧ IntsAt W a xs := by
  obtain ⟨cs, rfl, hl, hf⟩ := open_struct (Gs := [IntG, RowsG [IntG], IntG]) Try.underlying44 (by kernel_rfl) rfl (fun j h h' => by
    match j, h, h' with
    | 0, _, _ => exact ⟨rfl, opens_int Try.underlying3 (by kernel_rfl)⟩
    | 1, _, _ => exact ⟨rfl, opens_slice Try.underlying23 (by kernel_rfl) (opens_int Try.underlying3 (by kernel_rfl))⟩
    | 2, _, _ => exact ⟨rfl, opens_int Try.underlying3 (by kernel_rfl)⟩) hv h
  match cs, hl with
  | [c0, c1, c2], _ =>
    obtain ⟨d0, f0, r0, n, rfl, hn⟩ := hf 0 (by simp) (by simp)
    obtain ⟨d1, f1, r1, g1⟩ := hf 1 (by simp) (by simp)
    obtain ⟨d2, f2, r2, s, rfl, hs⟩ := hf 2 (by simp) (by simp)
    obtain ⟨xs, rfl, hx, _⟩ := ints_of g1
    obtain ⟨rfl, _⟩ := Rd.int (show Rd W (.i n) c0 f0 from r0)
    obtain ⟨rfl, _⟩ := Rd.int (show Rd W (.i s) c2 f2 from r2)
    obtain ⟨a, cap, rfl, _, hi⟩ := Rd.ints (show Rd W (intsD xs) c1 f1 from r1)
    exact ⟨n, a, cap, xs, s, rfl, hn, hs, hx, hi⟩

theorem laws_szIntSc (a : Option Addr) (cap : Nat) (xs : List Int) (left : Nat) (w : World) (hl : left ≤ 1048576) (hbig : xs.length ≤ 9223372036854775807) :
    Calls Try.prog 55 #[.slice a xs.length cap, .int .i64 (left : Int)] w fun e w' => e = .returned (.int .i64 (if xs.length ≤ left then (left : Int) - (xs.length : Int) else -1)) ∧ w = w' := by
  by_cases h : xs.length ≤ left
  · have h' : ¬ ((left : Int) - (xs.length : Int) < 0) := by omega
    rw [if_pos h]
    go_enter Try.func55, Try.ntmps55
    go_wp2
    go_ret
    exact ⟨rfl, rfl⟩
  · have h' : (left : Int) - (xs.length : Int) < 0 := by omega
    rw [if_neg h]
    go_enter Try.func55, Try.ntmps55
    go_wp2
    go_ret
    exact ⟨rfl, rfl⟩

theorem laws_szCert (n s : Int) (a : Option Addr) (cap : Nat) (xs : List Int) (left : Nat) (w : World) (hl : left ≤ 1048576) (hbig : xs.length ≤ 9223372036854775807) :
    Calls Try.prog 28 #[.agg #[.int .i64 n, .slice a xs.length cap, .int .i64 s], .int .i64 (left : Int)] w fun e w' => e = .returned (.int .i64 (if xs.length ≤ left then (left : Int) - (xs.length : Int) else -1)) ∧ Below w.heap.size w w' := by
  have hs := fun w => laws_szIntSc a cap xs left w hl hbig
  have hb : Below w.heap.size w (w.alloc (.cells #[.int .i64 n, .slice a xs.length cap, .int .i64 s] 44)) := (Below.refl _ w).alloc (Nat.le_refl _) _
  by_cases h : xs.length ≤ left
  · rw [if_pos h] at hs ⊢
    have Hs := Lib.hid hs; clear hs
    have h' : ¬ ((left : Int) - (xs.length : Int) < 0) := by omega
    go_enter Try.func28, Try.ntmps28
    go_wp2_with fail
    refine (Hs.out _).mono ?_
    rintro e w' ⟨rfl, rfl⟩
    go_wp2
    go_ret
    exact ⟨rfl, hb⟩
  · rw [if_neg h] at hs ⊢
    have Hs := Lib.hid hs; clear hs
    go_enter Try.func28, Try.ntmps28
    go_wp2_with fail
    refine (Hs.out _).mono ?_
    rintro e w' ⟨rfl, rfl⟩
    go_wp2
    go_ret
    exact ⟨rfl, hb⟩

theorem laws_toCert (n s : Int) (a : Option Addr) (cap : Nat) (xs : List Int) (w : World) (hbig : xs.length ≤ 1099511627776) (hc : IntsAt w a xs) :
    Calls Try.prog 29 #[.agg #[.int .i64 n, .slice a xs.length cap, .int .i64 s]] w fun e w' => ∃ v, e = .returned (.agg #[.int .i64 n, v, .int .i64 s]) ∧ Own 3 w' w.heap.size v xs ∧ Below w.heap.size w w' := by
  have hbW : Below w.heap.size w (((w.alloc (.cells #[.int .i64 n, .slice a xs.length cap, .int .i64 s] 44)).alloc (.cells #[.int .i64 0, .slice none 0 0, .int .i64 0] 27)).alloc (.cells #[.int .i64 n, .slice none 0 0, .int .i64 0] 27)) := (((Below.refl _ w).alloc (Nat.le_refl _) _).alloc (by simp) _).alloc (by simp; omega) _
  have s0 := ((Str.new w 44 #[.int .i64 n, .slice a xs.length cap, .int .i64 s]).alloc (.cells #[.int .i64 0, .slice none 0 0, .int .i64 0] 27)).alloc (.cells #[.int .i64 n, .slice none 0 0, .int .i64 0] 27)
  have s1 := (Str.new (w.alloc (.cells #[.int .i64 n, .slice a xs.length cap, .int .i64 s] 44)) 27 #[.int .i64 0, .slice none 0 0, .int .i64 0]).alloc (.cells #[.int .i64 n, .slice none 0 0, .int .i64 0] 27)
  have s2 := Str.new ((w.alloc (.cells #[.int .i64 n, .slice a xs.length cap, .int .i64 s] 44)).alloc (.cells #[.int .i64 0, .slice none 0 0, .int .i64 0] 27)) 27 #[.int .i64 n, .slice none 0 0, .int .i64 0]
  have hzW : (((w.alloc (.cells #[.int .i64 n, .slice a xs.length cap, .int .i64 s] 44)).alloc (.cells #[.int .i64 0, .slice none 0 0, .int .i64 0] 27)).alloc (.cells #[.int .i64 n, .slice none 0 0, .int .i64 0] 27)).heap.size = w.heap.size + 3 := by simp
  simp only [World.size_alloc] at s1 s2
  have Hc := Lib.hid (hc.below hbW)
  have Hb := Lib.hid hbW
  have Hs0 := Lib.hid s0
  have Hs1 := Lib.hid s1
  have Hs2 := Lib.hid s2
  have Hz := Lib.hid hzW
  clear hc hbW s0 s1 s2 hzW
  go_enter Try.func29, Try.ntmps29
  go_wp2_with fail
  generalize ((w.alloc (.cells #[.int .i64 n, .slice a xs.length cap, .int .i64 s] 44)).alloc (.cells #[.int .i64 0, .slice none 0 0, .int .i64 0] 27)).alloc (.cells #[.int .i64 n, .slice none 0 0, .int .i64 0] 27) = W1 at *
  refine (laws_toIntS a cap xs W1 hbig Hc.out).mono ?_
  rintro e w6 ⟨v, rfl, hown, hb6⟩
  have hz := Hz.out
  have t0 : Str w6 w.heap.size 44 #[.int .i64 n, .slice a xs.length cap, .int .i64 s] := (hb6.block _ (by omega)).trans Hs0.out
  have t1 : Str w6 (w.heap.size + 1) 27 #[.int .i64 0, .slice none 0 0, .int .i64 0] := (hb6.block _ (by omega)).trans Hs1.out
  have t2 : Str w6 (w.heap.size + 1 + 1) 27 #[.int .i64 n, .slice none 0 0, .int .i64 0] := (hb6.block _ (by omega)).trans Hs2.out
  have Hlt := Lib.hid (show ∀ g, v.ownBlock = some g → w.heap.size + 3 ≤ g from fun g e => by have := (hown.lt g e).1; omega)
  have HbF := Lib.hid (below_step Hb.out (by omega) hb6)
  obtain ⟨a6, c6, rfl, _, _⟩ := hown.ints
  have HwW := Lib.hid (show w.heap.size ≤ W1.heap.size by omega)
  have Hown := Lib.hid hown
  clear hown hb6 hz Hz Hs0 Hs1 Hs2 Hc Hb
  have l2 := t0.cell 2 (v := .int .i64 s) rfl
  have k0 := t1.cell 0 (v := .int .i64 0) rfl
  have k1 := t1.cell 1 (v := .slice none 0 0) rfl
  have k2 := t1.cell 2 (v := .int .i64 0) rfl
  have j0 := t2.cell 0 (v := .int .i64 n) rfl
  have j1 := t2.cell 1 (v := .slice none 0 0) rfl
  have j2 := t2.cell 2 (v := .int .i64 0) rfl
  have f0 := t1.frozen 0
  have f1 := t1.frozen 1
  have f2 := t1.frozen 2
  have g1 := t2.frozen 1
  have g2 := t2.frozen 2
  have hne : w.heap.size + 1 ≠ w.heap.size + 1 + 1 := by omega
  have u := (((t1.other hne 1 (.slice a6 xs.length c6)).other hne 2 (.int .i64 s)).set 0 (.int .i64 n)).set 1 (.slice a6 xs.length c6)
  have u := u.set 2 (.int .i64 s)
  have e0 := u.cell 0 (v := .int .i64 n) rfl
  have e1 := u.cell 1 (v := .slice a6 xs.length c6) rfl
  have e2 := u.cell 2 (v := .int .i64 s) rfl
  clear u t0 t1 t2
  go_wp2
  refine bodyPost_ret (v := .agg #[.int .i64 n, .slice a6 xs.length c6, .int .i64 s]) (by simp [results, Try.f29, go_sem, e0, e1, e2]) rfl ?_
  have n1 : (Value.slice a6 xs.length c6).ownBlock ≠ some (w.heap.size + 1) := fun e => by have := Hlt.out _ e; omega
  have n2 : (Value.slice a6 xs.length c6).ownBlock ≠ some (w.heap.size + 1 + 1) := fun e => by have := Hlt.out _ e; omega
  exact ⟨_, rfl, (((((Hown.out.mono HwW.out).set_other n2 1 _).set_other n2 2 _).set_other n1 0 _).set_other n1 1 _).set_other n1 2 _, ((((HbF.out.setCell (p := ⟨w.heap.size + 1 + 1, 1, none⟩) (by simp only; omega) _).setCell (p := ⟨w.heap.size + 1 + 1, 2, none⟩) (by simp only; omega) _).setCell (p := ⟨w.heap.size + 1, 0, none⟩) (by simp only; omega) _).setCell (p := ⟨w.heap.size + 1, 1, none⟩) (by simp only; omega) _).setCell (p := ⟨w.heap.size + 1, 2, none⟩) (by simp only; omega) _⟩

end Go.Proofs.Ytilkiiflcdmnpab
