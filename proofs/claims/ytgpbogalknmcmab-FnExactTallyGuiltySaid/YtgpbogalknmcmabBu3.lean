/- Texts that the laws of this folder share, one behind another; no conditions. -/
import Derived.Test.YtgpbogalknmcmabRows
import Derived.Test.YtgpbogalknmcmabBu0
import Derived.Test.YtgpbogalknmcmabBu1
import Derived.Test.YtgpbogalknmcmabBu2
import Derived.Deep.QuietTactic
import Derived.BigQuiet

/- The exact laws' functions on values and lists of Tally: sameness, copies, sizes, marks, each by a walk of its text; conditions: the lists are no longer than the laws' bound. -/
namespace Go.Proofs.Ytgpbogalknmcmab
open Go.RowKit

def tallyP (e : List Fd) : Prop := ∃ (x0 : Int) (x1 : Int) (x2 : Int) (x3 : List Int), e = [.i x0, .i x1, .i x2, .l x3]
theorem tallyP_len {es : List (List Fd)} (h : ∀ e ∈ es, tallyP e) : ∀ e ∈ es, e.length = 4 := by
  intro e he
  obtain ⟨_, _, _, _, rfl⟩ := h e he
  rfl

set_option maxRecDepth 8000 in
/-- A Tally that came in by value. -/
theorem open_Tally {H : Type} {enc : TypeId × Value → H} {W : World} {base : Nat} {v : Value} {d : DataW H} {p : List MemPlace} (hv : Value.okWide Try.prog W .any base 48 v) (h : DataW.Trod enc Try.prog W 0 (fun _ => true) true 48 v d p) :
    ∃ x0 x1 x2 a3 c3 x3, v = .agg #[.int .i64 x0, .int .i64 x1, .int .i64 x2, .slice a3 x3.length c3] ∧ (-9223372036854775808 ≤ x0 ∧ x0 ≤ 9223372036854775807) ∧ (-9223372036854775808 ≤ x1 ∧ x1 ≤ 9223372036854775807) ∧ (-9223372036854775808 ≤ x2 ∧ x2 ≤ 9223372036854775807) ∧ (x3.length ≤ maxLen ∧ ∀ x ∈ x3, -9223372036854775808 ≤ x ∧ x ≤ 9223372036854775807) ∧ IntsAt W a3 x3 := by
  obtain ⟨cs, c, rfl, hl, hf, hc⟩ := open_nest (k := 3) (Gs := [IntG, IntG, IntG]) (G := RowsG [IntG]) Try.underlying48 rfl rfl (by kernel_rfl) Try.underlying46 (by kernel_rfl) rfl rfl rfl (opens_slice Try.underlying23 (by kernel_rfl) (opens_int Try.underlying3 (by kernel_rfl))) rfl (fun j h h' => by
    match j, h, h' with
    | 0, _, _ => exact ⟨rfl, opens_int Try.underlying3 (by kernel_rfl)⟩
    | 1, _, _ => exact ⟨rfl, opens_int Try.underlying3 (by kernel_rfl)⟩
    | 2, _, _ => exact ⟨rfl, opens_int Try.underlying3 (by kernel_rfl)⟩) hv h
  match cs, hl with
  | [u0, u1, u2], _ =>
    obtain ⟨d0, f0, r0, x0, rfl, b0⟩ := hf 0 (by simp) (by simp)
    obtain ⟨rfl, _⟩ := Rd.int (show Rd W (.i x0) u0 f0 from r0)
    obtain ⟨d1, f1, r1, x1, rfl, b1⟩ := hf 1 (by simp) (by simp)
    obtain ⟨rfl, _⟩ := Rd.int (show Rd W (.i x1) u1 f1 from r1)
    obtain ⟨d2, f2, r2, x2, rfl, b2⟩ := hf 2 (by simp) (by simp)
    obtain ⟨rfl, _⟩ := Rd.int (show Rd W (.i x2) u2 f2 from r2)
    obtain ⟨d3, f3, r3, g3⟩ := hc
    obtain ⟨x3, rfl, b3⟩ := ints_of g3
    obtain ⟨a3, c3, rfl, _, i3⟩ := Rd.ints (show Rd W (intsD x3) c f3 from r3)
    exact ⟨x0, x1, x2, a3, c3, x3, rfl, b0, b1, b2, b3, i3⟩

theorem laws_eqTallyR (x0 : Int) (x1 : Int) (x2 : Int) (a3 a3' : Option Addr) (c3 c3' : Nat) (x3 : List Int) (w : World) (n3 : x3.length ≤ 1099511627776) (h3 : IntsAt w a3 x3) (h3' : IntsAt w a3' x3) :
    Calls Try.prog 29 #[.agg #[.int .i64 x0, .int .i64 x1, .int .i64 x2, .slice a3 x3.length c3], .agg #[.int .i64 x0, .int .i64 x1, .int .i64 x2, .slice a3' x3.length c3']] w fun e w' => e = .returned (.bool true) ∧ Below w.heap.size w w' := by
  have hb : Below w.heap.size w ((w.alloc (.cells #[.int .i64 x0, .int .i64 x1, .int .i64 x2, .slice a3 x3.length c3] 27)).alloc (.cells #[.int .i64 x0, .int .i64 x1, .int .i64 x2, .slice a3' x3.length c3'] 27)) := ((Below.refl _ w).alloc (Nat.le_refl _) _).alloc (by simp) _
  have s0 := (Str.new w 27 #[.int .i64 x0, .int .i64 x1, .int .i64 x2, .slice a3 x3.length c3]).alloc (.cells #[.int .i64 x0, .int .i64 x1, .int .i64 x2, .slice a3' x3.length c3'] 27)
  have s1 : Str ((w.alloc (.cells #[.int .i64 x0, .int .i64 x1, .int .i64 x2, .slice a3 x3.length c3] 27)).alloc (.cells #[.int .i64 x0, .int .i64 x1, .int .i64 x2, .slice a3' x3.length c3'] 27)) (w.heap.size + 1) 27 #[.int .i64 x0, .int .i64 x1, .int .i64 x2, .slice a3' x3.length c3'] := by
    rw [← (by simp : (w.alloc (.cells #[.int .i64 x0, .int .i64 x1, .int .i64 x2, .slice a3 x3.length c3] 27)).heap.size = w.heap.size + 1)]
    exact Str.new _ _ _
  have k0 := s0.cell 0 (v := .int .i64 x0) rfl
  have k1 := s0.cell 1 (v := .int .i64 x1) rfl
  have k2 := s0.cell 2 (v := .int .i64 x2) rfl
  have k3 := s0.cell 3 (v := .slice a3 x3.length c3) rfl
  have j0 := s1.cell 0 (v := .int .i64 x0) rfl
  have j1 := s1.cell 1 (v := .int .i64 x1) rfl
  have j2 := s1.cell 2 (v := .int .i64 x2) rfl
  have j3 := s1.cell 3 (v := .slice a3' x3.length c3') rfl
  have hzW : ((w.alloc (.cells #[.int .i64 x0, .int .i64 x1, .int .i64 x2, .slice a3 x3.length c3] 27)).alloc (.cells #[.int .i64 x0, .int .i64 x1, .int .i64 x2, .slice a3' x3.length c3'] 27)).heap.size = w.heap.size + 2 := by simp
  have HV := Lib.hid (fun W => laws_eqVoteR x0 x1 x2 W)
  have H := Lib.hid (fun W (h : Below w.heap.size w W) => laws_eqIntS' a3 a3' c3 c3' x3 W n3 (h3.below h) (h3'.below h))
  have Hb0 := Lib.hid hb; clear hb s0 s1 h3 h3'
  go_enter Try.func29, Try.ntmps29
  go_wp2_with fail
  generalize ((w.alloc (.cells #[.int .i64 x0, .int .i64 x1, .int .i64 x2, .slice a3 x3.length c3] 27)).alloc (.cells #[.int .i64 x0, .int .i64 x1, .int .i64 x2, .slice a3' x3.length c3'] 27)) = W0 at *
  refine (HV.out _).mono ?_
  rintro e W1 ⟨rfl, hb1⟩
  have k0 := (hb1.cell (p := ⟨w.heap.size, 0, none⟩) (by simp only; omega)).trans k0
  have k1 := (hb1.cell (p := ⟨w.heap.size, 1, none⟩) (by simp only; omega)).trans k1
  have k2 := (hb1.cell (p := ⟨w.heap.size, 2, none⟩) (by simp only; omega)).trans k2
  have k3 := (hb1.cell (p := ⟨w.heap.size, 3, none⟩) (by simp only; omega)).trans k3
  have j0 := (hb1.cell (p := ⟨w.heap.size + 1, 0, none⟩) (by simp only; omega)).trans j0
  have j1 := (hb1.cell (p := ⟨w.heap.size + 1, 1, none⟩) (by simp only; omega)).trans j1
  have j2 := (hb1.cell (p := ⟨w.heap.size + 1, 2, none⟩) (by simp only; omega)).trans j2
  have j3 := (hb1.cell (p := ⟨w.heap.size + 1, 3, none⟩) (by simp only; omega)).trans j3
  have Hb1 := Lib.hid (below_step Hb0.out Hb0.out.size hb1)
  clear hb1
  go_wp2_with fail
  refine (H.out _ Hb1.out).mono ?_
  rintro e W2 ⟨rfl, hd⟩
  have Hb2 := Lib.hid (Hb1.out.trans (hd.below _))
  clear hd
  go_wp2
  go_ret
  exact ⟨rfl, Hb2.out⟩

theorem laws_szIntSTally (a : Option Addr) (cap : Nat) (xs : List Int) (left : Nat) (w : World) (hl : left ≤ 1048576) (hbig : xs.length ≤ 9223372036854775807) :
    Calls Try.prog 56 #[.slice a xs.length cap, .int .i64 (left : Int)] w fun e w' => e = .returned (.int .i64 (if xs.length ≤ left then ((left - xs.length : Nat) : Int) else -1)) ∧ w = w' := by
  by_cases h : xs.length ≤ left
  · have h' : ¬ ((left : Int) - (xs.length : Int) < 0) := by omega
    rw [if_pos h]
    go_enter Try.func56, Try.ntmps56
    go_wp2
    go_ret
    exact ⟨ret_int (by omega), rfl⟩
  · have h' : (left : Int) - (xs.length : Int) < 0 := by omega
    rw [if_neg h]
    go_enter Try.func56, Try.ntmps56
    go_wp2
    go_ret
    exact ⟨rfl, rfl⟩

theorem laws_szTallyR (x0 : Int) (x1 : Int) (x2 : Int) (a3 : Option Addr) (c3 : Nat) (x3 : List Int) (left : Nat) (w : World) (hl : left ≤ 1048576) (n3 : x3.length ≤ 9223372036854775807) :
    Calls Try.prog 26 #[.agg #[.int .i64 x0, .int .i64 x1, .int .i64 x2, .slice a3 x3.length c3], .int .i64 (left : Int)] w fun e w' => e = .returned (.int .i64 (if x3.length ≤ left then ((left - (x3.length) : Nat) : Int) else -1)) ∧ Below w.heap.size w w' := by
  have hb : Below w.heap.size w (w.alloc (.cells #[.int .i64 x0, .int .i64 x1, .int .i64 x2, .slice a3 x3.length c3] 48)) := (Below.refl _ w).alloc (Nat.le_refl _) _
  have s0 := Str.new w 48 #[.int .i64 x0, .int .i64 x1, .int .i64 x2, .slice a3 x3.length c3]
  have k0 := s0.cell 0 (v := .int .i64 x0) rfl
  have k1 := s0.cell 1 (v := .int .i64 x1) rfl
  have k2 := s0.cell 2 (v := .int .i64 x2) rfl
  have k3 := s0.cell 3 (v := .slice a3 x3.length c3) rfl
  have Hb := Lib.hid hb; clear hb s0
  by_cases h0 : x3.length ≤ left
  · have H0 := fun W => laws_szIntSTally a3 c3 x3 left W (by omega) n3
    rw [if_pos h0] at H0
    obtain ⟨l0, hl0⟩ : ∃ l : Nat, left - x3.length = l := ⟨_, rfl⟩
    rw [hl0] at H0
    have H0 := Lib.hid H0
    have L0 := Lib.hid hl0; clear hl0
    have g0 : decide ((l0 : Int) < 0) = false := decide_eq_false (by omega)
    have b0 : l0 ≤ 1048576 := by have := L0.out; omega
    go_enter Try.func26, Try.ntmps26
    go_wp2_with fail
    refine (H0.out _).mono ?_
    rintro e w' ⟨rfl, rfl⟩
    go_wp2
    go_ret
    exact ⟨ret_int (by have := L0.out; first | omega | (rw [if_pos (by omega)]; omega)), Hb.out⟩
  · have H0 := fun W => laws_szIntSTally a3 c3 x3 left W (by omega) n3
    rw [if_neg h0] at H0
    have H0 := Lib.hid H0
    go_enter Try.func26, Try.ntmps26
    go_wp2_with fail
    refine (H0.out _).mono ?_
    rintro e w' ⟨rfl, rfl⟩
    go_wp2
    go_ret
    exact ⟨ret_int (by first | rfl | (rw [if_neg (by omega)])), Hb.out⟩

set_option maxHeartbeats 1000000 in
theorem laws_toTallyR (x0 : Int) (x1 : Int) (x2 : Int) (a3 : Option Addr) (c3 : Nat) (x3 : List Int) (w : World) (hbig : x3.length ≤ 1099511627776) (hc : IntsAt w a3 x3) :
    Calls Try.prog 28 #[.agg #[.int .i64 x0, .int .i64 x1, .int .i64 x2, .slice a3 x3.length c3]] w fun e w' => ∃ v, e = .returned (.agg #[.int .i64 x0, .int .i64 x1, .int .i64 x2, v]) ∧ Own 3 w' w.heap.size v x3 ∧ Below w.heap.size w w' := by
  have HC0 := Lib.hid hc
  have hbW : Below w.heap.size w (((w.alloc (.cells #[.int .i64 x0, .int .i64 x1, .int .i64 x2, .slice a3 x3.length c3] 48)).alloc (.cells #[.int .i64 0, .int .i64 0, .int .i64 0, .slice none 0 0] 27)).alloc (.cells #[.int .i64 0, .int .i64 0, .int .i64 0, .slice none 0 0] 27)) := (((Below.refl _ w).alloc (Nat.le_refl _) _).alloc (by simp) _).alloc (by simp; omega) _
  have s0 := ((Str.new w 48 #[.int .i64 x0, .int .i64 x1, .int .i64 x2, .slice a3 x3.length c3]).alloc (.cells #[.int .i64 0, .int .i64 0, .int .i64 0, .slice none 0 0] 27)).alloc (.cells #[.int .i64 0, .int .i64 0, .int .i64 0, .slice none 0 0] 27)
  have s1 := (Str.new (w.alloc (.cells #[.int .i64 x0, .int .i64 x1, .int .i64 x2, .slice a3 x3.length c3] 48)) 27 #[.int .i64 0, .int .i64 0, .int .i64 0, .slice none 0 0]).alloc (.cells #[.int .i64 0, .int .i64 0, .int .i64 0, .slice none 0 0] 27)
  have s2 := Str.new ((w.alloc (.cells #[.int .i64 x0, .int .i64 x1, .int .i64 x2, .slice a3 x3.length c3] 48)).alloc (.cells #[.int .i64 0, .int .i64 0, .int .i64 0, .slice none 0 0] 27)) 27 #[.int .i64 0, .int .i64 0, .int .i64 0, .slice none 0 0]
  have hzW : (((w.alloc (.cells #[.int .i64 x0, .int .i64 x1, .int .i64 x2, .slice a3 x3.length c3] 48)).alloc (.cells #[.int .i64 0, .int .i64 0, .int .i64 0, .slice none 0 0] 27)).alloc (.cells #[.int .i64 0, .int .i64 0, .int .i64 0, .slice none 0 0] 27)).heap.size = w.heap.size + 3 := by simp
  simp only [World.size_alloc] at s1 s2
  have Hc := Lib.hid (hc.below hbW)
  have Hb := Lib.hid hbW
  have S0 := Lib.hid s0
  have S1 := Lib.hid s1
  have S2 := Lib.hid s2
  have k0 := s0.cell 0 (v := .int .i64 x0) rfl
  have k1 := s0.cell 1 (v := .int .i64 x1) rfl
  have k2 := s0.cell 2 (v := .int .i64 x2) rfl
  clear hc hbW s0 s1 s2
  have HV := Lib.hid (fun W => laws_toVoteR x0 x1 x2 W)
  go_enter Try.func28, Try.ntmps28
  go_wp2_with fail
  generalize (((w.alloc (.cells #[.int .i64 x0, .int .i64 x1, .int .i64 x2, .slice a3 x3.length c3] 48)).alloc (.cells #[.int .i64 0, .int .i64 0, .int .i64 0, .slice none 0 0] 27)).alloc (.cells #[.int .i64 0, .int .i64 0, .int .i64 0, .slice none 0 0] 27)) = W0 at *
  refine (HV.out _).mono ?_
  rintro e w4 ⟨rfl, hb4⟩
  have hs4 := hb4.size
  clear k0 k1 k2
  have T0 := Lib.hid (show Str w4 w.heap.size 48 #[.int .i64 x0, .int .i64 x1, .int .i64 x2, .slice a3 x3.length c3] from (hb4.block _ (by omega)).trans S0.out)
  have T1 := Lib.hid (show Str w4 (w.heap.size + 1) 27 #[.int .i64 0, .int .i64 0, .int .i64 0, .slice none 0 0] from (hb4.block _ (by omega)).trans S1.out)
  have T2 := Lib.hid (show Str w4 (w.heap.size + 1 + 1) 27 #[.int .i64 0, .int .i64 0, .int .i64 0, .slice none 0 0] from (hb4.block _ (by omega)).trans S2.out)
  have Hb := Lib.hid (below_step Hb.out (by omega) hb4)
  have Hc := Lib.hid (Hc.out.below hb4)
  clear hb4 S0 S1 S2
  have j0 := T2.out.cell 0 (v := (.int .i64 0)) rfl
  have j1 := T2.out.cell 1 (v := (.int .i64 0)) rfl
  have j2 := T2.out.cell 2 (v := (.int .i64 0)) rfl
  have g0 := T2.out.frozen 0
  have g1 := T2.out.frozen 1
  have g2 := T2.out.frozen 2
  have U2 := Lib.hid (show Str (((w4.setCell ⟨w.heap.size + 1 + 1, 0, none⟩ (.int .i64 x0)).setCell ⟨w.heap.size + 1 + 1, 1, none⟩ (.int .i64 x1)).setCell ⟨w.heap.size + 1 + 1, 2, none⟩ (.int .i64 x2)) (w.heap.size + 1 + 1) 27 #[.int .i64 x0, .int .i64 x1, .int .i64 x2, .slice none 0 0] from (((T2.out.set 0 (.int .i64 x0)).set 1 (.int .i64 x1)).set 2 (.int .i64 x2)))
  have U1 := Lib.hid (show Str (((w4.setCell ⟨w.heap.size + 1 + 1, 0, none⟩ (.int .i64 x0)).setCell ⟨w.heap.size + 1 + 1, 1, none⟩ (.int .i64 x1)).setCell ⟨w.heap.size + 1 + 1, 2, none⟩ (.int .i64 x2)) (w.heap.size + 1) 27 #[.int .i64 0, .int .i64 0, .int .i64 0, .slice none 0 0] from (((T1.out.other (by omega) 0 (.int .i64 x0)).other (by omega) 1 (.int .i64 x1)).other (by omega) 2 (.int .i64 x2)))
  have U0 := Lib.hid (show Str (((w4.setCell ⟨w.heap.size + 1 + 1, 0, none⟩ (.int .i64 x0)).setCell ⟨w.heap.size + 1 + 1, 1, none⟩ (.int .i64 x1)).setCell ⟨w.heap.size + 1 + 1, 2, none⟩ (.int .i64 x2)) w.heap.size 48 #[.int .i64 x0, .int .i64 x1, .int .i64 x2, .slice a3 x3.length c3] from (((T0.out.other (by omega) 0 (.int .i64 x0)).other (by omega) 1 (.int .i64 x1)).other (by omega) 2 (.int .i64 x2)))
  have HB := Lib.hid (show Below w.heap.size w (((w4.setCell ⟨w.heap.size + 1 + 1, 0, none⟩ (.int .i64 x0)).setCell ⟨w.heap.size + 1 + 1, 1, none⟩ (.int .i64 x1)).setCell ⟨w.heap.size + 1 + 1, 2, none⟩ (.int .i64 x2)) from (Below.setCell (p := ⟨w.heap.size + 1 + 1, 2, none⟩) (Below.setCell (p := ⟨w.heap.size + 1 + 1, 1, none⟩) (Below.setCell (p := ⟨w.heap.size + 1 + 1, 0, none⟩) Hb.out (by simp only; omega) (.int .i64 x0)) (by simp only; omega) (.int .i64 x1)) (by simp only; omega) (.int .i64 x2)))
  have hz5 : (((w4.setCell ⟨w.heap.size + 1 + 1, 0, none⟩ (.int .i64 x0)).setCell ⟨w.heap.size + 1 + 1, 1, none⟩ (.int .i64 x1)).setCell ⟨w.heap.size + 1 + 1, 2, none⟩ (.int .i64 x2)).heap.size = w4.heap.size := by simp
  have k3 := U0.out.cell 3 (v := .slice a3 x3.length c3) rfl
  clear T0 T1 T2 Hb Hc
  go_wp2_with fail
  generalize (((w4.setCell ⟨w.heap.size + 1 + 1, 0, none⟩ (.int .i64 x0)).setCell ⟨w.heap.size + 1 + 1, 1, none⟩ (.int .i64 x1)).setCell ⟨w.heap.size + 1 + 1, 2, none⟩ (.int .i64 x2)) = w5 at *
  clear j0 j1 j2 g0 g1 g2
  skip
  refine (laws_toIntS a3 c3 x3 w5 hbig (HC0.out.below HB.out)).mono ?_
  rintro e w6 ⟨v, rfl, hown, hb6⟩
  have hs6 := hb6.size
  have t1 : Str w6 (w.heap.size + 1) 27 #[.int .i64 0, .int .i64 0, .int .i64 0, .slice none 0 0] := (hb6.block _ (by omega)).trans U1.out
  have t2 : Str w6 (w.heap.size + 1 + 1) 27 #[.int .i64 x0, .int .i64 x1, .int .i64 x2, .slice none 0 0] := (hb6.block _ (by omega)).trans U2.out
  have Hlt := Lib.hid (show ∀ g, v.ownBlock = some g → w.heap.size + 3 ≤ g from fun g e => by have := (hown.lt g e).1; omega)
  have HbF := Lib.hid (below_step HB.out HB.out.size hb6)
  obtain ⟨a6, c6, rfl, _, _⟩ := hown.ints
  have HwW := Lib.hid (show w.heap.size ≤ w5.heap.size by omega)
  have Hown := Lib.hid hown
  clear hown hb6 U0 U1 U2 k3 HB
  have k0 := t1.cell 0 (v := (.int .i64 0)) rfl
  have k1 := t1.cell 1 (v := (.int .i64 0)) rfl
  have k2 := t1.cell 2 (v := (.int .i64 0)) rfl
  have k3 := t1.cell 3 (v := (.slice none 0 0)) rfl
  have f0 := t1.frozen 0
  have f1 := t1.frozen 1
  have f2 := t1.frozen 2
  have f3 := t1.frozen 3
  have j0 := t2.cell 0 (v := .int .i64 x0) rfl
  have j1 := t2.cell 1 (v := .int .i64 x1) rfl
  have j2 := t2.cell 2 (v := .int .i64 x2) rfl
  have j3 := t2.cell 3 (v := .slice none 0 0) rfl
  have g3 := t2.frozen 3
  have hne : w.heap.size + 1 ≠ w.heap.size + 1 + 1 := by omega
  have u := (((((t1.other hne 3 (.slice a6 x3.length c6)).set 0 (.int .i64 x0)).set 1 (.int .i64 x1)).set 2 (.int .i64 x2)).set 3 (.slice a6 x3.length c6))
  have e0 := u.cell 0 (v := .int .i64 x0) rfl
  have e1 := u.cell 1 (v := .int .i64 x1) rfl
  have e2 := u.cell 2 (v := .int .i64 x2) rfl
  have e3 := u.cell 3 (v := .slice a6 x3.length c6) rfl
  clear u t1 t2
  go_wp2
  refine bodyPost_ret (v := .agg #[.int .i64 x0, .int .i64 x1, .int .i64 x2, .slice a6 x3.length c6]) (by simp [results, Try.f28, go_sem, e0, e1, e2, e3]) rfl ?_
  have n1 : (Value.slice a6 x3.length c6).ownBlock ≠ some (w.heap.size + 1) := fun e => by have := Hlt.out _ e; omega
  have n2 : (Value.slice a6 x3.length c6).ownBlock ≠ some (w.heap.size + 1 + 1) := fun e => by have := Hlt.out _ e; omega
  exact ⟨_, rfl, ((((((Hown.out.mono HwW.out).set_other n2 3 _).set_other n1 0 _).set_other n1 1 _).set_other n1 2 _).set_other n1 3 _), (((((HbF.out.setCell (p := ⟨w.heap.size + 1 + 1, 3, none⟩) (by simp only; omega) _).setCell (p := ⟨w.heap.size + 1, 0, none⟩) (by simp only; omega) _).setCell (p := ⟨w.heap.size + 1, 1, none⟩) (by simp only; omega) _).setCell (p := ⟨w.heap.size + 1, 2, none⟩) (by simp only; omega) _).setCell (p := ⟨w.heap.size + 1, 3, none⟩) (by simp only; omega) _)⟩

theorem laws_markTallyR (x0 x1 x2 : Int) (v : Value) (xs : List Int) (k B : Nat) (w : World) (hlen : xs.length ≤ 1099511627776) (hk : k ≤ 1099511627776) (hown : Own 3 w B v xs) :
    Calls Try.prog 32 #[.agg #[.int .i64 x0, .int .i64 x1, .int .i64 x2, v], .int .i64 k] w fun e w' => e = .returned (.int .i64 ((k + xs.length : Nat) : Int)) ∧ Own 3 w' B v (markL k xs.length) ∧ (w.alloc (.cells #[.int .i64 x0, .int .i64 x1, .int .i64 x2, v] 27)).grownBy w' v.ownBlock := by
  have H := Lib.hid (laws_markIntS v xs k B _ hlen hk (hown.alloc (.cells #[.int .i64 x0, .int .i64 x1, .int .i64 x2, v] 27)))
  obtain ⟨a, cap, rfl, _, _⟩ := hown.ints
  clear hown
  go_enter Try.func32, Try.ntmps32
  go_wp2_with fail
  refine H.out.mono ?_
  rintro e w1 ⟨rfl, ho, hg⟩
  go_wp2
  go_ret
  exact ⟨rfl, ho, hg⟩

theorem laws_heldTallyR (x0 x1 x2 : Int) (a : Option Addr) (cap k n : Nat) (w : World) (hlen : n ≤ 1099511627776) (hk : k ≤ 1099511627776) (hc : IntsAt w a (markL k n)) :
    Calls Try.prog 33 #[.agg #[.int .i64 x0, .int .i64 x1, .int .i64 x2, .slice a n cap], .int .i64 k] w fun e w' => e = .returned (.int .i64 ((k + n : Nat) : Int)) ∧ Below w.heap.size w w' := by
  have hb : Below w.heap.size w (w.alloc (.cells #[.int .i64 x0, .int .i64 x1, .int .i64 x2, .slice a n cap] 27)) := (Below.refl _ w).alloc (Nat.le_refl _) _
  have H := Lib.hid (laws_heldIntS a cap k n _ hlen hk (hc.below hb))
  have Hb := Lib.hid hb; clear hb hc
  have hneg : decide (((k + n : Nat) : Int) < 0) = false := decide_eq_false (by omega)
  go_enter Try.func33, Try.ntmps33
  go_wp2_with fail
  refine H.out.mono ?_
  rintro e w1 ⟨rfl, hd⟩
  have Hb1 := Lib.hid (Hb.out.trans (hd.below _))
  go_wp2
  go_ret
  exact ⟨rfl, Hb1.out⟩

end Go.Proofs.Ytgpbogalknmcmab
