/- impl's small functions of votes and tallies, each by a walk of its text; conditions: lists are shorter than 2^40, and where the text asks it, the committee is valid. -/
import Derived.Test.YtkndndcjchlpdaaRows
import Derived.Test.YtkndndcjchlpdaaVt1
import Derived.Test.YtkndndcjchlpdaaC1
import Derived.Test.YtkndndcjchlpdaaL1
import Derived.Test.YtkndndcjchlpdaaHeld
import Derived.Deep.QuietTactic
import Derived.BigQuiet
namespace Go.Proofs.Ytkndndcjchlpdaa
open Go.RowKit

theorem vt_isRound (n : Int) (w : World) : Calls Try.prog 68 #[.int .i64 n] w fun e w' => e = .returned (.bool (vtRB n)) ∧ w = w' := by
  by_cases h : 0 ≤ n
  · have Hf := Lib.hid (show vtRB n = decide (n ≤ 30) by unfold vtRB; rw [Bool.eq_iff_iff]; simp only [decide_eq_true_eq]; omega)
    go_enter Try.func68, Try.ntmps68
    go_wp2
    go_ret
    exact ⟨ret_bool Hf.out.symm, rfl⟩
  · have Hf := Lib.hid (show vtRB n = false by unfold vtRB; exact decide_eq_false (by omega))
    go_enter Try.func68, Try.ntmps68
    go_wp2
    go_ret
    exact ⟨ret_bool Hf.out.symm, rfl⟩

theorem vt_isDigest (n : Int) (w : World) : Calls Try.prog 69 #[.int .i64 n] w fun e w' => e = .returned (.bool (digB n)) ∧ w = w' := by
  by_cases h : 0 ≤ n
  · have Hf := Lib.hid (show digB n = decide (n < 991) by unfold digB; rw [Bool.eq_iff_iff]; simp only [decide_eq_true_eq]; omega)
    go_enter Try.func69, Try.ntmps69
    go_wp2
    go_ret
    exact ⟨ret_bool Hf.out.symm, rfl⟩
  · have Hf := Lib.hid (show digB n = false by unfold digB; exact decide_eq_false (by omega))
    go_enter Try.func69, Try.ntmps69
    go_wp2
    go_ret
    exact ⟨ret_bool Hf.out.symm, rfl⟩

theorem vote_valid (r a d : Int) (w : World) :
    Calls Try.prog 40 #[.agg #[.int .i64 r, .int .i64 a, .int .i64 d]] w fun e w' => e = .returned (.bool (voteB ⟨r, a, d⟩)) ∧ Below w.heap.size w w' := by
  have hb0 : Below w.heap.size w (w.alloc (.cells #[.int .i64 r, .int .i64 a, .int .i64 d] 27)) := (Below.refl _ _).alloc (Nat.le_refl _) _
  have s0 := Str.new w 27 #[.int .i64 r, .int .i64 a, .int .i64 d]
  have k0 := s0.cell 0 (v := .int .i64 r) rfl
  have k1 := s0.cell 1 (v := .int .i64 a) rfl
  have k2 := s0.cell 2 (v := .int .i64 d) rfl
  have H1 := Lib.hid (fun W => vt_isRound r W)
  have H4 := Lib.hid (fun W => vt_isDigest d W)
  have Hb0 := Lib.hid hb0; clear hb0 s0
  have Hres := Lib.hid (show voteB ⟨r, a, d⟩ = (vtRB r && (vtAB a && digB d)) from rfl)
  go_enter Try.func40, Try.ntmps40
  go_wp2_with fail
  generalize w.alloc (.cells #[.int .i64 r, .int .i64 a, .int .i64 d] 27) = W0 at *
  refine (H1.out W0).mono ?_
  rintro e w1 ⟨rfl, rfl⟩
  cases h1 : vtRB r with
  | false =>
    go_wp2
    go_ret
    exact ⟨ret_bool (by rw [Hres.out, h1]; rfl), Hb0.out⟩
  | true =>
  by_cases ha : 0 ≤ a
  case neg =>
    have h2 : vtAB a = false := decide_eq_false (by omega)
    go_wp2
    go_ret
    exact ⟨ret_bool (by rw [Hres.out, h1, h2]; rfl), Hb0.out⟩
  by_cases ha' : a < 7
  case neg =>
    have h2 : vtAB a = false := decide_eq_false (by omega)
    go_wp2
    go_ret
    exact ⟨ret_bool (by rw [Hres.out, h1, h2]; rfl), Hb0.out⟩
  have h2 : vtAB a = true := decide_eq_true (by omega)
  go_wp2_with fail
  refine (H4.out W0).mono ?_
  rintro e w1 ⟨rfl, rfl⟩
  go_wp2
  go_ret
  exact ⟨ret_bool (by rw [Hres.out, h1, h2]; rfl), Hb0.out⟩

theorem vote_place (r a d : Int) (w : World) :
    Calls Try.prog 42 #[.agg #[.int .i64 r, .int .i64 a, .int .i64 d]] w fun e w' => e = .returned (.agg #[.int .i64 r, .int .i64 a]) ∧ Below w.heap.size w w' := by
  have hb0 : Below w.heap.size w ((w.alloc (.cells #[.int .i64 r, .int .i64 a, .int .i64 d] 27)).alloc (.cells #[.int .i64 0, .int .i64 0] 75)) := ((Below.refl _ w).alloc (Nat.le_refl _) _).alloc (by simp) _
  have s0 := (Str.new w 27 #[.int .i64 r, .int .i64 a, .int .i64 d]).alloc (.cells #[.int .i64 0, .int .i64 0] 75)
  have s1 := Str.new (w.alloc (.cells #[.int .i64 r, .int .i64 a, .int .i64 d] 27)) 75 #[.int .i64 0, .int .i64 0]
  simp only [World.size_alloc] at s1
  have k0 := s0.cell 0 (v := .int .i64 r) rfl
  have k1 := s0.cell 1 (v := .int .i64 a) rfl
  have g0 := s1.frozen 0
  have g1 := s1.frozen 1
  have j0 := s1.cell 0 (v := .int .i64 0) rfl
  have j1 := s1.cell 1 (v := .int .i64 0) rfl
  have u := (s1.set 0 (.int .i64 r)).set 1 (.int .i64 a)
  have e0 := u.cell 0 (v := .int .i64 r) rfl
  have e1 := u.cell 1 (v := .int .i64 a) rfl
  clear u s0 s1
  clear hb0
  go_enter Try.func42, Try.ntmps42
  go_wp2
  refine bodyPost_ret (v := .agg #[.int .i64 r, .int .i64 a]) (by simp [results, Try.f42, go_sem]) rfl ?_
  exact ⟨rfl, ((Below.refl _ w).alloc (Nat.le_refl _) _).alloc (by simp) _⟩

set_option maxHeartbeats 1000000 in
theorem tally_fits (ac : Option Addr) (capc : Nat) (c : List Int) (r a d : Int) (am : Option Addr) (cm : Nat) (ms : List Int) (w : World) (hn : c.length ≤ 1099511627776) (hbig : ms.length ≤ 1099511627776) (hc : IntsAt w ac c) (hm : IntsAt w am ms) :
    Calls Try.prog 60 #[.agg #[.int .i64 r, .int .i64 a, .int .i64 d, .slice am ms.length cm], .slice ac c.length capc] w fun e w' => e = .returned (.bool (tallyB c ⟨r, a, d⟩ ms)) ∧ Below w.heap.size w w' := by
  have hb0 : Below w.heap.size w (w.alloc (.cells #[.int .i64 r, .int .i64 a, .int .i64 d, .slice am ms.length cm] 54)) := (Below.refl _ _).alloc (Nat.le_refl _) _
  have s0 := Str.new w 54 #[.int .i64 r, .int .i64 a, .int .i64 d, .slice am ms.length cm]
  have hsz0 : (w.alloc (.cells #[.int .i64 r, .int .i64 a, .int .i64 d, .slice am ms.length cm] 54)).heap.size = w.heap.size + 1 := by simp
  have k0 := s0.cell 0 (v := .int .i64 r) rfl
  have k1 := s0.cell 1 (v := .int .i64 a) rfl
  have k2 := s0.cell 2 (v := .int .i64 d) rfl
  have k3 := s0.cell 3 (v := .slice am ms.length cm) rfl
  have HC := Lib.hid (hc.below hb0)
  have HM := Lib.hid (hm.below hb0)
  have Hb0 := Lib.hid hb0; clear hb0 s0 hc hm
  have H1 := Lib.hid (fun W (h : IntsAt W ac c) => committee_valid ac capc c W hn h)
  have H2 := Lib.hid (fun W => vote_valid r a d W)
  have H3 := Lib.hid (fun (h : c.length ≤ 7) W (h' : IntsAt W am ms) => committee_hasMembers ac capc c.length am cm ms W (by omega) hbig h')
  have Hres := Lib.hid (show tallyB c ⟨r, a, d⟩ ms = (validB c && (voteB ⟨r, a, d⟩ && membersB c.length ms)) from rfl)
  go_enter Try.func60, Try.ntmps60
  go_wp2_with fail
  generalize w.alloc (.cells #[.int .i64 r, .int .i64 a, .int .i64 d, .slice am ms.length cm] 54) = W0 at *
  refine (H1.out W0 HC.out).mono ?_
  rintro e w1 ⟨rfl, rfl⟩
  cases h1 : validB c with
  | false =>
    go_wp2
    go_ret
    exact ⟨ret_bool (by rw [Hres.out, h1]; rfl), Hb0.out⟩
  | true =>
  go_wp2_with fail
  refine (H2.out W0).mono ?_
  rintro e w1 ⟨rfl, hb1⟩
  have k3 := (hb1.cell (p := ⟨w.heap.size, 3, none⟩) (by simp only; omega)).trans k3
  have HM1 := Lib.hid (HM.out.below hb1)
  have Hb1 := Lib.hid (below_step Hb0.out Hb0.out.size hb1)
  clear hb1 k0 k1 k2
  cases h2 : voteB ⟨r, a, d⟩ with
  | false =>
    go_wp2
    go_ret
    exact ⟨ret_bool (by rw [Hres.out, h1, h2]; rfl), Hb1.out⟩
  | true =>
  have hl7 := (validB_len h1).2
  go_wp2_with fail
  refine (H3.out hl7 w1 HM1.out).mono ?_
  rintro e w2 ⟨rfl, rfl⟩
  go_wp2
  go_ret
  exact ⟨ret_bool (by rw [Hres.out, h1, h2]; rfl), Hb1.out⟩

