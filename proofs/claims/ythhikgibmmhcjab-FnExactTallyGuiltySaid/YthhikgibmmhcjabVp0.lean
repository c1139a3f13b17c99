/- impl's small functions of votes and tallies, each by a walk of its text; conditions: lists are shorter than 2^40, and where the text asks it, the committee is valid. -/
import Derived.Test.YthhikgibmmhcjabRows
import Derived.Test.YthhikgibmmhcjabVt1
import Derived.Test.YthhikgibmmhcjabC1
import Derived.Test.YthhikgibmmhcjabL1
import Derived.Test.YthhikgibmmhcjabHeld
import Derived.Deep.QuietTactic
import Derived.BigQuiet
namespace Go.Proofs.Ythhikgibmmhcjab
open Go.RowKit

theorem vt_isRound (n : Int) (w : World) : Calls Try.prog 71 #[.int .i64 n] w fun e w' => e = .returned (.bool (vtRB n)) ∧ w = w' := by
  by_cases h : 0 ≤ n
  · have Hf := Lib.hid (show vtRB n = decide (n ≤ 30) by unfold vtRB; rw [Bool.eq_iff_iff]; simp only [decide_eq_true_eq]; omega)
    go_enter Try.func71, Try.ntmps71
    go_wp2
    go_ret
    exact ⟨ret_bool Hf.out.symm, rfl⟩
  · have Hf := Lib.hid (show vtRB n = false by unfold vtRB; exact decide_eq_false (by omega))
    go_enter Try.func71, Try.ntmps71
    go_wp2
    go_ret
    exact ⟨ret_bool Hf.out.symm, rfl⟩

theorem vt_isDigest (n : Int) (w : World) : Calls Try.prog 72 #[.int .i64 n] w fun e w' => e = .returned (.bool (digB n)) ∧ w = w' := by
  by_cases h : 0 ≤ n
  · have Hf := Lib.hid (show digB n = decide (n < 991) by unfold digB; rw [Bool.eq_iff_iff]; simp only [decide_eq_true_eq]; omega)
    go_enter Try.func72, Try.ntmps72
    go_wp2
    go_ret
    exact ⟨ret_bool Hf.out.symm, rfl⟩
  · have Hf := Lib.hid (show digB n = false by unfold digB; exact decide_eq_false (by omega))
    go_enter Try.func72, Try.ntmps72
    go_wp2
    go_ret
    exact ⟨ret_bool Hf.out.symm, rfl⟩

theorem vote_valid (r a d : Int) (w : World) :
    Calls Try.prog 55 #[.agg #[.int .i64 r, .int .i64 a, .int .i64 d]] w fun e w' => e = .returned (.bool (voteB ⟨r, a, d⟩)) ∧ Below w.heap.size w w' := by
  have hb0 : Below w.heap.size w (w.alloc (.cells #[.int .i64 r, .int .i64 a, .int .i64 d] 25)) := (Below.refl _ _).alloc (Nat.le_refl _) _
  have s0 := Str.new w 25 #[.int .i64 r, .int .i64 a, .int .i64 d]
  have k0 := s0.cell 0 (v := .int .i64 r) rfl
  have k1 := s0.cell 1 (v := .int .i64 a) rfl
  have k2 := s0.cell 2 (v := .int .i64 d) rfl
  have H1 := Lib.hid (fun W => vt_isRound r W)
  have H4 := Lib.hid (fun W => vt_isDigest d W)
  have Hb0 := Lib.hid hb0; clear hb0 s0
  have Hres := Lib.hid (show voteB ⟨r, a, d⟩ = (vtRB r && (vtAB a && digB d)) from rfl)
  go_enter Try.func55, Try.ntmps55
  go_wp2_with fail
  generalize w.alloc (.cells #[.int .i64 r, .int .i64 a, .int .i64 d] 25) = W0 at *
  refine (H1.out W0).mono ?_
  rintro e w1 ⟨rfl, rfl⟩
  cases h1 : vtRB r with
  | false =>
    go_wp2
    go_ret
    exact ⟨ret_bool (by rw [Hres.out, h1]; rfl), Hb0.out⟩
  | true =>
  by_cases ha : 0 ≤ a
  case neg =>
    have h2 : vtAB a = false := decide_eq_false (by omega)
    go_wp2
    go_ret
    exact ⟨ret_bool (by rw [Hres.out, h1, h2]; rfl), Hb0.out⟩
  by_cases ha' : a < 7
  case neg =>
    have h2 : vtAB a = false := decide_eq_false (by omega)
    go_wp2
    go_ret
    exact ⟨ret_bool (by rw [Hres.out, h1, h2]; rfl), Hb0.out⟩
  have h2 : vtAB a = true := decide_eq_true (by omega)
  go_wp2_with fail
  refine (H4.out W0).mono ?_
  rintro e w1 ⟨rfl, rfl⟩
  go_wp2
  go_ret
  exact ⟨ret_bool (by rw [Hres.out, h1, h2]; rfl), Hb0.out⟩

theorem vote_place (r a d : Int) (w : World) :
    Calls Try.prog 57 #[.agg #[.int .i64 r, .int .i64 a, .int .i64 d]] w fun e w' => e = .returned (.agg #[.int .i64 r, .int .i64 a]) ∧ Below w.heap.size w w' := by
  have hb0 : Below w.heap.size w ((w.alloc (.cells #[.int .i64 r, .int .i64 a, .int .i64 d] 25)).alloc (.cells #[.int .i64 0, .int .i64 0] 76)) := ((Below.refl _ w).alloc (Nat.le_refl _) _).alloc (by simp) _
  have s0 := (Str.new w 25 #[.int .i64 r, .int .i64 a, .int .i64 d]).alloc (.cells #[.int .i64 0, .int .i64 0] 76)
  have s1 := Str.new (w.alloc (.cells #[.int .i64 r, .int .i64 a, .int .i64 d] 25)) 76 #[.int .i64 0, .int .i64 0]
  simp only [World.size_alloc] at s1
  have k0 := s0.cell 0 (v := .int .i64 r) rfl
  have k1 := s0.cell 1 (v := .int .i64 a) rfl
  have g0 := s1.frozen 0
  have g1 := s1.frozen 1
  have j0 := s1.cell 0 (v := .int .i64 0) rfl
  have j1 := s1.cell 1 (v := .int .i64 0) rfl
  have u := (s1.set 0 (.int .i64 r)).set 1 (.int .i64 a)
  have e0 := u.cell 0 (v := .int .i64 r) rfl
  have e1 := u.cell 1 (v := .int .i64 a) rfl
  clear u s0 s1
  clear hb0
  go_enter Try.func57, Try.ntmps57
  go_wp2
  refine bodyPost_ret (v := .agg #[.int .i64 r, .int .i64 a]) (by simp [results, Try.f57, go_sem]) rfl ?_
  exact ⟨rfl, ((Below.refl _ w).alloc (Nat.le_refl _) _).alloc (by simp) _⟩

set_option maxHeartbeats 1000000 in
theorem tally_fits (ac : Option Addr) (capc : Nat) (c : List Int) (r a d : Int) (am : Option Addr) (cm : Nat) (ms : List Int) (w : World) (hn : c.length ≤ 1099511627776) (hbig : ms.length ≤ 1099511627776) (hc : IntsAt w ac c) (hm : IntsAt w am ms) :
    Calls Try.prog 32 #[.agg #[.int .i64 r, .int .i64 a, .int .i64 d, .slice am ms.length cm], .slice ac c.length capc] w fun e w' => e = .returned (.bool (tallyB c ⟨r, a, d⟩ ms)) ∧ Below w.heap.size w w' := by
  have hb0 : Below w.heap.size w (w.alloc (.cells #[.int .i64 r, .int .i64 a, .int .i64 d, .slice am ms.length cm] 27)) := (Below.refl _ _).alloc (Nat.le_refl _) _
  have s0 := Str.new w 27 #[.int .i64 r, .int .i64 a, .int .i64 d, .slice am ms.length cm]
  have hsz0 : (w.alloc (.cells #[.int .i64 r, .int .i64 a, .int .i64 d, .slice am ms.length cm] 27)).heap.size = w.heap.size + 1 := by simp
  have k0 := s0.cell 0 (v := .int .i64 r) rfl
  have k1 := s0.cell 1 (v := .int .i64 a) rfl
  have k2 := s0.cell 2 (v := .int .i64 d) rfl
  have k3 := s0.cell 3 (v := .slice am ms.length cm) rfl
  have HC := Lib.hid (hc.below hb0)
  have HM := Lib.hid (hm.below hb0)
  have Hb0 := Lib.hid hb0; clear hb0 s0 hc hm
  have H1 := Lib.hid (fun W (h : IntsAt W ac c) => committee_valid ac capc c W hn h)
  have H2 := Lib.hid (fun W => vote_valid r a d W)
  have H3 := Lib.hid (fun (h : c.length ≤ 7) W (h' : IntsAt W am ms) => committee_hasMembers ac capc c.length am cm ms W (by omega) hbig h')
  have Hres := Lib.hid (show tallyB c ⟨r, a, d⟩ ms = (validB c && (voteB ⟨r, a, d⟩ && membersB c.length ms)) from rfl)
  go_enter Try.func32, Try.ntmps32
  go_wp2_with fail
  generalize w.alloc (.cells #[.int .i64 r, .int .i64 a, .int .i64 d, .slice am ms.length cm] 27) = W0 at *
  refine (H1.out W0 HC.out).mono ?_
  rintro e w1 ⟨rfl, rfl⟩
  cases h1 : validB c with
  | false =>
    go_wp2
    go_ret
    exact ⟨ret_bool (by rw [Hres.out, h1]; rfl), Hb0.out⟩
  | true =>
  go_wp2_with fail
  refine (H2.out W0).mono ?_
  rintro e w1 ⟨rfl, hb1⟩
  have k3 := (hb1.cell (p := ⟨w.heap.size, 3, none⟩) (by simp only; omega)).trans k3
  have HM1 := Lib.hid (HM.out.below hb1)
  have Hb1 := Lib.hid (below_step Hb0.out Hb0.out.size hb1)
  clear hb1 k0 k1 k2
  cases h2 : voteB ⟨r, a, d⟩ with
  | false =>
    go_wp2
    go_ret
    exact ⟨ret_bool (by rw [Hres.out, h1, h2]; rfl), Hb1.out⟩
  | true =>
  have hl7 := (validB_len h1).2
  go_wp2_with fail
  refine (H3.out hl7 w1 HM1.out).mono ?_
  rintro e w2 ⟨rfl, rfl⟩
  go_wp2
  go_ret
  exact ⟨ret_bool (by rw [Hres.out, h1, h2]; rfl), Hb1.out⟩

theorem slices_Index (a : Option Addr) (cap : Nat) (l : List Int) (n : Int) (w : World) (hbig : l.length ≤ 1099511627776) (hc : IntsAt w a l) :
    Calls Try.prog 73 #[.slice a l.length cap, .int .i64 n] w fun e w' => ∃ z : Int, e = .returned (.int .i64 z) ∧ decide (0 ≤ z) = hasB l n ∧ w = w' := by
  rcases hc.len with h0 | ⟨b, off, rfl, hb, hc⟩
  all_goals
    go_enter Try.func73, Try.ntmps73
    go_wp2
    go_loop [8] (fun i => ∃ k : Nat, k ≤ l.length ∧ i = .int .i64 k ∧ Pre (fun x => x != n) l k) (fun i => l.length - (intOf i).toNat)
    case atStart => exact ⟨0, by omega, rfl, pre_zero _ _⟩
    case round =>
      obtain ⟨k, hk, rfl, hg⟩ := hrel
      by_cases hlt : k < l.length
      · first
        | (exfalso; omega)
        | (have hcell := hc k hlt
           have Hc := Lib.hid hc; clear hc
           by_cases e : l[k] = n
           · have e1 : (n == l[k]) = true := by rw [beq_iff_eq]; exact e.symm
             have hf := hasB_yes hlt
             rw [e] at hf
             have Hf := Lib.hid hf; clear hf e
             go_wp2
             go_ret
             exact ⟨_, rfl, by rw [Hf.out]; exact decide_eq_true (by omega), rfl⟩
           · have e1 : (n == l[k]) = false := by rw [beq_eq_false_iff_ne]; exact fun h => e h.symm
             have Hs := Lib.hid (pre_step hg hlt (by simpa using e)); clear hg e
             go_wp2
             go_round
             case rel => exact ⟨k + 1, by omega, by go_num, Hs.out⟩
             case measure => simp [intOf]; omega)
      · have Hf := Lib.hid (hasB_no hg (by omega)); clear hg
        go_wp2
        go_ret
        exact ⟨_, rfl, by rw [Hf.out]; rfl, rfl⟩

theorem slices_Contains (a : Option Addr) (cap : Nat) (l : List Int) (n : Int) (w : World) (hbig : l.length ≤ 1099511627776) (hc : IntsAt w a l) :
    Calls Try.prog 59 #[.slice a l.length cap, .int .i64 n] w fun e w' => e = .returned (.bool (hasB l n)) ∧ w = w' := by
  have H := Lib.hid (slices_Index a cap l n w hbig hc)
  go_enter Try.func59, Try.ntmps59
  go_wp2_with fail
  refine H.out.mono ?_
  rintro e w1 ⟨z, rfl, hz, rfl⟩
  have Hz := Lib.hid hz; clear hz
  go_wp2
  go_ret
  exact ⟨ret_bool (by rw [← Hz.out]), rfl⟩

end Go.Proofs.Ythhikgibmmhcjab
