/- A tally's quorum as impl asks it, by a walk of its text; conditions: lists are shorter than 2^40. -/
import Derived.Test.YthhikgibmmhcjabRows
import Derived.Test.YthhikgibmmhcjabVp0
import Derived.Test.YthhikgibmmhcjabVt3
import Derived.Deep.QuietTactic
import Derived.BigQuiet
namespace Go.Proofs.Ythhikgibmmhcjab
open Go.RowKit

def vqB (c ps : List Int) : Bool := membersB c.length ps && decide (2 * totalZ c / 3 + 1 ≤ weightZ c ps)
theorem vt_isQuorum (ac : Option Addr) (capc : Nat) (c : List Int) (pa : Option Addr) (pc : Nat) (ps : List Int) (w : World) (hv : validB c = true) (hbig : ps.length ≤ 1099511627776) (hc : IntsAt w ac c) (hp : IntsAt w pa ps) :
    Calls Try.prog 36 #[.slice ac c.length capc, .slice pa ps.length pc] w fun e w' => e = .returned (.bool (vqB c ps)) ∧ w = w' := by
  obtain ⟨hn1, hn7⟩ := validB_len hv
  have H1 := Lib.hid (committee_hasMembers ac capc c.length pa pc ps w (by omega) hbig hp)
  have H2 := Lib.hid (fun (hm : membersB c.length ps = true) => committee_weight ac capc c pa pc ps w hv hm hbig hc hp)
  have H3 := Lib.hid (committee_quorum ac capc c w hv hc)
  clear hc hp
  have Hq := Lib.hid (show vqB c ps = (membersB c.length ps && decide (2 * totalZ c / 3 + 1 ≤ weightZ c ps)) from rfl)
  go_enter Try.func36, Try.ntmps36
  go_wp2_with fail
  refine H1.out.mono ?_
  rintro e w1 ⟨rfl, rfl⟩
  cases hm : membersB c.length ps with
  | false =>
    go_wp2
    go_ret
    exact ⟨ret_bool (by rw [Hq.out, hm]; rfl), rfl⟩
  | true =>
    have H2 := Lib.hid (H2.out hm)
    go_wp2_with fail
    refine H2.out.mono ?_
    rintro e w1 ⟨rfl, rfl⟩
    go_wp2_with fail
    refine H3.out.mono ?_
    rintro e w1 ⟨rfl, rfl⟩
    go_wp2
    go_ret
    exact ⟨ret_bool (by rw [Hq.out, hm]; rfl), rfl⟩

set_option maxHeartbeats 1000000 in
theorem impl_TallyDone (ac : Option Addr) (capc : Nat) (c : List Int) (r a d : Int) (am : Option Addr) (cm : Nat) (ms : List Int) (w : World) (hn : c.length ≤ 1099511627776) (hbig : ms.length ≤ 1099511627776) (hc : IntsAt w ac c) (hm : IntsAt w am ms) :
    Calls Try.prog 12 #[.slice ac c.length capc, .agg #[.int .i64 r, .int .i64 a, .int .i64 d, .slice am ms.length cm]] w fun e w' => e = .returned (.bool (doneB c ⟨r, a, d⟩ ms)) ∧ Below w.heap.size w w' := by
  have hb0 : Below w.heap.size w (w.alloc (.cells #[.int .i64 r, .int .i64 a, .int .i64 d, .slice am ms.length cm] 27)) := (Below.refl _ _).alloc (Nat.le_refl _) _
  have s0 := Str.new w 27 #[.int .i64 r, .int .i64 a, .int .i64 d, .slice am ms.length cm]
  have hsz0 : (w.alloc (.cells #[.int .i64 r, .int .i64 a, .int .i64 d, .slice am ms.length cm] 27)).heap.size = w.heap.size + 1 := by simp
  have k0 := s0.cell 0 (v := .int .i64 r) rfl
  have k1 := s0.cell 1 (v := .int .i64 a) rfl
  have k2 := s0.cell 2 (v := .int .i64 d) rfl
  have k3 := s0.cell 3 (v := .slice am ms.length cm) rfl
  have HC := Lib.hid (hc.below hb0)
  have HM := Lib.hid (hm.below hb0)
  have Hb0 := Lib.hid hb0; clear hb0 s0 hc hm
  have H1 := Lib.hid (fun W (h : IntsAt W ac c) (h' : IntsAt W am ms) => tally_fits ac capc c r a d am cm ms W hn hbig h h')
  have Hres := Lib.hid (show doneB c ⟨r, a, d⟩ ms = (tallyB c ⟨r, a, d⟩ ms && decide (2 * totalZ c / 3 + 1 ≤ weightZ c ms)) from rfl)
  go_enter Try.func12, Try.ntmps12
  go_wp2_with fail
  generalize w.alloc (.cells #[.int .i64 r, .int .i64 a, .int .i64 d, .slice am ms.length cm] 27) = W0 at *
  refine (H1.out W0 HC.out HM.out).mono ?_
  rintro e w1 ⟨rfl, hb1⟩
  have k3 := (hb1.cell (p := ⟨w.heap.size, 3, none⟩) (by simp only; omega)).trans k3
  have HM1 := Lib.hid (HM.out.below hb1)
  have HC1 := Lib.hid (HC.out.below hb1)
  have Hb1 := Lib.hid (below_step Hb0.out Hb0.out.size hb1)
  clear hb1 k0 k1 k2
  cases h1 : tallyB c ⟨r, a, d⟩ ms with
  | false =>
    go_wp2
    go_ret
    exact ⟨ret_bool (by rw [Hres.out, h1]; rfl), Hb1.out⟩
  | true =>
  have hv : validB c = true := by
    have h := h1; unfold tallyB at h; simp only [Bool.and_eq_true] at h; exact h.1
  have hms : membersB c.length ms = true := by
    have h := h1; unfold tallyB at h; simp only [Bool.and_eq_true] at h; exact h.2.2
  have H2 := vt_isQuorum ac capc c am cm ms w1 hv hbig HC1.out HM1.out
  rw [show vqB c ms = decide (2 * totalZ c / 3 + 1 ≤ weightZ c ms) by unfold vqB; rw [hms]; rfl] at H2
  have H2 := Lib.hid H2
  clear hv hms
  go_wp2_with fail
  refine H2.out.mono ?_
  rintro e w2 ⟨rfl, rfl⟩
  go_wp2
  go_ret
  exact ⟨ret_bool (by rw [Hres.out, h1]; simp), Hb1.out⟩

end Go.Proofs.Ythhikgibmmhcjab
