/- The reference's tests of tallies, each by a walk of its text; conditions: lists are shorter than 2^40. -/
import Derived.Test.YtkndndcjchlpdaaRows
import Derived.Test.YtkndndcjchlpdaaVt1
import Derived.Test.YtkndndcjchlpdaaHeld
import Derived.Deep.QuietTactic
import Derived.BigQuiet
namespace Go.Proofs.Ytkndndcjchlpdaa
open Go.RowKit

set_option maxHeartbeats 1000000 in
theorem spec_l12Tally (ac : Option Addr) (capc : Nat) (c : List Int) (r a d : Int) (am : Option Addr) (cm : Nat) (ms : List Int) (w : World) (hn : c.length ≤ 1099511627776) (hbig : ms.length ≤ 1099511627776) (hc : IntsAt w ac c) (hm : IntsAt w am ms) :
    Calls Try.prog 57 #[.slice ac c.length capc, .agg #[.int .i64 r, .int .i64 a, .int .i64 d, .slice am ms.length cm]] w fun e w' => e = .returned (.bool (tallyB c ⟨r, a, d⟩ ms)) ∧ Below w.heap.size w w' := by
  have hb0 : Below w.heap.size w (w.alloc (.cells #[.int .i64 r, .int .i64 a, .int .i64 d, .slice am ms.length cm] 54)) := (Below.refl _ _).alloc (Nat.le_refl _) _
  have s0 := Str.new w 54 #[.int .i64 r, .int .i64 a, .int .i64 d, .slice am ms.length cm]
  have hsz0 : (w.alloc (.cells #[.int .i64 r, .int .i64 a, .int .i64 d, .slice am ms.length cm] 54)).heap.size = w.heap.size + 1 := by simp
  have k0 := s0.cell 0 (v := .int .i64 r) rfl
  have k1 := s0.cell 1 (v := .int .i64 a) rfl
  have k2 := s0.cell 2 (v := .int .i64 d) rfl
  have k3 := s0.cell 3 (v := .slice am ms.length cm) rfl
  have HC := Lib.hid (hc.below hb0)
  have HM := Lib.hid (hm.below hb0)
  have Hb0 := Lib.hid hb0; clear hb0 s0 hc hm
  have H1 := Lib.hid (fun W (h : IntsAt W ac c) => spec_CommitteeValid ac capc c W hn h)
  have H2 := Lib.hid (fun W => spec_l12Vote r a d W)
  have H3 := Lib.hid (fun W (h : IntsAt W am ms) => spec_l1Members ac capc c.length am cm ms W hn hbig h)
  have Hres := Lib.hid (show tallyB c ⟨r, a, d⟩ ms = (validB c && (voteB ⟨r, a, d⟩ && membersB c.length ms)) from rfl)
  go_enter Try.func57, Try.ntmps57
  go_wp2_with fail
  generalize w.alloc (.cells #[.int .i64 r, .int .i64 a, .int .i64 d, .slice am ms.length cm] 54) = W0 at *
  refine (H1.out W0 HC.out).mono ?_
  rintro e w1 ⟨rfl, rfl⟩
  cases h1 : validB c with
  | false =>
    go_wp2
    go_ret
    exact ⟨ret_bool (by rw [Hres.out, h1]; rfl), Hb0.out⟩
  | true =>
  go_wp2_with fail
  refine (H2.out W0).mono ?_
  rintro e w1 ⟨rfl, hb1⟩
  have k3 := (hb1.cell (p := ⟨w.heap.size, 3, none⟩) (by simp only; omega)).trans k3
  have HM1 := Lib.hid (HM.out.below hb1)
  have Hb1 := Lib.hid (below_step Hb0.out Hb0.out.size hb1)
  clear hb1 k0 k1 k2
  cases h2 : voteB ⟨r, a, d⟩ with
  | false =>
    go_wp2
    go_ret
    exact ⟨ret_bool (by rw [Hres.out, h1, h2]; rfl), Hb1.out⟩
  | true =>
  go_wp2_with fail
  refine (H3.out w1 HM1.out).mono ?_
  rintro e w2 ⟨rfl, hd⟩
  have Hb2 := Lib.hid (Hb1.out.trans (hd.below _))
  clear hd
  cases h3 : membersB c.length ms with
  | false =>
    go_wp2
    go_ret
    exact ⟨ret_bool (by rw [Hres.out, h1, h2, h3]; rfl), Hb2.out⟩
  | true =>
    go_wp2
    go_ret
    exact ⟨ret_bool (by rw [Hres.out, h1, h2, h3]; rfl), Hb2.out⟩

/-- The tally is done. -/
def doneB (c : List Int) (v : Vt) (ms : List Int) : Bool := tallyB c v ms && decide (2 * totalZ c / 3 + 1 ≤ weightZ c ms)

