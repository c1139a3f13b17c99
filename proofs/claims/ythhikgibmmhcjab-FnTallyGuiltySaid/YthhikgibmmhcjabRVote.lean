/- The exact laws' functions on values and lists of Vote: sameness, copies, sizes, marks, each by a walk of its text; conditions: the lists are no longer than the laws' bound. -/
import Derived.Test.YthhikgibmmhcjabRows
import Derived.Test.YthhikgibmmhcjabBase
import Derived.Test.YthhikgibmmhcjabApp
import Derived.Test.YthhikgibmmhcjabDt
import Derived.Test.YthhikgibmmhcjabOwR
import Derived.Test.YthhikgibmmhcjabOwS
import Derived.Test.YthhikgibmmhcjabRow
import Derived.Test.YthhikgibmmhcjabEx
import Derived.Test.YthhikgibmmhcjabHeld
import Derived.Test.YthhikgibmmhcjabL1
import Derived.Test.YthhikgibmmhcjabL2
import Derived.Test.YthhikgibmmhcjabOpen
import Derived.Deep.QuietTactic
import Derived.BigQuiet
namespace Go.Proofs.Ythhikgibmmhcjab
open Go.RowKit

def voteP (e : List Fd) : Prop := ∃ (x0 : Int) (x1 : Int) (x2 : Int), e = [.i x0, .i x1, .i x2]
theorem voteP_len {es : List (List Fd)} (h : ∀ e ∈ es, voteP e) : ∀ e ∈ es, e.length = 3 := by
  intro e he
  obtain ⟨_, _, _, rfl⟩ := h e he
  rfl

theorem vote_inf : (Try.prog.info? 25).map (fun i => (i.zero, i.size, i.bytes)) = some (some (.agg #[.int .i64 0, .int .i64 0, .int .i64 0]), 3, 24) := by kernel_rfl

/-- A Vote that came in by value. -/
theorem open_Vote {H : Type} {enc : TypeId × Value → H} {W : World} {base : Nat} {v : Value} {d : DataW H} {p : List MemPlace} (hv : Value.okWide Try.prog W .any base 37 v) (h : DataW.Trod enc Try.prog W 0 (fun _ => true) true 37 v d p) :
    ∃ x0 x1 x2, v = .agg #[.int .i64 x0, .int .i64 x1, .int .i64 x2] ∧ (-9223372036854775808 ≤ x0 ∧ x0 ≤ 9223372036854775807) ∧ (-9223372036854775808 ≤ x1 ∧ x1 ≤ 9223372036854775807) ∧ (-9223372036854775808 ≤ x2 ∧ x2 ≤ 9223372036854775807) := by
  obtain ⟨cs, rfl, hl, hf⟩ := open_struct (Gs := [IntG, IntG, IntG]) Try.underlying37 (by kernel_rfl) rfl (fun j h h' => by
    match j, h, h' with
    | 0, _, _ => exact ⟨rfl, opens_int Try.underlying3 (by kernel_rfl)⟩
    | 1, _, _ => exact ⟨rfl, opens_int Try.underlying3 (by kernel_rfl)⟩
    | 2, _, _ => exact ⟨rfl, opens_int Try.underlying3 (by kernel_rfl)⟩) hv h
  match cs, hl with
  | [u0, u1, u2], _ =>
    obtain ⟨d0, f0, r0, x0, rfl, b0⟩ := hf 0 (by simp) (by simp)
    obtain ⟨rfl, _⟩ := Rd.int (show Rd W (.i x0) u0 f0 from r0)
    obtain ⟨d1, f1, r1, x1, rfl, b1⟩ := hf 1 (by simp) (by simp)
    obtain ⟨rfl, _⟩ := Rd.int (show Rd W (.i x1) u1 f1 from r1)
    obtain ⟨d2, f2, r2, x2, rfl, b2⟩ := hf 2 (by simp) (by simp)
    obtain ⟨rfl, _⟩ := Rd.int (show Rd W (.i x2) u2 f2 from r2)
    exact ⟨x0, x1, x2, rfl, b0, b1, b2⟩

theorem laws_eqVoteR (x0 : Int) (x1 : Int) (x2 : Int) (w : World) :
    Calls Try.prog 49 #[.agg #[.int .i64 x0, .int .i64 x1, .int .i64 x2], .agg #[.int .i64 x0, .int .i64 x1, .int .i64 x2]] w fun e w' => e = .returned (.bool true) ∧ Below w.heap.size w w' := by
  have hb : Below w.heap.size w ((w.alloc (.cells #[.int .i64 x0, .int .i64 x1, .int .i64 x2] 25)).alloc (.cells #[.int .i64 x0, .int .i64 x1, .int .i64 x2] 25)) := ((Below.refl _ w).alloc (Nat.le_refl _) _).alloc (by simp) _
  go_enter Try.func49, Try.ntmps49
  go_wp2
  go_ret
  exact ⟨rfl, hb⟩

theorem laws_toVoteR (x0 : Int) (x1 : Int) (x2 : Int) (w : World) :
    Calls Try.prog 45 #[.agg #[.int .i64 x0, .int .i64 x1, .int .i64 x2]] w fun e w' => e = .returned (.agg #[.int .i64 x0, .int .i64 x1, .int .i64 x2]) ∧ Below w.heap.size w w' := by
  have hbW : Below w.heap.size w (((w.alloc (.cells #[.int .i64 x0, .int .i64 x1, .int .i64 x2] 37)).alloc (.cells #[.int .i64 0, .int .i64 0, .int .i64 0] 25)).alloc (.cells #[.int .i64 x0, .int .i64 x1, .int .i64 x2] 25)) := (((Below.refl _ w).alloc (Nat.le_refl _) _).alloc (by simp) _).alloc (by simp; omega) _
  have s0 := ((Str.new w 37 #[.int .i64 x0, .int .i64 x1, .int .i64 x2]).alloc (.cells #[.int .i64 0, .int .i64 0, .int .i64 0] 25)).alloc (.cells #[.int .i64 x0, .int .i64 x1, .int .i64 x2] 25)
  have s1 := (Str.new (w.alloc (.cells #[.int .i64 x0, .int .i64 x1, .int .i64 x2] 37)) 25 #[.int .i64 0, .int .i64 0, .int .i64 0]).alloc (.cells #[.int .i64 x0, .int .i64 x1, .int .i64 x2] 25)
  have s2 := Str.new ((w.alloc (.cells #[.int .i64 x0, .int .i64 x1, .int .i64 x2] 37)).alloc (.cells #[.int .i64 0, .int .i64 0, .int .i64 0] 25)) 25 #[.int .i64 x0, .int .i64 x1, .int .i64 x2]
  have hzW : (((w.alloc (.cells #[.int .i64 x0, .int .i64 x1, .int .i64 x2] 37)).alloc (.cells #[.int .i64 0, .int .i64 0, .int .i64 0] 25)).alloc (.cells #[.int .i64 x0, .int .i64 x1, .int .i64 x2] 25)).heap.size = w.heap.size + 3 := by simp
  simp only [World.size_alloc] at s1 s2
  have Hb := Lib.hid hbW
  have Hs0 := Lib.hid s0
  have Hs1 := Lib.hid s1
  have Hs2 := Lib.hid s2
  have Hz := Lib.hid hzW
  clear hbW s0 s1 s2 hzW
  have t0 := Hs0.out
  have t1 := Hs1.out
  have t2 := Hs2.out
  clear Hs0 Hs1 Hs2 Hz
  have k0 := t1.cell 0 (v := .int .i64 0) rfl
  have k1 := t1.cell 1 (v := .int .i64 0) rfl
  have k2 := t1.cell 2 (v := .int .i64 0) rfl
  have f0 := t1.frozen 0
  have f1 := t1.frozen 1
  have f2 := t1.frozen 2
  have j0 := t2.cell 0 (v := .int .i64 x0) rfl
  have j1 := t2.cell 1 (v := .int .i64 x1) rfl
  have j2 := t2.cell 2 (v := .int .i64 x2) rfl
  have hne : w.heap.size + 1 ≠ w.heap.size + 1 + 1 := by omega
  have u := (((t1.set 0 (.int .i64 x0)).set 1 (.int .i64 x1)).set 2 (.int .i64 x2))
  have e0 := u.cell 0 (v := .int .i64 x0) rfl
  have e1 := u.cell 1 (v := .int .i64 x1) rfl
  have e2 := u.cell 2 (v := .int .i64 x2) rfl
  clear u t0 t1 t2
  go_enter Try.func45, Try.ntmps45
  go_wp2
  refine bodyPost_ret (v := .agg #[.int .i64 x0, .int .i64 x1, .int .i64 x2]) (by simp [results, Try.f45, go_sem]) rfl ?_
  exact ⟨rfl, (((Below.refl _ w).alloc (Nat.le_refl _) _).alloc (by simp) _).alloc (by simp; omega) _⟩

theorem vote_info : (Try.prog.info? 25).map (fun i => (i.zero, i.size, i.bytes)) = some (some (.agg #[.int .i64 0, .int .i64 0, .int .i64 0]), 3, 24) := by kernel_rfl

