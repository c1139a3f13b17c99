/- Votes, voters and tallies as lists of numbers, and the reference's tests of them, each by a walk of its text; conditions: lists are shorter than 2^40, and where the text asks it, the committee is valid. -/
import Derived.Test.YtkndndcjchlpdaaRows
import Derived.Test.YtkndndcjchlpdaaBase
import Derived.Test.YtkndndcjchlpdaaApp
import Derived.Test.YtkndndcjchlpdaaDt
import Derived.Test.YtkndndcjchlpdaaOwR
import Derived.Test.YtkndndcjchlpdaaRow
import Derived.Test.YtkndndcjchlpdaaHeld
import Derived.Test.YtkndndcjchlpdaaRVote
import Derived.Test.YtkndndcjchlpdaaC1
import Derived.Test.YtkndndcjchlpdaaC2
import Derived.Deep.QuietTactic
import Derived.BigQuiet
namespace Go.Proofs.Ytkndndcjchlpdaa
open Go.RowKit

/-- A vote: round, author, digest. -/
structure Vt where
  r : Int
  a : Int
  d : Int
deriving DecidableEq
def Vt.fd (v : Vt) : List Fd := [.i v.r, .i v.a, .i v.d]
def vt0 : Vt := ⟨0, 0, 0⟩
def vtRB (r : Int) : Bool := decide (0 ≤ r ∧ r ≤ 30)
def vtAB (a : Int) : Bool := decide (0 ≤ a ∧ a ≤ 6)
def voteB (v : Vt) : Bool := vtRB v.r && (vtAB v.a && digB v.d)
def vbefB (a b : Vt) : Bool := decide (a.r < b.r ∨ a.r = b.r ∧ a.a < b.a)
/-- The vote at k of a voter with this floor is valid, not below the floor and behind the one before it. -/
def okVt (f : Int) (g : List Vt) (i : Nat) : Bool := voteB (g.getD i vt0) && (decide (f ≤ (g.getD i vt0).r) && (i == 0 || vbefB (g.getD (i - 1) vt0) (g.getD i vt0)))
def voterB (f : Int) (g : List Vt) : Bool := allB (okVt f g) g.length && (decide (0 ≤ f ∧ f ≤ 31) && decide (g.length ≤ 40))
def tallyB (c : List Int) (v : Vt) (ms : List Int) : Bool := validB c && (voteB v && membersB c.length ms)
theorem getVt {g : List Vt} {k : Nat} (h : k < g.length) : g.getD k vt0 = g[k] := by simp [List.getD, List.getElem?_eq_getElem h]

/-- A list of votes in memory. -/
def Vts (w : World) (g : List Vt) (v : Value) (fp : List Nat) : Prop := Rd w (rowsD (g.map Vt.fd)) v fp
theorem Vts.under {w w' : World} {g : List Vt} {v : Value} {fp : List Nat} (h : Vts w g v fp) (hb : Below w.heap.size w w') : Vts w' g v fp := Rd.under h hb
theorem Vts.slice {w : World} {g : List Vt} {v : Value} {fp : List Nat} (h : Vts w g v fp) : ∃ a cap, v = .slice a g.length cap := by
  obtain ⟨a, cap, rfl⟩ := Rd.slice h
  exact ⟨a, cap, by simp⟩
theorem Vts.at {w : World} {g : List Vt} {a : Option Addr} {n cap : Nat} {fp : List Nat} (h : Vts w g (.slice a n cap) fp) (hne : 0 < g.length) : ∃ b off, a = some ⟨b, off, none⟩ ∧ b < w.heap.size ∧ ∀ k (hk : k < g.length),
    w.cell? ⟨b, off + k * 3, none⟩ = some (.int .i64 g[k].r) ∧ w.cell? ⟨b, off + k * 3 + 1, none⟩ = some (.int .i64 g[k].a) ∧ w.cell? ⟨b, off + k * 3 + 2, none⟩ = some (.int .i64 g[k].d) := by
  obtain ⟨b, off, rfl, hb, hc⟩ := rows_at (es := g.map Vt.fd) (m := 3) h (by simpa using hne) (fun e he => by obtain ⟨x, _, rfl⟩ := List.mem_map.1 he; rfl)
  refine ⟨b, off, rfl, hb, fun k hk => ?_⟩
  have hk' : k < (g.map Vt.fd).length := by simpa using hk
  have he : (g.map Vt.fd)[k] = g[k].fd := by simp
  obtain ⟨c0, _, h0, r0⟩ := hc k hk' 0 (by rw [he]; simp [Vt.fd])
  obtain ⟨c1, _, h1, r1⟩ := hc k hk' 1 (by rw [he]; simp [Vt.fd])
  obtain ⟨c2, _, h2, r2⟩ := hc k hk' 2 (by rw [he]; simp [Vt.fd])
  obtain rfl := rd_i r0 (x := g[k].r) (by simp only [he]; rfl)
  obtain rfl := rd_i r1 (x := g[k].a) (by simp only [he]; rfl)
  obtain rfl := rd_i r2 (x := g[k].d) (by simp only [he]; rfl)
  exact ⟨h0, h1, h2⟩

theorem spec_l12Vote (r a d : Int) (w : World) :
    Calls Try.prog 45 #[.agg #[.int .i64 r, .int .i64 a, .int .i64 d]] w fun e w' => e = .returned (.bool (voteB ⟨r, a, d⟩)) ∧ Below w.heap.size w w' := by
  have hb0 : Below w.heap.size w (w.alloc (.cells #[.int .i64 r, .int .i64 a, .int .i64 d] 27)) := (Below.refl _ _).alloc (Nat.le_refl _) _
  have s0 := Str.new w 27 #[.int .i64 r, .int .i64 a, .int .i64 d]
  have k0 := s0.cell 0 (v := .int .i64 r) rfl
  have k1 := s0.cell 1 (v := .int .i64 a) rfl
  have k2 := s0.cell 2 (v := .int .i64 d) rfl
  have H1 := Lib.hid (fun W => spec_l6In r 0 30 W)
  have H2 := Lib.hid (fun W => spec_l6In a 0 6 W)
  have H4 := Lib.hid (fun W => spec_l2Digest d W)
  have Hb0 := Lib.hid hb0; clear hb0 s0
  have Hres := Lib.hid (show voteB ⟨r, a, d⟩ = (vtRB r && (vtAB a && digB d)) from rfl)
  go_enter Try.func45, Try.ntmps45
  go_wp2_with fail
  generalize w.alloc (.cells #[.int .i64 r, .int .i64 a, .int .i64 d] 27) = W0 at *
  refine (H1.out W0).mono ?_
  rintro e w1 ⟨rfl, rfl⟩
  rw [show decide (0 ≤ r ∧ r ≤ 30) = vtRB r from rfl]
  cases h1 : vtRB r with
  | false =>
    go_wp2
    go_ret
    exact ⟨ret_bool (by rw [Hres.out, h1]; rfl), Hb0.out⟩
  | true =>
  go_wp2_with fail
  refine (H2.out W0).mono ?_
  rintro e w1 ⟨rfl, rfl⟩
  rw [show decide (0 ≤ a ∧ a ≤ 6) = vtAB a from rfl]
  cases h2 : vtAB a with
  | false =>
    go_wp2
    go_ret
    exact ⟨ret_bool (by rw [Hres.out, h1, h2]; rfl), Hb0.out⟩
  | true =>
  go_wp2_with fail
  refine (H4.out W0).mono ?_
  rintro e w1 ⟨rfl, rfl⟩
  cases h4 : digB d with
  | false =>
    go_wp2
    go_ret
    exact ⟨ret_bool (by rw [Hres.out, h1, h2, h4]; rfl), Hb0.out⟩
  | true =>
  go_wp2
  go_ret
  exact ⟨ret_bool (by rw [Hres.out, h1, h2, h4]; rfl), Hb0.out⟩

theorem spec_l12Before (x y : Vt) (w : World) :
    Calls Try.prog 50 #[.agg #[.int .i64 x.r, .int .i64 x.a, .int .i64 x.d], .agg #[.int .i64 y.r, .int .i64 y.a, .int .i64 y.d]] w fun e w' => e = .returned (.bool (vbefB x y)) ∧ Below w.heap.size w w' := by
  have hb : Below w.heap.size w ((w.alloc (.cells #[.int .i64 x.r, .int .i64 x.a, .int .i64 x.d] 27)).alloc (.cells #[.int .i64 y.r, .int .i64 y.a, .int .i64 y.d] 27)) := ((Below.refl _ w).alloc (Nat.le_refl _) _).alloc (by simp) _
  by_cases h1 : x.r < y.r
  · have hz : vbefB x y = true := decide_eq_true (.inl h1)
    go_enter Try.func50, Try.ntmps50
    go_wp2
    go_ret
    exact ⟨by first | rfl | exact ret_bool (by first | rfl | rw [hz]), hb⟩
  · have h1' : decide (x.r < y.r) = false := decide_eq_false h1
    by_cases h2 : x.r = y.r
    · have hz : vbefB x y = decide (x.a < y.a) := by unfold vbefB; rw [Bool.eq_iff_iff, decide_eq_true_iff, decide_eq_true_iff]; omega
      have h2' : (x.r == y.r) = true := by simpa using h2
      clear h1 h2
      go_enter Try.func50, Try.ntmps50
      go_wp2
      go_ret
      exact ⟨by first | rfl | exact ret_bool (by first | rfl | rw [hz]), hb⟩
    · have hz : vbefB x y = false := decide_eq_false (by omega)
      have h2' : (x.r == y.r) = false := by simpa using h2
      go_enter Try.func50, Try.ntmps50
      go_wp2
      go_ret
      exact ⟨by first | rfl | exact ret_bool (by first | rfl | rw [hz]), hb⟩

end Go.Proofs.Ytkndndcjchlpdaa
