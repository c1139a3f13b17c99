/- The reference's adding of a vertex to a graph, each text by a walk; conditions: lists are shorter than 2^40 (a graph: 2^20), and where the text asks it, the committee, the graph and the vertex are valid. -/
import Derived.Test.YtejpoeejhmgphaaRows
import Derived.Test.YtejpoeejhmgphaaGv3
import Derived.Test.YtejpoeejhmgphaaCut
import Derived.Test.YtejpoeejhmgphaaOwA
namespace Go.Proofs.Ytejpoeejhmgphaa
open Go.RowKit

def sameB (x y : Vx) : Bool := decide (x = y)
theorem sameB_no {x y : Vx} (h : ¬ x = y) : sameB x y = false := decide_eq_false h
theorem vx_ext {x y : Vx} (h1 : x.r = y.r) (h2 : x.a = y.a) (h3 : x.ps = y.ps) (h4 : x.d = y.d) : x = y := by cases x; cases y; simp_all
def pEqB (x y : Vx) (k : Nat) : Bool := decide (x.ps.getD k 0 = y.ps.getD k 0)
theorem sameB_ps {x y : Vx} (h1 : x.r = y.r) (h2 : x.a = y.a) (h4 : x.d = y.d) (hl : x.ps.length = y.ps.length) (h : Upto (pEqB x y) x.ps.length) : sameB x y = true := by
  refine decide_eq_true (vx_ext h1 h2 (List.ext_getElem hl fun i a b => ?_) h4)
  have := of_decide_eq_true (h i a)
  rwa [getD_get a, getD_get b] at this
theorem spec_l11Same (x y : Vx) (pa pa' : Option Addr) (pc pc' : Nat) (w : World) (hx : x.ps.length ≤ 1099511627776) (hy : y.ps.length ≤ 1099511627776) (hp : IntsAt w pa x.ps) (hp' : IntsAt w pa' y.ps) :
    Calls Try.prog 67 #[.agg #[.int .i64 x.r, .int .i64 x.a, .slice pa x.ps.length pc, .int .i64 x.d], .agg #[.int .i64 y.r, .int .i64 y.a, .slice pa' y.ps.length pc', .int .i64 y.d]] w fun e w' => e = .returned (.bool (sameB x y)) ∧ Below w.heap.size w w' := by
  have hb : Below w.heap.size w ((w.alloc (.cells #[.int .i64 x.r, .int .i64 x.a, .slice pa x.ps.length pc, .int .i64 x.d] 30)).alloc (.cells #[.int .i64 y.r, .int .i64 y.a, .slice pa' y.ps.length pc', .int .i64 y.d] 30)) := ((Below.refl _ w).alloc (Nat.le_refl _) _).alloc (by simp) _
  have s0 := (Str.new w 30 #[.int .i64 x.r, .int .i64 x.a, .slice pa x.ps.length pc, .int .i64 x.d]).alloc (.cells #[.int .i64 y.r, .int .i64 y.a, .slice pa' y.ps.length pc', .int .i64 y.d] 30)
  have s1 := Str.new (w.alloc (.cells #[.int .i64 x.r, .int .i64 x.a, .slice pa x.ps.length pc, .int .i64 x.d] 30)) 30 #[.int .i64 y.r, .int .i64 y.a, .slice pa' y.ps.length pc', .int .i64 y.d]
  rw [show (w.alloc (.cells #[.int .i64 x.r, .int .i64 x.a, .slice pa x.ps.length pc, .int .i64 x.d] 30)).heap.size = w.heap.size + 1 by simp] at s1
  have k0 := s0.cell 0 (v := .int .i64 x.r) rfl
  have k1 := s0.cell 1 (v := .int .i64 x.a) rfl
  have k2 := s0.cell 2 (v := .slice pa x.ps.length pc) rfl
  have k3 := s0.cell 3 (v := .int .i64 x.d) rfl
  have j0 := s1.cell 0 (v := .int .i64 y.r) rfl
  have j1 := s1.cell 1 (v := .int .i64 y.a) rfl
  have j2 := s1.cell 2 (v := .slice pa' y.ps.length pc') rfl
  have j3 := s1.cell 3 (v := .int .i64 y.d) rfl
  have Hp := Lib.hid (hp.below hb); clear hp
  have Hp' := Lib.hid (hp'.below hb); clear hp'
  have Hb := Lib.hid hb; clear hb
  have Hs0 := Lib.hid s0; clear s0
  have Hs1 := Lib.hid s1; clear s1
  by_cases h1 : x.r = y.r
  case neg =>
    have hz := sameB_no (x := x) (y := y) (fun e => h1 (by rw [e]))
    have e1 : (x.r != y.r) = true := by simpa using h1
    have Hz := Lib.hid hz; clear hz h1
    go_enter Try.func67, Try.ntmps67
    go_wp2
    go_ret
    exact ⟨by first | rfl | exact ret_bool (by rw [Hz.out]), Hb.out⟩
  have e1 : (x.r != y.r) = false := by simpa using h1
  by_cases h2 : x.a = y.a
  case neg =>
    have hz := sameB_no (x := x) (y := y) (fun e => h2 (by rw [e]))
    have e2 : (x.a != y.a) = true := by simpa using h2
    have Hz := Lib.hid hz; clear hz h1 h2
    go_enter Try.func67, Try.ntmps67
    go_wp2
    go_ret
    exact ⟨by first | rfl | exact ret_bool (by rw [Hz.out]), Hb.out⟩
  have e2 : (x.a != y.a) = false := by simpa using h2
  by_cases h4 : x.d = y.d
  case neg =>
    have hz := sameB_no (x := x) (y := y) (fun e => h4 (by rw [e]))
    have e4 : (x.d != y.d) = true := by simpa using h4
    have Hz := Lib.hid hz; clear hz h1 h2 h4
    go_enter Try.func67, Try.ntmps67
    go_wp2
    go_ret
    exact ⟨by first | rfl | exact ret_bool (by rw [Hz.out]), Hb.out⟩
  have e4 : (x.d != y.d) = false := by simpa using h4
  by_cases hl : x.ps.length = y.ps.length
  case neg =>
    have hz := sameB_no (x := x) (y := y) (fun e => hl (by rw [e]))
    have e3 : ((x.ps.length : Int) != (y.ps.length : Int)) = true := by rw [bne_iff_ne]; omega
    have Hz := Lib.hid hz; clear hz h1 h2 h4
    go_enter Try.func67, Try.ntmps67
    go_wp2
    go_ret
    exact ⟨by first | rfl | exact ret_bool (by rw [Hz.out]), Hb.out⟩
  have e3 : ((x.ps.length : Int) != (y.ps.length : Int)) = false := by rw [bne_eq_false_iff_eq]; omega
  have Hyes := Lib.hid (sameB_ps h1 h2 h4 hl)
  have Hno := Lib.hid (fun k (hk : k < x.ps.length) (hk' : k < y.ps.length) (hne : ¬ x.ps[k] = y.ps[k]) => sameB_no (x := x) (y := y) (fun e => hne (by subst e; rfl)))
  have hle : y.ps.length ≤ x.ps.length := by omega
  have hge : x.ps.length ≤ y.ps.length := by omega
  have Hl := Lib.hid hl; clear hl h1 h2 h4
  have hw0 : ((w.alloc (.cells #[.int .i64 x.r, .int .i64 x.a, .slice pa x.ps.length pc, .int .i64 x.d] 30)).alloc (.cells #[.int .i64 y.r, .int .i64 y.a, .slice pa' y.ps.length pc', .int .i64 y.d] 30)).heap.size = w.heap.size + 2 := by simp
  go_enter Try.func67, Try.ntmps67
  go_wp2
  generalize (w.alloc (.cells #[.int .i64 x.r, .int .i64 x.a, .slice pa x.ps.length pc, .int .i64 x.d] 30)).alloc (.cells #[.int .i64 y.r, .int .i64 y.a, .slice pa' y.ps.length pc', .int .i64 y.d] 30) = W0 at *
  clear k0 k1 k2 k3 j0 j1 j2 j3 e1 e2 e3 e4
  go_loopw [5] (fun i wr => ∃ k : Nat, k ≤ x.ps.length ∧ i = .int .i64 k ∧ Upto (pEqB x y) k ∧ Below W0.heap.size W0 wr) (fun i _ => x.ps.length - (intOf i).toNat)
  case atStart => exact ⟨0, by omega, rfl, upto_zero _, Below.refl _ _⟩
  case round =>
    obtain ⟨k, hk, rfl, hup, hbel⟩ := hrel
    have s0 := (hbel.block _ Hs0.out.lt).trans Hs0.out
    have s1 := (hbel.block _ Hs1.out.lt).trans Hs1.out
    have k2 := Str.cell s0 2 (v := .slice pa x.ps.length pc) rfl
    have j2 := Str.cell s1 2 (v := .slice pa' y.ps.length pc') rfl
    clear s0 s1
    by_cases hlt : k < x.ps.length
    · have hlt' : k < y.ps.length := by omega
      obtain ⟨b, off, rfl, hbb, hat⟩ := (Hp.out.below hbel).cell (by omega)
      obtain ⟨b', off', rfl, hbb', hat'⟩ := (Hp'.out.below hbel).cell (by omega)
      have q := hat k hlt
      have q' := hat' k hlt'
      have Hbel := Lib.hid hbel; clear hbel hat hat'
      by_cases e : x.ps[k] = y.ps[k]
      · have e1 : (x.ps[k] == y.ps[k]) = true := by rw [beq_iff_eq]; exact e
        have e2 : (x.ps[k] != y.ps[k]) = false := by rw [bne_eq_false_iff_eq]; exact e
        have Hup := Lib.hid (upto_step hup (k := k) (decide_eq_true (by rw [getD_get hlt, getD_get hlt']; exact e)))
        clear e hup
        go_wp2
        go_quiet (fail)
        go_wp2
        go_roundw
        case rel => exact ⟨k + 1, by omega, by go_num, Hup.out, Hbel.out.trans (((Drawn.refl wr).drewN _).below _)⟩
        case measure => simp [intOf]; omega
      · have e1 : (x.ps[k] == y.ps[k]) = false := by rw [beq_eq_false_iff_ne]; exact e
        have e2 : (x.ps[k] != y.ps[k]) = true := by rw [bne_iff_ne]; exact e
        have Hz := Lib.hid (Hno.out k hlt hlt' e)
        clear e
        go_wp2
        go_quiet (fail)
        go_wp2
        go_ret
        exact ⟨ret_bool (by rw [Hz.out]), Hb.out.trans ((Hbel.out.trans (((Drawn.refl wr).drewN _).below _)).mono (by omega))⟩
    · have Hz := Lib.hid (Hyes.out (fun j hj => hup j (by omega)))
      have Hbel := Lib.hid hbel; clear hbel hup
      go_wp2
      go_ret
      exact ⟨ret_bool (by rw [Hz.out]), Hb.out.trans (Hbel.out.mono (by omega))⟩

end Go.Proofs.Ytejpoeejhmgphaa
