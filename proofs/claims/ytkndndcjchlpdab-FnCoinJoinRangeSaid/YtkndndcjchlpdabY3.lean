/- Whether a shard belongs to data, as spec reckons it, and the exact laws' copies and sizes of a shard, each by a walk of its text; conditions: a list that is read has fewer than 2^40 elements, the numbers are ints. -/
import Derived.Test.YtkndndcjchlpdabH3
import Derived.Test.YtkndndcjchlpdabL1
import Derived.Test.YtkndndcjchlpdabL2
import Derived.Test.YtkndndcjchlpdabOpen
namespace Go.Proofs.Ytkndndcjchlpdab
open Go.RowKit

theorem spec_l3Same (n : Int) (a a' : Option Addr) (c c' : Nat) (xs ys : List Int) (w : World) (hbig : xs.length ≤ 1099511627776) (hbig' : ys.length ≤ 1099511627776) (hc : IntsAt w a xs) (hc' : IntsAt w a' ys) :
    Calls Try.prog 62 #[.agg #[.int .i64 n, .slice a xs.length c], .agg #[.int .i64 n, .slice a' ys.length c']] w fun e w' => e = .returned (.bool (decide (xs = ys))) ∧ Below w.heap.size w w' := by
  have hb0 : Below w.heap.size w ((w.alloc (.cells #[.int .i64 n, .slice a xs.length c] 55)).alloc (.cells #[.int .i64 n, .slice a' ys.length c'] 55)) := ((Below.refl _ w).alloc (Nat.le_refl _) _).alloc (by simp) _
  have s0 := (Str.new w 55 #[.int .i64 n, .slice a xs.length c]).alloc (.cells #[.int .i64 n, .slice a' ys.length c'] 55)
  have s1 := Str.new (w.alloc (.cells #[.int .i64 n, .slice a xs.length c] 55)) 55 #[.int .i64 n, .slice a' ys.length c']
  simp only [World.size_alloc] at s1
  have e00 := s0.cell 0 (v := .int .i64 n) rfl
  have e01 := s0.cell 1 (v := .slice a xs.length c) rfl
  have e10 := s1.cell 0 (v := .int .i64 n) rfl
  have e11 := s1.cell 1 (v := .slice a' ys.length c') rfl
  have hc := hc.below hb0
  have hc' := hc'.below hb0
  clear s0 s1
  by_cases hl : xs.length = ys.length
  · have hql : ((xs.length : Int) != (ys.length : Int)) = false := by rw [hl]; simp
    have Hl := Lib.hid hl; clear hl
    go_enter Try.func62, Try.ntmps62
    go_wp2
    generalize (w.alloc (.cells #[.int .i64 n, .slice a xs.length c] 55)).alloc (.cells #[.int .i64 n, .slice a' ys.length c'] 55) = W1 at *
    go_loopw [5] (fun i wr => ∃ k : Nat, k ≤ xs.length ∧ i = .int .i64 k ∧ EqTo xs ys k ∧ Drawn W1 wr) (fun i _ => xs.length - (intOf i).toNat)
    case atStart => exact ⟨0, by omega, rfl, fun j _ _ h => by omega, Drawn.refl _⟩
    case round =>
      obtain ⟨k, hk, rfl, heq, hdr⟩ := hrel
      have Heq := Lib.hid heq; clear heq
      have d01 := (hdr.cell _).trans e01
      have d11 := (hdr.cell _).trans e11
      by_cases hlt : k < xs.length
      · have hlt' : k < ys.length := by have := Hl.out; omega
        obtain ⟨b, off, rfl, hb, hcs⟩ := hc.cell (by omega)
        obtain ⟨b', off', rfl, hb', hcs'⟩ := hc'.cell (by omega)
        have c1 := (hdr.cell _).trans (hcs k hlt)
        have c2 := (hdr.cell _).trans (hcs' k hlt')
        have Hb0 := Lib.hid hb0
        clear hcs hcs' hc hc' hb0
        by_cases he : xs[k] = ys[k]
        · have Hs := Lib.hid (eqTo_step Heq.out hlt hlt' he)
          rw [← he] at c2
          clear he
          generalize xs[k] = z at *
          go_wp2_with fail
          go_quiet (fail)
          go_wp2
          go_roundw
          case rel => exact ⟨k + 1, by omega, by go_num, Hs.out, hdr.drewN _⟩
          case measure => simp [intOf]; omega
        · have Hf := Lib.hid (show decide (xs = ys) = false from decide_eq_false fun e => he (by subst e; rfl))
          have hq : (xs[k] != ys[k]) = true := by simpa using he
          clear he
          generalize xs[k] = z at *
          generalize ys[k] = y at *
          go_wp2_with fail
          go_quiet (fail)
          go_wp2
          go_ret
          exact ⟨ret_bool Hf.out.symm, Hb0.out.trans ((hdr.drewN _).below _)⟩
      · have Hf := Lib.hid (show decide (xs = ys) = true from decide_eq_true (eqTo_all Heq.out (by omega) Hl.out))
        go_wp2
        go_ret
        exact ⟨ret_bool Hf.out.symm, hb0.trans (hdr.below _)⟩
  · have Hf := Lib.hid (show decide (xs = ys) = false from decide_eq_false fun e => hl (by rw [e]))
    have hq : ((xs.length : Int) != (ys.length : Int)) = true := by simp; omega
    clear hc hc' e00 e01 e10 e11
    go_enter Try.func62, Try.ntmps62
    go_wp2
    go_ret
    exact ⟨ret_bool Hf.out.symm, hb0⟩

