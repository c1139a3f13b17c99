/- Whether a shard belongs to data, as spec reckons it, and the exact laws' copies and sizes of a shard, each by a walk of its text; conditions: a list that is read has fewer than 2^40 elements, the numbers are ints. -/
import Derived.Test.YtaicljoapmmnnaaH3
import Derived.Test.YtaicljoapmmnnaaL1
import Derived.Test.YtaicljoapmmnnaaL2
import Derived.Test.YtaicljoapmmnnaaOpen
namespace Go.Proofs.Ytaicljoapmmnnaa
open Go.RowKit

/-- A shard that came in by value. -/
theorem open_shard {H : Type} {enc : TypeId × Value → H} {W : World} {base : Nat} {v : Value} {d : DataW H} {p : List MemPlace} (hv : Value.okWide Try.prog W .any base 58 v) (h : DataW.Trod enc Try.prog W 0 (fun _ => true) true 58 v d p) :
    ∃ n a cap xs, v = .agg #[.int .i64 n, .slice a xs.length cap] ∧ (-9223372036854775808 ≤ n ∧ n ≤ 9223372036854775807) ∧ xs.length ≤ maxLen ∧ IntsAt W a xs := by
  obtain ⟨cs, rfl, hl, hf⟩ := open_struct (Gs := [IntG, RowsG [IntG]]) Try.underlying58 (by kernel_rfl) rfl (fun j h h' => by
    match j, h, h' with
    | 0, _, _ => exact ⟨rfl, opens_int Try.underlying3 (by kernel_rfl)⟩
    | 1, _, _ => exact ⟨rfl, opens_slice Try.underlying26 (by kernel_rfl) (opens_int Try.underlying3 (by kernel_rfl))⟩) hv h
  match cs, hl with
  | [c0, c1], _ =>
    obtain ⟨d0, f0, r0, n, rfl, hn⟩ := hf 0 (by simp) (by simp)
    obtain ⟨d1, f1, r1, g1⟩ := hf 1 (by simp) (by simp)
    obtain ⟨xs, rfl, hx, _⟩ := ints_of g1
    obtain ⟨rfl, _⟩ := Rd.int (show Rd W (.i n) c0 f0 from r0)
    obtain ⟨a, cap, rfl, _, hi⟩ := Rd.ints (show Rd W (intsD xs) c1 f1 from r1)
    exact ⟨n, a, cap, xs, rfl, hn, hx, hi⟩

theorem spec_l3Same (n : Int) (a a' : Option Addr) (c c' : Nat) (xs ys : List Int) (w : World) (hbig : xs.length ≤ 1099511627776) (hbig' : ys.length ≤ 1099511627776) (hc : IntsAt w a xs) (hc' : IntsAt w a' ys) :
    Calls Try.prog 41 #[.agg #[.int .i64 n, .slice a xs.length c], .agg #[.int .i64 n, .slice a' ys.length c']] w fun e w' => e = .returned (.bool (decide (xs = ys))) ∧ Below w.heap.size w w' := by
  have hb0 : Below w.heap.size w ((w.alloc (.cells #[.int .i64 n, .slice a xs.length c] 30)).alloc (.cells #[.int .i64 n, .slice a' ys.length c'] 30)) := ((Below.refl _ w).alloc (Nat.le_refl _) _).alloc (by simp) _
  have s0 := (Str.new w 30 #[.int .i64 n, .slice a xs.length c]).alloc (.cells #[.int .i64 n, .slice a' ys.length c'] 30)
  have s1 := Str.new (w.alloc (.cells #[.int .i64 n, .slice a xs.length c] 30)) 30 #[.int .i64 n, .slice a' ys.length c']
  simp only [World.size_alloc] at s1
  have e00 := s0.cell 0 (v := .int .i64 n) rfl
  have e01 := s0.cell 1 (v := .slice a xs.length c) rfl
  have e10 := s1.cell 0 (v := .int .i64 n) rfl
  have e11 := s1.cell 1 (v := .slice a' ys.length c') rfl
  have hc := hc.below hb0
  have hc' := hc'.below hb0
  clear s0 s1
  by_cases hl : xs.length = ys.length
  · have hql : ((xs.length : Int) != (ys.length : Int)) = false := by rw [hl]; simp
    have Hl := Lib.hid hl; clear hl
    go_enter Try.func41, Try.ntmps41
    go_wp2
    generalize (w.alloc (.cells #[.int .i64 n, .slice a xs.length c] 30)).alloc (.cells #[.int .i64 n, .slice a' ys.length c'] 30) = W1 at *
    go_loopw [5] (fun i wr => ∃ k : Nat, k ≤ xs.length ∧ i = .int .i64 k ∧ EqTo xs ys k ∧ Drawn W1 wr) (fun i _ => xs.length - (intOf i).toNat)
    case atStart => exact ⟨0, by omega, rfl, fun j _ _ h => by omega, Drawn.refl _⟩
    case round =>
      obtain ⟨k, hk, rfl, heq, hdr⟩ := hrel
      have Heq := Lib.hid heq; clear heq
      have d01 := (hdr.cell _).trans e01
      have d11 := (hdr.cell _).trans e11
      by_cases hlt : k < xs.length
      · have hlt' : k < ys.length := by have := Hl.out; omega
        obtain ⟨b, off, rfl, hb, hcs⟩ := hc.cell (by omega)
        obtain ⟨b', off', rfl, hb', hcs'⟩ := hc'.cell (by omega)
        have c1 := (hdr.cell _).trans (hcs k hlt)
        have c2 := (hdr.cell _).trans (hcs' k hlt')
        have Hb0 := Lib.hid hb0
        clear hcs hcs' hc hc' hb0
        by_cases he : xs[k] = ys[k]
        · have Hs := Lib.hid (eqTo_step Heq.out hlt hlt' he)
          rw [← he] at c2
          clear he
          generalize xs[k] = z at *
          go_wp2_with fail
          go_quiet (fail)
          go_wp2
          go_roundw
          case rel => exact ⟨k + 1, by omega, by go_num, Hs.out, hdr.drewN _⟩
          case measure => simp [intOf]; omega
        · have Hf := Lib.hid (show decide (xs = ys) = false from decide_eq_false fun e => he (by subst e; rfl))
          have hq : (xs[k] != ys[k]) = true := by simpa using he
          clear he
          generalize xs[k] = z at *
          generalize ys[k] = y at *
          go_wp2_with fail
          go_quiet (fail)
          go_wp2
          go_ret
          exact ⟨ret_bool Hf.out.symm, Hb0.out.trans ((hdr.drewN _).below _)⟩
      · have Hf := Lib.hid (show decide (xs = ys) = true from decide_eq_true (eqTo_all Heq.out (by omega) Hl.out))
        go_wp2
        go_ret
        exact ⟨ret_bool Hf.out.symm, hb0.trans (hdr.below _)⟩
  · have Hf := Lib.hid (show decide (xs = ys) = false from decide_eq_false fun e => hl (by rw [e]))
    have hq : ((xs.length : Int) != (ys.length : Int)) = true := by simp; omega
    clear hc hc' e00 e01 e10 e11
    go_enter Try.func41, Try.ntmps41
    go_wp2
    go_ret
    exact ⟨ret_bool Hf.out.symm, hb0⟩

theorem laws_toShard (n : Int) (a : Option Addr) (cap : Nat) (xs : List Int) (w : World) (hbig : xs.length ≤ 1099511627776) (hc : IntsAt w a xs) :
    Calls Try.prog 34 #[.agg #[.int .i64 n, .slice a xs.length cap]] w fun e w' => ∃ v, e = .returned (.agg #[.int .i64 n, v]) ∧ Own 3 w' w.heap.size v xs ∧ Below w.heap.size w w' := by
  have hbW : Below w.heap.size w (((w.alloc (.cells #[.int .i64 n, .slice a xs.length cap] 58)).alloc (.cells #[.int .i64 0, .slice none 0 0] 30)).alloc (.cells #[.int .i64 n, .slice none 0 0] 30)) := (((Below.refl _ w).alloc (Nat.le_refl _) _).alloc (by simp) _).alloc (by simp; omega) _
  have s1 := (Str.new (w.alloc (.cells #[.int .i64 n, .slice a xs.length cap] 58)) 30 #[.int .i64 0, .slice none 0 0]).alloc (.cells #[.int .i64 n, .slice none 0 0] 30)
  have s2 := Str.new ((w.alloc (.cells #[.int .i64 n, .slice a xs.length cap] 58)).alloc (.cells #[.int .i64 0, .slice none 0 0] 30)) 30 #[.int .i64 n, .slice none 0 0]
  have hzW : (((w.alloc (.cells #[.int .i64 n, .slice a xs.length cap] 58)).alloc (.cells #[.int .i64 0, .slice none 0 0] 30)).alloc (.cells #[.int .i64 n, .slice none 0 0] 30)).heap.size = w.heap.size + 3 := by simp
  simp only [World.size_alloc] at s1 s2
  have Hc := Lib.hid (hc.below hbW)
  have Hb := Lib.hid hbW
  have Hs1 := Lib.hid s1
  have Hs2 := Lib.hid s2
  have Hz := Lib.hid hzW
  clear hc hbW s1 s2 hzW
  go_enter Try.func34, Try.ntmps34
  go_wp2_with fail
  generalize ((w.alloc (.cells #[.int .i64 n, .slice a xs.length cap] 58)).alloc (.cells #[.int .i64 0, .slice none 0 0] 30)).alloc (.cells #[.int .i64 n, .slice none 0 0] 30) = W1 at *
  refine (laws_toIntS a cap xs W1 hbig Hc.out).mono ?_
  rintro e w6 ⟨v, rfl, hown, hb6⟩
  have hz := Hz.out
  have t1 : Str w6 (w.heap.size + 1) 30 #[.int .i64 0, .slice none 0 0] := (hb6.block _ (by omega)).trans Hs1.out
  have t2 : Str w6 (w.heap.size + 1 + 1) 30 #[.int .i64 n, .slice none 0 0] := (hb6.block _ (by omega)).trans Hs2.out
  have Hlt := Lib.hid (show ∀ g, v.ownBlock = some g → w.heap.size + 3 ≤ g from fun g e => by have := (hown.lt g e).1; omega)
  have HbF := Lib.hid (below_step Hb.out (by omega) hb6)
  obtain ⟨a6, c6, rfl, _, _⟩ := hown.ints
  have HwW := Lib.hid (show w.heap.size ≤ W1.heap.size by omega)
  have Hown := Lib.hid hown
  clear hown hb6 hz Hz Hs1 Hs2 Hc Hb
  have k0 := t1.cell 0 (v := .int .i64 0) rfl
  have k1 := t1.cell 1 (v := .slice none 0 0) rfl
  have j0 := t2.cell 0 (v := .int .i64 n) rfl
  have j1 := t2.cell 1 (v := .slice none 0 0) rfl
  have f0 := t1.frozen 0
  have f1 := t1.frozen 1
  have g1 := t2.frozen 1
  have hne1 : (Value.slice a6 xs.length c6).ownBlock ≠ some (w.heap.size + 1) := fun e => by have := Hlt.out _ e; omega
  have hne2 : (Value.slice a6 xs.length c6).ownBlock ≠ some (w.heap.size + 1 + 1) := fun e => by have := Hlt.out _ e; omega
  have Hne1 := Lib.hid hne1
  have Hne2 := Lib.hid hne2
  clear hne1 hne2
  go_wp2
  have sF := ((t1.other (B' := w.heap.size + 1 + 1) (by omega) 1 (.slice a6 xs.length c6)).set 0 (.int .i64 n)).set 1 (.slice a6 xs.length c6)
  have e0 := sF.cell 0 (v := .int .i64 n) rfl
  have e1 := sF.cell 1 (v := .slice a6 xs.length c6) rfl
  refine bodyPost_ret (v := .agg #[.int .i64 n, .slice a6 xs.length c6]) (by simp [results, Try.f34, go_sem, e0, e1]) rfl ⟨_, rfl, ?_, ?_⟩
  · exact (((Hown.out.mono HwW.out).set_other Hne2.out 1 _).set_other Hne1.out 0 _).set_other Hne1.out 1 _
  · exact ((HbF.out.setCell (p := ⟨w.heap.size + 1 + 1, 1, none⟩) (by simp; omega) _).setCell (p := ⟨w.heap.size + 1, 0, none⟩) (by simp) _).setCell (p := ⟨w.heap.size + 1, 1, none⟩) (by simp) _

theorem laws_szIntS (a : Option Addr) (cap : Nat) (xs : List Int) (left : Nat) (w : World) (hl : left ≤ 1048576) (hbig : xs.length ≤ 9223372036854775807) :
    Calls Try.prog 52 #[.slice a xs.length cap, .int .i64 (left : Int)] w fun e w' => e = .returned (.int .i64 (if xs.length ≤ left then (left : Int) - (xs.length : Int) else -1)) ∧ w = w' := by
  by_cases h : xs.length ≤ left
  · have h' : ¬ ((left : Int) - (xs.length : Int) < 0) := by omega
    rw [if_pos h]
    go_enter Try.func52, Try.ntmps52
    go_wp2
    go_ret
    exact ⟨rfl, rfl⟩
  · have h' : (left : Int) - (xs.length : Int) < 0 := by omega
    rw [if_neg h]
    go_enter Try.func52, Try.ntmps52
    go_wp2
    go_ret
    exact ⟨rfl, rfl⟩

theorem laws_szShard (n : Int) (a : Option Addr) (cap : Nat) (xs : List Int) (left : Nat) (w : World) (hl : left ≤ 1048576) (hbig : xs.length ≤ 9223372036854775807) :
    Calls Try.prog 33 #[.agg #[.int .i64 n, .slice a xs.length cap], .int .i64 (left : Int)] w fun e w' => e = .returned (.int .i64 (if xs.length ≤ left then (left : Int) - (xs.length : Int) else -1)) ∧ Below w.heap.size w w' := by
  have hs := fun w => laws_szIntS a cap xs left w hl hbig
  have hb : Below w.heap.size w (w.alloc (.cells #[.int .i64 n, .slice a xs.length cap] 58)) := (Below.refl _ w).alloc (Nat.le_refl _) _
  by_cases h : xs.length ≤ left
  · rw [if_pos h] at hs ⊢
    have Hs := Lib.hid hs; clear hs
    have h' : ¬ ((left : Int) - (xs.length : Int) < 0) := by omega
    go_enter Try.func33, Try.ntmps33
    go_wp2_with fail
    refine (Hs.out _).mono ?_
    rintro e w' ⟨rfl, rfl⟩
    go_wp2
    go_ret
    exact ⟨rfl, hb⟩
  · rw [if_neg h] at hs ⊢
    have Hs := Lib.hid hs; clear hs
    go_enter Try.func33, Try.ntmps33
    go_wp2_with fail
    refine (Hs.out _).mono ?_
    rintro e w' ⟨rfl, rfl⟩
    go_wp2
    go_ret
    exact ⟨rfl, hb⟩

end Go.Proofs.Ytaicljoapmmnnaa
