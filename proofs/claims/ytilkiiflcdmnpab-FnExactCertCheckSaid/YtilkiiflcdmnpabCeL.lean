/- What the laws' helpers for certificates answer, each by a walk of its text; conditions: the lists have fewer than 2^40 elements. -/
import Derived.Test.YtilkiiflcdmnpabRows
import Derived.Test.YtilkiiflcdmnpabBase
import Derived.Test.YtilkiiflcdmnpabApp
import Derived.Test.YtilkiiflcdmnpabDt
import Derived.Test.YtilkiiflcdmnpabM1
import Derived.Test.YtilkiiflcdmnpabM2
import Derived.Test.YtilkiiflcdmnpabSgM
import Derived.Test.YtilkiiflcdmnpabCeM
import Derived.Test.YtilkiiflcdmnpabL1
import Derived.Test.YtilkiiflcdmnpabL2
import Derived.Deep.QuietTactic
import Derived.BigQuiet
namespace Go.Proofs.Ytilkiiflcdmnpab
open Go.RowKit

theorem laws_sameCert' (d s : Int) (a a' : Option Addr) (cap cap' : Nat) (xs : List Int) (w : World) (hbig : xs.length ≤ 1099511627776) (hc : IntsAt w a xs) (hc' : IntsAt w a' xs) :
    Calls Try.prog 13 #[.agg #[.int .i64 d, .slice a xs.length cap, .int .i64 s], .agg #[.int .i64 d, .slice a' xs.length cap', .int .i64 s]] w fun e w' => e = .returned (.bool true) ∧ Below w.heap.size w w' := by
  have hb : ∀ o o', Below w.heap.size w ((w.alloc o).alloc o') := fun o o' => ((Below.refl _ w).alloc (Nat.le_refl _) _).alloc (by simp) _
  have H := Lib.hid (fun w' (h : Below w.heap.size w w') => laws_sameInts' a a' cap cap' xs w' hbig (hc.below h) (hc'.below h))
  have Hb := Lib.hid hb; clear hb hc hc'
  go_enter Try.func13, Try.ntmps13
  go_wp2_with fail
  refine (H.out _ (Hb.out _ _)).mono ?_
  rintro e w1 ⟨rfl, hd⟩
  go_wp2
  go_ret
  exact ⟨rfl, (Hb.out _ _).trans ((hd.below _).mono (Nat.le_refl _))⟩

theorem laws_eqCert' (d s : Int) (a a' : Option Addr) (cap cap' : Nat) (xs : List Int) (w : World) (hbig : xs.length ≤ 1099511627776) (hc : IntsAt w a xs) (hc' : IntsAt w a' xs) :
    Calls Try.prog 23 #[.agg #[.int .i64 d, .slice a xs.length cap, .int .i64 s], .agg #[.int .i64 d, .slice a' xs.length cap', .int .i64 s]] w fun e w' => e = .returned (.bool true) ∧ Below w.heap.size w w' := by
  have hb : Below w.heap.size w ((w.alloc (.cells #[.int .i64 d, .slice a xs.length cap, .int .i64 s] 27)).alloc (.cells #[.int .i64 d, .slice a' xs.length cap', .int .i64 s] 27)) := ((Below.refl _ w).alloc (Nat.le_refl _) _).alloc (by simp) _
  have s0 := (Str.new w 27 #[.int .i64 d, .slice a xs.length cap, .int .i64 s]).alloc (.cells #[.int .i64 d, .slice a' xs.length cap', .int .i64 s] 27)
  have s1 : Str ((w.alloc (.cells #[.int .i64 d, .slice a xs.length cap, .int .i64 s] 27)).alloc (.cells #[.int .i64 d, .slice a' xs.length cap', .int .i64 s] 27)) (w.heap.size + 1) 27 #[.int .i64 d, .slice a' xs.length cap', .int .i64 s] := by
    rw [← (by simp : (w.alloc (.cells #[.int .i64 d, .slice a xs.length cap, .int .i64 s] 27)).heap.size = w.heap.size + 1)]
    exact Str.new _ _ _
  have k0 := s0.cell 0 (v := .int .i64 d) rfl
  have k1 := s0.cell 1 (v := .slice a xs.length cap) rfl
  have k2 := s0.cell 2 (v := .int .i64 s) rfl
  have j0 := s1.cell 0 (v := .int .i64 d) rfl
  have j1 := s1.cell 1 (v := .slice a' xs.length cap') rfl
  have j2 := s1.cell 2 (v := .int .i64 s) rfl
  have H := Lib.hid (laws_eqIntS' a a' cap cap' xs _ hbig (hc.below hb) (hc'.below hb))
  have Hb := Lib.hid hb; clear hb hc hc' s0 s1
  go_enter Try.func23, Try.ntmps23
  go_wp2_with fail
  generalize (w.alloc (.cells #[.int .i64 d, .slice a xs.length cap, .int .i64 s] 27)).alloc (.cells #[.int .i64 d, .slice a' xs.length cap', .int .i64 s] 27) = W1 at *
  refine H.out.mono ?_
  rintro e w1 ⟨rfl, hd⟩
  have i2 := (hd.cell _).trans k2
  have i3 := (hd.cell _).trans j2
  have Hb1 := Lib.hid (Hb.out.trans (hd.below _))
  clear k0 k1 k2 j0 j1 j2 hd
  go_wp2
  go_ret
  exact ⟨rfl, Hb1.out⟩

theorem laws_keySum (c : List Int) (ak : Option Addr) (capk : Nat) (keys : List Int) (am : Option Addr) (capm : Nat) (ms : List Int) (w : World) (hlk : lkB c keys = true) (hmb : membersB c.length ms = true) (hk : IntsAt w ak keys) (hm : IntsAt w am ms) :
    Calls Try.prog 20 #[.slice ak keys.length capk, .slice am ms.length capm] w fun e w' => e = .returned (.int .i64 (weightZ keys ms % 997)) ∧ Drawn w w' := by
  have Hkb := Lib.hid (fun k (h : k ≤ ms.length) => keySum_bd hlk hmb k h)
  have hml := members_len hmb
  have hcl := validB_len (lkB_iff hlk).1
  have Hat := Lib.hid (membersB_at hmb)
  have Hkl := Lib.hid (lkB_iff hlk).2.1
  have Hks := Lib.hid (fun i (h : i < c.length) => lkB_sign hlk i h)
  have Hk := Lib.hid hk; clear hk
  have Hm := Lib.hid hm; clear hm
  clear hlk hmb
  go_enter Try.func20, Try.ntmps20
  go_wp2_with fail
  go_loopw [5, 6] (fun vs vi wr => ∃ k : Nat, k ≤ ms.length ∧ vi = .int .i64 k ∧ vs = .int .i64 (weightTo keys ms k % 997) ∧ Drawn w wr) (fun _ vi _ => ms.length - (intOf vi).toNat)
  case atStart => exact ⟨0, by omega, rfl, rfl, Drawn.refl _⟩
  case round =>
    obtain ⟨k, hkk, rfl, rfl, hd⟩ := hrel
    have hkb := Hkb.out k hkk
    by_cases hlt : k < ms.length
    · obtain ⟨b, off, rfl, hb, hmm⟩ := (hd.ints Hm.out).cell (by omega)
      have hcell := hmm k hlt
      have g := Hat.out k hlt
      obtain ⟨b', off', rfl, hb', hkc⟩ := (hd.ints Hk.out).cell (by have := Hkl.out; omega)
      have hcell2 := hkc ms[k].toNat (by have := Hkl.out; omega)
      have g2 := Hks.out ms[k].toNat (by omega)
      have hlk : ms[k].toNat < keys.length := by have := Hkl.out; omega
      have hlk2 : ms[k] < (keys.length : Int) := by have := Hkl.out; omega
      have e9 : weightTo keys ms (k + 1) % 997 = (weightTo keys ms k % 997 + keys[ms[k].toNat]) % 997 := by rw [weightTo_succ hlt, getD_get (by omega)]; omega
      rw [getD_get (by omega)] at g2
      have He9 := Lib.hid e9; clear e9 hmm hkc
      have Hd := Lib.hid hd; clear hd
      go_wp2
      go_roundw
      case rel => exact ⟨k + 1, by omega, by go_num, int_eq He9.out.symm, Hd.out⟩
      case measure => simp [intOf]; omega
    · have hkm : k = ms.length := by omega
      subst hkm
      go_wp2
      go_ret
      exact ⟨rfl, hd⟩

theorem laws_markCert (d s : Int) (v : Value) (xs : List Int) (k B : Nat) (w : World) (hlen : xs.length ≤ 1099511627776) (hk : k ≤ 1099511627776) (hown : Own 3 w B v xs) :
    Calls Try.prog 26 #[.agg #[.int .i64 d, v, .int .i64 s], .int .i64 k] w fun e w' => e = .returned (.int .i64 ((k + xs.length : Nat) : Int)) ∧ Own 3 w' B v (markL k xs.length) ∧ (w.alloc (.cells #[.int .i64 d, v, .int .i64 s] 27)).grownBy w' v.ownBlock := by
  have H := Lib.hid (laws_markIntS v xs k B _ hlen hk (hown.alloc (.cells #[.int .i64 d, v, .int .i64 s] 27)))
  obtain ⟨a, cap, rfl, _, _⟩ := hown.ints
  clear hown
  go_enter Try.func26, Try.ntmps26
  go_wp2_with fail
  refine H.out.mono ?_
  rintro e w1 ⟨rfl, ho, hg⟩
  go_wp2
  go_ret
  exact ⟨rfl, ho, hg⟩

theorem laws_heldCert (d s : Int) (a : Option Addr) (cap k n : Nat) (w : World) (hlen : n ≤ 1099511627776) (hk : k ≤ 1099511627776) (hc : IntsAt w a (markL k n)) :
    Calls Try.prog 27 #[.agg #[.int .i64 d, .slice a n cap, .int .i64 s], .int .i64 k] w fun e w' => e = .returned (.int .i64 ((k + n : Nat) : Int)) ∧ Below w.heap.size w w' := by
  have hb : Below w.heap.size w (w.alloc (.cells #[.int .i64 d, .slice a n cap, .int .i64 s] 27)) := (Below.refl _ w).alloc (Nat.le_refl _) _
  have H := Lib.hid (laws_heldIntS a cap k n _ hlen hk (hc.below hb))
  have Hb := Lib.hid hb; clear hb hc
  have hneg : decide (((k + n : Nat) : Int) < 0) = false := decide_eq_false (by omega)
  go_enter Try.func27, Try.ntmps27
  go_wp2_with fail
  refine H.out.mono ?_
  rintro e w1 ⟨rfl, hd⟩
  have Hb1 := Lib.hid (Hb.out.trans (hd.below _))
  go_wp2
  go_ret
  exact ⟨rfl, Hb1.out⟩

end Go.Proofs.Ytilkiiflcdmnpab
