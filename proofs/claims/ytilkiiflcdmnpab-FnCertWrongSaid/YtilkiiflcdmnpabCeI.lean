/- What impl's functions of certificates answer, each by a walk of its text: the answers are those of plain functions on lists of numbers; conditions: a list that is read has fewer than 2^40 elements. -/
import Derived.Test.YtilkiiflcdmnpabRows
import Derived.Test.YtilkiiflcdmnpabBase
import Derived.Test.YtilkiiflcdmnpabApp
import Derived.Test.YtilkiiflcdmnpabDt
import Derived.Test.YtilkiiflcdmnpabM1
import Derived.Test.YtilkiiflcdmnpabM2
import Derived.Test.YtilkiiflcdmnpabSgM
import Derived.Test.YtilkiiflcdmnpabCeM
import Derived.Test.YtilkiiflcdmnpabC1
import Derived.Test.YtilkiiflcdmnpabI2
import Derived.Test.YtilkiiflcdmnpabSgI
import Derived.Deep.QuietTactic
import Derived.BigQuiet
namespace Go.Proofs.Ytilkiiflcdmnpab
open Go.RowKit

theorem impl_areSignNumbers (a : Option Addr) (cap : Nat) (l : List Int) (w : World) (hbig : l.length ≤ 1099511627776) (hc : IntsAt w a l) :
    Calls Try.prog 69 #[.slice a l.length cap] w fun e w' => e = .returned (.bool (l.all signB)) ∧ w = w' := by
  rcases hc.len with h0 | ⟨b, off, rfl, hb, hc⟩
  all_goals
    go_enter Try.func69, Try.ntmps69
    go_wp2
    go_loop [7] (fun i => ∃ k : Nat, k ≤ l.length ∧ i = .int .i64 k ∧ Pre signB l k) (fun i => l.length - (intOf i).toNat)
    case atStart => exact ⟨0, by omega, rfl, pre_zero _ _⟩
    case round =>
      obtain ⟨k, hk, rfl, hg⟩ := hrel
      by_cases hlt : k < l.length
      · first
        | (exfalso; omega)
        | (have hcell := hc k hlt
           have Hc := Lib.hid hc; clear hc
           have hd := impl_isSignNumber l[k] w
           by_cases h : signB l[k] = true
           · rw [h] at hd
             have Hd := Lib.hid hd; clear hd
             have Hs := Lib.hid (pre_step hg hlt h); clear hg h
             go_wp2_with fail
             refine Hd.out.mono ?_
             rintro e w' ⟨rfl, rfl⟩
             go_wp2
             go_round
             case rel => exact ⟨k + 1, by omega, by go_num, Hs.out⟩
             case measure => simp [intOf]; omega
           · rw [Bool.not_eq_true] at h
             rw [h] at hd
             have Hd := Lib.hid hd; clear hd
             have Hs := Lib.hid (pre_not hlt h); clear hg h
             go_wp2_with fail
             refine Hd.out.mono ?_
             rintro e w' ⟨rfl, rfl⟩
             go_wp2
             go_ret
             exact ⟨ret_bool Hs.out.symm, rfl⟩)
      · have Hs := Lib.hid (pre_all hg (by omega)); clear hg
        go_wp2
        go_ret
        exact ⟨ret_bool Hs.out.symm, rfl⟩

theorem joint_sum (ac : Option Addr) (capc : Nat) (c : List Int) (ak : Option Addr) (capk : Nat) (keys : List Int) (d : Int) (am : Option Addr) (capm : Nat) (ms : List Int) (s : Int) (w : World) : Calls Try.prog 87 #[.agg #[.slice ac c.length capc, .slice ak keys.length capk, .int .i64 d, .slice am ms.length capm, .int .i64 s]] w fun e w' => e = .returned (.int .i64 s) ∧ Below w.heap.size w w' := by
  go_enter Try.func87, Try.ntmps87
  go_wp2
  go_ret
  exact ⟨rfl, (Below.refl _ _).alloc (Nat.le_refl _) _⟩

theorem joint_key (ac : Option Addr) (capc : Nat) (c : List Int) (ak : Option Addr) (capk : Nat) (keys : List Int) (d : Int) (am : Option Addr) (capm : Nat) (ms : List Int) (s : Int) (w : World) (hlk : lkB c keys = true) (hmb : membersB c.length ms = true) (hk : IntsAt w ak keys) (hm : IntsAt w am ms) :
    Calls Try.prog 86 #[.agg #[.slice ac c.length capc, .slice ak keys.length capk, .int .i64 d, .slice am ms.length capm, .int .i64 s]] w fun e w' => e = .returned (.int .i64 (weightZ keys ms)) ∧ Below w.heap.size w w' := by
  have hb0 : Below w.heap.size w (w.alloc (.cells #[.slice ac c.length capc, .slice ak keys.length capk, .int .i64 d, .slice am ms.length capm, .int .i64 s] 60)) := (Below.refl _ _).alloc (Nat.le_refl _) _
  have s0 := Str.new w 60 #[.slice ac c.length capc, .slice ak keys.length capk, .int .i64 d, .slice am ms.length capm, .int .i64 s]
  have k1 := s0.cell 1 (v := .slice ak keys.length capk) rfl
  have k3 := s0.cell 3 (v := .slice am ms.length capm) rfl
  have hlt0 := s0.lt
  clear s0
  have Hk := Lib.hid (hk.below hb0); clear hk
  have Hm := Lib.hid (hm.below hb0); clear hm
  have Hkb := Lib.hid (fun k (h : k ≤ ms.length) => keySum_bd hlk hmb k h)
  have hml := members_len hmb
  have hcl := validB_len (lkB_iff hlk).1
  have Hat := Lib.hid (membersB_at hmb)
  have Hkl := Lib.hid (lkB_iff hlk).2.1
  have Hks := Lib.hid (fun i (h : i < c.length) => lkB_sign hlk i h)
  clear hlk hmb
  have Hb0 := Lib.hid hb0; clear hb0
  have hz : (w.alloc (.cells #[.slice ac c.length capc, .slice ak keys.length capk, .int .i64 d, .slice am ms.length capm, .int .i64 s] 60)).heap.size = w.heap.size + 1 := by simp
  go_enter Try.func86, Try.ntmps86
  go_wp2_with fail
  generalize w.alloc (.cells #[.slice ac c.length capc, .slice ak keys.length capk, .int .i64 d, .slice am ms.length capm, .int .i64 s] 60) = W1 at *
  clear hz
  go_loopw [3, 10] (fun vs vi wr => ∃ k : Nat, k ≤ ms.length ∧ vi = .int .i64 k ∧ vs = .int .i64 (weightTo keys ms k) ∧ wr = W1) (fun _ vi _ => ms.length - (intOf vi).toNat)
  case atStart => exact ⟨0, by omega, rfl, rfl, rfl⟩
  case round =>
    obtain ⟨k, hkk, rfl, rfl, rfl⟩ := hrel
    have hkb := Hkb.out k hkk
    by_cases hlt : k < ms.length
    · obtain ⟨b, off, rfl, hb, hmm⟩ := Hm.out.cell (by omega)
      have hcell := hmm k hlt
      have g := Hat.out k hlt
      obtain ⟨b', off', rfl, hb', hkc⟩ := Hk.out.cell (by have := Hkl.out; omega)
      have hcell2 := hkc ms[k].toNat (by have := Hkl.out; omega)
      have g2 := Hks.out ms[k].toNat (by omega)
      have hlk : ms[k].toNat < keys.length := by have := Hkl.out; omega
      have hlk2 : ms[k] < (keys.length : Int) := by have := Hkl.out; omega
      have e9 : weightTo keys ms (k + 1) = weightTo keys ms k + keys[ms[k].toNat] := by rw [weightTo_succ hlt, getD_get (by omega)]
      rw [getD_get (by omega)] at g2
      have He9 := Lib.hid e9; clear e9 hmm hkc
      go_wp2
      go_roundw
      case rel => exact ⟨k + 1, by omega, by go_num, int_eq He9.out.symm, by trivial⟩
      case measure => simp [intOf]; omega
    · have hkm : k = ms.length := by omega
      subst hkm
      go_wp2
      go_ret
      exact ⟨rfl, Hb0.out⟩

theorem joint_hasKeys (ac : Option Addr) (capc : Nat) (c : List Int) (ak : Option Addr) (capk : Nat) (keys : List Int) (d : Int) (am : Option Addr) (capm : Nat) (ms : List Int) (s : Int) (w : World) (hn : c.length ≤ 1099511627776) (hnk : keys.length ≤ 1099511627776) (hc : IntsAt w ac c) (hk : IntsAt w ak keys) :
    Calls Try.prog 67 #[.agg #[.slice ac c.length capc, .slice ak keys.length capk, .int .i64 d, .slice am ms.length capm, .int .i64 s]] w fun e w' => e = .returned (.bool (lkB c keys)) ∧ Below w.heap.size w w' := by
  have hb0 : Below w.heap.size w (w.alloc (.cells #[.slice ac c.length capc, .slice ak keys.length capk, .int .i64 d, .slice am ms.length capm, .int .i64 s] 60)) := (Below.refl _ _).alloc (Nat.le_refl _) _
  have s0 := Str.new w 60 #[.slice ac c.length capc, .slice ak keys.length capk, .int .i64 d, .slice am ms.length capm, .int .i64 s]
  have k0 := s0.cell 0 (v := .slice ac c.length capc) rfl
  have k1 := s0.cell 1 (v := .slice ak keys.length capk) rfl
  have hlt0 := s0.lt
  clear s0
  cases ev : validB c with
  | false =>
    have Hk := Lib.hid (hk.below hb0); clear hk
    have Hc := Lib.hid (hc.below hb0); clear hc
    have Hb0 := Lib.hid hb0; clear hb0
    have h1 := fun W (h : IntsAt W ac c) => committee_valid ac capc c W hn h
    rw [ev] at h1
    have H1 := Lib.hid h1; clear h1
    have Hf := Lib.hid (lkB_no1 (keys := keys) ev); clear ev
    go_enter Try.func67, Try.ntmps67
    go_wp2_with fail
    generalize w.alloc (.cells #[.slice ac c.length capc, .slice ak keys.length capk, .int .i64 d, .slice am ms.length capm, .int .i64 s] 60) = W1 at *
    refine (H1.out _ Hc.out).mono ?_
    rintro e w1 ⟨rfl, rfl⟩
    go_wp2
    go_ret
    exact ⟨ret_bool Hf.out.symm, Hb0.out⟩
  | true =>
    by_cases hl : keys.length = c.length
    · have Hk := Lib.hid (hk.below hb0); clear hk
      have Hc := Lib.hid (hc.below hb0); clear hc
      have Hb0 := Lib.hid hb0; clear hb0
      have h1 := fun W (h : IntsAt W ac c) => committee_valid ac capc c W hn h
      rw [ev] at h1
      have H1 := Lib.hid h1; clear h1
      have Hf := Lib.hid (show lkB c keys = keys.all signB by unfold lkB; rw [ev, decide_eq_true hl]; rfl); clear ev
      have hne : ((keys.length : Int) == (c.length : Int)) = true := by rw [beq_iff_eq]; omega
      clear hl
      have H2 := Lib.hid (fun W (h : IntsAt W ak keys) => impl_areSignNumbers ak capk keys W hnk h)
      go_enter Try.func67, Try.ntmps67
      go_wp2_with fail
      generalize w.alloc (.cells #[.slice ac c.length capc, .slice ak keys.length capk, .int .i64 d, .slice am ms.length capm, .int .i64 s] 60) = W1 at *
      refine (H1.out _ Hc.out).mono ?_
      rintro e w1 ⟨rfl, rfl⟩
      go_wp2_with fail
      refine (H2.out _ Hk.out).mono ?_
      rintro e w1 ⟨rfl, rfl⟩
      go_wp2
      go_ret
      exact ⟨ret_bool Hf.out.symm, Hb0.out⟩
    · have Hk := Lib.hid (hk.below hb0); clear hk
      have Hc := Lib.hid (hc.below hb0); clear hc
      have Hb0 := Lib.hid hb0; clear hb0
      have h1 := fun W (h : IntsAt W ac c) => committee_valid ac capc c W hn h
      rw [ev] at h1
      have H1 := Lib.hid h1; clear h1
      have Hf := Lib.hid (lkB_no2 (c := c) hl); clear ev
      have hne : ((keys.length : Int) == (c.length : Int)) = false := by rw [beq_eq_false_iff_ne]; omega
      clear hl
      go_enter Try.func67, Try.ntmps67
      go_wp2_with fail
      generalize w.alloc (.cells #[.slice ac c.length capc, .slice ak keys.length capk, .int .i64 d, .slice am ms.length capm, .int .i64 s] 60) = W1 at *
      refine (H1.out _ Hc.out).mono ?_
      rintro e w1 ⟨rfl, rfl⟩
      go_wp2
      go_ret
      exact ⟨ret_bool Hf.out.symm, Hb0.out⟩

theorem joint_hasQuorum (ac : Option Addr) (capc : Nat) (c : List Int) (ak : Option Addr) (capk : Nat) (keys : List Int) (d : Int) (am : Option Addr) (capm : Nat) (ms : List Int) (s : Int) (w : World) (hn : c.length ≤ 1099511627776) (hnm : ms.length ≤ 1099511627776) (hc : IntsAt w ac c) (hm : IntsAt w am ms) (hv : validB c = true) :
    Calls Try.prog 68 #[.agg #[.slice ac c.length capc, .slice ak keys.length capk, .int .i64 d, .slice am ms.length capm, .int .i64 s]] w fun e w' => e = .returned (.bool (membersB c.length ms && qB c ms)) ∧ Below w.heap.size w w' := by
  have hb0 : Below w.heap.size w (w.alloc (.cells #[.slice ac c.length capc, .slice ak keys.length capk, .int .i64 d, .slice am ms.length capm, .int .i64 s] 60)) := (Below.refl _ _).alloc (Nat.le_refl _) _
  have s0 := Str.new w 60 #[.slice ac c.length capc, .slice ak keys.length capk, .int .i64 d, .slice am ms.length capm, .int .i64 s]
  have k0 := s0.cell 0 (v := .slice ac c.length capc) rfl
  have k3 := s0.cell 3 (v := .slice am ms.length capm) rfl
  have hlt0 := s0.lt
  clear s0
  cases em : membersB c.length ms with
  | false =>
    have Hm := Lib.hid (hm.below hb0); clear hm
    have Hc := Lib.hid (hc.below hb0); clear hc
    have Hb0 := Lib.hid hb0; clear hb0
    have h1 := fun W (h : IntsAt W am ms) => committee_hasMembers ac capc c.length am capm ms W hn hnm h
    rw [em] at h1
    have H1 := Lib.hid h1; clear h1
    clear em
    go_enter Try.func68, Try.ntmps68
    go_wp2_with fail
    generalize w.alloc (.cells #[.slice ac c.length capc, .slice ak keys.length capk, .int .i64 d, .slice am ms.length capm, .int .i64 s] 60) = W1 at *
    go_quiet ((go_at_call 63; exact Calls.quiet_of_same (turned (H1.out _ Hm.out))))
    have Hb2 := Lib.hid (Hb0.out.trans (Drawn.below ⟨nq, rfl⟩ _))
    go_wp2
    go_ret
    exact ⟨rfl, Hb2.out⟩
  | true =>
    have Hm := Lib.hid (hm.below hb0); clear hm
    have Hc := Lib.hid (hc.below hb0); clear hc
    have Hb0 := Lib.hid hb0; clear hb0
    have h1 := fun W (h : IntsAt W am ms) => committee_hasMembers ac capc c.length am capm ms W hn hnm h
    rw [em] at h1
    have H1 := Lib.hid h1; clear h1
    have H2 := Lib.hid (fun W (h : IntsAt W ac c) (h' : IntsAt W am ms) => committee_weight ac capc c am capm ms W hv em hnm h h')
    have H3 := Lib.hid (fun W (h : IntsAt W ac c) => committee_quorum ac capc c W hv h)
    clear em
    go_enter Try.func68, Try.ntmps68
    go_wp2_with fail
    generalize w.alloc (.cells #[.slice ac c.length capc, .slice ak keys.length capk, .int .i64 d, .slice am ms.length capm, .int .i64 s] 60) = W1 at *
    go_quiet (first | (go_at_call 63; exact Calls.quiet_of_same (turned (H1.out _ Hm.out))) | (go_at_call 46; exact Calls.quiet_of_same (turned (H2.out _ Hc.out Hm.out))) | (go_at_call 48; exact Calls.quiet_of_same (turned (H3.out _ Hc.out))))
    have Hb2 := Lib.hid (Hb0.out.trans (Drawn.below ⟨nq, rfl⟩ _))
    go_wp2
    go_ret
    exact ⟨ret_bool (by unfold qB; simp), Hb2.out⟩

theorem asJS (v : Value) (w : World) : (Instr.typeAssert (.iface 60 v) 69 67 true).run Try.prog w = .ok (.tuple #[.agg #[.int .i64 0, .int .i64 0], .bool false]) w := by kernel_rfl
theorem asJJ (v : Value) (w : World) : (Instr.typeAssert (.iface 60 v) 69 60 true).run Try.prog w = .ok (.tuple #[v, .bool true]) w := by kernel_rfl

theorem isComplete_joint (ac : Option Addr) (capc : Nat) (c : List Int) (ak : Option Addr) (capk : Nat) (keys : List Int) (d : Int) (am : Option Addr) (capm : Nat) (ms : List Int) (s : Int) (w : World) (hn : c.length ≤ 1099511627776) (hnk : keys.length ≤ 1099511627776) (hnm : ms.length ≤ 1099511627776) (hc : IntsAt w ac c) (hk : IntsAt w ak keys) (hm : IntsAt w am ms) :
    Calls Try.prog 60 #[.iface 60 (.agg #[.slice ac c.length capc, .slice ak keys.length capk, .int .i64 d, .slice am ms.length capm, .int .i64 s])] w fun e w' => e = .returned (.bool (lkB c keys && ((membersB c.length ms && qB c ms) && sumOkB s))) ∧ Below w.heap.size w w' := by
  have q1 := asJS
  have q2 := asJJ
  have hb0 : Below w.heap.size w (w.alloc (.cells #[.slice ac c.length capc, .slice ak keys.length capk, .int .i64 d, .slice am ms.length capm, .int .i64 s] 60)) := (Below.refl _ _).alloc (Nat.le_refl _) _
  have s0 := Str.new w 60 #[.slice ac c.length capc, .slice ak keys.length capk, .int .i64 d, .slice am ms.length capm, .int .i64 s]
  have k0 := s0.cell 0 (v := .slice ac c.length capc) rfl
  have k1 := s0.cell 1 (v := .slice ak keys.length capk) rfl
  have k2 := s0.cell 2 (v := .int .i64 d) rfl
  have k3 := s0.cell 3 (v := .slice am ms.length capm) rfl
  have k4 := s0.cell 4 (v := .int .i64 s) rfl
  have hlt0 := s0.lt
  clear s0
  cases ek : lkB c keys with
  | false =>
    have Hm := Lib.hid (hm.below hb0); clear hm
    have Hc := Lib.hid (hc.below hb0); clear hc
    have Hk := Lib.hid (hk.below hb0); clear hk
    have Hb0 := Lib.hid hb0; clear hb0
    have h1 := fun W (h : IntsAt W ac c) (h' : IntsAt W ak keys) => joint_hasKeys ac capc c ak capk keys d am capm ms s W hn hnk h h'
    rw [ek] at h1
    have H1 := Lib.hid h1; clear h1
    clear ek
    go_enter Try.func60, Try.ntmps60
    go_wp2_with fail
    generalize w.alloc (.cells #[.slice ac c.length capc, .slice ak keys.length capk, .int .i64 d, .slice am ms.length capm, .int .i64 s] 60) = W1 at *
    refine (H1.out _ Hc.out Hk.out).mono ?_
    rintro e w2 ⟨rfl, hb2⟩
    have Hb2 := Lib.hid (below_step Hb0.out Hb0.out.size hb2)
    have Hc2 := Lib.hid (Hc.out.below hb2)
    have Hm2 := Lib.hid (Hm.out.below hb2)
    have j0 := (hb2.cell (p := ⟨w.heap.size, 0, none⟩) hlt0).trans k0
    have j1 := (hb2.cell (p := ⟨w.heap.size, 1, none⟩) hlt0).trans k1
    have j2 := (hb2.cell (p := ⟨w.heap.size, 2, none⟩) hlt0).trans k2
    have j3 := (hb2.cell (p := ⟨w.heap.size, 3, none⟩) hlt0).trans k3
    have j4 := (hb2.cell (p := ⟨w.heap.size, 4, none⟩) hlt0).trans k4
    have hlt2 := Nat.lt_of_lt_of_le hlt0 hb2.size
    clear hb2 k0 k1 k2 k3 k4
    go_wp2
    go_ret
    exact ⟨rfl, Hb2.out⟩
  | true =>
    cases eq : (membersB c.length ms && qB c ms) with
    | false =>
      have Hm := Lib.hid (hm.below hb0); clear hm
      have Hc := Lib.hid (hc.below hb0); clear hc
      have Hk := Lib.hid (hk.below hb0); clear hk
      have Hb0 := Lib.hid hb0; clear hb0
      have h1 := fun W (h : IntsAt W ac c) (h' : IntsAt W ak keys) => joint_hasKeys ac capc c ak capk keys d am capm ms s W hn hnk h h'
      rw [ek] at h1
      have H1 := Lib.hid h1; clear h1
      have h2 := fun W (h : IntsAt W ac c) (h' : IntsAt W am ms) => joint_hasQuorum ac capc c ak capk keys d am capm ms s W hn hnm h h' (lkB_iff ek).1
      rw [eq] at h2
      have H2 := Lib.hid h2; clear h2
      clear eq
      clear ek
      go_enter Try.func60, Try.ntmps60
      go_wp2_with fail
      generalize w.alloc (.cells #[.slice ac c.length capc, .slice ak keys.length capk, .int .i64 d, .slice am ms.length capm, .int .i64 s] 60) = W1 at *
      refine (H1.out _ Hc.out Hk.out).mono ?_
      rintro e w2 ⟨rfl, hb2⟩
      have Hb2 := Lib.hid (below_step Hb0.out Hb0.out.size hb2)
      have Hc2 := Lib.hid (Hc.out.below hb2)
      have Hm2 := Lib.hid (Hm.out.below hb2)
      have j0 := (hb2.cell (p := ⟨w.heap.size, 0, none⟩) hlt0).trans k0
      have j1 := (hb2.cell (p := ⟨w.heap.size, 1, none⟩) hlt0).trans k1
      have j2 := (hb2.cell (p := ⟨w.heap.size, 2, none⟩) hlt0).trans k2
      have j3 := (hb2.cell (p := ⟨w.heap.size, 3, none⟩) hlt0).trans k3
      have j4 := (hb2.cell (p := ⟨w.heap.size, 4, none⟩) hlt0).trans k4
      have hlt2 := Nat.lt_of_lt_of_le hlt0 hb2.size
      clear hb2 k0 k1 k2 k3 k4
      go_wp2_with fail
      refine (H2.out _ Hc2.out Hm2.out).mono ?_
      rintro e w3 ⟨rfl, hb3⟩
      have Hb3 := Lib.hid (below_step Hb2.out Hb2.out.size hb3)
      have j4' := (hb3.cell (p := ⟨w.heap.size, 4, none⟩) hlt2).trans j4
      clear hb3 j0 j1 j2 j3 j4
      go_wp2
      go_ret
      exact ⟨rfl, Hb3.out⟩
    | true =>
      by_cases hs : 0 ≤ s
      · have Hm := Lib.hid (hm.below hb0); clear hm
        have Hc := Lib.hid (hc.below hb0); clear hc
        have Hk := Lib.hid (hk.below hb0); clear hk
        have Hb0 := Lib.hid hb0; clear hb0
        have h1 := fun W (h : IntsAt W ac c) (h' : IntsAt W ak keys) => joint_hasKeys ac capc c ak capk keys d am capm ms s W hn hnk h h'
        rw [ek] at h1
        have H1 := Lib.hid h1; clear h1
        have h2 := fun W (h : IntsAt W ac c) (h' : IntsAt W am ms) => joint_hasQuorum ac capc c ak capk keys d am capm ms s W hn hnm h h' (lkB_iff ek).1
        rw [eq] at h2
        have H2 := Lib.hid h2; clear h2
        clear eq
        clear ek
        go_enter Try.func60, Try.ntmps60
        go_wp2_with fail
        generalize w.alloc (.cells #[.slice ac c.length capc, .slice ak keys.length capk, .int .i64 d, .slice am ms.length capm, .int .i64 s] 60) = W1 at *
        refine (H1.out _ Hc.out Hk.out).mono ?_
        rintro e w2 ⟨rfl, hb2⟩
        have Hb2 := Lib.hid (below_step Hb0.out Hb0.out.size hb2)
        have Hc2 := Lib.hid (Hc.out.below hb2)
        have Hm2 := Lib.hid (Hm.out.below hb2)
        have j0 := (hb2.cell (p := ⟨w.heap.size, 0, none⟩) hlt0).trans k0
        have j1 := (hb2.cell (p := ⟨w.heap.size, 1, none⟩) hlt0).trans k1
        have j2 := (hb2.cell (p := ⟨w.heap.size, 2, none⟩) hlt0).trans k2
        have j3 := (hb2.cell (p := ⟨w.heap.size, 3, none⟩) hlt0).trans k3
        have j4 := (hb2.cell (p := ⟨w.heap.size, 4, none⟩) hlt0).trans k4
        have hlt2 := Nat.lt_of_lt_of_le hlt0 hb2.size
        clear hb2 k0 k1 k2 k3 k4
        go_wp2_with fail
        refine (H2.out _ Hc2.out Hm2.out).mono ?_
        rintro e w3 ⟨rfl, hb3⟩
        have Hb3 := Lib.hid (below_step Hb2.out Hb2.out.size hb3)
        have j4' := (hb3.cell (p := ⟨w.heap.size, 4, none⟩) hlt2).trans j4
        clear hb3 j0 j1 j2 j3 j4
        go_wp2
        go_ret
        exact ⟨ret_bool (by unfold sumOkB; rw [Bool.eq_iff_iff]; simp only [Bool.true_and, decide_eq_true_eq]; omega), Hb3.out⟩
      · have Hm := Lib.hid (hm.below hb0); clear hm
        have Hc := Lib.hid (hc.below hb0); clear hc
        have Hk := Lib.hid (hk.below hb0); clear hk
        have Hb0 := Lib.hid hb0; clear hb0
        have h1 := fun W (h : IntsAt W ac c) (h' : IntsAt W ak keys) => joint_hasKeys ac capc c ak capk keys d am capm ms s W hn hnk h h'
        rw [ek] at h1
        have H1 := Lib.hid h1; clear h1
        have h2 := fun W (h : IntsAt W ac c) (h' : IntsAt W am ms) => joint_hasQuorum ac capc c ak capk keys d am capm ms s W hn hnm h h' (lkB_iff ek).1
        rw [eq] at h2
        have H2 := Lib.hid h2; clear h2
        clear eq
        clear ek
        go_enter Try.func60, Try.ntmps60
        go_wp2_with fail
        generalize w.alloc (.cells #[.slice ac c.length capc, .slice ak keys.length capk, .int .i64 d, .slice am ms.length capm, .int .i64 s] 60) = W1 at *
        refine (H1.out _ Hc.out Hk.out).mono ?_
        rintro e w2 ⟨rfl, hb2⟩
        have Hb2 := Lib.hid (below_step Hb0.out Hb0.out.size hb2)
        have Hc2 := Lib.hid (Hc.out.below hb2)
        have Hm2 := Lib.hid (Hm.out.below hb2)
        have j0 := (hb2.cell (p := ⟨w.heap.size, 0, none⟩) hlt0).trans k0
        have j1 := (hb2.cell (p := ⟨w.heap.size, 1, none⟩) hlt0).trans k1
        have j2 := (hb2.cell (p := ⟨w.heap.size, 2, none⟩) hlt0).trans k2
        have j3 := (hb2.cell (p := ⟨w.heap.size, 3, none⟩) hlt0).trans k3
        have j4 := (hb2.cell (p := ⟨w.heap.size, 4, none⟩) hlt0).trans k4
        have hlt2 := Nat.lt_of_lt_of_le hlt0 hb2.size
        clear hb2 k0 k1 k2 k3 k4
        go_wp2_with fail
        refine (H2.out _ Hc2.out Hm2.out).mono ?_
        rintro e w3 ⟨rfl, hb3⟩
        have Hb3 := Lib.hid (below_step Hb2.out Hb2.out.size hb3)
        have j4' := (hb3.cell (p := ⟨w.heap.size, 4, none⟩) hlt2).trans j4
        clear hb3 j0 j1 j2 j3 j4
        go_wp2
        go_ret
        exact ⟨ret_bool (by unfold sumOkB; rw [decide_eq_false (by omega)]), Hb3.out⟩

theorem sumJ (n : Nat) (x : Value) (w : World) : (method (n + 1) 60 x "loop.example/dagconsensus/impl.sum").run Try.prog w = .ok (87, x) w := by kernel_rfl
theorem keyJ (n : Nat) (x : Value) (w : World) : (method (n + 1) 60 x "loop.example/dagconsensus/impl.key").run Try.prog w = .ok (86, x) w := by kernel_rfl
theorem sumJ' (x : Array Value) (w : World) : (callFunc 87 x).run Try.prog w = .ok (.enter 87 x) w := by kernel_rfl
theorem keyJ' (x : Array Value) (w : World) : (callFunc 86 x).run Try.prog w = .ok (.enter 86 x) w := by kernel_rfl

theorem certifies_joint (ac : Option Addr) (capc : Nat) (c : List Int) (ak : Option Addr) (capk : Nat) (keys : List Int) (d : Int) (am : Option Addr) (capm : Nat) (ms : List Int) (s : Int) (w : World) (hn : c.length ≤ 1099511627776) (hnk : keys.length ≤ 1099511627776) (hnm : ms.length ≤ 1099511627776) (hc : IntsAt w ac c) (hk : IntsAt w ak keys) (hm : IntsAt w am ms) :
    Calls Try.prog 44 #[.iface 60 (.agg #[.slice ac c.length capc, .slice ak keys.length capk, .int .i64 d, .slice am ms.length capm, .int .i64 s]), .int .i64 d] w fun e w' => e = .returned (.bool (ccB c keys d ms s)) ∧ Below w.heap.size w w' := by
  have h1 := isComplete_joint ac capc c ak capk keys d am capm ms s w hn hnk hnm hc hk hm
  have Hm := Lib.hid hm; clear hm hc
  have Hk := Lib.hid hk; clear hk
  cases ek : (lkB c keys && ((membersB c.length ms && qB c ms) && sumOkB s)) with
  | false =>
    rw [ek] at h1
    have H1 := Lib.hid h1; clear h1
    have Hf := Lib.hid (show ccB c keys d ms s = false by unfold ccB; cases h1 : lkB c keys <;> cases h2 : membersB c.length ms <;> cases h3 : qB c ms <;> cases h4 : sumOkB s <;> simp_all)
    clear ek
    go_enter Try.func44, Try.ntmps44
    go_wp2_with fail
    refine H1.out.mono ?_
    rintro e w1 ⟨rfl, hb1⟩
    have hz1 := hb1.size
    go_wp2
    go_ret
    exact ⟨ret_bool Hf.out.symm, hb1⟩
  | true =>
    cases ed : digB d with
    | false =>
      rw [ek] at h1
      have H1 := Lib.hid h1; clear h1
      have h2 := fun W => impl_isDigest d W
      rw [ed] at h2
      have H2 := Lib.hid h2; clear h2
      have Hf := Lib.hid (show ccB c keys d ms s = false by unfold ccB; rw [ed]; simp)
      clear ek
      clear ed
      go_enter Try.func44, Try.ntmps44
      go_wp2_with fail
      refine H1.out.mono ?_
      rintro e w1 ⟨rfl, hb1⟩
      have hz1 := hb1.size
      go_wp2_with fail
      refine (H2.out _).mono ?_
      rintro e w2 ⟨rfl, rfl⟩
      go_wp2
      go_ret
      exact ⟨ret_bool Hf.out.symm, hb1⟩
    | true =>
      rw [ek] at h1
      have H1 := Lib.hid h1; clear h1
      have h2 := fun W => impl_isDigest d W
      rw [ed] at h2
      have H2 := Lib.hid h2; clear h2
      simp only [Bool.and_eq_true] at ek
      obtain ⟨e1, ⟨e2, e3⟩, e4⟩ := ek
      have Hf := Lib.hid (show ccB c keys d ms s = equB (weightZ keys ms) d s by unfold ccB; rw [ed, e1, e2, e3, e4]; rfl)
      obtain ⟨hd1, hd2⟩ := digB_bd ed
      obtain ⟨hs1, hs2⟩ := (of_decide_eq_true e4 : 0 ≤ s ∧ s ≤ 996)
      have hkb := keySum_bd' e1 e2
      have hpr := prod_sign (p := weightZ keys ms) (d := d) hkb.1 hkb.2 hd1 hd2
      have H3 := Lib.hid (fun W => joint_sum ac capc c ak capk keys d am capm ms s W)
      have H4 := Lib.hid (fun W (h : IntsAt W ak keys) (h' : IntsAt W am ms) => joint_key ac capc c ak capk keys d am capm ms s W e1 e2 h h')
      clear e1 e2 e3 e4
      have i1 := sumJ
      have i2 := keyJ
      have i3 := sumJ'
      have i4 := keyJ'
      clear ed
      go_enter Try.func44, Try.ntmps44
      go_wp2_with fail
      refine H1.out.mono ?_
      rintro e w1 ⟨rfl, hb1⟩
      have hz1 := hb1.size
      go_wp2_with fail
      refine (H2.out _).mono ?_
      rintro e w2 ⟨rfl, rfl⟩
      go_wp2_with fail
      refine (H3.out _).mono ?_
      rintro e w3 ⟨rfl, hb3⟩
      have hb3' := below_step hb1 hz1 hb3
      have hz3 := hb3'.size
      go_wp2_with fail
      refine (H4.out _ (Hk.out.below hb3') (Hm.out.below hb3')).mono ?_
      rintro e w4 ⟨rfl, hb4⟩
      have hb4' := below_step hb3' hz3 hb4
      go_wp2
      go_ret
      exact ⟨ret_bool (by rw [Hf.out]; unfold equB; rw [Bool.eq_iff_iff]; simp only [beq_iff_eq, decide_eq_true_eq]), hb4'⟩

theorem impl_CertCheck (ac : Option Addr) (capc : Nat) (c : List Int) (ak : Option Addr) (capk : Nat) (keys : List Int) (d : Int) (am : Option Addr) (capm : Nat) (ms : List Int) (s : Int) (w : World) (hn : c.length ≤ 1099511627776) (hnk : keys.length ≤ 1099511627776) (hnm : ms.length ≤ 1099511627776) (hc : IntsAt w ac c) (hk : IntsAt w ak keys) (hm : IntsAt w am ms) :
    Calls Try.prog 14 #[.slice ac c.length capc, .slice ak keys.length capk, .agg #[.int .i64 d, .slice am ms.length capm, .int .i64 s]] w fun e w' => e = .returned (.bool (ccB c keys d ms s)) ∧ Below w.heap.size w w' := by
  have hmk : ∀ x w, (Instr.makeInterface 60 x).run Try.prog w = .ok (.iface 60 x) w := fun x w => run_makeInterface w 60 x (by kernel_rfl)
  have hb0 : Below w.heap.size w (w.alloc (.cells #[.int .i64 d, .slice am ms.length capm, .int .i64 s] 27)) := (Below.refl _ _).alloc (Nat.le_refl _) _
  have H := Lib.hid (certifies_joint ac capc c ak capk keys d am capm ms s _ hn hnk hnm (hc.below hb0) (hk.below hb0) (hm.below hb0))
  have Hb0 := Lib.hid hb0; clear hb0 hc hk hm
  go_enter Try.func14, Try.ntmps14
  go_wp2_with fail
  refine H.out.mono ?_
  rintro e w1 ⟨rfl, hb1⟩
  have Hb1 := Lib.hid (below_step Hb0.out Hb0.out.size hb1)
  go_wp2
  go_ret
  exact ⟨rfl, Hb1.out⟩

end Go.Proofs.Ytilkiiflcdmnpab
