/- What spec's functions of certificates answer, each by a walk of its text: the answers are those of plain functions on lists of numbers; conditions: a list that is read has fewer than 2^40 elements. -/
import Derived.Test.YtilkiiflcdmnpabRows
import Derived.Test.YtilkiiflcdmnpabBase
import Derived.Test.YtilkiiflcdmnpabApp
import Derived.Test.YtilkiiflcdmnpabDt
import Derived.Test.YtilkiiflcdmnpabM1
import Derived.Test.YtilkiiflcdmnpabM2
import Derived.Test.YtilkiiflcdmnpabSgM
import Derived.Test.YtilkiiflcdmnpabCeM
import Derived.Test.YtilkiiflcdmnpabC1
import Derived.Test.YtilkiiflcdmnpabC2
import Derived.Test.YtilkiiflcdmnpabSgC
import Derived.Deep.QuietTactic
import Derived.BigQuiet
namespace Go.Proofs.Ytilkiiflcdmnpab
open Go.RowKit

theorem spec_l4Keys (ac : Option Addr) (capc : Nat) (c : List Int) (ak : Option Addr) (capk : Nat) (keys : List Int) (w : World) (hn : c.length ≤ 1099511627776) (hbig : keys.length ≤ 1099511627776) (hc : IntsAt w ac c) (hk : IntsAt w ak keys) :
    Calls Try.prog 39 #[.slice ac c.length capc, .slice ak keys.length capk] w fun e w' => e = .returned (.bool (lkB c keys)) ∧ w = w' := by
  have hv' := spec_CommitteeValid ac capc c w hn hc
  have Hv := Lib.hid hv'; clear hv' hc
  rcases hk.len with h0 | ⟨b, off, rfl, hb, hk⟩
  all_goals
    go_enter Try.func39, Try.ntmps39
    go_wp2
    go_loop [5] (fun i => ∃ k : Nat, k ≤ keys.length ∧ i = .int .i64 k ∧ Pre signB keys k) (fun i => keys.length - (intOf i).toNat)
    case atStart => exact ⟨0, by omega, rfl, pre_zero _ _⟩
    case round =>
      obtain ⟨k, hkl, rfl, hg⟩ := hrel
      by_cases hlt : k < keys.length
      · first
        | (exfalso; omega)
        | (have hcell := hk k hlt
           have Hk := Lib.hid hk; clear hk
           have hd := spec_l4Key keys[k] w
           by_cases h : signB keys[k] = true
           · rw [h] at hd
             have Hd := Lib.hid hd; clear hd
             have Hs := Lib.hid (pre_step hg hlt h); clear hg h
             go_wp2_with fail
             refine Hd.out.mono ?_
             rintro e w' ⟨rfl, rfl⟩
             go_wp2
             go_round
             case rel => exact ⟨k + 1, by omega, by go_num, Hs.out⟩
             case measure => simp [intOf]; omega
           · rw [Bool.not_eq_true] at h
             rw [h] at hd
             have Hd := Lib.hid hd; clear hd
             have Hs := Lib.hid (lkB_no3 (c := c) (pre_not hlt h)); clear hg h
             go_wp2_with fail
             refine Hd.out.mono ?_
             rintro e w' ⟨rfl, rfl⟩
             go_wp2
             go_ret
             exact ⟨ret_bool Hs.out.symm, rfl⟩)
      · have hall := pre_all hg (by omega)
        clear hg
        cases hv : validB c with
        | false =>
          have hv' := Hv.out
          rw [hv] at hv'
          have Hv' := Lib.hid hv'; clear hv'
          have Hs := Lib.hid (lkB_no1 (keys := keys) hv); clear hv hall
          go_wp2_with fail
          refine Hv'.out.mono ?_
          rintro e w' ⟨rfl, rfl⟩
          go_wp2
          go_ret
          exact ⟨ret_bool Hs.out.symm, rfl⟩
        | true =>
          have hv' := Hv.out
          rw [hv] at hv'
          have Hv' := Lib.hid hv'; clear hv'
          have Hs := Lib.hid (show lkB c keys = decide (keys.length = c.length) by unfold lkB; rw [hv, hall]; simp); clear hv hall
          go_wp2_with fail
          refine Hv'.out.mono ?_
          rintro e w' ⟨rfl, rfl⟩
          go_wp2
          go_ret
          exact ⟨ret_bool (by rw [Hs.out, Bool.eq_iff_iff]; simp only [beq_iff_eq, decide_eq_true_eq]; omega), rfl⟩

set_option maxHeartbeats 1000000 in
theorem spec_CertCheck (ac : Option Addr) (capc : Nat) (c : List Int) (ak : Option Addr) (capk : Nat) (keys : List Int) (d : Int) (am : Option Addr) (capm : Nat) (ms : List Int) (s : Int) (w : World) (hn : c.length ≤ 1099511627776) (hnk : keys.length ≤ 1099511627776) (hnm : ms.length ≤ 1099511627776) (hc : IntsAt w ac c) (hk : IntsAt w ak keys) (hm : IntsAt w am ms) :
    Calls Try.prog 19 #[.slice ac c.length capc, .slice ak keys.length capk, .agg #[.int .i64 d, .slice am ms.length capm, .int .i64 s]] w fun e w' => e = .returned (.bool (ccB c keys d ms s)) ∧ Below w.heap.size w w' := by
  have hb0 : Below w.heap.size w (w.alloc (.cells #[.int .i64 d, .slice am ms.length capm, .int .i64 s] 27)) := (Below.refl _ _).alloc (Nat.le_refl _) _
  have s0 := Str.new w 27 #[.int .i64 d, .slice am ms.length capm, .int .i64 s]
  have k0 := s0.cell 0 (v := .int .i64 d) rfl
  have k1 := s0.cell 1 (v := .slice am ms.length capm) rfl
  have k2 := s0.cell 2 (v := .int .i64 s) rfl
  have Hc := Lib.hid (hc.below hb0); clear hc
  have Hk := Lib.hid (hk.below hb0); clear hk
  have Hm := Lib.hid (hm.below hb0); clear hm
  have Hs0 := Lib.hid s0; clear s0
  have Hb0 := Lib.hid hb0; clear hb0
  have hcc : ccB c keys d ms s = (lkB c keys && (digB d && (membersB c.length ms && (sumOkB s && (qB c ms && equB (weightZ keys ms) d s))))) := rfl
  have h1 := fun W (h : IntsAt W ac c) (h' : IntsAt W ak keys) => spec_l4Keys ac capc c ak capk keys W hn hnk h h'
  have h2 := fun W => spec_l2Digest d W
  have h3 := fun W (h : IntsAt W am ms) => spec_l1Members ac capc c.length am capm ms W hn hnm h
  have h4 := fun W => spec_l6In s 0 996 W
  rw [show decide (0 ≤ s ∧ s ≤ 996) = sumOkB s from rfl] at h4
  cases e0 : lkB c keys with
  | false =>
    rw [e0] at h1 hcc
    simp only [Bool.false_and] at hcc
    have Hcc := Lib.hid hcc; clear hcc
    have H1 := Lib.hid h1; clear h1
    have H2 := Lib.hid h2; clear h2
    have H3 := Lib.hid h3; clear h3
    have H4 := Lib.hid h4; clear h4
    clear e0
    go_enter Try.func19, Try.ntmps19
    go_wp2_with fail
    generalize w.alloc (.cells #[.int .i64 d, .slice am ms.length capm, .int .i64 s] 27) = W1 at *
    refine (H1.out _ Hc.out Hk.out).mono ?_
    rintro e w1 ⟨rfl, rfl⟩
    go_wp2
    go_ret
    exact ⟨ret_bool Hcc.out.symm, Hb0.out⟩
  | true =>
    cases e1 : digB d with
    | false =>
      rw [e0] at h1 hcc
      rw [e1] at h2 hcc
      simp only [Bool.true_and, Bool.false_and] at hcc
      have Hcc := Lib.hid hcc; clear hcc
      have H1 := Lib.hid h1; clear h1
      have H2 := Lib.hid h2; clear h2
      have H3 := Lib.hid h3; clear h3
      have H4 := Lib.hid h4; clear h4
      clear e0 e1
      go_enter Try.func19, Try.ntmps19
      go_wp2_with fail
      generalize w.alloc (.cells #[.int .i64 d, .slice am ms.length capm, .int .i64 s] 27) = W1 at *
      refine (H1.out _ Hc.out Hk.out).mono ?_
      rintro e w1 ⟨rfl, rfl⟩
      go_wp2_with fail
      refine (H2.out _).mono ?_
      rintro e w1 ⟨rfl, rfl⟩
      go_wp2
      go_ret
      exact ⟨ret_bool Hcc.out.symm, Hb0.out⟩
    | true =>
      cases e2 : membersB c.length ms with
      | false =>
        rw [e0] at h1 hcc
        rw [e1] at h2 hcc
        rw [e2] at h3 hcc
        simp only [Bool.true_and, Bool.false_and] at hcc
        have Hcc := Lib.hid hcc; clear hcc
        have H1 := Lib.hid h1; clear h1
        have H2 := Lib.hid h2; clear h2
        have H3 := Lib.hid h3; clear h3
        have H4 := Lib.hid h4; clear h4
        clear e0 e1 e2
        go_enter Try.func19, Try.ntmps19
        go_wp2_with fail
        generalize w.alloc (.cells #[.int .i64 d, .slice am ms.length capm, .int .i64 s] 27) = W1 at *
        refine (H1.out _ Hc.out Hk.out).mono ?_
        rintro e w1 ⟨rfl, rfl⟩
        go_wp2_with fail
        refine (H2.out _).mono ?_
        rintro e w1 ⟨rfl, rfl⟩
        go_wp2_with fail
        refine (H3.out _ Hm.out).mono ?_
        rintro e w2 ⟨rfl, hd3⟩
        have Hc2 := Lib.hid (hd3.ints Hc.out)
        have Hk2 := Lib.hid (hd3.ints Hk.out)
        have Hm2 := Lib.hid (hd3.ints Hm.out)
        have j0 := (hd3.cell _).trans k0
        have j1 := (hd3.cell _).trans k1
        have j2 := (hd3.cell _).trans k2
        have Hb2 := Lib.hid (Hb0.out.trans (hd3.below _))
        clear k0 k1 k2 hd3
        go_wp2
        go_ret
        exact ⟨ret_bool Hcc.out.symm, Hb2.out⟩
      | true =>
        cases e3 : sumOkB s with
        | false =>
          rw [e0] at h1 hcc
          rw [e1] at h2 hcc
          rw [e2] at h3 hcc
          rw [e3] at h4 hcc
          simp only [Bool.true_and, Bool.false_and] at hcc
          have Hcc := Lib.hid hcc; clear hcc
          have H1 := Lib.hid h1; clear h1
          have H2 := Lib.hid h2; clear h2
          have H3 := Lib.hid h3; clear h3
          have H4 := Lib.hid h4; clear h4
          clear e0 e1 e2 e3
          go_enter Try.func19, Try.ntmps19
          go_wp2_with fail
          generalize w.alloc (.cells #[.int .i64 d, .slice am ms.length capm, .int .i64 s] 27) = W1 at *
          refine (H1.out _ Hc.out Hk.out).mono ?_
          rintro e w1 ⟨rfl, rfl⟩
          go_wp2_with fail
          refine (H2.out _).mono ?_
          rintro e w1 ⟨rfl, rfl⟩
          go_wp2_with fail
          refine (H3.out _ Hm.out).mono ?_
          rintro e w2 ⟨rfl, hd3⟩
          have Hc2 := Lib.hid (hd3.ints Hc.out)
          have Hk2 := Lib.hid (hd3.ints Hk.out)
          have Hm2 := Lib.hid (hd3.ints Hm.out)
          have j0 := (hd3.cell _).trans k0
          have j1 := (hd3.cell _).trans k1
          have j2 := (hd3.cell _).trans k2
          have Hb2 := Lib.hid (Hb0.out.trans (hd3.below _))
          clear k0 k1 k2 hd3
          go_wp2_with fail
          refine (H4.out _).mono ?_
          rintro e w3 ⟨rfl, rfl⟩
          go_wp2
          go_ret
          exact ⟨ret_bool Hcc.out.symm, Hb2.out⟩
        | true =>
          cases e4 : qB c ms with
          | false =>
            rw [e0] at h1 hcc
            rw [e1] at h2 hcc
            rw [e2] at h3 hcc
            rw [e3] at h4 hcc
            rw [e4] at hcc
            simp only [Bool.true_and, Bool.false_and] at hcc
            have Hcc := Lib.hid hcc; clear hcc
            have H1 := Lib.hid h1; clear h1
            have H2 := Lib.hid h2; clear h2
            have H3 := Lib.hid h3; clear h3
            have H4 := Lib.hid h4; clear h4
            have hv := (lkB_iff e0).1
            have hw := fun W (h : IntsAt W ac c) (h' : IntsAt W am ms) => spec_l1Weight ac capc c am capm ms W hv e2 hnm h h'
            have hq := fun W (h : IntsAt W ac c) => spec_l1Quorum ac capc c W hv h
            have Hw := Lib.hid hw; clear hw
            have Hq := Lib.hid hq; clear hq
            have hwb := weightTo_bd hv e2 ms.length (Nat.le_refl _)
            rw [show weightTo c ms ms.length = weightZ c ms from rfl] at hwb
            have htb := totalZ_bd hv
            have hqd := e4; unfold qB at hqd
            rw [decide_eq_false_iff_not] at hqd
            clear e0 e1 e2 e3 e4 hv
            go_enter Try.func19, Try.ntmps19
            go_wp2_with fail
            generalize w.alloc (.cells #[.int .i64 d, .slice am ms.length capm, .int .i64 s] 27) = W1 at *
            refine (H1.out _ Hc.out Hk.out).mono ?_
            rintro e w1 ⟨rfl, rfl⟩
            go_wp2_with fail
            refine (H2.out _).mono ?_
            rintro e w1 ⟨rfl, rfl⟩
            go_wp2_with fail
            refine (H3.out _ Hm.out).mono ?_
            rintro e w2 ⟨rfl, hd3⟩
            have Hc2 := Lib.hid (hd3.ints Hc.out)
            have Hk2 := Lib.hid (hd3.ints Hk.out)
            have Hm2 := Lib.hid (hd3.ints Hm.out)
            have j0 := (hd3.cell _).trans k0
            have j1 := (hd3.cell _).trans k1
            have j2 := (hd3.cell _).trans k2
            have Hb2 := Lib.hid (Hb0.out.trans (hd3.below _))
            clear k0 k1 k2 hd3
            go_wp2_with fail
            refine (H4.out _).mono ?_
            rintro e w3 ⟨rfl, rfl⟩
            go_wp2_with fail
            refine (Hw.out _ Hc2.out Hm2.out).mono ?_
            rintro e w3 ⟨rfl, rfl⟩
            go_wp2_with fail
            refine (Hq.out _ Hc2.out).mono ?_
            rintro e w3 ⟨rfl, rfl⟩
            go_wp2
            go_ret
            exact ⟨ret_bool Hcc.out.symm, Hb2.out⟩
          | true =>
            rw [e0] at h1 hcc
            rw [e1] at h2 hcc
            rw [e2] at h3 hcc
            rw [e3] at h4 hcc
            rw [e4] at hcc
            simp only [Bool.true_and] at hcc
            have Hcc := Lib.hid hcc; clear hcc
            have H1 := Lib.hid h1; clear h1
            have H2 := Lib.hid h2; clear h2
            have H3 := Lib.hid h3; clear h3
            have H4 := Lib.hid h4; clear h4
            have hv := (lkB_iff e0).1
            have hw := fun W (h : IntsAt W ac c) (h' : IntsAt W am ms) => spec_l1Weight ac capc c am capm ms W hv e2 hnm h h'
            have hq := fun W (h : IntsAt W ac c) => spec_l1Quorum ac capc c W hv h
            have Hw := Lib.hid hw; clear hw
            have Hq := Lib.hid hq; clear hq
            have hwb := weightTo_bd hv e2 ms.length (Nat.le_refl _)
            rw [show weightTo c ms ms.length = weightZ c ms from rfl] at hwb
            have htb := totalZ_bd hv
            have hqd := e4; unfold qB at hqd
            rw [decide_eq_true_eq] at hqd
            have hkb := fun k (h : k ≤ ms.length) => keySum_bd e0 e2 k h
            have hml := members_len e2
            have hcl := validB_len hv
            have hat := membersB_at e2
            have Hkl := Lib.hid (lkB_iff e0).2.1
            have hks := fun i (h : i < c.length) => lkB_sign e0 i h
            obtain ⟨hd1, hd2⟩ := digB_bd e1
            obtain ⟨hs1, hs2⟩ := (of_decide_eq_true e3 : 0 ≤ s ∧ s ≤ 996)
            have Hkb := Lib.hid hkb; clear hkb
            have Hat := Lib.hid hat; clear hat
            have Hks := Lib.hid hks; clear hks
            clear e0 e1 e2 e3 e4 hv
            go_enter Try.func19, Try.ntmps19
            go_wp2_with fail
            generalize w.alloc (.cells #[.int .i64 d, .slice am ms.length capm, .int .i64 s] 27) = W1 at *
            refine (H1.out _ Hc.out Hk.out).mono ?_
            rintro e w1 ⟨rfl, rfl⟩
            go_wp2_with fail
            refine (H2.out _).mono ?_
            rintro e w1 ⟨rfl, rfl⟩
            go_wp2_with fail
            refine (H3.out _ Hm.out).mono ?_
            rintro e w2 ⟨rfl, hd3⟩
            have Hc2 := Lib.hid (hd3.ints Hc.out)
            have Hk2 := Lib.hid (hd3.ints Hk.out)
            have Hm2 := Lib.hid (hd3.ints Hm.out)
            have j0 := (hd3.cell _).trans k0
            have j1 := (hd3.cell _).trans k1
            have j2 := (hd3.cell _).trans k2
            have Hb2 := Lib.hid (Hb0.out.trans (hd3.below _))
            clear k0 k1 k2 hd3
            go_wp2_with fail
            refine (H4.out _).mono ?_
            rintro e w3 ⟨rfl, rfl⟩
            go_wp2_with fail
            refine (Hw.out _ Hc2.out Hm2.out).mono ?_
            rintro e w3 ⟨rfl, rfl⟩
            go_wp2_with fail
            refine (Hq.out _ Hc2.out).mono ?_
            rintro e w3 ⟨rfl, rfl⟩
            go_wp2_with fail
            go_loopw [7, 8] (fun vs vi wr => ∃ k : Nat, k ≤ ms.length ∧ vi = .int .i64 k ∧ vs = .int .i64 (weightTo keys ms k) ∧ wr = w2) (fun _ vi _ => ms.length - (intOf vi).toNat)
            case atStart => exact ⟨0, by omega, rfl, rfl, rfl⟩
            case round =>
              obtain ⟨k, hkk, rfl, rfl, rfl⟩ := hrel
              have hkb := Hkb.out k hkk
              by_cases hlt : k < ms.length
              · obtain ⟨b, off, rfl, hb, hmm⟩ := Hm2.out.cell (by omega)
                have hcell := hmm k hlt
                have g := Hat.out k hlt
                obtain ⟨b', off', rfl, hb', hkc⟩ := Hk2.out.cell (by have := Hkl.out; omega)
                have hcell2 := hkc ms[k].toNat (by have := Hkl.out; omega)
                have g2 := Hks.out ms[k].toNat (by omega)
                have hlk : ms[k].toNat < keys.length := by have := Hkl.out; omega
                have hlk2 : ms[k] < (keys.length : Int) := by have := Hkl.out; omega
                have e9 : weightTo keys ms (k + 1) = weightTo keys ms k + keys[ms[k].toNat] := by rw [weightTo_succ hlt, getD_get (by omega)]
                rw [getD_get (by omega)] at g2
                have He9 := Lib.hid e9; clear e9 hmm hkc
                go_wp2
                go_roundw
                case rel => exact ⟨k + 1, by omega, by go_num, int_eq He9.out.symm, by trivial⟩
                case measure => simp [intOf]; omega
              · have hkm : k = ms.length := by omega
                subst hkm
                have hz : weightTo keys ms ms.length = weightZ keys ms := rfl
                rw [hz] at hkb
                obtain ⟨p, hp, hp2⟩ : ∃ p : Int, weightZ keys ms % 997 = p ∧ 0 ≤ p ∧ p ≤ 996 := ⟨_, rfl, by omega, by omega⟩
                have h9 := fun W => spec_l4Check p d s hp2.1 hp2.2 hd1 hd2 hs1 hs2 W
                have hx : equB p d s = equB (weightZ keys ms) d s := by rw [← hp, equB_mod]
                rw [hx] at h9
                have H9 := Lib.hid h9; clear h9 hx
                rw [hz]
                go_wp2_with fail
                refine (H9.out _).mono ?_
                rintro e w4 ⟨rfl, rfl⟩
                go_wp2
                go_ret
                exact ⟨ret_bool Hcc.out.symm, Hb2.out⟩

end Go.Proofs.Ytilkiiflcdmnpab
