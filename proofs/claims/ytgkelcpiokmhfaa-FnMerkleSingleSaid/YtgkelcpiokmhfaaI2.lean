/- What impl's functions of digests and hash trees answer, each by a walk of its text: the answers are those of plain functions on lists; conditions: a list that is read has fewer than 2^40 elements and fits its capacity, the numbers are ints. -/
import Derived.Test.YtgkelcpiokmhfaaRows
import Derived.Test.YtgkelcpiokmhfaaBase
import Derived.Test.YtgkelcpiokmhfaaApp
import Derived.Test.YtgkelcpiokmhfaaM2
import Derived.Test.YtgkelcpiokmhfaaC2
import Derived.Deep.QuietTactic
import Derived.BigQuiet
namespace Go.Proofs.Ytgkelcpiokmhfaa
open Go.RowKit

theorem impl_isDigest (n : Int) (w : World) : Calls Try.prog 28 #[.int .i64 n] w fun e w' => e = .returned (.bool (digB n)) ∧ w = w' := by
  by_cases h : 0 ≤ n
  · have Hf := Lib.hid (show digB n = decide (n < 991) by unfold digB; rw [Bool.eq_iff_iff]; simp only [decide_eq_true_eq]; omega)
    go_enter Try.func28, Try.ntmps28
    go_wp2
    go_ret
    exact ⟨ret_bool Hf.out.symm, rfl⟩
  · have Hf := Lib.hid (show digB n = false by unfold digB; exact decide_eq_false (by omega))
    go_enter Try.func28, Try.ntmps28
    go_wp2
    go_ret
    exact ⟨ret_bool Hf.out.symm, rfl⟩

theorem impl_isTreeSize (n : Int) (w : World) : Calls Try.prog 40 #[.int .i64 n] w fun e w' => e = .returned (.bool (decide (1 ≤ n ∧ n ≤ 16))) ∧ w = w' := by
  by_cases h : 1 ≤ n
  · go_enter Try.func40, Try.ntmps40
    go_wp2
    go_ret
    exact ⟨ret_bool (by rw [Bool.eq_iff_iff]; simp only [decide_eq_true_eq]; omega), rfl⟩
  · go_enter Try.func40, Try.ntmps40
    go_wp2
    go_ret
    exact ⟨ret_bool (by rw [Bool.eq_iff_iff]; simp only [Bool.and_eq_true, decide_eq_true_eq, Bool.false_eq_true, false_iff]; omega), rfl⟩

theorem impl_areDigests (a : Option Addr) (cap : Nat) (l : List Int) (w : World) (hbig : l.length ≤ 1099511627776) (hc : IntsAt w a l) :
    Calls Try.prog 41 #[.slice a l.length cap] w fun e w' => e = .returned (.bool (l.all digB)) ∧ w = w' := by
  rcases hc.len with h0 | ⟨b, off, rfl, hb, hc⟩
  all_goals
    go_enter Try.func41, Try.ntmps41
    go_wp2
    go_loop [7] (fun i => ∃ k : Nat, k ≤ l.length ∧ i = .int .i64 k ∧ Pre digB l k) (fun i => l.length - (intOf i).toNat)
    case atStart => exact ⟨0, by omega, rfl, pre_zero _ _⟩
    case round =>
      obtain ⟨k, hk, rfl, hg⟩ := hrel
      by_cases hlt : k < l.length
      · first
        | (exfalso; omega)
        | (have hcell := hc k hlt
           have Hc := Lib.hid hc; clear hc
           have hd := impl_isDigest l[k] w
           by_cases h : digB l[k] = true
           · rw [h] at hd
             have Hd := Lib.hid hd; clear hd
             have Hs := Lib.hid (pre_step hg hlt h); clear hg h
             go_wp2_with fail
             refine Hd.out.mono ?_
             rintro e w' ⟨rfl, rfl⟩
             go_wp2
             go_round
             case rel => exact ⟨k + 1, by omega, by go_num, Hs.out⟩
             case measure => simp [intOf]; omega
           · rw [Bool.not_eq_true] at h
             rw [h] at hd
             have Hd := Lib.hid hd; clear hd
             have Hs := Lib.hid (pre_not hlt h); clear hg h
             go_wp2_with fail
             refine Hd.out.mono ?_
             rintro e w' ⟨rfl, rfl⟩
             go_wp2
             go_ret
             exact ⟨ret_bool Hs.out.symm, rfl⟩)
      · have Hs := Lib.hid (pre_all hg (by omega)); clear hg
        go_wp2
        go_ret
        exact ⟨ret_bool Hs.out.symm, rfl⟩

theorem impl_areLeaves (a : Option Addr) (cap : Nat) (l : List Int) (w : World) (hbig : l.length ≤ 1099511627776) (hc : IntsAt w a l) :
    Calls Try.prog 33 #[.slice a l.length cap] w fun e w' => e = .returned (.bool (leavesB l)) ∧ w = w' := by
  have hz := impl_isTreeSize (l.length : Int) w
  have hd := impl_areDigests a cap l w hbig hc
  by_cases h : 1 ≤ (l.length : Int) ∧ (l.length : Int) ≤ 16
  · rw [decide_eq_true h] at hz
    have Hf := Lib.hid (show leavesB l = l.all digB by unfold leavesB; rw [decide_eq_true (by omega), Bool.true_and])
    have Hz := Lib.hid hz; clear hz
    have Hd := Lib.hid hd; clear hd hc h
    go_enter Try.func33, Try.ntmps33
    go_wp2_with fail
    refine Hz.out.mono ?_
    rintro e w' ⟨rfl, rfl⟩
    go_wp2_with fail
    refine Hd.out.mono ?_
    rintro e w' ⟨rfl, rfl⟩
    go_wp2
    go_ret
    exact ⟨ret_bool Hf.out.symm, rfl⟩
  · rw [decide_eq_false h] at hz
    have Hf := Lib.hid (show leavesB l = false by unfold leavesB; rw [decide_eq_false (by omega), Bool.false_and])
    have Hz := Lib.hid hz; clear hz hd hc h
    go_enter Try.func33, Try.ntmps33
    go_wp2_with fail
    refine Hz.out.mono ?_
    rintro e w' ⟨rfl, rfl⟩
    go_wp2
    go_ret
    exact ⟨ret_bool Hf.out.symm, rfl⟩

theorem impl_HashPairW (a b : Int) (w : World) : Calls Try.prog 14 #[.int .i64 a, .int .i64 b] w fun e w' => e = .returned (.int .i64 (hpZ a b)) ∧ w = w' := by
  have h1 := impl_isDigest a w
  have h2 := impl_isDigest b w
  by_cases ha : digB a = true
  · by_cases hb : digB b = true
    · rw [ha] at h1
      rw [hb] at h2
      have hf : hpZ a b = pairZ a b := hpZ_yes ha hb
      have hba := digB_bd ha
      have hbb := digB_bd hb
      have Hf := Lib.hid hf; clear hf
      have H1 := Lib.hid h1; clear h1
      have H2 := Lib.hid h2; clear h2
      clear ha hb
      go_enter Try.func14, Try.ntmps14
      go_wp2_with fail
      refine H1.out.mono ?_
      rintro e w' ⟨rfl, rfl⟩
      go_wp2_with fail
      refine H2.out.mono ?_
      rintro e w' ⟨rfl, rfl⟩
      go_wp2
      go_ret
      exact ⟨ret_int (by rw [Hf.out]; unfold pairZ; omega), rfl⟩
    · rw [Bool.not_eq_true] at hb
      rw [ha] at h1
      rw [hb] at h2
      have hf : hpZ a b = -1 := hpZ_no (by simp [hb])
      have Hf := Lib.hid hf; clear hf
      have H1 := Lib.hid h1; clear h1
      have H2 := Lib.hid h2; clear h2
      clear ha hb
      go_enter Try.func14, Try.ntmps14
      go_wp2_with fail
      refine H1.out.mono ?_
      rintro e w' ⟨rfl, rfl⟩
      go_wp2_with fail
      refine H2.out.mono ?_
      rintro e w' ⟨rfl, rfl⟩
      go_wp2
      go_ret
      exact ⟨ret_int Hf.out.symm, rfl⟩
  · rw [Bool.not_eq_true] at ha
    rw [ha] at h1
    have hf : hpZ a b = -1 := hpZ_no (by simp [ha])
    have Hf := Lib.hid hf; clear hf
    have H1 := Lib.hid h1; clear h1
    clear ha h2
    go_enter Try.func14, Try.ntmps14
    go_wp2_with fail
    refine H1.out.mono ?_
    rintro e w' ⟨rfl, rfl⟩
    go_wp2
    go_ret
    exact ⟨ret_int Hf.out.symm, rfl⟩
theorem impl_HashPair (a b : Int) (w : World) : Calls Try.prog 14 #[.int .i64 a, .int .i64 b] w fun e w' => e = .returned (.int .i64 (hpZ a b)) ∧ Below w.heap.size w w' :=
  (impl_HashPairW a b w).mono fun e w' h => ⟨h.1, by rw [h.2]; exact Below.refl _ _⟩

theorem impl_HashText (s : ByteArray) (w : World) (hs : s.size ≤ 1099511627776) : Calls Try.prog 11 #[.string s] w fun e w' => e = .returned (.int .i64 (htZ s)) ∧ Below w.heap.size w w' := by
  by_cases h : s.size ≤ 60
  · have hf : htZ s = txtZ s.data.toList := by unfold htZ; rw [if_pos h]
    have Hf := Lib.hid hf; clear hf
    go_enter Try.func11, Try.ntmps11
    go_wp2
    go_loop [3, 10] (fun n i => ∃ k : Nat, k ≤ s.size ∧ i = .int .i64 k ∧ n = .int .i64 (txtZ (s.data.toList.take k))) (fun _ i => s.size - (intOf i).toNat)
    case atStart => exact ⟨0, Nat.zero_le _, rfl, rfl⟩
    case round =>
      obtain ⟨k, hk, rfl, rfl⟩ := hrel
      have hbd := txtZ_bd (s.data.toList.take k)
      by_cases hlt : k < s.size
      · have hc := UInt8.toNat_lt s[k]
        have Hn := Lib.hid (txt_step s k hlt)
        go_wp2
        go_round
        case rel => exact ⟨k + 1, by omega, by go_num, int_eq (by rw [Hn.out]; unfold txtS; omega)⟩
        case measure => simp [intOf]; omega
      · go_wp2
        go_ret
        exact ⟨ret_int (by rw [Hf.out, List.take_of_length_le (by simp; omega)]), Below.refl _ _⟩
  · have hf : htZ s = -1 := by unfold htZ; rw [if_neg h]
    have Hf := Lib.hid hf; clear hf
    go_enter Try.func11, Try.ntmps11
    go_wp2
    go_ret
    exact ⟨ret_int Hf.out.symm, Below.refl _ _⟩

theorem impl_levelAbove (a : Option Addr) (cap : Nat) (l : List Int) (w : World) (hbig : l.length ≤ 1099511627776) (hd : ∀ x ∈ l, digB x = true) (hc : IntsAt w a l) :
    Calls Try.prog 45 #[.slice a l.length cap] w fun e w' => ∃ v, e = .returned v ∧ Own 3 w' w.heap.size v (upZ l) ∧ Below w.heap.size w w' := by
  have hul := upZ_len l
  have Hd := Lib.hid hd; clear hd
  rcases hc.len with h0 | ⟨b, off, rfl, hb, hc⟩
  all_goals
    go_enter Try.func45, Try.ntmps45
    go_wp2_with fail
    go_loopw [3, 4] (fun v i wr => ∃ k : Nat, 2 * k ≤ l.length + 1 ∧ i = .int .i64 (2 * (k : Int)) ∧ Own 3 wr w.heap.size v ((upZ l).take k) ∧ Below w.heap.size w wr) (fun _ i _ => l.length + 2 - (intOf i).toNat)
    case atStart => exact ⟨0, by omega, rfl, own_empty _ _ (Nat.le_refl _), (Below.refl _ _).alloc (Nat.le_refl _) _⟩
    case round =>
      obtain ⟨k, hk, rfl, hown, hbel⟩ := hrel
      have hB := hbel.size
      have hlt' : ((upZ l).take k).length ≤ 1099511627776 := by rw [List.length_take]; omega
      by_cases hlt : 2 * k < l.length
      · first
        | (exfalso; omega)
        | (have hcell := (hbel.cell (p := ⟨b, off + 2 * k, none⟩) hb).trans (hc (2 * k) hlt)
           have hg := upZ_get l (2 * k) hlt
           rw [show 2 * k / 2 = k by omega, getD_get hlt, show sib (2 * k) = 2 * k + 1 by unfold sib; rw [if_pos (by omega)]] at hg
           have htk : (upZ l).take (k + 1) = (upZ l).take k ++ [(upZ l).getD k 0] := by
             rw [List.take_succ_eq_append_getElem (by omega), getD_get (by omega)]
           rw [hg] at htk
           by_cases h2 : 2 * k + 1 < l.length
           · have hcell2 := (hbel.cell (p := ⟨b, off + (2 * k + 1), none⟩) hb).trans (hc (2 * k + 1) h2)
             rw [if_pos h2, if_pos (by omega), getD_get h2] at htk
             have hp := fun w => impl_HashPairW l[2 * k] l[2 * k + 1] w
             rw [hpZ_yes (Hd.out _ (List.getElem_mem hlt)) (Hd.out _ (List.getElem_mem h2))] at hp
             generalize l[2 * k] = x at *
             generalize l[2 * k + 1] = y at *
             have Hln := Lib.hid (show ((upZ l).take k).length + [pairZ x y].length ≤ 1099511627776 by rw [List.length_take]; simp only [List.length_cons, List.length_nil]; omega)
             have Htk := Lib.hid htk; clear htk hg
             have Hp := Lib.hid hp; clear hp
             have Hc := Lib.hid hc; clear hc
             have e1 : IntKind.i64.wrap (2 * (k : Int) + 1) = 2 * (k : Int) + 1 := IntWalk.i64_in _ (by omega)
             have e2 : (2 * (k : Int) + 1).toNat = 2 * k + 1 := by omega
             have e3 : (2 * (k : Int)).toNat = 2 * k := by omega
             have e4 : 0 ≤ 2 * (k : Int) + 1 := by omega
             have e5 : 0 ≤ 2 * (k : Int) := by omega
             have e6 : 2 * (k : Int) + 1 < l.length := by omega
             go_wp2_with fail
             go_region_law (first
               | (go_simp; go_at_call 14; refine (Hp.out _).mono ?_; rintro e w' ⟨rfl, rfl⟩)
               | (refine step_app TI2 rfl (.tmp 17) (.tmp 28) rfl w.heap.size u3 ((upZ l).take k) [pairZ x y] ⟨wr.heap.size, 0, none⟩ _ _ rfl rfl (Own.alloc hown _) rfl (cells_one' _ _ _) Hln.out (Nat.le_trans hB (by simp)) ?_; intro v2 w2 hown2 hg2))
             all_goals
               clear e1 e2 e3 e4 e5 e6
               have hb2 : Below w.heap.size wr w2 := below_app hg2 hB (fun g e => (hown.lt g e).1)
               clear hg2
               go_wp2
               go_roundw
               case rel => exact ⟨k + 1, by omega, int_eq (by omega), by rw [Htk.out]; exact hown2, hbel.trans hb2⟩
               case measure => simp [intOf]; omega
           · have h3 : ¬ 2 * (k : Int) + 1 < l.length := by omega
             rw [if_neg h2] at htk
             generalize l[2 * k] = x at *
             have Htk := Lib.hid htk; clear htk hg
             have Hc := Lib.hid hc; clear hc
             have e3 : (2 * (k : Int)).toNat = 2 * k := by omega
             go_wp2_with (at_builtin; refine wpList_push TI2 rfl (.tmp 30) (.tmp 35) rfl w.heap.size _ ((upZ l).take k) _ rfl hown hlt' rfl hB ?_; intro v2 w2 hown2 hg2)
             go_roundw
             case rel => exact ⟨k + 1, by omega, int_eq (by omega), by rw [Htk.out]; exact hown2, hbel.grown hg2 hB (fun g e => (hown.lt g e).1)⟩
             case measure => simp [intOf]; omega)
      · have hall : (upZ l).take k = upZ l := List.take_of_length_le (by omega)
        have Hall := Lib.hid hall; clear hall
        go_wp2
        go_ret
        exact ⟨_, rfl, by rw [← Hall.out]; exact hown, hbel⟩

end Go.Proofs.Ytgkelcpiokmhfaa
