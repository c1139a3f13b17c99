/- The shares of a secret, on both sides, each by a walk of its text; condition: a list that is read has fewer than 2^40 elements. -/
import Derived.Test.YtkndndcjchlpdabRows
import Derived.Test.YtkndndcjchlpdabCo2
import Derived.Test.YtkndndcjchlpdabC3
import Derived.Test.YtkndndcjchlpdabJ3
import Derived.Deep.QuietTactic
import Derived.BigQuiet
namespace Go.Proofs.Ytkndndcjchlpdab
open Go.RowKit

def polyB (d : List Int) : Bool := d.all symB && decide (1 ≤ d.length ∧ d.length ≤ 7)
theorem polyB_at {d : List Int} (h : polyB d = true) : (∀ y ∈ d, 0 ≤ y ∧ y ≤ 250) ∧ 1 ≤ d.length ∧ d.length ≤ 7 := by
  unfold polyB at h
  rw [Bool.and_eq_true, List.all_eq_true, decide_eq_true_eq] at h
  exact ⟨fun y hy => symB_bd (h.1 y hy), h.2⟩
/-- The first m shares. -/
def cdS (d : List Int) (m : Nat) : List Int := (List.range m).map fun i => horZ d ((i + 1 : Nat) : Int)
theorem cdS_len (d : List Int) (m : Nat) : (cdS d m).length = m := by simp [cdS]
theorem cdS_succ (d : List Int) (m : Nat) : cdS d (m + 1) = cdS d m ++ [horZ d ((m + 1 : Nat) : Int)] := by simp [cdS, List.range_succ]
def cdB (d : List Int) (many : Int) : Bool := polyB d && decide ((d.length : Int) ≤ many ∧ many ≤ 7)
def cdL (d : List Int) (many : Int) : List Int := if cdB d many = true then cdS d many.toNat else []
theorem cdL_yes {d : List Int} {m : Nat} (h : polyB d = true) (h1 : d.length ≤ m) (h2 : m ≤ 7) : cdL d (m : Int) = cdS d m := by
  unfold cdL cdB; rw [h, decide_eq_true (by omega)]; rfl
theorem cdL_no {d : List Int} {many : Int} (h : cdB d many = false) : cdL d many = [] := by unfold cdL; rw [h]; rfl
theorem cdL_len (d : List Int) (many : Int) : (cdL d many).length ≤ 7 := by
  unfold cdL
  split
  · rename_i h; unfold cdB at h; rw [Bool.and_eq_true, decide_eq_true_eq] at h; rw [cdS_len]; omega
  · simp
theorem val_hor (d : List Int) (x : Int) : valZ d d.length 0 x = horZ d x := by
  have := hor_val d d.length 0 x
  rw [Nat.zero_mul, List.drop_zero, List.take_length] at this
  exact this.symm

theorem spec_l13List (a : Option Addr) (cap : Nat) (l : List Int) (w : World) (hbig : l.length ≤ 1099511627776) (hc : IntsAt w a l) :
    Calls Try.prog 47 #[.slice a l.length cap] w fun e w' => e = .returned (.bool (polyB l)) ∧ w = w' := by
  rcases hc.len with h0 | ⟨b, off, rfl, hb, hc⟩
  all_goals
    go_enter Try.func47, Try.ntmps47
    go_wp2
    go_loop [3] (fun i => ∃ k : Nat, k ≤ l.length ∧ i = .int .i64 k ∧ Pre symB l k) (fun i => l.length - (intOf i).toNat)
    case atStart => exact ⟨0, by omega, rfl, pre_zero _ _⟩
    case round =>
      obtain ⟨k, hk, rfl, hg⟩ := hrel
      by_cases hlt : k < l.length
      · first
        | (exfalso; omega)
        | (have hcell := hc k hlt
           have Hc := Lib.hid hc; clear hc
           have hd := spec_l6In l[k] 0 250 w
           rw [← symB_dec] at hd
           by_cases h : symB l[k] = true
           · rw [h] at hd
             have Hd := Lib.hid hd; clear hd
             have Hs := Lib.hid (pre_step hg hlt h); clear hg h
             go_wp2_with fail
             refine Hd.out.mono ?_
             rintro e w' ⟨rfl, rfl⟩
             go_wp2
             go_round
             case rel => exact ⟨k + 1, by omega, by go_num, Hs.out⟩
             case measure => simp [intOf]; omega
           · rw [Bool.not_eq_true] at h
             rw [h] at hd
             have Hd := Lib.hid hd; clear hd
             have Hs := Lib.hid (show polyB l = false by unfold polyB; rw [pre_not hlt h]; rfl); clear hg h
             go_wp2_with fail
             refine Hd.out.mono ?_
             rintro e w' ⟨rfl, rfl⟩
             go_wp2
             go_ret
             exact ⟨ret_bool Hs.out.symm, rfl⟩)
      · have hs := pre_all hg (by omega)
        have Hs := Lib.hid (show polyB l = decide (1 ≤ (l.length : Int) ∧ (l.length : Int) ≤ 7) by unfold polyB; rw [hs, Bool.true_and, Bool.eq_iff_iff, decide_eq_true_iff, decide_eq_true_iff]; omega); clear hg hs
        have hi := spec_l6In (l.length : Int) 1 7 w
        rw [← Hs.out] at hi
        have HI := Lib.hid hi; clear hi
        go_wp2_with fail
        refine HI.out.mono ?_
        rintro e w' ⟨rfl, rfl⟩
        go_wp2
        go_ret
        exact ⟨rfl, rfl⟩

set_option maxRecDepth 8000 in
set_option maxHeartbeats 1000000 in
theorem spec_CoinDeal (a : Option Addr) (cap : Nat) (d : List Int) (many : Int) (w : World) (hbig : d.length ≤ 1099511627776) (hc : IntsAt w a d) :
    Calls Try.prog 18 #[.slice a d.length cap, .int .i64 many] w fun e w' => ∃ v, e = .returned v ∧ Own 3 w' w.heap.size v (cdL d many) ∧ Below w.heap.size w w' := by
  have hb0 : Below w.heap.size w (w.alloc (.cells #[] 3)) := (Below.refl _ _).alloc (Nat.le_refl _) _
  have HO := Lib.hid (own_empty 3 w (Nat.le_refl _))
  have Hb0 := Lib.hid hb0
  have Hc := Lib.hid hc
  have HV := Lib.hid (spec_l13List a cap d _ hbig (hc.below hb0)); clear hc hb0
  have HI := Lib.hid (fun W => spec_l6In many d.length 7 W)
  cases h1 : polyB d with
  | false =>
    rw [h1] at HV
    have Hf := Lib.hid (cdL_no (d := d) (many := many) (by unfold cdB; rw [h1]; rfl))
    clear h1
    go_enter Try.func18, Try.ntmps18
    go_wp2_with fail
    refine HV.out.mono ?_
    rintro e w' ⟨rfl, rfl⟩
    go_wp2
    go_ret
    exact ⟨_, rfl, by rw [Hf.out]; exact HO.out, Hb0.out⟩
  | true =>
  rw [h1] at HV
  obtain ⟨hsym, hl1, hl2⟩ := polyB_at h1
  by_cases hm : (d.length : Int) ≤ many ∧ many ≤ 7
  · rw [decide_eq_true hm] at HI
    obtain ⟨m, rfl⟩ := Int.eq_ofNat_of_zero_le (show 0 ≤ many by omega)
    have Hf := Lib.hid (cdL_yes (d := d) (m := m) h1 (by omega) (by omega))
    have Hsym := Lib.hid hsym; clear hsym h1
    go_enter Try.func18, Try.ntmps18
    go_wp2_with fail
    refine HV.out.mono ?_
    rintro e w' ⟨rfl, rfl⟩
    go_wp2_with fail
    refine (HI.out _).mono ?_
    rintro e w' ⟨rfl, rfl⟩
    go_wp2
    go_loopw [5, 6] (fun v i wr => ∃ k : Nat, 1 ≤ k ∧ k ≤ m + 1 ∧ i = .int .i64 k ∧ Own 3 wr w.heap.size v (cdS d (k - 1)) ∧ Below w.heap.size w wr) (fun _ i _ => m + 1 - (intOf i).toNat)
    case atStart => exact ⟨1, by omega, by omega, rfl, HO.out, Hb0.out⟩
    case round =>
      obtain ⟨k, hk1, hk, rfl, hown, hbel⟩ := hrel
      have hB := hbel.size
      by_cases hlt : k ≤ m
      · have hln : (cdS d (k - 1)).length ≤ 100 := by rw [cdS_len]; omega
        have Hsu := Lib.hid (show cdS d k = cdS d (k - 1) ++ [horZ d (k : Int)] by have := cdS_succ d (k - 1); rwa [show k - 1 + 1 = k by omega] at this)
        have hv := spec_l3Value a cap d d.length 0 k wr Hsym.out (by omega) (by omega) (by omega) (by omega) (Hc.out.below hbel)
        rw [val_hor, show ((0 : Nat) : Int) = 0 from rfl] at hv
        have HV2 := Lib.hid hv; clear hv
        generalize horZ d (k : Int) = z at *
        go_wp2_with fail
        refine HV2.out.mono ?_
        rintro e w2 ⟨rfl, hd2⟩
        have ho2 := hown.below (hd2.below _)
        have hb2 := below_step hbel hB (hd2.below _)
        have hB2 := hb2.size
        clear hd2 hown hbel
        generalize cdS d (k - 1) = zs at *
        go_wp2_with (at_builtin; refine wpList_push TI3 rfl (.tmp 24) (.tmp 30) rfl w.heap.size _ zs _ rfl ho2 (by omega) rfl hB2 ?_; intro v' w5 hown5 hg5)
        go_roundw
        case rel => exact ⟨k + 1, by omega, by omega, by go_num, by rw [Nat.add_sub_cancel, Hsu.out]; exact hown5, hb2.grown hg5 hB2 (fun g e => (ho2.lt g e).1)⟩
        case measure => simp [intOf]; omega
      · have hkm : k - 1 = m := by omega
        have Hk := Lib.hid hkm; clear hkm
        go_wp2
        go_ret
        exact ⟨_, rfl, by rw [Hf.out, ← Hk.out]; exact hown, hbel⟩
  · rw [decide_eq_false hm] at HI
    have Hf := Lib.hid (cdL_no (d := d) (many := many) (by unfold cdB; rw [h1, decide_eq_false hm]; rfl))
    clear h1 hm hsym
    go_enter Try.func18, Try.ntmps18
    go_wp2_with fail
    refine HV.out.mono ?_
    rintro e w' ⟨rfl, rfl⟩
    go_wp2_with fail
    refine (HI.out _).mono ?_
    rintro e w' ⟨rfl, rfl⟩
    go_wp2
    go_ret
    exact ⟨_, rfl, by rw [Hf.out]; exact HO.out, Hb0.out⟩

end Go.Proofs.Ytkndndcjchlpdab
