/- impl's shares of a secret, dealt by a method value, by a walk of its text; condition: a list that is read has fewer than 2^40 elements. -/
import Derived.Test.YtkndndcjchlpdabRows
import Derived.Test.YtkndndcjchlpdabCo5
import Derived.Deep.QuietTactic
import Derived.BigQuiet
namespace Go.Proofs.Ytkndndcjchlpdab
open Go.RowKit

theorem polynomial_valid (a : Option Addr) (cap : Nat) (l : List Int) (w : World) (hbig : l.length ≤ 1099511627776) (hc : IntsAt w a l) :
    Calls Try.prog 49 #[.slice a l.length cap] w fun e w' => e = .returned (.bool (polyB l)) ∧ w = w' := by
  have hz := impl_isThreshold (l.length : Int) w
  have hd := impl_areSymbols a cap l w hbig hc
  by_cases h : 1 ≤ (l.length : Int) ∧ (l.length : Int) ≤ 7
  · rw [decide_eq_true h] at hz
    have Hf := Lib.hid (show polyB l = l.all symB by unfold polyB; rw [decide_eq_true (by omega), Bool.and_true])
    have Hz := Lib.hid hz; clear hz
    have Hd := Lib.hid hd; clear hd hc h
    go_enter Try.func49, Try.ntmps49
    go_wp2_with fail
    refine Hz.out.mono ?_
    rintro e w' ⟨rfl, rfl⟩
    go_wp2_with fail
    refine Hd.out.mono ?_
    rintro e w' ⟨rfl, rfl⟩
    go_wp2
    go_ret
    exact ⟨ret_bool Hf.out.symm, rfl⟩
  · rw [decide_eq_false h] at hz
    have Hf := Lib.hid (show polyB l = false by unfold polyB; rw [decide_eq_false (by omega), Bool.and_false])
    have Hz := Lib.hid hz; clear hz hd hc h
    go_enter Try.func49, Try.ntmps49
    go_wp2_with fail
    refine Hz.out.mono ?_
    rintro e w' ⟨rfl, rfl⟩
    go_wp2
    go_ret
    exact ⟨ret_bool Hf.out.symm, rfl⟩

theorem polynomial_at (a : Option Addr) (cap : Nat) (l : List Int) (x : Int) (w : World) (hbig : l.length ≤ 1000) (hd : ∀ y ∈ l, 0 ≤ y ∧ y ≤ 250) (hx0 : 0 ≤ x) (hx8 : x ≤ 8) (hc : IntsAt w a l) :
    Calls Try.prog 51 #[.slice a l.length cap, .int .i64 x] w fun e w' => e = .returned (.int .i64 (horZ l x)) ∧ Below w.heap.size w w' := by
  have H := Lib.hid (impl_valueAt a cap l x w hbig hd hx0 hx8 hc)
  clear hd hc
  go_enter Try.func51, Try.ntmps51
  go_wp2_with fail
  refine H.out.mono ?_
  rintro e w1 ⟨rfl, hb⟩
  go_wp2
  go_ret
  exact ⟨rfl, hb⟩

set_option maxHeartbeats 1000000 in
set_option maxRecDepth 8000 in
theorem impl_sharesOf (a : Option Addr) (cap : Nat) (d : List Int) (m : Nat) (w : World) (hlen : d.length ≤ 7) (hd : ∀ y ∈ d, 0 ≤ y ∧ y ≤ 250) (hm : m ≤ 7) (hc : IntsAt w a d) :
    Calls Try.prog 50 #[.func (.func 51) #[.slice a d.length cap] #[], .int .i64 m] w fun e w' => ∃ v, e = .returned v ∧ Own 3 w' w.heap.size v (cdS d m) ∧ Below w.heap.size w w' := by
  have hb0 : Below w.heap.size w (w.alloc (.cells #[] 3)) := (Below.refl _ _).alloc (Nat.le_refl _) _
  have HO := Lib.hid (own_empty 3 w (Nat.le_refl _))
  have Hb0 := Lib.hid hb0; clear hb0
  have Hc := Lib.hid hc; clear hc
  have Hd := Lib.hid hd; clear hd
  go_enter Try.func50, Try.ntmps50
  go_wp2
  go_loopw [5, 6, 9] (fun v _ i wr => ∃ k : Nat, k ≤ m ∧ i = .int .i64 k ∧ Own 3 wr w.heap.size v (cdS d k) ∧ Below w.heap.size w wr) (fun _ _ i _ => m - (intOf i).toNat)
  case atStart => exact ⟨0, by omega, rfl, HO.out, Hb0.out⟩
  case round =>
    obtain ⟨k, hk, rfl, hown, hbel⟩ := hrel
    have hB := hbel.size
    by_cases hlt : k < m
    · have hln : (cdS d k).length ≤ 100 := by rw [cdS_len]; omega
      have Hsu := Lib.hid (cdS_succ d k)
      have Hn := Lib.hid (impl_numberOf (k : Int) wr (by omega) (by omega))
      have hv := polynomial_at a cap d ((k : Int) + 1) wr (by omega) Hd.out (by omega) (by omega) (Hc.out.below hbel)
      rw [show horZ d ((k + 1 : Nat) : Int) = horZ d ((k : Int) + 1) by rw [Int.natCast_add]; rfl] at Hsu
      have HV2 := Lib.hid hv; clear hv
      generalize horZ d ((k : Int) + 1) = z at *
      go_wp2_with fail
      refine Hn.out.mono ?_
      rintro e w2 ⟨rfl, rfl⟩
      go_wp2_with fail
      refine HV2.out.mono ?_
      rintro e w2 ⟨rfl, hb2'⟩
      have ho2 := hown.below hb2'
      have hb2 := below_step hbel hB hb2'
      have hB2 := hb2.size
      clear hb2' hown hbel
      generalize cdS d k = zs at *
      go_wp2_with (at_builtin; refine wpList_push TI3 rfl (.tmp 12) (.tmp 17) rfl w.heap.size _ zs _ rfl ho2 (by omega) rfl hB2 ?_; intro v' w5 hown5 hg5)
      go_roundw
      case rel => exact ⟨k + 1, by omega, by go_num, by rw [Hsu.out]; exact hown5, hb2.grown hg5 hB2 (fun g e => (ho2.lt g e).1)⟩
      case measure => simp [intOf]; omega
    · have hkm : k = m := by omega
      have Hk := Lib.hid hkm; clear hkm
      go_wp2
      go_ret
      exact ⟨_, rfl, by rw [← Hk.out]; exact hown, hbel⟩

set_option maxHeartbeats 1000000 in
theorem impl_CoinDeal (a : Option Addr) (cap : Nat) (d : List Int) (many : Int) (w : World) (hbig : d.length ≤ 1099511627776) (hc : IntsAt w a d) :
    Calls Try.prog 20 #[.slice a d.length cap, .int .i64 many] w fun e w' => ∃ v, e = .returned v ∧ Own 3 w' w.heap.size v (cdL d many) ∧ Below w.heap.size w w' := by
  have hb0 : Below w.heap.size w (w.alloc (.cells #[] 3)) := (Below.refl _ _).alloc (Nat.le_refl _) _
  have HO := Lib.hid (own_empty 3 w (Nat.le_refl _))
  have Hb0 := Lib.hid hb0; clear hb0
  have HV := Lib.hid (polynomial_valid a cap d _ hbig hc)
  cases h1 : polyB d with
  | false =>
    rw [h1] at HV
    have Hf := Lib.hid (cdL_no (d := d) (many := many) (by unfold cdB; rw [h1]; rfl))
    clear h1 hc
    go_enter Try.func20, Try.ntmps20
    go_wp2_with fail
    refine HV.out.mono ?_
    rintro e w' ⟨rfl, rfl⟩
    go_wp2
    go_ret
    exact ⟨_, rfl, by rw [Hf.out]; exact HO.out, Hb0.out⟩
  | true =>
  rw [h1] at HV
  obtain ⟨hsym, hl1, hl2⟩ := polyB_at h1
  by_cases hm : (d.length : Int) ≤ many ∧ many ≤ 7
  · obtain ⟨hm1, hm2⟩ := hm
    obtain ⟨m, rfl⟩ := Int.eq_ofNat_of_zero_le (show 0 ≤ many by omega)
    have Hf := Lib.hid (cdL_yes (d := d) (m := m) h1 (by omega) (by omega))
    have HS := Lib.hid (impl_sharesOf a cap d m w hl2 hsym (by omega) hc)
    have hm3 : ¬ m < d.length := by omega
    clear h1 hsym hc
    go_enter Try.func20, Try.ntmps20
    go_wp2_with fail
    refine HV.out.mono ?_
    rintro e w' ⟨rfl, rfl⟩
    go_wp2_with fail
    refine HS.out.mono ?_
    rintro e w1 ⟨v, rfl, hown, hb⟩
    go_wp2
    go_ret
    exact ⟨_, rfl, by rw [Hf.out]; exact hown, hb⟩
  · have Hf := Lib.hid (cdL_no (d := d) (many := many) (by unfold cdB; rw [h1, decide_eq_false hm]; rfl))
    clear h1 hsym hc
    by_cases hm1 : many < d.length
    · clear hm
      go_enter Try.func20, Try.ntmps20
      go_wp2_with fail
      refine HV.out.mono ?_
      rintro e w' ⟨rfl, rfl⟩
      go_wp2
      go_ret
      exact ⟨_, rfl, by rw [Hf.out]; exact HO.out, Hb0.out⟩
    · have hm2 : 7 < many := by omega
      clear hm
      go_enter Try.func20, Try.ntmps20
      go_wp2_with fail
      refine HV.out.mono ?_
      rintro e w' ⟨rfl, rfl⟩
      go_wp2
      go_ret
      exact ⟨_, rfl, by rw [Hf.out]; exact HO.out, Hb0.out⟩

end Go.Proofs.Ytkndndcjchlpdab
