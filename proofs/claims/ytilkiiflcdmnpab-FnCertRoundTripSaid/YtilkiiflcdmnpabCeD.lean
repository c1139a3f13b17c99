/- The draws of secrets, keys and what CertMake is called with: what is drawn is short and lies in new memory; each by a walk of its text; condition: at most 10^6 picks before. -/
import Derived.Test.YtilkiiflcdmnpabRows
import Derived.Test.YtilkiiflcdmnpabBase
import Derived.Test.YtilkiiflcdmnpabApp
import Derived.Test.YtilkiiflcdmnpabRd
import Derived.Test.YtilkiiflcdmnpabM1
import Derived.Test.YtilkiiflcdmnpabM2
import Derived.Test.YtilkiiflcdmnpabD1
import Derived.Test.YtilkiiflcdmnpabD2
import Derived.Test.YtilkiiflcdmnpabSgM
import Derived.Test.YtilkiiflcdmnpabSgC
import Derived.Test.YtilkiiflcdmnpabSgD
namespace Go.Proofs.Ytilkiiflcdmnpab
open Go.RowKit

theorem drawSecrets (R p n : Nat) (w : World) (hp : p ≤ 1000000) (hn : n ≤ 1000) (hr : Rdr w R p) (hR : R < w.heap.size) :
    Calls Try.prog 32 #[.pointer (some ⟨R, 0, none⟩), .int .i64 n] w fun e w' => ∃ v xs p', e = .returned v ∧ Own 3 w' w.heap.size v xs ∧ xs.length = n ∧ Rdr w' R p' ∧ p' ≤ p + n ∧ w.grownBy w' (some R) := by
  have Hr1 := Lib.hid (hr.alloc (.cells #[] 3)); clear hr
  go_enter Try.func32, Try.ntmps32
  go_wp2_with fail
  go_loopw [5, 6] (fun v i wr => ∃ xs : List Int, xs.length ≤ n ∧ i = .int .i64 (List.length xs) ∧ Own 3 wr w.heap.size v xs ∧ Rdr wr R (p + xs.length) ∧ w.grownBy wr (some R)) (fun _ i _ => n - (intOf i).toNat)
  case atStart => exact ⟨[], by simp, rfl, own_empty _ _ (Nat.le_refl _), Hr1.out, World.grownBy_alloc _ _ _⟩
  case round =>
    obtain ⟨xs, hxn, rfl, hown, hrd, hgr⟩ := hrel
    have Hrd := Lib.hid hrd; clear hrd
    have Hown := Lib.hid hown; clear hown
    by_cases hlt : xs.length < n
    · go_wp2_with fail
      refine (pick_any R 99 (p + xs.length) _ (by omega) Hrd.out (by omega)).mono ?_
      rintro e w3 ⟨x, rfl, hx0, hx1, hr3, hg3⟩
      have Hr3 := Lib.hid hr3; clear hr3
      have Hg3 := Lib.hid (grownBy_trans hgr hg3)
      have Ho3 := Lib.hid (Hown.out.kept hg3 (.inr (fun e => by have := (Hown.out.lt R e).1; omega)))
      have hB := Hg3.out.size
      clear hg3
      go_wp2_with (at_builtin; refine wpList_push TI' rfl (.tmp 13) (.tmp 20) rfl w.heap.size _ xs _ rfl Ho3.out (by omega) rfl hB ?_; intro v' w5 hown5 hg5)
      go_roundw
      case rel => exact ⟨_, by simp; omega, by simp, hown5, by rw [List.length_append]; exact Hr3.out.kept hg5 (fun g e => by have := (Ho3.out.lt g e).1; omega), grown_row Hg3.out hg5 (fun g e => (Ho3.out.lt g e).1)⟩
      case measure => simp [intOf]; omega
    · have hk : xs.length = n := by omega
      have Hk := Lib.hid hk; clear hk
      go_wp2
      go_ret
      exact ⟨_, xs, _, rfl, Hown.out, Hk.out, Hrd.out, by omega, hgr⟩

theorem drawKeys (a : Option Addr) (cap : Nat) (xs : List Int) (w : World) (hn : xs.length ≤ 1000) (hc : IntsAt w a xs) :
    Calls Try.prog 37 #[.slice a xs.length cap] w fun e w' => ∃ v ys, e = .returned v ∧ Own 3 w' w.heap.size v ys ∧ ys.length = xs.length ∧ Below w.heap.size w w' := by
  have Hc := Lib.hid hc; clear hc
  go_enter Try.func37, Try.ntmps37
  go_wp2_with fail
  go_loopw [3, 4] (fun v i wr => ∃ ys : List Int, ys.length ≤ xs.length ∧ i = .int .i64 (List.length ys) ∧ Own 3 wr w.heap.size v ys ∧ Below w.heap.size w wr) (fun _ i _ => xs.length - (intOf i).toNat)
  case atStart => exact ⟨[], by simp, rfl, own_empty _ _ (Nat.le_refl _), (Below.refl _ _).alloc (Nat.le_refl _) _⟩
  case round =>
    obtain ⟨ys, hyn, rfl, hown, hbel⟩ := hrel
    have Hown := Lib.hid hown; clear hown
    by_cases hlt : ys.length < xs.length
    · obtain ⟨b, off, rfl, hb, hcs⟩ := (Hc.out.below hbel).cell (by omega)
      have hcell := hcs ys.length hlt
      generalize xs[ys.length] = x at *
      have Hx := Lib.hid (fun W => spec_KeyPublic x W)
      generalize kpZ x = z at *
      have hB := hbel.size
      clear hcs
      go_wp2_with fail
      refine (Hx.out _).mono ?_
      rintro e w3 ⟨rfl, rfl⟩
      go_wp2_with (at_builtin; refine wpList_push TI' rfl (.tmp 12) (.tmp 18) rfl w.heap.size _ ys _ rfl Hown.out (by omega) rfl hB ?_; intro v' w5 hown5 hg5)
      have hb5 := hbel.grown hg5 hB (fun g e => (Hown.out.lt g e).1)
      go_roundw
      case rel => exact ⟨_, by simp; omega, by simp, hown5, hb5⟩
      case measure => simp [intOf]; omega
    · have hk : ys.length = xs.length := by omega
      have Hk := Lib.hid hk; clear hk
      go_wp2
      go_ret
      exact ⟨_, ys, rfl, Hown.out, Hk.out, hbel⟩

theorem below_of_grown {w w' : World} {R B : Nat} (h : w.grownBy w' (some R)) (hR : B ≤ R) (hB : B ≤ w.heap.size) : Below B w w' := below_of_row h hR hB

set_option maxHeartbeats 1000000 in
theorem spec_DrawCertMake (a : Option Addr) (cap : Nat) (zs : List Int) (w : World) (h : CodeAt w a cap zs) :
    Calls Try.prog 10 #[.slice a zs.length cap] w fun e w' => ∃ vc c vk keys d vs sigs, e = .returned (.tuple #[vc, vk, .int .i64 d, vs]) ∧ Own 3 w' w.heap.size vc c ∧ c.length ≤ 11 ∧ Own 3 w' w.heap.size vk keys ∧ keys.length = c.length ∧ Own 3 w' w.heap.size vs sigs ∧ sigs.length ≤ 12 ∧ Below w.heap.size w w' := by
  go_enter Try.func10, Try.ntmps10
  go_wp2_with fail
  refine (open_any a cap zs _ h).mono ?_
  rintro e w1 ⟨R, rfl, hR1, hR2, hr1, hb1⟩
  have Hr1 := Lib.hid hr1; clear hr1
  go_wp2_with fail
  refine (drawCommittee R 0 _ (by omega) Hr1.out hR2).mono ?_
  rintro e w2 ⟨vc, c, p', rfl, hown, hcl, hcs, hr2, hp', hg2⟩
  have Hr2 := Lib.hid hr2; clear hr2 hcs
  obtain ⟨ax, cx, rfl, _, _⟩ := hown.ints
  have Hc := Lib.hid hown; clear hown
  have hs2 := hg2.size
  have hs1 := hb1.size
  go_wp2_with fail
  refine (drawSecrets R p' c.length _ (by omega) (by omega) Hr2.out (by omega)).mono ?_
  rintro e w3 ⟨vx, xs, p3, rfl, hown, hxl, hr3, hp3, hg3⟩
  have Hr3 := Lib.hid hr3; clear hr3
  obtain ⟨aq, cq, rfl, hi3, _⟩ := hown.ints
  have hRl : ∀ b, (Value.slice aq xs.length cq).ownBlock = some b → R < b := fun b e => by have := (hown.lt b e).1; omega
  have Hc3 := Lib.hid (Hc.out.kept hg3 (.inr (fun e => by have := (Hc.out.lt R e).1; omega)))
  have Hs := Lib.hid hi3; clear hi3 hown
  have HRl := Lib.hid hRl; clear hRl
  have Hxl := Lib.hid hxl; clear hxl
  have hs3 := hg3.size
  have Hg3 := Lib.hid (grownBy_trans hg2 hg3); clear hg2 hg3 Hc
  go_wp2_with fail
  refine (drawDigest R p3 _ (by omega) Hr3.out).mono ?_
  rintro e w4 ⟨d, p4, rfl, hd0, hd1, hr4, hp4, hg4⟩
  have Hr4 := Lib.hid (hr4.alloc (.cells #[] 3)); clear hr4
  have Hc4 := Lib.hid (Hc3.out.kept hg4 (.inr (fun e => by have := (Hc3.out.lt R e).1; omega)))
  have Hs4 := Lib.hid (Hs.out.grown hg4 (fun b e h => by have := HRl.out _ (ownBlock_slice b e); injection h with h; omega))
  have hs4 := hg4.size
  have Hg4 := Lib.hid (grownBy_trans Hg3.out hg4); clear hg4 Hg3 Hc3 Hs
  clear hd0 hd1
  go_wp2_with fail
  go_loopw [10, 11] (fun v i wr => ∃ (sg : List Int) (q : Nat), sg.length ≤ c.length ∧ i = .int .i64 (List.length sg) ∧ Own 3 wr w4.heap.size v sg ∧ Rdr wr R q ∧ q ≤ p4 + 4 * sg.length ∧ w4.grownBy wr (some R)) (fun _ i _ => c.length - (intOf i).toNat)
  case atStart => exact ⟨[], p4, by simp, rfl, own_empty _ _ (Nat.le_refl _), Hr4.out, by simp, World.grownBy_alloc _ _ _⟩
  case round =>
    obtain ⟨sg, q, hsl, rfl, hown, hrd, hq, hgr⟩ := hrel
    have Hrd := Lib.hid hrd; clear hrd
    have Hown := Lib.hid hown; clear hown
    have hB := hgr.size
    by_cases hlt : sg.length < c.length
    · obtain ⟨b, off, has, hb, hcs⟩ := (Hs4.out.grown hgr (fun b e h => by have := HRl.out _ (ownBlock_slice b e); injection h with h; omega)).cell (by have := Hxl.out; omega)
      have hcell := hcs sg.length (by have := Hxl.out; omega)
      have hlx : sg.length < xs.length := by have := Hxl.out; omega
      have Hgr := Lib.hid hgr; clear hgr hcs
      subst has
      generalize xs[sg.length] = x at *
      have Hx := Lib.hid (fun W => spec_SignMake x d W)
      generalize smZ x d = z at *
      go_wp2_with fail
      refine (Hx.out _).mono ?_
      rintro e w5 ⟨rfl, rfl⟩
      go_wp2_with fail
      refine (pick_any R 30 q _ (by omega) Hrd.out (by omega)).mono ?_
      rintro e w6 ⟨k, rfl, hk0, hk1, hr6, hg6⟩
      have Hr6 := Lib.hid hr6; clear hr6
      have Hg6 := Lib.hid (grownBy_trans Hgr.out hg6)
      have Ho6 := Lib.hid (Hown.out.kept hg6 (.inr (fun e => by have := (Hown.out.lt R e).1; omega)))
      have hB6 := Hg6.out.size
      clear hg6
      by_cases k4 : k = 4
      · subst k4
        go_wp2_with fail
        refine (drawKey R _ _ (by omega) Hr6.out).mono ?_
        rintro e w7 ⟨y, p7, rfl, hy0, hy1, hr7, hp7, hg7⟩
        have Hr7 := Lib.hid hr7; clear hr7
        have Hg7 := Lib.hid (grownBy_trans Hg6.out hg7)
        have Ho7 := Lib.hid (Ho6.out.kept hg7 (.inr (fun e => by have := (Ho6.out.lt R e).1; omega)))
        have hB7 := Hg7.out.size
        clear hg7 Hg6 Ho6
        go_wp2_with (at_builtin; refine wpList_push TI' rfl (.tmp 47) (.tmp 49) rfl w4.heap.size _ sg _ rfl Ho7.out (by omega) rfl hB7 ?_; intro v' w8 hown8 hg8)
        have Hr8 := Lib.hid (Hr7.out.kept hg8 (fun g e => by have := (Ho7.out.lt g e).1; omega))
        have Hg8 := Lib.hid (grown_row Hg7.out hg8 (fun g e => (Ho7.out.lt g e).1))
        clear hg8
        go_roundw
        case rel => exact ⟨_, p7, by simp; omega, by simp, hown8, Hr8.out, by simp; omega, Hg8.out⟩
        case measure => simp [intOf]; omega
      by_cases k3 : k < 4
      · obtain rfl | rfl | rfl | rfl : k = 0 ∨ k = 1 ∨ k = 2 ∨ k = 3 := by omega
        all_goals
          go_wp2_with (at_builtin; refine wpList_push TI' rfl (.tmp 47) (.tmp 49) rfl w4.heap.size _ sg _ rfl Ho6.out (by omega) rfl hB6 ?_; intro v' w8 hown8 hg8)
          have Hr8 := Lib.hid (Hr6.out.kept hg8 (fun g e => by have := (Ho6.out.lt g e).1; omega))
          have Hg8 := Lib.hid (grown_row Hg6.out hg8 (fun g e => (Ho6.out.lt g e).1))
          clear hg8
          go_roundw
          case rel => exact ⟨_, q + 1, by simp; omega, by simp, hown8, Hr8.out, by simp; omega, Hg8.out⟩
          case measure => simp [intOf]; omega
      have q0 : (k == 0) = false := by rw [beq_eq_false_iff_ne]; omega
      have q1 : (k == 1) = false := by rw [beq_eq_false_iff_ne]; omega
      have q2 : (k == 2) = false := by rw [beq_eq_false_iff_ne]; omega
      have q3 : (k == 3) = false := by rw [beq_eq_false_iff_ne]; omega
      have q4 : (k == 4) = false := by rw [beq_eq_false_iff_ne]; omega
      go_wp2_with (at_builtin; refine wpList_push TI' rfl (.tmp 47) (.tmp 49) rfl w4.heap.size _ sg _ rfl Ho6.out (by omega) rfl hB6 ?_; intro v' w8 hown8 hg8)
      have Hr8 := Lib.hid (Hr6.out.kept hg8 (fun g e => by have := (Ho6.out.lt g e).1; omega))
      have Hg8 := Lib.hid (grown_row Hg6.out hg8 (fun g e => (Ho6.out.lt g e).1))
      clear hg8
      go_roundw
      case rel => exact ⟨_, q + 1, by simp; omega, by simp, hown8, Hr8.out, by simp; omega, Hg8.out⟩
      case measure => simp [intOf]; omega
    · have Hgr := Lib.hid hgr; clear hgr
      go_wp2_with fail
      refine (pick_any R 20 q _ (by omega) Hrd.out (by omega)).mono ?_
      rintro e w6 ⟨k, rfl, hk0, hk1, hr6, hg6⟩
      have Hg6 := Lib.hid (grownBy_trans Hgr.out hg6)
      have Ho6 := Lib.hid (Hown.out.kept hg6 (.inr (fun e => by have := (Hown.out.lt R e).1; omega)))
      have hB6 := Hg6.out.size
      clear hg6 hr6
      have hxb : xs.length ≤ 1000 := by have := Hxl.out; omega
      by_cases k0 : k = 0
      · subst k0
        go_wp2_with (first | (at_builtin; refine wpList_push TI' rfl (.tmp 54) (.tmp 55) rfl w4.heap.size _ sg _ rfl Ho6.out (by omega) rfl hB6 ?_; intro v' w8 hown8 hg8; have Hg8 := Lib.hid (grown_row Hg6.out hg8 (fun g e => (Ho6.out.lt g e).1)); have Ho8 := Lib.hid hown8; clear hown8 hg8) | fail)
        have Hc8 := Lib.hid (Hc4.out.kept Hg8.out (.inr (fun e => by have := (Hc4.out.lt R e).1; omega)))
        have Hs8 := Lib.hid (Hs4.out.grown Hg8.out (fun b e h => by have := HRl.out _ (ownBlock_slice b e); injection h with h; omega))
        have hB8 := Hg8.out.size
        refine (drawKeys aq cq xs w8 hxb Hs8.out).mono ?_
        rintro e w9 ⟨vk, keys, rfl, hown9, hkl, hb9⟩
        have hz9 := hb9.size
        have Ho9 := Lib.hid ((Ho8.out.below hb9).mono (B' := w.heap.size) (by omega))
        have Hc9 := Lib.hid ((Hc8.out.below hb9).mono (B' := w.heap.size) (by omega))
        have Hk9 := Lib.hid (hown9.mono (B' := w.heap.size) (by omega))
        have Hb9 := Lib.hid (below_step (hb1.trans (below_of_grown (grownBy_trans Hg4.out Hg8.out) hR1 hs1)) (by omega) hb9)
        have Hkl := Lib.hid (hkl.trans Hxl.out)
        clear hown9 hkl hb9
        go_wp2
        refine bodyPost_ret (results_tmp4 rfl _ _ _) rfl ?_
        exact ⟨_, c, _, keys, d, _, sg ++ [0], rfl, Hc9.out, hcl, Hk9.out, Hkl.out, Ho9.out, by first | omega | (simp; omega), Hb9.out⟩
      · have k0' : (k == 0) = false := by rw [beq_eq_false_iff_ne]; exact k0
        go_wp2_with fail
        have Hc8 := Lib.hid (Hc4.out.kept Hg6.out (.inr (fun e => by have := (Hc4.out.lt R e).1; omega)))
        have Hs8 := Lib.hid (Hs4.out.grown Hg6.out (fun b e h => by have := HRl.out _ (ownBlock_slice b e); injection h with h; omega))
        have hB8 := Hg6.out.size
        refine (drawKeys aq cq xs _ hxb Hs8.out).mono ?_
        rintro e w9 ⟨vk, keys, rfl, hown9, hkl, hb9⟩
        have hz9 := hb9.size
        have Ho9 := Lib.hid ((Ho6.out.below hb9).mono (B' := w.heap.size) (by omega))
        have Hc9 := Lib.hid ((Hc8.out.below hb9).mono (B' := w.heap.size) (by omega))
        have Hk9 := Lib.hid (hown9.mono (B' := w.heap.size) (by omega))
        have Hb9 := Lib.hid (below_step (hb1.trans (below_of_grown (grownBy_trans Hg4.out Hg6.out) hR1 hs1)) (by omega) hb9)
        have Hkl := Lib.hid (hkl.trans Hxl.out)
        clear hown9 hkl hb9
        go_wp2
        refine bodyPost_ret (results_tmp4 rfl _ _ _) rfl ?_
        exact ⟨_, c, _, keys, d, _, sg, rfl, Hc9.out, hcl, Hk9.out, Hkl.out, Ho9.out, by omega, Hb9.out⟩

end Go.Proofs.Ytilkiiflcdmnpab
