/- What spec's draws of keys, digests and signatures answer, each by a walk of its text; conditions: the text of code can be read. -/
import Derived.Test.YtilkiiflcdmnpaaRows
import Derived.Test.YtilkiiflcdmnpaaBase
import Derived.Test.YtilkiiflcdmnpaaRd
import Derived.Test.YtilkiiflcdmnpaaM1
import Derived.Test.YtilkiiflcdmnpaaM2
import Derived.Test.YtilkiiflcdmnpaaD1
import Derived.Test.YtilkiiflcdmnpaaD2
import Derived.Test.YtilkiiflcdmnpaaSgM
import Derived.Test.YtilkiiflcdmnpaaSgC
namespace Go.Proofs.Ytilkiiflcdmnpaa
open Go.RowKit

theorem key4_at (k : Nat) (hk : k < 4) : ∃ z : Int, (#[Value.int .i64 0, .int .i64 996, .int .i64 997, .int .i64 (-1)] : Array Value)[k]? = some (.int .i64 z) ∧ -1 ≤ z ∧ z ≤ 997 := by
  match k, hk with
  | 0, _ => exact ⟨0, rfl, by omega, by omega⟩
  | 1, _ => exact ⟨996, rfl, by omega, by omega⟩
  | 2, _ => exact ⟨997, rfl, by omega, by omega⟩
  | 3, _ => exact ⟨-1, rfl, by omega, by omega⟩

theorem drawKey (R p : Nat) (w : World) (hp : p ≤ 1000000) (hr : Rdr w R p) :
    Calls Try.prog 21 #[.pointer (some ⟨R, 0, none⟩)] w fun e w' => ∃ (d : Int) (p' : Nat), e = .returned (.int .i64 d) ∧ -1 ≤ d ∧ d ≤ 997 ∧ Rdr w' R p' ∧ p' ≤ p + 3 ∧ w.grownBy w' (some R) := by
  have Hr := Lib.hid hr; clear hr
  go_enter Try.func21, Try.ntmps21
  go_wp2_with fail
  refine (pick_any R 20 p _ (by omega) Hr.out (by omega)).mono ?_
  rintro e w1 ⟨x, rfl, hx0, hx1, hr1, hg1⟩
  have Hr1 := Lib.hid (hr1.alloc (.cells #[.int .i64 0, .int .i64 996, .int .i64 997, .int .i64 (-1)] 3))
  have Hr1' := Lib.hid hr1; clear hr1
  have Hg1 := Lib.hid hg1; clear hg1
  have hRs := Hr1'.out.lt
  by_cases h0 : x = 0
  · subst h0
    go_wp2_with fail
    refine (pick_any R 4 (p + 1) _ (by omega) Hr1.out (by omega)).mono ?_
    rintro e w2 ⟨u, rfl, hu0, hu1, hr2, hg2⟩
    obtain ⟨u, rfl⟩ := Int.eq_ofNat_of_zero_le hu0
    obtain ⟨z, hz, hz1, hz2⟩ := key4_at u (by omega)
    have hcell := lit_cell hg2 (by simp; omega) hz
    have Hg2 := Lib.hid (grownBy_trans (grownBy_trans Hg1.out (World.grownBy_alloc _ _ _)) hg2)
    have hu4 : u < 4 := by omega
    have Hr2 := Lib.hid hr2
    clear hg2 hz hu0 hu1 hr2
    go_wp2
    go_ret
    exact ⟨z, _, rfl, hz1, hz2, Hr2.out, by omega, Hg2.out⟩
  · have h0' : (x == 0) = false := by rw [beq_eq_false_iff_ne]; exact h0
    go_wp2_with fail
    refine (pick_any R 99 (p + 1) _ (by omega) Hr1'.out (by omega)).mono ?_
    rintro e w2 ⟨u, rfl, hu0, hu1, hr2, hg2⟩
    have Hr2 := Lib.hid hr2
    have Hg2 := Lib.hid (grownBy_trans Hg1.out hg2)
    clear hr2 hg2
    go_wp2_with fail
    refine (pick_any R 10 (p + 2) _ (by omega) Hr2.out (by omega)).mono ?_
    rintro e w3 ⟨y, rfl, hy0, hy1, hr3, hg3⟩
    have Hr3 := Lib.hid hr3
    have Hg3 := Lib.hid (grownBy_trans Hg2.out hg3)
    clear hr3 hg3
    go_wp2
    go_ret
    exact ⟨_, _, rfl, by omega, by omega, Hr3.out, by omega, Hg3.out⟩

theorem spec_DrawKeyPublic (a : Option Addr) (cap : Nat) (zs : List Int) (w : World) (h : CodeAt w a cap zs) :
    Calls Try.prog 16 #[.slice a zs.length cap] w fun e w' => ∃ x : Int, e = .returned (.int .i64 x) ∧ Below w.heap.size w w' := by
  go_enter Try.func16, Try.ntmps16
  go_wp2_with fail
  refine (open_any a cap zs _ h).mono ?_
  rintro e w1 ⟨R, rfl, hR1, hR2, hr1, hb1⟩
  have Hr1 := Lib.hid hr1; clear hr1
  go_wp2_with fail
  refine (drawKey R 0 _ (by omega) Hr1.out).mono ?_
  rintro e w2 ⟨x, p', rfl, hx0, hx1, hr2, hp', hg2⟩
  have hsz := hb1.size
  have Hg := Lib.hid (hb1.trans (below_of_row' hg2 hR1 hsz))
  clear hr2 hg2
  go_wp2
  go_ret
  exact ⟨x, rfl, Hg.out⟩

theorem spec_DrawSignMake (a : Option Addr) (cap : Nat) (zs : List Int) (w : World) (h : CodeAt w a cap zs) :
    Calls Try.prog 11 #[.slice a zs.length cap] w fun e w' => ∃ x y : Int, e = .returned (.tuple #[.int .i64 x, .int .i64 y]) ∧ Below w.heap.size w w' := by
  go_enter Try.func11, Try.ntmps11
  go_wp2_with fail
  refine (open_any a cap zs _ h).mono ?_
  rintro e w1 ⟨R, rfl, hR1, hR2, hr1, hb1⟩
  have Hr1 := Lib.hid hr1; clear hr1
  go_wp2_with fail
  refine (drawKey R 0 _ (by omega) Hr1.out).mono ?_
  rintro e w2 ⟨x, p', rfl, hx0, hx1, hr2, hp', hg2⟩
  have Hr2 := Lib.hid hr2; clear hr2
  go_wp2_with fail
  refine (drawDigest R p' _ (by omega) Hr2.out).mono ?_
  rintro e w3 ⟨y, p'', rfl, hy0, hy1, hr3, hp'', hg3⟩
  have hsz := hb1.size
  have Hg := Lib.hid (hb1.trans (below_of_row' (grownBy_trans hg2 hg3) hR1 hsz))
  clear hr3 hg2 hg3
  go_wp2
  go_ret2
  exact ⟨x, y, rfl, Hg.out⟩

theorem spec_DrawSignCheck (a : Option Addr) (cap : Nat) (zs : List Int) (w : World) (h : CodeAt w a cap zs) :
    Calls Try.prog 18 #[.slice a zs.length cap] w fun e w' => ∃ x y z : Int, e = .returned (.tuple #[.int .i64 x, .int .i64 y, .int .i64 z]) ∧ Below w.heap.size w w' := by
  go_enter Try.func18, Try.ntmps18
  go_wp2_with fail
  refine (open_any a cap zs _ h).mono ?_
  rintro e w1 ⟨R, rfl, hR1, hR2, hr1, hb1⟩
  have Hr1 := Lib.hid hr1; clear hr1
  go_wp2_with fail
  refine (drawKey R 0 _ (by omega) Hr1.out).mono ?_
  rintro e w2 ⟨x, p', rfl, hx0, hx1, hr2, hp', hg2⟩
  have Hr2 := Lib.hid hr2; clear hr2
  go_wp2_with fail
  refine (drawDigest R p' _ (by omega) Hr2.out).mono ?_
  rintro e w3 ⟨y, p'', rfl, hy0, hy1, hr3, hp'', hg3⟩
  have Hr3 := Lib.hid hr3; clear hr3
  have hsz := hb1.size
  have Hg3 := Lib.hid (grownBy_trans hg2 hg3); clear hg2 hg3
  generalize hkp : kpZ x = kp
  generalize hsm : smZ x y = sm
  have HK := Lib.hid (fun w => hkp ▸ spec_KeyPublic x w)
  have HS := Lib.hid (fun w => hsm ▸ spec_SignMake x y w)
  clear hkp hsm
  go_wp2_with fail
  refine (HK.out _).mono ?_
  rintro e w3' ⟨rfl, rfl⟩
  go_wp2_with fail
  refine (HS.out _).mono ?_
  rintro e w3' ⟨rfl, rfl⟩
  go_wp2_with fail
  refine (pick_any R 6 p'' _ (by omega) Hr3.out (by omega)).mono ?_
  rintro e w4 ⟨k, rfl, hk0, hk1, hr4, hg4⟩
  have Hr4 := Lib.hid hr4; clear hr4
  have Hg4 := Lib.hid (grownBy_trans Hg3.out hg4); clear hg4
  by_cases k0 : k = 0
  · subst k0
    go_wp2_with fail
    refine (drawKey R _ _ (by omega) Hr4.out).mono ?_
    rintro e w5 ⟨z, q', rfl, hz0, hz1, hr5, hq', hg5⟩
    have Hg := Lib.hid (hb1.trans (below_of_row' (grownBy_trans Hg4.out hg5) hR1 hsz))
    clear hr5 hg5
    go_wp2
    refine bodyPost_ret (results_tmp3 rfl _ _ _) rfl ?_
    exact ⟨_, _, _, rfl, Hg.out⟩
  by_cases k1 : k = 1
  · subst k1
    go_wp2_with fail
    refine (drawDigest R _ _ (by omega) Hr4.out).mono ?_
    rintro e w5 ⟨z, q', rfl, hz0, hz1, hr5, hq', hg5⟩
    have Hg := Lib.hid (hb1.trans (below_of_row' (grownBy_trans Hg4.out hg5) hR1 hsz))
    clear hr5 hg5
    go_wp2
    refine bodyPost_ret (results_tmp3 rfl _ _ _) rfl ?_
    exact ⟨_, _, _, rfl, Hg.out⟩
  by_cases k2 : k = 2
  · subst k2
    go_wp2_with fail
    refine (drawKey R _ _ (by omega) Hr4.out).mono ?_
    rintro e w5 ⟨z, q', rfl, hz0, hz1, hr5, hq', hg5⟩
    have Hg := Lib.hid (hb1.trans (below_of_row' (grownBy_trans Hg4.out hg5) hR1 hsz))
    clear hr5 hg5
    go_wp2
    refine bodyPost_ret (results_tmp3 rfl _ _ _) rfl ?_
    exact ⟨_, _, _, rfl, Hg.out⟩
  have k0' : (k == 0) = false := by rw [beq_eq_false_iff_ne]; exact k0
  have k1' : (k == 1) = false := by rw [beq_eq_false_iff_ne]; exact k1
  have k2' : (k == 2) = false := by rw [beq_eq_false_iff_ne]; exact k2
  go_wp2
  refine bodyPost_ret (results_tmp3 rfl _ _ _) rfl ?_
  exact ⟨_, _, _, rfl, hb1.trans (below_of_row' Hg4.out hR1 hsz)⟩

end Go.Proofs.Ytilkiiflcdmnpaa
