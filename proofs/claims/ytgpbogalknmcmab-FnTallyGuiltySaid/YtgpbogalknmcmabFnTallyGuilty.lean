/- Law FnTallyGuilty holds for every input; no conditions of our own. -/
import Derived.Test.YtgpbogalknmcmabRows
import Derived.Test.YtgpbogalknmcmabBu0
import Derived.Test.YtgpbogalknmcmabBu1
import Derived.Test.YtgpbogalknmcmabBu2
import Derived.Deep.QuietTactic
import Derived.BigQuiet
namespace Go.Proofs.Ytgpbogalknmcmab
open Go.ChangeShapes Go.WideShapes Go.ChangeAt Go.RowKit

set_option maxHeartbeats 4000000 in
theorem fnTallyGuilty_walk (a : Option Addr) (cap : Nat) (zs : List Int) (w : World) (hk : zs.length ≤ cap) (_hm : zs.length ≤ maxLen) (hi : zs = [] ∨ ∃ b off, a = some ⟨b, off, none⟩ ∧ b < w.heap.size ∧ ∀ j (h : j < zs.length), w.cell? ⟨b, off + j, none⟩ = some (.int .u8 zs[j])) (hw : ∀ z ∈ zs, (Lit.int .u8 z).wf = true) :
    Calls Try.prog 5 #[.slice a zs.length cap] w fun e w' => e = .returned (.bool true) ∧ Below w.heap.size w w' := by
  by_cases hl : 1048576 < zs.length
  · go_enter Try.func5, Try.ntmps5
    go_wp2
    go_ret
    exact ⟨rfl, Below.refl _ _⟩
  have hcode := codeAt_of hk (by omega) hi hw
  have Hcode := Lib.hid hcode; clear hcode hi hw
  go_enter Try.func5, Try.ntmps5
  go_wp2_with fail
  refine (spec_DrawTallyGuilty a cap zs _ Hcode.out).mono ?_
  rintro e w1 ⟨ac, cc, c, ⟨xr, xa, xd⟩, ⟨yr, ya, yd⟩, ax, cx, xs, ay, cy, ys, rfl, hvx, hvy, hoc, hcl, hcs, hox, hxl, hoy, hyl, hb1⟩
  dsimp only at *
  have Ic := Lib.hid (show IntsAt w1 ac c from hoc.at)
  have Ix := Lib.hid (show IntsAt w1 ax xs from hox.at)
  have Iy := Lib.hid (show IntsAt w1 ay ys from hoy.at)
  have Hb := Lib.hid hb1
  clear hoc hox hoy hb1 hvx hvy hcs
  have hal : Below w1.heap.size w1 (w1.alloc (.cells #[.int .i64 xr, .int .i64 xa, .int .i64 xd, .slice ax xs.length cx] 27)) := (Below.refl _ _).alloc (Nat.le_refl _) _
  have Ic := Lib.hid (show IntsAt (w1.alloc (.cells #[.int .i64 xr, .int .i64 xa, .int .i64 xd, .slice ax xs.length cx] 27)) ac c from Ic.out.below hal)
  have Ix := Lib.hid (show IntsAt (w1.alloc (.cells #[.int .i64 xr, .int .i64 xa, .int .i64 xd, .slice ax xs.length cx] 27)) ax xs from Ix.out.below hal)
  have Iy := Lib.hid (show IntsAt (w1.alloc (.cells #[.int .i64 xr, .int .i64 xa, .int .i64 xd, .slice ax xs.length cx] 27)) ay ys from Iy.out.below hal)
  have Svx := Lib.hid (Str.new w1 27 #[.int .i64 xr, .int .i64 xa, .int .i64 xd, .slice ax xs.length cx])
  have hzvx : (w1.alloc (.cells #[.int .i64 xr, .int .i64 xa, .int .i64 xd, .slice ax xs.length cx] 27)).heap.size = w1.heap.size + 1 := by simp
  have Hb := Lib.hid (below_step Hb.out Hb.out.size hal)
  clear hal
  have hal : Below (w1.alloc (.cells #[.int .i64 xr, .int .i64 xa, .int .i64 xd, .slice ax xs.length cx] 27)).heap.size (w1.alloc (.cells #[.int .i64 xr, .int .i64 xa, .int .i64 xd, .slice ax xs.length cx] 27)) ((w1.alloc (.cells #[.int .i64 xr, .int .i64 xa, .int .i64 xd, .slice ax xs.length cx] 27)).alloc (.cells #[.int .i64 yr, .int .i64 ya, .int .i64 yd, .slice ay ys.length cy] 27)) := (Below.refl _ _).alloc (Nat.le_refl _) _
  have Ic := Lib.hid (show IntsAt ((w1.alloc (.cells #[.int .i64 xr, .int .i64 xa, .int .i64 xd, .slice ax xs.length cx] 27)).alloc (.cells #[.int .i64 yr, .int .i64 ya, .int .i64 yd, .slice ay ys.length cy] 27)) ac c from Ic.out.below hal)
  have Ix := Lib.hid (show IntsAt ((w1.alloc (.cells #[.int .i64 xr, .int .i64 xa, .int .i64 xd, .slice ax xs.length cx] 27)).alloc (.cells #[.int .i64 yr, .int .i64 ya, .int .i64 yd, .slice ay ys.length cy] 27)) ax xs from Ix.out.below hal)
  have Iy := Lib.hid (show IntsAt ((w1.alloc (.cells #[.int .i64 xr, .int .i64 xa, .int .i64 xd, .slice ax xs.length cx] 27)).alloc (.cells #[.int .i64 yr, .int .i64 ya, .int .i64 yd, .slice ay ys.length cy] 27)) ay ys from Iy.out.below hal)
  have Svx := Lib.hid (show Str ((w1.alloc (.cells #[.int .i64 xr, .int .i64 xa, .int .i64 xd, .slice ax xs.length cx] 27)).alloc (.cells #[.int .i64 yr, .int .i64 ya, .int .i64 yd, .slice ay ys.length cy] 27)) (w1.heap.size) 27 #[.int .i64 xr, .int .i64 xa, .int .i64 xd, .slice ax xs.length cx] from Svx.out.alloc _)
  have Svy := Lib.hid (Str.new (w1.alloc (.cells #[.int .i64 xr, .int .i64 xa, .int .i64 xd, .slice ax xs.length cx] 27)) 27 #[.int .i64 yr, .int .i64 ya, .int .i64 yd, .slice ay ys.length cy])
  have hzvy : ((w1.alloc (.cells #[.int .i64 xr, .int .i64 xa, .int .i64 xd, .slice ax xs.length cx] 27)).alloc (.cells #[.int .i64 yr, .int .i64 ya, .int .i64 yd, .slice ay ys.length cy] 27)).heap.size = (w1.alloc (.cells #[.int .i64 xr, .int .i64 xa, .int .i64 xd, .slice ax xs.length cx] 27)).heap.size + 1 := by simp
  have Hb := Lib.hid (below_step Hb.out Hb.out.size hal)
  clear hal
  have Svy := Lib.hid (show Str ((w1.alloc (.cells #[.int .i64 xr, .int .i64 xa, .int .i64 xd, .slice ax xs.length cx] 27)).alloc (.cells #[.int .i64 yr, .int .i64 ya, .int .i64 yd, .slice ay ys.length cy] 27)) (w1.heap.size + 1) 27 #[.int .i64 yr, .int .i64 ya, .int .i64 yd, .slice ay ys.length cy] by have h9 := Svy.out; simp only [World.size_alloc] at h9; exact h9)
  have hgl : (guiltyZ c ⟨xr, xa, xd⟩ ⟨yr, ya, yd⟩ xs ys).length ≤ 12 := by unfold guiltyZ; split; exact Nat.le_trans (commonTo_len _ _ _) hxl; simp
  have cvx_0 := Svx.out.cell 0 (v := .int .i64 xr) rfl
  have cvx_1 := Svx.out.cell 1 (v := .int .i64 xa) rfl
  have cvx_2 := Svx.out.cell 2 (v := .int .i64 xd) rfl
  have cvx_3 := Svx.out.cell 3 (v := .slice ax xs.length cx) rfl
  have cvy_0 := Svy.out.cell 0 (v := .int .i64 yr) rfl
  have cvy_1 := Svy.out.cell 1 (v := .int .i64 ya) rfl
  have cvy_2 := Svy.out.cell 2 (v := .int .i64 yd) rfl
  have cvy_3 := Svy.out.cell 3 (v := .slice ay ys.length cy) rfl
  go_wp2_with fail
  generalize ((w1.alloc (.cells #[.int .i64 xr, .int .i64 xa, .int .i64 xd, .slice ax xs.length cx] 27)).alloc (.cells #[.int .i64 yr, .int .i64 ya, .int .i64 yd, .slice ay ys.length cy] 27)) = W1 at *
  refine (impl_TallyGuilty ac cc c xr xa xd yr ya yd ax ay cx cy xs ys _ (by omega) (by omega) (by omega) Ic.out Ix.out Iy.out).mono ?_
  rintro e w2 ⟨v, rfl, hown, hb⟩
  clear cvx_0 cvx_1 cvx_2 cvx_3 cvy_0 cvy_1 cvy_2 cvy_3
  have Ic := Lib.hid (show IntsAt w2 ac c from Ic.out.below hb)
  have Ix := Lib.hid (show IntsAt w2 ax xs from Ix.out.below hb)
  have Iy := Lib.hid (show IntsAt w2 ay ys from Iy.out.below hb)
  have Svx := Lib.hid (show Str w2 (w1.heap.size) 27 #[.int .i64 xr, .int .i64 xa, .int .i64 xd, .slice ax xs.length cx] from (hb.block _ Svx.out.lt).trans Svx.out)
  have Svy := Lib.hid (show Str w2 (w1.heap.size + 1) 27 #[.int .i64 yr, .int .i64 ya, .int .i64 yd, .slice ay ys.length cy] from (hb.block _ Svy.out.lt).trans Svy.out)
  have hsw2 := hb.size
  have Hb := Lib.hid (below_step Hb.out Hb.out.size hb)
  clear hb
  obtain ⟨ag, cg, rfl, _, _⟩ := hown.ints
  have Ig := Lib.hid (show IntsAt w2 ag (guiltyZ c ⟨xr, xa, xd⟩ ⟨yr, ya, yd⟩ xs ys) from hown.at)
  clear hown
  have cvx_0 := Svx.out.cell 0 (v := .int .i64 xr) rfl
  have cvx_1 := Svx.out.cell 1 (v := .int .i64 xa) rfl
  have cvx_2 := Svx.out.cell 2 (v := .int .i64 xd) rfl
  have cvx_3 := Svx.out.cell 3 (v := .slice ax xs.length cx) rfl
  have cvy_0 := Svy.out.cell 0 (v := .int .i64 yr) rfl
  have cvy_1 := Svy.out.cell 1 (v := .int .i64 ya) rfl
  have cvy_2 := Svy.out.cell 2 (v := .int .i64 yd) rfl
  have cvy_3 := Svy.out.cell 3 (v := .slice ay ys.length cy) rfl
  go_wp2_with fail
  refine (spec_TallyGuilty ac cc c xr xa xd yr ya yd ax ay cx cy xs ys _ (by omega) (by omega) (by omega) Ic.out Ix.out Iy.out).mono ?_
  rintro e w3 ⟨v, rfl, hown, hb⟩
  clear cvx_0 cvx_1 cvx_2 cvx_3 cvy_0 cvy_1 cvy_2 cvy_3
  have Ic := Lib.hid (show IntsAt w3 ac c from Ic.out.below hb)
  have Ix := Lib.hid (show IntsAt w3 ax xs from Ix.out.below hb)
  have Iy := Lib.hid (show IntsAt w3 ay ys from Iy.out.below hb)
  have Ig := Lib.hid (show IntsAt w3 ag (guiltyZ c ⟨xr, xa, xd⟩ ⟨yr, ya, yd⟩ xs ys) from Ig.out.below hb)
  have Svx := Lib.hid (show Str w3 (w1.heap.size) 27 #[.int .i64 xr, .int .i64 xa, .int .i64 xd, .slice ax xs.length cx] from (hb.block _ Svx.out.lt).trans Svx.out)
  have Svy := Lib.hid (show Str w3 (w1.heap.size + 1) 27 #[.int .i64 yr, .int .i64 ya, .int .i64 yd, .slice ay ys.length cy] from (hb.block _ Svy.out.lt).trans Svy.out)
  have hsw3 := hb.size
  have Hb := Lib.hid (below_step Hb.out Hb.out.size hb)
  clear hb
  obtain ⟨ah, ch, rfl, _, _⟩ := hown.ints
  have Ih := Lib.hid (show IntsAt w3 ah (guiltyZ c ⟨xr, xa, xd⟩ ⟨yr, ya, yd⟩ xs ys) from hown.at)
  clear hown
  go_wp2_with fail
  refine (laws_sameInts' ag ah cg ch (guiltyZ c ⟨xr, xa, xd⟩ ⟨yr, ya, yd⟩ xs ys) w3 (by omega) Ig.out Ih.out).mono ?_
  rintro e w4 ⟨rfl, hd⟩
  have hb : Below w3.heap.size w3 w4 := hd.below _
  clear hd
  have Ic := Lib.hid (show IntsAt w4 ac c from Ic.out.below hb)
  have Ix := Lib.hid (show IntsAt w4 ax xs from Ix.out.below hb)
  have Iy := Lib.hid (show IntsAt w4 ay ys from Iy.out.below hb)
  have Ig := Lib.hid (show IntsAt w4 ag (guiltyZ c ⟨xr, xa, xd⟩ ⟨yr, ya, yd⟩ xs ys) from Ig.out.below hb)
  have Ih := Lib.hid (show IntsAt w4 ah (guiltyZ c ⟨xr, xa, xd⟩ ⟨yr, ya, yd⟩ xs ys) from Ih.out.below hb)
  have Svx := Lib.hid (show Str w4 (w1.heap.size) 27 #[.int .i64 xr, .int .i64 xa, .int .i64 xd, .slice ax xs.length cx] from (hb.block _ Svx.out.lt).trans Svx.out)
  have Svy := Lib.hid (show Str w4 (w1.heap.size + 1) 27 #[.int .i64 yr, .int .i64 ya, .int .i64 yd, .slice ay ys.length cy] from (hb.block _ Svy.out.lt).trans Svy.out)
  have hsw4 := hb.size
  have Hb := Lib.hid (below_step Hb.out Hb.out.size hb)
  clear hb
  clear Ih
  have cvx_0 := Svx.out.cell 0 (v := .int .i64 xr) rfl
  have cvx_1 := Svx.out.cell 1 (v := .int .i64 xa) rfl
  have cvx_2 := Svx.out.cell 2 (v := .int .i64 xd) rfl
  have cvx_3 := Svx.out.cell 3 (v := .slice ax xs.length cx) rfl
  have cvy_0 := Svy.out.cell 0 (v := .int .i64 yr) rfl
  have cvy_1 := Svy.out.cell 1 (v := .int .i64 ya) rfl
  have cvy_2 := Svy.out.cell 2 (v := .int .i64 yd) rfl
  have cvy_3 := Svy.out.cell 3 (v := .slice ay ys.length cy) rfl
  go_wp2_with fail
  refine (impl_TallyDone ac cc c xr xa xd ax cx xs w4 (by omega) (by omega) Ic.out Ix.out).mono ?_
  rintro e w5 ⟨rfl, hb⟩
  clear cvx_0 cvx_1 cvx_2 cvx_3 cvy_0 cvy_1 cvy_2 cvy_3
  have Ic := Lib.hid (show IntsAt w5 ac c from Ic.out.below hb)
  have Ix := Lib.hid (show IntsAt w5 ax xs from Ix.out.below hb)
  have Iy := Lib.hid (show IntsAt w5 ay ys from Iy.out.below hb)
  have Ig := Lib.hid (show IntsAt w5 ag (guiltyZ c ⟨xr, xa, xd⟩ ⟨yr, ya, yd⟩ xs ys) from Ig.out.below hb)
  have Svx := Lib.hid (show Str w5 (w1.heap.size) 27 #[.int .i64 xr, .int .i64 xa, .int .i64 xd, .slice ax xs.length cx] from (hb.block _ Svx.out.lt).trans Svx.out)
  have Svy := Lib.hid (show Str w5 (w1.heap.size + 1) 27 #[.int .i64 yr, .int .i64 ya, .int .i64 yd, .slice ay ys.length cy] from (hb.block _ Svy.out.lt).trans Svy.out)
  have hsw5 := hb.size
  have Hb := Lib.hid (below_step Hb.out Hb.out.size hb)
  clear hb
  cases hdx : doneB c ⟨xr, xa, xd⟩ xs with
  | false =>
    have cvx_0 := Svx.out.cell 0 (v := .int .i64 xr) rfl
    have cvx_1 := Svx.out.cell 1 (v := .int .i64 xa) rfl
    have cvx_2 := Svx.out.cell 2 (v := .int .i64 xd) rfl
    have cvx_3 := Svx.out.cell 3 (v := .slice ax xs.length cx) rfl
    have cvy_0 := Svy.out.cell 0 (v := .int .i64 yr) rfl
    have cvy_1 := Svy.out.cell 1 (v := .int .i64 ya) rfl
    have cvy_2 := Svy.out.cell 2 (v := .int .i64 yd) rfl
    have cvy_3 := Svy.out.cell 3 (v := .slice ay ys.length cy) rfl
    go_wp2
    go_ret
    exact ⟨by first | rfl | exact ret_bool (by simp), Hb.out⟩
  | true =>
  have cvx_0 := Svx.out.cell 0 (v := .int .i64 xr) rfl
  have cvx_1 := Svx.out.cell 1 (v := .int .i64 xa) rfl
  have cvx_2 := Svx.out.cell 2 (v := .int .i64 xd) rfl
  have cvx_3 := Svx.out.cell 3 (v := .slice ax xs.length cx) rfl
  have cvy_0 := Svy.out.cell 0 (v := .int .i64 yr) rfl
  have cvy_1 := Svy.out.cell 1 (v := .int .i64 ya) rfl
  have cvy_2 := Svy.out.cell 2 (v := .int .i64 yd) rfl
  have cvy_3 := Svy.out.cell 3 (v := .slice ay ys.length cy) rfl
  go_wp2_with fail
  refine (impl_TallyDone ac cc c yr ya yd ay cy ys w5 (by omega) (by omega) Ic.out Iy.out).mono ?_
  rintro e w6 ⟨rfl, hb⟩
  clear cvx_0 cvx_1 cvx_2 cvx_3 cvy_0 cvy_1 cvy_2 cvy_3
  have Ic := Lib.hid (show IntsAt w6 ac c from Ic.out.below hb)
  have Ix := Lib.hid (show IntsAt w6 ax xs from Ix.out.below hb)
  have Iy := Lib.hid (show IntsAt w6 ay ys from Iy.out.below hb)
  have Ig := Lib.hid (show IntsAt w6 ag (guiltyZ c ⟨xr, xa, xd⟩ ⟨yr, ya, yd⟩ xs ys) from Ig.out.below hb)
  have Svx := Lib.hid (show Str w6 (w1.heap.size) 27 #[.int .i64 xr, .int .i64 xa, .int .i64 xd, .slice ax xs.length cx] from (hb.block _ Svx.out.lt).trans Svx.out)
  have Svy := Lib.hid (show Str w6 (w1.heap.size + 1) 27 #[.int .i64 yr, .int .i64 ya, .int .i64 yd, .slice ay ys.length cy] from (hb.block _ Svy.out.lt).trans Svy.out)
  have hsw6 := hb.size
  have Hb := Lib.hid (below_step Hb.out Hb.out.size hb)
  clear hb
  cases hdy : doneB c ⟨yr, ya, yd⟩ ys with
  | false =>
    have cvx_0 := Svx.out.cell 0 (v := .int .i64 xr) rfl
    have cvx_1 := Svx.out.cell 1 (v := .int .i64 xa) rfl
    have cvx_2 := Svx.out.cell 2 (v := .int .i64 xd) rfl
    have cvx_3 := Svx.out.cell 3 (v := .slice ax xs.length cx) rfl
    have cvy_0 := Svy.out.cell 0 (v := .int .i64 yr) rfl
    have cvy_1 := Svy.out.cell 1 (v := .int .i64 ya) rfl
    have cvy_2 := Svy.out.cell 2 (v := .int .i64 yd) rfl
    have cvy_3 := Svy.out.cell 3 (v := .slice ay ys.length cy) rfl
    go_wp2
    go_ret
    exact ⟨by first | rfl | exact ret_bool (by simp), Hb.out⟩
  | true =>
  by_cases hr : xr = yr
  case neg =>
    have hr' : (xr == yr) = false := by simpa using hr
    have cvx_0 := Svx.out.cell 0 (v := .int .i64 xr) rfl
    have cvx_1 := Svx.out.cell 1 (v := .int .i64 xa) rfl
    have cvx_2 := Svx.out.cell 2 (v := .int .i64 xd) rfl
    have cvx_3 := Svx.out.cell 3 (v := .slice ax xs.length cx) rfl
    have cvy_0 := Svy.out.cell 0 (v := .int .i64 yr) rfl
    have cvy_1 := Svy.out.cell 1 (v := .int .i64 ya) rfl
    have cvy_2 := Svy.out.cell 2 (v := .int .i64 yd) rfl
    have cvy_3 := Svy.out.cell 3 (v := .slice ay ys.length cy) rfl
    go_wp2
    go_ret
    exact ⟨by first | rfl | exact ret_bool (by simp), Hb.out⟩
  have hr' : (xr == yr) = true := by simpa using hr
  by_cases ha : xa = ya
  case neg =>
    have ha' : (xa == ya) = false := by simpa using ha
    have cvx_0 := Svx.out.cell 0 (v := .int .i64 xr) rfl
    have cvx_1 := Svx.out.cell 1 (v := .int .i64 xa) rfl
    have cvx_2 := Svx.out.cell 2 (v := .int .i64 xd) rfl
    have cvx_3 := Svx.out.cell 3 (v := .slice ax xs.length cx) rfl
    have cvy_0 := Svy.out.cell 0 (v := .int .i64 yr) rfl
    have cvy_1 := Svy.out.cell 1 (v := .int .i64 ya) rfl
    have cvy_2 := Svy.out.cell 2 (v := .int .i64 yd) rfl
    have cvy_3 := Svy.out.cell 3 (v := .slice ay ys.length cy) rfl
    go_wp2
    go_ret
    exact ⟨by first | rfl | exact ret_bool (by simp), Hb.out⟩
  have ha' : (xa == ya) = true := by simpa using ha
  by_cases hd : xd = yd
  case pos =>
    have hd' : (xd == yd) = true := by simpa using hd
    have cvx_0 := Svx.out.cell 0 (v := .int .i64 xr) rfl
    have cvx_1 := Svx.out.cell 1 (v := .int .i64 xa) rfl
    have cvx_2 := Svx.out.cell 2 (v := .int .i64 xd) rfl
    have cvx_3 := Svx.out.cell 3 (v := .slice ax xs.length cx) rfl
    have cvy_0 := Svy.out.cell 0 (v := .int .i64 yr) rfl
    have cvy_1 := Svy.out.cell 1 (v := .int .i64 ya) rfl
    have cvy_2 := Svy.out.cell 2 (v := .int .i64 yd) rfl
    have cvy_3 := Svy.out.cell 3 (v := .slice ay ys.length cy) rfl
    go_wp2
    go_ret
    exact ⟨by first | rfl | exact ret_bool (by simp), Hb.out⟩
  have hd' : (xd == yd) = false := by simpa using hd
  have htx : tallyB c ⟨xr, xa, xd⟩ xs = true := by unfold doneB at hdx; simp only [Bool.and_eq_true] at hdx; exact hdx.1
  have hty : tallyB c ⟨yr, ya, yd⟩ ys = true := by unfold doneB at hdy; simp only [Bool.and_eq_true] at hdy; exact hdy.1
  have hqx : 2 * totalZ c / 3 + 1 ≤ weightZ c xs := by unfold doneB at hdx; simp only [Bool.and_eq_true, decide_eq_true_eq] at hdx; exact hdx.2
  have hqy : 2 * totalZ c / 3 + 1 ≤ weightZ c ys := by unfold doneB at hdy; simp only [Bool.and_eq_true, decide_eq_true_eq] at hdy; exact hdy.2
  have hgc : guiltyZ c ⟨xr, xa, xd⟩ ⟨yr, ya, yd⟩ xs ys = commonZ xs ys := by unfold guiltyZ twoB; rw [htx, hty]; simp [hr, ha, hd]
  have hv : validB c = true := by unfold tallyB at htx; simp only [Bool.and_eq_true] at htx; exact htx.1
  have hmx : AscP c.length xs := ascP_of (by unfold tallyB at htx; simp only [Bool.and_eq_true] at htx; exact htx.2.2)
  have hmy : AscP c.length ys := ascP_of (by unfold tallyB at hty; simp only [Bool.and_eq_true] at hty; exact hty.2.2)
  have hmeet := weights_meet hv hmx hmy
  have hbd := totalZ_bd hv
  have HM := Lib.hid (impl_MembersWeight ac cc c ag cg (guiltyZ c ⟨xr, xa, xd⟩ ⟨yr, ya, yd⟩ xs ys) w6 (by omega) (by omega) Ic.out Ig.out)
  rw [hgc, mwZ_of hv (ascP_common hmx)] at HM
  have HF := impl_CommitteeFaults ac cc c w6 (by omega) Ic.out
  rw [orNo_yes hv] at HF
  have HF := Lib.hid HF
  rw [hgc]
  have hwc := weight_bd hv (ascP_common (b := ys) hmx)
  clear hgc hdx hdy htx hty
  generalize weightZ c (commonZ xs ys) = wc at *
  generalize weightZ c xs = wx at *
  generalize weightZ c ys = wy at *
  generalize totalZ c = t at *
  have cvx_0 := Svx.out.cell 0 (v := .int .i64 xr) rfl
  have cvx_1 := Svx.out.cell 1 (v := .int .i64 xa) rfl
  have cvx_2 := Svx.out.cell 2 (v := .int .i64 xd) rfl
  have cvx_3 := Svx.out.cell 3 (v := .slice ax xs.length cx) rfl
  have cvy_0 := Svy.out.cell 0 (v := .int .i64 yr) rfl
  have cvy_1 := Svy.out.cell 1 (v := .int .i64 ya) rfl
  have cvy_2 := Svy.out.cell 2 (v := .int .i64 yd) rfl
  have cvy_3 := Svy.out.cell 3 (v := .slice ay ys.length cy) rfl
  go_wp2_with fail
  refine HM.out.mono ?_
  rintro e w7 ⟨rfl, rfl⟩
  go_wp2_with fail
  refine HF.out.mono ?_
  rintro e w7 ⟨rfl, rfl⟩
  have hlt : (t - 1) / 3 < wc := by omega
  go_wp2
  go_ret
  exact ⟨by first | rfl | exact ret_bool (by simp [hlt]), Hb.out⟩

theorem fnTallyGuilty_own : ownKnob Try.prog.godebug = none := by kernel_rfl
theorem fnTallyGuilty_laidOut : laidOutB Try.prog = true := by kernel_rfl

theorem fnTallyGuilty_lifted (os : Os) (started : os.Started) (H : Type) (enc : TypeId × Value → H) :
    ReturnsInHanded {} Try.checked os 5 .any (Rows.fnTallyGuiltySpec.pre6 enc Try.prog Try.f5 Rows.fnTallyGuiltyRow.domain false) (Rows.fnTallyGuiltySpec.post enc Try.prog Try.f5 false true false false) := by
  refine law_lifted (C := Try.checked) (tb := 4) fnTallyGuilty_own fnTallyGuilty_laidOut started (by kernel_rfl) Try.func5 rfl Try.underlying4 rfl (by rw [Try.params5]; exact of_decide_eq_true (by kernel_rfl)) ?_
    (ChangeSpec.witness6 (enc := enc) (C := Try.checked) false ⟨#[], #[.slice none 0 0], []⟩ 8 (by kernel_rfl) (by kernel_rfl) (by kernel_rfl) (by kernel_rfl)) ?_
  · intro ds hds
    rw [Try.params5] at hds
    match ds, hds with
    | [d0], _ => rfl
  · intro W base args ds p hval0 hA0
    have hval : ∀ (j : Nat) t v, Try.f5.params[j]? = some t → args[j]? = some v → Value.okWide Try.prog W .any base t v := hval0
    have hA : DataW.TrodAll enc Try.prog W 0 (fun _ => true) true Try.f5.params.toList args.toList ds p := hA0
    rw [Try.params5] at hA hval
    obtain ⟨v0, vs0, d0, ds0, p0, q0, hargs0, rfl, rfl, h0, r0⟩ := trodAll_cons hA
    obtain ⟨hnil, rfl, rfl⟩ := trodAll_nil r0
    subst hnil
    obtain rfl : args = #[v0] := by cases args; simp_all
    obtain ⟨a0, cap0, zs0, rfl, hk0, hm0, hi0, hw0⟩ := open_slice_ints Try.underlying22 Try.underlying5 (by kernel_rfl) (hval 0 22 v0 rfl rfl) h0
    exact fnTallyGuilty_walk a0 cap0 zs0 W hk0 hm0 hi0 hw0

theorem fnTallyGuilty_holds : Rows.FnTallyGuiltySaid :=
  OpenClaim.holds_of_wide 5 Try.f5 rfl rfl rfl rfl rfl rfl rfl ⟨rfl, rfl, rfl, rfl, rfl⟩ rfl rfl rfl rfl rfl (by kernel_rfl) Try.func5 (by kernel_rfl)
    (of_decide_eq_true (by kernel_rfl)) (by unfold Func.isWrapper; first | (rw [if_pos (by decide +kernel)]; kernel_rfl) | (rw [if_neg (by decide +kernel)]; exact ⟨rfl, rfl⟩))
    (fun os started H enc _ => fnTallyGuilty_lifted os started H enc)

end Go.Proofs.Ytgpbogalknmcmab
