/- The draws of a tally and of two tallies: what is drawn is small and lies in new memory; each by a walk of its text; condition: at most 2^19 picks. -/
import Derived.Test.YthhikgibmmhcjabRows
import Derived.Test.YthhikgibmmhcjabVd1
import Derived.Deep.QuietTactic
import Derived.BigQuiet
namespace Go.Proofs.Ythhikgibmmhcjab
open Go.RowKit

set_option maxHeartbeats 1000000 in
theorem drawTally (R p : Nat) (ac : Option Addr) (n cc : Nat) (w : World) (hp : p ≤ 800000) (hn : n ≤ 1000) (hr : Rdr w R p) (hR : R < w.heap.size) :
    Calls Try.prog 30 #[.pointer (some ⟨R, 0, none⟩), .slice ac n cc] w fun e w' => ∃ (v : Vt) (am : Option Addr) (cm : Nat) (ms : List Int) (p' : Nat), e = .returned (.agg #[.int .i64 v.r, .int .i64 v.a, .int .i64 v.d, .slice am ms.length cm]) ∧ VtS v ∧ v.d ≤ 991 ∧ Own 3 w' w.heap.size (.slice am ms.length cm) ms ∧ ms.length ≤ n + 1 ∧ Rdr w' R p' ∧ p' ≤ p + n + 10 ∧ w.grownBy w' (some R) := by
  have Hr := Lib.hid (hr.alloc (.cells #[.int .i64 0, .int .i64 0, .int .i64 0, .slice none 0 0] 27)); clear hr
  have SA := Lib.hid (Str.new w 27 #[.int .i64 0, .int .i64 0, .int .i64 0, .slice none 0 0])
  have Hg := Lib.hid (World.grownBy_alloc w (.cells #[.int .i64 0, .int .i64 0, .int .i64 0, .slice none 0 0] 27) (some R))
  have hz0 : (w.alloc (.cells #[.int .i64 0, .int .i64 0, .int .i64 0, .slice none 0 0] 27)).heap.size = w.heap.size + 1 := by simp
  go_enter Try.func30, Try.ntmps30
  go_wp2_with fail
  generalize w.alloc (.cells #[.int .i64 0, .int .i64 0, .int .i64 0, .slice none 0 0] 27) = W0 at *
  refine (drawVote R p _ (by omega) Hr.out (by omega)).mono ?_
  rintro e w1 ⟨v, p1, rfl, hv, hvd, hr', hp1, hg'⟩
  have hs1 := hg'.size
  have SA := Lib.hid (show Str w1 w.heap.size 27 #[.int .i64 0, .int .i64 0, .int .i64 0, .slice none 0 0] from SA.out.kept hg' (by simp; omega))
  have Hr := Lib.hid hr'
  have Hg := Lib.hid (grownBy_trans Hg.out hg')
  clear hr' hg'
  obtain ⟨vr, va, vd⟩ := v
  dsimp only at *
  go_wp2_with fail
  refine (drawMembers R p1 n _ (by omega) hn Hr.out (by omega)).mono ?_
  rintro e w2 ⟨u, ms, p2, rfl, hown, hml, hr', hp2, hg'⟩
  have hs2 := hg'.size
  have SA := Lib.hid (show Str w2 w.heap.size 27 #[.int .i64 0, .int .i64 0, .int .i64 0, .slice none 0 0] from SA.out.kept hg' (by simp; omega))
  have Hr := Lib.hid hr'
  have Hg := Lib.hid (grownBy_trans Hg.out hg')
  clear hr' hg'
  obtain ⟨am, cm, rfl, _, _⟩ := hown.ints
  have hne : (Value.slice am ms.length cm).ownBlock ≠ some w.heap.size := fun e => by have := (hown.lt _ e).1; omega
  have Ho := Lib.hid (hown.mono (B' := w.heap.size) (by omega)); clear hown
  have c0 := SA.out.cell 0 (v := .int .i64 0) rfl
  have f0 := SA.out.frozen 0
  have c1 := SA.out.cell 1 (v := .int .i64 0) rfl
  have f1 := SA.out.frozen 1
  have c2 := SA.out.cell 2 (v := .int .i64 0) rfl
  have f2 := SA.out.frozen 2
  have c3 := SA.out.cell 3 (v := .slice none 0 0) rfl
  have f3 := SA.out.frozen 3
  have sF := (((SA.out.set 0 (.int .i64 vr)).set 1 (.int .i64 va)).set 2 (.int .i64 vd)).set 3 (.slice am ms.length cm)
  have e0 := sF.cell 0 (v := .int .i64 vr) rfl
  have e1 := sF.cell 1 (v := .int .i64 va) rfl
  have e2 := sF.cell 2 (v := .int .i64 vd) rfl
  have e3 := sF.cell 3 (v := .slice am ms.length cm) rfl
  clear sF
  go_wp2
  refine bodyPost_ret (v := .agg #[.int .i64 vr, .int .i64 va, .int .i64 vd, .slice am ms.length cm]) (by simp [results, Try.f30, go_sem, e0, e1, e2, e3]) rfl ?_
  exact ⟨⟨vr, va, vd⟩, am, cm, ms, p2, rfl, hv, hvd, ((((Ho.out.set_other hne 0 (.int .i64 vr)).set_other hne 1 (.int .i64 va)).set_other hne 2 (.int .i64 vd)).set_other hne 3 (.slice am ms.length cm)), hml, ((((Hr.out.kept (grownBy_set _ w.heap.size 0 (.int .i64 vr)) (fun g e => by cases e; omega)).kept (grownBy_set _ w.heap.size 1 (.int .i64 va)) (fun g e => by cases e; omega)).kept (grownBy_set _ w.heap.size 2 (.int .i64 vd)) (fun g e => by cases e; omega)).kept (grownBy_set _ w.heap.size 3 (.slice am ms.length cm)) (fun g e => by cases e; omega)), by omega, (grown_set (grown_set (grown_set (grown_set Hg.out (Nat.le_refl _) 0 (.int .i64 vr)) (Nat.le_refl _) 1 (.int .i64 va)) (Nat.le_refl _) 2 (.int .i64 vd)) (Nat.le_refl _) 3 (.slice am ms.length cm))⟩

set_option maxHeartbeats 4000000 in
theorem spec_DrawTallyGuilty (a : Option Addr) (cap : Nat) (zs : List Int) (w : World) (h : CodeAt w a cap zs) :
    Calls Try.prog 8 #[.slice a zs.length cap] w fun e w' => ∃ (ac : Option Addr) (cc : Nat) (c : List Int) (x y : Vt) (ax : Option Addr) (cx : Nat) (xs : List Int) (ay : Option Addr) (cy : Nat) (ys : List Int), e = .returned (.tuple #[.slice ac c.length cc, .agg #[.int .i64 x.r, .int .i64 x.a, .int .i64 x.d, .slice ax xs.length cx], .agg #[.int .i64 y.r, .int .i64 y.a, .int .i64 y.d, .slice ay ys.length cy]]) ∧
      VtS x ∧ VtS y ∧ Own 3 w' w.heap.size (.slice ac c.length cc) c ∧ c.length ≤ 11 ∧ Small c ∧ Own 3 w' w.heap.size (.slice ax xs.length cx) xs ∧ xs.length ≤ 12 ∧ Own 3 w' w.heap.size (.slice ay ys.length cy) ys ∧ ys.length ≤ 12 ∧ Below w.heap.size w w' := by
  have Hb := Lib.hid (Below.refl w.heap.size w)
  have SA := Lib.hid (Str.new w 27 #[.int .i64 0, .int .i64 0, .int .i64 0, .slice none 0 0])
  have Hb := Lib.hid (Hb.out.alloc Hb.out.size (.cells #[.int .i64 0, .int .i64 0, .int .i64 0, .slice none 0 0] 27))
  have hzA : (w.alloc (.cells #[.int .i64 0, .int .i64 0, .int .i64 0, .slice none 0 0] 27)).heap.size = w.heap.size + 1 := by simp
  have SA := Lib.hid (show Str ((w.alloc (.cells #[.int .i64 0, .int .i64 0, .int .i64 0, .slice none 0 0] 27)).alloc (.cells #[.int .i64 0, .int .i64 0, .int .i64 0, .slice none 0 0] 27)) (w.heap.size) 27 #[.int .i64 0, .int .i64 0, .int .i64 0, .slice none 0 0] from SA.out.alloc _)
  have SB := Lib.hid (Str.new (w.alloc (.cells #[.int .i64 0, .int .i64 0, .int .i64 0, .slice none 0 0] 27)) 27 #[.int .i64 0, .int .i64 0, .int .i64 0, .slice none 0 0])
  have Hb := Lib.hid (Hb.out.alloc Hb.out.size (.cells #[.int .i64 0, .int .i64 0, .int .i64 0, .slice none 0 0] 27))
  have hzB : ((w.alloc (.cells #[.int .i64 0, .int .i64 0, .int .i64 0, .slice none 0 0] 27)).alloc (.cells #[.int .i64 0, .int .i64 0, .int .i64 0, .slice none 0 0] 27)).heap.size = (w.alloc (.cells #[.int .i64 0, .int .i64 0, .int .i64 0, .slice none 0 0] 27)).heap.size + 1 := by simp
  have hSA : w.heap.size < w.heap.size + 2 := by omega
  have hzz : ((w.alloc (.cells #[.int .i64 0, .int .i64 0, .int .i64 0, .slice none 0 0] 27)).alloc (.cells #[.int .i64 0, .int .i64 0, .int .i64 0, .slice none 0 0] 27)).heap.size = w.heap.size + 2 := by simp
  have SB := Lib.hid (show Str ((w.alloc (.cells #[.int .i64 0, .int .i64 0, .int .i64 0, .slice none 0 0] 27)).alloc (.cells #[.int .i64 0, .int .i64 0, .int .i64 0, .slice none 0 0] 27)) (w.heap.size + 1) 27 #[.int .i64 0, .int .i64 0, .int .i64 0, .slice none 0 0] by have h9 := SB.out; simp only [World.size_alloc] at h9; exact h9)
  have Hop := Lib.hid (open_any a cap zs _ (h.below Hb.out)); clear h
  clear hzA hzB
  go_enter Try.func8, Try.ntmps8
  go_wp2_with fail
  generalize ((w.alloc (.cells #[.int .i64 0, .int .i64 0, .int .i64 0, .slice none 0 0] 27)).alloc (.cells #[.int .i64 0, .int .i64 0, .int .i64 0, .slice none 0 0] 27)) = w0 at *
  refine Hop.out.mono ?_
  rintro e w1 ⟨R, rfl, hR0, hR1, hr', hb'⟩
  have hs1 := hb'.size
  have SA := Lib.hid (show Str w1 (w.heap.size) 27 #[.int .i64 0, .int .i64 0, .int .i64 0, .slice none 0 0] from SA.out.kept (below_grown hb') (by simp))
  have SB := Lib.hid (show Str w1 (w.heap.size + 1) 27 #[.int .i64 0, .int .i64 0, .int .i64 0, .slice none 0 0] from SB.out.kept (below_grown hb') (by simp))
  have Hb := Lib.hid (below_step Hb.out Hb.out.size hb')
  have Hr := Lib.hid hr'
  clear hr' hb' Hop
  go_wp2_with fail
  refine (drawCommittee R 0 _ (by omega) Hr.out hR1).mono ?_
  rintro e w2 ⟨vc, c, p2, rfl, hown, hcl, hcs, hr', hp2, hg'⟩
  have hs2 := hg'.size
  obtain ⟨ac, cc, rfl, _, _⟩ := hown.ints
  have SA := Lib.hid (show Str w2 (w.heap.size) 27 #[.int .i64 0, .int .i64 0, .int .i64 0, .slice none 0 0] from SA.out.kept hg' (by simp; omega))
  have SB := Lib.hid (show Str w2 (w.heap.size + 1) 27 #[.int .i64 0, .int .i64 0, .int .i64 0, .slice none 0 0] from SB.out.kept hg' (by simp; omega))
  have Hb := Lib.hid (Hb.out.grown hg' Hb.out.size (fun g e => by cases e; omega))
  have Lc : ∀ k, ((.slice ac c.length cc : Value)).ownBlock = some k → w1.heap.size ≤ k ∧ k < w2.heap.size := fun k e => hown.lt k e
  have Oc := Lib.hid hown; clear hown
  have Hr := Lib.hid hr'
  clear hr' hg'
  go_wp2_with fail
  refine (drawTally R p2 ac c.length cc _ (by omega) (by omega) Hr.out (by omega)).mono ?_
  rintro e w3 ⟨⟨xr, xa, xd⟩, ax, cx, xs, p3, rfl, hvx, hdx, hown, hxl, hr', hp3, hg'⟩
  have hsw3 := hg'.size
  dsimp only at *
  have Oc := Lib.hid (Oc.out.kept hg' (.inr (fun e => by have := Lc _ e; omega)))
  have SA := Lib.hid (show Str w3 (w.heap.size) 27 #[.int .i64 0, .int .i64 0, .int .i64 0, .slice none 0 0] from SA.out.kept hg' (by simp; omega))
  have SB := Lib.hid (show Str w3 (w.heap.size + 1) 27 #[.int .i64 0, .int .i64 0, .int .i64 0, .slice none 0 0] from SB.out.kept hg' (by simp; omega))
  have Hb := Lib.hid (Hb.out.grown hg' Hb.out.size (fun g e => by cases e; omega))
  have Lx : ∀ k, ((.slice ax xs.length cx : Value)).ownBlock = some k → w2.heap.size ≤ k ∧ k < w3.heap.size := fun k e => hown.lt k e
  have Ox := Lib.hid hown; clear hown
  have Hr := Lib.hid hr'
  clear hr' hg'
  have Oc := Lib.hid (Oc.out.alloc (.cells #[.int .i64 xr, .int .i64 xa, .int .i64 xd, .slice ax xs.length cx] 27))
  have Ox := Lib.hid (Ox.out.alloc (.cells #[.int .i64 xr, .int .i64 xa, .int .i64 xd, .slice ax xs.length cx] 27))
  have SA := Lib.hid (show Str (w3.alloc (.cells #[.int .i64 xr, .int .i64 xa, .int .i64 xd, .slice ax xs.length cx] 27)) (w.heap.size) 27 #[.int .i64 0, .int .i64 0, .int .i64 0, .slice none 0 0] from SA.out.alloc _)
  have SB := Lib.hid (show Str (w3.alloc (.cells #[.int .i64 xr, .int .i64 xa, .int .i64 xd, .slice ax xs.length cx] 27)) (w.heap.size + 1) 27 #[.int .i64 0, .int .i64 0, .int .i64 0, .slice none 0 0] from SB.out.alloc _)
  have SVx := Lib.hid (Str.new w3 27 #[.int .i64 xr, .int .i64 xa, .int .i64 xd, .slice ax xs.length cx])
  have Hr := Lib.hid (Hr.out.alloc (.cells #[.int .i64 xr, .int .i64 xa, .int .i64 xd, .slice ax xs.length cx] 27))
  have Hb := Lib.hid (Hb.out.alloc Hb.out.size (.cells #[.int .i64 xr, .int .i64 xa, .int .i64 xd, .slice ax xs.length cx] 27))
  have hzVx : (w3.alloc (.cells #[.int .i64 xr, .int .i64 xa, .int .i64 xd, .slice ax xs.length cx] 27)).heap.size = w3.heap.size + 1 := by simp
  go_wp2_with fail
  generalize (w3.alloc (.cells #[.int .i64 xr, .int .i64 xa, .int .i64 xd, .slice ax xs.length cx] 27)) = W3 at *
  refine (drawTally R p3 ac c.length cc _ (by omega) (by omega) Hr.out (by omega)).mono ?_
  rintro e w4 ⟨⟨yr, ya, yd⟩, ay, cy, ys, p4, rfl, hvy, hdy, hown, hyl, hr', hp4, hg'⟩
  have hsw4 := hg'.size
  dsimp only at *
  have Oc := Lib.hid (Oc.out.kept hg' (.inr (fun e => by have := Lc _ e; omega)))
  have Ox := Lib.hid (Ox.out.kept hg' (.inr (fun e => by have := Lx _ e; omega)))
  have SA := Lib.hid (show Str w4 (w.heap.size) 27 #[.int .i64 0, .int .i64 0, .int .i64 0, .slice none 0 0] from SA.out.kept hg' (by simp; omega))
  have SB := Lib.hid (show Str w4 (w.heap.size + 1) 27 #[.int .i64 0, .int .i64 0, .int .i64 0, .slice none 0 0] from SB.out.kept hg' (by simp; omega))
  have SVx := Lib.hid (show Str w4 (w3.heap.size) 27 #[.int .i64 xr, .int .i64 xa, .int .i64 xd, .slice ax xs.length cx] from SVx.out.kept hg' (by simp; omega))
  have Hb := Lib.hid (Hb.out.grown hg' Hb.out.size (fun g e => by cases e; omega))
  have Ly : ∀ k, ((.slice ay ys.length cy : Value)).ownBlock = some k → W3.heap.size ≤ k ∧ k < w4.heap.size := fun k e => hown.lt k e
  have Oy := Lib.hid hown; clear hown
  have Hr := Lib.hid hr'
  clear hr' hg'
  have Oc := Lib.hid (Oc.out.alloc (.cells #[.int .i64 yr, .int .i64 ya, .int .i64 yd, .slice ay ys.length cy] 27))
  have Ox := Lib.hid (Ox.out.alloc (.cells #[.int .i64 yr, .int .i64 ya, .int .i64 yd, .slice ay ys.length cy] 27))
  have Oy := Lib.hid (Oy.out.alloc (.cells #[.int .i64 yr, .int .i64 ya, .int .i64 yd, .slice ay ys.length cy] 27))
  have SA := Lib.hid (show Str (w4.alloc (.cells #[.int .i64 yr, .int .i64 ya, .int .i64 yd, .slice ay ys.length cy] 27)) (w.heap.size) 27 #[.int .i64 0, .int .i64 0, .int .i64 0, .slice none 0 0] from SA.out.alloc _)
  have SB := Lib.hid (show Str (w4.alloc (.cells #[.int .i64 yr, .int .i64 ya, .int .i64 yd, .slice ay ys.length cy] 27)) (w.heap.size + 1) 27 #[.int .i64 0, .int .i64 0, .int .i64 0, .slice none 0 0] from SB.out.alloc _)
  have SVx := Lib.hid (show Str (w4.alloc (.cells #[.int .i64 yr, .int .i64 ya, .int .i64 yd, .slice ay ys.length cy] 27)) (w3.heap.size) 27 #[.int .i64 xr, .int .i64 xa, .int .i64 xd, .slice ax xs.length cx] from SVx.out.alloc _)
  have SVy := Lib.hid (Str.new w4 27 #[.int .i64 yr, .int .i64 ya, .int .i64 yd, .slice ay ys.length cy])
  have Hr := Lib.hid (Hr.out.alloc (.cells #[.int .i64 yr, .int .i64 ya, .int .i64 yd, .slice ay ys.length cy] 27))
  have Hb := Lib.hid (Hb.out.alloc Hb.out.size (.cells #[.int .i64 yr, .int .i64 ya, .int .i64 yd, .slice ay ys.length cy] 27))
  have hzVy : (w4.alloc (.cells #[.int .i64 yr, .int .i64 ya, .int .i64 yd, .slice ay ys.length cy] 27)).heap.size = w4.heap.size + 1 := by simp
  have hxd0 : -1 ≤ xd := hvx.2.2.1
  have hVx : w3.heap.size < W3.heap.size := by omega
  go_wp2_with fail
  generalize (w4.alloc (.cells #[.int .i64 yr, .int .i64 ya, .int .i64 yd, .slice ay ys.length cy] 27)) = W4 at *
  refine (pick_any R 4 (p4) _ (by omega) Hr.out (by omega)).mono ?_
  rintro e w5 ⟨q, rfl, hq0, hq1, hr', hg'⟩
  have hsw5 := hg'.size
  have Oc := Lib.hid (Oc.out.kept hg' (.inr (fun e => by have := Lc _ e; omega)))
  have Ox := Lib.hid (Ox.out.kept hg' (.inr (fun e => by have := Lx _ e; omega)))
  have Oy := Lib.hid (Oy.out.kept hg' (.inr (fun e => by have := Ly _ e; omega)))
  have SA := Lib.hid (show Str w5 (w.heap.size) 27 #[.int .i64 0, .int .i64 0, .int .i64 0, .slice none 0 0] from SA.out.kept hg' (by simp; omega))
  have SB := Lib.hid (show Str w5 (w.heap.size + 1) 27 #[.int .i64 0, .int .i64 0, .int .i64 0, .slice none 0 0] from SB.out.kept hg' (by simp; omega))
  have SVx := Lib.hid (show Str w5 (w3.heap.size) 27 #[.int .i64 xr, .int .i64 xa, .int .i64 xd, .slice ax xs.length cx] from SVx.out.kept hg' (by simp; omega))
  have SVy := Lib.hid (show Str w5 (w4.heap.size) 27 #[.int .i64 yr, .int .i64 ya, .int .i64 yd, .slice ay ys.length cy] from SVy.out.kept hg' (by simp; omega))
  have Hb := Lib.hid (Hb.out.grown hg' Hb.out.size (fun g e => by cases e; omega))
  have Hr := Lib.hid hr'
  clear hr' hg'
  by_cases hq : 0 < q
  case neg =>
    clear Hr
    have cVx_0 := SVx.out.cell 0 (v := .int .i64 xr) rfl
    have cVx_1 := SVx.out.cell 1 (v := .int .i64 xa) rfl
    have cVx_2 := SVx.out.cell 2 (v := .int .i64 xd) rfl
    have cVx_3 := SVx.out.cell 3 (v := .slice ax xs.length cx) rfl
    have cVy_0 := SVy.out.cell 0 (v := .int .i64 yr) rfl
    have cVy_1 := SVy.out.cell 1 (v := .int .i64 ya) rfl
    have cVy_2 := SVy.out.cell 2 (v := .int .i64 yd) rfl
    have cVy_3 := SVy.out.cell 3 (v := .slice ay ys.length cy) rfl
    go_wp2_with fail
    clear cVx_0 cVx_1 cVx_2 cVx_3 cVy_0 cVy_1 cVy_2 cVy_3
    have hdr : w5.grownBy w5.drew none := below_grown ((Below.refl _ _).drew)
    have Oc := Lib.hid (show Own 3 w5.drew _ _ _ from Oc.out.drewN 1)
    have Ox := Lib.hid (show Own 3 w5.drew _ _ _ from Ox.out.drewN 1)
    have Oy := Lib.hid (show Own 3 w5.drew _ _ _ from Oy.out.drewN 1)
    have SA := Lib.hid (show Str w5.drew (w.heap.size) 27 #[.int .i64 0, .int .i64 0, .int .i64 0, .slice none 0 0] from SA.out)
    have SB := Lib.hid (show Str w5.drew (w.heap.size + 1) 27 #[.int .i64 0, .int .i64 0, .int .i64 0, .slice none 0 0] from SB.out)
    have SVx := Lib.hid (show Str w5.drew (w3.heap.size) 27 #[.int .i64 xr, .int .i64 xa, .int .i64 xd, .slice ax xs.length cx] from SVx.out)
    have SVy := Lib.hid (show Str w5.drew (w4.heap.size) 27 #[.int .i64 yr, .int .i64 ya, .int .i64 yd, .slice ay ys.length cy] from SVy.out)
    have Hb := Lib.hid (Hb.out.drew)
    have hzwf : w5.drew.heap.size = w5.heap.size := rfl
    clear hdr
    refine wp_region_L 5 (fun w' => w'.cell? ⟨w3.heap.size, 0, none⟩ = some (.int .i64 xr) ∧ w'.cell? ⟨w3.heap.size, 1, none⟩ = some (.int .i64 xa) ∧ w'.cell? ⟨w3.heap.size, 2, none⟩ = some (.int .i64 xd) ∧ w'.cell? ⟨w3.heap.size, 3, none⟩ = some (.slice ax xs.length cx) ∧ w'.cell? ⟨w4.heap.size, 0, none⟩ = some (.int .i64 yr) ∧ w'.cell? ⟨w4.heap.size, 1, none⟩ = some (.int .i64 ya) ∧ w'.cell? ⟨w4.heap.size, 2, none⟩ = some (.int .i64 yd) ∧ w'.cell? ⟨w4.heap.size, 3, none⟩ = some (.slice ay ys.length cy)) (by kernel_rfl) ⟨SVx.out.cell 0 (v := .int .i64 xr) rfl, SVx.out.cell 1 (v := .int .i64 xa) rfl, SVx.out.cell 2 (v := .int .i64 xd) rfl, SVx.out.cell 3 (v := .slice ax xs.length cx) rfl, SVy.out.cell 0 (v := .int .i64 yr) rfl, SVy.out.cell 1 (v := .int .i64 ya) rfl, SVy.out.cell 2 (v := .int .i64 yd) rfl, SVy.out.cell 3 (v := .slice ay ys.length cy) rfl⟩ (fun hH => ?_)
    generalize w5.drew = wf at *
    refine takeL 0 (v := ?vt1) rfl (by kernel_rfl) (by kernel_rfl) (by kernel_rfl) (by kernel_rfl) (by kernel_rfl) (fun _ _ _ h => h) hH rfl ?yt1 ?rt1
    case yt1 => intro W hSw; go_simp; try with_reducible rfl
    try simp only [Act.put, List.setIfInBounds_toArray, List.set_cons_zero, List.set_cons_succ]
    refine takeL 1 (v := ?vt2) rfl (by kernel_rfl) (by kernel_rfl) (by kernel_rfl) (by kernel_rfl) (by kernel_rfl) (fun _ _ _ h => h) hH rfl ?yt2 ?rt2
    case yt2 => intro W hSw; go_simp; try with_reducible rfl
    try simp only [Act.put, List.setIfInBounds_toArray, List.set_cons_zero, List.set_cons_succ]
    refine takeL 2 (v := ?vt3) rfl (by kernel_rfl) (by kernel_rfl) (by kernel_rfl) (by kernel_rfl) (by kernel_rfl) (fun _ _ _ h => h) hH rfl ?yt3 ?rt3
    case yt3 => intro W hSw; go_simp; try with_reducible rfl
    try simp only [Act.put, List.setIfInBounds_toArray, List.set_cons_zero, List.set_cons_succ]
    refine callL 3 rfl (by kernel_rfl) rfl (fun K hK => ?_)
    go_simp
    refine hK.out _ _ hH (fun hH => ?_)
    clear hK K
    try simp only [Act.put, List.setIfInBounds_toArray, List.set_cons_zero, List.set_cons_succ]
    have cA_0 := SA.out.cell 0 (v := .int .i64 0) rfl
    have cA_1 := SA.out.cell 1 (v := .int .i64 0) rfl
    have cA_2 := SA.out.cell 2 (v := .int .i64 0) rfl
    have cA_3 := SA.out.cell 3 (v := .slice none 0 0) rfl
    have fA_0 := SA.out.frozen 0
    have fA_1 := SA.out.frozen 1
    have fA_2 := SA.out.frozen 2
    have fA_3 := SA.out.frozen 3
    refine callL 4 rfl (by kernel_rfl) rfl (fun K hK => ?_)
    go_simp
    clear cA_0 cA_1 cA_2 cA_3 fA_0 fA_1 fA_2 fA_3
    have Oc := Lib.hid (Oc.out.set_other (B' := w.heap.size) (fun e => by have := Lc _ e; omega) 0 (.int .i64 xr))
    have Ox := Lib.hid (Ox.out.set_other (B' := w.heap.size) (fun e => by have := Lx _ e; omega) 0 (.int .i64 xr))
    have Oy := Lib.hid (Oy.out.set_other (B' := w.heap.size) (fun e => by have := Ly _ e; omega) 0 (.int .i64 xr))
    have SB := Lib.hid (show Str (wf.setCell ⟨w.heap.size, 0, none⟩ (.int .i64 xr)) (w.heap.size + 1) 27 #[.int .i64 0, .int .i64 0, .int .i64 0, .slice none 0 0] from SB.out.other (by omega) _ _)
    have SVx := Lib.hid (show Str (wf.setCell ⟨w.heap.size, 0, none⟩ (.int .i64 xr)) (w3.heap.size) 27 #[.int .i64 xr, .int .i64 xa, .int .i64 xd, .slice ax xs.length cx] from SVx.out.other (by omega) _ _)
    have SVy := Lib.hid (show Str (wf.setCell ⟨w.heap.size, 0, none⟩ (.int .i64 xr)) (w4.heap.size) 27 #[.int .i64 yr, .int .i64 ya, .int .i64 yd, .slice ay ys.length cy] from SVy.out.other (by omega) _ _)
    have SA := Lib.hid (show Str (wf.setCell ⟨w.heap.size, 0, none⟩ (.int .i64 xr)) (w.heap.size) 27 #[.int .i64 xr, .int .i64 0, .int .i64 0, .slice none 0 0] from SA.out.set 0 _)
    have Hb := Lib.hid (Hb.out.setCell (p := ⟨w.heap.size, 0, none⟩) (by simp only; omega) (.int .i64 xr))
    have Oc := Lib.hid (Oc.out.set_other (B' := w.heap.size) (fun e => by have := Lc _ e; omega) 1 (.int .i64 xa))
    have Ox := Lib.hid (Ox.out.set_other (B' := w.heap.size) (fun e => by have := Lx _ e; omega) 1 (.int .i64 xa))
    have Oy := Lib.hid (Oy.out.set_other (B' := w.heap.size) (fun e => by have := Ly _ e; omega) 1 (.int .i64 xa))
    have SB := Lib.hid (show Str ((wf.setCell ⟨w.heap.size, 0, none⟩ (.int .i64 xr)).setCell ⟨w.heap.size, 1, none⟩ (.int .i64 xa)) (w.heap.size + 1) 27 #[.int .i64 0, .int .i64 0, .int .i64 0, .slice none 0 0] from SB.out.other (by omega) _ _)
    have SVx := Lib.hid (show Str ((wf.setCell ⟨w.heap.size, 0, none⟩ (.int .i64 xr)).setCell ⟨w.heap.size, 1, none⟩ (.int .i64 xa)) (w3.heap.size) 27 #[.int .i64 xr, .int .i64 xa, .int .i64 xd, .slice ax xs.length cx] from SVx.out.other (by omega) _ _)
    have SVy := Lib.hid (show Str ((wf.setCell ⟨w.heap.size, 0, none⟩ (.int .i64 xr)).setCell ⟨w.heap.size, 1, none⟩ (.int .i64 xa)) (w4.heap.size) 27 #[.int .i64 yr, .int .i64 ya, .int .i64 yd, .slice ay ys.length cy] from SVy.out.other (by omega) _ _)
    have SA := Lib.hid (show Str ((wf.setCell ⟨w.heap.size, 0, none⟩ (.int .i64 xr)).setCell ⟨w.heap.size, 1, none⟩ (.int .i64 xa)) (w.heap.size) 27 #[.int .i64 xr, .int .i64 xa, .int .i64 0, .slice none 0 0] from SA.out.set 1 _)
    have Hb := Lib.hid (Hb.out.setCell (p := ⟨w.heap.size, 1, none⟩) (by simp only; omega) (.int .i64 xa))
    have Oc := Lib.hid (Oc.out.set_other (B' := w.heap.size) (fun e => by have := Lc _ e; omega) 2 (.int .i64 xd))
    have Ox := Lib.hid (Ox.out.set_other (B' := w.heap.size) (fun e => by have := Lx _ e; omega) 2 (.int .i64 xd))
    have Oy := Lib.hid (Oy.out.set_other (B' := w.heap.size) (fun e => by have := Ly _ e; omega) 2 (.int .i64 xd))
    have SB := Lib.hid (show Str (((wf.setCell ⟨w.heap.size, 0, none⟩ (.int .i64 xr)).setCell ⟨w.heap.size, 1, none⟩ (.int .i64 xa)).setCell ⟨w.heap.size, 2, none⟩ (.int .i64 xd)) (w.heap.size + 1) 27 #[.int .i64 0, .int .i64 0, .int .i64 0, .slice none 0 0] from SB.out.other (by omega) _ _)
    have SVx := Lib.hid (show Str (((wf.setCell ⟨w.heap.size, 0, none⟩ (.int .i64 xr)).setCell ⟨w.heap.size, 1, none⟩ (.int .i64 xa)).setCell ⟨w.heap.size, 2, none⟩ (.int .i64 xd)) (w3.heap.size) 27 #[.int .i64 xr, .int .i64 xa, .int .i64 xd, .slice ax xs.length cx] from SVx.out.other (by omega) _ _)
    have SVy := Lib.hid (show Str (((wf.setCell ⟨w.heap.size, 0, none⟩ (.int .i64 xr)).setCell ⟨w.heap.size, 1, none⟩ (.int .i64 xa)).setCell ⟨w.heap.size, 2, none⟩ (.int .i64 xd)) (w4.heap.size) 27 #[.int .i64 yr, .int .i64 ya, .int .i64 yd, .slice ay ys.length cy] from SVy.out.other (by omega) _ _)
    have SA := Lib.hid (show Str (((wf.setCell ⟨w.heap.size, 0, none⟩ (.int .i64 xr)).setCell ⟨w.heap.size, 1, none⟩ (.int .i64 xa)).setCell ⟨w.heap.size, 2, none⟩ (.int .i64 xd)) (w.heap.size) 27 #[.int .i64 xr, .int .i64 xa, .int .i64 xd, .slice none 0 0] from SA.out.set 2 _)
    have Hb := Lib.hid (Hb.out.setCell (p := ⟨w.heap.size, 2, none⟩) (by simp only; omega) (.int .i64 xd))
    have Oc := Lib.hid (Oc.out.set_other (B' := w.heap.size) (fun e => by have := Lc _ e; omega) 3 (.slice ax xs.length cx))
    have Ox := Lib.hid (Ox.out.set_other (B' := w.heap.size) (fun e => by have := Lx _ e; omega) 3 (.slice ax xs.length cx))
    have Oy := Lib.hid (Oy.out.set_other (B' := w.heap.size) (fun e => by have := Ly _ e; omega) 3 (.slice ax xs.length cx))
    have SB := Lib.hid (show Str ((((wf.setCell ⟨w.heap.size, 0, none⟩ (.int .i64 xr)).setCell ⟨w.heap.size, 1, none⟩ (.int .i64 xa)).setCell ⟨w.heap.size, 2, none⟩ (.int .i64 xd)).setCell ⟨w.heap.size, 3, none⟩ (.slice ax xs.length cx)) (w.heap.size + 1) 27 #[.int .i64 0, .int .i64 0, .int .i64 0, .slice none 0 0] from SB.out.other (by omega) _ _)
    have SVx := Lib.hid (show Str ((((wf.setCell ⟨w.heap.size, 0, none⟩ (.int .i64 xr)).setCell ⟨w.heap.size, 1, none⟩ (.int .i64 xa)).setCell ⟨w.heap.size, 2, none⟩ (.int .i64 xd)).setCell ⟨w.heap.size, 3, none⟩ (.slice ax xs.length cx)) (w3.heap.size) 27 #[.int .i64 xr, .int .i64 xa, .int .i64 xd, .slice ax xs.length cx] from SVx.out.other (by omega) _ _)
    have SVy := Lib.hid (show Str ((((wf.setCell ⟨w.heap.size, 0, none⟩ (.int .i64 xr)).setCell ⟨w.heap.size, 1, none⟩ (.int .i64 xa)).setCell ⟨w.heap.size, 2, none⟩ (.int .i64 xd)).setCell ⟨w.heap.size, 3, none⟩ (.slice ax xs.length cx)) (w4.heap.size) 27 #[.int .i64 yr, .int .i64 ya, .int .i64 yd, .slice ay ys.length cy] from SVy.out.other (by omega) _ _)
    have SA := Lib.hid (show Str ((((wf.setCell ⟨w.heap.size, 0, none⟩ (.int .i64 xr)).setCell ⟨w.heap.size, 1, none⟩ (.int .i64 xa)).setCell ⟨w.heap.size, 2, none⟩ (.int .i64 xd)).setCell ⟨w.heap.size, 3, none⟩ (.slice ax xs.length cx)) (w.heap.size) 27 #[.int .i64 xr, .int .i64 xa, .int .i64 xd, .slice ax xs.length cx] from SA.out.set 3 _)
    have Hb := Lib.hid (Hb.out.setCell (p := ⟨w.heap.size, 3, none⟩) (by simp only; omega) (.slice ax xs.length cx))
    skip
    refine hK.out _ _ ⟨SVx.out.cell 0 (v := .int .i64 xr) rfl, SVx.out.cell 1 (v := .int .i64 xa) rfl, SVx.out.cell 2 (v := .int .i64 xd) rfl, SVx.out.cell 3 (v := .slice ax xs.length cx) rfl, SVy.out.cell 0 (v := .int .i64 yr) rfl, SVy.out.cell 1 (v := .int .i64 ya) rfl, SVy.out.cell 2 (v := .int .i64 yd) rfl, SVy.out.cell 3 (v := .slice ay ys.length cy) rfl⟩ (fun hH => ?_)
    clear hK K hH
    have hzg : ((((wf.setCell ⟨w.heap.size, 0, none⟩ (.int .i64 xr)).setCell ⟨w.heap.size, 1, none⟩ (.int .i64 xa)).setCell ⟨w.heap.size, 2, none⟩ (.int .i64 xd)).setCell ⟨w.heap.size, 3, none⟩ (.slice ax xs.length cx)).heap.size = wf.heap.size := by simp
    generalize ((((wf.setCell ⟨w.heap.size, 0, none⟩ (.int .i64 xr)).setCell ⟨w.heap.size, 1, none⟩ (.int .i64 xa)).setCell ⟨w.heap.size, 2, none⟩ (.int .i64 xd)).setCell ⟨w.heap.size, 3, none⟩ (.slice ax xs.length cx)) = wg at *
    try simp only [Act.put, List.setIfInBounds_toArray, List.set_cons_zero, List.set_cons_succ]
    have cB_0 := SB.out.cell 0 (v := .int .i64 0) rfl
    have cB_1 := SB.out.cell 1 (v := .int .i64 0) rfl
    have cB_2 := SB.out.cell 2 (v := .int .i64 0) rfl
    have cB_3 := SB.out.cell 3 (v := .slice none 0 0) rfl
    have fB_0 := SB.out.frozen 0
    have fB_1 := SB.out.frozen 1
    have fB_2 := SB.out.frozen 2
    have fB_3 := SB.out.frozen 3
    refine lastL rfl (by kernel_rfl) (by kernel_rfl) (by kernel_rfl) rfl (fun K hK => ?_)
    go_simp
    clear cB_0 cB_1 cB_2 cB_3 fB_0 fB_1 fB_2 fB_3
    have Oc := Lib.hid (Oc.out.set_other (B' := w.heap.size + 1) (fun e => by have := Lc _ e; omega) 0 (.int .i64 yr))
    have Ox := Lib.hid (Ox.out.set_other (B' := w.heap.size + 1) (fun e => by have := Lx _ e; omega) 0 (.int .i64 yr))
    have Oy := Lib.hid (Oy.out.set_other (B' := w.heap.size + 1) (fun e => by have := Ly _ e; omega) 0 (.int .i64 yr))
    have SA := Lib.hid (show Str (wg.setCell ⟨w.heap.size + 1, 0, none⟩ (.int .i64 yr)) (w.heap.size) 27 #[.int .i64 xr, .int .i64 xa, .int .i64 xd, .slice ax xs.length cx] from SA.out.other (by omega) _ _)
    have SVx := Lib.hid (show Str (wg.setCell ⟨w.heap.size + 1, 0, none⟩ (.int .i64 yr)) (w3.heap.size) 27 #[.int .i64 xr, .int .i64 xa, .int .i64 xd, .slice ax xs.length cx] from SVx.out.other (by omega) _ _)
    have SVy := Lib.hid (show Str (wg.setCell ⟨w.heap.size + 1, 0, none⟩ (.int .i64 yr)) (w4.heap.size) 27 #[.int .i64 yr, .int .i64 ya, .int .i64 yd, .slice ay ys.length cy] from SVy.out.other (by omega) _ _)
    have SB := Lib.hid (show Str (wg.setCell ⟨w.heap.size + 1, 0, none⟩ (.int .i64 yr)) (w.heap.size + 1) 27 #[.int .i64 yr, .int .i64 0, .int .i64 0, .slice none 0 0] from SB.out.set 0 _)
    have Hb := Lib.hid (Hb.out.setCell (p := ⟨w.heap.size + 1, 0, none⟩) (by simp only; omega) (.int .i64 yr))
    have Oc := Lib.hid (Oc.out.set_other (B' := w.heap.size + 1) (fun e => by have := Lc _ e; omega) 1 (.int .i64 ya))
    have Ox := Lib.hid (Ox.out.set_other (B' := w.heap.size + 1) (fun e => by have := Lx _ e; omega) 1 (.int .i64 ya))
    have Oy := Lib.hid (Oy.out.set_other (B' := w.heap.size + 1) (fun e => by have := Ly _ e; omega) 1 (.int .i64 ya))
    have SA := Lib.hid (show Str ((wg.setCell ⟨w.heap.size + 1, 0, none⟩ (.int .i64 yr)).setCell ⟨w.heap.size + 1, 1, none⟩ (.int .i64 ya)) (w.heap.size) 27 #[.int .i64 xr, .int .i64 xa, .int .i64 xd, .slice ax xs.length cx] from SA.out.other (by omega) _ _)
    have SVx := Lib.hid (show Str ((wg.setCell ⟨w.heap.size + 1, 0, none⟩ (.int .i64 yr)).setCell ⟨w.heap.size + 1, 1, none⟩ (.int .i64 ya)) (w3.heap.size) 27 #[.int .i64 xr, .int .i64 xa, .int .i64 xd, .slice ax xs.length cx] from SVx.out.other (by omega) _ _)
    have SVy := Lib.hid (show Str ((wg.setCell ⟨w.heap.size + 1, 0, none⟩ (.int .i64 yr)).setCell ⟨w.heap.size + 1, 1, none⟩ (.int .i64 ya)) (w4.heap.size) 27 #[.int .i64 yr, .int .i64 ya, .int .i64 yd, .slice ay ys.length cy] from SVy.out.other (by omega) _ _)
    have SB := Lib.hid (show Str ((wg.setCell ⟨w.heap.size + 1, 0, none⟩ (.int .i64 yr)).setCell ⟨w.heap.size + 1, 1, none⟩ (.int .i64 ya)) (w.heap.size + 1) 27 #[.int .i64 yr, .int .i64 ya, .int .i64 0, .slice none 0 0] from SB.out.set 1 _)
    have Hb := Lib.hid (Hb.out.setCell (p := ⟨w.heap.size + 1, 1, none⟩) (by simp only; omega) (.int .i64 ya))
    have Oc := Lib.hid (Oc.out.set_other (B' := w.heap.size + 1) (fun e => by have := Lc _ e; omega) 2 (.int .i64 yd))
    have Ox := Lib.hid (Ox.out.set_other (B' := w.heap.size + 1) (fun e => by have := Lx _ e; omega) 2 (.int .i64 yd))
    have Oy := Lib.hid (Oy.out.set_other (B' := w.heap.size + 1) (fun e => by have := Ly _ e; omega) 2 (.int .i64 yd))
    have SA := Lib.hid (show Str (((wg.setCell ⟨w.heap.size + 1, 0, none⟩ (.int .i64 yr)).setCell ⟨w.heap.size + 1, 1, none⟩ (.int .i64 ya)).setCell ⟨w.heap.size + 1, 2, none⟩ (.int .i64 yd)) (w.heap.size) 27 #[.int .i64 xr, .int .i64 xa, .int .i64 xd, .slice ax xs.length cx] from SA.out.other (by omega) _ _)
    have SVx := Lib.hid (show Str (((wg.setCell ⟨w.heap.size + 1, 0, none⟩ (.int .i64 yr)).setCell ⟨w.heap.size + 1, 1, none⟩ (.int .i64 ya)).setCell ⟨w.heap.size + 1, 2, none⟩ (.int .i64 yd)) (w3.heap.size) 27 #[.int .i64 xr, .int .i64 xa, .int .i64 xd, .slice ax xs.length cx] from SVx.out.other (by omega) _ _)
    have SVy := Lib.hid (show Str (((wg.setCell ⟨w.heap.size + 1, 0, none⟩ (.int .i64 yr)).setCell ⟨w.heap.size + 1, 1, none⟩ (.int .i64 ya)).setCell ⟨w.heap.size + 1, 2, none⟩ (.int .i64 yd)) (w4.heap.size) 27 #[.int .i64 yr, .int .i64 ya, .int .i64 yd, .slice ay ys.length cy] from SVy.out.other (by omega) _ _)
    have SB := Lib.hid (show Str (((wg.setCell ⟨w.heap.size + 1, 0, none⟩ (.int .i64 yr)).setCell ⟨w.heap.size + 1, 1, none⟩ (.int .i64 ya)).setCell ⟨w.heap.size + 1, 2, none⟩ (.int .i64 yd)) (w.heap.size + 1) 27 #[.int .i64 yr, .int .i64 ya, .int .i64 yd, .slice none 0 0] from SB.out.set 2 _)
    have Hb := Lib.hid (Hb.out.setCell (p := ⟨w.heap.size + 1, 2, none⟩) (by simp only; omega) (.int .i64 yd))
    have Oc := Lib.hid (Oc.out.set_other (B' := w.heap.size + 1) (fun e => by have := Lc _ e; omega) 3 (.slice ay ys.length cy))
    have Ox := Lib.hid (Ox.out.set_other (B' := w.heap.size + 1) (fun e => by have := Lx _ e; omega) 3 (.slice ay ys.length cy))
    have Oy := Lib.hid (Oy.out.set_other (B' := w.heap.size + 1) (fun e => by have := Ly _ e; omega) 3 (.slice ay ys.length cy))
    have SA := Lib.hid (show Str ((((wg.setCell ⟨w.heap.size + 1, 0, none⟩ (.int .i64 yr)).setCell ⟨w.heap.size + 1, 1, none⟩ (.int .i64 ya)).setCell ⟨w.heap.size + 1, 2, none⟩ (.int .i64 yd)).setCell ⟨w.heap.size + 1, 3, none⟩ (.slice ay ys.length cy)) (w.heap.size) 27 #[.int .i64 xr, .int .i64 xa, .int .i64 xd, .slice ax xs.length cx] from SA.out.other (by omega) _ _)
    have SVx := Lib.hid (show Str ((((wg.setCell ⟨w.heap.size + 1, 0, none⟩ (.int .i64 yr)).setCell ⟨w.heap.size + 1, 1, none⟩ (.int .i64 ya)).setCell ⟨w.heap.size + 1, 2, none⟩ (.int .i64 yd)).setCell ⟨w.heap.size + 1, 3, none⟩ (.slice ay ys.length cy)) (w3.heap.size) 27 #[.int .i64 xr, .int .i64 xa, .int .i64 xd, .slice ax xs.length cx] from SVx.out.other (by omega) _ _)
    have SVy := Lib.hid (show Str ((((wg.setCell ⟨w.heap.size + 1, 0, none⟩ (.int .i64 yr)).setCell ⟨w.heap.size + 1, 1, none⟩ (.int .i64 ya)).setCell ⟨w.heap.size + 1, 2, none⟩ (.int .i64 yd)).setCell ⟨w.heap.size + 1, 3, none⟩ (.slice ay ys.length cy)) (w4.heap.size) 27 #[.int .i64 yr, .int .i64 ya, .int .i64 yd, .slice ay ys.length cy] from SVy.out.other (by omega) _ _)
    have SB := Lib.hid (show Str ((((wg.setCell ⟨w.heap.size + 1, 0, none⟩ (.int .i64 yr)).setCell ⟨w.heap.size + 1, 1, none⟩ (.int .i64 ya)).setCell ⟨w.heap.size + 1, 2, none⟩ (.int .i64 yd)).setCell ⟨w.heap.size + 1, 3, none⟩ (.slice ay ys.length cy)) (w.heap.size + 1) 27 #[.int .i64 yr, .int .i64 ya, .int .i64 yd, .slice ay ys.length cy] from SB.out.set 3 _)
    have Hb := Lib.hid (Hb.out.setCell (p := ⟨w.heap.size + 1, 3, none⟩) (by simp only; omega) (.slice ay ys.length cy))
    skip
    refine hK.out _ _ ?_
    clear hK K
    try simp only [Act.put]
    generalize ((((wg.setCell ⟨w.heap.size + 1, 0, none⟩ (.int .i64 yr)).setCell ⟨w.heap.size + 1, 1, none⟩ (.int .i64 ya)).setCell ⟨w.heap.size + 1, 2, none⟩ (.int .i64 yd)).setCell ⟨w.heap.size + 1, 3, none⟩ (.slice ay ys.length cy)) = wh at *
    have cA_0 := SA.out.cell 0 (v := .int .i64 xr) rfl
    have cA_1 := SA.out.cell 1 (v := .int .i64 xa) rfl
    have cA_2 := SA.out.cell 2 (v := .int .i64 xd) rfl
    have cA_3 := SA.out.cell 3 (v := .slice ax xs.length cx) rfl
    have cB_0 := SB.out.cell 0 (v := .int .i64 yr) rfl
    have cB_1 := SB.out.cell 1 (v := .int .i64 ya) rfl
    have cB_2 := SB.out.cell 2 (v := .int .i64 yd) rfl
    have cB_3 := SB.out.cell 3 (v := .slice ay ys.length cy) rfl
    go_wp2
    refine bodyPost_ret (v := .tuple #[.slice ac c.length cc, .agg #[.int .i64 xr, .int .i64 xa, .int .i64 xd, .slice ax xs.length cx], .agg #[.int .i64 yr, .int .i64 ya, .int .i64 yd, .slice ay ys.length cy]]) (by simp [results, Try.f8, go_sem, cA_0, cA_1, cA_2, cA_3, cB_0, cB_1, cB_2, cB_3]) rfl ?_
    exact ⟨ac, cc, c, ⟨xr, xa, xd⟩, ⟨yr, ya, yd⟩, ax, cx, xs, ay, cy, ys, rfl, hvx, hvy, Oc.out.mono (by omega), hcl, hcs, Ox.out.mono (by omega), by omega, Oy.out.mono (by omega), by omega, Hb.out⟩
  have cVx_0 := SVx.out.cell 0 (v := .int .i64 xr) rfl
  have cVx_1 := SVx.out.cell 1 (v := .int .i64 xa) rfl
  have cVx_2 := SVx.out.cell 2 (v := .int .i64 xd) rfl
  have cVx_3 := SVx.out.cell 3 (v := .slice ax xs.length cx) rfl
  have cVy_0 := SVy.out.cell 0 (v := .int .i64 yr) rfl
  have cVy_1 := SVy.out.cell 1 (v := .int .i64 ya) rfl
  have cVy_2 := SVy.out.cell 2 (v := .int .i64 yd) rfl
  have cVy_3 := SVy.out.cell 3 (v := .slice ay ys.length cy) rfl
  have fVy_0 := SVy.out.frozen 0
  have fVy_1 := SVy.out.frozen 1
  have fVy_2 := SVy.out.frozen 2
  have fVy_3 := SVy.out.frozen 3
  have Oc := Lib.hid (Oc.out.set_other (B' := w4.heap.size) (fun e => by have := Lc _ e; omega) 0 (.int .i64 xr))
  have Ox := Lib.hid (Ox.out.set_other (B' := w4.heap.size) (fun e => by have := Lx _ e; omega) 0 (.int .i64 xr))
  have Oy := Lib.hid (Oy.out.set_other (B' := w4.heap.size) (fun e => by have := Ly _ e; omega) 0 (.int .i64 xr))
  have SA := Lib.hid (show Str (w5.setCell ⟨w4.heap.size, 0, none⟩ (.int .i64 xr)) (w.heap.size) 27 #[.int .i64 0, .int .i64 0, .int .i64 0, .slice none 0 0] from SA.out.other (by omega) _ _)
  have SB := Lib.hid (show Str (w5.setCell ⟨w4.heap.size, 0, none⟩ (.int .i64 xr)) (w.heap.size + 1) 27 #[.int .i64 0, .int .i64 0, .int .i64 0, .slice none 0 0] from SB.out.other (by omega) _ _)
  have SVx := Lib.hid (show Str (w5.setCell ⟨w4.heap.size, 0, none⟩ (.int .i64 xr)) (w3.heap.size) 27 #[.int .i64 xr, .int .i64 xa, .int .i64 xd, .slice ax xs.length cx] from SVx.out.other (by omega) _ _)
  have SVy := Lib.hid (show Str (w5.setCell ⟨w4.heap.size, 0, none⟩ (.int .i64 xr)) (w4.heap.size) 27 #[.int .i64 xr, .int .i64 ya, .int .i64 yd, .slice ay ys.length cy] from SVy.out.set 0 _)
  have Hr := Lib.hid (Hr.out.kept (grownBy_set w5 (w4.heap.size) 0 (.int .i64 xr)) (fun g e => by cases e; omega))
  have Hb := Lib.hid (Hb.out.setCell (p := ⟨w4.heap.size, 0, none⟩) (by simp only; omega) (.int .i64 xr))
  have Oc := Lib.hid (Oc.out.set_other (B' := w4.heap.size) (fun e => by have := Lc _ e; omega) 1 (.int .i64 xa))
  have Ox := Lib.hid (Ox.out.set_other (B' := w4.heap.size) (fun e => by have := Lx _ e; omega) 1 (.int .i64 xa))
  have Oy := Lib.hid (Oy.out.set_other (B' := w4.heap.size) (fun e => by have := Ly _ e; omega) 1 (.int .i64 xa))
  have SA := Lib.hid (show Str ((w5.setCell ⟨w4.heap.size, 0, none⟩ (.int .i64 xr)).setCell ⟨w4.heap.size, 1, none⟩ (.int .i64 xa)) (w.heap.size) 27 #[.int .i64 0, .int .i64 0, .int .i64 0, .slice none 0 0] from SA.out.other (by omega) _ _)
  have SB := Lib.hid (show Str ((w5.setCell ⟨w4.heap.size, 0, none⟩ (.int .i64 xr)).setCell ⟨w4.heap.size, 1, none⟩ (.int .i64 xa)) (w.heap.size + 1) 27 #[.int .i64 0, .int .i64 0, .int .i64 0, .slice none 0 0] from SB.out.other (by omega) _ _)
  have SVx := Lib.hid (show Str ((w5.setCell ⟨w4.heap.size, 0, none⟩ (.int .i64 xr)).setCell ⟨w4.heap.size, 1, none⟩ (.int .i64 xa)) (w3.heap.size) 27 #[.int .i64 xr, .int .i64 xa, .int .i64 xd, .slice ax xs.length cx] from SVx.out.other (by omega) _ _)
  have SVy := Lib.hid (show Str ((w5.setCell ⟨w4.heap.size, 0, none⟩ (.int .i64 xr)).setCell ⟨w4.heap.size, 1, none⟩ (.int .i64 xa)) (w4.heap.size) 27 #[.int .i64 xr, .int .i64 xa, .int .i64 yd, .slice ay ys.length cy] from SVy.out.set 1 _)
  have Hr := Lib.hid (Hr.out.kept (grownBy_set (w5.setCell ⟨w4.heap.size, 0, none⟩ (.int .i64 xr)) (w4.heap.size) 1 (.int .i64 xa)) (fun g e => by cases e; omega))
  have Hb := Lib.hid (Hb.out.setCell (p := ⟨w4.heap.size, 1, none⟩) (by simp only; omega) (.int .i64 xa))
  have Oc := Lib.hid (Oc.out.set_other (B' := w4.heap.size) (fun e => by have := Lc _ e; omega) 2 (.int .i64 xd))
  have Ox := Lib.hid (Ox.out.set_other (B' := w4.heap.size) (fun e => by have := Lx _ e; omega) 2 (.int .i64 xd))
  have Oy := Lib.hid (Oy.out.set_other (B' := w4.heap.size) (fun e => by have := Ly _ e; omega) 2 (.int .i64 xd))
  have SA := Lib.hid (show Str (((w5.setCell ⟨w4.heap.size, 0, none⟩ (.int .i64 xr)).setCell ⟨w4.heap.size, 1, none⟩ (.int .i64 xa)).setCell ⟨w4.heap.size, 2, none⟩ (.int .i64 xd)) (w.heap.size) 27 #[.int .i64 0, .int .i64 0, .int .i64 0, .slice none 0 0] from SA.out.other (by omega) _ _)
  have SB := Lib.hid (show Str (((w5.setCell ⟨w4.heap.size, 0, none⟩ (.int .i64 xr)).setCell ⟨w4.heap.size, 1, none⟩ (.int .i64 xa)).setCell ⟨w4.heap.size, 2, none⟩ (.int .i64 xd)) (w.heap.size + 1) 27 #[.int .i64 0, .int .i64 0, .int .i64 0, .slice none 0 0] from SB.out.other (by omega) _ _)
  have SVx := Lib.hid (show Str (((w5.setCell ⟨w4.heap.size, 0, none⟩ (.int .i64 xr)).setCell ⟨w4.heap.size, 1, none⟩ (.int .i64 xa)).setCell ⟨w4.heap.size, 2, none⟩ (.int .i64 xd)) (w3.heap.size) 27 #[.int .i64 xr, .int .i64 xa, .int .i64 xd, .slice ax xs.length cx] from SVx.out.other (by omega) _ _)
  have SVy := Lib.hid (show Str (((w5.setCell ⟨w4.heap.size, 0, none⟩ (.int .i64 xr)).setCell ⟨w4.heap.size, 1, none⟩ (.int .i64 xa)).setCell ⟨w4.heap.size, 2, none⟩ (.int .i64 xd)) (w4.heap.size) 27 #[.int .i64 xr, .int .i64 xa, .int .i64 xd, .slice ay ys.length cy] from SVy.out.set 2 _)
  have Hr := Lib.hid (Hr.out.kept (grownBy_set ((w5.setCell ⟨w4.heap.size, 0, none⟩ (.int .i64 xr)).setCell ⟨w4.heap.size, 1, none⟩ (.int .i64 xa)) (w4.heap.size) 2 (.int .i64 xd)) (fun g e => by cases e; omega))
  have Hb := Lib.hid (Hb.out.setCell (p := ⟨w4.heap.size, 2, none⟩) (by simp only; omega) (.int .i64 xd))
  skip
  have hzw : (((w5.setCell ⟨w4.heap.size, 0, none⟩ (.int .i64 xr)).setCell ⟨w4.heap.size, 1, none⟩ (.int .i64 xa)).setCell ⟨w4.heap.size, 2, none⟩ (.int .i64 xd)).heap.size = w5.heap.size := by simp
  go_wp2_with fail
  generalize (((w5.setCell ⟨w4.heap.size, 0, none⟩ (.int .i64 xr)).setCell ⟨w4.heap.size, 1, none⟩ (.int .i64 xa)).setCell ⟨w4.heap.size, 2, none⟩ (.int .i64 xd)) = w6 at *
  clear cVx_0 cVx_1 cVx_2 cVx_3 cVy_0 cVy_1 cVy_2 cVy_3 fVy_0 fVy_1 fVy_2 fVy_3
  have Oc := Lib.hid (show Own 3 w6.drew _ _ _ from Oc.out.drewN 1)
  have Ox := Lib.hid (show Own 3 w6.drew _ _ _ from Ox.out.drewN 1)
  have Oy := Lib.hid (show Own 3 w6.drew _ _ _ from Oy.out.drewN 1)
  have SA := Lib.hid (show Str w6.drew (w.heap.size) 27 #[.int .i64 0, .int .i64 0, .int .i64 0, .slice none 0 0] from SA.out)
  have SB := Lib.hid (show Str w6.drew (w.heap.size + 1) 27 #[.int .i64 0, .int .i64 0, .int .i64 0, .slice none 0 0] from SB.out)
  have SVx := Lib.hid (show Str w6.drew (w3.heap.size) 27 #[.int .i64 xr, .int .i64 xa, .int .i64 xd, .slice ax xs.length cx] from SVx.out)
  have SVy := Lib.hid (show Str w6.drew (w4.heap.size) 27 #[.int .i64 xr, .int .i64 xa, .int .i64 xd, .slice ay ys.length cy] from SVy.out)
  have Hr := Lib.hid (show Rdr w6.drew R _ from Hr.out.drewN 1)
  have Hb := Lib.hid (Hb.out.drew)
  have hz7 : w6.drew.heap.size = w6.heap.size := rfl
  refine wp_region_L 8 (fun w' => w'.cell? ⟨w3.heap.size, 0, none⟩ = some (.int .i64 xr) ∧ w'.cell? ⟨w3.heap.size, 1, none⟩ = some (.int .i64 xa) ∧ w'.cell? ⟨w3.heap.size, 2, none⟩ = some (.int .i64 xd) ∧ w'.cell? ⟨w3.heap.size, 3, none⟩ = some (.slice ax xs.length cx) ∧ w'.cell? ⟨w4.heap.size, 0, none⟩ = some (.int .i64 xr) ∧ w'.cell? ⟨w4.heap.size, 1, none⟩ = some (.int .i64 xa) ∧ w'.cell? ⟨w4.heap.size, 2, none⟩ = some (.int .i64 xd) ∧ w'.cell? ⟨w4.heap.size, 3, none⟩ = some (.slice ay ys.length cy)) (by kernel_rfl) ⟨SVx.out.cell 0 (v := .int .i64 xr) rfl, SVx.out.cell 1 (v := .int .i64 xa) rfl, SVx.out.cell 2 (v := .int .i64 xd) rfl, SVx.out.cell 3 (v := .slice ax xs.length cx) rfl, SVy.out.cell 0 (v := .int .i64 xr) rfl, SVy.out.cell 1 (v := .int .i64 xa) rfl, SVy.out.cell 2 (v := .int .i64 xd) rfl, SVy.out.cell 3 (v := .slice ay ys.length cy) rfl⟩ (fun hH => ?_)
  generalize w6.drew = w7 at *
  refine takeL 0 (v := ?vt4) rfl (by kernel_rfl) (by kernel_rfl) (by kernel_rfl) (by kernel_rfl) (by kernel_rfl) (fun _ _ _ h => h) hH rfl ?yt4 ?rt4
  case yt4 => intro W hSw; go_simp; try with_reducible rfl
  try simp only [Act.put, List.setIfInBounds_toArray, List.set_cons_zero, List.set_cons_succ]
  refine takeL 1 (v := ?vt5) rfl (by kernel_rfl) (by kernel_rfl) (by kernel_rfl) (by kernel_rfl) (by kernel_rfl) (fun _ _ _ h => h) hH rfl ?yt5 ?rt5
  case yt5 => intro W hSw; go_simp; try with_reducible rfl
  try simp only [Act.put, List.setIfInBounds_toArray, List.set_cons_zero, List.set_cons_succ]
  refine takeL 2 (v := ?vt6) rfl (by kernel_rfl) (by kernel_rfl) (by kernel_rfl) (by kernel_rfl) (by kernel_rfl) (fun _ _ _ h => h) hH rfl ?yt6 ?rt6
  case yt6 => intro W hSw; go_simp; try with_reducible rfl
  try simp only [Act.put, List.setIfInBounds_toArray, List.set_cons_zero, List.set_cons_succ]
  refine takeL 3 (v := ?vt7) rfl (by kernel_rfl) (by kernel_rfl) (by kernel_rfl) (by kernel_rfl) (by kernel_rfl) (fun _ _ _ h => h) hH rfl ?yt7 ?rt7
  case yt7 => intro W hSw; go_simp; try with_reducible rfl
  try simp only [Act.put, List.setIfInBounds_toArray, List.set_cons_zero, List.set_cons_succ]
  refine callL 4 rfl (by kernel_rfl) rfl (fun K hK => ?_)
  go_simp
  go_at_call 31
  refine (pick_any R 3 (p4 + 1) _ (by omega) Hr.out (by omega)).mono ?_
  rintro e w8 ⟨k, rfl, hk0, hk1, hr', hg'⟩
  have hs8 := hg'.size
  have Oc := Lib.hid (Oc.out.kept hg' (.inr (fun e => by have := Lc _ e; omega)))
  have Ox := Lib.hid (Ox.out.kept hg' (.inr (fun e => by have := Lx _ e; omega)))
  have Oy := Lib.hid (Oy.out.kept hg' (.inr (fun e => by have := Ly _ e; omega)))
  have SA := Lib.hid (show Str w8 (w.heap.size) 27 #[.int .i64 0, .int .i64 0, .int .i64 0, .slice none 0 0] from SA.out.kept hg' (by simp; omega))
  have SB := Lib.hid (show Str w8 (w.heap.size + 1) 27 #[.int .i64 0, .int .i64 0, .int .i64 0, .slice none 0 0] from SB.out.kept hg' (by simp; omega))
  have SVx := Lib.hid (show Str w8 (w3.heap.size) 27 #[.int .i64 xr, .int .i64 xa, .int .i64 xd, .slice ax xs.length cx] from SVx.out.kept hg' (by simp; omega))
  have SVy := Lib.hid (show Str w8 (w4.heap.size) 27 #[.int .i64 xr, .int .i64 xa, .int .i64 xd, .slice ay ys.length cy] from SVy.out.kept hg' (by simp; omega))
  have Hb := Lib.hid (Hb.out.grown hg' Hb.out.size (fun g e => by cases e; omega))
  have Hr := Lib.hid hr'
  clear hr' hg'
  refine hK.out _ _ ⟨SVx.out.cell 0 (v := .int .i64 xr) rfl, SVx.out.cell 1 (v := .int .i64 xa) rfl, SVx.out.cell 2 (v := .int .i64 xd) rfl, SVx.out.cell 3 (v := .slice ax xs.length cx) rfl, SVy.out.cell 0 (v := .int .i64 xr) rfl, SVy.out.cell 1 (v := .int .i64 xa) rfl, SVy.out.cell 2 (v := .int .i64 xd) rfl, SVy.out.cell 3 (v := .slice ay ys.length cy) rfl⟩ (fun hH => ?_)
  clear hK K
  try simp only [Act.put, List.setIfInBounds_toArray, List.set_cons_zero, List.set_cons_succ]
  have hwr : IntKind.i64.wrap (xd + k) = xd + k := IntWalk.i64_in _ (by omega)
  refine takeL 5 (v := ?vt8) rfl (by kernel_rfl) (by kernel_rfl) (by kernel_rfl) (by kernel_rfl) (by kernel_rfl) (fun _ _ _ h => h) hH rfl ?yt8 ?rt8
  case yt8 => intro W hSw; go_simp; try with_reducible rfl
  try simp only [Act.put, List.setIfInBounds_toArray, List.set_cons_zero, List.set_cons_succ]
  refine callL 6 rfl (by kernel_rfl) rfl (fun K hK => ?_)
  go_simp
  refine hK.out _ _ hH (fun hH => ?_)
  clear hK K
  try simp only [Act.put, List.setIfInBounds_toArray, List.set_cons_zero, List.set_cons_succ]
  refine takeL 7 (v := ?vt9) rfl (by kernel_rfl) (by kernel_rfl) (by kernel_rfl) (by kernel_rfl) (by kernel_rfl) (fun _ _ _ h => h) hH rfl ?yt9 ?rt9
  case yt9 => intro W hSw; go_simp; try with_reducible rfl
  try simp only [Act.put, List.setIfInBounds_toArray, List.set_cons_zero, List.set_cons_succ]
  have cVy_0 := SVy.out.cell 0 (v := .int .i64 xr) rfl
  have cVy_1 := SVy.out.cell 1 (v := .int .i64 xa) rfl
  have cVy_2 := SVy.out.cell 2 (v := .int .i64 xd) rfl
  have cVy_3 := SVy.out.cell 3 (v := .slice ay ys.length cy) rfl
  have fVy_0 := SVy.out.frozen 0
  have fVy_1 := SVy.out.frozen 1
  have fVy_2 := SVy.out.frozen 2
  have fVy_3 := SVy.out.frozen 3
  refine lastL rfl (by kernel_rfl) (by kernel_rfl) (by kernel_rfl) rfl (fun K hK => ?_)
  go_simp
  clear cVy_0 cVy_1 cVy_2 cVy_3 fVy_0 fVy_1 fVy_2 fVy_3
  have Oc := Lib.hid (Oc.out.set_other (B' := w4.heap.size) (fun e => by have := Lc _ e; omega) 2 (.int .i64 (xd + k)))
  have Ox := Lib.hid (Ox.out.set_other (B' := w4.heap.size) (fun e => by have := Lx _ e; omega) 2 (.int .i64 (xd + k)))
  have Oy := Lib.hid (Oy.out.set_other (B' := w4.heap.size) (fun e => by have := Ly _ e; omega) 2 (.int .i64 (xd + k)))
  have SA := Lib.hid (show Str (w8.setCell ⟨w4.heap.size, 2, none⟩ (.int .i64 (xd + k))) (w.heap.size) 27 #[.int .i64 0, .int .i64 0, .int .i64 0, .slice none 0 0] from SA.out.other (by omega) _ _)
  have SB := Lib.hid (show Str (w8.setCell ⟨w4.heap.size, 2, none⟩ (.int .i64 (xd + k))) (w.heap.size + 1) 27 #[.int .i64 0, .int .i64 0, .int .i64 0, .slice none 0 0] from SB.out.other (by omega) _ _)
  have SVx := Lib.hid (show Str (w8.setCell ⟨w4.heap.size, 2, none⟩ (.int .i64 (xd + k))) (w3.heap.size) 27 #[.int .i64 xr, .int .i64 xa, .int .i64 xd, .slice ax xs.length cx] from SVx.out.other (by omega) _ _)
  have SVy := Lib.hid (show Str (w8.setCell ⟨w4.heap.size, 2, none⟩ (.int .i64 (xd + k))) (w4.heap.size) 27 #[.int .i64 xr, .int .i64 xa, .int .i64 (xd + k), .slice ay ys.length cy] from SVy.out.set 2 _)
  have Hr := Lib.hid (Hr.out.kept (grownBy_set w8 (w4.heap.size) 2 (.int .i64 (xd + k))) (fun g e => by cases e; omega))
  have Hb := Lib.hid (Hb.out.setCell (p := ⟨w4.heap.size, 2, none⟩) (by simp only; omega) (.int .i64 (xd + k)))
  skip
  refine hK.out _ _ ?_
  clear hK K hH
  try simp only [Act.put]
  have hz9 : (w8.setCell ⟨w4.heap.size, 2, none⟩ (.int .i64 (xd + k))).heap.size = w8.heap.size := by simp
  generalize (w8.setCell ⟨w4.heap.size, 2, none⟩ (.int .i64 (xd + k))) = w9 at *
  clear Hr
  have cVx_0 := SVx.out.cell 0 (v := .int .i64 xr) rfl
  have cVx_1 := SVx.out.cell 1 (v := .int .i64 xa) rfl
  have cVx_2 := SVx.out.cell 2 (v := .int .i64 xd) rfl
  have cVx_3 := SVx.out.cell 3 (v := .slice ax xs.length cx) rfl
  have cVy_0 := SVy.out.cell 0 (v := .int .i64 xr) rfl
  have cVy_1 := SVy.out.cell 1 (v := .int .i64 xa) rfl
  have cVy_2 := SVy.out.cell 2 (v := .int .i64 (xd + k)) rfl
  have cVy_3 := SVy.out.cell 3 (v := .slice ay ys.length cy) rfl
  go_wp2_with fail
  clear cVx_0 cVx_1 cVx_2 cVx_3 cVy_0 cVy_1 cVy_2 cVy_3
  have hdr : w9.grownBy w9.drew none := below_grown ((Below.refl _ _).drew)
  have Oc := Lib.hid (show Own 3 w9.drew _ _ _ from Oc.out.drewN 1)
  have Ox := Lib.hid (show Own 3 w9.drew _ _ _ from Ox.out.drewN 1)
  have Oy := Lib.hid (show Own 3 w9.drew _ _ _ from Oy.out.drewN 1)
  have SA := Lib.hid (show Str w9.drew (w.heap.size) 27 #[.int .i64 0, .int .i64 0, .int .i64 0, .slice none 0 0] from SA.out)
  have SB := Lib.hid (show Str w9.drew (w.heap.size + 1) 27 #[.int .i64 0, .int .i64 0, .int .i64 0, .slice none 0 0] from SB.out)
  have SVx := Lib.hid (show Str w9.drew (w3.heap.size) 27 #[.int .i64 xr, .int .i64 xa, .int .i64 xd, .slice ax xs.length cx] from SVx.out)
  have SVy := Lib.hid (show Str w9.drew (w4.heap.size) 27 #[.int .i64 xr, .int .i64 xa, .int .i64 (xd + k), .slice ay ys.length cy] from SVy.out)
  have Hb := Lib.hid (Hb.out.drew)
  have hzwf : w9.drew.heap.size = w9.heap.size := rfl
  clear hdr
  refine wp_region_L 5 (fun w' => w'.cell? ⟨w3.heap.size, 0, none⟩ = some (.int .i64 xr) ∧ w'.cell? ⟨w3.heap.size, 1, none⟩ = some (.int .i64 xa) ∧ w'.cell? ⟨w3.heap.size, 2, none⟩ = some (.int .i64 xd) ∧ w'.cell? ⟨w3.heap.size, 3, none⟩ = some (.slice ax xs.length cx) ∧ w'.cell? ⟨w4.heap.size, 0, none⟩ = some (.int .i64 xr) ∧ w'.cell? ⟨w4.heap.size, 1, none⟩ = some (.int .i64 xa) ∧ w'.cell? ⟨w4.heap.size, 2, none⟩ = some (.int .i64 (xd + k)) ∧ w'.cell? ⟨w4.heap.size, 3, none⟩ = some (.slice ay ys.length cy)) (by kernel_rfl) ⟨SVx.out.cell 0 (v := .int .i64 xr) rfl, SVx.out.cell 1 (v := .int .i64 xa) rfl, SVx.out.cell 2 (v := .int .i64 xd) rfl, SVx.out.cell 3 (v := .slice ax xs.length cx) rfl, SVy.out.cell 0 (v := .int .i64 xr) rfl, SVy.out.cell 1 (v := .int .i64 xa) rfl, SVy.out.cell 2 (v := .int .i64 (xd + k)) rfl, SVy.out.cell 3 (v := .slice ay ys.length cy) rfl⟩ (fun hH => ?_)
  generalize w9.drew = wf at *
  refine takeL 0 (v := ?vt10) rfl (by kernel_rfl) (by kernel_rfl) (by kernel_rfl) (by kernel_rfl) (by kernel_rfl) (fun _ _ _ h => h) hH rfl ?yt10 ?rt10
  case yt10 => intro W hSw; go_simp; try with_reducible rfl
  try simp only [Act.put, List.setIfInBounds_toArray, List.set_cons_zero, List.set_cons_succ]
  refine takeL 1 (v := ?vt11) rfl (by kernel_rfl) (by kernel_rfl) (by kernel_rfl) (by kernel_rfl) (by kernel_rfl) (fun _ _ _ h => h) hH rfl ?yt11 ?rt11
  case yt11 => intro W hSw; go_simp; try with_reducible rfl
  try simp only [Act.put, List.setIfInBounds_toArray, List.set_cons_zero, List.set_cons_succ]
  refine takeL 2 (v := ?vt12) rfl (by kernel_rfl) (by kernel_rfl) (by kernel_rfl) (by kernel_rfl) (by kernel_rfl) (fun _ _ _ h => h) hH rfl ?yt12 ?rt12
  case yt12 => intro W hSw; go_simp; try with_reducible rfl
  try simp only [Act.put, List.setIfInBounds_toArray, List.set_cons_zero, List.set_cons_succ]
  refine callL 3 rfl (by kernel_rfl) rfl (fun K hK => ?_)
  go_simp
  refine hK.out _ _ hH (fun hH => ?_)
  clear hK K
  try simp only [Act.put, List.setIfInBounds_toArray, List.set_cons_zero, List.set_cons_succ]
  have cA_0 := SA.out.cell 0 (v := .int .i64 0) rfl
  have cA_1 := SA.out.cell 1 (v := .int .i64 0) rfl
  have cA_2 := SA.out.cell 2 (v := .int .i64 0) rfl
  have cA_3 := SA.out.cell 3 (v := .slice none 0 0) rfl
  have fA_0 := SA.out.frozen 0
  have fA_1 := SA.out.frozen 1
  have fA_2 := SA.out.frozen 2
  have fA_3 := SA.out.frozen 3
  refine callL 4 rfl (by kernel_rfl) rfl (fun K hK => ?_)
  go_simp
  clear cA_0 cA_1 cA_2 cA_3 fA_0 fA_1 fA_2 fA_3
  have Oc := Lib.hid (Oc.out.set_other (B' := w.heap.size) (fun e => by have := Lc _ e; omega) 0 (.int .i64 xr))
  have Ox := Lib.hid (Ox.out.set_other (B' := w.heap.size) (fun e => by have := Lx _ e; omega) 0 (.int .i64 xr))
  have Oy := Lib.hid (Oy.out.set_other (B' := w.heap.size) (fun e => by have := Ly _ e; omega) 0 (.int .i64 xr))
  have SB := Lib.hid (show Str (wf.setCell ⟨w.heap.size, 0, none⟩ (.int .i64 xr)) (w.heap.size + 1) 27 #[.int .i64 0, .int .i64 0, .int .i64 0, .slice none 0 0] from SB.out.other (by omega) _ _)
  have SVx := Lib.hid (show Str (wf.setCell ⟨w.heap.size, 0, none⟩ (.int .i64 xr)) (w3.heap.size) 27 #[.int .i64 xr, .int .i64 xa, .int .i64 xd, .slice ax xs.length cx] from SVx.out.other (by omega) _ _)
  have SVy := Lib.hid (show Str (wf.setCell ⟨w.heap.size, 0, none⟩ (.int .i64 xr)) (w4.heap.size) 27 #[.int .i64 xr, .int .i64 xa, .int .i64 (xd + k), .slice ay ys.length cy] from SVy.out.other (by omega) _ _)
  have SA := Lib.hid (show Str (wf.setCell ⟨w.heap.size, 0, none⟩ (.int .i64 xr)) (w.heap.size) 27 #[.int .i64 xr, .int .i64 0, .int .i64 0, .slice none 0 0] from SA.out.set 0 _)
  have Hb := Lib.hid (Hb.out.setCell (p := ⟨w.heap.size, 0, none⟩) (by simp only; omega) (.int .i64 xr))
  have Oc := Lib.hid (Oc.out.set_other (B' := w.heap.size) (fun e => by have := Lc _ e; omega) 1 (.int .i64 xa))
  have Ox := Lib.hid (Ox.out.set_other (B' := w.heap.size) (fun e => by have := Lx _ e; omega) 1 (.int .i64 xa))
  have Oy := Lib.hid (Oy.out.set_other (B' := w.heap.size) (fun e => by have := Ly _ e; omega) 1 (.int .i64 xa))
  have SB := Lib.hid (show Str ((wf.setCell ⟨w.heap.size, 0, none⟩ (.int .i64 xr)).setCell ⟨w.heap.size, 1, none⟩ (.int .i64 xa)) (w.heap.size + 1) 27 #[.int .i64 0, .int .i64 0, .int .i64 0, .slice none 0 0] from SB.out.other (by omega) _ _)
  have SVx := Lib.hid (show Str ((wf.setCell ⟨w.heap.size, 0, none⟩ (.int .i64 xr)).setCell ⟨w.heap.size, 1, none⟩ (.int .i64 xa)) (w3.heap.size) 27 #[.int .i64 xr, .int .i64 xa, .int .i64 xd, .slice ax xs.length cx] from SVx.out.other (by omega) _ _)
  have SVy := Lib.hid (show Str ((wf.setCell ⟨w.heap.size, 0, none⟩ (.int .i64 xr)).setCell ⟨w.heap.size, 1, none⟩ (.int .i64 xa)) (w4.heap.size) 27 #[.int .i64 xr, .int .i64 xa, .int .i64 (xd + k), .slice ay ys.length cy] from SVy.out.other (by omega) _ _)
  have SA := Lib.hid (show Str ((wf.setCell ⟨w.heap.size, 0, none⟩ (.int .i64 xr)).setCell ⟨w.heap.size, 1, none⟩ (.int .i64 xa)) (w.heap.size) 27 #[.int .i64 xr, .int .i64 xa, .int .i64 0, .slice none 0 0] from SA.out.set 1 _)
  have Hb := Lib.hid (Hb.out.setCell (p := ⟨w.heap.size, 1, none⟩) (by simp only; omega) (.int .i64 xa))
  have Oc := Lib.hid (Oc.out.set_other (B' := w.heap.size) (fun e => by have := Lc _ e; omega) 2 (.int .i64 xd))
  have Ox := Lib.hid (Ox.out.set_other (B' := w.heap.size) (fun e => by have := Lx _ e; omega) 2 (.int .i64 xd))
  have Oy := Lib.hid (Oy.out.set_other (B' := w.heap.size) (fun e => by have := Ly _ e; omega) 2 (.int .i64 xd))
  have SB := Lib.hid (show Str (((wf.setCell ⟨w.heap.size, 0, none⟩ (.int .i64 xr)).setCell ⟨w.heap.size, 1, none⟩ (.int .i64 xa)).setCell ⟨w.heap.size, 2, none⟩ (.int .i64 xd)) (w.heap.size + 1) 27 #[.int .i64 0, .int .i64 0, .int .i64 0, .slice none 0 0] from SB.out.other (by omega) _ _)
  have SVx := Lib.hid (show Str (((wf.setCell ⟨w.heap.size, 0, none⟩ (.int .i64 xr)).setCell ⟨w.heap.size, 1, none⟩ (.int .i64 xa)).setCell ⟨w.heap.size, 2, none⟩ (.int .i64 xd)) (w3.heap.size) 27 #[.int .i64 xr, .int .i64 xa, .int .i64 xd, .slice ax xs.length cx] from SVx.out.other (by omega) _ _)
  have SVy := Lib.hid (show Str (((wf.setCell ⟨w.heap.size, 0, none⟩ (.int .i64 xr)).setCell ⟨w.heap.size, 1, none⟩ (.int .i64 xa)).setCell ⟨w.heap.size, 2, none⟩ (.int .i64 xd)) (w4.heap.size) 27 #[.int .i64 xr, .int .i64 xa, .int .i64 (xd + k), .slice ay ys.length cy] from SVy.out.other (by omega) _ _)
  have SA := Lib.hid (show Str (((wf.setCell ⟨w.heap.size, 0, none⟩ (.int .i64 xr)).setCell ⟨w.heap.size, 1, none⟩ (.int .i64 xa)).setCell ⟨w.heap.size, 2, none⟩ (.int .i64 xd)) (w.heap.size) 27 #[.int .i64 xr, .int .i64 xa, .int .i64 xd, .slice none 0 0] from SA.out.set 2 _)
  have Hb := Lib.hid (Hb.out.setCell (p := ⟨w.heap.size, 2, none⟩) (by simp only; omega) (.int .i64 xd))
  have Oc := Lib.hid (Oc.out.set_other (B' := w.heap.size) (fun e => by have := Lc _ e; omega) 3 (.slice ax xs.length cx))
  have Ox := Lib.hid (Ox.out.set_other (B' := w.heap.size) (fun e => by have := Lx _ e; omega) 3 (.slice ax xs.length cx))
  have Oy := Lib.hid (Oy.out.set_other (B' := w.heap.size) (fun e => by have := Ly _ e; omega) 3 (.slice ax xs.length cx))
  have SB := Lib.hid (show Str ((((wf.setCell ⟨w.heap.size, 0, none⟩ (.int .i64 xr)).setCell ⟨w.heap.size, 1, none⟩ (.int .i64 xa)).setCell ⟨w.heap.size, 2, none⟩ (.int .i64 xd)).setCell ⟨w.heap.size, 3, none⟩ (.slice ax xs.length cx)) (w.heap.size + 1) 27 #[.int .i64 0, .int .i64 0, .int .i64 0, .slice none 0 0] from SB.out.other (by omega) _ _)
  have SVx := Lib.hid (show Str ((((wf.setCell ⟨w.heap.size, 0, none⟩ (.int .i64 xr)).setCell ⟨w.heap.size, 1, none⟩ (.int .i64 xa)).setCell ⟨w.heap.size, 2, none⟩ (.int .i64 xd)).setCell ⟨w.heap.size, 3, none⟩ (.slice ax xs.length cx)) (w3.heap.size) 27 #[.int .i64 xr, .int .i64 xa, .int .i64 xd, .slice ax xs.length cx] from SVx.out.other (by omega) _ _)
  have SVy := Lib.hid (show Str ((((wf.setCell ⟨w.heap.size, 0, none⟩ (.int .i64 xr)).setCell ⟨w.heap.size, 1, none⟩ (.int .i64 xa)).setCell ⟨w.heap.size, 2, none⟩ (.int .i64 xd)).setCell ⟨w.heap.size, 3, none⟩ (.slice ax xs.length cx)) (w4.heap.size) 27 #[.int .i64 xr, .int .i64 xa, .int .i64 (xd + k), .slice ay ys.length cy] from SVy.out.other (by omega) _ _)
  have SA := Lib.hid (show Str ((((wf.setCell ⟨w.heap.size, 0, none⟩ (.int .i64 xr)).setCell ⟨w.heap.size, 1, none⟩ (.int .i64 xa)).setCell ⟨w.heap.size, 2, none⟩ (.int .i64 xd)).setCell ⟨w.heap.size, 3, none⟩ (.slice ax xs.length cx)) (w.heap.size) 27 #[.int .i64 xr, .int .i64 xa, .int .i64 xd, .slice ax xs.length cx] from SA.out.set 3 _)
  have Hb := Lib.hid (Hb.out.setCell (p := ⟨w.heap.size, 3, none⟩) (by simp only; omega) (.slice ax xs.length cx))
  skip
  refine hK.out _ _ ⟨SVx.out.cell 0 (v := .int .i64 xr) rfl, SVx.out.cell 1 (v := .int .i64 xa) rfl, SVx.out.cell 2 (v := .int .i64 xd) rfl, SVx.out.cell 3 (v := .slice ax xs.length cx) rfl, SVy.out.cell 0 (v := .int .i64 xr) rfl, SVy.out.cell 1 (v := .int .i64 xa) rfl, SVy.out.cell 2 (v := .int .i64 (xd + k)) rfl, SVy.out.cell 3 (v := .slice ay ys.length cy) rfl⟩ (fun hH => ?_)
  clear hK K hH
  have hzg : ((((wf.setCell ⟨w.heap.size, 0, none⟩ (.int .i64 xr)).setCell ⟨w.heap.size, 1, none⟩ (.int .i64 xa)).setCell ⟨w.heap.size, 2, none⟩ (.int .i64 xd)).setCell ⟨w.heap.size, 3, none⟩ (.slice ax xs.length cx)).heap.size = wf.heap.size := by simp
  generalize ((((wf.setCell ⟨w.heap.size, 0, none⟩ (.int .i64 xr)).setCell ⟨w.heap.size, 1, none⟩ (.int .i64 xa)).setCell ⟨w.heap.size, 2, none⟩ (.int .i64 xd)).setCell ⟨w.heap.size, 3, none⟩ (.slice ax xs.length cx)) = wg at *
  try simp only [Act.put, List.setIfInBounds_toArray, List.set_cons_zero, List.set_cons_succ]
  have cB_0 := SB.out.cell 0 (v := .int .i64 0) rfl
  have cB_1 := SB.out.cell 1 (v := .int .i64 0) rfl
  have cB_2 := SB.out.cell 2 (v := .int .i64 0) rfl
  have cB_3 := SB.out.cell 3 (v := .slice none 0 0) rfl
  have fB_0 := SB.out.frozen 0
  have fB_1 := SB.out.frozen 1
  have fB_2 := SB.out.frozen 2
  have fB_3 := SB.out.frozen 3
  refine lastL rfl (by kernel_rfl) (by kernel_rfl) (by kernel_rfl) rfl (fun K hK => ?_)
  go_simp
  clear cB_0 cB_1 cB_2 cB_3 fB_0 fB_1 fB_2 fB_3
  have Oc := Lib.hid (Oc.out.set_other (B' := w.heap.size + 1) (fun e => by have := Lc _ e; omega) 0 (.int .i64 xr))
  have Ox := Lib.hid (Ox.out.set_other (B' := w.heap.size + 1) (fun e => by have := Lx _ e; omega) 0 (.int .i64 xr))
  have Oy := Lib.hid (Oy.out.set_other (B' := w.heap.size + 1) (fun e => by have := Ly _ e; omega) 0 (.int .i64 xr))
  have SA := Lib.hid (show Str (wg.setCell ⟨w.heap.size + 1, 0, none⟩ (.int .i64 xr)) (w.heap.size) 27 #[.int .i64 xr, .int .i64 xa, .int .i64 xd, .slice ax xs.length cx] from SA.out.other (by omega) _ _)
  have SVx := Lib.hid (show Str (wg.setCell ⟨w.heap.size + 1, 0, none⟩ (.int .i64 xr)) (w3.heap.size) 27 #[.int .i64 xr, .int .i64 xa, .int .i64 xd, .slice ax xs.length cx] from SVx.out.other (by omega) _ _)
  have SVy := Lib.hid (show Str (wg.setCell ⟨w.heap.size + 1, 0, none⟩ (.int .i64 xr)) (w4.heap.size) 27 #[.int .i64 xr, .int .i64 xa, .int .i64 (xd + k), .slice ay ys.length cy] from SVy.out.other (by omega) _ _)
  have SB := Lib.hid (show Str (wg.setCell ⟨w.heap.size + 1, 0, none⟩ (.int .i64 xr)) (w.heap.size + 1) 27 #[.int .i64 xr, .int .i64 0, .int .i64 0, .slice none 0 0] from SB.out.set 0 _)
  have Hb := Lib.hid (Hb.out.setCell (p := ⟨w.heap.size + 1, 0, none⟩) (by simp only; omega) (.int .i64 xr))
  have Oc := Lib.hid (Oc.out.set_other (B' := w.heap.size + 1) (fun e => by have := Lc _ e; omega) 1 (.int .i64 xa))
  have Ox := Lib.hid (Ox.out.set_other (B' := w.heap.size + 1) (fun e => by have := Lx _ e; omega) 1 (.int .i64 xa))
  have Oy := Lib.hid (Oy.out.set_other (B' := w.heap.size + 1) (fun e => by have := Ly _ e; omega) 1 (.int .i64 xa))
  have SA := Lib.hid (show Str ((wg.setCell ⟨w.heap.size + 1, 0, none⟩ (.int .i64 xr)).setCell ⟨w.heap.size + 1, 1, none⟩ (.int .i64 xa)) (w.heap.size) 27 #[.int .i64 xr, .int .i64 xa, .int .i64 xd, .slice ax xs.length cx] from SA.out.other (by omega) _ _)
  have SVx := Lib.hid (show Str ((wg.setCell ⟨w.heap.size + 1, 0, none⟩ (.int .i64 xr)).setCell ⟨w.heap.size + 1, 1, none⟩ (.int .i64 xa)) (w3.heap.size) 27 #[.int .i64 xr, .int .i64 xa, .int .i64 xd, .slice ax xs.length cx] from SVx.out.other (by omega) _ _)
  have SVy := Lib.hid (show Str ((wg.setCell ⟨w.heap.size + 1, 0, none⟩ (.int .i64 xr)).setCell ⟨w.heap.size + 1, 1, none⟩ (.int .i64 xa)) (w4.heap.size) 27 #[.int .i64 xr, .int .i64 xa, .int .i64 (xd + k), .slice ay ys.length cy] from SVy.out.other (by omega) _ _)
  have SB := Lib.hid (show Str ((wg.setCell ⟨w.heap.size + 1, 0, none⟩ (.int .i64 xr)).setCell ⟨w.heap.size + 1, 1, none⟩ (.int .i64 xa)) (w.heap.size + 1) 27 #[.int .i64 xr, .int .i64 xa, .int .i64 0, .slice none 0 0] from SB.out.set 1 _)
  have Hb := Lib.hid (Hb.out.setCell (p := ⟨w.heap.size + 1, 1, none⟩) (by simp only; omega) (.int .i64 xa))
  have Oc := Lib.hid (Oc.out.set_other (B' := w.heap.size + 1) (fun e => by have := Lc _ e; omega) 2 (.int .i64 (xd + k)))
  have Ox := Lib.hid (Ox.out.set_other (B' := w.heap.size + 1) (fun e => by have := Lx _ e; omega) 2 (.int .i64 (xd + k)))
  have Oy := Lib.hid (Oy.out.set_other (B' := w.heap.size + 1) (fun e => by have := Ly _ e; omega) 2 (.int .i64 (xd + k)))
  have SA := Lib.hid (show Str (((wg.setCell ⟨w.heap.size + 1, 0, none⟩ (.int .i64 xr)).setCell ⟨w.heap.size + 1, 1, none⟩ (.int .i64 xa)).setCell ⟨w.heap.size + 1, 2, none⟩ (.int .i64 (xd + k))) (w.heap.size) 27 #[.int .i64 xr, .int .i64 xa, .int .i64 xd, .slice ax xs.length cx] from SA.out.other (by omega) _ _)
  have SVx := Lib.hid (show Str (((wg.setCell ⟨w.heap.size + 1, 0, none⟩ (.int .i64 xr)).setCell ⟨w.heap.size + 1, 1, none⟩ (.int .i64 xa)).setCell ⟨w.heap.size + 1, 2, none⟩ (.int .i64 (xd + k))) (w3.heap.size) 27 #[.int .i64 xr, .int .i64 xa, .int .i64 xd, .slice ax xs.length cx] from SVx.out.other (by omega) _ _)
  have SVy := Lib.hid (show Str (((wg.setCell ⟨w.heap.size + 1, 0, none⟩ (.int .i64 xr)).setCell ⟨w.heap.size + 1, 1, none⟩ (.int .i64 xa)).setCell ⟨w.heap.size + 1, 2, none⟩ (.int .i64 (xd + k))) (w4.heap.size) 27 #[.int .i64 xr, .int .i64 xa, .int .i64 (xd + k), .slice ay ys.length cy] from SVy.out.other (by omega) _ _)
  have SB := Lib.hid (show Str (((wg.setCell ⟨w.heap.size + 1, 0, none⟩ (.int .i64 xr)).setCell ⟨w.heap.size + 1, 1, none⟩ (.int .i64 xa)).setCell ⟨w.heap.size + 1, 2, none⟩ (.int .i64 (xd + k))) (w.heap.size + 1) 27 #[.int .i64 xr, .int .i64 xa, .int .i64 (xd + k), .slice none 0 0] from SB.out.set 2 _)
  have Hb := Lib.hid (Hb.out.setCell (p := ⟨w.heap.size + 1, 2, none⟩) (by simp only; omega) (.int .i64 (xd + k)))
  have Oc := Lib.hid (Oc.out.set_other (B' := w.heap.size + 1) (fun e => by have := Lc _ e; omega) 3 (.slice ay ys.length cy))
  have Ox := Lib.hid (Ox.out.set_other (B' := w.heap.size + 1) (fun e => by have := Lx _ e; omega) 3 (.slice ay ys.length cy))
  have Oy := Lib.hid (Oy.out.set_other (B' := w.heap.size + 1) (fun e => by have := Ly _ e; omega) 3 (.slice ay ys.length cy))
  have SA := Lib.hid (show Str ((((wg.setCell ⟨w.heap.size + 1, 0, none⟩ (.int .i64 xr)).setCell ⟨w.heap.size + 1, 1, none⟩ (.int .i64 xa)).setCell ⟨w.heap.size + 1, 2, none⟩ (.int .i64 (xd + k))).setCell ⟨w.heap.size + 1, 3, none⟩ (.slice ay ys.length cy)) (w.heap.size) 27 #[.int .i64 xr, .int .i64 xa, .int .i64 xd, .slice ax xs.length cx] from SA.out.other (by omega) _ _)
  have SVx := Lib.hid (show Str ((((wg.setCell ⟨w.heap.size + 1, 0, none⟩ (.int .i64 xr)).setCell ⟨w.heap.size + 1, 1, none⟩ (.int .i64 xa)).setCell ⟨w.heap.size + 1, 2, none⟩ (.int .i64 (xd + k))).setCell ⟨w.heap.size + 1, 3, none⟩ (.slice ay ys.length cy)) (w3.heap.size) 27 #[.int .i64 xr, .int .i64 xa, .int .i64 xd, .slice ax xs.length cx] from SVx.out.other (by omega) _ _)
  have SVy := Lib.hid (show Str ((((wg.setCell ⟨w.heap.size + 1, 0, none⟩ (.int .i64 xr)).setCell ⟨w.heap.size + 1, 1, none⟩ (.int .i64 xa)).setCell ⟨w.heap.size + 1, 2, none⟩ (.int .i64 (xd + k))).setCell ⟨w.heap.size + 1, 3, none⟩ (.slice ay ys.length cy)) (w4.heap.size) 27 #[.int .i64 xr, .int .i64 xa, .int .i64 (xd + k), .slice ay ys.length cy] from SVy.out.other (by omega) _ _)
  have SB := Lib.hid (show Str ((((wg.setCell ⟨w.heap.size + 1, 0, none⟩ (.int .i64 xr)).setCell ⟨w.heap.size + 1, 1, none⟩ (.int .i64 xa)).setCell ⟨w.heap.size + 1, 2, none⟩ (.int .i64 (xd + k))).setCell ⟨w.heap.size + 1, 3, none⟩ (.slice ay ys.length cy)) (w.heap.size + 1) 27 #[.int .i64 xr, .int .i64 xa, .int .i64 (xd + k), .slice ay ys.length cy] from SB.out.set 3 _)
  have Hb := Lib.hid (Hb.out.setCell (p := ⟨w.heap.size + 1, 3, none⟩) (by simp only; omega) (.slice ay ys.length cy))
  skip
  refine hK.out _ _ ?_
  clear hK K
  try simp only [Act.put]
  generalize ((((wg.setCell ⟨w.heap.size + 1, 0, none⟩ (.int .i64 xr)).setCell ⟨w.heap.size + 1, 1, none⟩ (.int .i64 xa)).setCell ⟨w.heap.size + 1, 2, none⟩ (.int .i64 (xd + k))).setCell ⟨w.heap.size + 1, 3, none⟩ (.slice ay ys.length cy)) = wh at *
  have cA_0 := SA.out.cell 0 (v := .int .i64 xr) rfl
  have cA_1 := SA.out.cell 1 (v := .int .i64 xa) rfl
  have cA_2 := SA.out.cell 2 (v := .int .i64 xd) rfl
  have cA_3 := SA.out.cell 3 (v := .slice ax xs.length cx) rfl
  have cB_0 := SB.out.cell 0 (v := .int .i64 xr) rfl
  have cB_1 := SB.out.cell 1 (v := .int .i64 xa) rfl
  have cB_2 := SB.out.cell 2 (v := .int .i64 (xd + k)) rfl
  have cB_3 := SB.out.cell 3 (v := .slice ay ys.length cy) rfl
  go_wp2
  refine bodyPost_ret (v := .tuple #[.slice ac c.length cc, .agg #[.int .i64 xr, .int .i64 xa, .int .i64 xd, .slice ax xs.length cx], .agg #[.int .i64 xr, .int .i64 xa, .int .i64 (xd + k), .slice ay ys.length cy]]) (by simp [results, Try.f8, go_sem, cA_0, cA_1, cA_2, cA_3, cB_0, cB_1, cB_2, cB_3]) rfl ?_
  exact ⟨ac, cc, c, ⟨xr, xa, xd⟩, ⟨xr, xa, xd + k⟩, ax, cx, xs, ay, cy, ys, rfl, hvx, ⟨hvx.1, hvx.2.1, by have := hvx.2.2; simp only at *; omega⟩, Oc.out.mono (by omega), hcl, hcs, Ox.out.mono (by omega), by omega, Oy.out.mono (by omega), by omega, Hb.out⟩

end Go.Proofs.Ythhikgibmmhcjab
