/- Texts that the laws of this folder share, one behind another; no conditions. -/
import Derived.Test.YtgpbogalknmcmabRows
import Derived.Test.YtgpbogalknmcmabBu1
import Derived.Deep.QuietTactic
import Derived.BigQuiet
import Derived.Test.YtgpbogalknmcmabBu0
import Derived.Shelf.Slices.SearchI
import Derived.Shelf.Slices.Empties
import Derived.Shelf.Spec.SlicesInsert
import Derived.Shelf.Spec.SlicesInsertGrow
import Derived.Lib.LazyBuf
import Derived.Maps.Range
import Derived.WalkSpells
import Derived.Laws.StructEq

/- The draws of a tally and of two tallies: what is drawn is small and lies in new memory; each by a walk of its text; condition: at most 2^19 picks. -/
namespace Go.Proofs.Ytgpbogalknmcmab
open Go.RowKit

set_option maxHeartbeats 1000000 in
theorem drawTally (R p : Nat) (ac : Option Addr) (n cc : Nat) (w : World) (hp : p ≤ 800000) (hn : n ≤ 1000) (hr : Rdr w R p) (hR : R < w.heap.size) :
    Calls Try.prog 37 #[.pointer (some ⟨R, 0, none⟩), .slice ac n cc] w fun e w' => ∃ (v : Vt) (am : Option Addr) (cm : Nat) (ms : List Int) (p' : Nat), e = .returned (.agg #[.int .i64 v.r, .int .i64 v.a, .int .i64 v.d, .slice am ms.length cm]) ∧ VtS v ∧ v.d ≤ 991 ∧ Own 3 w' w.heap.size (.slice am ms.length cm) ms ∧ ms.length ≤ n + 1 ∧ Rdr w' R p' ∧ p' ≤ p + n + 10 ∧ w.grownBy w' (some R) := by
  have Hr := Lib.hid (hr.alloc (.cells #[.int .i64 0, .int .i64 0, .int .i64 0, .slice none 0 0] 27)); clear hr
  have SA := Lib.hid (Str.new w 27 #[.int .i64 0, .int .i64 0, .int .i64 0, .slice none 0 0])
  have Hg := Lib.hid (World.grownBy_alloc w (.cells #[.int .i64 0, .int .i64 0, .int .i64 0, .slice none 0 0] 27) (some R))
  have hz0 : (w.alloc (.cells #[.int .i64 0, .int .i64 0, .int .i64 0, .slice none 0 0] 27)).heap.size = w.heap.size + 1 := by simp
  go_enter Try.func37, Try.ntmps37
  go_wp2_with fail
  generalize w.alloc (.cells #[.int .i64 0, .int .i64 0, .int .i64 0, .slice none 0 0] 27) = W0 at *
  refine (drawVote R p _ (by omega) Hr.out (by omega)).mono ?_
  rintro e w1 ⟨v, p1, rfl, hv, hvd, hr', hp1, hg'⟩
  have hs1 := hg'.size
  have SA := Lib.hid (show Str w1 w.heap.size 27 #[.int .i64 0, .int .i64 0, .int .i64 0, .slice none 0 0] from SA.out.kept hg' (by simp; omega))
  have Hr := Lib.hid hr'
  have Hg := Lib.hid (grownBy_trans Hg.out hg')
  clear hr' hg'
  obtain ⟨vr, va, vd⟩ := v
  dsimp only at *
  go_wp2_with fail
  refine (drawMembers R p1 n _ (by omega) hn Hr.out (by omega)).mono ?_
  rintro e w2 ⟨u, ms, p2, rfl, hown, hml, hr', hp2, hg'⟩
  have hs2 := hg'.size
  have SA := Lib.hid (show Str w2 w.heap.size 27 #[.int .i64 0, .int .i64 0, .int .i64 0, .slice none 0 0] from SA.out.kept hg' (by simp; omega))
  have Hr := Lib.hid hr'
  have Hg := Lib.hid (grownBy_trans Hg.out hg')
  clear hr' hg'
  obtain ⟨am, cm, rfl, _, _⟩ := hown.ints
  have hne : (Value.slice am ms.length cm).ownBlock ≠ some w.heap.size := fun e => by have := (hown.lt _ e).1; omega
  have Ho := Lib.hid (hown.mono (B' := w.heap.size) (by omega)); clear hown
  have c0 := SA.out.cell 0 (v := .int .i64 0) rfl
  have f0 := SA.out.frozen 0
  have c1 := SA.out.cell 1 (v := .int .i64 0) rfl
  have f1 := SA.out.frozen 1
  have c2 := SA.out.cell 2 (v := .int .i64 0) rfl
  have f2 := SA.out.frozen 2
  have c3 := SA.out.cell 3 (v := .slice none 0 0) rfl
  have f3 := SA.out.frozen 3
  have sF := (((SA.out.set 0 (.int .i64 vr)).set 1 (.int .i64 va)).set 2 (.int .i64 vd)).set 3 (.slice am ms.length cm)
  have e0 := sF.cell 0 (v := .int .i64 vr) rfl
  have e1 := sF.cell 1 (v := .int .i64 va) rfl
  have e2 := sF.cell 2 (v := .int .i64 vd) rfl
  have e3 := sF.cell 3 (v := .slice am ms.length cm) rfl
  clear sF
  go_wp2
  refine bodyPost_ret (v := .agg #[.int .i64 vr, .int .i64 va, .int .i64 vd, .slice am ms.length cm]) (by simp [results, Try.f37, go_sem, e0, e1, e2, e3]) rfl ?_
  exact ⟨⟨vr, va, vd⟩, am, cm, ms, p2, rfl, hv, hvd, ((((Ho.out.set_other hne 0 (.int .i64 vr)).set_other hne 1 (.int .i64 va)).set_other hne 2 (.int .i64 vd)).set_other hne 3 (.slice am ms.length cm)), hml, ((((Hr.out.kept (grownBy_set _ w.heap.size 0 (.int .i64 vr)) (fun g e => by cases e; omega)).kept (grownBy_set _ w.heap.size 1 (.int .i64 va)) (fun g e => by cases e; omega)).kept (grownBy_set _ w.heap.size 2 (.int .i64 vd)) (fun g e => by cases e; omega)).kept (grownBy_set _ w.heap.size 3 (.slice am ms.length cm)) (fun g e => by cases e; omega)), by omega, (grown_set (grown_set (grown_set (grown_set Hg.out (Nat.le_refl _) 0 (.int .i64 vr)) (Nat.le_refl _) 1 (.int .i64 va)) (Nat.le_refl _) 2 (.int .i64 vd)) (Nat.le_refl _) 3 (.slice am ms.length cm))⟩

set_option maxHeartbeats 4000000 in
theorem spec_DrawTallyGuilty (a : Option Addr) (cap : Nat) (zs : List Int) (w : World) (h : CodeAt w a cap zs) :
    Calls Try.prog 20 #[.slice a zs.length cap] w fun e w' => ∃ (ac : Option Addr) (cc : Nat) (c : List Int) (x y : Vt) (ax : Option Addr) (cx : Nat) (xs : List Int) (ay : Option Addr) (cy : Nat) (ys : List Int), e = .returned (.tuple #[.slice ac c.length cc, .agg #[.int .i64 x.r, .int .i64 x.a, .int .i64 x.d, .slice ax xs.length cx], .agg #[.int .i64 y.r, .int .i64 y.a, .int .i64 y.d, .slice ay ys.length cy]]) ∧
      VtS x ∧ VtS y ∧ Own 3 w' w.heap.size (.slice ac c.length cc) c ∧ c.length ≤ 11 ∧ Small c ∧ Own 3 w' w.heap.size (.slice ax xs.length cx) xs ∧ xs.length ≤ 12 ∧ Own 3 w' w.heap.size (.slice ay ys.length cy) ys ∧ ys.length ≤ 12 ∧ Below w.heap.size w w' := by
  have Hb := Lib.hid (Below.refl w.heap.size w)
  have SA := Lib.hid (Str.new w 27 #[.int .i64 0, .int .i64 0, .int .i64 0, .slice none 0 0])
  have Hb := Lib.hid (Hb.out.alloc Hb.out.size (.cells #[.int .i64 0, .int .i64 0, .int .i64 0, .slice none 0 0] 27))
  have hzA : (w.alloc (.cells #[.int .i64 0, .int .i64 0, .int .i64 0, .slice none 0 0] 27)).heap.size = w.heap.size + 1 := by simp
  have SA := Lib.hid (show Str ((w.alloc (.cells #[.int .i64 0, .int .i64 0, .int .i64 0, .slice none 0 0] 27)).alloc (.cells #[.int .i64 0, .int .i64 0, .int .i64 0, .slice none 0 0] 27)) (w.heap.size) 27 #[.int .i64 0, .int .i64 0, .int .i64 0, .slice none 0 0] from SA.out.alloc _)
  have SB := Lib.hid (Str.new (w.alloc (.cells #[.int .i64 0, .int .i64 0, .int .i64 0, .slice none 0 0] 27)) 27 #[.int .i64 0, .int .i64 0, .int .i64 0, .slice none 0 0])
  have Hb := Lib.hid (Hb.out.alloc Hb.out.size (.cells #[.int .i64 0, .int .i64 0, .int .i64 0, .slice none 0 0] 27))
  have hzB : ((w.alloc (.cells #[.int .i64 0, .int .i64 0, .int .i64 0, .slice none 0 0] 27)).alloc (.cells #[.int .i64 0, .int .i64 0, .int .i64 0, .slice none 0 0] 27)).heap.size = (w.alloc (.cells #[.int .i64 0, .int .i64 0, .int .i64 0, .slice none 0 0] 27)).heap.size + 1 := by simp
  have hSA : w.heap.size < w.heap.size + 2 := by omega
  have hzz : ((w.alloc (.cells #[.int .i64 0, .int .i64 0, .int .i64 0, .slice none 0 0] 27)).alloc (.cells #[.int .i64 0, .int .i64 0, .int .i64 0, .slice none 0 0] 27)).heap.size = w.heap.size + 2 := by simp
  have SB := Lib.hid (show Str ((w.alloc (.cells #[.int .i64 0, .int .i64 0, .int .i64 0, .slice none 0 0] 27)).alloc (.cells #[.int .i64 0, .int .i64 0, .int .i64 0, .slice none 0 0] 27)) (w.heap.size + 1) 27 #[.int .i64 0, .int .i64 0, .int .i64 0, .slice none 0 0] by have h9 := SB.out; simp only [World.size_alloc] at h9; exact h9)
  have Hop := Lib.hid (open_any a cap zs _ (h.below Hb.out)); clear h
  clear hzA hzB
  go_enter Try.func20, Try.ntmps20
  go_wp2_with fail
  generalize ((w.alloc (.cells #[.int .i64 0, .int .i64 0, .int .i64 0, .slice none 0 0] 27)).alloc (.cells #[.int .i64 0, .int .i64 0, .int .i64 0, .slice none 0 0] 27)) = w0 at *
  refine Hop.out.mono ?_
  rintro e w1 ⟨R, rfl, hR0, hR1, hr', hb'⟩
  have hs1 := hb'.size
  have SA := Lib.hid (show Str w1 (w.heap.size) 27 #[.int .i64 0, .int .i64 0, .int .i64 0, .slice none 0 0] from SA.out.kept (below_grown hb') (by simp))
  have SB := Lib.hid (show Str w1 (w.heap.size + 1) 27 #[.int .i64 0, .int .i64 0, .int .i64 0, .slice none 0 0] from SB.out.kept (below_grown hb') (by simp))
  have Hb := Lib.hid (below_step Hb.out Hb.out.size hb')
  have Hr := Lib.hid hr'
  clear hr' hb' Hop
  go_wp2_with fail
  refine (drawCommittee R 0 _ (by omega) Hr.out hR1).mono ?_
  rintro e w2 ⟨vc, c, p2, rfl, hown, hcl, hcs, hr', hp2, hg'⟩
  have hs2 := hg'.size
  obtain ⟨ac, cc, rfl, _, _⟩ := hown.ints
  have SA := Lib.hid (show Str w2 (w.heap.size) 27 #[.int .i64 0, .int .i64 0, .int .i64 0, .slice none 0 0] from SA.out.kept hg' (by simp; omega))
  have SB := Lib.hid (show Str w2 (w.heap.size + 1) 27 #[.int .i64 0, .int .i64 0, .int .i64 0, .slice none 0 0] from SB.out.kept hg' (by simp; omega))
  have Hb := Lib.hid (Hb.out.grown hg' Hb.out.size (fun g e => by cases e; omega))
  have Lc : ∀ k, ((.slice ac c.length cc : Value)).ownBlock = some k → w1.heap.size ≤ k ∧ k < w2.heap.size := fun k e => hown.lt k e
  have Oc := Lib.hid hown; clear hown
  have Hr := Lib.hid hr'
  clear hr' hg'
  go_wp2_with fail
  refine (drawTally R p2 ac c.length cc _ (by omega) (by omega) Hr.out (by omega)).mono ?_
  rintro e w3 ⟨⟨xr, xa, xd⟩, ax, cx, xs, p3, rfl, hvx, hdx, hown, hxl, hr', hp3, hg'⟩
  have hsw3 := hg'.size
  dsimp only at *
  have Oc := Lib.hid (Oc.out.kept hg' (.inr (fun e => by have := Lc _ e; omega)))
  have SA := Lib.hid (show Str w3 (w.heap.size) 27 #[.int .i64 0, .int .i64 0, .int .i64 0, .slice none 0 0] from SA.out.kept hg' (by simp; omega))
  have SB := Lib.hid (show Str w3 (w.heap.size + 1) 27 #[.int .i64 0, .int .i64 0, .int .i64 0, .slice none 0 0] from SB.out.kept hg' (by simp; omega))
  have Hb := Lib.hid (Hb.out.grown hg' Hb.out.size (fun g e => by cases e; omega))
  have Lx : ∀ k, ((.slice ax xs.length cx : Value)).ownBlock = some k → w2.heap.size ≤ k ∧ k < w3.heap.size := fun k e => hown.lt k e
  have Ox := Lib.hid hown; clear hown
  have Hr := Lib.hid hr'
  clear hr' hg'
  have Oc := Lib.hid (Oc.out.alloc (.cells #[.int .i64 xr, .int .i64 xa, .int .i64 xd, .slice ax xs.length cx] 27))
  have Ox := Lib.hid (Ox.out.alloc (.cells #[.int .i64 xr, .int .i64 xa, .int .i64 xd, .slice ax xs.length cx] 27))
  have SA := Lib.hid (show Str (w3.alloc (.cells #[.int .i64 xr, .int .i64 xa, .int .i64 xd, .slice ax xs.length cx] 27)) (w.heap.size) 27 #[.int .i64 0, .int .i64 0, .int .i64 0, .slice none 0 0] from SA.out.alloc _)
  have SB := Lib.hid (show Str (w3.alloc (.cells #[.int .i64 xr, .int .i64 xa, .int .i64 xd, .slice ax xs.length cx] 27)) (w.heap.size + 1) 27 #[.int .i64 0, .int .i64 0, .int .i64 0, .slice none 0 0] from SB.out.alloc _)
  have SVx := Lib.hid (Str.new w3 27 #[.int .i64 xr, .int .i64 xa, .int .i64 xd, .slice ax xs.length cx])
  have Hr := Lib.hid (Hr.out.alloc (.cells #[.int .i64 xr, .int .i64 xa, .int .i64 xd, .slice ax xs.length cx] 27))
  have Hb := Lib.hid (Hb.out.alloc Hb.out.size (.cells #[.int .i64 xr, .int .i64 xa, .int .i64 xd, .slice ax xs.length cx] 27))
  have hzVx : (w3.alloc (.cells #[.int .i64 xr, .int .i64 xa, .int .i64 xd, .slice ax xs.length cx] 27)).heap.size = w3.heap.size + 1 := by simp
  go_wp2_with fail
  generalize (w3.alloc (.cells #[.int .i64 xr, .int .i64 xa, .int .i64 xd, .slice ax xs.length cx] 27)) = W3 at *
  refine (drawTally R p3 ac c.length cc _ (by omega) (by omega) Hr.out (by omega)).mono ?_
  rintro e w4 ⟨⟨yr, ya, yd⟩, ay, cy, ys, p4, rfl, hvy, hdy, hown, hyl, hr', hp4, hg'⟩
  have hsw4 := hg'.size
  dsimp only at *
  have Oc := Lib.hid (Oc.out.kept hg' (.inr (fun e => by have := Lc _ e; omega)))
  have Ox := Lib.hid (Ox.out.kept hg' (.inr (fun e => by have := Lx _ e; omega)))
  have SA := Lib.hid (show Str w4 (w.heap.size) 27 #[.int .i64 0, .int .i64 0, .int .i64 0, .slice none 0 0] from SA.out.kept hg' (by simp; omega))
  have SB := Lib.hid (show Str w4 (w.heap.size + 1) 27 #[.int .i64 0, .int .i64 0, .int .i64 0, .slice none 0 0] from SB.out.kept hg' (by simp; omega))
  have SVx := Lib.hid (show Str w4 (w3.heap.size) 27 #[.int .i64 xr, .int .i64 xa, .int .i64 xd, .slice ax xs.length cx] from SVx.out.kept hg' (by simp; omega))
  have Hb := Lib.hid (Hb.out.grown hg' Hb.out.size (fun g e => by cases e; omega))
  have Ly : ∀ k, ((.slice ay ys.length cy : Value)).ownBlock = some k → W3.heap.size ≤ k ∧ k < w4.heap.size := fun k e => hown.lt k e
  have Oy := Lib.hid hown; clear hown
  have Hr := Lib.hid hr'
  clear hr' hg'
  have Oc := Lib.hid (Oc.out.alloc (.cells #[.int .i64 yr, .int .i64 ya, .int .i64 yd, .slice ay ys.length cy] 27))
  have Ox := Lib.hid (Ox.out.alloc (.cells #[.int .i64 yr, .int .i64 ya, .int .i64 yd, .slice ay ys.length cy] 27))
  have Oy := Lib.hid (Oy.out.alloc (.cells #[.int .i64 yr, .int .i64 ya, .int .i64 yd, .slice ay ys.length cy] 27))
  have SA := Lib.hid (show Str (w4.alloc (.cells #[.int .i64 yr, .int .i64 ya, .int .i64 yd, .slice ay ys.length cy] 27)) (w.heap.size) 27 #[.int .i64 0, .int .i64 0, .int .i64 0, .slice none 0 0] from SA.out.alloc _)
  have SB := Lib.hid (show Str (w4.alloc (.cells #[.int .i64 yr, .int .i64 ya, .int .i64 yd, .slice ay ys.length cy] 27)) (w.heap.size + 1) 27 #[.int .i64 0, .int .i64 0, .int .i64 0, .slice none 0 0] from SB.out.alloc _)
  have SVx := Lib.hid (show Str (w4.alloc (.cells #[.int .i64 yr, .int .i64 ya, .int .i64 yd, .slice ay ys.length cy] 27)) (w3.heap.size) 27 #[.int .i64 xr, .int .i64 xa, .int .i64 xd, .slice ax xs.length cx] from SVx.out.alloc _)
  have SVy := Lib.hid (Str.new w4 27 #[.int .i64 yr, .int .i64 ya, .int .i64 yd, .slice ay ys.length cy])
  have Hr := Lib.hid (Hr.out.alloc (.cells #[.int .i64 yr, .int .i64 ya, .int .i64 yd, .slice ay ys.length cy] 27))
  have Hb := Lib.hid (Hb.out.alloc Hb.out.size (.cells #[.int .i64 yr, .int .i64 ya, .int .i64 yd, .slice ay ys.length cy] 27))
  have hzVy : (w4.alloc (.cells #[.int .i64 yr, .int .i64 ya, .int .i64 yd, .slice ay ys.length cy] 27)).heap.size = w4.heap.size + 1 := by simp
  have hxd0 : -1 ≤ xd := hvx.2.2.1
  have hVx : w3.heap.size < W3.heap.size := by omega
  go_wp2_with fail
  generalize (w4.alloc (.cells #[.int .i64 yr, .int .i64 ya, .int .i64 yd, .slice ay ys.length cy] 27)) = W4 at *
  refine (pick_any R 4 (p4) _ (by omega) Hr.out (by omega)).mono ?_
  rintro e w5 ⟨q, rfl, hq0, hq1, hr', hg'⟩
  have hsw5 := hg'.size
  have Oc := Lib.hid (Oc.out.kept hg' (.inr (fun e => by have := Lc _ e; omega)))
  have Ox := Lib.hid (Ox.out.kept hg' (.inr (fun e => by have := Lx _ e; omega)))
  have Oy := Lib.hid (Oy.out.kept hg' (.inr (fun e => by have := Ly _ e; omega)))
  have SA := Lib.hid (show Str w5 (w.heap.size) 27 #[.int .i64 0, .int .i64 0, .int .i64 0, .slice none 0 0] from SA.out.kept hg' (by simp; omega))
  have SB := Lib.hid (show Str w5 (w.heap.size + 1) 27 #[.int .i64 0, .int .i64 0, .int .i64 0, .slice none 0 0] from SB.out.kept hg' (by simp; omega))
  have SVx := Lib.hid (show Str w5 (w3.heap.size) 27 #[.int .i64 xr, .int .i64 xa, .int .i64 xd, .slice ax xs.length cx] from SVx.out.kept hg' (by simp; omega))
  have SVy := Lib.hid (show Str w5 (w4.heap.size) 27 #[.int .i64 yr, .int .i64 ya, .int .i64 yd, .slice ay ys.length cy] from SVy.out.kept hg' (by simp; omega))
  have Hb := Lib.hid (Hb.out.grown hg' Hb.out.size (fun g e => by cases e; omega))
  have Hr := Lib.hid hr'
  clear hr' hg'
  by_cases hq : 0 < q
  case neg =>
    clear Hr
    have cVx_0 := SVx.out.cell 0 (v := .int .i64 xr) rfl
    have cVx_1 := SVx.out.cell 1 (v := .int .i64 xa) rfl
    have cVx_2 := SVx.out.cell 2 (v := .int .i64 xd) rfl
    have cVx_3 := SVx.out.cell 3 (v := .slice ax xs.length cx) rfl
    have cVy_0 := SVy.out.cell 0 (v := .int .i64 yr) rfl
    have cVy_1 := SVy.out.cell 1 (v := .int .i64 ya) rfl
    have cVy_2 := SVy.out.cell 2 (v := .int .i64 yd) rfl
    have cVy_3 := SVy.out.cell 3 (v := .slice ay ys.length cy) rfl
    go_wp2_with fail
    clear cVx_0 cVx_1 cVx_2 cVx_3 cVy_0 cVy_1 cVy_2 cVy_3
    have hdr : w5.grownBy w5.drew none := below_grown ((Below.refl _ _).drew)
    have Oc := Lib.hid (show Own 3 w5.drew _ _ _ from Oc.out.drewN 1)
    have Ox := Lib.hid (show Own 3 w5.drew _ _ _ from Ox.out.drewN 1)
    have Oy := Lib.hid (show Own 3 w5.drew _ _ _ from Oy.out.drewN 1)
    have SA := Lib.hid (show Str w5.drew (w.heap.size) 27 #[.int .i64 0, .int .i64 0, .int .i64 0, .slice none 0 0] from SA.out)
    have SB := Lib.hid (show Str w5.drew (w.heap.size + 1) 27 #[.int .i64 0, .int .i64 0, .int .i64 0, .slice none 0 0] from SB.out)
    have SVx := Lib.hid (show Str w5.drew (w3.heap.size) 27 #[.int .i64 xr, .int .i64 xa, .int .i64 xd, .slice ax xs.length cx] from SVx.out)
    have SVy := Lib.hid (show Str w5.drew (w4.heap.size) 27 #[.int .i64 yr, .int .i64 ya, .int .i64 yd, .slice ay ys.length cy] from SVy.out)
    have Hb := Lib.hid (Hb.out.drew)
    have hzwf : w5.drew.heap.size = w5.heap.size := rfl
    clear hdr
    refine wp_region_L 5 (fun w' => w'.cell? ⟨w3.heap.size, 0, none⟩ = some (.int .i64 xr) ∧ w'.cell? ⟨w3.heap.size, 1, none⟩ = some (.int .i64 xa) ∧ w'.cell? ⟨w3.heap.size, 2, none⟩ = some (.int .i64 xd) ∧ w'.cell? ⟨w3.heap.size, 3, none⟩ = some (.slice ax xs.length cx) ∧ w'.cell? ⟨w4.heap.size, 0, none⟩ = some (.int .i64 yr) ∧ w'.cell? ⟨w4.heap.size, 1, none⟩ = some (.int .i64 ya) ∧ w'.cell? ⟨w4.heap.size, 2, none⟩ = some (.int .i64 yd) ∧ w'.cell? ⟨w4.heap.size, 3, none⟩ = some (.slice ay ys.length cy)) (by kernel_rfl) ⟨SVx.out.cell 0 (v := .int .i64 xr) rfl, SVx.out.cell 1 (v := .int .i64 xa) rfl, SVx.out.cell 2 (v := .int .i64 xd) rfl, SVx.out.cell 3 (v := .slice ax xs.length cx) rfl, SVy.out.cell 0 (v := .int .i64 yr) rfl, SVy.out.cell 1 (v := .int .i64 ya) rfl, SVy.out.cell 2 (v := .int .i64 yd) rfl, SVy.out.cell 3 (v := .slice ay ys.length cy) rfl⟩ (fun hH => ?_)
    generalize w5.drew = wf at *
    refine takeL 0 (v := ?vt1) rfl (by kernel_rfl) (by kernel_rfl) (by kernel_rfl) (by kernel_rfl) (by kernel_rfl) (fun _ _ _ h => h) hH rfl ?yt1 ?rt1
    case yt1 => intro W hSw; go_simp; try with_reducible rfl
    try simp only [Act.put, List.setIfInBounds_toArray, List.set_cons_zero, List.set_cons_succ]
    refine takeL 1 (v := ?vt2) rfl (by kernel_rfl) (by kernel_rfl) (by kernel_rfl) (by kernel_rfl) (by kernel_rfl) (fun _ _ _ h => h) hH rfl ?yt2 ?rt2
    case yt2 => intro W hSw; go_simp; try with_reducible rfl
    try simp only [Act.put, List.setIfInBounds_toArray, List.set_cons_zero, List.set_cons_succ]
    refine takeL 2 (v := ?vt3) rfl (by kernel_rfl) (by kernel_rfl) (by kernel_rfl) (by kernel_rfl) (by kernel_rfl) (fun _ _ _ h => h) hH rfl ?yt3 ?rt3
    case yt3 => intro W hSw; go_simp; try with_reducible rfl
    try simp only [Act.put, List.setIfInBounds_toArray, List.set_cons_zero, List.set_cons_succ]
    refine callL 3 rfl (by kernel_rfl) rfl (fun K hK => ?_)
    go_simp
    refine hK.out _ _ hH (fun hH => ?_)
    clear hK K
    try simp only [Act.put, List.setIfInBounds_toArray, List.set_cons_zero, List.set_cons_succ]
    have cA_0 := SA.out.cell 0 (v := .int .i64 0) rfl
    have cA_1 := SA.out.cell 1 (v := .int .i64 0) rfl
    have cA_2 := SA.out.cell 2 (v := .int .i64 0) rfl
    have cA_3 := SA.out.cell 3 (v := .slice none 0 0) rfl
    have fA_0 := SA.out.frozen 0
    have fA_1 := SA.out.frozen 1
    have fA_2 := SA.out.frozen 2
    have fA_3 := SA.out.frozen 3
    refine callL 4 rfl (by kernel_rfl) rfl (fun K hK => ?_)
    go_simp
    clear cA_0 cA_1 cA_2 cA_3 fA_0 fA_1 fA_2 fA_3
    have Oc := Lib.hid (Oc.out.set_other (B' := w.heap.size) (fun e => by have := Lc _ e; omega) 0 (.int .i64 xr))
    have Ox := Lib.hid (Ox.out.set_other (B' := w.heap.size) (fun e => by have := Lx _ e; omega) 0 (.int .i64 xr))
    have Oy := Lib.hid (Oy.out.set_other (B' := w.heap.size) (fun e => by have := Ly _ e; omega) 0 (.int .i64 xr))
    have SB := Lib.hid (show Str (wf.setCell ⟨w.heap.size, 0, none⟩ (.int .i64 xr)) (w.heap.size + 1) 27 #[.int .i64 0, .int .i64 0, .int .i64 0, .slice none 0 0] from SB.out.other (by omega) _ _)
    have SVx := Lib.hid (show Str (wf.setCell ⟨w.heap.size, 0, none⟩ (.int .i64 xr)) (w3.heap.size) 27 #[.int .i64 xr, .int .i64 xa, .int .i64 xd, .slice ax xs.length cx] from SVx.out.other (by omega) _ _)
    have SVy := Lib.hid (show Str (wf.setCell ⟨w.heap.size, 0, none⟩ (.int .i64 xr)) (w4.heap.size) 27 #[.int .i64 yr, .int .i64 ya, .int .i64 yd, .slice ay ys.length cy] from SVy.out.other (by omega) _ _)
    have SA := Lib.hid (show Str (wf.setCell ⟨w.heap.size, 0, none⟩ (.int .i64 xr)) (w.heap.size) 27 #[.int .i64 xr, .int .i64 0, .int .i64 0, .slice none 0 0] from SA.out.set 0 _)
    have Hb := Lib.hid (Hb.out.setCell (p := ⟨w.heap.size, 0, none⟩) (by simp only; omega) (.int .i64 xr))
    have Oc := Lib.hid (Oc.out.set_other (B' := w.heap.size) (fun e => by have := Lc _ e; omega) 1 (.int .i64 xa))
    have Ox := Lib.hid (Ox.out.set_other (B' := w.heap.size) (fun e => by have := Lx _ e; omega) 1 (.int .i64 xa))
    have Oy := Lib.hid (Oy.out.set_other (B' := w.heap.size) (fun e => by have := Ly _ e; omega) 1 (.int .i64 xa))
    have SB := Lib.hid (show Str ((wf.setCell ⟨w.heap.size, 0, none⟩ (.int .i64 xr)).setCell ⟨w.heap.size, 1, none⟩ (.int .i64 xa)) (w.heap.size + 1) 27 #[.int .i64 0, .int .i64 0, .int .i64 0, .slice none 0 0] from SB.out.other (by omega) _ _)
    have SVx := Lib.hid (show Str ((wf.setCell ⟨w.heap.size, 0, none⟩ (.int .i64 xr)).setCell ⟨w.heap.size, 1, none⟩ (.int .i64 xa)) (w3.heap.size) 27 #[.int .i64 xr, .int .i64 xa, .int .i64 xd, .slice ax xs.length cx] from SVx.out.other (by omega) _ _)
    have SVy := Lib.hid (show Str ((wf.setCell ⟨w.heap.size, 0, none⟩ (.int .i64 xr)).setCell ⟨w.heap.size, 1, none⟩ (.int .i64 xa)) (w4.heap.size) 27 #[.int .i64 yr, .int .i64 ya, .int .i64 yd, .slice ay ys.length cy] from SVy.out.other (by omega) _ _)
    have SA := Lib.hid (show Str ((wf.setCell ⟨w.heap.size, 0, none⟩ (.int .i64 xr)).setCell ⟨w.heap.size, 1, none⟩ (.int .i64 xa)) (w.heap.size) 27 #[.int .i64 xr, .int .i64 xa, .int .i64 0, .slice none 0 0] from SA.out.set 1 _)
    have Hb := Lib.hid (Hb.out.setCell (p := ⟨w.heap.size, 1, none⟩) (by simp only; omega) (.int .i64 xa))
    have Oc := Lib.hid (Oc.out.set_other (B' := w.heap.size) (fun e => by have := Lc _ e; omega) 2 (.int .i64 xd))
    have Ox := Lib.hid (Ox.out.set_other (B' := w.heap.size) (fun e => by have := Lx _ e; omega) 2 (.int .i64 xd))
    have Oy := Lib.hid (Oy.out.set_other (B' := w.heap.size) (fun e => by have := Ly _ e; omega) 2 (.int .i64 xd))
    have SB := Lib.hid (show Str (((wf.setCell ⟨w.heap.size, 0, none⟩ (.int .i64 xr)).setCell ⟨w.heap.size, 1, none⟩ (.int .i64 xa)).setCell ⟨w.heap.size, 2, none⟩ (.int .i64 xd)) (w.heap.size + 1) 27 #[.int .i64 0, .int .i64 0, .int .i64 0, .slice none 0 0] from SB.out.other (by omega) _ _)
    have SVx := Lib.hid (show Str (((wf.setCell ⟨w.heap.size, 0, none⟩ (.int .i64 xr)).setCell ⟨w.heap.size, 1, none⟩ (.int .i64 xa)).setCell ⟨w.heap.size, 2, none⟩ (.int .i64 xd)) (w3.heap.size) 27 #[.int .i64 xr, .int .i64 xa, .int .i64 xd, .slice ax xs.length cx] from SVx.out.other (by omega) _ _)
    have SVy := Lib.hid (show Str (((wf.setCell ⟨w.heap.size, 0, none⟩ (.int .i64 xr)).setCell ⟨w.heap.size, 1, none⟩ (.int .i64 xa)).setCell ⟨w.heap.size, 2, none⟩ (.int .i64 xd)) (w4.heap.size) 27 #[.int .i64 yr, .int .i64 ya, .int .i64 yd, .slice ay ys.length cy] from SVy.out.other (by omega) _ _)
    have SA := Lib.hid (show Str (((wf.setCell ⟨w.heap.size, 0, none⟩ (.int .i64 xr)).setCell ⟨w.heap.size, 1, none⟩ (.int .i64 xa)).setCell ⟨w.heap.size, 2, none⟩ (.int .i64 xd)) (w.heap.size) 27 #[.int .i64 xr, .int .i64 xa, .int .i64 xd, .slice none 0 0] from SA.out.set 2 _)
    have Hb := Lib.hid (Hb.out.setCell (p := ⟨w.heap.size, 2, none⟩) (by simp only; omega) (.int .i64 xd))
    have Oc := Lib.hid (Oc.out.set_other (B' := w.heap.size) (fun e => by have := Lc _ e; omega) 3 (.slice ax xs.length cx))
    have Ox := Lib.hid (Ox.out.set_other (B' := w.heap.size) (fun e => by have := Lx _ e; omega) 3 (.slice ax xs.length cx))
    have Oy := Lib.hid (Oy.out.set_other (B' := w.heap.size) (fun e => by have := Ly _ e; omega) 3 (.slice ax xs.length cx))
    have SB := Lib.hid (show Str ((((wf.setCell ⟨w.heap.size, 0, none⟩ (.int .i64 xr)).setCell ⟨w.heap.size, 1, none⟩ (.int .i64 xa)).setCell ⟨w.heap.size, 2, none⟩ (.int .i64 xd)).setCell ⟨w.heap.size, 3, none⟩ (.slice ax xs.length cx)) (w.heap.size + 1) 27 #[.int .i64 0, .int .i64 0, .int .i64 0, .slice none 0 0] from SB.out.other (by omega) _ _)
    have SVx := Lib.hid (show Str ((((wf.setCell ⟨w.heap.size, 0, none⟩ (.int .i64 xr)).setCell ⟨w.heap.size, 1, none⟩ (.int .i64 xa)).setCell ⟨w.heap.size, 2, none⟩ (.int .i64 xd)).setCell ⟨w.heap.size, 3, none⟩ (.slice ax xs.length cx)) (w3.heap.size) 27 #[.int .i64 xr, .int .i64 xa, .int .i64 xd, .slice ax xs.length cx] from SVx.out.other (by omega) _ _)
    have SVy := Lib.hid (show Str ((((wf.setCell ⟨w.heap.size, 0, none⟩ (.int .i64 xr)).setCell ⟨w.heap.size, 1, none⟩ (.int .i64 xa)).setCell ⟨w.heap.size, 2, none⟩ (.int .i64 xd)).setCell ⟨w.heap.size, 3, none⟩ (.slice ax xs.length cx)) (w4.heap.size) 27 #[.int .i64 yr, .int .i64 ya, .int .i64 yd, .slice ay ys.length cy] from SVy.out.other (by omega) _ _)
    have SA := Lib.hid (show Str ((((wf.setCell ⟨w.heap.size, 0, none⟩ (.int .i64 xr)).setCell ⟨w.heap.size, 1, none⟩ (.int .i64 xa)).setCell ⟨w.heap.size, 2, none⟩ (.int .i64 xd)).setCell ⟨w.heap.size, 3, none⟩ (.slice ax xs.length cx)) (w.heap.size) 27 #[.int .i64 xr, .int .i64 xa, .int .i64 xd, .slice ax xs.length cx] from SA.out.set 3 _)
    have Hb := Lib.hid (Hb.out.setCell (p := ⟨w.heap.size, 3, none⟩) (by simp only; omega) (.slice ax xs.length cx))
    skip
    refine hK.out _ _ ⟨SVx.out.cell 0 (v := .int .i64 xr) rfl, SVx.out.cell 1 (v := .int .i64 xa) rfl, SVx.out.cell 2 (v := .int .i64 xd) rfl, SVx.out.cell 3 (v := .slice ax xs.length cx) rfl, SVy.out.cell 0 (v := .int .i64 yr) rfl, SVy.out.cell 1 (v := .int .i64 ya) rfl, SVy.out.cell 2 (v := .int .i64 yd) rfl, SVy.out.cell 3 (v := .slice ay ys.length cy) rfl⟩ (fun hH => ?_)
    clear hK K hH
    have hzg : ((((wf.setCell ⟨w.heap.size, 0, none⟩ (.int .i64 xr)).setCell ⟨w.heap.size, 1, none⟩ (.int .i64 xa)).setCell ⟨w.heap.size, 2, none⟩ (.int .i64 xd)).setCell ⟨w.heap.size, 3, none⟩ (.slice ax xs.length cx)).heap.size = wf.heap.size := by simp
    generalize ((((wf.setCell ⟨w.heap.size, 0, none⟩ (.int .i64 xr)).setCell ⟨w.heap.size, 1, none⟩ (.int .i64 xa)).setCell ⟨w.heap.size, 2, none⟩ (.int .i64 xd)).setCell ⟨w.heap.size, 3, none⟩ (.slice ax xs.length cx)) = wg at *
    try simp only [Act.put, List.setIfInBounds_toArray, List.set_cons_zero, List.set_cons_succ]
    have cB_0 := SB.out.cell 0 (v := .int .i64 0) rfl
    have cB_1 := SB.out.cell 1 (v := .int .i64 0) rfl
    have cB_2 := SB.out.cell 2 (v := .int .i64 0) rfl
    have cB_3 := SB.out.cell 3 (v := .slice none 0 0) rfl
    have fB_0 := SB.out.frozen 0
    have fB_1 := SB.out.frozen 1
    have fB_2 := SB.out.frozen 2
    have fB_3 := SB.out.frozen 3
    refine lastL rfl (by kernel_rfl) (by kernel_rfl) (by kernel_rfl) rfl (fun K hK => ?_)
    go_simp
    clear cB_0 cB_1 cB_2 cB_3 fB_0 fB_1 fB_2 fB_3
    have Oc := Lib.hid (Oc.out.set_other (B' := w.heap.size + 1) (fun e => by have := Lc _ e; omega) 0 (.int .i64 yr))
    have Ox := Lib.hid (Ox.out.set_other (B' := w.heap.size + 1) (fun e => by have := Lx _ e; omega) 0 (.int .i64 yr))
    have Oy := Lib.hid (Oy.out.set_other (B' := w.heap.size + 1) (fun e => by have := Ly _ e; omega) 0 (.int .i64 yr))
    have SA := Lib.hid (show Str (wg.setCell ⟨w.heap.size + 1, 0, none⟩ (.int .i64 yr)) (w.heap.size) 27 #[.int .i64 xr, .int .i64 xa, .int .i64 xd, .slice ax xs.length cx] from SA.out.other (by omega) _ _)
    have SVx := Lib.hid (show Str (wg.setCell ⟨w.heap.size + 1, 0, none⟩ (.int .i64 yr)) (w3.heap.size) 27 #[.int .i64 xr, .int .i64 xa, .int .i64 xd, .slice ax xs.length cx] from SVx.out.other (by omega) _ _)
    have SVy := Lib.hid (show Str (wg.setCell ⟨w.heap.size + 1, 0, none⟩ (.int .i64 yr)) (w4.heap.size) 27 #[.int .i64 yr, .int .i64 ya, .int .i64 yd, .slice ay ys.length cy] from SVy.out.other (by omega) _ _)
    have SB := Lib.hid (show Str (wg.setCell ⟨w.heap.size + 1, 0, none⟩ (.int .i64 yr)) (w.heap.size + 1) 27 #[.int .i64 yr, .int .i64 0, .int .i64 0, .slice none 0 0] from SB.out.set 0 _)
    have Hb := Lib.hid (Hb.out.setCell (p := ⟨w.heap.size + 1, 0, none⟩) (by simp only; omega) (.int .i64 yr))
    have Oc := Lib.hid (Oc.out.set_other (B' := w.heap.size + 1) (fun e => by have := Lc _ e; omega) 1 (.int .i64 ya))
    have Ox := Lib.hid (Ox.out.set_other (B' := w.heap.size + 1) (fun e => by have := Lx _ e; omega) 1 (.int .i64 ya))
    have Oy := Lib.hid (Oy.out.set_other (B' := w.heap.size + 1) (fun e => by have := Ly _ e; omega) 1 (.int .i64 ya))
    have SA := Lib.hid (show Str ((wg.setCell ⟨w.heap.size + 1, 0, none⟩ (.int .i64 yr)).setCell ⟨w.heap.size + 1, 1, none⟩ (.int .i64 ya)) (w.heap.size) 27 #[.int .i64 xr, .int .i64 xa, .int .i64 xd, .slice ax xs.length cx] from SA.out.other (by omega) _ _)
    have SVx := Lib.hid (show Str ((wg.setCell ⟨w.heap.size + 1, 0, none⟩ (.int .i64 yr)).setCell ⟨w.heap.size + 1, 1, none⟩ (.int .i64 ya)) (w3.heap.size) 27 #[.int .i64 xr, .int .i64 xa, .int .i64 xd, .slice ax xs.length cx] from SVx.out.other (by omega) _ _)
    have SVy := Lib.hid (show Str ((wg.setCell ⟨w.heap.size + 1, 0, none⟩ (.int .i64 yr)).setCell ⟨w.heap.size + 1, 1, none⟩ (.int .i64 ya)) (w4.heap.size) 27 #[.int .i64 yr, .int .i64 ya, .int .i64 yd, .slice ay ys.length cy] from SVy.out.other (by omega) _ _)
    have SB := Lib.hid (show Str ((wg.setCell ⟨w.heap.size + 1, 0, none⟩ (.int .i64 yr)).setCell ⟨w.heap.size + 1, 1, none⟩ (.int .i64 ya)) (w.heap.size + 1) 27 #[.int .i64 yr, .int .i64 ya, .int .i64 0, .slice none 0 0] from SB.out.set 1 _)
    have Hb := Lib.hid (Hb.out.setCell (p := ⟨w.heap.size + 1, 1, none⟩) (by simp only; omega) (.int .i64 ya))
    have Oc := Lib.hid (Oc.out.set_other (B' := w.heap.size + 1) (fun e => by have := Lc _ e; omega) 2 (.int .i64 yd))
    have Ox := Lib.hid (Ox.out.set_other (B' := w.heap.size + 1) (fun e => by have := Lx _ e; omega) 2 (.int .i64 yd))
    have Oy := Lib.hid (Oy.out.set_other (B' := w.heap.size + 1) (fun e => by have := Ly _ e; omega) 2 (.int .i64 yd))
    have SA := Lib.hid (show Str (((wg.setCell ⟨w.heap.size + 1, 0, none⟩ (.int .i64 yr)).setCell ⟨w.heap.size + 1, 1, none⟩ (.int .i64 ya)).setCell ⟨w.heap.size + 1, 2, none⟩ (.int .i64 yd)) (w.heap.size) 27 #[.int .i64 xr, .int .i64 xa, .int .i64 xd, .slice ax xs.length cx] from SA.out.other (by omega) _ _)
    have SVx := Lib.hid (show Str (((wg.setCell ⟨w.heap.size + 1, 0, none⟩ (.int .i64 yr)).setCell ⟨w.heap.size + 1, 1, none⟩ (.int .i64 ya)).setCell ⟨w.heap.size + 1, 2, none⟩ (.int .i64 yd)) (w3.heap.size) 27 #[.int .i64 xr, .int .i64 xa, .int .i64 xd, .slice ax xs.length cx] from SVx.out.other (by omega) _ _)
    have SVy := Lib.hid (show Str (((wg.setCell ⟨w.heap.size + 1, 0, none⟩ (.int .i64 yr)).setCell ⟨w.heap.size + 1, 1, none⟩ (.int .i64 ya)).setCell ⟨w.heap.size + 1, 2, none⟩ (.int .i64 yd)) (w4.heap.size) 27 #[.int .i64 yr, .int .i64 ya, .int .i64 yd, .slice ay ys.length cy] from SVy.out.other (by omega) _ _)
    have SB := Lib.hid (show Str (((wg.setCell ⟨w.heap.size + 1, 0, none⟩ (.int .i64 yr)).setCell ⟨w.heap.size + 1, 1, none⟩ (.int .i64 ya)).setCell ⟨w.heap.size + 1, 2, none⟩ (.int .i64 yd)) (w.heap.size + 1) 27 #[.int .i64 yr, .int .i64 ya, .int .i64 yd, .slice none 0 0] from SB.out.set 2 _)
    have Hb := Lib.hid (Hb.out.setCell (p := ⟨w.heap.size + 1, 2, none⟩) (by simp only; omega) (.int .i64 yd))
    have Oc := Lib.hid (Oc.out.set_other (B' := w.heap.size + 1) (fun e => by have := Lc _ e; omega) 3 (.slice ay ys.length cy))
    have Ox := Lib.hid (Ox.out.set_other (B' := w.heap.size + 1) (fun e => by have := Lx _ e; omega) 3 (.slice ay ys.length cy))
    have Oy := Lib.hid (Oy.out.set_other (B' := w.heap.size + 1) (fun e => by have := Ly _ e; omega) 3 (.slice ay ys.length cy))
    have SA := Lib.hid (show Str ((((wg.setCell ⟨w.heap.size + 1, 0, none⟩ (.int .i64 yr)).setCell ⟨w.heap.size + 1, 1, none⟩ (.int .i64 ya)).setCell ⟨w.heap.size + 1, 2, none⟩ (.int .i64 yd)).setCell ⟨w.heap.size + 1, 3, none⟩ (.slice ay ys.length cy)) (w.heap.size) 27 #[.int .i64 xr, .int .i64 xa, .int .i64 xd, .slice ax xs.length cx] from SA.out.other (by omega) _ _)
    have SVx := Lib.hid (show Str ((((wg.setCell ⟨w.heap.size + 1, 0, none⟩ (.int .i64 yr)).setCell ⟨w.heap.size + 1, 1, none⟩ (.int .i64 ya)).setCell ⟨w.heap.size + 1, 2, none⟩ (.int .i64 yd)).setCell ⟨w.heap.size + 1, 3, none⟩ (.slice ay ys.length cy)) (w3.heap.size) 27 #[.int .i64 xr, .int .i64 xa, .int .i64 xd, .slice ax xs.length cx] from SVx.out.other (by omega) _ _)
    have SVy := Lib.hid (show Str ((((wg.setCell ⟨w.heap.size + 1, 0, none⟩ (.int .i64 yr)).setCell ⟨w.heap.size + 1, 1, none⟩ (.int .i64 ya)).setCell ⟨w.heap.size + 1, 2, none⟩ (.int .i64 yd)).setCell ⟨w.heap.size + 1, 3, none⟩ (.slice ay ys.length cy)) (w4.heap.size) 27 #[.int .i64 yr, .int .i64 ya, .int .i64 yd, .slice ay ys.length cy] from SVy.out.other (by omega) _ _)
    have SB := Lib.hid (show Str ((((wg.setCell ⟨w.heap.size + 1, 0, none⟩ (.int .i64 yr)).setCell ⟨w.heap.size + 1, 1, none⟩ (.int .i64 ya)).setCell ⟨w.heap.size + 1, 2, none⟩ (.int .i64 yd)).setCell ⟨w.heap.size + 1, 3, none⟩ (.slice ay ys.length cy)) (w.heap.size + 1) 27 #[.int .i64 yr, .int .i64 ya, .int .i64 yd, .slice ay ys.length cy] from SB.out.set 3 _)
    have Hb := Lib.hid (Hb.out.setCell (p := ⟨w.heap.size + 1, 3, none⟩) (by simp only; omega) (.slice ay ys.length cy))
    skip
    refine hK.out _ _ ?_
    clear hK K
    try simp only [Act.put]
    generalize ((((wg.setCell ⟨w.heap.size + 1, 0, none⟩ (.int .i64 yr)).setCell ⟨w.heap.size + 1, 1, none⟩ (.int .i64 ya)).setCell ⟨w.heap.size + 1, 2, none⟩ (.int .i64 yd)).setCell ⟨w.heap.size + 1, 3, none⟩ (.slice ay ys.length cy)) = wh at *
    have cA_0 := SA.out.cell 0 (v := .int .i64 xr) rfl
    have cA_1 := SA.out.cell 1 (v := .int .i64 xa) rfl
    have cA_2 := SA.out.cell 2 (v := .int .i64 xd) rfl
    have cA_3 := SA.out.cell 3 (v := .slice ax xs.length cx) rfl
    have cB_0 := SB.out.cell 0 (v := .int .i64 yr) rfl
    have cB_1 := SB.out.cell 1 (v := .int .i64 ya) rfl
    have cB_2 := SB.out.cell 2 (v := .int .i64 yd) rfl
    have cB_3 := SB.out.cell 3 (v := .slice ay ys.length cy) rfl
    go_wp2
    refine bodyPost_ret (v := .tuple #[.slice ac c.length cc, .agg #[.int .i64 xr, .int .i64 xa, .int .i64 xd, .slice ax xs.length cx], .agg #[.int .i64 yr, .int .i64 ya, .int .i64 yd, .slice ay ys.length cy]]) (by simp [results, Try.f20, go_sem, cA_0, cA_1, cA_2, cA_3, cB_0, cB_1, cB_2, cB_3]) rfl ?_
    exact ⟨ac, cc, c, ⟨xr, xa, xd⟩, ⟨yr, ya, yd⟩, ax, cx, xs, ay, cy, ys, rfl, hvx, hvy, Oc.out.mono (by omega), hcl, hcs, Ox.out.mono (by omega), by omega, Oy.out.mono (by omega), by omega, Hb.out⟩
  have cVx_0 := SVx.out.cell 0 (v := .int .i64 xr) rfl
  have cVx_1 := SVx.out.cell 1 (v := .int .i64 xa) rfl
  have cVx_2 := SVx.out.cell 2 (v := .int .i64 xd) rfl
  have cVx_3 := SVx.out.cell 3 (v := .slice ax xs.length cx) rfl
  have cVy_0 := SVy.out.cell 0 (v := .int .i64 yr) rfl
  have cVy_1 := SVy.out.cell 1 (v := .int .i64 ya) rfl
  have cVy_2 := SVy.out.cell 2 (v := .int .i64 yd) rfl
  have cVy_3 := SVy.out.cell 3 (v := .slice ay ys.length cy) rfl
  have fVy_0 := SVy.out.frozen 0
  have fVy_1 := SVy.out.frozen 1
  have fVy_2 := SVy.out.frozen 2
  have fVy_3 := SVy.out.frozen 3
  have Oc := Lib.hid (Oc.out.set_other (B' := w4.heap.size) (fun e => by have := Lc _ e; omega) 0 (.int .i64 xr))
  have Ox := Lib.hid (Ox.out.set_other (B' := w4.heap.size) (fun e => by have := Lx _ e; omega) 0 (.int .i64 xr))
  have Oy := Lib.hid (Oy.out.set_other (B' := w4.heap.size) (fun e => by have := Ly _ e; omega) 0 (.int .i64 xr))
  have SA := Lib.hid (show Str (w5.setCell ⟨w4.heap.size, 0, none⟩ (.int .i64 xr)) (w.heap.size) 27 #[.int .i64 0, .int .i64 0, .int .i64 0, .slice none 0 0] from SA.out.other (by omega) _ _)
  have SB := Lib.hid (show Str (w5.setCell ⟨w4.heap.size, 0, none⟩ (.int .i64 xr)) (w.heap.size + 1) 27 #[.int .i64 0, .int .i64 0, .int .i64 0, .slice none 0 0] from SB.out.other (by omega) _ _)
  have SVx := Lib.hid (show Str (w5.setCell ⟨w4.heap.size, 0, none⟩ (.int .i64 xr)) (w3.heap.size) 27 #[.int .i64 xr, .int .i64 xa, .int .i64 xd, .slice ax xs.length cx] from SVx.out.other (by omega) _ _)
  have SVy := Lib.hid (show Str (w5.setCell ⟨w4.heap.size, 0, none⟩ (.int .i64 xr)) (w4.heap.size) 27 #[.int .i64 xr, .int .i64 ya, .int .i64 yd, .slice ay ys.length cy] from SVy.out.set 0 _)
  have Hr := Lib.hid (Hr.out.kept (grownBy_set w5 (w4.heap.size) 0 (.int .i64 xr)) (fun g e => by cases e; omega))
  have Hb := Lib.hid (Hb.out.setCell (p := ⟨w4.heap.size, 0, none⟩) (by simp only; omega) (.int .i64 xr))
  have Oc := Lib.hid (Oc.out.set_other (B' := w4.heap.size) (fun e => by have := Lc _ e; omega) 1 (.int .i64 xa))
  have Ox := Lib.hid (Ox.out.set_other (B' := w4.heap.size) (fun e => by have := Lx _ e; omega) 1 (.int .i64 xa))
  have Oy := Lib.hid (Oy.out.set_other (B' := w4.heap.size) (fun e => by have := Ly _ e; omega) 1 (.int .i64 xa))
  have SA := Lib.hid (show Str ((w5.setCell ⟨w4.heap.size, 0, none⟩ (.int .i64 xr)).setCell ⟨w4.heap.size, 1, none⟩ (.int .i64 xa)) (w.heap.size) 27 #[.int .i64 0, .int .i64 0, .int .i64 0, .slice none 0 0] from SA.out.other (by omega) _ _)
  have SB := Lib.hid (show Str ((w5.setCell ⟨w4.heap.size, 0, none⟩ (.int .i64 xr)).setCell ⟨w4.heap.size, 1, none⟩ (.int .i64 xa)) (w.heap.size + 1) 27 #[.int .i64 0, .int .i64 0, .int .i64 0, .slice none 0 0] from SB.out.other (by omega) _ _)
  have SVx := Lib.hid (show Str ((w5.setCell ⟨w4.heap.size, 0, none⟩ (.int .i64 xr)).setCell ⟨w4.heap.size, 1, none⟩ (.int .i64 xa)) (w3.heap.size) 27 #[.int .i64 xr, .int .i64 xa, .int .i64 xd, .slice ax xs.length cx] from SVx.out.other (by omega) _ _)
  have SVy := Lib.hid (show Str ((w5.setCell ⟨w4.heap.size, 0, none⟩ (.int .i64 xr)).setCell ⟨w4.heap.size, 1, none⟩ (.int .i64 xa)) (w4.heap.size) 27 #[.int .i64 xr, .int .i64 xa, .int .i64 yd, .slice ay ys.length cy] from SVy.out.set 1 _)
  have Hr := Lib.hid (Hr.out.kept (grownBy_set (w5.setCell ⟨w4.heap.size, 0, none⟩ (.int .i64 xr)) (w4.heap.size) 1 (.int .i64 xa)) (fun g e => by cases e; omega))
  have Hb := Lib.hid (Hb.out.setCell (p := ⟨w4.heap.size, 1, none⟩) (by simp only; omega) (.int .i64 xa))
  have Oc := Lib.hid (Oc.out.set_other (B' := w4.heap.size) (fun e => by have := Lc _ e; omega) 2 (.int .i64 xd))
  have Ox := Lib.hid (Ox.out.set_other (B' := w4.heap.size) (fun e => by have := Lx _ e; omega) 2 (.int .i64 xd))
  have Oy := Lib.hid (Oy.out.set_other (B' := w4.heap.size) (fun e => by have := Ly _ e; omega) 2 (.int .i64 xd))
  have SA := Lib.hid (show Str (((w5.setCell ⟨w4.heap.size, 0, none⟩ (.int .i64 xr)).setCell ⟨w4.heap.size, 1, none⟩ (.int .i64 xa)).setCell ⟨w4.heap.size, 2, none⟩ (.int .i64 xd)) (w.heap.size) 27 #[.int .i64 0, .int .i64 0, .int .i64 0, .slice none 0 0] from SA.out.other (by omega) _ _)
  have SB := Lib.hid (show Str (((w5.setCell ⟨w4.heap.size, 0, none⟩ (.int .i64 xr)).setCell ⟨w4.heap.size, 1, none⟩ (.int .i64 xa)).setCell ⟨w4.heap.size, 2, none⟩ (.int .i64 xd)) (w.heap.size + 1) 27 #[.int .i64 0, .int .i64 0, .int .i64 0, .slice none 0 0] from SB.out.other (by omega) _ _)
  have SVx := Lib.hid (show Str (((w5.setCell ⟨w4.heap.size, 0, none⟩ (.int .i64 xr)).setCell ⟨w4.heap.size, 1, none⟩ (.int .i64 xa)).setCell ⟨w4.heap.size, 2, none⟩ (.int .i64 xd)) (w3.heap.size) 27 #[.int .i64 xr, .int .i64 xa, .int .i64 xd, .slice ax xs.length cx] from SVx.out.other (by omega) _ _)
  have SVy := Lib.hid (show Str (((w5.setCell ⟨w4.heap.size, 0, none⟩ (.int .i64 xr)).setCell ⟨w4.heap.size, 1, none⟩ (.int .i64 xa)).setCell ⟨w4.heap.size, 2, none⟩ (.int .i64 xd)) (w4.heap.size) 27 #[.int .i64 xr, .int .i64 xa, .int .i64 xd, .slice ay ys.length cy] from SVy.out.set 2 _)
  have Hr := Lib.hid (Hr.out.kept (grownBy_set ((w5.setCell ⟨w4.heap.size, 0, none⟩ (.int .i64 xr)).setCell ⟨w4.heap.size, 1, none⟩ (.int .i64 xa)) (w4.heap.size) 2 (.int .i64 xd)) (fun g e => by cases e; omega))
  have Hb := Lib.hid (Hb.out.setCell (p := ⟨w4.heap.size, 2, none⟩) (by simp only; omega) (.int .i64 xd))
  skip
  have hzw : (((w5.setCell ⟨w4.heap.size, 0, none⟩ (.int .i64 xr)).setCell ⟨w4.heap.size, 1, none⟩ (.int .i64 xa)).setCell ⟨w4.heap.size, 2, none⟩ (.int .i64 xd)).heap.size = w5.heap.size := by simp
  go_wp2_with fail
  generalize (((w5.setCell ⟨w4.heap.size, 0, none⟩ (.int .i64 xr)).setCell ⟨w4.heap.size, 1, none⟩ (.int .i64 xa)).setCell ⟨w4.heap.size, 2, none⟩ (.int .i64 xd)) = w6 at *
  clear cVx_0 cVx_1 cVx_2 cVx_3 cVy_0 cVy_1 cVy_2 cVy_3 fVy_0 fVy_1 fVy_2 fVy_3
  have Oc := Lib.hid (show Own 3 w6.drew _ _ _ from Oc.out.drewN 1)
  have Ox := Lib.hid (show Own 3 w6.drew _ _ _ from Ox.out.drewN 1)
  have Oy := Lib.hid (show Own 3 w6.drew _ _ _ from Oy.out.drewN 1)
  have SA := Lib.hid (show Str w6.drew (w.heap.size) 27 #[.int .i64 0, .int .i64 0, .int .i64 0, .slice none 0 0] from SA.out)
  have SB := Lib.hid (show Str w6.drew (w.heap.size + 1) 27 #[.int .i64 0, .int .i64 0, .int .i64 0, .slice none 0 0] from SB.out)
  have SVx := Lib.hid (show Str w6.drew (w3.heap.size) 27 #[.int .i64 xr, .int .i64 xa, .int .i64 xd, .slice ax xs.length cx] from SVx.out)
  have SVy := Lib.hid (show Str w6.drew (w4.heap.size) 27 #[.int .i64 xr, .int .i64 xa, .int .i64 xd, .slice ay ys.length cy] from SVy.out)
  have Hr := Lib.hid (show Rdr w6.drew R _ from Hr.out.drewN 1)
  have Hb := Lib.hid (Hb.out.drew)
  have hz7 : w6.drew.heap.size = w6.heap.size := rfl
  refine wp_region_L 8 (fun w' => w'.cell? ⟨w3.heap.size, 0, none⟩ = some (.int .i64 xr) ∧ w'.cell? ⟨w3.heap.size, 1, none⟩ = some (.int .i64 xa) ∧ w'.cell? ⟨w3.heap.size, 2, none⟩ = some (.int .i64 xd) ∧ w'.cell? ⟨w3.heap.size, 3, none⟩ = some (.slice ax xs.length cx) ∧ w'.cell? ⟨w4.heap.size, 0, none⟩ = some (.int .i64 xr) ∧ w'.cell? ⟨w4.heap.size, 1, none⟩ = some (.int .i64 xa) ∧ w'.cell? ⟨w4.heap.size, 2, none⟩ = some (.int .i64 xd) ∧ w'.cell? ⟨w4.heap.size, 3, none⟩ = some (.slice ay ys.length cy)) (by kernel_rfl) ⟨SVx.out.cell 0 (v := .int .i64 xr) rfl, SVx.out.cell 1 (v := .int .i64 xa) rfl, SVx.out.cell 2 (v := .int .i64 xd) rfl, SVx.out.cell 3 (v := .slice ax xs.length cx) rfl, SVy.out.cell 0 (v := .int .i64 xr) rfl, SVy.out.cell 1 (v := .int .i64 xa) rfl, SVy.out.cell 2 (v := .int .i64 xd) rfl, SVy.out.cell 3 (v := .slice ay ys.length cy) rfl⟩ (fun hH => ?_)
  generalize w6.drew = w7 at *
  refine takeL 0 (v := ?vt4) rfl (by kernel_rfl) (by kernel_rfl) (by kernel_rfl) (by kernel_rfl) (by kernel_rfl) (fun _ _ _ h => h) hH rfl ?yt4 ?rt4
  case yt4 => intro W hSw; go_simp; try with_reducible rfl
  try simp only [Act.put, List.setIfInBounds_toArray, List.set_cons_zero, List.set_cons_succ]
  refine takeL 1 (v := ?vt5) rfl (by kernel_rfl) (by kernel_rfl) (by kernel_rfl) (by kernel_rfl) (by kernel_rfl) (fun _ _ _ h => h) hH rfl ?yt5 ?rt5
  case yt5 => intro W hSw; go_simp; try with_reducible rfl
  try simp only [Act.put, List.setIfInBounds_toArray, List.set_cons_zero, List.set_cons_succ]
  refine takeL 2 (v := ?vt6) rfl (by kernel_rfl) (by kernel_rfl) (by kernel_rfl) (by kernel_rfl) (by kernel_rfl) (fun _ _ _ h => h) hH rfl ?yt6 ?rt6
  case yt6 => intro W hSw; go_simp; try with_reducible rfl
  try simp only [Act.put, List.setIfInBounds_toArray, List.set_cons_zero, List.set_cons_succ]
  refine takeL 3 (v := ?vt7) rfl (by kernel_rfl) (by kernel_rfl) (by kernel_rfl) (by kernel_rfl) (by kernel_rfl) (fun _ _ _ h => h) hH rfl ?yt7 ?rt7
  case yt7 => intro W hSw; go_simp; try with_reducible rfl
  try simp only [Act.put, List.setIfInBounds_toArray, List.set_cons_zero, List.set_cons_succ]
  refine callL 4 rfl (by kernel_rfl) rfl (fun K hK => ?_)
  go_simp
  go_at_call 38
  refine (pick_any R 3 (p4 + 1) _ (by omega) Hr.out (by omega)).mono ?_
  rintro e w8 ⟨k, rfl, hk0, hk1, hr', hg'⟩
  have hs8 := hg'.size
  have Oc := Lib.hid (Oc.out.kept hg' (.inr (fun e => by have := Lc _ e; omega)))
  have Ox := Lib.hid (Ox.out.kept hg' (.inr (fun e => by have := Lx _ e; omega)))
  have Oy := Lib.hid (Oy.out.kept hg' (.inr (fun e => by have := Ly _ e; omega)))
  have SA := Lib.hid (show Str w8 (w.heap.size) 27 #[.int .i64 0, .int .i64 0, .int .i64 0, .slice none 0 0] from SA.out.kept hg' (by simp; omega))
  have SB := Lib.hid (show Str w8 (w.heap.size + 1) 27 #[.int .i64 0, .int .i64 0, .int .i64 0, .slice none 0 0] from SB.out.kept hg' (by simp; omega))
  have SVx := Lib.hid (show Str w8 (w3.heap.size) 27 #[.int .i64 xr, .int .i64 xa, .int .i64 xd, .slice ax xs.length cx] from SVx.out.kept hg' (by simp; omega))
  have SVy := Lib.hid (show Str w8 (w4.heap.size) 27 #[.int .i64 xr, .int .i64 xa, .int .i64 xd, .slice ay ys.length cy] from SVy.out.kept hg' (by simp; omega))
  have Hb := Lib.hid (Hb.out.grown hg' Hb.out.size (fun g e => by cases e; omega))
  have Hr := Lib.hid hr'
  clear hr' hg'
  refine hK.out _ _ ⟨SVx.out.cell 0 (v := .int .i64 xr) rfl, SVx.out.cell 1 (v := .int .i64 xa) rfl, SVx.out.cell 2 (v := .int .i64 xd) rfl, SVx.out.cell 3 (v := .slice ax xs.length cx) rfl, SVy.out.cell 0 (v := .int .i64 xr) rfl, SVy.out.cell 1 (v := .int .i64 xa) rfl, SVy.out.cell 2 (v := .int .i64 xd) rfl, SVy.out.cell 3 (v := .slice ay ys.length cy) rfl⟩ (fun hH => ?_)
  clear hK K
  try simp only [Act.put, List.setIfInBounds_toArray, List.set_cons_zero, List.set_cons_succ]
  have hwr : IntKind.i64.wrap (xd + k) = xd + k := IntWalk.i64_in _ (by omega)
  refine takeL 5 (v := ?vt8) rfl (by kernel_rfl) (by kernel_rfl) (by kernel_rfl) (by kernel_rfl) (by kernel_rfl) (fun _ _ _ h => h) hH rfl ?yt8 ?rt8
  case yt8 => intro W hSw; go_simp; try with_reducible rfl
  try simp only [Act.put, List.setIfInBounds_toArray, List.set_cons_zero, List.set_cons_succ]
  refine callL 6 rfl (by kernel_rfl) rfl (fun K hK => ?_)
  go_simp
  refine hK.out _ _ hH (fun hH => ?_)
  clear hK K
  try simp only [Act.put, List.setIfInBounds_toArray, List.set_cons_zero, List.set_cons_succ]
  refine takeL 7 (v := ?vt9) rfl (by kernel_rfl) (by kernel_rfl) (by kernel_rfl) (by kernel_rfl) (by kernel_rfl) (fun _ _ _ h => h) hH rfl ?yt9 ?rt9
  case yt9 => intro W hSw; go_simp; try with_reducible rfl
  try simp only [Act.put, List.setIfInBounds_toArray, List.set_cons_zero, List.set_cons_succ]
  have cVy_0 := SVy.out.cell 0 (v := .int .i64 xr) rfl
  have cVy_1 := SVy.out.cell 1 (v := .int .i64 xa) rfl
  have cVy_2 := SVy.out.cell 2 (v := .int .i64 xd) rfl
  have cVy_3 := SVy.out.cell 3 (v := .slice ay ys.length cy) rfl
  have fVy_0 := SVy.out.frozen 0
  have fVy_1 := SVy.out.frozen 1
  have fVy_2 := SVy.out.frozen 2
  have fVy_3 := SVy.out.frozen 3
  refine lastL rfl (by kernel_rfl) (by kernel_rfl) (by kernel_rfl) rfl (fun K hK => ?_)
  go_simp
  clear cVy_0 cVy_1 cVy_2 cVy_3 fVy_0 fVy_1 fVy_2 fVy_3
  have Oc := Lib.hid (Oc.out.set_other (B' := w4.heap.size) (fun e => by have := Lc _ e; omega) 2 (.int .i64 (xd + k)))
  have Ox := Lib.hid (Ox.out.set_other (B' := w4.heap.size) (fun e => by have := Lx _ e; omega) 2 (.int .i64 (xd + k)))
  have Oy := Lib.hid (Oy.out.set_other (B' := w4.heap.size) (fun e => by have := Ly _ e; omega) 2 (.int .i64 (xd + k)))
  have SA := Lib.hid (show Str (w8.setCell ⟨w4.heap.size, 2, none⟩ (.int .i64 (xd + k))) (w.heap.size) 27 #[.int .i64 0, .int .i64 0, .int .i64 0, .slice none 0 0] from SA.out.other (by omega) _ _)
  have SB := Lib.hid (show Str (w8.setCell ⟨w4.heap.size, 2, none⟩ (.int .i64 (xd + k))) (w.heap.size + 1) 27 #[.int .i64 0, .int .i64 0, .int .i64 0, .slice none 0 0] from SB.out.other (by omega) _ _)
  have SVx := Lib.hid (show Str (w8.setCell ⟨w4.heap.size, 2, none⟩ (.int .i64 (xd + k))) (w3.heap.size) 27 #[.int .i64 xr, .int .i64 xa, .int .i64 xd, .slice ax xs.length cx] from SVx.out.other (by omega) _ _)
  have SVy := Lib.hid (show Str (w8.setCell ⟨w4.heap.size, 2, none⟩ (.int .i64 (xd + k))) (w4.heap.size) 27 #[.int .i64 xr, .int .i64 xa, .int .i64 (xd + k), .slice ay ys.length cy] from SVy.out.set 2 _)
  have Hr := Lib.hid (Hr.out.kept (grownBy_set w8 (w4.heap.size) 2 (.int .i64 (xd + k))) (fun g e => by cases e; omega))
  have Hb := Lib.hid (Hb.out.setCell (p := ⟨w4.heap.size, 2, none⟩) (by simp only; omega) (.int .i64 (xd + k)))
  skip
  refine hK.out _ _ ?_
  clear hK K hH
  try simp only [Act.put]
  have hz9 : (w8.setCell ⟨w4.heap.size, 2, none⟩ (.int .i64 (xd + k))).heap.size = w8.heap.size := by simp
  generalize (w8.setCell ⟨w4.heap.size, 2, none⟩ (.int .i64 (xd + k))) = w9 at *
  clear Hr
  have cVx_0 := SVx.out.cell 0 (v := .int .i64 xr) rfl
  have cVx_1 := SVx.out.cell 1 (v := .int .i64 xa) rfl
  have cVx_2 := SVx.out.cell 2 (v := .int .i64 xd) rfl
  have cVx_3 := SVx.out.cell 3 (v := .slice ax xs.length cx) rfl
  have cVy_0 := SVy.out.cell 0 (v := .int .i64 xr) rfl
  have cVy_1 := SVy.out.cell 1 (v := .int .i64 xa) rfl
  have cVy_2 := SVy.out.cell 2 (v := .int .i64 (xd + k)) rfl
  have cVy_3 := SVy.out.cell 3 (v := .slice ay ys.length cy) rfl
  go_wp2_with fail
  clear cVx_0 cVx_1 cVx_2 cVx_3 cVy_0 cVy_1 cVy_2 cVy_3
  have hdr : w9.grownBy w9.drew none := below_grown ((Below.refl _ _).drew)
  have Oc := Lib.hid (show Own 3 w9.drew _ _ _ from Oc.out.drewN 1)
  have Ox := Lib.hid (show Own 3 w9.drew _ _ _ from Ox.out.drewN 1)
  have Oy := Lib.hid (show Own 3 w9.drew _ _ _ from Oy.out.drewN 1)
  have SA := Lib.hid (show Str w9.drew (w.heap.size) 27 #[.int .i64 0, .int .i64 0, .int .i64 0, .slice none 0 0] from SA.out)
  have SB := Lib.hid (show Str w9.drew (w.heap.size + 1) 27 #[.int .i64 0, .int .i64 0, .int .i64 0, .slice none 0 0] from SB.out)
  have SVx := Lib.hid (show Str w9.drew (w3.heap.size) 27 #[.int .i64 xr, .int .i64 xa, .int .i64 xd, .slice ax xs.length cx] from SVx.out)
  have SVy := Lib.hid (show Str w9.drew (w4.heap.size) 27 #[.int .i64 xr, .int .i64 xa, .int .i64 (xd + k), .slice ay ys.length cy] from SVy.out)
  have Hb := Lib.hid (Hb.out.drew)
  have hzwf : w9.drew.heap.size = w9.heap.size := rfl
  clear hdr
  refine wp_region_L 5 (fun w' => w'.cell? ⟨w3.heap.size, 0, none⟩ = some (.int .i64 xr) ∧ w'.cell? ⟨w3.heap.size, 1, none⟩ = some (.int .i64 xa) ∧ w'.cell? ⟨w3.heap.size, 2, none⟩ = some (.int .i64 xd) ∧ w'.cell? ⟨w3.heap.size, 3, none⟩ = some (.slice ax xs.length cx) ∧ w'.cell? ⟨w4.heap.size, 0, none⟩ = some (.int .i64 xr) ∧ w'.cell? ⟨w4.heap.size, 1, none⟩ = some (.int .i64 xa) ∧ w'.cell? ⟨w4.heap.size, 2, none⟩ = some (.int .i64 (xd + k)) ∧ w'.cell? ⟨w4.heap.size, 3, none⟩ = some (.slice ay ys.length cy)) (by kernel_rfl) ⟨SVx.out.cell 0 (v := .int .i64 xr) rfl, SVx.out.cell 1 (v := .int .i64 xa) rfl, SVx.out.cell 2 (v := .int .i64 xd) rfl, SVx.out.cell 3 (v := .slice ax xs.length cx) rfl, SVy.out.cell 0 (v := .int .i64 xr) rfl, SVy.out.cell 1 (v := .int .i64 xa) rfl, SVy.out.cell 2 (v := .int .i64 (xd + k)) rfl, SVy.out.cell 3 (v := .slice ay ys.length cy) rfl⟩ (fun hH => ?_)
  generalize w9.drew = wf at *
  refine takeL 0 (v := ?vt10) rfl (by kernel_rfl) (by kernel_rfl) (by kernel_rfl) (by kernel_rfl) (by kernel_rfl) (fun _ _ _ h => h) hH rfl ?yt10 ?rt10
  case yt10 => intro W hSw; go_simp; try with_reducible rfl
  try simp only [Act.put, List.setIfInBounds_toArray, List.set_cons_zero, List.set_cons_succ]
  refine takeL 1 (v := ?vt11) rfl (by kernel_rfl) (by kernel_rfl) (by kernel_rfl) (by kernel_rfl) (by kernel_rfl) (fun _ _ _ h => h) hH rfl ?yt11 ?rt11
  case yt11 => intro W hSw; go_simp; try with_reducible rfl
  try simp only [Act.put, List.setIfInBounds_toArray, List.set_cons_zero, List.set_cons_succ]
  refine takeL 2 (v := ?vt12) rfl (by kernel_rfl) (by kernel_rfl) (by kernel_rfl) (by kernel_rfl) (by kernel_rfl) (fun _ _ _ h => h) hH rfl ?yt12 ?rt12
  case yt12 => intro W hSw; go_simp; try with_reducible rfl
  try simp only [Act.put, List.setIfInBounds_toArray, List.set_cons_zero, List.set_cons_succ]
  refine callL 3 rfl (by kernel_rfl) rfl (fun K hK => ?_)
  go_simp
  refine hK.out _ _ hH (fun hH => ?_)
  clear hK K
  try simp only [Act.put, List.setIfInBounds_toArray, List.set_cons_zero, List.set_cons_succ]
  have cA_0 := SA.out.cell 0 (v := .int .i64 0) rfl
  have cA_1 := SA.out.cell 1 (v := .int .i64 0) rfl
  have cA_2 := SA.out.cell 2 (v := .int .i64 0) rfl
  have cA_3 := SA.out.cell 3 (v := .slice none 0 0) rfl
  have fA_0 := SA.out.frozen 0
  have fA_1 := SA.out.frozen 1
  have fA_2 := SA.out.frozen 2
  have fA_3 := SA.out.frozen 3
  refine callL 4 rfl (by kernel_rfl) rfl (fun K hK => ?_)
  go_simp
  clear cA_0 cA_1 cA_2 cA_3 fA_0 fA_1 fA_2 fA_3
  have Oc := Lib.hid (Oc.out.set_other (B' := w.heap.size) (fun e => by have := Lc _ e; omega) 0 (.int .i64 xr))
  have Ox := Lib.hid (Ox.out.set_other (B' := w.heap.size) (fun e => by have := Lx _ e; omega) 0 (.int .i64 xr))
  have Oy := Lib.hid (Oy.out.set_other (B' := w.heap.size) (fun e => by have := Ly _ e; omega) 0 (.int .i64 xr))
  have SB := Lib.hid (show Str (wf.setCell ⟨w.heap.size, 0, none⟩ (.int .i64 xr)) (w.heap.size + 1) 27 #[.int .i64 0, .int .i64 0, .int .i64 0, .slice none 0 0] from SB.out.other (by omega) _ _)
  have SVx := Lib.hid (show Str (wf.setCell ⟨w.heap.size, 0, none⟩ (.int .i64 xr)) (w3.heap.size) 27 #[.int .i64 xr, .int .i64 xa, .int .i64 xd, .slice ax xs.length cx] from SVx.out.other (by omega) _ _)
  have SVy := Lib.hid (show Str (wf.setCell ⟨w.heap.size, 0, none⟩ (.int .i64 xr)) (w4.heap.size) 27 #[.int .i64 xr, .int .i64 xa, .int .i64 (xd + k), .slice ay ys.length cy] from SVy.out.other (by omega) _ _)
  have SA := Lib.hid (show Str (wf.setCell ⟨w.heap.size, 0, none⟩ (.int .i64 xr)) (w.heap.size) 27 #[.int .i64 xr, .int .i64 0, .int .i64 0, .slice none 0 0] from SA.out.set 0 _)
  have Hb := Lib.hid (Hb.out.setCell (p := ⟨w.heap.size, 0, none⟩) (by simp only; omega) (.int .i64 xr))
  have Oc := Lib.hid (Oc.out.set_other (B' := w.heap.size) (fun e => by have := Lc _ e; omega) 1 (.int .i64 xa))
  have Ox := Lib.hid (Ox.out.set_other (B' := w.heap.size) (fun e => by have := Lx _ e; omega) 1 (.int .i64 xa))
  have Oy := Lib.hid (Oy.out.set_other (B' := w.heap.size) (fun e => by have := Ly _ e; omega) 1 (.int .i64 xa))
  have SB := Lib.hid (show Str ((wf.setCell ⟨w.heap.size, 0, none⟩ (.int .i64 xr)).setCell ⟨w.heap.size, 1, none⟩ (.int .i64 xa)) (w.heap.size + 1) 27 #[.int .i64 0, .int .i64 0, .int .i64 0, .slice none 0 0] from SB.out.other (by omega) _ _)
  have SVx := Lib.hid (show Str ((wf.setCell ⟨w.heap.size, 0, none⟩ (.int .i64 xr)).setCell ⟨w.heap.size, 1, none⟩ (.int .i64 xa)) (w3.heap.size) 27 #[.int .i64 xr, .int .i64 xa, .int .i64 xd, .slice ax xs.length cx] from SVx.out.other (by omega) _ _)
  have SVy := Lib.hid (show Str ((wf.setCell ⟨w.heap.size, 0, none⟩ (.int .i64 xr)).setCell ⟨w.heap.size, 1, none⟩ (.int .i64 xa)) (w4.heap.size) 27 #[.int .i64 xr, .int .i64 xa, .int .i64 (xd + k), .slice ay ys.length cy] from SVy.out.other (by omega) _ _)
  have SA := Lib.hid (show Str ((wf.setCell ⟨w.heap.size, 0, none⟩ (.int .i64 xr)).setCell ⟨w.heap.size, 1, none⟩ (.int .i64 xa)) (w.heap.size) 27 #[.int .i64 xr, .int .i64 xa, .int .i64 0, .slice none 0 0] from SA.out.set 1 _)
  have Hb := Lib.hid (Hb.out.setCell (p := ⟨w.heap.size, 1, none⟩) (by simp only; omega) (.int .i64 xa))
  have Oc := Lib.hid (Oc.out.set_other (B' := w.heap.size) (fun e => by have := Lc _ e; omega) 2 (.int .i64 xd))
  have Ox := Lib.hid (Ox.out.set_other (B' := w.heap.size) (fun e => by have := Lx _ e; omega) 2 (.int .i64 xd))
  have Oy := Lib.hid (Oy.out.set_other (B' := w.heap.size) (fun e => by have := Ly _ e; omega) 2 (.int .i64 xd))
  have SB := Lib.hid (show Str (((wf.setCell ⟨w.heap.size, 0, none⟩ (.int .i64 xr)).setCell ⟨w.heap.size, 1, none⟩ (.int .i64 xa)).setCell ⟨w.heap.size, 2, none⟩ (.int .i64 xd)) (w.heap.size + 1) 27 #[.int .i64 0, .int .i64 0, .int .i64 0, .slice none 0 0] from SB.out.other (by omega) _ _)
  have SVx := Lib.hid (show Str (((wf.setCell ⟨w.heap.size, 0, none⟩ (.int .i64 xr)).setCell ⟨w.heap.size, 1, none⟩ (.int .i64 xa)).setCell ⟨w.heap.size, 2, none⟩ (.int .i64 xd)) (w3.heap.size) 27 #[.int .i64 xr, .int .i64 xa, .int .i64 xd, .slice ax xs.length cx] from SVx.out.other (by omega) _ _)
  have SVy := Lib.hid (show Str (((wf.setCell ⟨w.heap.size, 0, none⟩ (.int .i64 xr)).setCell ⟨w.heap.size, 1, none⟩ (.int .i64 xa)).setCell ⟨w.heap.size, 2, none⟩ (.int .i64 xd)) (w4.heap.size) 27 #[.int .i64 xr, .int .i64 xa, .int .i64 (xd + k), .slice ay ys.length cy] from SVy.out.other (by omega) _ _)
  have SA := Lib.hid (show Str (((wf.setCell ⟨w.heap.size, 0, none⟩ (.int .i64 xr)).setCell ⟨w.heap.size, 1, none⟩ (.int .i64 xa)).setCell ⟨w.heap.size, 2, none⟩ (.int .i64 xd)) (w.heap.size) 27 #[.int .i64 xr, .int .i64 xa, .int .i64 xd, .slice none 0 0] from SA.out.set 2 _)
  have Hb := Lib.hid (Hb.out.setCell (p := ⟨w.heap.size, 2, none⟩) (by simp only; omega) (.int .i64 xd))
  have Oc := Lib.hid (Oc.out.set_other (B' := w.heap.size) (fun e => by have := Lc _ e; omega) 3 (.slice ax xs.length cx))
  have Ox := Lib.hid (Ox.out.set_other (B' := w.heap.size) (fun e => by have := Lx _ e; omega) 3 (.slice ax xs.length cx))
  have Oy := Lib.hid (Oy.out.set_other (B' := w.heap.size) (fun e => by have := Ly _ e; omega) 3 (.slice ax xs.length cx))
  have SB := Lib.hid (show Str ((((wf.setCell ⟨w.heap.size, 0, none⟩ (.int .i64 xr)).setCell ⟨w.heap.size, 1, none⟩ (.int .i64 xa)).setCell ⟨w.heap.size, 2, none⟩ (.int .i64 xd)).setCell ⟨w.heap.size, 3, none⟩ (.slice ax xs.length cx)) (w.heap.size + 1) 27 #[.int .i64 0, .int .i64 0, .int .i64 0, .slice none 0 0] from SB.out.other (by omega) _ _)
  have SVx := Lib.hid (show Str ((((wf.setCell ⟨w.heap.size, 0, none⟩ (.int .i64 xr)).setCell ⟨w.heap.size, 1, none⟩ (.int .i64 xa)).setCell ⟨w.heap.size, 2, none⟩ (.int .i64 xd)).setCell ⟨w.heap.size, 3, none⟩ (.slice ax xs.length cx)) (w3.heap.size) 27 #[.int .i64 xr, .int .i64 xa, .int .i64 xd, .slice ax xs.length cx] from SVx.out.other (by omega) _ _)
  have SVy := Lib.hid (show Str ((((wf.setCell ⟨w.heap.size, 0, none⟩ (.int .i64 xr)).setCell ⟨w.heap.size, 1, none⟩ (.int .i64 xa)).setCell ⟨w.heap.size, 2, none⟩ (.int .i64 xd)).setCell ⟨w.heap.size, 3, none⟩ (.slice ax xs.length cx)) (w4.heap.size) 27 #[.int .i64 xr, .int .i64 xa, .int .i64 (xd + k), .slice ay ys.length cy] from SVy.out.other (by omega) _ _)
  have SA := Lib.hid (show Str ((((wf.setCell ⟨w.heap.size, 0, none⟩ (.int .i64 xr)).setCell ⟨w.heap.size, 1, none⟩ (.int .i64 xa)).setCell ⟨w.heap.size, 2, none⟩ (.int .i64 xd)).setCell ⟨w.heap.size, 3, none⟩ (.slice ax xs.length cx)) (w.heap.size) 27 #[.int .i64 xr, .int .i64 xa, .int .i64 xd, .slice ax xs.length cx] from SA.out.set 3 _)
  have Hb := Lib.hid (Hb.out.setCell (p := ⟨w.heap.size, 3, none⟩) (by simp only; omega) (.slice ax xs.length cx))
  skip
  refine hK.out _ _ ⟨SVx.out.cell 0 (v := .int .i64 xr) rfl, SVx.out.cell 1 (v := .int .i64 xa) rfl, SVx.out.cell 2 (v := .int .i64 xd) rfl, SVx.out.cell 3 (v := .slice ax xs.length cx) rfl, SVy.out.cell 0 (v := .int .i64 xr) rfl, SVy.out.cell 1 (v := .int .i64 xa) rfl, SVy.out.cell 2 (v := .int .i64 (xd + k)) rfl, SVy.out.cell 3 (v := .slice ay ys.length cy) rfl⟩ (fun hH => ?_)
  clear hK K hH
  have hzg : ((((wf.setCell ⟨w.heap.size, 0, none⟩ (.int .i64 xr)).setCell ⟨w.heap.size, 1, none⟩ (.int .i64 xa)).setCell ⟨w.heap.size, 2, none⟩ (.int .i64 xd)).setCell ⟨w.heap.size, 3, none⟩ (.slice ax xs.length cx)).heap.size = wf.heap.size := by simp
  generalize ((((wf.setCell ⟨w.heap.size, 0, none⟩ (.int .i64 xr)).setCell ⟨w.heap.size, 1, none⟩ (.int .i64 xa)).setCell ⟨w.heap.size, 2, none⟩ (.int .i64 xd)).setCell ⟨w.heap.size, 3, none⟩ (.slice ax xs.length cx)) = wg at *
  try simp only [Act.put, List.setIfInBounds_toArray, List.set_cons_zero, List.set_cons_succ]
  have cB_0 := SB.out.cell 0 (v := .int .i64 0) rfl
  have cB_1 := SB.out.cell 1 (v := .int .i64 0) rfl
  have cB_2 := SB.out.cell 2 (v := .int .i64 0) rfl
  have cB_3 := SB.out.cell 3 (v := .slice none 0 0) rfl
  have fB_0 := SB.out.frozen 0
  have fB_1 := SB.out.frozen 1
  have fB_2 := SB.out.frozen 2
  have fB_3 := SB.out.frozen 3
  refine lastL rfl (by kernel_rfl) (by kernel_rfl) (by kernel_rfl) rfl (fun K hK => ?_)
  go_simp
  clear cB_0 cB_1 cB_2 cB_3 fB_0 fB_1 fB_2 fB_3
  have Oc := Lib.hid (Oc.out.set_other (B' := w.heap.size + 1) (fun e => by have := Lc _ e; omega) 0 (.int .i64 xr))
  have Ox := Lib.hid (Ox.out.set_other (B' := w.heap.size + 1) (fun e => by have := Lx _ e; omega) 0 (.int .i64 xr))
  have Oy := Lib.hid (Oy.out.set_other (B' := w.heap.size + 1) (fun e => by have := Ly _ e; omega) 0 (.int .i64 xr))
  have SA := Lib.hid (show Str (wg.setCell ⟨w.heap.size + 1, 0, none⟩ (.int .i64 xr)) (w.heap.size) 27 #[.int .i64 xr, .int .i64 xa, .int .i64 xd, .slice ax xs.length cx] from SA.out.other (by omega) _ _)
  have SVx := Lib.hid (show Str (wg.setCell ⟨w.heap.size + 1, 0, none⟩ (.int .i64 xr)) (w3.heap.size) 27 #[.int .i64 xr, .int .i64 xa, .int .i64 xd, .slice ax xs.length cx] from SVx.out.other (by omega) _ _)
  have SVy := Lib.hid (show Str (wg.setCell ⟨w.heap.size + 1, 0, none⟩ (.int .i64 xr)) (w4.heap.size) 27 #[.int .i64 xr, .int .i64 xa, .int .i64 (xd + k), .slice ay ys.length cy] from SVy.out.other (by omega) _ _)
  have SB := Lib.hid (show Str (wg.setCell ⟨w.heap.size + 1, 0, none⟩ (.int .i64 xr)) (w.heap.size + 1) 27 #[.int .i64 xr, .int .i64 0, .int .i64 0, .slice none 0 0] from SB.out.set 0 _)
  have Hb := Lib.hid (Hb.out.setCell (p := ⟨w.heap.size + 1, 0, none⟩) (by simp only; omega) (.int .i64 xr))
  have Oc := Lib.hid (Oc.out.set_other (B' := w.heap.size + 1) (fun e => by have := Lc _ e; omega) 1 (.int .i64 xa))
  have Ox := Lib.hid (Ox.out.set_other (B' := w.heap.size + 1) (fun e => by have := Lx _ e; omega) 1 (.int .i64 xa))
  have Oy := Lib.hid (Oy.out.set_other (B' := w.heap.size + 1) (fun e => by have := Ly _ e; omega) 1 (.int .i64 xa))
  have SA := Lib.hid (show Str ((wg.setCell ⟨w.heap.size + 1, 0, none⟩ (.int .i64 xr)).setCell ⟨w.heap.size + 1, 1, none⟩ (.int .i64 xa)) (w.heap.size) 27 #[.int .i64 xr, .int .i64 xa, .int .i64 xd, .slice ax xs.length cx] from SA.out.other (by omega) _ _)
  have SVx := Lib.hid (show Str ((wg.setCell ⟨w.heap.size + 1, 0, none⟩ (.int .i64 xr)).setCell ⟨w.heap.size + 1, 1, none⟩ (.int .i64 xa)) (w3.heap.size) 27 #[.int .i64 xr, .int .i64 xa, .int .i64 xd, .slice ax xs.length cx] from SVx.out.other (by omega) _ _)
  have SVy := Lib.hid (show Str ((wg.setCell ⟨w.heap.size + 1, 0, none⟩ (.int .i64 xr)).setCell ⟨w.heap.size + 1, 1, none⟩ (.int .i64 xa)) (w4.heap.size) 27 #[.int .i64 xr, .int .i64 xa, .int .i64 (xd + k), .slice ay ys.length cy] from SVy.out.other (by omega) _ _)
  have SB := Lib.hid (show Str ((wg.setCell ⟨w.heap.size + 1, 0, none⟩ (.int .i64 xr)).setCell ⟨w.heap.size + 1, 1, none⟩ (.int .i64 xa)) (w.heap.size + 1) 27 #[.int .i64 xr, .int .i64 xa, .int .i64 0, .slice none 0 0] from SB.out.set 1 _)
  have Hb := Lib.hid (Hb.out.setCell (p := ⟨w.heap.size + 1, 1, none⟩) (by simp only; omega) (.int .i64 xa))
  have Oc := Lib.hid (Oc.out.set_other (B' := w.heap.size + 1) (fun e => by have := Lc _ e; omega) 2 (.int .i64 (xd + k)))
  have Ox := Lib.hid (Ox.out.set_other (B' := w.heap.size + 1) (fun e => by have := Lx _ e; omega) 2 (.int .i64 (xd + k)))
  have Oy := Lib.hid (Oy.out.set_other (B' := w.heap.size + 1) (fun e => by have := Ly _ e; omega) 2 (.int .i64 (xd + k)))
  have SA := Lib.hid (show Str (((wg.setCell ⟨w.heap.size + 1, 0, none⟩ (.int .i64 xr)).setCell ⟨w.heap.size + 1, 1, none⟩ (.int .i64 xa)).setCell ⟨w.heap.size + 1, 2, none⟩ (.int .i64 (xd + k))) (w.heap.size) 27 #[.int .i64 xr, .int .i64 xa, .int .i64 xd, .slice ax xs.length cx] from SA.out.other (by omega) _ _)
  have SVx := Lib.hid (show Str (((wg.setCell ⟨w.heap.size + 1, 0, none⟩ (.int .i64 xr)).setCell ⟨w.heap.size + 1, 1, none⟩ (.int .i64 xa)).setCell ⟨w.heap.size + 1, 2, none⟩ (.int .i64 (xd + k))) (w3.heap.size) 27 #[.int .i64 xr, .int .i64 xa, .int .i64 xd, .slice ax xs.length cx] from SVx.out.other (by omega) _ _)
  have SVy := Lib.hid (show Str (((wg.setCell ⟨w.heap.size + 1, 0, none⟩ (.int .i64 xr)).setCell ⟨w.heap.size + 1, 1, none⟩ (.int .i64 xa)).setCell ⟨w.heap.size + 1, 2, none⟩ (.int .i64 (xd + k))) (w4.heap.size) 27 #[.int .i64 xr, .int .i64 xa, .int .i64 (xd + k), .slice ay ys.length cy] from SVy.out.other (by omega) _ _)
  have SB := Lib.hid (show Str (((wg.setCell ⟨w.heap.size + 1, 0, none⟩ (.int .i64 xr)).setCell ⟨w.heap.size + 1, 1, none⟩ (.int .i64 xa)).setCell ⟨w.heap.size + 1, 2, none⟩ (.int .i64 (xd + k))) (w.heap.size + 1) 27 #[.int .i64 xr, .int .i64 xa, .int .i64 (xd + k), .slice none 0 0] from SB.out.set 2 _)
  have Hb := Lib.hid (Hb.out.setCell (p := ⟨w.heap.size + 1, 2, none⟩) (by simp only; omega) (.int .i64 (xd + k)))
  have Oc := Lib.hid (Oc.out.set_other (B' := w.heap.size + 1) (fun e => by have := Lc _ e; omega) 3 (.slice ay ys.length cy))
  have Ox := Lib.hid (Ox.out.set_other (B' := w.heap.size + 1) (fun e => by have := Lx _ e; omega) 3 (.slice ay ys.length cy))
  have Oy := Lib.hid (Oy.out.set_other (B' := w.heap.size + 1) (fun e => by have := Ly _ e; omega) 3 (.slice ay ys.length cy))
  have SA := Lib.hid (show Str ((((wg.setCell ⟨w.heap.size + 1, 0, none⟩ (.int .i64 xr)).setCell ⟨w.heap.size + 1, 1, none⟩ (.int .i64 xa)).setCell ⟨w.heap.size + 1, 2, none⟩ (.int .i64 (xd + k))).setCell ⟨w.heap.size + 1, 3, none⟩ (.slice ay ys.length cy)) (w.heap.size) 27 #[.int .i64 xr, .int .i64 xa, .int .i64 xd, .slice ax xs.length cx] from SA.out.other (by omega) _ _)
  have SVx := Lib.hid (show Str ((((wg.setCell ⟨w.heap.size + 1, 0, none⟩ (.int .i64 xr)).setCell ⟨w.heap.size + 1, 1, none⟩ (.int .i64 xa)).setCell ⟨w.heap.size + 1, 2, none⟩ (.int .i64 (xd + k))).setCell ⟨w.heap.size + 1, 3, none⟩ (.slice ay ys.length cy)) (w3.heap.size) 27 #[.int .i64 xr, .int .i64 xa, .int .i64 xd, .slice ax xs.length cx] from SVx.out.other (by omega) _ _)
  have SVy := Lib.hid (show Str ((((wg.setCell ⟨w.heap.size + 1, 0, none⟩ (.int .i64 xr)).setCell ⟨w.heap.size + 1, 1, none⟩ (.int .i64 xa)).setCell ⟨w.heap.size + 1, 2, none⟩ (.int .i64 (xd + k))).setCell ⟨w.heap.size + 1, 3, none⟩ (.slice ay ys.length cy)) (w4.heap.size) 27 #[.int .i64 xr, .int .i64 xa, .int .i64 (xd + k), .slice ay ys.length cy] from SVy.out.other (by omega) _ _)
  have SB := Lib.hid (show Str ((((wg.setCell ⟨w.heap.size + 1, 0, none⟩ (.int .i64 xr)).setCell ⟨w.heap.size + 1, 1, none⟩ (.int .i64 xa)).setCell ⟨w.heap.size + 1, 2, none⟩ (.int .i64 (xd + k))).setCell ⟨w.heap.size + 1, 3, none⟩ (.slice ay ys.length cy)) (w.heap.size + 1) 27 #[.int .i64 xr, .int .i64 xa, .int .i64 (xd + k), .slice ay ys.length cy] from SB.out.set 3 _)
  have Hb := Lib.hid (Hb.out.setCell (p := ⟨w.heap.size + 1, 3, none⟩) (by simp only; omega) (.slice ay ys.length cy))
  skip
  refine hK.out _ _ ?_
  clear hK K
  try simp only [Act.put]
  generalize ((((wg.setCell ⟨w.heap.size + 1, 0, none⟩ (.int .i64 xr)).setCell ⟨w.heap.size + 1, 1, none⟩ (.int .i64 xa)).setCell ⟨w.heap.size + 1, 2, none⟩ (.int .i64 (xd + k))).setCell ⟨w.heap.size + 1, 3, none⟩ (.slice ay ys.length cy)) = wh at *
  have cA_0 := SA.out.cell 0 (v := .int .i64 xr) rfl
  have cA_1 := SA.out.cell 1 (v := .int .i64 xa) rfl
  have cA_2 := SA.out.cell 2 (v := .int .i64 xd) rfl
  have cA_3 := SA.out.cell 3 (v := .slice ax xs.length cx) rfl
  have cB_0 := SB.out.cell 0 (v := .int .i64 xr) rfl
  have cB_1 := SB.out.cell 1 (v := .int .i64 xa) rfl
  have cB_2 := SB.out.cell 2 (v := .int .i64 (xd + k)) rfl
  have cB_3 := SB.out.cell 3 (v := .slice ay ys.length cy) rfl
  go_wp2
  refine bodyPost_ret (v := .tuple #[.slice ac c.length cc, .agg #[.int .i64 xr, .int .i64 xa, .int .i64 xd, .slice ax xs.length cx], .agg #[.int .i64 xr, .int .i64 xa, .int .i64 (xd + k), .slice ay ys.length cy]]) (by simp [results, Try.f20, go_sem, cA_0, cA_1, cA_2, cA_3, cB_0, cB_1, cB_2, cB_3]) rfl ?_
  exact ⟨ac, cc, c, ⟨xr, xa, xd⟩, ⟨xr, xa, xd + k⟩, ax, cx, xs, ay, cy, ys, rfl, hvx, ⟨hvx.1, hvx.2.1, by have := hvx.2.2; simp only at *; omega⟩, Oc.out.mono (by omega), hcl, hcs, Ox.out.mono (by omega), by omega, Oy.out.mono (by omega), by omega, Hb.out⟩

end Go.Proofs.Ytgpbogalknmcmab

/- The draw of a committee, a tally and a member; by a walk of its text; condition: the code is shorter than 2^20. -/
namespace Go.Proofs.Ytgpbogalknmcmab
open Go.RowKit

set_option maxRecDepth 8000 in
set_option maxHeartbeats 4000000 in
theorem spec_DrawTallyAdd (a : Option Addr) (cap : Nat) (zs : List Int) (w : World) (h : CodeAt w a cap zs) :
    Calls Try.prog 10 #[.slice a zs.length cap] w fun e w' => ∃ (ac : Option Addr) (cc : Nat) (c : List Int) (x : Vt) (ax : Option Addr) (cx : Nat) (xs : List Int) (n : Int), e = .returned (.tuple #[.slice ac c.length cc, .agg #[.int .i64 x.r, .int .i64 x.a, .int .i64 x.d, .slice ax xs.length cx], .int .i64 n]) ∧
      VtS x ∧ Own 3 w' w.heap.size (.slice ac c.length cc) c ∧ c.length ≤ 11 ∧ Own 3 w' w.heap.size (.slice ax xs.length cx) xs ∧ xs.length ≤ 12 ∧ (-10 ≤ n ∧ n ≤ 30) ∧ Below w.heap.size w w' := by
  have Hb := Lib.hid (Below.refl w.heap.size w)
  have SA := Lib.hid (Str.new w 27 #[.int .i64 0, .int .i64 0, .int .i64 0, .slice none 0 0])
  have Hb := Lib.hid (Hb.out.alloc Hb.out.size (.cells #[.int .i64 0, .int .i64 0, .int .i64 0, .slice none 0 0] 27))
  have hzA : (w.alloc (.cells #[.int .i64 0, .int .i64 0, .int .i64 0, .slice none 0 0] 27)).heap.size = w.heap.size + 1 := by simp
  have Hop := Lib.hid (open_any a cap zs _ (h.below Hb.out)); clear h
  go_enter Try.func10, Try.ntmps10
  go_wp2_with fail
  generalize (w.alloc (.cells #[.int .i64 0, .int .i64 0, .int .i64 0, .slice none 0 0] 27)) = w0 at *
  refine Hop.out.mono ?_
  rintro e w1 ⟨R, rfl, hR0, hR1, hr', hb'⟩
  have hs1 := hb'.size
  have SA := Lib.hid (show Str w1 (w.heap.size) 27 #[.int .i64 0, .int .i64 0, .int .i64 0, .slice none 0 0] from SA.out.kept (below_grown hb') (by simp))
  have Hb := Lib.hid (below_step Hb.out Hb.out.size hb')
  have Hr := Lib.hid hr'
  clear hr' hb' Hop
  go_wp2_with fail
  refine (drawCommittee R 0 _ (by omega) Hr.out hR1).mono ?_
  rintro e w2 ⟨vc, c, p2, rfl, hown, hcl, hcs, hr', hp2, hg'⟩
  have hs2 := hg'.size
  obtain ⟨ac, cc, rfl, _, _⟩ := hown.ints
  have SA := Lib.hid (show Str w2 (w.heap.size) 27 #[.int .i64 0, .int .i64 0, .int .i64 0, .slice none 0 0] from SA.out.kept hg' (by simp; omega))
  have Hb := Lib.hid (Hb.out.grown hg' Hb.out.size (fun g e => by cases e; omega))
  have Lc : ∀ k, ((.slice ac c.length cc : Value)).ownBlock = some k → w1.heap.size ≤ k ∧ k < w2.heap.size := fun k e => hown.lt k e
  have Oc := Lib.hid hown; clear hown
  have Hr := Lib.hid hr'
  clear hr' hg'
  go_wp2_with fail
  refine (drawTally R p2 ac c.length cc _ (by omega) (by omega) Hr.out (by omega)).mono ?_
  rintro e w3 ⟨⟨xr, xa, xd⟩, ax, cx, xs, p3, rfl, hvx, hdx, hown, hxl, hr', hp3, hg'⟩
  have hsw3 := hg'.size
  dsimp only at *
  have Oc := Lib.hid (Oc.out.kept hg' (.inr (fun e => by have := Lc _ e; omega)))
  have SA := Lib.hid (show Str w3 (w.heap.size) 27 #[.int .i64 0, .int .i64 0, .int .i64 0, .slice none 0 0] from SA.out.kept hg' (by simp; omega))
  have Hb := Lib.hid (Hb.out.grown hg' Hb.out.size (fun g e => by cases e; omega))
  have Lx : ∀ k, ((.slice ax xs.length cx : Value)).ownBlock = some k → w2.heap.size ≤ k ∧ k < w3.heap.size := fun k e => hown.lt k e
  have Ox := Lib.hid hown; clear hown
  have Hr := Lib.hid hr'
  clear hr' hg'
  have Oc := Lib.hid (Oc.out.alloc (.cells #[.int .i64 xr, .int .i64 xa, .int .i64 xd, .slice ax xs.length cx] 27))
  have Ox := Lib.hid (Ox.out.alloc (.cells #[.int .i64 xr, .int .i64 xa, .int .i64 xd, .slice ax xs.length cx] 27))
  have SA := Lib.hid (show Str (w3.alloc (.cells #[.int .i64 xr, .int .i64 xa, .int .i64 xd, .slice ax xs.length cx] 27)) (w.heap.size) 27 #[.int .i64 0, .int .i64 0, .int .i64 0, .slice none 0 0] from SA.out.alloc _)
  have SVx := Lib.hid (Str.new w3 27 #[.int .i64 xr, .int .i64 xa, .int .i64 xd, .slice ax xs.length cx])
  have Hr := Lib.hid (Hr.out.alloc (.cells #[.int .i64 xr, .int .i64 xa, .int .i64 xd, .slice ax xs.length cx] 27))
  have Hb := Lib.hid (Hb.out.alloc Hb.out.size (.cells #[.int .i64 xr, .int .i64 xa, .int .i64 xd, .slice ax xs.length cx] 27))
  have hzVx : (w3.alloc (.cells #[.int .i64 xr, .int .i64 xa, .int .i64 xd, .slice ax xs.length cx] 27)).heap.size = w3.heap.size + 1 := by simp
  obtain ⟨M, hM⟩ : ∃ M : Int, M = max (c.length : Int) 1 := ⟨_, rfl⟩
  have hmx : 1 ≤ M ∧ M ≤ 11 := by omega
  have HM := Lib.hid hM; clear hM
  have cVx_0 := SVx.out.cell 0 (v := .int .i64 xr) rfl
  have cVx_1 := SVx.out.cell 1 (v := .int .i64 xa) rfl
  have cVx_2 := SVx.out.cell 2 (v := .int .i64 xd) rfl
  have cVx_3 := SVx.out.cell 3 (v := .slice ax xs.length cx) rfl
  go_wp2_with fail
  generalize (w3.alloc (.cells #[.int .i64 xr, .int .i64 xa, .int .i64 xd, .slice ax xs.length cx] 27)) = W3 at *
  clear cVx_0 cVx_1 cVx_2 cVx_3
  have hdr : W3.grownBy W3.drew none := below_grown ((Below.refl _ _).drew)
  have Oc := Lib.hid (show Own 3 W3.drew _ _ _ from Oc.out.drewN 1)
  have Ox := Lib.hid (show Own 3 W3.drew _ _ _ from Ox.out.drewN 1)
  have SA := Lib.hid (show Str W3.drew (w.heap.size) 27 #[.int .i64 0, .int .i64 0, .int .i64 0, .slice none 0 0] from SA.out)
  have SVx := Lib.hid (show Str W3.drew (w3.heap.size) 27 #[.int .i64 xr, .int .i64 xa, .int .i64 xd, .slice ax xs.length cx] from SVx.out)
  have Hr := Lib.hid (show Rdr W3.drew R _ from Hr.out.drewN 1)
  have Hb := Lib.hid (Hb.out.drew)
  have hzwf : W3.drew.heap.size = W3.heap.size := rfl
  clear hdr
  refine wp_region_L 17 (fun w' => w'.cell? ⟨w3.heap.size, 0, none⟩ = some (.int .i64 xr) ∧ w'.cell? ⟨w3.heap.size, 1, none⟩ = some (.int .i64 xa) ∧ w'.cell? ⟨w3.heap.size, 2, none⟩ = some (.int .i64 xd) ∧ w'.cell? ⟨w3.heap.size, 3, none⟩ = some (.slice ax xs.length cx)) (by kernel_rfl) ⟨SVx.out.cell 0 (v := .int .i64 xr) rfl, SVx.out.cell 1 (v := .int .i64 xa) rfl, SVx.out.cell 2 (v := .int .i64 xd) rfl, SVx.out.cell 3 (v := .slice ax xs.length cx) rfl⟩ (fun hH => ?_)
  generalize W3.drew = wf at *
  refine takeL 0 (v := ?vt1) rfl (by kernel_rfl) (by kernel_rfl) (by kernel_rfl) (by kernel_rfl) (by kernel_rfl) (fun _ _ _ h => h) hH rfl ?yt1 ?rt1
  case yt1 => intro W hSw; go_simp; try with_reducible rfl
  try simp only [Act.put, List.setIfInBounds_toArray, List.set_cons_zero, List.set_cons_succ]
  refine takeL 1 (v := ?vt2) rfl (by kernel_rfl) (by kernel_rfl) (by kernel_rfl) (by kernel_rfl) (by kernel_rfl) (fun _ _ _ h => h) hH rfl ?yt2 ?rt2
  case yt2 => intro W hSw; go_simp; try with_reducible rfl
  try simp only [Act.put, List.setIfInBounds_toArray, List.set_cons_zero, List.set_cons_succ]
  refine takeL 2 (v := ?vt3) rfl (by kernel_rfl) (by kernel_rfl) (by kernel_rfl) (by kernel_rfl) (by kernel_rfl) (fun _ _ _ h => h) hH rfl ?yt3 ?rt3
  case yt3 => intro W hSw; go_simp; try with_reducible rfl
  try simp only [Act.put, List.setIfInBounds_toArray, List.set_cons_zero, List.set_cons_succ]
  refine takeL 3 (v := ?vt4) rfl (by kernel_rfl) (by kernel_rfl) (by kernel_rfl) (by kernel_rfl) (by kernel_rfl) (fun _ _ _ h => h) hH rfl ?yt4 ?rt4
  case yt4 => intro W hSw; go_simp; try with_reducible rfl
  try simp only [Act.put, List.setIfInBounds_toArray, List.set_cons_zero, List.set_cons_succ]
  refine takeL 4 (v := ?vt5) rfl (by kernel_rfl) (by kernel_rfl) (by kernel_rfl) (by kernel_rfl) (by kernel_rfl) (fun _ _ _ h => h) hH rfl ?yt5 ?rt5
  case yt5 => intro W hSw; go_simp; try with_reducible rfl
  try simp only [Act.put, List.setIfInBounds_toArray, List.set_cons_zero, List.set_cons_succ]
  refine takeL 5 (v := .int .i64 M) rfl (by kernel_rfl) (by kernel_rfl) (by kernel_rfl) (by kernel_rfl) (by kernel_rfl) (fun _ _ _ h => h) hH rfl ?yM ?rM
  case yM => intro W hSw; have hM := HM.out; go_simp; first | done | (rw [hM]) | omega | (split <;> omega) | (rw [hM]; split <;> omega) | (simp; split <;> omega)
  try simp only [Act.put, List.setIfInBounds_toArray, List.set_cons_zero, List.set_cons_succ]
  refine takeL 7 (v := ?vt6) rfl (by kernel_rfl) (by kernel_rfl) (by kernel_rfl) (by kernel_rfl) (by kernel_rfl) (fun _ _ _ h => h) hH rfl ?yt6 ?rt6
  case yt6 => intro W hSw; go_simp; try with_reducible rfl
  try simp only [Act.put, List.setIfInBounds_toArray, List.set_cons_zero, List.set_cons_succ]
  refine takeL 10 (v := ?vt7) rfl (by kernel_rfl) (by kernel_rfl) (by kernel_rfl) (by kernel_rfl) (by kernel_rfl) (fun _ _ _ h => h) hH rfl ?yt7 ?rt7
  case yt7 => intro W hSw; go_simp; try with_reducible rfl
  try simp only [Act.put, List.setIfInBounds_toArray, List.set_cons_zero, List.set_cons_succ]
  refine callL 6 rfl (by kernel_rfl) rfl (fun K hK => ?_)
  go_simp
  go_at_call 38
  refine (pick_any R M (p3) _ (by omega) Hr.out (by omega)).mono ?_
  rintro e w4 ⟨q, rfl, hq0, hq1, hr', hg'⟩
  have hsw4 := hg'.size
  have Oc := Lib.hid (Oc.out.kept hg' (.inr (fun e => by have := Lc _ e; omega)))
  have Ox := Lib.hid (Ox.out.kept hg' (.inr (fun e => by have := Lx _ e; omega)))
  have SA := Lib.hid (show Str w4 (w.heap.size) 27 #[.int .i64 0, .int .i64 0, .int .i64 0, .slice none 0 0] from SA.out.kept hg' (by simp; omega))
  have SVx := Lib.hid (show Str w4 (w3.heap.size) 27 #[.int .i64 xr, .int .i64 xa, .int .i64 xd, .slice ax xs.length cx] from SVx.out.kept hg' (by simp; omega))
  have Hb := Lib.hid (Hb.out.grown hg' Hb.out.size (fun g e => by cases e; omega))
  have Hr := Lib.hid hr'
  clear hr' hg'
  refine hK.out _ _ ⟨SVx.out.cell 0 (v := .int .i64 xr) rfl, SVx.out.cell 1 (v := .int .i64 xa) rfl, SVx.out.cell 2 (v := .int .i64 xd) rfl, SVx.out.cell 3 (v := .slice ax xs.length cx) rfl⟩ (fun hH => ?_)
  clear hK K
  try simp only [Act.put, List.setIfInBounds_toArray, List.set_cons_zero, List.set_cons_succ]
  refine callL 8 rfl (by kernel_rfl) rfl (fun K hK => ?_)
  go_simp
  go_at_call 38
  refine (pick_any R 14 (p3 + 1) _ (by omega) Hr.out (by omega)).mono ?_
  rintro e w5 ⟨t, rfl, ht0, ht1, hr', hg'⟩
  have hsw5 := hg'.size
  have Oc := Lib.hid (Oc.out.kept hg' (.inr (fun e => by have := Lc _ e; omega)))
  have Ox := Lib.hid (Ox.out.kept hg' (.inr (fun e => by have := Lx _ e; omega)))
  have SA := Lib.hid (show Str w5 (w.heap.size) 27 #[.int .i64 0, .int .i64 0, .int .i64 0, .slice none 0 0] from SA.out.kept hg' (by simp; omega))
  have SVx := Lib.hid (show Str w5 (w3.heap.size) 27 #[.int .i64 xr, .int .i64 xa, .int .i64 xd, .slice ax xs.length cx] from SVx.out.kept hg' (by simp; omega))
  have Hb := Lib.hid (Hb.out.grown hg' Hb.out.size (fun g e => by cases e; omega))
  have Hr := Lib.hid hr'
  clear hr' hg'
  refine hK.out _ _ ⟨SVx.out.cell 0 (v := .int .i64 xr) rfl, SVx.out.cell 1 (v := .int .i64 xa) rfl, SVx.out.cell 2 (v := .int .i64 xd) rfl, SVx.out.cell 3 (v := .slice ax xs.length cx) rfl⟩ (fun hH => ?_)
  clear hK K
  try simp only [Act.put, List.setIfInBounds_toArray, List.set_cons_zero, List.set_cons_succ]
  obtain ⟨D, hD⟩ : ∃ D, t.tdiv 13 = D := ⟨_, rfl⟩
  have hD0 : 0 ≤ D ∧ D ≤ 1 := by have : t / 13 = t.tdiv 13 := (Int.tdiv_eq_ediv_of_nonneg (by omega)).symm; omega
  have hD2 : t / 13 = D := by rw [← hD]; exact (Int.tdiv_eq_ediv_of_nonneg (by omega)).symm
  have hw9 : IntKind.i64.wrap D = D := IntWalk.i64_in _ (by omega)
  refine takeL 9 (v := ?vt8) rfl (by kernel_rfl) (by kernel_rfl) (by kernel_rfl) (by kernel_rfl) (by kernel_rfl) (fun _ _ _ h => h) hH rfl ?yt8 ?rt8
  case yt8 => intro W hSw; go_simp; try with_reducible rfl
  try simp only [Act.put, List.setIfInBounds_toArray, List.set_cons_zero, List.set_cons_succ]
  refine callL 11 rfl (by kernel_rfl) rfl (fun K hK => ?_)
  go_simp
  go_at_call 38
  refine (pick_any R 9 (p3 + 1 + 1) _ (by omega) Hr.out (by omega)).mono ?_
  rintro e w6 ⟨u, rfl, hu0, hu1, hr', hg'⟩
  have hsw6 := hg'.size
  have Oc := Lib.hid (Oc.out.kept hg' (.inr (fun e => by have := Lc _ e; omega)))
  have Ox := Lib.hid (Ox.out.kept hg' (.inr (fun e => by have := Lx _ e; omega)))
  have SA := Lib.hid (show Str w6 (w.heap.size) 27 #[.int .i64 0, .int .i64 0, .int .i64 0, .slice none 0 0] from SA.out.kept hg' (by simp; omega))
  have SVx := Lib.hid (show Str w6 (w3.heap.size) 27 #[.int .i64 xr, .int .i64 xa, .int .i64 xd, .slice ax xs.length cx] from SVx.out.kept hg' (by simp; omega))
  have Hb := Lib.hid (Hb.out.grown hg' Hb.out.size (fun g e => by cases e; omega))
  have Hr := Lib.hid hr'
  clear hr' hg'
  refine hK.out _ _ ⟨SVx.out.cell 0 (v := .int .i64 xr) rfl, SVx.out.cell 1 (v := .int .i64 xa) rfl, SVx.out.cell 2 (v := .int .i64 xd) rfl, SVx.out.cell 3 (v := .slice ax xs.length cx) rfl⟩ (fun hH => ?_)
  clear hK K
  try simp only [Act.put, List.setIfInBounds_toArray, List.set_cons_zero, List.set_cons_succ]
  have hu4 : IntKind.i64.wrap (u - 4) = u - 4 := IntWalk.i64_in _ (by omega)
  have hDu : -4 ≤ D * (u - 4) ∧ D * (u - 4) ≤ 4 := by
    have : D = 0 ∨ D = 1 := by omega
    rcases this with rfl | rfl <;> omega
  obtain ⟨F, hF⟩ : ∃ F, D * (u - 4) = F := ⟨_, rfl⟩
  rw [hF] at hDu
  have hw1 : IntKind.i64.wrap F = F := IntWalk.i64_in _ (by omega)
  have hw2 : IntKind.i64.wrap (q + F) = q + F := IntWalk.i64_in _ (by omega)
  refine takeL 12 (v := ?vt9) rfl (by kernel_rfl) (by kernel_rfl) (by kernel_rfl) (by kernel_rfl) (by kernel_rfl) (fun _ _ _ h => h) hH rfl ?yt9 ?rt9
  case yt9 => intro W hSw; go_simp; try with_reducible rfl
  try simp only [Act.put, List.setIfInBounds_toArray, List.set_cons_zero, List.set_cons_succ]
  refine takeL 13 (v := ?vt10) rfl (by kernel_rfl) (by kernel_rfl) (by kernel_rfl) (by kernel_rfl) (by kernel_rfl) (fun _ _ _ h => h) hH rfl ?yt10 ?rt10
  case yt10 => intro W hSw; go_simp; try with_reducible rfl
  try simp only [Act.put, List.setIfInBounds_toArray, List.set_cons_zero, List.set_cons_succ]
  refine takeL 14 (v := ?vt11) rfl (by kernel_rfl) (by kernel_rfl) (by kernel_rfl) (by kernel_rfl) (by kernel_rfl) (fun _ _ _ h => h) hH rfl ?yt11 ?rt11
  case yt11 => intro W hSw; go_simp; try with_reducible rfl
  try simp only [Act.put, List.setIfInBounds_toArray, List.set_cons_zero, List.set_cons_succ]
  refine takeL 15 (v := ?vt12) rfl (by kernel_rfl) (by kernel_rfl) (by kernel_rfl) (by kernel_rfl) (by kernel_rfl) (fun _ _ _ h => h) hH rfl ?yt12 ?rt12
  case yt12 => intro W hSw; go_simp; try with_reducible rfl
  try simp only [Act.put, List.setIfInBounds_toArray, List.set_cons_zero, List.set_cons_succ]
  clear Hr
  have cA_0 := SA.out.cell 0 (v := .int .i64 0) rfl
  have cA_1 := SA.out.cell 1 (v := .int .i64 0) rfl
  have cA_2 := SA.out.cell 2 (v := .int .i64 0) rfl
  have cA_3 := SA.out.cell 3 (v := .slice none 0 0) rfl
  have fA_0 := SA.out.frozen 0
  have fA_1 := SA.out.frozen 1
  have fA_2 := SA.out.frozen 2
  have fA_3 := SA.out.frozen 3
  refine callL 16 rfl (by kernel_rfl) rfl (fun K hK => ?_)
  go_simp
  clear cA_0 cA_1 cA_2 cA_3 fA_0 fA_1 fA_2 fA_3
  have Oc := Lib.hid (Oc.out.set_other (B' := w.heap.size) (fun e => by have := Lc _ e; omega) 0 (.int .i64 xr))
  have Ox := Lib.hid (Ox.out.set_other (B' := w.heap.size) (fun e => by have := Lx _ e; omega) 0 (.int .i64 xr))
  have SVx := Lib.hid (show Str (w6.setCell ⟨w.heap.size, 0, none⟩ (.int .i64 xr)) (w3.heap.size) 27 #[.int .i64 xr, .int .i64 xa, .int .i64 xd, .slice ax xs.length cx] from SVx.out.other (by omega) _ _)
  have SA := Lib.hid (show Str (w6.setCell ⟨w.heap.size, 0, none⟩ (.int .i64 xr)) (w.heap.size) 27 #[.int .i64 xr, .int .i64 0, .int .i64 0, .slice none 0 0] from SA.out.set 0 _)
  have Hb := Lib.hid (Hb.out.setCell (p := ⟨w.heap.size, 0, none⟩) (by simp only; omega) (.int .i64 xr))
  have Oc := Lib.hid (Oc.out.set_other (B' := w.heap.size) (fun e => by have := Lc _ e; omega) 1 (.int .i64 xa))
  have Ox := Lib.hid (Ox.out.set_other (B' := w.heap.size) (fun e => by have := Lx _ e; omega) 1 (.int .i64 xa))
  have SVx := Lib.hid (show Str ((w6.setCell ⟨w.heap.size, 0, none⟩ (.int .i64 xr)).setCell ⟨w.heap.size, 1, none⟩ (.int .i64 xa)) (w3.heap.size) 27 #[.int .i64 xr, .int .i64 xa, .int .i64 xd, .slice ax xs.length cx] from SVx.out.other (by omega) _ _)
  have SA := Lib.hid (show Str ((w6.setCell ⟨w.heap.size, 0, none⟩ (.int .i64 xr)).setCell ⟨w.heap.size, 1, none⟩ (.int .i64 xa)) (w.heap.size) 27 #[.int .i64 xr, .int .i64 xa, .int .i64 0, .slice none 0 0] from SA.out.set 1 _)
  have Hb := Lib.hid (Hb.out.setCell (p := ⟨w.heap.size, 1, none⟩) (by simp only; omega) (.int .i64 xa))
  have Oc := Lib.hid (Oc.out.set_other (B' := w.heap.size) (fun e => by have := Lc _ e; omega) 2 (.int .i64 xd))
  have Ox := Lib.hid (Ox.out.set_other (B' := w.heap.size) (fun e => by have := Lx _ e; omega) 2 (.int .i64 xd))
  have SVx := Lib.hid (show Str (((w6.setCell ⟨w.heap.size, 0, none⟩ (.int .i64 xr)).setCell ⟨w.heap.size, 1, none⟩ (.int .i64 xa)).setCell ⟨w.heap.size, 2, none⟩ (.int .i64 xd)) (w3.heap.size) 27 #[.int .i64 xr, .int .i64 xa, .int .i64 xd, .slice ax xs.length cx] from SVx.out.other (by omega) _ _)
  have SA := Lib.hid (show Str (((w6.setCell ⟨w.heap.size, 0, none⟩ (.int .i64 xr)).setCell ⟨w.heap.size, 1, none⟩ (.int .i64 xa)).setCell ⟨w.heap.size, 2, none⟩ (.int .i64 xd)) (w.heap.size) 27 #[.int .i64 xr, .int .i64 xa, .int .i64 xd, .slice none 0 0] from SA.out.set 2 _)
  have Hb := Lib.hid (Hb.out.setCell (p := ⟨w.heap.size, 2, none⟩) (by simp only; omega) (.int .i64 xd))
  have Oc := Lib.hid (Oc.out.set_other (B' := w.heap.size) (fun e => by have := Lc _ e; omega) 3 (.slice ax xs.length cx))
  have Ox := Lib.hid (Ox.out.set_other (B' := w.heap.size) (fun e => by have := Lx _ e; omega) 3 (.slice ax xs.length cx))
  have SVx := Lib.hid (show Str ((((w6.setCell ⟨w.heap.size, 0, none⟩ (.int .i64 xr)).setCell ⟨w.heap.size, 1, none⟩ (.int .i64 xa)).setCell ⟨w.heap.size, 2, none⟩ (.int .i64 xd)).setCell ⟨w.heap.size, 3, none⟩ (.slice ax xs.length cx)) (w3.heap.size) 27 #[.int .i64 xr, .int .i64 xa, .int .i64 xd, .slice ax xs.length cx] from SVx.out.other (by omega) _ _)
  have SA := Lib.hid (show Str ((((w6.setCell ⟨w.heap.size, 0, none⟩ (.int .i64 xr)).setCell ⟨w.heap.size, 1, none⟩ (.int .i64 xa)).setCell ⟨w.heap.size, 2, none⟩ (.int .i64 xd)).setCell ⟨w.heap.size, 3, none⟩ (.slice ax xs.length cx)) (w.heap.size) 27 #[.int .i64 xr, .int .i64 xa, .int .i64 xd, .slice ax xs.length cx] from SA.out.set 3 _)
  have Hb := Lib.hid (Hb.out.setCell (p := ⟨w.heap.size, 3, none⟩) (by simp only; omega) (.slice ax xs.length cx))
  skip
  refine hK.out _ _ ⟨SVx.out.cell 0 (v := .int .i64 xr) rfl, SVx.out.cell 1 (v := .int .i64 xa) rfl, SVx.out.cell 2 (v := .int .i64 xd) rfl, SVx.out.cell 3 (v := .slice ax xs.length cx) rfl⟩ (fun hH => ?_)
  clear hK K hH
  have hzg : ((((w6.setCell ⟨w.heap.size, 0, none⟩ (.int .i64 xr)).setCell ⟨w.heap.size, 1, none⟩ (.int .i64 xa)).setCell ⟨w.heap.size, 2, none⟩ (.int .i64 xd)).setCell ⟨w.heap.size, 3, none⟩ (.slice ax xs.length cx)).heap.size = w6.heap.size := by simp
  generalize ((((w6.setCell ⟨w.heap.size, 0, none⟩ (.int .i64 xr)).setCell ⟨w.heap.size, 1, none⟩ (.int .i64 xa)).setCell ⟨w.heap.size, 2, none⟩ (.int .i64 xd)).setCell ⟨w.heap.size, 3, none⟩ (.slice ax xs.length cx)) = wg at *
  try simp only [Act.put, List.setIfInBounds_toArray, List.set_cons_zero, List.set_cons_succ]
  refine lastL rfl (by kernel_rfl) (by kernel_rfl) (by kernel_rfl) rfl (fun K hK => ?_)
  go_simp
  refine hK.out _ _ ?_
  clear hK K
  try simp only [Act.put]
  have cA_0 := SA.out.cell 0 (v := .int .i64 xr) rfl
  have cA_1 := SA.out.cell 1 (v := .int .i64 xa) rfl
  have cA_2 := SA.out.cell 2 (v := .int .i64 xd) rfl
  have cA_3 := SA.out.cell 3 (v := .slice ax xs.length cx) rfl
  go_wp2
  refine bodyPost_ret (v := .tuple #[.slice ac c.length cc, .agg #[.int .i64 xr, .int .i64 xa, .int .i64 xd, .slice ax xs.length cx], .int .i64 (q + F)]) (by simp [results, Try.f10, go_sem, cA_0, cA_1, cA_2, cA_3]) rfl ?_
  exact ⟨ac, cc, c, ⟨xr, xa, xd⟩, ax, cx, xs, q + F, rfl, hvx, Oc.out.mono (by omega), hcl, Ox.out.mono (by omega), by omega, by omega, Hb.out⟩

end Go.Proofs.Ytgpbogalknmcmab

/- A number put into an ascending list; plain facts and slices of a source; nothing here speaks of the program's text. -/
namespace Go.Proofs.Ytgpbogalknmcmab
open Go.RowKit

/-- x put in its place, where it is lacking. -/
def addZ (ms : List Int) (x : Int) : List Int := if hasB ms x then ms else ms.takeWhile (fun m => decide (m < x)) ++ x :: ms.dropWhile (fun m => decide (m < x))
theorem asc_at {ms : List Int} (hs : ms.Pairwise (· < ·)) {i j : Nat} (hi : i < ms.length) (hj : j < ms.length) (h : i < j) : ms[i] < ms[j] := List.pairwise_iff_getElem.1 hs i j hi hj h
theorem place_ex (ms : List Int) (x : Int) : ∃ k, k ≤ ms.length ∧ (∀ m ∈ ms.take k, m < x) ∧ ∀ hk : k < ms.length, x ≤ ms[k] := by
  induction ms with
  | nil => exact ⟨0, Nat.le_refl _, by simp, fun hk => absurd hk (by simp)⟩
  | cons y ys ih =>
    by_cases hy : y < x
    · obtain ⟨k, h1, h2, h3⟩ := ih
      refine ⟨k + 1, by simpa using h1, ?_, fun hk => ?_⟩
      · intro m hm
        rw [List.take_succ_cons] at hm
        rcases List.mem_cons.1 hm with e | hm
        · rw [e]; exact hy
        · exact h2 m hm
      · rw [List.getElem_cons_succ]
        exact h3 (by simpa using hk)
    · exact ⟨0, Nat.zero_le _, by simp, fun hk => by rw [List.getElem_cons_zero]; omega⟩
theorem rest_ge {ms : List Int} (hs : ms.Pairwise (· < ·)) {x : Int} {k : Nat} (h' : ∀ hk : k < ms.length, x ≤ ms[k]) : ∀ m ∈ ms.drop k, x ≤ m := by
  intro m hm
  obtain ⟨j, hj, rfl⟩ := List.mem_iff_getElem.1 hm
  rw [List.length_drop] at hj
  rw [List.getElem_drop]
  have hk : k < ms.length := by omega
  have h0 := h' hk
  rcases Nat.eq_zero_or_pos j with e | e
  · subst e; exact h0
  · have := asc_at hs hk (j := k + j) (by omega) (by omega)
    omega
theorem count_at {ms : List Int} (hs : ms.Pairwise (· < ·)) {x : Int} {k : Nat} (hk : k ≤ ms.length) (h : ∀ m ∈ ms.take k, m < x) (h' : ∀ hk : k < ms.length, x ≤ ms[k]) : ms.countP (fun m => decide (m < x)) = k := by
  have e : ms.countP (fun m => decide (m < x)) = (ms.take k ++ ms.drop k).countP (fun m => decide (m < x)) := by rw [List.take_append_drop]
  rw [e, List.countP_append, List.countP_eq_length.2 (fun m hm => decide_eq_true (h m hm)), List.countP_eq_zero.2 (fun m hm => by have := rest_ge hs h' m hm; simp; omega), List.length_take]
  omega
theorem ins_hit {ms : List Int} {x : Int} {k : Nat} (hk : k < ms.length) (e : ms[k] = x) : hasB ms x = true ∧ addZ ms x = ms := by
  have h := hasB_yes hk
  rw [e] at h
  exact ⟨h, by unfold addZ; rw [if_pos h]⟩
theorem ins_no {ms : List Int} (hs : ms.Pairwise (· < ·)) {x : Int} {k : Nat} (_hk : k ≤ ms.length) (h : ∀ m ∈ ms.take k, m < x) (h' : ∀ hk : k < ms.length, x < ms[k]) : hasB ms x = false ∧ addZ ms x = ms.take k ++ x :: ms.drop k := by
  have hn : hasB ms x = false := by
    refine decide_eq_false fun hm => ?_
    have : x ∈ ms.take k ++ ms.drop k := by rw [List.take_append_drop]; exact hm
    rcases List.mem_append.1 this with hm | hm
    · exact absurd (h x hm) (by omega)
    · obtain ⟨j, hj, e⟩ := List.mem_iff_getElem.1 hm
      rw [List.length_drop] at hj
      rw [List.getElem_drop] at e
      have hk : k < ms.length := by omega
      have h0 := h' hk
      rcases Nat.eq_zero_or_pos j with e0 | e0
      · subst e0; simp only [Nat.add_zero] at e; omega
      · have := asc_at hs hk (j := k + j) (by omega) (by omega)
        omega
  refine ⟨hn, ?_⟩
  unfold addZ
  rw [hn, if_neg (by simp)]
  have h2 : (ms.drop k).takeWhile (fun m => decide (m < x)) = [] ∧ (ms.drop k).dropWhile (fun m => decide (m < x)) = ms.drop k := by
    by_cases hk : k < ms.length
    · have h0 := h' hk
      rw [List.drop_eq_getElem_cons hk]
      exact ⟨List.takeWhile_cons_of_neg (by simp; omega), List.dropWhile_cons_of_neg (by simp; omega)⟩
    · rw [List.drop_of_length_le (by omega)]; exact ⟨rfl, rfl⟩
  have e := List.take_append_drop k ms
  have hp : ∀ m ∈ ms.take k, (fun m => decide (m < x)) m = true := fun m hm => decide_eq_true (h m hm)
  rw [show ms.takeWhile (fun m => decide (m < x)) = (ms.take k ++ ms.drop k).takeWhile (fun m => decide (m < x)) by rw [e], List.takeWhile_append_of_pos hp, h2.1, List.append_nil,
    show ms.dropWhile (fun m => decide (m < x)) = (ms.take k ++ ms.drop k).dropWhile (fun m => decide (m < x)) by rw [e], List.dropWhile_append_of_pos hp, h2.2]
theorem ins_len (ms : List Int) (x : Int) : (addZ ms x).length ≤ ms.length + 1 := by
  unfold addZ
  split
  · omega
  · have e := congrArg List.length (List.takeWhile_append_dropWhile (p := fun m => decide (m < x)) (l := ms))
    rw [List.length_append] at e
    rw [List.length_append, List.length_cons]
    omega
theorem take_step {ms : List Int} {x : Int} {k : Nat} (hk : k < ms.length) (h : ∀ m ∈ ms.take k, m < x) (h' : ms[k] < x) : ∀ m ∈ ms.take (k + 1), m < x := by
  intro m hm
  rw [List.take_succ_eq_append_getElem hk, List.mem_append] at hm
  rcases hm with hm | hm
  · exact h m hm
  · rw [List.mem_singleton] at hm; rw [hm]; exact h'

theorem SrcAt.takeI {w : World} {a : Option Addr} {c : Nat} {g : List Int} (h : SrcAt w a c g) (k : Nat) : SrcAt w a c (g.take k) := by
  rcases h with ⟨rfl, rfl, rfl⟩ | ⟨q, rfl, hq⟩
  · exact .inl ⟨rfl, by simp, rfl⟩
  · refine .inr ⟨q, rfl, fun j hj => ?_⟩
    rw [List.length_take] at hj
    rw [List.getElem_take]
    exact hq j (by omega)
theorem add_add (q : Addr) (k j : Nat) : (q.add k).add j = q.add (k + j) := by
  unfold Addr.add
  by_cases hj : j = 0
  · subst hj; simp
  · by_cases hk : k = 0
    · subst hk; simp [hj]
    · have : k + j ≠ 0 := by omega
      simp [hj, hk, Nat.add_assoc]
theorem SrcAt.dropI {w : World} {a : Option Addr} {c : Nat} {g : List Int} (h : SrcAt w a c g) (hc : g.length ≤ c) {k : Nat} (hk : k ≤ g.length) : SrcAt w (if c = k then a else a.map (·.add (k * 1))) (c - k) (g.drop k) := by
  rcases h with ⟨rfl, rfl, rfl⟩ | ⟨q, rfl, hq⟩
  · exact .inl ⟨by split <;> rfl, by simp, by simp⟩
  · by_cases e : c = k
    · rw [if_pos e, List.drop_of_length_le (by omega)]; exact .inr ⟨q, rfl, fun j hj => by simp at hj⟩
    · rw [if_neg e]
      refine .inr ⟨_, rfl, fun j hj => ?_⟩
      rw [List.length_drop] at hj
      rw [List.getElem_drop, add_add, Nat.mul_one]
      exact hq (k + j) (by omega)
theorem SrcAt.parts {w : World} {va : Option Addr} {vc : Nat} {g : List Int} (h : SrcAt w va vc g) (hc : g.length ≤ vc) {k : Nat} (hk : k ≤ g.length) :
    (∀ W, (Instr.slice 23 (.slice va g.length vc) none (some (.int .i64 k)) none).run Try.prog W = .ok (.slice va (g.take k).length vc) W) ∧ SrcAt w va vc (g.take k) ∧
    ∃ ad ac, (∀ W, (Instr.slice 23 (.slice va g.length vc) (some (.int .i64 k)) none none).run Try.prog W = .ok (.slice ad (g.drop k).length ac) W) ∧ SrcAt w ad ac (g.drop k) := by
  have ht : Try.prog.underlying 23 = some (.slice (Try.prog.elem 23)) := by kernel_rfl
  have hs : ∀ W, (sizeOf (Try.prog.elem 23)).run Try.prog W = .ok 1 W := fun W => by kernel_rfl
  refine ⟨fun W => ?_, h.takeI k, _, _, fun W => ?_, h.dropI hc hk⟩
  · rw [run_slice_h (ht := ht) (h0 := by omega) (h2 := by omega), hs]
    simp only [Result.andThen, sliced, Int.toNat_natCast, List.length_take, Nat.min_eq_left hk, Nat.sub_zero]
    have e : (if vc = 0 then va else va.map (·.add (0 * 1))) = va := by
      split
      · rfl
      · cases va <;> simp [Addr.add]
    rw [e]
  · rw [run_slice_l (ht := ht) (h0 := by omega) (h1 := by omega), hs]
    simp only [Result.andThen, sliced, Int.toNat_natCast, List.length_drop]
theorem SrcAt.lies {w w' : World} {a : Option Addr} {c : Nat} {xs : List Int} (h : SrcAt w a c xs) (hi : IntsAt w a xs) (hb : Below w.heap.size w w') : SrcAt w' a c xs := by
  rcases h with h | ⟨ad, rfl, hc⟩
  · exact .inl h
  · refine .inr ⟨ad, rfl, fun j hj => ?_⟩
    obtain ⟨b, off, e, hlt, _⟩ := hi.cell (by omega)
    cases e
    have := hc j hj
    rw [addr_add'] at this ⊢
    exact (hb.cell (p := ⟨b, off + j, none⟩) hlt).trans this
theorem src_one {w : World} {E : TypeId} {B : Nat} {x : Int} (h : Str w B E #[.int .i64 x]) : SrcAt w (some ⟨B, 0, none⟩) 1 [x] := by
  refine .inr ⟨_, rfl, fun j hj => ?_⟩
  have h0 : j = 0 := by simpa using hj
  subst h0
  rw [addr_add]
  exact h.cell 0 rfl
/-- 'append(s, t...)' as an operation of a region. -/
theorem op_appI {P : Program} {T E : TypeId} (hT : IntT P T E) {w : World} {o : Oper} {a : Act} {K : Act → World → Prop} {Q : Exit → Act → World → Prop} (s x : Operand)
    (ho : o.op = .call { callee := .builtin .append, args := #[s, x], argTypes := #[T, T] }) (B : Nat) (v : Value) (xs zs : List Int) (ax : Option Addr) (c : Nat) (hs : a.eval s = v) (hown : Own E w B v xs)
    (hx : a.eval x = .slice ax zs.length c) (hz : SrcAt w ax c zs) (hlen : xs.length + zs.length ≤ 1099511627776) (hB : B ≤ w.heap.size)
    (h : ∀ v' w', Own E w' B v' (xs ++ zs) → w.grownBy w' v.ownBlock → K (a.put o.dst v') w') : Oper.wp P o a w K Q := by
  obtain ⟨v', w', hr, h1, h2⟩ := run_appI hT o.type hown hz hlen hB
  unfold Oper.wp execOp
  simp only [ho, resolve, invoke, builtin, Sem.run_bind, Sem.run_pure, Result.andThen_ok, List.map_toArray, List.map_cons, List.map_nil, hs, hx, hr]
  exact h v' w' h1 h2

end Go.Proofs.Ytgpbogalknmcmab

/- The reference's l1Insert: a number put into an ascending list, by a walk of its text; condition: the list is ascending and shorter than 2^20. -/
namespace Go.Proofs.Ytgpbogalknmcmab
open Go.RowKit

theorem TIa : IntT Try.prog 23 3 := ⟨Try.underlying23, by kernel_rfl⟩

set_option maxHeartbeats 8000000 in
set_option maxRecDepth 8000 in
theorem spec_l1Insert (a : Option Addr) (cap : Nat) (ms : List Int) (x : Int) (w : World) (hbig : ms.length ≤ 1048576) (hs : ms.Pairwise (· < ·)) (hcap : ms.length ≤ cap) (hi : IntsAt w a ms) (hsrc : SrcAt w a cap ms) :
    Calls Try.prog 45 #[.slice a ms.length cap, .int .i64 x] w fun e w' => ∃ v, e = .returned v ∧ Own 3 w' w.heap.size v (addZ ms x) ∧ Below w.heap.size w w' := by
  have Hs := Lib.hid hs
  have Hi := Lib.hid hi
  have Hsrc := Lib.hid hsrc
  clear hs hi hsrc
  go_enter Try.func45, Try.ntmps45
  go_wp2
  go_loop [5] (fun i => ∃ k : Nat, k ≤ ms.length ∧ i = .int .i64 k ∧ Hid (∀ m ∈ ms.take k, m < x)) (fun i => ms.length - (intOf i).toNat)
  case atStart => exact ⟨0, by omega, rfl, Lib.hid (by simp)⟩
  case round =>
    obtain ⟨k, hk, rfl, hup⟩ := hrel
    by_cases hlt : k < ms.length
    · obtain ⟨b, off, rfl, hb, hat⟩ := Hi.out.cell (by omega)
      have hc := hat k hlt
      have Hc := Lib.hid hc
      clear hat
      by_cases h1 : ms[k] < x
      · have Hst := Lib.hid (take_step hlt hup.out h1)
        go_wp2
        go_round
        case rel => exact ⟨k + 1, by omega, by go_num, Lib.hid Hst.out⟩
        case measure => simp [intOf]; omega
      by_cases h2 : ms[k] = x
      · have Hz := Lib.hid (ins_hit hlt h2)
        have h2' : (ms[k] == x) = true := by rw [beq_iff_eq]; exact h2
        clear h2
        have hb2 : Below w.heap.size w (w.alloc (.cells #[] 3)) := (Below.refl _ _).alloc (Nat.le_refl _) _
        have ho := own_empty 3 w (Nat.le_refl _)
        have Ho := Lib.hid ho
        have hzs : (w.alloc (.cells #[] 3)).heap.size = w.heap.size + 1 := by simp
        have Hsr2 := Lib.hid (Hsrc.out.lies Hi.out hb2)
        have Hb2 := Lib.hid hb2
        clear ho hb2
        go_wp2_with (at_builtin; refine wpList_appI TIa rfl _ _ rfl w.heap.size (.slice (some ⟨w.heap.size, 0, none⟩) 0 0) [] ms _ _ rfl Ho.out rfl Hsr2.out (by simp; omega) (by rw [hzs]; omega) ?_; intro v5 w5 hown hg5; (rw [List.nil_append] at hown))
        go_ret
        exact ⟨_, rfl, by rw [Hz.out.2]; exact hown, Hb2.out.grown hg5 (by omega) (fun g e => by cases e; exact Nat.le_refl _)⟩
      have h2' : (ms[k] == x) = false := by rw [beq_eq_false_iff_ne]; exact h2
      have hgt := Lib.hid (show ∀ hk : k < ms.length, x < ms[k] from fun _ => by omega)
      clear h2 Hc
      obtain ⟨hn1, hn2⟩ := ins_no Hs.out hk hup.out hgt.out
      have Hn2 := Lib.hid hn2
      obtain ⟨ht1, ht2, ad, ac, hd1, hd2⟩ := Hsrc.out.parts hcap hk
      have T1 := Lib.hid ht1; have T2 := Lib.hid ht2; have D1 := Lib.hid hd1; have D2 := Lib.hid hd2
      have hl1 : (ms.take k).length ≤ 1048576 := by rw [List.length_take]; omega
      have hl2 : (ms.drop k).length ≤ 1048576 := by rw [List.length_drop]; omega
      have HiT := Lib.hid (show ∀ W, Below w.heap.size w W → SrcAt W (some ⟨b, off, none⟩) cap (ms.take k) from fun W hb => (Hsrc.out.lies Hi.out hb).takeI k)
      have HiD := Lib.hid (show ∀ W, Below w.heap.size w W → SrcAt W ad ac (ms.drop k) from fun W hb => by obtain ⟨_, _, ad', ac', e1, e2⟩ := (Hsrc.out.lies Hi.out hb).parts hcap hk; have h9 := (hd1 w).symm.trans (e1 w); injection h9 with h9; injection h9 with h8 h9 h7; subst h8; subst h7; exact e2)
      clear ht1 ht2 hd1 hd2 hn1 hn2 T2 D2
      go_wp2_with fail
      refine wp_region_L 12 (fun _ => True) (by kernel_rfl) trivial (fun hH => ?_)
      have Hb := Lib.hid (show Below w.heap.size w w.drew from (Below.refl _ _).drew)
      have hz0 : w.heap.size ≤ w.drew.heap.size := Nat.le_refl _
      generalize w.drew = wd at *
      generalize ms.take k = G1 at *
      generalize ms.drop k = G2 at *
      refine takeL 1 (v := ?vra1) rfl (by kernel_rfl) (by kernel_rfl) (by kernel_rfl) (by kernel_rfl) (by kernel_rfl) (fun _ _ _ h => h) hH rfl ?yra1 ?rra1
      case yra1 => intro W hSw; go_simp; try with_reducible rfl
      try simp only [Act.put, List.setIfInBounds_toArray, List.set_cons_zero, List.set_cons_succ]
      refine takeL 2 (v := ?vra2) rfl (by kernel_rfl) (by kernel_rfl) (by kernel_rfl) (by kernel_rfl) (by kernel_rfl) (fun _ _ _ h => h) hH rfl ?yra2 ?rra2
      case yra2 => intro W hSw; go_simp; try with_reducible rfl
      try simp only [Act.put, List.setIfInBounds_toArray, List.set_cons_zero, List.set_cons_succ]
      refine takeL 3 (v := .slice (some ⟨b, off, none⟩) G1.length cap) rfl (by kernel_rfl) (by kernel_rfl) (by kernel_rfl) (by kernel_rfl) (by kernel_rfl) (fun _ _ _ h => h) hH rfl ?yra3 ?rra3
      case yra3 => intro W hSw; have hr := T1.out W; go_simp
      try simp only [Act.put, List.setIfInBounds_toArray, List.set_cons_zero, List.set_cons_succ]
      refine takeL 5 (v := ?vra4) rfl (by kernel_rfl) (by kernel_rfl) (by kernel_rfl) (by kernel_rfl) (by kernel_rfl) (fun _ _ _ h => h) hH rfl ?yra4 ?rra4
      case yra4 => intro W hSw; go_simp; try with_reducible rfl
      try simp only [Act.put, List.setIfInBounds_toArray, List.set_cons_zero, List.set_cons_succ]
      refine takeL 8 (v := ?vra5) rfl (by kernel_rfl) (by kernel_rfl) (by kernel_rfl) (by kernel_rfl) (by kernel_rfl) (fun _ _ _ h => h) hH rfl ?yra5 ?rra5
      case yra5 => intro W hSw; go_simp; try with_reducible rfl
      try simp only [Act.put, List.setIfInBounds_toArray, List.set_cons_zero, List.set_cons_succ]
      refine takeL 9 (v := ?vra6) rfl (by kernel_rfl) (by kernel_rfl) (by kernel_rfl) (by kernel_rfl) (by kernel_rfl) (fun _ _ _ h => h) hH rfl ?yra6 ?rra6
      case yra6 => intro W hSw; go_simp; try with_reducible rfl
      try simp only [Act.put, List.setIfInBounds_toArray, List.set_cons_zero, List.set_cons_succ]
      refine takeL 10 (v := .slice ad G2.length ac) rfl (by kernel_rfl) (by kernel_rfl) (by kernel_rfl) (by kernel_rfl) (by kernel_rfl) (fun _ _ _ h => h) hH rfl ?yra7 ?rra7
      case yra7 => intro W hSw; have hr := D1.out W; go_simp
      try simp only [Act.put, List.setIfInBounds_toArray, List.set_cons_zero, List.set_cons_succ]
      refine twoL 0 6 rfl rfl (by kernel_rfl) rfl rfl (fun K hK => ?_) (fun K hK => ?_)
      · skip
        go_simp
        have hal : Below wd.heap.size wd (wd.alloc (.cells #[] 3)) := (Below.refl _ _).alloc (Nat.le_refl _) _
        have oM := own_empty 3 wd (Nat.le_refl _)
        have hzw2 : wd.heap.size < (wd.alloc (.cells #[] 3)).heap.size := by simp
        have OM := Lib.hid oM
        have Hb := Lib.hid (below_step Hb.out Hb.out.size hal)
        clear oM hal
        refine hK.out _ _ trivial (fun hH => ?_)
        clear hK K
        try simp only [Act.put, List.setIfInBounds_toArray, List.set_cons_zero, List.set_cons_succ]
        generalize wd.alloc (.cells #[] 3) = w2 at *
        generalize hNB : wd.heap.size = NB at *
        refine twoL 4 6 rfl rfl (by kernel_rfl) rfl rfl (fun K hK => ?_) (fun K hK => ?_)
        · skip
          refine op_appI TIa (.tmp 35) (.tmp 38) rfl NB (Value.slice (some ⟨NB, 0, none⟩) 0 0) ([]) (G1) ((some ⟨b, off, none⟩)) (cap) rfl OM.out rfl (HiT.out _ Hb.out) (by simp; omega) (by omega) (fun u1 w3 ho9 hg9 => ?_)
          have hzw3 := hg9.size
          have Hb := Lib.hid (Hb.out.grown hg9 Hb.out.size (fun q e => by have := (OM.out.lt q e).1; omega))
          have OM := Lib.hid (show Own 3 w3 NB u1 (G1) from ho9)
          clear ho9 hg9
          refine hK.out _ _ trivial (fun hH => ?_)
          clear hK K
          try simp only [Act.put, List.setIfInBounds_toArray, List.set_cons_zero, List.set_cons_succ]
          refine callL 6 rfl (by kernel_rfl) rfl (fun K hK => ?_)
          go_simp
          have hal : Below w3.heap.size w3 (w3.alloc (.cells #[.int .i64 x] 3)) := (Below.refl _ _).alloc (Nat.le_refl _) _
          have sN := Str.new w3 3 #[.int .i64 x]
          have hzw4 : w3.heap.size < (w3.alloc (.cells #[.int .i64 x] 3)).heap.size := by simp
          have SP := Lib.hid sN
          have Hb := Lib.hid (below_step Hb.out Hb.out.size hal)
          have OM := Lib.hid (OM.out.below hal)
          clear sN hal
          refine hK.out _ _ trivial (fun hH => ?_)
          clear hK K
          try simp only [Act.put, List.setIfInBounds_toArray, List.set_cons_zero, List.set_cons_succ]
          generalize w3.alloc (.cells #[.int .i64 x] 3) = w4 at *
          generalize hPB : w3.heap.size = PB at *
          refine callL 7 rfl (by kernel_rfl) rfl (fun K hK => ?_)
          refine op_appI TIa (.tmp 39) (.tmp 41) rfl NB u1 (G1) ([x]) (some ⟨PB, 0, none⟩) (1) rfl OM.out rfl (src_one SP.out) (by simp; omega) (by omega) (fun u2 w8 ho9 hg9 => ?_)
          have hzw8 := hg9.size
          have Hb := Lib.hid (Hb.out.grown hg9 Hb.out.size (fun q e => by have := (OM.out.lt q e).1; omega))
          have OM := Lib.hid (show Own 3 w8 NB u2 (G1 ++ [x]) from ho9)
          clear ho9 hg9
          refine hK.out _ _ trivial (fun hH => ?_)
          clear hK K
          try simp only [Act.put, List.setIfInBounds_toArray, List.set_cons_zero, List.set_cons_succ]
          refine callL 11 rfl (by kernel_rfl) rfl (fun K hK => ?_)
          refine op_appI TIa (.tmp 42) (.tmp 45) rfl NB u2 (G1 ++ [x]) (G2) (ad) (ac) rfl OM.out rfl (HiD.out _ Hb.out) (by simp; omega) (by omega) (fun u3 w9 ho9 hg9 => ?_)
          have hzw9 := hg9.size
          have Hb := Lib.hid (Hb.out.grown hg9 Hb.out.size (fun q e => by have := (OM.out.lt q e).1; omega))
          have OM := Lib.hid (show Own 3 w9 NB u3 (G1 ++ [x] ++ G2) from ho9)
          clear ho9 hg9
          refine hK.out _ _ trivial (fun hH => ?_)
          clear hK K
          try simp only [Act.put, List.setIfInBounds_toArray, List.set_cons_zero, List.set_cons_succ]
          refine lastL rfl (by kernel_rfl) (by kernel_rfl) (by kernel_rfl) rfl (fun K hK => ?_)
          go_simp
          refine hK.out _ _ ?_
          clear hK K
          try simp only [Act.put]
          go_wp2
          go_ret
          exact ⟨_, rfl, by rw [Hn2.out, List.append_cons]; exact OM.out.mono (by omega), Hb.out⟩
        · skip
          go_simp
          have hal : Below w2.heap.size w2 (w2.alloc (.cells #[.int .i64 x] 3)) := (Below.refl _ _).alloc (Nat.le_refl _) _
          have sN := Str.new w2 3 #[.int .i64 x]
          have hzw3 : w2.heap.size < (w2.alloc (.cells #[.int .i64 x] 3)).heap.size := by simp
          have SP := Lib.hid sN
          have Hb := Lib.hid (below_step Hb.out Hb.out.size hal)
          have OM := Lib.hid (OM.out.below hal)
          clear sN hal
          refine hK.out _ _ trivial (fun hH => ?_)
          clear hK K
          try simp only [Act.put, List.setIfInBounds_toArray, List.set_cons_zero, List.set_cons_succ]
          generalize w2.alloc (.cells #[.int .i64 x] 3) = w3 at *
          generalize hPB : w2.heap.size = PB at *
          refine callL 4 rfl (by kernel_rfl) rfl (fun K hK => ?_)
          refine op_appI TIa (.tmp 35) (.tmp 38) rfl NB (Value.slice (some ⟨NB, 0, none⟩) 0 0) ([]) (G1) ((some ⟨b, off, none⟩)) (cap) rfl OM.out rfl (HiT.out _ Hb.out) (by simp; omega) (by omega) (fun u1 w4 ho9 hg9 => ?_)
          have hzw4 := hg9.size
          have Hb := Lib.hid (Hb.out.grown hg9 Hb.out.size (fun q e => by have := (OM.out.lt q e).1; omega))
          have SP := Lib.hid (SP.out.kept hg9 (fun e => by have h1 : some NB = some PB := e.symm; have := Option.some.inj h1; omega))
          have OM := Lib.hid (show Own 3 w4 NB u1 (G1) from ho9)
          clear ho9 hg9
          refine hK.out _ _ trivial (fun hH => ?_)
          clear hK K
          try simp only [Act.put, List.setIfInBounds_toArray, List.set_cons_zero, List.set_cons_succ]
          refine callL 7 rfl (by kernel_rfl) rfl (fun K hK => ?_)
          refine op_appI TIa (.tmp 39) (.tmp 41) rfl NB u1 (G1) ([x]) (some ⟨PB, 0, none⟩) (1) rfl OM.out rfl (src_one SP.out) (by simp; omega) (by omega) (fun u2 w8 ho9 hg9 => ?_)
          have hzw8 := hg9.size
          have Hb := Lib.hid (Hb.out.grown hg9 Hb.out.size (fun q e => by have := (OM.out.lt q e).1; omega))
          have OM := Lib.hid (show Own 3 w8 NB u2 (G1 ++ [x]) from ho9)
          clear ho9 hg9
          refine hK.out _ _ trivial (fun hH => ?_)
          clear hK K
          try simp only [Act.put, List.setIfInBounds_toArray, List.set_cons_zero, List.set_cons_succ]
          refine callL 11 rfl (by kernel_rfl) rfl (fun K hK => ?_)
          refine op_appI TIa (.tmp 42) (.tmp 45) rfl NB u2 (G1 ++ [x]) (G2) (ad) (ac) rfl OM.out rfl (HiD.out _ Hb.out) (by simp; omega) (by omega) (fun u3 w9 ho9 hg9 => ?_)
          have hzw9 := hg9.size
          have Hb := Lib.hid (Hb.out.grown hg9 Hb.out.size (fun q e => by have := (OM.out.lt q e).1; omega))
          have OM := Lib.hid (show Own 3 w9 NB u3 (G1 ++ [x] ++ G2) from ho9)
          clear ho9 hg9
          refine hK.out _ _ trivial (fun hH => ?_)
          clear hK K
          try simp only [Act.put, List.setIfInBounds_toArray, List.set_cons_zero, List.set_cons_succ]
          refine lastL rfl (by kernel_rfl) (by kernel_rfl) (by kernel_rfl) rfl (fun K hK => ?_)
          go_simp
          refine hK.out _ _ ?_
          clear hK K
          try simp only [Act.put]
          go_wp2
          go_ret
          exact ⟨_, rfl, by rw [Hn2.out, List.append_cons]; exact OM.out.mono (by omega), Hb.out⟩
      · skip
        go_simp
        have hal : Below wd.heap.size wd (wd.alloc (.cells #[.int .i64 x] 3)) := (Below.refl _ _).alloc (Nat.le_refl _) _
        have sN := Str.new wd 3 #[.int .i64 x]
        have hzw2 : wd.heap.size < (wd.alloc (.cells #[.int .i64 x] 3)).heap.size := by simp
        have SP := Lib.hid sN
        have Hb := Lib.hid (below_step Hb.out Hb.out.size hal)
        clear sN hal
        refine hK.out _ _ trivial (fun hH => ?_)
        clear hK K
        try simp only [Act.put, List.setIfInBounds_toArray, List.set_cons_zero, List.set_cons_succ]
        generalize wd.alloc (.cells #[.int .i64 x] 3) = w2 at *
        generalize hPB : wd.heap.size = PB at *
        refine callL 0 rfl (by kernel_rfl) rfl (fun K hK => ?_)
        go_simp
        have hal : Below w2.heap.size w2 (w2.alloc (.cells #[] 3)) := (Below.refl _ _).alloc (Nat.le_refl _) _
        have oM := own_empty 3 w2 (Nat.le_refl _)
        have hzw3 : w2.heap.size < (w2.alloc (.cells #[] 3)).heap.size := by simp
        have OM := Lib.hid oM
        have Hb := Lib.hid (below_step Hb.out Hb.out.size hal)
        have SP := Lib.hid (SP.out.alloc (.cells #[] 3))
        clear oM hal
        refine hK.out _ _ trivial (fun hH => ?_)
        clear hK K
        try simp only [Act.put, List.setIfInBounds_toArray, List.set_cons_zero, List.set_cons_succ]
        generalize w2.alloc (.cells #[] 3) = w3 at *
        generalize hNB : w2.heap.size = NB at *
        refine callL 4 rfl (by kernel_rfl) rfl (fun K hK => ?_)
        refine op_appI TIa (.tmp 35) (.tmp 38) rfl NB (Value.slice (some ⟨NB, 0, none⟩) 0 0) ([]) (G1) ((some ⟨b, off, none⟩)) (cap) rfl OM.out rfl (HiT.out _ Hb.out) (by simp; omega) (by omega) (fun u1 w4 ho9 hg9 => ?_)
        have hzw4 := hg9.size
        have Hb := Lib.hid (Hb.out.grown hg9 Hb.out.size (fun q e => by have := (OM.out.lt q e).1; omega))
        have SP := Lib.hid (SP.out.kept hg9 (fun e => by have h1 : some NB = some PB := e.symm; have := Option.some.inj h1; omega))
        have OM := Lib.hid (show Own 3 w4 NB u1 (G1) from ho9)
        clear ho9 hg9
        refine hK.out _ _ trivial (fun hH => ?_)
        clear hK K
        try simp only [Act.put, List.setIfInBounds_toArray, List.set_cons_zero, List.set_cons_succ]
        refine callL 7 rfl (by kernel_rfl) rfl (fun K hK => ?_)
        refine op_appI TIa (.tmp 39) (.tmp 41) rfl NB u1 (G1) ([x]) (some ⟨PB, 0, none⟩) (1) rfl OM.out rfl (src_one SP.out) (by simp; omega) (by omega) (fun u2 w8 ho9 hg9 => ?_)
        have hzw8 := hg9.size
        have Hb := Lib.hid (Hb.out.grown hg9 Hb.out.size (fun q e => by have := (OM.out.lt q e).1; omega))
        have OM := Lib.hid (show Own 3 w8 NB u2 (G1 ++ [x]) from ho9)
        clear ho9 hg9
        refine hK.out _ _ trivial (fun hH => ?_)
        clear hK K
        try simp only [Act.put, List.setIfInBounds_toArray, List.set_cons_zero, List.set_cons_succ]
        refine callL 11 rfl (by kernel_rfl) rfl (fun K hK => ?_)
        refine op_appI TIa (.tmp 42) (.tmp 45) rfl NB u2 (G1 ++ [x]) (G2) (ad) (ac) rfl OM.out rfl (HiD.out _ Hb.out) (by simp; omega) (by omega) (fun u3 w9 ho9 hg9 => ?_)
        have hzw9 := hg9.size
        have Hb := Lib.hid (Hb.out.grown hg9 Hb.out.size (fun q e => by have := (OM.out.lt q e).1; omega))
        have OM := Lib.hid (show Own 3 w9 NB u3 (G1 ++ [x] ++ G2) from ho9)
        clear ho9 hg9
        refine hK.out _ _ trivial (fun hH => ?_)
        clear hK K
        try simp only [Act.put, List.setIfInBounds_toArray, List.set_cons_zero, List.set_cons_succ]
        refine lastL rfl (by kernel_rfl) (by kernel_rfl) (by kernel_rfl) rfl (fun K hK => ?_)
        go_simp
        refine hK.out _ _ ?_
        clear hK K
        try simp only [Act.put]
        go_wp2
        go_ret
        exact ⟨_, rfl, by rw [Hn2.out, List.append_cons]; exact OM.out.mono (by omega), Hb.out⟩
    have hgt := Lib.hid (show ∀ hk : k < ms.length, x < ms[k] from fun h => absurd h hlt)
    obtain ⟨hn1, hn2⟩ := ins_no Hs.out hk hup.out hgt.out
    have Hn2 := Lib.hid hn2
    obtain ⟨ht1, ht2, ad, ac, hd1, hd2⟩ := Hsrc.out.parts hcap hk
    have T1 := Lib.hid ht1; have T2 := Lib.hid ht2; have D1 := Lib.hid hd1; have D2 := Lib.hid hd2
    have hl1 : (ms.take k).length ≤ 1048576 := by rw [List.length_take]; omega
    have hl2 : (ms.drop k).length ≤ 1048576 := by rw [List.length_drop]; omega
    have HiT := Lib.hid (show ∀ W, Below w.heap.size w W → SrcAt W a cap (ms.take k) from fun W hb => (Hsrc.out.lies Hi.out hb).takeI k)
    have HiD := Lib.hid (show ∀ W, Below w.heap.size w W → SrcAt W ad ac (ms.drop k) from fun W hb => by obtain ⟨_, _, ad', ac', e1, e2⟩ := (Hsrc.out.lies Hi.out hb).parts hcap hk; have h9 := (hd1 w).symm.trans (e1 w); injection h9 with h9; injection h9 with h8 h9 h7; subst h8; subst h7; exact e2)
    clear ht1 ht2 hd1 hd2 hn1 hn2 T2 D2
    go_wp2_with fail
    refine wp_region_L 12 (fun _ => True) (by kernel_rfl) trivial (fun hH => ?_)
    have Hb := Lib.hid (show Below w.heap.size w w.drew from (Below.refl _ _).drew)
    have hz0 : w.heap.size ≤ w.drew.heap.size := Nat.le_refl _
    generalize w.drew = wd at *
    generalize ms.take k = G1 at *
    generalize ms.drop k = G2 at *
    refine takeL 1 (v := ?vrb1) rfl (by kernel_rfl) (by kernel_rfl) (by kernel_rfl) (by kernel_rfl) (by kernel_rfl) (fun _ _ _ h => h) hH rfl ?yrb1 ?rrb1
    case yrb1 => intro W hSw; go_simp; try with_reducible rfl
    try simp only [Act.put, List.setIfInBounds_toArray, List.set_cons_zero, List.set_cons_succ]
    refine takeL 2 (v := ?vrb2) rfl (by kernel_rfl) (by kernel_rfl) (by kernel_rfl) (by kernel_rfl) (by kernel_rfl) (fun _ _ _ h => h) hH rfl ?yrb2 ?rrb2
    case yrb2 => intro W hSw; go_simp; try with_reducible rfl
    try simp only [Act.put, List.setIfInBounds_toArray, List.set_cons_zero, List.set_cons_succ]
    refine takeL 3 (v := .slice a G1.length cap) rfl (by kernel_rfl) (by kernel_rfl) (by kernel_rfl) (by kernel_rfl) (by kernel_rfl) (fun _ _ _ h => h) hH rfl ?yrb3 ?rrb3
    case yrb3 => intro W hSw; have hr := T1.out W; go_simp
    try simp only [Act.put, List.setIfInBounds_toArray, List.set_cons_zero, List.set_cons_succ]
    refine takeL 5 (v := ?vrb4) rfl (by kernel_rfl) (by kernel_rfl) (by kernel_rfl) (by kernel_rfl) (by kernel_rfl) (fun _ _ _ h => h) hH rfl ?yrb4 ?rrb4
    case yrb4 => intro W hSw; go_simp; try with_reducible rfl
    try simp only [Act.put, List.setIfInBounds_toArray, List.set_cons_zero, List.set_cons_succ]
    refine takeL 8 (v := ?vrb5) rfl (by kernel_rfl) (by kernel_rfl) (by kernel_rfl) (by kernel_rfl) (by kernel_rfl) (fun _ _ _ h => h) hH rfl ?yrb5 ?rrb5
    case yrb5 => intro W hSw; go_simp; try with_reducible rfl
    try simp only [Act.put, List.setIfInBounds_toArray, List.set_cons_zero, List.set_cons_succ]
    refine takeL 9 (v := ?vrb6) rfl (by kernel_rfl) (by kernel_rfl) (by kernel_rfl) (by kernel_rfl) (by kernel_rfl) (fun _ _ _ h => h) hH rfl ?yrb6 ?rrb6
    case yrb6 => intro W hSw; go_simp; try with_reducible rfl
    try simp only [Act.put, List.setIfInBounds_toArray, List.set_cons_zero, List.set_cons_succ]
    refine takeL 10 (v := .slice ad G2.length ac) rfl (by kernel_rfl) (by kernel_rfl) (by kernel_rfl) (by kernel_rfl) (by kernel_rfl) (fun _ _ _ h => h) hH rfl ?yrb7 ?rrb7
    case yrb7 => intro W hSw; have hr := D1.out W; go_simp
    try simp only [Act.put, List.setIfInBounds_toArray, List.set_cons_zero, List.set_cons_succ]
    refine twoL 0 6 rfl rfl (by kernel_rfl) rfl rfl (fun K hK => ?_) (fun K hK => ?_)
    · skip
      go_simp
      have hal : Below wd.heap.size wd (wd.alloc (.cells #[] 3)) := (Below.refl _ _).alloc (Nat.le_refl _) _
      have oM := own_empty 3 wd (Nat.le_refl _)
      have hzw2 : wd.heap.size < (wd.alloc (.cells #[] 3)).heap.size := by simp
      have OM := Lib.hid oM
      have Hb := Lib.hid (below_step Hb.out Hb.out.size hal)
      clear oM hal
      refine hK.out _ _ trivial (fun hH => ?_)
      clear hK K
      try simp only [Act.put, List.setIfInBounds_toArray, List.set_cons_zero, List.set_cons_succ]
      generalize wd.alloc (.cells #[] 3) = w2 at *
      generalize hNB : wd.heap.size = NB at *
      refine twoL 4 6 rfl rfl (by kernel_rfl) rfl rfl (fun K hK => ?_) (fun K hK => ?_)
      · skip
        refine op_appI TIa (.tmp 35) (.tmp 38) rfl NB (Value.slice (some ⟨NB, 0, none⟩) 0 0) ([]) (G1) (a) (cap) rfl OM.out rfl (HiT.out _ Hb.out) (by simp; omega) (by omega) (fun u1 w3 ho9 hg9 => ?_)
        have hzw3 := hg9.size
        have Hb := Lib.hid (Hb.out.grown hg9 Hb.out.size (fun q e => by have := (OM.out.lt q e).1; omega))
        have OM := Lib.hid (show Own 3 w3 NB u1 (G1) from ho9)
        clear ho9 hg9
        refine hK.out _ _ trivial (fun hH => ?_)
        clear hK K
        try simp only [Act.put, List.setIfInBounds_toArray, List.set_cons_zero, List.set_cons_succ]
        refine callL 6 rfl (by kernel_rfl) rfl (fun K hK => ?_)
        go_simp
        have hal : Below w3.heap.size w3 (w3.alloc (.cells #[.int .i64 x] 3)) := (Below.refl _ _).alloc (Nat.le_refl _) _
        have sN := Str.new w3 3 #[.int .i64 x]
        have hzw4 : w3.heap.size < (w3.alloc (.cells #[.int .i64 x] 3)).heap.size := by simp
        have SP := Lib.hid sN
        have Hb := Lib.hid (below_step Hb.out Hb.out.size hal)
        have OM := Lib.hid (OM.out.below hal)
        clear sN hal
        refine hK.out _ _ trivial (fun hH => ?_)
        clear hK K
        try simp only [Act.put, List.setIfInBounds_toArray, List.set_cons_zero, List.set_cons_succ]
        generalize w3.alloc (.cells #[.int .i64 x] 3) = w4 at *
        generalize hPB : w3.heap.size = PB at *
        refine callL 7 rfl (by kernel_rfl) rfl (fun K hK => ?_)
        refine op_appI TIa (.tmp 39) (.tmp 41) rfl NB u1 (G1) ([x]) (some ⟨PB, 0, none⟩) (1) rfl OM.out rfl (src_one SP.out) (by simp; omega) (by omega) (fun u2 w8 ho9 hg9 => ?_)
        have hzw8 := hg9.size
        have Hb := Lib.hid (Hb.out.grown hg9 Hb.out.size (fun q e => by have := (OM.out.lt q e).1; omega))
        have OM := Lib.hid (show Own 3 w8 NB u2 (G1 ++ [x]) from ho9)
        clear ho9 hg9
        refine hK.out _ _ trivial (fun hH => ?_)
        clear hK K
        try simp only [Act.put, List.setIfInBounds_toArray, List.set_cons_zero, List.set_cons_succ]
        refine callL 11 rfl (by kernel_rfl) rfl (fun K hK => ?_)
        refine op_appI TIa (.tmp 42) (.tmp 45) rfl NB u2 (G1 ++ [x]) (G2) (ad) (ac) rfl OM.out rfl (HiD.out _ Hb.out) (by simp; omega) (by omega) (fun u3 w9 ho9 hg9 => ?_)
        have hzw9 := hg9.size
        have Hb := Lib.hid (Hb.out.grown hg9 Hb.out.size (fun q e => by have := (OM.out.lt q e).1; omega))
        have OM := Lib.hid (show Own 3 w9 NB u3 (G1 ++ [x] ++ G2) from ho9)
        clear ho9 hg9
        refine hK.out _ _ trivial (fun hH => ?_)
        clear hK K
        try simp only [Act.put, List.setIfInBounds_toArray, List.set_cons_zero, List.set_cons_succ]
        refine lastL rfl (by kernel_rfl) (by kernel_rfl) (by kernel_rfl) rfl (fun K hK => ?_)
        go_simp
        refine hK.out _ _ ?_
        clear hK K
        try simp only [Act.put]
        go_wp2
        go_ret
        exact ⟨_, rfl, by rw [Hn2.out, List.append_cons]; exact OM.out.mono (by omega), Hb.out⟩
      · skip
        go_simp
        have hal : Below w2.heap.size w2 (w2.alloc (.cells #[.int .i64 x] 3)) := (Below.refl _ _).alloc (Nat.le_refl _) _
        have sN := Str.new w2 3 #[.int .i64 x]
        have hzw3 : w2.heap.size < (w2.alloc (.cells #[.int .i64 x] 3)).heap.size := by simp
        have SP := Lib.hid sN
        have Hb := Lib.hid (below_step Hb.out Hb.out.size hal)
        have OM := Lib.hid (OM.out.below hal)
        clear sN hal
        refine hK.out _ _ trivial (fun hH => ?_)
        clear hK K
        try simp only [Act.put, List.setIfInBounds_toArray, List.set_cons_zero, List.set_cons_succ]
        generalize w2.alloc (.cells #[.int .i64 x] 3) = w3 at *
        generalize hPB : w2.heap.size = PB at *
        refine callL 4 rfl (by kernel_rfl) rfl (fun K hK => ?_)
        refine op_appI TIa (.tmp 35) (.tmp 38) rfl NB (Value.slice (some ⟨NB, 0, none⟩) 0 0) ([]) (G1) (a) (cap) rfl OM.out rfl (HiT.out _ Hb.out) (by simp; omega) (by omega) (fun u1 w4 ho9 hg9 => ?_)
        have hzw4 := hg9.size
        have Hb := Lib.hid (Hb.out.grown hg9 Hb.out.size (fun q e => by have := (OM.out.lt q e).1; omega))
        have SP := Lib.hid (SP.out.kept hg9 (fun e => by have h1 : some NB = some PB := e.symm; have := Option.some.inj h1; omega))
        have OM := Lib.hid (show Own 3 w4 NB u1 (G1) from ho9)
        clear ho9 hg9
        refine hK.out _ _ trivial (fun hH => ?_)
        clear hK K
        try simp only [Act.put, List.setIfInBounds_toArray, List.set_cons_zero, List.set_cons_succ]
        refine callL 7 rfl (by kernel_rfl) rfl (fun K hK => ?_)
        refine op_appI TIa (.tmp 39) (.tmp 41) rfl NB u1 (G1) ([x]) (some ⟨PB, 0, none⟩) (1) rfl OM.out rfl (src_one SP.out) (by simp; omega) (by omega) (fun u2 w8 ho9 hg9 => ?_)
        have hzw8 := hg9.size
        have Hb := Lib.hid (Hb.out.grown hg9 Hb.out.size (fun q e => by have := (OM.out.lt q e).1; omega))
        have OM := Lib.hid (show Own 3 w8 NB u2 (G1 ++ [x]) from ho9)
        clear ho9 hg9
        refine hK.out _ _ trivial (fun hH => ?_)
        clear hK K
        try simp only [Act.put, List.setIfInBounds_toArray, List.set_cons_zero, List.set_cons_succ]
        refine callL 11 rfl (by kernel_rfl) rfl (fun K hK => ?_)
        refine op_appI TIa (.tmp 42) (.tmp 45) rfl NB u2 (G1 ++ [x]) (G2) (ad) (ac) rfl OM.out rfl (HiD.out _ Hb.out) (by simp; omega) (by omega) (fun u3 w9 ho9 hg9 => ?_)
        have hzw9 := hg9.size
        have Hb := Lib.hid (Hb.out.grown hg9 Hb.out.size (fun q e => by have := (OM.out.lt q e).1; omega))
        have OM := Lib.hid (show Own 3 w9 NB u3 (G1 ++ [x] ++ G2) from ho9)
        clear ho9 hg9
        refine hK.out _ _ trivial (fun hH => ?_)
        clear hK K
        try simp only [Act.put, List.setIfInBounds_toArray, List.set_cons_zero, List.set_cons_succ]
        refine lastL rfl (by kernel_rfl) (by kernel_rfl) (by kernel_rfl) rfl (fun K hK => ?_)
        go_simp
        refine hK.out _ _ ?_
        clear hK K
        try simp only [Act.put]
        go_wp2
        go_ret
        exact ⟨_, rfl, by rw [Hn2.out, List.append_cons]; exact OM.out.mono (by omega), Hb.out⟩
    · skip
      go_simp
      have hal : Below wd.heap.size wd (wd.alloc (.cells #[.int .i64 x] 3)) := (Below.refl _ _).alloc (Nat.le_refl _) _
      have sN := Str.new wd 3 #[.int .i64 x]
      have hzw2 : wd.heap.size < (wd.alloc (.cells #[.int .i64 x] 3)).heap.size := by simp
      have SP := Lib.hid sN
      have Hb := Lib.hid (below_step Hb.out Hb.out.size hal)
      clear sN hal
      refine hK.out _ _ trivial (fun hH => ?_)
      clear hK K
      try simp only [Act.put, List.setIfInBounds_toArray, List.set_cons_zero, List.set_cons_succ]
      generalize wd.alloc (.cells #[.int .i64 x] 3) = w2 at *
      generalize hPB : wd.heap.size = PB at *
      refine callL 0 rfl (by kernel_rfl) rfl (fun K hK => ?_)
      go_simp
      have hal : Below w2.heap.size w2 (w2.alloc (.cells #[] 3)) := (Below.refl _ _).alloc (Nat.le_refl _) _
      have oM := own_empty 3 w2 (Nat.le_refl _)
      have hzw3 : w2.heap.size < (w2.alloc (.cells #[] 3)).heap.size := by simp
      have OM := Lib.hid oM
      have Hb := Lib.hid (below_step Hb.out Hb.out.size hal)
      have SP := Lib.hid (SP.out.alloc (.cells #[] 3))
      clear oM hal
      refine hK.out _ _ trivial (fun hH => ?_)
      clear hK K
      try simp only [Act.put, List.setIfInBounds_toArray, List.set_cons_zero, List.set_cons_succ]
      generalize w2.alloc (.cells #[] 3) = w3 at *
      generalize hNB : w2.heap.size = NB at *
      refine callL 4 rfl (by kernel_rfl) rfl (fun K hK => ?_)
      refine op_appI TIa (.tmp 35) (.tmp 38) rfl NB (Value.slice (some ⟨NB, 0, none⟩) 0 0) ([]) (G1) (a) (cap) rfl OM.out rfl (HiT.out _ Hb.out) (by simp; omega) (by omega) (fun u1 w4 ho9 hg9 => ?_)
      have hzw4 := hg9.size
      have Hb := Lib.hid (Hb.out.grown hg9 Hb.out.size (fun q e => by have := (OM.out.lt q e).1; omega))
      have SP := Lib.hid (SP.out.kept hg9 (fun e => by have h1 : some NB = some PB := e.symm; have := Option.some.inj h1; omega))
      have OM := Lib.hid (show Own 3 w4 NB u1 (G1) from ho9)
      clear ho9 hg9
      refine hK.out _ _ trivial (fun hH => ?_)
      clear hK K
      try simp only [Act.put, List.setIfInBounds_toArray, List.set_cons_zero, List.set_cons_succ]
      refine callL 7 rfl (by kernel_rfl) rfl (fun K hK => ?_)
      refine op_appI TIa (.tmp 39) (.tmp 41) rfl NB u1 (G1) ([x]) (some ⟨PB, 0, none⟩) (1) rfl OM.out rfl (src_one SP.out) (by simp; omega) (by omega) (fun u2 w8 ho9 hg9 => ?_)
      have hzw8 := hg9.size
      have Hb := Lib.hid (Hb.out.grown hg9 Hb.out.size (fun q e => by have := (OM.out.lt q e).1; omega))
      have OM := Lib.hid (show Own 3 w8 NB u2 (G1 ++ [x]) from ho9)
      clear ho9 hg9
      refine hK.out _ _ trivial (fun hH => ?_)
      clear hK K
      try simp only [Act.put, List.setIfInBounds_toArray, List.set_cons_zero, List.set_cons_succ]
      refine callL 11 rfl (by kernel_rfl) rfl (fun K hK => ?_)
      refine op_appI TIa (.tmp 42) (.tmp 45) rfl NB u2 (G1 ++ [x]) (G2) (ad) (ac) rfl OM.out rfl (HiD.out _ Hb.out) (by simp; omega) (by omega) (fun u3 w9 ho9 hg9 => ?_)
      have hzw9 := hg9.size
      have Hb := Lib.hid (Hb.out.grown hg9 Hb.out.size (fun q e => by have := (OM.out.lt q e).1; omega))
      have OM := Lib.hid (show Own 3 w9 NB u3 (G1 ++ [x] ++ G2) from ho9)
      clear ho9 hg9
      refine hK.out _ _ trivial (fun hH => ?_)
      clear hK K
      try simp only [Act.put, List.setIfInBounds_toArray, List.set_cons_zero, List.set_cons_succ]
      refine lastL rfl (by kernel_rfl) (by kernel_rfl) (by kernel_rfl) rfl (fun K hK => ?_)
      go_simp
      refine hK.out _ _ ?_
      clear hK K
      try simp only [Act.put]
      go_wp2
      go_ret
      exact ⟨_, rfl, by rw [Hn2.out, List.append_cons]; exact OM.out.mono (by omega), Hb.out⟩

end Go.Proofs.Ytgpbogalknmcmab

/- Where slices.BinarySearch and slices.Insert at ints lie in the program; closed facts. -/
namespace Go.Proofs.Ytgpbogalknmcmab
open Go.RowKit Go.Shelf

def bsI_ren : Go.Shelf.Ren := ⟨fun | 25 => 41 | 31 => 64 | 32 => 65 | 37 => 80 | n => n, fun | 0 => 0 | 3 => 3 | 4 => 4 | 22 => 23 | 40 => 80 | n => n, fun n => n⟩
theorem bsI : Go.Proofs.Lays2.n25 Try.prog bsI_ren := {
  mixed := by kernel_rfl
  f25 := Try.func41.trans (congrArg some (by kernel_rfl))
  f31 := Try.func64.trans (congrArg some (by kernel_rfl))
  f32 := Try.func65.trans (congrArg some (by kernel_rfl))
  f37 := Try.func80.trans (congrArg some (by kernel_rfl))
  t0 := Try.underlying0
  a0 := Try.isAgg0
  z0 := Try.sizeOf0
  v0 := Try.zeroValue0
  t3 := Try.underlying3
  a3 := Try.isAgg3
  z3 := Try.sizeOf3
  v3 := Try.zeroValue3
  t4 := Try.underlying4
  a4 := Try.isAgg4
  z4 := Try.sizeOf4
  v4 := Try.zeroValue4
  t22 := Try.underlying23
  a22 := Try.isAgg23
  z22 := Try.sizeOf23
  v22 := Try.zeroValue23
  t40 := Try.underlying80
  a40 := Try.isAgg80
  z40 := Try.sizeOf80
  v40 := Try.zeroValue80
}

def insI_ren : Go.Shelf.Ren := ⟨fun | 21 => 42 | 27 => 66 | 28 => 67 | 35 => 81 | 39 => 84 | n => n, fun | 0 => 0 | 3 => 3 | 4 => 4 | 22 => 23 | n => n, fun n => n⟩
theorem insI : Go.Proofs.Lays2.n21 Try.prog insI_ren := {
  mixed := by kernel_rfl
  f21 := Try.func42.trans (congrArg some (by kernel_rfl))
  f27 := Try.func66.trans (congrArg some (by kernel_rfl))
  f28 := Try.func67.trans (congrArg some (by kernel_rfl))
  f35 := Try.func81.trans (congrArg some (by kernel_rfl))
  f39 := Try.func84.trans (congrArg some (by kernel_rfl))
  t0 := Try.underlying0
  a0 := Try.isAgg0
  z0 := Try.sizeOf0
  v0 := Try.zeroValue0
  t3 := Try.underlying3
  a3 := Try.isAgg3
  z3 := Try.sizeOf3
  v3 := Try.zeroValue3
  t4 := Try.underlying4
  a4 := Try.isAgg4
  z4 := Try.sizeOf4
  v4 := Try.zeroValue4
  t22 := Try.underlying23
  a22 := Try.isAgg23
  z22 := Try.sizeOf23
  v22 := Try.zeroValue23
  i3 := by kernel_rfl
}

end Go.Proofs.Ytgpbogalknmcmab

/- slices.Insert of one number into a list of its own, and slices.BinarySearch in an ascending list, over the kit's shelf; condition: the list is shorter than 2^20. -/
namespace Go.Proofs.Ytgpbogalknmcmab
open Go.RowKit Go.Shelf

def insL (ms : List Int) (k : Nat) (x : Int) : List Int := ms.take k ++ x :: ms.drop k
theorem gt_of_lacks {ms : List Int} {x : Int} {k : Nat} (hh : hasB ms x = false) (hup : ∀ h : k < ms.length, x ≤ ms[k]) : ∀ h : k < ms.length, x < ms[k] := by
  intro h
  have h0 := hup h
  have h1 : ms[k] ≠ x := by
    intro e
    have h9 := hasB_yes h
    rw [e, hh] at h9
    cases h9
  omega
theorem insL_len {ms : List Int} {k : Nat} (hk : k ≤ ms.length) (x : Int) : (insL ms k x).length = ms.length + 1 := by
  unfold insL; rw [List.length_append, List.length_cons, List.length_take, List.length_drop]; omega
theorem insL_lo {ms : List Int} {k : Nat} (hk : k ≤ ms.length) (x : Int) {j : Nat} (h : j < k) : (insL ms k x)[j]? = ms[j]? := by
  unfold insL
  rw [List.getElem?_append_left (by rw [List.length_take]; omega), List.getElem?_take_of_lt h]
theorem insL_at {ms : List Int} {k : Nat} (hk : k ≤ ms.length) (x : Int) : (insL ms k x)[k]? = some x := by
  unfold insL
  rw [List.getElem?_append_right (by rw [List.length_take]; omega)]
  have : k - (ms.take k).length = 0 := by rw [List.length_take]; omega
  rw [this, List.getElem?_cons_zero]
theorem insL_hi {ms : List Int} {k : Nat} (hk : k ≤ ms.length) (x : Int) {j : Nat} (h : k < j) : (insL ms k x)[j]? = ms[j - 1]? := by
  unfold insL
  rw [List.getElem?_append_right (by rw [List.length_take]; omega)]
  have : j - (ms.take k).length = (j - 1 - k) + 1 := by rw [List.length_take]; omega
  rw [this, List.getElem?_cons_succ, List.getElem?_drop]
  congr 1
  omega
theorem row_of_ownI {E : TypeId} {w : World} {B : Nat} {v : Value} {ms : List Int} (h : Own E w B v ms) :
    (v = .slice none 0 0 ∧ ms = []) ∨ ∃ g cap f, v = .slice (some ⟨g, 0, none⟩) ms.length cap ∧ B ≤ g ∧ w.rowIs g E cap f ∧ ms.length ≤ cap ∧ cap ≤ maxLen ∧ ∀ j (hj : j < ms.length), f j = .int .i64 ms[j] := by
  rcases h.2 with ⟨rfl, h0⟩ | ⟨g, cap, cur, rfl, hb, hg, hn, hm, hs, ht⟩
  · exact .inl ⟨rfl, List.eq_nil_of_length_eq_zero h0⟩
  · refine .inr ⟨g, cap, fun j => cur[j]?.getD default, rfl, hb, ⟨cur, hg, by omega, fun i hi => ?_⟩, hn, hm, fun j hj => ?_⟩
    · have : i < cur.size := by omega
      simp [Array.getElem?_eq_getElem this]
    · have h1 : (cur.toList.take (ms.length * 1))[j]? = some (.int .i64 ms[j]) := by rw [ht]; simp [hj]
      rw [List.getElem?_take_of_lt (by omega), Array.getElem?_toList] at h1
      show cur[j]?.getD default = _
      rw [h1]; rfl
theorem own_of_rowI {E : TypeId} {w : World} {B g cap : Nat} {f : Nat → Value} {xs : List Int} (hr : w.rowIs g E cap f) (hB : B ≤ g) (hn : xs.length ≤ cap) (hm : cap ≤ maxLen) (hf : ∀ j y, xs[j]? = some y → f j = .int .i64 y) : Own E w B (.slice (some ⟨g, 0, none⟩) xs.length cap) xs := by
  obtain ⟨c, hb, hs, hc⟩ := hr
  refine ⟨by simp, .inr ⟨g, cap, c, rfl, hB, hb, hn, hm, by omega, ?_⟩⟩
  apply List.ext_getElem?
  intro j
  by_cases hj : j < xs.length
  · rw [List.getElem?_take_of_lt (by omega), Array.getElem?_toList, hc j (by omega), hf j xs[j] (List.getElem?_eq_getElem hj)]
    simp [hj]
  · rw [List.getElem?_eq_none (by simp; omega), List.getElem?_eq_none (by simp; omega)]
theorem grown_drew {w w' : World} {row : Option Nat} (h : w.grownBy w' row) : w.grownBy w'.drew row := ⟨h.os, h.tape, h.output, h.size, h.block⟩
theorem grown_pre {w w' : World} {row : Option Nat} (h : w.drew.grownBy w' row) : w.grownBy w' row := ⟨h.os, h.tape, h.output, h.size, h.block⟩
theorem grown_setCells (g : Nat) : ∀ (vs : List Value) (o : Nat) (w : World), w.grownBy (w.setCells g o vs) (some g)
  | [], _, _ => World.grownBy.refl _ _
  | v :: r, o, w => (grownBy_set w g o v).andThen (grown_setCells g r (o + 1) _) (fun _ hj => .inr hj)

/-- What an insertion leaves in a row, by where each cell's value comes from. -/
theorem own_ins {E : TypeId} {w : World} {B g cap : Nat} {f : Nat → Value} {ms : List Int} {k : Nat} {x : Int} (hk : k ≤ ms.length) (hr : w.rowIs g E cap f) (hB : B ≤ g) (hn : ms.length + 1 ≤ cap) (hm : cap ≤ maxLen)
    (h1 : ∀ j (hj : j < ms.length), j < k → f j = .int .i64 ms[j]) (h2 : f k = .int .i64 x) (h3 : ∀ j (hj : j < ms.length), k ≤ j → f (j + 1) = .int .i64 ms[j]) : Own E w B (.slice (some ⟨g, 0, none⟩) (ms.length + 1) cap) (insL ms k x) := by
  rw [← insL_len hk x]
  refine own_of_rowI hr hB (by rw [insL_len hk]; exact hn) hm fun j y hy => ?_
  rcases Nat.lt_trichotomy j k with h | h | h
  · rw [insL_lo hk x h, List.getElem?_eq_getElem (by omega)] at hy
    rw [h1 j (by omega) h]
    cases hy
    rfl
  · subst h
    rw [insL_at hk x] at hy
    rw [h2]
    cases hy
    rfl
  · rw [insL_hi hk x h] at hy
    obtain ⟨hl, e⟩ := List.getElem?_eq_some_iff.1 hy
    obtain ⟨i, rfl⟩ : ∃ i, j = i + 1 := ⟨j - 1, by omega⟩
    rw [h3 i (by simpa using hl) (by omega), ← e]
    rfl
theorem vs_one {w : World} {E : TypeId} {PB : Nat} {x : Int} (hp : Str w PB E #[.int .i64 x]) : ∀ j v, [Value.int .i64 x][j]? = some v → w.cell? ⟨PB, 0 + j, none⟩ = some v := by
  intro j v hv
  match j, hv with
  | 0, hv => cases hv; exact hp.cell 0 rfl
  | j + 1, hv => simp at hv

theorem row_new (w : World) (c : Array Value) (t : TypeId) {n : Nat} (hn : c.size = n) : (w.alloc (.cells c t)).rowIs w.heap.size t n (fun j => c[j]?.getD default) := by
  subst hn
  exact World.rowIs_alloc w c t _ (fun i hi => by simp [Array.getElem?_eq_getElem hi])
theorem cellL {l : List Value} {Z : Array Value} {j : Nat} {u : Value} (h : l[j]? = some u) : ((l.toArray ++ Z)[j]?.getD default) = u := by
  have hl := (List.getElem?_eq_some_iff.1 h).1
  rw [Array.getElem?_append_left (by simpa using hl), List.getElem?_toArray, h]
  rfl
theorem dropv {ms : List Int} {k j : Nat} (hj : j < ms.length) (hk : k ≤ j) : ((ms.map (Value.int .i64)).drop k)[j + 1 - (k + 1)]?.getD default = .int .i64 ms[j] := by
  rw [List.getElem?_drop, show k + (j + 1 - (k + 1)) = j by omega, List.getElem?_map, List.getElem?_eq_getElem hj]
  rfl

theorem own_end {w : World} {B cap : Nat} {ms : List Int} {x : Int} (hB : B ≤ w.heap.size) (hn : ms.length + 1 ≤ cap) (hm : cap ≤ maxLen) :
    Own 3 (w.alloc (.cells ((ms.map (Value.int .i64) ++ [Value.int .i64 x]).toArray ++ Builtin.zeroCells (Value.int .i64 0).cells (cap - (ms.length + 1))) 3)) B (.slice (some ⟨w.heap.size, 0, none⟩) (ms.length + 1) cap) (insL ms ms.length x) := by
  refine own_ins (Nat.le_refl _) (row_new w _ _ (n := cap) (by simp [size_zeroCells, Value.cells]; omega)) hB hn hm (fun j hj _ => cellL ?_) (cellL ?_) (fun j hj h => by omega)
  · rw [List.getElem?_append_left (by simpa using hj), List.getElem?_map, List.getElem?_eq_getElem hj]; rfl
  · rw [List.getElem?_append_right (by simp)]; simp
set_option maxHeartbeats 1000000 in
theorem ins_own (B PB k : Nat) (v : Value) (ms : List Int) (x : Int) (w : World) (hown : Own 3 w B v ms) (hp : Str w PB 3 #[.int .i64 x]) (hk : k ≤ ms.length) (hne : v.ownBlock ≠ some PB) (hB : B ≤ w.heap.size) (hbig : ms.length ≤ 1048576) :
    Calls Try.prog 42 #[v, .int .i64 k, .slice (some ⟨PB, 0, none⟩) 1 1] w fun e w' => ∃ v', e = .returned v' ∧ Own 3 w' B v' (insL ms k x) ∧ w.grownBy w' v.ownBlock := by
  have hvs := vs_one hp
  have h1v : ∀ u ∈ [Value.int .i64 x], u.oneCell' = true := by intro u hu; simp at hu; subst hu; rfl
  have h1c : ∀ u ∈ ms.map (Value.int .i64), u.oneCell' = true := by intro u hu; obtain ⟨z, _, rfl⟩ := List.mem_map.1 hu; rfl
  have hml : (1048577 : Nat) ≤ maxLen := by unfold maxLen; omega
  have hm63 : maxLen ≤ 9223372036854775807 := by unfold maxLen; omega
  rcases row_of_ownI hown with ⟨rfl, rfl⟩ | ⟨g, cap, f, rfl, hBg, hr, hn, hm, hf⟩
  · obtain rfl : k = 0 := by simpa using hk
    refine (Any2.slices_Insert_int_end_grow insI none 0 0 PB 0 1 1 [] [.int .i64 x] w (by omega) (by omega) (by omega) (by omega) rfl rfl (fun _ => rfl) (fun a e => by cases e) hvs h1v).mono ?_
    rintro e w' ⟨rfl, rfl⟩
    exact ⟨_, rfl, own_end (w := w.drew) (ms := []) hB (grownCap_ge w (0 + 1) 0 3) (grownCap_le_maxLen w (0 + 1) 0 3 (by omega)), grown_pre (World.grownBy_alloc w.drew _ _)⟩
  · have hcs : ∀ j v, (ms.map (Value.int .i64))[j]? = some v → w.cell? ⟨g, 0 + j, none⟩ = some v := by
      intro j v hv
      rw [List.getElem?_map] at hv
      obtain ⟨z, hz, rfl⟩ := Option.map_eq_some_iff.1 hv
      obtain ⟨hj, rfl⟩ := List.getElem?_eq_some_iff.1 hz
      rw [Nat.zero_add, hr.cell (by omega), hf j hj]
    have hgP : PB ≠ g := fun e => hne (by rw [e]; rfl)
    by_cases hroom : ms.length + 1 ≤ cap
    · by_cases hkn : k < ms.length
      · refine (Any2.slices_Insert_int_shift insI g 0 ms.length cap k PB 0 1 1 (ms.map (Value.int .i64)) [.int .i64 x] w hkn (by omega) hroom (by omega) hgP (by simp) rfl hcs (fun j hj => by rw [Nat.zero_add, hr.cell (by omega)]; rfl) (fun j hj => hr.frozen _) hvs h1c h1v 3 3 1 cap ?_ ?_ (by omega) ?_ ?_).mono ?_
        · unfold World.shape?; rw [show w.heap[PB]? = _ from hp]; rfl
        · obtain ⟨c, hc, hs, _⟩ := hr
          unfold World.shape?; rw [hc]; show some (_, c.size) = _; rw [hs]
        · exact hp.frozen 0
        · exact hp.frozen 1
        rintro e w' ⟨rfl, rfl⟩
        refine ⟨_, rfl, own_ins hk (rowIs_setCells [.int .i64 x] (0 + k) _ _ (rowIs_setCells ((ms.map (Value.int .i64)).drop k) (0 + (k + 1)) _ _ hr.drew)) hBg hroom hm ?_ ?_ ?_, ?_⟩
        · intro j hj h
          rw [if_neg (by simp; omega), if_neg (by simp; omega)]
          exact hf j hj
        · rw [if_pos (by simp)]; simp
        · intro j hj h
          rw [if_neg (by simp; omega), if_pos (by simp; omega), Nat.zero_add]
          exact dropv hj h
        · exact ((grown_drew (World.grownBy.refl w (some g))).andThen (grown_setCells g _ _ _) (fun j hj => .inr hj)).andThen (grown_setCells g _ _ _) (fun j hj => .inr hj)
      · obtain rfl : k = ms.length := by omega
        refine (Any2.slices_Insert_int_end_room insI g 0 ms.length cap PB 0 1 1 [.int .i64 x] w (by omega) hroom (by omega) rfl (fun j hj => by rw [hr.cell (by omega)]; rfl) (fun j hj => hr.frozen _) hvs h1v).mono ?_
        rintro e w' ⟨rfl, rfl⟩
        refine ⟨_, rfl, own_ins hk (rowIs_setCells [.int .i64 x] (0 + ms.length) _ _ hr) hBg hroom hm ?_ ?_ ?_, grown_setCells g _ _ _⟩
        · intro j hj h
          rw [if_neg (by simp; omega)]
          exact hf j hj
        · rw [if_pos (by simp)]; simp
        · intro j hj h; omega
    · by_cases hkn : k < ms.length
      · have hge := grownCap_ge w (ms.length + 1) cap 3
        have hle := grownCap_le_maxLen w (ms.length + 1) cap 3 (by omega)
        refine (Any2.slices_Insert_int_grow insI g 0 ms.length cap k PB 0 1 1 (ms.map (Value.int .i64)) [.int .i64 x] w hkn (by omega) hn (by omega) (by omega) (by simp) rfl hcs hvs h1c h1v).mono ?_
        rintro e w' ⟨rfl, hw⟩
        rw [show insI_ren.t 3 = 3 from rfl] at hw ⊢
        subst hw
        refine ⟨_, rfl, own_ins hk (rowIs_setCells ((ms.map (Value.int .i64)).drop k) (k + 1) _ _ (rowIs_setCells [.int .i64 x] k _ _ (row_new w _ _ (n := grownCap w (ms.length + 1) cap 3) ?_).drew).drew) (by omega) hge hle ?_ ?_ ?_, ?_⟩
        · simp only [Array.size_append, List.size_toArray, size_zeroCells, List.length_take, List.length_map, Value.cells, List.size_toArray, List.length_singleton]; omega
        · intro j hj h
          rw [if_neg (by omega), if_neg (by simp; omega), Array.append_assoc]
          refine cellL ?_
          rw [List.getElem?_take_of_lt h, List.getElem?_map, List.getElem?_eq_getElem hj]; rfl
        · rw [if_neg (by omega), if_pos (by simp)]; simp
        · intro j hj h
          rw [if_pos (by simp; omega)]
          exact dropv hj h
        · exact ((grown_drew ((grown_drew (World.grownBy_alloc w _ (some g))).andThen (grown_setCells w.heap.size _ _ _) (fun j hj => by cases hj; exact .inl (Nat.le_refl _)))).andThen (grown_setCells w.heap.size _ _ _) (fun j hj => by cases hj; exact .inl (Nat.le_refl _)))
      · obtain rfl : k = ms.length := by omega
        refine (Any2.slices_Insert_int_end_grow insI (some ⟨g, 0, none⟩) ms.length cap PB 0 1 1 (ms.map (Value.int .i64)) [.int .i64 x] w (by omega) hn (by omega) (by omega) (by simp) rfl (fun e => by cases e) (fun a e j v hv => by cases e; rw [addr_add]; have := hcs j v hv; rwa [Nat.zero_add] at this) hvs h1v).mono ?_
        rintro e w' ⟨rfl, rfl⟩
        exact ⟨_, rfl, own_end (w := w.drew) hB (grownCap_ge w (ms.length + 1) cap 3) (grownCap_le_maxLen w (ms.length + 1) cap 3 (by omega)), grown_pre (World.grownBy_alloc w.drew _ _)⟩

/-- Where x stands, and whether, in a list of one's own. -/
theorem search_own (B k : Nat) (v : Value) (ms : List Int) (x : Int) (w : World) (hown : Own 3 w B v ms) (hs : ms.Pairwise (· < ·)) (hk : k ≤ ms.length) (h : ∀ m ∈ ms.take k, m < x) (h' : ∀ hk : k < ms.length, x ≤ ms[k]) (hbig : ms.length ≤ 1048576) :
    Calls Try.prog 41 #[v, .int .i64 x] w fun e w' => e = .returned (.tuple #[.int .i64 k, .bool (hasB ms x)]) ∧ Below w.heap.size w w' := by
  rcases row_of_ownI hown with ⟨rfl, rfl⟩ | ⟨g, cap, f, rfl, hBg, hr, hn, hm, hf⟩
  · obtain rfl : k = 0 := by simpa using hk
    refine (Any.slices_BinarySearch_int_empty bsI none 0 x w).mono ?_
    rintro e w' ⟨rfl, rfl⟩
    exact ⟨rfl, Below.refl _ _⟩
  · refine (Any.slices_BinarySearch_int bsI g 0 ms.length cap ms x w (Nat.le_refl _) (by omega) (fun j hj => by rw [Nat.zero_add, hr.cell (by omega), hf j hj]; simp [List.getD, List.getElem?_eq_getElem hj]) (by rw [List.take_length]; exact hs.imp (fun h => Int.le_of_lt h))).mono ?_
    rintro e w' ⟨rfl, q, rfl⟩
    refine ⟨?_, below_drewN (Below.refl _ _) q⟩
    rw [List.take_length, count_at hs hk h h']
    congr 5
    unfold hasB
    rw [List.contains_eq_mem]

end Go.Proofs.Ytgpbogalknmcmab

/- The reference's TallyAdd, by a walk of its text; condition: lists are shorter than 2^40. -/
namespace Go.Proofs.Ytgpbogalknmcmab
open Go.RowKit

/-- What TallyAdd answers. -/
def taB (c : List Int) (v : Vt) (ms : List Int) (x : Int) : Bool := tallyB c v ms && decide (0 ≤ x ∧ x ≤ (c.length : Int) - 1)
def taV (c : List Int) (v : Vt) (ms : List Int) (x : Int) : Vt := if taB c v ms x then v else ⟨0, 0, 0⟩
def taL (c : List Int) (v : Vt) (ms : List Int) (x : Int) : List Int := if taB c v ms x then addZ ms x else []
def taK (c : List Int) (v : Vt) (ms : List Int) (x : Int) : Bool := taB c v ms x && !hasB ms x
theorem ta_no {c : List Int} {v : Vt} {ms : List Int} {x : Int} (h : taB c v ms x = false) : taV c v ms x = ⟨0, 0, 0⟩ ∧ taL c v ms x = [] ∧ taK c v ms x = false := by unfold taV taL taK; rw [h]; exact ⟨rfl, rfl, rfl⟩
theorem ta_yes {c : List Int} {v : Vt} {ms : List Int} {x : Int} (h : taB c v ms x = true) : taV c v ms x = v ∧ taL c v ms x = addZ ms x ∧ taK c v ms x = !hasB ms x := by unfold taV taL taK; rw [h]; exact ⟨rfl, rfl, rfl⟩
theorem ta_len (c : List Int) (v : Vt) (ms : List Int) (x : Int) : (taL c v ms x).length ≤ ms.length + 1 := by
  unfold taL
  split
  · exact ins_len ms x
  · exact Nat.zero_le _
theorem ta_asc {c : List Int} {v : Vt} {ms : List Int} (h : tallyB c v ms = true) : ms.Pairwise (· < ·) := by
  unfold tallyB at h
  simp only [Bool.and_eq_true] at h
  exact (ascP_of h.2.2).1

set_option maxHeartbeats 8000000 in
set_option maxRecDepth 8000 in
theorem spec_TallyAdd (ac : Option Addr) (capc : Nat) (c : List Int) (r a d : Int) (am : Option Addr) (cm : Nat) (ms : List Int) (x : Int) (w : World) (hn : c.length ≤ 1099511627776) (hbig : ms.length ≤ 1048576) (hcm : ms.length ≤ cm) (hc : IntsAt w ac c) (hm : IntsAt w am ms) (hsrc : SrcAt w am cm ms) :
    Calls Try.prog 12 #[.slice ac c.length capc, .agg #[.int .i64 r, .int .i64 a, .int .i64 d, .slice am ms.length cm], .int .i64 x] w fun e w' => ∃ vv, e = .returned (.tuple #[.agg #[.int .i64 (taV c ⟨r, a, d⟩ ms x).r, .int .i64 (taV c ⟨r, a, d⟩ ms x).a, .int .i64 (taV c ⟨r, a, d⟩ ms x).d, vv], .bool (taK c ⟨r, a, d⟩ ms x)]) ∧ Own 3 w' w.heap.size vv (taL c ⟨r, a, d⟩ ms x) ∧ Below w.heap.size w w' := by
  have hb0 : Below w.heap.size w ((w.alloc (.cells #[.int .i64 r, .int .i64 a, .int .i64 d, .slice am ms.length cm] 27)).alloc (.cells #[.int .i64 0, .int .i64 0, .int .i64 0, .slice none 0 0] 27)) := ((Below.refl _ _).alloc (Nat.le_refl _) _).alloc (by simp) _
  have sx := (Str.new w 27 #[.int .i64 r, .int .i64 a, .int .i64 d, .slice am ms.length cm]).alloc (.cells #[.int .i64 0, .int .i64 0, .int .i64 0, .slice none 0 0] 27)
  have sr := Str.new (w.alloc (.cells #[.int .i64 r, .int .i64 a, .int .i64 d, .slice am ms.length cm] 27)) 27 #[.int .i64 0, .int .i64 0, .int .i64 0, .slice none 0 0]
  have hz0 : ((w.alloc (.cells #[.int .i64 r, .int .i64 a, .int .i64 d, .slice am ms.length cm] 27)).alloc (.cells #[.int .i64 0, .int .i64 0, .int .i64 0, .slice none 0 0] 27)).heap.size = w.heap.size + 2 := by simp
  simp only [World.size_alloc] at sr
  have SX := Lib.hid (show Str ((w.alloc (.cells #[.int .i64 r, .int .i64 a, .int .i64 d, .slice am ms.length cm] 27)).alloc (.cells #[.int .i64 0, .int .i64 0, .int .i64 0, .slice none 0 0] 27)) (w.heap.size) 27 #[.int .i64 r, .int .i64 a, .int .i64 d, .slice am ms.length cm] from sx)
  have SR := Lib.hid (show Str ((w.alloc (.cells #[.int .i64 r, .int .i64 a, .int .i64 d, .slice am ms.length cm] 27)).alloc (.cells #[.int .i64 0, .int .i64 0, .int .i64 0, .slice none 0 0] 27)) (w.heap.size + 1) 27 #[.int .i64 0, .int .i64 0, .int .i64 0, .slice none 0 0] from sr)
  have Hb := Lib.hid hb0
  have Hc := Lib.hid hc; have Hm := Lib.hid hm; have Hsrc := Lib.hid hsrc
  clear sx sr hb0 hc hm hsrc
  go_enter Try.func12, Try.ntmps12
  have cX_0 := SX.out.cell 0 (v := .int .i64 r) rfl
  have cX_1 := SX.out.cell 1 (v := .int .i64 a) rfl
  have cX_2 := SX.out.cell 2 (v := .int .i64 d) rfl
  have cX_3 := SX.out.cell 3 (v := .slice am ms.length cm) rfl
  go_wp2_with fail
  generalize ((w.alloc (.cells #[.int .i64 r, .int .i64 a, .int .i64 d, .slice am ms.length cm] 27)).alloc (.cells #[.int .i64 0, .int .i64 0, .int .i64 0, .slice none 0 0] 27)) = W0 at *
  refine (spec_l12Tally ac capc c r a d am cm ms _ hn (by omega) (Hc.out.below Hb.out) (Hm.out.below Hb.out)).mono ?_
  rintro e w1 ⟨rfl, hb1⟩
  clear cX_0 cX_1 cX_2 cX_3
  have SX := Lib.hid (show Str w1 (w.heap.size) 27 #[.int .i64 r, .int .i64 a, .int .i64 d, .slice am ms.length cm] from (hb1.block _ SX.out.lt).trans SX.out)
  have SR := Lib.hid (show Str w1 (w.heap.size + 1) 27 #[.int .i64 0, .int .i64 0, .int .i64 0, .slice none 0 0] from (hb1.block _ SR.out.lt).trans SR.out)
  have hsw1 := hb1.size
  have Hb := Lib.hid (below_step Hb.out Hb.out.size hb1)
  clear hb1
  cases h1 : tallyB c ⟨r, a, d⟩ ms with
  | false =>
    obtain ⟨z1, z2, z3⟩ := ta_no (c := c) (v := ⟨r, a, d⟩) (ms := ms) (x := x) (by unfold taB; rw [h1]; rfl)
    have Z1 := Lib.hid z1; have Z2 := Lib.hid z2; have Z3 := Lib.hid z3; clear z1 z2 z3
    have cX_0 := SX.out.cell 0 (v := .int .i64 r) rfl
    have cX_1 := SX.out.cell 1 (v := .int .i64 a) rfl
    have cX_2 := SX.out.cell 2 (v := .int .i64 d) rfl
    have cX_3 := SX.out.cell 3 (v := .slice am ms.length cm) rfl
    have cR_0 := SR.out.cell 0 (v := .int .i64 0) rfl
    have cR_1 := SR.out.cell 1 (v := .int .i64 0) rfl
    have cR_2 := SR.out.cell 2 (v := .int .i64 0) rfl
    have cR_3 := SR.out.cell 3 (v := .slice none 0 0) rfl
    have fR_0 := SR.out.frozen 0
    have fR_1 := SR.out.frozen 1
    have fR_2 := SR.out.frozen 2
    have fR_3 := SR.out.frozen 3
    have sF := (((SR.out.set 0 (.int .i64 0)).set 1 (.int .i64 0)).set 2 (.int .i64 0)).set 3 (.slice none 0 0)
    have e0 := sF.cell 0 (v := .int .i64 0) rfl
    have e1 := sF.cell 1 (v := .int .i64 0) rfl
    have e2 := sF.cell 2 (v := .int .i64 0) rfl
    have e3 := sF.cell 3 (v := .slice none 0 0) rfl
    clear sF
    go_wp2
    refine bodyPost_ret (v := .tuple #[.agg #[.int .i64 0, .int .i64 0, .int .i64 0, .slice none 0 0], .bool false]) (by simp [results, Try.f12, go_sem, e0, e1, e2, e3]) rfl ?_
    rw [Z1.out, Z2.out, Z3.out]
    exact ⟨_, rfl, Own.nil _ _ _, (((Hb.out.setCell (p := ⟨w.heap.size + 1, 0, none⟩) (by simp only; omega) _).setCell (p := ⟨w.heap.size + 1, 1, none⟩) (by simp only; omega) _).setCell (p := ⟨w.heap.size + 1, 2, none⟩) (by simp only; omega) _).setCell (p := ⟨w.heap.size + 1, 3, none⟩) (by simp only; omega) _⟩
  | true =>
  have Has := Lib.hid (ta_asc h1)
  have cX_0 := SX.out.cell 0 (v := .int .i64 r) rfl
  have cX_1 := SX.out.cell 1 (v := .int .i64 a) rfl
  have cX_2 := SX.out.cell 2 (v := .int .i64 d) rfl
  have cX_3 := SX.out.cell 3 (v := .slice am ms.length cm) rfl
  go_wp2_with fail
  clear cX_0 cX_1 cX_2 cX_3
  refine (spec_l6In x 0 ((c.length : Int) - 1) _).mono ?_
  rintro e w2 ⟨rfl, rfl⟩
  cases h2 : decide (0 ≤ x ∧ x ≤ (c.length : Int) - 1) with
  | false =>
    obtain ⟨z1, z2, z3⟩ := ta_no (c := c) (v := ⟨r, a, d⟩) (ms := ms) (x := x) (by unfold taB; rw [h1, h2]; rfl)
    have Z1 := Lib.hid z1; have Z2 := Lib.hid z2; have Z3 := Lib.hid z3; clear z1 z2 z3
    have cX_0 := SX.out.cell 0 (v := .int .i64 r) rfl
    have cX_1 := SX.out.cell 1 (v := .int .i64 a) rfl
    have cX_2 := SX.out.cell 2 (v := .int .i64 d) rfl
    have cX_3 := SX.out.cell 3 (v := .slice am ms.length cm) rfl
    have cR_0 := SR.out.cell 0 (v := .int .i64 0) rfl
    have cR_1 := SR.out.cell 1 (v := .int .i64 0) rfl
    have cR_2 := SR.out.cell 2 (v := .int .i64 0) rfl
    have cR_3 := SR.out.cell 3 (v := .slice none 0 0) rfl
    have fR_0 := SR.out.frozen 0
    have fR_1 := SR.out.frozen 1
    have fR_2 := SR.out.frozen 2
    have fR_3 := SR.out.frozen 3
    have sF := (((SR.out.set 0 (.int .i64 0)).set 1 (.int .i64 0)).set 2 (.int .i64 0)).set 3 (.slice none 0 0)
    have e0 := sF.cell 0 (v := .int .i64 0) rfl
    have e1 := sF.cell 1 (v := .int .i64 0) rfl
    have e2 := sF.cell 2 (v := .int .i64 0) rfl
    have e3 := sF.cell 3 (v := .slice none 0 0) rfl
    clear sF
    go_wp2
    refine bodyPost_ret (v := .tuple #[.agg #[.int .i64 0, .int .i64 0, .int .i64 0, .slice none 0 0], .bool false]) (by simp [results, Try.f12, go_sem, e0, e1, e2, e3]) rfl ?_
    rw [Z1.out, Z2.out, Z3.out]
    exact ⟨_, rfl, Own.nil _ _ _, (((Hb.out.setCell (p := ⟨w.heap.size + 1, 0, none⟩) (by simp only; omega) _).setCell (p := ⟨w.heap.size + 1, 1, none⟩) (by simp only; omega) _).setCell (p := ⟨w.heap.size + 1, 2, none⟩) (by simp only; omega) _).setCell (p := ⟨w.heap.size + 1, 3, none⟩) (by simp only; omega) _⟩
  | true =>
  obtain ⟨z1, z2, z3⟩ := ta_yes (c := c) (v := ⟨r, a, d⟩) (ms := ms) (x := x) (by unfold taB; rw [h1, h2]; rfl)
  have Z1 := Lib.hid z1; have Z2 := Lib.hid z2; have Z3 := Lib.hid z3; clear z1 z2 z3 h1
  have cX_0 := SX.out.cell 0 (v := .int .i64 r) rfl
  have cX_1 := SX.out.cell 1 (v := .int .i64 a) rfl
  have cX_2 := SX.out.cell 2 (v := .int .i64 d) rfl
  have cX_3 := SX.out.cell 3 (v := .slice am ms.length cm) rfl
  go_wp2_with fail
  clear cX_0 cX_1 cX_2 cX_3
  have SX := Lib.hid (show Str w1.drew (w.heap.size) 27 #[.int .i64 r, .int .i64 a, .int .i64 d, .slice am ms.length cm] from SX.out)
  have SR := Lib.hid (show Str w1.drew (w.heap.size + 1) 27 #[.int .i64 0, .int .i64 0, .int .i64 0, .slice none 0 0] from SR.out)
  have Hb := Lib.hid Hb.out.drew
  have hzwd : w1.drew.heap.size = w1.heap.size := rfl
  refine wp_region_L 13 (fun w' => w'.cell? ⟨w.heap.size, 0, none⟩ = some (.int .i64 r) ∧ w'.cell? ⟨w.heap.size, 1, none⟩ = some (.int .i64 a) ∧ w'.cell? ⟨w.heap.size, 2, none⟩ = some (.int .i64 d) ∧ w'.cell? ⟨w.heap.size, 3, none⟩ = some (.slice am ms.length cm)) (by kernel_rfl) ⟨SX.out.cell 0 (v := .int .i64 r) rfl, SX.out.cell 1 (v := .int .i64 a) rfl, SX.out.cell 2 (v := .int .i64 d) rfl, SX.out.cell 3 (v := .slice am ms.length cm) rfl⟩ (fun hH => ?_)
  generalize w1.drew = wd at *
  refine takeL 0 (v := ?vt1) rfl (by kernel_rfl) (by kernel_rfl) (by kernel_rfl) (by kernel_rfl) (by kernel_rfl) (fun _ _ _ h => h) hH rfl ?yt1 ?rt1
  case yt1 => intro W hSw; go_simp; try with_reducible rfl
  try simp only [Act.put, List.setIfInBounds_toArray, List.set_cons_zero, List.set_cons_succ]
  refine takeL 1 (v := ?vt2) rfl (by kernel_rfl) (by kernel_rfl) (by kernel_rfl) (by kernel_rfl) (by kernel_rfl) (fun _ _ _ h => h) hH rfl ?yt2 ?rt2
  case yt2 => intro W hSw; go_simp; try with_reducible rfl
  try simp only [Act.put, List.setIfInBounds_toArray, List.set_cons_zero, List.set_cons_succ]
  refine takeL 2 (v := ?vt3) rfl (by kernel_rfl) (by kernel_rfl) (by kernel_rfl) (by kernel_rfl) (by kernel_rfl) (fun _ _ _ h => h) hH rfl ?yt3 ?rt3
  case yt3 => intro W hSw; go_simp; try with_reducible rfl
  try simp only [Act.put, List.setIfInBounds_toArray, List.set_cons_zero, List.set_cons_succ]
  refine takeL 3 (v := ?vt4) rfl (by kernel_rfl) (by kernel_rfl) (by kernel_rfl) (by kernel_rfl) (by kernel_rfl) (fun _ _ _ h => h) hH rfl ?yt4 ?rt4
  case yt4 => intro W hSw; go_simp; try with_reducible rfl
  try simp only [Act.put, List.setIfInBounds_toArray, List.set_cons_zero, List.set_cons_succ]
  refine takeL 4 (v := ?vt5) rfl (by kernel_rfl) (by kernel_rfl) (by kernel_rfl) (by kernel_rfl) (by kernel_rfl) (fun _ _ _ h => h) hH rfl ?yt5 ?rt5
  case yt5 => intro W hSw; go_simp; try with_reducible rfl
  try simp only [Act.put, List.setIfInBounds_toArray, List.set_cons_zero, List.set_cons_succ]
  refine takeL 7 (v := ?vt6) rfl (by kernel_rfl) (by kernel_rfl) (by kernel_rfl) (by kernel_rfl) (by kernel_rfl) (fun _ _ _ h => h) hH rfl ?yt6 ?rt6
  case yt6 => intro W hSw; go_simp; try with_reducible rfl
  try simp only [Act.put, List.setIfInBounds_toArray, List.set_cons_zero, List.set_cons_succ]
  refine takeL 8 (v := ?vt7) rfl (by kernel_rfl) (by kernel_rfl) (by kernel_rfl) (by kernel_rfl) (by kernel_rfl) (fun _ _ _ h => h) hH rfl ?yt7 ?rt7
  case yt7 => intro W hSw; go_simp; try with_reducible rfl
  try simp only [Act.put, List.setIfInBounds_toArray, List.set_cons_zero, List.set_cons_succ]
  refine takeL 9 (v := ?vt8) rfl (by kernel_rfl) (by kernel_rfl) (by kernel_rfl) (by kernel_rfl) (by kernel_rfl) (fun _ _ _ h => h) hH rfl ?yt8 ?rt8
  case yt8 => intro W hSw; go_simp; try with_reducible rfl
  try simp only [Act.put, List.setIfInBounds_toArray, List.set_cons_zero, List.set_cons_succ]
  have hln := ins_len ms x
  refine callL 5 rfl (by kernel_rfl) rfl (fun K hK => ?_)
  go_simp
  go_at_call 45
  refine (spec_l1Insert am cm ms x _ hbig Has.out hcm (Hm.out.below Hb.out) (Hsrc.out.lies Hm.out Hb.out)).mono ?_
  rintro e w5 ⟨vl, rfl, hol, hb5⟩
  generalize hL : addZ ms x = L at *
  obtain ⟨al, cl, rfl, _, _⟩ := hol.ints
  have SX := Lib.hid (show Str w5 (w.heap.size) 27 #[.int .i64 r, .int .i64 a, .int .i64 d, .slice am ms.length cm] from (hb5.block _ SX.out.lt).trans SX.out)
  have SR := Lib.hid (show Str w5 (w.heap.size + 1) 27 #[.int .i64 0, .int .i64 0, .int .i64 0, .slice none 0 0] from (hb5.block _ SR.out.lt).trans SR.out)
  have hsw5 := hb5.size
  have Hb := Lib.hid (below_step Hb.out Hb.out.size hb5)
  have Ho := Lib.hid hol; clear hol hb5
  refine hK.out _ _ ⟨SX.out.cell 0 (v := .int .i64 r) rfl, SX.out.cell 1 (v := .int .i64 a) rfl, SX.out.cell 2 (v := .int .i64 d) rfl, SX.out.cell 3 (v := .slice am ms.length cm) rfl⟩ (fun hH => ?_)
  clear hK K
  try simp only [Act.put, List.setIfInBounds_toArray, List.set_cons_zero, List.set_cons_succ]
  refine takeL 6 (v := ?vt9) rfl (by kernel_rfl) (by kernel_rfl) (by kernel_rfl) (by kernel_rfl) (by kernel_rfl) (fun _ _ _ h => h) hH rfl ?yt9 ?rt9
  case yt9 => intro W hSw; go_simp; try with_reducible rfl
  try simp only [Act.put, List.setIfInBounds_toArray, List.set_cons_zero, List.set_cons_succ]
  refine callL 10 rfl (by kernel_rfl) rfl (fun K hK => ?_)
  go_simp
  go_at_call 46
  refine (spec_l1Has am cm ms x _ (by omega) (Hm.out.below Hb.out)).mono ?_
  rintro e w6 ⟨rfl, rfl⟩
  refine hK.out _ _ ⟨SX.out.cell 0 (v := .int .i64 r) rfl, SX.out.cell 1 (v := .int .i64 a) rfl, SX.out.cell 2 (v := .int .i64 d) rfl, SX.out.cell 3 (v := .slice am ms.length cm) rfl⟩ (fun hH => ?_)
  clear hK K
  try simp only [Act.put, List.setIfInBounds_toArray, List.set_cons_zero, List.set_cons_succ]
  refine takeL 11 (v := ?vt10) rfl (by kernel_rfl) (by kernel_rfl) (by kernel_rfl) (by kernel_rfl) (by kernel_rfl) (fun _ _ _ h => h) hH rfl ?yt10 ?rt10
  case yt10 => intro W hSw; go_simp; try with_reducible rfl
  try simp only [Act.put, List.setIfInBounds_toArray, List.set_cons_zero, List.set_cons_succ]
  have cR_0 := SR.out.cell 0 (v := .int .i64 0) rfl
  have cR_1 := SR.out.cell 1 (v := .int .i64 0) rfl
  have cR_2 := SR.out.cell 2 (v := .int .i64 0) rfl
  have cR_3 := SR.out.cell 3 (v := .slice none 0 0) rfl
  have fR_0 := SR.out.frozen 0
  have fR_1 := SR.out.frozen 1
  have fR_2 := SR.out.frozen 2
  have fR_3 := SR.out.frozen 3
  refine callL 12 rfl (by kernel_rfl) rfl (fun K hK => ?_)
  go_simp
  clear cR_0 cR_1 cR_2 cR_3 fR_0 fR_1 fR_2 fR_3
  have sF := (((SR.out.set 0 (.int .i64 r)).set 1 (.int .i64 a)).set 2 (.int .i64 d)).set 3 (.slice al L.length cl)
  have hbt : Btw (w.heap.size + 1) (w.heap.size + 1 + 1) w5 ((((w5.setCell ⟨w.heap.size + 1, 0, none⟩ (.int .i64 r)).setCell ⟨w.heap.size + 1, 1, none⟩ (.int .i64 a)).setCell ⟨w.heap.size + 1, 2, none⟩ (.int .i64 d)).setCell ⟨w.heap.size + 1, 3, none⟩ (.slice al L.length cl)) := ((((Btw.set w5 (Nat.le_refl (w.heap.size + 1)) (Nat.lt_succ_self _) 0 (.int .i64 r)).trans (Btw.set (w5.setCell ⟨w.heap.size + 1, 0, none⟩ (.int .i64 r)) (Nat.le_refl (w.heap.size + 1)) (Nat.lt_succ_self _) 1 (.int .i64 a))).trans (Btw.set ((w5.setCell ⟨w.heap.size + 1, 0, none⟩ (.int .i64 r)).setCell ⟨w.heap.size + 1, 1, none⟩ (.int .i64 a)) (Nat.le_refl (w.heap.size + 1)) (Nat.lt_succ_self _) 2 (.int .i64 d))).trans (Btw.set (((w5.setCell ⟨w.heap.size + 1, 0, none⟩ (.int .i64 r)).setCell ⟨w.heap.size + 1, 1, none⟩ (.int .i64 a)).setCell ⟨w.heap.size + 1, 2, none⟩ (.int .i64 d)) (Nat.le_refl (w.heap.size + 1)) (Nat.lt_succ_self _) 3 (.slice al L.length cl)))
  have SX := Lib.hid (SX.out.btw hbt (by omega))
  have Ho := Lib.hid (hbt.own Ho.out (fun g e => by have := (Ho.out.lt g e).1; omega))
  have Hb := Lib.hid (hbt.below Hb.out Hb.out.size (by omega))
  refine hK.out _ _ ⟨SX.out.cell 0 (v := .int .i64 r) rfl, SX.out.cell 1 (v := .int .i64 a) rfl, SX.out.cell 2 (v := .int .i64 d) rfl, SX.out.cell 3 (v := .slice am ms.length cm) rfl⟩ (fun hH => ?_)
  generalize ((((w5.setCell ⟨w.heap.size + 1, 0, none⟩ (.int .i64 r)).setCell ⟨w.heap.size + 1, 1, none⟩ (.int .i64 a)).setCell ⟨w.heap.size + 1, 2, none⟩ (.int .i64 d)).setCell ⟨w.heap.size + 1, 3, none⟩ (.slice al L.length cl)) = w8 at *
  clear hK K hbt
  try simp only [Act.put, List.setIfInBounds_toArray, List.set_cons_zero, List.set_cons_succ]
  refine lastL rfl (by kernel_rfl) (by kernel_rfl) (by kernel_rfl) rfl (fun K hK => ?_)
  go_simp
  refine hK.out _ _ ?_
  clear hK K hH
  try simp only [Act.put]
  have e0 := sF.cell 0 (v := .int .i64 r) rfl
  have e1 := sF.cell 1 (v := .int .i64 a) rfl
  have e2 := sF.cell 2 (v := .int .i64 d) rfl
  have e3 := sF.cell 3 (v := .slice al L.length cl) rfl
  clear sF
  go_wp2
  refine bodyPost_ret (v := .tuple #[.agg #[.int .i64 r, .int .i64 a, .int .i64 d, .slice al L.length cl], .bool (!hasB ms x)]) (by simp [results, Try.f12, go_sem, e0, e1, e2, e3]) rfl ?_
  rw [Z1.out, Z2.out, Z3.out]
  exact ⟨_, rfl, Ho.out.mono (by omega), Hb.out⟩

end Go.Proofs.Ytgpbogalknmcmab

/- The library's test whether two lists of ints are the same, and its copy of a list of ints, by walks of their texts; conditions: the lists have fewer than 2^40 elements. -/
namespace Go.Proofs.Ytgpbogalknmcmab
open Go.RowKit

def EqTo (xs ys : List Int) (k : Nat) : Prop := ∀ j (h : j < xs.length) (h' : j < ys.length), j < k → xs[j] = ys[j]
theorem eqTo_step {xs ys : List Int} {k : Nat} (h : EqTo xs ys k) (hk : k < xs.length) (hk' : k < ys.length) (e : xs[k] = ys[k]) : EqTo xs ys (k + 1) := by
  intro j hj hj' hjk
  by_cases ej : j = k
  · subst ej; exact e
  · exact h j hj hj' (by omega)
theorem eqTo_all {xs ys : List Int} {k : Nat} (h : EqTo xs ys k) (hk : xs.length ≤ k) (hl : xs.length = ys.length) : xs = ys :=
  List.ext_getElem hl fun j h1 h2 => h j h1 h2 (by omega)

theorem lib_Clone (hT : IntT Try.prog 23 3) (pa : Option Addr) (pc : Nat) (ps : List Int) (w : World) (hbp : ps.length ≤ 1099511627776) (hs : SrcAt w pa pc ps) (hi : IntsAt w pa ps) :
    Calls Try.prog 40 #[.slice pa ps.length pc] w fun e w' => ∃ v, e = .returned v ∧ Own 3 w' w.heap.size v ps ∧ Below w.heap.size w w' := by
  have hq : ∀ (w : World) (a : Option Addr) (n c n' c' : Nat), (binOp .eql 23 (.slice a n c) (.slice none n' c')).run Try.prog w = .ok (.bool a.isNone) w := fun w a n c n' c' => Lib.run_eql_slice_nil w _ _ a n c n' c' Try.underlying23
  cases pa with
  | none =>
    have hp0 : ps = [] := by
      rcases hi with h | ⟨b, off, e, _⟩
      · exact h
      · cases e
    subst hp0
    clear hs hi
    go_enter Try.func40, Try.ntmps40
    go_wp2
    go_ret
    exact ⟨_, rfl, Own.nil _ _ _, Below.refl _ _⟩
  | some ad =>
    have hb2 : Below w.heap.size w (w.alloc (.cells #[] 3)) := (Below.refl _ _).alloc (Nat.le_refl _) _
    have ho := own_empty 3 w (Nat.le_refl _)
    have hsrc : SrcAt (w.alloc (.cells #[] 3)) (some ad) pc ps := by
      rcases hs with h | ⟨ad', e, hc⟩
      · exact .inl h
      · cases e
        refine .inr ⟨ad, rfl, fun j hj => ?_⟩
        obtain ⟨b, off, e, hb, _⟩ := hi.cell (by omega)
        cases e
        have := hc j hj
        rw [addr_add'] at this ⊢
        exact (hb2.cell (p := ⟨b, off + j, none⟩) hb).trans this
    have hzs : (w.alloc (.cells #[] 3)).heap.size = w.heap.size + 1 := by simp
    have Ho := Lib.hid ho; clear ho
    have Hsrc := Lib.hid hsrc; clear hsrc
    have Hb2 := Lib.hid hb2; clear hb2 hs hi
    go_enter Try.func40, Try.ntmps40
    go_wp2_with (at_builtin; refine wpList_appI hT rfl _ _ rfl w.heap.size (.slice (some ⟨w.heap.size, 0, none⟩) 0 0) [] ps _ _ rfl Ho.out rfl Hsrc.out (by simp; omega) (by rw [hzs]; omega) ?_; intro v5 w5 hown hg5; (rw [List.nil_append] at hown))
    go_ret
    exact ⟨_, rfl, hown, Hb2.out.grown hg5 (by omega) (fun g e => by cases e; exact Nat.le_refl _)⟩

end Go.Proofs.Ytgpbogalknmcmab

/- impl.TallyAdd, by a walk of its text; condition: lists are shorter than 2^40. -/
namespace Go.Proofs.Ytgpbogalknmcmab
open Go.RowKit

set_option maxHeartbeats 8000000 in
set_option maxRecDepth 8000 in
theorem impl_TallyAdd (ac : Option Addr) (capc : Nat) (c : List Int) (r a d : Int) (am : Option Addr) (cm : Nat) (ms : List Int) (x : Int) (w : World) (hn : c.length ≤ 1099511627776) (hbig : ms.length ≤ 1048576) (_hcm : ms.length ≤ cm) (hc : IntsAt w ac c) (hm : IntsAt w am ms) (hsrc : SrcAt w am cm ms) :
    Calls Try.prog 11 #[.slice ac c.length capc, .agg #[.int .i64 r, .int .i64 a, .int .i64 d, .slice am ms.length cm], .int .i64 x] w fun e w' => ∃ vv, e = .returned (.tuple #[.agg #[.int .i64 (taV c ⟨r, a, d⟩ ms x).r, .int .i64 (taV c ⟨r, a, d⟩ ms x).a, .int .i64 (taV c ⟨r, a, d⟩ ms x).d, vv], .bool (taK c ⟨r, a, d⟩ ms x)]) ∧ Own 3 w' w.heap.size vv (taL c ⟨r, a, d⟩ ms x) ∧ Below w.heap.size w w' := by
  have hb0 : Below w.heap.size w ((w.alloc (.cells #[.int .i64 r, .int .i64 a, .int .i64 d, .slice am ms.length cm] 27)).alloc (.cells #[.int .i64 0, .int .i64 0, .int .i64 0, .slice none 0 0] 27)) := ((Below.refl _ _).alloc (Nat.le_refl _) _).alloc (by simp) _
  have sx := (Str.new w 27 #[.int .i64 r, .int .i64 a, .int .i64 d, .slice am ms.length cm]).alloc (.cells #[.int .i64 0, .int .i64 0, .int .i64 0, .slice none 0 0] 27)
  have sr := Str.new (w.alloc (.cells #[.int .i64 r, .int .i64 a, .int .i64 d, .slice am ms.length cm] 27)) 27 #[.int .i64 0, .int .i64 0, .int .i64 0, .slice none 0 0]
  have hz0 : ((w.alloc (.cells #[.int .i64 r, .int .i64 a, .int .i64 d, .slice am ms.length cm] 27)).alloc (.cells #[.int .i64 0, .int .i64 0, .int .i64 0, .slice none 0 0] 27)).heap.size = w.heap.size + 2 := by simp
  simp only [World.size_alloc] at sr
  have SX := Lib.hid (show Str ((w.alloc (.cells #[.int .i64 r, .int .i64 a, .int .i64 d, .slice am ms.length cm] 27)).alloc (.cells #[.int .i64 0, .int .i64 0, .int .i64 0, .slice none 0 0] 27)) (w.heap.size) 27 #[.int .i64 r, .int .i64 a, .int .i64 d, .slice am ms.length cm] from sx)
  have SR := Lib.hid (show Str ((w.alloc (.cells #[.int .i64 r, .int .i64 a, .int .i64 d, .slice am ms.length cm] 27)).alloc (.cells #[.int .i64 0, .int .i64 0, .int .i64 0, .slice none 0 0] 27)) (w.heap.size + 1) 27 #[.int .i64 0, .int .i64 0, .int .i64 0, .slice none 0 0] from sr)
  have Hb := Lib.hid hb0
  have Hc := Lib.hid hc; have Hm := Lib.hid hm; have Hsrc := Lib.hid hsrc
  clear sx sr hb0 hc hm hsrc
  go_enter Try.func11, Try.ntmps11
  have cX_0 := SX.out.cell 0 (v := .int .i64 r) rfl
  have cX_1 := SX.out.cell 1 (v := .int .i64 a) rfl
  have cX_2 := SX.out.cell 2 (v := .int .i64 d) rfl
  have cX_3 := SX.out.cell 3 (v := .slice am ms.length cm) rfl
  go_wp2_with fail
  generalize ((w.alloc (.cells #[.int .i64 r, .int .i64 a, .int .i64 d, .slice am ms.length cm] 27)).alloc (.cells #[.int .i64 0, .int .i64 0, .int .i64 0, .slice none 0 0] 27)) = W0 at *
  refine (tally_fits ac capc c r a d am cm ms _ hn (by omega) (Hc.out.below Hb.out) (Hm.out.below Hb.out)).mono ?_
  rintro e w1 ⟨rfl, hb1⟩
  clear cX_0 cX_1 cX_2 cX_3
  have SX := Lib.hid (show Str w1 (w.heap.size) 27 #[.int .i64 r, .int .i64 a, .int .i64 d, .slice am ms.length cm] from (hb1.block _ SX.out.lt).trans SX.out)
  have SR := Lib.hid (show Str w1 (w.heap.size + 1) 27 #[.int .i64 0, .int .i64 0, .int .i64 0, .slice none 0 0] from (hb1.block _ SR.out.lt).trans SR.out)
  have hsw1 := hb1.size
  have Hb := Lib.hid (below_step Hb.out Hb.out.size hb1)
  clear hb1
  cases h1 : tallyB c ⟨r, a, d⟩ ms with
  | false =>
    obtain ⟨z1, z2, z3⟩ := ta_no (c := c) (v := ⟨r, a, d⟩) (ms := ms) (x := x) (by unfold taB; rw [h1]; rfl)
    have Z1 := Lib.hid z1; have Z2 := Lib.hid z2; have Z3 := Lib.hid z3; clear z1 z2 z3
    have cX_0 := SX.out.cell 0 (v := .int .i64 r) rfl
    have cX_1 := SX.out.cell 1 (v := .int .i64 a) rfl
    have cX_2 := SX.out.cell 2 (v := .int .i64 d) rfl
    have cX_3 := SX.out.cell 3 (v := .slice am ms.length cm) rfl
    have cR_0 := SR.out.cell 0 (v := .int .i64 0) rfl
    have cR_1 := SR.out.cell 1 (v := .int .i64 0) rfl
    have cR_2 := SR.out.cell 2 (v := .int .i64 0) rfl
    have cR_3 := SR.out.cell 3 (v := .slice none 0 0) rfl
    have fR_0 := SR.out.frozen 0
    have fR_1 := SR.out.frozen 1
    have fR_2 := SR.out.frozen 2
    have fR_3 := SR.out.frozen 3
    have sF := (((SR.out.set 0 (.int .i64 0)).set 1 (.int .i64 0)).set 2 (.int .i64 0)).set 3 (.slice none 0 0)
    have e0 := sF.cell 0 (v := .int .i64 0) rfl
    have e1 := sF.cell 1 (v := .int .i64 0) rfl
    have e2 := sF.cell 2 (v := .int .i64 0) rfl
    have e3 := sF.cell 3 (v := .slice none 0 0) rfl
    clear sF
    go_wp2
    refine bodyPost_ret (v := .tuple #[.agg #[.int .i64 0, .int .i64 0, .int .i64 0, .slice none 0 0], .bool false]) (by simp [results, Try.f11, go_sem, e0, e1, e2, e3]) rfl ?_
    rw [Z1.out, Z2.out, Z3.out]
    exact ⟨_, rfl, Own.nil _ _ _, (((Hb.out.setCell (p := ⟨w.heap.size + 1, 0, none⟩) (by simp only; omega) _).setCell (p := ⟨w.heap.size + 1, 1, none⟩) (by simp only; omega) _).setCell (p := ⟨w.heap.size + 1, 2, none⟩) (by simp only; omega) _).setCell (p := ⟨w.heap.size + 1, 3, none⟩) (by simp only; omega) _⟩
  | true =>
  have Has := Lib.hid (ta_asc h1)
  by_cases hq1 : x < 0
  case pos =>
    obtain ⟨z1, z2, z3⟩ := ta_no (c := c) (v := ⟨r, a, d⟩) (ms := ms) (x := x) (by unfold taB; rw [h1, decide_eq_false (by omega)]; rfl)
    have Z1 := Lib.hid z1; have Z2 := Lib.hid z2; have Z3 := Lib.hid z3; clear z1 z2 z3
    have cX_0 := SX.out.cell 0 (v := .int .i64 r) rfl
    have cX_1 := SX.out.cell 1 (v := .int .i64 a) rfl
    have cX_2 := SX.out.cell 2 (v := .int .i64 d) rfl
    have cX_3 := SX.out.cell 3 (v := .slice am ms.length cm) rfl
    have cR_0 := SR.out.cell 0 (v := .int .i64 0) rfl
    have cR_1 := SR.out.cell 1 (v := .int .i64 0) rfl
    have cR_2 := SR.out.cell 2 (v := .int .i64 0) rfl
    have cR_3 := SR.out.cell 3 (v := .slice none 0 0) rfl
    have fR_0 := SR.out.frozen 0
    have fR_1 := SR.out.frozen 1
    have fR_2 := SR.out.frozen 2
    have fR_3 := SR.out.frozen 3
    have sF := (((SR.out.set 0 (.int .i64 0)).set 1 (.int .i64 0)).set 2 (.int .i64 0)).set 3 (.slice none 0 0)
    have e0 := sF.cell 0 (v := .int .i64 0) rfl
    have e1 := sF.cell 1 (v := .int .i64 0) rfl
    have e2 := sF.cell 2 (v := .int .i64 0) rfl
    have e3 := sF.cell 3 (v := .slice none 0 0) rfl
    clear sF
    go_wp2
    refine bodyPost_ret (v := .tuple #[.agg #[.int .i64 0, .int .i64 0, .int .i64 0, .slice none 0 0], .bool false]) (by simp [results, Try.f11, go_sem, e0, e1, e2, e3]) rfl ?_
    rw [Z1.out, Z2.out, Z3.out]
    exact ⟨_, rfl, Own.nil _ _ _, (((Hb.out.setCell (p := ⟨w.heap.size + 1, 0, none⟩) (by simp only; omega) _).setCell (p := ⟨w.heap.size + 1, 1, none⟩) (by simp only; omega) _).setCell (p := ⟨w.heap.size + 1, 2, none⟩) (by simp only; omega) _).setCell (p := ⟨w.heap.size + 1, 3, none⟩) (by simp only; omega) _⟩
  by_cases hq2 : (c.length : Int) ≤ x
  case pos =>
    obtain ⟨z1, z2, z3⟩ := ta_no (c := c) (v := ⟨r, a, d⟩) (ms := ms) (x := x) (by unfold taB; rw [h1, decide_eq_false (by omega)]; rfl)
    have Z1 := Lib.hid z1; have Z2 := Lib.hid z2; have Z3 := Lib.hid z3; clear z1 z2 z3
    have cX_0 := SX.out.cell 0 (v := .int .i64 r) rfl
    have cX_1 := SX.out.cell 1 (v := .int .i64 a) rfl
    have cX_2 := SX.out.cell 2 (v := .int .i64 d) rfl
    have cX_3 := SX.out.cell 3 (v := .slice am ms.length cm) rfl
    have cR_0 := SR.out.cell 0 (v := .int .i64 0) rfl
    have cR_1 := SR.out.cell 1 (v := .int .i64 0) rfl
    have cR_2 := SR.out.cell 2 (v := .int .i64 0) rfl
    have cR_3 := SR.out.cell 3 (v := .slice none 0 0) rfl
    have fR_0 := SR.out.frozen 0
    have fR_1 := SR.out.frozen 1
    have fR_2 := SR.out.frozen 2
    have fR_3 := SR.out.frozen 3
    have sF := (((SR.out.set 0 (.int .i64 0)).set 1 (.int .i64 0)).set 2 (.int .i64 0)).set 3 (.slice none 0 0)
    have e0 := sF.cell 0 (v := .int .i64 0) rfl
    have e1 := sF.cell 1 (v := .int .i64 0) rfl
    have e2 := sF.cell 2 (v := .int .i64 0) rfl
    have e3 := sF.cell 3 (v := .slice none 0 0) rfl
    clear sF
    go_wp2
    refine bodyPost_ret (v := .tuple #[.agg #[.int .i64 0, .int .i64 0, .int .i64 0, .slice none 0 0], .bool false]) (by simp [results, Try.f11, go_sem, e0, e1, e2, e3]) rfl ?_
    rw [Z1.out, Z2.out, Z3.out]
    exact ⟨_, rfl, Own.nil _ _ _, (((Hb.out.setCell (p := ⟨w.heap.size + 1, 0, none⟩) (by simp only; omega) _).setCell (p := ⟨w.heap.size + 1, 1, none⟩) (by simp only; omega) _).setCell (p := ⟨w.heap.size + 1, 2, none⟩) (by simp only; omega) _).setCell (p := ⟨w.heap.size + 1, 3, none⟩) (by simp only; omega) _⟩
  obtain ⟨z1, z2, z3⟩ := ta_yes (c := c) (v := ⟨r, a, d⟩) (ms := ms) (x := x) (by unfold taB; rw [h1, decide_eq_true (by omega)]; rfl)
  have Z1 := Lib.hid z1; have Z2 := Lib.hid z2; have Z3 := Lib.hid z3; clear z1 z2 z3 h1
  obtain ⟨k, hk, hlo, hup⟩ := place_ex ms x
  have Hlo := Lib.hid hlo; have Hup := Lib.hid hup; clear hlo hup
  have cX_0 := SX.out.cell 0 (v := .int .i64 r) rfl
  have cX_1 := SX.out.cell 1 (v := .int .i64 a) rfl
  have cX_2 := SX.out.cell 2 (v := .int .i64 d) rfl
  have cX_3 := SX.out.cell 3 (v := .slice am ms.length cm) rfl
  go_wp2_with fail
  refine (lib_Clone TIa am cm ms _ (by omega) (Hsrc.out.lies Hm.out Hb.out) (Hm.out.below Hb.out)).mono ?_
  rintro e w3 ⟨vl, rfl, hol, hb3⟩
  clear cX_0 cX_1 cX_2 cX_3
  have SX := Lib.hid (show Str w3 (w.heap.size) 27 #[.int .i64 r, .int .i64 a, .int .i64 d, .slice am ms.length cm] from (hb3.block _ SX.out.lt).trans SX.out)
  have SR := Lib.hid (show Str w3 (w.heap.size + 1) 27 #[.int .i64 0, .int .i64 0, .int .i64 0, .slice none 0 0] from (hb3.block _ SR.out.lt).trans SR.out)
  have hsw3 := hb3.size
  have Hb := Lib.hid (below_step Hb.out Hb.out.size hb3)
  clear hb3
  have Ho := Lib.hid hol; clear hol
  go_wp2_with fail
  refine (search_own _ k _ ms x _ Ho.out Has.out hk Hlo.out Hup.out hbig).mono ?_
  rintro e w4 ⟨rfl, hb4⟩
  have Ho := Lib.hid (Ho.out.below hb4)
  have SX := Lib.hid (show Str w4 (w.heap.size) 27 #[.int .i64 r, .int .i64 a, .int .i64 d, .slice am ms.length cm] from (hb4.block _ SX.out.lt).trans SX.out)
  have SR := Lib.hid (show Str w4 (w.heap.size + 1) 27 #[.int .i64 0, .int .i64 0, .int .i64 0, .slice none 0 0] from (hb4.block _ SR.out.lt).trans SR.out)
  have hsw4 := hb4.size
  have Hb := Lib.hid (below_step Hb.out Hb.out.size hb4)
  clear hb4
  cases hh : hasB ms x with
  | true =>
    have hL : addZ ms x = ms := by unfold addZ; rw [if_pos hh]
    rw [← hL] at Ho
    generalize addZ ms x = L at *
    clear hL
    obtain ⟨al, cl, rfl, _, _⟩ := Ho.out.ints
    have cX_0 := SX.out.cell 0 (v := .int .i64 r) rfl
    have cX_1 := SX.out.cell 1 (v := .int .i64 a) rfl
    have cX_2 := SX.out.cell 2 (v := .int .i64 d) rfl
    have cX_3 := SX.out.cell 3 (v := .slice am ms.length cm) rfl
    have cR_0 := SR.out.cell 0 (v := .int .i64 0) rfl
    have cR_1 := SR.out.cell 1 (v := .int .i64 0) rfl
    have cR_2 := SR.out.cell 2 (v := .int .i64 0) rfl
    have cR_3 := SR.out.cell 3 (v := .slice none 0 0) rfl
    have fR_0 := SR.out.frozen 0
    have fR_1 := SR.out.frozen 1
    have fR_2 := SR.out.frozen 2
    have fR_3 := SR.out.frozen 3
    have sF := (((SR.out.set 0 (.int .i64 r)).set 1 (.int .i64 a)).set 2 (.int .i64 d)).set 3 (.slice al L.length cl)
    have e0 := sF.cell 0 (v := .int .i64 r) rfl
    have e1 := sF.cell 1 (v := .int .i64 a) rfl
    have e2 := sF.cell 2 (v := .int .i64 d) rfl
    have e3 := sF.cell 3 (v := .slice al L.length cl) rfl
    have hbt : Btw (w.heap.size + 1) (w.heap.size + 1 + 1) w4 ((((w4.setCell ⟨w.heap.size + 1, 0, none⟩ (.int .i64 r)).setCell ⟨w.heap.size + 1, 1, none⟩ (.int .i64 a)).setCell ⟨w.heap.size + 1, 2, none⟩ (.int .i64 d)).setCell ⟨w.heap.size + 1, 3, none⟩ (.slice al L.length cl)) := ((((Btw.set w4 (Nat.le_refl (w.heap.size + 1)) (Nat.lt_succ_self _) 0 (.int .i64 r)).trans (Btw.set (w4.setCell ⟨w.heap.size + 1, 0, none⟩ (.int .i64 r)) (Nat.le_refl (w.heap.size + 1)) (Nat.lt_succ_self _) 1 (.int .i64 a))).trans (Btw.set ((w4.setCell ⟨w.heap.size + 1, 0, none⟩ (.int .i64 r)).setCell ⟨w.heap.size + 1, 1, none⟩ (.int .i64 a)) (Nat.le_refl (w.heap.size + 1)) (Nat.lt_succ_self _) 2 (.int .i64 d))).trans (Btw.set (((w4.setCell ⟨w.heap.size + 1, 0, none⟩ (.int .i64 r)).setCell ⟨w.heap.size + 1, 1, none⟩ (.int .i64 a)).setCell ⟨w.heap.size + 1, 2, none⟩ (.int .i64 d)) (Nat.le_refl (w.heap.size + 1)) (Nat.lt_succ_self _) 3 (.slice al L.length cl)))
    have Hbt := Lib.hid hbt
    clear sF hbt
    go_wp2
    refine bodyPost_ret (v := .tuple #[.agg #[.int .i64 r, .int .i64 a, .int .i64 d, .slice al L.length cl], .bool (!hasB ms x)]) (by simp [results, Try.f11, go_sem, e0, e1, e2, e3, hh]) rfl ?_
    rw [Z1.out, Z2.out, Z3.out]
    refine ⟨_, rfl, Own.mono (Hbt.out.own Ho.out (fun g e => by have := (Ho.out.lt g e).1; omega)) ?_, Hbt.out.below Hb.out Hb.out.size (by omega)⟩
    omega
  | false =>
  have hgt := gt_of_lacks hh Hup.out
  obtain ⟨_, hL⟩ := ins_no Has.out hk Hlo.out hgt
  have HL := Lib.hid (show insL ms k x = addZ ms x from hL.symm)
  clear hgt hL
  have hnb := Ho.out.lt
  have hal : Below w4.heap.size w4 (w4.alloc (.cells #[.int .i64 x] 3)) := (Below.refl _ _).alloc (Nat.le_refl _) _
  have SP := Lib.hid (Str.new w4 3 #[.int .i64 x])
  have Ho := Lib.hid (Ho.out.below hal)
  have hz5 : (w4.alloc (.cells #[.int .i64 x] 3)).heap.size = w4.heap.size + 1 := by simp
  have hnp : vl.ownBlock ≠ some w4.heap.size := fun e => by have := (hnb _ e).2; omega
  have SX := Lib.hid (show Str (w4.alloc (.cells #[.int .i64 x] 3)) (w.heap.size) 27 #[.int .i64 r, .int .i64 a, .int .i64 d, .slice am ms.length cm] from SX.out.alloc _)
  have SR := Lib.hid (show Str (w4.alloc (.cells #[.int .i64 x] 3)) (w.heap.size + 1) 27 #[.int .i64 0, .int .i64 0, .int .i64 0, .slice none 0 0] from SR.out.alloc _)
  have Hb := Lib.hid (below_step Hb.out Hb.out.size hal)
  clear hal
  go_wp2_with fail
  generalize (w4.alloc (.cells #[.int .i64 x] 3)) = w5 at *
  refine (ins_own _ w4.heap.size k vl ms x w5 Ho.out SP.out hk hnp (by omega) hbig).mono ?_
  rintro e w6 ⟨vn, rfl, hon, hg6⟩
  rw [HL.out] at hon
  generalize addZ ms x = L at *
  obtain ⟨al, cl, rfl, _, _⟩ := hon.ints
  have SX := Lib.hid (show Str w6 (w.heap.size) 27 #[.int .i64 r, .int .i64 a, .int .i64 d, .slice am ms.length cm] from SX.out.kept hg6 (fun e => by have := (Ho.out.lt _ e.symm).1; omega))
  have SR := Lib.hid (show Str w6 (w.heap.size + 1) 27 #[.int .i64 0, .int .i64 0, .int .i64 0, .slice none 0 0] from SR.out.kept hg6 (fun e => by have := (Ho.out.lt _ e.symm).1; omega))
  have hs6 := hg6.size
  have Hb := Lib.hid (Hb.out.grown hg6 Hb.out.size (fun q e => by have := (Ho.out.lt _ e).1; omega))
  have Ho := Lib.hid hon
  clear hon hg6 hnp hnb
  have cX_0 := SX.out.cell 0 (v := .int .i64 r) rfl
  have cX_1 := SX.out.cell 1 (v := .int .i64 a) rfl
  have cX_2 := SX.out.cell 2 (v := .int .i64 d) rfl
  have cX_3 := SX.out.cell 3 (v := .slice am ms.length cm) rfl
  have cR_0 := SR.out.cell 0 (v := .int .i64 0) rfl
  have cR_1 := SR.out.cell 1 (v := .int .i64 0) rfl
  have cR_2 := SR.out.cell 2 (v := .int .i64 0) rfl
  have cR_3 := SR.out.cell 3 (v := .slice none 0 0) rfl
  have fR_0 := SR.out.frozen 0
  have fR_1 := SR.out.frozen 1
  have fR_2 := SR.out.frozen 2
  have fR_3 := SR.out.frozen 3
  have sF := (((SR.out.set 0 (.int .i64 r)).set 1 (.int .i64 a)).set 2 (.int .i64 d)).set 3 (.slice al L.length cl)
  have e0 := sF.cell 0 (v := .int .i64 r) rfl
  have e1 := sF.cell 1 (v := .int .i64 a) rfl
  have e2 := sF.cell 2 (v := .int .i64 d) rfl
  have e3 := sF.cell 3 (v := .slice al L.length cl) rfl
  have hbt : Btw (w.heap.size + 1) (w.heap.size + 1 + 1) w6 ((((w6.setCell ⟨w.heap.size + 1, 0, none⟩ (.int .i64 r)).setCell ⟨w.heap.size + 1, 1, none⟩ (.int .i64 a)).setCell ⟨w.heap.size + 1, 2, none⟩ (.int .i64 d)).setCell ⟨w.heap.size + 1, 3, none⟩ (.slice al L.length cl)) := ((((Btw.set w6 (Nat.le_refl (w.heap.size + 1)) (Nat.lt_succ_self _) 0 (.int .i64 r)).trans (Btw.set (w6.setCell ⟨w.heap.size + 1, 0, none⟩ (.int .i64 r)) (Nat.le_refl (w.heap.size + 1)) (Nat.lt_succ_self _) 1 (.int .i64 a))).trans (Btw.set ((w6.setCell ⟨w.heap.size + 1, 0, none⟩ (.int .i64 r)).setCell ⟨w.heap.size + 1, 1, none⟩ (.int .i64 a)) (Nat.le_refl (w.heap.size + 1)) (Nat.lt_succ_self _) 2 (.int .i64 d))).trans (Btw.set (((w6.setCell ⟨w.heap.size + 1, 0, none⟩ (.int .i64 r)).setCell ⟨w.heap.size + 1, 1, none⟩ (.int .i64 a)).setCell ⟨w.heap.size + 1, 2, none⟩ (.int .i64 d)) (Nat.le_refl (w.heap.size + 1)) (Nat.lt_succ_self _) 3 (.slice al L.length cl)))
  have Hbt := Lib.hid hbt
  clear sF hbt
  go_wp2
  refine bodyPost_ret (v := .tuple #[.agg #[.int .i64 r, .int .i64 a, .int .i64 d, .slice al L.length cl], .bool (!hasB ms x)]) (by simp [results, Try.f11, go_sem, e0, e1, e2, e3, hh]) rfl ?_
  rw [Z1.out, Z2.out, Z3.out]
  refine ⟨_, rfl, Own.mono (Hbt.out.own Ho.out (fun g e => by have := (Ho.out.lt g e).1; omega)) ?_, Hbt.out.below Hb.out Hb.out.size (by omega)⟩
  omega

end Go.Proofs.Ytgpbogalknmcmab

/- Adding a member to a tally: plain facts on lists, nothing here is walked. -/
namespace Go.Proofs.Ytgpbogalknmcmab
open Go.RowKit

theorem mem_addZ (ms : List Int) (x y : Int) : y ∈ addZ ms x ↔ y ∈ ms ∨ y = x := by
  unfold addZ
  by_cases h : hasB ms x = true
  · rw [if_pos h]
    exact ⟨.inl, fun h' => h'.elim id (fun e => by subst e; exact of_decide_eq_true h)⟩
  · rw [if_neg h]
    have e : y ∈ ms ↔ y ∈ ms.takeWhile (fun m => decide (m < x)) ++ ms.dropWhile (fun m => decide (m < x)) := by rw [List.takeWhile_append_dropWhile]
    rw [e, List.mem_append, List.mem_append, List.mem_cons]
    constructor
    · rintro (h | h | h)
      · exact .inl (.inl h)
      · exact .inr h
      · exact .inl (.inr h)
    · rintro ((h | h) | h)
      · exact .inl h
      · exact .inr (.inr h)
      · exact .inr (.inl h)
theorem has_addZ (ms : List Int) (x : Int) : hasB (addZ ms x) x = true := decide_eq_true ((mem_addZ ms x x).2 (.inr rfl))
theorem add_again (ms : List Int) (x : Int) : addZ (addZ ms x) x = addZ ms x := by
  have h := has_addZ ms x
  generalize addZ ms x = l at *
  unfold addZ
  rw [if_pos h]
theorem asc_addZ {ms : List Int} (hs : ms.Pairwise (· < ·)) (x : Int) : (addZ ms x).Pairwise (· < ·) := by
  obtain ⟨k, hk, h1, h2⟩ := place_ex ms x
  by_cases h : hasB ms x = true
  · unfold addZ; rw [if_pos h]; exact hs
  have hh : hasB ms x = false := by simpa using h
  have h3 := fun hk : k < ms.length => (show x < ms[k] from by
    have := h2 hk
    have hne : ms[k] ≠ x := fun e => by have := hasB_yes hk; rw [e, hh] at this; exact absurd this (by simp)
    omega)
  rw [(ins_no hs hk h1 h3).2]
  have hd : ∀ m ∈ ms.drop k, x < m := by
    intro m hm
    have := rest_ge hs h2 m hm
    have hne : m ≠ x := fun e => by
      subst e
      have hm' : m ∈ ms := List.mem_of_mem_drop hm
      have : hasB ms m = true := decide_eq_true hm'
      rw [hh] at this; exact absurd this (by simp)
    omega
  refine List.pairwise_append.2 ⟨hs.sublist (List.take_sublist _ _), List.pairwise_cons.2 ⟨hd, hs.sublist (List.drop_sublist _ _)⟩, ?_⟩
  intro a ha b hb
  have h4 := h1 a ha
  rcases List.mem_cons.1 hb with e | e
  · rw [e]; exact h4
  · have := hd b e; omega
theorem add_members {n : Nat} {ms : List Int} {x : Int} (h : membersB n ms = true) (h0 : 0 ≤ x) (h1 : x < n) : membersB n (addZ ms x) = true := by
  obtain ⟨p1, p2⟩ := ascP_of h
  refine of_ascP ⟨asc_addZ p1 x, fun m hm => ?_⟩
  rcases (mem_addZ ms x m).1 hm with e | e
  · exact p2 m e
  · rw [e]; exact ⟨h0, h1⟩
theorem weight_mono' {c a b : List Int} (h : validB c = true) (ha : AscP c.length a) (hb : AscP c.length b) (hs : ∀ x ∈ a, x ∈ b) : weightZ c a ≤ weightZ c b := by
  rw [weight_isum c c.length a ha, weight_isum c c.length b hb]
  refine isum_le fun i hi => ?_
  unfold wAt
  have hp := c_nonneg h i hi
  by_cases h1 : hasB a i = true
  · have h2 : hasB b i = true := by
      unfold hasB at h1 ⊢
      simp at h1 ⊢
      exact hs _ h1
    rw [if_pos h1, if_pos h2]; omega
  · rw [if_neg h1]
    split
    · exact hp
    · omega
theorem tally_add {c : List Int} {v : Vt} {ms : List Int} {x : Int} (h : taB c v ms x = true) : tallyB c v (addZ ms x) = true := by
  unfold taB at h
  simp only [Bool.and_eq_true, decide_eq_true_eq] at h
  obtain ⟨ht, h0, h1⟩ := h
  unfold tallyB at ht ⊢
  simp only [Bool.and_eq_true] at ht ⊢
  exact ⟨ht.1, ht.2.1, add_members ht.2.2 h0 (by omega)⟩
theorem p62 {c : List Int} {v : Vt} {ms : List Int} {x : Int} (h : taB c v ms x = true) : taL c v ms x = addZ ms x ∧ taV c v ms x = v ∧ taK c v ms x = !hasB ms x ∧ hasB (addZ ms x) x = true ∧
    taL c v (addZ ms x) x = addZ ms x ∧ taV c v (addZ ms x) x = v ∧ taK c v (addZ ms x) x = false := by
  obtain ⟨a1, a2, a3⟩ := ta_yes h
  have h' : taB c v (addZ ms x) x = true := by
    have ht := tally_add h
    unfold taB at h ⊢
    simp only [Bool.and_eq_true] at h ⊢
    exact ⟨ht, h.2⟩
  obtain ⟨b1, b2, b3⟩ := ta_yes h'
  exact ⟨a2, a1, a3, has_addZ ms x, by rw [b2, add_again], b1, by rw [b3, has_addZ]; rfl⟩
theorem p62_no {c : List Int} {v : Vt} {ms : List Int} {x : Int} : (taL c v ms x).length = 0 ↔ taB c v ms x = false := by
  by_cases h : taB c v ms x = true
  · rw [(ta_yes h).2.1]
    constructor
    · intro e
      have := (mem_addZ ms x x).2 (.inr rfl)
      rw [List.length_eq_zero_iff.1 e] at this
      exact absurd this (by simp)
    · intro e; rw [h] at e; exact absurd e (by simp)
  · have h' : taB c v ms x = false := by simpa using h
    rw [(ta_no h').2.1]
    exact ⟨fun _ => h', fun _ => rfl⟩
theorem p63 {c : List Int} {v : Vt} {ms : List Int} {x : Int} (h : doneB c v ms = true) (h0 : 0 ≤ x) (h1 : x < c.length) : taV c v ms x = v ∧ doneB c v (taL c v ms x) = true ∧ orNo c (2 * totalZ c / 3 + 1) ≤ mwZ c ms := by
  unfold doneB at h
  simp only [Bool.and_eq_true, decide_eq_true_eq] at h
  obtain ⟨ht, hw⟩ := h
  have hta : taB c v ms x = true := by unfold taB; simp only [Bool.and_eq_true, decide_eq_true_eq]; exact ⟨ht, h0, by omega⟩
  have htt := tally_add hta
  have ht2 := ht
  unfold tallyB at ht2
  simp only [Bool.and_eq_true] at ht2
  have hp := ascP_of ht2.2.2
  have hp2 : AscP c.length (addZ ms x) := ascP_of (add_members ht2.2.2 h0 h1)
  have hm := weight_mono' ht2.1 hp hp2 (fun y hy => (mem_addZ ms x y).2 (.inl hy))
  refine ⟨(ta_yes hta).1, ?_, ?_⟩
  · rw [(ta_yes hta).2.1]
    unfold doneB
    simp only [Bool.and_eq_true, decide_eq_true_eq]
    exact ⟨htt, by omega⟩
  · rw [mwZ_of ht2.1 hp, orNo_yes ht2.1]; exact hw
theorem done_pos {c : List Int} {v : Vt} {ms : List Int} (h : doneB c v ms = true) : 1 ≤ c.length ∧ c.length ≤ 7 := by
  unfold doneB tallyB at h
  simp only [Bool.and_eq_true] at h
  exact validB_len h.1.1

end Go.Proofs.Ytgpbogalknmcmab

/- What the laws' comparison of two equal tallies answers, by a walk of its text; condition: the list is shorter than 2^40. -/
namespace Go.Proofs.Ytgpbogalknmcmab
open Go.RowKit

theorem eql_vote (x : Vt) (w : World) : (binOp .eql 25 (.agg #[.int .i64 x.r, .int .i64 x.a, .int .i64 x.d]) (.agg #[.int .i64 x.r, .int .i64 x.a, .int .i64 x.d])).run Try.prog w = .ok (.bool true) w := by
  have hS : Try.prog.underlying 25 = some (.struct (Try.prog.fieldsOf 25)) := by kernel_rfl
  have hp : Try.prog.stoodInHeld 25 = false := by kernel_rfl
  rw [run_eql_struct, show (10000 : Nat) = 9999 + 1 from rfl, run_equalIn_agg w 9999 25 _ _ hS hp]
  simp only [Program.fieldsOf, Try.underlying25]
  obtain ⟨a, b, c⟩ := x
  go_simp
set_option maxHeartbeats 2000000 in
theorem laws_sameTally (r a d : Int) (g : List Int) (am bm : Option Addr) (cm cn : Nat) (w : World) (hbig : g.length ≤ 1099511627776) (hx : IntsAt w am g) (hy : IntsAt w bm g) :
    Calls Try.prog 13 #[.agg #[.int .i64 r, .int .i64 a, .int .i64 d, .slice am g.length cm], .agg #[.int .i64 r, .int .i64 a, .int .i64 d, .slice bm g.length cn]] w fun e w' => e = .returned (.bool true) ∧ Below w.heap.size w w' := by
  have hb0 : Below w.heap.size w ((w.alloc (.cells #[.int .i64 r, .int .i64 a, .int .i64 d, .slice am g.length cm] 27)).alloc (.cells #[.int .i64 r, .int .i64 a, .int .i64 d, .slice bm g.length cn] 27)) := ((Below.refl _ _).alloc (Nat.le_refl _) _).alloc (by simp) _
  have sx := (Str.new w 27 #[.int .i64 r, .int .i64 a, .int .i64 d, .slice am g.length cm]).alloc (.cells #[.int .i64 r, .int .i64 a, .int .i64 d, .slice bm g.length cn] 27)
  have sy := Str.new (w.alloc (.cells #[.int .i64 r, .int .i64 a, .int .i64 d, .slice am g.length cm] 27)) 27 #[.int .i64 r, .int .i64 a, .int .i64 d, .slice bm g.length cn]
  simp only [World.size_alloc] at sy
  have Ix := Lib.hid (hx.below hb0)
  have Iy := Lib.hid (hy.below hb0)
  have Hb := Lib.hid hb0
  have x0 := sx.cell 0 (v := .int .i64 r) rfl
  have x1 := sx.cell 1 (v := .int .i64 a) rfl
  have x2 := sx.cell 2 (v := .int .i64 d) rfl
  have x3 := sx.cell 3 (v := .slice am g.length cm) rfl
  have y0 := sy.cell 0 (v := .int .i64 r) rfl
  have y1 := sy.cell 1 (v := .int .i64 a) rfl
  have y2 := sy.cell 2 (v := .int .i64 d) rfl
  have y3 := sy.cell 3 (v := .slice bm g.length cn) rfl
  have he := fun W => eql_vote ⟨r, a, d⟩ W
  dsimp only at he
  clear sx sy hb0 hx hy
  go_enter Try.func13, Try.ntmps13
  go_wp2_with fail
  refine (laws_sameInts' am bm cm cn g _ hbig Ix.out Iy.out).mono ?_
  rintro e w1 ⟨rfl, hd⟩
  have hb := hd.below ((w.alloc (.cells #[.int .i64 r, .int .i64 a, .int .i64 d, .slice am g.length cm] 27)).alloc (.cells #[.int .i64 r, .int .i64 a, .int .i64 d, .slice bm g.length cn] 27)).heap.size
  have Hb := Lib.hid (below_step Hb.out Hb.out.size hb)
  clear hb hd x0 x1 x2 x3 y0 y1 y2 y3 he
  go_wp2
  go_ret
  exact ⟨rfl, Hb.out⟩

end Go.Proofs.Ytgpbogalknmcmab
