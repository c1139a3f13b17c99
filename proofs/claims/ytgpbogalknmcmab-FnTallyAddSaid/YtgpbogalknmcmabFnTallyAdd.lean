/- Law FnTallyAdd holds for every input; no conditions of our own. -/
import Derived.Test.YtgpbogalknmcmabRows
import Derived.Test.YtgpbogalknmcmabBu0
import Derived.Test.YtgpbogalknmcmabBu1
import Derived.Test.YtgpbogalknmcmabBu2
import Derived.Deep.QuietTactic
import Derived.BigQuiet
namespace Go.Proofs.Ytgpbogalknmcmab
open Go.ChangeShapes Go.WideShapes Go.ChangeAt Go.RowKit

set_option maxHeartbeats 4000000 in
theorem fnTallyAdd_walk (a : Option Addr) (cap : Nat) (zs : List Int) (w : World) (hk : zs.length ≤ cap) (_hm : zs.length ≤ maxLen) (hi : zs = [] ∨ ∃ b off, a = some ⟨b, off, none⟩ ∧ b < w.heap.size ∧ ∀ j (h : j < zs.length), w.cell? ⟨b, off + j, none⟩ = some (.int .u8 zs[j])) (hw : ∀ z ∈ zs, (Lit.int .u8 z).wf = true) :
    Calls Try.prog 3 #[.slice a zs.length cap] w fun e w' => e = .returned (.bool true) ∧ Below w.heap.size w w' := by
  by_cases hl : 1048576 < zs.length
  · go_enter Try.func3, Try.ntmps3
    go_wp2
    go_ret
    exact ⟨rfl, Below.refl _ _⟩
  have hcode := codeAt_of hk (by omega) hi hw
  have Hcode := Lib.hid hcode; clear hcode hi hw
  go_enter Try.func3, Try.ntmps3
  go_wp2_with fail
  refine (spec_DrawTallyAdd a cap zs _ Hcode.out).mono ?_
  rintro e w1 ⟨ac, cc, c, ⟨xr, xa, xd⟩, ax, cx, xs, n, rfl, hvx, hoc, hcl, hox, hxl, hn, hb1⟩
  dsimp only at *
  have Ic := Lib.hid (show IntsAt w1 ac c from hoc.at)
  have Ix := Lib.hid (show IntsAt w1 ax xs from hox.at)
  have Qx := Lib.hid (show SrcAt w1 ax cx xs from own_src hox)
  have hcx : xs.length ≤ cx := hox.cap
  have Hb := Lib.hid hb1
  clear hoc hox hb1 hvx
  have Qx := Lib.hid (show SrcAt (w1.alloc (.cells #[.int .i64 xr, .int .i64 xa, .int .i64 xd, .slice ax xs.length cx] 27)) ax cx xs from Qx.out.lies Ix.out (show Below w1.heap.size w1 (w1.alloc (.cells #[.int .i64 xr, .int .i64 xa, .int .i64 xd, .slice ax xs.length cx] 27)) from (Below.refl _ _).alloc (Nat.le_refl _) _))
  have hal : Below w1.heap.size w1 (w1.alloc (.cells #[.int .i64 xr, .int .i64 xa, .int .i64 xd, .slice ax xs.length cx] 27)) := (Below.refl _ _).alloc (Nat.le_refl _) _
  have Ic := Lib.hid (show IntsAt (w1.alloc (.cells #[.int .i64 xr, .int .i64 xa, .int .i64 xd, .slice ax xs.length cx] 27)) ac c from Ic.out.below hal)
  have Ix := Lib.hid (show IntsAt (w1.alloc (.cells #[.int .i64 xr, .int .i64 xa, .int .i64 xd, .slice ax xs.length cx] 27)) ax xs from Ix.out.below hal)
  have Svx := Lib.hid (Str.new w1 27 #[.int .i64 xr, .int .i64 xa, .int .i64 xd, .slice ax xs.length cx])
  have hzvx : (w1.alloc (.cells #[.int .i64 xr, .int .i64 xa, .int .i64 xd, .slice ax xs.length cx] 27)).heap.size = w1.heap.size + 1 := by simp
  have Hb := Lib.hid (below_step Hb.out Hb.out.size hal)
  clear hal
  obtain ⟨G, hG⟩ : ∃ G, G = taL c ⟨xr, xa, xd⟩ xs n := ⟨_, rfl⟩
  obtain ⟨K, hK⟩ : ∃ K, K = taK c ⟨xr, xa, xd⟩ xs n := ⟨_, rfl⟩
  obtain ⟨vo, hV⟩ : ∃ vo, vo = taV c ⟨xr, xa, xd⟩ xs n := ⟨_, rfl⟩
  have hgl := ta_len c ⟨xr, xa, xd⟩ xs n
  have HI := Lib.hid (fun W (h1 : IntsAt W ac c) (h2 : IntsAt W ax xs) (h3 : SrcAt W ax cx xs) => impl_TallyAdd ac cc c xr xa xd ax cx xs n W (by omega) (by omega) hcx h1 h2 h3)
  have HS := Lib.hid (fun W (h1 : IntsAt W ac c) (h2 : IntsAt W ax xs) (h3 : SrcAt W ax cx xs) => spec_TallyAdd ac cc c xr xa xd ax cx xs n W (by omega) (by omega) hcx h1 h2 h3)
  rw [← hG, ← hK, ← hV] at HI HS
  rw [← hG] at hgl
  obtain ⟨vr, va, vd⟩ := vo
  dsimp only at HI HS
  have HG := Lib.hid hG; have HK := Lib.hid hK; have HV := Lib.hid hV; clear hG hK hV
  have cvx_0 := Svx.out.cell 0 (v := .int .i64 xr) rfl
  have cvx_1 := Svx.out.cell 1 (v := .int .i64 xa) rfl
  have cvx_2 := Svx.out.cell 2 (v := .int .i64 xd) rfl
  have cvx_3 := Svx.out.cell 3 (v := .slice ax xs.length cx) rfl
  go_wp2_with fail
  generalize (w1.alloc (.cells #[.int .i64 xr, .int .i64 xa, .int .i64 xd, .slice ax xs.length cx] 27)) = W1 at *
  refine (HI.out _ Ic.out Ix.out Qx.out).mono ?_
  rintro e w2 ⟨vv, rfl, hog, hb⟩
  obtain ⟨ag, cg, rfl, _, _⟩ := hog.ints
  have Og := Lib.hid hog
  clear hog
  clear cvx_0 cvx_1 cvx_2 cvx_3
  have Qx := Lib.hid (show SrcAt w2 ax cx xs from Qx.out.lies Ix.out hb)
  have Ic := Lib.hid (show IntsAt w2 ac c from Ic.out.below hb)
  have Ix := Lib.hid (show IntsAt w2 ax xs from Ix.out.below hb)
  have Svx := Lib.hid (show Str w2 (w1.heap.size) 27 #[.int .i64 xr, .int .i64 xa, .int .i64 xd, .slice ax xs.length cx] from (hb.block _ Svx.out.lt).trans Svx.out)
  have hsw2 := hb.size
  have Hb := Lib.hid (below_step Hb.out Hb.out.size hb)
  have Ig := Lib.hid (show IntsAt w2 ag G from Og.out.at)
  have Qg := Lib.hid (show SrcAt w2 ag cg G from own_src Og.out)
  have hcg : G.length ≤ cg := Og.out.cap
  clear hb Og
  have Qx := Lib.hid (show SrcAt (w2.alloc (.cells #[.int .i64 vr, .int .i64 va, .int .i64 vd, .slice ag G.length cg] 27)) ax cx xs from Qx.out.lies Ix.out (show Below w2.heap.size w2 (w2.alloc (.cells #[.int .i64 vr, .int .i64 va, .int .i64 vd, .slice ag G.length cg] 27)) from (Below.refl _ _).alloc (Nat.le_refl _) _))
  have Qg := Lib.hid (show SrcAt (w2.alloc (.cells #[.int .i64 vr, .int .i64 va, .int .i64 vd, .slice ag G.length cg] 27)) ag cg G from Qg.out.lies Ig.out (show Below w2.heap.size w2 (w2.alloc (.cells #[.int .i64 vr, .int .i64 va, .int .i64 vd, .slice ag G.length cg] 27)) from (Below.refl _ _).alloc (Nat.le_refl _) _))
  have hal : Below w2.heap.size w2 (w2.alloc (.cells #[.int .i64 vr, .int .i64 va, .int .i64 vd, .slice ag G.length cg] 27)) := (Below.refl _ _).alloc (Nat.le_refl _) _
  have Ic := Lib.hid (show IntsAt (w2.alloc (.cells #[.int .i64 vr, .int .i64 va, .int .i64 vd, .slice ag G.length cg] 27)) ac c from Ic.out.below hal)
  have Ix := Lib.hid (show IntsAt (w2.alloc (.cells #[.int .i64 vr, .int .i64 va, .int .i64 vd, .slice ag G.length cg] 27)) ax xs from Ix.out.below hal)
  have Ig := Lib.hid (show IntsAt (w2.alloc (.cells #[.int .i64 vr, .int .i64 va, .int .i64 vd, .slice ag G.length cg] 27)) ag G from Ig.out.below hal)
  have Svx := Lib.hid (show Str (w2.alloc (.cells #[.int .i64 vr, .int .i64 va, .int .i64 vd, .slice ag G.length cg] 27)) (w1.heap.size) 27 #[.int .i64 xr, .int .i64 xa, .int .i64 xd, .slice ax xs.length cx] from Svx.out.alloc _)
  have So := Lib.hid (Str.new w2 27 #[.int .i64 vr, .int .i64 va, .int .i64 vd, .slice ag G.length cg])
  have hzo : (w2.alloc (.cells #[.int .i64 vr, .int .i64 va, .int .i64 vd, .slice ag G.length cg] 27)).heap.size = w2.heap.size + 1 := by simp
  have Hb := Lib.hid (below_step Hb.out Hb.out.size hal)
  clear hal
  have cvx_0 := Svx.out.cell 0 (v := .int .i64 xr) rfl
  have cvx_1 := Svx.out.cell 1 (v := .int .i64 xa) rfl
  have cvx_2 := Svx.out.cell 2 (v := .int .i64 xd) rfl
  have cvx_3 := Svx.out.cell 3 (v := .slice ax xs.length cx) rfl
  have co_0 := So.out.cell 0 (v := .int .i64 vr) rfl
  have co_1 := So.out.cell 1 (v := .int .i64 va) rfl
  have co_2 := So.out.cell 2 (v := .int .i64 vd) rfl
  have co_3 := So.out.cell 3 (v := .slice ag G.length cg) rfl
  go_wp2_with fail
  generalize (w2.alloc (.cells #[.int .i64 vr, .int .i64 va, .int .i64 vd, .slice ag G.length cg] 27)) = W2 at *
  refine (HS.out _ Ic.out Ix.out Qx.out).mono ?_
  rintro e w3 ⟨vv, rfl, hog, hb⟩
  obtain ⟨ah, ch, rfl, _, _⟩ := hog.ints
  have Og := Lib.hid hog
  clear hog
  clear cvx_0 cvx_1 cvx_2 cvx_3 co_0 co_1 co_2 co_3
  have Qx := Lib.hid (show SrcAt w3 ax cx xs from Qx.out.lies Ix.out hb)
  have Qg := Lib.hid (show SrcAt w3 ag cg G from Qg.out.lies Ig.out hb)
  have Ic := Lib.hid (show IntsAt w3 ac c from Ic.out.below hb)
  have Ix := Lib.hid (show IntsAt w3 ax xs from Ix.out.below hb)
  have Ig := Lib.hid (show IntsAt w3 ag G from Ig.out.below hb)
  have Svx := Lib.hid (show Str w3 (w1.heap.size) 27 #[.int .i64 xr, .int .i64 xa, .int .i64 xd, .slice ax xs.length cx] from (hb.block _ Svx.out.lt).trans Svx.out)
  have So := Lib.hid (show Str w3 (w2.heap.size) 27 #[.int .i64 vr, .int .i64 va, .int .i64 vd, .slice ag G.length cg] from (hb.block _ So.out.lt).trans So.out)
  have hsw3 := hb.size
  have Hb := Lib.hid (below_step Hb.out Hb.out.size hb)
  have Ih := Lib.hid (show IntsAt w3 ah G from Og.out.at)
  clear hb Og
  have Qx := Lib.hid (show SrcAt (w3.alloc (.cells #[.int .i64 vr, .int .i64 va, .int .i64 vd, .slice ah G.length ch] 27)) ax cx xs from Qx.out.lies Ix.out (show Below w3.heap.size w3 (w3.alloc (.cells #[.int .i64 vr, .int .i64 va, .int .i64 vd, .slice ah G.length ch] 27)) from (Below.refl _ _).alloc (Nat.le_refl _) _))
  have Qg := Lib.hid (show SrcAt (w3.alloc (.cells #[.int .i64 vr, .int .i64 va, .int .i64 vd, .slice ah G.length ch] 27)) ag cg G from Qg.out.lies Ig.out (show Below w3.heap.size w3 (w3.alloc (.cells #[.int .i64 vr, .int .i64 va, .int .i64 vd, .slice ah G.length ch] 27)) from (Below.refl _ _).alloc (Nat.le_refl _) _))
  have hal : Below w3.heap.size w3 (w3.alloc (.cells #[.int .i64 vr, .int .i64 va, .int .i64 vd, .slice ah G.length ch] 27)) := (Below.refl _ _).alloc (Nat.le_refl _) _
  have Ic := Lib.hid (show IntsAt (w3.alloc (.cells #[.int .i64 vr, .int .i64 va, .int .i64 vd, .slice ah G.length ch] 27)) ac c from Ic.out.below hal)
  have Ix := Lib.hid (show IntsAt (w3.alloc (.cells #[.int .i64 vr, .int .i64 va, .int .i64 vd, .slice ah G.length ch] 27)) ax xs from Ix.out.below hal)
  have Ig := Lib.hid (show IntsAt (w3.alloc (.cells #[.int .i64 vr, .int .i64 va, .int .i64 vd, .slice ah G.length ch] 27)) ag G from Ig.out.below hal)
  have Ih := Lib.hid (show IntsAt (w3.alloc (.cells #[.int .i64 vr, .int .i64 va, .int .i64 vd, .slice ah G.length ch] 27)) ah G from Ih.out.below hal)
  have Svx := Lib.hid (show Str (w3.alloc (.cells #[.int .i64 vr, .int .i64 va, .int .i64 vd, .slice ah G.length ch] 27)) (w1.heap.size) 27 #[.int .i64 xr, .int .i64 xa, .int .i64 xd, .slice ax xs.length cx] from Svx.out.alloc _)
  have So := Lib.hid (show Str (w3.alloc (.cells #[.int .i64 vr, .int .i64 va, .int .i64 vd, .slice ah G.length ch] 27)) (w2.heap.size) 27 #[.int .i64 vr, .int .i64 va, .int .i64 vd, .slice ag G.length cg] from So.out.alloc _)
  have Sk := Lib.hid (Str.new w3 27 #[.int .i64 vr, .int .i64 va, .int .i64 vd, .slice ah G.length ch])
  have hzk : (w3.alloc (.cells #[.int .i64 vr, .int .i64 va, .int .i64 vd, .slice ah G.length ch] 27)).heap.size = w3.heap.size + 1 := by simp
  have Hb := Lib.hid (below_step Hb.out Hb.out.size hal)
  clear hal
  have hkk : (K != K) = false := by simp
  have hke : (K == K) = true := by simp
  clear HI HS
  have cvx_0 := Svx.out.cell 0 (v := .int .i64 xr) rfl
  have cvx_1 := Svx.out.cell 1 (v := .int .i64 xa) rfl
  have cvx_2 := Svx.out.cell 2 (v := .int .i64 xd) rfl
  have cvx_3 := Svx.out.cell 3 (v := .slice ax xs.length cx) rfl
  have co_0 := So.out.cell 0 (v := .int .i64 vr) rfl
  have co_1 := So.out.cell 1 (v := .int .i64 va) rfl
  have co_2 := So.out.cell 2 (v := .int .i64 vd) rfl
  have co_3 := So.out.cell 3 (v := .slice ag G.length cg) rfl
  have ck_0 := Sk.out.cell 0 (v := .int .i64 vr) rfl
  have ck_1 := Sk.out.cell 1 (v := .int .i64 va) rfl
  have ck_2 := Sk.out.cell 2 (v := .int .i64 vd) rfl
  have ck_3 := Sk.out.cell 3 (v := .slice ah G.length ch) rfl
  go_wp2_with fail
  generalize (w3.alloc (.cells #[.int .i64 vr, .int .i64 va, .int .i64 vd, .slice ah G.length ch] 27)) = W3 at *
  refine (laws_sameTally vr va vd G ag ah cg ch _ (by omega) Ig.out Ih.out).mono ?_
  rintro e w4 ⟨rfl, hb⟩
  clear cvx_0 cvx_1 cvx_2 cvx_3 co_0 co_1 co_2 co_3 ck_0 ck_1 ck_2 ck_3
  have Qx := Lib.hid (show SrcAt w4 ax cx xs from Qx.out.lies Ix.out hb)
  have Qg := Lib.hid (show SrcAt w4 ag cg G from Qg.out.lies Ig.out hb)
  have Ic := Lib.hid (show IntsAt w4 ac c from Ic.out.below hb)
  have Ix := Lib.hid (show IntsAt w4 ax xs from Ix.out.below hb)
  have Ig := Lib.hid (show IntsAt w4 ag G from Ig.out.below hb)
  have Ih := Lib.hid (show IntsAt w4 ah G from Ih.out.below hb)
  have Svx := Lib.hid (show Str w4 (w1.heap.size) 27 #[.int .i64 xr, .int .i64 xa, .int .i64 xd, .slice ax xs.length cx] from (hb.block _ Svx.out.lt).trans Svx.out)
  have So := Lib.hid (show Str w4 (w2.heap.size) 27 #[.int .i64 vr, .int .i64 va, .int .i64 vd, .slice ag G.length cg] from (hb.block _ So.out.lt).trans So.out)
  have Sk := Lib.hid (show Str w4 (w3.heap.size) 27 #[.int .i64 vr, .int .i64 va, .int .i64 vd, .slice ah G.length ch] from (hb.block _ Sk.out.lt).trans Sk.out)
  have hsw4 := hb.size
  have Hb := Lib.hid (below_step Hb.out Hb.out.size hb)
  clear hb
  by_cases hG0 : G.length = 0
  case pos =>
    have hG1 : ((G.length : Int) == 0) = true := by rw [beq_iff_eq]; omega
    have HG0 := Lib.hid hG0; clear hG0
    have cvx_0 := Svx.out.cell 0 (v := .int .i64 xr) rfl
    have cvx_1 := Svx.out.cell 1 (v := .int .i64 xa) rfl
    have cvx_2 := Svx.out.cell 2 (v := .int .i64 xd) rfl
    have cvx_3 := Svx.out.cell 3 (v := .slice ax xs.length cx) rfl
    have co_0 := So.out.cell 0 (v := .int .i64 vr) rfl
    have co_1 := So.out.cell 1 (v := .int .i64 va) rfl
    have co_2 := So.out.cell 2 (v := .int .i64 vd) rfl
    have co_3 := So.out.cell 3 (v := .slice ag G.length cg) rfl
    have ck_0 := Sk.out.cell 0 (v := .int .i64 vr) rfl
    have ck_1 := Sk.out.cell 1 (v := .int .i64 va) rfl
    have ck_2 := Sk.out.cell 2 (v := .int .i64 vd) rfl
    have ck_3 := Sk.out.cell 3 (v := .slice ah G.length ch) rfl
    go_wp2_with fail
    refine (laws_sameTally vr va vd G ag ah cg ch _ (by omega) Ig.out Ih.out).mono ?_
    rintro e w5 ⟨rfl, hb⟩
    clear cvx_0 cvx_1 cvx_2 cvx_3 co_0 co_1 co_2 co_3 ck_0 ck_1 ck_2 ck_3
    have Qx := Lib.hid (show SrcAt w5 ax cx xs from Qx.out.lies Ix.out hb)
    have Qg := Lib.hid (show SrcAt w5 ag cg G from Qg.out.lies Ig.out hb)
    have Ic := Lib.hid (show IntsAt w5 ac c from Ic.out.below hb)
    have Ix := Lib.hid (show IntsAt w5 ax xs from Ix.out.below hb)
    have Ig := Lib.hid (show IntsAt w5 ag G from Ig.out.below hb)
    have Ih := Lib.hid (show IntsAt w5 ah G from Ih.out.below hb)
    have Svx := Lib.hid (show Str w5 (w1.heap.size) 27 #[.int .i64 xr, .int .i64 xa, .int .i64 xd, .slice ax xs.length cx] from (hb.block _ Svx.out.lt).trans Svx.out)
    have So := Lib.hid (show Str w5 (w2.heap.size) 27 #[.int .i64 vr, .int .i64 va, .int .i64 vd, .slice ag G.length cg] from (hb.block _ So.out.lt).trans So.out)
    have Sk := Lib.hid (show Str w5 (w3.heap.size) 27 #[.int .i64 vr, .int .i64 va, .int .i64 vd, .slice ah G.length ch] from (hb.block _ Sk.out.lt).trans Sk.out)
    have hsw5 := hb.size
    have Hb := Lib.hid (below_step Hb.out Hb.out.size hb)
    clear hb
    have cvx_0 := Svx.out.cell 0 (v := .int .i64 xr) rfl
    have cvx_1 := Svx.out.cell 1 (v := .int .i64 xa) rfl
    have cvx_2 := Svx.out.cell 2 (v := .int .i64 xd) rfl
    have cvx_3 := Svx.out.cell 3 (v := .slice ax xs.length cx) rfl
    have co_0 := So.out.cell 0 (v := .int .i64 vr) rfl
    have co_1 := So.out.cell 1 (v := .int .i64 va) rfl
    have co_2 := So.out.cell 2 (v := .int .i64 vd) rfl
    have co_3 := So.out.cell 3 (v := .slice ag G.length cg) rfl
    have ck_0 := Sk.out.cell 0 (v := .int .i64 vr) rfl
    have ck_1 := Sk.out.cell 1 (v := .int .i64 va) rfl
    have ck_2 := Sk.out.cell 2 (v := .int .i64 vd) rfl
    have ck_3 := Sk.out.cell 3 (v := .slice ah G.length ch) rfl
    go_wp2
    go_ret
    exact ⟨by first | rfl | exact ret_bool (by simp), Hb.out⟩
  have hG1 : ((G.length : Int) == 0) = false := by rw [beq_eq_false_iff_ne]; omega
  have hta : taB c ⟨xr, xa, xd⟩ xs n = true := by
    cases h : taB c ⟨xr, xa, xd⟩ xs n with
    | true => rfl
    | false => exact absurd (by rw [HG.out]; exact p62_no.2 h) hG0
  obtain ⟨q1, q2, q3, q4, q5, q6, q7⟩ := p62 hta
  rw [← HG.out] at q1
  rw [← q1] at q4 q5 q6 q7
  rw [← HV.out] at q2
  rw [← HK.out] at q3
  clear hta hG0 HG HV HK q1
  obtain ⟨e1, e2, e3⟩ := Vt.mk.inj q2
  subst e1 e2 e3
  clear q2
  have HJ := Lib.hid (fun W (h1 : IntsAt W ac c) (h2 : IntsAt W ag G) (h3 : SrcAt W ag cg G) => impl_TallyAdd ac cc c vr va vd ag cg G n W (by omega) (by omega) hcg h1 h2 h3)
  rw [q5, q6, q7] at HJ
  dsimp only at HJ
  have H1 := Lib.hid (fun W (h : IntsAt W ag G) => laws_hasInt ag cg G n W (by omega) h)
  rw [q4] at H1
  have H2 := Lib.hid (fun W (h : IntsAt W ax xs) => laws_hasInt ax cx xs n W (by omega) h)
  clear q4 q5 q6 q7 hkk hke
  have he := fun W => eql_vote ⟨vr, va, vd⟩ W
  dsimp only at he
  have He := Lib.hid he; clear he
  cases hB : hasB xs n with
  | false =>
    rw [hB] at H2 q3
    have hKv : K = true := q3
    subst hKv
    clear q3 hB
    have cvx_0 := Svx.out.cell 0 (v := .int .i64 vr) rfl
    have cvx_1 := Svx.out.cell 1 (v := .int .i64 va) rfl
    have cvx_2 := Svx.out.cell 2 (v := .int .i64 vd) rfl
    have cvx_3 := Svx.out.cell 3 (v := .slice ax xs.length cx) rfl
    have co_0 := So.out.cell 0 (v := .int .i64 vr) rfl
    have co_1 := So.out.cell 1 (v := .int .i64 va) rfl
    have co_2 := So.out.cell 2 (v := .int .i64 vd) rfl
    have co_3 := So.out.cell 3 (v := .slice ag G.length cg) rfl
    have ck_0 := Sk.out.cell 0 (v := .int .i64 vr) rfl
    have ck_1 := Sk.out.cell 1 (v := .int .i64 va) rfl
    have ck_2 := Sk.out.cell 2 (v := .int .i64 vd) rfl
    have ck_3 := Sk.out.cell 3 (v := .slice ah G.length ch) rfl
    go_wp2_with fail
    refine (HJ.out _ Ic.out Ig.out Qg.out).mono ?_
    rintro e w5 ⟨vv, rfl, hog, hb⟩
    obtain ⟨aj, cj, rfl, _, _⟩ := hog.ints
    have Og := Lib.hid hog
    clear hog
    clear cvx_0 cvx_1 cvx_2 cvx_3 co_0 co_1 co_2 co_3 ck_0 ck_1 ck_2 ck_3
    have Qx := Lib.hid (show SrcAt w5 ax cx xs from Qx.out.lies Ix.out hb)
    have Qg := Lib.hid (show SrcAt w5 ag cg G from Qg.out.lies Ig.out hb)
    have Ic := Lib.hid (show IntsAt w5 ac c from Ic.out.below hb)
    have Ix := Lib.hid (show IntsAt w5 ax xs from Ix.out.below hb)
    have Ig := Lib.hid (show IntsAt w5 ag G from Ig.out.below hb)
    have Ih := Lib.hid (show IntsAt w5 ah G from Ih.out.below hb)
    have Svx := Lib.hid (show Str w5 (w1.heap.size) 27 #[.int .i64 vr, .int .i64 va, .int .i64 vd, .slice ax xs.length cx] from (hb.block _ Svx.out.lt).trans Svx.out)
    have So := Lib.hid (show Str w5 (w2.heap.size) 27 #[.int .i64 vr, .int .i64 va, .int .i64 vd, .slice ag G.length cg] from (hb.block _ So.out.lt).trans So.out)
    have Sk := Lib.hid (show Str w5 (w3.heap.size) 27 #[.int .i64 vr, .int .i64 va, .int .i64 vd, .slice ah G.length ch] from (hb.block _ Sk.out.lt).trans Sk.out)
    have hsw5 := hb.size
    have Hb := Lib.hid (below_step Hb.out Hb.out.size hb)
    have Ij := Lib.hid (show IntsAt w5 aj G from Og.out.at)
    clear hb Og
    have Qx := Lib.hid (show SrcAt (w5.alloc (.cells #[.int .i64 vr, .int .i64 va, .int .i64 vd, .slice aj G.length cj] 27)) ax cx xs from Qx.out.lies Ix.out (show Below w5.heap.size w5 (w5.alloc (.cells #[.int .i64 vr, .int .i64 va, .int .i64 vd, .slice aj G.length cj] 27)) from (Below.refl _ _).alloc (Nat.le_refl _) _))
    have Qg := Lib.hid (show SrcAt (w5.alloc (.cells #[.int .i64 vr, .int .i64 va, .int .i64 vd, .slice aj G.length cj] 27)) ag cg G from Qg.out.lies Ig.out (show Below w5.heap.size w5 (w5.alloc (.cells #[.int .i64 vr, .int .i64 va, .int .i64 vd, .slice aj G.length cj] 27)) from (Below.refl _ _).alloc (Nat.le_refl _) _))
    have hal : Below w5.heap.size w5 (w5.alloc (.cells #[.int .i64 vr, .int .i64 va, .int .i64 vd, .slice aj G.length cj] 27)) := (Below.refl _ _).alloc (Nat.le_refl _) _
    have Ic := Lib.hid (show IntsAt (w5.alloc (.cells #[.int .i64 vr, .int .i64 va, .int .i64 vd, .slice aj G.length cj] 27)) ac c from Ic.out.below hal)
    have Ix := Lib.hid (show IntsAt (w5.alloc (.cells #[.int .i64 vr, .int .i64 va, .int .i64 vd, .slice aj G.length cj] 27)) ax xs from Ix.out.below hal)
    have Ig := Lib.hid (show IntsAt (w5.alloc (.cells #[.int .i64 vr, .int .i64 va, .int .i64 vd, .slice aj G.length cj] 27)) ag G from Ig.out.below hal)
    have Ih := Lib.hid (show IntsAt (w5.alloc (.cells #[.int .i64 vr, .int .i64 va, .int .i64 vd, .slice aj G.length cj] 27)) ah G from Ih.out.below hal)
    have Ij := Lib.hid (show IntsAt (w5.alloc (.cells #[.int .i64 vr, .int .i64 va, .int .i64 vd, .slice aj G.length cj] 27)) aj G from Ij.out.below hal)
    have Svx := Lib.hid (show Str (w5.alloc (.cells #[.int .i64 vr, .int .i64 va, .int .i64 vd, .slice aj G.length cj] 27)) (w1.heap.size) 27 #[.int .i64 vr, .int .i64 va, .int .i64 vd, .slice ax xs.length cx] from Svx.out.alloc _)
    have So := Lib.hid (show Str (w5.alloc (.cells #[.int .i64 vr, .int .i64 va, .int .i64 vd, .slice aj G.length cj] 27)) (w2.heap.size) 27 #[.int .i64 vr, .int .i64 va, .int .i64 vd, .slice ag G.length cg] from So.out.alloc _)
    have Sk := Lib.hid (show Str (w5.alloc (.cells #[.int .i64 vr, .int .i64 va, .int .i64 vd, .slice aj G.length cj] 27)) (w3.heap.size) 27 #[.int .i64 vr, .int .i64 va, .int .i64 vd, .slice ah G.length ch] from Sk.out.alloc _)
    have Sy := Lib.hid (Str.new w5 27 #[.int .i64 vr, .int .i64 va, .int .i64 vd, .slice aj G.length cj])
    have hzy : (w5.alloc (.cells #[.int .i64 vr, .int .i64 va, .int .i64 vd, .slice aj G.length cj] 27)).heap.size = w5.heap.size + 1 := by simp
    have Hb := Lib.hid (below_step Hb.out Hb.out.size hal)
    clear hal
    have cvx_0 := Svx.out.cell 0 (v := .int .i64 vr) rfl
    have cvx_1 := Svx.out.cell 1 (v := .int .i64 va) rfl
    have cvx_2 := Svx.out.cell 2 (v := .int .i64 vd) rfl
    have cvx_3 := Svx.out.cell 3 (v := .slice ax xs.length cx) rfl
    have co_0 := So.out.cell 0 (v := .int .i64 vr) rfl
    have co_1 := So.out.cell 1 (v := .int .i64 va) rfl
    have co_2 := So.out.cell 2 (v := .int .i64 vd) rfl
    have co_3 := So.out.cell 3 (v := .slice ag G.length cg) rfl
    have ck_0 := Sk.out.cell 0 (v := .int .i64 vr) rfl
    have ck_1 := Sk.out.cell 1 (v := .int .i64 va) rfl
    have ck_2 := Sk.out.cell 2 (v := .int .i64 vd) rfl
    have ck_3 := Sk.out.cell 3 (v := .slice ah G.length ch) rfl
    have cy_0 := Sy.out.cell 0 (v := .int .i64 vr) rfl
    have cy_1 := Sy.out.cell 1 (v := .int .i64 va) rfl
    have cy_2 := Sy.out.cell 2 (v := .int .i64 vd) rfl
    have cy_3 := Sy.out.cell 3 (v := .slice aj G.length cj) rfl
    go_wp2_with fail
    generalize (w5.alloc (.cells #[.int .i64 vr, .int .i64 va, .int .i64 vd, .slice aj G.length cj] 27)) = W5 at *
    refine (H1.out _ Ig.out).mono ?_
    rintro e wu ⟨rfl, rfl⟩
    go_wp2_with fail
    refine (H2.out _ Ix.out).mono ?_
    rintro e wu ⟨rfl, rfl⟩
    clear cvx_0 cvx_1 cvx_2 cvx_3 co_0 co_1 co_2 co_3 ck_0 ck_1 ck_2 ck_3 cy_0 cy_1 cy_2 cy_3
    have cvx_0 := Svx.out.cell 0 (v := .int .i64 vr) rfl
    have cvx_1 := Svx.out.cell 1 (v := .int .i64 va) rfl
    have cvx_2 := Svx.out.cell 2 (v := .int .i64 vd) rfl
    have cvx_3 := Svx.out.cell 3 (v := .slice ax xs.length cx) rfl
    have co_0 := So.out.cell 0 (v := .int .i64 vr) rfl
    have co_1 := So.out.cell 1 (v := .int .i64 va) rfl
    have co_2 := So.out.cell 2 (v := .int .i64 vd) rfl
    have co_3 := So.out.cell 3 (v := .slice ag G.length cg) rfl
    have ck_0 := Sk.out.cell 0 (v := .int .i64 vr) rfl
    have ck_1 := Sk.out.cell 1 (v := .int .i64 va) rfl
    have ck_2 := Sk.out.cell 2 (v := .int .i64 vd) rfl
    have ck_3 := Sk.out.cell 3 (v := .slice ah G.length ch) rfl
    have cy_0 := Sy.out.cell 0 (v := .int .i64 vr) rfl
    have cy_1 := Sy.out.cell 1 (v := .int .i64 va) rfl
    have cy_2 := Sy.out.cell 2 (v := .int .i64 vd) rfl
    have cy_3 := Sy.out.cell 3 (v := .slice aj G.length cj) rfl
    go_wp2_with fail
    refine (laws_sameTally vr va vd G aj ag cj cg _ (by omega) Ij.out Ig.out).mono ?_
    rintro e w6 ⟨rfl, hb⟩
    clear cvx_0 cvx_1 cvx_2 cvx_3 co_0 co_1 co_2 co_3 ck_0 ck_1 ck_2 ck_3 cy_0 cy_1 cy_2 cy_3
    have Qx := Lib.hid (show SrcAt w6 ax cx xs from Qx.out.lies Ix.out hb)
    have Qg := Lib.hid (show SrcAt w6 ag cg G from Qg.out.lies Ig.out hb)
    have Ic := Lib.hid (show IntsAt w6 ac c from Ic.out.below hb)
    have Ix := Lib.hid (show IntsAt w6 ax xs from Ix.out.below hb)
    have Ig := Lib.hid (show IntsAt w6 ag G from Ig.out.below hb)
    have Ih := Lib.hid (show IntsAt w6 ah G from Ih.out.below hb)
    have Ij := Lib.hid (show IntsAt w6 aj G from Ij.out.below hb)
    have Svx := Lib.hid (show Str w6 (w1.heap.size) 27 #[.int .i64 vr, .int .i64 va, .int .i64 vd, .slice ax xs.length cx] from (hb.block _ Svx.out.lt).trans Svx.out)
    have So := Lib.hid (show Str w6 (w2.heap.size) 27 #[.int .i64 vr, .int .i64 va, .int .i64 vd, .slice ag G.length cg] from (hb.block _ So.out.lt).trans So.out)
    have Sk := Lib.hid (show Str w6 (w3.heap.size) 27 #[.int .i64 vr, .int .i64 va, .int .i64 vd, .slice ah G.length ch] from (hb.block _ Sk.out.lt).trans Sk.out)
    have Sy := Lib.hid (show Str w6 (w5.heap.size) 27 #[.int .i64 vr, .int .i64 va, .int .i64 vd, .slice aj G.length cj] from (hb.block _ Sy.out.lt).trans Sy.out)
    have hsw6 := hb.size
    have Hb := Lib.hid (below_step Hb.out Hb.out.size hb)
    clear hb
    have he := He.out
    have cvx_0 := Svx.out.cell 0 (v := .int .i64 vr) rfl
    have cvx_1 := Svx.out.cell 1 (v := .int .i64 va) rfl
    have cvx_2 := Svx.out.cell 2 (v := .int .i64 vd) rfl
    have cvx_3 := Svx.out.cell 3 (v := .slice ax xs.length cx) rfl
    have co_0 := So.out.cell 0 (v := .int .i64 vr) rfl
    have co_1 := So.out.cell 1 (v := .int .i64 va) rfl
    have co_2 := So.out.cell 2 (v := .int .i64 vd) rfl
    have co_3 := So.out.cell 3 (v := .slice ag G.length cg) rfl
    have ck_0 := Sk.out.cell 0 (v := .int .i64 vr) rfl
    have ck_1 := Sk.out.cell 1 (v := .int .i64 va) rfl
    have ck_2 := Sk.out.cell 2 (v := .int .i64 vd) rfl
    have ck_3 := Sk.out.cell 3 (v := .slice ah G.length ch) rfl
    have cy_0 := Sy.out.cell 0 (v := .int .i64 vr) rfl
    have cy_1 := Sy.out.cell 1 (v := .int .i64 va) rfl
    have cy_2 := Sy.out.cell 2 (v := .int .i64 vd) rfl
    have cy_3 := Sy.out.cell 3 (v := .slice aj G.length cj) rfl
    go_wp2
    go_ret
    exact ⟨by first | rfl | exact ret_bool (by simp), Hb.out⟩
  | true =>
    rw [hB] at H2 q3
    have hKv : K = false := q3
    subst hKv
    clear q3 hB
    have cvx_0 := Svx.out.cell 0 (v := .int .i64 vr) rfl
    have cvx_1 := Svx.out.cell 1 (v := .int .i64 va) rfl
    have cvx_2 := Svx.out.cell 2 (v := .int .i64 vd) rfl
    have cvx_3 := Svx.out.cell 3 (v := .slice ax xs.length cx) rfl
    have co_0 := So.out.cell 0 (v := .int .i64 vr) rfl
    have co_1 := So.out.cell 1 (v := .int .i64 va) rfl
    have co_2 := So.out.cell 2 (v := .int .i64 vd) rfl
    have co_3 := So.out.cell 3 (v := .slice ag G.length cg) rfl
    have ck_0 := Sk.out.cell 0 (v := .int .i64 vr) rfl
    have ck_1 := Sk.out.cell 1 (v := .int .i64 va) rfl
    have ck_2 := Sk.out.cell 2 (v := .int .i64 vd) rfl
    have ck_3 := Sk.out.cell 3 (v := .slice ah G.length ch) rfl
    go_wp2_with fail
    refine (HJ.out _ Ic.out Ig.out Qg.out).mono ?_
    rintro e w5 ⟨vv, rfl, hog, hb⟩
    obtain ⟨aj, cj, rfl, _, _⟩ := hog.ints
    have Og := Lib.hid hog
    clear hog
    clear cvx_0 cvx_1 cvx_2 cvx_3 co_0 co_1 co_2 co_3 ck_0 ck_1 ck_2 ck_3
    have Qx := Lib.hid (show SrcAt w5 ax cx xs from Qx.out.lies Ix.out hb)
    have Qg := Lib.hid (show SrcAt w5 ag cg G from Qg.out.lies Ig.out hb)
    have Ic := Lib.hid (show IntsAt w5 ac c from Ic.out.below hb)
    have Ix := Lib.hid (show IntsAt w5 ax xs from Ix.out.below hb)
    have Ig := Lib.hid (show IntsAt w5 ag G from Ig.out.below hb)
    have Ih := Lib.hid (show IntsAt w5 ah G from Ih.out.below hb)
    have Svx := Lib.hid (show Str w5 (w1.heap.size) 27 #[.int .i64 vr, .int .i64 va, .int .i64 vd, .slice ax xs.length cx] from (hb.block _ Svx.out.lt).trans Svx.out)
    have So := Lib.hid (show Str w5 (w2.heap.size) 27 #[.int .i64 vr, .int .i64 va, .int .i64 vd, .slice ag G.length cg] from (hb.block _ So.out.lt).trans So.out)
    have Sk := Lib.hid (show Str w5 (w3.heap.size) 27 #[.int .i64 vr, .int .i64 va, .int .i64 vd, .slice ah G.length ch] from (hb.block _ Sk.out.lt).trans Sk.out)
    have hsw5 := hb.size
    have Hb := Lib.hid (below_step Hb.out Hb.out.size hb)
    have Ij := Lib.hid (show IntsAt w5 aj G from Og.out.at)
    clear hb Og
    have Qx := Lib.hid (show SrcAt (w5.alloc (.cells #[.int .i64 vr, .int .i64 va, .int .i64 vd, .slice aj G.length cj] 27)) ax cx xs from Qx.out.lies Ix.out (show Below w5.heap.size w5 (w5.alloc (.cells #[.int .i64 vr, .int .i64 va, .int .i64 vd, .slice aj G.length cj] 27)) from (Below.refl _ _).alloc (Nat.le_refl _) _))
    have Qg := Lib.hid (show SrcAt (w5.alloc (.cells #[.int .i64 vr, .int .i64 va, .int .i64 vd, .slice aj G.length cj] 27)) ag cg G from Qg.out.lies Ig.out (show Below w5.heap.size w5 (w5.alloc (.cells #[.int .i64 vr, .int .i64 va, .int .i64 vd, .slice aj G.length cj] 27)) from (Below.refl _ _).alloc (Nat.le_refl _) _))
    have hal : Below w5.heap.size w5 (w5.alloc (.cells #[.int .i64 vr, .int .i64 va, .int .i64 vd, .slice aj G.length cj] 27)) := (Below.refl _ _).alloc (Nat.le_refl _) _
    have Ic := Lib.hid (show IntsAt (w5.alloc (.cells #[.int .i64 vr, .int .i64 va, .int .i64 vd, .slice aj G.length cj] 27)) ac c from Ic.out.below hal)
    have Ix := Lib.hid (show IntsAt (w5.alloc (.cells #[.int .i64 vr, .int .i64 va, .int .i64 vd, .slice aj G.length cj] 27)) ax xs from Ix.out.below hal)
    have Ig := Lib.hid (show IntsAt (w5.alloc (.cells #[.int .i64 vr, .int .i64 va, .int .i64 vd, .slice aj G.length cj] 27)) ag G from Ig.out.below hal)
    have Ih := Lib.hid (show IntsAt (w5.alloc (.cells #[.int .i64 vr, .int .i64 va, .int .i64 vd, .slice aj G.length cj] 27)) ah G from Ih.out.below hal)
    have Ij := Lib.hid (show IntsAt (w5.alloc (.cells #[.int .i64 vr, .int .i64 va, .int .i64 vd, .slice aj G.length cj] 27)) aj G from Ij.out.below hal)
    have Svx := Lib.hid (show Str (w5.alloc (.cells #[.int .i64 vr, .int .i64 va, .int .i64 vd, .slice aj G.length cj] 27)) (w1.heap.size) 27 #[.int .i64 vr, .int .i64 va, .int .i64 vd, .slice ax xs.length cx] from Svx.out.alloc _)
    have So := Lib.hid (show Str (w5.alloc (.cells #[.int .i64 vr, .int .i64 va, .int .i64 vd, .slice aj G.length cj] 27)) (w2.heap.size) 27 #[.int .i64 vr, .int .i64 va, .int .i64 vd, .slice ag G.length cg] from So.out.alloc _)
    have Sk := Lib.hid (show Str (w5.alloc (.cells #[.int .i64 vr, .int .i64 va, .int .i64 vd, .slice aj G.length cj] 27)) (w3.heap.size) 27 #[.int .i64 vr, .int .i64 va, .int .i64 vd, .slice ah G.length ch] from Sk.out.alloc _)
    have Sy := Lib.hid (Str.new w5 27 #[.int .i64 vr, .int .i64 va, .int .i64 vd, .slice aj G.length cj])
    have hzy : (w5.alloc (.cells #[.int .i64 vr, .int .i64 va, .int .i64 vd, .slice aj G.length cj] 27)).heap.size = w5.heap.size + 1 := by simp
    have Hb := Lib.hid (below_step Hb.out Hb.out.size hal)
    clear hal
    have cvx_0 := Svx.out.cell 0 (v := .int .i64 vr) rfl
    have cvx_1 := Svx.out.cell 1 (v := .int .i64 va) rfl
    have cvx_2 := Svx.out.cell 2 (v := .int .i64 vd) rfl
    have cvx_3 := Svx.out.cell 3 (v := .slice ax xs.length cx) rfl
    have co_0 := So.out.cell 0 (v := .int .i64 vr) rfl
    have co_1 := So.out.cell 1 (v := .int .i64 va) rfl
    have co_2 := So.out.cell 2 (v := .int .i64 vd) rfl
    have co_3 := So.out.cell 3 (v := .slice ag G.length cg) rfl
    have ck_0 := Sk.out.cell 0 (v := .int .i64 vr) rfl
    have ck_1 := Sk.out.cell 1 (v := .int .i64 va) rfl
    have ck_2 := Sk.out.cell 2 (v := .int .i64 vd) rfl
    have ck_3 := Sk.out.cell 3 (v := .slice ah G.length ch) rfl
    have cy_0 := Sy.out.cell 0 (v := .int .i64 vr) rfl
    have cy_1 := Sy.out.cell 1 (v := .int .i64 va) rfl
    have cy_2 := Sy.out.cell 2 (v := .int .i64 vd) rfl
    have cy_3 := Sy.out.cell 3 (v := .slice aj G.length cj) rfl
    go_wp2_with fail
    generalize (w5.alloc (.cells #[.int .i64 vr, .int .i64 va, .int .i64 vd, .slice aj G.length cj] 27)) = W5 at *
    refine (H1.out _ Ig.out).mono ?_
    rintro e wu ⟨rfl, rfl⟩
    go_wp2_with fail
    refine (H2.out _ Ix.out).mono ?_
    rintro e wu ⟨rfl, rfl⟩
    clear cvx_0 cvx_1 cvx_2 cvx_3 co_0 co_1 co_2 co_3 ck_0 ck_1 ck_2 ck_3 cy_0 cy_1 cy_2 cy_3
    have cvx_0 := Svx.out.cell 0 (v := .int .i64 vr) rfl
    have cvx_1 := Svx.out.cell 1 (v := .int .i64 va) rfl
    have cvx_2 := Svx.out.cell 2 (v := .int .i64 vd) rfl
    have cvx_3 := Svx.out.cell 3 (v := .slice ax xs.length cx) rfl
    have co_0 := So.out.cell 0 (v := .int .i64 vr) rfl
    have co_1 := So.out.cell 1 (v := .int .i64 va) rfl
    have co_2 := So.out.cell 2 (v := .int .i64 vd) rfl
    have co_3 := So.out.cell 3 (v := .slice ag G.length cg) rfl
    have ck_0 := Sk.out.cell 0 (v := .int .i64 vr) rfl
    have ck_1 := Sk.out.cell 1 (v := .int .i64 va) rfl
    have ck_2 := Sk.out.cell 2 (v := .int .i64 vd) rfl
    have ck_3 := Sk.out.cell 3 (v := .slice ah G.length ch) rfl
    have cy_0 := Sy.out.cell 0 (v := .int .i64 vr) rfl
    have cy_1 := Sy.out.cell 1 (v := .int .i64 va) rfl
    have cy_2 := Sy.out.cell 2 (v := .int .i64 vd) rfl
    have cy_3 := Sy.out.cell 3 (v := .slice aj G.length cj) rfl
    go_wp2_with fail
    refine (laws_sameTally vr va vd G aj ag cj cg _ (by omega) Ij.out Ig.out).mono ?_
    rintro e w6 ⟨rfl, hb⟩
    clear cvx_0 cvx_1 cvx_2 cvx_3 co_0 co_1 co_2 co_3 ck_0 ck_1 ck_2 ck_3 cy_0 cy_1 cy_2 cy_3
    have Qx := Lib.hid (show SrcAt w6 ax cx xs from Qx.out.lies Ix.out hb)
    have Qg := Lib.hid (show SrcAt w6 ag cg G from Qg.out.lies Ig.out hb)
    have Ic := Lib.hid (show IntsAt w6 ac c from Ic.out.below hb)
    have Ix := Lib.hid (show IntsAt w6 ax xs from Ix.out.below hb)
    have Ig := Lib.hid (show IntsAt w6 ag G from Ig.out.below hb)
    have Ih := Lib.hid (show IntsAt w6 ah G from Ih.out.below hb)
    have Ij := Lib.hid (show IntsAt w6 aj G from Ij.out.below hb)
    have Svx := Lib.hid (show Str w6 (w1.heap.size) 27 #[.int .i64 vr, .int .i64 va, .int .i64 vd, .slice ax xs.length cx] from (hb.block _ Svx.out.lt).trans Svx.out)
    have So := Lib.hid (show Str w6 (w2.heap.size) 27 #[.int .i64 vr, .int .i64 va, .int .i64 vd, .slice ag G.length cg] from (hb.block _ So.out.lt).trans So.out)
    have Sk := Lib.hid (show Str w6 (w3.heap.size) 27 #[.int .i64 vr, .int .i64 va, .int .i64 vd, .slice ah G.length ch] from (hb.block _ Sk.out.lt).trans Sk.out)
    have Sy := Lib.hid (show Str w6 (w5.heap.size) 27 #[.int .i64 vr, .int .i64 va, .int .i64 vd, .slice aj G.length cj] from (hb.block _ Sy.out.lt).trans Sy.out)
    have hsw6 := hb.size
    have Hb := Lib.hid (below_step Hb.out Hb.out.size hb)
    clear hb
    have he := He.out
    have cvx_0 := Svx.out.cell 0 (v := .int .i64 vr) rfl
    have cvx_1 := Svx.out.cell 1 (v := .int .i64 va) rfl
    have cvx_2 := Svx.out.cell 2 (v := .int .i64 vd) rfl
    have cvx_3 := Svx.out.cell 3 (v := .slice ax xs.length cx) rfl
    have co_0 := So.out.cell 0 (v := .int .i64 vr) rfl
    have co_1 := So.out.cell 1 (v := .int .i64 va) rfl
    have co_2 := So.out.cell 2 (v := .int .i64 vd) rfl
    have co_3 := So.out.cell 3 (v := .slice ag G.length cg) rfl
    have ck_0 := Sk.out.cell 0 (v := .int .i64 vr) rfl
    have ck_1 := Sk.out.cell 1 (v := .int .i64 va) rfl
    have ck_2 := Sk.out.cell 2 (v := .int .i64 vd) rfl
    have ck_3 := Sk.out.cell 3 (v := .slice ah G.length ch) rfl
    have cy_0 := Sy.out.cell 0 (v := .int .i64 vr) rfl
    have cy_1 := Sy.out.cell 1 (v := .int .i64 va) rfl
    have cy_2 := Sy.out.cell 2 (v := .int .i64 vd) rfl
    have cy_3 := Sy.out.cell 3 (v := .slice aj G.length cj) rfl
    go_wp2
    go_ret
    exact ⟨by first | rfl | exact ret_bool (by simp), Hb.out⟩

theorem fnTallyAdd_own : ownKnob Try.prog.godebug = none := by kernel_rfl
theorem fnTallyAdd_laidOut : laidOutB Try.prog = true := by kernel_rfl

set_option maxRecDepth 8000 in
theorem fnTallyAdd_lifted (os : Os) (started : os.Started) (H : Type) (enc : TypeId × Value → H) :
    ReturnsInHanded {} Try.checked os 3 .any (Rows.fnTallyAddSpec.pre6 enc Try.prog Try.f3 Rows.fnTallyAddRow.domain false) (Rows.fnTallyAddSpec.post enc Try.prog Try.f3 false true false false) := by
  refine law_lifted (C := Try.checked) (tb := 4) fnTallyAdd_own fnTallyAdd_laidOut started (by kernel_rfl) Try.func3 rfl Try.underlying4 rfl (by rw [Try.params3]; exact of_decide_eq_true (by kernel_rfl)) ?_
    (ChangeSpec.witness6 (enc := enc) (C := Try.checked) false ⟨#[], #[.slice none 0 0], []⟩ 8 (by kernel_rfl) (by kernel_rfl) (by kernel_rfl) (by kernel_rfl)) ?_
  · intro ds hds
    rw [Try.params3] at hds
    match ds, hds with
    | [d0], _ => rfl
  · intro W base args ds p hval0 hA0
    have hval : ∀ (j : Nat) t v, Try.f3.params[j]? = some t → args[j]? = some v → Value.okWide Try.prog W .any base t v := hval0
    have hA : DataW.TrodAll enc Try.prog W 0 (fun _ => true) true Try.f3.params.toList args.toList ds p := hA0
    rw [Try.params3] at hA hval
    obtain ⟨v0, vs0, d0, ds0, p0, q0, hargs0, rfl, rfl, h0, r0⟩ := trodAll_cons hA
    obtain ⟨hnil, rfl, rfl⟩ := trodAll_nil r0
    subst hnil
    obtain rfl : args = #[v0] := by cases args; simp_all
    obtain ⟨a0, cap0, zs0, rfl, hk0, hm0, hi0, hw0⟩ := open_slice_ints Try.underlying22 Try.underlying5 (by kernel_rfl) (hval 0 22 v0 rfl rfl) h0
    exact fnTallyAdd_walk a0 cap0 zs0 W hk0 hm0 hi0 hw0

set_option maxRecDepth 8000 in
theorem fnTallyAdd_holds : Rows.FnTallyAddSaid :=
  OpenClaim.holds_of_wide 3 Try.f3 rfl rfl rfl rfl rfl rfl rfl ⟨rfl, rfl, rfl, rfl, rfl⟩ rfl rfl rfl rfl rfl (by kernel_rfl) Try.func3 (by kernel_rfl)
    (of_decide_eq_true (by kernel_rfl)) (by unfold Func.isWrapper; first | (rw [if_pos (by decide +kernel)]; kernel_rfl) | (rw [if_neg (by decide +kernel)]; exact ⟨rfl, rfl⟩))
    (fun os started H enc _ => fnTallyAdd_lifted os started H enc)

end Go.Proofs.Ytgpbogalknmcmab
