/- Law FnTallyDone holds for every input; no conditions of our own. -/
import Derived.Test.YtgpbogalknmcmabRows
import Derived.Test.YtgpbogalknmcmabBu0
import Derived.Test.YtgpbogalknmcmabBu2
import Derived.Test.YtgpbogalknmcmabBu1
import Derived.Deep.QuietTactic
import Derived.BigQuiet
namespace Go.Proofs.Ytgpbogalknmcmab
open Go.ChangeShapes Go.WideShapes Go.ChangeAt Go.RowKit

set_option maxHeartbeats 4000000 in
theorem fnTallyDone_walk (a : Option Addr) (cap : Nat) (zs : List Int) (a' : Option Addr) (cap' : Nat) (ms : List Int) (w : World) (hk : zs.length ≤ cap) (_hm : zs.length ≤ maxLen) (hi : zs = [] ∨ ∃ b off, a = some ⟨b, off, none⟩ ∧ b < w.heap.size ∧ ∀ j (h : j < zs.length), w.cell? ⟨b, off + j, none⟩ = some (.int .u8 zs[j])) (hw : ∀ z ∈ zs, (Lit.int .u8 z).wf = true)
    (_hk' : ms.length ≤ cap') (hm' : ms.length ≤ maxLen) (_hi' : ms = [] ∨ ∃ b off, a' = some ⟨b, off, none⟩ ∧ b < w.heap.size ∧ ∀ j (h : j < ms.length), w.cell? ⟨b, off + j, none⟩ = some (.int .u8 ms[j])) (_hw' : ∀ z ∈ ms, (Lit.int .u8 z).wf = true) :
    Calls Try.prog 4 #[.slice a zs.length cap, .slice a' ms.length cap'] w fun e w' => e = .returned (.bool true) ∧ Below w.heap.size w w' := by
  unfold maxLen at hm'
  by_cases hl : 1048576 < zs.length
  · go_enter Try.func4, Try.ntmps4
    go_wp2
    go_ret
    exact ⟨rfl, Below.refl _ _⟩
  by_cases hl' : 1048576 < ms.length
  · go_enter Try.func4, Try.ntmps4
    go_wp2
    go_ret
    exact ⟨rfl, Below.refl _ _⟩
  have hcode := codeAt_of hk (by omega) hi hw
  have Hcode := Lib.hid hcode; clear hcode hi hw
  go_enter Try.func4, Try.ntmps4
  go_wp2_with fail
  refine (spec_DrawTallyDone a cap zs _ Hcode.out).mono ?_
  rintro e w1 ⟨ac, cc, c, ⟨xr, xa, xd⟩, ax, cx, xs, rfl, hvx, hoc, hcl, hox, hxl, hb1⟩
  dsimp only at *
  have Ic := Lib.hid (show IntsAt w1 ac c from hoc.at)
  have Ix := Lib.hid (show IntsAt w1 ax xs from hox.at)
  have Hsrc := Lib.hid (show SrcAt w1 ax cx xs from own_src hox)
  have hcx : xs.length ≤ cx := hox.cap
  have Hb := Lib.hid hb1
  clear hoc hox hb1 hvx
  have Hsrc := Lib.hid (Hsrc.out.lies Ix.out (show Below w1.heap.size w1 (w1.alloc (.cells #[.int .i64 xr, .int .i64 xa, .int .i64 xd, .slice ax xs.length cx] 27)) from (Below.refl _ _).alloc (Nat.le_refl _) _))
  have hal : Below w1.heap.size w1 (w1.alloc (.cells #[.int .i64 xr, .int .i64 xa, .int .i64 xd, .slice ax xs.length cx] 27)) := (Below.refl _ _).alloc (Nat.le_refl _) _
  have Ic := Lib.hid (show IntsAt (w1.alloc (.cells #[.int .i64 xr, .int .i64 xa, .int .i64 xd, .slice ax xs.length cx] 27)) ac c from Ic.out.below hal)
  have Ix := Lib.hid (show IntsAt (w1.alloc (.cells #[.int .i64 xr, .int .i64 xa, .int .i64 xd, .slice ax xs.length cx] 27)) ax xs from Ix.out.below hal)
  have Svx := Lib.hid (Str.new w1 27 #[.int .i64 xr, .int .i64 xa, .int .i64 xd, .slice ax xs.length cx])
  have hzvx : (w1.alloc (.cells #[.int .i64 xr, .int .i64 xa, .int .i64 xd, .slice ax xs.length cx] 27)).heap.size = w1.heap.size + 1 := by simp
  have Hb := Lib.hid (below_step Hb.out Hb.out.size hal)
  clear hal
  obtain ⟨D, hD⟩ : ∃ D, D = doneB c ⟨xr, xa, xd⟩ xs := ⟨_, rfl⟩
  have HI := Lib.hid (fun W (h1 : IntsAt W ac c) (h2 : IntsAt W ax xs) => impl_TallyDone ac cc c xr xa xd ax cx xs W (by omega) (by omega) h1 h2)
  have HS := Lib.hid (fun W (h1 : IntsAt W ac c) (h2 : IntsAt W ax xs) => spec_TallyDone ac cc c xr xa xd ax cx xs W (by omega) (by omega) h1 h2)
  rw [← hD] at HI HS
  have HD := Lib.hid hD; clear hD
  have cvx_0 := Svx.out.cell 0 (v := .int .i64 xr) rfl
  have cvx_1 := Svx.out.cell 1 (v := .int .i64 xa) rfl
  have cvx_2 := Svx.out.cell 2 (v := .int .i64 xd) rfl
  have cvx_3 := Svx.out.cell 3 (v := .slice ax xs.length cx) rfl
  go_wp2_with fail
  generalize (w1.alloc (.cells #[.int .i64 xr, .int .i64 xa, .int .i64 xd, .slice ax xs.length cx] 27)) = W1 at *
  refine (HI.out _ Ic.out Ix.out).mono ?_
  rintro e w2 ⟨rfl, hb⟩
  clear cvx_0 cvx_1 cvx_2 cvx_3
  have Hsrc := Lib.hid (Hsrc.out.lies Ix.out hb)
  have Ic := Lib.hid (show IntsAt w2 ac c from Ic.out.below hb)
  have Ix := Lib.hid (show IntsAt w2 ax xs from Ix.out.below hb)
  have Svx := Lib.hid (show Str w2 (w1.heap.size) 27 #[.int .i64 xr, .int .i64 xa, .int .i64 xd, .slice ax xs.length cx] from (hb.block _ Svx.out.lt).trans Svx.out)
  have hsw2 := hb.size
  have Hb := Lib.hid (below_step Hb.out Hb.out.size hb)
  clear hb
  have cvx_0 := Svx.out.cell 0 (v := .int .i64 xr) rfl
  have cvx_1 := Svx.out.cell 1 (v := .int .i64 xa) rfl
  have cvx_2 := Svx.out.cell 2 (v := .int .i64 xd) rfl
  have cvx_3 := Svx.out.cell 3 (v := .slice ax xs.length cx) rfl
  go_wp2_with fail
  refine (HS.out _ Ic.out Ix.out).mono ?_
  rintro e w3 ⟨rfl, hb⟩
  clear cvx_0 cvx_1 cvx_2 cvx_3
  have Hsrc := Lib.hid (Hsrc.out.lies Ix.out hb)
  have Ic := Lib.hid (show IntsAt w3 ac c from Ic.out.below hb)
  have Ix := Lib.hid (show IntsAt w3 ax xs from Ix.out.below hb)
  have Svx := Lib.hid (show Str w3 (w1.heap.size) 27 #[.int .i64 xr, .int .i64 xa, .int .i64 xd, .slice ax xs.length cx] from (hb.block _ Svx.out.lt).trans Svx.out)
  have hsw3 := hb.size
  have Hb := Lib.hid (below_step Hb.out Hb.out.size hb)
  clear hb
  have hdd : (D != D) = false := by simp
  have hde : (D == D) = true := by simp
  cases hDb : D with
  | false =>
    rw [hDb] at hdd hde
    have cvx_0 := Svx.out.cell 0 (v := .int .i64 xr) rfl
    have cvx_1 := Svx.out.cell 1 (v := .int .i64 xa) rfl
    have cvx_2 := Svx.out.cell 2 (v := .int .i64 xd) rfl
    have cvx_3 := Svx.out.cell 3 (v := .slice ax xs.length cx) rfl
    go_wp2
    go_ret
    exact ⟨by first | rfl | exact ret_bool (by simp), Hb.out⟩
  | true =>
  rw [hDb] at hdd hde
  have Hdn := Lib.hid (show doneB c ⟨xr, xa, xd⟩ xs = true by rw [← HD.out]; exact hDb)
  clear HI HS HD hDb
  obtain ⟨hc1, hc7⟩ := done_pos Hdn.out
  obtain ⟨n, hn⟩ : ∃ n, n = (ms.length : Int) % (c.length : Int) := ⟨_, rfl⟩
  have hn0 : 0 ≤ n := by rw [hn]; exact Int.emod_nonneg _ (by omega)
  have hn1 : n < (c.length : Int) := by rw [hn]; exact Int.emod_lt_of_pos _ (by omega)
  have hnt : (ms.length : Int).tmod (c.length : Int) = n := by rw [Int.tmod_eq_emod_of_nonneg (by omega)]; exact hn.symm
  have hnw : IntKind.i64.wrap n = n := IntWalk.i64_in _ (by omega)
  have hcz : ¬ (c.length : Int) = 0 := by omega
  have hcz' : ((c.length : Int) == 0) = false := by rw [beq_eq_false_iff_ne]; exact hcz
  have hcn : ¬ c = [] := by intro e; rw [e] at hc1; simp at hc1
  obtain ⟨q1, q2, q3⟩ := p63 (x := n) Hdn.out hn0 hn1
  have hgl := ta_len c ⟨xr, xa, xd⟩ xs n
  have HA := Lib.hid (fun W (h1 : IntsAt W ac c) (h2 : IntsAt W ax xs) (h3 : SrcAt W ax cx xs) => impl_TallyAdd ac cc c xr xa xd ax cx xs n W (by omega) (by omega) hcx h1 h2 h3)
  rw [q1] at HA
  generalize taL c ⟨xr, xa, xd⟩ xs n = G at *
  generalize taK c ⟨xr, xa, xd⟩ xs n = kt at *
  dsimp only at HA
  have HW := Lib.hid (fun W (h1 : IntsAt W ac c) (h2 : IntsAt W ax xs) => impl_MembersWeight ac cc c ax cx xs W (by omega) (by omega) h1 h2)
  have HQ := Lib.hid (fun W (h1 : IntsAt W ac c) => impl_CommitteeQuorum ac cc c W (by omega) h1)
  generalize mwZ c xs = M at *
  generalize orNo c (2 * totalZ c / 3 + 1) = Q at *
  have q3d : decide (Q ≤ M) = true := decide_eq_true q3
  have HE := Lib.hid (fun W ag cg (h1 : IntsAt W ac c) (h2 : IntsAt W ag G) => impl_TallyDone ac cc c xr xa xd ag cg G W (by omega) (by omega) h1 h2)
  rw [q2] at HE
  clear q1 q2 hn Hdn
  have Hn := Lib.hid (And.intro hcz hcn)
  clear hcn
  have cvx_0 := Svx.out.cell 0 (v := .int .i64 xr) rfl
  have cvx_1 := Svx.out.cell 1 (v := .int .i64 xa) rfl
  have cvx_2 := Svx.out.cell 2 (v := .int .i64 xd) rfl
  have cvx_3 := Svx.out.cell 3 (v := .slice ax xs.length cx) rfl
  go_wp2_with fail
  clear cvx_0 cvx_1 cvx_2 cvx_3
  refine wp_region_held_drew (S := fun W' => W'.cell? ⟨w1.heap.size, 0, none⟩ = some (.int .i64 xr) ∧ W'.cell? ⟨w1.heap.size, 1, none⟩ = some (.int .i64 xa) ∧ W'.cell? ⟨w1.heap.size, 2, none⟩ = some (.int .i64 xd) ∧ W'.cell? ⟨w1.heap.size, 3, none⟩ = some (.slice ax xs.length cx)) (by kernel_rfl) ⟨Svx.out.cell 0 (v := .int .i64 xr) rfl, Svx.out.cell 1 (v := .int .i64 xa) rfl, Svx.out.cell 2 (v := .int .i64 xd) rfl, Svx.out.cell 3 (v := .slice ax xs.length cx) rfl⟩ (fun hH => ?_)
  have hdr : Below w3.heap.size w3 w3.drew := (Below.refl _ _).drew
  have Hsrc := Lib.hid (Hsrc.out.lies Ix.out hdr)
  have Ic := Lib.hid (show IntsAt w3.drew ac c from Ic.out.below hdr)
  have Ix := Lib.hid (show IntsAt w3.drew ax xs from Ix.out.below hdr)
  have Svx := Lib.hid (show Str w3.drew (w1.heap.size) 27 #[.int .i64 xr, .int .i64 xa, .int .i64 xd, .slice ax xs.length cx] from (hdr.block _ Svx.out.lt).trans Svx.out)
  have hsw3.drew := hdr.size
  have Hb := Lib.hid (below_step Hb.out Hb.out.size hdr)
  clear hdr
  generalize w3.drew = wd at *
  refine takeH 0 (v := ?vtd1) rfl (by kernel_rfl) (by kernel_rfl) (by kernel_rfl) (fun _ _ _ h => h) hH rfl ?ytd1 ?rtd1
  case ytd1 => intro W hSw; go_simp; try with_reducible rfl
  try simp only [Act.put, List.setIfInBounds_toArray, List.set_cons_zero, List.set_cons_succ]
  refine takeH 1 (v := ?vtd2) rfl (by kernel_rfl) (by kernel_rfl) (by kernel_rfl) (fun _ _ _ h => h) hH rfl ?ytd2 ?rtd2
  case ytd2 => intro W hSw; go_simp; try with_reducible rfl
  try simp only [Act.put, List.setIfInBounds_toArray, List.set_cons_zero, List.set_cons_succ]
  refine takeH 2 (v := ?vtd3) rfl (by kernel_rfl) (by kernel_rfl) (by kernel_rfl) (fun _ _ _ h => h) hH rfl ?ytd3 ?rtd3
  case ytd3 => intro W hSw; go_simp; try with_reducible rfl
  try simp only [Act.put, List.setIfInBounds_toArray, List.set_cons_zero, List.set_cons_succ]
  refine takeH 3 (v := ?vtd4) rfl (by kernel_rfl) (by kernel_rfl) (by kernel_rfl) (fun _ _ _ h => h) hH rfl ?ytd4 ?rtd4
  case ytd4 => intro W hSw; go_simp; try with_reducible rfl
  try simp only [Act.put, List.setIfInBounds_toArray, List.set_cons_zero, List.set_cons_succ]
  refine takeH 4 (v := ?vtd5) rfl (by kernel_rfl) (by kernel_rfl) (by kernel_rfl) (fun _ _ _ h => h) hH rfl ?ytd5 ?rtd5
  case ytd5 => intro W hSw; go_simp; try with_reducible rfl
  try simp only [Act.put, List.setIfInBounds_toArray, List.set_cons_zero, List.set_cons_succ]
  refine takeH 5 (v := ?vtd6) rfl (by kernel_rfl) (by kernel_rfl) (by kernel_rfl) (fun _ _ _ h => h) hH rfl ?ytd6 ?rtd6
  case ytd6 => intro W hSw; go_simp; try with_reducible rfl
  try simp only [Act.put, List.setIfInBounds_toArray, List.set_cons_zero, List.set_cons_succ]
  refine takeH 6 (v := .int .i64 n) rfl (by kernel_rfl) (by kernel_rfl) (by kernel_rfl) (fun _ _ _ h => h) hH rfl ?ytd7 ?rtd7
  case ytd7 => intro W hSw; go_simp; exact Hn.out.2
  try simp only [Act.put, List.setIfInBounds_toArray, List.set_cons_zero, List.set_cons_succ]
  have HZ := Lib.hid (Below.refl wd.heap.size wd)
  refine twoH 7 11 rfl rfl (by kernel_rfl) rfl rfl (fun K hK => ?_) (fun K hK => ?_)
  · skip
    go_simp
    go_at_call 11
    refine (HA.out _ (Ic.out.below HZ.out) (Ix.out.below HZ.out) (Hsrc.out.lies Ix.out HZ.out)).mono ?_
    rintro e we ⟨vv, rfl, hog, hb⟩
    obtain ⟨ag, cg, rfl, _, _⟩ := hog.ints
    have Lg : ∀ k, ((.slice ag G.length cg : Value)).ownBlock = some k → wd.heap.size ≤ k ∧ k < we.heap.size := fun k e => hog.lt k e
    have Og := Lib.hid hog
    have hswe := hb.size
    have HZ := Lib.hid (below_step HZ.out HZ.out.size hb)
    clear hb hog
    refine hK.out _ _ ⟨(HZ.out.cell (p := ⟨w1.heap.size, 0, none⟩) Svx.out.lt).trans (Svx.out.cell 0 (v := .int .i64 xr) rfl), (HZ.out.cell (p := ⟨w1.heap.size, 1, none⟩) Svx.out.lt).trans (Svx.out.cell 1 (v := .int .i64 xa) rfl), (HZ.out.cell (p := ⟨w1.heap.size, 2, none⟩) Svx.out.lt).trans (Svx.out.cell 2 (v := .int .i64 xd) rfl), (HZ.out.cell (p := ⟨w1.heap.size, 3, none⟩) Svx.out.lt).trans (Svx.out.cell 3 (v := .slice ax xs.length cx) rfl)⟩ (fun hH => ?_)
    clear hK K
    try simp only [Act.put, List.setIfInBounds_toArray, List.set_cons_zero, List.set_cons_succ]
    refine takeH 8 (v := ?vtd8) rfl (by kernel_rfl) (by kernel_rfl) (by kernel_rfl) (fun _ _ _ h => h) hH rfl ?ytd8 ?rtd8
    case ytd8 => intro W hSw; go_simp; try with_reducible rfl
    try simp only [Act.put, List.setIfInBounds_toArray, List.set_cons_zero, List.set_cons_succ]
    refine takeH 9 (v := ?vtd9) rfl (by kernel_rfl) (by kernel_rfl) (by kernel_rfl) (fun _ _ _ h => h) hH rfl ?ytd9 ?rtd9
    case ytd9 => intro W hSw; go_simp; try with_reducible rfl
    try simp only [Act.put, List.setIfInBounds_toArray, List.set_cons_zero, List.set_cons_succ]
    refine takeH 10 (v := ?vtd10) rfl (by kernel_rfl) (by kernel_rfl) (by kernel_rfl) (fun _ _ _ h => h) hH rfl ?ytd10 ?rtd10
    case ytd10 => intro W hSw; go_simp; try with_reducible rfl
    try simp only [Act.put, List.setIfInBounds_toArray, List.set_cons_zero, List.set_cons_succ]
    refine callH 11 rfl (by kernel_rfl) rfl (fun K hK => ?_)
    go_simp
    have hal : Below we.heap.size we (we.alloc (.cells #[.int .i64 0, .int .i64 0, .int .i64 0, .slice none 0 0] 27)) := (Below.refl _ _).alloc (Nat.le_refl _) _
    have SY := Lib.hid (Str.new we 27 #[.int .i64 0, .int .i64 0, .int .i64 0, .slice none 0 0])
    have hYB : wd.heap.size ≤ we.heap.size := HZ.out.size
    have hYs : (we.alloc (.cells #[.int .i64 0, .int .i64 0, .int .i64 0, .slice none 0 0] 27)).heap.size = we.heap.size + 1 := by simp
    have Og := Lib.hid (Og.out.alloc (.cells #[.int .i64 0, .int .i64 0, .int .i64 0, .slice none 0 0] 27))
    have HZ := Lib.hid (below_step HZ.out HZ.out.size hal)
    clear hal
    generalize (we.alloc (.cells #[.int .i64 0, .int .i64 0, .int .i64 0, .slice none 0 0] 27)) = wf at *
    refine hK.out _ _ ⟨(HZ.out.cell (p := ⟨w1.heap.size, 0, none⟩) Svx.out.lt).trans (Svx.out.cell 0 (v := .int .i64 xr) rfl), (HZ.out.cell (p := ⟨w1.heap.size, 1, none⟩) Svx.out.lt).trans (Svx.out.cell 1 (v := .int .i64 xa) rfl), (HZ.out.cell (p := ⟨w1.heap.size, 2, none⟩) Svx.out.lt).trans (Svx.out.cell 2 (v := .int .i64 xd) rfl), (HZ.out.cell (p := ⟨w1.heap.size, 3, none⟩) Svx.out.lt).trans (Svx.out.cell 3 (v := .slice ax xs.length cx) rfl)⟩ (fun hH => ?_)
    clear hK K
    try simp only [Act.put, List.setIfInBounds_toArray, List.set_cons_zero, List.set_cons_succ]
    refine callH 12 rfl (by kernel_rfl) rfl (fun K hK => ?_)
    have u0 := SY.out.frozen 0
    have u1 := SY.out.frozen 1
    have u2 := SY.out.frozen 2
    have u3 := SY.out.frozen 3
    have v0 := SY.out.cell 0 (v := .int .i64 0) rfl
    have v1 := SY.out.cell 1 (v := .int .i64 0) rfl
    have v2 := SY.out.cell 2 (v := .int .i64 0) rfl
    have v3 := SY.out.cell 3 (v := .slice none 0 0) rfl
    go_simp
    clear u0 u1 u2 u3 v0 v1 v2 v3
    have hne : (.slice ag G.length cg : Value).ownBlock ≠ some (we.heap.size) := fun e => by have := Lg _ e; omega
    have hst : Below wd.heap.size wd ((((wf.setCell ⟨we.heap.size, 0, none⟩ (.int .i64 xr)).setCell ⟨we.heap.size, 1, none⟩ (.int .i64 xa)).setCell ⟨we.heap.size, 2, none⟩ (.int .i64 xd)).setCell ⟨we.heap.size, 3, none⟩ (.slice ag G.length cg)) := ((((HZ.out.setCell (p := ⟨we.heap.size, 0, none⟩) (by simp only; omega) (.int .i64 xr)).setCell (p := ⟨we.heap.size, 1, none⟩) (by simp only; omega) (.int .i64 xa)).setCell (p := ⟨we.heap.size, 2, none⟩) (by simp only; omega) (.int .i64 xd)).setCell (p := ⟨we.heap.size, 3, none⟩) (by simp only; omega) (.slice ag G.length cg))
    have SY := Lib.hid (show Str ((((wf.setCell ⟨we.heap.size, 0, none⟩ (.int .i64 xr)).setCell ⟨we.heap.size, 1, none⟩ (.int .i64 xa)).setCell ⟨we.heap.size, 2, none⟩ (.int .i64 xd)).setCell ⟨we.heap.size, 3, none⟩ (.slice ag G.length cg)) (we.heap.size) 27 #[.int .i64 xr, .int .i64 xa, .int .i64 xd, .slice ag G.length cg] from ((((SY.out.set 0 (.int .i64 xr)).set 1 (.int .i64 xa)).set 2 (.int .i64 xd)).set 3 (.slice ag G.length cg)))
    have Og := Lib.hid ((((Og.out.set_other hne 0 (.int .i64 xr)).set_other hne 1 (.int .i64 xa)).set_other hne 2 (.int .i64 xd)).set_other hne 3 (.slice ag G.length cg))
    clear hne Lg
    generalize ((((wf.setCell ⟨we.heap.size, 0, none⟩ (.int .i64 xr)).setCell ⟨we.heap.size, 1, none⟩ (.int .i64 xa)).setCell ⟨we.heap.size, 2, none⟩ (.int .i64 xd)).setCell ⟨we.heap.size, 3, none⟩ (.slice ag G.length cg)) = wz at *
    refine hK.out _ _ ⟨(hst.cell (p := ⟨w1.heap.size, 0, none⟩) Svx.out.lt).trans (Svx.out.cell 0 (v := .int .i64 xr) rfl), (hst.cell (p := ⟨w1.heap.size, 1, none⟩) Svx.out.lt).trans (Svx.out.cell 1 (v := .int .i64 xa) rfl), (hst.cell (p := ⟨w1.heap.size, 2, none⟩) Svx.out.lt).trans (Svx.out.cell 2 (v := .int .i64 xd) rfl), (hst.cell (p := ⟨w1.heap.size, 3, none⟩) Svx.out.lt).trans (Svx.out.cell 3 (v := .slice ax xs.length cx) rfl)⟩ (fun hH => ?_)
    clear hK K
    try simp only [Act.put, List.setIfInBounds_toArray, List.set_cons_zero, List.set_cons_succ]
    refine takeH 13 (v := ?vtd11) rfl (by kernel_rfl) (by kernel_rfl) (by kernel_rfl) (fun _ _ _ h => h) hH rfl ?ytd11 ?rtd11
    case ytd11 => intro W hSw; go_simp; try with_reducible rfl
    try simp only [Act.put, List.setIfInBounds_toArray, List.set_cons_zero, List.set_cons_succ]
    refine wpAnyH_done (by kernel_rfl) ?_ _
    try simp only [Act.put]
    clear hH
    clear Hsrc
    have Ic := Lib.hid (show IntsAt wz ac c from Ic.out.below hst)
    have Ix := Lib.hid (show IntsAt wz ax xs from Ix.out.below hst)
    have Svx := Lib.hid (show Str wz (w1.heap.size) 27 #[.int .i64 xr, .int .i64 xa, .int .i64 xd, .slice ax xs.length cx] from (hst.block _ Svx.out.lt).trans Svx.out)
    have hswz := hst.size
    have Hb := Lib.hid (below_step Hb.out Hb.out.size hst)
    clear hst HZ
    have Ig := Lib.hid (show IntsAt wz ag G from Og.out.at)
    clear Og HA
    have Sy := Lib.hid SY.out; clear SY
    have cvx_0 := Svx.out.cell 0 (v := .int .i64 xr) rfl
    have cvx_1 := Svx.out.cell 1 (v := .int .i64 xa) rfl
    have cvx_2 := Svx.out.cell 2 (v := .int .i64 xd) rfl
    have cvx_3 := Svx.out.cell 3 (v := .slice ax xs.length cx) rfl
    have cy_0 := Sy.out.cell 0 (v := .int .i64 xr) rfl
    have cy_1 := Sy.out.cell 1 (v := .int .i64 xa) rfl
    have cy_2 := Sy.out.cell 2 (v := .int .i64 xd) rfl
    have cy_3 := Sy.out.cell 3 (v := .slice ag G.length cg) rfl
    go_wp2_with fail
    refine (HW.out _ Ic.out Ix.out).mono ?_
    rintro e wu ⟨rfl, rfl⟩
    go_wp2_with fail
    refine (HQ.out _ Ic.out).mono ?_
    rintro e wu ⟨rfl, rfl⟩
    go_wp2_with fail
    refine (HE.out _ _ _ Ic.out Ig.out).mono ?_
    rintro e wq ⟨rfl, hb⟩
    clear cvx_0 cvx_1 cvx_2 cvx_3 cy_0 cy_1 cy_2 cy_3
    have Ic := Lib.hid (show IntsAt wq ac c from Ic.out.below hb)
    have Ix := Lib.hid (show IntsAt wq ax xs from Ix.out.below hb)
    have Ig := Lib.hid (show IntsAt wq ag G from Ig.out.below hb)
    have Svx := Lib.hid (show Str wq (w1.heap.size) 27 #[.int .i64 xr, .int .i64 xa, .int .i64 xd, .slice ax xs.length cx] from (hb.block _ Svx.out.lt).trans Svx.out)
    have Sy := Lib.hid (show Str wq (we.heap.size) 27 #[.int .i64 xr, .int .i64 xa, .int .i64 xd, .slice ag G.length cg] from (hb.block _ Sy.out.lt).trans Sy.out)
    have hswq := hb.size
    have Hb := Lib.hid (below_step Hb.out Hb.out.size hb)
    clear hb
    have cvx_0 := Svx.out.cell 0 (v := .int .i64 xr) rfl
    have cvx_1 := Svx.out.cell 1 (v := .int .i64 xa) rfl
    have cvx_2 := Svx.out.cell 2 (v := .int .i64 xd) rfl
    have cvx_3 := Svx.out.cell 3 (v := .slice ax xs.length cx) rfl
    have cy_0 := Sy.out.cell 0 (v := .int .i64 xr) rfl
    have cy_1 := Sy.out.cell 1 (v := .int .i64 xa) rfl
    have cy_2 := Sy.out.cell 2 (v := .int .i64 xd) rfl
    have cy_3 := Sy.out.cell 3 (v := .slice ag G.length cg) rfl
    go_wp2
    go_ret
    exact ⟨by first | rfl | exact ret_bool (by simp), Hb.out⟩
  · skip
    go_simp
    have hal : Below wd.heap.size wd (wd.alloc (.cells #[.int .i64 0, .int .i64 0, .int .i64 0, .slice none 0 0] 27)) := (Below.refl _ _).alloc (Nat.le_refl _) _
    have SY := Lib.hid (Str.new wd 27 #[.int .i64 0, .int .i64 0, .int .i64 0, .slice none 0 0])
    have hYB : wd.heap.size ≤ wd.heap.size := HZ.out.size
    have hYs : (wd.alloc (.cells #[.int .i64 0, .int .i64 0, .int .i64 0, .slice none 0 0] 27)).heap.size = wd.heap.size + 1 := by simp
    have HZ := Lib.hid (below_step HZ.out HZ.out.size hal)
    clear hal
    generalize (wd.alloc (.cells #[.int .i64 0, .int .i64 0, .int .i64 0, .slice none 0 0] 27)) = wf at *
    refine hK.out _ _ ⟨(HZ.out.cell (p := ⟨w1.heap.size, 0, none⟩) Svx.out.lt).trans (Svx.out.cell 0 (v := .int .i64 xr) rfl), (HZ.out.cell (p := ⟨w1.heap.size, 1, none⟩) Svx.out.lt).trans (Svx.out.cell 1 (v := .int .i64 xa) rfl), (HZ.out.cell (p := ⟨w1.heap.size, 2, none⟩) Svx.out.lt).trans (Svx.out.cell 2 (v := .int .i64 xd) rfl), (HZ.out.cell (p := ⟨w1.heap.size, 3, none⟩) Svx.out.lt).trans (Svx.out.cell 3 (v := .slice ax xs.length cx) rfl)⟩ (fun hH => ?_)
    clear hK K
    try simp only [Act.put, List.setIfInBounds_toArray, List.set_cons_zero, List.set_cons_succ]
    refine callH 7 rfl (by kernel_rfl) rfl (fun K hK => ?_)
    go_simp
    go_at_call 11
    refine (HA.out _ (Ic.out.below HZ.out) (Ix.out.below HZ.out) (Hsrc.out.lies Ix.out HZ.out)).mono ?_
    rintro e we ⟨vv, rfl, hog, hb⟩
    obtain ⟨ag, cg, rfl, _, _⟩ := hog.ints
    have Lg : ∀ k, ((.slice ag G.length cg : Value)).ownBlock = some k → wf.heap.size ≤ k ∧ k < we.heap.size := fun k e => hog.lt k e
    have Og := Lib.hid hog
    have hswe := hb.size
    have HZ := Lib.hid (below_step HZ.out HZ.out.size hb)
    have SY := Lib.hid (show Str we (wd.heap.size) 27 #[.int .i64 0, .int .i64 0, .int .i64 0, .slice none 0 0] from (hb.block _ SY.out.lt).trans SY.out)
    clear hb hog
    refine hK.out _ _ ⟨(HZ.out.cell (p := ⟨w1.heap.size, 0, none⟩) Svx.out.lt).trans (Svx.out.cell 0 (v := .int .i64 xr) rfl), (HZ.out.cell (p := ⟨w1.heap.size, 1, none⟩) Svx.out.lt).trans (Svx.out.cell 1 (v := .int .i64 xa) rfl), (HZ.out.cell (p := ⟨w1.heap.size, 2, none⟩) Svx.out.lt).trans (Svx.out.cell 2 (v := .int .i64 xd) rfl), (HZ.out.cell (p := ⟨w1.heap.size, 3, none⟩) Svx.out.lt).trans (Svx.out.cell 3 (v := .slice ax xs.length cx) rfl)⟩ (fun hH => ?_)
    clear hK K
    try simp only [Act.put, List.setIfInBounds_toArray, List.set_cons_zero, List.set_cons_succ]
    refine takeH 8 (v := ?vte12) rfl (by kernel_rfl) (by kernel_rfl) (by kernel_rfl) (fun _ _ _ h => h) hH rfl ?yte12 ?rte12
    case yte12 => intro W hSw; go_simp; try with_reducible rfl
    try simp only [Act.put, List.setIfInBounds_toArray, List.set_cons_zero, List.set_cons_succ]
    refine takeH 9 (v := ?vte13) rfl (by kernel_rfl) (by kernel_rfl) (by kernel_rfl) (fun _ _ _ h => h) hH rfl ?yte13 ?rte13
    case yte13 => intro W hSw; go_simp; try with_reducible rfl
    try simp only [Act.put, List.setIfInBounds_toArray, List.set_cons_zero, List.set_cons_succ]
    refine takeH 10 (v := ?vte14) rfl (by kernel_rfl) (by kernel_rfl) (by kernel_rfl) (fun _ _ _ h => h) hH rfl ?yte14 ?rte14
    case yte14 => intro W hSw; go_simp; try with_reducible rfl
    try simp only [Act.put, List.setIfInBounds_toArray, List.set_cons_zero, List.set_cons_succ]
    refine callH 12 rfl (by kernel_rfl) rfl (fun K hK => ?_)
    have u0 := SY.out.frozen 0
    have u1 := SY.out.frozen 1
    have u2 := SY.out.frozen 2
    have u3 := SY.out.frozen 3
    have v0 := SY.out.cell 0 (v := .int .i64 0) rfl
    have v1 := SY.out.cell 1 (v := .int .i64 0) rfl
    have v2 := SY.out.cell 2 (v := .int .i64 0) rfl
    have v3 := SY.out.cell 3 (v := .slice none 0 0) rfl
    go_simp
    clear u0 u1 u2 u3 v0 v1 v2 v3
    have hne : (.slice ag G.length cg : Value).ownBlock ≠ some (wd.heap.size) := fun e => by have := Lg _ e; omega
    have hst : Below wd.heap.size wd ((((we.setCell ⟨wd.heap.size, 0, none⟩ (.int .i64 xr)).setCell ⟨wd.heap.size, 1, none⟩ (.int .i64 xa)).setCell ⟨wd.heap.size, 2, none⟩ (.int .i64 xd)).setCell ⟨wd.heap.size, 3, none⟩ (.slice ag G.length cg)) := ((((HZ.out.setCell (p := ⟨wd.heap.size, 0, none⟩) (by simp only; omega) (.int .i64 xr)).setCell (p := ⟨wd.heap.size, 1, none⟩) (by simp only; omega) (.int .i64 xa)).setCell (p := ⟨wd.heap.size, 2, none⟩) (by simp only; omega) (.int .i64 xd)).setCell (p := ⟨wd.heap.size, 3, none⟩) (by simp only; omega) (.slice ag G.length cg))
    have SY := Lib.hid (show Str ((((we.setCell ⟨wd.heap.size, 0, none⟩ (.int .i64 xr)).setCell ⟨wd.heap.size, 1, none⟩ (.int .i64 xa)).setCell ⟨wd.heap.size, 2, none⟩ (.int .i64 xd)).setCell ⟨wd.heap.size, 3, none⟩ (.slice ag G.length cg)) (wd.heap.size) 27 #[.int .i64 xr, .int .i64 xa, .int .i64 xd, .slice ag G.length cg] from ((((SY.out.set 0 (.int .i64 xr)).set 1 (.int .i64 xa)).set 2 (.int .i64 xd)).set 3 (.slice ag G.length cg)))
    have Og := Lib.hid ((((Og.out.set_other hne 0 (.int .i64 xr)).set_other hne 1 (.int .i64 xa)).set_other hne 2 (.int .i64 xd)).set_other hne 3 (.slice ag G.length cg))
    clear hne Lg
    generalize ((((we.setCell ⟨wd.heap.size, 0, none⟩ (.int .i64 xr)).setCell ⟨wd.heap.size, 1, none⟩ (.int .i64 xa)).setCell ⟨wd.heap.size, 2, none⟩ (.int .i64 xd)).setCell ⟨wd.heap.size, 3, none⟩ (.slice ag G.length cg)) = wz at *
    refine hK.out _ _ ⟨(hst.cell (p := ⟨w1.heap.size, 0, none⟩) Svx.out.lt).trans (Svx.out.cell 0 (v := .int .i64 xr) rfl), (hst.cell (p := ⟨w1.heap.size, 1, none⟩) Svx.out.lt).trans (Svx.out.cell 1 (v := .int .i64 xa) rfl), (hst.cell (p := ⟨w1.heap.size, 2, none⟩) Svx.out.lt).trans (Svx.out.cell 2 (v := .int .i64 xd) rfl), (hst.cell (p := ⟨w1.heap.size, 3, none⟩) Svx.out.lt).trans (Svx.out.cell 3 (v := .slice ax xs.length cx) rfl)⟩ (fun hH => ?_)
    clear hK K
    try simp only [Act.put, List.setIfInBounds_toArray, List.set_cons_zero, List.set_cons_succ]
    refine takeH 13 (v := ?vte15) rfl (by kernel_rfl) (by kernel_rfl) (by kernel_rfl) (fun _ _ _ h => h) hH rfl ?yte15 ?rte15
    case yte15 => intro W hSw; go_simp; try with_reducible rfl
    try simp only [Act.put, List.setIfInBounds_toArray, List.set_cons_zero, List.set_cons_succ]
    refine wpAnyH_done (by kernel_rfl) ?_ _
    try simp only [Act.put]
    clear hH
    clear Hsrc
    have Ic := Lib.hid (show IntsAt wz ac c from Ic.out.below hst)
    have Ix := Lib.hid (show IntsAt wz ax xs from Ix.out.below hst)
    have Svx := Lib.hid (show Str wz (w1.heap.size) 27 #[.int .i64 xr, .int .i64 xa, .int .i64 xd, .slice ax xs.length cx] from (hst.block _ Svx.out.lt).trans Svx.out)
    have hswz := hst.size
    have Hb := Lib.hid (below_step Hb.out Hb.out.size hst)
    clear hst HZ
    have Ig := Lib.hid (show IntsAt wz ag G from Og.out.at)
    clear Og HA
    have Sy := Lib.hid SY.out; clear SY
    have cvx_0 := Svx.out.cell 0 (v := .int .i64 xr) rfl
    have cvx_1 := Svx.out.cell 1 (v := .int .i64 xa) rfl
    have cvx_2 := Svx.out.cell 2 (v := .int .i64 xd) rfl
    have cvx_3 := Svx.out.cell 3 (v := .slice ax xs.length cx) rfl
    have cy_0 := Sy.out.cell 0 (v := .int .i64 xr) rfl
    have cy_1 := Sy.out.cell 1 (v := .int .i64 xa) rfl
    have cy_2 := Sy.out.cell 2 (v := .int .i64 xd) rfl
    have cy_3 := Sy.out.cell 3 (v := .slice ag G.length cg) rfl
    go_wp2_with fail
    refine (HW.out _ Ic.out Ix.out).mono ?_
    rintro e wu ⟨rfl, rfl⟩
    go_wp2_with fail
    refine (HQ.out _ Ic.out).mono ?_
    rintro e wu ⟨rfl, rfl⟩
    go_wp2_with fail
    refine (HE.out _ _ _ Ic.out Ig.out).mono ?_
    rintro e wq ⟨rfl, hb⟩
    clear cvx_0 cvx_1 cvx_2 cvx_3 cy_0 cy_1 cy_2 cy_3
    have Ic := Lib.hid (show IntsAt wq ac c from Ic.out.below hb)
    have Ix := Lib.hid (show IntsAt wq ax xs from Ix.out.below hb)
    have Ig := Lib.hid (show IntsAt wq ag G from Ig.out.below hb)
    have Svx := Lib.hid (show Str wq (w1.heap.size) 27 #[.int .i64 xr, .int .i64 xa, .int .i64 xd, .slice ax xs.length cx] from (hb.block _ Svx.out.lt).trans Svx.out)
    have Sy := Lib.hid (show Str wq (wd.heap.size) 27 #[.int .i64 xr, .int .i64 xa, .int .i64 xd, .slice ag G.length cg] from (hb.block _ Sy.out.lt).trans Sy.out)
    have hswq := hb.size
    have Hb := Lib.hid (below_step Hb.out Hb.out.size hb)
    clear hb
    have cvx_0 := Svx.out.cell 0 (v := .int .i64 xr) rfl
    have cvx_1 := Svx.out.cell 1 (v := .int .i64 xa) rfl
    have cvx_2 := Svx.out.cell 2 (v := .int .i64 xd) rfl
    have cvx_3 := Svx.out.cell 3 (v := .slice ax xs.length cx) rfl
    have cy_0 := Sy.out.cell 0 (v := .int .i64 xr) rfl
    have cy_1 := Sy.out.cell 1 (v := .int .i64 xa) rfl
    have cy_2 := Sy.out.cell 2 (v := .int .i64 xd) rfl
    have cy_3 := Sy.out.cell 3 (v := .slice ag G.length cg) rfl
    go_wp2
    go_ret
    exact ⟨by first | rfl | exact ret_bool (by simp), Hb.out⟩

theorem fnTallyDone_own : ownKnob Try.prog.godebug = none := by kernel_rfl
theorem fnTallyDone_laidOut : laidOutB Try.prog = true := by kernel_rfl

set_option maxRecDepth 8000 in
theorem fnTallyDone_lifted (os : Os) (started : os.Started) (H : Type) (enc : TypeId × Value → H) :
    ReturnsInHanded {} Try.checked os 4 .any (Rows.fnTallyDoneSpec.pre6 enc Try.prog Try.f4 Rows.fnTallyDoneRow.domain false) (Rows.fnTallyDoneSpec.post enc Try.prog Try.f4 false true false false) := by
  refine law_lifted (C := Try.checked) (tb := 4) fnTallyDone_own fnTallyDone_laidOut started (by kernel_rfl) Try.func4 rfl Try.underlying4 rfl (by rw [Try.params4]; exact of_decide_eq_true (by kernel_rfl)) ?_
    (ChangeSpec.witness6 (enc := enc) (C := Try.checked) false ⟨#[], #[.slice none 0 0, .slice none 0 0], []⟩ 8 (by kernel_rfl) (by kernel_rfl) (by kernel_rfl) (by kernel_rfl)) ?_
  · intro ds hds
    rw [Try.params4] at hds
    match ds, hds with
    | [d0, d1], _ => rfl
  · intro W base args ds p hval0 hA0
    have hval : ∀ (j : Nat) t v, Try.f4.params[j]? = some t → args[j]? = some v → Value.okWide Try.prog W .any base t v := hval0
    have hA : DataW.TrodAll enc Try.prog W 0 (fun _ => true) true Try.f4.params.toList args.toList ds p := hA0
    rw [Try.params4] at hA hval
    obtain ⟨v0, vs0, d0, ds0, p0, q0, hargs0, rfl, rfl, h0, r0⟩ := trodAll_cons hA
    obtain ⟨v1, vs1, d1, ds1, p1, q1, hargs1, rfl, rfl, h1, r1⟩ := trodAll_cons r0
    obtain ⟨hnil, rfl, rfl⟩ := trodAll_nil r1
    subst hnil
    subst hargs1
    obtain rfl : args = #[v0, v1] := by cases args; simp_all
    obtain ⟨a0, cap0, zs0, rfl, hk0, hm0, hi0, hw0⟩ := open_slice_ints Try.underlying22 Try.underlying5 (by kernel_rfl) (hval 0 22 v0 rfl rfl) h0
    obtain ⟨a1, cap1, zs1, rfl, hk1, hm1, hi1, hw1⟩ := open_slice_ints Try.underlying22 Try.underlying5 (by kernel_rfl) (hval 1 22 v1 rfl rfl) h1
    exact fnTallyDone_walk a0 cap0 zs0 a1 cap1 zs1 W hk0 hm0 hi0 hw0 hk1 hm1 hi1 hw1

set_option maxRecDepth 8000 in
theorem fnTallyDone_holds : Rows.FnTallyDoneSaid :=
  OpenClaim.holds_of_wide 4 Try.f4 rfl rfl rfl rfl rfl rfl rfl ⟨rfl, rfl, rfl, rfl, rfl⟩ rfl rfl rfl rfl rfl (by kernel_rfl) Try.func4 (by kernel_rfl)
    (of_decide_eq_true (by kernel_rfl)) (by unfold Func.isWrapper; first | (rw [if_pos (by decide +kernel)]; kernel_rfl) | (rw [if_neg (by decide +kernel)]; exact ⟨rfl, rfl⟩))
    (fun os started H enc _ => fnTallyDone_lifted os started H enc)

end Go.Proofs.Ytgpbogalknmcmab
