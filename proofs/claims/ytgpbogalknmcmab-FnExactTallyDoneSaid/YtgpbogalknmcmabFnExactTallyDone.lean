/- The exact law of TallyDone holds at every argument; no conditions of our own. -/
import Derived.Test.YtgpbogalknmcmabRows
import Derived.Test.YtgpbogalknmcmabBu0
import Derived.Test.YtgpbogalknmcmabBu1
import Derived.Test.YtgpbogalknmcmabBu3
import Derived.Test.YtgpbogalknmcmabBu2
namespace Go.Proofs.Ytgpbogalknmcmab
open Go.ChangeShapes Go.WideShapes Go.ChangeAt Go.RowKit

set_option maxHeartbeats 2000000 in
theorem fnExactTallyDone_walk (ac : Option Addr) (capc : Nat) (xc : List Int) (t0 : Int) (t1 : Int) (t2 : Int) (at3 : Option Addr) (capt3 : Nat) (xt3 : List Int) (w : World) (_hkc : xc.length ≤ capc) (hmc : xc.length ≤ maxLen) (hic : IntsAt w ac xc) (_hwc : ∀ z ∈ xc, (Lit.int .i64 z).wf = true) (_ht0 : -9223372036854775808 ≤ t0 ∧ t0 ≤ 9223372036854775807) (_ht1 : -9223372036854775808 ≤ t1 ∧ t1 ≤ 9223372036854775807) (_ht2 : -9223372036854775808 ≤ t2 ∧ t2 ≤ 9223372036854775807) (hmxt3 : xt3.length ≤ maxLen ∧ ∀ x ∈ xt3, -9223372036854775808 ≤ x ∧ x ≤ 9223372036854775807) (hixt3 : IntsAt w at3 xt3) :
    Calls Try.prog 8 #[.slice ac xc.length capc, .agg #[.int .i64 t0, .int .i64 t1, .int .i64 t2, .slice at3 xt3.length capt3]] w fun e w' => e = .returned (.bool true) ∧ Below w.heap.size w w' := by
  unfold maxLen at hmc
  obtain ⟨_ht01, _ht02⟩ := _ht0
  obtain ⟨_ht11, _ht12⟩ := _ht1
  obtain ⟨_ht21, _ht22⟩ := _ht2
  obtain ⟨hmxt3, _hbxt3⟩ := hmxt3
  unfold maxLen at hmxt3
  have hbx0 : Below w.heap.size w (w.alloc (.cells #[.int .i64 t0, .int .i64 t1, .int .i64 t2, .slice at3 xt3.length capt3] 48)) := (Below.refl w.heap.size w).alloc (by first | exact Nat.le_refl _ | (simp only [World.size_alloc]; omega)) _
  have hsx0 := Str.new (w) 48 #[.int .i64 t0, .int .i64 t1, .int .i64 t2, .slice at3 xt3.length capt3]
  by_cases hlc : xc.length ≤ 1048576
  case neg =>
    go_enter Try.func8, Try.ntmps8
    go_wp2
    go_ret
    exact ⟨rfl, hbx0⟩
  have Hic := Lib.hid hic; clear hic
  have Hixt3 := Lib.hid hixt3; clear hixt3
  have hzx : (w.alloc (.cells #[.int .i64 t0, .int .i64 t1, .int .i64 t2, .slice at3 xt3.length capt3] 48)).heap.size = w.heap.size + 1 := by simp
  have Stb := Lib.hid (show Str (w.alloc (.cells #[.int .i64 t0, .int .i64 t1, .int .i64 t2, .slice at3 xt3.length capt3] 48)) (w.heap.size) 48 #[.int .i64 t0, .int .i64 t1, .int .i64 t2, .slice at3 xt3.length capt3] by simpa using hsx0)
  clear hsx0
  have Hb0 := Lib.hid hbx0
  clear hbx0
  have Hszt := Lib.hid (fun w => laws_szTallyR t0 t1 t2 at3 capt3 xt3 (1048576) w (by omega) (by omega))
  go_enter Try.func8, Try.ntmps8
  have qtb_0 := Stb.out.cell 0 (v := .int .i64 t0) rfl
  have qtb_1 := Stb.out.cell 1 (v := .int .i64 t1) rfl
  have qtb_2 := Stb.out.cell 2 (v := .int .i64 t2) rfl
  have qtb_3 := Stb.out.cell 3 (v := .slice at3 xt3.length capt3) rfl
  go_wp2_with fail
  generalize (w.alloc (.cells #[.int .i64 t0, .int .i64 t1, .int .i64 t2, .slice at3 xt3.length capt3] 48)) = w0 at *
  refine (Hszt.out _).mono ?_
  rintro e w1 ⟨rfl, hb1⟩
  have Hb1 := Lib.hid (below_step Hb0.out Hb0.out.size hb1)
  have Stb := Lib.hid (show Str w1 w.heap.size 48 #[.int .i64 t0, .int .i64 t1, .int .i64 t2, .slice at3 xt3.length capt3] from ((hb1).block _ Stb.out.lt).trans Stb.out)
  have hz1 := (hb1).size
  clear qtb_0 qtb_1 qtb_2 qtb_3
  by_cases hlxt3 : xt3.length ≤ 1048576
  case neg =>
    rw [if_neg hlxt3]
    go_wp2
    go_ret
    exact ⟨rfl, Hb1.out⟩
  rw [if_pos hlxt3]
  have hnegt : decide ((((1048576 - xt3.length : Nat)) : Int) < 0) = false := decide_eq_false (by omega)
  have hnget : ¬ (((1048576 - xt3.length : Nat) : Int) < 0) := by omega
  have Hspec := Lib.hid (fun ac cc at_ ct w (_hcc : xc.length ≤ cc) (h : IntsAt w ac xc) (_hct : xt3.length ≤ ct) (h' : IntsAt w at_ xt3) (_hs : SrcAt w at_ ct xt3) => spec_TallyDone ac cc xc t0 t1 t2 at_ ct xt3 w (by omega) (by omega) h h')
  have Himpl := Lib.hid (fun ac cc at_ ct w (_hcc : xc.length ≤ cc) (h : IntsAt w ac xc) (_hct : xt3.length ≤ ct) (h' : IntsAt w at_ xt3) (_hs : SrcAt w at_ ct xt3) => impl_TallyDone ac cc xc t0 t1 t2 at_ ct xt3 w (by omega) (by omega) h h')
  generalize doneB xc ⟨t0, t1, t2⟩ xt3 = ok at *
  have qtb_0 := Stb.out.cell 0 (v := .int .i64 t0) rfl
  have qtb_1 := Stb.out.cell 1 (v := .int .i64 t1) rfl
  have qtb_2 := Stb.out.cell 2 (v := .int .i64 t2) rfl
  have qtb_3 := Stb.out.cell 3 (v := .slice at3 xt3.length capt3) rfl
  go_wp2_with fail
  clear qtb_0 qtb_1 qtb_2 qtb_3
  have hdr : Below w1.heap.size w1 w1.drew := (Below.refl _ _).drew
  refine wp_region_held_drew (S := fun w' => w'.cell? ⟨w.heap.size, 0, none⟩ = some (.int .i64 t0) ∧ w'.cell? ⟨w.heap.size, 1, none⟩ = some (.int .i64 t1) ∧ w'.cell? ⟨w.heap.size, 2, none⟩ = some (.int .i64 t2) ∧ w'.cell? ⟨w.heap.size, 3, none⟩ = some (.slice at3 xt3.length capt3)) (by kernel_rfl) ⟨Stb.out.cell 0 (v := .int .i64 t0) rfl, Stb.out.cell 1 (v := .int .i64 t1) rfl, Stb.out.cell 2 (v := .int .i64 t2) rfl, Stb.out.cell 3 (v := .slice at3 xt3.length capt3) rfl⟩ (fun hH => ?_)
  generalize w1.drew = w2 at *
  have Hb2 := Lib.hid (below_step Hb1.out Hb1.out.size hdr)
  have Stb := Lib.hid (show Str w2 w.heap.size 48 #[.int .i64 t0, .int .i64 t1, .int .i64 t2, .slice at3 xt3.length capt3] from ((hdr).block _ Stb.out.lt).trans Stb.out)
  have hz2 := (hdr).size
  clear hdr
  refine takeH 0 (v := ?vsw0) rfl (by kernel_rfl) (by kernel_rfl) (by kernel_rfl) (fun _ _ _ h => h) hH rfl ?ysw0 ?rsw0
  case ysw0 => intro W hSw; go_simp; try with_reducible rfl
  try simp only [Act.put, List.setIfInBounds_toArray, List.set_cons_zero, List.set_cons_succ]
  refine takeH 2 (v := ?vsw1) rfl (by kernel_rfl) (by kernel_rfl) (by kernel_rfl) (fun _ _ _ h => h) hH rfl ?ysw1 ?rsw1
  case ysw1 => intro W hSw; go_simp; try with_reducible rfl
  try simp only [Act.put, List.setIfInBounds_toArray, List.set_cons_zero, List.set_cons_succ]
  refine callH 1 rfl (by kernel_rfl) rfl (fun K hK => ?_)
  go_simp
  refine (laws_toIntS ac capc xc _ (by omega) (Hic.out.below Hb2.out)).mono ?_
  rintro e w3 ⟨vcs, rfl, hocs, hb3⟩
  have Hb3 := Lib.hid (below_step Hb2.out Hb2.out.size hb3)
  have Stb := Lib.hid (show Str w3 w.heap.size 48 #[.int .i64 t0, .int .i64 t1, .int .i64 t2, .slice at3 xt3.length capt3] from ((hb3).block _ Stb.out.lt).trans Stb.out)
  have hz3 := (hb3).size
  have Hcs := Lib.hid (OwnI.of hocs); clear hocs
  obtain ⟨acs, ccs, rfl, _, _⟩ := Hcs.out.ints
  have hccs := Hcs.out.cap
  have hhcs : w2.heap.size ≤ w2.heap.size := Nat.le_refl _
  have hjcs : w3.heap.size ≤ w3.heap.size := Nat.le_refl _
  dsimp only
  refine hK.out _ _ ⟨Stb.out.cell 0 (v := .int .i64 t0) rfl, Stb.out.cell 1 (v := .int .i64 t1) rfl, Stb.out.cell 2 (v := .int .i64 t2) rfl, Stb.out.cell 3 (v := .slice at3 xt3.length capt3) rfl⟩ (fun hH => ?_)
  clear hK K
  try simp only [Act.put, List.setIfInBounds_toArray, List.set_cons_zero, List.set_cons_succ]
  refine callH 3 rfl (by kernel_rfl) rfl (fun K hK => ?_)
  go_simp
  refine (laws_toTallyR t0 t1 t2 at3 capt3 xt3 _ (by omega) (Hixt3.out.below Hb3.out)).mono ?_
  rintro e w4 ⟨vts, rfl, hots, hb4⟩
  have Hb4 := Lib.hid (below_step Hb3.out Hb3.out.size hb4)
  have Hcs := Lib.hid (Hcs.out.below hb4)
  have Stb := Lib.hid (show Str w4 w.heap.size 48 #[.int .i64 t0, .int .i64 t1, .int .i64 t2, .slice at3 xt3.length capt3] from ((hb4).block _ Stb.out.lt).trans Stb.out)
  have hz4 := (hb4).size
  have Hts := Lib.hid (OwnI.of hots); clear hots
  obtain ⟨ats, cts, rfl, _, _⟩ := Hts.out.ints
  have hcts := Hts.out.cap
  have hhts : w3.heap.size ≤ w3.heap.size := Nat.le_refl _
  have hjts : w4.heap.size ≤ w4.heap.size := Nat.le_refl _
  dsimp only
  refine hK.out _ _ ⟨Stb.out.cell 0 (v := .int .i64 t0) rfl, Stb.out.cell 1 (v := .int .i64 t1) rfl, Stb.out.cell 2 (v := .int .i64 t2) rfl, Stb.out.cell 3 (v := .slice at3 xt3.length capt3) rfl⟩ (fun hH => ?_)
  clear hK K
  try simp only [Act.put, List.setIfInBounds_toArray, List.set_cons_zero, List.set_cons_succ]
  refine callH 4 rfl (by kernel_rfl) rfl (fun K hK => ?_)
  go_simp
  refine (Hspec.out acs ccs ats cts _ hccs Hcs.out.at hcts Hts.out.at (own_src Hts.out.own)).mono ?_
  rintro e w5 ⟨rfl, hb5⟩
  have Hb5 := Lib.hid (below_step Hb4.out Hb4.out.size hb5)
  have Hcs := Lib.hid (Hcs.out.below hb5)
  have Hts := Lib.hid (Hts.out.below hb5)
  have Stb := Lib.hid (show Str w5 w.heap.size 48 #[.int .i64 t0, .int .i64 t1, .int .i64 t2, .slice at3 xt3.length capt3] from ((hb5).block _ Stb.out.lt).trans Stb.out)
  have hz5 := (hb5).size
  dsimp only
  refine hK.out _ _ ⟨Stb.out.cell 0 (v := .int .i64 t0) rfl, Stb.out.cell 1 (v := .int .i64 t1) rfl, Stb.out.cell 2 (v := .int .i64 t2) rfl, Stb.out.cell 3 (v := .slice at3 xt3.length capt3) rfl⟩ (fun hH => ?_)
  clear hK K
  try simp only [Act.put, List.setIfInBounds_toArray, List.set_cons_zero, List.set_cons_succ]
  refine takeH 5 (v := ?vsw5) rfl (by kernel_rfl) (by kernel_rfl) (by kernel_rfl) (fun _ _ _ h => h) hH rfl ?ysw5 ?rsw5
  case ysw5 => intro W hSw; go_simp; try with_reducible rfl
  try simp only [Act.put, List.setIfInBounds_toArray, List.set_cons_zero, List.set_cons_succ]
  refine wpAnyH_done (by kernel_rfl) ?_ _
  try simp only [Act.put]
  clear hH
  clear Hcs
  clear Hts
  go_wp2_with fail
  refine (laws_toIntS ac capc xc _ (by omega) (Hic.out.below Hb5.out)).mono ?_
  rintro e w6 ⟨vcx, rfl, hocx, hb6⟩
  have Hb6 := Lib.hid (below_step Hb5.out Hb5.out.size hb6)
  have Stb := Lib.hid (show Str w6 w.heap.size 48 #[.int .i64 t0, .int .i64 t1, .int .i64 t2, .slice at3 xt3.length capt3] from ((hb6).block _ Stb.out.lt).trans Stb.out)
  have hz6 := (hb6).size
  have Hcx := Lib.hid (OwnI.of hocx); clear hocx
  obtain ⟨acx, ccx, rfl, _, _⟩ := Hcx.out.ints
  have hccx := Hcx.out.cap
  have hhcx : w5.heap.size ≤ w5.heap.size := Nat.le_refl _
  have hjcx : w6.heap.size ≤ w6.heap.size := Nat.le_refl _
  have qtb_0 := Stb.out.cell 0 (v := .int .i64 t0) rfl
  have qtb_1 := Stb.out.cell 1 (v := .int .i64 t1) rfl
  have qtb_2 := Stb.out.cell 2 (v := .int .i64 t2) rfl
  have qtb_3 := Stb.out.cell 3 (v := .slice at3 xt3.length capt3) rfl
  go_wp2_with fail
  refine (laws_toTallyR t0 t1 t2 at3 capt3 xt3 _ (by omega) (Hixt3.out.below Hb6.out)).mono ?_
  rintro e w7 ⟨vtx, rfl, hotx, hb7⟩
  have Hb7 := Lib.hid (below_step Hb6.out Hb6.out.size hb7)
  have Hcx := Lib.hid (Hcx.out.below hb7)
  have Stb := Lib.hid (show Str w7 w.heap.size 48 #[.int .i64 t0, .int .i64 t1, .int .i64 t2, .slice at3 xt3.length capt3] from ((hb7).block _ Stb.out.lt).trans Stb.out)
  have hz7 := (hb7).size
  have Htx := Lib.hid (OwnI.of hotx); clear hotx
  obtain ⟨atx, ctx, rfl, _, _⟩ := Htx.out.ints
  have hctx := Htx.out.cap
  have hhtx : w6.heap.size ≤ w6.heap.size := Nat.le_refl _
  have hjtx : w7.heap.size ≤ w7.heap.size := Nat.le_refl _
  clear qtb_0 qtb_1 qtb_2 qtb_3
  have hAtxv : Below w7.heap.size w7 (w7.alloc (.cells #[.int .i64 t0, .int .i64 t1, .int .i64 t2, .slice atx xt3.length ctx] 27)) := (Below.refl _ _).alloc (Nat.le_refl _) _
  have sNtxv := Str.new w7 27 #[.int .i64 t0, .int .i64 t1, .int .i64 t2, .slice atx xt3.length ctx]
  have hzAtxv : (w7.alloc (.cells #[.int .i64 t0, .int .i64 t1, .int .i64 t2, .slice atx xt3.length ctx] 27)).heap.size = w7.heap.size + 1 := by simp
  have hbstxv : w7.heap.size ≤ w7.heap.size := Nat.le_refl _
  have Hb8 := Lib.hid (below_step Hb7.out Hb7.out.size hAtxv)
  have Hcx := Lib.hid (Hcx.out.below hAtxv)
  have Htx := Lib.hid (Htx.out.below hAtxv)
  have Stb := Lib.hid (show Str (w7.alloc (.cells #[.int .i64 t0, .int .i64 t1, .int .i64 t2, .slice atx xt3.length ctx] 27)) w.heap.size 48 #[.int .i64 t0, .int .i64 t1, .int .i64 t2, .slice at3 xt3.length capt3] from (hAtxv.block _ Stb.out.lt).trans Stb.out)
  have Stxv := Lib.hid sNtxv; clear sNtxv
  clear hAtxv
  have qtb_0 := Stb.out.cell 0 (v := .int .i64 t0) rfl
  have qtb_1 := Stb.out.cell 1 (v := .int .i64 t1) rfl
  have qtb_2 := Stb.out.cell 2 (v := .int .i64 t2) rfl
  have qtb_3 := Stb.out.cell 3 (v := .slice at3 xt3.length capt3) rfl
  have qtxv_0 := Stxv.out.cell 0 (v := .int .i64 t0) rfl
  have qtxv_1 := Stxv.out.cell 1 (v := .int .i64 t1) rfl
  have qtxv_2 := Stxv.out.cell 2 (v := .int .i64 t2) rfl
  have qtxv_3 := Stxv.out.cell 3 (v := .slice atx xt3.length ctx) rfl
  go_wp2_with fail
  generalize w7.alloc (.cells #[.int .i64 t0, .int .i64 t1, .int .i64 t2, .slice atx xt3.length ctx] 27) = w8 at *
  refine (Himpl.out acx ccx atx ctx _ hccx Hcx.out.at hctx Htx.out.at (own_src Htx.out.own)).mono ?_
  rintro e w9 ⟨rfl, hb9⟩
  have Hb9 := Lib.hid (below_step Hb8.out Hb8.out.size hb9)
  have Hcx := Lib.hid (Hcx.out.below hb9)
  have Htx := Lib.hid (Htx.out.below hb9)
  have Stb := Lib.hid (show Str w9 w.heap.size 48 #[.int .i64 t0, .int .i64 t1, .int .i64 t2, .slice at3 xt3.length capt3] from ((hb9).block _ Stb.out.lt).trans Stb.out)
  have Stxv := Lib.hid (show Str w9 w7.heap.size 27 #[.int .i64 t0, .int .i64 t1, .int .i64 t2, .slice atx xt3.length ctx] from ((hb9).block _ Stxv.out.lt).trans Stxv.out)
  have hz9 := (hb9).size
  clear qtb_0 qtb_1 qtb_2 qtb_3 qtxv_0 qtxv_1 qtxv_2 qtxv_3
  go_wp2_with fail
  refine (laws_toIntS ac capc xc _ (by omega) (Hic.out.below Hb9.out)).mono ?_
  rintro e w10 ⟨vcy, rfl, hocy, hb10⟩
  have Hb10 := Lib.hid (below_step Hb9.out Hb9.out.size hb10)
  have Hcx := Lib.hid (Hcx.out.below hb10)
  have Htx := Lib.hid (Htx.out.below hb10)
  have Stb := Lib.hid (show Str w10 w.heap.size 48 #[.int .i64 t0, .int .i64 t1, .int .i64 t2, .slice at3 xt3.length capt3] from ((hb10).block _ Stb.out.lt).trans Stb.out)
  have Stxv := Lib.hid (show Str w10 w7.heap.size 27 #[.int .i64 t0, .int .i64 t1, .int .i64 t2, .slice atx xt3.length ctx] from ((hb10).block _ Stxv.out.lt).trans Stxv.out)
  have hz10 := (hb10).size
  have Hcy := Lib.hid (OwnI.of hocy); clear hocy
  obtain ⟨acy, ccy, rfl, _, _⟩ := Hcy.out.ints
  have hccy := Hcy.out.cap
  have hhcy : w9.heap.size ≤ w9.heap.size := Nat.le_refl _
  have hjcy : w10.heap.size ≤ w10.heap.size := Nat.le_refl _
  go_wp2_with fail
  refine (laws_eqIntS' acx acy ccx ccy xc w10 (by omega) Hcx.out.at Hcy.out.at).mono ?_
  rintro e w11 ⟨rfl, hb11⟩
  have Hb11 := Lib.hid (below_step Hb10.out Hb10.out.size (hb11.below w10.heap.size))
  have Hcx := Lib.hid (Hcx.out.below (hb11.below w10.heap.size))
  have Htx := Lib.hid (Htx.out.below (hb11.below w10.heap.size))
  have Hcy := Lib.hid (Hcy.out.below (hb11.below w10.heap.size))
  have Stb := Lib.hid (show Str w11 w.heap.size 48 #[.int .i64 t0, .int .i64 t1, .int .i64 t2, .slice at3 xt3.length capt3] from (((hb11.below w10.heap.size)).block _ Stb.out.lt).trans Stb.out)
  have Stxv := Lib.hid (show Str w11 w7.heap.size 27 #[.int .i64 t0, .int .i64 t1, .int .i64 t2, .slice atx xt3.length ctx] from (((hb11.below w10.heap.size)).block _ Stxv.out.lt).trans Stxv.out)
  have hz11 := ((hb11.below w10.heap.size)).size
  clear Hcy
  have qtxv_0 := Stxv.out.cell 0 (v := .int .i64 t0) rfl
  have qtxv_1 := Stxv.out.cell 1 (v := .int .i64 t1) rfl
  have qtxv_2 := Stxv.out.cell 2 (v := .int .i64 t2) rfl
  have qtxv_3 := Stxv.out.cell 3 (v := .slice atx xt3.length ctx) rfl
  have qtb_0 := Stb.out.cell 0 (v := .int .i64 t0) rfl
  have qtb_1 := Stb.out.cell 1 (v := .int .i64 t1) rfl
  have qtb_2 := Stb.out.cell 2 (v := .int .i64 t2) rfl
  have qtb_3 := Stb.out.cell 3 (v := .slice at3 xt3.length capt3) rfl
  go_wp2_with fail
  clear qtxv_0 qtxv_1 qtxv_2 qtxv_3 qtb_0 qtb_1 qtb_2 qtb_3
  have hdr : Below w11.heap.size w11 w11.drew := (Below.refl _ _).drew
  refine wp_region_held_drew (S := fun w' => w'.cell? ⟨w7.heap.size, 0, none⟩ = some (.int .i64 t0) ∧ w'.cell? ⟨w7.heap.size, 1, none⟩ = some (.int .i64 t1) ∧ w'.cell? ⟨w7.heap.size, 2, none⟩ = some (.int .i64 t2) ∧ w'.cell? ⟨w7.heap.size, 3, none⟩ = some (.slice atx xt3.length ctx) ∧ w'.cell? ⟨w.heap.size, 0, none⟩ = some (.int .i64 t0) ∧ w'.cell? ⟨w.heap.size, 1, none⟩ = some (.int .i64 t1) ∧ w'.cell? ⟨w.heap.size, 2, none⟩ = some (.int .i64 t2) ∧ w'.cell? ⟨w.heap.size, 3, none⟩ = some (.slice at3 xt3.length capt3)) (by kernel_rfl) ⟨Stxv.out.cell 0 (v := .int .i64 t0) rfl, Stxv.out.cell 1 (v := .int .i64 t1) rfl, Stxv.out.cell 2 (v := .int .i64 t2) rfl, Stxv.out.cell 3 (v := .slice atx xt3.length ctx) rfl, Stb.out.cell 0 (v := .int .i64 t0) rfl, Stb.out.cell 1 (v := .int .i64 t1) rfl, Stb.out.cell 2 (v := .int .i64 t2) rfl, Stb.out.cell 3 (v := .slice at3 xt3.length capt3) rfl⟩ (fun hH => ?_)
  generalize w11.drew = w12 at *
  have Hb12 := Lib.hid (below_step Hb11.out Hb11.out.size hdr)
  have Hcx := Lib.hid (Hcx.out.below hdr)
  have Htx := Lib.hid (Htx.out.below hdr)
  have Stb := Lib.hid (show Str w12 w.heap.size 48 #[.int .i64 t0, .int .i64 t1, .int .i64 t2, .slice at3 xt3.length capt3] from ((hdr).block _ Stb.out.lt).trans Stb.out)
  have Stxv := Lib.hid (show Str w12 w7.heap.size 27 #[.int .i64 t0, .int .i64 t1, .int .i64 t2, .slice atx xt3.length ctx] from ((hdr).block _ Stxv.out.lt).trans Stxv.out)
  have hz12 := (hdr).size
  clear hdr
  refine takeH 0 (v := ?vqt0) rfl (by kernel_rfl) (by kernel_rfl) (by kernel_rfl) (fun _ _ _ h => h) hH rfl ?yqt0 ?rqt0
  case yqt0 => intro W hSw; go_simp; try with_reducible rfl
  try simp only [Act.put, List.setIfInBounds_toArray, List.set_cons_zero, List.set_cons_succ]
  refine takeH 1 (v := ?vqt1) rfl (by kernel_rfl) (by kernel_rfl) (by kernel_rfl) (fun _ _ _ h => h) hH rfl ?yqt1 ?rqt1
  case yqt1 => intro W hSw; go_simp; try with_reducible rfl
  try simp only [Act.put, List.setIfInBounds_toArray, List.set_cons_zero, List.set_cons_succ]
  refine callH 2 rfl (by kernel_rfl) rfl (fun K hK => ?_)
  go_simp
  refine (laws_toTallyR t0 t1 t2 at3 capt3 xt3 _ (by omega) (Hixt3.out.below Hb12.out)).mono ?_
  rintro e w13 ⟨vty, rfl, hoty, hb13⟩
  have Hb13 := Lib.hid (below_step Hb12.out Hb12.out.size hb13)
  have Hcx := Lib.hid (Hcx.out.below hb13)
  have Htx := Lib.hid (Htx.out.below hb13)
  have Stb := Lib.hid (show Str w13 w.heap.size 48 #[.int .i64 t0, .int .i64 t1, .int .i64 t2, .slice at3 xt3.length capt3] from ((hb13).block _ Stb.out.lt).trans Stb.out)
  have Stxv := Lib.hid (show Str w13 w7.heap.size 27 #[.int .i64 t0, .int .i64 t1, .int .i64 t2, .slice atx xt3.length ctx] from ((hb13).block _ Stxv.out.lt).trans Stxv.out)
  have hz13 := (hb13).size
  have Hty := Lib.hid (OwnI.of hoty); clear hoty
  obtain ⟨aty, cty, rfl, _, _⟩ := Hty.out.ints
  have hcty := Hty.out.cap
  have hhty : w12.heap.size ≤ w12.heap.size := Nat.le_refl _
  have hjty : w13.heap.size ≤ w13.heap.size := Nat.le_refl _
  dsimp only
  refine hK.out _ _ ⟨Stxv.out.cell 0 (v := .int .i64 t0) rfl, Stxv.out.cell 1 (v := .int .i64 t1) rfl, Stxv.out.cell 2 (v := .int .i64 t2) rfl, Stxv.out.cell 3 (v := .slice atx xt3.length ctx) rfl, Stb.out.cell 0 (v := .int .i64 t0) rfl, Stb.out.cell 1 (v := .int .i64 t1) rfl, Stb.out.cell 2 (v := .int .i64 t2) rfl, Stb.out.cell 3 (v := .slice at3 xt3.length capt3) rfl⟩ (fun hH => ?_)
  clear hK K
  try simp only [Act.put, List.setIfInBounds_toArray, List.set_cons_zero, List.set_cons_succ]
  refine callH 3 rfl (by kernel_rfl) rfl (fun K hK => ?_)
  go_simp
  refine (laws_eqTallyR t0 t1 t2 atx aty ctx cty xt3 w13 (by omega) Htx.out.at Hty.out.at).mono ?_
  rintro e w14 ⟨rfl, hb14⟩
  have Hb14 := Lib.hid (below_step Hb13.out Hb13.out.size hb14)
  have Hcx := Lib.hid (Hcx.out.below hb14)
  have Htx := Lib.hid (Htx.out.below hb14)
  have Hty := Lib.hid (Hty.out.below hb14)
  have Stb := Lib.hid (show Str w14 w.heap.size 48 #[.int .i64 t0, .int .i64 t1, .int .i64 t2, .slice at3 xt3.length capt3] from ((hb14).block _ Stb.out.lt).trans Stb.out)
  have Stxv := Lib.hid (show Str w14 w7.heap.size 27 #[.int .i64 t0, .int .i64 t1, .int .i64 t2, .slice atx xt3.length ctx] from ((hb14).block _ Stxv.out.lt).trans Stxv.out)
  have hz14 := (hb14).size
  dsimp only
  refine hK.out _ _ ⟨Stxv.out.cell 0 (v := .int .i64 t0) rfl, Stxv.out.cell 1 (v := .int .i64 t1) rfl, Stxv.out.cell 2 (v := .int .i64 t2) rfl, Stxv.out.cell 3 (v := .slice atx xt3.length ctx) rfl, Stb.out.cell 0 (v := .int .i64 t0) rfl, Stb.out.cell 1 (v := .int .i64 t1) rfl, Stb.out.cell 2 (v := .int .i64 t2) rfl, Stb.out.cell 3 (v := .slice at3 xt3.length capt3) rfl⟩ (fun hH => ?_)
  clear hK K
  try simp only [Act.put, List.setIfInBounds_toArray, List.set_cons_zero, List.set_cons_succ]
  refine takeH 4 (v := ?vqt4) rfl (by kernel_rfl) (by kernel_rfl) (by kernel_rfl) (fun _ _ _ h => h) hH rfl ?yqt4 ?rqt4
  case yqt4 => intro W hSw; go_simp; try with_reducible rfl
  try simp only [Act.put, List.setIfInBounds_toArray, List.set_cons_zero, List.set_cons_succ]
  refine wpAnyH_done (by kernel_rfl) ?_ _
  try simp only [Act.put]
  clear hH
  clear Hty
  go_wp2
  go_ret
  exact ⟨by first | rfl | exact ret_bool (by simp), Hb14.out⟩

theorem fnExactTallyDone_own : ownKnob Try.prog.godebug = none := by kernel_rfl
theorem fnExactTallyDone_laidOut : laidOutB Try.prog = true := by kernel_rfl

set_option maxRecDepth 8000 in
theorem fnExactTallyDone_lifted (os : Os) (started : os.Started) (H : Type) (enc : TypeId × Value → H) :
    ReturnsInHanded {} Try.checked os 8 .any (Rows.fnExactTallyDoneSpec.pre6 enc Try.prog Try.f8 Rows.fnExactTallyDoneRow.domain false) (Rows.fnExactTallyDoneSpec.post enc Try.prog Try.f8 false true false false) := by
  refine law_lifted (C := Try.checked) (tb := 4) fnExactTallyDone_own fnExactTallyDone_laidOut started (by kernel_rfl) Try.func8 rfl Try.underlying4 rfl (by rw [Try.params8]; exact of_decide_eq_true (by kernel_rfl)) ?_
    (ChangeSpec.witness6 (enc := enc) (C := Try.checked) false ⟨#[], #[.slice none 0 0, .agg #[.int .i64 0, .int .i64 0, .int .i64 0, .slice none 0 0]], []⟩ 8 (by kernel_rfl) (by kernel_rfl) (by kernel_rfl) (by kernel_rfl)) ?_
  · intro ds hds
    rw [Try.params8] at hds
    match ds, hds with
    | [d0, d1], _ => rfl
  · intro W base args ds p hval0 hA0
    have hval : ∀ (j : Nat) t v, Try.f8.params[j]? = some t → args[j]? = some v → Value.okWide Try.prog W .any base t v := hval0
    have hA : DataW.TrodAll enc Try.prog W 0 (fun _ => true) true Try.f8.params.toList args.toList ds p := hA0
    rw [Try.params8] at hA hval
    obtain ⟨v0, vs0, d0, ds0, p0, q0, hargs0, rfl, rfl, h0, r0⟩ := trodAll_cons hA
    obtain ⟨v1, vs1, d1, ds1, p1, q1, hargs1, rfl, rfl, h1, r1⟩ := trodAll_cons r0
    obtain ⟨hnil, rfl, rfl⟩ := trodAll_nil r1
    subst hnil
    subst hargs1
    obtain rfl : args = #[v0, v1] := by cases args; simp_all
    obtain ⟨a0, cap0, zs0, rfl, hk0, hm0, hi0, hw0⟩ := open_slice_ints Try.underlying23 Try.underlying3 (by kernel_rfl) (hval 0 23 v0 rfl rfl) h0
    obtain ⟨x1_0, x1_1, x1_2, a1_3, c1_3, x1_3, rfl, b1_0, b1_1, b1_2, b1_3, i1_3⟩ := open_Tally (hval 1 48 v1 rfl rfl) h1
    exact fnExactTallyDone_walk a0 cap0 zs0 x1_0 x1_1 x1_2 a1_3 c1_3 x1_3 W hk0 hm0 hi0 hw0 b1_0 b1_1 b1_2 b1_3 i1_3

theorem fnExactTallyDone_holds : Rows.FnExactTallyDoneSaid :=
  OpenClaim.holds_of_wide 8 Try.f8 rfl rfl rfl rfl rfl rfl rfl ⟨rfl, rfl, rfl, rfl, rfl⟩ rfl rfl rfl rfl rfl (by kernel_rfl) Try.func8 (by kernel_rfl)
    (of_decide_eq_true (by kernel_rfl)) (by unfold Func.isWrapper; first | (rw [if_pos (by decide +kernel)]; kernel_rfl) | (rw [if_neg (by decide +kernel)]; exact ⟨rfl, rfl⟩))
    (fun os started H enc _ => fnExactTallyDone_lifted os started H enc)

end Go.Proofs.Ytgpbogalknmcmab
