/- The exact law of TallyAdd holds at every argument; no conditions of our own. -/
import Derived.Test.YtgpbogalknmcmabRows
import Derived.Test.YtgpbogalknmcmabBu0
import Derived.Test.YtgpbogalknmcmabBu1
import Derived.Test.YtgpbogalknmcmabBu3
import Derived.Test.YtgpbogalknmcmabBu2
namespace Go.Proofs.Ytgpbogalknmcmab
open Go.ChangeShapes Go.WideShapes Go.ChangeAt Go.RowKit

set_option maxHeartbeats 16000000 in
theorem fnExactTallyAdd_walk (ac : Option Addr) (capc : Nat) (xc : List Int) (t0 : Int) (t1 : Int) (t2 : Int) (at3 : Option Addr) (capt3 : Nat) (xt3 : List Int) (n : Int) (w : World) (_hkc : xc.length ≤ capc) (hmc : xc.length ≤ maxLen) (hic : IntsAt w ac xc) (_hwc : ∀ z ∈ xc, (Lit.int .i64 z).wf = true) (_ht0 : -9223372036854775808 ≤ t0 ∧ t0 ≤ 9223372036854775807) (_ht1 : -9223372036854775808 ≤ t1 ∧ t1 ≤ 9223372036854775807) (_ht2 : -9223372036854775808 ≤ t2 ∧ t2 ≤ 9223372036854775807) (hmxt3 : xt3.length ≤ maxLen ∧ ∀ x ∈ xt3, -9223372036854775808 ≤ x ∧ x ≤ 9223372036854775807) (hixt3 : IntsAt w at3 xt3) (_hn : -9223372036854775808 ≤ n ∧ n ≤ 9223372036854775807) :
    Calls Try.prog 7 #[.slice ac xc.length capc, .agg #[.int .i64 t0, .int .i64 t1, .int .i64 t2, .slice at3 xt3.length capt3], .int .i64 n] w fun e w' => e = .returned (.bool true) ∧ Below w.heap.size w w' := by
  unfold maxLen at hmc
  obtain ⟨_ht01, _ht02⟩ := _ht0
  obtain ⟨_ht11, _ht12⟩ := _ht1
  obtain ⟨_ht21, _ht22⟩ := _ht2
  obtain ⟨hmxt3, _hbxt3⟩ := hmxt3
  unfold maxLen at hmxt3
  obtain ⟨_hn1, _hn2⟩ := _hn
  have hbx0 : Below w.heap.size w (w.alloc (.cells #[.int .i64 t0, .int .i64 t1, .int .i64 t2, .slice at3 xt3.length capt3] 48)) := (Below.refl w.heap.size w).alloc (by first | exact Nat.le_refl _ | (simp only [World.size_alloc]; omega)) _
  have hsx0 := Str.new (w) 48 #[.int .i64 t0, .int .i64 t1, .int .i64 t2, .slice at3 xt3.length capt3]
  by_cases hlc : xc.length ≤ 1048576
  case neg =>
    go_enter Try.func7, Try.ntmps7
    go_wp2
    go_ret
    exact ⟨rfl, hbx0⟩
  have Hic := Lib.hid hic; clear hic
  have Hixt3 := Lib.hid hixt3; clear hixt3
  have hzx : (w.alloc (.cells #[.int .i64 t0, .int .i64 t1, .int .i64 t2, .slice at3 xt3.length capt3] 48)).heap.size = w.heap.size + 1 := by simp
  have Stb := Lib.hid (show Str (w.alloc (.cells #[.int .i64 t0, .int .i64 t1, .int .i64 t2, .slice at3 xt3.length capt3] 48)) (w.heap.size) 48 #[.int .i64 t0, .int .i64 t1, .int .i64 t2, .slice at3 xt3.length capt3] by simpa using hsx0)
  clear hsx0
  have Hb0 := Lib.hid hbx0
  clear hbx0
  have Hszt := Lib.hid (fun w => laws_szTallyR t0 t1 t2 at3 capt3 xt3 (1048576) w (by omega) (by omega))
  go_enter Try.func7, Try.ntmps7
  have qtb_0 := Stb.out.cell 0 (v := .int .i64 t0) rfl
  have qtb_1 := Stb.out.cell 1 (v := .int .i64 t1) rfl
  have qtb_2 := Stb.out.cell 2 (v := .int .i64 t2) rfl
  have qtb_3 := Stb.out.cell 3 (v := .slice at3 xt3.length capt3) rfl
  go_wp2_with fail
  generalize (w.alloc (.cells #[.int .i64 t0, .int .i64 t1, .int .i64 t2, .slice at3 xt3.length capt3] 48)) = w0 at *
  refine (Hszt.out _).mono ?_
  rintro e w1 ⟨rfl, hb1⟩
  have Hb1 := Lib.hid (below_step Hb0.out Hb0.out.size hb1)
  have Stb := Lib.hid (show Str w1 w.heap.size 48 #[.int .i64 t0, .int .i64 t1, .int .i64 t2, .slice at3 xt3.length capt3] from ((hb1).block _ Stb.out.lt).trans Stb.out)
  have hz1 := (hb1).size
  clear qtb_0 qtb_1 qtb_2 qtb_3
  by_cases hlxt3 : xt3.length ≤ 1048576
  case neg =>
    rw [if_neg hlxt3]
    go_wp2
    go_ret
    exact ⟨rfl, Hb1.out⟩
  rw [if_pos hlxt3]
  have hnegt : decide ((((1048576 - xt3.length : Nat)) : Int) < 0) = false := decide_eq_false (by omega)
  have hnget : ¬ (((1048576 - xt3.length : Nat) : Int) < 0) := by omega
  have hL2 : (taL xc ⟨t0, t1, t2⟩ xt3 n).length ≤ 1048577 := by have := ta_len xc ⟨t0, t1, t2⟩ xt3 n; omega
  have Hspec := Lib.hid (fun ac cc at_ ct w (_hcc : xc.length ≤ cc) (h : IntsAt w ac xc) (hct : xt3.length ≤ ct) (h' : IntsAt w at_ xt3) (hs : SrcAt w at_ ct xt3) => spec_TallyAdd ac cc xc t0 t1 t2 at_ ct xt3 n w (by omega) (by omega) hct h h' hs)
  have Himpl := Lib.hid (fun ac cc at_ ct w (_hcc : xc.length ≤ cc) (h : IntsAt w ac xc) (hct : xt3.length ≤ ct) (h' : IntsAt w at_ xt3) (hs : SrcAt w at_ ct xt3) => impl_TallyAdd ac cc xc t0 t1 t2 at_ ct xt3 n w (by omega) (by omega) hct h h' hs)
  generalize taL xc ⟨t0, t1, t2⟩ xt3 n = L at *
  generalize (taV xc ⟨t0, t1, t2⟩ xt3 n).r = N0 at *
  generalize (taV xc ⟨t0, t1, t2⟩ xt3 n).a = N1 at *
  generalize (taV xc ⟨t0, t1, t2⟩ xt3 n).d = N2 at *
  generalize taK xc ⟨t0, t1, t2⟩ xt3 n = ok at *
  have qtb_0 := Stb.out.cell 0 (v := .int .i64 t0) rfl
  have qtb_1 := Stb.out.cell 1 (v := .int .i64 t1) rfl
  have qtb_2 := Stb.out.cell 2 (v := .int .i64 t2) rfl
  have qtb_3 := Stb.out.cell 3 (v := .slice at3 xt3.length capt3) rfl
  go_wp2_with fail
  clear qtb_0 qtb_1 qtb_2 qtb_3
  refine Code.wp_mono (Q := fun e a' w' => match e with | .normal => ∃ (OB LO HI : Nat) (acs ats aw0_3 : Option Addr) (ccs cts cw0_3 : Nat), a' = (?Fsw : Nat → Option Addr → Option Addr → Option Addr → Nat → Nat → Nat → Act) OB acs ats aw0_3 ccs cts cw0_3 ∧ Below w1.heap.size w1 w' ∧ Str w' OB 27 #[.int .i64 N0, .int .i64 N1, .int .i64 N2, .slice aw0_3 L.length cw0_3] ∧ OwnI 3 w' LO HI (.slice aw0_3 L.length cw0_3) L ∧ w1.heap.size ≤ OB ∧ w1.heap.size ≤ LO ∧ LO ≤ HI ∧ HI ≤ w'.heap.size ∧ (OB < LO ∨ HI ≤ OB) | _ => False) ?hqw ?hcw
  case hcw =>
    have hdr : Below w1.heap.size w1 w1.drew := (Below.refl _ _).drew
    have Hq := Lib.hid (Below.refl w1.heap.size w1)
    refine wp_region_L 11 (fun w' => w'.cell? ⟨w.heap.size, 0, none⟩ = some (.int .i64 t0) ∧ w'.cell? ⟨w.heap.size, 1, none⟩ = some (.int .i64 t1) ∧ w'.cell? ⟨w.heap.size, 2, none⟩ = some (.int .i64 t2) ∧ w'.cell? ⟨w.heap.size, 3, none⟩ = some (.slice at3 xt3.length capt3)) (by kernel_rfl) ⟨Stb.out.cell 0 (v := .int .i64 t0) rfl, Stb.out.cell 1 (v := .int .i64 t1) rfl, Stb.out.cell 2 (v := .int .i64 t2) rfl, Stb.out.cell 3 (v := .slice at3 xt3.length capt3) rfl⟩ (fun hH => ?_)
    generalize w1.drew = w2 at *
    have Hb2 := Lib.hid (below_step Hb1.out Hb1.out.size hdr)
    have Hq := Lib.hid (below_step Hq.out Hq.out.size hdr)
    have Stb := Lib.hid (show Str w2 w.heap.size 48 #[.int .i64 t0, .int .i64 t1, .int .i64 t2, .slice at3 xt3.length capt3] from ((hdr).block _ Stb.out.lt).trans Stb.out)
    have hz2 := (hdr).size
    clear hdr
    refine takeL 0 (v := ?vsw1) rfl (by kernel_rfl) (by kernel_rfl) (by kernel_rfl) (by kernel_rfl) (by kernel_rfl) (fun _ _ _ h => h) hH rfl ?ysw1 ?rsw1
    case ysw1 => intro W hSw; go_simp; try with_reducible rfl
    try simp only [Act.put, List.setIfInBounds_toArray, List.set_cons_zero, List.set_cons_succ]
    refine takeL 2 (v := ?vsw2) rfl (by kernel_rfl) (by kernel_rfl) (by kernel_rfl) (by kernel_rfl) (by kernel_rfl) (fun _ _ _ h => h) hH rfl ?ysw2 ?rsw2
    case ysw2 => intro W hSw; go_simp; try with_reducible rfl
    try simp only [Act.put, List.setIfInBounds_toArray, List.set_cons_zero, List.set_cons_succ]
    refine takeL 4 (v := ?vsw3) rfl (by kernel_rfl) (by kernel_rfl) (by kernel_rfl) (by kernel_rfl) (by kernel_rfl) (fun _ _ _ h => h) hH rfl ?ysw3 ?rsw3
    case ysw3 => intro W hSw; go_simp; try with_reducible rfl
    try simp only [Act.put, List.setIfInBounds_toArray, List.set_cons_zero, List.set_cons_succ]
    refine twoL 1 9 rfl rfl (by kernel_rfl) rfl rfl (fun K hK => ?_) (fun K hK => ?_)
    rotate_left
    · skip
      go_simp
      have hal : Below w2.heap.size w2 (w2.alloc (.cells #[.int .i64 0, .int .i64 0, .int .i64 0, .slice none 0 0] 27)) := (Below.refl _ _).alloc (Nat.le_refl _) _
      have sN := Str.new w2 27 #[.int .i64 0, .int .i64 0, .int .i64 0, .slice none 0 0]
      have hzn : w2.heap.size < (w2.alloc (.cells #[.int .i64 0, .int .i64 0, .int .i64 0, .slice none 0 0] 27)).heap.size := by simp
      generalize hwn : (w2.alloc (.cells #[.int .i64 0, .int .i64 0, .int .i64 0, .slice none 0 0] 27)) = w3 at *
      have Hb3 := Lib.hid (below_step Hb2.out Hb2.out.size hal)
      have Hq := Lib.hid (below_step Hq.out Hq.out.size hal)
      have Stb := Lib.hid (show Str w3 w.heap.size 48 #[.int .i64 t0, .int .i64 t1, .int .i64 t2, .slice at3 xt3.length capt3] from ((hal).block _ Stb.out.lt).trans Stb.out)
      have hz3 := (hal).size
      have Sw0 := Lib.hid sN; clear sN hal hwn
      refine hK.out _ _ ⟨Stb.out.cell 0 (v := .int .i64 t0) rfl, Stb.out.cell 1 (v := .int .i64 t1) rfl, Stb.out.cell 2 (v := .int .i64 t2) rfl, Stb.out.cell 3 (v := .slice at3 xt3.length capt3) rfl⟩ (fun hH => ?_)
      clear hK K
      try simp only [Act.put, List.setIfInBounds_toArray, List.set_cons_zero, List.set_cons_succ]
      refine callL 1 rfl (by kernel_rfl) rfl (fun K hK => ?_)
      go_simp
      refine (laws_toIntS ac capc xc _ (by omega) (Hic.out.below Hb3.out)).mono ?_
      rintro e w4 ⟨vcs, rfl, hocs, hb4⟩
      have Hb4 := Lib.hid (below_step Hb3.out Hb3.out.size hb4)
      have Hq := Lib.hid (below_step Hq.out Hq.out.size hb4)
      have Stb := Lib.hid (show Str w4 w.heap.size 48 #[.int .i64 t0, .int .i64 t1, .int .i64 t2, .slice at3 xt3.length capt3] from ((hb4).block _ Stb.out.lt).trans Stb.out)
      have Sw0 := Lib.hid (show Str w4 w2.heap.size 27 #[.int .i64 0, .int .i64 0, .int .i64 0, .slice none 0 0] from ((hb4).block _ Sw0.out.lt).trans Sw0.out)
      have hz4 := (hb4).size
      have Hcs := Lib.hid (OwnI.of hocs); clear hocs
      obtain ⟨acs, ccs, rfl, _, _⟩ := Hcs.out.ints
      have hccs := Hcs.out.cap
      have hhcs : w3.heap.size ≤ w3.heap.size := Nat.le_refl _
      have hjcs : w4.heap.size ≤ w4.heap.size := Nat.le_refl _
      dsimp only
      refine hK.out _ _ ⟨Stb.out.cell 0 (v := .int .i64 t0) rfl, Stb.out.cell 1 (v := .int .i64 t1) rfl, Stb.out.cell 2 (v := .int .i64 t2) rfl, Stb.out.cell 3 (v := .slice at3 xt3.length capt3) rfl⟩ (fun hH => ?_)
      clear hK K
      try simp only [Act.put, List.setIfInBounds_toArray, List.set_cons_zero, List.set_cons_succ]
      refine callL 3 rfl (by kernel_rfl) rfl (fun K hK => ?_)
      go_simp
      refine (laws_toTallyR t0 t1 t2 at3 capt3 xt3 _ (by omega) (Hixt3.out.below Hb4.out)).mono ?_
      rintro e w5 ⟨vts, rfl, hots, hb5⟩
      have Hb5 := Lib.hid (below_step Hb4.out Hb4.out.size hb5)
      have Hq := Lib.hid (below_step Hq.out Hq.out.size hb5)
      have Hcs := Lib.hid (Hcs.out.below hb5)
      have Stb := Lib.hid (show Str w5 w.heap.size 48 #[.int .i64 t0, .int .i64 t1, .int .i64 t2, .slice at3 xt3.length capt3] from ((hb5).block _ Stb.out.lt).trans Stb.out)
      have Sw0 := Lib.hid (show Str w5 w2.heap.size 27 #[.int .i64 0, .int .i64 0, .int .i64 0, .slice none 0 0] from ((hb5).block _ Sw0.out.lt).trans Sw0.out)
      have hz5 := (hb5).size
      have Hts := Lib.hid (OwnI.of hots); clear hots
      obtain ⟨ats, cts, rfl, _, _⟩ := Hts.out.ints
      have hcts := Hts.out.cap
      have hhts : w4.heap.size ≤ w4.heap.size := Nat.le_refl _
      have hjts : w5.heap.size ≤ w5.heap.size := Nat.le_refl _
      dsimp only
      refine hK.out _ _ ⟨Stb.out.cell 0 (v := .int .i64 t0) rfl, Stb.out.cell 1 (v := .int .i64 t1) rfl, Stb.out.cell 2 (v := .int .i64 t2) rfl, Stb.out.cell 3 (v := .slice at3 xt3.length capt3) rfl⟩ (fun hH => ?_)
      clear hK K
      try simp only [Act.put, List.setIfInBounds_toArray, List.set_cons_zero, List.set_cons_succ]
      refine callL 5 rfl (by kernel_rfl) rfl (fun K hK => ?_)
      go_simp
      refine (Hspec.out acs ccs ats cts _ hccs Hcs.out.at hcts Hts.out.at (own_src Hts.out.own)).mono ?_
      rintro e w6 ⟨vw0_3, rfl, how0_3, hb6⟩
      have Hb6 := Lib.hid (below_step Hb5.out Hb5.out.size hb6)
      have Hq := Lib.hid (below_step Hq.out Hq.out.size hb6)
      have Hcs := Lib.hid (Hcs.out.below hb6)
      have Hts := Lib.hid (Hts.out.below hb6)
      have Stb := Lib.hid (show Str w6 w.heap.size 48 #[.int .i64 t0, .int .i64 t1, .int .i64 t2, .slice at3 xt3.length capt3] from ((hb6).block _ Stb.out.lt).trans Stb.out)
      have Sw0 := Lib.hid (show Str w6 w2.heap.size 27 #[.int .i64 0, .int .i64 0, .int .i64 0, .slice none 0 0] from ((hb6).block _ Sw0.out.lt).trans Sw0.out)
      have hz6 := (hb6).size
      have Hw0_3 := Lib.hid (OwnI.of how0_3); clear how0_3
      obtain ⟨aw0_3, cw0_3, rfl, _, _⟩ := Hw0_3.out.ints
      have hcw0_3 := Hw0_3.out.cap
      have hhw0_3 : w5.heap.size ≤ w5.heap.size := Nat.le_refl _
      have hjw0_3 : w6.heap.size ≤ w6.heap.size := Nat.le_refl _
      dsimp only
      refine hK.out _ _ ⟨Stb.out.cell 0 (v := .int .i64 t0) rfl, Stb.out.cell 1 (v := .int .i64 t1) rfl, Stb.out.cell 2 (v := .int .i64 t2) rfl, Stb.out.cell 3 (v := .slice at3 xt3.length capt3) rfl⟩ (fun hH => ?_)
      clear hK K
      try simp only [Act.put, List.setIfInBounds_toArray, List.set_cons_zero, List.set_cons_succ]
      refine takeL 6 (v := ?vsw4) rfl (by kernel_rfl) (by kernel_rfl) (by kernel_rfl) (by kernel_rfl) (by kernel_rfl) (fun _ _ _ h => h) hH rfl ?ysw4 ?rsw4
      case ysw4 => intro W hSw; go_simp; try with_reducible rfl
      try simp only [Act.put, List.setIfInBounds_toArray, List.set_cons_zero, List.set_cons_succ]
      refine takeL 7 (v := ?vsw5) rfl (by kernel_rfl) (by kernel_rfl) (by kernel_rfl) (by kernel_rfl) (by kernel_rfl) (fun _ _ _ h => h) hH rfl ?ysw5 ?rsw5
      case ysw5 => intro W hSw; go_simp; try with_reducible rfl
      try simp only [Act.put, List.setIfInBounds_toArray, List.set_cons_zero, List.set_cons_succ]
      refine takeL 8 (v := ?vsw6) rfl (by kernel_rfl) (by kernel_rfl) (by kernel_rfl) (by kernel_rfl) (by kernel_rfl) (fun _ _ _ h => h) hH rfl ?ysw6 ?rsw6
      case ysw6 => intro W hSw; go_simp; try with_reducible rfl
      try simp only [Act.put, List.setIfInBounds_toArray, List.set_cons_zero, List.set_cons_succ]
      refine callL 10 rfl (by kernel_rfl) rfl (fun K hK => ?_)
      have y0 := Sw0.out.frozen 0
      have y1 := Sw0.out.frozen 1
      have y2 := Sw0.out.frozen 2
      have y3 := Sw0.out.frozen 3
      have g0 := Sw0.out.cell 0 (v := .int .i64 0) rfl
      have g1 := Sw0.out.cell 1 (v := .int .i64 0) rfl
      have g2 := Sw0.out.cell 2 (v := .int .i64 0) rfl
      have g3 := Sw0.out.cell 3 (v := .slice none 0 0) rfl
      go_simp
      clear y0 g0 y1 g1 y2 g2 y3 g3
      have hbt : Btw (w2.heap.size) (w2.heap.size + 1) w6 ((((w6.setCell ⟨w2.heap.size, 0, none⟩ (.int .i64 N0)).setCell ⟨w2.heap.size, 1, none⟩ (.int .i64 N1)).setCell ⟨w2.heap.size, 2, none⟩ (.int .i64 N2)).setCell ⟨w2.heap.size, 3, none⟩ (.slice aw0_3 L.length cw0_3)) := ((((Btw.set w6 (Nat.le_refl (w2.heap.size)) (Nat.lt_succ_self _) 0 (.int .i64 N0)).trans (Btw.set (w6.setCell ⟨w2.heap.size, 0, none⟩ (.int .i64 N0)) (Nat.le_refl (w2.heap.size)) (Nat.lt_succ_self _) 1 (.int .i64 N1))).trans (Btw.set ((w6.setCell ⟨w2.heap.size, 0, none⟩ (.int .i64 N0)).setCell ⟨w2.heap.size, 1, none⟩ (.int .i64 N1)) (Nat.le_refl (w2.heap.size)) (Nat.lt_succ_self _) 2 (.int .i64 N2))).trans (Btw.set (((w6.setCell ⟨w2.heap.size, 0, none⟩ (.int .i64 N0)).setCell ⟨w2.heap.size, 1, none⟩ (.int .i64 N1)).setCell ⟨w2.heap.size, 2, none⟩ (.int .i64 N2)) (Nat.le_refl (w2.heap.size)) (Nat.lt_succ_self _) 3 (.slice aw0_3 L.length cw0_3)))
      have sO : Str ((((w6.setCell ⟨w2.heap.size, 0, none⟩ (.int .i64 N0)).setCell ⟨w2.heap.size, 1, none⟩ (.int .i64 N1)).setCell ⟨w2.heap.size, 2, none⟩ (.int .i64 N2)).setCell ⟨w2.heap.size, 3, none⟩ (.slice aw0_3 L.length cw0_3)) (w2.heap.size) 27 #[.int .i64 N0, .int .i64 N1, .int .i64 N2, .slice aw0_3 L.length cw0_3] := ((((Sw0.out.set 0 (.int .i64 N0)).set 1 (.int .i64 N1)).set 2 (.int .i64 N2)).set 3 (.slice aw0_3 L.length cw0_3))
      generalize ((((w6.setCell ⟨w2.heap.size, 0, none⟩ (.int .i64 N0)).setCell ⟨w2.heap.size, 1, none⟩ (.int .i64 N1)).setCell ⟨w2.heap.size, 2, none⟩ (.int .i64 N2)).setCell ⟨w2.heap.size, 3, none⟩ (.slice aw0_3 L.length cw0_3)) = w7 at *
      have hz7 := hbt.size
      have Hq := Lib.hid (hbt.below Hq.out Hq.out.size (by omega))
      have Stb := Lib.hid (Stb.out.btw hbt (by first | exact .inl (by omega) | exact .inr (by omega) | omega))
      have Hw0_3 := Lib.hid (Hw0_3.out.btw hbt (by first | exact .inl (by omega) | exact .inr (by omega) | omega))
      clear hbt
      refine hK.out _ _ ⟨Stb.out.cell 0 (v := .int .i64 t0) rfl, Stb.out.cell 1 (v := .int .i64 t1) rfl, Stb.out.cell 2 (v := .int .i64 t2) rfl, Stb.out.cell 3 (v := .slice at3 xt3.length capt3) rfl⟩ (fun hH => ?_)
      clear hK K
      try simp only [Act.put, List.setIfInBounds_toArray, List.set_cons_zero, List.set_cons_succ]
      refine lastL rfl (by kernel_rfl) (by kernel_rfl) (by kernel_rfl) rfl (fun K hK => ?_)
      go_simp
      have z2 : w1.heap.size ≤ w5.heap.size := by omega
      have z3 : w5.heap.size ≤ w6.heap.size := by omega
      have z4 : w6.heap.size ≤ w7.heap.size := by omega
      have Ho9 := Hw0_3.out
      clear hH
      obtain ⟨OB, hOB⟩ : ∃ OB, OB = w2.heap.size := ⟨_, rfl⟩
      have z1 : w1.heap.size ≤ OB := by omega
      have z5 : OB < w5.heap.size ∨ w6.heap.size ≤ OB := (by first | exact .inl (by omega) | exact .inr (by omega) | omega)
      rw [← hOB] at sO ⊢
      refine hK.out _ _ ⟨OB, w5.heap.size, w6.heap.size, acs, ats, aw0_3, ccs, cts, cw0_3, ?_, Hq.out, sO, Ho9, z1, z2, z3, z4, z5⟩
      rfl
    go_simp
    refine (laws_toIntS ac capc xc _ (by omega) (Hic.out.below Hb2.out)).mono ?_
    rintro e w3 ⟨vcs, rfl, hocs, hb3⟩
    have Hb3 := Lib.hid (below_step Hb2.out Hb2.out.size hb3)
    have Hq := Lib.hid (below_step Hq.out Hq.out.size hb3)
    have Stb := Lib.hid (show Str w3 w.heap.size 48 #[.int .i64 t0, .int .i64 t1, .int .i64 t2, .slice at3 xt3.length capt3] from ((hb3).block _ Stb.out.lt).trans Stb.out)
    have hz3 := (hb3).size
    have Hcs := Lib.hid (OwnI.of hocs); clear hocs
    obtain ⟨acs, ccs, rfl, _, _⟩ := Hcs.out.ints
    have hccs := Hcs.out.cap
    have hhcs : w2.heap.size ≤ w2.heap.size := Nat.le_refl _
    have hjcs : w3.heap.size ≤ w3.heap.size := Nat.le_refl _
    dsimp only
    refine hK.out _ _ ⟨Stb.out.cell 0 (v := .int .i64 t0) rfl, Stb.out.cell 1 (v := .int .i64 t1) rfl, Stb.out.cell 2 (v := .int .i64 t2) rfl, Stb.out.cell 3 (v := .slice at3 xt3.length capt3) rfl⟩ (fun hH => ?_)
    clear hK K
    try simp only [Act.put, List.setIfInBounds_toArray, List.set_cons_zero, List.set_cons_succ]
    refine twoL 3 9 rfl rfl (by kernel_rfl) rfl rfl (fun K hK => ?_) (fun K hK => ?_)
    rotate_left
    · skip
      go_simp
      have hal : Below w3.heap.size w3 (w3.alloc (.cells #[.int .i64 0, .int .i64 0, .int .i64 0, .slice none 0 0] 27)) := (Below.refl _ _).alloc (Nat.le_refl _) _
      have sN := Str.new w3 27 #[.int .i64 0, .int .i64 0, .int .i64 0, .slice none 0 0]
      have hzn : w3.heap.size < (w3.alloc (.cells #[.int .i64 0, .int .i64 0, .int .i64 0, .slice none 0 0] 27)).heap.size := by simp
      generalize hwn : (w3.alloc (.cells #[.int .i64 0, .int .i64 0, .int .i64 0, .slice none 0 0] 27)) = w4 at *
      have Hb4 := Lib.hid (below_step Hb3.out Hb3.out.size hal)
      have Hq := Lib.hid (below_step Hq.out Hq.out.size hal)
      have Hcs := Lib.hid (Hcs.out.below hal)
      have Stb := Lib.hid (show Str w4 w.heap.size 48 #[.int .i64 t0, .int .i64 t1, .int .i64 t2, .slice at3 xt3.length capt3] from ((hal).block _ Stb.out.lt).trans Stb.out)
      have hz4 := (hal).size
      have Sw0 := Lib.hid sN; clear sN hal hwn
      refine hK.out _ _ ⟨Stb.out.cell 0 (v := .int .i64 t0) rfl, Stb.out.cell 1 (v := .int .i64 t1) rfl, Stb.out.cell 2 (v := .int .i64 t2) rfl, Stb.out.cell 3 (v := .slice at3 xt3.length capt3) rfl⟩ (fun hH => ?_)
      clear hK K
      try simp only [Act.put, List.setIfInBounds_toArray, List.set_cons_zero, List.set_cons_succ]
      refine callL 3 rfl (by kernel_rfl) rfl (fun K hK => ?_)
      go_simp
      refine (laws_toTallyR t0 t1 t2 at3 capt3 xt3 _ (by omega) (Hixt3.out.below Hb4.out)).mono ?_
      rintro e w5 ⟨vts, rfl, hots, hb5⟩
      have Hb5 := Lib.hid (below_step Hb4.out Hb4.out.size hb5)
      have Hq := Lib.hid (below_step Hq.out Hq.out.size hb5)
      have Hcs := Lib.hid (Hcs.out.below hb5)
      have Stb := Lib.hid (show Str w5 w.heap.size 48 #[.int .i64 t0, .int .i64 t1, .int .i64 t2, .slice at3 xt3.length capt3] from ((hb5).block _ Stb.out.lt).trans Stb.out)
      have Sw0 := Lib.hid (show Str w5 w3.heap.size 27 #[.int .i64 0, .int .i64 0, .int .i64 0, .slice none 0 0] from ((hb5).block _ Sw0.out.lt).trans Sw0.out)
      have hz5 := (hb5).size
      have Hts := Lib.hid (OwnI.of hots); clear hots
      obtain ⟨ats, cts, rfl, _, _⟩ := Hts.out.ints
      have hcts := Hts.out.cap
      have hhts : w4.heap.size ≤ w4.heap.size := Nat.le_refl _
      have hjts : w5.heap.size ≤ w5.heap.size := Nat.le_refl _
      dsimp only
      refine hK.out _ _ ⟨Stb.out.cell 0 (v := .int .i64 t0) rfl, Stb.out.cell 1 (v := .int .i64 t1) rfl, Stb.out.cell 2 (v := .int .i64 t2) rfl, Stb.out.cell 3 (v := .slice at3 xt3.length capt3) rfl⟩ (fun hH => ?_)
      clear hK K
      try simp only [Act.put, List.setIfInBounds_toArray, List.set_cons_zero, List.set_cons_succ]
      refine callL 5 rfl (by kernel_rfl) rfl (fun K hK => ?_)
      go_simp
      refine (Hspec.out acs ccs ats cts _ hccs Hcs.out.at hcts Hts.out.at (own_src Hts.out.own)).mono ?_
      rintro e w6 ⟨vw0_3, rfl, how0_3, hb6⟩
      have Hb6 := Lib.hid (below_step Hb5.out Hb5.out.size hb6)
      have Hq := Lib.hid (below_step Hq.out Hq.out.size hb6)
      have Hcs := Lib.hid (Hcs.out.below hb6)
      have Hts := Lib.hid (Hts.out.below hb6)
      have Stb := Lib.hid (show Str w6 w.heap.size 48 #[.int .i64 t0, .int .i64 t1, .int .i64 t2, .slice at3 xt3.length capt3] from ((hb6).block _ Stb.out.lt).trans Stb.out)
      have Sw0 := Lib.hid (show Str w6 w3.heap.size 27 #[.int .i64 0, .int .i64 0, .int .i64 0, .slice none 0 0] from ((hb6).block _ Sw0.out.lt).trans Sw0.out)
      have hz6 := (hb6).size
      have Hw0_3 := Lib.hid (OwnI.of how0_3); clear how0_3
      obtain ⟨aw0_3, cw0_3, rfl, _, _⟩ := Hw0_3.out.ints
      have hcw0_3 := Hw0_3.out.cap
      have hhw0_3 : w5.heap.size ≤ w5.heap.size := Nat.le_refl _
      have hjw0_3 : w6.heap.size ≤ w6.heap.size := Nat.le_refl _
      dsimp only
      refine hK.out _ _ ⟨Stb.out.cell 0 (v := .int .i64 t0) rfl, Stb.out.cell 1 (v := .int .i64 t1) rfl, Stb.out.cell 2 (v := .int .i64 t2) rfl, Stb.out.cell 3 (v := .slice at3 xt3.length capt3) rfl⟩ (fun hH => ?_)
      clear hK K
      try simp only [Act.put, List.setIfInBounds_toArray, List.set_cons_zero, List.set_cons_succ]
      refine takeL 6 (v := ?vsw7) rfl (by kernel_rfl) (by kernel_rfl) (by kernel_rfl) (by kernel_rfl) (by kernel_rfl) (fun _ _ _ h => h) hH rfl ?ysw7 ?rsw7
      case ysw7 => intro W hSw; go_simp; try with_reducible rfl
      try simp only [Act.put, List.setIfInBounds_toArray, List.set_cons_zero, List.set_cons_succ]
      refine takeL 7 (v := ?vsw8) rfl (by kernel_rfl) (by kernel_rfl) (by kernel_rfl) (by kernel_rfl) (by kernel_rfl) (fun _ _ _ h => h) hH rfl ?ysw8 ?rsw8
      case ysw8 => intro W hSw; go_simp; try with_reducible rfl
      try simp only [Act.put, List.setIfInBounds_toArray, List.set_cons_zero, List.set_cons_succ]
      refine takeL 8 (v := ?vsw9) rfl (by kernel_rfl) (by kernel_rfl) (by kernel_rfl) (by kernel_rfl) (by kernel_rfl) (fun _ _ _ h => h) hH rfl ?ysw9 ?rsw9
      case ysw9 => intro W hSw; go_simp; try with_reducible rfl
      try simp only [Act.put, List.setIfInBounds_toArray, List.set_cons_zero, List.set_cons_succ]
      refine callL 10 rfl (by kernel_rfl) rfl (fun K hK => ?_)
      have y0 := Sw0.out.frozen 0
      have y1 := Sw0.out.frozen 1
      have y2 := Sw0.out.frozen 2
      have y3 := Sw0.out.frozen 3
      have g0 := Sw0.out.cell 0 (v := .int .i64 0) rfl
      have g1 := Sw0.out.cell 1 (v := .int .i64 0) rfl
      have g2 := Sw0.out.cell 2 (v := .int .i64 0) rfl
      have g3 := Sw0.out.cell 3 (v := .slice none 0 0) rfl
      go_simp
      clear y0 g0 y1 g1 y2 g2 y3 g3
      have hbt : Btw (w3.heap.size) (w3.heap.size + 1) w6 ((((w6.setCell ⟨w3.heap.size, 0, none⟩ (.int .i64 N0)).setCell ⟨w3.heap.size, 1, none⟩ (.int .i64 N1)).setCell ⟨w3.heap.size, 2, none⟩ (.int .i64 N2)).setCell ⟨w3.heap.size, 3, none⟩ (.slice aw0_3 L.length cw0_3)) := ((((Btw.set w6 (Nat.le_refl (w3.heap.size)) (Nat.lt_succ_self _) 0 (.int .i64 N0)).trans (Btw.set (w6.setCell ⟨w3.heap.size, 0, none⟩ (.int .i64 N0)) (Nat.le_refl (w3.heap.size)) (Nat.lt_succ_self _) 1 (.int .i64 N1))).trans (Btw.set ((w6.setCell ⟨w3.heap.size, 0, none⟩ (.int .i64 N0)).setCell ⟨w3.heap.size, 1, none⟩ (.int .i64 N1)) (Nat.le_refl (w3.heap.size)) (Nat.lt_succ_self _) 2 (.int .i64 N2))).trans (Btw.set (((w6.setCell ⟨w3.heap.size, 0, none⟩ (.int .i64 N0)).setCell ⟨w3.heap.size, 1, none⟩ (.int .i64 N1)).setCell ⟨w3.heap.size, 2, none⟩ (.int .i64 N2)) (Nat.le_refl (w3.heap.size)) (Nat.lt_succ_self _) 3 (.slice aw0_3 L.length cw0_3)))
      have sO : Str ((((w6.setCell ⟨w3.heap.size, 0, none⟩ (.int .i64 N0)).setCell ⟨w3.heap.size, 1, none⟩ (.int .i64 N1)).setCell ⟨w3.heap.size, 2, none⟩ (.int .i64 N2)).setCell ⟨w3.heap.size, 3, none⟩ (.slice aw0_3 L.length cw0_3)) (w3.heap.size) 27 #[.int .i64 N0, .int .i64 N1, .int .i64 N2, .slice aw0_3 L.length cw0_3] := ((((Sw0.out.set 0 (.int .i64 N0)).set 1 (.int .i64 N1)).set 2 (.int .i64 N2)).set 3 (.slice aw0_3 L.length cw0_3))
      generalize ((((w6.setCell ⟨w3.heap.size, 0, none⟩ (.int .i64 N0)).setCell ⟨w3.heap.size, 1, none⟩ (.int .i64 N1)).setCell ⟨w3.heap.size, 2, none⟩ (.int .i64 N2)).setCell ⟨w3.heap.size, 3, none⟩ (.slice aw0_3 L.length cw0_3)) = w7 at *
      have hz7 := hbt.size
      have Hq := Lib.hid (hbt.below Hq.out Hq.out.size (by omega))
      have Stb := Lib.hid (Stb.out.btw hbt (by first | exact .inl (by omega) | exact .inr (by omega) | omega))
      have Hw0_3 := Lib.hid (Hw0_3.out.btw hbt (by first | exact .inl (by omega) | exact .inr (by omega) | omega))
      clear hbt
      refine hK.out _ _ ⟨Stb.out.cell 0 (v := .int .i64 t0) rfl, Stb.out.cell 1 (v := .int .i64 t1) rfl, Stb.out.cell 2 (v := .int .i64 t2) rfl, Stb.out.cell 3 (v := .slice at3 xt3.length capt3) rfl⟩ (fun hH => ?_)
      clear hK K
      try simp only [Act.put, List.setIfInBounds_toArray, List.set_cons_zero, List.set_cons_succ]
      refine lastL rfl (by kernel_rfl) (by kernel_rfl) (by kernel_rfl) rfl (fun K hK => ?_)
      go_simp
      have z2 : w1.heap.size ≤ w5.heap.size := by omega
      have z3 : w5.heap.size ≤ w6.heap.size := by omega
      have z4 : w6.heap.size ≤ w7.heap.size := by omega
      have Ho9 := Hw0_3.out
      clear hH
      obtain ⟨OB, hOB⟩ : ∃ OB, OB = w3.heap.size := ⟨_, rfl⟩
      have z1 : w1.heap.size ≤ OB := by omega
      have z5 : OB < w5.heap.size ∨ w6.heap.size ≤ OB := (by first | exact .inl (by omega) | exact .inr (by omega) | omega)
      rw [← hOB] at sO ⊢
      refine hK.out _ _ ⟨OB, w5.heap.size, w6.heap.size, acs, ats, aw0_3, ccs, cts, cw0_3, ?_, Hq.out, sO, Ho9, z1, z2, z3, z4, z5⟩
      rfl
    go_simp
    refine (laws_toTallyR t0 t1 t2 at3 capt3 xt3 _ (by omega) (Hixt3.out.below Hb3.out)).mono ?_
    rintro e w4 ⟨vts, rfl, hots, hb4⟩
    have Hb4 := Lib.hid (below_step Hb3.out Hb3.out.size hb4)
    have Hq := Lib.hid (below_step Hq.out Hq.out.size hb4)
    have Hcs := Lib.hid (Hcs.out.below hb4)
    have Stb := Lib.hid (show Str w4 w.heap.size 48 #[.int .i64 t0, .int .i64 t1, .int .i64 t2, .slice at3 xt3.length capt3] from ((hb4).block _ Stb.out.lt).trans Stb.out)
    have hz4 := (hb4).size
    have Hts := Lib.hid (OwnI.of hots); clear hots
    obtain ⟨ats, cts, rfl, _, _⟩ := Hts.out.ints
    have hcts := Hts.out.cap
    have hhts : w3.heap.size ≤ w3.heap.size := Nat.le_refl _
    have hjts : w4.heap.size ≤ w4.heap.size := Nat.le_refl _
    dsimp only
    refine hK.out _ _ ⟨Stb.out.cell 0 (v := .int .i64 t0) rfl, Stb.out.cell 1 (v := .int .i64 t1) rfl, Stb.out.cell 2 (v := .int .i64 t2) rfl, Stb.out.cell 3 (v := .slice at3 xt3.length capt3) rfl⟩ (fun hH => ?_)
    clear hK K
    try simp only [Act.put, List.setIfInBounds_toArray, List.set_cons_zero, List.set_cons_succ]
    refine twoL 5 9 rfl rfl (by kernel_rfl) rfl rfl (fun K hK => ?_) (fun K hK => ?_)
    rotate_left
    · skip
      go_simp
      have hal : Below w4.heap.size w4 (w4.alloc (.cells #[.int .i64 0, .int .i64 0, .int .i64 0, .slice none 0 0] 27)) := (Below.refl _ _).alloc (Nat.le_refl _) _
      have sN := Str.new w4 27 #[.int .i64 0, .int .i64 0, .int .i64 0, .slice none 0 0]
      have hzn : w4.heap.size < (w4.alloc (.cells #[.int .i64 0, .int .i64 0, .int .i64 0, .slice none 0 0] 27)).heap.size := by simp
      generalize hwn : (w4.alloc (.cells #[.int .i64 0, .int .i64 0, .int .i64 0, .slice none 0 0] 27)) = w5 at *
      have Hb5 := Lib.hid (below_step Hb4.out Hb4.out.size hal)
      have Hq := Lib.hid (below_step Hq.out Hq.out.size hal)
      have Hcs := Lib.hid (Hcs.out.below hal)
      have Hts := Lib.hid (Hts.out.below hal)
      have Stb := Lib.hid (show Str w5 w.heap.size 48 #[.int .i64 t0, .int .i64 t1, .int .i64 t2, .slice at3 xt3.length capt3] from ((hal).block _ Stb.out.lt).trans Stb.out)
      have hz5 := (hal).size
      have Sw0 := Lib.hid sN; clear sN hal hwn
      refine hK.out _ _ ⟨Stb.out.cell 0 (v := .int .i64 t0) rfl, Stb.out.cell 1 (v := .int .i64 t1) rfl, Stb.out.cell 2 (v := .int .i64 t2) rfl, Stb.out.cell 3 (v := .slice at3 xt3.length capt3) rfl⟩ (fun hH => ?_)
      clear hK K
      try simp only [Act.put, List.setIfInBounds_toArray, List.set_cons_zero, List.set_cons_succ]
      refine callL 5 rfl (by kernel_rfl) rfl (fun K hK => ?_)
      go_simp
      refine (Hspec.out acs ccs ats cts _ hccs Hcs.out.at hcts Hts.out.at (own_src Hts.out.own)).mono ?_
      rintro e w6 ⟨vw0_3, rfl, how0_3, hb6⟩
      have Hb6 := Lib.hid (below_step Hb5.out Hb5.out.size hb6)
      have Hq := Lib.hid (below_step Hq.out Hq.out.size hb6)
      have Hcs := Lib.hid (Hcs.out.below hb6)
      have Hts := Lib.hid (Hts.out.below hb6)
      have Stb := Lib.hid (show Str w6 w.heap.size 48 #[.int .i64 t0, .int .i64 t1, .int .i64 t2, .slice at3 xt3.length capt3] from ((hb6).block _ Stb.out.lt).trans Stb.out)
      have Sw0 := Lib.hid (show Str w6 w4.heap.size 27 #[.int .i64 0, .int .i64 0, .int .i64 0, .slice none 0 0] from ((hb6).block _ Sw0.out.lt).trans Sw0.out)
      have hz6 := (hb6).size
      have Hw0_3 := Lib.hid (OwnI.of how0_3); clear how0_3
      obtain ⟨aw0_3, cw0_3, rfl, _, _⟩ := Hw0_3.out.ints
      have hcw0_3 := Hw0_3.out.cap
      have hhw0_3 : w5.heap.size ≤ w5.heap.size := Nat.le_refl _
      have hjw0_3 : w6.heap.size ≤ w6.heap.size := Nat.le_refl _
      dsimp only
      refine hK.out _ _ ⟨Stb.out.cell 0 (v := .int .i64 t0) rfl, Stb.out.cell 1 (v := .int .i64 t1) rfl, Stb.out.cell 2 (v := .int .i64 t2) rfl, Stb.out.cell 3 (v := .slice at3 xt3.length capt3) rfl⟩ (fun hH => ?_)
      clear hK K
      try simp only [Act.put, List.setIfInBounds_toArray, List.set_cons_zero, List.set_cons_succ]
      refine takeL 6 (v := ?vsw10) rfl (by kernel_rfl) (by kernel_rfl) (by kernel_rfl) (by kernel_rfl) (by kernel_rfl) (fun _ _ _ h => h) hH rfl ?ysw10 ?rsw10
      case ysw10 => intro W hSw; go_simp; try with_reducible rfl
      try simp only [Act.put, List.setIfInBounds_toArray, List.set_cons_zero, List.set_cons_succ]
      refine takeL 7 (v := ?vsw11) rfl (by kernel_rfl) (by kernel_rfl) (by kernel_rfl) (by kernel_rfl) (by kernel_rfl) (fun _ _ _ h => h) hH rfl ?ysw11 ?rsw11
      case ysw11 => intro W hSw; go_simp; try with_reducible rfl
      try simp only [Act.put, List.setIfInBounds_toArray, List.set_cons_zero, List.set_cons_succ]
      refine takeL 8 (v := ?vsw12) rfl (by kernel_rfl) (by kernel_rfl) (by kernel_rfl) (by kernel_rfl) (by kernel_rfl) (fun _ _ _ h => h) hH rfl ?ysw12 ?rsw12
      case ysw12 => intro W hSw; go_simp; try with_reducible rfl
      try simp only [Act.put, List.setIfInBounds_toArray, List.set_cons_zero, List.set_cons_succ]
      refine callL 10 rfl (by kernel_rfl) rfl (fun K hK => ?_)
      have y0 := Sw0.out.frozen 0
      have y1 := Sw0.out.frozen 1
      have y2 := Sw0.out.frozen 2
      have y3 := Sw0.out.frozen 3
      have g0 := Sw0.out.cell 0 (v := .int .i64 0) rfl
      have g1 := Sw0.out.cell 1 (v := .int .i64 0) rfl
      have g2 := Sw0.out.cell 2 (v := .int .i64 0) rfl
      have g3 := Sw0.out.cell 3 (v := .slice none 0 0) rfl
      go_simp
      clear y0 g0 y1 g1 y2 g2 y3 g3
      have hbt : Btw (w4.heap.size) (w4.heap.size + 1) w6 ((((w6.setCell ⟨w4.heap.size, 0, none⟩ (.int .i64 N0)).setCell ⟨w4.heap.size, 1, none⟩ (.int .i64 N1)).setCell ⟨w4.heap.size, 2, none⟩ (.int .i64 N2)).setCell ⟨w4.heap.size, 3, none⟩ (.slice aw0_3 L.length cw0_3)) := ((((Btw.set w6 (Nat.le_refl (w4.heap.size)) (Nat.lt_succ_self _) 0 (.int .i64 N0)).trans (Btw.set (w6.setCell ⟨w4.heap.size, 0, none⟩ (.int .i64 N0)) (Nat.le_refl (w4.heap.size)) (Nat.lt_succ_self _) 1 (.int .i64 N1))).trans (Btw.set ((w6.setCell ⟨w4.heap.size, 0, none⟩ (.int .i64 N0)).setCell ⟨w4.heap.size, 1, none⟩ (.int .i64 N1)) (Nat.le_refl (w4.heap.size)) (Nat.lt_succ_self _) 2 (.int .i64 N2))).trans (Btw.set (((w6.setCell ⟨w4.heap.size, 0, none⟩ (.int .i64 N0)).setCell ⟨w4.heap.size, 1, none⟩ (.int .i64 N1)).setCell ⟨w4.heap.size, 2, none⟩ (.int .i64 N2)) (Nat.le_refl (w4.heap.size)) (Nat.lt_succ_self _) 3 (.slice aw0_3 L.length cw0_3)))
      have sO : Str ((((w6.setCell ⟨w4.heap.size, 0, none⟩ (.int .i64 N0)).setCell ⟨w4.heap.size, 1, none⟩ (.int .i64 N1)).setCell ⟨w4.heap.size, 2, none⟩ (.int .i64 N2)).setCell ⟨w4.heap.size, 3, none⟩ (.slice aw0_3 L.length cw0_3)) (w4.heap.size) 27 #[.int .i64 N0, .int .i64 N1, .int .i64 N2, .slice aw0_3 L.length cw0_3] := ((((Sw0.out.set 0 (.int .i64 N0)).set 1 (.int .i64 N1)).set 2 (.int .i64 N2)).set 3 (.slice aw0_3 L.length cw0_3))
      generalize ((((w6.setCell ⟨w4.heap.size, 0, none⟩ (.int .i64 N0)).setCell ⟨w4.heap.size, 1, none⟩ (.int .i64 N1)).setCell ⟨w4.heap.size, 2, none⟩ (.int .i64 N2)).setCell ⟨w4.heap.size, 3, none⟩ (.slice aw0_3 L.length cw0_3)) = w7 at *
      have hz7 := hbt.size
      have Hq := Lib.hid (hbt.below Hq.out Hq.out.size (by omega))
      have Stb := Lib.hid (Stb.out.btw hbt (by first | exact .inl (by omega) | exact .inr (by omega) | omega))
      have Hw0_3 := Lib.hid (Hw0_3.out.btw hbt (by first | exact .inl (by omega) | exact .inr (by omega) | omega))
      clear hbt
      refine hK.out _ _ ⟨Stb.out.cell 0 (v := .int .i64 t0) rfl, Stb.out.cell 1 (v := .int .i64 t1) rfl, Stb.out.cell 2 (v := .int .i64 t2) rfl, Stb.out.cell 3 (v := .slice at3 xt3.length capt3) rfl⟩ (fun hH => ?_)
      clear hK K
      try simp only [Act.put, List.setIfInBounds_toArray, List.set_cons_zero, List.set_cons_succ]
      refine lastL rfl (by kernel_rfl) (by kernel_rfl) (by kernel_rfl) rfl (fun K hK => ?_)
      go_simp
      have z2 : w1.heap.size ≤ w5.heap.size := by omega
      have z3 : w5.heap.size ≤ w6.heap.size := by omega
      have z4 : w6.heap.size ≤ w7.heap.size := by omega
      have Ho9 := Hw0_3.out
      clear hH
      obtain ⟨OB, hOB⟩ : ∃ OB, OB = w4.heap.size := ⟨_, rfl⟩
      have z1 : w1.heap.size ≤ OB := by omega
      have z5 : OB < w5.heap.size ∨ w6.heap.size ≤ OB := (by first | exact .inl (by omega) | exact .inr (by omega) | omega)
      rw [← hOB] at sO ⊢
      refine hK.out _ _ ⟨OB, w5.heap.size, w6.heap.size, acs, ats, aw0_3, ccs, cts, cw0_3, ?_, Hq.out, sO, Ho9, z1, z2, z3, z4, z5⟩
      rfl
    go_simp
    refine (Hspec.out acs ccs ats cts _ hccs Hcs.out.at hcts Hts.out.at (own_src Hts.out.own)).mono ?_
    rintro e w5 ⟨vw0_3, rfl, how0_3, hb5⟩
    have Hb5 := Lib.hid (below_step Hb4.out Hb4.out.size hb5)
    have Hq := Lib.hid (below_step Hq.out Hq.out.size hb5)
    have Hcs := Lib.hid (Hcs.out.below hb5)
    have Hts := Lib.hid (Hts.out.below hb5)
    have Stb := Lib.hid (show Str w5 w.heap.size 48 #[.int .i64 t0, .int .i64 t1, .int .i64 t2, .slice at3 xt3.length capt3] from ((hb5).block _ Stb.out.lt).trans Stb.out)
    have hz5 := (hb5).size
    have Hw0_3 := Lib.hid (OwnI.of how0_3); clear how0_3
    obtain ⟨aw0_3, cw0_3, rfl, _, _⟩ := Hw0_3.out.ints
    have hcw0_3 := Hw0_3.out.cap
    have hhw0_3 : w4.heap.size ≤ w4.heap.size := Nat.le_refl _
    have hjw0_3 : w5.heap.size ≤ w5.heap.size := Nat.le_refl _
    dsimp only
    refine hK.out _ _ ⟨Stb.out.cell 0 (v := .int .i64 t0) rfl, Stb.out.cell 1 (v := .int .i64 t1) rfl, Stb.out.cell 2 (v := .int .i64 t2) rfl, Stb.out.cell 3 (v := .slice at3 xt3.length capt3) rfl⟩ (fun hH => ?_)
    clear hK K
    try simp only [Act.put, List.setIfInBounds_toArray, List.set_cons_zero, List.set_cons_succ]
    refine takeL 6 (v := ?vsw13) rfl (by kernel_rfl) (by kernel_rfl) (by kernel_rfl) (by kernel_rfl) (by kernel_rfl) (fun _ _ _ h => h) hH rfl ?ysw13 ?rsw13
    case ysw13 => intro W hSw; go_simp; try with_reducible rfl
    try simp only [Act.put, List.setIfInBounds_toArray, List.set_cons_zero, List.set_cons_succ]
    refine takeL 7 (v := ?vsw14) rfl (by kernel_rfl) (by kernel_rfl) (by kernel_rfl) (by kernel_rfl) (by kernel_rfl) (fun _ _ _ h => h) hH rfl ?ysw14 ?rsw14
    case ysw14 => intro W hSw; go_simp; try with_reducible rfl
    try simp only [Act.put, List.setIfInBounds_toArray, List.set_cons_zero, List.set_cons_succ]
    refine takeL 8 (v := ?vsw15) rfl (by kernel_rfl) (by kernel_rfl) (by kernel_rfl) (by kernel_rfl) (by kernel_rfl) (fun _ _ _ h => h) hH rfl ?ysw15 ?rsw15
    case ysw15 => intro W hSw; go_simp; try with_reducible rfl
    try simp only [Act.put, List.setIfInBounds_toArray, List.set_cons_zero, List.set_cons_succ]
    refine callL 9 rfl (by kernel_rfl) rfl (fun K hK => ?_)
    go_simp
    have hal : Below w5.heap.size w5 (w5.alloc (.cells #[.int .i64 0, .int .i64 0, .int .i64 0, .slice none 0 0] 27)) := (Below.refl _ _).alloc (Nat.le_refl _) _
    have sN := Str.new w5 27 #[.int .i64 0, .int .i64 0, .int .i64 0, .slice none 0 0]
    have hzn : w5.heap.size < (w5.alloc (.cells #[.int .i64 0, .int .i64 0, .int .i64 0, .slice none 0 0] 27)).heap.size := by simp
    generalize hwn : (w5.alloc (.cells #[.int .i64 0, .int .i64 0, .int .i64 0, .slice none 0 0] 27)) = w6 at *
    have Hb6 := Lib.hid (below_step Hb5.out Hb5.out.size hal)
    have Hq := Lib.hid (below_step Hq.out Hq.out.size hal)
    have Hcs := Lib.hid (Hcs.out.below hal)
    have Hts := Lib.hid (Hts.out.below hal)
    have Hw0_3 := Lib.hid (Hw0_3.out.below hal)
    have Stb := Lib.hid (show Str w6 w.heap.size 48 #[.int .i64 t0, .int .i64 t1, .int .i64 t2, .slice at3 xt3.length capt3] from ((hal).block _ Stb.out.lt).trans Stb.out)
    have hz6 := (hal).size
    have Sw0 := Lib.hid sN; clear sN hal hwn
    refine hK.out _ _ ⟨Stb.out.cell 0 (v := .int .i64 t0) rfl, Stb.out.cell 1 (v := .int .i64 t1) rfl, Stb.out.cell 2 (v := .int .i64 t2) rfl, Stb.out.cell 3 (v := .slice at3 xt3.length capt3) rfl⟩ (fun hH => ?_)
    clear hK K
    try simp only [Act.put, List.setIfInBounds_toArray, List.set_cons_zero, List.set_cons_succ]
    refine callL 10 rfl (by kernel_rfl) rfl (fun K hK => ?_)
    have y0 := Sw0.out.frozen 0
    have y1 := Sw0.out.frozen 1
    have y2 := Sw0.out.frozen 2
    have y3 := Sw0.out.frozen 3
    have g0 := Sw0.out.cell 0 (v := .int .i64 0) rfl
    have g1 := Sw0.out.cell 1 (v := .int .i64 0) rfl
    have g2 := Sw0.out.cell 2 (v := .int .i64 0) rfl
    have g3 := Sw0.out.cell 3 (v := .slice none 0 0) rfl
    go_simp
    clear y0 g0 y1 g1 y2 g2 y3 g3
    have hbt : Btw (w5.heap.size) (w5.heap.size + 1) w6 ((((w6.setCell ⟨w5.heap.size, 0, none⟩ (.int .i64 N0)).setCell ⟨w5.heap.size, 1, none⟩ (.int .i64 N1)).setCell ⟨w5.heap.size, 2, none⟩ (.int .i64 N2)).setCell ⟨w5.heap.size, 3, none⟩ (.slice aw0_3 L.length cw0_3)) := ((((Btw.set w6 (Nat.le_refl (w5.heap.size)) (Nat.lt_succ_self _) 0 (.int .i64 N0)).trans (Btw.set (w6.setCell ⟨w5.heap.size, 0, none⟩ (.int .i64 N0)) (Nat.le_refl (w5.heap.size)) (Nat.lt_succ_self _) 1 (.int .i64 N1))).trans (Btw.set ((w6.setCell ⟨w5.heap.size, 0, none⟩ (.int .i64 N0)).setCell ⟨w5.heap.size, 1, none⟩ (.int .i64 N1)) (Nat.le_refl (w5.heap.size)) (Nat.lt_succ_self _) 2 (.int .i64 N2))).trans (Btw.set (((w6.setCell ⟨w5.heap.size, 0, none⟩ (.int .i64 N0)).setCell ⟨w5.heap.size, 1, none⟩ (.int .i64 N1)).setCell ⟨w5.heap.size, 2, none⟩ (.int .i64 N2)) (Nat.le_refl (w5.heap.size)) (Nat.lt_succ_self _) 3 (.slice aw0_3 L.length cw0_3)))
    have sO : Str ((((w6.setCell ⟨w5.heap.size, 0, none⟩ (.int .i64 N0)).setCell ⟨w5.heap.size, 1, none⟩ (.int .i64 N1)).setCell ⟨w5.heap.size, 2, none⟩ (.int .i64 N2)).setCell ⟨w5.heap.size, 3, none⟩ (.slice aw0_3 L.length cw0_3)) (w5.heap.size) 27 #[.int .i64 N0, .int .i64 N1, .int .i64 N2, .slice aw0_3 L.length cw0_3] := ((((Sw0.out.set 0 (.int .i64 N0)).set 1 (.int .i64 N1)).set 2 (.int .i64 N2)).set 3 (.slice aw0_3 L.length cw0_3))
    generalize ((((w6.setCell ⟨w5.heap.size, 0, none⟩ (.int .i64 N0)).setCell ⟨w5.heap.size, 1, none⟩ (.int .i64 N1)).setCell ⟨w5.heap.size, 2, none⟩ (.int .i64 N2)).setCell ⟨w5.heap.size, 3, none⟩ (.slice aw0_3 L.length cw0_3)) = w7 at *
    have hz7 := hbt.size
    have Hq := Lib.hid (hbt.below Hq.out Hq.out.size (by omega))
    have Stb := Lib.hid (Stb.out.btw hbt (by first | exact .inl (by omega) | exact .inr (by omega) | omega))
    have Hw0_3 := Lib.hid (Hw0_3.out.btw hbt (by first | exact .inl (by omega) | exact .inr (by omega) | omega))
    clear hbt
    refine hK.out _ _ ⟨Stb.out.cell 0 (v := .int .i64 t0) rfl, Stb.out.cell 1 (v := .int .i64 t1) rfl, Stb.out.cell 2 (v := .int .i64 t2) rfl, Stb.out.cell 3 (v := .slice at3 xt3.length capt3) rfl⟩ (fun hH => ?_)
    clear hK K
    try simp only [Act.put, List.setIfInBounds_toArray, List.set_cons_zero, List.set_cons_succ]
    refine lastL rfl (by kernel_rfl) (by kernel_rfl) (by kernel_rfl) rfl (fun K hK => ?_)
    go_simp
    have z2 : w1.heap.size ≤ w4.heap.size := by omega
    have z3 : w4.heap.size ≤ w5.heap.size := by omega
    have z4 : w5.heap.size ≤ w7.heap.size := by omega
    have Ho9 := Hw0_3.out
    clear hH
    obtain ⟨OB, hOB⟩ : ∃ OB, OB = w5.heap.size := ⟨_, rfl⟩
    have z1 : w1.heap.size ≤ OB := by omega
    have z5 : OB < w4.heap.size ∨ w5.heap.size ≤ OB := (by first | exact .inl (by omega) | exact .inr (by omega) | omega)
    rw [← hOB] at sO ⊢
    refine hK.out _ _ ⟨OB, w4.heap.size, w5.heap.size, acs, ats, aw0_3, ccs, cts, cw0_3, ?_, Hq.out, sO, Ho9, z1, z2, z3, z4, z5⟩
    rfl
  case hqw =>
    intro e a w2 hx
    cases e <;> first | exact hx.elim | skip
    obtain ⟨OBw, LOw, HIw, acs, ats, aw0_3, ccs, cts, cw0_3, rfl, hbj, so, ol, b1w, b2w, b3w, b4w, b5w⟩ := hx
    have Hb2 := Lib.hid (below_step Hb1.out Hb1.out.size hbj)
    have Stb := Lib.hid (show Str w2 w.heap.size 48 #[.int .i64 t0, .int .i64 t1, .int .i64 t2, .slice at3 xt3.length capt3] from ((hbj).block _ Stb.out.lt).trans Stb.out)
    have hz2 := (hbj).size
    have b6w := so.lt
    have Sw0 := Lib.hid so; clear so
    have Hw0_3 := Lib.hid ol; clear ol hbj
    have hcw0_3 := Hw0_3.out.cap
    go_wp2_with fail
    refine (laws_toIntS ac capc xc _ (by omega) (Hic.out.below Hb2.out)).mono ?_
    rintro e w3 ⟨vcx, rfl, hocx, hb3⟩
    have Hb3 := Lib.hid (below_step Hb2.out Hb2.out.size hb3)
    have Hw0_3 := Lib.hid (Hw0_3.out.below hb3)
    have Stb := Lib.hid (show Str w3 w.heap.size 48 #[.int .i64 t0, .int .i64 t1, .int .i64 t2, .slice at3 xt3.length capt3] from ((hb3).block _ Stb.out.lt).trans Stb.out)
    have Sw0 := Lib.hid (show Str w3 OBw 27 #[.int .i64 N0, .int .i64 N1, .int .i64 N2, .slice aw0_3 L.length cw0_3] from ((hb3).block _ Sw0.out.lt).trans Sw0.out)
    have hz3 := (hb3).size
    have Hcx := Lib.hid (OwnI.of hocx); clear hocx
    obtain ⟨acx, ccx, rfl, _, _⟩ := Hcx.out.ints
    have hccx := Hcx.out.cap
    have hhcx : w2.heap.size ≤ w2.heap.size := Nat.le_refl _
    have hjcx : w3.heap.size ≤ w3.heap.size := Nat.le_refl _
    have qtb_0 := Stb.out.cell 0 (v := .int .i64 t0) rfl
    have qtb_1 := Stb.out.cell 1 (v := .int .i64 t1) rfl
    have qtb_2 := Stb.out.cell 2 (v := .int .i64 t2) rfl
    have qtb_3 := Stb.out.cell 3 (v := .slice at3 xt3.length capt3) rfl
    go_wp2_with fail
    refine (laws_toTallyR t0 t1 t2 at3 capt3 xt3 _ (by omega) (Hixt3.out.below Hb3.out)).mono ?_
    rintro e w4 ⟨vtx, rfl, hotx, hb4⟩
    have Hb4 := Lib.hid (below_step Hb3.out Hb3.out.size hb4)
    have Hw0_3 := Lib.hid (Hw0_3.out.below hb4)
    have Hcx := Lib.hid (Hcx.out.below hb4)
    have Stb := Lib.hid (show Str w4 w.heap.size 48 #[.int .i64 t0, .int .i64 t1, .int .i64 t2, .slice at3 xt3.length capt3] from ((hb4).block _ Stb.out.lt).trans Stb.out)
    have Sw0 := Lib.hid (show Str w4 OBw 27 #[.int .i64 N0, .int .i64 N1, .int .i64 N2, .slice aw0_3 L.length cw0_3] from ((hb4).block _ Sw0.out.lt).trans Sw0.out)
    have hz4 := (hb4).size
    have Htx := Lib.hid (OwnI.of hotx); clear hotx
    obtain ⟨atx, ctx, rfl, _, _⟩ := Htx.out.ints
    have hctx := Htx.out.cap
    have hhtx : w3.heap.size ≤ w3.heap.size := Nat.le_refl _
    have hjtx : w4.heap.size ≤ w4.heap.size := Nat.le_refl _
    clear qtb_0 qtb_1 qtb_2 qtb_3
    have hAtxv : Below w4.heap.size w4 (w4.alloc (.cells #[.int .i64 t0, .int .i64 t1, .int .i64 t2, .slice atx xt3.length ctx] 27)) := (Below.refl _ _).alloc (Nat.le_refl _) _
    have sNtxv := Str.new w4 27 #[.int .i64 t0, .int .i64 t1, .int .i64 t2, .slice atx xt3.length ctx]
    have hzAtxv : (w4.alloc (.cells #[.int .i64 t0, .int .i64 t1, .int .i64 t2, .slice atx xt3.length ctx] 27)).heap.size = w4.heap.size + 1 := by simp
    have hbstxv : w4.heap.size ≤ w4.heap.size := Nat.le_refl _
    have Hb5 := Lib.hid (below_step Hb4.out Hb4.out.size hAtxv)
    have Hw0_3 := Lib.hid (Hw0_3.out.below hAtxv)
    have Hcx := Lib.hid (Hcx.out.below hAtxv)
    have Htx := Lib.hid (Htx.out.below hAtxv)
    have Stb := Lib.hid (show Str (w4.alloc (.cells #[.int .i64 t0, .int .i64 t1, .int .i64 t2, .slice atx xt3.length ctx] 27)) w.heap.size 48 #[.int .i64 t0, .int .i64 t1, .int .i64 t2, .slice at3 xt3.length capt3] from (hAtxv.block _ Stb.out.lt).trans Stb.out)
    have Sw0 := Lib.hid (show Str (w4.alloc (.cells #[.int .i64 t0, .int .i64 t1, .int .i64 t2, .slice atx xt3.length ctx] 27)) OBw 27 #[.int .i64 N0, .int .i64 N1, .int .i64 N2, .slice aw0_3 L.length cw0_3] from (hAtxv.block _ Sw0.out.lt).trans Sw0.out)
    have Stxv := Lib.hid sNtxv; clear sNtxv
    clear hAtxv
    have qtb_0 := Stb.out.cell 0 (v := .int .i64 t0) rfl
    have qtb_1 := Stb.out.cell 1 (v := .int .i64 t1) rfl
    have qtb_2 := Stb.out.cell 2 (v := .int .i64 t2) rfl
    have qtb_3 := Stb.out.cell 3 (v := .slice at3 xt3.length capt3) rfl
    have qtxv_0 := Stxv.out.cell 0 (v := .int .i64 t0) rfl
    have qtxv_1 := Stxv.out.cell 1 (v := .int .i64 t1) rfl
    have qtxv_2 := Stxv.out.cell 2 (v := .int .i64 t2) rfl
    have qtxv_3 := Stxv.out.cell 3 (v := .slice atx xt3.length ctx) rfl
    go_wp2_with fail
    generalize w4.alloc (.cells #[.int .i64 t0, .int .i64 t1, .int .i64 t2, .slice atx xt3.length ctx] 27) = w5 at *
    refine (Himpl.out acx ccx atx ctx _ hccx Hcx.out.at hctx Htx.out.at (own_src Htx.out.own)).mono ?_
    rintro e w6 ⟨vg0_3, rfl, hog0_3, hb6⟩
    have Hb6 := Lib.hid (below_step Hb5.out Hb5.out.size hb6)
    have Hw0_3 := Lib.hid (Hw0_3.out.below hb6)
    have Hcx := Lib.hid (Hcx.out.below hb6)
    have Htx := Lib.hid (Htx.out.below hb6)
    have Stb := Lib.hid (show Str w6 w.heap.size 48 #[.int .i64 t0, .int .i64 t1, .int .i64 t2, .slice at3 xt3.length capt3] from ((hb6).block _ Stb.out.lt).trans Stb.out)
    have Sw0 := Lib.hid (show Str w6 OBw 27 #[.int .i64 N0, .int .i64 N1, .int .i64 N2, .slice aw0_3 L.length cw0_3] from ((hb6).block _ Sw0.out.lt).trans Sw0.out)
    have Stxv := Lib.hid (show Str w6 w4.heap.size 27 #[.int .i64 t0, .int .i64 t1, .int .i64 t2, .slice atx xt3.length ctx] from ((hb6).block _ Stxv.out.lt).trans Stxv.out)
    have hz6 := (hb6).size
    have Hg0_3 := Lib.hid (OwnI.of hog0_3); clear hog0_3
    obtain ⟨ag0_3, cg0_3, rfl, _, _⟩ := Hg0_3.out.ints
    have hcg0_3 := Hg0_3.out.cap
    have hhg0_3 : w5.heap.size ≤ w5.heap.size := Nat.le_refl _
    have hjg0_3 : w6.heap.size ≤ w6.heap.size := Nat.le_refl _
    clear qtb_0 qtb_1 qtb_2 qtb_3 qtxv_0 qtxv_1 qtxv_2 qtxv_3
    have hAg0 : Below w6.heap.size w6 (w6.alloc (.cells #[.int .i64 N0, .int .i64 N1, .int .i64 N2, .slice ag0_3 L.length cg0_3] 27)) := (Below.refl _ _).alloc (Nat.le_refl _) _
    have sNg0 := Str.new w6 27 #[.int .i64 N0, .int .i64 N1, .int .i64 N2, .slice ag0_3 L.length cg0_3]
    have hzAg0 : (w6.alloc (.cells #[.int .i64 N0, .int .i64 N1, .int .i64 N2, .slice ag0_3 L.length cg0_3] 27)).heap.size = w6.heap.size + 1 := by simp
    have hbsg0 : w6.heap.size ≤ w6.heap.size := Nat.le_refl _
    have Hb7 := Lib.hid (below_step Hb6.out Hb6.out.size hAg0)
    have Hw0_3 := Lib.hid (Hw0_3.out.below hAg0)
    have Hcx := Lib.hid (Hcx.out.below hAg0)
    have Htx := Lib.hid (Htx.out.below hAg0)
    have Hg0_3 := Lib.hid (Hg0_3.out.below hAg0)
    have Stb := Lib.hid (show Str (w6.alloc (.cells #[.int .i64 N0, .int .i64 N1, .int .i64 N2, .slice ag0_3 L.length cg0_3] 27)) w.heap.size 48 #[.int .i64 t0, .int .i64 t1, .int .i64 t2, .slice at3 xt3.length capt3] from (hAg0.block _ Stb.out.lt).trans Stb.out)
    have Sw0 := Lib.hid (show Str (w6.alloc (.cells #[.int .i64 N0, .int .i64 N1, .int .i64 N2, .slice ag0_3 L.length cg0_3] 27)) OBw 27 #[.int .i64 N0, .int .i64 N1, .int .i64 N2, .slice aw0_3 L.length cw0_3] from (hAg0.block _ Sw0.out.lt).trans Sw0.out)
    have Stxv := Lib.hid (show Str (w6.alloc (.cells #[.int .i64 N0, .int .i64 N1, .int .i64 N2, .slice ag0_3 L.length cg0_3] 27)) w4.heap.size 27 #[.int .i64 t0, .int .i64 t1, .int .i64 t2, .slice atx xt3.length ctx] from (hAg0.block _ Stxv.out.lt).trans Stxv.out)
    have Sg0 := Lib.hid sNg0; clear sNg0
    clear hAg0
    have qg0_0 := Sg0.out.cell 0 (v := .int .i64 N0) rfl
    have qg0_1 := Sg0.out.cell 1 (v := .int .i64 N1) rfl
    have qg0_2 := Sg0.out.cell 2 (v := .int .i64 N2) rfl
    have qg0_3 := Sg0.out.cell 3 (v := .slice ag0_3 L.length cg0_3) rfl
    have qw0_0 := Sw0.out.cell 0 (v := .int .i64 N0) rfl
    have qw0_1 := Sw0.out.cell 1 (v := .int .i64 N1) rfl
    have qw0_2 := Sw0.out.cell 2 (v := .int .i64 N2) rfl
    have qw0_3 := Sw0.out.cell 3 (v := .slice aw0_3 L.length cw0_3) rfl
    go_wp2_with fail
    generalize w6.alloc (.cells #[.int .i64 N0, .int .i64 N1, .int .i64 N2, .slice ag0_3 L.length cg0_3] 27) = w7 at *
    refine (laws_eqTallyR ( N0) ( N1) ( N2) ag0_3 aw0_3 cg0_3 cw0_3 L w7 (by omega) Hg0_3.out.at Hw0_3.out.at).mono ?_
    rintro e w8 ⟨rfl, hb8⟩
    have Hb8 := Lib.hid (below_step Hb7.out Hb7.out.size hb8)
    have Hw0_3 := Lib.hid (Hw0_3.out.below hb8)
    have Hcx := Lib.hid (Hcx.out.below hb8)
    have Htx := Lib.hid (Htx.out.below hb8)
    have Hg0_3 := Lib.hid (Hg0_3.out.below hb8)
    have Stb := Lib.hid (show Str w8 w.heap.size 48 #[.int .i64 t0, .int .i64 t1, .int .i64 t2, .slice at3 xt3.length capt3] from ((hb8).block _ Stb.out.lt).trans Stb.out)
    have Sw0 := Lib.hid (show Str w8 OBw 27 #[.int .i64 N0, .int .i64 N1, .int .i64 N2, .slice aw0_3 L.length cw0_3] from ((hb8).block _ Sw0.out.lt).trans Sw0.out)
    have Stxv := Lib.hid (show Str w8 w4.heap.size 27 #[.int .i64 t0, .int .i64 t1, .int .i64 t2, .slice atx xt3.length ctx] from ((hb8).block _ Stxv.out.lt).trans Stxv.out)
    have Sg0 := Lib.hid (show Str w8 w6.heap.size 27 #[.int .i64 N0, .int .i64 N1, .int .i64 N2, .slice ag0_3 L.length cg0_3] from ((hb8).block _ Sg0.out.lt).trans Sg0.out)
    have hz8 := (hb8).size
    clear qg0_0 qg0_1 qg0_2 qg0_3 qw0_0 qw0_1 qw0_2 qw0_3
    go_wp2_with fail
    refine (laws_toIntS ac capc xc _ (by omega) (Hic.out.below Hb8.out)).mono ?_
    rintro e w9 ⟨vcy, rfl, hocy, hb9⟩
    have Hb9 := Lib.hid (below_step Hb8.out Hb8.out.size hb9)
    have Hw0_3 := Lib.hid (Hw0_3.out.below hb9)
    have Hcx := Lib.hid (Hcx.out.below hb9)
    have Htx := Lib.hid (Htx.out.below hb9)
    have Hg0_3 := Lib.hid (Hg0_3.out.below hb9)
    have Stb := Lib.hid (show Str w9 w.heap.size 48 #[.int .i64 t0, .int .i64 t1, .int .i64 t2, .slice at3 xt3.length capt3] from ((hb9).block _ Stb.out.lt).trans Stb.out)
    have Sw0 := Lib.hid (show Str w9 OBw 27 #[.int .i64 N0, .int .i64 N1, .int .i64 N2, .slice aw0_3 L.length cw0_3] from ((hb9).block _ Sw0.out.lt).trans Sw0.out)
    have Stxv := Lib.hid (show Str w9 w4.heap.size 27 #[.int .i64 t0, .int .i64 t1, .int .i64 t2, .slice atx xt3.length ctx] from ((hb9).block _ Stxv.out.lt).trans Stxv.out)
    have Sg0 := Lib.hid (show Str w9 w6.heap.size 27 #[.int .i64 N0, .int .i64 N1, .int .i64 N2, .slice ag0_3 L.length cg0_3] from ((hb9).block _ Sg0.out.lt).trans Sg0.out)
    have hz9 := (hb9).size
    have Hcy := Lib.hid (OwnI.of hocy); clear hocy
    obtain ⟨acy, ccy, rfl, _, _⟩ := Hcy.out.ints
    have hccy := Hcy.out.cap
    have hhcy : w8.heap.size ≤ w8.heap.size := Nat.le_refl _
    have hjcy : w9.heap.size ≤ w9.heap.size := Nat.le_refl _
    go_wp2_with fail
    refine (laws_eqIntS' acx acy ccx ccy xc w9 (by omega) Hcx.out.at Hcy.out.at).mono ?_
    rintro e w10 ⟨rfl, hb10⟩
    have Hb10 := Lib.hid (below_step Hb9.out Hb9.out.size (hb10.below w9.heap.size))
    have Hw0_3 := Lib.hid (Hw0_3.out.below (hb10.below w9.heap.size))
    have Hcx := Lib.hid (Hcx.out.below (hb10.below w9.heap.size))
    have Htx := Lib.hid (Htx.out.below (hb10.below w9.heap.size))
    have Hg0_3 := Lib.hid (Hg0_3.out.below (hb10.below w9.heap.size))
    have Hcy := Lib.hid (Hcy.out.below (hb10.below w9.heap.size))
    have Stb := Lib.hid (show Str w10 w.heap.size 48 #[.int .i64 t0, .int .i64 t1, .int .i64 t2, .slice at3 xt3.length capt3] from (((hb10.below w9.heap.size)).block _ Stb.out.lt).trans Stb.out)
    have Sw0 := Lib.hid (show Str w10 OBw 27 #[.int .i64 N0, .int .i64 N1, .int .i64 N2, .slice aw0_3 L.length cw0_3] from (((hb10.below w9.heap.size)).block _ Sw0.out.lt).trans Sw0.out)
    have Stxv := Lib.hid (show Str w10 w4.heap.size 27 #[.int .i64 t0, .int .i64 t1, .int .i64 t2, .slice atx xt3.length ctx] from (((hb10.below w9.heap.size)).block _ Stxv.out.lt).trans Stxv.out)
    have Sg0 := Lib.hid (show Str w10 w6.heap.size 27 #[.int .i64 N0, .int .i64 N1, .int .i64 N2, .slice ag0_3 L.length cg0_3] from (((hb10.below w9.heap.size)).block _ Sg0.out.lt).trans Sg0.out)
    have hz10 := ((hb10.below w9.heap.size)).size
    clear Hcy
    have qtxv_0 := Stxv.out.cell 0 (v := .int .i64 t0) rfl
    have qtxv_1 := Stxv.out.cell 1 (v := .int .i64 t1) rfl
    have qtxv_2 := Stxv.out.cell 2 (v := .int .i64 t2) rfl
    have qtxv_3 := Stxv.out.cell 3 (v := .slice atx xt3.length ctx) rfl
    have qtb_0 := Stb.out.cell 0 (v := .int .i64 t0) rfl
    have qtb_1 := Stb.out.cell 1 (v := .int .i64 t1) rfl
    have qtb_2 := Stb.out.cell 2 (v := .int .i64 t2) rfl
    have qtb_3 := Stb.out.cell 3 (v := .slice at3 xt3.length capt3) rfl
    go_wp2_with fail
    clear qtxv_0 qtxv_1 qtxv_2 qtxv_3 qtb_0 qtb_1 qtb_2 qtb_3
    have hdr : Below w10.heap.size w10 w10.drew := (Below.refl _ _).drew
    refine wp_region_held_drew (S := fun w' => w'.cell? ⟨w4.heap.size, 0, none⟩ = some (.int .i64 t0) ∧ w'.cell? ⟨w4.heap.size, 1, none⟩ = some (.int .i64 t1) ∧ w'.cell? ⟨w4.heap.size, 2, none⟩ = some (.int .i64 t2) ∧ w'.cell? ⟨w4.heap.size, 3, none⟩ = some (.slice atx xt3.length ctx) ∧ w'.cell? ⟨w.heap.size, 0, none⟩ = some (.int .i64 t0) ∧ w'.cell? ⟨w.heap.size, 1, none⟩ = some (.int .i64 t1) ∧ w'.cell? ⟨w.heap.size, 2, none⟩ = some (.int .i64 t2) ∧ w'.cell? ⟨w.heap.size, 3, none⟩ = some (.slice at3 xt3.length capt3)) (by kernel_rfl) ⟨Stxv.out.cell 0 (v := .int .i64 t0) rfl, Stxv.out.cell 1 (v := .int .i64 t1) rfl, Stxv.out.cell 2 (v := .int .i64 t2) rfl, Stxv.out.cell 3 (v := .slice atx xt3.length ctx) rfl, Stb.out.cell 0 (v := .int .i64 t0) rfl, Stb.out.cell 1 (v := .int .i64 t1) rfl, Stb.out.cell 2 (v := .int .i64 t2) rfl, Stb.out.cell 3 (v := .slice at3 xt3.length capt3) rfl⟩ (fun hH => ?_)
    generalize w10.drew = w11 at *
    have Hb11 := Lib.hid (below_step Hb10.out Hb10.out.size hdr)
    have Hw0_3 := Lib.hid (Hw0_3.out.below hdr)
    have Hcx := Lib.hid (Hcx.out.below hdr)
    have Htx := Lib.hid (Htx.out.below hdr)
    have Hg0_3 := Lib.hid (Hg0_3.out.below hdr)
    have Stb := Lib.hid (show Str w11 w.heap.size 48 #[.int .i64 t0, .int .i64 t1, .int .i64 t2, .slice at3 xt3.length capt3] from ((hdr).block _ Stb.out.lt).trans Stb.out)
    have Sw0 := Lib.hid (show Str w11 OBw 27 #[.int .i64 N0, .int .i64 N1, .int .i64 N2, .slice aw0_3 L.length cw0_3] from ((hdr).block _ Sw0.out.lt).trans Sw0.out)
    have Stxv := Lib.hid (show Str w11 w4.heap.size 27 #[.int .i64 t0, .int .i64 t1, .int .i64 t2, .slice atx xt3.length ctx] from ((hdr).block _ Stxv.out.lt).trans Stxv.out)
    have Sg0 := Lib.hid (show Str w11 w6.heap.size 27 #[.int .i64 N0, .int .i64 N1, .int .i64 N2, .slice ag0_3 L.length cg0_3] from ((hdr).block _ Sg0.out.lt).trans Sg0.out)
    have hz11 := (hdr).size
    clear hdr
    refine takeH 0 (v := ?vqt0) rfl (by kernel_rfl) (by kernel_rfl) (by kernel_rfl) (fun _ _ _ h => h) hH rfl ?yqt0 ?rqt0
    case yqt0 => intro W hSw; go_simp; try with_reducible rfl
    try simp only [Act.put, List.setIfInBounds_toArray, List.set_cons_zero, List.set_cons_succ]
    refine takeH 1 (v := ?vqt1) rfl (by kernel_rfl) (by kernel_rfl) (by kernel_rfl) (fun _ _ _ h => h) hH rfl ?yqt1 ?rqt1
    case yqt1 => intro W hSw; go_simp; try with_reducible rfl
    try simp only [Act.put, List.setIfInBounds_toArray, List.set_cons_zero, List.set_cons_succ]
    refine callH 2 rfl (by kernel_rfl) rfl (fun K hK => ?_)
    go_simp
    refine (laws_toTallyR t0 t1 t2 at3 capt3 xt3 _ (by omega) (Hixt3.out.below Hb11.out)).mono ?_
    rintro e w12 ⟨vty, rfl, hoty, hb12⟩
    have Hb12 := Lib.hid (below_step Hb11.out Hb11.out.size hb12)
    have Hw0_3 := Lib.hid (Hw0_3.out.below hb12)
    have Hcx := Lib.hid (Hcx.out.below hb12)
    have Htx := Lib.hid (Htx.out.below hb12)
    have Hg0_3 := Lib.hid (Hg0_3.out.below hb12)
    have Stb := Lib.hid (show Str w12 w.heap.size 48 #[.int .i64 t0, .int .i64 t1, .int .i64 t2, .slice at3 xt3.length capt3] from ((hb12).block _ Stb.out.lt).trans Stb.out)
    have Sw0 := Lib.hid (show Str w12 OBw 27 #[.int .i64 N0, .int .i64 N1, .int .i64 N2, .slice aw0_3 L.length cw0_3] from ((hb12).block _ Sw0.out.lt).trans Sw0.out)
    have Stxv := Lib.hid (show Str w12 w4.heap.size 27 #[.int .i64 t0, .int .i64 t1, .int .i64 t2, .slice atx xt3.length ctx] from ((hb12).block _ Stxv.out.lt).trans Stxv.out)
    have Sg0 := Lib.hid (show Str w12 w6.heap.size 27 #[.int .i64 N0, .int .i64 N1, .int .i64 N2, .slice ag0_3 L.length cg0_3] from ((hb12).block _ Sg0.out.lt).trans Sg0.out)
    have hz12 := (hb12).size
    have Hty := Lib.hid (OwnI.of hoty); clear hoty
    obtain ⟨aty, cty, rfl, _, _⟩ := Hty.out.ints
    have hcty := Hty.out.cap
    have hhty : w11.heap.size ≤ w11.heap.size := Nat.le_refl _
    have hjty : w12.heap.size ≤ w12.heap.size := Nat.le_refl _
    dsimp only
    refine hK.out _ _ ⟨Stxv.out.cell 0 (v := .int .i64 t0) rfl, Stxv.out.cell 1 (v := .int .i64 t1) rfl, Stxv.out.cell 2 (v := .int .i64 t2) rfl, Stxv.out.cell 3 (v := .slice atx xt3.length ctx) rfl, Stb.out.cell 0 (v := .int .i64 t0) rfl, Stb.out.cell 1 (v := .int .i64 t1) rfl, Stb.out.cell 2 (v := .int .i64 t2) rfl, Stb.out.cell 3 (v := .slice at3 xt3.length capt3) rfl⟩ (fun hH => ?_)
    clear hK K
    try simp only [Act.put, List.setIfInBounds_toArray, List.set_cons_zero, List.set_cons_succ]
    refine callH 3 rfl (by kernel_rfl) rfl (fun K hK => ?_)
    go_simp
    refine (laws_eqTallyR t0 t1 t2 atx aty ctx cty xt3 w12 (by omega) Htx.out.at Hty.out.at).mono ?_
    rintro e w13 ⟨rfl, hb13⟩
    have Hb13 := Lib.hid (below_step Hb12.out Hb12.out.size hb13)
    have Hw0_3 := Lib.hid (Hw0_3.out.below hb13)
    have Hcx := Lib.hid (Hcx.out.below hb13)
    have Htx := Lib.hid (Htx.out.below hb13)
    have Hg0_3 := Lib.hid (Hg0_3.out.below hb13)
    have Hty := Lib.hid (Hty.out.below hb13)
    have Stb := Lib.hid (show Str w13 w.heap.size 48 #[.int .i64 t0, .int .i64 t1, .int .i64 t2, .slice at3 xt3.length capt3] from ((hb13).block _ Stb.out.lt).trans Stb.out)
    have Sw0 := Lib.hid (show Str w13 OBw 27 #[.int .i64 N0, .int .i64 N1, .int .i64 N2, .slice aw0_3 L.length cw0_3] from ((hb13).block _ Sw0.out.lt).trans Sw0.out)
    have Stxv := Lib.hid (show Str w13 w4.heap.size 27 #[.int .i64 t0, .int .i64 t1, .int .i64 t2, .slice atx xt3.length ctx] from ((hb13).block _ Stxv.out.lt).trans Stxv.out)
    have Sg0 := Lib.hid (show Str w13 w6.heap.size 27 #[.int .i64 N0, .int .i64 N1, .int .i64 N2, .slice ag0_3 L.length cg0_3] from ((hb13).block _ Sg0.out.lt).trans Sg0.out)
    have hz13 := (hb13).size
    dsimp only
    refine hK.out _ _ ⟨Stxv.out.cell 0 (v := .int .i64 t0) rfl, Stxv.out.cell 1 (v := .int .i64 t1) rfl, Stxv.out.cell 2 (v := .int .i64 t2) rfl, Stxv.out.cell 3 (v := .slice atx xt3.length ctx) rfl, Stb.out.cell 0 (v := .int .i64 t0) rfl, Stb.out.cell 1 (v := .int .i64 t1) rfl, Stb.out.cell 2 (v := .int .i64 t2) rfl, Stb.out.cell 3 (v := .slice at3 xt3.length capt3) rfl⟩ (fun hH => ?_)
    clear hK K
    try simp only [Act.put, List.setIfInBounds_toArray, List.set_cons_zero, List.set_cons_succ]
    refine takeH 4 (v := ?vqt4) rfl (by kernel_rfl) (by kernel_rfl) (by kernel_rfl) (fun _ _ _ h => h) hH rfl ?yqt4 ?rqt4
    case yqt4 => intro W hSw; go_simp; try with_reducible rfl
    try simp only [Act.put, List.setIfInBounds_toArray, List.set_cons_zero, List.set_cons_succ]
    refine wpAnyH_done (by kernel_rfl) ?_ _
    try simp only [Act.put]
    clear hH
    clear Hty
    go_wp2_with fail
    refine (laws_markIntS _ xc (1) w2.heap.size w13 (by omega) (by omega) Hcx.out.own).mono ?_
    rintro e w14 ⟨rfl, ho, hg⟩
    have hbt := Hcx.out.marks hg
    have Hb14 := Lib.hid ((hbt).below Hb13.out Hb13.out.size (by omega))
    have hz14 := (hbt).size
    have Hw0_3 := Lib.hid (Hw0_3.out.btw (hbt) (by first | exact .inl (by omega) | exact .inr (by omega) | omega))
    have Htx := Lib.hid (Htx.out.btw (hbt) (by first | exact .inl (by omega) | exact .inr (by omega) | omega))
    have Hg0_3 := Lib.hid (Hg0_3.out.btw (hbt) (by first | exact .inl (by omega) | exact .inr (by omega) | omega))
    have Stb := Lib.hid (Stb.out.btw (hbt) (by first | exact .inl (by omega) | exact .inr (by omega) | omega))
    have Sw0 := Lib.hid (Sw0.out.btw (hbt) (by first | exact .inl (by omega) | exact .inr (by omega) | omega))
    have Stxv := Lib.hid (Stxv.out.btw (hbt) (by first | exact .inl (by omega) | exact .inr (by omega) | omega))
    have Sg0 := Lib.hid (Sg0.out.btw (hbt) (by first | exact .inl (by omega) | exact .inr (by omega) | omega))
    have Hcx := Lib.hid (Hcx.out.mark ho)
    clear ho hg hbt
    have qtxv_0 := Stxv.out.cell 0 (v := .int .i64 t0) rfl
    have qtxv_1 := Stxv.out.cell 1 (v := .int .i64 t1) rfl
    have qtxv_2 := Stxv.out.cell 2 (v := .int .i64 t2) rfl
    have qtxv_3 := Stxv.out.cell 3 (v := .slice atx xt3.length ctx) rfl
    go_wp2_with fail
    refine (laws_markTallyR t0 t1 t2 _ xt3 (1 + xc.length) w3.heap.size w14 (by omega) (by omega) Htx.out.own).mono ?_
    rintro e w15 ⟨rfl, ho, hg⟩
    have hbt := Htx.out.marks (grownBy_trans (World.grownBy_alloc w14 (.cells #[.int .i64 t0, .int .i64 t1, .int .i64 t2, .slice atx xt3.length ctx] 27) _) hg)
    clear qtxv_0 qtxv_1 qtxv_2 qtxv_3
    have Hb15 := Lib.hid ((hbt).below Hb14.out Hb14.out.size (by omega))
    have hz15 := (hbt).size
    have Hw0_3 := Lib.hid (Hw0_3.out.btw (hbt) (by first | exact .inl (by omega) | exact .inr (by omega) | omega))
    have Hcx := Lib.hid (Hcx.out.btw (hbt) (by first | exact .inl (by omega) | exact .inr (by omega) | omega))
    have Hg0_3 := Lib.hid (Hg0_3.out.btw (hbt) (by first | exact .inl (by omega) | exact .inr (by omega) | omega))
    have Stb := Lib.hid (Stb.out.btw (hbt) (by first | exact .inl (by omega) | exact .inr (by omega) | omega))
    have Sw0 := Lib.hid (Sw0.out.btw (hbt) (by first | exact .inl (by omega) | exact .inr (by omega) | omega))
    have Stxv := Lib.hid (Stxv.out.btw (hbt) (by first | exact .inl (by omega) | exact .inr (by omega) | omega))
    have Sg0 := Lib.hid (Sg0.out.btw (hbt) (by first | exact .inl (by omega) | exact .inr (by omega) | omega))
    have Htx := Lib.hid (Htx.out.mark ho)
    clear ho hg hbt
    have hkn : decide (((1 + xc.length + xt3.length : Nat) : Int) < 0) = false := decide_eq_false (by omega)
    have hkn' : ¬ ((1 + xc.length + xt3.length : Nat) : Int) < 0 := by omega
    have qg0_0 := Sg0.out.cell 0 (v := .int .i64 N0) rfl
    have qg0_1 := Sg0.out.cell 1 (v := .int .i64 N1) rfl
    have qg0_2 := Sg0.out.cell 2 (v := .int .i64 N2) rfl
    have qg0_3 := Sg0.out.cell 3 (v := .slice ag0_3 L.length cg0_3) rfl
    have qw0_0 := Sw0.out.cell 0 (v := .int .i64 N0) rfl
    have qw0_1 := Sw0.out.cell 1 (v := .int .i64 N1) rfl
    have qw0_2 := Sw0.out.cell 2 (v := .int .i64 N2) rfl
    have qw0_3 := Sw0.out.cell 3 (v := .slice aw0_3 L.length cw0_3) rfl
    go_wp2_with fail
    refine (laws_eqTallyR ( N0) ( N1) ( N2) ag0_3 aw0_3 cg0_3 cw0_3 L w15 (by omega) Hg0_3.out.at Hw0_3.out.at).mono ?_
    rintro e w16 ⟨rfl, hb16⟩
    have Hb16 := Lib.hid (below_step Hb15.out Hb15.out.size hb16)
    have Hw0_3 := Lib.hid (Hw0_3.out.below hb16)
    have Hcx := Lib.hid (Hcx.out.below hb16)
    have Htx := Lib.hid (Htx.out.below hb16)
    have Hg0_3 := Lib.hid (Hg0_3.out.below hb16)
    have Stb := Lib.hid (show Str w16 w.heap.size 48 #[.int .i64 t0, .int .i64 t1, .int .i64 t2, .slice at3 xt3.length capt3] from ((hb16).block _ Stb.out.lt).trans Stb.out)
    have Sw0 := Lib.hid (show Str w16 OBw 27 #[.int .i64 N0, .int .i64 N1, .int .i64 N2, .slice aw0_3 L.length cw0_3] from ((hb16).block _ Sw0.out.lt).trans Sw0.out)
    have Stxv := Lib.hid (show Str w16 w4.heap.size 27 #[.int .i64 t0, .int .i64 t1, .int .i64 t2, .slice atx xt3.length ctx] from ((hb16).block _ Stxv.out.lt).trans Stxv.out)
    have Sg0 := Lib.hid (show Str w16 w6.heap.size 27 #[.int .i64 N0, .int .i64 N1, .int .i64 N2, .slice ag0_3 L.length cg0_3] from ((hb16).block _ Sg0.out.lt).trans Sg0.out)
    have hz16 := (hb16).size
    clear qg0_0 qg0_1 qg0_2 qg0_3 qw0_0 qw0_1 qw0_2 qw0_3
    have qg0_0 := Sg0.out.cell 0 (v := .int .i64 N0) rfl
    have qg0_1 := Sg0.out.cell 1 (v := .int .i64 N1) rfl
    have qg0_2 := Sg0.out.cell 2 (v := .int .i64 N2) rfl
    have qg0_3 := Sg0.out.cell 3 (v := .slice ag0_3 L.length cg0_3) rfl
    go_wp2_with fail
    refine (laws_markTallyR ( N0) ( N1) ( N2) _ L (1) w5.heap.size w16 (by omega) (by omega) Hg0_3.out.own).mono ?_
    rintro e w17 ⟨rfl, ho, hg⟩
    have hbt := Hg0_3.out.marks (grownBy_trans (World.grownBy_alloc w16 (.cells #[.int .i64 N0, .int .i64 N1, .int .i64 N2, .slice ag0_3 L.length cg0_3] 27) _) hg)
    clear qg0_0 qg0_1 qg0_2 qg0_3
    have Hb17 := Lib.hid ((hbt).below Hb16.out Hb16.out.size (by omega))
    have hz17 := (hbt).size
    have Hw0_3 := Lib.hid (Hw0_3.out.btw (hbt) (by first | exact .inl (by omega) | exact .inr (by omega) | omega))
    have Hcx := Lib.hid (Hcx.out.btw (hbt) (by first | exact .inl (by omega) | exact .inr (by omega) | omega))
    have Htx := Lib.hid (Htx.out.btw (hbt) (by first | exact .inl (by omega) | exact .inr (by omega) | omega))
    have Stb := Lib.hid (Stb.out.btw (hbt) (by first | exact .inl (by omega) | exact .inr (by omega) | omega))
    have Sw0 := Lib.hid (Sw0.out.btw (hbt) (by first | exact .inl (by omega) | exact .inr (by omega) | omega))
    have Stxv := Lib.hid (Stxv.out.btw (hbt) (by first | exact .inl (by omega) | exact .inr (by omega) | omega))
    have Sg0 := Lib.hid (Sg0.out.btw (hbt) (by first | exact .inl (by omega) | exact .inr (by omega) | omega))
    have Hg0_3 := Lib.hid (Hg0_3.out.mark ho)
    clear ho hg hbt
    have hmn : decide (((1 + L.length : Nat) : Int) < 0) = false := decide_eq_false (by omega)
    have hmn' : ¬ ((1 + L.length : Nat) : Int) < 0 := by omega
    have qg0_0 := Sg0.out.cell 0 (v := .int .i64 N0) rfl
    have qg0_1 := Sg0.out.cell 1 (v := .int .i64 N1) rfl
    have qg0_2 := Sg0.out.cell 2 (v := .int .i64 N2) rfl
    have qg0_3 := Sg0.out.cell 3 (v := .slice ag0_3 L.length cg0_3) rfl
    go_wp2_with fail
    refine (laws_heldTallyR ( N0) ( N1) ( N2) ag0_3 cg0_3 (1) L.length w17 (by omega) (by omega) Hg0_3.out.at).mono ?_
    rintro e w18 ⟨rfl, hb18⟩
    have Hb18 := Lib.hid (below_step Hb17.out Hb17.out.size hb18)
    have Hw0_3 := Lib.hid (Hw0_3.out.below hb18)
    have Hcx := Lib.hid (Hcx.out.below hb18)
    have Htx := Lib.hid (Htx.out.below hb18)
    have Hg0_3 := Lib.hid (Hg0_3.out.below hb18)
    have Stb := Lib.hid (show Str w18 w.heap.size 48 #[.int .i64 t0, .int .i64 t1, .int .i64 t2, .slice at3 xt3.length capt3] from ((hb18).block _ Stb.out.lt).trans Stb.out)
    have Sw0 := Lib.hid (show Str w18 OBw 27 #[.int .i64 N0, .int .i64 N1, .int .i64 N2, .slice aw0_3 L.length cw0_3] from ((hb18).block _ Sw0.out.lt).trans Sw0.out)
    have Stxv := Lib.hid (show Str w18 w4.heap.size 27 #[.int .i64 t0, .int .i64 t1, .int .i64 t2, .slice atx xt3.length ctx] from ((hb18).block _ Stxv.out.lt).trans Stxv.out)
    have Sg0 := Lib.hid (show Str w18 w6.heap.size 27 #[.int .i64 N0, .int .i64 N1, .int .i64 N2, .slice ag0_3 L.length cg0_3] from ((hb18).block _ Sg0.out.lt).trans Sg0.out)
    have hz18 := (hb18).size
    clear qg0_0 qg0_1 qg0_2 qg0_3
    clear Hcx
    clear Htx
    have qtb_0 := Stb.out.cell 0 (v := .int .i64 t0) rfl
    have qtb_1 := Stb.out.cell 1 (v := .int .i64 t1) rfl
    have qtb_2 := Stb.out.cell 2 (v := .int .i64 t2) rfl
    have qtb_3 := Stb.out.cell 3 (v := .slice at3 xt3.length capt3) rfl
    go_wp2_with fail
    clear qtb_0 qtb_1 qtb_2 qtb_3
    refine Code.wp_mono (Q := fun e a' w' => match e with | .normal => ∃ (OB LO HI : Nat) (acz atz ah0_3 : Option Addr) (ccz ctz ch0_3 : Nat), a' = (?Fih : Nat → Option Addr → Option Addr → Option Addr → Nat → Nat → Nat → Act) OB acz atz ah0_3 ccz ctz ch0_3 ∧ Below w18.heap.size w18 w' ∧ Str w' OB 27 #[.int .i64 N0, .int .i64 N1, .int .i64 N2, .slice ah0_3 L.length ch0_3] ∧ OwnI 3 w' LO HI (.slice ah0_3 L.length ch0_3) L ∧ w18.heap.size ≤ OB ∧ w18.heap.size ≤ LO ∧ LO ≤ HI ∧ HI ≤ w'.heap.size ∧ (OB < LO ∨ HI ≤ OB) | _ => False) ?hqh ?hch
    case hch =>
      have hdr : Below w18.heap.size w18 w18.drew := (Below.refl _ _).drew
      have Hq := Lib.hid (Below.refl w18.heap.size w18)
      refine wp_region_L 11 (fun w' => w'.cell? ⟨w.heap.size, 0, none⟩ = some (.int .i64 t0) ∧ w'.cell? ⟨w.heap.size, 1, none⟩ = some (.int .i64 t1) ∧ w'.cell? ⟨w.heap.size, 2, none⟩ = some (.int .i64 t2) ∧ w'.cell? ⟨w.heap.size, 3, none⟩ = some (.slice at3 xt3.length capt3)) (by kernel_rfl) ⟨Stb.out.cell 0 (v := .int .i64 t0) rfl, Stb.out.cell 1 (v := .int .i64 t1) rfl, Stb.out.cell 2 (v := .int .i64 t2) rfl, Stb.out.cell 3 (v := .slice at3 xt3.length capt3) rfl⟩ (fun hH => ?_)
      generalize w18.drew = w19 at *
      have Hb19 := Lib.hid (below_step Hb18.out Hb18.out.size hdr)
      have Hq := Lib.hid (below_step Hq.out Hq.out.size hdr)
      have Hw0_3 := Lib.hid (Hw0_3.out.below hdr)
      have Hg0_3 := Lib.hid (Hg0_3.out.below hdr)
      have Stb := Lib.hid (show Str w19 w.heap.size 48 #[.int .i64 t0, .int .i64 t1, .int .i64 t2, .slice at3 xt3.length capt3] from ((hdr).block _ Stb.out.lt).trans Stb.out)
      have Sw0 := Lib.hid (show Str w19 OBw 27 #[.int .i64 N0, .int .i64 N1, .int .i64 N2, .slice aw0_3 L.length cw0_3] from ((hdr).block _ Sw0.out.lt).trans Sw0.out)
      have Stxv := Lib.hid (show Str w19 w4.heap.size 27 #[.int .i64 t0, .int .i64 t1, .int .i64 t2, .slice atx xt3.length ctx] from ((hdr).block _ Stxv.out.lt).trans Stxv.out)
      have Sg0 := Lib.hid (show Str w19 w6.heap.size 27 #[.int .i64 N0, .int .i64 N1, .int .i64 N2, .slice ag0_3 L.length cg0_3] from ((hdr).block _ Sg0.out.lt).trans Sg0.out)
      have hz19 := (hdr).size
      clear hdr
      refine takeL 0 (v := ?vih1) rfl (by kernel_rfl) (by kernel_rfl) (by kernel_rfl) (by kernel_rfl) (by kernel_rfl) (fun _ _ _ h => h) hH rfl ?yih1 ?rih1
      case yih1 => intro W hSw; go_simp; try with_reducible rfl
      try simp only [Act.put, List.setIfInBounds_toArray, List.set_cons_zero, List.set_cons_succ]
      refine takeL 2 (v := ?vih2) rfl (by kernel_rfl) (by kernel_rfl) (by kernel_rfl) (by kernel_rfl) (by kernel_rfl) (fun _ _ _ h => h) hH rfl ?yih2 ?rih2
      case yih2 => intro W hSw; go_simp; try with_reducible rfl
      try simp only [Act.put, List.setIfInBounds_toArray, List.set_cons_zero, List.set_cons_succ]
      refine takeL 4 (v := ?vih3) rfl (by kernel_rfl) (by kernel_rfl) (by kernel_rfl) (by kernel_rfl) (by kernel_rfl) (fun _ _ _ h => h) hH rfl ?yih3 ?rih3
      case yih3 => intro W hSw; go_simp; try with_reducible rfl
      try simp only [Act.put, List.setIfInBounds_toArray, List.set_cons_zero, List.set_cons_succ]
      refine twoL 1 9 rfl rfl (by kernel_rfl) rfl rfl (fun K hK => ?_) (fun K hK => ?_)
      rotate_left
      · skip
        go_simp
        have hal : Below w19.heap.size w19 (w19.alloc (.cells #[.int .i64 0, .int .i64 0, .int .i64 0, .slice none 0 0] 27)) := (Below.refl _ _).alloc (Nat.le_refl _) _
        have sN := Str.new w19 27 #[.int .i64 0, .int .i64 0, .int .i64 0, .slice none 0 0]
        have hzn : w19.heap.size < (w19.alloc (.cells #[.int .i64 0, .int .i64 0, .int .i64 0, .slice none 0 0] 27)).heap.size := by simp
        generalize hwn : (w19.alloc (.cells #[.int .i64 0, .int .i64 0, .int .i64 0, .slice none 0 0] 27)) = w20 at *
        have Hb20 := Lib.hid (below_step Hb19.out Hb19.out.size hal)
        have Hq := Lib.hid (below_step Hq.out Hq.out.size hal)
        have Hw0_3 := Lib.hid (Hw0_3.out.below hal)
        have Hg0_3 := Lib.hid (Hg0_3.out.below hal)
        have Stb := Lib.hid (show Str w20 w.heap.size 48 #[.int .i64 t0, .int .i64 t1, .int .i64 t2, .slice at3 xt3.length capt3] from ((hal).block _ Stb.out.lt).trans Stb.out)
        have Sw0 := Lib.hid (show Str w20 OBw 27 #[.int .i64 N0, .int .i64 N1, .int .i64 N2, .slice aw0_3 L.length cw0_3] from ((hal).block _ Sw0.out.lt).trans Sw0.out)
        have Stxv := Lib.hid (show Str w20 w4.heap.size 27 #[.int .i64 t0, .int .i64 t1, .int .i64 t2, .slice atx xt3.length ctx] from ((hal).block _ Stxv.out.lt).trans Stxv.out)
        have Sg0 := Lib.hid (show Str w20 w6.heap.size 27 #[.int .i64 N0, .int .i64 N1, .int .i64 N2, .slice ag0_3 L.length cg0_3] from ((hal).block _ Sg0.out.lt).trans Sg0.out)
        have hz20 := (hal).size
        have Sh0 := Lib.hid sN; clear sN hal hwn
        refine hK.out _ _ ⟨Stb.out.cell 0 (v := .int .i64 t0) rfl, Stb.out.cell 1 (v := .int .i64 t1) rfl, Stb.out.cell 2 (v := .int .i64 t2) rfl, Stb.out.cell 3 (v := .slice at3 xt3.length capt3) rfl⟩ (fun hH => ?_)
        clear hK K
        try simp only [Act.put, List.setIfInBounds_toArray, List.set_cons_zero, List.set_cons_succ]
        refine callL 1 rfl (by kernel_rfl) rfl (fun K hK => ?_)
        go_simp
        refine (laws_toIntS ac capc xc _ (by omega) (Hic.out.below Hb20.out)).mono ?_
        rintro e w21 ⟨vcz, rfl, hocz, hb21⟩
        have Hb21 := Lib.hid (below_step Hb20.out Hb20.out.size hb21)
        have Hq := Lib.hid (below_step Hq.out Hq.out.size hb21)
        have Hw0_3 := Lib.hid (Hw0_3.out.below hb21)
        have Hg0_3 := Lib.hid (Hg0_3.out.below hb21)
        have Stb := Lib.hid (show Str w21 w.heap.size 48 #[.int .i64 t0, .int .i64 t1, .int .i64 t2, .slice at3 xt3.length capt3] from ((hb21).block _ Stb.out.lt).trans Stb.out)
        have Sw0 := Lib.hid (show Str w21 OBw 27 #[.int .i64 N0, .int .i64 N1, .int .i64 N2, .slice aw0_3 L.length cw0_3] from ((hb21).block _ Sw0.out.lt).trans Sw0.out)
        have Stxv := Lib.hid (show Str w21 w4.heap.size 27 #[.int .i64 t0, .int .i64 t1, .int .i64 t2, .slice atx xt3.length ctx] from ((hb21).block _ Stxv.out.lt).trans Stxv.out)
        have Sg0 := Lib.hid (show Str w21 w6.heap.size 27 #[.int .i64 N0, .int .i64 N1, .int .i64 N2, .slice ag0_3 L.length cg0_3] from ((hb21).block _ Sg0.out.lt).trans Sg0.out)
        have Sh0 := Lib.hid (show Str w21 w19.heap.size 27 #[.int .i64 0, .int .i64 0, .int .i64 0, .slice none 0 0] from ((hb21).block _ Sh0.out.lt).trans Sh0.out)
        have hz21 := (hb21).size
        have Hcz := Lib.hid (OwnI.of hocz); clear hocz
        obtain ⟨acz, ccz, rfl, _, _⟩ := Hcz.out.ints
        have hccz := Hcz.out.cap
        have hhcz : w20.heap.size ≤ w20.heap.size := Nat.le_refl _
        have hjcz : w21.heap.size ≤ w21.heap.size := Nat.le_refl _
        dsimp only
        refine hK.out _ _ ⟨Stb.out.cell 0 (v := .int .i64 t0) rfl, Stb.out.cell 1 (v := .int .i64 t1) rfl, Stb.out.cell 2 (v := .int .i64 t2) rfl, Stb.out.cell 3 (v := .slice at3 xt3.length capt3) rfl⟩ (fun hH => ?_)
        clear hK K
        try simp only [Act.put, List.setIfInBounds_toArray, List.set_cons_zero, List.set_cons_succ]
        refine callL 3 rfl (by kernel_rfl) rfl (fun K hK => ?_)
        go_simp
        refine (laws_toTallyR t0 t1 t2 at3 capt3 xt3 _ (by omega) (Hixt3.out.below Hb21.out)).mono ?_
        rintro e w22 ⟨vtz, rfl, hotz, hb22⟩
        have Hb22 := Lib.hid (below_step Hb21.out Hb21.out.size hb22)
        have Hq := Lib.hid (below_step Hq.out Hq.out.size hb22)
        have Hw0_3 := Lib.hid (Hw0_3.out.below hb22)
        have Hg0_3 := Lib.hid (Hg0_3.out.below hb22)
        have Hcz := Lib.hid (Hcz.out.below hb22)
        have Stb := Lib.hid (show Str w22 w.heap.size 48 #[.int .i64 t0, .int .i64 t1, .int .i64 t2, .slice at3 xt3.length capt3] from ((hb22).block _ Stb.out.lt).trans Stb.out)
        have Sw0 := Lib.hid (show Str w22 OBw 27 #[.int .i64 N0, .int .i64 N1, .int .i64 N2, .slice aw0_3 L.length cw0_3] from ((hb22).block _ Sw0.out.lt).trans Sw0.out)
        have Stxv := Lib.hid (show Str w22 w4.heap.size 27 #[.int .i64 t0, .int .i64 t1, .int .i64 t2, .slice atx xt3.length ctx] from ((hb22).block _ Stxv.out.lt).trans Stxv.out)
        have Sg0 := Lib.hid (show Str w22 w6.heap.size 27 #[.int .i64 N0, .int .i64 N1, .int .i64 N2, .slice ag0_3 L.length cg0_3] from ((hb22).block _ Sg0.out.lt).trans Sg0.out)
        have Sh0 := Lib.hid (show Str w22 w19.heap.size 27 #[.int .i64 0, .int .i64 0, .int .i64 0, .slice none 0 0] from ((hb22).block _ Sh0.out.lt).trans Sh0.out)
        have hz22 := (hb22).size
        have Htz := Lib.hid (OwnI.of hotz); clear hotz
        obtain ⟨atz, ctz, rfl, _, _⟩ := Htz.out.ints
        have hctz := Htz.out.cap
        have hhtz : w21.heap.size ≤ w21.heap.size := Nat.le_refl _
        have hjtz : w22.heap.size ≤ w22.heap.size := Nat.le_refl _
        dsimp only
        refine hK.out _ _ ⟨Stb.out.cell 0 (v := .int .i64 t0) rfl, Stb.out.cell 1 (v := .int .i64 t1) rfl, Stb.out.cell 2 (v := .int .i64 t2) rfl, Stb.out.cell 3 (v := .slice at3 xt3.length capt3) rfl⟩ (fun hH => ?_)
        clear hK K
        try simp only [Act.put, List.setIfInBounds_toArray, List.set_cons_zero, List.set_cons_succ]
        refine callL 5 rfl (by kernel_rfl) rfl (fun K hK => ?_)
        go_simp
        refine (Himpl.out acz ccz atz ctz _ hccz Hcz.out.at hctz Htz.out.at (own_src Htz.out.own)).mono ?_
        rintro e w23 ⟨vh0_3, rfl, hoh0_3, hb23⟩
        have Hb23 := Lib.hid (below_step Hb22.out Hb22.out.size hb23)
        have Hq := Lib.hid (below_step Hq.out Hq.out.size hb23)
        have Hw0_3 := Lib.hid (Hw0_3.out.below hb23)
        have Hg0_3 := Lib.hid (Hg0_3.out.below hb23)
        have Hcz := Lib.hid (Hcz.out.below hb23)
        have Htz := Lib.hid (Htz.out.below hb23)
        have Stb := Lib.hid (show Str w23 w.heap.size 48 #[.int .i64 t0, .int .i64 t1, .int .i64 t2, .slice at3 xt3.length capt3] from ((hb23).block _ Stb.out.lt).trans Stb.out)
        have Sw0 := Lib.hid (show Str w23 OBw 27 #[.int .i64 N0, .int .i64 N1, .int .i64 N2, .slice aw0_3 L.length cw0_3] from ((hb23).block _ Sw0.out.lt).trans Sw0.out)
        have Stxv := Lib.hid (show Str w23 w4.heap.size 27 #[.int .i64 t0, .int .i64 t1, .int .i64 t2, .slice atx xt3.length ctx] from ((hb23).block _ Stxv.out.lt).trans Stxv.out)
        have Sg0 := Lib.hid (show Str w23 w6.heap.size 27 #[.int .i64 N0, .int .i64 N1, .int .i64 N2, .slice ag0_3 L.length cg0_3] from ((hb23).block _ Sg0.out.lt).trans Sg0.out)
        have Sh0 := Lib.hid (show Str w23 w19.heap.size 27 #[.int .i64 0, .int .i64 0, .int .i64 0, .slice none 0 0] from ((hb23).block _ Sh0.out.lt).trans Sh0.out)
        have hz23 := (hb23).size
        have Hh0_3 := Lib.hid (OwnI.of hoh0_3); clear hoh0_3
        obtain ⟨ah0_3, ch0_3, rfl, _, _⟩ := Hh0_3.out.ints
        have hch0_3 := Hh0_3.out.cap
        have hhh0_3 : w22.heap.size ≤ w22.heap.size := Nat.le_refl _
        have hjh0_3 : w23.heap.size ≤ w23.heap.size := Nat.le_refl _
        dsimp only
        refine hK.out _ _ ⟨Stb.out.cell 0 (v := .int .i64 t0) rfl, Stb.out.cell 1 (v := .int .i64 t1) rfl, Stb.out.cell 2 (v := .int .i64 t2) rfl, Stb.out.cell 3 (v := .slice at3 xt3.length capt3) rfl⟩ (fun hH => ?_)
        clear hK K
        try simp only [Act.put, List.setIfInBounds_toArray, List.set_cons_zero, List.set_cons_succ]
        refine takeL 6 (v := ?vih4) rfl (by kernel_rfl) (by kernel_rfl) (by kernel_rfl) (by kernel_rfl) (by kernel_rfl) (fun _ _ _ h => h) hH rfl ?yih4 ?rih4
        case yih4 => intro W hSw; go_simp; try with_reducible rfl
        try simp only [Act.put, List.setIfInBounds_toArray, List.set_cons_zero, List.set_cons_succ]
        refine takeL 7 (v := ?vih5) rfl (by kernel_rfl) (by kernel_rfl) (by kernel_rfl) (by kernel_rfl) (by kernel_rfl) (fun _ _ _ h => h) hH rfl ?yih5 ?rih5
        case yih5 => intro W hSw; go_simp; try with_reducible rfl
        try simp only [Act.put, List.setIfInBounds_toArray, List.set_cons_zero, List.set_cons_succ]
        refine takeL 8 (v := ?vih6) rfl (by kernel_rfl) (by kernel_rfl) (by kernel_rfl) (by kernel_rfl) (by kernel_rfl) (fun _ _ _ h => h) hH rfl ?yih6 ?rih6
        case yih6 => intro W hSw; go_simp; try with_reducible rfl
        try simp only [Act.put, List.setIfInBounds_toArray, List.set_cons_zero, List.set_cons_succ]
        refine callL 10 rfl (by kernel_rfl) rfl (fun K hK => ?_)
        have y0 := Sh0.out.frozen 0
        have y1 := Sh0.out.frozen 1
        have y2 := Sh0.out.frozen 2
        have y3 := Sh0.out.frozen 3
        have g0 := Sh0.out.cell 0 (v := .int .i64 0) rfl
        have g1 := Sh0.out.cell 1 (v := .int .i64 0) rfl
        have g2 := Sh0.out.cell 2 (v := .int .i64 0) rfl
        have g3 := Sh0.out.cell 3 (v := .slice none 0 0) rfl
        go_simp
        clear y0 g0 y1 g1 y2 g2 y3 g3
        have hbt : Btw (w19.heap.size) (w19.heap.size + 1) w23 ((((w23.setCell ⟨w19.heap.size, 0, none⟩ (.int .i64 N0)).setCell ⟨w19.heap.size, 1, none⟩ (.int .i64 N1)).setCell ⟨w19.heap.size, 2, none⟩ (.int .i64 N2)).setCell ⟨w19.heap.size, 3, none⟩ (.slice ah0_3 L.length ch0_3)) := ((((Btw.set w23 (Nat.le_refl (w19.heap.size)) (Nat.lt_succ_self _) 0 (.int .i64 N0)).trans (Btw.set (w23.setCell ⟨w19.heap.size, 0, none⟩ (.int .i64 N0)) (Nat.le_refl (w19.heap.size)) (Nat.lt_succ_self _) 1 (.int .i64 N1))).trans (Btw.set ((w23.setCell ⟨w19.heap.size, 0, none⟩ (.int .i64 N0)).setCell ⟨w19.heap.size, 1, none⟩ (.int .i64 N1)) (Nat.le_refl (w19.heap.size)) (Nat.lt_succ_self _) 2 (.int .i64 N2))).trans (Btw.set (((w23.setCell ⟨w19.heap.size, 0, none⟩ (.int .i64 N0)).setCell ⟨w19.heap.size, 1, none⟩ (.int .i64 N1)).setCell ⟨w19.heap.size, 2, none⟩ (.int .i64 N2)) (Nat.le_refl (w19.heap.size)) (Nat.lt_succ_self _) 3 (.slice ah0_3 L.length ch0_3)))
        have sO : Str ((((w23.setCell ⟨w19.heap.size, 0, none⟩ (.int .i64 N0)).setCell ⟨w19.heap.size, 1, none⟩ (.int .i64 N1)).setCell ⟨w19.heap.size, 2, none⟩ (.int .i64 N2)).setCell ⟨w19.heap.size, 3, none⟩ (.slice ah0_3 L.length ch0_3)) (w19.heap.size) 27 #[.int .i64 N0, .int .i64 N1, .int .i64 N2, .slice ah0_3 L.length ch0_3] := ((((Sh0.out.set 0 (.int .i64 N0)).set 1 (.int .i64 N1)).set 2 (.int .i64 N2)).set 3 (.slice ah0_3 L.length ch0_3))
        generalize ((((w23.setCell ⟨w19.heap.size, 0, none⟩ (.int .i64 N0)).setCell ⟨w19.heap.size, 1, none⟩ (.int .i64 N1)).setCell ⟨w19.heap.size, 2, none⟩ (.int .i64 N2)).setCell ⟨w19.heap.size, 3, none⟩ (.slice ah0_3 L.length ch0_3)) = w24 at *
        have hz24 := hbt.size
        have Hq := Lib.hid (hbt.below Hq.out Hq.out.size (by omega))
        have Stb := Lib.hid (Stb.out.btw hbt (by first | exact .inl (by omega) | exact .inr (by omega) | omega))
        have Hh0_3 := Lib.hid (Hh0_3.out.btw hbt (by first | exact .inl (by omega) | exact .inr (by omega) | omega))
        clear hbt
        refine hK.out _ _ ⟨Stb.out.cell 0 (v := .int .i64 t0) rfl, Stb.out.cell 1 (v := .int .i64 t1) rfl, Stb.out.cell 2 (v := .int .i64 t2) rfl, Stb.out.cell 3 (v := .slice at3 xt3.length capt3) rfl⟩ (fun hH => ?_)
        clear hK K
        try simp only [Act.put, List.setIfInBounds_toArray, List.set_cons_zero, List.set_cons_succ]
        refine lastL rfl (by kernel_rfl) (by kernel_rfl) (by kernel_rfl) rfl (fun K hK => ?_)
        go_simp
        have z2 : w18.heap.size ≤ w22.heap.size := by omega
        have z3 : w22.heap.size ≤ w23.heap.size := by omega
        have z4 : w23.heap.size ≤ w24.heap.size := by omega
        have Ho9 := Hh0_3.out
        clear hH
        obtain ⟨OB, hOB⟩ : ∃ OB, OB = w19.heap.size := ⟨_, rfl⟩
        have z1 : w18.heap.size ≤ OB := by omega
        have z5 : OB < w22.heap.size ∨ w23.heap.size ≤ OB := (by first | exact .inl (by omega) | exact .inr (by omega) | omega)
        rw [← hOB] at sO ⊢
        refine hK.out _ _ ⟨OB, w22.heap.size, w23.heap.size, acz, atz, ah0_3, ccz, ctz, ch0_3, ?_, Hq.out, sO, Ho9, z1, z2, z3, z4, z5⟩
        rfl
      go_simp
      refine (laws_toIntS ac capc xc _ (by omega) (Hic.out.below Hb19.out)).mono ?_
      rintro e w20 ⟨vcz, rfl, hocz, hb20⟩
      have Hb20 := Lib.hid (below_step Hb19.out Hb19.out.size hb20)
      have Hq := Lib.hid (below_step Hq.out Hq.out.size hb20)
      have Hw0_3 := Lib.hid (Hw0_3.out.below hb20)
      have Hg0_3 := Lib.hid (Hg0_3.out.below hb20)
      have Stb := Lib.hid (show Str w20 w.heap.size 48 #[.int .i64 t0, .int .i64 t1, .int .i64 t2, .slice at3 xt3.length capt3] from ((hb20).block _ Stb.out.lt).trans Stb.out)
      have Sw0 := Lib.hid (show Str w20 OBw 27 #[.int .i64 N0, .int .i64 N1, .int .i64 N2, .slice aw0_3 L.length cw0_3] from ((hb20).block _ Sw0.out.lt).trans Sw0.out)
      have Stxv := Lib.hid (show Str w20 w4.heap.size 27 #[.int .i64 t0, .int .i64 t1, .int .i64 t2, .slice atx xt3.length ctx] from ((hb20).block _ Stxv.out.lt).trans Stxv.out)
      have Sg0 := Lib.hid (show Str w20 w6.heap.size 27 #[.int .i64 N0, .int .i64 N1, .int .i64 N2, .slice ag0_3 L.length cg0_3] from ((hb20).block _ Sg0.out.lt).trans Sg0.out)
      have hz20 := (hb20).size
      have Hcz := Lib.hid (OwnI.of hocz); clear hocz
      obtain ⟨acz, ccz, rfl, _, _⟩ := Hcz.out.ints
      have hccz := Hcz.out.cap
      have hhcz : w19.heap.size ≤ w19.heap.size := Nat.le_refl _
      have hjcz : w20.heap.size ≤ w20.heap.size := Nat.le_refl _
      dsimp only
      refine hK.out _ _ ⟨Stb.out.cell 0 (v := .int .i64 t0) rfl, Stb.out.cell 1 (v := .int .i64 t1) rfl, Stb.out.cell 2 (v := .int .i64 t2) rfl, Stb.out.cell 3 (v := .slice at3 xt3.length capt3) rfl⟩ (fun hH => ?_)
      clear hK K
      try simp only [Act.put, List.setIfInBounds_toArray, List.set_cons_zero, List.set_cons_succ]
      refine twoL 3 9 rfl rfl (by kernel_rfl) rfl rfl (fun K hK => ?_) (fun K hK => ?_)
      rotate_left
      · skip
        go_simp
        have hal : Below w20.heap.size w20 (w20.alloc (.cells #[.int .i64 0, .int .i64 0, .int .i64 0, .slice none 0 0] 27)) := (Below.refl _ _).alloc (Nat.le_refl _) _
        have sN := Str.new w20 27 #[.int .i64 0, .int .i64 0, .int .i64 0, .slice none 0 0]
        have hzn : w20.heap.size < (w20.alloc (.cells #[.int .i64 0, .int .i64 0, .int .i64 0, .slice none 0 0] 27)).heap.size := by simp
        generalize hwn : (w20.alloc (.cells #[.int .i64 0, .int .i64 0, .int .i64 0, .slice none 0 0] 27)) = w21 at *
        have Hb21 := Lib.hid (below_step Hb20.out Hb20.out.size hal)
        have Hq := Lib.hid (below_step Hq.out Hq.out.size hal)
        have Hw0_3 := Lib.hid (Hw0_3.out.below hal)
        have Hg0_3 := Lib.hid (Hg0_3.out.below hal)
        have Hcz := Lib.hid (Hcz.out.below hal)
        have Stb := Lib.hid (show Str w21 w.heap.size 48 #[.int .i64 t0, .int .i64 t1, .int .i64 t2, .slice at3 xt3.length capt3] from ((hal).block _ Stb.out.lt).trans Stb.out)
        have Sw0 := Lib.hid (show Str w21 OBw 27 #[.int .i64 N0, .int .i64 N1, .int .i64 N2, .slice aw0_3 L.length cw0_3] from ((hal).block _ Sw0.out.lt).trans Sw0.out)
        have Stxv := Lib.hid (show Str w21 w4.heap.size 27 #[.int .i64 t0, .int .i64 t1, .int .i64 t2, .slice atx xt3.length ctx] from ((hal).block _ Stxv.out.lt).trans Stxv.out)
        have Sg0 := Lib.hid (show Str w21 w6.heap.size 27 #[.int .i64 N0, .int .i64 N1, .int .i64 N2, .slice ag0_3 L.length cg0_3] from ((hal).block _ Sg0.out.lt).trans Sg0.out)
        have hz21 := (hal).size
        have Sh0 := Lib.hid sN; clear sN hal hwn
        refine hK.out _ _ ⟨Stb.out.cell 0 (v := .int .i64 t0) rfl, Stb.out.cell 1 (v := .int .i64 t1) rfl, Stb.out.cell 2 (v := .int .i64 t2) rfl, Stb.out.cell 3 (v := .slice at3 xt3.length capt3) rfl⟩ (fun hH => ?_)
        clear hK K
        try simp only [Act.put, List.setIfInBounds_toArray, List.set_cons_zero, List.set_cons_succ]
        refine callL 3 rfl (by kernel_rfl) rfl (fun K hK => ?_)
        go_simp
        refine (laws_toTallyR t0 t1 t2 at3 capt3 xt3 _ (by omega) (Hixt3.out.below Hb21.out)).mono ?_
        rintro e w22 ⟨vtz, rfl, hotz, hb22⟩
        have Hb22 := Lib.hid (below_step Hb21.out Hb21.out.size hb22)
        have Hq := Lib.hid (below_step Hq.out Hq.out.size hb22)
        have Hw0_3 := Lib.hid (Hw0_3.out.below hb22)
        have Hg0_3 := Lib.hid (Hg0_3.out.below hb22)
        have Hcz := Lib.hid (Hcz.out.below hb22)
        have Stb := Lib.hid (show Str w22 w.heap.size 48 #[.int .i64 t0, .int .i64 t1, .int .i64 t2, .slice at3 xt3.length capt3] from ((hb22).block _ Stb.out.lt).trans Stb.out)
        have Sw0 := Lib.hid (show Str w22 OBw 27 #[.int .i64 N0, .int .i64 N1, .int .i64 N2, .slice aw0_3 L.length cw0_3] from ((hb22).block _ Sw0.out.lt).trans Sw0.out)
        have Stxv := Lib.hid (show Str w22 w4.heap.size 27 #[.int .i64 t0, .int .i64 t1, .int .i64 t2, .slice atx xt3.length ctx] from ((hb22).block _ Stxv.out.lt).trans Stxv.out)
        have Sg0 := Lib.hid (show Str w22 w6.heap.size 27 #[.int .i64 N0, .int .i64 N1, .int .i64 N2, .slice ag0_3 L.length cg0_3] from ((hb22).block _ Sg0.out.lt).trans Sg0.out)
        have Sh0 := Lib.hid (show Str w22 w20.heap.size 27 #[.int .i64 0, .int .i64 0, .int .i64 0, .slice none 0 0] from ((hb22).block _ Sh0.out.lt).trans Sh0.out)
        have hz22 := (hb22).size
        have Htz := Lib.hid (OwnI.of hotz); clear hotz
        obtain ⟨atz, ctz, rfl, _, _⟩ := Htz.out.ints
        have hctz := Htz.out.cap
        have hhtz : w21.heap.size ≤ w21.heap.size := Nat.le_refl _
        have hjtz : w22.heap.size ≤ w22.heap.size := Nat.le_refl _
        dsimp only
        refine hK.out _ _ ⟨Stb.out.cell 0 (v := .int .i64 t0) rfl, Stb.out.cell 1 (v := .int .i64 t1) rfl, Stb.out.cell 2 (v := .int .i64 t2) rfl, Stb.out.cell 3 (v := .slice at3 xt3.length capt3) rfl⟩ (fun hH => ?_)
        clear hK K
        try simp only [Act.put, List.setIfInBounds_toArray, List.set_cons_zero, List.set_cons_succ]
        refine callL 5 rfl (by kernel_rfl) rfl (fun K hK => ?_)
        go_simp
        refine (Himpl.out acz ccz atz ctz _ hccz Hcz.out.at hctz Htz.out.at (own_src Htz.out.own)).mono ?_
        rintro e w23 ⟨vh0_3, rfl, hoh0_3, hb23⟩
        have Hb23 := Lib.hid (below_step Hb22.out Hb22.out.size hb23)
        have Hq := Lib.hid (below_step Hq.out Hq.out.size hb23)
        have Hw0_3 := Lib.hid (Hw0_3.out.below hb23)
        have Hg0_3 := Lib.hid (Hg0_3.out.below hb23)
        have Hcz := Lib.hid (Hcz.out.below hb23)
        have Htz := Lib.hid (Htz.out.below hb23)
        have Stb := Lib.hid (show Str w23 w.heap.size 48 #[.int .i64 t0, .int .i64 t1, .int .i64 t2, .slice at3 xt3.length capt3] from ((hb23).block _ Stb.out.lt).trans Stb.out)
        have Sw0 := Lib.hid (show Str w23 OBw 27 #[.int .i64 N0, .int .i64 N1, .int .i64 N2, .slice aw0_3 L.length cw0_3] from ((hb23).block _ Sw0.out.lt).trans Sw0.out)
        have Stxv := Lib.hid (show Str w23 w4.heap.size 27 #[.int .i64 t0, .int .i64 t1, .int .i64 t2, .slice atx xt3.length ctx] from ((hb23).block _ Stxv.out.lt).trans Stxv.out)
        have Sg0 := Lib.hid (show Str w23 w6.heap.size 27 #[.int .i64 N0, .int .i64 N1, .int .i64 N2, .slice ag0_3 L.length cg0_3] from ((hb23).block _ Sg0.out.lt).trans Sg0.out)
        have Sh0 := Lib.hid (show Str w23 w20.heap.size 27 #[.int .i64 0, .int .i64 0, .int .i64 0, .slice none 0 0] from ((hb23).block _ Sh0.out.lt).trans Sh0.out)
        have hz23 := (hb23).size
        have Hh0_3 := Lib.hid (OwnI.of hoh0_3); clear hoh0_3
        obtain ⟨ah0_3, ch0_3, rfl, _, _⟩ := Hh0_3.out.ints
        have hch0_3 := Hh0_3.out.cap
        have hhh0_3 : w22.heap.size ≤ w22.heap.size := Nat.le_refl _
        have hjh0_3 : w23.heap.size ≤ w23.heap.size := Nat.le_refl _
        dsimp only
        refine hK.out _ _ ⟨Stb.out.cell 0 (v := .int .i64 t0) rfl, Stb.out.cell 1 (v := .int .i64 t1) rfl, Stb.out.cell 2 (v := .int .i64 t2) rfl, Stb.out.cell 3 (v := .slice at3 xt3.length capt3) rfl⟩ (fun hH => ?_)
        clear hK K
        try simp only [Act.put, List.setIfInBounds_toArray, List.set_cons_zero, List.set_cons_succ]
        refine takeL 6 (v := ?vih7) rfl (by kernel_rfl) (by kernel_rfl) (by kernel_rfl) (by kernel_rfl) (by kernel_rfl) (fun _ _ _ h => h) hH rfl ?yih7 ?rih7
        case yih7 => intro W hSw; go_simp; try with_reducible rfl
        try simp only [Act.put, List.setIfInBounds_toArray, List.set_cons_zero, List.set_cons_succ]
        refine takeL 7 (v := ?vih8) rfl (by kernel_rfl) (by kernel_rfl) (by kernel_rfl) (by kernel_rfl) (by kernel_rfl) (fun _ _ _ h => h) hH rfl ?yih8 ?rih8
        case yih8 => intro W hSw; go_simp; try with_reducible rfl
        try simp only [Act.put, List.setIfInBounds_toArray, List.set_cons_zero, List.set_cons_succ]
        refine takeL 8 (v := ?vih9) rfl (by kernel_rfl) (by kernel_rfl) (by kernel_rfl) (by kernel_rfl) (by kernel_rfl) (fun _ _ _ h => h) hH rfl ?yih9 ?rih9
        case yih9 => intro W hSw; go_simp; try with_reducible rfl
        try simp only [Act.put, List.setIfInBounds_toArray, List.set_cons_zero, List.set_cons_succ]
        refine callL 10 rfl (by kernel_rfl) rfl (fun K hK => ?_)
        have y0 := Sh0.out.frozen 0
        have y1 := Sh0.out.frozen 1
        have y2 := Sh0.out.frozen 2
        have y3 := Sh0.out.frozen 3
        have g0 := Sh0.out.cell 0 (v := .int .i64 0) rfl
        have g1 := Sh0.out.cell 1 (v := .int .i64 0) rfl
        have g2 := Sh0.out.cell 2 (v := .int .i64 0) rfl
        have g3 := Sh0.out.cell 3 (v := .slice none 0 0) rfl
        go_simp
        clear y0 g0 y1 g1 y2 g2 y3 g3
        have hbt : Btw (w20.heap.size) (w20.heap.size + 1) w23 ((((w23.setCell ⟨w20.heap.size, 0, none⟩ (.int .i64 N0)).setCell ⟨w20.heap.size, 1, none⟩ (.int .i64 N1)).setCell ⟨w20.heap.size, 2, none⟩ (.int .i64 N2)).setCell ⟨w20.heap.size, 3, none⟩ (.slice ah0_3 L.length ch0_3)) := ((((Btw.set w23 (Nat.le_refl (w20.heap.size)) (Nat.lt_succ_self _) 0 (.int .i64 N0)).trans (Btw.set (w23.setCell ⟨w20.heap.size, 0, none⟩ (.int .i64 N0)) (Nat.le_refl (w20.heap.size)) (Nat.lt_succ_self _) 1 (.int .i64 N1))).trans (Btw.set ((w23.setCell ⟨w20.heap.size, 0, none⟩ (.int .i64 N0)).setCell ⟨w20.heap.size, 1, none⟩ (.int .i64 N1)) (Nat.le_refl (w20.heap.size)) (Nat.lt_succ_self _) 2 (.int .i64 N2))).trans (Btw.set (((w23.setCell ⟨w20.heap.size, 0, none⟩ (.int .i64 N0)).setCell ⟨w20.heap.size, 1, none⟩ (.int .i64 N1)).setCell ⟨w20.heap.size, 2, none⟩ (.int .i64 N2)) (Nat.le_refl (w20.heap.size)) (Nat.lt_succ_self _) 3 (.slice ah0_3 L.length ch0_3)))
        have sO : Str ((((w23.setCell ⟨w20.heap.size, 0, none⟩ (.int .i64 N0)).setCell ⟨w20.heap.size, 1, none⟩ (.int .i64 N1)).setCell ⟨w20.heap.size, 2, none⟩ (.int .i64 N2)).setCell ⟨w20.heap.size, 3, none⟩ (.slice ah0_3 L.length ch0_3)) (w20.heap.size) 27 #[.int .i64 N0, .int .i64 N1, .int .i64 N2, .slice ah0_3 L.length ch0_3] := ((((Sh0.out.set 0 (.int .i64 N0)).set 1 (.int .i64 N1)).set 2 (.int .i64 N2)).set 3 (.slice ah0_3 L.length ch0_3))
        generalize ((((w23.setCell ⟨w20.heap.size, 0, none⟩ (.int .i64 N0)).setCell ⟨w20.heap.size, 1, none⟩ (.int .i64 N1)).setCell ⟨w20.heap.size, 2, none⟩ (.int .i64 N2)).setCell ⟨w20.heap.size, 3, none⟩ (.slice ah0_3 L.length ch0_3)) = w24 at *
        have hz24 := hbt.size
        have Hq := Lib.hid (hbt.below Hq.out Hq.out.size (by omega))
        have Stb := Lib.hid (Stb.out.btw hbt (by first | exact .inl (by omega) | exact .inr (by omega) | omega))
        have Hh0_3 := Lib.hid (Hh0_3.out.btw hbt (by first | exact .inl (by omega) | exact .inr (by omega) | omega))
        clear hbt
        refine hK.out _ _ ⟨Stb.out.cell 0 (v := .int .i64 t0) rfl, Stb.out.cell 1 (v := .int .i64 t1) rfl, Stb.out.cell 2 (v := .int .i64 t2) rfl, Stb.out.cell 3 (v := .slice at3 xt3.length capt3) rfl⟩ (fun hH => ?_)
        clear hK K
        try simp only [Act.put, List.setIfInBounds_toArray, List.set_cons_zero, List.set_cons_succ]
        refine lastL rfl (by kernel_rfl) (by kernel_rfl) (by kernel_rfl) rfl (fun K hK => ?_)
        go_simp
        have z2 : w18.heap.size ≤ w22.heap.size := by omega
        have z3 : w22.heap.size ≤ w23.heap.size := by omega
        have z4 : w23.heap.size ≤ w24.heap.size := by omega
        have Ho9 := Hh0_3.out
        clear hH
        obtain ⟨OB, hOB⟩ : ∃ OB, OB = w20.heap.size := ⟨_, rfl⟩
        have z1 : w18.heap.size ≤ OB := by omega
        have z5 : OB < w22.heap.size ∨ w23.heap.size ≤ OB := (by first | exact .inl (by omega) | exact .inr (by omega) | omega)
        rw [← hOB] at sO ⊢
        refine hK.out _ _ ⟨OB, w22.heap.size, w23.heap.size, acz, atz, ah0_3, ccz, ctz, ch0_3, ?_, Hq.out, sO, Ho9, z1, z2, z3, z4, z5⟩
        rfl
      go_simp
      refine (laws_toTallyR t0 t1 t2 at3 capt3 xt3 _ (by omega) (Hixt3.out.below Hb20.out)).mono ?_
      rintro e w21 ⟨vtz, rfl, hotz, hb21⟩
      have Hb21 := Lib.hid (below_step Hb20.out Hb20.out.size hb21)
      have Hq := Lib.hid (below_step Hq.out Hq.out.size hb21)
      have Hw0_3 := Lib.hid (Hw0_3.out.below hb21)
      have Hg0_3 := Lib.hid (Hg0_3.out.below hb21)
      have Hcz := Lib.hid (Hcz.out.below hb21)
      have Stb := Lib.hid (show Str w21 w.heap.size 48 #[.int .i64 t0, .int .i64 t1, .int .i64 t2, .slice at3 xt3.length capt3] from ((hb21).block _ Stb.out.lt).trans Stb.out)
      have Sw0 := Lib.hid (show Str w21 OBw 27 #[.int .i64 N0, .int .i64 N1, .int .i64 N2, .slice aw0_3 L.length cw0_3] from ((hb21).block _ Sw0.out.lt).trans Sw0.out)
      have Stxv := Lib.hid (show Str w21 w4.heap.size 27 #[.int .i64 t0, .int .i64 t1, .int .i64 t2, .slice atx xt3.length ctx] from ((hb21).block _ Stxv.out.lt).trans Stxv.out)
      have Sg0 := Lib.hid (show Str w21 w6.heap.size 27 #[.int .i64 N0, .int .i64 N1, .int .i64 N2, .slice ag0_3 L.length cg0_3] from ((hb21).block _ Sg0.out.lt).trans Sg0.out)
      have hz21 := (hb21).size
      have Htz := Lib.hid (OwnI.of hotz); clear hotz
      obtain ⟨atz, ctz, rfl, _, _⟩ := Htz.out.ints
      have hctz := Htz.out.cap
      have hhtz : w20.heap.size ≤ w20.heap.size := Nat.le_refl _
      have hjtz : w21.heap.size ≤ w21.heap.size := Nat.le_refl _
      dsimp only
      refine hK.out _ _ ⟨Stb.out.cell 0 (v := .int .i64 t0) rfl, Stb.out.cell 1 (v := .int .i64 t1) rfl, Stb.out.cell 2 (v := .int .i64 t2) rfl, Stb.out.cell 3 (v := .slice at3 xt3.length capt3) rfl⟩ (fun hH => ?_)
      clear hK K
      try simp only [Act.put, List.setIfInBounds_toArray, List.set_cons_zero, List.set_cons_succ]
      refine twoL 5 9 rfl rfl (by kernel_rfl) rfl rfl (fun K hK => ?_) (fun K hK => ?_)
      rotate_left
      · skip
        go_simp
        have hal : Below w21.heap.size w21 (w21.alloc (.cells #[.int .i64 0, .int .i64 0, .int .i64 0, .slice none 0 0] 27)) := (Below.refl _ _).alloc (Nat.le_refl _) _
        have sN := Str.new w21 27 #[.int .i64 0, .int .i64 0, .int .i64 0, .slice none 0 0]
        have hzn : w21.heap.size < (w21.alloc (.cells #[.int .i64 0, .int .i64 0, .int .i64 0, .slice none 0 0] 27)).heap.size := by simp
        generalize hwn : (w21.alloc (.cells #[.int .i64 0, .int .i64 0, .int .i64 0, .slice none 0 0] 27)) = w22 at *
        have Hb22 := Lib.hid (below_step Hb21.out Hb21.out.size hal)
        have Hq := Lib.hid (below_step Hq.out Hq.out.size hal)
        have Hw0_3 := Lib.hid (Hw0_3.out.below hal)
        have Hg0_3 := Lib.hid (Hg0_3.out.below hal)
        have Hcz := Lib.hid (Hcz.out.below hal)
        have Htz := Lib.hid (Htz.out.below hal)
        have Stb := Lib.hid (show Str w22 w.heap.size 48 #[.int .i64 t0, .int .i64 t1, .int .i64 t2, .slice at3 xt3.length capt3] from ((hal).block _ Stb.out.lt).trans Stb.out)
        have Sw0 := Lib.hid (show Str w22 OBw 27 #[.int .i64 N0, .int .i64 N1, .int .i64 N2, .slice aw0_3 L.length cw0_3] from ((hal).block _ Sw0.out.lt).trans Sw0.out)
        have Stxv := Lib.hid (show Str w22 w4.heap.size 27 #[.int .i64 t0, .int .i64 t1, .int .i64 t2, .slice atx xt3.length ctx] from ((hal).block _ Stxv.out.lt).trans Stxv.out)
        have Sg0 := Lib.hid (show Str w22 w6.heap.size 27 #[.int .i64 N0, .int .i64 N1, .int .i64 N2, .slice ag0_3 L.length cg0_3] from ((hal).block _ Sg0.out.lt).trans Sg0.out)
        have hz22 := (hal).size
        have Sh0 := Lib.hid sN; clear sN hal hwn
        refine hK.out _ _ ⟨Stb.out.cell 0 (v := .int .i64 t0) rfl, Stb.out.cell 1 (v := .int .i64 t1) rfl, Stb.out.cell 2 (v := .int .i64 t2) rfl, Stb.out.cell 3 (v := .slice at3 xt3.length capt3) rfl⟩ (fun hH => ?_)
        clear hK K
        try simp only [Act.put, List.setIfInBounds_toArray, List.set_cons_zero, List.set_cons_succ]
        refine callL 5 rfl (by kernel_rfl) rfl (fun K hK => ?_)
        go_simp
        refine (Himpl.out acz ccz atz ctz _ hccz Hcz.out.at hctz Htz.out.at (own_src Htz.out.own)).mono ?_
        rintro e w23 ⟨vh0_3, rfl, hoh0_3, hb23⟩
        have Hb23 := Lib.hid (below_step Hb22.out Hb22.out.size hb23)
        have Hq := Lib.hid (below_step Hq.out Hq.out.size hb23)
        have Hw0_3 := Lib.hid (Hw0_3.out.below hb23)
        have Hg0_3 := Lib.hid (Hg0_3.out.below hb23)
        have Hcz := Lib.hid (Hcz.out.below hb23)
        have Htz := Lib.hid (Htz.out.below hb23)
        have Stb := Lib.hid (show Str w23 w.heap.size 48 #[.int .i64 t0, .int .i64 t1, .int .i64 t2, .slice at3 xt3.length capt3] from ((hb23).block _ Stb.out.lt).trans Stb.out)
        have Sw0 := Lib.hid (show Str w23 OBw 27 #[.int .i64 N0, .int .i64 N1, .int .i64 N2, .slice aw0_3 L.length cw0_3] from ((hb23).block _ Sw0.out.lt).trans Sw0.out)
        have Stxv := Lib.hid (show Str w23 w4.heap.size 27 #[.int .i64 t0, .int .i64 t1, .int .i64 t2, .slice atx xt3.length ctx] from ((hb23).block _ Stxv.out.lt).trans Stxv.out)
        have Sg0 := Lib.hid (show Str w23 w6.heap.size 27 #[.int .i64 N0, .int .i64 N1, .int .i64 N2, .slice ag0_3 L.length cg0_3] from ((hb23).block _ Sg0.out.lt).trans Sg0.out)
        have Sh0 := Lib.hid (show Str w23 w21.heap.size 27 #[.int .i64 0, .int .i64 0, .int .i64 0, .slice none 0 0] from ((hb23).block _ Sh0.out.lt).trans Sh0.out)
        have hz23 := (hb23).size
        have Hh0_3 := Lib.hid (OwnI.of hoh0_3); clear hoh0_3
        obtain ⟨ah0_3, ch0_3, rfl, _, _⟩ := Hh0_3.out.ints
        have hch0_3 := Hh0_3.out.cap
        have hhh0_3 : w22.heap.size ≤ w22.heap.size := Nat.le_refl _
        have hjh0_3 : w23.heap.size ≤ w23.heap.size := Nat.le_refl _
        dsimp only
        refine hK.out _ _ ⟨Stb.out.cell 0 (v := .int .i64 t0) rfl, Stb.out.cell 1 (v := .int .i64 t1) rfl, Stb.out.cell 2 (v := .int .i64 t2) rfl, Stb.out.cell 3 (v := .slice at3 xt3.length capt3) rfl⟩ (fun hH => ?_)
        clear hK K
        try simp only [Act.put, List.setIfInBounds_toArray, List.set_cons_zero, List.set_cons_succ]
        refine takeL 6 (v := ?vih10) rfl (by kernel_rfl) (by kernel_rfl) (by kernel_rfl) (by kernel_rfl) (by kernel_rfl) (fun _ _ _ h => h) hH rfl ?yih10 ?rih10
        case yih10 => intro W hSw; go_simp; try with_reducible rfl
        try simp only [Act.put, List.setIfInBounds_toArray, List.set_cons_zero, List.set_cons_succ]
        refine takeL 7 (v := ?vih11) rfl (by kernel_rfl) (by kernel_rfl) (by kernel_rfl) (by kernel_rfl) (by kernel_rfl) (fun _ _ _ h => h) hH rfl ?yih11 ?rih11
        case yih11 => intro W hSw; go_simp; try with_reducible rfl
        try simp only [Act.put, List.setIfInBounds_toArray, List.set_cons_zero, List.set_cons_succ]
        refine takeL 8 (v := ?vih12) rfl (by kernel_rfl) (by kernel_rfl) (by kernel_rfl) (by kernel_rfl) (by kernel_rfl) (fun _ _ _ h => h) hH rfl ?yih12 ?rih12
        case yih12 => intro W hSw; go_simp; try with_reducible rfl
        try simp only [Act.put, List.setIfInBounds_toArray, List.set_cons_zero, List.set_cons_succ]
        refine callL 10 rfl (by kernel_rfl) rfl (fun K hK => ?_)
        have y0 := Sh0.out.frozen 0
        have y1 := Sh0.out.frozen 1
        have y2 := Sh0.out.frozen 2
        have y3 := Sh0.out.frozen 3
        have g0 := Sh0.out.cell 0 (v := .int .i64 0) rfl
        have g1 := Sh0.out.cell 1 (v := .int .i64 0) rfl
        have g2 := Sh0.out.cell 2 (v := .int .i64 0) rfl
        have g3 := Sh0.out.cell 3 (v := .slice none 0 0) rfl
        go_simp
        clear y0 g0 y1 g1 y2 g2 y3 g3
        have hbt : Btw (w21.heap.size) (w21.heap.size + 1) w23 ((((w23.setCell ⟨w21.heap.size, 0, none⟩ (.int .i64 N0)).setCell ⟨w21.heap.size, 1, none⟩ (.int .i64 N1)).setCell ⟨w21.heap.size, 2, none⟩ (.int .i64 N2)).setCell ⟨w21.heap.size, 3, none⟩ (.slice ah0_3 L.length ch0_3)) := ((((Btw.set w23 (Nat.le_refl (w21.heap.size)) (Nat.lt_succ_self _) 0 (.int .i64 N0)).trans (Btw.set (w23.setCell ⟨w21.heap.size, 0, none⟩ (.int .i64 N0)) (Nat.le_refl (w21.heap.size)) (Nat.lt_succ_self _) 1 (.int .i64 N1))).trans (Btw.set ((w23.setCell ⟨w21.heap.size, 0, none⟩ (.int .i64 N0)).setCell ⟨w21.heap.size, 1, none⟩ (.int .i64 N1)) (Nat.le_refl (w21.heap.size)) (Nat.lt_succ_self _) 2 (.int .i64 N2))).trans (Btw.set (((w23.setCell ⟨w21.heap.size, 0, none⟩ (.int .i64 N0)).setCell ⟨w21.heap.size, 1, none⟩ (.int .i64 N1)).setCell ⟨w21.heap.size, 2, none⟩ (.int .i64 N2)) (Nat.le_refl (w21.heap.size)) (Nat.lt_succ_self _) 3 (.slice ah0_3 L.length ch0_3)))
        have sO : Str ((((w23.setCell ⟨w21.heap.size, 0, none⟩ (.int .i64 N0)).setCell ⟨w21.heap.size, 1, none⟩ (.int .i64 N1)).setCell ⟨w21.heap.size, 2, none⟩ (.int .i64 N2)).setCell ⟨w21.heap.size, 3, none⟩ (.slice ah0_3 L.length ch0_3)) (w21.heap.size) 27 #[.int .i64 N0, .int .i64 N1, .int .i64 N2, .slice ah0_3 L.length ch0_3] := ((((Sh0.out.set 0 (.int .i64 N0)).set 1 (.int .i64 N1)).set 2 (.int .i64 N2)).set 3 (.slice ah0_3 L.length ch0_3))
        generalize ((((w23.setCell ⟨w21.heap.size, 0, none⟩ (.int .i64 N0)).setCell ⟨w21.heap.size, 1, none⟩ (.int .i64 N1)).setCell ⟨w21.heap.size, 2, none⟩ (.int .i64 N2)).setCell ⟨w21.heap.size, 3, none⟩ (.slice ah0_3 L.length ch0_3)) = w24 at *
        have hz24 := hbt.size
        have Hq := Lib.hid (hbt.below Hq.out Hq.out.size (by omega))
        have Stb := Lib.hid (Stb.out.btw hbt (by first | exact .inl (by omega) | exact .inr (by omega) | omega))
        have Hh0_3 := Lib.hid (Hh0_3.out.btw hbt (by first | exact .inl (by omega) | exact .inr (by omega) | omega))
        clear hbt
        refine hK.out _ _ ⟨Stb.out.cell 0 (v := .int .i64 t0) rfl, Stb.out.cell 1 (v := .int .i64 t1) rfl, Stb.out.cell 2 (v := .int .i64 t2) rfl, Stb.out.cell 3 (v := .slice at3 xt3.length capt3) rfl⟩ (fun hH => ?_)
        clear hK K
        try simp only [Act.put, List.setIfInBounds_toArray, List.set_cons_zero, List.set_cons_succ]
        refine lastL rfl (by kernel_rfl) (by kernel_rfl) (by kernel_rfl) rfl (fun K hK => ?_)
        go_simp
        have z2 : w18.heap.size ≤ w22.heap.size := by omega
        have z3 : w22.heap.size ≤ w23.heap.size := by omega
        have z4 : w23.heap.size ≤ w24.heap.size := by omega
        have Ho9 := Hh0_3.out
        clear hH
        obtain ⟨OB, hOB⟩ : ∃ OB, OB = w21.heap.size := ⟨_, rfl⟩
        have z1 : w18.heap.size ≤ OB := by omega
        have z5 : OB < w22.heap.size ∨ w23.heap.size ≤ OB := (by first | exact .inl (by omega) | exact .inr (by omega) | omega)
        rw [← hOB] at sO ⊢
        refine hK.out _ _ ⟨OB, w22.heap.size, w23.heap.size, acz, atz, ah0_3, ccz, ctz, ch0_3, ?_, Hq.out, sO, Ho9, z1, z2, z3, z4, z5⟩
        rfl
      go_simp
      refine (Himpl.out acz ccz atz ctz _ hccz Hcz.out.at hctz Htz.out.at (own_src Htz.out.own)).mono ?_
      rintro e w22 ⟨vh0_3, rfl, hoh0_3, hb22⟩
      have Hb22 := Lib.hid (below_step Hb21.out Hb21.out.size hb22)
      have Hq := Lib.hid (below_step Hq.out Hq.out.size hb22)
      have Hw0_3 := Lib.hid (Hw0_3.out.below hb22)
      have Hg0_3 := Lib.hid (Hg0_3.out.below hb22)
      have Hcz := Lib.hid (Hcz.out.below hb22)
      have Htz := Lib.hid (Htz.out.below hb22)
      have Stb := Lib.hid (show Str w22 w.heap.size 48 #[.int .i64 t0, .int .i64 t1, .int .i64 t2, .slice at3 xt3.length capt3] from ((hb22).block _ Stb.out.lt).trans Stb.out)
      have Sw0 := Lib.hid (show Str w22 OBw 27 #[.int .i64 N0, .int .i64 N1, .int .i64 N2, .slice aw0_3 L.length cw0_3] from ((hb22).block _ Sw0.out.lt).trans Sw0.out)
      have Stxv := Lib.hid (show Str w22 w4.heap.size 27 #[.int .i64 t0, .int .i64 t1, .int .i64 t2, .slice atx xt3.length ctx] from ((hb22).block _ Stxv.out.lt).trans Stxv.out)
      have Sg0 := Lib.hid (show Str w22 w6.heap.size 27 #[.int .i64 N0, .int .i64 N1, .int .i64 N2, .slice ag0_3 L.length cg0_3] from ((hb22).block _ Sg0.out.lt).trans Sg0.out)
      have hz22 := (hb22).size
      have Hh0_3 := Lib.hid (OwnI.of hoh0_3); clear hoh0_3
      obtain ⟨ah0_3, ch0_3, rfl, _, _⟩ := Hh0_3.out.ints
      have hch0_3 := Hh0_3.out.cap
      have hhh0_3 : w21.heap.size ≤ w21.heap.size := Nat.le_refl _
      have hjh0_3 : w22.heap.size ≤ w22.heap.size := Nat.le_refl _
      dsimp only
      refine hK.out _ _ ⟨Stb.out.cell 0 (v := .int .i64 t0) rfl, Stb.out.cell 1 (v := .int .i64 t1) rfl, Stb.out.cell 2 (v := .int .i64 t2) rfl, Stb.out.cell 3 (v := .slice at3 xt3.length capt3) rfl⟩ (fun hH => ?_)
      clear hK K
      try simp only [Act.put, List.setIfInBounds_toArray, List.set_cons_zero, List.set_cons_succ]
      refine takeL 6 (v := ?vih13) rfl (by kernel_rfl) (by kernel_rfl) (by kernel_rfl) (by kernel_rfl) (by kernel_rfl) (fun _ _ _ h => h) hH rfl ?yih13 ?rih13
      case yih13 => intro W hSw; go_simp; try with_reducible rfl
      try simp only [Act.put, List.setIfInBounds_toArray, List.set_cons_zero, List.set_cons_succ]
      refine takeL 7 (v := ?vih14) rfl (by kernel_rfl) (by kernel_rfl) (by kernel_rfl) (by kernel_rfl) (by kernel_rfl) (fun _ _ _ h => h) hH rfl ?yih14 ?rih14
      case yih14 => intro W hSw; go_simp; try with_reducible rfl
      try simp only [Act.put, List.setIfInBounds_toArray, List.set_cons_zero, List.set_cons_succ]
      refine takeL 8 (v := ?vih15) rfl (by kernel_rfl) (by kernel_rfl) (by kernel_rfl) (by kernel_rfl) (by kernel_rfl) (fun _ _ _ h => h) hH rfl ?yih15 ?rih15
      case yih15 => intro W hSw; go_simp; try with_reducible rfl
      try simp only [Act.put, List.setIfInBounds_toArray, List.set_cons_zero, List.set_cons_succ]
      refine callL 9 rfl (by kernel_rfl) rfl (fun K hK => ?_)
      go_simp
      have hal : Below w22.heap.size w22 (w22.alloc (.cells #[.int .i64 0, .int .i64 0, .int .i64 0, .slice none 0 0] 27)) := (Below.refl _ _).alloc (Nat.le_refl _) _
      have sN := Str.new w22 27 #[.int .i64 0, .int .i64 0, .int .i64 0, .slice none 0 0]
      have hzn : w22.heap.size < (w22.alloc (.cells #[.int .i64 0, .int .i64 0, .int .i64 0, .slice none 0 0] 27)).heap.size := by simp
      generalize hwn : (w22.alloc (.cells #[.int .i64 0, .int .i64 0, .int .i64 0, .slice none 0 0] 27)) = w23 at *
      have Hb23 := Lib.hid (below_step Hb22.out Hb22.out.size hal)
      have Hq := Lib.hid (below_step Hq.out Hq.out.size hal)
      have Hw0_3 := Lib.hid (Hw0_3.out.below hal)
      have Hg0_3 := Lib.hid (Hg0_3.out.below hal)
      have Hcz := Lib.hid (Hcz.out.below hal)
      have Htz := Lib.hid (Htz.out.below hal)
      have Hh0_3 := Lib.hid (Hh0_3.out.below hal)
      have Stb := Lib.hid (show Str w23 w.heap.size 48 #[.int .i64 t0, .int .i64 t1, .int .i64 t2, .slice at3 xt3.length capt3] from ((hal).block _ Stb.out.lt).trans Stb.out)
      have Sw0 := Lib.hid (show Str w23 OBw 27 #[.int .i64 N0, .int .i64 N1, .int .i64 N2, .slice aw0_3 L.length cw0_3] from ((hal).block _ Sw0.out.lt).trans Sw0.out)
      have Stxv := Lib.hid (show Str w23 w4.heap.size 27 #[.int .i64 t0, .int .i64 t1, .int .i64 t2, .slice atx xt3.length ctx] from ((hal).block _ Stxv.out.lt).trans Stxv.out)
      have Sg0 := Lib.hid (show Str w23 w6.heap.size 27 #[.int .i64 N0, .int .i64 N1, .int .i64 N2, .slice ag0_3 L.length cg0_3] from ((hal).block _ Sg0.out.lt).trans Sg0.out)
      have hz23 := (hal).size
      have Sh0 := Lib.hid sN; clear sN hal hwn
      refine hK.out _ _ ⟨Stb.out.cell 0 (v := .int .i64 t0) rfl, Stb.out.cell 1 (v := .int .i64 t1) rfl, Stb.out.cell 2 (v := .int .i64 t2) rfl, Stb.out.cell 3 (v := .slice at3 xt3.length capt3) rfl⟩ (fun hH => ?_)
      clear hK K
      try simp only [Act.put, List.setIfInBounds_toArray, List.set_cons_zero, List.set_cons_succ]
      refine callL 10 rfl (by kernel_rfl) rfl (fun K hK => ?_)
      have y0 := Sh0.out.frozen 0
      have y1 := Sh0.out.frozen 1
      have y2 := Sh0.out.frozen 2
      have y3 := Sh0.out.frozen 3
      have g0 := Sh0.out.cell 0 (v := .int .i64 0) rfl
      have g1 := Sh0.out.cell 1 (v := .int .i64 0) rfl
      have g2 := Sh0.out.cell 2 (v := .int .i64 0) rfl
      have g3 := Sh0.out.cell 3 (v := .slice none 0 0) rfl
      go_simp
      clear y0 g0 y1 g1 y2 g2 y3 g3
      have hbt : Btw (w22.heap.size) (w22.heap.size + 1) w23 ((((w23.setCell ⟨w22.heap.size, 0, none⟩ (.int .i64 N0)).setCell ⟨w22.heap.size, 1, none⟩ (.int .i64 N1)).setCell ⟨w22.heap.size, 2, none⟩ (.int .i64 N2)).setCell ⟨w22.heap.size, 3, none⟩ (.slice ah0_3 L.length ch0_3)) := ((((Btw.set w23 (Nat.le_refl (w22.heap.size)) (Nat.lt_succ_self _) 0 (.int .i64 N0)).trans (Btw.set (w23.setCell ⟨w22.heap.size, 0, none⟩ (.int .i64 N0)) (Nat.le_refl (w22.heap.size)) (Nat.lt_succ_self _) 1 (.int .i64 N1))).trans (Btw.set ((w23.setCell ⟨w22.heap.size, 0, none⟩ (.int .i64 N0)).setCell ⟨w22.heap.size, 1, none⟩ (.int .i64 N1)) (Nat.le_refl (w22.heap.size)) (Nat.lt_succ_self _) 2 (.int .i64 N2))).trans (Btw.set (((w23.setCell ⟨w22.heap.size, 0, none⟩ (.int .i64 N0)).setCell ⟨w22.heap.size, 1, none⟩ (.int .i64 N1)).setCell ⟨w22.heap.size, 2, none⟩ (.int .i64 N2)) (Nat.le_refl (w22.heap.size)) (Nat.lt_succ_self _) 3 (.slice ah0_3 L.length ch0_3)))
      have sO : Str ((((w23.setCell ⟨w22.heap.size, 0, none⟩ (.int .i64 N0)).setCell ⟨w22.heap.size, 1, none⟩ (.int .i64 N1)).setCell ⟨w22.heap.size, 2, none⟩ (.int .i64 N2)).setCell ⟨w22.heap.size, 3, none⟩ (.slice ah0_3 L.length ch0_3)) (w22.heap.size) 27 #[.int .i64 N0, .int .i64 N1, .int .i64 N2, .slice ah0_3 L.length ch0_3] := ((((Sh0.out.set 0 (.int .i64 N0)).set 1 (.int .i64 N1)).set 2 (.int .i64 N2)).set 3 (.slice ah0_3 L.length ch0_3))
      generalize ((((w23.setCell ⟨w22.heap.size, 0, none⟩ (.int .i64 N0)).setCell ⟨w22.heap.size, 1, none⟩ (.int .i64 N1)).setCell ⟨w22.heap.size, 2, none⟩ (.int .i64 N2)).setCell ⟨w22.heap.size, 3, none⟩ (.slice ah0_3 L.length ch0_3)) = w24 at *
      have hz24 := hbt.size
      have Hq := Lib.hid (hbt.below Hq.out Hq.out.size (by omega))
      have Stb := Lib.hid (Stb.out.btw hbt (by first | exact .inl (by omega) | exact .inr (by omega) | omega))
      have Hh0_3 := Lib.hid (Hh0_3.out.btw hbt (by first | exact .inl (by omega) | exact .inr (by omega) | omega))
      clear hbt
      refine hK.out _ _ ⟨Stb.out.cell 0 (v := .int .i64 t0) rfl, Stb.out.cell 1 (v := .int .i64 t1) rfl, Stb.out.cell 2 (v := .int .i64 t2) rfl, Stb.out.cell 3 (v := .slice at3 xt3.length capt3) rfl⟩ (fun hH => ?_)
      clear hK K
      try simp only [Act.put, List.setIfInBounds_toArray, List.set_cons_zero, List.set_cons_succ]
      refine lastL rfl (by kernel_rfl) (by kernel_rfl) (by kernel_rfl) rfl (fun K hK => ?_)
      go_simp
      have z2 : w18.heap.size ≤ w21.heap.size := by omega
      have z3 : w21.heap.size ≤ w22.heap.size := by omega
      have z4 : w22.heap.size ≤ w24.heap.size := by omega
      have Ho9 := Hh0_3.out
      clear hH
      obtain ⟨OB, hOB⟩ : ∃ OB, OB = w22.heap.size := ⟨_, rfl⟩
      have z1 : w18.heap.size ≤ OB := by omega
      have z5 : OB < w21.heap.size ∨ w22.heap.size ≤ OB := (by first | exact .inl (by omega) | exact .inr (by omega) | omega)
      rw [← hOB] at sO ⊢
      refine hK.out _ _ ⟨OB, w21.heap.size, w22.heap.size, acz, atz, ah0_3, ccz, ctz, ch0_3, ?_, Hq.out, sO, Ho9, z1, z2, z3, z4, z5⟩
      rfl
    case hqh =>
      intro e a w19 hx
      cases e <;> first | exact hx.elim | skip
      obtain ⟨OBh, LOh, HIh, acz, atz, ah0_3, ccz, ctz, ch0_3, rfl, hbj, so, ol, b1h, b2h, b3h, b4h, b5h⟩ := hx
      have Hb19 := Lib.hid (below_step Hb18.out Hb18.out.size hbj)
      have Hw0_3 := Lib.hid (Hw0_3.out.below hbj)
      have Hg0_3 := Lib.hid (Hg0_3.out.below hbj)
      have Stb := Lib.hid (show Str w19 w.heap.size 48 #[.int .i64 t0, .int .i64 t1, .int .i64 t2, .slice at3 xt3.length capt3] from ((hbj).block _ Stb.out.lt).trans Stb.out)
      have Sw0 := Lib.hid (show Str w19 OBw 27 #[.int .i64 N0, .int .i64 N1, .int .i64 N2, .slice aw0_3 L.length cw0_3] from ((hbj).block _ Sw0.out.lt).trans Sw0.out)
      have Stxv := Lib.hid (show Str w19 w4.heap.size 27 #[.int .i64 t0, .int .i64 t1, .int .i64 t2, .slice atx xt3.length ctx] from ((hbj).block _ Stxv.out.lt).trans Stxv.out)
      have Sg0 := Lib.hid (show Str w19 w6.heap.size 27 #[.int .i64 N0, .int .i64 N1, .int .i64 N2, .slice ag0_3 L.length cg0_3] from ((hbj).block _ Sg0.out.lt).trans Sg0.out)
      have hz19 := (hbj).size
      have b6h := so.lt
      have Sh0 := Lib.hid so; clear so
      have Hh0_3 := Lib.hid ol; clear ol hbj
      have hch0_3 := Hh0_3.out.cap
      have qh0_0 := Sh0.out.cell 0 (v := .int .i64 N0) rfl
      have qh0_1 := Sh0.out.cell 1 (v := .int .i64 N1) rfl
      have qh0_2 := Sh0.out.cell 2 (v := .int .i64 N2) rfl
      have qh0_3 := Sh0.out.cell 3 (v := .slice ah0_3 L.length ch0_3) rfl
      have qw0_0 := Sw0.out.cell 0 (v := .int .i64 N0) rfl
      have qw0_1 := Sw0.out.cell 1 (v := .int .i64 N1) rfl
      have qw0_2 := Sw0.out.cell 2 (v := .int .i64 N2) rfl
      have qw0_3 := Sw0.out.cell 3 (v := .slice aw0_3 L.length cw0_3) rfl
      go_wp2_with fail
      refine (laws_eqTallyR ( N0) ( N1) ( N2) ah0_3 aw0_3 ch0_3 cw0_3 L w19 (by omega) Hh0_3.out.at Hw0_3.out.at).mono ?_
      rintro e w20 ⟨rfl, hb20⟩
      have Hb20 := Lib.hid (below_step Hb19.out Hb19.out.size hb20)
      have Hw0_3 := Lib.hid (Hw0_3.out.below hb20)
      have Hg0_3 := Lib.hid (Hg0_3.out.below hb20)
      have Hh0_3 := Lib.hid (Hh0_3.out.below hb20)
      have Stb := Lib.hid (show Str w20 w.heap.size 48 #[.int .i64 t0, .int .i64 t1, .int .i64 t2, .slice at3 xt3.length capt3] from ((hb20).block _ Stb.out.lt).trans Stb.out)
      have Sw0 := Lib.hid (show Str w20 OBw 27 #[.int .i64 N0, .int .i64 N1, .int .i64 N2, .slice aw0_3 L.length cw0_3] from ((hb20).block _ Sw0.out.lt).trans Sw0.out)
      have Stxv := Lib.hid (show Str w20 w4.heap.size 27 #[.int .i64 t0, .int .i64 t1, .int .i64 t2, .slice atx xt3.length ctx] from ((hb20).block _ Stxv.out.lt).trans Stxv.out)
      have Sg0 := Lib.hid (show Str w20 w6.heap.size 27 #[.int .i64 N0, .int .i64 N1, .int .i64 N2, .slice ag0_3 L.length cg0_3] from ((hb20).block _ Sg0.out.lt).trans Sg0.out)
      have Sh0 := Lib.hid (show Str w20 OBh 27 #[.int .i64 N0, .int .i64 N1, .int .i64 N2, .slice ah0_3 L.length ch0_3] from ((hb20).block _ Sh0.out.lt).trans Sh0.out)
      have hz20 := (hb20).size
      clear qh0_0 qh0_1 qh0_2 qh0_3 qw0_0 qw0_1 qw0_2 qw0_3
      have qg0_0 := Sg0.out.cell 0 (v := .int .i64 N0) rfl
      have qg0_1 := Sg0.out.cell 1 (v := .int .i64 N1) rfl
      have qg0_2 := Sg0.out.cell 2 (v := .int .i64 N2) rfl
      have qg0_3 := Sg0.out.cell 3 (v := .slice ag0_3 L.length cg0_3) rfl
      go_wp2_with fail
      refine (laws_heldTallyR ( N0) ( N1) ( N2) ag0_3 cg0_3 (1) L.length w20 (by omega) (by omega) Hg0_3.out.at).mono ?_
      rintro e w21 ⟨rfl, hb21⟩
      have Hb21 := Lib.hid (below_step Hb20.out Hb20.out.size hb21)
      have Hw0_3 := Lib.hid (Hw0_3.out.below hb21)
      have Hg0_3 := Lib.hid (Hg0_3.out.below hb21)
      have Hh0_3 := Lib.hid (Hh0_3.out.below hb21)
      have Stb := Lib.hid (show Str w21 w.heap.size 48 #[.int .i64 t0, .int .i64 t1, .int .i64 t2, .slice at3 xt3.length capt3] from ((hb21).block _ Stb.out.lt).trans Stb.out)
      have Sw0 := Lib.hid (show Str w21 OBw 27 #[.int .i64 N0, .int .i64 N1, .int .i64 N2, .slice aw0_3 L.length cw0_3] from ((hb21).block _ Sw0.out.lt).trans Sw0.out)
      have Stxv := Lib.hid (show Str w21 w4.heap.size 27 #[.int .i64 t0, .int .i64 t1, .int .i64 t2, .slice atx xt3.length ctx] from ((hb21).block _ Stxv.out.lt).trans Stxv.out)
      have Sg0 := Lib.hid (show Str w21 w6.heap.size 27 #[.int .i64 N0, .int .i64 N1, .int .i64 N2, .slice ag0_3 L.length cg0_3] from ((hb21).block _ Sg0.out.lt).trans Sg0.out)
      have Sh0 := Lib.hid (show Str w21 OBh 27 #[.int .i64 N0, .int .i64 N1, .int .i64 N2, .slice ah0_3 L.length ch0_3] from ((hb21).block _ Sh0.out.lt).trans Sh0.out)
      have hz21 := (hb21).size
      clear qg0_0 qg0_1 qg0_2 qg0_3
      go_wp2
      go_ret
      exact ⟨by first | rfl | exact ret_bool (by simp), Hb21.out⟩

theorem fnExactTallyAdd_own : ownKnob Try.prog.godebug = none := by kernel_rfl
theorem fnExactTallyAdd_laidOut : laidOutB Try.prog = true := by kernel_rfl

set_option maxRecDepth 8000 in
theorem fnExactTallyAdd_lifted (os : Os) (started : os.Started) (H : Type) (enc : TypeId × Value → H) :
    ReturnsInHanded {} Try.checked os 7 .any (Rows.fnExactTallyAddSpec.pre6 enc Try.prog Try.f7 Rows.fnExactTallyAddRow.domain false) (Rows.fnExactTallyAddSpec.post enc Try.prog Try.f7 false true false false) := by
  refine law_lifted (C := Try.checked) (tb := 4) fnExactTallyAdd_own fnExactTallyAdd_laidOut started (by kernel_rfl) Try.func7 rfl Try.underlying4 rfl (by rw [Try.params7]; exact of_decide_eq_true (by kernel_rfl)) ?_
    (ChangeSpec.witness6 (enc := enc) (C := Try.checked) false ⟨#[], #[.slice none 0 0, .agg #[.int .i64 0, .int .i64 0, .int .i64 0, .slice none 0 0], .int .i64 0], []⟩ 8 (by kernel_rfl) (by kernel_rfl) (by kernel_rfl) (by kernel_rfl)) ?_
  · intro ds hds
    rw [Try.params7] at hds
    match ds, hds with
    | [d0, d1, d2], _ => rfl
  · intro W base args ds p hval0 hA0
    have hval : ∀ (j : Nat) t v, Try.f7.params[j]? = some t → args[j]? = some v → Value.okWide Try.prog W .any base t v := hval0
    have hA : DataW.TrodAll enc Try.prog W 0 (fun _ => true) true Try.f7.params.toList args.toList ds p := hA0
    rw [Try.params7] at hA hval
    obtain ⟨v0, vs0, d0, ds0, p0, q0, hargs0, rfl, rfl, h0, r0⟩ := trodAll_cons hA
    obtain ⟨v1, vs1, d1, ds1, p1, q1, hargs1, rfl, rfl, h1, r1⟩ := trodAll_cons r0
    obtain ⟨v2, vs2, d2, ds2, p2, q2, hargs2, rfl, rfl, h2, r2⟩ := trodAll_cons r1
    obtain ⟨hnil, rfl, rfl⟩ := trodAll_nil r2
    subst hnil
    subst hargs2
    subst hargs1
    obtain rfl : args = #[v0, v1, v2] := by cases args; simp_all
    obtain ⟨a0, cap0, zs0, rfl, hk0, hm0, hi0, hw0⟩ := open_slice_ints Try.underlying23 Try.underlying3 (by kernel_rfl) (hval 0 23 v0 rfl rfl) h0
    obtain ⟨x1_0, x1_1, x1_2, a1_3, c1_3, x1_3, rfl, b1_0, b1_1, b1_2, b1_3, i1_3⟩ := open_Tally (hval 1 48 v1 rfl rfl) h1
    obtain ⟨n2, rfl, _, _, hw2⟩ := open_int Try.underlying3 (hval 2 3 v2 rfl rfl) h2
    exact fnExactTallyAdd_walk a0 cap0 zs0 x1_0 x1_1 x1_2 a1_3 c1_3 x1_3 n2 W hk0 hm0 hi0 hw0 b1_0 b1_1 b1_2 b1_3 i1_3 (wf_i64 hw2)

theorem fnExactTallyAdd_holds : Rows.FnExactTallyAddSaid :=
  OpenClaim.holds_of_wide 7 Try.f7 rfl rfl rfl rfl rfl rfl rfl ⟨rfl, rfl, rfl, rfl, rfl⟩ rfl rfl rfl rfl rfl (by kernel_rfl) Try.func7 (by kernel_rfl)
    (of_decide_eq_true (by kernel_rfl)) (by unfold Func.isWrapper; first | (rw [if_pos (by decide +kernel)]; kernel_rfl) | (rw [if_neg (by decide +kernel)]; exact ⟨rfl, rfl⟩))
    (fun os started H enc _ => fnExactTallyAdd_lifted os started H enc)

end Go.Proofs.Ytgpbogalknmcmab
