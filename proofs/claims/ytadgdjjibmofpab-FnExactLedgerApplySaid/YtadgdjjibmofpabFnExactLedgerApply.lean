/- The exact law of LedgerApply holds at every argument; no conditions of our own. -/
import Derived.Test.YtadgdjjibmofpabRows
import Derived.Test.YtadgdjjibmofpabBu0
import Derived.Test.YtadgdjjibmofpabBu1
import Derived.Test.YtadgdjjibmofpabBu2
namespace Go.Proofs.Ytadgdjjibmofpab
open Go.ChangeShapes Go.WideShapes Go.ChangeAt Go.RowKit

set_option maxHeartbeats 16000000 in
theorem fnExactLedgerApply_walk (ax0 : Option Addr) (capx0 : Nat) (xx0 : List Int) (x1 : Int) (t0 : Int) (t1 : Int) (t2 : Int) (t3 : Int) (w : World) (hmxx0 : xx0.length ≤ maxLen ∧ ∀ x ∈ xx0, -9223372036854775808 ≤ x ∧ x ≤ 9223372036854775807) (hixx0 : IntsAt w ax0 xx0) (_hx1 : -9223372036854775808 ≤ x1 ∧ x1 ≤ 9223372036854775807) (_ht0 : -9223372036854775808 ≤ t0 ∧ t0 ≤ 9223372036854775807) (_ht1 : -9223372036854775808 ≤ t1 ∧ t1 ≤ 9223372036854775807) (_ht2 : -9223372036854775808 ≤ t2 ∧ t2 ≤ 9223372036854775807) (_ht3 : -9223372036854775808 ≤ t3 ∧ t3 ≤ 9223372036854775807) :
    Calls Try.prog 6 #[.agg #[.slice ax0 xx0.length capx0, .int .i64 x1], .agg #[.int .i64 t0, .int .i64 t1, .int .i64 t2, .int .i64 t3]] w fun e w' => e = .returned (.bool true) ∧ Below w.heap.size w w' := by
  obtain ⟨hmxx0, _hbxx0⟩ := hmxx0
  unfold maxLen at hmxx0
  obtain ⟨_hx11, _hx12⟩ := _hx1
  obtain ⟨_ht01, _ht02⟩ := _ht0
  obtain ⟨_ht11, _ht12⟩ := _ht1
  obtain ⟨_ht21, _ht22⟩ := _ht2
  obtain ⟨_ht31, _ht32⟩ := _ht3
  have hbx0 : Below w.heap.size w (w.alloc (.cells #[.slice ax0 xx0.length capx0, .int .i64 x1] 30)) := (Below.refl w.heap.size w).alloc (by first | exact Nat.le_refl _ | (simp only [World.size_alloc]; omega)) _
  have hsx0 := Str.new (w) 30 #[.slice ax0 xx0.length capx0, .int .i64 x1]
  have hbx1 : Below w.heap.size w ((w.alloc (.cells #[.slice ax0 xx0.length capx0, .int .i64 x1] 30)).alloc (.cells #[.int .i64 t0, .int .i64 t1, .int .i64 t2, .int .i64 t3] 23)) := (hbx0).alloc (by first | exact Nat.le_refl _ | (simp only [World.size_alloc]; omega)) _
  have hsx1 := Str.new ((w.alloc (.cells #[.slice ax0 xx0.length capx0, .int .i64 x1] 30))) 23 #[.int .i64 t0, .int .i64 t1, .int .i64 t2, .int .i64 t3]
  have hsx0 := hsx0.alloc (.cells #[.int .i64 t0, .int .i64 t1, .int .i64 t2, .int .i64 t3] 23)
  have Hixx0 := Lib.hid hixx0; clear hixx0
  have hzx : ((w.alloc (.cells #[.slice ax0 xx0.length capx0, .int .i64 x1] 30)).alloc (.cells #[.int .i64 t0, .int .i64 t1, .int .i64 t2, .int .i64 t3] 23)).heap.size = w.heap.size + 2 := by simp
  have Sxb := Lib.hid (show Str ((w.alloc (.cells #[.slice ax0 xx0.length capx0, .int .i64 x1] 30)).alloc (.cells #[.int .i64 t0, .int .i64 t1, .int .i64 t2, .int .i64 t3] 23)) (w.heap.size) 30 #[.slice ax0 xx0.length capx0, .int .i64 x1] by simpa using hsx0)
  clear hsx0
  have Stb := Lib.hid (show Str ((w.alloc (.cells #[.slice ax0 xx0.length capx0, .int .i64 x1] 30)).alloc (.cells #[.int .i64 t0, .int .i64 t1, .int .i64 t2, .int .i64 t3] 23)) (w.heap.size + 1) 23 #[.int .i64 t0, .int .i64 t1, .int .i64 t2, .int .i64 t3] by simpa using hsx1)
  clear hsx1
  have Hb0 := Lib.hid hbx1
  clear hbx0 hbx1
  have Hszx := Lib.hid (fun w => laws_szLedgerR ax0 capx0 xx0 x1 (1048576) w (by omega) (by omega))
  go_enter Try.func6, Try.ntmps6
  have qxb_0 := Sxb.out.cell 0 (v := .slice ax0 xx0.length capx0) rfl
  have qxb_1 := Sxb.out.cell 1 (v := .int .i64 x1) rfl
  go_wp2_with fail
  generalize ((w.alloc (.cells #[.slice ax0 xx0.length capx0, .int .i64 x1] 30)).alloc (.cells #[.int .i64 t0, .int .i64 t1, .int .i64 t2, .int .i64 t3] 23)) = w0 at *
  refine (Hszx.out _).mono ?_
  rintro e w1 ⟨rfl, hb1⟩
  have Hb1 := Lib.hid (below_step Hb0.out Hb0.out.size hb1)
  have Sxb := Lib.hid (show Str w1 w.heap.size 30 #[.slice ax0 xx0.length capx0, .int .i64 x1] from ((hb1).block _ Sxb.out.lt).trans Sxb.out)
  have Stb := Lib.hid (show Str w1 (w.heap.size + 1) 23 #[.int .i64 t0, .int .i64 t1, .int .i64 t2, .int .i64 t3] from ((hb1).block _ Stb.out.lt).trans Stb.out)
  have hz1 := (hb1).size
  clear qxb_0 qxb_1
  by_cases hlxx0 : xx0.length ≤ 1048576
  case neg =>
    rw [if_neg hlxx0]
    go_wp2
    go_ret
    exact ⟨rfl, Hb1.out⟩
  rw [if_pos hlxx0]
  have hnegx : decide ((((1048576 - xx0.length : Nat)) : Int) < 0) = false := decide_eq_false (by omega)
  have hngex : ¬ (((1048576 - xx0.length : Nat) : Int) < 0) := by omega
  have Hspec := Lib.hid (fun a_ c_ w (_hc : xx0.length ≤ c_) (h : IntsAt w a_ xx0) (hs : SrcAt w a_ c_ xx0) => spec_LedgerApply a_ c_ xx0 x1 ⟨t0, t1, t2, t3⟩ w (by omega) h hs)
  have Himpl := Lib.hid (fun a_ c_ w (_hc : xx0.length ≤ c_) (h : IntsAt w a_ xx0) (hs : SrcAt w a_ c_ xx0) => impl_LedgerApply a_ c_ xx0 x1 ⟨t0, t1, t2, t3⟩ w (by omega) h)
  unfold LaP agT at Hspec Himpl
  have hL2 : (laL xx0 x1 ⟨t0, t1, t2, t3⟩).length ≤ 1048576 := Nat.le_trans (la_len6 xx0 x1 ⟨t0, t1, t2, t3⟩) (by omega)
  generalize laL xx0 x1 ⟨t0, t1, t2, t3⟩ = L at *
  generalize laF xx0 x1 ⟨t0, t1, t2, t3⟩ = N at *
  generalize laO xx0 x1 ⟨t0, t1, t2, t3⟩ = ok at *
  dsimp only at Hspec Himpl
  have qxb_0 := Sxb.out.cell 0 (v := .slice ax0 xx0.length capx0) rfl
  have qxb_1 := Sxb.out.cell 1 (v := .int .i64 x1) rfl
  have qtb_0 := Stb.out.cell 0 (v := .int .i64 t0) rfl
  have qtb_1 := Stb.out.cell 1 (v := .int .i64 t1) rfl
  have qtb_2 := Stb.out.cell 2 (v := .int .i64 t2) rfl
  have qtb_3 := Stb.out.cell 3 (v := .int .i64 t3) rfl
  go_wp2_with fail
  clear qxb_0 qxb_1 qtb_0 qtb_1 qtb_2 qtb_3
  refine Code.wp_mono (Q := fun e a' w' => match e with | .normal => ∃ (OB LO HI : Nat) (axs aw0_0 : Option Addr) (cxs cw0_0 : Nat), a' = (?Fsw : Nat → Option Addr → Option Addr → Nat → Nat → Act) OB axs aw0_0 cxs cw0_0 ∧ Below w1.heap.size w1 w' ∧ Str w' OB 33 #[.slice aw0_0 L.length cw0_0, .int .i64 N] ∧ OwnI 3 w' LO HI (.slice aw0_0 L.length cw0_0) L ∧ w1.heap.size ≤ OB ∧ w1.heap.size ≤ LO ∧ LO ≤ HI ∧ HI ≤ w'.heap.size ∧ (OB < LO ∨ HI ≤ OB) | _ => False) ?hqw ?hcw
  case hcw =>
    have hdr : Below w1.heap.size w1 w1.drew := (Below.refl _ _).drew
    have Hq := Lib.hid (Below.refl w1.heap.size w1)
    refine wp_region_L 10 (fun w' => w'.cell? ⟨w.heap.size, 0, none⟩ = some (.slice ax0 xx0.length capx0) ∧ w'.cell? ⟨w.heap.size, 1, none⟩ = some (.int .i64 x1) ∧ w'.cell? ⟨(w.heap.size + 1), 0, none⟩ = some (.int .i64 t0) ∧ w'.cell? ⟨(w.heap.size + 1), 1, none⟩ = some (.int .i64 t1) ∧ w'.cell? ⟨(w.heap.size + 1), 2, none⟩ = some (.int .i64 t2) ∧ w'.cell? ⟨(w.heap.size + 1), 3, none⟩ = some (.int .i64 t3)) (by kernel_rfl) ⟨Sxb.out.cell 0 (v := .slice ax0 xx0.length capx0) rfl, Sxb.out.cell 1 (v := .int .i64 x1) rfl, Stb.out.cell 0 (v := .int .i64 t0) rfl, Stb.out.cell 1 (v := .int .i64 t1) rfl, Stb.out.cell 2 (v := .int .i64 t2) rfl, Stb.out.cell 3 (v := .int .i64 t3) rfl⟩ (fun hH => ?_)
    generalize w1.drew = w2 at *
    have Hb2 := Lib.hid (below_step Hb1.out Hb1.out.size hdr)
    have Hq := Lib.hid (below_step Hq.out Hq.out.size hdr)
    have Sxb := Lib.hid (show Str w2 w.heap.size 30 #[.slice ax0 xx0.length capx0, .int .i64 x1] from ((hdr).block _ Sxb.out.lt).trans Sxb.out)
    have Stb := Lib.hid (show Str w2 (w.heap.size + 1) 23 #[.int .i64 t0, .int .i64 t1, .int .i64 t2, .int .i64 t3] from ((hdr).block _ Stb.out.lt).trans Stb.out)
    have hz2 := (hdr).size
    clear hdr
    refine takeL 0 (v := ?vsw1) rfl (by kernel_rfl) (by kernel_rfl) (by kernel_rfl) (by kernel_rfl) (by kernel_rfl) (fun _ _ _ h => h) hH rfl ?ysw1 ?rsw1
    case ysw1 => intro W hSw; go_simp; try with_reducible rfl
    try simp only [Act.put, List.setIfInBounds_toArray, List.set_cons_zero, List.set_cons_succ]
    refine takeL 2 (v := ?vsw2) rfl (by kernel_rfl) (by kernel_rfl) (by kernel_rfl) (by kernel_rfl) (by kernel_rfl) (fun _ _ _ h => h) hH rfl ?ysw2 ?rsw2
    case ysw2 => intro W hSw; go_simp; try with_reducible rfl
    try simp only [Act.put, List.setIfInBounds_toArray, List.set_cons_zero, List.set_cons_succ]
    refine twoL 1 8 rfl rfl (by kernel_rfl) rfl rfl (fun K hK => ?_) (fun K hK => ?_)
    rotate_left
    · skip
      go_simp
      have hal : Below w2.heap.size w2 (w2.alloc (.cells #[.slice none 0 0, .int .i64 0] 33)) := (Below.refl _ _).alloc (Nat.le_refl _) _
      have sN := Str.new w2 33 #[.slice none 0 0, .int .i64 0]
      have hzn : w2.heap.size < (w2.alloc (.cells #[.slice none 0 0, .int .i64 0] 33)).heap.size := by simp
      generalize hwn : (w2.alloc (.cells #[.slice none 0 0, .int .i64 0] 33)) = w3 at *
      have Hb3 := Lib.hid (below_step Hb2.out Hb2.out.size hal)
      have Hq := Lib.hid (below_step Hq.out Hq.out.size hal)
      have Sxb := Lib.hid (show Str w3 w.heap.size 30 #[.slice ax0 xx0.length capx0, .int .i64 x1] from ((hal).block _ Sxb.out.lt).trans Sxb.out)
      have Stb := Lib.hid (show Str w3 (w.heap.size + 1) 23 #[.int .i64 t0, .int .i64 t1, .int .i64 t2, .int .i64 t3] from ((hal).block _ Stb.out.lt).trans Stb.out)
      have hz3 := (hal).size
      have Sw0 := Lib.hid sN; clear sN hal hwn
      refine hK.out _ _ ⟨Sxb.out.cell 0 (v := .slice ax0 xx0.length capx0) rfl, Sxb.out.cell 1 (v := .int .i64 x1) rfl, Stb.out.cell 0 (v := .int .i64 t0) rfl, Stb.out.cell 1 (v := .int .i64 t1) rfl, Stb.out.cell 2 (v := .int .i64 t2) rfl, Stb.out.cell 3 (v := .int .i64 t3) rfl⟩ (fun hH => ?_)
      clear hK K
      try simp only [Act.put, List.setIfInBounds_toArray, List.set_cons_zero, List.set_cons_succ]
      refine callL 1 rfl (by kernel_rfl) rfl (fun K hK => ?_)
      go_simp
      refine (laws_toLedgerR ax0 capx0 xx0 x1 _ (by omega) (Hixx0.out.below Hb3.out)).mono ?_
      rintro e w4 ⟨vxs, rfl, hoxs, hb4⟩
      have Hb4 := Lib.hid (below_step Hb3.out Hb3.out.size hb4)
      have Hq := Lib.hid (below_step Hq.out Hq.out.size hb4)
      have Sxb := Lib.hid (show Str w4 w.heap.size 30 #[.slice ax0 xx0.length capx0, .int .i64 x1] from ((hb4).block _ Sxb.out.lt).trans Sxb.out)
      have Stb := Lib.hid (show Str w4 (w.heap.size + 1) 23 #[.int .i64 t0, .int .i64 t1, .int .i64 t2, .int .i64 t3] from ((hb4).block _ Stb.out.lt).trans Stb.out)
      have Sw0 := Lib.hid (show Str w4 w2.heap.size 33 #[.slice none 0 0, .int .i64 0] from ((hb4).block _ Sw0.out.lt).trans Sw0.out)
      have hz4 := (hb4).size
      have Hxs := Lib.hid (OwnI.of hoxs); clear hoxs
      obtain ⟨axs, cxs, rfl, _, _⟩ := Hxs.out.ints
      have hcxs := Hxs.out.cap
      have hhxs : w3.heap.size ≤ w3.heap.size := Nat.le_refl _
      have hjxs : w4.heap.size ≤ w4.heap.size := Nat.le_refl _
      dsimp only
      refine hK.out _ _ ⟨Sxb.out.cell 0 (v := .slice ax0 xx0.length capx0) rfl, Sxb.out.cell 1 (v := .int .i64 x1) rfl, Stb.out.cell 0 (v := .int .i64 t0) rfl, Stb.out.cell 1 (v := .int .i64 t1) rfl, Stb.out.cell 2 (v := .int .i64 t2) rfl, Stb.out.cell 3 (v := .int .i64 t3) rfl⟩ (fun hH => ?_)
      clear hK K
      try simp only [Act.put, List.setIfInBounds_toArray, List.set_cons_zero, List.set_cons_succ]
      refine callL 3 rfl (by kernel_rfl) rfl (fun K hK => ?_)
      go_simp
      refine (laws_toTxnR t0 t1 t2 t3 _).mono ?_
      rintro e w5 ⟨rfl, hb5⟩
      have Hb5 := Lib.hid (below_step Hb4.out Hb4.out.size hb5)
      have Hq := Lib.hid (below_step Hq.out Hq.out.size hb5)
      have Hxs := Lib.hid (Hxs.out.below hb5)
      have Sxb := Lib.hid (show Str w5 w.heap.size 30 #[.slice ax0 xx0.length capx0, .int .i64 x1] from ((hb5).block _ Sxb.out.lt).trans Sxb.out)
      have Stb := Lib.hid (show Str w5 (w.heap.size + 1) 23 #[.int .i64 t0, .int .i64 t1, .int .i64 t2, .int .i64 t3] from ((hb5).block _ Stb.out.lt).trans Stb.out)
      have Sw0 := Lib.hid (show Str w5 w2.heap.size 33 #[.slice none 0 0, .int .i64 0] from ((hb5).block _ Sw0.out.lt).trans Sw0.out)
      have hz5 := (hb5).size
      dsimp only
      refine hK.out _ _ ⟨Sxb.out.cell 0 (v := .slice ax0 xx0.length capx0) rfl, Sxb.out.cell 1 (v := .int .i64 x1) rfl, Stb.out.cell 0 (v := .int .i64 t0) rfl, Stb.out.cell 1 (v := .int .i64 t1) rfl, Stb.out.cell 2 (v := .int .i64 t2) rfl, Stb.out.cell 3 (v := .int .i64 t3) rfl⟩ (fun hH => ?_)
      clear hK K
      try simp only [Act.put, List.setIfInBounds_toArray, List.set_cons_zero, List.set_cons_succ]
      refine callL 4 rfl (by kernel_rfl) rfl (fun K hK => ?_)
      go_simp
      refine (Hspec.out axs cxs _ hcxs Hxs.out.at (own_src Hxs.out.own)).mono ?_
      rintro e w6 ⟨vw0_0, rfl, how0_0, hb6⟩
      have Hb6 := Lib.hid (below_step Hb5.out Hb5.out.size hb6)
      have Hq := Lib.hid (below_step Hq.out Hq.out.size hb6)
      have Hxs := Lib.hid (Hxs.out.below hb6)
      have Sxb := Lib.hid (show Str w6 w.heap.size 30 #[.slice ax0 xx0.length capx0, .int .i64 x1] from ((hb6).block _ Sxb.out.lt).trans Sxb.out)
      have Stb := Lib.hid (show Str w6 (w.heap.size + 1) 23 #[.int .i64 t0, .int .i64 t1, .int .i64 t2, .int .i64 t3] from ((hb6).block _ Stb.out.lt).trans Stb.out)
      have Sw0 := Lib.hid (show Str w6 w2.heap.size 33 #[.slice none 0 0, .int .i64 0] from ((hb6).block _ Sw0.out.lt).trans Sw0.out)
      have hz6 := (hb6).size
      have Hw0_0 := Lib.hid (OwnI.of how0_0); clear how0_0
      obtain ⟨aw0_0, cw0_0, rfl, _, _⟩ := Hw0_0.out.ints
      have hcw0_0 := Hw0_0.out.cap
      have hhw0_0 : w5.heap.size ≤ w5.heap.size := Nat.le_refl _
      have hjw0_0 : w6.heap.size ≤ w6.heap.size := Nat.le_refl _
      dsimp only
      refine hK.out _ _ ⟨Sxb.out.cell 0 (v := .slice ax0 xx0.length capx0) rfl, Sxb.out.cell 1 (v := .int .i64 x1) rfl, Stb.out.cell 0 (v := .int .i64 t0) rfl, Stb.out.cell 1 (v := .int .i64 t1) rfl, Stb.out.cell 2 (v := .int .i64 t2) rfl, Stb.out.cell 3 (v := .int .i64 t3) rfl⟩ (fun hH => ?_)
      clear hK K
      try simp only [Act.put, List.setIfInBounds_toArray, List.set_cons_zero, List.set_cons_succ]
      refine takeL 5 (v := ?vsw3) rfl (by kernel_rfl) (by kernel_rfl) (by kernel_rfl) (by kernel_rfl) (by kernel_rfl) (fun _ _ _ h => h) hH rfl ?ysw3 ?rsw3
      case ysw3 => intro W hSw; go_simp; try with_reducible rfl
      try simp only [Act.put, List.setIfInBounds_toArray, List.set_cons_zero, List.set_cons_succ]
      refine takeL 6 (v := ?vsw4) rfl (by kernel_rfl) (by kernel_rfl) (by kernel_rfl) (by kernel_rfl) (by kernel_rfl) (fun _ _ _ h => h) hH rfl ?ysw4 ?rsw4
      case ysw4 => intro W hSw; go_simp; try with_reducible rfl
      try simp only [Act.put, List.setIfInBounds_toArray, List.set_cons_zero, List.set_cons_succ]
      refine takeL 7 (v := ?vsw5) rfl (by kernel_rfl) (by kernel_rfl) (by kernel_rfl) (by kernel_rfl) (by kernel_rfl) (fun _ _ _ h => h) hH rfl ?ysw5 ?rsw5
      case ysw5 => intro W hSw; go_simp; try with_reducible rfl
      try simp only [Act.put, List.setIfInBounds_toArray, List.set_cons_zero, List.set_cons_succ]
      refine callL 9 rfl (by kernel_rfl) rfl (fun K hK => ?_)
      have y0 := Sw0.out.frozen 0
      have y1 := Sw0.out.frozen 1
      have g0 := Sw0.out.cell 0 (v := .slice none 0 0) rfl
      have g1 := Sw0.out.cell 1 (v := .int .i64 0) rfl
      go_simp
      clear y0 g0 y1 g1
      have hbt : Btw (w2.heap.size) (w2.heap.size + 1) w6 ((w6.setCell ⟨w2.heap.size, 0, none⟩ (.slice aw0_0 L.length cw0_0)).setCell ⟨w2.heap.size, 1, none⟩ (.int .i64 N)) := ((Btw.set w6 (Nat.le_refl (w2.heap.size)) (Nat.lt_succ_self _) 0 (.slice aw0_0 L.length cw0_0)).trans (Btw.set (w6.setCell ⟨w2.heap.size, 0, none⟩ (.slice aw0_0 L.length cw0_0)) (Nat.le_refl (w2.heap.size)) (Nat.lt_succ_self _) 1 (.int .i64 N)))
      have sO : Str ((w6.setCell ⟨w2.heap.size, 0, none⟩ (.slice aw0_0 L.length cw0_0)).setCell ⟨w2.heap.size, 1, none⟩ (.int .i64 N)) (w2.heap.size) 33 #[.slice aw0_0 L.length cw0_0, .int .i64 N] := ((Sw0.out.set 0 (.slice aw0_0 L.length cw0_0)).set 1 (.int .i64 N))
      generalize ((w6.setCell ⟨w2.heap.size, 0, none⟩ (.slice aw0_0 L.length cw0_0)).setCell ⟨w2.heap.size, 1, none⟩ (.int .i64 N)) = w7 at *
      have hz7 := hbt.size
      have Hq := Lib.hid (hbt.below Hq.out Hq.out.size (by omega))
      have Sxb := Lib.hid (Sxb.out.btw hbt (by first | exact .inl (by omega) | exact .inr (by omega) | omega))
      have Stb := Lib.hid (Stb.out.btw hbt (by first | exact .inl (by omega) | exact .inr (by omega) | omega))
      have Hw0_0 := Lib.hid (Hw0_0.out.btw hbt (by first | exact .inl (by omega) | exact .inr (by omega) | omega))
      clear hbt
      refine hK.out _ _ ⟨Sxb.out.cell 0 (v := .slice ax0 xx0.length capx0) rfl, Sxb.out.cell 1 (v := .int .i64 x1) rfl, Stb.out.cell 0 (v := .int .i64 t0) rfl, Stb.out.cell 1 (v := .int .i64 t1) rfl, Stb.out.cell 2 (v := .int .i64 t2) rfl, Stb.out.cell 3 (v := .int .i64 t3) rfl⟩ (fun hH => ?_)
      clear hK K
      try simp only [Act.put, List.setIfInBounds_toArray, List.set_cons_zero, List.set_cons_succ]
      refine lastL rfl (by kernel_rfl) (by kernel_rfl) (by kernel_rfl) rfl (fun K hK => ?_)
      go_simp
      have z2 : w1.heap.size ≤ w5.heap.size := by omega
      have z3 : w5.heap.size ≤ w6.heap.size := by omega
      have z4 : w6.heap.size ≤ w7.heap.size := by omega
      have Ho9 := Hw0_0.out
      clear hH
      obtain ⟨OB, hOB⟩ : ∃ OB, OB = w2.heap.size := ⟨_, rfl⟩
      have z1 : w1.heap.size ≤ OB := by omega
      have z5 : OB < w5.heap.size ∨ w6.heap.size ≤ OB := (by first | exact .inl (by omega) | exact .inr (by omega) | omega)
      rw [← hOB] at sO ⊢
      refine hK.out _ _ ⟨OB, w5.heap.size, w6.heap.size, axs, aw0_0, cxs, cw0_0, ?_, Hq.out, sO, Ho9, z1, z2, z3, z4, z5⟩
      rfl
    go_simp
    refine (laws_toLedgerR ax0 capx0 xx0 x1 _ (by omega) (Hixx0.out.below Hb2.out)).mono ?_
    rintro e w3 ⟨vxs, rfl, hoxs, hb3⟩
    have Hb3 := Lib.hid (below_step Hb2.out Hb2.out.size hb3)
    have Hq := Lib.hid (below_step Hq.out Hq.out.size hb3)
    have Sxb := Lib.hid (show Str w3 w.heap.size 30 #[.slice ax0 xx0.length capx0, .int .i64 x1] from ((hb3).block _ Sxb.out.lt).trans Sxb.out)
    have Stb := Lib.hid (show Str w3 (w.heap.size + 1) 23 #[.int .i64 t0, .int .i64 t1, .int .i64 t2, .int .i64 t3] from ((hb3).block _ Stb.out.lt).trans Stb.out)
    have hz3 := (hb3).size
    have Hxs := Lib.hid (OwnI.of hoxs); clear hoxs
    obtain ⟨axs, cxs, rfl, _, _⟩ := Hxs.out.ints
    have hcxs := Hxs.out.cap
    have hhxs : w2.heap.size ≤ w2.heap.size := Nat.le_refl _
    have hjxs : w3.heap.size ≤ w3.heap.size := Nat.le_refl _
    dsimp only
    refine hK.out _ _ ⟨Sxb.out.cell 0 (v := .slice ax0 xx0.length capx0) rfl, Sxb.out.cell 1 (v := .int .i64 x1) rfl, Stb.out.cell 0 (v := .int .i64 t0) rfl, Stb.out.cell 1 (v := .int .i64 t1) rfl, Stb.out.cell 2 (v := .int .i64 t2) rfl, Stb.out.cell 3 (v := .int .i64 t3) rfl⟩ (fun hH => ?_)
    clear hK K
    try simp only [Act.put, List.setIfInBounds_toArray, List.set_cons_zero, List.set_cons_succ]
    refine twoL 3 8 rfl rfl (by kernel_rfl) rfl rfl (fun K hK => ?_) (fun K hK => ?_)
    rotate_left
    · skip
      go_simp
      have hal : Below w3.heap.size w3 (w3.alloc (.cells #[.slice none 0 0, .int .i64 0] 33)) := (Below.refl _ _).alloc (Nat.le_refl _) _
      have sN := Str.new w3 33 #[.slice none 0 0, .int .i64 0]
      have hzn : w3.heap.size < (w3.alloc (.cells #[.slice none 0 0, .int .i64 0] 33)).heap.size := by simp
      generalize hwn : (w3.alloc (.cells #[.slice none 0 0, .int .i64 0] 33)) = w4 at *
      have Hb4 := Lib.hid (below_step Hb3.out Hb3.out.size hal)
      have Hq := Lib.hid (below_step Hq.out Hq.out.size hal)
      have Hxs := Lib.hid (Hxs.out.below hal)
      have Sxb := Lib.hid (show Str w4 w.heap.size 30 #[.slice ax0 xx0.length capx0, .int .i64 x1] from ((hal).block _ Sxb.out.lt).trans Sxb.out)
      have Stb := Lib.hid (show Str w4 (w.heap.size + 1) 23 #[.int .i64 t0, .int .i64 t1, .int .i64 t2, .int .i64 t3] from ((hal).block _ Stb.out.lt).trans Stb.out)
      have hz4 := (hal).size
      have Sw0 := Lib.hid sN; clear sN hal hwn
      refine hK.out _ _ ⟨Sxb.out.cell 0 (v := .slice ax0 xx0.length capx0) rfl, Sxb.out.cell 1 (v := .int .i64 x1) rfl, Stb.out.cell 0 (v := .int .i64 t0) rfl, Stb.out.cell 1 (v := .int .i64 t1) rfl, Stb.out.cell 2 (v := .int .i64 t2) rfl, Stb.out.cell 3 (v := .int .i64 t3) rfl⟩ (fun hH => ?_)
      clear hK K
      try simp only [Act.put, List.setIfInBounds_toArray, List.set_cons_zero, List.set_cons_succ]
      refine callL 3 rfl (by kernel_rfl) rfl (fun K hK => ?_)
      go_simp
      refine (laws_toTxnR t0 t1 t2 t3 _).mono ?_
      rintro e w5 ⟨rfl, hb5⟩
      have Hb5 := Lib.hid (below_step Hb4.out Hb4.out.size hb5)
      have Hq := Lib.hid (below_step Hq.out Hq.out.size hb5)
      have Hxs := Lib.hid (Hxs.out.below hb5)
      have Sxb := Lib.hid (show Str w5 w.heap.size 30 #[.slice ax0 xx0.length capx0, .int .i64 x1] from ((hb5).block _ Sxb.out.lt).trans Sxb.out)
      have Stb := Lib.hid (show Str w5 (w.heap.size + 1) 23 #[.int .i64 t0, .int .i64 t1, .int .i64 t2, .int .i64 t3] from ((hb5).block _ Stb.out.lt).trans Stb.out)
      have Sw0 := Lib.hid (show Str w5 w3.heap.size 33 #[.slice none 0 0, .int .i64 0] from ((hb5).block _ Sw0.out.lt).trans Sw0.out)
      have hz5 := (hb5).size
      dsimp only
      refine hK.out _ _ ⟨Sxb.out.cell 0 (v := .slice ax0 xx0.length capx0) rfl, Sxb.out.cell 1 (v := .int .i64 x1) rfl, Stb.out.cell 0 (v := .int .i64 t0) rfl, Stb.out.cell 1 (v := .int .i64 t1) rfl, Stb.out.cell 2 (v := .int .i64 t2) rfl, Stb.out.cell 3 (v := .int .i64 t3) rfl⟩ (fun hH => ?_)
      clear hK K
      try simp only [Act.put, List.setIfInBounds_toArray, List.set_cons_zero, List.set_cons_succ]
      refine callL 4 rfl (by kernel_rfl) rfl (fun K hK => ?_)
      go_simp
      refine (Hspec.out axs cxs _ hcxs Hxs.out.at (own_src Hxs.out.own)).mono ?_
      rintro e w6 ⟨vw0_0, rfl, how0_0, hb6⟩
      have Hb6 := Lib.hid (below_step Hb5.out Hb5.out.size hb6)
      have Hq := Lib.hid (below_step Hq.out Hq.out.size hb6)
      have Hxs := Lib.hid (Hxs.out.below hb6)
      have Sxb := Lib.hid (show Str w6 w.heap.size 30 #[.slice ax0 xx0.length capx0, .int .i64 x1] from ((hb6).block _ Sxb.out.lt).trans Sxb.out)
      have Stb := Lib.hid (show Str w6 (w.heap.size + 1) 23 #[.int .i64 t0, .int .i64 t1, .int .i64 t2, .int .i64 t3] from ((hb6).block _ Stb.out.lt).trans Stb.out)
      have Sw0 := Lib.hid (show Str w6 w3.heap.size 33 #[.slice none 0 0, .int .i64 0] from ((hb6).block _ Sw0.out.lt).trans Sw0.out)
      have hz6 := (hb6).size
      have Hw0_0 := Lib.hid (OwnI.of how0_0); clear how0_0
      obtain ⟨aw0_0, cw0_0, rfl, _, _⟩ := Hw0_0.out.ints
      have hcw0_0 := Hw0_0.out.cap
      have hhw0_0 : w5.heap.size ≤ w5.heap.size := Nat.le_refl _
      have hjw0_0 : w6.heap.size ≤ w6.heap.size := Nat.le_refl _
      dsimp only
      refine hK.out _ _ ⟨Sxb.out.cell 0 (v := .slice ax0 xx0.length capx0) rfl, Sxb.out.cell 1 (v := .int .i64 x1) rfl, Stb.out.cell 0 (v := .int .i64 t0) rfl, Stb.out.cell 1 (v := .int .i64 t1) rfl, Stb.out.cell 2 (v := .int .i64 t2) rfl, Stb.out.cell 3 (v := .int .i64 t3) rfl⟩ (fun hH => ?_)
      clear hK K
      try simp only [Act.put, List.setIfInBounds_toArray, List.set_cons_zero, List.set_cons_succ]
      refine takeL 5 (v := ?vsw6) rfl (by kernel_rfl) (by kernel_rfl) (by kernel_rfl) (by kernel_rfl) (by kernel_rfl) (fun _ _ _ h => h) hH rfl ?ysw6 ?rsw6
      case ysw6 => intro W hSw; go_simp; try with_reducible rfl
      try simp only [Act.put, List.setIfInBounds_toArray, List.set_cons_zero, List.set_cons_succ]
      refine takeL 6 (v := ?vsw7) rfl (by kernel_rfl) (by kernel_rfl) (by kernel_rfl) (by kernel_rfl) (by kernel_rfl) (fun _ _ _ h => h) hH rfl ?ysw7 ?rsw7
      case ysw7 => intro W hSw; go_simp; try with_reducible rfl
      try simp only [Act.put, List.setIfInBounds_toArray, List.set_cons_zero, List.set_cons_succ]
      refine takeL 7 (v := ?vsw8) rfl (by kernel_rfl) (by kernel_rfl) (by kernel_rfl) (by kernel_rfl) (by kernel_rfl) (fun _ _ _ h => h) hH rfl ?ysw8 ?rsw8
      case ysw8 => intro W hSw; go_simp; try with_reducible rfl
      try simp only [Act.put, List.setIfInBounds_toArray, List.set_cons_zero, List.set_cons_succ]
      refine callL 9 rfl (by kernel_rfl) rfl (fun K hK => ?_)
      have y0 := Sw0.out.frozen 0
      have y1 := Sw0.out.frozen 1
      have g0 := Sw0.out.cell 0 (v := .slice none 0 0) rfl
      have g1 := Sw0.out.cell 1 (v := .int .i64 0) rfl
      go_simp
      clear y0 g0 y1 g1
      have hbt : Btw (w3.heap.size) (w3.heap.size + 1) w6 ((w6.setCell ⟨w3.heap.size, 0, none⟩ (.slice aw0_0 L.length cw0_0)).setCell ⟨w3.heap.size, 1, none⟩ (.int .i64 N)) := ((Btw.set w6 (Nat.le_refl (w3.heap.size)) (Nat.lt_succ_self _) 0 (.slice aw0_0 L.length cw0_0)).trans (Btw.set (w6.setCell ⟨w3.heap.size, 0, none⟩ (.slice aw0_0 L.length cw0_0)) (Nat.le_refl (w3.heap.size)) (Nat.lt_succ_self _) 1 (.int .i64 N)))
      have sO : Str ((w6.setCell ⟨w3.heap.size, 0, none⟩ (.slice aw0_0 L.length cw0_0)).setCell ⟨w3.heap.size, 1, none⟩ (.int .i64 N)) (w3.heap.size) 33 #[.slice aw0_0 L.length cw0_0, .int .i64 N] := ((Sw0.out.set 0 (.slice aw0_0 L.length cw0_0)).set 1 (.int .i64 N))
      generalize ((w6.setCell ⟨w3.heap.size, 0, none⟩ (.slice aw0_0 L.length cw0_0)).setCell ⟨w3.heap.size, 1, none⟩ (.int .i64 N)) = w7 at *
      have hz7 := hbt.size
      have Hq := Lib.hid (hbt.below Hq.out Hq.out.size (by omega))
      have Sxb := Lib.hid (Sxb.out.btw hbt (by first | exact .inl (by omega) | exact .inr (by omega) | omega))
      have Stb := Lib.hid (Stb.out.btw hbt (by first | exact .inl (by omega) | exact .inr (by omega) | omega))
      have Hw0_0 := Lib.hid (Hw0_0.out.btw hbt (by first | exact .inl (by omega) | exact .inr (by omega) | omega))
      clear hbt
      refine hK.out _ _ ⟨Sxb.out.cell 0 (v := .slice ax0 xx0.length capx0) rfl, Sxb.out.cell 1 (v := .int .i64 x1) rfl, Stb.out.cell 0 (v := .int .i64 t0) rfl, Stb.out.cell 1 (v := .int .i64 t1) rfl, Stb.out.cell 2 (v := .int .i64 t2) rfl, Stb.out.cell 3 (v := .int .i64 t3) rfl⟩ (fun hH => ?_)
      clear hK K
      try simp only [Act.put, List.setIfInBounds_toArray, List.set_cons_zero, List.set_cons_succ]
      refine lastL rfl (by kernel_rfl) (by kernel_rfl) (by kernel_rfl) rfl (fun K hK => ?_)
      go_simp
      have z2 : w1.heap.size ≤ w5.heap.size := by omega
      have z3 : w5.heap.size ≤ w6.heap.size := by omega
      have z4 : w6.heap.size ≤ w7.heap.size := by omega
      have Ho9 := Hw0_0.out
      clear hH
      obtain ⟨OB, hOB⟩ : ∃ OB, OB = w3.heap.size := ⟨_, rfl⟩
      have z1 : w1.heap.size ≤ OB := by omega
      have z5 : OB < w5.heap.size ∨ w6.heap.size ≤ OB := (by first | exact .inl (by omega) | exact .inr (by omega) | omega)
      rw [← hOB] at sO ⊢
      refine hK.out _ _ ⟨OB, w5.heap.size, w6.heap.size, axs, aw0_0, cxs, cw0_0, ?_, Hq.out, sO, Ho9, z1, z2, z3, z4, z5⟩
      rfl
    go_simp
    refine (laws_toTxnR t0 t1 t2 t3 _).mono ?_
    rintro e w4 ⟨rfl, hb4⟩
    have Hb4 := Lib.hid (below_step Hb3.out Hb3.out.size hb4)
    have Hq := Lib.hid (below_step Hq.out Hq.out.size hb4)
    have Hxs := Lib.hid (Hxs.out.below hb4)
    have Sxb := Lib.hid (show Str w4 w.heap.size 30 #[.slice ax0 xx0.length capx0, .int .i64 x1] from ((hb4).block _ Sxb.out.lt).trans Sxb.out)
    have Stb := Lib.hid (show Str w4 (w.heap.size + 1) 23 #[.int .i64 t0, .int .i64 t1, .int .i64 t2, .int .i64 t3] from ((hb4).block _ Stb.out.lt).trans Stb.out)
    have hz4 := (hb4).size
    dsimp only
    refine hK.out _ _ ⟨Sxb.out.cell 0 (v := .slice ax0 xx0.length capx0) rfl, Sxb.out.cell 1 (v := .int .i64 x1) rfl, Stb.out.cell 0 (v := .int .i64 t0) rfl, Stb.out.cell 1 (v := .int .i64 t1) rfl, Stb.out.cell 2 (v := .int .i64 t2) rfl, Stb.out.cell 3 (v := .int .i64 t3) rfl⟩ (fun hH => ?_)
    clear hK K
    try simp only [Act.put, List.setIfInBounds_toArray, List.set_cons_zero, List.set_cons_succ]
    refine twoL 4 8 rfl rfl (by kernel_rfl) rfl rfl (fun K hK => ?_) (fun K hK => ?_)
    rotate_left
    · skip
      go_simp
      have hal : Below w4.heap.size w4 (w4.alloc (.cells #[.slice none 0 0, .int .i64 0] 33)) := (Below.refl _ _).alloc (Nat.le_refl _) _
      have sN := Str.new w4 33 #[.slice none 0 0, .int .i64 0]
      have hzn : w4.heap.size < (w4.alloc (.cells #[.slice none 0 0, .int .i64 0] 33)).heap.size := by simp
      generalize hwn : (w4.alloc (.cells #[.slice none 0 0, .int .i64 0] 33)) = w5 at *
      have Hb5 := Lib.hid (below_step Hb4.out Hb4.out.size hal)
      have Hq := Lib.hid (below_step Hq.out Hq.out.size hal)
      have Hxs := Lib.hid (Hxs.out.below hal)
      have Sxb := Lib.hid (show Str w5 w.heap.size 30 #[.slice ax0 xx0.length capx0, .int .i64 x1] from ((hal).block _ Sxb.out.lt).trans Sxb.out)
      have Stb := Lib.hid (show Str w5 (w.heap.size + 1) 23 #[.int .i64 t0, .int .i64 t1, .int .i64 t2, .int .i64 t3] from ((hal).block _ Stb.out.lt).trans Stb.out)
      have hz5 := (hal).size
      have Sw0 := Lib.hid sN; clear sN hal hwn
      refine hK.out _ _ ⟨Sxb.out.cell 0 (v := .slice ax0 xx0.length capx0) rfl, Sxb.out.cell 1 (v := .int .i64 x1) rfl, Stb.out.cell 0 (v := .int .i64 t0) rfl, Stb.out.cell 1 (v := .int .i64 t1) rfl, Stb.out.cell 2 (v := .int .i64 t2) rfl, Stb.out.cell 3 (v := .int .i64 t3) rfl⟩ (fun hH => ?_)
      clear hK K
      try simp only [Act.put, List.setIfInBounds_toArray, List.set_cons_zero, List.set_cons_succ]
      refine callL 4 rfl (by kernel_rfl) rfl (fun K hK => ?_)
      go_simp
      refine (Hspec.out axs cxs _ hcxs Hxs.out.at (own_src Hxs.out.own)).mono ?_
      rintro e w6 ⟨vw0_0, rfl, how0_0, hb6⟩
      have Hb6 := Lib.hid (below_step Hb5.out Hb5.out.size hb6)
      have Hq := Lib.hid (below_step Hq.out Hq.out.size hb6)
      have Hxs := Lib.hid (Hxs.out.below hb6)
      have Sxb := Lib.hid (show Str w6 w.heap.size 30 #[.slice ax0 xx0.length capx0, .int .i64 x1] from ((hb6).block _ Sxb.out.lt).trans Sxb.out)
      have Stb := Lib.hid (show Str w6 (w.heap.size + 1) 23 #[.int .i64 t0, .int .i64 t1, .int .i64 t2, .int .i64 t3] from ((hb6).block _ Stb.out.lt).trans Stb.out)
      have Sw0 := Lib.hid (show Str w6 w4.heap.size 33 #[.slice none 0 0, .int .i64 0] from ((hb6).block _ Sw0.out.lt).trans Sw0.out)
      have hz6 := (hb6).size
      have Hw0_0 := Lib.hid (OwnI.of how0_0); clear how0_0
      obtain ⟨aw0_0, cw0_0, rfl, _, _⟩ := Hw0_0.out.ints
      have hcw0_0 := Hw0_0.out.cap
      have hhw0_0 : w5.heap.size ≤ w5.heap.size := Nat.le_refl _
      have hjw0_0 : w6.heap.size ≤ w6.heap.size := Nat.le_refl _
      dsimp only
      refine hK.out _ _ ⟨Sxb.out.cell 0 (v := .slice ax0 xx0.length capx0) rfl, Sxb.out.cell 1 (v := .int .i64 x1) rfl, Stb.out.cell 0 (v := .int .i64 t0) rfl, Stb.out.cell 1 (v := .int .i64 t1) rfl, Stb.out.cell 2 (v := .int .i64 t2) rfl, Stb.out.cell 3 (v := .int .i64 t3) rfl⟩ (fun hH => ?_)
      clear hK K
      try simp only [Act.put, List.setIfInBounds_toArray, List.set_cons_zero, List.set_cons_succ]
      refine takeL 5 (v := ?vsw9) rfl (by kernel_rfl) (by kernel_rfl) (by kernel_rfl) (by kernel_rfl) (by kernel_rfl) (fun _ _ _ h => h) hH rfl ?ysw9 ?rsw9
      case ysw9 => intro W hSw; go_simp; try with_reducible rfl
      try simp only [Act.put, List.setIfInBounds_toArray, List.set_cons_zero, List.set_cons_succ]
      refine takeL 6 (v := ?vsw10) rfl (by kernel_rfl) (by kernel_rfl) (by kernel_rfl) (by kernel_rfl) (by kernel_rfl) (fun _ _ _ h => h) hH rfl ?ysw10 ?rsw10
      case ysw10 => intro W hSw; go_simp; try with_reducible rfl
      try simp only [Act.put, List.setIfInBounds_toArray, List.set_cons_zero, List.set_cons_succ]
      refine takeL 7 (v := ?vsw11) rfl (by kernel_rfl) (by kernel_rfl) (by kernel_rfl) (by kernel_rfl) (by kernel_rfl) (fun _ _ _ h => h) hH rfl ?ysw11 ?rsw11
      case ysw11 => intro W hSw; go_simp; try with_reducible rfl
      try simp only [Act.put, List.setIfInBounds_toArray, List.set_cons_zero, List.set_cons_succ]
      refine callL 9 rfl (by kernel_rfl) rfl (fun K hK => ?_)
      have y0 := Sw0.out.frozen 0
      have y1 := Sw0.out.frozen 1
      have g0 := Sw0.out.cell 0 (v := .slice none 0 0) rfl
      have g1 := Sw0.out.cell 1 (v := .int .i64 0) rfl
      go_simp
      clear y0 g0 y1 g1
      have hbt : Btw (w4.heap.size) (w4.heap.size + 1) w6 ((w6.setCell ⟨w4.heap.size, 0, none⟩ (.slice aw0_0 L.length cw0_0)).setCell ⟨w4.heap.size, 1, none⟩ (.int .i64 N)) := ((Btw.set w6 (Nat.le_refl (w4.heap.size)) (Nat.lt_succ_self _) 0 (.slice aw0_0 L.length cw0_0)).trans (Btw.set (w6.setCell ⟨w4.heap.size, 0, none⟩ (.slice aw0_0 L.length cw0_0)) (Nat.le_refl (w4.heap.size)) (Nat.lt_succ_self _) 1 (.int .i64 N)))
      have sO : Str ((w6.setCell ⟨w4.heap.size, 0, none⟩ (.slice aw0_0 L.length cw0_0)).setCell ⟨w4.heap.size, 1, none⟩ (.int .i64 N)) (w4.heap.size) 33 #[.slice aw0_0 L.length cw0_0, .int .i64 N] := ((Sw0.out.set 0 (.slice aw0_0 L.length cw0_0)).set 1 (.int .i64 N))
      generalize ((w6.setCell ⟨w4.heap.size, 0, none⟩ (.slice aw0_0 L.length cw0_0)).setCell ⟨w4.heap.size, 1, none⟩ (.int .i64 N)) = w7 at *
      have hz7 := hbt.size
      have Hq := Lib.hid (hbt.below Hq.out Hq.out.size (by omega))
      have Sxb := Lib.hid (Sxb.out.btw hbt (by first | exact .inl (by omega) | exact .inr (by omega) | omega))
      have Stb := Lib.hid (Stb.out.btw hbt (by first | exact .inl (by omega) | exact .inr (by omega) | omega))
      have Hw0_0 := Lib.hid (Hw0_0.out.btw hbt (by first | exact .inl (by omega) | exact .inr (by omega) | omega))
      clear hbt
      refine hK.out _ _ ⟨Sxb.out.cell 0 (v := .slice ax0 xx0.length capx0) rfl, Sxb.out.cell 1 (v := .int .i64 x1) rfl, Stb.out.cell 0 (v := .int .i64 t0) rfl, Stb.out.cell 1 (v := .int .i64 t1) rfl, Stb.out.cell 2 (v := .int .i64 t2) rfl, Stb.out.cell 3 (v := .int .i64 t3) rfl⟩ (fun hH => ?_)
      clear hK K
      try simp only [Act.put, List.setIfInBounds_toArray, List.set_cons_zero, List.set_cons_succ]
      refine lastL rfl (by kernel_rfl) (by kernel_rfl) (by kernel_rfl) rfl (fun K hK => ?_)
      go_simp
      have z2 : w1.heap.size ≤ w5.heap.size := by omega
      have z3 : w5.heap.size ≤ w6.heap.size := by omega
      have z4 : w6.heap.size ≤ w7.heap.size := by omega
      have Ho9 := Hw0_0.out
      clear hH
      obtain ⟨OB, hOB⟩ : ∃ OB, OB = w4.heap.size := ⟨_, rfl⟩
      have z1 : w1.heap.size ≤ OB := by omega
      have z5 : OB < w5.heap.size ∨ w6.heap.size ≤ OB := (by first | exact .inl (by omega) | exact .inr (by omega) | omega)
      rw [← hOB] at sO ⊢
      refine hK.out _ _ ⟨OB, w5.heap.size, w6.heap.size, axs, aw0_0, cxs, cw0_0, ?_, Hq.out, sO, Ho9, z1, z2, z3, z4, z5⟩
      rfl
    go_simp
    refine (Hspec.out axs cxs _ hcxs Hxs.out.at (own_src Hxs.out.own)).mono ?_
    rintro e w5 ⟨vw0_0, rfl, how0_0, hb5⟩
    have Hb5 := Lib.hid (below_step Hb4.out Hb4.out.size hb5)
    have Hq := Lib.hid (below_step Hq.out Hq.out.size hb5)
    have Hxs := Lib.hid (Hxs.out.below hb5)
    have Sxb := Lib.hid (show Str w5 w.heap.size 30 #[.slice ax0 xx0.length capx0, .int .i64 x1] from ((hb5).block _ Sxb.out.lt).trans Sxb.out)
    have Stb := Lib.hid (show Str w5 (w.heap.size + 1) 23 #[.int .i64 t0, .int .i64 t1, .int .i64 t2, .int .i64 t3] from ((hb5).block _ Stb.out.lt).trans Stb.out)
    have hz5 := (hb5).size
    have Hw0_0 := Lib.hid (OwnI.of how0_0); clear how0_0
    obtain ⟨aw0_0, cw0_0, rfl, _, _⟩ := Hw0_0.out.ints
    have hcw0_0 := Hw0_0.out.cap
    have hhw0_0 : w4.heap.size ≤ w4.heap.size := Nat.le_refl _
    have hjw0_0 : w5.heap.size ≤ w5.heap.size := Nat.le_refl _
    dsimp only
    refine hK.out _ _ ⟨Sxb.out.cell 0 (v := .slice ax0 xx0.length capx0) rfl, Sxb.out.cell 1 (v := .int .i64 x1) rfl, Stb.out.cell 0 (v := .int .i64 t0) rfl, Stb.out.cell 1 (v := .int .i64 t1) rfl, Stb.out.cell 2 (v := .int .i64 t2) rfl, Stb.out.cell 3 (v := .int .i64 t3) rfl⟩ (fun hH => ?_)
    clear hK K
    try simp only [Act.put, List.setIfInBounds_toArray, List.set_cons_zero, List.set_cons_succ]
    refine takeL 5 (v := ?vsw12) rfl (by kernel_rfl) (by kernel_rfl) (by kernel_rfl) (by kernel_rfl) (by kernel_rfl) (fun _ _ _ h => h) hH rfl ?ysw12 ?rsw12
    case ysw12 => intro W hSw; go_simp; try with_reducible rfl
    try simp only [Act.put, List.setIfInBounds_toArray, List.set_cons_zero, List.set_cons_succ]
    refine takeL 6 (v := ?vsw13) rfl (by kernel_rfl) (by kernel_rfl) (by kernel_rfl) (by kernel_rfl) (by kernel_rfl) (fun _ _ _ h => h) hH rfl ?ysw13 ?rsw13
    case ysw13 => intro W hSw; go_simp; try with_reducible rfl
    try simp only [Act.put, List.setIfInBounds_toArray, List.set_cons_zero, List.set_cons_succ]
    refine takeL 7 (v := ?vsw14) rfl (by kernel_rfl) (by kernel_rfl) (by kernel_rfl) (by kernel_rfl) (by kernel_rfl) (fun _ _ _ h => h) hH rfl ?ysw14 ?rsw14
    case ysw14 => intro W hSw; go_simp; try with_reducible rfl
    try simp only [Act.put, List.setIfInBounds_toArray, List.set_cons_zero, List.set_cons_succ]
    refine callL 8 rfl (by kernel_rfl) rfl (fun K hK => ?_)
    go_simp
    have hal : Below w5.heap.size w5 (w5.alloc (.cells #[.slice none 0 0, .int .i64 0] 33)) := (Below.refl _ _).alloc (Nat.le_refl _) _
    have sN := Str.new w5 33 #[.slice none 0 0, .int .i64 0]
    have hzn : w5.heap.size < (w5.alloc (.cells #[.slice none 0 0, .int .i64 0] 33)).heap.size := by simp
    generalize hwn : (w5.alloc (.cells #[.slice none 0 0, .int .i64 0] 33)) = w6 at *
    have Hb6 := Lib.hid (below_step Hb5.out Hb5.out.size hal)
    have Hq := Lib.hid (below_step Hq.out Hq.out.size hal)
    have Hxs := Lib.hid (Hxs.out.below hal)
    have Hw0_0 := Lib.hid (Hw0_0.out.below hal)
    have Sxb := Lib.hid (show Str w6 w.heap.size 30 #[.slice ax0 xx0.length capx0, .int .i64 x1] from ((hal).block _ Sxb.out.lt).trans Sxb.out)
    have Stb := Lib.hid (show Str w6 (w.heap.size + 1) 23 #[.int .i64 t0, .int .i64 t1, .int .i64 t2, .int .i64 t3] from ((hal).block _ Stb.out.lt).trans Stb.out)
    have hz6 := (hal).size
    have Sw0 := Lib.hid sN; clear sN hal hwn
    refine hK.out _ _ ⟨Sxb.out.cell 0 (v := .slice ax0 xx0.length capx0) rfl, Sxb.out.cell 1 (v := .int .i64 x1) rfl, Stb.out.cell 0 (v := .int .i64 t0) rfl, Stb.out.cell 1 (v := .int .i64 t1) rfl, Stb.out.cell 2 (v := .int .i64 t2) rfl, Stb.out.cell 3 (v := .int .i64 t3) rfl⟩ (fun hH => ?_)
    clear hK K
    try simp only [Act.put, List.setIfInBounds_toArray, List.set_cons_zero, List.set_cons_succ]
    refine callL 9 rfl (by kernel_rfl) rfl (fun K hK => ?_)
    have y0 := Sw0.out.frozen 0
    have y1 := Sw0.out.frozen 1
    have g0 := Sw0.out.cell 0 (v := .slice none 0 0) rfl
    have g1 := Sw0.out.cell 1 (v := .int .i64 0) rfl
    go_simp
    clear y0 g0 y1 g1
    have hbt : Btw (w5.heap.size) (w5.heap.size + 1) w6 ((w6.setCell ⟨w5.heap.size, 0, none⟩ (.slice aw0_0 L.length cw0_0)).setCell ⟨w5.heap.size, 1, none⟩ (.int .i64 N)) := ((Btw.set w6 (Nat.le_refl (w5.heap.size)) (Nat.lt_succ_self _) 0 (.slice aw0_0 L.length cw0_0)).trans (Btw.set (w6.setCell ⟨w5.heap.size, 0, none⟩ (.slice aw0_0 L.length cw0_0)) (Nat.le_refl (w5.heap.size)) (Nat.lt_succ_self _) 1 (.int .i64 N)))
    have sO : Str ((w6.setCell ⟨w5.heap.size, 0, none⟩ (.slice aw0_0 L.length cw0_0)).setCell ⟨w5.heap.size, 1, none⟩ (.int .i64 N)) (w5.heap.size) 33 #[.slice aw0_0 L.length cw0_0, .int .i64 N] := ((Sw0.out.set 0 (.slice aw0_0 L.length cw0_0)).set 1 (.int .i64 N))
    generalize ((w6.setCell ⟨w5.heap.size, 0, none⟩ (.slice aw0_0 L.length cw0_0)).setCell ⟨w5.heap.size, 1, none⟩ (.int .i64 N)) = w7 at *
    have hz7 := hbt.size
    have Hq := Lib.hid (hbt.below Hq.out Hq.out.size (by omega))
    have Sxb := Lib.hid (Sxb.out.btw hbt (by first | exact .inl (by omega) | exact .inr (by omega) | omega))
    have Stb := Lib.hid (Stb.out.btw hbt (by first | exact .inl (by omega) | exact .inr (by omega) | omega))
    have Hw0_0 := Lib.hid (Hw0_0.out.btw hbt (by first | exact .inl (by omega) | exact .inr (by omega) | omega))
    clear hbt
    refine hK.out _ _ ⟨Sxb.out.cell 0 (v := .slice ax0 xx0.length capx0) rfl, Sxb.out.cell 1 (v := .int .i64 x1) rfl, Stb.out.cell 0 (v := .int .i64 t0) rfl, Stb.out.cell 1 (v := .int .i64 t1) rfl, Stb.out.cell 2 (v := .int .i64 t2) rfl, Stb.out.cell 3 (v := .int .i64 t3) rfl⟩ (fun hH => ?_)
    clear hK K
    try simp only [Act.put, List.setIfInBounds_toArray, List.set_cons_zero, List.set_cons_succ]
    refine lastL rfl (by kernel_rfl) (by kernel_rfl) (by kernel_rfl) rfl (fun K hK => ?_)
    go_simp
    have z2 : w1.heap.size ≤ w4.heap.size := by omega
    have z3 : w4.heap.size ≤ w5.heap.size := by omega
    have z4 : w5.heap.size ≤ w7.heap.size := by omega
    have Ho9 := Hw0_0.out
    clear hH
    obtain ⟨OB, hOB⟩ : ∃ OB, OB = w5.heap.size := ⟨_, rfl⟩
    have z1 : w1.heap.size ≤ OB := by omega
    have z5 : OB < w4.heap.size ∨ w5.heap.size ≤ OB := (by first | exact .inl (by omega) | exact .inr (by omega) | omega)
    rw [← hOB] at sO ⊢
    refine hK.out _ _ ⟨OB, w4.heap.size, w5.heap.size, axs, aw0_0, cxs, cw0_0, ?_, Hq.out, sO, Ho9, z1, z2, z3, z4, z5⟩
    rfl
  case hqw =>
    intro e a w2 hx
    cases e <;> first | exact hx.elim | skip
    obtain ⟨OBw, LOw, HIw, axs, aw0_0, cxs, cw0_0, rfl, hbj, so, ol, b1w, b2w, b3w, b4w, b5w⟩ := hx
    have Hb2 := Lib.hid (below_step Hb1.out Hb1.out.size hbj)
    have Sxb := Lib.hid (show Str w2 w.heap.size 30 #[.slice ax0 xx0.length capx0, .int .i64 x1] from ((hbj).block _ Sxb.out.lt).trans Sxb.out)
    have Stb := Lib.hid (show Str w2 (w.heap.size + 1) 23 #[.int .i64 t0, .int .i64 t1, .int .i64 t2, .int .i64 t3] from ((hbj).block _ Stb.out.lt).trans Stb.out)
    have hz2 := (hbj).size
    have b6w := so.lt
    have Sw0 := Lib.hid so; clear so
    have Hw0_0 := Lib.hid ol; clear ol hbj
    have hcw0_0 := Hw0_0.out.cap
    have qxb_0 := Sxb.out.cell 0 (v := .slice ax0 xx0.length capx0) rfl
    have qxb_1 := Sxb.out.cell 1 (v := .int .i64 x1) rfl
    go_wp2_with fail
    refine (laws_toLedgerR ax0 capx0 xx0 x1 _ (by omega) (Hixx0.out.below Hb2.out)).mono ?_
    rintro e w3 ⟨vxx, rfl, hoxx, hb3⟩
    have Hb3 := Lib.hid (below_step Hb2.out Hb2.out.size hb3)
    have Hw0_0 := Lib.hid (Hw0_0.out.below hb3)
    have Sxb := Lib.hid (show Str w3 w.heap.size 30 #[.slice ax0 xx0.length capx0, .int .i64 x1] from ((hb3).block _ Sxb.out.lt).trans Sxb.out)
    have Stb := Lib.hid (show Str w3 (w.heap.size + 1) 23 #[.int .i64 t0, .int .i64 t1, .int .i64 t2, .int .i64 t3] from ((hb3).block _ Stb.out.lt).trans Stb.out)
    have Sw0 := Lib.hid (show Str w3 OBw 33 #[.slice aw0_0 L.length cw0_0, .int .i64 N] from ((hb3).block _ Sw0.out.lt).trans Sw0.out)
    have hz3 := (hb3).size
    have Hxx := Lib.hid (OwnI.of hoxx); clear hoxx
    obtain ⟨axx, cxx, rfl, _, _⟩ := Hxx.out.ints
    have hcxx := Hxx.out.cap
    have hhxx : w2.heap.size ≤ w2.heap.size := Nat.le_refl _
    have hjxx : w3.heap.size ≤ w3.heap.size := Nat.le_refl _
    clear qxb_0 qxb_1
    have hAxxv : Below w3.heap.size w3 (w3.alloc (.cells #[.slice axx xx0.length cxx, .int .i64 x1] 33)) := (Below.refl _ _).alloc (Nat.le_refl _) _
    have sNxxv := Str.new w3 33 #[.slice axx xx0.length cxx, .int .i64 x1]
    have hzAxxv : (w3.alloc (.cells #[.slice axx xx0.length cxx, .int .i64 x1] 33)).heap.size = w3.heap.size + 1 := by simp
    have hbsxxv : w3.heap.size ≤ w3.heap.size := Nat.le_refl _
    have Hb4 := Lib.hid (below_step Hb3.out Hb3.out.size hAxxv)
    have Hw0_0 := Lib.hid (Hw0_0.out.below hAxxv)
    have Hxx := Lib.hid (Hxx.out.below hAxxv)
    have Sxb := Lib.hid (show Str (w3.alloc (.cells #[.slice axx xx0.length cxx, .int .i64 x1] 33)) w.heap.size 30 #[.slice ax0 xx0.length capx0, .int .i64 x1] from (hAxxv.block _ Sxb.out.lt).trans Sxb.out)
    have Stb := Lib.hid (show Str (w3.alloc (.cells #[.slice axx xx0.length cxx, .int .i64 x1] 33)) (w.heap.size + 1) 23 #[.int .i64 t0, .int .i64 t1, .int .i64 t2, .int .i64 t3] from (hAxxv.block _ Stb.out.lt).trans Stb.out)
    have Sw0 := Lib.hid (show Str (w3.alloc (.cells #[.slice axx xx0.length cxx, .int .i64 x1] 33)) OBw 33 #[.slice aw0_0 L.length cw0_0, .int .i64 N] from (hAxxv.block _ Sw0.out.lt).trans Sw0.out)
    have Sxxv := Lib.hid sNxxv; clear sNxxv
    clear hAxxv
    have qxb_0 := Sxb.out.cell 0 (v := .slice ax0 xx0.length capx0) rfl
    have qxb_1 := Sxb.out.cell 1 (v := .int .i64 x1) rfl
    have qtb_0 := Stb.out.cell 0 (v := .int .i64 t0) rfl
    have qtb_1 := Stb.out.cell 1 (v := .int .i64 t1) rfl
    have qtb_2 := Stb.out.cell 2 (v := .int .i64 t2) rfl
    have qtb_3 := Stb.out.cell 3 (v := .int .i64 t3) rfl
    have qxxv_0 := Sxxv.out.cell 0 (v := .slice axx xx0.length cxx) rfl
    have qxxv_1 := Sxxv.out.cell 1 (v := .int .i64 x1) rfl
    go_wp2_with fail
    generalize w3.alloc (.cells #[.slice axx xx0.length cxx, .int .i64 x1] 33) = w4 at *
    have qxxv_0 := Sxxv.out.cell 0 (v := .slice axx xx0.length cxx) rfl
    have qxxv_1 := Sxxv.out.cell 1 (v := .int .i64 x1) rfl
    have qtb_0 := Stb.out.cell 0 (v := .int .i64 t0) rfl
    have qtb_1 := Stb.out.cell 1 (v := .int .i64 t1) rfl
    have qtb_2 := Stb.out.cell 2 (v := .int .i64 t2) rfl
    have qtb_3 := Stb.out.cell 3 (v := .int .i64 t3) rfl
    clear qxxv_0 qxxv_1 qtb_0 qtb_1 qtb_2 qtb_3
    refine Code.wp_mono (Q := fun e a' w' => match e with | .normal => ∃ (OB LO HI : Nat) (ag0_0 : Option Addr) (cg0_0 : Nat), a' = (?Fig : Nat → Option Addr → Nat → Act) OB ag0_0 cg0_0 ∧ Below w4.heap.size w4 w' ∧ Str w' OB 33 #[.slice ag0_0 L.length cg0_0, .int .i64 N] ∧ OwnI 3 w' LO HI (.slice ag0_0 L.length cg0_0) L ∧ w4.heap.size ≤ OB ∧ w4.heap.size ≤ LO ∧ LO ≤ HI ∧ HI ≤ w'.heap.size ∧ (OB < LO ∨ HI ≤ OB) | _ => False) ?hqg ?hcg
    case hcg =>
      have hdr : Below w4.heap.size w4 w4.drew := (Below.refl _ _).drew
      have Hq := Lib.hid (Below.refl w4.heap.size w4)
      refine wp_region_L 9 (fun w' => w'.cell? ⟨w3.heap.size, 0, none⟩ = some (.slice axx xx0.length cxx) ∧ w'.cell? ⟨w3.heap.size, 1, none⟩ = some (.int .i64 x1) ∧ w'.cell? ⟨(w.heap.size + 1), 0, none⟩ = some (.int .i64 t0) ∧ w'.cell? ⟨(w.heap.size + 1), 1, none⟩ = some (.int .i64 t1) ∧ w'.cell? ⟨(w.heap.size + 1), 2, none⟩ = some (.int .i64 t2) ∧ w'.cell? ⟨(w.heap.size + 1), 3, none⟩ = some (.int .i64 t3)) (by kernel_rfl) ⟨Sxxv.out.cell 0 (v := .slice axx xx0.length cxx) rfl, Sxxv.out.cell 1 (v := .int .i64 x1) rfl, Stb.out.cell 0 (v := .int .i64 t0) rfl, Stb.out.cell 1 (v := .int .i64 t1) rfl, Stb.out.cell 2 (v := .int .i64 t2) rfl, Stb.out.cell 3 (v := .int .i64 t3) rfl⟩ (fun hH => ?_)
      generalize w4.drew = w5 at *
      have Hb5 := Lib.hid (below_step Hb4.out Hb4.out.size hdr)
      have Hq := Lib.hid (below_step Hq.out Hq.out.size hdr)
      have Hw0_0 := Lib.hid (Hw0_0.out.below hdr)
      have Hxx := Lib.hid (Hxx.out.below hdr)
      have Sxb := Lib.hid (show Str w5 w.heap.size 30 #[.slice ax0 xx0.length capx0, .int .i64 x1] from ((hdr).block _ Sxb.out.lt).trans Sxb.out)
      have Stb := Lib.hid (show Str w5 (w.heap.size + 1) 23 #[.int .i64 t0, .int .i64 t1, .int .i64 t2, .int .i64 t3] from ((hdr).block _ Stb.out.lt).trans Stb.out)
      have Sw0 := Lib.hid (show Str w5 OBw 33 #[.slice aw0_0 L.length cw0_0, .int .i64 N] from ((hdr).block _ Sw0.out.lt).trans Sw0.out)
      have Sxxv := Lib.hid (show Str w5 w3.heap.size 33 #[.slice axx xx0.length cxx, .int .i64 x1] from ((hdr).block _ Sxxv.out.lt).trans Sxxv.out)
      have hz5 := (hdr).size
      clear hdr
      refine takeL 0 (v := ?vig1) rfl (by kernel_rfl) (by kernel_rfl) (by kernel_rfl) (by kernel_rfl) (by kernel_rfl) (fun _ _ _ h => h) hH rfl ?yig1 ?rig1
      case yig1 => intro W hSw; go_simp; try with_reducible rfl
      try simp only [Act.put, List.setIfInBounds_toArray, List.set_cons_zero, List.set_cons_succ]
      refine takeL 1 (v := ?vig2) rfl (by kernel_rfl) (by kernel_rfl) (by kernel_rfl) (by kernel_rfl) (by kernel_rfl) (fun _ _ _ h => h) hH rfl ?yig2 ?rig2
      case yig2 => intro W hSw; go_simp; try with_reducible rfl
      try simp only [Act.put, List.setIfInBounds_toArray, List.set_cons_zero, List.set_cons_succ]
      refine twoL 2 7 rfl rfl (by kernel_rfl) rfl rfl (fun K hK => ?_) (fun K hK => ?_)
      rotate_left
      · skip
        go_simp
        have hal : Below w5.heap.size w5 (w5.alloc (.cells #[.slice none 0 0, .int .i64 0] 33)) := (Below.refl _ _).alloc (Nat.le_refl _) _
        have sN := Str.new w5 33 #[.slice none 0 0, .int .i64 0]
        have hzn : w5.heap.size < (w5.alloc (.cells #[.slice none 0 0, .int .i64 0] 33)).heap.size := by simp
        generalize hwn : (w5.alloc (.cells #[.slice none 0 0, .int .i64 0] 33)) = w6 at *
        have Hb6 := Lib.hid (below_step Hb5.out Hb5.out.size hal)
        have Hq := Lib.hid (below_step Hq.out Hq.out.size hal)
        have Hw0_0 := Lib.hid (Hw0_0.out.below hal)
        have Hxx := Lib.hid (Hxx.out.below hal)
        have Sxb := Lib.hid (show Str w6 w.heap.size 30 #[.slice ax0 xx0.length capx0, .int .i64 x1] from ((hal).block _ Sxb.out.lt).trans Sxb.out)
        have Stb := Lib.hid (show Str w6 (w.heap.size + 1) 23 #[.int .i64 t0, .int .i64 t1, .int .i64 t2, .int .i64 t3] from ((hal).block _ Stb.out.lt).trans Stb.out)
        have Sw0 := Lib.hid (show Str w6 OBw 33 #[.slice aw0_0 L.length cw0_0, .int .i64 N] from ((hal).block _ Sw0.out.lt).trans Sw0.out)
        have Sxxv := Lib.hid (show Str w6 w3.heap.size 33 #[.slice axx xx0.length cxx, .int .i64 x1] from ((hal).block _ Sxxv.out.lt).trans Sxxv.out)
        have hz6 := (hal).size
        have Sg0 := Lib.hid sN; clear sN hal hwn
        refine hK.out _ _ ⟨Sxxv.out.cell 0 (v := .slice axx xx0.length cxx) rfl, Sxxv.out.cell 1 (v := .int .i64 x1) rfl, Stb.out.cell 0 (v := .int .i64 t0) rfl, Stb.out.cell 1 (v := .int .i64 t1) rfl, Stb.out.cell 2 (v := .int .i64 t2) rfl, Stb.out.cell 3 (v := .int .i64 t3) rfl⟩ (fun hH => ?_)
        clear hK K
        try simp only [Act.put, List.setIfInBounds_toArray, List.set_cons_zero, List.set_cons_succ]
        refine callL 2 rfl (by kernel_rfl) rfl (fun K hK => ?_)
        go_simp
        refine (laws_toTxnR t0 t1 t2 t3 _).mono ?_
        rintro e w7 ⟨rfl, hb7⟩
        have Hb7 := Lib.hid (below_step Hb6.out Hb6.out.size hb7)
        have Hq := Lib.hid (below_step Hq.out Hq.out.size hb7)
        have Hw0_0 := Lib.hid (Hw0_0.out.below hb7)
        have Hxx := Lib.hid (Hxx.out.below hb7)
        have Sxb := Lib.hid (show Str w7 w.heap.size 30 #[.slice ax0 xx0.length capx0, .int .i64 x1] from ((hb7).block _ Sxb.out.lt).trans Sxb.out)
        have Stb := Lib.hid (show Str w7 (w.heap.size + 1) 23 #[.int .i64 t0, .int .i64 t1, .int .i64 t2, .int .i64 t3] from ((hb7).block _ Stb.out.lt).trans Stb.out)
        have Sw0 := Lib.hid (show Str w7 OBw 33 #[.slice aw0_0 L.length cw0_0, .int .i64 N] from ((hb7).block _ Sw0.out.lt).trans Sw0.out)
        have Sxxv := Lib.hid (show Str w7 w3.heap.size 33 #[.slice axx xx0.length cxx, .int .i64 x1] from ((hb7).block _ Sxxv.out.lt).trans Sxxv.out)
        have Sg0 := Lib.hid (show Str w7 w5.heap.size 33 #[.slice none 0 0, .int .i64 0] from ((hb7).block _ Sg0.out.lt).trans Sg0.out)
        have hz7 := (hb7).size
        dsimp only
        refine hK.out _ _ ⟨Sxxv.out.cell 0 (v := .slice axx xx0.length cxx) rfl, Sxxv.out.cell 1 (v := .int .i64 x1) rfl, Stb.out.cell 0 (v := .int .i64 t0) rfl, Stb.out.cell 1 (v := .int .i64 t1) rfl, Stb.out.cell 2 (v := .int .i64 t2) rfl, Stb.out.cell 3 (v := .int .i64 t3) rfl⟩ (fun hH => ?_)
        clear hK K
        try simp only [Act.put, List.setIfInBounds_toArray, List.set_cons_zero, List.set_cons_succ]
        refine callL 3 rfl (by kernel_rfl) rfl (fun K hK => ?_)
        go_simp
        refine (Himpl.out axx cxx _ hcxx Hxx.out.at (own_src Hxx.out.own)).mono ?_
        rintro e w8 ⟨vg0_0, rfl, hog0_0, hb8⟩
        have Hb8 := Lib.hid (below_step Hb7.out Hb7.out.size hb8)
        have Hq := Lib.hid (below_step Hq.out Hq.out.size hb8)
        have Hw0_0 := Lib.hid (Hw0_0.out.below hb8)
        have Hxx := Lib.hid (Hxx.out.below hb8)
        have Sxb := Lib.hid (show Str w8 w.heap.size 30 #[.slice ax0 xx0.length capx0, .int .i64 x1] from ((hb8).block _ Sxb.out.lt).trans Sxb.out)
        have Stb := Lib.hid (show Str w8 (w.heap.size + 1) 23 #[.int .i64 t0, .int .i64 t1, .int .i64 t2, .int .i64 t3] from ((hb8).block _ Stb.out.lt).trans Stb.out)
        have Sw0 := Lib.hid (show Str w8 OBw 33 #[.slice aw0_0 L.length cw0_0, .int .i64 N] from ((hb8).block _ Sw0.out.lt).trans Sw0.out)
        have Sxxv := Lib.hid (show Str w8 w3.heap.size 33 #[.slice axx xx0.length cxx, .int .i64 x1] from ((hb8).block _ Sxxv.out.lt).trans Sxxv.out)
        have Sg0 := Lib.hid (show Str w8 w5.heap.size 33 #[.slice none 0 0, .int .i64 0] from ((hb8).block _ Sg0.out.lt).trans Sg0.out)
        have hz8 := (hb8).size
        have Hg0_0 := Lib.hid (OwnI.of hog0_0); clear hog0_0
        obtain ⟨ag0_0, cg0_0, rfl, _, _⟩ := Hg0_0.out.ints
        have hcg0_0 := Hg0_0.out.cap
        have hhg0_0 : w7.heap.size ≤ w7.heap.size := Nat.le_refl _
        have hjg0_0 : w8.heap.size ≤ w8.heap.size := Nat.le_refl _
        dsimp only
        refine hK.out _ _ ⟨Sxxv.out.cell 0 (v := .slice axx xx0.length cxx) rfl, Sxxv.out.cell 1 (v := .int .i64 x1) rfl, Stb.out.cell 0 (v := .int .i64 t0) rfl, Stb.out.cell 1 (v := .int .i64 t1) rfl, Stb.out.cell 2 (v := .int .i64 t2) rfl, Stb.out.cell 3 (v := .int .i64 t3) rfl⟩ (fun hH => ?_)
        clear hK K
        try simp only [Act.put, List.setIfInBounds_toArray, List.set_cons_zero, List.set_cons_succ]
        refine takeL 4 (v := ?vig3) rfl (by kernel_rfl) (by kernel_rfl) (by kernel_rfl) (by kernel_rfl) (by kernel_rfl) (fun _ _ _ h => h) hH rfl ?yig3 ?rig3
        case yig3 => intro W hSw; go_simp; try with_reducible rfl
        try simp only [Act.put, List.setIfInBounds_toArray, List.set_cons_zero, List.set_cons_succ]
        refine takeL 5 (v := ?vig4) rfl (by kernel_rfl) (by kernel_rfl) (by kernel_rfl) (by kernel_rfl) (by kernel_rfl) (fun _ _ _ h => h) hH rfl ?yig4 ?rig4
        case yig4 => intro W hSw; go_simp; try with_reducible rfl
        try simp only [Act.put, List.setIfInBounds_toArray, List.set_cons_zero, List.set_cons_succ]
        refine takeL 6 (v := ?vig5) rfl (by kernel_rfl) (by kernel_rfl) (by kernel_rfl) (by kernel_rfl) (by kernel_rfl) (fun _ _ _ h => h) hH rfl ?yig5 ?rig5
        case yig5 => intro W hSw; go_simp; try with_reducible rfl
        try simp only [Act.put, List.setIfInBounds_toArray, List.set_cons_zero, List.set_cons_succ]
        refine callL 8 rfl (by kernel_rfl) rfl (fun K hK => ?_)
        have y0 := Sg0.out.frozen 0
        have y1 := Sg0.out.frozen 1
        have g0 := Sg0.out.cell 0 (v := .slice none 0 0) rfl
        have g1 := Sg0.out.cell 1 (v := .int .i64 0) rfl
        go_simp
        clear y0 g0 y1 g1
        have hbt : Btw (w5.heap.size) (w5.heap.size + 1) w8 ((w8.setCell ⟨w5.heap.size, 0, none⟩ (.slice ag0_0 L.length cg0_0)).setCell ⟨w5.heap.size, 1, none⟩ (.int .i64 N)) := ((Btw.set w8 (Nat.le_refl (w5.heap.size)) (Nat.lt_succ_self _) 0 (.slice ag0_0 L.length cg0_0)).trans (Btw.set (w8.setCell ⟨w5.heap.size, 0, none⟩ (.slice ag0_0 L.length cg0_0)) (Nat.le_refl (w5.heap.size)) (Nat.lt_succ_self _) 1 (.int .i64 N)))
        have sO : Str ((w8.setCell ⟨w5.heap.size, 0, none⟩ (.slice ag0_0 L.length cg0_0)).setCell ⟨w5.heap.size, 1, none⟩ (.int .i64 N)) (w5.heap.size) 33 #[.slice ag0_0 L.length cg0_0, .int .i64 N] := ((Sg0.out.set 0 (.slice ag0_0 L.length cg0_0)).set 1 (.int .i64 N))
        generalize ((w8.setCell ⟨w5.heap.size, 0, none⟩ (.slice ag0_0 L.length cg0_0)).setCell ⟨w5.heap.size, 1, none⟩ (.int .i64 N)) = w9 at *
        have hz9 := hbt.size
        have Hq := Lib.hid (hbt.below Hq.out Hq.out.size (by omega))
        have Sxxv := Lib.hid (Sxxv.out.btw hbt (by first | exact .inl (by omega) | exact .inr (by omega) | omega))
        have Stb := Lib.hid (Stb.out.btw hbt (by first | exact .inl (by omega) | exact .inr (by omega) | omega))
        have Hg0_0 := Lib.hid (Hg0_0.out.btw hbt (by first | exact .inl (by omega) | exact .inr (by omega) | omega))
        clear hbt
        refine hK.out _ _ ⟨Sxxv.out.cell 0 (v := .slice axx xx0.length cxx) rfl, Sxxv.out.cell 1 (v := .int .i64 x1) rfl, Stb.out.cell 0 (v := .int .i64 t0) rfl, Stb.out.cell 1 (v := .int .i64 t1) rfl, Stb.out.cell 2 (v := .int .i64 t2) rfl, Stb.out.cell 3 (v := .int .i64 t3) rfl⟩ (fun hH => ?_)
        clear hK K
        try simp only [Act.put, List.setIfInBounds_toArray, List.set_cons_zero, List.set_cons_succ]
        refine lastL rfl (by kernel_rfl) (by kernel_rfl) (by kernel_rfl) rfl (fun K hK => ?_)
        go_simp
        have z2 : w4.heap.size ≤ w7.heap.size := by omega
        have z3 : w7.heap.size ≤ w8.heap.size := by omega
        have z4 : w8.heap.size ≤ w9.heap.size := by omega
        have Ho9 := Hg0_0.out
        clear hH
        obtain ⟨OB, hOB⟩ : ∃ OB, OB = w5.heap.size := ⟨_, rfl⟩
        have z1 : w4.heap.size ≤ OB := by omega
        have z5 : OB < w7.heap.size ∨ w8.heap.size ≤ OB := (by first | exact .inl (by omega) | exact .inr (by omega) | omega)
        rw [← hOB] at sO ⊢
        refine hK.out _ _ ⟨OB, w7.heap.size, w8.heap.size, ag0_0, cg0_0, ?_, Hq.out, sO, Ho9, z1, z2, z3, z4, z5⟩
        rfl
      go_simp
      refine (laws_toTxnR t0 t1 t2 t3 _).mono ?_
      rintro e w6 ⟨rfl, hb6⟩
      have Hb6 := Lib.hid (below_step Hb5.out Hb5.out.size hb6)
      have Hq := Lib.hid (below_step Hq.out Hq.out.size hb6)
      have Hw0_0 := Lib.hid (Hw0_0.out.below hb6)
      have Hxx := Lib.hid (Hxx.out.below hb6)
      have Sxb := Lib.hid (show Str w6 w.heap.size 30 #[.slice ax0 xx0.length capx0, .int .i64 x1] from ((hb6).block _ Sxb.out.lt).trans Sxb.out)
      have Stb := Lib.hid (show Str w6 (w.heap.size + 1) 23 #[.int .i64 t0, .int .i64 t1, .int .i64 t2, .int .i64 t3] from ((hb6).block _ Stb.out.lt).trans Stb.out)
      have Sw0 := Lib.hid (show Str w6 OBw 33 #[.slice aw0_0 L.length cw0_0, .int .i64 N] from ((hb6).block _ Sw0.out.lt).trans Sw0.out)
      have Sxxv := Lib.hid (show Str w6 w3.heap.size 33 #[.slice axx xx0.length cxx, .int .i64 x1] from ((hb6).block _ Sxxv.out.lt).trans Sxxv.out)
      have hz6 := (hb6).size
      dsimp only
      refine hK.out _ _ ⟨Sxxv.out.cell 0 (v := .slice axx xx0.length cxx) rfl, Sxxv.out.cell 1 (v := .int .i64 x1) rfl, Stb.out.cell 0 (v := .int .i64 t0) rfl, Stb.out.cell 1 (v := .int .i64 t1) rfl, Stb.out.cell 2 (v := .int .i64 t2) rfl, Stb.out.cell 3 (v := .int .i64 t3) rfl⟩ (fun hH => ?_)
      clear hK K
      try simp only [Act.put, List.setIfInBounds_toArray, List.set_cons_zero, List.set_cons_succ]
      refine twoL 3 7 rfl rfl (by kernel_rfl) rfl rfl (fun K hK => ?_) (fun K hK => ?_)
      rotate_left
      · skip
        go_simp
        have hal : Below w6.heap.size w6 (w6.alloc (.cells #[.slice none 0 0, .int .i64 0] 33)) := (Below.refl _ _).alloc (Nat.le_refl _) _
        have sN := Str.new w6 33 #[.slice none 0 0, .int .i64 0]
        have hzn : w6.heap.size < (w6.alloc (.cells #[.slice none 0 0, .int .i64 0] 33)).heap.size := by simp
        generalize hwn : (w6.alloc (.cells #[.slice none 0 0, .int .i64 0] 33)) = w7 at *
        have Hb7 := Lib.hid (below_step Hb6.out Hb6.out.size hal)
        have Hq := Lib.hid (below_step Hq.out Hq.out.size hal)
        have Hw0_0 := Lib.hid (Hw0_0.out.below hal)
        have Hxx := Lib.hid (Hxx.out.below hal)
        have Sxb := Lib.hid (show Str w7 w.heap.size 30 #[.slice ax0 xx0.length capx0, .int .i64 x1] from ((hal).block _ Sxb.out.lt).trans Sxb.out)
        have Stb := Lib.hid (show Str w7 (w.heap.size + 1) 23 #[.int .i64 t0, .int .i64 t1, .int .i64 t2, .int .i64 t3] from ((hal).block _ Stb.out.lt).trans Stb.out)
        have Sw0 := Lib.hid (show Str w7 OBw 33 #[.slice aw0_0 L.length cw0_0, .int .i64 N] from ((hal).block _ Sw0.out.lt).trans Sw0.out)
        have Sxxv := Lib.hid (show Str w7 w3.heap.size 33 #[.slice axx xx0.length cxx, .int .i64 x1] from ((hal).block _ Sxxv.out.lt).trans Sxxv.out)
        have hz7 := (hal).size
        have Sg0 := Lib.hid sN; clear sN hal hwn
        refine hK.out _ _ ⟨Sxxv.out.cell 0 (v := .slice axx xx0.length cxx) rfl, Sxxv.out.cell 1 (v := .int .i64 x1) rfl, Stb.out.cell 0 (v := .int .i64 t0) rfl, Stb.out.cell 1 (v := .int .i64 t1) rfl, Stb.out.cell 2 (v := .int .i64 t2) rfl, Stb.out.cell 3 (v := .int .i64 t3) rfl⟩ (fun hH => ?_)
        clear hK K
        try simp only [Act.put, List.setIfInBounds_toArray, List.set_cons_zero, List.set_cons_succ]
        refine callL 3 rfl (by kernel_rfl) rfl (fun K hK => ?_)
        go_simp
        refine (Himpl.out axx cxx _ hcxx Hxx.out.at (own_src Hxx.out.own)).mono ?_
        rintro e w8 ⟨vg0_0, rfl, hog0_0, hb8⟩
        have Hb8 := Lib.hid (below_step Hb7.out Hb7.out.size hb8)
        have Hq := Lib.hid (below_step Hq.out Hq.out.size hb8)
        have Hw0_0 := Lib.hid (Hw0_0.out.below hb8)
        have Hxx := Lib.hid (Hxx.out.below hb8)
        have Sxb := Lib.hid (show Str w8 w.heap.size 30 #[.slice ax0 xx0.length capx0, .int .i64 x1] from ((hb8).block _ Sxb.out.lt).trans Sxb.out)
        have Stb := Lib.hid (show Str w8 (w.heap.size + 1) 23 #[.int .i64 t0, .int .i64 t1, .int .i64 t2, .int .i64 t3] from ((hb8).block _ Stb.out.lt).trans Stb.out)
        have Sw0 := Lib.hid (show Str w8 OBw 33 #[.slice aw0_0 L.length cw0_0, .int .i64 N] from ((hb8).block _ Sw0.out.lt).trans Sw0.out)
        have Sxxv := Lib.hid (show Str w8 w3.heap.size 33 #[.slice axx xx0.length cxx, .int .i64 x1] from ((hb8).block _ Sxxv.out.lt).trans Sxxv.out)
        have Sg0 := Lib.hid (show Str w8 w6.heap.size 33 #[.slice none 0 0, .int .i64 0] from ((hb8).block _ Sg0.out.lt).trans Sg0.out)
        have hz8 := (hb8).size
        have Hg0_0 := Lib.hid (OwnI.of hog0_0); clear hog0_0
        obtain ⟨ag0_0, cg0_0, rfl, _, _⟩ := Hg0_0.out.ints
        have hcg0_0 := Hg0_0.out.cap
        have hhg0_0 : w7.heap.size ≤ w7.heap.size := Nat.le_refl _
        have hjg0_0 : w8.heap.size ≤ w8.heap.size := Nat.le_refl _
        dsimp only
        refine hK.out _ _ ⟨Sxxv.out.cell 0 (v := .slice axx xx0.length cxx) rfl, Sxxv.out.cell 1 (v := .int .i64 x1) rfl, Stb.out.cell 0 (v := .int .i64 t0) rfl, Stb.out.cell 1 (v := .int .i64 t1) rfl, Stb.out.cell 2 (v := .int .i64 t2) rfl, Stb.out.cell 3 (v := .int .i64 t3) rfl⟩ (fun hH => ?_)
        clear hK K
        try simp only [Act.put, List.setIfInBounds_toArray, List.set_cons_zero, List.set_cons_succ]
        refine takeL 4 (v := ?vig6) rfl (by kernel_rfl) (by kernel_rfl) (by kernel_rfl) (by kernel_rfl) (by kernel_rfl) (fun _ _ _ h => h) hH rfl ?yig6 ?rig6
        case yig6 => intro W hSw; go_simp; try with_reducible rfl
        try simp only [Act.put, List.setIfInBounds_toArray, List.set_cons_zero, List.set_cons_succ]
        refine takeL 5 (v := ?vig7) rfl (by kernel_rfl) (by kernel_rfl) (by kernel_rfl) (by kernel_rfl) (by kernel_rfl) (fun _ _ _ h => h) hH rfl ?yig7 ?rig7
        case yig7 => intro W hSw; go_simp; try with_reducible rfl
        try simp only [Act.put, List.setIfInBounds_toArray, List.set_cons_zero, List.set_cons_succ]
        refine takeL 6 (v := ?vig8) rfl (by kernel_rfl) (by kernel_rfl) (by kernel_rfl) (by kernel_rfl) (by kernel_rfl) (fun _ _ _ h => h) hH rfl ?yig8 ?rig8
        case yig8 => intro W hSw; go_simp; try with_reducible rfl
        try simp only [Act.put, List.setIfInBounds_toArray, List.set_cons_zero, List.set_cons_succ]
        refine callL 8 rfl (by kernel_rfl) rfl (fun K hK => ?_)
        have y0 := Sg0.out.frozen 0
        have y1 := Sg0.out.frozen 1
        have g0 := Sg0.out.cell 0 (v := .slice none 0 0) rfl
        have g1 := Sg0.out.cell 1 (v := .int .i64 0) rfl
        go_simp
        clear y0 g0 y1 g1
        have hbt : Btw (w6.heap.size) (w6.heap.size + 1) w8 ((w8.setCell ⟨w6.heap.size, 0, none⟩ (.slice ag0_0 L.length cg0_0)).setCell ⟨w6.heap.size, 1, none⟩ (.int .i64 N)) := ((Btw.set w8 (Nat.le_refl (w6.heap.size)) (Nat.lt_succ_self _) 0 (.slice ag0_0 L.length cg0_0)).trans (Btw.set (w8.setCell ⟨w6.heap.size, 0, none⟩ (.slice ag0_0 L.length cg0_0)) (Nat.le_refl (w6.heap.size)) (Nat.lt_succ_self _) 1 (.int .i64 N)))
        have sO : Str ((w8.setCell ⟨w6.heap.size, 0, none⟩ (.slice ag0_0 L.length cg0_0)).setCell ⟨w6.heap.size, 1, none⟩ (.int .i64 N)) (w6.heap.size) 33 #[.slice ag0_0 L.length cg0_0, .int .i64 N] := ((Sg0.out.set 0 (.slice ag0_0 L.length cg0_0)).set 1 (.int .i64 N))
        generalize ((w8.setCell ⟨w6.heap.size, 0, none⟩ (.slice ag0_0 L.length cg0_0)).setCell ⟨w6.heap.size, 1, none⟩ (.int .i64 N)) = w9 at *
        have hz9 := hbt.size
        have Hq := Lib.hid (hbt.below Hq.out Hq.out.size (by omega))
        have Sxxv := Lib.hid (Sxxv.out.btw hbt (by first | exact .inl (by omega) | exact .inr (by omega) | omega))
        have Stb := Lib.hid (Stb.out.btw hbt (by first | exact .inl (by omega) | exact .inr (by omega) | omega))
        have Hg0_0 := Lib.hid (Hg0_0.out.btw hbt (by first | exact .inl (by omega) | exact .inr (by omega) | omega))
        clear hbt
        refine hK.out _ _ ⟨Sxxv.out.cell 0 (v := .slice axx xx0.length cxx) rfl, Sxxv.out.cell 1 (v := .int .i64 x1) rfl, Stb.out.cell 0 (v := .int .i64 t0) rfl, Stb.out.cell 1 (v := .int .i64 t1) rfl, Stb.out.cell 2 (v := .int .i64 t2) rfl, Stb.out.cell 3 (v := .int .i64 t3) rfl⟩ (fun hH => ?_)
        clear hK K
        try simp only [Act.put, List.setIfInBounds_toArray, List.set_cons_zero, List.set_cons_succ]
        refine lastL rfl (by kernel_rfl) (by kernel_rfl) (by kernel_rfl) rfl (fun K hK => ?_)
        go_simp
        have z2 : w4.heap.size ≤ w7.heap.size := by omega
        have z3 : w7.heap.size ≤ w8.heap.size := by omega
        have z4 : w8.heap.size ≤ w9.heap.size := by omega
        have Ho9 := Hg0_0.out
        clear hH
        obtain ⟨OB, hOB⟩ : ∃ OB, OB = w6.heap.size := ⟨_, rfl⟩
        have z1 : w4.heap.size ≤ OB := by omega
        have z5 : OB < w7.heap.size ∨ w8.heap.size ≤ OB := (by first | exact .inl (by omega) | exact .inr (by omega) | omega)
        rw [← hOB] at sO ⊢
        refine hK.out _ _ ⟨OB, w7.heap.size, w8.heap.size, ag0_0, cg0_0, ?_, Hq.out, sO, Ho9, z1, z2, z3, z4, z5⟩
        rfl
      go_simp
      refine (Himpl.out axx cxx _ hcxx Hxx.out.at (own_src Hxx.out.own)).mono ?_
      rintro e w7 ⟨vg0_0, rfl, hog0_0, hb7⟩
      have Hb7 := Lib.hid (below_step Hb6.out Hb6.out.size hb7)
      have Hq := Lib.hid (below_step Hq.out Hq.out.size hb7)
      have Hw0_0 := Lib.hid (Hw0_0.out.below hb7)
      have Hxx := Lib.hid (Hxx.out.below hb7)
      have Sxb := Lib.hid (show Str w7 w.heap.size 30 #[.slice ax0 xx0.length capx0, .int .i64 x1] from ((hb7).block _ Sxb.out.lt).trans Sxb.out)
      have Stb := Lib.hid (show Str w7 (w.heap.size + 1) 23 #[.int .i64 t0, .int .i64 t1, .int .i64 t2, .int .i64 t3] from ((hb7).block _ Stb.out.lt).trans Stb.out)
      have Sw0 := Lib.hid (show Str w7 OBw 33 #[.slice aw0_0 L.length cw0_0, .int .i64 N] from ((hb7).block _ Sw0.out.lt).trans Sw0.out)
      have Sxxv := Lib.hid (show Str w7 w3.heap.size 33 #[.slice axx xx0.length cxx, .int .i64 x1] from ((hb7).block _ Sxxv.out.lt).trans Sxxv.out)
      have hz7 := (hb7).size
      have Hg0_0 := Lib.hid (OwnI.of hog0_0); clear hog0_0
      obtain ⟨ag0_0, cg0_0, rfl, _, _⟩ := Hg0_0.out.ints
      have hcg0_0 := Hg0_0.out.cap
      have hhg0_0 : w6.heap.size ≤ w6.heap.size := Nat.le_refl _
      have hjg0_0 : w7.heap.size ≤ w7.heap.size := Nat.le_refl _
      dsimp only
      refine hK.out _ _ ⟨Sxxv.out.cell 0 (v := .slice axx xx0.length cxx) rfl, Sxxv.out.cell 1 (v := .int .i64 x1) rfl, Stb.out.cell 0 (v := .int .i64 t0) rfl, Stb.out.cell 1 (v := .int .i64 t1) rfl, Stb.out.cell 2 (v := .int .i64 t2) rfl, Stb.out.cell 3 (v := .int .i64 t3) rfl⟩ (fun hH => ?_)
      clear hK K
      try simp only [Act.put, List.setIfInBounds_toArray, List.set_cons_zero, List.set_cons_succ]
      refine takeL 4 (v := ?vig9) rfl (by kernel_rfl) (by kernel_rfl) (by kernel_rfl) (by kernel_rfl) (by kernel_rfl) (fun _ _ _ h => h) hH rfl ?yig9 ?rig9
      case yig9 => intro W hSw; go_simp; try with_reducible rfl
      try simp only [Act.put, List.setIfInBounds_toArray, List.set_cons_zero, List.set_cons_succ]
      refine takeL 5 (v := ?vig10) rfl (by kernel_rfl) (by kernel_rfl) (by kernel_rfl) (by kernel_rfl) (by kernel_rfl) (fun _ _ _ h => h) hH rfl ?yig10 ?rig10
      case yig10 => intro W hSw; go_simp; try with_reducible rfl
      try simp only [Act.put, List.setIfInBounds_toArray, List.set_cons_zero, List.set_cons_succ]
      refine takeL 6 (v := ?vig11) rfl (by kernel_rfl) (by kernel_rfl) (by kernel_rfl) (by kernel_rfl) (by kernel_rfl) (fun _ _ _ h => h) hH rfl ?yig11 ?rig11
      case yig11 => intro W hSw; go_simp; try with_reducible rfl
      try simp only [Act.put, List.setIfInBounds_toArray, List.set_cons_zero, List.set_cons_succ]
      refine callL 7 rfl (by kernel_rfl) rfl (fun K hK => ?_)
      go_simp
      have hal : Below w7.heap.size w7 (w7.alloc (.cells #[.slice none 0 0, .int .i64 0] 33)) := (Below.refl _ _).alloc (Nat.le_refl _) _
      have sN := Str.new w7 33 #[.slice none 0 0, .int .i64 0]
      have hzn : w7.heap.size < (w7.alloc (.cells #[.slice none 0 0, .int .i64 0] 33)).heap.size := by simp
      generalize hwn : (w7.alloc (.cells #[.slice none 0 0, .int .i64 0] 33)) = w8 at *
      have Hb8 := Lib.hid (below_step Hb7.out Hb7.out.size hal)
      have Hq := Lib.hid (below_step Hq.out Hq.out.size hal)
      have Hw0_0 := Lib.hid (Hw0_0.out.below hal)
      have Hxx := Lib.hid (Hxx.out.below hal)
      have Hg0_0 := Lib.hid (Hg0_0.out.below hal)
      have Sxb := Lib.hid (show Str w8 w.heap.size 30 #[.slice ax0 xx0.length capx0, .int .i64 x1] from ((hal).block _ Sxb.out.lt).trans Sxb.out)
      have Stb := Lib.hid (show Str w8 (w.heap.size + 1) 23 #[.int .i64 t0, .int .i64 t1, .int .i64 t2, .int .i64 t3] from ((hal).block _ Stb.out.lt).trans Stb.out)
      have Sw0 := Lib.hid (show Str w8 OBw 33 #[.slice aw0_0 L.length cw0_0, .int .i64 N] from ((hal).block _ Sw0.out.lt).trans Sw0.out)
      have Sxxv := Lib.hid (show Str w8 w3.heap.size 33 #[.slice axx xx0.length cxx, .int .i64 x1] from ((hal).block _ Sxxv.out.lt).trans Sxxv.out)
      have hz8 := (hal).size
      have Sg0 := Lib.hid sN; clear sN hal hwn
      refine hK.out _ _ ⟨Sxxv.out.cell 0 (v := .slice axx xx0.length cxx) rfl, Sxxv.out.cell 1 (v := .int .i64 x1) rfl, Stb.out.cell 0 (v := .int .i64 t0) rfl, Stb.out.cell 1 (v := .int .i64 t1) rfl, Stb.out.cell 2 (v := .int .i64 t2) rfl, Stb.out.cell 3 (v := .int .i64 t3) rfl⟩ (fun hH => ?_)
      clear hK K
      try simp only [Act.put, List.setIfInBounds_toArray, List.set_cons_zero, List.set_cons_succ]
      refine callL 8 rfl (by kernel_rfl) rfl (fun K hK => ?_)
      have y0 := Sg0.out.frozen 0
      have y1 := Sg0.out.frozen 1
      have g0 := Sg0.out.cell 0 (v := .slice none 0 0) rfl
      have g1 := Sg0.out.cell 1 (v := .int .i64 0) rfl
      go_simp
      clear y0 g0 y1 g1
      have hbt : Btw (w7.heap.size) (w7.heap.size + 1) w8 ((w8.setCell ⟨w7.heap.size, 0, none⟩ (.slice ag0_0 L.length cg0_0)).setCell ⟨w7.heap.size, 1, none⟩ (.int .i64 N)) := ((Btw.set w8 (Nat.le_refl (w7.heap.size)) (Nat.lt_succ_self _) 0 (.slice ag0_0 L.length cg0_0)).trans (Btw.set (w8.setCell ⟨w7.heap.size, 0, none⟩ (.slice ag0_0 L.length cg0_0)) (Nat.le_refl (w7.heap.size)) (Nat.lt_succ_self _) 1 (.int .i64 N)))
      have sO : Str ((w8.setCell ⟨w7.heap.size, 0, none⟩ (.slice ag0_0 L.length cg0_0)).setCell ⟨w7.heap.size, 1, none⟩ (.int .i64 N)) (w7.heap.size) 33 #[.slice ag0_0 L.length cg0_0, .int .i64 N] := ((Sg0.out.set 0 (.slice ag0_0 L.length cg0_0)).set 1 (.int .i64 N))
      generalize ((w8.setCell ⟨w7.heap.size, 0, none⟩ (.slice ag0_0 L.length cg0_0)).setCell ⟨w7.heap.size, 1, none⟩ (.int .i64 N)) = w9 at *
      have hz9 := hbt.size
      have Hq := Lib.hid (hbt.below Hq.out Hq.out.size (by omega))
      have Sxxv := Lib.hid (Sxxv.out.btw hbt (by first | exact .inl (by omega) | exact .inr (by omega) | omega))
      have Stb := Lib.hid (Stb.out.btw hbt (by first | exact .inl (by omega) | exact .inr (by omega) | omega))
      have Hg0_0 := Lib.hid (Hg0_0.out.btw hbt (by first | exact .inl (by omega) | exact .inr (by omega) | omega))
      clear hbt
      refine hK.out _ _ ⟨Sxxv.out.cell 0 (v := .slice axx xx0.length cxx) rfl, Sxxv.out.cell 1 (v := .int .i64 x1) rfl, Stb.out.cell 0 (v := .int .i64 t0) rfl, Stb.out.cell 1 (v := .int .i64 t1) rfl, Stb.out.cell 2 (v := .int .i64 t2) rfl, Stb.out.cell 3 (v := .int .i64 t3) rfl⟩ (fun hH => ?_)
      clear hK K
      try simp only [Act.put, List.setIfInBounds_toArray, List.set_cons_zero, List.set_cons_succ]
      refine lastL rfl (by kernel_rfl) (by kernel_rfl) (by kernel_rfl) rfl (fun K hK => ?_)
      go_simp
      have z2 : w4.heap.size ≤ w6.heap.size := by omega
      have z3 : w6.heap.size ≤ w7.heap.size := by omega
      have z4 : w7.heap.size ≤ w9.heap.size := by omega
      have Ho9 := Hg0_0.out
      clear hH
      obtain ⟨OB, hOB⟩ : ∃ OB, OB = w7.heap.size := ⟨_, rfl⟩
      have z1 : w4.heap.size ≤ OB := by omega
      have z5 : OB < w6.heap.size ∨ w7.heap.size ≤ OB := (by first | exact .inl (by omega) | exact .inr (by omega) | omega)
      rw [← hOB] at sO ⊢
      refine hK.out _ _ ⟨OB, w6.heap.size, w7.heap.size, ag0_0, cg0_0, ?_, Hq.out, sO, Ho9, z1, z2, z3, z4, z5⟩
      rfl
    case hqg =>
      intro e a w5 hx
      cases e <;> first | exact hx.elim | skip
      obtain ⟨OBg, LOg, HIg, ag0_0, cg0_0, rfl, hbj, so, ol, b1g, b2g, b3g, b4g, b5g⟩ := hx
      have Hb5 := Lib.hid (below_step Hb4.out Hb4.out.size hbj)
      have Hw0_0 := Lib.hid (Hw0_0.out.below hbj)
      have Hxx := Lib.hid (Hxx.out.below hbj)
      have Sxb := Lib.hid (show Str w5 w.heap.size 30 #[.slice ax0 xx0.length capx0, .int .i64 x1] from ((hbj).block _ Sxb.out.lt).trans Sxb.out)
      have Stb := Lib.hid (show Str w5 (w.heap.size + 1) 23 #[.int .i64 t0, .int .i64 t1, .int .i64 t2, .int .i64 t3] from ((hbj).block _ Stb.out.lt).trans Stb.out)
      have Sw0 := Lib.hid (show Str w5 OBw 33 #[.slice aw0_0 L.length cw0_0, .int .i64 N] from ((hbj).block _ Sw0.out.lt).trans Sw0.out)
      have Sxxv := Lib.hid (show Str w5 w3.heap.size 33 #[.slice axx xx0.length cxx, .int .i64 x1] from ((hbj).block _ Sxxv.out.lt).trans Sxxv.out)
      have hz5 := (hbj).size
      have b6g := so.lt
      have Sg0 := Lib.hid so; clear so
      have Hg0_0 := Lib.hid ol; clear ol hbj
      have hcg0_0 := Hg0_0.out.cap
      have qg0_0 := Sg0.out.cell 0 (v := .slice ag0_0 L.length cg0_0) rfl
      have qg0_1 := Sg0.out.cell 1 (v := .int .i64 N) rfl
      have qw0_0 := Sw0.out.cell 0 (v := .slice aw0_0 L.length cw0_0) rfl
      have qw0_1 := Sw0.out.cell 1 (v := .int .i64 N) rfl
      go_wp2_with fail
      refine (laws_eqLedgerR ag0_0 aw0_0 cg0_0 cw0_0 L ( N) w5 (by omega) Hg0_0.out.at Hw0_0.out.at).mono ?_
      rintro e w6 ⟨rfl, hb6⟩
      have Hb6 := Lib.hid (below_step Hb5.out Hb5.out.size hb6)
      have Hw0_0 := Lib.hid (Hw0_0.out.below hb6)
      have Hxx := Lib.hid (Hxx.out.below hb6)
      have Hg0_0 := Lib.hid (Hg0_0.out.below hb6)
      have Sxb := Lib.hid (show Str w6 w.heap.size 30 #[.slice ax0 xx0.length capx0, .int .i64 x1] from ((hb6).block _ Sxb.out.lt).trans Sxb.out)
      have Stb := Lib.hid (show Str w6 (w.heap.size + 1) 23 #[.int .i64 t0, .int .i64 t1, .int .i64 t2, .int .i64 t3] from ((hb6).block _ Stb.out.lt).trans Stb.out)
      have Sw0 := Lib.hid (show Str w6 OBw 33 #[.slice aw0_0 L.length cw0_0, .int .i64 N] from ((hb6).block _ Sw0.out.lt).trans Sw0.out)
      have Sxxv := Lib.hid (show Str w6 w3.heap.size 33 #[.slice axx xx0.length cxx, .int .i64 x1] from ((hb6).block _ Sxxv.out.lt).trans Sxxv.out)
      have Sg0 := Lib.hid (show Str w6 OBg 33 #[.slice ag0_0 L.length cg0_0, .int .i64 N] from ((hb6).block _ Sg0.out.lt).trans Sg0.out)
      have hz6 := (hb6).size
      clear qg0_0 qg0_1 qw0_0 qw0_1
      have qxxv_0 := Sxxv.out.cell 0 (v := .slice axx xx0.length cxx) rfl
      have qxxv_1 := Sxxv.out.cell 1 (v := .int .i64 x1) rfl
      have qxb_0 := Sxb.out.cell 0 (v := .slice ax0 xx0.length capx0) rfl
      have qxb_1 := Sxb.out.cell 1 (v := .int .i64 x1) rfl
      go_wp2_with fail
      clear qxxv_0 qxxv_1 qxb_0 qxb_1
      have hdr : Below w6.heap.size w6 w6.drew := (Below.refl _ _).drew
      refine wp_region_held_drew (S := fun w' => w'.cell? ⟨w3.heap.size, 0, none⟩ = some (.slice axx xx0.length cxx) ∧ w'.cell? ⟨w3.heap.size, 1, none⟩ = some (.int .i64 x1) ∧ w'.cell? ⟨w.heap.size, 0, none⟩ = some (.slice ax0 xx0.length capx0) ∧ w'.cell? ⟨w.heap.size, 1, none⟩ = some (.int .i64 x1)) (by kernel_rfl) ⟨Sxxv.out.cell 0 (v := .slice axx xx0.length cxx) rfl, Sxxv.out.cell 1 (v := .int .i64 x1) rfl, Sxb.out.cell 0 (v := .slice ax0 xx0.length capx0) rfl, Sxb.out.cell 1 (v := .int .i64 x1) rfl⟩ (fun hH => ?_)
      generalize w6.drew = w7 at *
      have Hb7 := Lib.hid (below_step Hb6.out Hb6.out.size hdr)
      have Hw0_0 := Lib.hid (Hw0_0.out.below hdr)
      have Hxx := Lib.hid (Hxx.out.below hdr)
      have Hg0_0 := Lib.hid (Hg0_0.out.below hdr)
      have Sxb := Lib.hid (show Str w7 w.heap.size 30 #[.slice ax0 xx0.length capx0, .int .i64 x1] from ((hdr).block _ Sxb.out.lt).trans Sxb.out)
      have Stb := Lib.hid (show Str w7 (w.heap.size + 1) 23 #[.int .i64 t0, .int .i64 t1, .int .i64 t2, .int .i64 t3] from ((hdr).block _ Stb.out.lt).trans Stb.out)
      have Sw0 := Lib.hid (show Str w7 OBw 33 #[.slice aw0_0 L.length cw0_0, .int .i64 N] from ((hdr).block _ Sw0.out.lt).trans Sw0.out)
      have Sxxv := Lib.hid (show Str w7 w3.heap.size 33 #[.slice axx xx0.length cxx, .int .i64 x1] from ((hdr).block _ Sxxv.out.lt).trans Sxxv.out)
      have Sg0 := Lib.hid (show Str w7 OBg 33 #[.slice ag0_0 L.length cg0_0, .int .i64 N] from ((hdr).block _ Sg0.out.lt).trans Sg0.out)
      have hz7 := (hdr).size
      clear hdr
      refine takeH 0 (v := ?vqx0) rfl (by kernel_rfl) (by kernel_rfl) (by kernel_rfl) (fun _ _ _ h => h) hH rfl ?yqx0 ?rqx0
      case yqx0 => intro W hSw; go_simp; try with_reducible rfl
      try simp only [Act.put, List.setIfInBounds_toArray, List.set_cons_zero, List.set_cons_succ]
      refine takeH 1 (v := ?vqx1) rfl (by kernel_rfl) (by kernel_rfl) (by kernel_rfl) (fun _ _ _ h => h) hH rfl ?yqx1 ?rqx1
      case yqx1 => intro W hSw; go_simp; try with_reducible rfl
      try simp only [Act.put, List.setIfInBounds_toArray, List.set_cons_zero, List.set_cons_succ]
      refine callH 2 rfl (by kernel_rfl) rfl (fun K hK => ?_)
      go_simp
      refine (laws_toLedgerR ax0 capx0 xx0 x1 _ (by omega) (Hixx0.out.below Hb7.out)).mono ?_
      rintro e w8 ⟨vxy, rfl, hoxy, hb8⟩
      have Hb8 := Lib.hid (below_step Hb7.out Hb7.out.size hb8)
      have Hw0_0 := Lib.hid (Hw0_0.out.below hb8)
      have Hxx := Lib.hid (Hxx.out.below hb8)
      have Hg0_0 := Lib.hid (Hg0_0.out.below hb8)
      have Sxb := Lib.hid (show Str w8 w.heap.size 30 #[.slice ax0 xx0.length capx0, .int .i64 x1] from ((hb8).block _ Sxb.out.lt).trans Sxb.out)
      have Stb := Lib.hid (show Str w8 (w.heap.size + 1) 23 #[.int .i64 t0, .int .i64 t1, .int .i64 t2, .int .i64 t3] from ((hb8).block _ Stb.out.lt).trans Stb.out)
      have Sw0 := Lib.hid (show Str w8 OBw 33 #[.slice aw0_0 L.length cw0_0, .int .i64 N] from ((hb8).block _ Sw0.out.lt).trans Sw0.out)
      have Sxxv := Lib.hid (show Str w8 w3.heap.size 33 #[.slice axx xx0.length cxx, .int .i64 x1] from ((hb8).block _ Sxxv.out.lt).trans Sxxv.out)
      have Sg0 := Lib.hid (show Str w8 OBg 33 #[.slice ag0_0 L.length cg0_0, .int .i64 N] from ((hb8).block _ Sg0.out.lt).trans Sg0.out)
      have hz8 := (hb8).size
      have Hxy := Lib.hid (OwnI.of hoxy); clear hoxy
      obtain ⟨axy, cxy, rfl, _, _⟩ := Hxy.out.ints
      have hcxy := Hxy.out.cap
      have hhxy : w7.heap.size ≤ w7.heap.size := Nat.le_refl _
      have hjxy : w8.heap.size ≤ w8.heap.size := Nat.le_refl _
      dsimp only
      refine hK.out _ _ ⟨Sxxv.out.cell 0 (v := .slice axx xx0.length cxx) rfl, Sxxv.out.cell 1 (v := .int .i64 x1) rfl, Sxb.out.cell 0 (v := .slice ax0 xx0.length capx0) rfl, Sxb.out.cell 1 (v := .int .i64 x1) rfl⟩ (fun hH => ?_)
      clear hK K
      try simp only [Act.put, List.setIfInBounds_toArray, List.set_cons_zero, List.set_cons_succ]
      refine callH 3 rfl (by kernel_rfl) rfl (fun K hK => ?_)
      go_simp
      refine (laws_eqLedgerR axx axy cxx cxy xx0 x1 w8 (by omega) Hxx.out.at Hxy.out.at).mono ?_
      rintro e w9 ⟨rfl, hb9⟩
      have Hb9 := Lib.hid (below_step Hb8.out Hb8.out.size hb9)
      have Hw0_0 := Lib.hid (Hw0_0.out.below hb9)
      have Hxx := Lib.hid (Hxx.out.below hb9)
      have Hg0_0 := Lib.hid (Hg0_0.out.below hb9)
      have Hxy := Lib.hid (Hxy.out.below hb9)
      have Sxb := Lib.hid (show Str w9 w.heap.size 30 #[.slice ax0 xx0.length capx0, .int .i64 x1] from ((hb9).block _ Sxb.out.lt).trans Sxb.out)
      have Stb := Lib.hid (show Str w9 (w.heap.size + 1) 23 #[.int .i64 t0, .int .i64 t1, .int .i64 t2, .int .i64 t3] from ((hb9).block _ Stb.out.lt).trans Stb.out)
      have Sw0 := Lib.hid (show Str w9 OBw 33 #[.slice aw0_0 L.length cw0_0, .int .i64 N] from ((hb9).block _ Sw0.out.lt).trans Sw0.out)
      have Sxxv := Lib.hid (show Str w9 w3.heap.size 33 #[.slice axx xx0.length cxx, .int .i64 x1] from ((hb9).block _ Sxxv.out.lt).trans Sxxv.out)
      have Sg0 := Lib.hid (show Str w9 OBg 33 #[.slice ag0_0 L.length cg0_0, .int .i64 N] from ((hb9).block _ Sg0.out.lt).trans Sg0.out)
      have hz9 := (hb9).size
      dsimp only
      refine hK.out _ _ ⟨Sxxv.out.cell 0 (v := .slice axx xx0.length cxx) rfl, Sxxv.out.cell 1 (v := .int .i64 x1) rfl, Sxb.out.cell 0 (v := .slice ax0 xx0.length capx0) rfl, Sxb.out.cell 1 (v := .int .i64 x1) rfl⟩ (fun hH => ?_)
      clear hK K
      try simp only [Act.put, List.setIfInBounds_toArray, List.set_cons_zero, List.set_cons_succ]
      refine takeH 4 (v := ?vqx4) rfl (by kernel_rfl) (by kernel_rfl) (by kernel_rfl) (fun _ _ _ h => h) hH rfl ?yqx4 ?rqx4
      case yqx4 => intro W hSw; go_simp; try with_reducible rfl
      try simp only [Act.put, List.setIfInBounds_toArray, List.set_cons_zero, List.set_cons_succ]
      refine wpAnyH_done (by kernel_rfl) ?_ _
      try simp only [Act.put]
      clear hH
      clear Hxy
      have qxxv_0 := Sxxv.out.cell 0 (v := .slice axx xx0.length cxx) rfl
      have qxxv_1 := Sxxv.out.cell 1 (v := .int .i64 x1) rfl
      go_wp2_with fail
      refine (laws_markLedgerR x1 _ xx0 (1) w2.heap.size w9 (by omega) (by omega) Hxx.out.own).mono ?_
      rintro e w10 ⟨rfl, ho, hg⟩
      have hbt := Hxx.out.marks (grownBy_trans (World.grownBy_alloc w9 (.cells #[.slice axx xx0.length cxx, .int .i64 x1] 33) _) hg)
      clear qxxv_0 qxxv_1
      have Hb10 := Lib.hid ((hbt).below Hb9.out Hb9.out.size (by omega))
      have hz10 := (hbt).size
      have Hw0_0 := Lib.hid (Hw0_0.out.btw (hbt) (by first | exact .inl (by omega) | exact .inr (by omega) | omega))
      have Hg0_0 := Lib.hid (Hg0_0.out.btw (hbt) (by first | exact .inl (by omega) | exact .inr (by omega) | omega))
      have Sxb := Lib.hid (Sxb.out.btw (hbt) (by first | exact .inl (by omega) | exact .inr (by omega) | omega))
      have Stb := Lib.hid (Stb.out.btw (hbt) (by first | exact .inl (by omega) | exact .inr (by omega) | omega))
      have Sw0 := Lib.hid (Sw0.out.btw (hbt) (by first | exact .inl (by omega) | exact .inr (by omega) | omega))
      have Sxxv := Lib.hid (Sxxv.out.btw (hbt) (by first | exact .inl (by omega) | exact .inr (by omega) | omega))
      have Sg0 := Lib.hid (Sg0.out.btw (hbt) (by first | exact .inl (by omega) | exact .inr (by omega) | omega))
      have Hxx := Lib.hid (Hxx.out.mark ho)
      clear ho hg hbt
      have hkn : decide (((1 + xx0.length : Nat) : Int) < 0) = false := decide_eq_false (by omega)
      have hkn' : ¬ ((1 + xx0.length : Nat) : Int) < 0 := by omega
      have qg0_0 := Sg0.out.cell 0 (v := .slice ag0_0 L.length cg0_0) rfl
      have qg0_1 := Sg0.out.cell 1 (v := .int .i64 N) rfl
      have qw0_0 := Sw0.out.cell 0 (v := .slice aw0_0 L.length cw0_0) rfl
      have qw0_1 := Sw0.out.cell 1 (v := .int .i64 N) rfl
      go_wp2_with fail
      refine (laws_eqLedgerR ag0_0 aw0_0 cg0_0 cw0_0 L ( N) w10 (by omega) Hg0_0.out.at Hw0_0.out.at).mono ?_
      rintro e w11 ⟨rfl, hb11⟩
      have Hb11 := Lib.hid (below_step Hb10.out Hb10.out.size hb11)
      have Hw0_0 := Lib.hid (Hw0_0.out.below hb11)
      have Hxx := Lib.hid (Hxx.out.below hb11)
      have Hg0_0 := Lib.hid (Hg0_0.out.below hb11)
      have Sxb := Lib.hid (show Str w11 w.heap.size 30 #[.slice ax0 xx0.length capx0, .int .i64 x1] from ((hb11).block _ Sxb.out.lt).trans Sxb.out)
      have Stb := Lib.hid (show Str w11 (w.heap.size + 1) 23 #[.int .i64 t0, .int .i64 t1, .int .i64 t2, .int .i64 t3] from ((hb11).block _ Stb.out.lt).trans Stb.out)
      have Sw0 := Lib.hid (show Str w11 OBw 33 #[.slice aw0_0 L.length cw0_0, .int .i64 N] from ((hb11).block _ Sw0.out.lt).trans Sw0.out)
      have Sxxv := Lib.hid (show Str w11 w3.heap.size 33 #[.slice axx xx0.length cxx, .int .i64 x1] from ((hb11).block _ Sxxv.out.lt).trans Sxxv.out)
      have Sg0 := Lib.hid (show Str w11 OBg 33 #[.slice ag0_0 L.length cg0_0, .int .i64 N] from ((hb11).block _ Sg0.out.lt).trans Sg0.out)
      have hz11 := (hb11).size
      clear qg0_0 qg0_1 qw0_0 qw0_1
      have qg0_0 := Sg0.out.cell 0 (v := .slice ag0_0 L.length cg0_0) rfl
      have qg0_1 := Sg0.out.cell 1 (v := .int .i64 N) rfl
      go_wp2_with fail
      refine (laws_markLedgerR ( N) _ L (1) LOg w11 (by omega) (by omega) Hg0_0.out.own).mono ?_
      rintro e w12 ⟨rfl, ho, hg⟩
      have hbt := Hg0_0.out.marks (grownBy_trans (World.grownBy_alloc w11 (.cells #[.slice ag0_0 L.length cg0_0, .int .i64 N] 33) _) hg)
      clear qg0_0 qg0_1
      have Hb12 := Lib.hid ((hbt).below Hb11.out Hb11.out.size (by omega))
      have hz12 := (hbt).size
      have Hw0_0 := Lib.hid (Hw0_0.out.btw (hbt) (by first | exact .inl (by omega) | exact .inr (by omega) | omega))
      have Hxx := Lib.hid (Hxx.out.btw (hbt) (by first | exact .inl (by omega) | exact .inr (by omega) | omega))
      have Sxb := Lib.hid (Sxb.out.btw (hbt) (by first | exact .inl (by omega) | exact .inr (by omega) | omega))
      have Stb := Lib.hid (Stb.out.btw (hbt) (by first | exact .inl (by omega) | exact .inr (by omega) | omega))
      have Sw0 := Lib.hid (Sw0.out.btw (hbt) (by first | exact .inl (by omega) | exact .inr (by omega) | omega))
      have Sxxv := Lib.hid (Sxxv.out.btw (hbt) (by first | exact .inl (by omega) | exact .inr (by omega) | omega))
      have Sg0 := Lib.hid (Sg0.out.btw (hbt) (by first | exact .inl (by omega) | exact .inr (by omega) | omega))
      have Hg0_0 := Lib.hid (Hg0_0.out.mark ho)
      clear ho hg hbt
      have hmn : decide (((1 + L.length : Nat) : Int) < 0) = false := decide_eq_false (by omega)
      have hmn' : ¬ ((1 + L.length : Nat) : Int) < 0 := by omega
      have qg0_0 := Sg0.out.cell 0 (v := .slice ag0_0 L.length cg0_0) rfl
      have qg0_1 := Sg0.out.cell 1 (v := .int .i64 N) rfl
      go_wp2_with fail
      refine (laws_heldLedgerR ( N) ag0_0 cg0_0 (1) L.length w12 (by omega) (by omega) Hg0_0.out.at).mono ?_
      rintro e w13 ⟨rfl, hb13⟩
      have Hb13 := Lib.hid (below_step Hb12.out Hb12.out.size hb13)
      have Hw0_0 := Lib.hid (Hw0_0.out.below hb13)
      have Hxx := Lib.hid (Hxx.out.below hb13)
      have Hg0_0 := Lib.hid (Hg0_0.out.below hb13)
      have Sxb := Lib.hid (show Str w13 w.heap.size 30 #[.slice ax0 xx0.length capx0, .int .i64 x1] from ((hb13).block _ Sxb.out.lt).trans Sxb.out)
      have Stb := Lib.hid (show Str w13 (w.heap.size + 1) 23 #[.int .i64 t0, .int .i64 t1, .int .i64 t2, .int .i64 t3] from ((hb13).block _ Stb.out.lt).trans Stb.out)
      have Sw0 := Lib.hid (show Str w13 OBw 33 #[.slice aw0_0 L.length cw0_0, .int .i64 N] from ((hb13).block _ Sw0.out.lt).trans Sw0.out)
      have Sxxv := Lib.hid (show Str w13 w3.heap.size 33 #[.slice axx xx0.length cxx, .int .i64 x1] from ((hb13).block _ Sxxv.out.lt).trans Sxxv.out)
      have Sg0 := Lib.hid (show Str w13 OBg 33 #[.slice ag0_0 L.length cg0_0, .int .i64 N] from ((hb13).block _ Sg0.out.lt).trans Sg0.out)
      have hz13 := (hb13).size
      clear qg0_0 qg0_1
      clear Hxx
      have qxb_0 := Sxb.out.cell 0 (v := .slice ax0 xx0.length capx0) rfl
      have qxb_1 := Sxb.out.cell 1 (v := .int .i64 x1) rfl
      have qtb_0 := Stb.out.cell 0 (v := .int .i64 t0) rfl
      have qtb_1 := Stb.out.cell 1 (v := .int .i64 t1) rfl
      have qtb_2 := Stb.out.cell 2 (v := .int .i64 t2) rfl
      have qtb_3 := Stb.out.cell 3 (v := .int .i64 t3) rfl
      go_wp2_with fail
      clear qxb_0 qxb_1 qtb_0 qtb_1 qtb_2 qtb_3
      refine Code.wp_mono (Q := fun e a' w' => match e with | .normal => ∃ (OB LO HI : Nat) (axz ah0_0 : Option Addr) (cxz ch0_0 : Nat), a' = (?Fih : Nat → Option Addr → Option Addr → Nat → Nat → Act) OB axz ah0_0 cxz ch0_0 ∧ Below w13.heap.size w13 w' ∧ Str w' OB 33 #[.slice ah0_0 L.length ch0_0, .int .i64 N] ∧ OwnI 3 w' LO HI (.slice ah0_0 L.length ch0_0) L ∧ w13.heap.size ≤ OB ∧ w13.heap.size ≤ LO ∧ LO ≤ HI ∧ HI ≤ w'.heap.size ∧ (OB < LO ∨ HI ≤ OB) | _ => False) ?hqh ?hch
      case hch =>
        have hdr : Below w13.heap.size w13 w13.drew := (Below.refl _ _).drew
        have Hq := Lib.hid (Below.refl w13.heap.size w13)
        refine wp_region_L 10 (fun w' => w'.cell? ⟨w.heap.size, 0, none⟩ = some (.slice ax0 xx0.length capx0) ∧ w'.cell? ⟨w.heap.size, 1, none⟩ = some (.int .i64 x1) ∧ w'.cell? ⟨(w.heap.size + 1), 0, none⟩ = some (.int .i64 t0) ∧ w'.cell? ⟨(w.heap.size + 1), 1, none⟩ = some (.int .i64 t1) ∧ w'.cell? ⟨(w.heap.size + 1), 2, none⟩ = some (.int .i64 t2) ∧ w'.cell? ⟨(w.heap.size + 1), 3, none⟩ = some (.int .i64 t3)) (by kernel_rfl) ⟨Sxb.out.cell 0 (v := .slice ax0 xx0.length capx0) rfl, Sxb.out.cell 1 (v := .int .i64 x1) rfl, Stb.out.cell 0 (v := .int .i64 t0) rfl, Stb.out.cell 1 (v := .int .i64 t1) rfl, Stb.out.cell 2 (v := .int .i64 t2) rfl, Stb.out.cell 3 (v := .int .i64 t3) rfl⟩ (fun hH => ?_)
        generalize w13.drew = w14 at *
        have Hb14 := Lib.hid (below_step Hb13.out Hb13.out.size hdr)
        have Hq := Lib.hid (below_step Hq.out Hq.out.size hdr)
        have Hw0_0 := Lib.hid (Hw0_0.out.below hdr)
        have Hg0_0 := Lib.hid (Hg0_0.out.below hdr)
        have Sxb := Lib.hid (show Str w14 w.heap.size 30 #[.slice ax0 xx0.length capx0, .int .i64 x1] from ((hdr).block _ Sxb.out.lt).trans Sxb.out)
        have Stb := Lib.hid (show Str w14 (w.heap.size + 1) 23 #[.int .i64 t0, .int .i64 t1, .int .i64 t2, .int .i64 t3] from ((hdr).block _ Stb.out.lt).trans Stb.out)
        have Sw0 := Lib.hid (show Str w14 OBw 33 #[.slice aw0_0 L.length cw0_0, .int .i64 N] from ((hdr).block _ Sw0.out.lt).trans Sw0.out)
        have Sxxv := Lib.hid (show Str w14 w3.heap.size 33 #[.slice axx xx0.length cxx, .int .i64 x1] from ((hdr).block _ Sxxv.out.lt).trans Sxxv.out)
        have Sg0 := Lib.hid (show Str w14 OBg 33 #[.slice ag0_0 L.length cg0_0, .int .i64 N] from ((hdr).block _ Sg0.out.lt).trans Sg0.out)
        have hz14 := (hdr).size
        clear hdr
        refine takeL 0 (v := ?vih1) rfl (by kernel_rfl) (by kernel_rfl) (by kernel_rfl) (by kernel_rfl) (by kernel_rfl) (fun _ _ _ h => h) hH rfl ?yih1 ?rih1
        case yih1 => intro W hSw; go_simp; try with_reducible rfl
        try simp only [Act.put, List.setIfInBounds_toArray, List.set_cons_zero, List.set_cons_succ]
        refine takeL 2 (v := ?vih2) rfl (by kernel_rfl) (by kernel_rfl) (by kernel_rfl) (by kernel_rfl) (by kernel_rfl) (fun _ _ _ h => h) hH rfl ?yih2 ?rih2
        case yih2 => intro W hSw; go_simp; try with_reducible rfl
        try simp only [Act.put, List.setIfInBounds_toArray, List.set_cons_zero, List.set_cons_succ]
        refine twoL 1 8 rfl rfl (by kernel_rfl) rfl rfl (fun K hK => ?_) (fun K hK => ?_)
        rotate_left
        · skip
          go_simp
          have hal : Below w14.heap.size w14 (w14.alloc (.cells #[.slice none 0 0, .int .i64 0] 33)) := (Below.refl _ _).alloc (Nat.le_refl _) _
          have sN := Str.new w14 33 #[.slice none 0 0, .int .i64 0]
          have hzn : w14.heap.size < (w14.alloc (.cells #[.slice none 0 0, .int .i64 0] 33)).heap.size := by simp
          generalize hwn : (w14.alloc (.cells #[.slice none 0 0, .int .i64 0] 33)) = w15 at *
          have Hb15 := Lib.hid (below_step Hb14.out Hb14.out.size hal)
          have Hq := Lib.hid (below_step Hq.out Hq.out.size hal)
          have Hw0_0 := Lib.hid (Hw0_0.out.below hal)
          have Hg0_0 := Lib.hid (Hg0_0.out.below hal)
          have Sxb := Lib.hid (show Str w15 w.heap.size 30 #[.slice ax0 xx0.length capx0, .int .i64 x1] from ((hal).block _ Sxb.out.lt).trans Sxb.out)
          have Stb := Lib.hid (show Str w15 (w.heap.size + 1) 23 #[.int .i64 t0, .int .i64 t1, .int .i64 t2, .int .i64 t3] from ((hal).block _ Stb.out.lt).trans Stb.out)
          have Sw0 := Lib.hid (show Str w15 OBw 33 #[.slice aw0_0 L.length cw0_0, .int .i64 N] from ((hal).block _ Sw0.out.lt).trans Sw0.out)
          have Sxxv := Lib.hid (show Str w15 w3.heap.size 33 #[.slice axx xx0.length cxx, .int .i64 x1] from ((hal).block _ Sxxv.out.lt).trans Sxxv.out)
          have Sg0 := Lib.hid (show Str w15 OBg 33 #[.slice ag0_0 L.length cg0_0, .int .i64 N] from ((hal).block _ Sg0.out.lt).trans Sg0.out)
          have hz15 := (hal).size
          have Sh0 := Lib.hid sN; clear sN hal hwn
          refine hK.out _ _ ⟨Sxb.out.cell 0 (v := .slice ax0 xx0.length capx0) rfl, Sxb.out.cell 1 (v := .int .i64 x1) rfl, Stb.out.cell 0 (v := .int .i64 t0) rfl, Stb.out.cell 1 (v := .int .i64 t1) rfl, Stb.out.cell 2 (v := .int .i64 t2) rfl, Stb.out.cell 3 (v := .int .i64 t3) rfl⟩ (fun hH => ?_)
          clear hK K
          try simp only [Act.put, List.setIfInBounds_toArray, List.set_cons_zero, List.set_cons_succ]
          refine callL 1 rfl (by kernel_rfl) rfl (fun K hK => ?_)
          go_simp
          refine (laws_toLedgerR ax0 capx0 xx0 x1 _ (by omega) (Hixx0.out.below Hb15.out)).mono ?_
          rintro e w16 ⟨vxz, rfl, hoxz, hb16⟩
          have Hb16 := Lib.hid (below_step Hb15.out Hb15.out.size hb16)
          have Hq := Lib.hid (below_step Hq.out Hq.out.size hb16)
          have Hw0_0 := Lib.hid (Hw0_0.out.below hb16)
          have Hg0_0 := Lib.hid (Hg0_0.out.below hb16)
          have Sxb := Lib.hid (show Str w16 w.heap.size 30 #[.slice ax0 xx0.length capx0, .int .i64 x1] from ((hb16).block _ Sxb.out.lt).trans Sxb.out)
          have Stb := Lib.hid (show Str w16 (w.heap.size + 1) 23 #[.int .i64 t0, .int .i64 t1, .int .i64 t2, .int .i64 t3] from ((hb16).block _ Stb.out.lt).trans Stb.out)
          have Sw0 := Lib.hid (show Str w16 OBw 33 #[.slice aw0_0 L.length cw0_0, .int .i64 N] from ((hb16).block _ Sw0.out.lt).trans Sw0.out)
          have Sxxv := Lib.hid (show Str w16 w3.heap.size 33 #[.slice axx xx0.length cxx, .int .i64 x1] from ((hb16).block _ Sxxv.out.lt).trans Sxxv.out)
          have Sg0 := Lib.hid (show Str w16 OBg 33 #[.slice ag0_0 L.length cg0_0, .int .i64 N] from ((hb16).block _ Sg0.out.lt).trans Sg0.out)
          have Sh0 := Lib.hid (show Str w16 w14.heap.size 33 #[.slice none 0 0, .int .i64 0] from ((hb16).block _ Sh0.out.lt).trans Sh0.out)
          have hz16 := (hb16).size
          have Hxz := Lib.hid (OwnI.of hoxz); clear hoxz
          obtain ⟨axz, cxz, rfl, _, _⟩ := Hxz.out.ints
          have hcxz := Hxz.out.cap
          have hhxz : w15.heap.size ≤ w15.heap.size := Nat.le_refl _
          have hjxz : w16.heap.size ≤ w16.heap.size := Nat.le_refl _
          dsimp only
          refine hK.out _ _ ⟨Sxb.out.cell 0 (v := .slice ax0 xx0.length capx0) rfl, Sxb.out.cell 1 (v := .int .i64 x1) rfl, Stb.out.cell 0 (v := .int .i64 t0) rfl, Stb.out.cell 1 (v := .int .i64 t1) rfl, Stb.out.cell 2 (v := .int .i64 t2) rfl, Stb.out.cell 3 (v := .int .i64 t3) rfl⟩ (fun hH => ?_)
          clear hK K
          try simp only [Act.put, List.setIfInBounds_toArray, List.set_cons_zero, List.set_cons_succ]
          refine callL 3 rfl (by kernel_rfl) rfl (fun K hK => ?_)
          go_simp
          refine (laws_toTxnR t0 t1 t2 t3 _).mono ?_
          rintro e w17 ⟨rfl, hb17⟩
          have Hb17 := Lib.hid (below_step Hb16.out Hb16.out.size hb17)
          have Hq := Lib.hid (below_step Hq.out Hq.out.size hb17)
          have Hw0_0 := Lib.hid (Hw0_0.out.below hb17)
          have Hg0_0 := Lib.hid (Hg0_0.out.below hb17)
          have Hxz := Lib.hid (Hxz.out.below hb17)
          have Sxb := Lib.hid (show Str w17 w.heap.size 30 #[.slice ax0 xx0.length capx0, .int .i64 x1] from ((hb17).block _ Sxb.out.lt).trans Sxb.out)
          have Stb := Lib.hid (show Str w17 (w.heap.size + 1) 23 #[.int .i64 t0, .int .i64 t1, .int .i64 t2, .int .i64 t3] from ((hb17).block _ Stb.out.lt).trans Stb.out)
          have Sw0 := Lib.hid (show Str w17 OBw 33 #[.slice aw0_0 L.length cw0_0, .int .i64 N] from ((hb17).block _ Sw0.out.lt).trans Sw0.out)
          have Sxxv := Lib.hid (show Str w17 w3.heap.size 33 #[.slice axx xx0.length cxx, .int .i64 x1] from ((hb17).block _ Sxxv.out.lt).trans Sxxv.out)
          have Sg0 := Lib.hid (show Str w17 OBg 33 #[.slice ag0_0 L.length cg0_0, .int .i64 N] from ((hb17).block _ Sg0.out.lt).trans Sg0.out)
          have Sh0 := Lib.hid (show Str w17 w14.heap.size 33 #[.slice none 0 0, .int .i64 0] from ((hb17).block _ Sh0.out.lt).trans Sh0.out)
          have hz17 := (hb17).size
          dsimp only
          refine hK.out _ _ ⟨Sxb.out.cell 0 (v := .slice ax0 xx0.length capx0) rfl, Sxb.out.cell 1 (v := .int .i64 x1) rfl, Stb.out.cell 0 (v := .int .i64 t0) rfl, Stb.out.cell 1 (v := .int .i64 t1) rfl, Stb.out.cell 2 (v := .int .i64 t2) rfl, Stb.out.cell 3 (v := .int .i64 t3) rfl⟩ (fun hH => ?_)
          clear hK K
          try simp only [Act.put, List.setIfInBounds_toArray, List.set_cons_zero, List.set_cons_succ]
          refine callL 4 rfl (by kernel_rfl) rfl (fun K hK => ?_)
          go_simp
          refine (Himpl.out axz cxz _ hcxz Hxz.out.at (own_src Hxz.out.own)).mono ?_
          rintro e w18 ⟨vh0_0, rfl, hoh0_0, hb18⟩
          have Hb18 := Lib.hid (below_step Hb17.out Hb17.out.size hb18)
          have Hq := Lib.hid (below_step Hq.out Hq.out.size hb18)
          have Hw0_0 := Lib.hid (Hw0_0.out.below hb18)
          have Hg0_0 := Lib.hid (Hg0_0.out.below hb18)
          have Hxz := Lib.hid (Hxz.out.below hb18)
          have Sxb := Lib.hid (show Str w18 w.heap.size 30 #[.slice ax0 xx0.length capx0, .int .i64 x1] from ((hb18).block _ Sxb.out.lt).trans Sxb.out)
          have Stb := Lib.hid (show Str w18 (w.heap.size + 1) 23 #[.int .i64 t0, .int .i64 t1, .int .i64 t2, .int .i64 t3] from ((hb18).block _ Stb.out.lt).trans Stb.out)
          have Sw0 := Lib.hid (show Str w18 OBw 33 #[.slice aw0_0 L.length cw0_0, .int .i64 N] from ((hb18).block _ Sw0.out.lt).trans Sw0.out)
          have Sxxv := Lib.hid (show Str w18 w3.heap.size 33 #[.slice axx xx0.length cxx, .int .i64 x1] from ((hb18).block _ Sxxv.out.lt).trans Sxxv.out)
          have Sg0 := Lib.hid (show Str w18 OBg 33 #[.slice ag0_0 L.length cg0_0, .int .i64 N] from ((hb18).block _ Sg0.out.lt).trans Sg0.out)
          have Sh0 := Lib.hid (show Str w18 w14.heap.size 33 #[.slice none 0 0, .int .i64 0] from ((hb18).block _ Sh0.out.lt).trans Sh0.out)
          have hz18 := (hb18).size
          have Hh0_0 := Lib.hid (OwnI.of hoh0_0); clear hoh0_0
          obtain ⟨ah0_0, ch0_0, rfl, _, _⟩ := Hh0_0.out.ints
          have hch0_0 := Hh0_0.out.cap
          have hhh0_0 : w17.heap.size ≤ w17.heap.size := Nat.le_refl _
          have hjh0_0 : w18.heap.size ≤ w18.heap.size := Nat.le_refl _
          dsimp only
          refine hK.out _ _ ⟨Sxb.out.cell 0 (v := .slice ax0 xx0.length capx0) rfl, Sxb.out.cell 1 (v := .int .i64 x1) rfl, Stb.out.cell 0 (v := .int .i64 t0) rfl, Stb.out.cell 1 (v := .int .i64 t1) rfl, Stb.out.cell 2 (v := .int .i64 t2) rfl, Stb.out.cell 3 (v := .int .i64 t3) rfl⟩ (fun hH => ?_)
          clear hK K
          try simp only [Act.put, List.setIfInBounds_toArray, List.set_cons_zero, List.set_cons_succ]
          refine takeL 5 (v := ?vih3) rfl (by kernel_rfl) (by kernel_rfl) (by kernel_rfl) (by kernel_rfl) (by kernel_rfl) (fun _ _ _ h => h) hH rfl ?yih3 ?rih3
          case yih3 => intro W hSw; go_simp; try with_reducible rfl
          try simp only [Act.put, List.setIfInBounds_toArray, List.set_cons_zero, List.set_cons_succ]
          refine takeL 6 (v := ?vih4) rfl (by kernel_rfl) (by kernel_rfl) (by kernel_rfl) (by kernel_rfl) (by kernel_rfl) (fun _ _ _ h => h) hH rfl ?yih4 ?rih4
          case yih4 => intro W hSw; go_simp; try with_reducible rfl
          try simp only [Act.put, List.setIfInBounds_toArray, List.set_cons_zero, List.set_cons_succ]
          refine takeL 7 (v := ?vih5) rfl (by kernel_rfl) (by kernel_rfl) (by kernel_rfl) (by kernel_rfl) (by kernel_rfl) (fun _ _ _ h => h) hH rfl ?yih5 ?rih5
          case yih5 => intro W hSw; go_simp; try with_reducible rfl
          try simp only [Act.put, List.setIfInBounds_toArray, List.set_cons_zero, List.set_cons_succ]
          refine callL 9 rfl (by kernel_rfl) rfl (fun K hK => ?_)
          have y0 := Sh0.out.frozen 0
          have y1 := Sh0.out.frozen 1
          have g0 := Sh0.out.cell 0 (v := .slice none 0 0) rfl
          have g1 := Sh0.out.cell 1 (v := .int .i64 0) rfl
          go_simp
          clear y0 g0 y1 g1
          have hbt : Btw (w14.heap.size) (w14.heap.size + 1) w18 ((w18.setCell ⟨w14.heap.size, 0, none⟩ (.slice ah0_0 L.length ch0_0)).setCell ⟨w14.heap.size, 1, none⟩ (.int .i64 N)) := ((Btw.set w18 (Nat.le_refl (w14.heap.size)) (Nat.lt_succ_self _) 0 (.slice ah0_0 L.length ch0_0)).trans (Btw.set (w18.setCell ⟨w14.heap.size, 0, none⟩ (.slice ah0_0 L.length ch0_0)) (Nat.le_refl (w14.heap.size)) (Nat.lt_succ_self _) 1 (.int .i64 N)))
          have sO : Str ((w18.setCell ⟨w14.heap.size, 0, none⟩ (.slice ah0_0 L.length ch0_0)).setCell ⟨w14.heap.size, 1, none⟩ (.int .i64 N)) (w14.heap.size) 33 #[.slice ah0_0 L.length ch0_0, .int .i64 N] := ((Sh0.out.set 0 (.slice ah0_0 L.length ch0_0)).set 1 (.int .i64 N))
          generalize ((w18.setCell ⟨w14.heap.size, 0, none⟩ (.slice ah0_0 L.length ch0_0)).setCell ⟨w14.heap.size, 1, none⟩ (.int .i64 N)) = w19 at *
          have hz19 := hbt.size
          have Hq := Lib.hid (hbt.below Hq.out Hq.out.size (by omega))
          have Sxb := Lib.hid (Sxb.out.btw hbt (by first | exact .inl (by omega) | exact .inr (by omega) | omega))
          have Stb := Lib.hid (Stb.out.btw hbt (by first | exact .inl (by omega) | exact .inr (by omega) | omega))
          have Hh0_0 := Lib.hid (Hh0_0.out.btw hbt (by first | exact .inl (by omega) | exact .inr (by omega) | omega))
          clear hbt
          refine hK.out _ _ ⟨Sxb.out.cell 0 (v := .slice ax0 xx0.length capx0) rfl, Sxb.out.cell 1 (v := .int .i64 x1) rfl, Stb.out.cell 0 (v := .int .i64 t0) rfl, Stb.out.cell 1 (v := .int .i64 t1) rfl, Stb.out.cell 2 (v := .int .i64 t2) rfl, Stb.out.cell 3 (v := .int .i64 t3) rfl⟩ (fun hH => ?_)
          clear hK K
          try simp only [Act.put, List.setIfInBounds_toArray, List.set_cons_zero, List.set_cons_succ]
          refine lastL rfl (by kernel_rfl) (by kernel_rfl) (by kernel_rfl) rfl (fun K hK => ?_)
          go_simp
          have z2 : w13.heap.size ≤ w17.heap.size := by omega
          have z3 : w17.heap.size ≤ w18.heap.size := by omega
          have z4 : w18.heap.size ≤ w19.heap.size := by omega
          have Ho9 := Hh0_0.out
          clear hH
          obtain ⟨OB, hOB⟩ : ∃ OB, OB = w14.heap.size := ⟨_, rfl⟩
          have z1 : w13.heap.size ≤ OB := by omega
          have z5 : OB < w17.heap.size ∨ w18.heap.size ≤ OB := (by first | exact .inl (by omega) | exact .inr (by omega) | omega)
          rw [← hOB] at sO ⊢
          refine hK.out _ _ ⟨OB, w17.heap.size, w18.heap.size, axz, ah0_0, cxz, ch0_0, ?_, Hq.out, sO, Ho9, z1, z2, z3, z4, z5⟩
          rfl
        go_simp
        refine (laws_toLedgerR ax0 capx0 xx0 x1 _ (by omega) (Hixx0.out.below Hb14.out)).mono ?_
        rintro e w15 ⟨vxz, rfl, hoxz, hb15⟩
        have Hb15 := Lib.hid (below_step Hb14.out Hb14.out.size hb15)
        have Hq := Lib.hid (below_step Hq.out Hq.out.size hb15)
        have Hw0_0 := Lib.hid (Hw0_0.out.below hb15)
        have Hg0_0 := Lib.hid (Hg0_0.out.below hb15)
        have Sxb := Lib.hid (show Str w15 w.heap.size 30 #[.slice ax0 xx0.length capx0, .int .i64 x1] from ((hb15).block _ Sxb.out.lt).trans Sxb.out)
        have Stb := Lib.hid (show Str w15 (w.heap.size + 1) 23 #[.int .i64 t0, .int .i64 t1, .int .i64 t2, .int .i64 t3] from ((hb15).block _ Stb.out.lt).trans Stb.out)
        have Sw0 := Lib.hid (show Str w15 OBw 33 #[.slice aw0_0 L.length cw0_0, .int .i64 N] from ((hb15).block _ Sw0.out.lt).trans Sw0.out)
        have Sxxv := Lib.hid (show Str w15 w3.heap.size 33 #[.slice axx xx0.length cxx, .int .i64 x1] from ((hb15).block _ Sxxv.out.lt).trans Sxxv.out)
        have Sg0 := Lib.hid (show Str w15 OBg 33 #[.slice ag0_0 L.length cg0_0, .int .i64 N] from ((hb15).block _ Sg0.out.lt).trans Sg0.out)
        have hz15 := (hb15).size
        have Hxz := Lib.hid (OwnI.of hoxz); clear hoxz
        obtain ⟨axz, cxz, rfl, _, _⟩ := Hxz.out.ints
        have hcxz := Hxz.out.cap
        have hhxz : w14.heap.size ≤ w14.heap.size := Nat.le_refl _
        have hjxz : w15.heap.size ≤ w15.heap.size := Nat.le_refl _
        dsimp only
        refine hK.out _ _ ⟨Sxb.out.cell 0 (v := .slice ax0 xx0.length capx0) rfl, Sxb.out.cell 1 (v := .int .i64 x1) rfl, Stb.out.cell 0 (v := .int .i64 t0) rfl, Stb.out.cell 1 (v := .int .i64 t1) rfl, Stb.out.cell 2 (v := .int .i64 t2) rfl, Stb.out.cell 3 (v := .int .i64 t3) rfl⟩ (fun hH => ?_)
        clear hK K
        try simp only [Act.put, List.setIfInBounds_toArray, List.set_cons_zero, List.set_cons_succ]
        refine twoL 3 8 rfl rfl (by kernel_rfl) rfl rfl (fun K hK => ?_) (fun K hK => ?_)
        rotate_left
        · skip
          go_simp
          have hal : Below w15.heap.size w15 (w15.alloc (.cells #[.slice none 0 0, .int .i64 0] 33)) := (Below.refl _ _).alloc (Nat.le_refl _) _
          have sN := Str.new w15 33 #[.slice none 0 0, .int .i64 0]
          have hzn : w15.heap.size < (w15.alloc (.cells #[.slice none 0 0, .int .i64 0] 33)).heap.size := by simp
          generalize hwn : (w15.alloc (.cells #[.slice none 0 0, .int .i64 0] 33)) = w16 at *
          have Hb16 := Lib.hid (below_step Hb15.out Hb15.out.size hal)
          have Hq := Lib.hid (below_step Hq.out Hq.out.size hal)
          have Hw0_0 := Lib.hid (Hw0_0.out.below hal)
          have Hg0_0 := Lib.hid (Hg0_0.out.below hal)
          have Hxz := Lib.hid (Hxz.out.below hal)
          have Sxb := Lib.hid (show Str w16 w.heap.size 30 #[.slice ax0 xx0.length capx0, .int .i64 x1] from ((hal).block _ Sxb.out.lt).trans Sxb.out)
          have Stb := Lib.hid (show Str w16 (w.heap.size + 1) 23 #[.int .i64 t0, .int .i64 t1, .int .i64 t2, .int .i64 t3] from ((hal).block _ Stb.out.lt).trans Stb.out)
          have Sw0 := Lib.hid (show Str w16 OBw 33 #[.slice aw0_0 L.length cw0_0, .int .i64 N] from ((hal).block _ Sw0.out.lt).trans Sw0.out)
          have Sxxv := Lib.hid (show Str w16 w3.heap.size 33 #[.slice axx xx0.length cxx, .int .i64 x1] from ((hal).block _ Sxxv.out.lt).trans Sxxv.out)
          have Sg0 := Lib.hid (show Str w16 OBg 33 #[.slice ag0_0 L.length cg0_0, .int .i64 N] from ((hal).block _ Sg0.out.lt).trans Sg0.out)
          have hz16 := (hal).size
          have Sh0 := Lib.hid sN; clear sN hal hwn
          refine hK.out _ _ ⟨Sxb.out.cell 0 (v := .slice ax0 xx0.length capx0) rfl, Sxb.out.cell 1 (v := .int .i64 x1) rfl, Stb.out.cell 0 (v := .int .i64 t0) rfl, Stb.out.cell 1 (v := .int .i64 t1) rfl, Stb.out.cell 2 (v := .int .i64 t2) rfl, Stb.out.cell 3 (v := .int .i64 t3) rfl⟩ (fun hH => ?_)
          clear hK K
          try simp only [Act.put, List.setIfInBounds_toArray, List.set_cons_zero, List.set_cons_succ]
          refine callL 3 rfl (by kernel_rfl) rfl (fun K hK => ?_)
          go_simp
          refine (laws_toTxnR t0 t1 t2 t3 _).mono ?_
          rintro e w17 ⟨rfl, hb17⟩
          have Hb17 := Lib.hid (below_step Hb16.out Hb16.out.size hb17)
          have Hq := Lib.hid (below_step Hq.out Hq.out.size hb17)
          have Hw0_0 := Lib.hid (Hw0_0.out.below hb17)
          have Hg0_0 := Lib.hid (Hg0_0.out.below hb17)
          have Hxz := Lib.hid (Hxz.out.below hb17)
          have Sxb := Lib.hid (show Str w17 w.heap.size 30 #[.slice ax0 xx0.length capx0, .int .i64 x1] from ((hb17).block _ Sxb.out.lt).trans Sxb.out)
          have Stb := Lib.hid (show Str w17 (w.heap.size + 1) 23 #[.int .i64 t0, .int .i64 t1, .int .i64 t2, .int .i64 t3] from ((hb17).block _ Stb.out.lt).trans Stb.out)
          have Sw0 := Lib.hid (show Str w17 OBw 33 #[.slice aw0_0 L.length cw0_0, .int .i64 N] from ((hb17).block _ Sw0.out.lt).trans Sw0.out)
          have Sxxv := Lib.hid (show Str w17 w3.heap.size 33 #[.slice axx xx0.length cxx, .int .i64 x1] from ((hb17).block _ Sxxv.out.lt).trans Sxxv.out)
          have Sg0 := Lib.hid (show Str w17 OBg 33 #[.slice ag0_0 L.length cg0_0, .int .i64 N] from ((hb17).block _ Sg0.out.lt).trans Sg0.out)
          have Sh0 := Lib.hid (show Str w17 w15.heap.size 33 #[.slice none 0 0, .int .i64 0] from ((hb17).block _ Sh0.out.lt).trans Sh0.out)
          have hz17 := (hb17).size
          dsimp only
          refine hK.out _ _ ⟨Sxb.out.cell 0 (v := .slice ax0 xx0.length capx0) rfl, Sxb.out.cell 1 (v := .int .i64 x1) rfl, Stb.out.cell 0 (v := .int .i64 t0) rfl, Stb.out.cell 1 (v := .int .i64 t1) rfl, Stb.out.cell 2 (v := .int .i64 t2) rfl, Stb.out.cell 3 (v := .int .i64 t3) rfl⟩ (fun hH => ?_)
          clear hK K
          try simp only [Act.put, List.setIfInBounds_toArray, List.set_cons_zero, List.set_cons_succ]
          refine callL 4 rfl (by kernel_rfl) rfl (fun K hK => ?_)
          go_simp
          refine (Himpl.out axz cxz _ hcxz Hxz.out.at (own_src Hxz.out.own)).mono ?_
          rintro e w18 ⟨vh0_0, rfl, hoh0_0, hb18⟩
          have Hb18 := Lib.hid (below_step Hb17.out Hb17.out.size hb18)
          have Hq := Lib.hid (below_step Hq.out Hq.out.size hb18)
          have Hw0_0 := Lib.hid (Hw0_0.out.below hb18)
          have Hg0_0 := Lib.hid (Hg0_0.out.below hb18)
          have Hxz := Lib.hid (Hxz.out.below hb18)
          have Sxb := Lib.hid (show Str w18 w.heap.size 30 #[.slice ax0 xx0.length capx0, .int .i64 x1] from ((hb18).block _ Sxb.out.lt).trans Sxb.out)
          have Stb := Lib.hid (show Str w18 (w.heap.size + 1) 23 #[.int .i64 t0, .int .i64 t1, .int .i64 t2, .int .i64 t3] from ((hb18).block _ Stb.out.lt).trans Stb.out)
          have Sw0 := Lib.hid (show Str w18 OBw 33 #[.slice aw0_0 L.length cw0_0, .int .i64 N] from ((hb18).block _ Sw0.out.lt).trans Sw0.out)
          have Sxxv := Lib.hid (show Str w18 w3.heap.size 33 #[.slice axx xx0.length cxx, .int .i64 x1] from ((hb18).block _ Sxxv.out.lt).trans Sxxv.out)
          have Sg0 := Lib.hid (show Str w18 OBg 33 #[.slice ag0_0 L.length cg0_0, .int .i64 N] from ((hb18).block _ Sg0.out.lt).trans Sg0.out)
          have Sh0 := Lib.hid (show Str w18 w15.heap.size 33 #[.slice none 0 0, .int .i64 0] from ((hb18).block _ Sh0.out.lt).trans Sh0.out)
          have hz18 := (hb18).size
          have Hh0_0 := Lib.hid (OwnI.of hoh0_0); clear hoh0_0
          obtain ⟨ah0_0, ch0_0, rfl, _, _⟩ := Hh0_0.out.ints
          have hch0_0 := Hh0_0.out.cap
          have hhh0_0 : w17.heap.size ≤ w17.heap.size := Nat.le_refl _
          have hjh0_0 : w18.heap.size ≤ w18.heap.size := Nat.le_refl _
          dsimp only
          refine hK.out _ _ ⟨Sxb.out.cell 0 (v := .slice ax0 xx0.length capx0) rfl, Sxb.out.cell 1 (v := .int .i64 x1) rfl, Stb.out.cell 0 (v := .int .i64 t0) rfl, Stb.out.cell 1 (v := .int .i64 t1) rfl, Stb.out.cell 2 (v := .int .i64 t2) rfl, Stb.out.cell 3 (v := .int .i64 t3) rfl⟩ (fun hH => ?_)
          clear hK K
          try simp only [Act.put, List.setIfInBounds_toArray, List.set_cons_zero, List.set_cons_succ]
          refine takeL 5 (v := ?vih6) rfl (by kernel_rfl) (by kernel_rfl) (by kernel_rfl) (by kernel_rfl) (by kernel_rfl) (fun _ _ _ h => h) hH rfl ?yih6 ?rih6
          case yih6 => intro W hSw; go_simp; try with_reducible rfl
          try simp only [Act.put, List.setIfInBounds_toArray, List.set_cons_zero, List.set_cons_succ]
          refine takeL 6 (v := ?vih7) rfl (by kernel_rfl) (by kernel_rfl) (by kernel_rfl) (by kernel_rfl) (by kernel_rfl) (fun _ _ _ h => h) hH rfl ?yih7 ?rih7
          case yih7 => intro W hSw; go_simp; try with_reducible rfl
          try simp only [Act.put, List.setIfInBounds_toArray, List.set_cons_zero, List.set_cons_succ]
          refine takeL 7 (v := ?vih8) rfl (by kernel_rfl) (by kernel_rfl) (by kernel_rfl) (by kernel_rfl) (by kernel_rfl) (fun _ _ _ h => h) hH rfl ?yih8 ?rih8
          case yih8 => intro W hSw; go_simp; try with_reducible rfl
          try simp only [Act.put, List.setIfInBounds_toArray, List.set_cons_zero, List.set_cons_succ]
          refine callL 9 rfl (by kernel_rfl) rfl (fun K hK => ?_)
          have y0 := Sh0.out.frozen 0
          have y1 := Sh0.out.frozen 1
          have g0 := Sh0.out.cell 0 (v := .slice none 0 0) rfl
          have g1 := Sh0.out.cell 1 (v := .int .i64 0) rfl
          go_simp
          clear y0 g0 y1 g1
          have hbt : Btw (w15.heap.size) (w15.heap.size + 1) w18 ((w18.setCell ⟨w15.heap.size, 0, none⟩ (.slice ah0_0 L.length ch0_0)).setCell ⟨w15.heap.size, 1, none⟩ (.int .i64 N)) := ((Btw.set w18 (Nat.le_refl (w15.heap.size)) (Nat.lt_succ_self _) 0 (.slice ah0_0 L.length ch0_0)).trans (Btw.set (w18.setCell ⟨w15.heap.size, 0, none⟩ (.slice ah0_0 L.length ch0_0)) (Nat.le_refl (w15.heap.size)) (Nat.lt_succ_self _) 1 (.int .i64 N)))
          have sO : Str ((w18.setCell ⟨w15.heap.size, 0, none⟩ (.slice ah0_0 L.length ch0_0)).setCell ⟨w15.heap.size, 1, none⟩ (.int .i64 N)) (w15.heap.size) 33 #[.slice ah0_0 L.length ch0_0, .int .i64 N] := ((Sh0.out.set 0 (.slice ah0_0 L.length ch0_0)).set 1 (.int .i64 N))
          generalize ((w18.setCell ⟨w15.heap.size, 0, none⟩ (.slice ah0_0 L.length ch0_0)).setCell ⟨w15.heap.size, 1, none⟩ (.int .i64 N)) = w19 at *
          have hz19 := hbt.size
          have Hq := Lib.hid (hbt.below Hq.out Hq.out.size (by omega))
          have Sxb := Lib.hid (Sxb.out.btw hbt (by first | exact .inl (by omega) | exact .inr (by omega) | omega))
          have Stb := Lib.hid (Stb.out.btw hbt (by first | exact .inl (by omega) | exact .inr (by omega) | omega))
          have Hh0_0 := Lib.hid (Hh0_0.out.btw hbt (by first | exact .inl (by omega) | exact .inr (by omega) | omega))
          clear hbt
          refine hK.out _ _ ⟨Sxb.out.cell 0 (v := .slice ax0 xx0.length capx0) rfl, Sxb.out.cell 1 (v := .int .i64 x1) rfl, Stb.out.cell 0 (v := .int .i64 t0) rfl, Stb.out.cell 1 (v := .int .i64 t1) rfl, Stb.out.cell 2 (v := .int .i64 t2) rfl, Stb.out.cell 3 (v := .int .i64 t3) rfl⟩ (fun hH => ?_)
          clear hK K
          try simp only [Act.put, List.setIfInBounds_toArray, List.set_cons_zero, List.set_cons_succ]
          refine lastL rfl (by kernel_rfl) (by kernel_rfl) (by kernel_rfl) rfl (fun K hK => ?_)
          go_simp
          have z2 : w13.heap.size ≤ w17.heap.size := by omega
          have z3 : w17.heap.size ≤ w18.heap.size := by omega
          have z4 : w18.heap.size ≤ w19.heap.size := by omega
          have Ho9 := Hh0_0.out
          clear hH
          obtain ⟨OB, hOB⟩ : ∃ OB, OB = w15.heap.size := ⟨_, rfl⟩
          have z1 : w13.heap.size ≤ OB := by omega
          have z5 : OB < w17.heap.size ∨ w18.heap.size ≤ OB := (by first | exact .inl (by omega) | exact .inr (by omega) | omega)
          rw [← hOB] at sO ⊢
          refine hK.out _ _ ⟨OB, w17.heap.size, w18.heap.size, axz, ah0_0, cxz, ch0_0, ?_, Hq.out, sO, Ho9, z1, z2, z3, z4, z5⟩
          rfl
        go_simp
        refine (laws_toTxnR t0 t1 t2 t3 _).mono ?_
        rintro e w16 ⟨rfl, hb16⟩
        have Hb16 := Lib.hid (below_step Hb15.out Hb15.out.size hb16)
        have Hq := Lib.hid (below_step Hq.out Hq.out.size hb16)
        have Hw0_0 := Lib.hid (Hw0_0.out.below hb16)
        have Hg0_0 := Lib.hid (Hg0_0.out.below hb16)
        have Hxz := Lib.hid (Hxz.out.below hb16)
        have Sxb := Lib.hid (show Str w16 w.heap.size 30 #[.slice ax0 xx0.length capx0, .int .i64 x1] from ((hb16).block _ Sxb.out.lt).trans Sxb.out)
        have Stb := Lib.hid (show Str w16 (w.heap.size + 1) 23 #[.int .i64 t0, .int .i64 t1, .int .i64 t2, .int .i64 t3] from ((hb16).block _ Stb.out.lt).trans Stb.out)
        have Sw0 := Lib.hid (show Str w16 OBw 33 #[.slice aw0_0 L.length cw0_0, .int .i64 N] from ((hb16).block _ Sw0.out.lt).trans Sw0.out)
        have Sxxv := Lib.hid (show Str w16 w3.heap.size 33 #[.slice axx xx0.length cxx, .int .i64 x1] from ((hb16).block _ Sxxv.out.lt).trans Sxxv.out)
        have Sg0 := Lib.hid (show Str w16 OBg 33 #[.slice ag0_0 L.length cg0_0, .int .i64 N] from ((hb16).block _ Sg0.out.lt).trans Sg0.out)
        have hz16 := (hb16).size
        dsimp only
        refine hK.out _ _ ⟨Sxb.out.cell 0 (v := .slice ax0 xx0.length capx0) rfl, Sxb.out.cell 1 (v := .int .i64 x1) rfl, Stb.out.cell 0 (v := .int .i64 t0) rfl, Stb.out.cell 1 (v := .int .i64 t1) rfl, Stb.out.cell 2 (v := .int .i64 t2) rfl, Stb.out.cell 3 (v := .int .i64 t3) rfl⟩ (fun hH => ?_)
        clear hK K
        try simp only [Act.put, List.setIfInBounds_toArray, List.set_cons_zero, List.set_cons_succ]
        refine twoL 4 8 rfl rfl (by kernel_rfl) rfl rfl (fun K hK => ?_) (fun K hK => ?_)
        rotate_left
        · skip
          go_simp
          have hal : Below w16.heap.size w16 (w16.alloc (.cells #[.slice none 0 0, .int .i64 0] 33)) := (Below.refl _ _).alloc (Nat.le_refl _) _
          have sN := Str.new w16 33 #[.slice none 0 0, .int .i64 0]
          have hzn : w16.heap.size < (w16.alloc (.cells #[.slice none 0 0, .int .i64 0] 33)).heap.size := by simp
          generalize hwn : (w16.alloc (.cells #[.slice none 0 0, .int .i64 0] 33)) = w17 at *
          have Hb17 := Lib.hid (below_step Hb16.out Hb16.out.size hal)
          have Hq := Lib.hid (below_step Hq.out Hq.out.size hal)
          have Hw0_0 := Lib.hid (Hw0_0.out.below hal)
          have Hg0_0 := Lib.hid (Hg0_0.out.below hal)
          have Hxz := Lib.hid (Hxz.out.below hal)
          have Sxb := Lib.hid (show Str w17 w.heap.size 30 #[.slice ax0 xx0.length capx0, .int .i64 x1] from ((hal).block _ Sxb.out.lt).trans Sxb.out)
          have Stb := Lib.hid (show Str w17 (w.heap.size + 1) 23 #[.int .i64 t0, .int .i64 t1, .int .i64 t2, .int .i64 t3] from ((hal).block _ Stb.out.lt).trans Stb.out)
          have Sw0 := Lib.hid (show Str w17 OBw 33 #[.slice aw0_0 L.length cw0_0, .int .i64 N] from ((hal).block _ Sw0.out.lt).trans Sw0.out)
          have Sxxv := Lib.hid (show Str w17 w3.heap.size 33 #[.slice axx xx0.length cxx, .int .i64 x1] from ((hal).block _ Sxxv.out.lt).trans Sxxv.out)
          have Sg0 := Lib.hid (show Str w17 OBg 33 #[.slice ag0_0 L.length cg0_0, .int .i64 N] from ((hal).block _ Sg0.out.lt).trans Sg0.out)
          have hz17 := (hal).size
          have Sh0 := Lib.hid sN; clear sN hal hwn
          refine hK.out _ _ ⟨Sxb.out.cell 0 (v := .slice ax0 xx0.length capx0) rfl, Sxb.out.cell 1 (v := .int .i64 x1) rfl, Stb.out.cell 0 (v := .int .i64 t0) rfl, Stb.out.cell 1 (v := .int .i64 t1) rfl, Stb.out.cell 2 (v := .int .i64 t2) rfl, Stb.out.cell 3 (v := .int .i64 t3) rfl⟩ (fun hH => ?_)
          clear hK K
          try simp only [Act.put, List.setIfInBounds_toArray, List.set_cons_zero, List.set_cons_succ]
          refine callL 4 rfl (by kernel_rfl) rfl (fun K hK => ?_)
          go_simp
          refine (Himpl.out axz cxz _ hcxz Hxz.out.at (own_src Hxz.out.own)).mono ?_
          rintro e w18 ⟨vh0_0, rfl, hoh0_0, hb18⟩
          have Hb18 := Lib.hid (below_step Hb17.out Hb17.out.size hb18)
          have Hq := Lib.hid (below_step Hq.out Hq.out.size hb18)
          have Hw0_0 := Lib.hid (Hw0_0.out.below hb18)
          have Hg0_0 := Lib.hid (Hg0_0.out.below hb18)
          have Hxz := Lib.hid (Hxz.out.below hb18)
          have Sxb := Lib.hid (show Str w18 w.heap.size 30 #[.slice ax0 xx0.length capx0, .int .i64 x1] from ((hb18).block _ Sxb.out.lt).trans Sxb.out)
          have Stb := Lib.hid (show Str w18 (w.heap.size + 1) 23 #[.int .i64 t0, .int .i64 t1, .int .i64 t2, .int .i64 t3] from ((hb18).block _ Stb.out.lt).trans Stb.out)
          have Sw0 := Lib.hid (show Str w18 OBw 33 #[.slice aw0_0 L.length cw0_0, .int .i64 N] from ((hb18).block _ Sw0.out.lt).trans Sw0.out)
          have Sxxv := Lib.hid (show Str w18 w3.heap.size 33 #[.slice axx xx0.length cxx, .int .i64 x1] from ((hb18).block _ Sxxv.out.lt).trans Sxxv.out)
          have Sg0 := Lib.hid (show Str w18 OBg 33 #[.slice ag0_0 L.length cg0_0, .int .i64 N] from ((hb18).block _ Sg0.out.lt).trans Sg0.out)
          have Sh0 := Lib.hid (show Str w18 w16.heap.size 33 #[.slice none 0 0, .int .i64 0] from ((hb18).block _ Sh0.out.lt).trans Sh0.out)
          have hz18 := (hb18).size
          have Hh0_0 := Lib.hid (OwnI.of hoh0_0); clear hoh0_0
          obtain ⟨ah0_0, ch0_0, rfl, _, _⟩ := Hh0_0.out.ints
          have hch0_0 := Hh0_0.out.cap
          have hhh0_0 : w17.heap.size ≤ w17.heap.size := Nat.le_refl _
          have hjh0_0 : w18.heap.size ≤ w18.heap.size := Nat.le_refl _
          dsimp only
          refine hK.out _ _ ⟨Sxb.out.cell 0 (v := .slice ax0 xx0.length capx0) rfl, Sxb.out.cell 1 (v := .int .i64 x1) rfl, Stb.out.cell 0 (v := .int .i64 t0) rfl, Stb.out.cell 1 (v := .int .i64 t1) rfl, Stb.out.cell 2 (v := .int .i64 t2) rfl, Stb.out.cell 3 (v := .int .i64 t3) rfl⟩ (fun hH => ?_)
          clear hK K
          try simp only [Act.put, List.setIfInBounds_toArray, List.set_cons_zero, List.set_cons_succ]
          refine takeL 5 (v := ?vih9) rfl (by kernel_rfl) (by kernel_rfl) (by kernel_rfl) (by kernel_rfl) (by kernel_rfl) (fun _ _ _ h => h) hH rfl ?yih9 ?rih9
          case yih9 => intro W hSw; go_simp; try with_reducible rfl
          try simp only [Act.put, List.setIfInBounds_toArray, List.set_cons_zero, List.set_cons_succ]
          refine takeL 6 (v := ?vih10) rfl (by kernel_rfl) (by kernel_rfl) (by kernel_rfl) (by kernel_rfl) (by kernel_rfl) (fun _ _ _ h => h) hH rfl ?yih10 ?rih10
          case yih10 => intro W hSw; go_simp; try with_reducible rfl
          try simp only [Act.put, List.setIfInBounds_toArray, List.set_cons_zero, List.set_cons_succ]
          refine takeL 7 (v := ?vih11) rfl (by kernel_rfl) (by kernel_rfl) (by kernel_rfl) (by kernel_rfl) (by kernel_rfl) (fun _ _ _ h => h) hH rfl ?yih11 ?rih11
          case yih11 => intro W hSw; go_simp; try with_reducible rfl
          try simp only [Act.put, List.setIfInBounds_toArray, List.set_cons_zero, List.set_cons_succ]
          refine callL 9 rfl (by kernel_rfl) rfl (fun K hK => ?_)
          have y0 := Sh0.out.frozen 0
          have y1 := Sh0.out.frozen 1
          have g0 := Sh0.out.cell 0 (v := .slice none 0 0) rfl
          have g1 := Sh0.out.cell 1 (v := .int .i64 0) rfl
          go_simp
          clear y0 g0 y1 g1
          have hbt : Btw (w16.heap.size) (w16.heap.size + 1) w18 ((w18.setCell ⟨w16.heap.size, 0, none⟩ (.slice ah0_0 L.length ch0_0)).setCell ⟨w16.heap.size, 1, none⟩ (.int .i64 N)) := ((Btw.set w18 (Nat.le_refl (w16.heap.size)) (Nat.lt_succ_self _) 0 (.slice ah0_0 L.length ch0_0)).trans (Btw.set (w18.setCell ⟨w16.heap.size, 0, none⟩ (.slice ah0_0 L.length ch0_0)) (Nat.le_refl (w16.heap.size)) (Nat.lt_succ_self _) 1 (.int .i64 N)))
          have sO : Str ((w18.setCell ⟨w16.heap.size, 0, none⟩ (.slice ah0_0 L.length ch0_0)).setCell ⟨w16.heap.size, 1, none⟩ (.int .i64 N)) (w16.heap.size) 33 #[.slice ah0_0 L.length ch0_0, .int .i64 N] := ((Sh0.out.set 0 (.slice ah0_0 L.length ch0_0)).set 1 (.int .i64 N))
          generalize ((w18.setCell ⟨w16.heap.size, 0, none⟩ (.slice ah0_0 L.length ch0_0)).setCell ⟨w16.heap.size, 1, none⟩ (.int .i64 N)) = w19 at *
          have hz19 := hbt.size
          have Hq := Lib.hid (hbt.below Hq.out Hq.out.size (by omega))
          have Sxb := Lib.hid (Sxb.out.btw hbt (by first | exact .inl (by omega) | exact .inr (by omega) | omega))
          have Stb := Lib.hid (Stb.out.btw hbt (by first | exact .inl (by omega) | exact .inr (by omega) | omega))
          have Hh0_0 := Lib.hid (Hh0_0.out.btw hbt (by first | exact .inl (by omega) | exact .inr (by omega) | omega))
          clear hbt
          refine hK.out _ _ ⟨Sxb.out.cell 0 (v := .slice ax0 xx0.length capx0) rfl, Sxb.out.cell 1 (v := .int .i64 x1) rfl, Stb.out.cell 0 (v := .int .i64 t0) rfl, Stb.out.cell 1 (v := .int .i64 t1) rfl, Stb.out.cell 2 (v := .int .i64 t2) rfl, Stb.out.cell 3 (v := .int .i64 t3) rfl⟩ (fun hH => ?_)
          clear hK K
          try simp only [Act.put, List.setIfInBounds_toArray, List.set_cons_zero, List.set_cons_succ]
          refine lastL rfl (by kernel_rfl) (by kernel_rfl) (by kernel_rfl) rfl (fun K hK => ?_)
          go_simp
          have z2 : w13.heap.size ≤ w17.heap.size := by omega
          have z3 : w17.heap.size ≤ w18.heap.size := by omega
          have z4 : w18.heap.size ≤ w19.heap.size := by omega
          have Ho9 := Hh0_0.out
          clear hH
          obtain ⟨OB, hOB⟩ : ∃ OB, OB = w16.heap.size := ⟨_, rfl⟩
          have z1 : w13.heap.size ≤ OB := by omega
          have z5 : OB < w17.heap.size ∨ w18.heap.size ≤ OB := (by first | exact .inl (by omega) | exact .inr (by omega) | omega)
          rw [← hOB] at sO ⊢
          refine hK.out _ _ ⟨OB, w17.heap.size, w18.heap.size, axz, ah0_0, cxz, ch0_0, ?_, Hq.out, sO, Ho9, z1, z2, z3, z4, z5⟩
          rfl
        go_simp
        refine (Himpl.out axz cxz _ hcxz Hxz.out.at (own_src Hxz.out.own)).mono ?_
        rintro e w17 ⟨vh0_0, rfl, hoh0_0, hb17⟩
        have Hb17 := Lib.hid (below_step Hb16.out Hb16.out.size hb17)
        have Hq := Lib.hid (below_step Hq.out Hq.out.size hb17)
        have Hw0_0 := Lib.hid (Hw0_0.out.below hb17)
        have Hg0_0 := Lib.hid (Hg0_0.out.below hb17)
        have Hxz := Lib.hid (Hxz.out.below hb17)
        have Sxb := Lib.hid (show Str w17 w.heap.size 30 #[.slice ax0 xx0.length capx0, .int .i64 x1] from ((hb17).block _ Sxb.out.lt).trans Sxb.out)
        have Stb := Lib.hid (show Str w17 (w.heap.size + 1) 23 #[.int .i64 t0, .int .i64 t1, .int .i64 t2, .int .i64 t3] from ((hb17).block _ Stb.out.lt).trans Stb.out)
        have Sw0 := Lib.hid (show Str w17 OBw 33 #[.slice aw0_0 L.length cw0_0, .int .i64 N] from ((hb17).block _ Sw0.out.lt).trans Sw0.out)
        have Sxxv := Lib.hid (show Str w17 w3.heap.size 33 #[.slice axx xx0.length cxx, .int .i64 x1] from ((hb17).block _ Sxxv.out.lt).trans Sxxv.out)
        have Sg0 := Lib.hid (show Str w17 OBg 33 #[.slice ag0_0 L.length cg0_0, .int .i64 N] from ((hb17).block _ Sg0.out.lt).trans Sg0.out)
        have hz17 := (hb17).size
        have Hh0_0 := Lib.hid (OwnI.of hoh0_0); clear hoh0_0
        obtain ⟨ah0_0, ch0_0, rfl, _, _⟩ := Hh0_0.out.ints
        have hch0_0 := Hh0_0.out.cap
        have hhh0_0 : w16.heap.size ≤ w16.heap.size := Nat.le_refl _
        have hjh0_0 : w17.heap.size ≤ w17.heap.size := Nat.le_refl _
        dsimp only
        refine hK.out _ _ ⟨Sxb.out.cell 0 (v := .slice ax0 xx0.length capx0) rfl, Sxb.out.cell 1 (v := .int .i64 x1) rfl, Stb.out.cell 0 (v := .int .i64 t0) rfl, Stb.out.cell 1 (v := .int .i64 t1) rfl, Stb.out.cell 2 (v := .int .i64 t2) rfl, Stb.out.cell 3 (v := .int .i64 t3) rfl⟩ (fun hH => ?_)
        clear hK K
        try simp only [Act.put, List.setIfInBounds_toArray, List.set_cons_zero, List.set_cons_succ]
        refine takeL 5 (v := ?vih12) rfl (by kernel_rfl) (by kernel_rfl) (by kernel_rfl) (by kernel_rfl) (by kernel_rfl) (fun _ _ _ h => h) hH rfl ?yih12 ?rih12
        case yih12 => intro W hSw; go_simp; try with_reducible rfl
        try simp only [Act.put, List.setIfInBounds_toArray, List.set_cons_zero, List.set_cons_succ]
        refine takeL 6 (v := ?vih13) rfl (by kernel_rfl) (by kernel_rfl) (by kernel_rfl) (by kernel_rfl) (by kernel_rfl) (fun _ _ _ h => h) hH rfl ?yih13 ?rih13
        case yih13 => intro W hSw; go_simp; try with_reducible rfl
        try simp only [Act.put, List.setIfInBounds_toArray, List.set_cons_zero, List.set_cons_succ]
        refine takeL 7 (v := ?vih14) rfl (by kernel_rfl) (by kernel_rfl) (by kernel_rfl) (by kernel_rfl) (by kernel_rfl) (fun _ _ _ h => h) hH rfl ?yih14 ?rih14
        case yih14 => intro W hSw; go_simp; try with_reducible rfl
        try simp only [Act.put, List.setIfInBounds_toArray, List.set_cons_zero, List.set_cons_succ]
        refine callL 8 rfl (by kernel_rfl) rfl (fun K hK => ?_)
        go_simp
        have hal : Below w17.heap.size w17 (w17.alloc (.cells #[.slice none 0 0, .int .i64 0] 33)) := (Below.refl _ _).alloc (Nat.le_refl _) _
        have sN := Str.new w17 33 #[.slice none 0 0, .int .i64 0]
        have hzn : w17.heap.size < (w17.alloc (.cells #[.slice none 0 0, .int .i64 0] 33)).heap.size := by simp
        generalize hwn : (w17.alloc (.cells #[.slice none 0 0, .int .i64 0] 33)) = w18 at *
        have Hb18 := Lib.hid (below_step Hb17.out Hb17.out.size hal)
        have Hq := Lib.hid (below_step Hq.out Hq.out.size hal)
        have Hw0_0 := Lib.hid (Hw0_0.out.below hal)
        have Hg0_0 := Lib.hid (Hg0_0.out.below hal)
        have Hxz := Lib.hid (Hxz.out.below hal)
        have Hh0_0 := Lib.hid (Hh0_0.out.below hal)
        have Sxb := Lib.hid (show Str w18 w.heap.size 30 #[.slice ax0 xx0.length capx0, .int .i64 x1] from ((hal).block _ Sxb.out.lt).trans Sxb.out)
        have Stb := Lib.hid (show Str w18 (w.heap.size + 1) 23 #[.int .i64 t0, .int .i64 t1, .int .i64 t2, .int .i64 t3] from ((hal).block _ Stb.out.lt).trans Stb.out)
        have Sw0 := Lib.hid (show Str w18 OBw 33 #[.slice aw0_0 L.length cw0_0, .int .i64 N] from ((hal).block _ Sw0.out.lt).trans Sw0.out)
        have Sxxv := Lib.hid (show Str w18 w3.heap.size 33 #[.slice axx xx0.length cxx, .int .i64 x1] from ((hal).block _ Sxxv.out.lt).trans Sxxv.out)
        have Sg0 := Lib.hid (show Str w18 OBg 33 #[.slice ag0_0 L.length cg0_0, .int .i64 N] from ((hal).block _ Sg0.out.lt).trans Sg0.out)
        have hz18 := (hal).size
        have Sh0 := Lib.hid sN; clear sN hal hwn
        refine hK.out _ _ ⟨Sxb.out.cell 0 (v := .slice ax0 xx0.length capx0) rfl, Sxb.out.cell 1 (v := .int .i64 x1) rfl, Stb.out.cell 0 (v := .int .i64 t0) rfl, Stb.out.cell 1 (v := .int .i64 t1) rfl, Stb.out.cell 2 (v := .int .i64 t2) rfl, Stb.out.cell 3 (v := .int .i64 t3) rfl⟩ (fun hH => ?_)
        clear hK K
        try simp only [Act.put, List.setIfInBounds_toArray, List.set_cons_zero, List.set_cons_succ]
        refine callL 9 rfl (by kernel_rfl) rfl (fun K hK => ?_)
        have y0 := Sh0.out.frozen 0
        have y1 := Sh0.out.frozen 1
        have g0 := Sh0.out.cell 0 (v := .slice none 0 0) rfl
        have g1 := Sh0.out.cell 1 (v := .int .i64 0) rfl
        go_simp
        clear y0 g0 y1 g1
        have hbt : Btw (w17.heap.size) (w17.heap.size + 1) w18 ((w18.setCell ⟨w17.heap.size, 0, none⟩ (.slice ah0_0 L.length ch0_0)).setCell ⟨w17.heap.size, 1, none⟩ (.int .i64 N)) := ((Btw.set w18 (Nat.le_refl (w17.heap.size)) (Nat.lt_succ_self _) 0 (.slice ah0_0 L.length ch0_0)).trans (Btw.set (w18.setCell ⟨w17.heap.size, 0, none⟩ (.slice ah0_0 L.length ch0_0)) (Nat.le_refl (w17.heap.size)) (Nat.lt_succ_self _) 1 (.int .i64 N)))
        have sO : Str ((w18.setCell ⟨w17.heap.size, 0, none⟩ (.slice ah0_0 L.length ch0_0)).setCell ⟨w17.heap.size, 1, none⟩ (.int .i64 N)) (w17.heap.size) 33 #[.slice ah0_0 L.length ch0_0, .int .i64 N] := ((Sh0.out.set 0 (.slice ah0_0 L.length ch0_0)).set 1 (.int .i64 N))
        generalize ((w18.setCell ⟨w17.heap.size, 0, none⟩ (.slice ah0_0 L.length ch0_0)).setCell ⟨w17.heap.size, 1, none⟩ (.int .i64 N)) = w19 at *
        have hz19 := hbt.size
        have Hq := Lib.hid (hbt.below Hq.out Hq.out.size (by omega))
        have Sxb := Lib.hid (Sxb.out.btw hbt (by first | exact .inl (by omega) | exact .inr (by omega) | omega))
        have Stb := Lib.hid (Stb.out.btw hbt (by first | exact .inl (by omega) | exact .inr (by omega) | omega))
        have Hh0_0 := Lib.hid (Hh0_0.out.btw hbt (by first | exact .inl (by omega) | exact .inr (by omega) | omega))
        clear hbt
        refine hK.out _ _ ⟨Sxb.out.cell 0 (v := .slice ax0 xx0.length capx0) rfl, Sxb.out.cell 1 (v := .int .i64 x1) rfl, Stb.out.cell 0 (v := .int .i64 t0) rfl, Stb.out.cell 1 (v := .int .i64 t1) rfl, Stb.out.cell 2 (v := .int .i64 t2) rfl, Stb.out.cell 3 (v := .int .i64 t3) rfl⟩ (fun hH => ?_)
        clear hK K
        try simp only [Act.put, List.setIfInBounds_toArray, List.set_cons_zero, List.set_cons_succ]
        refine lastL rfl (by kernel_rfl) (by kernel_rfl) (by kernel_rfl) rfl (fun K hK => ?_)
        go_simp
        have z2 : w13.heap.size ≤ w16.heap.size := by omega
        have z3 : w16.heap.size ≤ w17.heap.size := by omega
        have z4 : w17.heap.size ≤ w19.heap.size := by omega
        have Ho9 := Hh0_0.out
        clear hH
        obtain ⟨OB, hOB⟩ : ∃ OB, OB = w17.heap.size := ⟨_, rfl⟩
        have z1 : w13.heap.size ≤ OB := by omega
        have z5 : OB < w16.heap.size ∨ w17.heap.size ≤ OB := (by first | exact .inl (by omega) | exact .inr (by omega) | omega)
        rw [← hOB] at sO ⊢
        refine hK.out _ _ ⟨OB, w16.heap.size, w17.heap.size, axz, ah0_0, cxz, ch0_0, ?_, Hq.out, sO, Ho9, z1, z2, z3, z4, z5⟩
        rfl
      case hqh =>
        intro e a w14 hx
        cases e <;> first | exact hx.elim | skip
        obtain ⟨OBh, LOh, HIh, axz, ah0_0, cxz, ch0_0, rfl, hbj, so, ol, b1h, b2h, b3h, b4h, b5h⟩ := hx
        have Hb14 := Lib.hid (below_step Hb13.out Hb13.out.size hbj)
        have Hw0_0 := Lib.hid (Hw0_0.out.below hbj)
        have Hg0_0 := Lib.hid (Hg0_0.out.below hbj)
        have Sxb := Lib.hid (show Str w14 w.heap.size 30 #[.slice ax0 xx0.length capx0, .int .i64 x1] from ((hbj).block _ Sxb.out.lt).trans Sxb.out)
        have Stb := Lib.hid (show Str w14 (w.heap.size + 1) 23 #[.int .i64 t0, .int .i64 t1, .int .i64 t2, .int .i64 t3] from ((hbj).block _ Stb.out.lt).trans Stb.out)
        have Sw0 := Lib.hid (show Str w14 OBw 33 #[.slice aw0_0 L.length cw0_0, .int .i64 N] from ((hbj).block _ Sw0.out.lt).trans Sw0.out)
        have Sxxv := Lib.hid (show Str w14 w3.heap.size 33 #[.slice axx xx0.length cxx, .int .i64 x1] from ((hbj).block _ Sxxv.out.lt).trans Sxxv.out)
        have Sg0 := Lib.hid (show Str w14 OBg 33 #[.slice ag0_0 L.length cg0_0, .int .i64 N] from ((hbj).block _ Sg0.out.lt).trans Sg0.out)
        have hz14 := (hbj).size
        have b6h := so.lt
        have Sh0 := Lib.hid so; clear so
        have Hh0_0 := Lib.hid ol; clear ol hbj
        have hch0_0 := Hh0_0.out.cap
        have qh0_0 := Sh0.out.cell 0 (v := .slice ah0_0 L.length ch0_0) rfl
        have qh0_1 := Sh0.out.cell 1 (v := .int .i64 N) rfl
        have qw0_0 := Sw0.out.cell 0 (v := .slice aw0_0 L.length cw0_0) rfl
        have qw0_1 := Sw0.out.cell 1 (v := .int .i64 N) rfl
        go_wp2_with fail
        refine (laws_eqLedgerR ah0_0 aw0_0 ch0_0 cw0_0 L ( N) w14 (by omega) Hh0_0.out.at Hw0_0.out.at).mono ?_
        rintro e w15 ⟨rfl, hb15⟩
        have Hb15 := Lib.hid (below_step Hb14.out Hb14.out.size hb15)
        have Hw0_0 := Lib.hid (Hw0_0.out.below hb15)
        have Hg0_0 := Lib.hid (Hg0_0.out.below hb15)
        have Hh0_0 := Lib.hid (Hh0_0.out.below hb15)
        have Sxb := Lib.hid (show Str w15 w.heap.size 30 #[.slice ax0 xx0.length capx0, .int .i64 x1] from ((hb15).block _ Sxb.out.lt).trans Sxb.out)
        have Stb := Lib.hid (show Str w15 (w.heap.size + 1) 23 #[.int .i64 t0, .int .i64 t1, .int .i64 t2, .int .i64 t3] from ((hb15).block _ Stb.out.lt).trans Stb.out)
        have Sw0 := Lib.hid (show Str w15 OBw 33 #[.slice aw0_0 L.length cw0_0, .int .i64 N] from ((hb15).block _ Sw0.out.lt).trans Sw0.out)
        have Sxxv := Lib.hid (show Str w15 w3.heap.size 33 #[.slice axx xx0.length cxx, .int .i64 x1] from ((hb15).block _ Sxxv.out.lt).trans Sxxv.out)
        have Sg0 := Lib.hid (show Str w15 OBg 33 #[.slice ag0_0 L.length cg0_0, .int .i64 N] from ((hb15).block _ Sg0.out.lt).trans Sg0.out)
        have Sh0 := Lib.hid (show Str w15 OBh 33 #[.slice ah0_0 L.length ch0_0, .int .i64 N] from ((hb15).block _ Sh0.out.lt).trans Sh0.out)
        have hz15 := (hb15).size
        clear qh0_0 qh0_1 qw0_0 qw0_1
        have qg0_0 := Sg0.out.cell 0 (v := .slice ag0_0 L.length cg0_0) rfl
        have qg0_1 := Sg0.out.cell 1 (v := .int .i64 N) rfl
        go_wp2_with fail
        refine (laws_heldLedgerR ( N) ag0_0 cg0_0 (1) L.length w15 (by omega) (by omega) Hg0_0.out.at).mono ?_
        rintro e w16 ⟨rfl, hb16⟩
        have Hb16 := Lib.hid (below_step Hb15.out Hb15.out.size hb16)
        have Hw0_0 := Lib.hid (Hw0_0.out.below hb16)
        have Hg0_0 := Lib.hid (Hg0_0.out.below hb16)
        have Hh0_0 := Lib.hid (Hh0_0.out.below hb16)
        have Sxb := Lib.hid (show Str w16 w.heap.size 30 #[.slice ax0 xx0.length capx0, .int .i64 x1] from ((hb16).block _ Sxb.out.lt).trans Sxb.out)
        have Stb := Lib.hid (show Str w16 (w.heap.size + 1) 23 #[.int .i64 t0, .int .i64 t1, .int .i64 t2, .int .i64 t3] from ((hb16).block _ Stb.out.lt).trans Stb.out)
        have Sw0 := Lib.hid (show Str w16 OBw 33 #[.slice aw0_0 L.length cw0_0, .int .i64 N] from ((hb16).block _ Sw0.out.lt).trans Sw0.out)
        have Sxxv := Lib.hid (show Str w16 w3.heap.size 33 #[.slice axx xx0.length cxx, .int .i64 x1] from ((hb16).block _ Sxxv.out.lt).trans Sxxv.out)
        have Sg0 := Lib.hid (show Str w16 OBg 33 #[.slice ag0_0 L.length cg0_0, .int .i64 N] from ((hb16).block _ Sg0.out.lt).trans Sg0.out)
        have Sh0 := Lib.hid (show Str w16 OBh 33 #[.slice ah0_0 L.length ch0_0, .int .i64 N] from ((hb16).block _ Sh0.out.lt).trans Sh0.out)
        have hz16 := (hb16).size
        clear qg0_0 qg0_1
        go_wp2
        go_ret
        exact ⟨by first | rfl | exact ret_bool (by simp), Hb16.out⟩

theorem fnExactLedgerApply_own : ownKnob Try.prog.godebug = none := by kernel_rfl
theorem fnExactLedgerApply_laidOut : laidOutB Try.prog = true := by kernel_rfl

set_option maxRecDepth 8000 in
theorem fnExactLedgerApply_lifted (os : Os) (started : os.Started) (H : Type) (enc : TypeId × Value → H) :
    ReturnsInHanded {} Try.checked os 6 .any (Rows.fnExactLedgerApplySpec.pre6 enc Try.prog Try.f6 Rows.fnExactLedgerApplyRow.domain false) (Rows.fnExactLedgerApplySpec.post enc Try.prog Try.f6 false true false false) := by
  refine law_lifted (C := Try.checked) (tb := 4) fnExactLedgerApply_own fnExactLedgerApply_laidOut started (by kernel_rfl) Try.func6 rfl Try.underlying4 rfl (by rw [Try.params6]; exact of_decide_eq_true (by kernel_rfl)) ?_
    (ChangeSpec.witness6 (enc := enc) (C := Try.checked) false ⟨#[], #[.agg #[.slice none 0 0, .int .i64 0], .agg #[.int .i64 0, .int .i64 0, .int .i64 0, .int .i64 0]], []⟩ 8 (by kernel_rfl) (by kernel_rfl) (by kernel_rfl) (by kernel_rfl)) ?_
  · intro ds hds
    rw [Try.params6] at hds
    match ds, hds with
    | [d0, d1], _ => rfl
  · intro W base args ds p hval0 hA0
    have hval : ∀ (j : Nat) t v, Try.f6.params[j]? = some t → args[j]? = some v → Value.okWide Try.prog W .any base t v := hval0
    have hA : DataW.TrodAll enc Try.prog W 0 (fun _ => true) true Try.f6.params.toList args.toList ds p := hA0
    rw [Try.params6] at hA hval
    obtain ⟨v0, vs0, d0, ds0, p0, q0, hargs0, rfl, rfl, h0, r0⟩ := trodAll_cons hA
    obtain ⟨v1, vs1, d1, ds1, p1, q1, hargs1, rfl, rfl, h1, r1⟩ := trodAll_cons r0
    obtain ⟨hnil, rfl, rfl⟩ := trodAll_nil r1
    subst hnil
    subst hargs1
    obtain rfl : args = #[v0, v1] := by cases args; simp_all
    obtain ⟨a0_0, c0_0, x0_0, x0_1, rfl, b0_0, i0_0, b0_1⟩ := open_Ledger (hval 0 30 v0 rfl rfl) h0
    obtain ⟨x1_0, x1_1, x1_2, x1_3, rfl, b1_0, b1_1, b1_2, b1_3⟩ := open_Txn (hval 1 23 v1 rfl rfl) h1
    exact fnExactLedgerApply_walk a0_0 c0_0 x0_0 x0_1 x1_0 x1_1 x1_2 x1_3 W b0_0 i0_0 b0_1 b1_0 b1_1 b1_2 b1_3

set_option maxRecDepth 8000 in
theorem fnExactLedgerApply_holds : Rows.FnExactLedgerApplySaid :=
  OpenClaim.holds_of_wide 6 Try.f6 rfl rfl rfl rfl rfl rfl rfl ⟨rfl, rfl, rfl, rfl, rfl⟩ rfl rfl rfl rfl rfl (by kernel_rfl) Try.func6 (by kernel_rfl)
    (of_decide_eq_true (by kernel_rfl)) (by unfold Func.isWrapper; first | (rw [if_pos (by decide +kernel)]; kernel_rfl) | (rw [if_neg (by decide +kernel)]; exact ⟨rfl, rfl⟩))
    (fun os started H enc _ => fnExactLedgerApply_lifted os started H enc)

end Go.Proofs.Ytadgdjjibmofpab
