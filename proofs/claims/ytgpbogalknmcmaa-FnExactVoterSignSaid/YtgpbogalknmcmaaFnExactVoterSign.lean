/- The exact law of VoterSign holds at every argument; no conditions of our own. -/
import Derived.Test.YtgpbogalknmcmaaRows
import Derived.Test.YtgpbogalknmcmaaBu0
import Derived.Test.YtgpbogalknmcmaaBu1
import Derived.Test.YtgpbogalknmcmaaBu2
import Derived.Test.YtgpbogalknmcmaaBu5
import Derived.Test.YtgpbogalknmcmaaBu4
namespace Go.Proofs.Ytgpbogalknmcmaa
open Go.ChangeShapes Go.WideShapes Go.ChangeAt Go.RowKit

set_option maxHeartbeats 16000000 in
theorem fnExactVoterSign_walk (x0 : Int) (vx : Value) (esx : List (List Fd)) (fpx : List Nat) (v0 : Int) (v1 : Int) (v2 : Int) (w : World) (_hx0 : -9223372036854775808 ≤ x0 ∧ x0 ≤ 9223372036854775807) (hrx : Rd w (rowsD esx) vx fpx) (hmx : esx.length ≤ maxLen) (hpx : ∀ e ∈ esx, voteP e ∧ fitE e) (_hv0 : -9223372036854775808 ≤ v0 ∧ v0 ≤ 9223372036854775807) (_hv1 : -9223372036854775808 ≤ v1 ∧ v1 ≤ 9223372036854775807) (_hv2 : -9223372036854775808 ≤ v2 ∧ v2 ≤ 9223372036854775807) :
    Calls Try.prog 11 #[.agg #[.int .i64 x0, vx], .agg #[.int .i64 v0, .int .i64 v1, .int .i64 v2]] w fun e w' => e = .returned (.bool true) ∧ Below w.heap.size w w' := by
  obtain ⟨_hx01, _hx02⟩ := _hx0
  unfold maxLen at hmx
  obtain ⟨ax1, capx1, rfl⟩ := Rd.slice hrx
  rw [List.length_map] at *
  obtain ⟨_hv01, _hv02⟩ := _hv0
  obtain ⟨_hv11, _hv12⟩ := _hv1
  obtain ⟨_hv21, _hv22⟩ := _hv2
  have hbx0 : Below w.heap.size w (w.alloc (.cells #[.int .i64 x0, .slice ax1 esx.length capx1] 41)) := (Below.refl w.heap.size w).alloc (by first | exact Nat.le_refl _ | (simp only [World.size_alloc]; omega)) _
  have hsx0 := Str.new (w) 41 #[.int .i64 x0, .slice ax1 esx.length capx1]
  have hbx1 : Below w.heap.size w ((w.alloc (.cells #[.int .i64 x0, .slice ax1 esx.length capx1] 41)).alloc (.cells #[.int .i64 v0, .int .i64 v1, .int .i64 v2] 45)) := (hbx0).alloc (by first | exact Nat.le_refl _ | (simp only [World.size_alloc]; omega)) _
  have hsx1 := Str.new ((w.alloc (.cells #[.int .i64 x0, .slice ax1 esx.length capx1] 41))) 45 #[.int .i64 v0, .int .i64 v1, .int .i64 v2]
  have hsx0 := hsx0.alloc (.cells #[.int .i64 v0, .int .i64 v1, .int .i64 v2] 45)
  have Hrx := Lib.hid hrx; clear hrx
  have hpx1 : ∀ e ∈ esx, voteP e := fun e he => (hpx e he).1
  have Hfx := Lib.hid (fun e he => (hpx e he).2); clear hpx
  have hzx : ((w.alloc (.cells #[.int .i64 x0, .slice ax1 esx.length capx1] 41)).alloc (.cells #[.int .i64 v0, .int .i64 v1, .int .i64 v2] 45)).heap.size = w.heap.size + 2 := by simp
  have Sxb := Lib.hid (show Str ((w.alloc (.cells #[.int .i64 x0, .slice ax1 esx.length capx1] 41)).alloc (.cells #[.int .i64 v0, .int .i64 v1, .int .i64 v2] 45)) (w.heap.size) 41 #[.int .i64 x0, .slice ax1 esx.length capx1] by simpa using hsx0)
  clear hsx0
  have Svb := Lib.hid (show Str ((w.alloc (.cells #[.int .i64 x0, .slice ax1 esx.length capx1] 41)).alloc (.cells #[.int .i64 v0, .int .i64 v1, .int .i64 v2] 45)) (w.heap.size + 1) 45 #[.int .i64 v0, .int .i64 v1, .int .i64 v2] by simpa using hsx1)
  clear hsx1
  have Hb0 := Lib.hid hbx1
  clear hbx0 hbx1
  have Hszx := Lib.hid (fun w (hr : Rd w (rowsD esx) (.slice ax1 esx.length capx1) fpx) => laws_szVoterR x0 esx (.slice ax1 esx.length capx1) fpx (1048576) w (by omega) (by omega) hpx1 hr)
  go_enter Try.func11, Try.ntmps11
  have qxb_0 := Sxb.out.cell 0 (v := .int .i64 x0) rfl
  have qxb_1 := Sxb.out.cell 1 (v := .slice ax1 esx.length capx1) rfl
  go_wp2_with fail
  generalize ((w.alloc (.cells #[.int .i64 x0, .slice ax1 esx.length capx1] 41)).alloc (.cells #[.int .i64 v0, .int .i64 v1, .int .i64 v2] 45)) = w0 at *
  refine (Hszx.out _ (Hrx.out.under Hb0.out)).mono ?_
  rintro e w1 ⟨rfl, hb1⟩
  have Hb1 := Lib.hid (below_step Hb0.out Hb0.out.size hb1)
  have Sxb := Lib.hid (show Str w1 w.heap.size 41 #[.int .i64 x0, .slice ax1 esx.length capx1] from ((hb1).block _ Sxb.out.lt).trans Sxb.out)
  have Svb := Lib.hid (show Str w1 (w.heap.size + 1) 45 #[.int .i64 v0, .int .i64 v1, .int .i64 v2] from ((hb1).block _ Svb.out.lt).trans Svb.out)
  have hz1 := (hb1).size
  clear qxb_0 qxb_1
  have hklx := kTo_bd (voteP_len hpx1) 1 esx.length (Nat.le_refl _)
  clear hklx
  by_cases hlx : esx.length + lnTo esx esx.length ≤ 1048576
  case neg =>
    rw [if_neg hlx]
    go_wp2
    go_ret
    exact ⟨rfl, Hb1.out⟩
  rw [if_pos hlx]
  have hnegx : decide ((((1048576 - esx.length - lnTo esx esx.length : Nat)) : Int) < 0) = false := decide_eq_false (by omega)
  have hngex : ¬ (((1048576 - esx.length - lnTo esx esx.length : Nat) : Int) < 0) := by omega
  have hinx := lnTo_in (es := esx) (m := 1048576) (by omega)
  have hkbx := fun k => kTo_bd (voteP_len hpx1) k esx.length (Nat.le_refl _)
  have Hlnx := Lib.hid (show ∀ e ∈ esx, lnE e ≤ 1099511627776 from fun e he => Nat.le_trans (hinx e he) (by omega))
  obtain ⟨g, rfl⟩ := rows_vt hpx1
  have hL : (g.map Vt.fd).length = g.length := by simp
  have Hspec := Lib.hid (fun v f w (h : Rd w (rowsD (g.map Vt.fd)) v f) => spec_VoterSign x0 g v f v0 v1 v2 w (by omega) h)
  have Himpl := Lib.hid (fun v f w (h : Rd w (rowsD (g.map Vt.fd)) v f) => impl_VoterSign x0 g v f v0 v1 v2 w (by omega) h)
  have hsz : (sgG x0 g ⟨v0, v1, v2⟩).length ≤ 1048577 := by have := sg_len x0 g ⟨v0, v1, v2⟩; omega
  obtain ⟨hRa, hRb, hRc, hRd⟩ := vt_answer (show (sgG x0 g ⟨v0, v1, v2⟩).length ≤ 1048577 from hsz)
  clear hsz
  generalize (sgG x0 g ⟨v0, v1, v2⟩).map Vt.fd = R at *
  have Hrp0 := Lib.hid hRb; clear hRb
  have Hrl0 := Lib.hid hRc; clear hRc
  have Hrk0 := Lib.hid hRd; clear hRd
  generalize sgF x0 g ⟨v0, v1, v2⟩ = N at *
  generalize sgB x0 g ⟨v0, v1, v2⟩ = ok at *
  clear hL
  generalize g.map Vt.fd = esx at *
  have Hinx := Lib.hid hinx; clear hinx
  have Hkbx := Lib.hid hkbx; clear hkbx
  have Hpx := Lib.hid hpx1; clear hpx1
  have qxb_0 := Sxb.out.cell 0 (v := .int .i64 x0) rfl
  have qxb_1 := Sxb.out.cell 1 (v := .slice ax1 esx.length capx1) rfl
  have qvb_0 := Svb.out.cell 0 (v := .int .i64 v0) rfl
  have qvb_1 := Svb.out.cell 1 (v := .int .i64 v1) rfl
  have qvb_2 := Svb.out.cell 2 (v := .int .i64 v2) rfl
  go_wp2_with fail
  clear qxb_0 qxb_1 qvb_0 qvb_1 qvb_2
  refine Code.wp_mono (Q := fun e a' w' => match e with | .normal => ∃ (OB LO HI : Nat) (axs aw0_1 : Option Addr) (cxs cw0_1 : Nat), a' = (?Fsw : Nat → Option Addr → Option Addr → Nat → Nat → Act) OB axs aw0_1 cxs cw0_1 ∧ Below w1.heap.size w1 w' ∧ Str w' OB 25 #[.int .i64 N, .slice aw0_1 R.length cw0_1] ∧ OwnR 27 3 3 w' LO HI (.slice aw0_1 R.length cw0_1) R ∧ w1.heap.size ≤ OB ∧ w1.heap.size ≤ LO ∧ LO ≤ HI ∧ HI ≤ w'.heap.size ∧ (OB < LO ∨ HI ≤ OB) | _ => False) ?hqw ?hcw
  case hcw =>
    have hdr : Below w1.heap.size w1 w1.drew := (Below.refl _ _).drew
    have Hq := Lib.hid (Below.refl w1.heap.size w1)
    refine wp_region_L 10 (fun w' => w'.cell? ⟨w.heap.size, 0, none⟩ = some (.int .i64 x0) ∧ w'.cell? ⟨w.heap.size, 1, none⟩ = some (.slice ax1 esx.length capx1) ∧ w'.cell? ⟨(w.heap.size + 1), 0, none⟩ = some (.int .i64 v0) ∧ w'.cell? ⟨(w.heap.size + 1), 1, none⟩ = some (.int .i64 v1) ∧ w'.cell? ⟨(w.heap.size + 1), 2, none⟩ = some (.int .i64 v2)) (by kernel_rfl) ⟨Sxb.out.cell 0 (v := .int .i64 x0) rfl, Sxb.out.cell 1 (v := .slice ax1 esx.length capx1) rfl, Svb.out.cell 0 (v := .int .i64 v0) rfl, Svb.out.cell 1 (v := .int .i64 v1) rfl, Svb.out.cell 2 (v := .int .i64 v2) rfl⟩ (fun hH => ?_)
    generalize w1.drew = w2 at *
    have Hb2 := Lib.hid (below_step Hb1.out Hb1.out.size hdr)
    have Hq := Lib.hid (below_step Hq.out Hq.out.size hdr)
    have Sxb := Lib.hid (show Str w2 w.heap.size 41 #[.int .i64 x0, .slice ax1 esx.length capx1] from ((hdr).block _ Sxb.out.lt).trans Sxb.out)
    have Svb := Lib.hid (show Str w2 (w.heap.size + 1) 45 #[.int .i64 v0, .int .i64 v1, .int .i64 v2] from ((hdr).block _ Svb.out.lt).trans Svb.out)
    have hz2 := (hdr).size
    clear hdr
    refine takeL 0 (v := ?vsw1) rfl (by kernel_rfl) (by kernel_rfl) (by kernel_rfl) (by kernel_rfl) (by kernel_rfl) (fun _ _ _ h => h) hH rfl ?ysw1 ?rsw1
    case ysw1 => intro W hSw; go_simp; try with_reducible rfl
    try simp only [Act.put, List.setIfInBounds_toArray, List.set_cons_zero, List.set_cons_succ]
    refine takeL 2 (v := ?vsw2) rfl (by kernel_rfl) (by kernel_rfl) (by kernel_rfl) (by kernel_rfl) (by kernel_rfl) (fun _ _ _ h => h) hH rfl ?ysw2 ?rsw2
    case ysw2 => intro W hSw; go_simp; try with_reducible rfl
    try simp only [Act.put, List.setIfInBounds_toArray, List.set_cons_zero, List.set_cons_succ]
    refine twoL 1 8 rfl rfl (by kernel_rfl) rfl rfl (fun K hK => ?_) (fun K hK => ?_)
    rotate_left
    · skip
      go_simp
      have hal : Below w2.heap.size w2 (w2.alloc (.cells #[.int .i64 0, .slice none 0 0] 25)) := (Below.refl _ _).alloc (Nat.le_refl _) _
      have sN := Str.new w2 25 #[.int .i64 0, .slice none 0 0]
      have hzn : w2.heap.size < (w2.alloc (.cells #[.int .i64 0, .slice none 0 0] 25)).heap.size := by simp
      generalize hwn : (w2.alloc (.cells #[.int .i64 0, .slice none 0 0] 25)) = w3 at *
      have Hb3 := Lib.hid (below_step Hb2.out Hb2.out.size hal)
      have Hq := Lib.hid (below_step Hq.out Hq.out.size hal)
      have Sxb := Lib.hid (show Str w3 w.heap.size 41 #[.int .i64 x0, .slice ax1 esx.length capx1] from ((hal).block _ Sxb.out.lt).trans Sxb.out)
      have Svb := Lib.hid (show Str w3 (w.heap.size + 1) 45 #[.int .i64 v0, .int .i64 v1, .int .i64 v2] from ((hal).block _ Svb.out.lt).trans Svb.out)
      have hz3 := (hal).size
      have Sw0 := Lib.hid sN; clear sN hal hwn
      refine hK.out _ _ ⟨Sxb.out.cell 0 (v := .int .i64 x0) rfl, Sxb.out.cell 1 (v := .slice ax1 esx.length capx1) rfl, Svb.out.cell 0 (v := .int .i64 v0) rfl, Svb.out.cell 1 (v := .int .i64 v1) rfl, Svb.out.cell 2 (v := .int .i64 v2) rfl⟩ (fun hH => ?_)
      clear hK K
      try simp only [Act.put, List.setIfInBounds_toArray, List.set_cons_zero, List.set_cons_succ]
      refine callL 1 rfl (by kernel_rfl) rfl (fun K hK => ?_)
      go_simp
      refine (laws_toVoterR x0 esx (.slice ax1 esx.length capx1) fpx _ (by omega) Hpx.out Hinx.out (Hrx.out.under Hb3.out)).mono ?_
      rintro e w4 ⟨vxs, rfl, hoxs, hb4⟩
      have Hb4 := Lib.hid (below_step Hb3.out Hb3.out.size hb4)
      have Hq := Lib.hid (below_step Hq.out Hq.out.size hb4)
      have Sxb := Lib.hid (show Str w4 w.heap.size 41 #[.int .i64 x0, .slice ax1 esx.length capx1] from ((hb4).block _ Sxb.out.lt).trans Sxb.out)
      have Svb := Lib.hid (show Str w4 (w.heap.size + 1) 45 #[.int .i64 v0, .int .i64 v1, .int .i64 v2] from ((hb4).block _ Svb.out.lt).trans Svb.out)
      have Sw0 := Lib.hid (show Str w4 w2.heap.size 25 #[.int .i64 0, .slice none 0 0] from ((hb4).block _ Sw0.out.lt).trans Sw0.out)
      have hz4 := (hb4).size
      have Hxs := Lib.hid hoxs; clear hoxs
      obtain ⟨axs, cxs, rfl, hmlxs⟩ := Hxs.out.slice
      clear hmlxs
      have hhxs : w3.heap.size ≤ w3.heap.size := Nat.le_refl _
      have hjxs : w4.heap.size ≤ w4.heap.size := Nat.le_refl _
      dsimp only
      refine hK.out _ _ ⟨Sxb.out.cell 0 (v := .int .i64 x0) rfl, Sxb.out.cell 1 (v := .slice ax1 esx.length capx1) rfl, Svb.out.cell 0 (v := .int .i64 v0) rfl, Svb.out.cell 1 (v := .int .i64 v1) rfl, Svb.out.cell 2 (v := .int .i64 v2) rfl⟩ (fun hH => ?_)
      clear hK K
      try simp only [Act.put, List.setIfInBounds_toArray, List.set_cons_zero, List.set_cons_succ]
      refine callL 3 rfl (by kernel_rfl) rfl (fun K hK => ?_)
      go_simp
      refine (laws_toVoteR v0 v1 v2 _).mono ?_
      rintro e w5 ⟨rfl, hb5⟩
      have Hb5 := Lib.hid (below_step Hb4.out Hb4.out.size hb5)
      have Hq := Lib.hid (below_step Hq.out Hq.out.size hb5)
      have Hxs := Lib.hid (Hxs.out.below hb5 (by omega))
      have Sxb := Lib.hid (show Str w5 w.heap.size 41 #[.int .i64 x0, .slice ax1 esx.length capx1] from ((hb5).block _ Sxb.out.lt).trans Sxb.out)
      have Svb := Lib.hid (show Str w5 (w.heap.size + 1) 45 #[.int .i64 v0, .int .i64 v1, .int .i64 v2] from ((hb5).block _ Svb.out.lt).trans Svb.out)
      have Sw0 := Lib.hid (show Str w5 w2.heap.size 25 #[.int .i64 0, .slice none 0 0] from ((hb5).block _ Sw0.out.lt).trans Sw0.out)
      have hz5 := (hb5).size
      dsimp only
      refine hK.out _ _ ⟨Sxb.out.cell 0 (v := .int .i64 x0) rfl, Sxb.out.cell 1 (v := .slice ax1 esx.length capx1) rfl, Svb.out.cell 0 (v := .int .i64 v0) rfl, Svb.out.cell 1 (v := .int .i64 v1) rfl, Svb.out.cell 2 (v := .int .i64 v2) rfl⟩ (fun hH => ?_)
      clear hK K
      try simp only [Act.put, List.setIfInBounds_toArray, List.set_cons_zero, List.set_cons_succ]
      refine callL 4 rfl (by kernel_rfl) rfl (fun K hK => ?_)
      go_simp
      obtain ⟨fxs, hrxs⟩ := Hxs.out.reads
      refine (Hspec.out (.slice axs esx.length cxs) fxs _ hrxs).mono ?_
      rintro e w6 ⟨vw0_1, rfl, how0_1, hb6⟩
      have Hb6 := Lib.hid (below_step Hb5.out Hb5.out.size hb6)
      have Hq := Lib.hid (below_step Hq.out Hq.out.size hb6)
      have Hxs := Lib.hid (Hxs.out.below hb6 (by omega))
      have Sxb := Lib.hid (show Str w6 w.heap.size 41 #[.int .i64 x0, .slice ax1 esx.length capx1] from ((hb6).block _ Sxb.out.lt).trans Sxb.out)
      have Svb := Lib.hid (show Str w6 (w.heap.size + 1) 45 #[.int .i64 v0, .int .i64 v1, .int .i64 v2] from ((hb6).block _ Svb.out.lt).trans Svb.out)
      have Sw0 := Lib.hid (show Str w6 w2.heap.size 25 #[.int .i64 0, .slice none 0 0] from ((hb6).block _ Sw0.out.lt).trans Sw0.out)
      have hz6 := (hb6).size
      have Hw0_1 := Lib.hid how0_1; clear how0_1
      obtain ⟨aw0_1, cw0_1, rfl, hmlw0_1⟩ := Hw0_1.out.slice
      clear hmlw0_1
      have hhw0_1 : w5.heap.size ≤ w5.heap.size := Nat.le_refl _
      have hjw0_1 : w6.heap.size ≤ w6.heap.size := Nat.le_refl _
      clear hrxs
      dsimp only
      refine hK.out _ _ ⟨Sxb.out.cell 0 (v := .int .i64 x0) rfl, Sxb.out.cell 1 (v := .slice ax1 esx.length capx1) rfl, Svb.out.cell 0 (v := .int .i64 v0) rfl, Svb.out.cell 1 (v := .int .i64 v1) rfl, Svb.out.cell 2 (v := .int .i64 v2) rfl⟩ (fun hH => ?_)
      clear hK K
      try simp only [Act.put, List.setIfInBounds_toArray, List.set_cons_zero, List.set_cons_succ]
      refine takeL 5 (v := ?vsw3) rfl (by kernel_rfl) (by kernel_rfl) (by kernel_rfl) (by kernel_rfl) (by kernel_rfl) (fun _ _ _ h => h) hH rfl ?ysw3 ?rsw3
      case ysw3 => intro W hSw; go_simp; try with_reducible rfl
      try simp only [Act.put, List.setIfInBounds_toArray, List.set_cons_zero, List.set_cons_succ]
      refine takeL 6 (v := ?vsw4) rfl (by kernel_rfl) (by kernel_rfl) (by kernel_rfl) (by kernel_rfl) (by kernel_rfl) (fun _ _ _ h => h) hH rfl ?ysw4 ?rsw4
      case ysw4 => intro W hSw; go_simp; try with_reducible rfl
      try simp only [Act.put, List.setIfInBounds_toArray, List.set_cons_zero, List.set_cons_succ]
      refine takeL 7 (v := ?vsw5) rfl (by kernel_rfl) (by kernel_rfl) (by kernel_rfl) (by kernel_rfl) (by kernel_rfl) (fun _ _ _ h => h) hH rfl ?ysw5 ?rsw5
      case ysw5 => intro W hSw; go_simp; try with_reducible rfl
      try simp only [Act.put, List.setIfInBounds_toArray, List.set_cons_zero, List.set_cons_succ]
      refine callL 9 rfl (by kernel_rfl) rfl (fun K hK => ?_)
      have y0 := Sw0.out.frozen 0
      have y1 := Sw0.out.frozen 1
      have g0 := Sw0.out.cell 0 (v := .int .i64 0) rfl
      have g1 := Sw0.out.cell 1 (v := .slice none 0 0) rfl
      go_simp
      clear y0 g0 y1 g1
      have hbt : Btw (w2.heap.size) (w2.heap.size + 1) w6 ((w6.setCell ⟨w2.heap.size, 0, none⟩ (.int .i64 N)).setCell ⟨w2.heap.size, 1, none⟩ (.slice aw0_1 R.length cw0_1)) := ((Btw.set w6 (Nat.le_refl (w2.heap.size)) (Nat.lt_succ_self _) 0 (.int .i64 N)).trans (Btw.set (w6.setCell ⟨w2.heap.size, 0, none⟩ (.int .i64 N)) (Nat.le_refl (w2.heap.size)) (Nat.lt_succ_self _) 1 (.slice aw0_1 R.length cw0_1)))
      have sO : Str ((w6.setCell ⟨w2.heap.size, 0, none⟩ (.int .i64 N)).setCell ⟨w2.heap.size, 1, none⟩ (.slice aw0_1 R.length cw0_1)) (w2.heap.size) 25 #[.int .i64 N, .slice aw0_1 R.length cw0_1] := ((Sw0.out.set 0 (.int .i64 N)).set 1 (.slice aw0_1 R.length cw0_1))
      generalize ((w6.setCell ⟨w2.heap.size, 0, none⟩ (.int .i64 N)).setCell ⟨w2.heap.size, 1, none⟩ (.slice aw0_1 R.length cw0_1)) = w7 at *
      have hz7 := hbt.size
      have Hq := Lib.hid (hbt.below Hq.out Hq.out.size (by omega))
      have Sxb := Lib.hid (Sxb.out.btw hbt (by first | exact .inl (by omega) | exact .inr (by omega) | omega))
      have Svb := Lib.hid (Svb.out.btw hbt (by first | exact .inl (by omega) | exact .inr (by omega) | omega))
      have Hw0_1 := Lib.hid (hbt.ownR Hw0_1.out (by omega) (by first | exact .inl (by omega) | exact .inr (by omega) | omega))
      clear hbt
      refine hK.out _ _ ⟨Sxb.out.cell 0 (v := .int .i64 x0) rfl, Sxb.out.cell 1 (v := .slice ax1 esx.length capx1) rfl, Svb.out.cell 0 (v := .int .i64 v0) rfl, Svb.out.cell 1 (v := .int .i64 v1) rfl, Svb.out.cell 2 (v := .int .i64 v2) rfl⟩ (fun hH => ?_)
      clear hK K
      try simp only [Act.put, List.setIfInBounds_toArray, List.set_cons_zero, List.set_cons_succ]
      refine lastL rfl (by kernel_rfl) (by kernel_rfl) (by kernel_rfl) rfl (fun K hK => ?_)
      go_simp
      have z2 : w1.heap.size ≤ w5.heap.size := by omega
      have z3 : w5.heap.size ≤ w6.heap.size := by omega
      have z4 : w6.heap.size ≤ w7.heap.size := by omega
      have Ho9 := Hw0_1.out
      clear hH
      obtain ⟨OB, hOB⟩ : ∃ OB, OB = w2.heap.size := ⟨_, rfl⟩
      have z1 : w1.heap.size ≤ OB := by omega
      have z5 : OB < w5.heap.size ∨ w6.heap.size ≤ OB := (by first | exact .inl (by omega) | exact .inr (by omega) | omega)
      rw [← hOB] at sO ⊢
      refine hK.out _ _ ⟨OB, w5.heap.size, w6.heap.size, axs, aw0_1, cxs, cw0_1, ?_, Hq.out, sO, Ho9, z1, z2, z3, z4, z5⟩
      rfl
    go_simp
    refine (laws_toVoterR x0 esx (.slice ax1 esx.length capx1) fpx _ (by omega) Hpx.out Hinx.out (Hrx.out.under Hb2.out)).mono ?_
    rintro e w3 ⟨vxs, rfl, hoxs, hb3⟩
    have Hb3 := Lib.hid (below_step Hb2.out Hb2.out.size hb3)
    have Hq := Lib.hid (below_step Hq.out Hq.out.size hb3)
    have Sxb := Lib.hid (show Str w3 w.heap.size 41 #[.int .i64 x0, .slice ax1 esx.length capx1] from ((hb3).block _ Sxb.out.lt).trans Sxb.out)
    have Svb := Lib.hid (show Str w3 (w.heap.size + 1) 45 #[.int .i64 v0, .int .i64 v1, .int .i64 v2] from ((hb3).block _ Svb.out.lt).trans Svb.out)
    have hz3 := (hb3).size
    have Hxs := Lib.hid hoxs; clear hoxs
    obtain ⟨axs, cxs, rfl, hmlxs⟩ := Hxs.out.slice
    clear hmlxs
    have hhxs : w2.heap.size ≤ w2.heap.size := Nat.le_refl _
    have hjxs : w3.heap.size ≤ w3.heap.size := Nat.le_refl _
    dsimp only
    refine hK.out _ _ ⟨Sxb.out.cell 0 (v := .int .i64 x0) rfl, Sxb.out.cell 1 (v := .slice ax1 esx.length capx1) rfl, Svb.out.cell 0 (v := .int .i64 v0) rfl, Svb.out.cell 1 (v := .int .i64 v1) rfl, Svb.out.cell 2 (v := .int .i64 v2) rfl⟩ (fun hH => ?_)
    clear hK K
    try simp only [Act.put, List.setIfInBounds_toArray, List.set_cons_zero, List.set_cons_succ]
    refine twoL 3 8 rfl rfl (by kernel_rfl) rfl rfl (fun K hK => ?_) (fun K hK => ?_)
    rotate_left
    · skip
      go_simp
      have hal : Below w3.heap.size w3 (w3.alloc (.cells #[.int .i64 0, .slice none 0 0] 25)) := (Below.refl _ _).alloc (Nat.le_refl _) _
      have sN := Str.new w3 25 #[.int .i64 0, .slice none 0 0]
      have hzn : w3.heap.size < (w3.alloc (.cells #[.int .i64 0, .slice none 0 0] 25)).heap.size := by simp
      generalize hwn : (w3.alloc (.cells #[.int .i64 0, .slice none 0 0] 25)) = w4 at *
      have Hb4 := Lib.hid (below_step Hb3.out Hb3.out.size hal)
      have Hq := Lib.hid (below_step Hq.out Hq.out.size hal)
      have Hxs := Lib.hid (Hxs.out.below hal (by omega))
      have Sxb := Lib.hid (show Str w4 w.heap.size 41 #[.int .i64 x0, .slice ax1 esx.length capx1] from ((hal).block _ Sxb.out.lt).trans Sxb.out)
      have Svb := Lib.hid (show Str w4 (w.heap.size + 1) 45 #[.int .i64 v0, .int .i64 v1, .int .i64 v2] from ((hal).block _ Svb.out.lt).trans Svb.out)
      have hz4 := (hal).size
      have Sw0 := Lib.hid sN; clear sN hal hwn
      refine hK.out _ _ ⟨Sxb.out.cell 0 (v := .int .i64 x0) rfl, Sxb.out.cell 1 (v := .slice ax1 esx.length capx1) rfl, Svb.out.cell 0 (v := .int .i64 v0) rfl, Svb.out.cell 1 (v := .int .i64 v1) rfl, Svb.out.cell 2 (v := .int .i64 v2) rfl⟩ (fun hH => ?_)
      clear hK K
      try simp only [Act.put, List.setIfInBounds_toArray, List.set_cons_zero, List.set_cons_succ]
      refine callL 3 rfl (by kernel_rfl) rfl (fun K hK => ?_)
      go_simp
      refine (laws_toVoteR v0 v1 v2 _).mono ?_
      rintro e w5 ⟨rfl, hb5⟩
      have Hb5 := Lib.hid (below_step Hb4.out Hb4.out.size hb5)
      have Hq := Lib.hid (below_step Hq.out Hq.out.size hb5)
      have Hxs := Lib.hid (Hxs.out.below hb5 (by omega))
      have Sxb := Lib.hid (show Str w5 w.heap.size 41 #[.int .i64 x0, .slice ax1 esx.length capx1] from ((hb5).block _ Sxb.out.lt).trans Sxb.out)
      have Svb := Lib.hid (show Str w5 (w.heap.size + 1) 45 #[.int .i64 v0, .int .i64 v1, .int .i64 v2] from ((hb5).block _ Svb.out.lt).trans Svb.out)
      have Sw0 := Lib.hid (show Str w5 w3.heap.size 25 #[.int .i64 0, .slice none 0 0] from ((hb5).block _ Sw0.out.lt).trans Sw0.out)
      have hz5 := (hb5).size
      dsimp only
      refine hK.out _ _ ⟨Sxb.out.cell 0 (v := .int .i64 x0) rfl, Sxb.out.cell 1 (v := .slice ax1 esx.length capx1) rfl, Svb.out.cell 0 (v := .int .i64 v0) rfl, Svb.out.cell 1 (v := .int .i64 v1) rfl, Svb.out.cell 2 (v := .int .i64 v2) rfl⟩ (fun hH => ?_)
      clear hK K
      try simp only [Act.put, List.setIfInBounds_toArray, List.set_cons_zero, List.set_cons_succ]
      refine callL 4 rfl (by kernel_rfl) rfl (fun K hK => ?_)
      go_simp
      obtain ⟨fxs, hrxs⟩ := Hxs.out.reads
      refine (Hspec.out (.slice axs esx.length cxs) fxs _ hrxs).mono ?_
      rintro e w6 ⟨vw0_1, rfl, how0_1, hb6⟩
      have Hb6 := Lib.hid (below_step Hb5.out Hb5.out.size hb6)
      have Hq := Lib.hid (below_step Hq.out Hq.out.size hb6)
      have Hxs := Lib.hid (Hxs.out.below hb6 (by omega))
      have Sxb := Lib.hid (show Str w6 w.heap.size 41 #[.int .i64 x0, .slice ax1 esx.length capx1] from ((hb6).block _ Sxb.out.lt).trans Sxb.out)
      have Svb := Lib.hid (show Str w6 (w.heap.size + 1) 45 #[.int .i64 v0, .int .i64 v1, .int .i64 v2] from ((hb6).block _ Svb.out.lt).trans Svb.out)
      have Sw0 := Lib.hid (show Str w6 w3.heap.size 25 #[.int .i64 0, .slice none 0 0] from ((hb6).block _ Sw0.out.lt).trans Sw0.out)
      have hz6 := (hb6).size
      have Hw0_1 := Lib.hid how0_1; clear how0_1
      obtain ⟨aw0_1, cw0_1, rfl, hmlw0_1⟩ := Hw0_1.out.slice
      clear hmlw0_1
      have hhw0_1 : w5.heap.size ≤ w5.heap.size := Nat.le_refl _
      have hjw0_1 : w6.heap.size ≤ w6.heap.size := Nat.le_refl _
      clear hrxs
      dsimp only
      refine hK.out _ _ ⟨Sxb.out.cell 0 (v := .int .i64 x0) rfl, Sxb.out.cell 1 (v := .slice ax1 esx.length capx1) rfl, Svb.out.cell 0 (v := .int .i64 v0) rfl, Svb.out.cell 1 (v := .int .i64 v1) rfl, Svb.out.cell 2 (v := .int .i64 v2) rfl⟩ (fun hH => ?_)
      clear hK K
      try simp only [Act.put, List.setIfInBounds_toArray, List.set_cons_zero, List.set_cons_succ]
      refine takeL 5 (v := ?vsw6) rfl (by kernel_rfl) (by kernel_rfl) (by kernel_rfl) (by kernel_rfl) (by kernel_rfl) (fun _ _ _ h => h) hH rfl ?ysw6 ?rsw6
      case ysw6 => intro W hSw; go_simp; try with_reducible rfl
      try simp only [Act.put, List.setIfInBounds_toArray, List.set_cons_zero, List.set_cons_succ]
      refine takeL 6 (v := ?vsw7) rfl (by kernel_rfl) (by kernel_rfl) (by kernel_rfl) (by kernel_rfl) (by kernel_rfl) (fun _ _ _ h => h) hH rfl ?ysw7 ?rsw7
      case ysw7 => intro W hSw; go_simp; try with_reducible rfl
      try simp only [Act.put, List.setIfInBounds_toArray, List.set_cons_zero, List.set_cons_succ]
      refine takeL 7 (v := ?vsw8) rfl (by kernel_rfl) (by kernel_rfl) (by kernel_rfl) (by kernel_rfl) (by kernel_rfl) (fun _ _ _ h => h) hH rfl ?ysw8 ?rsw8
      case ysw8 => intro W hSw; go_simp; try with_reducible rfl
      try simp only [Act.put, List.setIfInBounds_toArray, List.set_cons_zero, List.set_cons_succ]
      refine callL 9 rfl (by kernel_rfl) rfl (fun K hK => ?_)
      have y0 := Sw0.out.frozen 0
      have y1 := Sw0.out.frozen 1
      have g0 := Sw0.out.cell 0 (v := .int .i64 0) rfl
      have g1 := Sw0.out.cell 1 (v := .slice none 0 0) rfl
      go_simp
      clear y0 g0 y1 g1
      have hbt : Btw (w3.heap.size) (w3.heap.size + 1) w6 ((w6.setCell ⟨w3.heap.size, 0, none⟩ (.int .i64 N)).setCell ⟨w3.heap.size, 1, none⟩ (.slice aw0_1 R.length cw0_1)) := ((Btw.set w6 (Nat.le_refl (w3.heap.size)) (Nat.lt_succ_self _) 0 (.int .i64 N)).trans (Btw.set (w6.setCell ⟨w3.heap.size, 0, none⟩ (.int .i64 N)) (Nat.le_refl (w3.heap.size)) (Nat.lt_succ_self _) 1 (.slice aw0_1 R.length cw0_1)))
      have sO : Str ((w6.setCell ⟨w3.heap.size, 0, none⟩ (.int .i64 N)).setCell ⟨w3.heap.size, 1, none⟩ (.slice aw0_1 R.length cw0_1)) (w3.heap.size) 25 #[.int .i64 N, .slice aw0_1 R.length cw0_1] := ((Sw0.out.set 0 (.int .i64 N)).set 1 (.slice aw0_1 R.length cw0_1))
      generalize ((w6.setCell ⟨w3.heap.size, 0, none⟩ (.int .i64 N)).setCell ⟨w3.heap.size, 1, none⟩ (.slice aw0_1 R.length cw0_1)) = w7 at *
      have hz7 := hbt.size
      have Hq := Lib.hid (hbt.below Hq.out Hq.out.size (by omega))
      have Sxb := Lib.hid (Sxb.out.btw hbt (by first | exact .inl (by omega) | exact .inr (by omega) | omega))
      have Svb := Lib.hid (Svb.out.btw hbt (by first | exact .inl (by omega) | exact .inr (by omega) | omega))
      have Hw0_1 := Lib.hid (hbt.ownR Hw0_1.out (by omega) (by first | exact .inl (by omega) | exact .inr (by omega) | omega))
      clear hbt
      refine hK.out _ _ ⟨Sxb.out.cell 0 (v := .int .i64 x0) rfl, Sxb.out.cell 1 (v := .slice ax1 esx.length capx1) rfl, Svb.out.cell 0 (v := .int .i64 v0) rfl, Svb.out.cell 1 (v := .int .i64 v1) rfl, Svb.out.cell 2 (v := .int .i64 v2) rfl⟩ (fun hH => ?_)
      clear hK K
      try simp only [Act.put, List.setIfInBounds_toArray, List.set_cons_zero, List.set_cons_succ]
      refine lastL rfl (by kernel_rfl) (by kernel_rfl) (by kernel_rfl) rfl (fun K hK => ?_)
      go_simp
      have z2 : w1.heap.size ≤ w5.heap.size := by omega
      have z3 : w5.heap.size ≤ w6.heap.size := by omega
      have z4 : w6.heap.size ≤ w7.heap.size := by omega
      have Ho9 := Hw0_1.out
      clear hH
      obtain ⟨OB, hOB⟩ : ∃ OB, OB = w3.heap.size := ⟨_, rfl⟩
      have z1 : w1.heap.size ≤ OB := by omega
      have z5 : OB < w5.heap.size ∨ w6.heap.size ≤ OB := (by first | exact .inl (by omega) | exact .inr (by omega) | omega)
      rw [← hOB] at sO ⊢
      refine hK.out _ _ ⟨OB, w5.heap.size, w6.heap.size, axs, aw0_1, cxs, cw0_1, ?_, Hq.out, sO, Ho9, z1, z2, z3, z4, z5⟩
      rfl
    go_simp
    refine (laws_toVoteR v0 v1 v2 _).mono ?_
    rintro e w4 ⟨rfl, hb4⟩
    have Hb4 := Lib.hid (below_step Hb3.out Hb3.out.size hb4)
    have Hq := Lib.hid (below_step Hq.out Hq.out.size hb4)
    have Hxs := Lib.hid (Hxs.out.below hb4 (by omega))
    have Sxb := Lib.hid (show Str w4 w.heap.size 41 #[.int .i64 x0, .slice ax1 esx.length capx1] from ((hb4).block _ Sxb.out.lt).trans Sxb.out)
    have Svb := Lib.hid (show Str w4 (w.heap.size + 1) 45 #[.int .i64 v0, .int .i64 v1, .int .i64 v2] from ((hb4).block _ Svb.out.lt).trans Svb.out)
    have hz4 := (hb4).size
    dsimp only
    refine hK.out _ _ ⟨Sxb.out.cell 0 (v := .int .i64 x0) rfl, Sxb.out.cell 1 (v := .slice ax1 esx.length capx1) rfl, Svb.out.cell 0 (v := .int .i64 v0) rfl, Svb.out.cell 1 (v := .int .i64 v1) rfl, Svb.out.cell 2 (v := .int .i64 v2) rfl⟩ (fun hH => ?_)
    clear hK K
    try simp only [Act.put, List.setIfInBounds_toArray, List.set_cons_zero, List.set_cons_succ]
    refine twoL 4 8 rfl rfl (by kernel_rfl) rfl rfl (fun K hK => ?_) (fun K hK => ?_)
    rotate_left
    · skip
      go_simp
      have hal : Below w4.heap.size w4 (w4.alloc (.cells #[.int .i64 0, .slice none 0 0] 25)) := (Below.refl _ _).alloc (Nat.le_refl _) _
      have sN := Str.new w4 25 #[.int .i64 0, .slice none 0 0]
      have hzn : w4.heap.size < (w4.alloc (.cells #[.int .i64 0, .slice none 0 0] 25)).heap.size := by simp
      generalize hwn : (w4.alloc (.cells #[.int .i64 0, .slice none 0 0] 25)) = w5 at *
      have Hb5 := Lib.hid (below_step Hb4.out Hb4.out.size hal)
      have Hq := Lib.hid (below_step Hq.out Hq.out.size hal)
      have Hxs := Lib.hid (Hxs.out.below hal (by omega))
      have Sxb := Lib.hid (show Str w5 w.heap.size 41 #[.int .i64 x0, .slice ax1 esx.length capx1] from ((hal).block _ Sxb.out.lt).trans Sxb.out)
      have Svb := Lib.hid (show Str w5 (w.heap.size + 1) 45 #[.int .i64 v0, .int .i64 v1, .int .i64 v2] from ((hal).block _ Svb.out.lt).trans Svb.out)
      have hz5 := (hal).size
      have Sw0 := Lib.hid sN; clear sN hal hwn
      refine hK.out _ _ ⟨Sxb.out.cell 0 (v := .int .i64 x0) rfl, Sxb.out.cell 1 (v := .slice ax1 esx.length capx1) rfl, Svb.out.cell 0 (v := .int .i64 v0) rfl, Svb.out.cell 1 (v := .int .i64 v1) rfl, Svb.out.cell 2 (v := .int .i64 v2) rfl⟩ (fun hH => ?_)
      clear hK K
      try simp only [Act.put, List.setIfInBounds_toArray, List.set_cons_zero, List.set_cons_succ]
      refine callL 4 rfl (by kernel_rfl) rfl (fun K hK => ?_)
      go_simp
      obtain ⟨fxs, hrxs⟩ := Hxs.out.reads
      refine (Hspec.out (.slice axs esx.length cxs) fxs _ hrxs).mono ?_
      rintro e w6 ⟨vw0_1, rfl, how0_1, hb6⟩
      have Hb6 := Lib.hid (below_step Hb5.out Hb5.out.size hb6)
      have Hq := Lib.hid (below_step Hq.out Hq.out.size hb6)
      have Hxs := Lib.hid (Hxs.out.below hb6 (by omega))
      have Sxb := Lib.hid (show Str w6 w.heap.size 41 #[.int .i64 x0, .slice ax1 esx.length capx1] from ((hb6).block _ Sxb.out.lt).trans Sxb.out)
      have Svb := Lib.hid (show Str w6 (w.heap.size + 1) 45 #[.int .i64 v0, .int .i64 v1, .int .i64 v2] from ((hb6).block _ Svb.out.lt).trans Svb.out)
      have Sw0 := Lib.hid (show Str w6 w4.heap.size 25 #[.int .i64 0, .slice none 0 0] from ((hb6).block _ Sw0.out.lt).trans Sw0.out)
      have hz6 := (hb6).size
      have Hw0_1 := Lib.hid how0_1; clear how0_1
      obtain ⟨aw0_1, cw0_1, rfl, hmlw0_1⟩ := Hw0_1.out.slice
      clear hmlw0_1
      have hhw0_1 : w5.heap.size ≤ w5.heap.size := Nat.le_refl _
      have hjw0_1 : w6.heap.size ≤ w6.heap.size := Nat.le_refl _
      clear hrxs
      dsimp only
      refine hK.out _ _ ⟨Sxb.out.cell 0 (v := .int .i64 x0) rfl, Sxb.out.cell 1 (v := .slice ax1 esx.length capx1) rfl, Svb.out.cell 0 (v := .int .i64 v0) rfl, Svb.out.cell 1 (v := .int .i64 v1) rfl, Svb.out.cell 2 (v := .int .i64 v2) rfl⟩ (fun hH => ?_)
      clear hK K
      try simp only [Act.put, List.setIfInBounds_toArray, List.set_cons_zero, List.set_cons_succ]
      refine takeL 5 (v := ?vsw9) rfl (by kernel_rfl) (by kernel_rfl) (by kernel_rfl) (by kernel_rfl) (by kernel_rfl) (fun _ _ _ h => h) hH rfl ?ysw9 ?rsw9
      case ysw9 => intro W hSw; go_simp; try with_reducible rfl
      try simp only [Act.put, List.setIfInBounds_toArray, List.set_cons_zero, List.set_cons_succ]
      refine takeL 6 (v := ?vsw10) rfl (by kernel_rfl) (by kernel_rfl) (by kernel_rfl) (by kernel_rfl) (by kernel_rfl) (fun _ _ _ h => h) hH rfl ?ysw10 ?rsw10
      case ysw10 => intro W hSw; go_simp; try with_reducible rfl
      try simp only [Act.put, List.setIfInBounds_toArray, List.set_cons_zero, List.set_cons_succ]
      refine takeL 7 (v := ?vsw11) rfl (by kernel_rfl) (by kernel_rfl) (by kernel_rfl) (by kernel_rfl) (by kernel_rfl) (fun _ _ _ h => h) hH rfl ?ysw11 ?rsw11
      case ysw11 => intro W hSw; go_simp; try with_reducible rfl
      try simp only [Act.put, List.setIfInBounds_toArray, List.set_cons_zero, List.set_cons_succ]
      refine callL 9 rfl (by kernel_rfl) rfl (fun K hK => ?_)
      have y0 := Sw0.out.frozen 0
      have y1 := Sw0.out.frozen 1
      have g0 := Sw0.out.cell 0 (v := .int .i64 0) rfl
      have g1 := Sw0.out.cell 1 (v := .slice none 0 0) rfl
      go_simp
      clear y0 g0 y1 g1
      have hbt : Btw (w4.heap.size) (w4.heap.size + 1) w6 ((w6.setCell ⟨w4.heap.size, 0, none⟩ (.int .i64 N)).setCell ⟨w4.heap.size, 1, none⟩ (.slice aw0_1 R.length cw0_1)) := ((Btw.set w6 (Nat.le_refl (w4.heap.size)) (Nat.lt_succ_self _) 0 (.int .i64 N)).trans (Btw.set (w6.setCell ⟨w4.heap.size, 0, none⟩ (.int .i64 N)) (Nat.le_refl (w4.heap.size)) (Nat.lt_succ_self _) 1 (.slice aw0_1 R.length cw0_1)))
      have sO : Str ((w6.setCell ⟨w4.heap.size, 0, none⟩ (.int .i64 N)).setCell ⟨w4.heap.size, 1, none⟩ (.slice aw0_1 R.length cw0_1)) (w4.heap.size) 25 #[.int .i64 N, .slice aw0_1 R.length cw0_1] := ((Sw0.out.set 0 (.int .i64 N)).set 1 (.slice aw0_1 R.length cw0_1))
      generalize ((w6.setCell ⟨w4.heap.size, 0, none⟩ (.int .i64 N)).setCell ⟨w4.heap.size, 1, none⟩ (.slice aw0_1 R.length cw0_1)) = w7 at *
      have hz7 := hbt.size
      have Hq := Lib.hid (hbt.below Hq.out Hq.out.size (by omega))
      have Sxb := Lib.hid (Sxb.out.btw hbt (by first | exact .inl (by omega) | exact .inr (by omega) | omega))
      have Svb := Lib.hid (Svb.out.btw hbt (by first | exact .inl (by omega) | exact .inr (by omega) | omega))
      have Hw0_1 := Lib.hid (hbt.ownR Hw0_1.out (by omega) (by first | exact .inl (by omega) | exact .inr (by omega) | omega))
      clear hbt
      refine hK.out _ _ ⟨Sxb.out.cell 0 (v := .int .i64 x0) rfl, Sxb.out.cell 1 (v := .slice ax1 esx.length capx1) rfl, Svb.out.cell 0 (v := .int .i64 v0) rfl, Svb.out.cell 1 (v := .int .i64 v1) rfl, Svb.out.cell 2 (v := .int .i64 v2) rfl⟩ (fun hH => ?_)
      clear hK K
      try simp only [Act.put, List.setIfInBounds_toArray, List.set_cons_zero, List.set_cons_succ]
      refine lastL rfl (by kernel_rfl) (by kernel_rfl) (by kernel_rfl) rfl (fun K hK => ?_)
      go_simp
      have z2 : w1.heap.size ≤ w5.heap.size := by omega
      have z3 : w5.heap.size ≤ w6.heap.size := by omega
      have z4 : w6.heap.size ≤ w7.heap.size := by omega
      have Ho9 := Hw0_1.out
      clear hH
      obtain ⟨OB, hOB⟩ : ∃ OB, OB = w4.heap.size := ⟨_, rfl⟩
      have z1 : w1.heap.size ≤ OB := by omega
      have z5 : OB < w5.heap.size ∨ w6.heap.size ≤ OB := (by first | exact .inl (by omega) | exact .inr (by omega) | omega)
      rw [← hOB] at sO ⊢
      refine hK.out _ _ ⟨OB, w5.heap.size, w6.heap.size, axs, aw0_1, cxs, cw0_1, ?_, Hq.out, sO, Ho9, z1, z2, z3, z4, z5⟩
      rfl
    go_simp
    obtain ⟨fxs, hrxs⟩ := Hxs.out.reads
    refine (Hspec.out (.slice axs esx.length cxs) fxs _ hrxs).mono ?_
    rintro e w5 ⟨vw0_1, rfl, how0_1, hb5⟩
    have Hb5 := Lib.hid (below_step Hb4.out Hb4.out.size hb5)
    have Hq := Lib.hid (below_step Hq.out Hq.out.size hb5)
    have Hxs := Lib.hid (Hxs.out.below hb5 (by omega))
    have Sxb := Lib.hid (show Str w5 w.heap.size 41 #[.int .i64 x0, .slice ax1 esx.length capx1] from ((hb5).block _ Sxb.out.lt).trans Sxb.out)
    have Svb := Lib.hid (show Str w5 (w.heap.size + 1) 45 #[.int .i64 v0, .int .i64 v1, .int .i64 v2] from ((hb5).block _ Svb.out.lt).trans Svb.out)
    have hz5 := (hb5).size
    have Hw0_1 := Lib.hid how0_1; clear how0_1
    obtain ⟨aw0_1, cw0_1, rfl, hmlw0_1⟩ := Hw0_1.out.slice
    clear hmlw0_1
    have hhw0_1 : w4.heap.size ≤ w4.heap.size := Nat.le_refl _
    have hjw0_1 : w5.heap.size ≤ w5.heap.size := Nat.le_refl _
    clear hrxs
    dsimp only
    refine hK.out _ _ ⟨Sxb.out.cell 0 (v := .int .i64 x0) rfl, Sxb.out.cell 1 (v := .slice ax1 esx.length capx1) rfl, Svb.out.cell 0 (v := .int .i64 v0) rfl, Svb.out.cell 1 (v := .int .i64 v1) rfl, Svb.out.cell 2 (v := .int .i64 v2) rfl⟩ (fun hH => ?_)
    clear hK K
    try simp only [Act.put, List.setIfInBounds_toArray, List.set_cons_zero, List.set_cons_succ]
    refine takeL 5 (v := ?vsw12) rfl (by kernel_rfl) (by kernel_rfl) (by kernel_rfl) (by kernel_rfl) (by kernel_rfl) (fun _ _ _ h => h) hH rfl ?ysw12 ?rsw12
    case ysw12 => intro W hSw; go_simp; try with_reducible rfl
    try simp only [Act.put, List.setIfInBounds_toArray, List.set_cons_zero, List.set_cons_succ]
    refine takeL 6 (v := ?vsw13) rfl (by kernel_rfl) (by kernel_rfl) (by kernel_rfl) (by kernel_rfl) (by kernel_rfl) (fun _ _ _ h => h) hH rfl ?ysw13 ?rsw13
    case ysw13 => intro W hSw; go_simp; try with_reducible rfl
    try simp only [Act.put, List.setIfInBounds_toArray, List.set_cons_zero, List.set_cons_succ]
    refine takeL 7 (v := ?vsw14) rfl (by kernel_rfl) (by kernel_rfl) (by kernel_rfl) (by kernel_rfl) (by kernel_rfl) (fun _ _ _ h => h) hH rfl ?ysw14 ?rsw14
    case ysw14 => intro W hSw; go_simp; try with_reducible rfl
    try simp only [Act.put, List.setIfInBounds_toArray, List.set_cons_zero, List.set_cons_succ]
    refine callL 8 rfl (by kernel_rfl) rfl (fun K hK => ?_)
    go_simp
    have hal : Below w5.heap.size w5 (w5.alloc (.cells #[.int .i64 0, .slice none 0 0] 25)) := (Below.refl _ _).alloc (Nat.le_refl _) _
    have sN := Str.new w5 25 #[.int .i64 0, .slice none 0 0]
    have hzn : w5.heap.size < (w5.alloc (.cells #[.int .i64 0, .slice none 0 0] 25)).heap.size := by simp
    generalize hwn : (w5.alloc (.cells #[.int .i64 0, .slice none 0 0] 25)) = w6 at *
    have Hb6 := Lib.hid (below_step Hb5.out Hb5.out.size hal)
    have Hq := Lib.hid (below_step Hq.out Hq.out.size hal)
    have Hxs := Lib.hid (Hxs.out.below hal (by omega))
    have Hw0_1 := Lib.hid (Hw0_1.out.below hal (by omega))
    have Sxb := Lib.hid (show Str w6 w.heap.size 41 #[.int .i64 x0, .slice ax1 esx.length capx1] from ((hal).block _ Sxb.out.lt).trans Sxb.out)
    have Svb := Lib.hid (show Str w6 (w.heap.size + 1) 45 #[.int .i64 v0, .int .i64 v1, .int .i64 v2] from ((hal).block _ Svb.out.lt).trans Svb.out)
    have hz6 := (hal).size
    have Sw0 := Lib.hid sN; clear sN hal hwn
    refine hK.out _ _ ⟨Sxb.out.cell 0 (v := .int .i64 x0) rfl, Sxb.out.cell 1 (v := .slice ax1 esx.length capx1) rfl, Svb.out.cell 0 (v := .int .i64 v0) rfl, Svb.out.cell 1 (v := .int .i64 v1) rfl, Svb.out.cell 2 (v := .int .i64 v2) rfl⟩ (fun hH => ?_)
    clear hK K
    try simp only [Act.put, List.setIfInBounds_toArray, List.set_cons_zero, List.set_cons_succ]
    refine callL 9 rfl (by kernel_rfl) rfl (fun K hK => ?_)
    have y0 := Sw0.out.frozen 0
    have y1 := Sw0.out.frozen 1
    have g0 := Sw0.out.cell 0 (v := .int .i64 0) rfl
    have g1 := Sw0.out.cell 1 (v := .slice none 0 0) rfl
    go_simp
    clear y0 g0 y1 g1
    have hbt : Btw (w5.heap.size) (w5.heap.size + 1) w6 ((w6.setCell ⟨w5.heap.size, 0, none⟩ (.int .i64 N)).setCell ⟨w5.heap.size, 1, none⟩ (.slice aw0_1 R.length cw0_1)) := ((Btw.set w6 (Nat.le_refl (w5.heap.size)) (Nat.lt_succ_self _) 0 (.int .i64 N)).trans (Btw.set (w6.setCell ⟨w5.heap.size, 0, none⟩ (.int .i64 N)) (Nat.le_refl (w5.heap.size)) (Nat.lt_succ_self _) 1 (.slice aw0_1 R.length cw0_1)))
    have sO : Str ((w6.setCell ⟨w5.heap.size, 0, none⟩ (.int .i64 N)).setCell ⟨w5.heap.size, 1, none⟩ (.slice aw0_1 R.length cw0_1)) (w5.heap.size) 25 #[.int .i64 N, .slice aw0_1 R.length cw0_1] := ((Sw0.out.set 0 (.int .i64 N)).set 1 (.slice aw0_1 R.length cw0_1))
    generalize ((w6.setCell ⟨w5.heap.size, 0, none⟩ (.int .i64 N)).setCell ⟨w5.heap.size, 1, none⟩ (.slice aw0_1 R.length cw0_1)) = w7 at *
    have hz7 := hbt.size
    have Hq := Lib.hid (hbt.below Hq.out Hq.out.size (by omega))
    have Sxb := Lib.hid (Sxb.out.btw hbt (by first | exact .inl (by omega) | exact .inr (by omega) | omega))
    have Svb := Lib.hid (Svb.out.btw hbt (by first | exact .inl (by omega) | exact .inr (by omega) | omega))
    have Hw0_1 := Lib.hid (hbt.ownR Hw0_1.out (by omega) (by first | exact .inl (by omega) | exact .inr (by omega) | omega))
    clear hbt
    refine hK.out _ _ ⟨Sxb.out.cell 0 (v := .int .i64 x0) rfl, Sxb.out.cell 1 (v := .slice ax1 esx.length capx1) rfl, Svb.out.cell 0 (v := .int .i64 v0) rfl, Svb.out.cell 1 (v := .int .i64 v1) rfl, Svb.out.cell 2 (v := .int .i64 v2) rfl⟩ (fun hH => ?_)
    clear hK K
    try simp only [Act.put, List.setIfInBounds_toArray, List.set_cons_zero, List.set_cons_succ]
    refine lastL rfl (by kernel_rfl) (by kernel_rfl) (by kernel_rfl) rfl (fun K hK => ?_)
    go_simp
    have z2 : w1.heap.size ≤ w4.heap.size := by omega
    have z3 : w4.heap.size ≤ w5.heap.size := by omega
    have z4 : w5.heap.size ≤ w7.heap.size := by omega
    have Ho9 := Hw0_1.out
    clear hH
    obtain ⟨OB, hOB⟩ : ∃ OB, OB = w5.heap.size := ⟨_, rfl⟩
    have z1 : w1.heap.size ≤ OB := by omega
    have z5 : OB < w4.heap.size ∨ w5.heap.size ≤ OB := (by first | exact .inl (by omega) | exact .inr (by omega) | omega)
    rw [← hOB] at sO ⊢
    refine hK.out _ _ ⟨OB, w4.heap.size, w5.heap.size, axs, aw0_1, cxs, cw0_1, ?_, Hq.out, sO, Ho9, z1, z2, z3, z4, z5⟩
    rfl
  case hqw =>
    intro e a w2 hx
    cases e <;> first | exact hx.elim | skip
    obtain ⟨OBw, LOw, HIw, axs, aw0_1, cxs, cw0_1, rfl, hbj, so, ol, b1w, b2w, b3w, b4w, b5w⟩ := hx
    have Hb2 := Lib.hid (below_step Hb1.out Hb1.out.size hbj)
    have Sxb := Lib.hid (show Str w2 w.heap.size 41 #[.int .i64 x0, .slice ax1 esx.length capx1] from ((hbj).block _ Sxb.out.lt).trans Sxb.out)
    have Svb := Lib.hid (show Str w2 (w.heap.size + 1) 45 #[.int .i64 v0, .int .i64 v1, .int .i64 v2] from ((hbj).block _ Svb.out.lt).trans Svb.out)
    have hz2 := (hbj).size
    have b6w := so.lt
    have Sw0 := Lib.hid so; clear so
    have Hw0_1 := Lib.hid ol; clear ol hbj
    have qxb_0 := Sxb.out.cell 0 (v := .int .i64 x0) rfl
    have qxb_1 := Sxb.out.cell 1 (v := .slice ax1 esx.length capx1) rfl
    go_wp2_with fail
    refine (laws_toVoterR x0 esx (.slice ax1 esx.length capx1) fpx _ (by omega) Hpx.out Hinx.out (Hrx.out.under Hb2.out)).mono ?_
    rintro e w3 ⟨vxx, rfl, hoxx, hb3⟩
    have Hb3 := Lib.hid (below_step Hb2.out Hb2.out.size hb3)
    have Hw0_1 := Lib.hid (Hw0_1.out.below hb3 (by omega))
    have Sxb := Lib.hid (show Str w3 w.heap.size 41 #[.int .i64 x0, .slice ax1 esx.length capx1] from ((hb3).block _ Sxb.out.lt).trans Sxb.out)
    have Svb := Lib.hid (show Str w3 (w.heap.size + 1) 45 #[.int .i64 v0, .int .i64 v1, .int .i64 v2] from ((hb3).block _ Svb.out.lt).trans Svb.out)
    have Sw0 := Lib.hid (show Str w3 OBw 25 #[.int .i64 N, .slice aw0_1 R.length cw0_1] from ((hb3).block _ Sw0.out.lt).trans Sw0.out)
    have hz3 := (hb3).size
    have Hxx := Lib.hid hoxx; clear hoxx
    obtain ⟨axx, cxx, rfl, hmlxx⟩ := Hxx.out.slice
    clear hmlxx
    have hhxx : w2.heap.size ≤ w2.heap.size := Nat.le_refl _
    have hjxx : w3.heap.size ≤ w3.heap.size := Nat.le_refl _
    clear qxb_0 qxb_1
    have hAxxv : Below w3.heap.size w3 (w3.alloc (.cells #[.int .i64 x0, .slice axx esx.length cxx] 25)) := (Below.refl _ _).alloc (Nat.le_refl _) _
    have sNxxv := Str.new w3 25 #[.int .i64 x0, .slice axx esx.length cxx]
    have hzAxxv : (w3.alloc (.cells #[.int .i64 x0, .slice axx esx.length cxx] 25)).heap.size = w3.heap.size + 1 := by simp
    have hbsxxv : w3.heap.size ≤ w3.heap.size := Nat.le_refl _
    have Hb4 := Lib.hid (below_step Hb3.out Hb3.out.size hAxxv)
    have Hw0_1 := Lib.hid (Hw0_1.out.below hAxxv (by omega))
    have Hxx := Lib.hid (Hxx.out.below hAxxv (by omega))
    have Sxb := Lib.hid (show Str (w3.alloc (.cells #[.int .i64 x0, .slice axx esx.length cxx] 25)) w.heap.size 41 #[.int .i64 x0, .slice ax1 esx.length capx1] from (hAxxv.block _ Sxb.out.lt).trans Sxb.out)
    have Svb := Lib.hid (show Str (w3.alloc (.cells #[.int .i64 x0, .slice axx esx.length cxx] 25)) (w.heap.size + 1) 45 #[.int .i64 v0, .int .i64 v1, .int .i64 v2] from (hAxxv.block _ Svb.out.lt).trans Svb.out)
    have Sw0 := Lib.hid (show Str (w3.alloc (.cells #[.int .i64 x0, .slice axx esx.length cxx] 25)) OBw 25 #[.int .i64 N, .slice aw0_1 R.length cw0_1] from (hAxxv.block _ Sw0.out.lt).trans Sw0.out)
    have Sxxv := Lib.hid sNxxv; clear sNxxv
    clear hAxxv
    have qxb_0 := Sxb.out.cell 0 (v := .int .i64 x0) rfl
    have qxb_1 := Sxb.out.cell 1 (v := .slice ax1 esx.length capx1) rfl
    have qvb_0 := Svb.out.cell 0 (v := .int .i64 v0) rfl
    have qvb_1 := Svb.out.cell 1 (v := .int .i64 v1) rfl
    have qvb_2 := Svb.out.cell 2 (v := .int .i64 v2) rfl
    have qxxv_0 := Sxxv.out.cell 0 (v := .int .i64 x0) rfl
    have qxxv_1 := Sxxv.out.cell 1 (v := .slice axx esx.length cxx) rfl
    go_wp2_with fail
    generalize w3.alloc (.cells #[.int .i64 x0, .slice axx esx.length cxx] 25) = w4 at *
    have qxxv_0 := Sxxv.out.cell 0 (v := .int .i64 x0) rfl
    have qxxv_1 := Sxxv.out.cell 1 (v := .slice axx esx.length cxx) rfl
    have qvb_0 := Svb.out.cell 0 (v := .int .i64 v0) rfl
    have qvb_1 := Svb.out.cell 1 (v := .int .i64 v1) rfl
    have qvb_2 := Svb.out.cell 2 (v := .int .i64 v2) rfl
    clear qxxv_0 qxxv_1 qvb_0 qvb_1 qvb_2
    refine Code.wp_mono (Q := fun e a' w' => match e with | .normal => ∃ (OB LO HI : Nat) (ag0_1 : Option Addr) (cg0_1 : Nat), a' = (?Fig : Nat → Option Addr → Nat → Act) OB ag0_1 cg0_1 ∧ Below w4.heap.size w4 w' ∧ Str w' OB 25 #[.int .i64 N, .slice ag0_1 R.length cg0_1] ∧ OwnR 27 3 3 w' LO HI (.slice ag0_1 R.length cg0_1) R ∧ w4.heap.size ≤ OB ∧ w4.heap.size ≤ LO ∧ LO ≤ HI ∧ HI ≤ w'.heap.size ∧ (OB < LO ∨ HI ≤ OB) | _ => False) ?hqg ?hcg
    case hcg =>
      have hdr : Below w4.heap.size w4 w4.drew := (Below.refl _ _).drew
      have Hq := Lib.hid (Below.refl w4.heap.size w4)
      refine wp_region_L 9 (fun w' => w'.cell? ⟨w3.heap.size, 0, none⟩ = some (.int .i64 x0) ∧ w'.cell? ⟨w3.heap.size, 1, none⟩ = some (.slice axx esx.length cxx) ∧ w'.cell? ⟨(w.heap.size + 1), 0, none⟩ = some (.int .i64 v0) ∧ w'.cell? ⟨(w.heap.size + 1), 1, none⟩ = some (.int .i64 v1) ∧ w'.cell? ⟨(w.heap.size + 1), 2, none⟩ = some (.int .i64 v2)) (by kernel_rfl) ⟨Sxxv.out.cell 0 (v := .int .i64 x0) rfl, Sxxv.out.cell 1 (v := .slice axx esx.length cxx) rfl, Svb.out.cell 0 (v := .int .i64 v0) rfl, Svb.out.cell 1 (v := .int .i64 v1) rfl, Svb.out.cell 2 (v := .int .i64 v2) rfl⟩ (fun hH => ?_)
      generalize w4.drew = w5 at *
      have Hb5 := Lib.hid (below_step Hb4.out Hb4.out.size hdr)
      have Hq := Lib.hid (below_step Hq.out Hq.out.size hdr)
      have Hw0_1 := Lib.hid (Hw0_1.out.below hdr (by omega))
      have Hxx := Lib.hid (Hxx.out.below hdr (by omega))
      have Sxb := Lib.hid (show Str w5 w.heap.size 41 #[.int .i64 x0, .slice ax1 esx.length capx1] from ((hdr).block _ Sxb.out.lt).trans Sxb.out)
      have Svb := Lib.hid (show Str w5 (w.heap.size + 1) 45 #[.int .i64 v0, .int .i64 v1, .int .i64 v2] from ((hdr).block _ Svb.out.lt).trans Svb.out)
      have Sw0 := Lib.hid (show Str w5 OBw 25 #[.int .i64 N, .slice aw0_1 R.length cw0_1] from ((hdr).block _ Sw0.out.lt).trans Sw0.out)
      have Sxxv := Lib.hid (show Str w5 w3.heap.size 25 #[.int .i64 x0, .slice axx esx.length cxx] from ((hdr).block _ Sxxv.out.lt).trans Sxxv.out)
      have hz5 := (hdr).size
      clear hdr
      refine takeL 0 (v := ?vig1) rfl (by kernel_rfl) (by kernel_rfl) (by kernel_rfl) (by kernel_rfl) (by kernel_rfl) (fun _ _ _ h => h) hH rfl ?yig1 ?rig1
      case yig1 => intro W hSw; go_simp; try with_reducible rfl
      try simp only [Act.put, List.setIfInBounds_toArray, List.set_cons_zero, List.set_cons_succ]
      refine takeL 1 (v := ?vig2) rfl (by kernel_rfl) (by kernel_rfl) (by kernel_rfl) (by kernel_rfl) (by kernel_rfl) (fun _ _ _ h => h) hH rfl ?yig2 ?rig2
      case yig2 => intro W hSw; go_simp; try with_reducible rfl
      try simp only [Act.put, List.setIfInBounds_toArray, List.set_cons_zero, List.set_cons_succ]
      refine twoL 2 7 rfl rfl (by kernel_rfl) rfl rfl (fun K hK => ?_) (fun K hK => ?_)
      rotate_left
      · skip
        go_simp
        have hal : Below w5.heap.size w5 (w5.alloc (.cells #[.int .i64 0, .slice none 0 0] 25)) := (Below.refl _ _).alloc (Nat.le_refl _) _
        have sN := Str.new w5 25 #[.int .i64 0, .slice none 0 0]
        have hzn : w5.heap.size < (w5.alloc (.cells #[.int .i64 0, .slice none 0 0] 25)).heap.size := by simp
        generalize hwn : (w5.alloc (.cells #[.int .i64 0, .slice none 0 0] 25)) = w6 at *
        have Hb6 := Lib.hid (below_step Hb5.out Hb5.out.size hal)
        have Hq := Lib.hid (below_step Hq.out Hq.out.size hal)
        have Hw0_1 := Lib.hid (Hw0_1.out.below hal (by omega))
        have Hxx := Lib.hid (Hxx.out.below hal (by omega))
        have Sxb := Lib.hid (show Str w6 w.heap.size 41 #[.int .i64 x0, .slice ax1 esx.length capx1] from ((hal).block _ Sxb.out.lt).trans Sxb.out)
        have Svb := Lib.hid (show Str w6 (w.heap.size + 1) 45 #[.int .i64 v0, .int .i64 v1, .int .i64 v2] from ((hal).block _ Svb.out.lt).trans Svb.out)
        have Sw0 := Lib.hid (show Str w6 OBw 25 #[.int .i64 N, .slice aw0_1 R.length cw0_1] from ((hal).block _ Sw0.out.lt).trans Sw0.out)
        have Sxxv := Lib.hid (show Str w6 w3.heap.size 25 #[.int .i64 x0, .slice axx esx.length cxx] from ((hal).block _ Sxxv.out.lt).trans Sxxv.out)
        have hz6 := (hal).size
        have Sg0 := Lib.hid sN; clear sN hal hwn
        refine hK.out _ _ ⟨Sxxv.out.cell 0 (v := .int .i64 x0) rfl, Sxxv.out.cell 1 (v := .slice axx esx.length cxx) rfl, Svb.out.cell 0 (v := .int .i64 v0) rfl, Svb.out.cell 1 (v := .int .i64 v1) rfl, Svb.out.cell 2 (v := .int .i64 v2) rfl⟩ (fun hH => ?_)
        clear hK K
        try simp only [Act.put, List.setIfInBounds_toArray, List.set_cons_zero, List.set_cons_succ]
        refine callL 2 rfl (by kernel_rfl) rfl (fun K hK => ?_)
        go_simp
        refine (laws_toVoteR v0 v1 v2 _).mono ?_
        rintro e w7 ⟨rfl, hb7⟩
        have Hb7 := Lib.hid (below_step Hb6.out Hb6.out.size hb7)
        have Hq := Lib.hid (below_step Hq.out Hq.out.size hb7)
        have Hw0_1 := Lib.hid (Hw0_1.out.below hb7 (by omega))
        have Hxx := Lib.hid (Hxx.out.below hb7 (by omega))
        have Sxb := Lib.hid (show Str w7 w.heap.size 41 #[.int .i64 x0, .slice ax1 esx.length capx1] from ((hb7).block _ Sxb.out.lt).trans Sxb.out)
        have Svb := Lib.hid (show Str w7 (w.heap.size + 1) 45 #[.int .i64 v0, .int .i64 v1, .int .i64 v2] from ((hb7).block _ Svb.out.lt).trans Svb.out)
        have Sw0 := Lib.hid (show Str w7 OBw 25 #[.int .i64 N, .slice aw0_1 R.length cw0_1] from ((hb7).block _ Sw0.out.lt).trans Sw0.out)
        have Sxxv := Lib.hid (show Str w7 w3.heap.size 25 #[.int .i64 x0, .slice axx esx.length cxx] from ((hb7).block _ Sxxv.out.lt).trans Sxxv.out)
        have Sg0 := Lib.hid (show Str w7 w5.heap.size 25 #[.int .i64 0, .slice none 0 0] from ((hb7).block _ Sg0.out.lt).trans Sg0.out)
        have hz7 := (hb7).size
        dsimp only
        refine hK.out _ _ ⟨Sxxv.out.cell 0 (v := .int .i64 x0) rfl, Sxxv.out.cell 1 (v := .slice axx esx.length cxx) rfl, Svb.out.cell 0 (v := .int .i64 v0) rfl, Svb.out.cell 1 (v := .int .i64 v1) rfl, Svb.out.cell 2 (v := .int .i64 v2) rfl⟩ (fun hH => ?_)
        clear hK K
        try simp only [Act.put, List.setIfInBounds_toArray, List.set_cons_zero, List.set_cons_succ]
        refine callL 3 rfl (by kernel_rfl) rfl (fun K hK => ?_)
        go_simp
        obtain ⟨fxx, hrxx⟩ := Hxx.out.reads
        refine (Himpl.out (.slice axx esx.length cxx) fxx _ hrxx).mono ?_
        rintro e w8 ⟨vg0_1, rfl, hog0_1, hb8⟩
        have Hb8 := Lib.hid (below_step Hb7.out Hb7.out.size hb8)
        have Hq := Lib.hid (below_step Hq.out Hq.out.size hb8)
        have Hw0_1 := Lib.hid (Hw0_1.out.below hb8 (by omega))
        have Hxx := Lib.hid (Hxx.out.below hb8 (by omega))
        have Sxb := Lib.hid (show Str w8 w.heap.size 41 #[.int .i64 x0, .slice ax1 esx.length capx1] from ((hb8).block _ Sxb.out.lt).trans Sxb.out)
        have Svb := Lib.hid (show Str w8 (w.heap.size + 1) 45 #[.int .i64 v0, .int .i64 v1, .int .i64 v2] from ((hb8).block _ Svb.out.lt).trans Svb.out)
        have Sw0 := Lib.hid (show Str w8 OBw 25 #[.int .i64 N, .slice aw0_1 R.length cw0_1] from ((hb8).block _ Sw0.out.lt).trans Sw0.out)
        have Sxxv := Lib.hid (show Str w8 w3.heap.size 25 #[.int .i64 x0, .slice axx esx.length cxx] from ((hb8).block _ Sxxv.out.lt).trans Sxxv.out)
        have Sg0 := Lib.hid (show Str w8 w5.heap.size 25 #[.int .i64 0, .slice none 0 0] from ((hb8).block _ Sg0.out.lt).trans Sg0.out)
        have hz8 := (hb8).size
        have Hg0_1 := Lib.hid hog0_1; clear hog0_1
        obtain ⟨ag0_1, cg0_1, rfl, hmlg0_1⟩ := Hg0_1.out.slice
        clear hmlg0_1
        have hhg0_1 : w7.heap.size ≤ w7.heap.size := Nat.le_refl _
        have hjg0_1 : w8.heap.size ≤ w8.heap.size := Nat.le_refl _
        clear hrxx
        dsimp only
        refine hK.out _ _ ⟨Sxxv.out.cell 0 (v := .int .i64 x0) rfl, Sxxv.out.cell 1 (v := .slice axx esx.length cxx) rfl, Svb.out.cell 0 (v := .int .i64 v0) rfl, Svb.out.cell 1 (v := .int .i64 v1) rfl, Svb.out.cell 2 (v := .int .i64 v2) rfl⟩ (fun hH => ?_)
        clear hK K
        try simp only [Act.put, List.setIfInBounds_toArray, List.set_cons_zero, List.set_cons_succ]
        refine takeL 4 (v := ?vig3) rfl (by kernel_rfl) (by kernel_rfl) (by kernel_rfl) (by kernel_rfl) (by kernel_rfl) (fun _ _ _ h => h) hH rfl ?yig3 ?rig3
        case yig3 => intro W hSw; go_simp; try with_reducible rfl
        try simp only [Act.put, List.setIfInBounds_toArray, List.set_cons_zero, List.set_cons_succ]
        refine takeL 5 (v := ?vig4) rfl (by kernel_rfl) (by kernel_rfl) (by kernel_rfl) (by kernel_rfl) (by kernel_rfl) (fun _ _ _ h => h) hH rfl ?yig4 ?rig4
        case yig4 => intro W hSw; go_simp; try with_reducible rfl
        try simp only [Act.put, List.setIfInBounds_toArray, List.set_cons_zero, List.set_cons_succ]
        refine takeL 6 (v := ?vig5) rfl (by kernel_rfl) (by kernel_rfl) (by kernel_rfl) (by kernel_rfl) (by kernel_rfl) (fun _ _ _ h => h) hH rfl ?yig5 ?rig5
        case yig5 => intro W hSw; go_simp; try with_reducible rfl
        try simp only [Act.put, List.setIfInBounds_toArray, List.set_cons_zero, List.set_cons_succ]
        refine callL 8 rfl (by kernel_rfl) rfl (fun K hK => ?_)
        have y0 := Sg0.out.frozen 0
        have y1 := Sg0.out.frozen 1
        have g0 := Sg0.out.cell 0 (v := .int .i64 0) rfl
        have g1 := Sg0.out.cell 1 (v := .slice none 0 0) rfl
        go_simp
        clear y0 g0 y1 g1
        have hbt : Btw (w5.heap.size) (w5.heap.size + 1) w8 ((w8.setCell ⟨w5.heap.size, 0, none⟩ (.int .i64 N)).setCell ⟨w5.heap.size, 1, none⟩ (.slice ag0_1 R.length cg0_1)) := ((Btw.set w8 (Nat.le_refl (w5.heap.size)) (Nat.lt_succ_self _) 0 (.int .i64 N)).trans (Btw.set (w8.setCell ⟨w5.heap.size, 0, none⟩ (.int .i64 N)) (Nat.le_refl (w5.heap.size)) (Nat.lt_succ_self _) 1 (.slice ag0_1 R.length cg0_1)))
        have sO : Str ((w8.setCell ⟨w5.heap.size, 0, none⟩ (.int .i64 N)).setCell ⟨w5.heap.size, 1, none⟩ (.slice ag0_1 R.length cg0_1)) (w5.heap.size) 25 #[.int .i64 N, .slice ag0_1 R.length cg0_1] := ((Sg0.out.set 0 (.int .i64 N)).set 1 (.slice ag0_1 R.length cg0_1))
        generalize ((w8.setCell ⟨w5.heap.size, 0, none⟩ (.int .i64 N)).setCell ⟨w5.heap.size, 1, none⟩ (.slice ag0_1 R.length cg0_1)) = w9 at *
        have hz9 := hbt.size
        have Hq := Lib.hid (hbt.below Hq.out Hq.out.size (by omega))
        have Sxxv := Lib.hid (Sxxv.out.btw hbt (by first | exact .inl (by omega) | exact .inr (by omega) | omega))
        have Svb := Lib.hid (Svb.out.btw hbt (by first | exact .inl (by omega) | exact .inr (by omega) | omega))
        have Hg0_1 := Lib.hid (hbt.ownR Hg0_1.out (by omega) (by first | exact .inl (by omega) | exact .inr (by omega) | omega))
        clear hbt
        refine hK.out _ _ ⟨Sxxv.out.cell 0 (v := .int .i64 x0) rfl, Sxxv.out.cell 1 (v := .slice axx esx.length cxx) rfl, Svb.out.cell 0 (v := .int .i64 v0) rfl, Svb.out.cell 1 (v := .int .i64 v1) rfl, Svb.out.cell 2 (v := .int .i64 v2) rfl⟩ (fun hH => ?_)
        clear hK K
        try simp only [Act.put, List.setIfInBounds_toArray, List.set_cons_zero, List.set_cons_succ]
        refine lastL rfl (by kernel_rfl) (by kernel_rfl) (by kernel_rfl) rfl (fun K hK => ?_)
        go_simp
        have z2 : w4.heap.size ≤ w7.heap.size := by omega
        have z3 : w7.heap.size ≤ w8.heap.size := by omega
        have z4 : w8.heap.size ≤ w9.heap.size := by omega
        have Ho9 := Hg0_1.out
        clear hH
        obtain ⟨OB, hOB⟩ : ∃ OB, OB = w5.heap.size := ⟨_, rfl⟩
        have z1 : w4.heap.size ≤ OB := by omega
        have z5 : OB < w7.heap.size ∨ w8.heap.size ≤ OB := (by first | exact .inl (by omega) | exact .inr (by omega) | omega)
        rw [← hOB] at sO ⊢
        refine hK.out _ _ ⟨OB, w7.heap.size, w8.heap.size, ag0_1, cg0_1, ?_, Hq.out, sO, Ho9, z1, z2, z3, z4, z5⟩
        rfl
      go_simp
      refine (laws_toVoteR v0 v1 v2 _).mono ?_
      rintro e w6 ⟨rfl, hb6⟩
      have Hb6 := Lib.hid (below_step Hb5.out Hb5.out.size hb6)
      have Hq := Lib.hid (below_step Hq.out Hq.out.size hb6)
      have Hw0_1 := Lib.hid (Hw0_1.out.below hb6 (by omega))
      have Hxx := Lib.hid (Hxx.out.below hb6 (by omega))
      have Sxb := Lib.hid (show Str w6 w.heap.size 41 #[.int .i64 x0, .slice ax1 esx.length capx1] from ((hb6).block _ Sxb.out.lt).trans Sxb.out)
      have Svb := Lib.hid (show Str w6 (w.heap.size + 1) 45 #[.int .i64 v0, .int .i64 v1, .int .i64 v2] from ((hb6).block _ Svb.out.lt).trans Svb.out)
      have Sw0 := Lib.hid (show Str w6 OBw 25 #[.int .i64 N, .slice aw0_1 R.length cw0_1] from ((hb6).block _ Sw0.out.lt).trans Sw0.out)
      have Sxxv := Lib.hid (show Str w6 w3.heap.size 25 #[.int .i64 x0, .slice axx esx.length cxx] from ((hb6).block _ Sxxv.out.lt).trans Sxxv.out)
      have hz6 := (hb6).size
      dsimp only
      refine hK.out _ _ ⟨Sxxv.out.cell 0 (v := .int .i64 x0) rfl, Sxxv.out.cell 1 (v := .slice axx esx.length cxx) rfl, Svb.out.cell 0 (v := .int .i64 v0) rfl, Svb.out.cell 1 (v := .int .i64 v1) rfl, Svb.out.cell 2 (v := .int .i64 v2) rfl⟩ (fun hH => ?_)
      clear hK K
      try simp only [Act.put, List.setIfInBounds_toArray, List.set_cons_zero, List.set_cons_succ]
      refine twoL 3 7 rfl rfl (by kernel_rfl) rfl rfl (fun K hK => ?_) (fun K hK => ?_)
      rotate_left
      · skip
        go_simp
        have hal : Below w6.heap.size w6 (w6.alloc (.cells #[.int .i64 0, .slice none 0 0] 25)) := (Below.refl _ _).alloc (Nat.le_refl _) _
        have sN := Str.new w6 25 #[.int .i64 0, .slice none 0 0]
        have hzn : w6.heap.size < (w6.alloc (.cells #[.int .i64 0, .slice none 0 0] 25)).heap.size := by simp
        generalize hwn : (w6.alloc (.cells #[.int .i64 0, .slice none 0 0] 25)) = w7 at *
        have Hb7 := Lib.hid (below_step Hb6.out Hb6.out.size hal)
        have Hq := Lib.hid (below_step Hq.out Hq.out.size hal)
        have Hw0_1 := Lib.hid (Hw0_1.out.below hal (by omega))
        have Hxx := Lib.hid (Hxx.out.below hal (by omega))
        have Sxb := Lib.hid (show Str w7 w.heap.size 41 #[.int .i64 x0, .slice ax1 esx.length capx1] from ((hal).block _ Sxb.out.lt).trans Sxb.out)
        have Svb := Lib.hid (show Str w7 (w.heap.size + 1) 45 #[.int .i64 v0, .int .i64 v1, .int .i64 v2] from ((hal).block _ Svb.out.lt).trans Svb.out)
        have Sw0 := Lib.hid (show Str w7 OBw 25 #[.int .i64 N, .slice aw0_1 R.length cw0_1] from ((hal).block _ Sw0.out.lt).trans Sw0.out)
        have Sxxv := Lib.hid (show Str w7 w3.heap.size 25 #[.int .i64 x0, .slice axx esx.length cxx] from ((hal).block _ Sxxv.out.lt).trans Sxxv.out)
        have hz7 := (hal).size
        have Sg0 := Lib.hid sN; clear sN hal hwn
        refine hK.out _ _ ⟨Sxxv.out.cell 0 (v := .int .i64 x0) rfl, Sxxv.out.cell 1 (v := .slice axx esx.length cxx) rfl, Svb.out.cell 0 (v := .int .i64 v0) rfl, Svb.out.cell 1 (v := .int .i64 v1) rfl, Svb.out.cell 2 (v := .int .i64 v2) rfl⟩ (fun hH => ?_)
        clear hK K
        try simp only [Act.put, List.setIfInBounds_toArray, List.set_cons_zero, List.set_cons_succ]
        refine callL 3 rfl (by kernel_rfl) rfl (fun K hK => ?_)
        go_simp
        obtain ⟨fxx, hrxx⟩ := Hxx.out.reads
        refine (Himpl.out (.slice axx esx.length cxx) fxx _ hrxx).mono ?_
        rintro e w8 ⟨vg0_1, rfl, hog0_1, hb8⟩
        have Hb8 := Lib.hid (below_step Hb7.out Hb7.out.size hb8)
        have Hq := Lib.hid (below_step Hq.out Hq.out.size hb8)
        have Hw0_1 := Lib.hid (Hw0_1.out.below hb8 (by omega))
        have Hxx := Lib.hid (Hxx.out.below hb8 (by omega))
        have Sxb := Lib.hid (show Str w8 w.heap.size 41 #[.int .i64 x0, .slice ax1 esx.length capx1] from ((hb8).block _ Sxb.out.lt).trans Sxb.out)
        have Svb := Lib.hid (show Str w8 (w.heap.size + 1) 45 #[.int .i64 v0, .int .i64 v1, .int .i64 v2] from ((hb8).block _ Svb.out.lt).trans Svb.out)
        have Sw0 := Lib.hid (show Str w8 OBw 25 #[.int .i64 N, .slice aw0_1 R.length cw0_1] from ((hb8).block _ Sw0.out.lt).trans Sw0.out)
        have Sxxv := Lib.hid (show Str w8 w3.heap.size 25 #[.int .i64 x0, .slice axx esx.length cxx] from ((hb8).block _ Sxxv.out.lt).trans Sxxv.out)
        have Sg0 := Lib.hid (show Str w8 w6.heap.size 25 #[.int .i64 0, .slice none 0 0] from ((hb8).block _ Sg0.out.lt).trans Sg0.out)
        have hz8 := (hb8).size
        have Hg0_1 := Lib.hid hog0_1; clear hog0_1
        obtain ⟨ag0_1, cg0_1, rfl, hmlg0_1⟩ := Hg0_1.out.slice
        clear hmlg0_1
        have hhg0_1 : w7.heap.size ≤ w7.heap.size := Nat.le_refl _
        have hjg0_1 : w8.heap.size ≤ w8.heap.size := Nat.le_refl _
        clear hrxx
        dsimp only
        refine hK.out _ _ ⟨Sxxv.out.cell 0 (v := .int .i64 x0) rfl, Sxxv.out.cell 1 (v := .slice axx esx.length cxx) rfl, Svb.out.cell 0 (v := .int .i64 v0) rfl, Svb.out.cell 1 (v := .int .i64 v1) rfl, Svb.out.cell 2 (v := .int .i64 v2) rfl⟩ (fun hH => ?_)
        clear hK K
        try simp only [Act.put, List.setIfInBounds_toArray, List.set_cons_zero, List.set_cons_succ]
        refine takeL 4 (v := ?vig6) rfl (by kernel_rfl) (by kernel_rfl) (by kernel_rfl) (by kernel_rfl) (by kernel_rfl) (fun _ _ _ h => h) hH rfl ?yig6 ?rig6
        case yig6 => intro W hSw; go_simp; try with_reducible rfl
        try simp only [Act.put, List.setIfInBounds_toArray, List.set_cons_zero, List.set_cons_succ]
        refine takeL 5 (v := ?vig7) rfl (by kernel_rfl) (by kernel_rfl) (by kernel_rfl) (by kernel_rfl) (by kernel_rfl) (fun _ _ _ h => h) hH rfl ?yig7 ?rig7
        case yig7 => intro W hSw; go_simp; try with_reducible rfl
        try simp only [Act.put, List.setIfInBounds_toArray, List.set_cons_zero, List.set_cons_succ]
        refine takeL 6 (v := ?vig8) rfl (by kernel_rfl) (by kernel_rfl) (by kernel_rfl) (by kernel_rfl) (by kernel_rfl) (fun _ _ _ h => h) hH rfl ?yig8 ?rig8
        case yig8 => intro W hSw; go_simp; try with_reducible rfl
        try simp only [Act.put, List.setIfInBounds_toArray, List.set_cons_zero, List.set_cons_succ]
        refine callL 8 rfl (by kernel_rfl) rfl (fun K hK => ?_)
        have y0 := Sg0.out.frozen 0
        have y1 := Sg0.out.frozen 1
        have g0 := Sg0.out.cell 0 (v := .int .i64 0) rfl
        have g1 := Sg0.out.cell 1 (v := .slice none 0 0) rfl
        go_simp
        clear y0 g0 y1 g1
        have hbt : Btw (w6.heap.size) (w6.heap.size + 1) w8 ((w8.setCell ⟨w6.heap.size, 0, none⟩ (.int .i64 N)).setCell ⟨w6.heap.size, 1, none⟩ (.slice ag0_1 R.length cg0_1)) := ((Btw.set w8 (Nat.le_refl (w6.heap.size)) (Nat.lt_succ_self _) 0 (.int .i64 N)).trans (Btw.set (w8.setCell ⟨w6.heap.size, 0, none⟩ (.int .i64 N)) (Nat.le_refl (w6.heap.size)) (Nat.lt_succ_self _) 1 (.slice ag0_1 R.length cg0_1)))
        have sO : Str ((w8.setCell ⟨w6.heap.size, 0, none⟩ (.int .i64 N)).setCell ⟨w6.heap.size, 1, none⟩ (.slice ag0_1 R.length cg0_1)) (w6.heap.size) 25 #[.int .i64 N, .slice ag0_1 R.length cg0_1] := ((Sg0.out.set 0 (.int .i64 N)).set 1 (.slice ag0_1 R.length cg0_1))
        generalize ((w8.setCell ⟨w6.heap.size, 0, none⟩ (.int .i64 N)).setCell ⟨w6.heap.size, 1, none⟩ (.slice ag0_1 R.length cg0_1)) = w9 at *
        have hz9 := hbt.size
        have Hq := Lib.hid (hbt.below Hq.out Hq.out.size (by omega))
        have Sxxv := Lib.hid (Sxxv.out.btw hbt (by first | exact .inl (by omega) | exact .inr (by omega) | omega))
        have Svb := Lib.hid (Svb.out.btw hbt (by first | exact .inl (by omega) | exact .inr (by omega) | omega))
        have Hg0_1 := Lib.hid (hbt.ownR Hg0_1.out (by omega) (by first | exact .inl (by omega) | exact .inr (by omega) | omega))
        clear hbt
        refine hK.out _ _ ⟨Sxxv.out.cell 0 (v := .int .i64 x0) rfl, Sxxv.out.cell 1 (v := .slice axx esx.length cxx) rfl, Svb.out.cell 0 (v := .int .i64 v0) rfl, Svb.out.cell 1 (v := .int .i64 v1) rfl, Svb.out.cell 2 (v := .int .i64 v2) rfl⟩ (fun hH => ?_)
        clear hK K
        try simp only [Act.put, List.setIfInBounds_toArray, List.set_cons_zero, List.set_cons_succ]
        refine lastL rfl (by kernel_rfl) (by kernel_rfl) (by kernel_rfl) rfl (fun K hK => ?_)
        go_simp
        have z2 : w4.heap.size ≤ w7.heap.size := by omega
        have z3 : w7.heap.size ≤ w8.heap.size := by omega
        have z4 : w8.heap.size ≤ w9.heap.size := by omega
        have Ho9 := Hg0_1.out
        clear hH
        obtain ⟨OB, hOB⟩ : ∃ OB, OB = w6.heap.size := ⟨_, rfl⟩
        have z1 : w4.heap.size ≤ OB := by omega
        have z5 : OB < w7.heap.size ∨ w8.heap.size ≤ OB := (by first | exact .inl (by omega) | exact .inr (by omega) | omega)
        rw [← hOB] at sO ⊢
        refine hK.out _ _ ⟨OB, w7.heap.size, w8.heap.size, ag0_1, cg0_1, ?_, Hq.out, sO, Ho9, z1, z2, z3, z4, z5⟩
        rfl
      go_simp
      obtain ⟨fxx, hrxx⟩ := Hxx.out.reads
      refine (Himpl.out (.slice axx esx.length cxx) fxx _ hrxx).mono ?_
      rintro e w7 ⟨vg0_1, rfl, hog0_1, hb7⟩
      have Hb7 := Lib.hid (below_step Hb6.out Hb6.out.size hb7)
      have Hq := Lib.hid (below_step Hq.out Hq.out.size hb7)
      have Hw0_1 := Lib.hid (Hw0_1.out.below hb7 (by omega))
      have Hxx := Lib.hid (Hxx.out.below hb7 (by omega))
      have Sxb := Lib.hid (show Str w7 w.heap.size 41 #[.int .i64 x0, .slice ax1 esx.length capx1] from ((hb7).block _ Sxb.out.lt).trans Sxb.out)
      have Svb := Lib.hid (show Str w7 (w.heap.size + 1) 45 #[.int .i64 v0, .int .i64 v1, .int .i64 v2] from ((hb7).block _ Svb.out.lt).trans Svb.out)
      have Sw0 := Lib.hid (show Str w7 OBw 25 #[.int .i64 N, .slice aw0_1 R.length cw0_1] from ((hb7).block _ Sw0.out.lt).trans Sw0.out)
      have Sxxv := Lib.hid (show Str w7 w3.heap.size 25 #[.int .i64 x0, .slice axx esx.length cxx] from ((hb7).block _ Sxxv.out.lt).trans Sxxv.out)
      have hz7 := (hb7).size
      have Hg0_1 := Lib.hid hog0_1; clear hog0_1
      obtain ⟨ag0_1, cg0_1, rfl, hmlg0_1⟩ := Hg0_1.out.slice
      clear hmlg0_1
      have hhg0_1 : w6.heap.size ≤ w6.heap.size := Nat.le_refl _
      have hjg0_1 : w7.heap.size ≤ w7.heap.size := Nat.le_refl _
      clear hrxx
      dsimp only
      refine hK.out _ _ ⟨Sxxv.out.cell 0 (v := .int .i64 x0) rfl, Sxxv.out.cell 1 (v := .slice axx esx.length cxx) rfl, Svb.out.cell 0 (v := .int .i64 v0) rfl, Svb.out.cell 1 (v := .int .i64 v1) rfl, Svb.out.cell 2 (v := .int .i64 v2) rfl⟩ (fun hH => ?_)
      clear hK K
      try simp only [Act.put, List.setIfInBounds_toArray, List.set_cons_zero, List.set_cons_succ]
      refine takeL 4 (v := ?vig9) rfl (by kernel_rfl) (by kernel_rfl) (by kernel_rfl) (by kernel_rfl) (by kernel_rfl) (fun _ _ _ h => h) hH rfl ?yig9 ?rig9
      case yig9 => intro W hSw; go_simp; try with_reducible rfl
      try simp only [Act.put, List.setIfInBounds_toArray, List.set_cons_zero, List.set_cons_succ]
      refine takeL 5 (v := ?vig10) rfl (by kernel_rfl) (by kernel_rfl) (by kernel_rfl) (by kernel_rfl) (by kernel_rfl) (fun _ _ _ h => h) hH rfl ?yig10 ?rig10
      case yig10 => intro W hSw; go_simp; try with_reducible rfl
      try simp only [Act.put, List.setIfInBounds_toArray, List.set_cons_zero, List.set_cons_succ]
      refine takeL 6 (v := ?vig11) rfl (by kernel_rfl) (by kernel_rfl) (by kernel_rfl) (by kernel_rfl) (by kernel_rfl) (fun _ _ _ h => h) hH rfl ?yig11 ?rig11
      case yig11 => intro W hSw; go_simp; try with_reducible rfl
      try simp only [Act.put, List.setIfInBounds_toArray, List.set_cons_zero, List.set_cons_succ]
      refine callL 7 rfl (by kernel_rfl) rfl (fun K hK => ?_)
      go_simp
      have hal : Below w7.heap.size w7 (w7.alloc (.cells #[.int .i64 0, .slice none 0 0] 25)) := (Below.refl _ _).alloc (Nat.le_refl _) _
      have sN := Str.new w7 25 #[.int .i64 0, .slice none 0 0]
      have hzn : w7.heap.size < (w7.alloc (.cells #[.int .i64 0, .slice none 0 0] 25)).heap.size := by simp
      generalize hwn : (w7.alloc (.cells #[.int .i64 0, .slice none 0 0] 25)) = w8 at *
      have Hb8 := Lib.hid (below_step Hb7.out Hb7.out.size hal)
      have Hq := Lib.hid (below_step Hq.out Hq.out.size hal)
      have Hw0_1 := Lib.hid (Hw0_1.out.below hal (by omega))
      have Hxx := Lib.hid (Hxx.out.below hal (by omega))
      have Hg0_1 := Lib.hid (Hg0_1.out.below hal (by omega))
      have Sxb := Lib.hid (show Str w8 w.heap.size 41 #[.int .i64 x0, .slice ax1 esx.length capx1] from ((hal).block _ Sxb.out.lt).trans Sxb.out)
      have Svb := Lib.hid (show Str w8 (w.heap.size + 1) 45 #[.int .i64 v0, .int .i64 v1, .int .i64 v2] from ((hal).block _ Svb.out.lt).trans Svb.out)
      have Sw0 := Lib.hid (show Str w8 OBw 25 #[.int .i64 N, .slice aw0_1 R.length cw0_1] from ((hal).block _ Sw0.out.lt).trans Sw0.out)
      have Sxxv := Lib.hid (show Str w8 w3.heap.size 25 #[.int .i64 x0, .slice axx esx.length cxx] from ((hal).block _ Sxxv.out.lt).trans Sxxv.out)
      have hz8 := (hal).size
      have Sg0 := Lib.hid sN; clear sN hal hwn
      refine hK.out _ _ ⟨Sxxv.out.cell 0 (v := .int .i64 x0) rfl, Sxxv.out.cell 1 (v := .slice axx esx.length cxx) rfl, Svb.out.cell 0 (v := .int .i64 v0) rfl, Svb.out.cell 1 (v := .int .i64 v1) rfl, Svb.out.cell 2 (v := .int .i64 v2) rfl⟩ (fun hH => ?_)
      clear hK K
      try simp only [Act.put, List.setIfInBounds_toArray, List.set_cons_zero, List.set_cons_succ]
      refine callL 8 rfl (by kernel_rfl) rfl (fun K hK => ?_)
      have y0 := Sg0.out.frozen 0
      have y1 := Sg0.out.frozen 1
      have g0 := Sg0.out.cell 0 (v := .int .i64 0) rfl
      have g1 := Sg0.out.cell 1 (v := .slice none 0 0) rfl
      go_simp
      clear y0 g0 y1 g1
      have hbt : Btw (w7.heap.size) (w7.heap.size + 1) w8 ((w8.setCell ⟨w7.heap.size, 0, none⟩ (.int .i64 N)).setCell ⟨w7.heap.size, 1, none⟩ (.slice ag0_1 R.length cg0_1)) := ((Btw.set w8 (Nat.le_refl (w7.heap.size)) (Nat.lt_succ_self _) 0 (.int .i64 N)).trans (Btw.set (w8.setCell ⟨w7.heap.size, 0, none⟩ (.int .i64 N)) (Nat.le_refl (w7.heap.size)) (Nat.lt_succ_self _) 1 (.slice ag0_1 R.length cg0_1)))
      have sO : Str ((w8.setCell ⟨w7.heap.size, 0, none⟩ (.int .i64 N)).setCell ⟨w7.heap.size, 1, none⟩ (.slice ag0_1 R.length cg0_1)) (w7.heap.size) 25 #[.int .i64 N, .slice ag0_1 R.length cg0_1] := ((Sg0.out.set 0 (.int .i64 N)).set 1 (.slice ag0_1 R.length cg0_1))
      generalize ((w8.setCell ⟨w7.heap.size, 0, none⟩ (.int .i64 N)).setCell ⟨w7.heap.size, 1, none⟩ (.slice ag0_1 R.length cg0_1)) = w9 at *
      have hz9 := hbt.size
      have Hq := Lib.hid (hbt.below Hq.out Hq.out.size (by omega))
      have Sxxv := Lib.hid (Sxxv.out.btw hbt (by first | exact .inl (by omega) | exact .inr (by omega) | omega))
      have Svb := Lib.hid (Svb.out.btw hbt (by first | exact .inl (by omega) | exact .inr (by omega) | omega))
      have Hg0_1 := Lib.hid (hbt.ownR Hg0_1.out (by omega) (by first | exact .inl (by omega) | exact .inr (by omega) | omega))
      clear hbt
      refine hK.out _ _ ⟨Sxxv.out.cell 0 (v := .int .i64 x0) rfl, Sxxv.out.cell 1 (v := .slice axx esx.length cxx) rfl, Svb.out.cell 0 (v := .int .i64 v0) rfl, Svb.out.cell 1 (v := .int .i64 v1) rfl, Svb.out.cell 2 (v := .int .i64 v2) rfl⟩ (fun hH => ?_)
      clear hK K
      try simp only [Act.put, List.setIfInBounds_toArray, List.set_cons_zero, List.set_cons_succ]
      refine lastL rfl (by kernel_rfl) (by kernel_rfl) (by kernel_rfl) rfl (fun K hK => ?_)
      go_simp
      have z2 : w4.heap.size ≤ w6.heap.size := by omega
      have z3 : w6.heap.size ≤ w7.heap.size := by omega
      have z4 : w7.heap.size ≤ w9.heap.size := by omega
      have Ho9 := Hg0_1.out
      clear hH
      obtain ⟨OB, hOB⟩ : ∃ OB, OB = w7.heap.size := ⟨_, rfl⟩
      have z1 : w4.heap.size ≤ OB := by omega
      have z5 : OB < w6.heap.size ∨ w7.heap.size ≤ OB := (by first | exact .inl (by omega) | exact .inr (by omega) | omega)
      rw [← hOB] at sO ⊢
      refine hK.out _ _ ⟨OB, w6.heap.size, w7.heap.size, ag0_1, cg0_1, ?_, Hq.out, sO, Ho9, z1, z2, z3, z4, z5⟩
      rfl
    case hqg =>
      intro e a w5 hx
      cases e <;> first | exact hx.elim | skip
      obtain ⟨OBg, LOg, HIg, ag0_1, cg0_1, rfl, hbj, so, ol, b1g, b2g, b3g, b4g, b5g⟩ := hx
      have Hb5 := Lib.hid (below_step Hb4.out Hb4.out.size hbj)
      have Hw0_1 := Lib.hid (Hw0_1.out.below hbj (by omega))
      have Hxx := Lib.hid (Hxx.out.below hbj (by omega))
      have Sxb := Lib.hid (show Str w5 w.heap.size 41 #[.int .i64 x0, .slice ax1 esx.length capx1] from ((hbj).block _ Sxb.out.lt).trans Sxb.out)
      have Svb := Lib.hid (show Str w5 (w.heap.size + 1) 45 #[.int .i64 v0, .int .i64 v1, .int .i64 v2] from ((hbj).block _ Svb.out.lt).trans Svb.out)
      have Sw0 := Lib.hid (show Str w5 OBw 25 #[.int .i64 N, .slice aw0_1 R.length cw0_1] from ((hbj).block _ Sw0.out.lt).trans Sw0.out)
      have Sxxv := Lib.hid (show Str w5 w3.heap.size 25 #[.int .i64 x0, .slice axx esx.length cxx] from ((hbj).block _ Sxxv.out.lt).trans Sxxv.out)
      have hz5 := (hbj).size
      have b6g := so.lt
      have Sg0 := Lib.hid so; clear so
      have Hg0_1 := Lib.hid ol; clear ol hbj
      have qg0_0 := Sg0.out.cell 0 (v := .int .i64 N) rfl
      have qg0_1 := Sg0.out.cell 1 (v := .slice ag0_1 R.length cg0_1) rfl
      have qw0_0 := Sw0.out.cell 0 (v := .int .i64 N) rfl
      have qw0_1 := Sw0.out.cell 1 (v := .slice aw0_1 R.length cw0_1) rfl
      obtain ⟨fg0_1, hrg0_1⟩ := Hg0_1.out.reads
      obtain ⟨fw0_1, hrw0_1⟩ := Hw0_1.out.reads
      go_wp2_with fail
      refine (laws_eqVoterR ( N) R _ _ fg0_1 fw0_1 w5 (by omega) Hrp0.out Hrl0.out hrg0_1 hrw0_1).mono ?_
      rintro e w6 ⟨rfl, hb6⟩
      have Hb6 := Lib.hid (below_step Hb5.out Hb5.out.size hb6)
      have Hw0_1 := Lib.hid (Hw0_1.out.below hb6 (by omega))
      have Hxx := Lib.hid (Hxx.out.below hb6 (by omega))
      have Hg0_1 := Lib.hid (Hg0_1.out.below hb6 (by omega))
      have Sxb := Lib.hid (show Str w6 w.heap.size 41 #[.int .i64 x0, .slice ax1 esx.length capx1] from ((hb6).block _ Sxb.out.lt).trans Sxb.out)
      have Svb := Lib.hid (show Str w6 (w.heap.size + 1) 45 #[.int .i64 v0, .int .i64 v1, .int .i64 v2] from ((hb6).block _ Svb.out.lt).trans Svb.out)
      have Sw0 := Lib.hid (show Str w6 OBw 25 #[.int .i64 N, .slice aw0_1 R.length cw0_1] from ((hb6).block _ Sw0.out.lt).trans Sw0.out)
      have Sxxv := Lib.hid (show Str w6 w3.heap.size 25 #[.int .i64 x0, .slice axx esx.length cxx] from ((hb6).block _ Sxxv.out.lt).trans Sxxv.out)
      have Sg0 := Lib.hid (show Str w6 OBg 25 #[.int .i64 N, .slice ag0_1 R.length cg0_1] from ((hb6).block _ Sg0.out.lt).trans Sg0.out)
      have hz6 := (hb6).size
      clear hrg0_1 hrw0_1
      clear qg0_0 qg0_1 qw0_0 qw0_1
      have qxxv_0 := Sxxv.out.cell 0 (v := .int .i64 x0) rfl
      have qxxv_1 := Sxxv.out.cell 1 (v := .slice axx esx.length cxx) rfl
      have qxb_0 := Sxb.out.cell 0 (v := .int .i64 x0) rfl
      have qxb_1 := Sxb.out.cell 1 (v := .slice ax1 esx.length capx1) rfl
      go_wp2_with fail
      clear qxxv_0 qxxv_1 qxb_0 qxb_1
      have hdr : Below w6.heap.size w6 w6.drew := (Below.refl _ _).drew
      refine wp_region_held_drew (S := fun w' => w'.cell? ⟨w3.heap.size, 0, none⟩ = some (.int .i64 x0) ∧ w'.cell? ⟨w3.heap.size, 1, none⟩ = some (.slice axx esx.length cxx) ∧ w'.cell? ⟨w.heap.size, 0, none⟩ = some (.int .i64 x0) ∧ w'.cell? ⟨w.heap.size, 1, none⟩ = some (.slice ax1 esx.length capx1)) (by kernel_rfl) ⟨Sxxv.out.cell 0 (v := .int .i64 x0) rfl, Sxxv.out.cell 1 (v := .slice axx esx.length cxx) rfl, Sxb.out.cell 0 (v := .int .i64 x0) rfl, Sxb.out.cell 1 (v := .slice ax1 esx.length capx1) rfl⟩ (fun hH => ?_)
      generalize w6.drew = w7 at *
      have Hb7 := Lib.hid (below_step Hb6.out Hb6.out.size hdr)
      have Hw0_1 := Lib.hid (Hw0_1.out.below hdr (by omega))
      have Hxx := Lib.hid (Hxx.out.below hdr (by omega))
      have Hg0_1 := Lib.hid (Hg0_1.out.below hdr (by omega))
      have Sxb := Lib.hid (show Str w7 w.heap.size 41 #[.int .i64 x0, .slice ax1 esx.length capx1] from ((hdr).block _ Sxb.out.lt).trans Sxb.out)
      have Svb := Lib.hid (show Str w7 (w.heap.size + 1) 45 #[.int .i64 v0, .int .i64 v1, .int .i64 v2] from ((hdr).block _ Svb.out.lt).trans Svb.out)
      have Sw0 := Lib.hid (show Str w7 OBw 25 #[.int .i64 N, .slice aw0_1 R.length cw0_1] from ((hdr).block _ Sw0.out.lt).trans Sw0.out)
      have Sxxv := Lib.hid (show Str w7 w3.heap.size 25 #[.int .i64 x0, .slice axx esx.length cxx] from ((hdr).block _ Sxxv.out.lt).trans Sxxv.out)
      have Sg0 := Lib.hid (show Str w7 OBg 25 #[.int .i64 N, .slice ag0_1 R.length cg0_1] from ((hdr).block _ Sg0.out.lt).trans Sg0.out)
      have hz7 := (hdr).size
      clear hdr
      refine takeH 0 (v := ?vqx0) rfl (by kernel_rfl) (by kernel_rfl) (by kernel_rfl) (fun _ _ _ h => h) hH rfl ?yqx0 ?rqx0
      case yqx0 => intro W hSw; go_simp; try with_reducible rfl
      try simp only [Act.put, List.setIfInBounds_toArray, List.set_cons_zero, List.set_cons_succ]
      refine takeH 1 (v := ?vqx1) rfl (by kernel_rfl) (by kernel_rfl) (by kernel_rfl) (fun _ _ _ h => h) hH rfl ?yqx1 ?rqx1
      case yqx1 => intro W hSw; go_simp; try with_reducible rfl
      try simp only [Act.put, List.setIfInBounds_toArray, List.set_cons_zero, List.set_cons_succ]
      refine callH 2 rfl (by kernel_rfl) rfl (fun K hK => ?_)
      go_simp
      refine (laws_toVoterR x0 esx (.slice ax1 esx.length capx1) fpx _ (by omega) Hpx.out Hinx.out (Hrx.out.under Hb7.out)).mono ?_
      rintro e w8 ⟨vxy, rfl, hoxy, hb8⟩
      have Hb8 := Lib.hid (below_step Hb7.out Hb7.out.size hb8)
      have Hw0_1 := Lib.hid (Hw0_1.out.below hb8 (by omega))
      have Hxx := Lib.hid (Hxx.out.below hb8 (by omega))
      have Hg0_1 := Lib.hid (Hg0_1.out.below hb8 (by omega))
      have Sxb := Lib.hid (show Str w8 w.heap.size 41 #[.int .i64 x0, .slice ax1 esx.length capx1] from ((hb8).block _ Sxb.out.lt).trans Sxb.out)
      have Svb := Lib.hid (show Str w8 (w.heap.size + 1) 45 #[.int .i64 v0, .int .i64 v1, .int .i64 v2] from ((hb8).block _ Svb.out.lt).trans Svb.out)
      have Sw0 := Lib.hid (show Str w8 OBw 25 #[.int .i64 N, .slice aw0_1 R.length cw0_1] from ((hb8).block _ Sw0.out.lt).trans Sw0.out)
      have Sxxv := Lib.hid (show Str w8 w3.heap.size 25 #[.int .i64 x0, .slice axx esx.length cxx] from ((hb8).block _ Sxxv.out.lt).trans Sxxv.out)
      have Sg0 := Lib.hid (show Str w8 OBg 25 #[.int .i64 N, .slice ag0_1 R.length cg0_1] from ((hb8).block _ Sg0.out.lt).trans Sg0.out)
      have hz8 := (hb8).size
      have Hxy := Lib.hid hoxy; clear hoxy
      obtain ⟨axy, cxy, rfl, hmlxy⟩ := Hxy.out.slice
      clear hmlxy
      have hhxy : w7.heap.size ≤ w7.heap.size := Nat.le_refl _
      have hjxy : w8.heap.size ≤ w8.heap.size := Nat.le_refl _
      dsimp only
      refine hK.out _ _ ⟨Sxxv.out.cell 0 (v := .int .i64 x0) rfl, Sxxv.out.cell 1 (v := .slice axx esx.length cxx) rfl, Sxb.out.cell 0 (v := .int .i64 x0) rfl, Sxb.out.cell 1 (v := .slice ax1 esx.length capx1) rfl⟩ (fun hH => ?_)
      clear hK K
      try simp only [Act.put, List.setIfInBounds_toArray, List.set_cons_zero, List.set_cons_succ]
      refine callH 3 rfl (by kernel_rfl) rfl (fun K hK => ?_)
      go_simp
      obtain ⟨fxx, hrxx⟩ := Hxx.out.reads
      obtain ⟨fxy, hrxy⟩ := Hxy.out.reads
      refine (laws_eqVoterR x0 esx _ _ fxx fxy w8 (by omega) Hpx.out Hlnx.out hrxx hrxy).mono ?_
      rintro e w9 ⟨rfl, hb9⟩
      have Hb9 := Lib.hid (below_step Hb8.out Hb8.out.size hb9)
      have Hw0_1 := Lib.hid (Hw0_1.out.below hb9 (by omega))
      have Hxx := Lib.hid (Hxx.out.below hb9 (by omega))
      have Hg0_1 := Lib.hid (Hg0_1.out.below hb9 (by omega))
      have Hxy := Lib.hid (Hxy.out.below hb9 (by omega))
      have Sxb := Lib.hid (show Str w9 w.heap.size 41 #[.int .i64 x0, .slice ax1 esx.length capx1] from ((hb9).block _ Sxb.out.lt).trans Sxb.out)
      have Svb := Lib.hid (show Str w9 (w.heap.size + 1) 45 #[.int .i64 v0, .int .i64 v1, .int .i64 v2] from ((hb9).block _ Svb.out.lt).trans Svb.out)
      have Sw0 := Lib.hid (show Str w9 OBw 25 #[.int .i64 N, .slice aw0_1 R.length cw0_1] from ((hb9).block _ Sw0.out.lt).trans Sw0.out)
      have Sxxv := Lib.hid (show Str w9 w3.heap.size 25 #[.int .i64 x0, .slice axx esx.length cxx] from ((hb9).block _ Sxxv.out.lt).trans Sxxv.out)
      have Sg0 := Lib.hid (show Str w9 OBg 25 #[.int .i64 N, .slice ag0_1 R.length cg0_1] from ((hb9).block _ Sg0.out.lt).trans Sg0.out)
      have hz9 := (hb9).size
      clear hrxx hrxy
      dsimp only
      refine hK.out _ _ ⟨Sxxv.out.cell 0 (v := .int .i64 x0) rfl, Sxxv.out.cell 1 (v := .slice axx esx.length cxx) rfl, Sxb.out.cell 0 (v := .int .i64 x0) rfl, Sxb.out.cell 1 (v := .slice ax1 esx.length capx1) rfl⟩ (fun hH => ?_)
      clear hK K
      try simp only [Act.put, List.setIfInBounds_toArray, List.set_cons_zero, List.set_cons_succ]
      refine takeH 4 (v := ?vqx4) rfl (by kernel_rfl) (by kernel_rfl) (by kernel_rfl) (fun _ _ _ h => h) hH rfl ?yqx4 ?rqx4
      case yqx4 => intro W hSw; go_simp; try with_reducible rfl
      try simp only [Act.put, List.setIfInBounds_toArray, List.set_cons_zero, List.set_cons_succ]
      refine wpAnyH_done (by kernel_rfl) ?_ _
      try simp only [Act.put]
      clear hH
      clear Hxy
      have qxxv_0 := Sxxv.out.cell 0 (v := .int .i64 x0) rfl
      have qxxv_1 := Sxxv.out.cell 1 (v := .slice axx esx.length cxx) rfl
      go_wp2_with fail
      have hkk := Hkbx.out (1)
      refine (laws_markVoterR x0 esx _ (1) w2.heap.size w3.heap.size w9 (by omega) Hpx.out (by omega) Hxx.out).mono ?_
      rintro e w10 ⟨rfl, ho, hbt⟩
      clear qxxv_0 qxxv_1
      have Hb10 := Lib.hid ((hbt).below Hb9.out Hb9.out.size (by omega))
      have hz10 := (hbt).size
      have Hw0_1 := Lib.hid ((hbt).ownR Hw0_1.out (by omega) (by first | exact .inl (by omega) | exact .inr (by omega) | omega))
      have Hg0_1 := Lib.hid ((hbt).ownR Hg0_1.out (by omega) (by first | exact .inl (by omega) | exact .inr (by omega) | omega))
      have Sxb := Lib.hid (Sxb.out.btw (hbt) (by first | exact .inl (by omega) | exact .inr (by omega) | omega))
      have Svb := Lib.hid (Svb.out.btw (hbt) (by first | exact .inl (by omega) | exact .inr (by omega) | omega))
      have Sw0 := Lib.hid (Sw0.out.btw (hbt) (by first | exact .inl (by omega) | exact .inr (by omega) | omega))
      have Sxxv := Lib.hid (Sxxv.out.btw (hbt) (by first | exact .inl (by omega) | exact .inr (by omega) | omega))
      have Sg0 := Lib.hid (Sg0.out.btw (hbt) (by first | exact .inl (by omega) | exact .inr (by omega) | omega))
      have Hxx := Lib.hid (ho)
      clear ho hbt
      generalize kTo esx (1) esx.length = k1 at *
      have hkn : decide (((k1 : Nat) : Int) < 0) = false := decide_eq_false (by omega)
      have hkn' : ¬ ((k1 : Nat) : Int) < 0 := by omega
      have qg0_0 := Sg0.out.cell 0 (v := .int .i64 N) rfl
      have qg0_1 := Sg0.out.cell 1 (v := .slice ag0_1 R.length cg0_1) rfl
      have qw0_0 := Sw0.out.cell 0 (v := .int .i64 N) rfl
      have qw0_1 := Sw0.out.cell 1 (v := .slice aw0_1 R.length cw0_1) rfl
      obtain ⟨fg0_1, hrg0_1⟩ := Hg0_1.out.reads
      obtain ⟨fw0_1, hrw0_1⟩ := Hw0_1.out.reads
      go_wp2_with fail
      refine (laws_eqVoterR ( N) R _ _ fg0_1 fw0_1 w10 (by omega) Hrp0.out Hrl0.out hrg0_1 hrw0_1).mono ?_
      rintro e w11 ⟨rfl, hb11⟩
      have Hb11 := Lib.hid (below_step Hb10.out Hb10.out.size hb11)
      have Hw0_1 := Lib.hid (Hw0_1.out.below hb11 (by omega))
      have Hxx := Lib.hid (Hxx.out.below hb11 (by omega))
      have Hg0_1 := Lib.hid (Hg0_1.out.below hb11 (by omega))
      have Sxb := Lib.hid (show Str w11 w.heap.size 41 #[.int .i64 x0, .slice ax1 esx.length capx1] from ((hb11).block _ Sxb.out.lt).trans Sxb.out)
      have Svb := Lib.hid (show Str w11 (w.heap.size + 1) 45 #[.int .i64 v0, .int .i64 v1, .int .i64 v2] from ((hb11).block _ Svb.out.lt).trans Svb.out)
      have Sw0 := Lib.hid (show Str w11 OBw 25 #[.int .i64 N, .slice aw0_1 R.length cw0_1] from ((hb11).block _ Sw0.out.lt).trans Sw0.out)
      have Sxxv := Lib.hid (show Str w11 w3.heap.size 25 #[.int .i64 x0, .slice axx esx.length cxx] from ((hb11).block _ Sxxv.out.lt).trans Sxxv.out)
      have Sg0 := Lib.hid (show Str w11 OBg 25 #[.int .i64 N, .slice ag0_1 R.length cg0_1] from ((hb11).block _ Sg0.out.lt).trans Sg0.out)
      have hz11 := (hb11).size
      clear hrg0_1 hrw0_1
      clear qg0_0 qg0_1 qw0_0 qw0_1
      have qg0_0 := Sg0.out.cell 0 (v := .int .i64 N) rfl
      have qg0_1 := Sg0.out.cell 1 (v := .slice ag0_1 R.length cg0_1) rfl
      go_wp2_with fail
      have hkk := Hrk0.out (1)
      refine (laws_markVoterR ( N) R _ (1) LOg HIg w11 (by omega) Hrp0.out (by omega) Hg0_1.out).mono ?_
      rintro e w12 ⟨rfl, ho, hbt⟩
      clear qg0_0 qg0_1
      have Hb12 := Lib.hid ((hbt).below Hb11.out Hb11.out.size (by omega))
      have hz12 := (hbt).size
      have Hw0_1 := Lib.hid ((hbt).ownR Hw0_1.out (by omega) (by first | exact .inl (by omega) | exact .inr (by omega) | omega))
      have Hxx := Lib.hid ((hbt).ownR Hxx.out (by omega) (by first | exact .inl (by omega) | exact .inr (by omega) | omega))
      have Sxb := Lib.hid (Sxb.out.btw (hbt) (by first | exact .inl (by omega) | exact .inr (by omega) | omega))
      have Svb := Lib.hid (Svb.out.btw (hbt) (by first | exact .inl (by omega) | exact .inr (by omega) | omega))
      have Sw0 := Lib.hid (Sw0.out.btw (hbt) (by first | exact .inl (by omega) | exact .inr (by omega) | omega))
      have Sxxv := Lib.hid (Sxxv.out.btw (hbt) (by first | exact .inl (by omega) | exact .inr (by omega) | omega))
      have Sg0 := Lib.hid (Sg0.out.btw (hbt) (by first | exact .inl (by omega) | exact .inr (by omega) | omega))
      have Hg0_1 := Lib.hid (ho)
      clear ho hbt
      generalize hm1 : kTo R (1) R.length = m1 at *
      have Hm1 := Lib.hid hm1; clear hm1
      have hmn : decide (((m1 : Nat) : Int) < 0) = false := decide_eq_false (by omega)
      have hmn' : ¬ ((m1 : Nat) : Int) < 0 := by omega
      have hhe := laws_heldVoterR ( N) R _ (1) LOg HIg w12 (by have := Hrk0.out (1); omega) Hrp0.out (by omega) Hg0_1.out
      rw [Hm1.out] at hhe
      have Hhe := Lib.hid hhe; clear hhe
      have qg0_0 := Sg0.out.cell 0 (v := .int .i64 N) rfl
      have qg0_1 := Sg0.out.cell 1 (v := .slice ag0_1 R.length cg0_1) rfl
      go_wp2_with fail
      refine (Hhe.out).mono ?_
      rintro e w13 ⟨rfl, hb13⟩
      have Hb13 := Lib.hid (below_step Hb12.out Hb12.out.size hb13)
      have Hw0_1 := Lib.hid (Hw0_1.out.below hb13 (by omega))
      have Hxx := Lib.hid (Hxx.out.below hb13 (by omega))
      have Hg0_1 := Lib.hid (Hg0_1.out.below hb13 (by omega))
      have Sxb := Lib.hid (show Str w13 w.heap.size 41 #[.int .i64 x0, .slice ax1 esx.length capx1] from ((hb13).block _ Sxb.out.lt).trans Sxb.out)
      have Svb := Lib.hid (show Str w13 (w.heap.size + 1) 45 #[.int .i64 v0, .int .i64 v1, .int .i64 v2] from ((hb13).block _ Svb.out.lt).trans Svb.out)
      have Sw0 := Lib.hid (show Str w13 OBw 25 #[.int .i64 N, .slice aw0_1 R.length cw0_1] from ((hb13).block _ Sw0.out.lt).trans Sw0.out)
      have Sxxv := Lib.hid (show Str w13 w3.heap.size 25 #[.int .i64 x0, .slice axx esx.length cxx] from ((hb13).block _ Sxxv.out.lt).trans Sxxv.out)
      have Sg0 := Lib.hid (show Str w13 OBg 25 #[.int .i64 N, .slice ag0_1 R.length cg0_1] from ((hb13).block _ Sg0.out.lt).trans Sg0.out)
      have hz13 := (hb13).size
      clear qg0_0 qg0_1
      clear Hhe
      clear Hxx
      have qxb_0 := Sxb.out.cell 0 (v := .int .i64 x0) rfl
      have qxb_1 := Sxb.out.cell 1 (v := .slice ax1 esx.length capx1) rfl
      have qvb_0 := Svb.out.cell 0 (v := .int .i64 v0) rfl
      have qvb_1 := Svb.out.cell 1 (v := .int .i64 v1) rfl
      have qvb_2 := Svb.out.cell 2 (v := .int .i64 v2) rfl
      go_wp2_with fail
      clear qxb_0 qxb_1 qvb_0 qvb_1 qvb_2
      refine Code.wp_mono (Q := fun e a' w' => match e with | .normal => ∃ (OB LO HI : Nat) (axz ah0_1 : Option Addr) (cxz ch0_1 : Nat), a' = (?Fih : Nat → Option Addr → Option Addr → Nat → Nat → Act) OB axz ah0_1 cxz ch0_1 ∧ Below w13.heap.size w13 w' ∧ Str w' OB 25 #[.int .i64 N, .slice ah0_1 R.length ch0_1] ∧ OwnR 27 3 3 w' LO HI (.slice ah0_1 R.length ch0_1) R ∧ w13.heap.size ≤ OB ∧ w13.heap.size ≤ LO ∧ LO ≤ HI ∧ HI ≤ w'.heap.size ∧ (OB < LO ∨ HI ≤ OB) | _ => False) ?hqh ?hch
      case hch =>
        have hdr : Below w13.heap.size w13 w13.drew := (Below.refl _ _).drew
        have Hq := Lib.hid (Below.refl w13.heap.size w13)
        refine wp_region_L 10 (fun w' => w'.cell? ⟨w.heap.size, 0, none⟩ = some (.int .i64 x0) ∧ w'.cell? ⟨w.heap.size, 1, none⟩ = some (.slice ax1 esx.length capx1) ∧ w'.cell? ⟨(w.heap.size + 1), 0, none⟩ = some (.int .i64 v0) ∧ w'.cell? ⟨(w.heap.size + 1), 1, none⟩ = some (.int .i64 v1) ∧ w'.cell? ⟨(w.heap.size + 1), 2, none⟩ = some (.int .i64 v2)) (by kernel_rfl) ⟨Sxb.out.cell 0 (v := .int .i64 x0) rfl, Sxb.out.cell 1 (v := .slice ax1 esx.length capx1) rfl, Svb.out.cell 0 (v := .int .i64 v0) rfl, Svb.out.cell 1 (v := .int .i64 v1) rfl, Svb.out.cell 2 (v := .int .i64 v2) rfl⟩ (fun hH => ?_)
        generalize w13.drew = w14 at *
        have Hb14 := Lib.hid (below_step Hb13.out Hb13.out.size hdr)
        have Hq := Lib.hid (below_step Hq.out Hq.out.size hdr)
        have Hw0_1 := Lib.hid (Hw0_1.out.below hdr (by omega))
        have Hg0_1 := Lib.hid (Hg0_1.out.below hdr (by omega))
        have Sxb := Lib.hid (show Str w14 w.heap.size 41 #[.int .i64 x0, .slice ax1 esx.length capx1] from ((hdr).block _ Sxb.out.lt).trans Sxb.out)
        have Svb := Lib.hid (show Str w14 (w.heap.size + 1) 45 #[.int .i64 v0, .int .i64 v1, .int .i64 v2] from ((hdr).block _ Svb.out.lt).trans Svb.out)
        have Sw0 := Lib.hid (show Str w14 OBw 25 #[.int .i64 N, .slice aw0_1 R.length cw0_1] from ((hdr).block _ Sw0.out.lt).trans Sw0.out)
        have Sxxv := Lib.hid (show Str w14 w3.heap.size 25 #[.int .i64 x0, .slice axx esx.length cxx] from ((hdr).block _ Sxxv.out.lt).trans Sxxv.out)
        have Sg0 := Lib.hid (show Str w14 OBg 25 #[.int .i64 N, .slice ag0_1 R.length cg0_1] from ((hdr).block _ Sg0.out.lt).trans Sg0.out)
        have hz14 := (hdr).size
        clear hdr
        refine takeL 0 (v := ?vih1) rfl (by kernel_rfl) (by kernel_rfl) (by kernel_rfl) (by kernel_rfl) (by kernel_rfl) (fun _ _ _ h => h) hH rfl ?yih1 ?rih1
        case yih1 => intro W hSw; go_simp; try with_reducible rfl
        try simp only [Act.put, List.setIfInBounds_toArray, List.set_cons_zero, List.set_cons_succ]
        refine takeL 2 (v := ?vih2) rfl (by kernel_rfl) (by kernel_rfl) (by kernel_rfl) (by kernel_rfl) (by kernel_rfl) (fun _ _ _ h => h) hH rfl ?yih2 ?rih2
        case yih2 => intro W hSw; go_simp; try with_reducible rfl
        try simp only [Act.put, List.setIfInBounds_toArray, List.set_cons_zero, List.set_cons_succ]
        refine twoL 1 8 rfl rfl (by kernel_rfl) rfl rfl (fun K hK => ?_) (fun K hK => ?_)
        rotate_left
        · skip
          go_simp
          have hal : Below w14.heap.size w14 (w14.alloc (.cells #[.int .i64 0, .slice none 0 0] 25)) := (Below.refl _ _).alloc (Nat.le_refl _) _
          have sN := Str.new w14 25 #[.int .i64 0, .slice none 0 0]
          have hzn : w14.heap.size < (w14.alloc (.cells #[.int .i64 0, .slice none 0 0] 25)).heap.size := by simp
          generalize hwn : (w14.alloc (.cells #[.int .i64 0, .slice none 0 0] 25)) = w15 at *
          have Hb15 := Lib.hid (below_step Hb14.out Hb14.out.size hal)
          have Hq := Lib.hid (below_step Hq.out Hq.out.size hal)
          have Hw0_1 := Lib.hid (Hw0_1.out.below hal (by omega))
          have Hg0_1 := Lib.hid (Hg0_1.out.below hal (by omega))
          have Sxb := Lib.hid (show Str w15 w.heap.size 41 #[.int .i64 x0, .slice ax1 esx.length capx1] from ((hal).block _ Sxb.out.lt).trans Sxb.out)
          have Svb := Lib.hid (show Str w15 (w.heap.size + 1) 45 #[.int .i64 v0, .int .i64 v1, .int .i64 v2] from ((hal).block _ Svb.out.lt).trans Svb.out)
          have Sw0 := Lib.hid (show Str w15 OBw 25 #[.int .i64 N, .slice aw0_1 R.length cw0_1] from ((hal).block _ Sw0.out.lt).trans Sw0.out)
          have Sxxv := Lib.hid (show Str w15 w3.heap.size 25 #[.int .i64 x0, .slice axx esx.length cxx] from ((hal).block _ Sxxv.out.lt).trans Sxxv.out)
          have Sg0 := Lib.hid (show Str w15 OBg 25 #[.int .i64 N, .slice ag0_1 R.length cg0_1] from ((hal).block _ Sg0.out.lt).trans Sg0.out)
          have hz15 := (hal).size
          have Sh0 := Lib.hid sN; clear sN hal hwn
          refine hK.out _ _ ⟨Sxb.out.cell 0 (v := .int .i64 x0) rfl, Sxb.out.cell 1 (v := .slice ax1 esx.length capx1) rfl, Svb.out.cell 0 (v := .int .i64 v0) rfl, Svb.out.cell 1 (v := .int .i64 v1) rfl, Svb.out.cell 2 (v := .int .i64 v2) rfl⟩ (fun hH => ?_)
          clear hK K
          try simp only [Act.put, List.setIfInBounds_toArray, List.set_cons_zero, List.set_cons_succ]
          refine callL 1 rfl (by kernel_rfl) rfl (fun K hK => ?_)
          go_simp
          refine (laws_toVoterR x0 esx (.slice ax1 esx.length capx1) fpx _ (by omega) Hpx.out Hinx.out (Hrx.out.under Hb15.out)).mono ?_
          rintro e w16 ⟨vxz, rfl, hoxz, hb16⟩
          have Hb16 := Lib.hid (below_step Hb15.out Hb15.out.size hb16)
          have Hq := Lib.hid (below_step Hq.out Hq.out.size hb16)
          have Hw0_1 := Lib.hid (Hw0_1.out.below hb16 (by omega))
          have Hg0_1 := Lib.hid (Hg0_1.out.below hb16 (by omega))
          have Sxb := Lib.hid (show Str w16 w.heap.size 41 #[.int .i64 x0, .slice ax1 esx.length capx1] from ((hb16).block _ Sxb.out.lt).trans Sxb.out)
          have Svb := Lib.hid (show Str w16 (w.heap.size + 1) 45 #[.int .i64 v0, .int .i64 v1, .int .i64 v2] from ((hb16).block _ Svb.out.lt).trans Svb.out)
          have Sw0 := Lib.hid (show Str w16 OBw 25 #[.int .i64 N, .slice aw0_1 R.length cw0_1] from ((hb16).block _ Sw0.out.lt).trans Sw0.out)
          have Sxxv := Lib.hid (show Str w16 w3.heap.size 25 #[.int .i64 x0, .slice axx esx.length cxx] from ((hb16).block _ Sxxv.out.lt).trans Sxxv.out)
          have Sg0 := Lib.hid (show Str w16 OBg 25 #[.int .i64 N, .slice ag0_1 R.length cg0_1] from ((hb16).block _ Sg0.out.lt).trans Sg0.out)
          have Sh0 := Lib.hid (show Str w16 w14.heap.size 25 #[.int .i64 0, .slice none 0 0] from ((hb16).block _ Sh0.out.lt).trans Sh0.out)
          have hz16 := (hb16).size
          have Hxz := Lib.hid hoxz; clear hoxz
          obtain ⟨axz, cxz, rfl, hmlxz⟩ := Hxz.out.slice
          clear hmlxz
          have hhxz : w15.heap.size ≤ w15.heap.size := Nat.le_refl _
          have hjxz : w16.heap.size ≤ w16.heap.size := Nat.le_refl _
          dsimp only
          refine hK.out _ _ ⟨Sxb.out.cell 0 (v := .int .i64 x0) rfl, Sxb.out.cell 1 (v := .slice ax1 esx.length capx1) rfl, Svb.out.cell 0 (v := .int .i64 v0) rfl, Svb.out.cell 1 (v := .int .i64 v1) rfl, Svb.out.cell 2 (v := .int .i64 v2) rfl⟩ (fun hH => ?_)
          clear hK K
          try simp only [Act.put, List.setIfInBounds_toArray, List.set_cons_zero, List.set_cons_succ]
          refine callL 3 rfl (by kernel_rfl) rfl (fun K hK => ?_)
          go_simp
          refine (laws_toVoteR v0 v1 v2 _).mono ?_
          rintro e w17 ⟨rfl, hb17⟩
          have Hb17 := Lib.hid (below_step Hb16.out Hb16.out.size hb17)
          have Hq := Lib.hid (below_step Hq.out Hq.out.size hb17)
          have Hw0_1 := Lib.hid (Hw0_1.out.below hb17 (by omega))
          have Hg0_1 := Lib.hid (Hg0_1.out.below hb17 (by omega))
          have Hxz := Lib.hid (Hxz.out.below hb17 (by omega))
          have Sxb := Lib.hid (show Str w17 w.heap.size 41 #[.int .i64 x0, .slice ax1 esx.length capx1] from ((hb17).block _ Sxb.out.lt).trans Sxb.out)
          have Svb := Lib.hid (show Str w17 (w.heap.size + 1) 45 #[.int .i64 v0, .int .i64 v1, .int .i64 v2] from ((hb17).block _ Svb.out.lt).trans Svb.out)
          have Sw0 := Lib.hid (show Str w17 OBw 25 #[.int .i64 N, .slice aw0_1 R.length cw0_1] from ((hb17).block _ Sw0.out.lt).trans Sw0.out)
          have Sxxv := Lib.hid (show Str w17 w3.heap.size 25 #[.int .i64 x0, .slice axx esx.length cxx] from ((hb17).block _ Sxxv.out.lt).trans Sxxv.out)
          have Sg0 := Lib.hid (show Str w17 OBg 25 #[.int .i64 N, .slice ag0_1 R.length cg0_1] from ((hb17).block _ Sg0.out.lt).trans Sg0.out)
          have Sh0 := Lib.hid (show Str w17 w14.heap.size 25 #[.int .i64 0, .slice none 0 0] from ((hb17).block _ Sh0.out.lt).trans Sh0.out)
          have hz17 := (hb17).size
          dsimp only
          refine hK.out _ _ ⟨Sxb.out.cell 0 (v := .int .i64 x0) rfl, Sxb.out.cell 1 (v := .slice ax1 esx.length capx1) rfl, Svb.out.cell 0 (v := .int .i64 v0) rfl, Svb.out.cell 1 (v := .int .i64 v1) rfl, Svb.out.cell 2 (v := .int .i64 v2) rfl⟩ (fun hH => ?_)
          clear hK K
          try simp only [Act.put, List.setIfInBounds_toArray, List.set_cons_zero, List.set_cons_succ]
          refine callL 4 rfl (by kernel_rfl) rfl (fun K hK => ?_)
          go_simp
          obtain ⟨fxz, hrxz⟩ := Hxz.out.reads
          refine (Himpl.out (.slice axz esx.length cxz) fxz _ hrxz).mono ?_
          rintro e w18 ⟨vh0_1, rfl, hoh0_1, hb18⟩
          have Hb18 := Lib.hid (below_step Hb17.out Hb17.out.size hb18)
          have Hq := Lib.hid (below_step Hq.out Hq.out.size hb18)
          have Hw0_1 := Lib.hid (Hw0_1.out.below hb18 (by omega))
          have Hg0_1 := Lib.hid (Hg0_1.out.below hb18 (by omega))
          have Hxz := Lib.hid (Hxz.out.below hb18 (by omega))
          have Sxb := Lib.hid (show Str w18 w.heap.size 41 #[.int .i64 x0, .slice ax1 esx.length capx1] from ((hb18).block _ Sxb.out.lt).trans Sxb.out)
          have Svb := Lib.hid (show Str w18 (w.heap.size + 1) 45 #[.int .i64 v0, .int .i64 v1, .int .i64 v2] from ((hb18).block _ Svb.out.lt).trans Svb.out)
          have Sw0 := Lib.hid (show Str w18 OBw 25 #[.int .i64 N, .slice aw0_1 R.length cw0_1] from ((hb18).block _ Sw0.out.lt).trans Sw0.out)
          have Sxxv := Lib.hid (show Str w18 w3.heap.size 25 #[.int .i64 x0, .slice axx esx.length cxx] from ((hb18).block _ Sxxv.out.lt).trans Sxxv.out)
          have Sg0 := Lib.hid (show Str w18 OBg 25 #[.int .i64 N, .slice ag0_1 R.length cg0_1] from ((hb18).block _ Sg0.out.lt).trans Sg0.out)
          have Sh0 := Lib.hid (show Str w18 w14.heap.size 25 #[.int .i64 0, .slice none 0 0] from ((hb18).block _ Sh0.out.lt).trans Sh0.out)
          have hz18 := (hb18).size
          have Hh0_1 := Lib.hid hoh0_1; clear hoh0_1
          obtain ⟨ah0_1, ch0_1, rfl, hmlh0_1⟩ := Hh0_1.out.slice
          clear hmlh0_1
          have hhh0_1 : w17.heap.size ≤ w17.heap.size := Nat.le_refl _
          have hjh0_1 : w18.heap.size ≤ w18.heap.size := Nat.le_refl _
          clear hrxz
          dsimp only
          refine hK.out _ _ ⟨Sxb.out.cell 0 (v := .int .i64 x0) rfl, Sxb.out.cell 1 (v := .slice ax1 esx.length capx1) rfl, Svb.out.cell 0 (v := .int .i64 v0) rfl, Svb.out.cell 1 (v := .int .i64 v1) rfl, Svb.out.cell 2 (v := .int .i64 v2) rfl⟩ (fun hH => ?_)
          clear hK K
          try simp only [Act.put, List.setIfInBounds_toArray, List.set_cons_zero, List.set_cons_succ]
          refine takeL 5 (v := ?vih3) rfl (by kernel_rfl) (by kernel_rfl) (by kernel_rfl) (by kernel_rfl) (by kernel_rfl) (fun _ _ _ h => h) hH rfl ?yih3 ?rih3
          case yih3 => intro W hSw; go_simp; try with_reducible rfl
          try simp only [Act.put, List.setIfInBounds_toArray, List.set_cons_zero, List.set_cons_succ]
          refine takeL 6 (v := ?vih4) rfl (by kernel_rfl) (by kernel_rfl) (by kernel_rfl) (by kernel_rfl) (by kernel_rfl) (fun _ _ _ h => h) hH rfl ?yih4 ?rih4
          case yih4 => intro W hSw; go_simp; try with_reducible rfl
          try simp only [Act.put, List.setIfInBounds_toArray, List.set_cons_zero, List.set_cons_succ]
          refine takeL 7 (v := ?vih5) rfl (by kernel_rfl) (by kernel_rfl) (by kernel_rfl) (by kernel_rfl) (by kernel_rfl) (fun _ _ _ h => h) hH rfl ?yih5 ?rih5
          case yih5 => intro W hSw; go_simp; try with_reducible rfl
          try simp only [Act.put, List.setIfInBounds_toArray, List.set_cons_zero, List.set_cons_succ]
          refine callL 9 rfl (by kernel_rfl) rfl (fun K hK => ?_)
          have y0 := Sh0.out.frozen 0
          have y1 := Sh0.out.frozen 1
          have g0 := Sh0.out.cell 0 (v := .int .i64 0) rfl
          have g1 := Sh0.out.cell 1 (v := .slice none 0 0) rfl
          go_simp
          clear y0 g0 y1 g1
          have hbt : Btw (w14.heap.size) (w14.heap.size + 1) w18 ((w18.setCell ⟨w14.heap.size, 0, none⟩ (.int .i64 N)).setCell ⟨w14.heap.size, 1, none⟩ (.slice ah0_1 R.length ch0_1)) := ((Btw.set w18 (Nat.le_refl (w14.heap.size)) (Nat.lt_succ_self _) 0 (.int .i64 N)).trans (Btw.set (w18.setCell ⟨w14.heap.size, 0, none⟩ (.int .i64 N)) (Nat.le_refl (w14.heap.size)) (Nat.lt_succ_self _) 1 (.slice ah0_1 R.length ch0_1)))
          have sO : Str ((w18.setCell ⟨w14.heap.size, 0, none⟩ (.int .i64 N)).setCell ⟨w14.heap.size, 1, none⟩ (.slice ah0_1 R.length ch0_1)) (w14.heap.size) 25 #[.int .i64 N, .slice ah0_1 R.length ch0_1] := ((Sh0.out.set 0 (.int .i64 N)).set 1 (.slice ah0_1 R.length ch0_1))
          generalize ((w18.setCell ⟨w14.heap.size, 0, none⟩ (.int .i64 N)).setCell ⟨w14.heap.size, 1, none⟩ (.slice ah0_1 R.length ch0_1)) = w19 at *
          have hz19 := hbt.size
          have Hq := Lib.hid (hbt.below Hq.out Hq.out.size (by omega))
          have Sxb := Lib.hid (Sxb.out.btw hbt (by first | exact .inl (by omega) | exact .inr (by omega) | omega))
          have Svb := Lib.hid (Svb.out.btw hbt (by first | exact .inl (by omega) | exact .inr (by omega) | omega))
          have Hh0_1 := Lib.hid (hbt.ownR Hh0_1.out (by omega) (by first | exact .inl (by omega) | exact .inr (by omega) | omega))
          clear hbt
          refine hK.out _ _ ⟨Sxb.out.cell 0 (v := .int .i64 x0) rfl, Sxb.out.cell 1 (v := .slice ax1 esx.length capx1) rfl, Svb.out.cell 0 (v := .int .i64 v0) rfl, Svb.out.cell 1 (v := .int .i64 v1) rfl, Svb.out.cell 2 (v := .int .i64 v2) rfl⟩ (fun hH => ?_)
          clear hK K
          try simp only [Act.put, List.setIfInBounds_toArray, List.set_cons_zero, List.set_cons_succ]
          refine lastL rfl (by kernel_rfl) (by kernel_rfl) (by kernel_rfl) rfl (fun K hK => ?_)
          go_simp
          have z2 : w13.heap.size ≤ w17.heap.size := by omega
          have z3 : w17.heap.size ≤ w18.heap.size := by omega
          have z4 : w18.heap.size ≤ w19.heap.size := by omega
          have Ho9 := Hh0_1.out
          clear hH
          obtain ⟨OB, hOB⟩ : ∃ OB, OB = w14.heap.size := ⟨_, rfl⟩
          have z1 : w13.heap.size ≤ OB := by omega
          have z5 : OB < w17.heap.size ∨ w18.heap.size ≤ OB := (by first | exact .inl (by omega) | exact .inr (by omega) | omega)
          rw [← hOB] at sO ⊢
          refine hK.out _ _ ⟨OB, w17.heap.size, w18.heap.size, axz, ah0_1, cxz, ch0_1, ?_, Hq.out, sO, Ho9, z1, z2, z3, z4, z5⟩
          rfl
        go_simp
        refine (laws_toVoterR x0 esx (.slice ax1 esx.length capx1) fpx _ (by omega) Hpx.out Hinx.out (Hrx.out.under Hb14.out)).mono ?_
        rintro e w15 ⟨vxz, rfl, hoxz, hb15⟩
        have Hb15 := Lib.hid (below_step Hb14.out Hb14.out.size hb15)
        have Hq := Lib.hid (below_step Hq.out Hq.out.size hb15)
        have Hw0_1 := Lib.hid (Hw0_1.out.below hb15 (by omega))
        have Hg0_1 := Lib.hid (Hg0_1.out.below hb15 (by omega))
        have Sxb := Lib.hid (show Str w15 w.heap.size 41 #[.int .i64 x0, .slice ax1 esx.length capx1] from ((hb15).block _ Sxb.out.lt).trans Sxb.out)
        have Svb := Lib.hid (show Str w15 (w.heap.size + 1) 45 #[.int .i64 v0, .int .i64 v1, .int .i64 v2] from ((hb15).block _ Svb.out.lt).trans Svb.out)
        have Sw0 := Lib.hid (show Str w15 OBw 25 #[.int .i64 N, .slice aw0_1 R.length cw0_1] from ((hb15).block _ Sw0.out.lt).trans Sw0.out)
        have Sxxv := Lib.hid (show Str w15 w3.heap.size 25 #[.int .i64 x0, .slice axx esx.length cxx] from ((hb15).block _ Sxxv.out.lt).trans Sxxv.out)
        have Sg0 := Lib.hid (show Str w15 OBg 25 #[.int .i64 N, .slice ag0_1 R.length cg0_1] from ((hb15).block _ Sg0.out.lt).trans Sg0.out)
        have hz15 := (hb15).size
        have Hxz := Lib.hid hoxz; clear hoxz
        obtain ⟨axz, cxz, rfl, hmlxz⟩ := Hxz.out.slice
        clear hmlxz
        have hhxz : w14.heap.size ≤ w14.heap.size := Nat.le_refl _
        have hjxz : w15.heap.size ≤ w15.heap.size := Nat.le_refl _
        dsimp only
        refine hK.out _ _ ⟨Sxb.out.cell 0 (v := .int .i64 x0) rfl, Sxb.out.cell 1 (v := .slice ax1 esx.length capx1) rfl, Svb.out.cell 0 (v := .int .i64 v0) rfl, Svb.out.cell 1 (v := .int .i64 v1) rfl, Svb.out.cell 2 (v := .int .i64 v2) rfl⟩ (fun hH => ?_)
        clear hK K
        try simp only [Act.put, List.setIfInBounds_toArray, List.set_cons_zero, List.set_cons_succ]
        refine twoL 3 8 rfl rfl (by kernel_rfl) rfl rfl (fun K hK => ?_) (fun K hK => ?_)
        rotate_left
        · skip
          go_simp
          have hal : Below w15.heap.size w15 (w15.alloc (.cells #[.int .i64 0, .slice none 0 0] 25)) := (Below.refl _ _).alloc (Nat.le_refl _) _
          have sN := Str.new w15 25 #[.int .i64 0, .slice none 0 0]
          have hzn : w15.heap.size < (w15.alloc (.cells #[.int .i64 0, .slice none 0 0] 25)).heap.size := by simp
          generalize hwn : (w15.alloc (.cells #[.int .i64 0, .slice none 0 0] 25)) = w16 at *
          have Hb16 := Lib.hid (below_step Hb15.out Hb15.out.size hal)
          have Hq := Lib.hid (below_step Hq.out Hq.out.size hal)
          have Hw0_1 := Lib.hid (Hw0_1.out.below hal (by omega))
          have Hg0_1 := Lib.hid (Hg0_1.out.below hal (by omega))
          have Hxz := Lib.hid (Hxz.out.below hal (by omega))
          have Sxb := Lib.hid (show Str w16 w.heap.size 41 #[.int .i64 x0, .slice ax1 esx.length capx1] from ((hal).block _ Sxb.out.lt).trans Sxb.out)
          have Svb := Lib.hid (show Str w16 (w.heap.size + 1) 45 #[.int .i64 v0, .int .i64 v1, .int .i64 v2] from ((hal).block _ Svb.out.lt).trans Svb.out)
          have Sw0 := Lib.hid (show Str w16 OBw 25 #[.int .i64 N, .slice aw0_1 R.length cw0_1] from ((hal).block _ Sw0.out.lt).trans Sw0.out)
          have Sxxv := Lib.hid (show Str w16 w3.heap.size 25 #[.int .i64 x0, .slice axx esx.length cxx] from ((hal).block _ Sxxv.out.lt).trans Sxxv.out)
          have Sg0 := Lib.hid (show Str w16 OBg 25 #[.int .i64 N, .slice ag0_1 R.length cg0_1] from ((hal).block _ Sg0.out.lt).trans Sg0.out)
          have hz16 := (hal).size
          have Sh0 := Lib.hid sN; clear sN hal hwn
          refine hK.out _ _ ⟨Sxb.out.cell 0 (v := .int .i64 x0) rfl, Sxb.out.cell 1 (v := .slice ax1 esx.length capx1) rfl, Svb.out.cell 0 (v := .int .i64 v0) rfl, Svb.out.cell 1 (v := .int .i64 v1) rfl, Svb.out.cell 2 (v := .int .i64 v2) rfl⟩ (fun hH => ?_)
          clear hK K
          try simp only [Act.put, List.setIfInBounds_toArray, List.set_cons_zero, List.set_cons_succ]
          refine callL 3 rfl (by kernel_rfl) rfl (fun K hK => ?_)
          go_simp
          refine (laws_toVoteR v0 v1 v2 _).mono ?_
          rintro e w17 ⟨rfl, hb17⟩
          have Hb17 := Lib.hid (below_step Hb16.out Hb16.out.size hb17)
          have Hq := Lib.hid (below_step Hq.out Hq.out.size hb17)
          have Hw0_1 := Lib.hid (Hw0_1.out.below hb17 (by omega))
          have Hg0_1 := Lib.hid (Hg0_1.out.below hb17 (by omega))
          have Hxz := Lib.hid (Hxz.out.below hb17 (by omega))
          have Sxb := Lib.hid (show Str w17 w.heap.size 41 #[.int .i64 x0, .slice ax1 esx.length capx1] from ((hb17).block _ Sxb.out.lt).trans Sxb.out)
          have Svb := Lib.hid (show Str w17 (w.heap.size + 1) 45 #[.int .i64 v0, .int .i64 v1, .int .i64 v2] from ((hb17).block _ Svb.out.lt).trans Svb.out)
          have Sw0 := Lib.hid (show Str w17 OBw 25 #[.int .i64 N, .slice aw0_1 R.length cw0_1] from ((hb17).block _ Sw0.out.lt).trans Sw0.out)
          have Sxxv := Lib.hid (show Str w17 w3.heap.size 25 #[.int .i64 x0, .slice axx esx.length cxx] from ((hb17).block _ Sxxv.out.lt).trans Sxxv.out)
          have Sg0 := Lib.hid (show Str w17 OBg 25 #[.int .i64 N, .slice ag0_1 R.length cg0_1] from ((hb17).block _ Sg0.out.lt).trans Sg0.out)
          have Sh0 := Lib.hid (show Str w17 w15.heap.size 25 #[.int .i64 0, .slice none 0 0] from ((hb17).block _ Sh0.out.lt).trans Sh0.out)
          have hz17 := (hb17).size
          dsimp only
          refine hK.out _ _ ⟨Sxb.out.cell 0 (v := .int .i64 x0) rfl, Sxb.out.cell 1 (v := .slice ax1 esx.length capx1) rfl, Svb.out.cell 0 (v := .int .i64 v0) rfl, Svb.out.cell 1 (v := .int .i64 v1) rfl, Svb.out.cell 2 (v := .int .i64 v2) rfl⟩ (fun hH => ?_)
          clear hK K
          try simp only [Act.put, List.setIfInBounds_toArray, List.set_cons_zero, List.set_cons_succ]
          refine callL 4 rfl (by kernel_rfl) rfl (fun K hK => ?_)
          go_simp
          obtain ⟨fxz, hrxz⟩ := Hxz.out.reads
          refine (Himpl.out (.slice axz esx.length cxz) fxz _ hrxz).mono ?_
          rintro e w18 ⟨vh0_1, rfl, hoh0_1, hb18⟩
          have Hb18 := Lib.hid (below_step Hb17.out Hb17.out.size hb18)
          have Hq := Lib.hid (below_step Hq.out Hq.out.size hb18)
          have Hw0_1 := Lib.hid (Hw0_1.out.below hb18 (by omega))
          have Hg0_1 := Lib.hid (Hg0_1.out.below hb18 (by omega))
          have Hxz := Lib.hid (Hxz.out.below hb18 (by omega))
          have Sxb := Lib.hid (show Str w18 w.heap.size 41 #[.int .i64 x0, .slice ax1 esx.length capx1] from ((hb18).block _ Sxb.out.lt).trans Sxb.out)
          have Svb := Lib.hid (show Str w18 (w.heap.size + 1) 45 #[.int .i64 v0, .int .i64 v1, .int .i64 v2] from ((hb18).block _ Svb.out.lt).trans Svb.out)
          have Sw0 := Lib.hid (show Str w18 OBw 25 #[.int .i64 N, .slice aw0_1 R.length cw0_1] from ((hb18).block _ Sw0.out.lt).trans Sw0.out)
          have Sxxv := Lib.hid (show Str w18 w3.heap.size 25 #[.int .i64 x0, .slice axx esx.length cxx] from ((hb18).block _ Sxxv.out.lt).trans Sxxv.out)
          have Sg0 := Lib.hid (show Str w18 OBg 25 #[.int .i64 N, .slice ag0_1 R.length cg0_1] from ((hb18).block _ Sg0.out.lt).trans Sg0.out)
          have Sh0 := Lib.hid (show Str w18 w15.heap.size 25 #[.int .i64 0, .slice none 0 0] from ((hb18).block _ Sh0.out.lt).trans Sh0.out)
          have hz18 := (hb18).size
          have Hh0_1 := Lib.hid hoh0_1; clear hoh0_1
          obtain ⟨ah0_1, ch0_1, rfl, hmlh0_1⟩ := Hh0_1.out.slice
          clear hmlh0_1
          have hhh0_1 : w17.heap.size ≤ w17.heap.size := Nat.le_refl _
          have hjh0_1 : w18.heap.size ≤ w18.heap.size := Nat.le_refl _
          clear hrxz
          dsimp only
          refine hK.out _ _ ⟨Sxb.out.cell 0 (v := .int .i64 x0) rfl, Sxb.out.cell 1 (v := .slice ax1 esx.length capx1) rfl, Svb.out.cell 0 (v := .int .i64 v0) rfl, Svb.out.cell 1 (v := .int .i64 v1) rfl, Svb.out.cell 2 (v := .int .i64 v2) rfl⟩ (fun hH => ?_)
          clear hK K
          try simp only [Act.put, List.setIfInBounds_toArray, List.set_cons_zero, List.set_cons_succ]
          refine takeL 5 (v := ?vih6) rfl (by kernel_rfl) (by kernel_rfl) (by kernel_rfl) (by kernel_rfl) (by kernel_rfl) (fun _ _ _ h => h) hH rfl ?yih6 ?rih6
          case yih6 => intro W hSw; go_simp; try with_reducible rfl
          try simp only [Act.put, List.setIfInBounds_toArray, List.set_cons_zero, List.set_cons_succ]
          refine takeL 6 (v := ?vih7) rfl (by kernel_rfl) (by kernel_rfl) (by kernel_rfl) (by kernel_rfl) (by kernel_rfl) (fun _ _ _ h => h) hH rfl ?yih7 ?rih7
          case yih7 => intro W hSw; go_simp; try with_reducible rfl
          try simp only [Act.put, List.setIfInBounds_toArray, List.set_cons_zero, List.set_cons_succ]
          refine takeL 7 (v := ?vih8) rfl (by kernel_rfl) (by kernel_rfl) (by kernel_rfl) (by kernel_rfl) (by kernel_rfl) (fun _ _ _ h => h) hH rfl ?yih8 ?rih8
          case yih8 => intro W hSw; go_simp; try with_reducible rfl
          try simp only [Act.put, List.setIfInBounds_toArray, List.set_cons_zero, List.set_cons_succ]
          refine callL 9 rfl (by kernel_rfl) rfl (fun K hK => ?_)
          have y0 := Sh0.out.frozen 0
          have y1 := Sh0.out.frozen 1
          have g0 := Sh0.out.cell 0 (v := .int .i64 0) rfl
          have g1 := Sh0.out.cell 1 (v := .slice none 0 0) rfl
          go_simp
          clear y0 g0 y1 g1
          have hbt : Btw (w15.heap.size) (w15.heap.size + 1) w18 ((w18.setCell ⟨w15.heap.size, 0, none⟩ (.int .i64 N)).setCell ⟨w15.heap.size, 1, none⟩ (.slice ah0_1 R.length ch0_1)) := ((Btw.set w18 (Nat.le_refl (w15.heap.size)) (Nat.lt_succ_self _) 0 (.int .i64 N)).trans (Btw.set (w18.setCell ⟨w15.heap.size, 0, none⟩ (.int .i64 N)) (Nat.le_refl (w15.heap.size)) (Nat.lt_succ_self _) 1 (.slice ah0_1 R.length ch0_1)))
          have sO : Str ((w18.setCell ⟨w15.heap.size, 0, none⟩ (.int .i64 N)).setCell ⟨w15.heap.size, 1, none⟩ (.slice ah0_1 R.length ch0_1)) (w15.heap.size) 25 #[.int .i64 N, .slice ah0_1 R.length ch0_1] := ((Sh0.out.set 0 (.int .i64 N)).set 1 (.slice ah0_1 R.length ch0_1))
          generalize ((w18.setCell ⟨w15.heap.size, 0, none⟩ (.int .i64 N)).setCell ⟨w15.heap.size, 1, none⟩ (.slice ah0_1 R.length ch0_1)) = w19 at *
          have hz19 := hbt.size
          have Hq := Lib.hid (hbt.below Hq.out Hq.out.size (by omega))
          have Sxb := Lib.hid (Sxb.out.btw hbt (by first | exact .inl (by omega) | exact .inr (by omega) | omega))
          have Svb := Lib.hid (Svb.out.btw hbt (by first | exact .inl (by omega) | exact .inr (by omega) | omega))
          have Hh0_1 := Lib.hid (hbt.ownR Hh0_1.out (by omega) (by first | exact .inl (by omega) | exact .inr (by omega) | omega))
          clear hbt
          refine hK.out _ _ ⟨Sxb.out.cell 0 (v := .int .i64 x0) rfl, Sxb.out.cell 1 (v := .slice ax1 esx.length capx1) rfl, Svb.out.cell 0 (v := .int .i64 v0) rfl, Svb.out.cell 1 (v := .int .i64 v1) rfl, Svb.out.cell 2 (v := .int .i64 v2) rfl⟩ (fun hH => ?_)
          clear hK K
          try simp only [Act.put, List.setIfInBounds_toArray, List.set_cons_zero, List.set_cons_succ]
          refine lastL rfl (by kernel_rfl) (by kernel_rfl) (by kernel_rfl) rfl (fun K hK => ?_)
          go_simp
          have z2 : w13.heap.size ≤ w17.heap.size := by omega
          have z3 : w17.heap.size ≤ w18.heap.size := by omega
          have z4 : w18.heap.size ≤ w19.heap.size := by omega
          have Ho9 := Hh0_1.out
          clear hH
          obtain ⟨OB, hOB⟩ : ∃ OB, OB = w15.heap.size := ⟨_, rfl⟩
          have z1 : w13.heap.size ≤ OB := by omega
          have z5 : OB < w17.heap.size ∨ w18.heap.size ≤ OB := (by first | exact .inl (by omega) | exact .inr (by omega) | omega)
          rw [← hOB] at sO ⊢
          refine hK.out _ _ ⟨OB, w17.heap.size, w18.heap.size, axz, ah0_1, cxz, ch0_1, ?_, Hq.out, sO, Ho9, z1, z2, z3, z4, z5⟩
          rfl
        go_simp
        refine (laws_toVoteR v0 v1 v2 _).mono ?_
        rintro e w16 ⟨rfl, hb16⟩
        have Hb16 := Lib.hid (below_step Hb15.out Hb15.out.size hb16)
        have Hq := Lib.hid (below_step Hq.out Hq.out.size hb16)
        have Hw0_1 := Lib.hid (Hw0_1.out.below hb16 (by omega))
        have Hg0_1 := Lib.hid (Hg0_1.out.below hb16 (by omega))
        have Hxz := Lib.hid (Hxz.out.below hb16 (by omega))
        have Sxb := Lib.hid (show Str w16 w.heap.size 41 #[.int .i64 x0, .slice ax1 esx.length capx1] from ((hb16).block _ Sxb.out.lt).trans Sxb.out)
        have Svb := Lib.hid (show Str w16 (w.heap.size + 1) 45 #[.int .i64 v0, .int .i64 v1, .int .i64 v2] from ((hb16).block _ Svb.out.lt).trans Svb.out)
        have Sw0 := Lib.hid (show Str w16 OBw 25 #[.int .i64 N, .slice aw0_1 R.length cw0_1] from ((hb16).block _ Sw0.out.lt).trans Sw0.out)
        have Sxxv := Lib.hid (show Str w16 w3.heap.size 25 #[.int .i64 x0, .slice axx esx.length cxx] from ((hb16).block _ Sxxv.out.lt).trans Sxxv.out)
        have Sg0 := Lib.hid (show Str w16 OBg 25 #[.int .i64 N, .slice ag0_1 R.length cg0_1] from ((hb16).block _ Sg0.out.lt).trans Sg0.out)
        have hz16 := (hb16).size
        dsimp only
        refine hK.out _ _ ⟨Sxb.out.cell 0 (v := .int .i64 x0) rfl, Sxb.out.cell 1 (v := .slice ax1 esx.length capx1) rfl, Svb.out.cell 0 (v := .int .i64 v0) rfl, Svb.out.cell 1 (v := .int .i64 v1) rfl, Svb.out.cell 2 (v := .int .i64 v2) rfl⟩ (fun hH => ?_)
        clear hK K
        try simp only [Act.put, List.setIfInBounds_toArray, List.set_cons_zero, List.set_cons_succ]
        refine twoL 4 8 rfl rfl (by kernel_rfl) rfl rfl (fun K hK => ?_) (fun K hK => ?_)
        rotate_left
        · skip
          go_simp
          have hal : Below w16.heap.size w16 (w16.alloc (.cells #[.int .i64 0, .slice none 0 0] 25)) := (Below.refl _ _).alloc (Nat.le_refl _) _
          have sN := Str.new w16 25 #[.int .i64 0, .slice none 0 0]
          have hzn : w16.heap.size < (w16.alloc (.cells #[.int .i64 0, .slice none 0 0] 25)).heap.size := by simp
          generalize hwn : (w16.alloc (.cells #[.int .i64 0, .slice none 0 0] 25)) = w17 at *
          have Hb17 := Lib.hid (below_step Hb16.out Hb16.out.size hal)
          have Hq := Lib.hid (below_step Hq.out Hq.out.size hal)
          have Hw0_1 := Lib.hid (Hw0_1.out.below hal (by omega))
          have Hg0_1 := Lib.hid (Hg0_1.out.below hal (by omega))
          have Hxz := Lib.hid (Hxz.out.below hal (by omega))
          have Sxb := Lib.hid (show Str w17 w.heap.size 41 #[.int .i64 x0, .slice ax1 esx.length capx1] from ((hal).block _ Sxb.out.lt).trans Sxb.out)
          have Svb := Lib.hid (show Str w17 (w.heap.size + 1) 45 #[.int .i64 v0, .int .i64 v1, .int .i64 v2] from ((hal).block _ Svb.out.lt).trans Svb.out)
          have Sw0 := Lib.hid (show Str w17 OBw 25 #[.int .i64 N, .slice aw0_1 R.length cw0_1] from ((hal).block _ Sw0.out.lt).trans Sw0.out)
          have Sxxv := Lib.hid (show Str w17 w3.heap.size 25 #[.int .i64 x0, .slice axx esx.length cxx] from ((hal).block _ Sxxv.out.lt).trans Sxxv.out)
          have Sg0 := Lib.hid (show Str w17 OBg 25 #[.int .i64 N, .slice ag0_1 R.length cg0_1] from ((hal).block _ Sg0.out.lt).trans Sg0.out)
          have hz17 := (hal).size
          have Sh0 := Lib.hid sN; clear sN hal hwn
          refine hK.out _ _ ⟨Sxb.out.cell 0 (v := .int .i64 x0) rfl, Sxb.out.cell 1 (v := .slice ax1 esx.length capx1) rfl, Svb.out.cell 0 (v := .int .i64 v0) rfl, Svb.out.cell 1 (v := .int .i64 v1) rfl, Svb.out.cell 2 (v := .int .i64 v2) rfl⟩ (fun hH => ?_)
          clear hK K
          try simp only [Act.put, List.setIfInBounds_toArray, List.set_cons_zero, List.set_cons_succ]
          refine callL 4 rfl (by kernel_rfl) rfl (fun K hK => ?_)
          go_simp
          obtain ⟨fxz, hrxz⟩ := Hxz.out.reads
          refine (Himpl.out (.slice axz esx.length cxz) fxz _ hrxz).mono ?_
          rintro e w18 ⟨vh0_1, rfl, hoh0_1, hb18⟩
          have Hb18 := Lib.hid (below_step Hb17.out Hb17.out.size hb18)
          have Hq := Lib.hid (below_step Hq.out Hq.out.size hb18)
          have Hw0_1 := Lib.hid (Hw0_1.out.below hb18 (by omega))
          have Hg0_1 := Lib.hid (Hg0_1.out.below hb18 (by omega))
          have Hxz := Lib.hid (Hxz.out.below hb18 (by omega))
          have Sxb := Lib.hid (show Str w18 w.heap.size 41 #[.int .i64 x0, .slice ax1 esx.length capx1] from ((hb18).block _ Sxb.out.lt).trans Sxb.out)
          have Svb := Lib.hid (show Str w18 (w.heap.size + 1) 45 #[.int .i64 v0, .int .i64 v1, .int .i64 v2] from ((hb18).block _ Svb.out.lt).trans Svb.out)
          have Sw0 := Lib.hid (show Str w18 OBw 25 #[.int .i64 N, .slice aw0_1 R.length cw0_1] from ((hb18).block _ Sw0.out.lt).trans Sw0.out)
          have Sxxv := Lib.hid (show Str w18 w3.heap.size 25 #[.int .i64 x0, .slice axx esx.length cxx] from ((hb18).block _ Sxxv.out.lt).trans Sxxv.out)
          have Sg0 := Lib.hid (show Str w18 OBg 25 #[.int .i64 N, .slice ag0_1 R.length cg0_1] from ((hb18).block _ Sg0.out.lt).trans Sg0.out)
          have Sh0 := Lib.hid (show Str w18 w16.heap.size 25 #[.int .i64 0, .slice none 0 0] from ((hb18).block _ Sh0.out.lt).trans Sh0.out)
          have hz18 := (hb18).size
          have Hh0_1 := Lib.hid hoh0_1; clear hoh0_1
          obtain ⟨ah0_1, ch0_1, rfl, hmlh0_1⟩ := Hh0_1.out.slice
          clear hmlh0_1
          have hhh0_1 : w17.heap.size ≤ w17.heap.size := Nat.le_refl _
          have hjh0_1 : w18.heap.size ≤ w18.heap.size := Nat.le_refl _
          clear hrxz
          dsimp only
          refine hK.out _ _ ⟨Sxb.out.cell 0 (v := .int .i64 x0) rfl, Sxb.out.cell 1 (v := .slice ax1 esx.length capx1) rfl, Svb.out.cell 0 (v := .int .i64 v0) rfl, Svb.out.cell 1 (v := .int .i64 v1) rfl, Svb.out.cell 2 (v := .int .i64 v2) rfl⟩ (fun hH => ?_)
          clear hK K
          try simp only [Act.put, List.setIfInBounds_toArray, List.set_cons_zero, List.set_cons_succ]
          refine takeL 5 (v := ?vih9) rfl (by kernel_rfl) (by kernel_rfl) (by kernel_rfl) (by kernel_rfl) (by kernel_rfl) (fun _ _ _ h => h) hH rfl ?yih9 ?rih9
          case yih9 => intro W hSw; go_simp; try with_reducible rfl
          try simp only [Act.put, List.setIfInBounds_toArray, List.set_cons_zero, List.set_cons_succ]
          refine takeL 6 (v := ?vih10) rfl (by kernel_rfl) (by kernel_rfl) (by kernel_rfl) (by kernel_rfl) (by kernel_rfl) (fun _ _ _ h => h) hH rfl ?yih10 ?rih10
          case yih10 => intro W hSw; go_simp; try with_reducible rfl
          try simp only [Act.put, List.setIfInBounds_toArray, List.set_cons_zero, List.set_cons_succ]
          refine takeL 7 (v := ?vih11) rfl (by kernel_rfl) (by kernel_rfl) (by kernel_rfl) (by kernel_rfl) (by kernel_rfl) (fun _ _ _ h => h) hH rfl ?yih11 ?rih11
          case yih11 => intro W hSw; go_simp; try with_reducible rfl
          try simp only [Act.put, List.setIfInBounds_toArray, List.set_cons_zero, List.set_cons_succ]
          refine callL 9 rfl (by kernel_rfl) rfl (fun K hK => ?_)
          have y0 := Sh0.out.frozen 0
          have y1 := Sh0.out.frozen 1
          have g0 := Sh0.out.cell 0 (v := .int .i64 0) rfl
          have g1 := Sh0.out.cell 1 (v := .slice none 0 0) rfl
          go_simp
          clear y0 g0 y1 g1
          have hbt : Btw (w16.heap.size) (w16.heap.size + 1) w18 ((w18.setCell ⟨w16.heap.size, 0, none⟩ (.int .i64 N)).setCell ⟨w16.heap.size, 1, none⟩ (.slice ah0_1 R.length ch0_1)) := ((Btw.set w18 (Nat.le_refl (w16.heap.size)) (Nat.lt_succ_self _) 0 (.int .i64 N)).trans (Btw.set (w18.setCell ⟨w16.heap.size, 0, none⟩ (.int .i64 N)) (Nat.le_refl (w16.heap.size)) (Nat.lt_succ_self _) 1 (.slice ah0_1 R.length ch0_1)))
          have sO : Str ((w18.setCell ⟨w16.heap.size, 0, none⟩ (.int .i64 N)).setCell ⟨w16.heap.size, 1, none⟩ (.slice ah0_1 R.length ch0_1)) (w16.heap.size) 25 #[.int .i64 N, .slice ah0_1 R.length ch0_1] := ((Sh0.out.set 0 (.int .i64 N)).set 1 (.slice ah0_1 R.length ch0_1))
          generalize ((w18.setCell ⟨w16.heap.size, 0, none⟩ (.int .i64 N)).setCell ⟨w16.heap.size, 1, none⟩ (.slice ah0_1 R.length ch0_1)) = w19 at *
          have hz19 := hbt.size
          have Hq := Lib.hid (hbt.below Hq.out Hq.out.size (by omega))
          have Sxb := Lib.hid (Sxb.out.btw hbt (by first | exact .inl (by omega) | exact .inr (by omega) | omega))
          have Svb := Lib.hid (Svb.out.btw hbt (by first | exact .inl (by omega) | exact .inr (by omega) | omega))
          have Hh0_1 := Lib.hid (hbt.ownR Hh0_1.out (by omega) (by first | exact .inl (by omega) | exact .inr (by omega) | omega))
          clear hbt
          refine hK.out _ _ ⟨Sxb.out.cell 0 (v := .int .i64 x0) rfl, Sxb.out.cell 1 (v := .slice ax1 esx.length capx1) rfl, Svb.out.cell 0 (v := .int .i64 v0) rfl, Svb.out.cell 1 (v := .int .i64 v1) rfl, Svb.out.cell 2 (v := .int .i64 v2) rfl⟩ (fun hH => ?_)
          clear hK K
          try simp only [Act.put, List.setIfInBounds_toArray, List.set_cons_zero, List.set_cons_succ]
          refine lastL rfl (by kernel_rfl) (by kernel_rfl) (by kernel_rfl) rfl (fun K hK => ?_)
          go_simp
          have z2 : w13.heap.size ≤ w17.heap.size := by omega
          have z3 : w17.heap.size ≤ w18.heap.size := by omega
          have z4 : w18.heap.size ≤ w19.heap.size := by omega
          have Ho9 := Hh0_1.out
          clear hH
          obtain ⟨OB, hOB⟩ : ∃ OB, OB = w16.heap.size := ⟨_, rfl⟩
          have z1 : w13.heap.size ≤ OB := by omega
          have z5 : OB < w17.heap.size ∨ w18.heap.size ≤ OB := (by first | exact .inl (by omega) | exact .inr (by omega) | omega)
          rw [← hOB] at sO ⊢
          refine hK.out _ _ ⟨OB, w17.heap.size, w18.heap.size, axz, ah0_1, cxz, ch0_1, ?_, Hq.out, sO, Ho9, z1, z2, z3, z4, z5⟩
          rfl
        go_simp
        obtain ⟨fxz, hrxz⟩ := Hxz.out.reads
        refine (Himpl.out (.slice axz esx.length cxz) fxz _ hrxz).mono ?_
        rintro e w17 ⟨vh0_1, rfl, hoh0_1, hb17⟩
        have Hb17 := Lib.hid (below_step Hb16.out Hb16.out.size hb17)
        have Hq := Lib.hid (below_step Hq.out Hq.out.size hb17)
        have Hw0_1 := Lib.hid (Hw0_1.out.below hb17 (by omega))
        have Hg0_1 := Lib.hid (Hg0_1.out.below hb17 (by omega))
        have Hxz := Lib.hid (Hxz.out.below hb17 (by omega))
        have Sxb := Lib.hid (show Str w17 w.heap.size 41 #[.int .i64 x0, .slice ax1 esx.length capx1] from ((hb17).block _ Sxb.out.lt).trans Sxb.out)
        have Svb := Lib.hid (show Str w17 (w.heap.size + 1) 45 #[.int .i64 v0, .int .i64 v1, .int .i64 v2] from ((hb17).block _ Svb.out.lt).trans Svb.out)
        have Sw0 := Lib.hid (show Str w17 OBw 25 #[.int .i64 N, .slice aw0_1 R.length cw0_1] from ((hb17).block _ Sw0.out.lt).trans Sw0.out)
        have Sxxv := Lib.hid (show Str w17 w3.heap.size 25 #[.int .i64 x0, .slice axx esx.length cxx] from ((hb17).block _ Sxxv.out.lt).trans Sxxv.out)
        have Sg0 := Lib.hid (show Str w17 OBg 25 #[.int .i64 N, .slice ag0_1 R.length cg0_1] from ((hb17).block _ Sg0.out.lt).trans Sg0.out)
        have hz17 := (hb17).size
        have Hh0_1 := Lib.hid hoh0_1; clear hoh0_1
        obtain ⟨ah0_1, ch0_1, rfl, hmlh0_1⟩ := Hh0_1.out.slice
        clear hmlh0_1
        have hhh0_1 : w16.heap.size ≤ w16.heap.size := Nat.le_refl _
        have hjh0_1 : w17.heap.size ≤ w17.heap.size := Nat.le_refl _
        clear hrxz
        dsimp only
        refine hK.out _ _ ⟨Sxb.out.cell 0 (v := .int .i64 x0) rfl, Sxb.out.cell 1 (v := .slice ax1 esx.length capx1) rfl, Svb.out.cell 0 (v := .int .i64 v0) rfl, Svb.out.cell 1 (v := .int .i64 v1) rfl, Svb.out.cell 2 (v := .int .i64 v2) rfl⟩ (fun hH => ?_)
        clear hK K
        try simp only [Act.put, List.setIfInBounds_toArray, List.set_cons_zero, List.set_cons_succ]
        refine takeL 5 (v := ?vih12) rfl (by kernel_rfl) (by kernel_rfl) (by kernel_rfl) (by kernel_rfl) (by kernel_rfl) (fun _ _ _ h => h) hH rfl ?yih12 ?rih12
        case yih12 => intro W hSw; go_simp; try with_reducible rfl
        try simp only [Act.put, List.setIfInBounds_toArray, List.set_cons_zero, List.set_cons_succ]
        refine takeL 6 (v := ?vih13) rfl (by kernel_rfl) (by kernel_rfl) (by kernel_rfl) (by kernel_rfl) (by kernel_rfl) (fun _ _ _ h => h) hH rfl ?yih13 ?rih13
        case yih13 => intro W hSw; go_simp; try with_reducible rfl
        try simp only [Act.put, List.setIfInBounds_toArray, List.set_cons_zero, List.set_cons_succ]
        refine takeL 7 (v := ?vih14) rfl (by kernel_rfl) (by kernel_rfl) (by kernel_rfl) (by kernel_rfl) (by kernel_rfl) (fun _ _ _ h => h) hH rfl ?yih14 ?rih14
        case yih14 => intro W hSw; go_simp; try with_reducible rfl
        try simp only [Act.put, List.setIfInBounds_toArray, List.set_cons_zero, List.set_cons_succ]
        refine callL 8 rfl (by kernel_rfl) rfl (fun K hK => ?_)
        go_simp
        have hal : Below w17.heap.size w17 (w17.alloc (.cells #[.int .i64 0, .slice none 0 0] 25)) := (Below.refl _ _).alloc (Nat.le_refl _) _
        have sN := Str.new w17 25 #[.int .i64 0, .slice none 0 0]
        have hzn : w17.heap.size < (w17.alloc (.cells #[.int .i64 0, .slice none 0 0] 25)).heap.size := by simp
        generalize hwn : (w17.alloc (.cells #[.int .i64 0, .slice none 0 0] 25)) = w18 at *
        have Hb18 := Lib.hid (below_step Hb17.out Hb17.out.size hal)
        have Hq := Lib.hid (below_step Hq.out Hq.out.size hal)
        have Hw0_1 := Lib.hid (Hw0_1.out.below hal (by omega))
        have Hg0_1 := Lib.hid (Hg0_1.out.below hal (by omega))
        have Hxz := Lib.hid (Hxz.out.below hal (by omega))
        have Hh0_1 := Lib.hid (Hh0_1.out.below hal (by omega))
        have Sxb := Lib.hid (show Str w18 w.heap.size 41 #[.int .i64 x0, .slice ax1 esx.length capx1] from ((hal).block _ Sxb.out.lt).trans Sxb.out)
        have Svb := Lib.hid (show Str w18 (w.heap.size + 1) 45 #[.int .i64 v0, .int .i64 v1, .int .i64 v2] from ((hal).block _ Svb.out.lt).trans Svb.out)
        have Sw0 := Lib.hid (show Str w18 OBw 25 #[.int .i64 N, .slice aw0_1 R.length cw0_1] from ((hal).block _ Sw0.out.lt).trans Sw0.out)
        have Sxxv := Lib.hid (show Str w18 w3.heap.size 25 #[.int .i64 x0, .slice axx esx.length cxx] from ((hal).block _ Sxxv.out.lt).trans Sxxv.out)
        have Sg0 := Lib.hid (show Str w18 OBg 25 #[.int .i64 N, .slice ag0_1 R.length cg0_1] from ((hal).block _ Sg0.out.lt).trans Sg0.out)
        have hz18 := (hal).size
        have Sh0 := Lib.hid sN; clear sN hal hwn
        refine hK.out _ _ ⟨Sxb.out.cell 0 (v := .int .i64 x0) rfl, Sxb.out.cell 1 (v := .slice ax1 esx.length capx1) rfl, Svb.out.cell 0 (v := .int .i64 v0) rfl, Svb.out.cell 1 (v := .int .i64 v1) rfl, Svb.out.cell 2 (v := .int .i64 v2) rfl⟩ (fun hH => ?_)
        clear hK K
        try simp only [Act.put, List.setIfInBounds_toArray, List.set_cons_zero, List.set_cons_succ]
        refine callL 9 rfl (by kernel_rfl) rfl (fun K hK => ?_)
        have y0 := Sh0.out.frozen 0
        have y1 := Sh0.out.frozen 1
        have g0 := Sh0.out.cell 0 (v := .int .i64 0) rfl
        have g1 := Sh0.out.cell 1 (v := .slice none 0 0) rfl
        go_simp
        clear y0 g0 y1 g1
        have hbt : Btw (w17.heap.size) (w17.heap.size + 1) w18 ((w18.setCell ⟨w17.heap.size, 0, none⟩ (.int .i64 N)).setCell ⟨w17.heap.size, 1, none⟩ (.slice ah0_1 R.length ch0_1)) := ((Btw.set w18 (Nat.le_refl (w17.heap.size)) (Nat.lt_succ_self _) 0 (.int .i64 N)).trans (Btw.set (w18.setCell ⟨w17.heap.size, 0, none⟩ (.int .i64 N)) (Nat.le_refl (w17.heap.size)) (Nat.lt_succ_self _) 1 (.slice ah0_1 R.length ch0_1)))
        have sO : Str ((w18.setCell ⟨w17.heap.size, 0, none⟩ (.int .i64 N)).setCell ⟨w17.heap.size, 1, none⟩ (.slice ah0_1 R.length ch0_1)) (w17.heap.size) 25 #[.int .i64 N, .slice ah0_1 R.length ch0_1] := ((Sh0.out.set 0 (.int .i64 N)).set 1 (.slice ah0_1 R.length ch0_1))
        generalize ((w18.setCell ⟨w17.heap.size, 0, none⟩ (.int .i64 N)).setCell ⟨w17.heap.size, 1, none⟩ (.slice ah0_1 R.length ch0_1)) = w19 at *
        have hz19 := hbt.size
        have Hq := Lib.hid (hbt.below Hq.out Hq.out.size (by omega))
        have Sxb := Lib.hid (Sxb.out.btw hbt (by first | exact .inl (by omega) | exact .inr (by omega) | omega))
        have Svb := Lib.hid (Svb.out.btw hbt (by first | exact .inl (by omega) | exact .inr (by omega) | omega))
        have Hh0_1 := Lib.hid (hbt.ownR Hh0_1.out (by omega) (by first | exact .inl (by omega) | exact .inr (by omega) | omega))
        clear hbt
        refine hK.out _ _ ⟨Sxb.out.cell 0 (v := .int .i64 x0) rfl, Sxb.out.cell 1 (v := .slice ax1 esx.length capx1) rfl, Svb.out.cell 0 (v := .int .i64 v0) rfl, Svb.out.cell 1 (v := .int .i64 v1) rfl, Svb.out.cell 2 (v := .int .i64 v2) rfl⟩ (fun hH => ?_)
        clear hK K
        try simp only [Act.put, List.setIfInBounds_toArray, List.set_cons_zero, List.set_cons_succ]
        refine lastL rfl (by kernel_rfl) (by kernel_rfl) (by kernel_rfl) rfl (fun K hK => ?_)
        go_simp
        have z2 : w13.heap.size ≤ w16.heap.size := by omega
        have z3 : w16.heap.size ≤ w17.heap.size := by omega
        have z4 : w17.heap.size ≤ w19.heap.size := by omega
        have Ho9 := Hh0_1.out
        clear hH
        obtain ⟨OB, hOB⟩ : ∃ OB, OB = w17.heap.size := ⟨_, rfl⟩
        have z1 : w13.heap.size ≤ OB := by omega
        have z5 : OB < w16.heap.size ∨ w17.heap.size ≤ OB := (by first | exact .inl (by omega) | exact .inr (by omega) | omega)
        rw [← hOB] at sO ⊢
        refine hK.out _ _ ⟨OB, w16.heap.size, w17.heap.size, axz, ah0_1, cxz, ch0_1, ?_, Hq.out, sO, Ho9, z1, z2, z3, z4, z5⟩
        rfl
      case hqh =>
        intro e a w14 hx
        cases e <;> first | exact hx.elim | skip
        obtain ⟨OBh, LOh, HIh, axz, ah0_1, cxz, ch0_1, rfl, hbj, so, ol, b1h, b2h, b3h, b4h, b5h⟩ := hx
        have Hb14 := Lib.hid (below_step Hb13.out Hb13.out.size hbj)
        have Hw0_1 := Lib.hid (Hw0_1.out.below hbj (by omega))
        have Hg0_1 := Lib.hid (Hg0_1.out.below hbj (by omega))
        have Sxb := Lib.hid (show Str w14 w.heap.size 41 #[.int .i64 x0, .slice ax1 esx.length capx1] from ((hbj).block _ Sxb.out.lt).trans Sxb.out)
        have Svb := Lib.hid (show Str w14 (w.heap.size + 1) 45 #[.int .i64 v0, .int .i64 v1, .int .i64 v2] from ((hbj).block _ Svb.out.lt).trans Svb.out)
        have Sw0 := Lib.hid (show Str w14 OBw 25 #[.int .i64 N, .slice aw0_1 R.length cw0_1] from ((hbj).block _ Sw0.out.lt).trans Sw0.out)
        have Sxxv := Lib.hid (show Str w14 w3.heap.size 25 #[.int .i64 x0, .slice axx esx.length cxx] from ((hbj).block _ Sxxv.out.lt).trans Sxxv.out)
        have Sg0 := Lib.hid (show Str w14 OBg 25 #[.int .i64 N, .slice ag0_1 R.length cg0_1] from ((hbj).block _ Sg0.out.lt).trans Sg0.out)
        have hz14 := (hbj).size
        have b6h := so.lt
        have Sh0 := Lib.hid so; clear so
        have Hh0_1 := Lib.hid ol; clear ol hbj
        have qh0_0 := Sh0.out.cell 0 (v := .int .i64 N) rfl
        have qh0_1 := Sh0.out.cell 1 (v := .slice ah0_1 R.length ch0_1) rfl
        have qw0_0 := Sw0.out.cell 0 (v := .int .i64 N) rfl
        have qw0_1 := Sw0.out.cell 1 (v := .slice aw0_1 R.length cw0_1) rfl
        obtain ⟨fh0_1, hrh0_1⟩ := Hh0_1.out.reads
        obtain ⟨fw0_1, hrw0_1⟩ := Hw0_1.out.reads
        go_wp2_with fail
        refine (laws_eqVoterR ( N) R _ _ fh0_1 fw0_1 w14 (by omega) Hrp0.out Hrl0.out hrh0_1 hrw0_1).mono ?_
        rintro e w15 ⟨rfl, hb15⟩
        have Hb15 := Lib.hid (below_step Hb14.out Hb14.out.size hb15)
        have Hw0_1 := Lib.hid (Hw0_1.out.below hb15 (by omega))
        have Hg0_1 := Lib.hid (Hg0_1.out.below hb15 (by omega))
        have Hh0_1 := Lib.hid (Hh0_1.out.below hb15 (by omega))
        have Sxb := Lib.hid (show Str w15 w.heap.size 41 #[.int .i64 x0, .slice ax1 esx.length capx1] from ((hb15).block _ Sxb.out.lt).trans Sxb.out)
        have Svb := Lib.hid (show Str w15 (w.heap.size + 1) 45 #[.int .i64 v0, .int .i64 v1, .int .i64 v2] from ((hb15).block _ Svb.out.lt).trans Svb.out)
        have Sw0 := Lib.hid (show Str w15 OBw 25 #[.int .i64 N, .slice aw0_1 R.length cw0_1] from ((hb15).block _ Sw0.out.lt).trans Sw0.out)
        have Sxxv := Lib.hid (show Str w15 w3.heap.size 25 #[.int .i64 x0, .slice axx esx.length cxx] from ((hb15).block _ Sxxv.out.lt).trans Sxxv.out)
        have Sg0 := Lib.hid (show Str w15 OBg 25 #[.int .i64 N, .slice ag0_1 R.length cg0_1] from ((hb15).block _ Sg0.out.lt).trans Sg0.out)
        have Sh0 := Lib.hid (show Str w15 OBh 25 #[.int .i64 N, .slice ah0_1 R.length ch0_1] from ((hb15).block _ Sh0.out.lt).trans Sh0.out)
        have hz15 := (hb15).size
        clear hrh0_1 hrw0_1
        clear qh0_0 qh0_1 qw0_0 qw0_1
        have hhe := laws_heldVoterR ( N) R _ (1) LOg HIg w15 (by have := Hrk0.out (1); omega) Hrp0.out (by omega) Hg0_1.out
        rw [Hm1.out] at hhe
        have Hhe := Lib.hid hhe; clear hhe
        have qg0_0 := Sg0.out.cell 0 (v := .int .i64 N) rfl
        have qg0_1 := Sg0.out.cell 1 (v := .slice ag0_1 R.length cg0_1) rfl
        go_wp2_with fail
        refine (Hhe.out).mono ?_
        rintro e w16 ⟨rfl, hb16⟩
        have Hb16 := Lib.hid (below_step Hb15.out Hb15.out.size hb16)
        have Hw0_1 := Lib.hid (Hw0_1.out.below hb16 (by omega))
        have Hg0_1 := Lib.hid (Hg0_1.out.below hb16 (by omega))
        have Hh0_1 := Lib.hid (Hh0_1.out.below hb16 (by omega))
        have Sxb := Lib.hid (show Str w16 w.heap.size 41 #[.int .i64 x0, .slice ax1 esx.length capx1] from ((hb16).block _ Sxb.out.lt).trans Sxb.out)
        have Svb := Lib.hid (show Str w16 (w.heap.size + 1) 45 #[.int .i64 v0, .int .i64 v1, .int .i64 v2] from ((hb16).block _ Svb.out.lt).trans Svb.out)
        have Sw0 := Lib.hid (show Str w16 OBw 25 #[.int .i64 N, .slice aw0_1 R.length cw0_1] from ((hb16).block _ Sw0.out.lt).trans Sw0.out)
        have Sxxv := Lib.hid (show Str w16 w3.heap.size 25 #[.int .i64 x0, .slice axx esx.length cxx] from ((hb16).block _ Sxxv.out.lt).trans Sxxv.out)
        have Sg0 := Lib.hid (show Str w16 OBg 25 #[.int .i64 N, .slice ag0_1 R.length cg0_1] from ((hb16).block _ Sg0.out.lt).trans Sg0.out)
        have Sh0 := Lib.hid (show Str w16 OBh 25 #[.int .i64 N, .slice ah0_1 R.length ch0_1] from ((hb16).block _ Sh0.out.lt).trans Sh0.out)
        have hz16 := (hb16).size
        clear qg0_0 qg0_1
        clear Hhe
        go_wp2
        go_ret
        exact ⟨by first | rfl | exact ret_bool (by simp), Hb16.out⟩

theorem fnExactVoterSign_own : ownKnob Try.prog.godebug = none := by kernel_rfl
theorem fnExactVoterSign_laidOut : laidOutB Try.prog = true := by kernel_rfl

set_option maxRecDepth 8000 in
theorem fnExactVoterSign_lifted (os : Os) (started : os.Started) (H : Type) (enc : TypeId × Value → H) :
    ReturnsInHanded {} Try.checked os 11 .any (Rows.fnExactVoterSignSpec.pre6 enc Try.prog Try.f11 Rows.fnExactVoterSignRow.domain false) (Rows.fnExactVoterSignSpec.post enc Try.prog Try.f11 false true false false) := by
  refine law_lifted (C := Try.checked) (tb := 4) fnExactVoterSign_own fnExactVoterSign_laidOut started (by kernel_rfl) Try.func11 rfl Try.underlying4 rfl (by rw [Try.params11]; exact of_decide_eq_true (by kernel_rfl)) ?_
    (ChangeSpec.witness6 (enc := enc) (C := Try.checked) false ⟨#[], #[.agg #[.int .i64 0, .slice none 0 0], .agg #[.int .i64 0, .int .i64 0, .int .i64 0]], []⟩ 8 (by kernel_rfl) (by kernel_rfl) (by kernel_rfl) (by kernel_rfl)) ?_
  · intro ds hds
    rw [Try.params11] at hds
    match ds, hds with
    | [d0, d1], _ => rfl
  · intro W base args ds p hval0 hA0
    have hval : ∀ (j : Nat) t v, Try.f11.params[j]? = some t → args[j]? = some v → Value.okWide Try.prog W .any base t v := hval0
    have hA : DataW.TrodAll enc Try.prog W 0 (fun _ => true) true Try.f11.params.toList args.toList ds p := hA0
    rw [Try.params11] at hA hval
    obtain ⟨v0, vs0, d0, ds0, p0, q0, hargs0, rfl, rfl, h0, r0⟩ := trodAll_cons hA
    obtain ⟨v1, vs1, d1, ds1, p1, q1, hargs1, rfl, rfl, h1, r1⟩ := trodAll_cons r0
    obtain ⟨hnil, rfl, rfl⟩ := trodAll_nil r1
    subst hnil
    subst hargs1
    obtain rfl : args = #[v0, v1] := by cases args; simp_all
    obtain ⟨x0_0, v0_1, es0_1, fp0_1, rfl, b0_0, r0_1, m0_1, p0_1⟩ := open_Voter (hval 0 41 v0 rfl rfl) h0
    obtain ⟨x1_0, x1_1, x1_2, rfl, b1_0, b1_1, b1_2⟩ := open_Vote (hval 1 45 v1 rfl rfl) h1
    exact fnExactVoterSign_walk x0_0 v0_1 es0_1 fp0_1 x1_0 x1_1 x1_2 W b0_0 r0_1 m0_1 p0_1 b1_0 b1_1 b1_2

theorem fnExactVoterSign_holds : Rows.FnExactVoterSignSaid :=
  OpenClaim.holds_of_wide 11 Try.f11 rfl rfl rfl rfl rfl rfl rfl ⟨rfl, rfl, rfl, rfl, rfl⟩ rfl rfl rfl rfl rfl (by kernel_rfl) Try.func11 (by kernel_rfl)
    (of_decide_eq_true (by kernel_rfl)) (by unfold Func.isWrapper; first | (rw [if_pos (by decide +kernel)]; kernel_rfl) | (rw [if_neg (by decide +kernel)]; exact ⟨rfl, rfl⟩))
    (fun os started H enc _ => fnExactVoterSign_lifted os started H enc)

end Go.Proofs.Ytgpbogalknmcmaa
