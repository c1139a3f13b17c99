/- The exact law of VoterForget holds at every argument; no conditions of our own. -/
import Derived.Test.YtgpbogalknmcmaaRows
import Derived.Test.YtgpbogalknmcmaaBu0
import Derived.Test.YtgpbogalknmcmaaBu1
import Derived.Test.YtgpbogalknmcmaaBu2
import Derived.Test.YtgpbogalknmcmaaBu5
namespace Go.Proofs.Ytgpbogalknmcmaa
open Go.ChangeShapes Go.WideShapes Go.ChangeAt Go.RowKit

set_option maxHeartbeats 8000000 in
theorem fnExactVoterForget_walk (x0 : Int) (vx : Value) (esx : List (List Fd)) (fpx : List Nat) (n : Int) (w : World) (_hx0 : -9223372036854775808 ≤ x0 ∧ x0 ≤ 9223372036854775807) (hrx : Rd w (rowsD esx) vx fpx) (hmx : esx.length ≤ maxLen) (hpx : ∀ e ∈ esx, voteP e ∧ fitE e) (_hn : -9223372036854775808 ≤ n ∧ n ≤ 9223372036854775807) :
    Calls Try.prog 12 #[.agg #[.int .i64 x0, vx], .int .i64 n] w fun e w' => e = .returned (.bool true) ∧ Below w.heap.size w w' := by
  obtain ⟨_hx01, _hx02⟩ := _hx0
  unfold maxLen at hmx
  obtain ⟨ax1, capx1, rfl⟩ := Rd.slice hrx
  rw [List.length_map] at *
  obtain ⟨_hn1, _hn2⟩ := _hn
  have hbx0 : Below w.heap.size w (w.alloc (.cells #[.int .i64 x0, .slice ax1 esx.length capx1] 41)) := (Below.refl w.heap.size w).alloc (by first | exact Nat.le_refl _ | (simp only [World.size_alloc]; omega)) _
  have hsx0 := Str.new (w) 41 #[.int .i64 x0, .slice ax1 esx.length capx1]
  have Hrx := Lib.hid hrx; clear hrx
  have hpx1 : ∀ e ∈ esx, voteP e := fun e he => (hpx e he).1
  have Hfx := Lib.hid (fun e he => (hpx e he).2); clear hpx
  have hzx : (w.alloc (.cells #[.int .i64 x0, .slice ax1 esx.length capx1] 41)).heap.size = w.heap.size + 1 := by simp
  have Sxb := Lib.hid (show Str (w.alloc (.cells #[.int .i64 x0, .slice ax1 esx.length capx1] 41)) (w.heap.size) 41 #[.int .i64 x0, .slice ax1 esx.length capx1] by simpa using hsx0)
  clear hsx0
  have Hb0 := Lib.hid hbx0
  clear hbx0
  have Hszx := Lib.hid (fun w (hr : Rd w (rowsD esx) (.slice ax1 esx.length capx1) fpx) => laws_szVoterR x0 esx (.slice ax1 esx.length capx1) fpx (1048576) w (by omega) (by omega) hpx1 hr)
  go_enter Try.func12, Try.ntmps12
  have qxb_0 := Sxb.out.cell 0 (v := .int .i64 x0) rfl
  have qxb_1 := Sxb.out.cell 1 (v := .slice ax1 esx.length capx1) rfl
  go_wp2_with fail
  generalize (w.alloc (.cells #[.int .i64 x0, .slice ax1 esx.length capx1] 41)) = w0 at *
  refine (Hszx.out _ (Hrx.out.under Hb0.out)).mono ?_
  rintro e w1 ⟨rfl, hb1⟩
  have Hb1 := Lib.hid (below_step Hb0.out Hb0.out.size hb1)
  have Sxb := Lib.hid (show Str w1 w.heap.size 41 #[.int .i64 x0, .slice ax1 esx.length capx1] from ((hb1).block _ Sxb.out.lt).trans Sxb.out)
  have hz1 := (hb1).size
  clear qxb_0 qxb_1
  have hklx := kTo_bd (voteP_len hpx1) 1 esx.length (Nat.le_refl _)
  clear hklx
  by_cases hlx : esx.length + lnTo esx esx.length ≤ 1048576
  case neg =>
    rw [if_neg hlx]
    go_wp2
    go_ret
    exact ⟨rfl, Hb1.out⟩
  rw [if_pos hlx]
  have hnegx : decide ((((1048576 - esx.length - lnTo esx esx.length : Nat)) : Int) < 0) = false := decide_eq_false (by omega)
  have hngex : ¬ (((1048576 - esx.length - lnTo esx esx.length : Nat) : Int) < 0) := by omega
  have hinx := lnTo_in (es := esx) (m := 1048576) (by omega)
  have hkbx := fun k => kTo_bd (voteP_len hpx1) k esx.length (Nat.le_refl _)
  have Hlnx := Lib.hid (show ∀ e ∈ esx, lnE e ≤ 1099511627776 from fun e he => Nat.le_trans (hinx e he) (by omega))
  obtain ⟨g, rfl⟩ := rows_vt hpx1
  have hL : (g.map Vt.fd).length = g.length := by simp
  have Hspec := Lib.hid (fun v f w (h : Rd w (rowsD (g.map Vt.fd)) v f) => spec_VoterForget x0 g v f n w (by omega) h)
  have Himpl := Lib.hid (fun v f w (h : Rd w (rowsD (g.map Vt.fd)) v f) => impl_VoterForget x0 g v f n w (by omega) h)
  have hsz : (fgG x0 g n).length ≤ 1048576 := Nat.le_trans (fg_len x0 g n) (by omega)
  obtain ⟨hRa, hRb, hRc, hRd⟩ := vt_answer (show (fgG x0 g n).length ≤ 1048576 from hsz)
  clear hsz
  generalize (fgG x0 g n).map Vt.fd = R at *
  have Hrp0 := Lib.hid hRb; clear hRb
  have Hrl0 := Lib.hid hRc; clear hRc
  have Hrk0 := Lib.hid hRd; clear hRd
  generalize fgF x0 g n = N at *
  generalize fgB x0 g n = ok at *
  clear hL
  generalize g.map Vt.fd = esx at *
  have Hinx := Lib.hid hinx; clear hinx
  have Hkbx := Lib.hid hkbx; clear hkbx
  have Hpx := Lib.hid hpx1; clear hpx1
  have qxb_0 := Sxb.out.cell 0 (v := .int .i64 x0) rfl
  have qxb_1 := Sxb.out.cell 1 (v := .slice ax1 esx.length capx1) rfl
  go_wp2_with fail
  refine (laws_toVoterR x0 esx (.slice ax1 esx.length capx1) fpx _ (by omega) Hpx.out Hinx.out (Hrx.out.under Hb1.out)).mono ?_
  rintro e w2 ⟨vxs, rfl, hoxs, hb2⟩
  have Hb2 := Lib.hid (below_step Hb1.out Hb1.out.size hb2)
  have Sxb := Lib.hid (show Str w2 w.heap.size 41 #[.int .i64 x0, .slice ax1 esx.length capx1] from ((hb2).block _ Sxb.out.lt).trans Sxb.out)
  have hz2 := (hb2).size
  have Hxs := Lib.hid hoxs; clear hoxs
  obtain ⟨axs, cxs, rfl, hmlxs⟩ := Hxs.out.slice
  clear hmlxs
  have hhxs : w1.heap.size ≤ w1.heap.size := Nat.le_refl _
  have hjxs : w2.heap.size ≤ w2.heap.size := Nat.le_refl _
  clear qxb_0 qxb_1
  obtain ⟨fxs, hrxs⟩ := Hxs.out.reads
  go_wp2_with fail
  refine (Hspec.out (.slice axs esx.length cxs) fxs _ hrxs).mono ?_
  rintro e w3 ⟨vw0_1, rfl, how0_1, hb3⟩
  have Hb3 := Lib.hid (below_step Hb2.out Hb2.out.size hb3)
  have Hxs := Lib.hid (Hxs.out.below hb3 (by omega))
  have Sxb := Lib.hid (show Str w3 w.heap.size 41 #[.int .i64 x0, .slice ax1 esx.length capx1] from ((hb3).block _ Sxb.out.lt).trans Sxb.out)
  have hz3 := (hb3).size
  have Hw0_1 := Lib.hid how0_1; clear how0_1
  obtain ⟨aw0_1, cw0_1, rfl, hmlw0_1⟩ := Hw0_1.out.slice
  clear hmlw0_1
  have hhw0_1 : w2.heap.size ≤ w2.heap.size := Nat.le_refl _
  have hjw0_1 : w3.heap.size ≤ w3.heap.size := Nat.le_refl _
  clear hrxs
  clear Hxs
  have hAw0 : Below w3.heap.size w3 (w3.alloc (.cells #[.int .i64 N, .slice aw0_1 R.length cw0_1] 25)) := (Below.refl _ _).alloc (Nat.le_refl _) _
  have sNw0 := Str.new w3 25 #[.int .i64 N, .slice aw0_1 R.length cw0_1]
  have hzAw0 : (w3.alloc (.cells #[.int .i64 N, .slice aw0_1 R.length cw0_1] 25)).heap.size = w3.heap.size + 1 := by simp
  have hbsw0 : w3.heap.size ≤ w3.heap.size := Nat.le_refl _
  have Hb4 := Lib.hid (below_step Hb3.out Hb3.out.size hAw0)
  have Hw0_1 := Lib.hid (Hw0_1.out.below hAw0 (by omega))
  have Sxb := Lib.hid (show Str (w3.alloc (.cells #[.int .i64 N, .slice aw0_1 R.length cw0_1] 25)) w.heap.size 41 #[.int .i64 x0, .slice ax1 esx.length capx1] from (hAw0.block _ Sxb.out.lt).trans Sxb.out)
  have Sw0 := Lib.hid sNw0; clear sNw0
  clear hAw0
  have qxb_0 := Sxb.out.cell 0 (v := .int .i64 x0) rfl
  have qxb_1 := Sxb.out.cell 1 (v := .slice ax1 esx.length capx1) rfl
  go_wp2_with fail
  generalize w3.alloc (.cells #[.int .i64 N, .slice aw0_1 R.length cw0_1] 25) = w4 at *
  refine (laws_toVoterR x0 esx (.slice ax1 esx.length capx1) fpx _ (by omega) Hpx.out Hinx.out (Hrx.out.under Hb4.out)).mono ?_
  rintro e w5 ⟨vxx, rfl, hoxx, hb5⟩
  have Hb5 := Lib.hid (below_step Hb4.out Hb4.out.size hb5)
  have Hw0_1 := Lib.hid (Hw0_1.out.below hb5 (by omega))
  have Sxb := Lib.hid (show Str w5 w.heap.size 41 #[.int .i64 x0, .slice ax1 esx.length capx1] from ((hb5).block _ Sxb.out.lt).trans Sxb.out)
  have Sw0 := Lib.hid (show Str w5 w3.heap.size 25 #[.int .i64 N, .slice aw0_1 R.length cw0_1] from ((hb5).block _ Sw0.out.lt).trans Sw0.out)
  have hz5 := (hb5).size
  have Hxx := Lib.hid hoxx; clear hoxx
  obtain ⟨axx, cxx, rfl, hmlxx⟩ := Hxx.out.slice
  clear hmlxx
  have hhxx : w4.heap.size ≤ w4.heap.size := Nat.le_refl _
  have hjxx : w5.heap.size ≤ w5.heap.size := Nat.le_refl _
  clear qxb_0 qxb_1
  have hAxxv : Below w5.heap.size w5 (w5.alloc (.cells #[.int .i64 x0, .slice axx esx.length cxx] 25)) := (Below.refl _ _).alloc (Nat.le_refl _) _
  have sNxxv := Str.new w5 25 #[.int .i64 x0, .slice axx esx.length cxx]
  have hzAxxv : (w5.alloc (.cells #[.int .i64 x0, .slice axx esx.length cxx] 25)).heap.size = w5.heap.size + 1 := by simp
  have hbsxxv : w5.heap.size ≤ w5.heap.size := Nat.le_refl _
  have Hb6 := Lib.hid (below_step Hb5.out Hb5.out.size hAxxv)
  have Hw0_1 := Lib.hid (Hw0_1.out.below hAxxv (by omega))
  have Hxx := Lib.hid (Hxx.out.below hAxxv (by omega))
  have Sxb := Lib.hid (show Str (w5.alloc (.cells #[.int .i64 x0, .slice axx esx.length cxx] 25)) w.heap.size 41 #[.int .i64 x0, .slice ax1 esx.length capx1] from (hAxxv.block _ Sxb.out.lt).trans Sxb.out)
  have Sw0 := Lib.hid (show Str (w5.alloc (.cells #[.int .i64 x0, .slice axx esx.length cxx] 25)) w3.heap.size 25 #[.int .i64 N, .slice aw0_1 R.length cw0_1] from (hAxxv.block _ Sw0.out.lt).trans Sw0.out)
  have Sxxv := Lib.hid sNxxv; clear sNxxv
  clear hAxxv
  have qxb_0 := Sxb.out.cell 0 (v := .int .i64 x0) rfl
  have qxb_1 := Sxb.out.cell 1 (v := .slice ax1 esx.length capx1) rfl
  have qxxv_0 := Sxxv.out.cell 0 (v := .int .i64 x0) rfl
  have qxxv_1 := Sxxv.out.cell 1 (v := .slice axx esx.length cxx) rfl
  go_wp2_with fail
  generalize w5.alloc (.cells #[.int .i64 x0, .slice axx esx.length cxx] 25) = w6 at *
  obtain ⟨fxx, hrxx⟩ := Hxx.out.reads
  refine (Himpl.out (.slice axx esx.length cxx) fxx _ hrxx).mono ?_
  rintro e w7 ⟨vg0_1, rfl, hog0_1, hb7⟩
  have Hb7 := Lib.hid (below_step Hb6.out Hb6.out.size hb7)
  have Hw0_1 := Lib.hid (Hw0_1.out.below hb7 (by omega))
  have Hxx := Lib.hid (Hxx.out.below hb7 (by omega))
  have Sxb := Lib.hid (show Str w7 w.heap.size 41 #[.int .i64 x0, .slice ax1 esx.length capx1] from ((hb7).block _ Sxb.out.lt).trans Sxb.out)
  have Sw0 := Lib.hid (show Str w7 w3.heap.size 25 #[.int .i64 N, .slice aw0_1 R.length cw0_1] from ((hb7).block _ Sw0.out.lt).trans Sw0.out)
  have Sxxv := Lib.hid (show Str w7 w5.heap.size 25 #[.int .i64 x0, .slice axx esx.length cxx] from ((hb7).block _ Sxxv.out.lt).trans Sxxv.out)
  have hz7 := (hb7).size
  have Hg0_1 := Lib.hid hog0_1; clear hog0_1
  obtain ⟨ag0_1, cg0_1, rfl, hmlg0_1⟩ := Hg0_1.out.slice
  clear hmlg0_1
  have hhg0_1 : w6.heap.size ≤ w6.heap.size := Nat.le_refl _
  have hjg0_1 : w7.heap.size ≤ w7.heap.size := Nat.le_refl _
  clear qxb_0 qxb_1 qxxv_0 qxxv_1
  clear hrxx
  have hAg0 : Below w7.heap.size w7 (w7.alloc (.cells #[.int .i64 N, .slice ag0_1 R.length cg0_1] 25)) := (Below.refl _ _).alloc (Nat.le_refl _) _
  have sNg0 := Str.new w7 25 #[.int .i64 N, .slice ag0_1 R.length cg0_1]
  have hzAg0 : (w7.alloc (.cells #[.int .i64 N, .slice ag0_1 R.length cg0_1] 25)).heap.size = w7.heap.size + 1 := by simp
  have hbsg0 : w7.heap.size ≤ w7.heap.size := Nat.le_refl _
  have Hb8 := Lib.hid (below_step Hb7.out Hb7.out.size hAg0)
  have Hw0_1 := Lib.hid (Hw0_1.out.below hAg0 (by omega))
  have Hxx := Lib.hid (Hxx.out.below hAg0 (by omega))
  have Hg0_1 := Lib.hid (Hg0_1.out.below hAg0 (by omega))
  have Sxb := Lib.hid (show Str (w7.alloc (.cells #[.int .i64 N, .slice ag0_1 R.length cg0_1] 25)) w.heap.size 41 #[.int .i64 x0, .slice ax1 esx.length capx1] from (hAg0.block _ Sxb.out.lt).trans Sxb.out)
  have Sw0 := Lib.hid (show Str (w7.alloc (.cells #[.int .i64 N, .slice ag0_1 R.length cg0_1] 25)) w3.heap.size 25 #[.int .i64 N, .slice aw0_1 R.length cw0_1] from (hAg0.block _ Sw0.out.lt).trans Sw0.out)
  have Sxxv := Lib.hid (show Str (w7.alloc (.cells #[.int .i64 N, .slice ag0_1 R.length cg0_1] 25)) w5.heap.size 25 #[.int .i64 x0, .slice axx esx.length cxx] from (hAg0.block _ Sxxv.out.lt).trans Sxxv.out)
  have Sg0 := Lib.hid sNg0; clear sNg0
  clear hAg0
  have qg0_0 := Sg0.out.cell 0 (v := .int .i64 N) rfl
  have qg0_1 := Sg0.out.cell 1 (v := .slice ag0_1 R.length cg0_1) rfl
  have qw0_0 := Sw0.out.cell 0 (v := .int .i64 N) rfl
  have qw0_1 := Sw0.out.cell 1 (v := .slice aw0_1 R.length cw0_1) rfl
  go_wp2_with fail
  generalize w7.alloc (.cells #[.int .i64 N, .slice ag0_1 R.length cg0_1] 25) = w8 at *
  obtain ⟨fg0_1, hrg0_1⟩ := Hg0_1.out.reads
  obtain ⟨fw0_1, hrw0_1⟩ := Hw0_1.out.reads
  refine (laws_eqVoterR ( N) R _ _ fg0_1 fw0_1 w8 (by omega) Hrp0.out Hrl0.out hrg0_1 hrw0_1).mono ?_
  rintro e w9 ⟨rfl, hb9⟩
  have Hb9 := Lib.hid (below_step Hb8.out Hb8.out.size hb9)
  have Hw0_1 := Lib.hid (Hw0_1.out.below hb9 (by omega))
  have Hxx := Lib.hid (Hxx.out.below hb9 (by omega))
  have Hg0_1 := Lib.hid (Hg0_1.out.below hb9 (by omega))
  have Sxb := Lib.hid (show Str w9 w.heap.size 41 #[.int .i64 x0, .slice ax1 esx.length capx1] from ((hb9).block _ Sxb.out.lt).trans Sxb.out)
  have Sw0 := Lib.hid (show Str w9 w3.heap.size 25 #[.int .i64 N, .slice aw0_1 R.length cw0_1] from ((hb9).block _ Sw0.out.lt).trans Sw0.out)
  have Sxxv := Lib.hid (show Str w9 w5.heap.size 25 #[.int .i64 x0, .slice axx esx.length cxx] from ((hb9).block _ Sxxv.out.lt).trans Sxxv.out)
  have Sg0 := Lib.hid (show Str w9 w7.heap.size 25 #[.int .i64 N, .slice ag0_1 R.length cg0_1] from ((hb9).block _ Sg0.out.lt).trans Sg0.out)
  have hz9 := (hb9).size
  clear hrg0_1 hrw0_1
  clear qg0_0 qg0_1 qw0_0 qw0_1
  have qxxv_0 := Sxxv.out.cell 0 (v := .int .i64 x0) rfl
  have qxxv_1 := Sxxv.out.cell 1 (v := .slice axx esx.length cxx) rfl
  have qxb_0 := Sxb.out.cell 0 (v := .int .i64 x0) rfl
  have qxb_1 := Sxb.out.cell 1 (v := .slice ax1 esx.length capx1) rfl
  go_wp2_with fail
  clear qxxv_0 qxxv_1 qxb_0 qxb_1
  have hdr : Below w9.heap.size w9 w9.drew := (Below.refl _ _).drew
  refine wp_region_held_drew (S := fun w' => w'.cell? ⟨w5.heap.size, 0, none⟩ = some (.int .i64 x0) ∧ w'.cell? ⟨w5.heap.size, 1, none⟩ = some (.slice axx esx.length cxx) ∧ w'.cell? ⟨w.heap.size, 0, none⟩ = some (.int .i64 x0) ∧ w'.cell? ⟨w.heap.size, 1, none⟩ = some (.slice ax1 esx.length capx1)) (by kernel_rfl) ⟨Sxxv.out.cell 0 (v := .int .i64 x0) rfl, Sxxv.out.cell 1 (v := .slice axx esx.length cxx) rfl, Sxb.out.cell 0 (v := .int .i64 x0) rfl, Sxb.out.cell 1 (v := .slice ax1 esx.length capx1) rfl⟩ (fun hH => ?_)
  generalize w9.drew = w10 at *
  have Hb10 := Lib.hid (below_step Hb9.out Hb9.out.size hdr)
  have Hw0_1 := Lib.hid (Hw0_1.out.below hdr (by omega))
  have Hxx := Lib.hid (Hxx.out.below hdr (by omega))
  have Hg0_1 := Lib.hid (Hg0_1.out.below hdr (by omega))
  have Sxb := Lib.hid (show Str w10 w.heap.size 41 #[.int .i64 x0, .slice ax1 esx.length capx1] from ((hdr).block _ Sxb.out.lt).trans Sxb.out)
  have Sw0 := Lib.hid (show Str w10 w3.heap.size 25 #[.int .i64 N, .slice aw0_1 R.length cw0_1] from ((hdr).block _ Sw0.out.lt).trans Sw0.out)
  have Sxxv := Lib.hid (show Str w10 w5.heap.size 25 #[.int .i64 x0, .slice axx esx.length cxx] from ((hdr).block _ Sxxv.out.lt).trans Sxxv.out)
  have Sg0 := Lib.hid (show Str w10 w7.heap.size 25 #[.int .i64 N, .slice ag0_1 R.length cg0_1] from ((hdr).block _ Sg0.out.lt).trans Sg0.out)
  have hz10 := (hdr).size
  clear hdr
  refine takeH 0 (v := ?vqx0) rfl (by kernel_rfl) (by kernel_rfl) (by kernel_rfl) (fun _ _ _ h => h) hH rfl ?yqx0 ?rqx0
  case yqx0 => intro W hSw; go_simp; try with_reducible rfl
  try simp only [Act.put, List.setIfInBounds_toArray, List.set_cons_zero, List.set_cons_succ]
  refine takeH 1 (v := ?vqx1) rfl (by kernel_rfl) (by kernel_rfl) (by kernel_rfl) (fun _ _ _ h => h) hH rfl ?yqx1 ?rqx1
  case yqx1 => intro W hSw; go_simp; try with_reducible rfl
  try simp only [Act.put, List.setIfInBounds_toArray, List.set_cons_zero, List.set_cons_succ]
  refine callH 2 rfl (by kernel_rfl) rfl (fun K hK => ?_)
  go_simp
  refine (laws_toVoterR x0 esx (.slice ax1 esx.length capx1) fpx _ (by omega) Hpx.out Hinx.out (Hrx.out.under Hb10.out)).mono ?_
  rintro e w11 ⟨vxy, rfl, hoxy, hb11⟩
  have Hb11 := Lib.hid (below_step Hb10.out Hb10.out.size hb11)
  have Hw0_1 := Lib.hid (Hw0_1.out.below hb11 (by omega))
  have Hxx := Lib.hid (Hxx.out.below hb11 (by omega))
  have Hg0_1 := Lib.hid (Hg0_1.out.below hb11 (by omega))
  have Sxb := Lib.hid (show Str w11 w.heap.size 41 #[.int .i64 x0, .slice ax1 esx.length capx1] from ((hb11).block _ Sxb.out.lt).trans Sxb.out)
  have Sw0 := Lib.hid (show Str w11 w3.heap.size 25 #[.int .i64 N, .slice aw0_1 R.length cw0_1] from ((hb11).block _ Sw0.out.lt).trans Sw0.out)
  have Sxxv := Lib.hid (show Str w11 w5.heap.size 25 #[.int .i64 x0, .slice axx esx.length cxx] from ((hb11).block _ Sxxv.out.lt).trans Sxxv.out)
  have Sg0 := Lib.hid (show Str w11 w7.heap.size 25 #[.int .i64 N, .slice ag0_1 R.length cg0_1] from ((hb11).block _ Sg0.out.lt).trans Sg0.out)
  have hz11 := (hb11).size
  have Hxy := Lib.hid hoxy; clear hoxy
  obtain ⟨axy, cxy, rfl, hmlxy⟩ := Hxy.out.slice
  clear hmlxy
  have hhxy : w10.heap.size ≤ w10.heap.size := Nat.le_refl _
  have hjxy : w11.heap.size ≤ w11.heap.size := Nat.le_refl _
  dsimp only
  refine hK.out _ _ ⟨Sxxv.out.cell 0 (v := .int .i64 x0) rfl, Sxxv.out.cell 1 (v := .slice axx esx.length cxx) rfl, Sxb.out.cell 0 (v := .int .i64 x0) rfl, Sxb.out.cell 1 (v := .slice ax1 esx.length capx1) rfl⟩ (fun hH => ?_)
  clear hK K
  try simp only [Act.put, List.setIfInBounds_toArray, List.set_cons_zero, List.set_cons_succ]
  refine callH 3 rfl (by kernel_rfl) rfl (fun K hK => ?_)
  go_simp
  obtain ⟨fxx, hrxx⟩ := Hxx.out.reads
  obtain ⟨fxy, hrxy⟩ := Hxy.out.reads
  refine (laws_eqVoterR x0 esx _ _ fxx fxy w11 (by omega) Hpx.out Hlnx.out hrxx hrxy).mono ?_
  rintro e w12 ⟨rfl, hb12⟩
  have Hb12 := Lib.hid (below_step Hb11.out Hb11.out.size hb12)
  have Hw0_1 := Lib.hid (Hw0_1.out.below hb12 (by omega))
  have Hxx := Lib.hid (Hxx.out.below hb12 (by omega))
  have Hg0_1 := Lib.hid (Hg0_1.out.below hb12 (by omega))
  have Hxy := Lib.hid (Hxy.out.below hb12 (by omega))
  have Sxb := Lib.hid (show Str w12 w.heap.size 41 #[.int .i64 x0, .slice ax1 esx.length capx1] from ((hb12).block _ Sxb.out.lt).trans Sxb.out)
  have Sw0 := Lib.hid (show Str w12 w3.heap.size 25 #[.int .i64 N, .slice aw0_1 R.length cw0_1] from ((hb12).block _ Sw0.out.lt).trans Sw0.out)
  have Sxxv := Lib.hid (show Str w12 w5.heap.size 25 #[.int .i64 x0, .slice axx esx.length cxx] from ((hb12).block _ Sxxv.out.lt).trans Sxxv.out)
  have Sg0 := Lib.hid (show Str w12 w7.heap.size 25 #[.int .i64 N, .slice ag0_1 R.length cg0_1] from ((hb12).block _ Sg0.out.lt).trans Sg0.out)
  have hz12 := (hb12).size
  clear hrxx hrxy
  dsimp only
  refine hK.out _ _ ⟨Sxxv.out.cell 0 (v := .int .i64 x0) rfl, Sxxv.out.cell 1 (v := .slice axx esx.length cxx) rfl, Sxb.out.cell 0 (v := .int .i64 x0) rfl, Sxb.out.cell 1 (v := .slice ax1 esx.length capx1) rfl⟩ (fun hH => ?_)
  clear hK K
  try simp only [Act.put, List.setIfInBounds_toArray, List.set_cons_zero, List.set_cons_succ]
  refine takeH 4 (v := ?vqx4) rfl (by kernel_rfl) (by kernel_rfl) (by kernel_rfl) (fun _ _ _ h => h) hH rfl ?yqx4 ?rqx4
  case yqx4 => intro W hSw; go_simp; try with_reducible rfl
  try simp only [Act.put, List.setIfInBounds_toArray, List.set_cons_zero, List.set_cons_succ]
  refine wpAnyH_done (by kernel_rfl) ?_ _
  try simp only [Act.put]
  clear hH
  clear Hxy
  have qxxv_0 := Sxxv.out.cell 0 (v := .int .i64 x0) rfl
  have qxxv_1 := Sxxv.out.cell 1 (v := .slice axx esx.length cxx) rfl
  go_wp2_with fail
  have hkk := Hkbx.out (1)
  refine (laws_markVoterR x0 esx _ (1) w4.heap.size w5.heap.size w12 (by omega) Hpx.out (by omega) Hxx.out).mono ?_
  rintro e w13 ⟨rfl, ho, hbt⟩
  clear qxxv_0 qxxv_1
  have Hb13 := Lib.hid ((hbt).below Hb12.out Hb12.out.size (by omega))
  have hz13 := (hbt).size
  have Hw0_1 := Lib.hid ((hbt).ownR Hw0_1.out (by omega) (by first | exact .inl (by omega) | exact .inr (by omega) | omega))
  have Hg0_1 := Lib.hid ((hbt).ownR Hg0_1.out (by omega) (by first | exact .inl (by omega) | exact .inr (by omega) | omega))
  have Sxb := Lib.hid (Sxb.out.btw (hbt) (by first | exact .inl (by omega) | exact .inr (by omega) | omega))
  have Sw0 := Lib.hid (Sw0.out.btw (hbt) (by first | exact .inl (by omega) | exact .inr (by omega) | omega))
  have Sxxv := Lib.hid (Sxxv.out.btw (hbt) (by first | exact .inl (by omega) | exact .inr (by omega) | omega))
  have Sg0 := Lib.hid (Sg0.out.btw (hbt) (by first | exact .inl (by omega) | exact .inr (by omega) | omega))
  have Hxx := Lib.hid (ho)
  clear ho hbt
  generalize kTo esx (1) esx.length = k1 at *
  have hkn : decide (((k1 : Nat) : Int) < 0) = false := decide_eq_false (by omega)
  have hkn' : ¬ ((k1 : Nat) : Int) < 0 := by omega
  have qg0_0 := Sg0.out.cell 0 (v := .int .i64 N) rfl
  have qg0_1 := Sg0.out.cell 1 (v := .slice ag0_1 R.length cg0_1) rfl
  have qw0_0 := Sw0.out.cell 0 (v := .int .i64 N) rfl
  have qw0_1 := Sw0.out.cell 1 (v := .slice aw0_1 R.length cw0_1) rfl
  obtain ⟨fg0_1, hrg0_1⟩ := Hg0_1.out.reads
  obtain ⟨fw0_1, hrw0_1⟩ := Hw0_1.out.reads
  go_wp2_with fail
  refine (laws_eqVoterR ( N) R _ _ fg0_1 fw0_1 w13 (by omega) Hrp0.out Hrl0.out hrg0_1 hrw0_1).mono ?_
  rintro e w14 ⟨rfl, hb14⟩
  have Hb14 := Lib.hid (below_step Hb13.out Hb13.out.size hb14)
  have Hw0_1 := Lib.hid (Hw0_1.out.below hb14 (by omega))
  have Hxx := Lib.hid (Hxx.out.below hb14 (by omega))
  have Hg0_1 := Lib.hid (Hg0_1.out.below hb14 (by omega))
  have Sxb := Lib.hid (show Str w14 w.heap.size 41 #[.int .i64 x0, .slice ax1 esx.length capx1] from ((hb14).block _ Sxb.out.lt).trans Sxb.out)
  have Sw0 := Lib.hid (show Str w14 w3.heap.size 25 #[.int .i64 N, .slice aw0_1 R.length cw0_1] from ((hb14).block _ Sw0.out.lt).trans Sw0.out)
  have Sxxv := Lib.hid (show Str w14 w5.heap.size 25 #[.int .i64 x0, .slice axx esx.length cxx] from ((hb14).block _ Sxxv.out.lt).trans Sxxv.out)
  have Sg0 := Lib.hid (show Str w14 w7.heap.size 25 #[.int .i64 N, .slice ag0_1 R.length cg0_1] from ((hb14).block _ Sg0.out.lt).trans Sg0.out)
  have hz14 := (hb14).size
  clear hrg0_1 hrw0_1
  clear qg0_0 qg0_1 qw0_0 qw0_1
  have qg0_0 := Sg0.out.cell 0 (v := .int .i64 N) rfl
  have qg0_1 := Sg0.out.cell 1 (v := .slice ag0_1 R.length cg0_1) rfl
  go_wp2_with fail
  have hkk := Hrk0.out (1)
  refine (laws_markVoterR ( N) R _ (1) w6.heap.size w7.heap.size w14 (by omega) Hrp0.out (by omega) Hg0_1.out).mono ?_
  rintro e w15 ⟨rfl, ho, hbt⟩
  clear qg0_0 qg0_1
  have Hb15 := Lib.hid ((hbt).below Hb14.out Hb14.out.size (by omega))
  have hz15 := (hbt).size
  have Hw0_1 := Lib.hid ((hbt).ownR Hw0_1.out (by omega) (by first | exact .inl (by omega) | exact .inr (by omega) | omega))
  have Hxx := Lib.hid ((hbt).ownR Hxx.out (by omega) (by first | exact .inl (by omega) | exact .inr (by omega) | omega))
  have Sxb := Lib.hid (Sxb.out.btw (hbt) (by first | exact .inl (by omega) | exact .inr (by omega) | omega))
  have Sw0 := Lib.hid (Sw0.out.btw (hbt) (by first | exact .inl (by omega) | exact .inr (by omega) | omega))
  have Sxxv := Lib.hid (Sxxv.out.btw (hbt) (by first | exact .inl (by omega) | exact .inr (by omega) | omega))
  have Sg0 := Lib.hid (Sg0.out.btw (hbt) (by first | exact .inl (by omega) | exact .inr (by omega) | omega))
  have Hg0_1 := Lib.hid (ho)
  clear ho hbt
  generalize hm1 : kTo R (1) R.length = m1 at *
  have Hm1 := Lib.hid hm1; clear hm1
  have hmn : decide (((m1 : Nat) : Int) < 0) = false := decide_eq_false (by omega)
  have hmn' : ¬ ((m1 : Nat) : Int) < 0 := by omega
  have hhe := laws_heldVoterR ( N) R _ (1) w6.heap.size w7.heap.size w15 (by have := Hrk0.out (1); omega) Hrp0.out (by omega) Hg0_1.out
  rw [Hm1.out] at hhe
  have Hhe := Lib.hid hhe; clear hhe
  have qg0_0 := Sg0.out.cell 0 (v := .int .i64 N) rfl
  have qg0_1 := Sg0.out.cell 1 (v := .slice ag0_1 R.length cg0_1) rfl
  go_wp2_with fail
  refine (Hhe.out).mono ?_
  rintro e w16 ⟨rfl, hb16⟩
  have Hb16 := Lib.hid (below_step Hb15.out Hb15.out.size hb16)
  have Hw0_1 := Lib.hid (Hw0_1.out.below hb16 (by omega))
  have Hxx := Lib.hid (Hxx.out.below hb16 (by omega))
  have Hg0_1 := Lib.hid (Hg0_1.out.below hb16 (by omega))
  have Sxb := Lib.hid (show Str w16 w.heap.size 41 #[.int .i64 x0, .slice ax1 esx.length capx1] from ((hb16).block _ Sxb.out.lt).trans Sxb.out)
  have Sw0 := Lib.hid (show Str w16 w3.heap.size 25 #[.int .i64 N, .slice aw0_1 R.length cw0_1] from ((hb16).block _ Sw0.out.lt).trans Sw0.out)
  have Sxxv := Lib.hid (show Str w16 w5.heap.size 25 #[.int .i64 x0, .slice axx esx.length cxx] from ((hb16).block _ Sxxv.out.lt).trans Sxxv.out)
  have Sg0 := Lib.hid (show Str w16 w7.heap.size 25 #[.int .i64 N, .slice ag0_1 R.length cg0_1] from ((hb16).block _ Sg0.out.lt).trans Sg0.out)
  have hz16 := (hb16).size
  clear qg0_0 qg0_1
  clear Hhe
  clear Hxx
  have qxb_0 := Sxb.out.cell 0 (v := .int .i64 x0) rfl
  have qxb_1 := Sxb.out.cell 1 (v := .slice ax1 esx.length capx1) rfl
  go_wp2_with fail
  refine (laws_toVoterR x0 esx (.slice ax1 esx.length capx1) fpx _ (by omega) Hpx.out Hinx.out (Hrx.out.under Hb16.out)).mono ?_
  rintro e w17 ⟨vxz, rfl, hoxz, hb17⟩
  have Hb17 := Lib.hid (below_step Hb16.out Hb16.out.size hb17)
  have Hw0_1 := Lib.hid (Hw0_1.out.below hb17 (by omega))
  have Hg0_1 := Lib.hid (Hg0_1.out.below hb17 (by omega))
  have Sxb := Lib.hid (show Str w17 w.heap.size 41 #[.int .i64 x0, .slice ax1 esx.length capx1] from ((hb17).block _ Sxb.out.lt).trans Sxb.out)
  have Sw0 := Lib.hid (show Str w17 w3.heap.size 25 #[.int .i64 N, .slice aw0_1 R.length cw0_1] from ((hb17).block _ Sw0.out.lt).trans Sw0.out)
  have Sxxv := Lib.hid (show Str w17 w5.heap.size 25 #[.int .i64 x0, .slice axx esx.length cxx] from ((hb17).block _ Sxxv.out.lt).trans Sxxv.out)
  have Sg0 := Lib.hid (show Str w17 w7.heap.size 25 #[.int .i64 N, .slice ag0_1 R.length cg0_1] from ((hb17).block _ Sg0.out.lt).trans Sg0.out)
  have hz17 := (hb17).size
  have Hxz := Lib.hid hoxz; clear hoxz
  obtain ⟨axz, cxz, rfl, hmlxz⟩ := Hxz.out.slice
  clear hmlxz
  have hhxz : w16.heap.size ≤ w16.heap.size := Nat.le_refl _
  have hjxz : w17.heap.size ≤ w17.heap.size := Nat.le_refl _
  clear qxb_0 qxb_1
  obtain ⟨fxz, hrxz⟩ := Hxz.out.reads
  go_wp2_with fail
  refine (Himpl.out (.slice axz esx.length cxz) fxz _ hrxz).mono ?_
  rintro e w18 ⟨vh0_1, rfl, hoh0_1, hb18⟩
  have Hb18 := Lib.hid (below_step Hb17.out Hb17.out.size hb18)
  have Hw0_1 := Lib.hid (Hw0_1.out.below hb18 (by omega))
  have Hg0_1 := Lib.hid (Hg0_1.out.below hb18 (by omega))
  have Hxz := Lib.hid (Hxz.out.below hb18 (by omega))
  have Sxb := Lib.hid (show Str w18 w.heap.size 41 #[.int .i64 x0, .slice ax1 esx.length capx1] from ((hb18).block _ Sxb.out.lt).trans Sxb.out)
  have Sw0 := Lib.hid (show Str w18 w3.heap.size 25 #[.int .i64 N, .slice aw0_1 R.length cw0_1] from ((hb18).block _ Sw0.out.lt).trans Sw0.out)
  have Sxxv := Lib.hid (show Str w18 w5.heap.size 25 #[.int .i64 x0, .slice axx esx.length cxx] from ((hb18).block _ Sxxv.out.lt).trans Sxxv.out)
  have Sg0 := Lib.hid (show Str w18 w7.heap.size 25 #[.int .i64 N, .slice ag0_1 R.length cg0_1] from ((hb18).block _ Sg0.out.lt).trans Sg0.out)
  have hz18 := (hb18).size
  have Hh0_1 := Lib.hid hoh0_1; clear hoh0_1
  obtain ⟨ah0_1, ch0_1, rfl, hmlh0_1⟩ := Hh0_1.out.slice
  clear hmlh0_1
  have hhh0_1 : w17.heap.size ≤ w17.heap.size := Nat.le_refl _
  have hjh0_1 : w18.heap.size ≤ w18.heap.size := Nat.le_refl _
  clear hrxz
  have hAh0 : Below w18.heap.size w18 (w18.alloc (.cells #[.int .i64 N, .slice ah0_1 R.length ch0_1] 25)) := (Below.refl _ _).alloc (Nat.le_refl _) _
  have sNh0 := Str.new w18 25 #[.int .i64 N, .slice ah0_1 R.length ch0_1]
  have hzAh0 : (w18.alloc (.cells #[.int .i64 N, .slice ah0_1 R.length ch0_1] 25)).heap.size = w18.heap.size + 1 := by simp
  have hbsh0 : w18.heap.size ≤ w18.heap.size := Nat.le_refl _
  have Hb19 := Lib.hid (below_step Hb18.out Hb18.out.size hAh0)
  have Hw0_1 := Lib.hid (Hw0_1.out.below hAh0 (by omega))
  have Hg0_1 := Lib.hid (Hg0_1.out.below hAh0 (by omega))
  have Hxz := Lib.hid (Hxz.out.below hAh0 (by omega))
  have Hh0_1 := Lib.hid (Hh0_1.out.below hAh0 (by omega))
  have Sxb := Lib.hid (show Str (w18.alloc (.cells #[.int .i64 N, .slice ah0_1 R.length ch0_1] 25)) w.heap.size 41 #[.int .i64 x0, .slice ax1 esx.length capx1] from (hAh0.block _ Sxb.out.lt).trans Sxb.out)
  have Sw0 := Lib.hid (show Str (w18.alloc (.cells #[.int .i64 N, .slice ah0_1 R.length ch0_1] 25)) w3.heap.size 25 #[.int .i64 N, .slice aw0_1 R.length cw0_1] from (hAh0.block _ Sw0.out.lt).trans Sw0.out)
  have Sxxv := Lib.hid (show Str (w18.alloc (.cells #[.int .i64 N, .slice ah0_1 R.length ch0_1] 25)) w5.heap.size 25 #[.int .i64 x0, .slice axx esx.length cxx] from (hAh0.block _ Sxxv.out.lt).trans Sxxv.out)
  have Sg0 := Lib.hid (show Str (w18.alloc (.cells #[.int .i64 N, .slice ah0_1 R.length ch0_1] 25)) w7.heap.size 25 #[.int .i64 N, .slice ag0_1 R.length cg0_1] from (hAh0.block _ Sg0.out.lt).trans Sg0.out)
  have Sh0 := Lib.hid sNh0; clear sNh0
  clear hAh0
  have qh0_0 := Sh0.out.cell 0 (v := .int .i64 N) rfl
  have qh0_1 := Sh0.out.cell 1 (v := .slice ah0_1 R.length ch0_1) rfl
  have qw0_0 := Sw0.out.cell 0 (v := .int .i64 N) rfl
  have qw0_1 := Sw0.out.cell 1 (v := .slice aw0_1 R.length cw0_1) rfl
  go_wp2_with fail
  generalize w18.alloc (.cells #[.int .i64 N, .slice ah0_1 R.length ch0_1] 25) = w19 at *
  obtain ⟨fh0_1, hrh0_1⟩ := Hh0_1.out.reads
  obtain ⟨fw0_1, hrw0_1⟩ := Hw0_1.out.reads
  refine (laws_eqVoterR ( N) R _ _ fh0_1 fw0_1 w19 (by omega) Hrp0.out Hrl0.out hrh0_1 hrw0_1).mono ?_
  rintro e w20 ⟨rfl, hb20⟩
  have Hb20 := Lib.hid (below_step Hb19.out Hb19.out.size hb20)
  have Hw0_1 := Lib.hid (Hw0_1.out.below hb20 (by omega))
  have Hg0_1 := Lib.hid (Hg0_1.out.below hb20 (by omega))
  have Hxz := Lib.hid (Hxz.out.below hb20 (by omega))
  have Hh0_1 := Lib.hid (Hh0_1.out.below hb20 (by omega))
  have Sxb := Lib.hid (show Str w20 w.heap.size 41 #[.int .i64 x0, .slice ax1 esx.length capx1] from ((hb20).block _ Sxb.out.lt).trans Sxb.out)
  have Sw0 := Lib.hid (show Str w20 w3.heap.size 25 #[.int .i64 N, .slice aw0_1 R.length cw0_1] from ((hb20).block _ Sw0.out.lt).trans Sw0.out)
  have Sxxv := Lib.hid (show Str w20 w5.heap.size 25 #[.int .i64 x0, .slice axx esx.length cxx] from ((hb20).block _ Sxxv.out.lt).trans Sxxv.out)
  have Sg0 := Lib.hid (show Str w20 w7.heap.size 25 #[.int .i64 N, .slice ag0_1 R.length cg0_1] from ((hb20).block _ Sg0.out.lt).trans Sg0.out)
  have Sh0 := Lib.hid (show Str w20 w18.heap.size 25 #[.int .i64 N, .slice ah0_1 R.length ch0_1] from ((hb20).block _ Sh0.out.lt).trans Sh0.out)
  have hz20 := (hb20).size
  clear hrh0_1 hrw0_1
  clear qh0_0 qh0_1 qw0_0 qw0_1
  have hhe := laws_heldVoterR ( N) R _ (1) w6.heap.size w7.heap.size w20 (by have := Hrk0.out (1); omega) Hrp0.out (by omega) Hg0_1.out
  rw [Hm1.out] at hhe
  have Hhe := Lib.hid hhe; clear hhe
  have qg0_0 := Sg0.out.cell 0 (v := .int .i64 N) rfl
  have qg0_1 := Sg0.out.cell 1 (v := .slice ag0_1 R.length cg0_1) rfl
  go_wp2_with fail
  refine (Hhe.out).mono ?_
  rintro e w21 ⟨rfl, hb21⟩
  have Hb21 := Lib.hid (below_step Hb20.out Hb20.out.size hb21)
  have Hw0_1 := Lib.hid (Hw0_1.out.below hb21 (by omega))
  have Hg0_1 := Lib.hid (Hg0_1.out.below hb21 (by omega))
  have Hxz := Lib.hid (Hxz.out.below hb21 (by omega))
  have Hh0_1 := Lib.hid (Hh0_1.out.below hb21 (by omega))
  have Sxb := Lib.hid (show Str w21 w.heap.size 41 #[.int .i64 x0, .slice ax1 esx.length capx1] from ((hb21).block _ Sxb.out.lt).trans Sxb.out)
  have Sw0 := Lib.hid (show Str w21 w3.heap.size 25 #[.int .i64 N, .slice aw0_1 R.length cw0_1] from ((hb21).block _ Sw0.out.lt).trans Sw0.out)
  have Sxxv := Lib.hid (show Str w21 w5.heap.size 25 #[.int .i64 x0, .slice axx esx.length cxx] from ((hb21).block _ Sxxv.out.lt).trans Sxxv.out)
  have Sg0 := Lib.hid (show Str w21 w7.heap.size 25 #[.int .i64 N, .slice ag0_1 R.length cg0_1] from ((hb21).block _ Sg0.out.lt).trans Sg0.out)
  have Sh0 := Lib.hid (show Str w21 w18.heap.size 25 #[.int .i64 N, .slice ah0_1 R.length ch0_1] from ((hb21).block _ Sh0.out.lt).trans Sh0.out)
  have hz21 := (hb21).size
  clear qg0_0 qg0_1
  clear Hhe
  go_wp2
  go_ret
  exact ⟨by first | rfl | exact ret_bool (by simp), Hb21.out⟩

theorem fnExactVoterForget_own : ownKnob Try.prog.godebug = none := by kernel_rfl
theorem fnExactVoterForget_laidOut : laidOutB Try.prog = true := by kernel_rfl

set_option maxRecDepth 8000 in
theorem fnExactVoterForget_lifted (os : Os) (started : os.Started) (H : Type) (enc : TypeId × Value → H) :
    ReturnsInHanded {} Try.checked os 12 .any (Rows.fnExactVoterForgetSpec.pre6 enc Try.prog Try.f12 Rows.fnExactVoterForgetRow.domain false) (Rows.fnExactVoterForgetSpec.post enc Try.prog Try.f12 false true false false) := by
  refine law_lifted (C := Try.checked) (tb := 4) fnExactVoterForget_own fnExactVoterForget_laidOut started (by kernel_rfl) Try.func12 rfl Try.underlying4 rfl (by rw [Try.params12]; exact of_decide_eq_true (by kernel_rfl)) ?_
    (ChangeSpec.witness6 (enc := enc) (C := Try.checked) false ⟨#[], #[.agg #[.int .i64 0, .slice none 0 0], .int .i64 0], []⟩ 8 (by kernel_rfl) (by kernel_rfl) (by kernel_rfl) (by kernel_rfl)) ?_
  · intro ds hds
    rw [Try.params12] at hds
    match ds, hds with
    | [d0, d1], _ => rfl
  · intro W base args ds p hval0 hA0
    have hval : ∀ (j : Nat) t v, Try.f12.params[j]? = some t → args[j]? = some v → Value.okWide Try.prog W .any base t v := hval0
    have hA : DataW.TrodAll enc Try.prog W 0 (fun _ => true) true Try.f12.params.toList args.toList ds p := hA0
    rw [Try.params12] at hA hval
    obtain ⟨v0, vs0, d0, ds0, p0, q0, hargs0, rfl, rfl, h0, r0⟩ := trodAll_cons hA
    obtain ⟨v1, vs1, d1, ds1, p1, q1, hargs1, rfl, rfl, h1, r1⟩ := trodAll_cons r0
    obtain ⟨hnil, rfl, rfl⟩ := trodAll_nil r1
    subst hnil
    subst hargs1
    obtain rfl : args = #[v0, v1] := by cases args; simp_all
    obtain ⟨x0_0, v0_1, es0_1, fp0_1, rfl, b0_0, r0_1, m0_1, p0_1⟩ := open_Voter (hval 0 41 v0 rfl rfl) h0
    obtain ⟨n1, rfl, _, _, hw1⟩ := open_int Try.underlying3 (hval 1 3 v1 rfl rfl) h1
    exact fnExactVoterForget_walk x0_0 v0_1 es0_1 fp0_1 n1 W b0_0 r0_1 m0_1 p0_1 (wf_i64 hw1)

theorem fnExactVoterForget_holds : Rows.FnExactVoterForgetSaid :=
  OpenClaim.holds_of_wide 12 Try.f12 rfl rfl rfl rfl rfl rfl rfl ⟨rfl, rfl, rfl, rfl, rfl⟩ rfl rfl rfl rfl rfl (by kernel_rfl) Try.func12 (by kernel_rfl)
    (of_decide_eq_true (by kernel_rfl)) (by unfold Func.isWrapper; first | (rw [if_pos (by decide +kernel)]; kernel_rfl) | (rw [if_neg (by decide +kernel)]; exact ⟨rfl, rfl⟩))
    (fun os started H enc _ => fnExactVoterForget_lifted os started H enc)

end Go.Proofs.Ytgpbogalknmcmaa
