/- The exact law of VoterValid holds at every argument; no conditions of our own. -/
import Derived.Test.YtgpbogalknmcmaaRows
import Derived.Test.YtgpbogalknmcmaaBu0
import Derived.Test.YtgpbogalknmcmaaBu1
import Derived.Test.YtgpbogalknmcmaaBu2
import Derived.Test.YtgpbogalknmcmaaBu5
namespace Go.Proofs.Ytgpbogalknmcmaa
open Go.ChangeShapes Go.WideShapes Go.ChangeAt Go.RowKit

set_option maxHeartbeats 2000000 in
theorem fnExactVoterValid_walk (x0 : Int) (vx : Value) (esx : List (List Fd)) (fpx : List Nat) (w : World) (_hx0 : -9223372036854775808 ≤ x0 ∧ x0 ≤ 9223372036854775807) (hrx : Rd w (rowsD esx) vx fpx) (hmx : esx.length ≤ maxLen) (hpx : ∀ e ∈ esx, voteP e ∧ fitE e) :
    Calls Try.prog 10 #[.agg #[.int .i64 x0, vx]] w fun e w' => e = .returned (.bool true) ∧ Below w.heap.size w w' := by
  obtain ⟨_hx01, _hx02⟩ := _hx0
  unfold maxLen at hmx
  obtain ⟨ax1, capx1, rfl⟩ := Rd.slice hrx
  rw [List.length_map] at *
  have hbx0 : Below w.heap.size w (w.alloc (.cells #[.int .i64 x0, .slice ax1 esx.length capx1] 41)) := (Below.refl w.heap.size w).alloc (by first | exact Nat.le_refl _ | (simp only [World.size_alloc]; omega)) _
  have hsx0 := Str.new (w) 41 #[.int .i64 x0, .slice ax1 esx.length capx1]
  have Hrx := Lib.hid hrx; clear hrx
  have hpx1 : ∀ e ∈ esx, voteP e := fun e he => (hpx e he).1
  have Hfx := Lib.hid (fun e he => (hpx e he).2); clear hpx
  have hzx : (w.alloc (.cells #[.int .i64 x0, .slice ax1 esx.length capx1] 41)).heap.size = w.heap.size + 1 := by simp
  have Sxb := Lib.hid (show Str (w.alloc (.cells #[.int .i64 x0, .slice ax1 esx.length capx1] 41)) (w.heap.size) 41 #[.int .i64 x0, .slice ax1 esx.length capx1] by simpa using hsx0)
  clear hsx0
  have Hb0 := Lib.hid hbx0
  clear hbx0
  have Hszx := Lib.hid (fun w (hr : Rd w (rowsD esx) (.slice ax1 esx.length capx1) fpx) => laws_szVoterR x0 esx (.slice ax1 esx.length capx1) fpx (1048576) w (by omega) (by omega) hpx1 hr)
  go_enter Try.func10, Try.ntmps10
  have qxb_0 := Sxb.out.cell 0 (v := .int .i64 x0) rfl
  have qxb_1 := Sxb.out.cell 1 (v := .slice ax1 esx.length capx1) rfl
  go_wp2_with fail
  generalize (w.alloc (.cells #[.int .i64 x0, .slice ax1 esx.length capx1] 41)) = w0 at *
  refine (Hszx.out _ (Hrx.out.under Hb0.out)).mono ?_
  rintro e w1 ⟨rfl, hb1⟩
  have Hb1 := Lib.hid (below_step Hb0.out Hb0.out.size hb1)
  have Sxb := Lib.hid (show Str w1 w.heap.size 41 #[.int .i64 x0, .slice ax1 esx.length capx1] from ((hb1).block _ Sxb.out.lt).trans Sxb.out)
  have hz1 := (hb1).size
  clear qxb_0 qxb_1
  have hklx := kTo_bd (voteP_len hpx1) 1 esx.length (Nat.le_refl _)
  clear hklx
  by_cases hlx : esx.length + lnTo esx esx.length ≤ 1048576
  case neg =>
    rw [if_neg hlx]
    go_wp2
    go_ret
    exact ⟨rfl, Hb1.out⟩
  rw [if_pos hlx]
  have hnegx : decide ((((1048576 - esx.length - lnTo esx esx.length : Nat)) : Int) < 0) = false := decide_eq_false (by omega)
  have hngex : ¬ (((1048576 - esx.length - lnTo esx esx.length : Nat) : Int) < 0) := by omega
  have hinx := lnTo_in (es := esx) (m := 1048576) (by omega)
  have hkbx := fun k => kTo_bd (voteP_len hpx1) k esx.length (Nat.le_refl _)
  have Hlnx := Lib.hid (show ∀ e ∈ esx, lnE e ≤ 1099511627776 from fun e he => Nat.le_trans (hinx e he) (by omega))
  obtain ⟨g, rfl⟩ := rows_vt hpx1
  have hL : (g.map Vt.fd).length = g.length := by simp
  have Hspec := Lib.hid (fun v f w (h : Rd w (rowsD (g.map Vt.fd)) v f) => spec_VoterValid x0 g v f w (by omega) h)
  have Himpl := Lib.hid (fun v f w (h : Rd w (rowsD (g.map Vt.fd)) v f) => impl_VoterValid x0 g v f w (by omega) h)
  generalize voterB x0 g = ok at *
  clear hL
  generalize g.map Vt.fd = esx at *
  have Hinx := Lib.hid hinx; clear hinx
  have Hkbx := Lib.hid hkbx; clear hkbx
  have Hpx := Lib.hid hpx1; clear hpx1
  have qxb_0 := Sxb.out.cell 0 (v := .int .i64 x0) rfl
  have qxb_1 := Sxb.out.cell 1 (v := .slice ax1 esx.length capx1) rfl
  go_wp2_with fail
  refine (laws_toVoterR x0 esx (.slice ax1 esx.length capx1) fpx _ (by omega) Hpx.out Hinx.out (Hrx.out.under Hb1.out)).mono ?_
  rintro e w2 ⟨vxs, rfl, hoxs, hb2⟩
  have Hb2 := Lib.hid (below_step Hb1.out Hb1.out.size hb2)
  have Sxb := Lib.hid (show Str w2 w.heap.size 41 #[.int .i64 x0, .slice ax1 esx.length capx1] from ((hb2).block _ Sxb.out.lt).trans Sxb.out)
  have hz2 := (hb2).size
  have Hxs := Lib.hid hoxs; clear hoxs
  obtain ⟨axs, cxs, rfl, hmlxs⟩ := Hxs.out.slice
  clear hmlxs
  have hhxs : w1.heap.size ≤ w1.heap.size := Nat.le_refl _
  have hjxs : w2.heap.size ≤ w2.heap.size := Nat.le_refl _
  clear qxb_0 qxb_1
  obtain ⟨fxs, hrxs⟩ := Hxs.out.reads
  go_wp2_with fail
  refine (Hspec.out (.slice axs esx.length cxs) fxs _ hrxs).mono ?_
  rintro e w3 ⟨rfl, hb3⟩
  have Hb3 := Lib.hid (below_step Hb2.out Hb2.out.size hb3)
  have Hxs := Lib.hid (Hxs.out.below hb3 (by omega))
  have Sxb := Lib.hid (show Str w3 w.heap.size 41 #[.int .i64 x0, .slice ax1 esx.length capx1] from ((hb3).block _ Sxb.out.lt).trans Sxb.out)
  have hz3 := (hb3).size
  clear hrxs
  clear Hxs
  have qxb_0 := Sxb.out.cell 0 (v := .int .i64 x0) rfl
  have qxb_1 := Sxb.out.cell 1 (v := .slice ax1 esx.length capx1) rfl
  go_wp2_with fail
  refine (laws_toVoterR x0 esx (.slice ax1 esx.length capx1) fpx _ (by omega) Hpx.out Hinx.out (Hrx.out.under Hb3.out)).mono ?_
  rintro e w4 ⟨vxx, rfl, hoxx, hb4⟩
  have Hb4 := Lib.hid (below_step Hb3.out Hb3.out.size hb4)
  have Sxb := Lib.hid (show Str w4 w.heap.size 41 #[.int .i64 x0, .slice ax1 esx.length capx1] from ((hb4).block _ Sxb.out.lt).trans Sxb.out)
  have hz4 := (hb4).size
  have Hxx := Lib.hid hoxx; clear hoxx
  obtain ⟨axx, cxx, rfl, hmlxx⟩ := Hxx.out.slice
  clear hmlxx
  have hhxx : w3.heap.size ≤ w3.heap.size := Nat.le_refl _
  have hjxx : w4.heap.size ≤ w4.heap.size := Nat.le_refl _
  clear qxb_0 qxb_1
  have hAxxv : Below w4.heap.size w4 (w4.alloc (.cells #[.int .i64 x0, .slice axx esx.length cxx] 25)) := (Below.refl _ _).alloc (Nat.le_refl _) _
  have sNxxv := Str.new w4 25 #[.int .i64 x0, .slice axx esx.length cxx]
  have hzAxxv : (w4.alloc (.cells #[.int .i64 x0, .slice axx esx.length cxx] 25)).heap.size = w4.heap.size + 1 := by simp
  have hbsxxv : w4.heap.size ≤ w4.heap.size := Nat.le_refl _
  have Hb5 := Lib.hid (below_step Hb4.out Hb4.out.size hAxxv)
  have Hxx := Lib.hid (Hxx.out.below hAxxv (by omega))
  have Sxb := Lib.hid (show Str (w4.alloc (.cells #[.int .i64 x0, .slice axx esx.length cxx] 25)) w.heap.size 41 #[.int .i64 x0, .slice ax1 esx.length capx1] from (hAxxv.block _ Sxb.out.lt).trans Sxb.out)
  have Sxxv := Lib.hid sNxxv; clear sNxxv
  clear hAxxv
  have qxb_0 := Sxb.out.cell 0 (v := .int .i64 x0) rfl
  have qxb_1 := Sxb.out.cell 1 (v := .slice ax1 esx.length capx1) rfl
  have qxxv_0 := Sxxv.out.cell 0 (v := .int .i64 x0) rfl
  have qxxv_1 := Sxxv.out.cell 1 (v := .slice axx esx.length cxx) rfl
  go_wp2_with fail
  generalize w4.alloc (.cells #[.int .i64 x0, .slice axx esx.length cxx] 25) = w5 at *
  obtain ⟨fxx, hrxx⟩ := Hxx.out.reads
  refine (Himpl.out (.slice axx esx.length cxx) fxx _ hrxx).mono ?_
  rintro e w6 ⟨rfl, hb6⟩
  have Hb6 := Lib.hid (below_step Hb5.out Hb5.out.size hb6)
  have Hxx := Lib.hid (Hxx.out.below hb6 (by omega))
  have Sxb := Lib.hid (show Str w6 w.heap.size 41 #[.int .i64 x0, .slice ax1 esx.length capx1] from ((hb6).block _ Sxb.out.lt).trans Sxb.out)
  have Sxxv := Lib.hid (show Str w6 w4.heap.size 25 #[.int .i64 x0, .slice axx esx.length cxx] from ((hb6).block _ Sxxv.out.lt).trans Sxxv.out)
  have hz6 := (hb6).size
  clear qxb_0 qxb_1 qxxv_0 qxxv_1
  clear hrxx
  have qxxv_0 := Sxxv.out.cell 0 (v := .int .i64 x0) rfl
  have qxxv_1 := Sxxv.out.cell 1 (v := .slice axx esx.length cxx) rfl
  have qxb_0 := Sxb.out.cell 0 (v := .int .i64 x0) rfl
  have qxb_1 := Sxb.out.cell 1 (v := .slice ax1 esx.length capx1) rfl
  go_wp2_with fail
  clear qxxv_0 qxxv_1 qxb_0 qxb_1
  have hdr : Below w6.heap.size w6 w6.drew := (Below.refl _ _).drew
  refine wp_region_held_drew (S := fun w' => w'.cell? ⟨w4.heap.size, 0, none⟩ = some (.int .i64 x0) ∧ w'.cell? ⟨w4.heap.size, 1, none⟩ = some (.slice axx esx.length cxx) ∧ w'.cell? ⟨w.heap.size, 0, none⟩ = some (.int .i64 x0) ∧ w'.cell? ⟨w.heap.size, 1, none⟩ = some (.slice ax1 esx.length capx1)) (by kernel_rfl) ⟨Sxxv.out.cell 0 (v := .int .i64 x0) rfl, Sxxv.out.cell 1 (v := .slice axx esx.length cxx) rfl, Sxb.out.cell 0 (v := .int .i64 x0) rfl, Sxb.out.cell 1 (v := .slice ax1 esx.length capx1) rfl⟩ (fun hH => ?_)
  generalize w6.drew = w7 at *
  have Hb7 := Lib.hid (below_step Hb6.out Hb6.out.size hdr)
  have Hxx := Lib.hid (Hxx.out.below hdr (by omega))
  have Sxb := Lib.hid (show Str w7 w.heap.size 41 #[.int .i64 x0, .slice ax1 esx.length capx1] from ((hdr).block _ Sxb.out.lt).trans Sxb.out)
  have Sxxv := Lib.hid (show Str w7 w4.heap.size 25 #[.int .i64 x0, .slice axx esx.length cxx] from ((hdr).block _ Sxxv.out.lt).trans Sxxv.out)
  have hz7 := (hdr).size
  clear hdr
  refine takeH 0 (v := ?vqx0) rfl (by kernel_rfl) (by kernel_rfl) (by kernel_rfl) (fun _ _ _ h => h) hH rfl ?yqx0 ?rqx0
  case yqx0 => intro W hSw; go_simp; try with_reducible rfl
  try simp only [Act.put, List.setIfInBounds_toArray, List.set_cons_zero, List.set_cons_succ]
  refine takeH 1 (v := ?vqx1) rfl (by kernel_rfl) (by kernel_rfl) (by kernel_rfl) (fun _ _ _ h => h) hH rfl ?yqx1 ?rqx1
  case yqx1 => intro W hSw; go_simp; try with_reducible rfl
  try simp only [Act.put, List.setIfInBounds_toArray, List.set_cons_zero, List.set_cons_succ]
  refine callH 2 rfl (by kernel_rfl) rfl (fun K hK => ?_)
  go_simp
  refine (laws_toVoterR x0 esx (.slice ax1 esx.length capx1) fpx _ (by omega) Hpx.out Hinx.out (Hrx.out.under Hb7.out)).mono ?_
  rintro e w8 ⟨vxy, rfl, hoxy, hb8⟩
  have Hb8 := Lib.hid (below_step Hb7.out Hb7.out.size hb8)
  have Hxx := Lib.hid (Hxx.out.below hb8 (by omega))
  have Sxb := Lib.hid (show Str w8 w.heap.size 41 #[.int .i64 x0, .slice ax1 esx.length capx1] from ((hb8).block _ Sxb.out.lt).trans Sxb.out)
  have Sxxv := Lib.hid (show Str w8 w4.heap.size 25 #[.int .i64 x0, .slice axx esx.length cxx] from ((hb8).block _ Sxxv.out.lt).trans Sxxv.out)
  have hz8 := (hb8).size
  have Hxy := Lib.hid hoxy; clear hoxy
  obtain ⟨axy, cxy, rfl, hmlxy⟩ := Hxy.out.slice
  clear hmlxy
  have hhxy : w7.heap.size ≤ w7.heap.size := Nat.le_refl _
  have hjxy : w8.heap.size ≤ w8.heap.size := Nat.le_refl _
  dsimp only
  refine hK.out _ _ ⟨Sxxv.out.cell 0 (v := .int .i64 x0) rfl, Sxxv.out.cell 1 (v := .slice axx esx.length cxx) rfl, Sxb.out.cell 0 (v := .int .i64 x0) rfl, Sxb.out.cell 1 (v := .slice ax1 esx.length capx1) rfl⟩ (fun hH => ?_)
  clear hK K
  try simp only [Act.put, List.setIfInBounds_toArray, List.set_cons_zero, List.set_cons_succ]
  refine callH 3 rfl (by kernel_rfl) rfl (fun K hK => ?_)
  go_simp
  obtain ⟨fxx, hrxx⟩ := Hxx.out.reads
  obtain ⟨fxy, hrxy⟩ := Hxy.out.reads
  refine (laws_eqVoterR x0 esx _ _ fxx fxy w8 (by omega) Hpx.out Hlnx.out hrxx hrxy).mono ?_
  rintro e w9 ⟨rfl, hb9⟩
  have Hb9 := Lib.hid (below_step Hb8.out Hb8.out.size hb9)
  have Hxx := Lib.hid (Hxx.out.below hb9 (by omega))
  have Hxy := Lib.hid (Hxy.out.below hb9 (by omega))
  have Sxb := Lib.hid (show Str w9 w.heap.size 41 #[.int .i64 x0, .slice ax1 esx.length capx1] from ((hb9).block _ Sxb.out.lt).trans Sxb.out)
  have Sxxv := Lib.hid (show Str w9 w4.heap.size 25 #[.int .i64 x0, .slice axx esx.length cxx] from ((hb9).block _ Sxxv.out.lt).trans Sxxv.out)
  have hz9 := (hb9).size
  clear hrxx hrxy
  dsimp only
  refine hK.out _ _ ⟨Sxxv.out.cell 0 (v := .int .i64 x0) rfl, Sxxv.out.cell 1 (v := .slice axx esx.length cxx) rfl, Sxb.out.cell 0 (v := .int .i64 x0) rfl, Sxb.out.cell 1 (v := .slice ax1 esx.length capx1) rfl⟩ (fun hH => ?_)
  clear hK K
  try simp only [Act.put, List.setIfInBounds_toArray, List.set_cons_zero, List.set_cons_succ]
  refine takeH 4 (v := ?vqx4) rfl (by kernel_rfl) (by kernel_rfl) (by kernel_rfl) (fun _ _ _ h => h) hH rfl ?yqx4 ?rqx4
  case yqx4 => intro W hSw; go_simp; try with_reducible rfl
  try simp only [Act.put, List.setIfInBounds_toArray, List.set_cons_zero, List.set_cons_succ]
  refine wpAnyH_done (by kernel_rfl) ?_ _
  try simp only [Act.put]
  clear hH
  clear Hxy
  go_wp2
  go_ret
  exact ⟨by first | rfl | exact ret_bool (by simp), Hb9.out⟩

theorem fnExactVoterValid_own : ownKnob Try.prog.godebug = none := by kernel_rfl
theorem fnExactVoterValid_laidOut : laidOutB Try.prog = true := by kernel_rfl

set_option maxRecDepth 8000 in
theorem fnExactVoterValid_lifted (os : Os) (started : os.Started) (H : Type) (enc : TypeId × Value → H) :
    ReturnsInHanded {} Try.checked os 10 .any (Rows.fnExactVoterValidSpec.pre6 enc Try.prog Try.f10 Rows.fnExactVoterValidRow.domain false) (Rows.fnExactVoterValidSpec.post enc Try.prog Try.f10 false true false false) := by
  refine law_lifted (C := Try.checked) (tb := 4) fnExactVoterValid_own fnExactVoterValid_laidOut started (by kernel_rfl) Try.func10 rfl Try.underlying4 rfl (by rw [Try.params10]; exact of_decide_eq_true (by kernel_rfl)) ?_
    (ChangeSpec.witness6 (enc := enc) (C := Try.checked) false ⟨#[], #[.agg #[.int .i64 0, .slice none 0 0]], []⟩ 8 (by kernel_rfl) (by kernel_rfl) (by kernel_rfl) (by kernel_rfl)) ?_
  · intro ds hds
    rw [Try.params10] at hds
    match ds, hds with
    | [d0], _ => rfl
  · intro W base args ds p hval0 hA0
    have hval : ∀ (j : Nat) t v, Try.f10.params[j]? = some t → args[j]? = some v → Value.okWide Try.prog W .any base t v := hval0
    have hA : DataW.TrodAll enc Try.prog W 0 (fun _ => true) true Try.f10.params.toList args.toList ds p := hA0
    rw [Try.params10] at hA hval
    obtain ⟨v0, vs0, d0, ds0, p0, q0, hargs0, rfl, rfl, h0, r0⟩ := trodAll_cons hA
    obtain ⟨hnil, rfl, rfl⟩ := trodAll_nil r0
    subst hnil
    obtain rfl : args = #[v0] := by cases args; simp_all
    obtain ⟨x0_0, v0_1, es0_1, fp0_1, rfl, b0_0, r0_1, m0_1, p0_1⟩ := open_Voter (hval 0 41 v0 rfl rfl) h0
    exact fnExactVoterValid_walk x0_0 v0_1 es0_1 fp0_1 W b0_0 r0_1 m0_1 p0_1

theorem fnExactVoterValid_holds : Rows.FnExactVoterValidSaid :=
  OpenClaim.holds_of_wide 10 Try.f10 rfl rfl rfl rfl rfl rfl rfl ⟨rfl, rfl, rfl, rfl, rfl⟩ rfl rfl rfl rfl rfl (by kernel_rfl) Try.func10 (by kernel_rfl)
    (of_decide_eq_true (by kernel_rfl)) (by unfold Func.isWrapper; first | (rw [if_pos (by decide +kernel)]; kernel_rfl) | (rw [if_neg (by decide +kernel)]; exact ⟨rfl, rfl⟩))
    (fun os started H enc _ => fnExactVoterValid_lifted os started H enc)

end Go.Proofs.Ytgpbogalknmcmaa
