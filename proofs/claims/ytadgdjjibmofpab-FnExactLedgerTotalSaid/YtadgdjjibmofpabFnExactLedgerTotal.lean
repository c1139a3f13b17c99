/- The exact law of LedgerTotal holds at every argument; no conditions of our own. -/
import Derived.Test.YtadgdjjibmofpabRows
import Derived.Test.YtadgdjjibmofpabBu0
import Derived.Test.YtadgdjjibmofpabBu1
import Derived.Test.YtadgdjjibmofpabBu2
namespace Go.Proofs.Ytadgdjjibmofpab
open Go.ChangeShapes Go.WideShapes Go.ChangeAt Go.RowKit

set_option maxHeartbeats 2000000 in
theorem fnExactLedgerTotal_walk (ax0 : Option Addr) (capx0 : Nat) (xx0 : List Int) (x1 : Int) (w : World) (hmxx0 : xx0.length ≤ maxLen ∧ ∀ x ∈ xx0, -9223372036854775808 ≤ x ∧ x ≤ 9223372036854775807) (hixx0 : IntsAt w ax0 xx0) (_hx1 : -9223372036854775808 ≤ x1 ∧ x1 ≤ 9223372036854775807) :
    Calls Try.prog 5 #[.agg #[.slice ax0 xx0.length capx0, .int .i64 x1]] w fun e w' => e = .returned (.bool true) ∧ Below w.heap.size w w' := by
  obtain ⟨hmxx0, _hbxx0⟩ := hmxx0
  unfold maxLen at hmxx0
  obtain ⟨_hx11, _hx12⟩ := _hx1
  have hbx0 : Below w.heap.size w (w.alloc (.cells #[.slice ax0 xx0.length capx0, .int .i64 x1] 30)) := (Below.refl w.heap.size w).alloc (by first | exact Nat.le_refl _ | (simp only [World.size_alloc]; omega)) _
  have hsx0 := Str.new (w) 30 #[.slice ax0 xx0.length capx0, .int .i64 x1]
  have Hixx0 := Lib.hid hixx0; clear hixx0
  have hzx : (w.alloc (.cells #[.slice ax0 xx0.length capx0, .int .i64 x1] 30)).heap.size = w.heap.size + 1 := by simp
  have Sxb := Lib.hid (show Str (w.alloc (.cells #[.slice ax0 xx0.length capx0, .int .i64 x1] 30)) (w.heap.size) 30 #[.slice ax0 xx0.length capx0, .int .i64 x1] by simpa using hsx0)
  clear hsx0
  have Hb0 := Lib.hid hbx0
  clear hbx0
  have Hszx := Lib.hid (fun w => laws_szLedgerR ax0 capx0 xx0 x1 (1048576) w (by omega) (by omega))
  go_enter Try.func5, Try.ntmps5
  have qxb_0 := Sxb.out.cell 0 (v := .slice ax0 xx0.length capx0) rfl
  have qxb_1 := Sxb.out.cell 1 (v := .int .i64 x1) rfl
  go_wp2_with fail
  generalize (w.alloc (.cells #[.slice ax0 xx0.length capx0, .int .i64 x1] 30)) = w0 at *
  refine (Hszx.out _).mono ?_
  rintro e w1 ⟨rfl, hb1⟩
  have Hb1 := Lib.hid (below_step Hb0.out Hb0.out.size hb1)
  have Sxb := Lib.hid (show Str w1 w.heap.size 30 #[.slice ax0 xx0.length capx0, .int .i64 x1] from ((hb1).block _ Sxb.out.lt).trans Sxb.out)
  have hz1 := (hb1).size
  clear qxb_0 qxb_1
  by_cases hlxx0 : xx0.length ≤ 1048576
  case neg =>
    rw [if_neg hlxx0]
    go_wp2
    go_ret
    exact ⟨rfl, Hb1.out⟩
  rw [if_pos hlxx0]
  have hnegx : decide ((((1048576 - xx0.length : Nat)) : Int) < 0) = false := decide_eq_false (by omega)
  have hngex : ¬ (((1048576 - xx0.length : Nat) : Int) < 0) := by omega
  have Hspec := Lib.hid (fun a_ c_ w (_hc : xx0.length ≤ c_) (h : IntsAt w a_ xx0) (_hs : SrcAt w a_ c_ xx0) => spec_LedgerTotal a_ c_ xx0 x1 w (by omega) h)
  have Himpl := Lib.hid (fun a_ c_ w (_hc : xx0.length ≤ c_) (h : IntsAt w a_ xx0) (_hs : SrcAt w a_ c_ xx0) => impl_LedgerTotal a_ c_ xx0 x1 w (by omega) h)
  generalize totZ xx0 x1 = N at *
  have qxb_0 := Sxb.out.cell 0 (v := .slice ax0 xx0.length capx0) rfl
  have qxb_1 := Sxb.out.cell 1 (v := .int .i64 x1) rfl
  go_wp2_with fail
  refine (laws_toLedgerR ax0 capx0 xx0 x1 _ (by omega) (Hixx0.out.below Hb1.out)).mono ?_
  rintro e w2 ⟨vxs, rfl, hoxs, hb2⟩
  have Hb2 := Lib.hid (below_step Hb1.out Hb1.out.size hb2)
  have Sxb := Lib.hid (show Str w2 w.heap.size 30 #[.slice ax0 xx0.length capx0, .int .i64 x1] from ((hb2).block _ Sxb.out.lt).trans Sxb.out)
  have hz2 := (hb2).size
  have Hxs := Lib.hid (OwnI.of hoxs); clear hoxs
  obtain ⟨axs, cxs, rfl, _, _⟩ := Hxs.out.ints
  have hcxs := Hxs.out.cap
  have hhxs : w1.heap.size ≤ w1.heap.size := Nat.le_refl _
  have hjxs : w2.heap.size ≤ w2.heap.size := Nat.le_refl _
  clear qxb_0 qxb_1
  go_wp2_with fail
  refine (Hspec.out axs cxs _ hcxs Hxs.out.at (own_src Hxs.out.own)).mono ?_
  rintro e w3 ⟨rfl, hb3⟩
  have Hb3 := Lib.hid (below_step Hb2.out Hb2.out.size hb3)
  have Hxs := Lib.hid (Hxs.out.below hb3)
  have Sxb := Lib.hid (show Str w3 w.heap.size 30 #[.slice ax0 xx0.length capx0, .int .i64 x1] from ((hb3).block _ Sxb.out.lt).trans Sxb.out)
  have hz3 := (hb3).size
  clear Hxs
  have qxb_0 := Sxb.out.cell 0 (v := .slice ax0 xx0.length capx0) rfl
  have qxb_1 := Sxb.out.cell 1 (v := .int .i64 x1) rfl
  go_wp2_with fail
  refine (laws_toLedgerR ax0 capx0 xx0 x1 _ (by omega) (Hixx0.out.below Hb3.out)).mono ?_
  rintro e w4 ⟨vxx, rfl, hoxx, hb4⟩
  have Hb4 := Lib.hid (below_step Hb3.out Hb3.out.size hb4)
  have Sxb := Lib.hid (show Str w4 w.heap.size 30 #[.slice ax0 xx0.length capx0, .int .i64 x1] from ((hb4).block _ Sxb.out.lt).trans Sxb.out)
  have hz4 := (hb4).size
  have Hxx := Lib.hid (OwnI.of hoxx); clear hoxx
  obtain ⟨axx, cxx, rfl, _, _⟩ := Hxx.out.ints
  have hcxx := Hxx.out.cap
  have hhxx : w3.heap.size ≤ w3.heap.size := Nat.le_refl _
  have hjxx : w4.heap.size ≤ w4.heap.size := Nat.le_refl _
  clear qxb_0 qxb_1
  have hAxxv : Below w4.heap.size w4 (w4.alloc (.cells #[.slice axx xx0.length cxx, .int .i64 x1] 33)) := (Below.refl _ _).alloc (Nat.le_refl _) _
  have sNxxv := Str.new w4 33 #[.slice axx xx0.length cxx, .int .i64 x1]
  have hzAxxv : (w4.alloc (.cells #[.slice axx xx0.length cxx, .int .i64 x1] 33)).heap.size = w4.heap.size + 1 := by simp
  have hbsxxv : w4.heap.size ≤ w4.heap.size := Nat.le_refl _
  have Hb5 := Lib.hid (below_step Hb4.out Hb4.out.size hAxxv)
  have Hxx := Lib.hid (Hxx.out.below hAxxv)
  have Sxb := Lib.hid (show Str (w4.alloc (.cells #[.slice axx xx0.length cxx, .int .i64 x1] 33)) w.heap.size 30 #[.slice ax0 xx0.length capx0, .int .i64 x1] from (hAxxv.block _ Sxb.out.lt).trans Sxb.out)
  have Sxxv := Lib.hid sNxxv; clear sNxxv
  clear hAxxv
  have qxb_0 := Sxb.out.cell 0 (v := .slice ax0 xx0.length capx0) rfl
  have qxb_1 := Sxb.out.cell 1 (v := .int .i64 x1) rfl
  have qxxv_0 := Sxxv.out.cell 0 (v := .slice axx xx0.length cxx) rfl
  have qxxv_1 := Sxxv.out.cell 1 (v := .int .i64 x1) rfl
  go_wp2_with fail
  generalize w4.alloc (.cells #[.slice axx xx0.length cxx, .int .i64 x1] 33) = w5 at *
  refine (Himpl.out axx cxx _ hcxx Hxx.out.at (own_src Hxx.out.own)).mono ?_
  rintro e w6 ⟨rfl, hb6⟩
  have Hb6 := Lib.hid (below_step Hb5.out Hb5.out.size hb6)
  have Hxx := Lib.hid (Hxx.out.below hb6)
  have Sxb := Lib.hid (show Str w6 w.heap.size 30 #[.slice ax0 xx0.length capx0, .int .i64 x1] from ((hb6).block _ Sxb.out.lt).trans Sxb.out)
  have Sxxv := Lib.hid (show Str w6 w4.heap.size 33 #[.slice axx xx0.length cxx, .int .i64 x1] from ((hb6).block _ Sxxv.out.lt).trans Sxxv.out)
  have hz6 := (hb6).size
  clear qxb_0 qxb_1 qxxv_0 qxxv_1
  have qxxv_0 := Sxxv.out.cell 0 (v := .slice axx xx0.length cxx) rfl
  have qxxv_1 := Sxxv.out.cell 1 (v := .int .i64 x1) rfl
  have qxb_0 := Sxb.out.cell 0 (v := .slice ax0 xx0.length capx0) rfl
  have qxb_1 := Sxb.out.cell 1 (v := .int .i64 x1) rfl
  go_wp2_with fail
  clear qxxv_0 qxxv_1 qxb_0 qxb_1
  have hdr : Below w6.heap.size w6 w6.drew := (Below.refl _ _).drew
  refine wp_region_held_drew (S := fun w' => w'.cell? ⟨w4.heap.size, 0, none⟩ = some (.slice axx xx0.length cxx) ∧ w'.cell? ⟨w4.heap.size, 1, none⟩ = some (.int .i64 x1) ∧ w'.cell? ⟨w.heap.size, 0, none⟩ = some (.slice ax0 xx0.length capx0) ∧ w'.cell? ⟨w.heap.size, 1, none⟩ = some (.int .i64 x1)) (by kernel_rfl) ⟨Sxxv.out.cell 0 (v := .slice axx xx0.length cxx) rfl, Sxxv.out.cell 1 (v := .int .i64 x1) rfl, Sxb.out.cell 0 (v := .slice ax0 xx0.length capx0) rfl, Sxb.out.cell 1 (v := .int .i64 x1) rfl⟩ (fun hH => ?_)
  generalize w6.drew = w7 at *
  have Hb7 := Lib.hid (below_step Hb6.out Hb6.out.size hdr)
  have Hxx := Lib.hid (Hxx.out.below hdr)
  have Sxb := Lib.hid (show Str w7 w.heap.size 30 #[.slice ax0 xx0.length capx0, .int .i64 x1] from ((hdr).block _ Sxb.out.lt).trans Sxb.out)
  have Sxxv := Lib.hid (show Str w7 w4.heap.size 33 #[.slice axx xx0.length cxx, .int .i64 x1] from ((hdr).block _ Sxxv.out.lt).trans Sxxv.out)
  have hz7 := (hdr).size
  clear hdr
  refine takeH 0 (v := ?vqx0) rfl (by kernel_rfl) (by kernel_rfl) (by kernel_rfl) (fun _ _ _ h => h) hH rfl ?yqx0 ?rqx0
  case yqx0 => intro W hSw; go_simp; try with_reducible rfl
  try simp only [Act.put, List.setIfInBounds_toArray, List.set_cons_zero, List.set_cons_succ]
  refine takeH 1 (v := ?vqx1) rfl (by kernel_rfl) (by kernel_rfl) (by kernel_rfl) (fun _ _ _ h => h) hH rfl ?yqx1 ?rqx1
  case yqx1 => intro W hSw; go_simp; try with_reducible rfl
  try simp only [Act.put, List.setIfInBounds_toArray, List.set_cons_zero, List.set_cons_succ]
  refine callH 2 rfl (by kernel_rfl) rfl (fun K hK => ?_)
  go_simp
  refine (laws_toLedgerR ax0 capx0 xx0 x1 _ (by omega) (Hixx0.out.below Hb7.out)).mono ?_
  rintro e w8 ⟨vxy, rfl, hoxy, hb8⟩
  have Hb8 := Lib.hid (below_step Hb7.out Hb7.out.size hb8)
  have Hxx := Lib.hid (Hxx.out.below hb8)
  have Sxb := Lib.hid (show Str w8 w.heap.size 30 #[.slice ax0 xx0.length capx0, .int .i64 x1] from ((hb8).block _ Sxb.out.lt).trans Sxb.out)
  have Sxxv := Lib.hid (show Str w8 w4.heap.size 33 #[.slice axx xx0.length cxx, .int .i64 x1] from ((hb8).block _ Sxxv.out.lt).trans Sxxv.out)
  have hz8 := (hb8).size
  have Hxy := Lib.hid (OwnI.of hoxy); clear hoxy
  obtain ⟨axy, cxy, rfl, _, _⟩ := Hxy.out.ints
  have hcxy := Hxy.out.cap
  have hhxy : w7.heap.size ≤ w7.heap.size := Nat.le_refl _
  have hjxy : w8.heap.size ≤ w8.heap.size := Nat.le_refl _
  dsimp only
  refine hK.out _ _ ⟨Sxxv.out.cell 0 (v := .slice axx xx0.length cxx) rfl, Sxxv.out.cell 1 (v := .int .i64 x1) rfl, Sxb.out.cell 0 (v := .slice ax0 xx0.length capx0) rfl, Sxb.out.cell 1 (v := .int .i64 x1) rfl⟩ (fun hH => ?_)
  clear hK K
  try simp only [Act.put, List.setIfInBounds_toArray, List.set_cons_zero, List.set_cons_succ]
  refine callH 3 rfl (by kernel_rfl) rfl (fun K hK => ?_)
  go_simp
  refine (laws_eqLedgerR axx axy cxx cxy xx0 x1 w8 (by omega) Hxx.out.at Hxy.out.at).mono ?_
  rintro e w9 ⟨rfl, hb9⟩
  have Hb9 := Lib.hid (below_step Hb8.out Hb8.out.size hb9)
  have Hxx := Lib.hid (Hxx.out.below hb9)
  have Hxy := Lib.hid (Hxy.out.below hb9)
  have Sxb := Lib.hid (show Str w9 w.heap.size 30 #[.slice ax0 xx0.length capx0, .int .i64 x1] from ((hb9).block _ Sxb.out.lt).trans Sxb.out)
  have Sxxv := Lib.hid (show Str w9 w4.heap.size 33 #[.slice axx xx0.length cxx, .int .i64 x1] from ((hb9).block _ Sxxv.out.lt).trans Sxxv.out)
  have hz9 := (hb9).size
  dsimp only
  refine hK.out _ _ ⟨Sxxv.out.cell 0 (v := .slice axx xx0.length cxx) rfl, Sxxv.out.cell 1 (v := .int .i64 x1) rfl, Sxb.out.cell 0 (v := .slice ax0 xx0.length capx0) rfl, Sxb.out.cell 1 (v := .int .i64 x1) rfl⟩ (fun hH => ?_)
  clear hK K
  try simp only [Act.put, List.setIfInBounds_toArray, List.set_cons_zero, List.set_cons_succ]
  refine takeH 4 (v := ?vqx4) rfl (by kernel_rfl) (by kernel_rfl) (by kernel_rfl) (fun _ _ _ h => h) hH rfl ?yqx4 ?rqx4
  case yqx4 => intro W hSw; go_simp; try with_reducible rfl
  try simp only [Act.put, List.setIfInBounds_toArray, List.set_cons_zero, List.set_cons_succ]
  refine wpAnyH_done (by kernel_rfl) ?_ _
  try simp only [Act.put]
  clear hH
  clear Hxy
  go_wp2
  go_ret
  exact ⟨by first | rfl | exact ret_bool (by simp), Hb9.out⟩

theorem fnExactLedgerTotal_own : ownKnob Try.prog.godebug = none := by kernel_rfl
theorem fnExactLedgerTotal_laidOut : laidOutB Try.prog = true := by kernel_rfl

set_option maxRecDepth 8000 in
theorem fnExactLedgerTotal_lifted (os : Os) (started : os.Started) (H : Type) (enc : TypeId × Value → H) :
    ReturnsInHanded {} Try.checked os 5 .any (Rows.fnExactLedgerTotalSpec.pre6 enc Try.prog Try.f5 Rows.fnExactLedgerTotalRow.domain false) (Rows.fnExactLedgerTotalSpec.post enc Try.prog Try.f5 false true false false) := by
  refine law_lifted (C := Try.checked) (tb := 4) fnExactLedgerTotal_own fnExactLedgerTotal_laidOut started (by kernel_rfl) Try.func5 rfl Try.underlying4 rfl (by rw [Try.params5]; exact of_decide_eq_true (by kernel_rfl)) ?_
    (ChangeSpec.witness6 (enc := enc) (C := Try.checked) false ⟨#[], #[.agg #[.slice none 0 0, .int .i64 0]], []⟩ 8 (by kernel_rfl) (by kernel_rfl) (by kernel_rfl) (by kernel_rfl)) ?_
  · intro ds hds
    rw [Try.params5] at hds
    match ds, hds with
    | [d0], _ => rfl
  · intro W base args ds p hval0 hA0
    have hval : ∀ (j : Nat) t v, Try.f5.params[j]? = some t → args[j]? = some v → Value.okWide Try.prog W .any base t v := hval0
    have hA : DataW.TrodAll enc Try.prog W 0 (fun _ => true) true Try.f5.params.toList args.toList ds p := hA0
    rw [Try.params5] at hA hval
    obtain ⟨v0, vs0, d0, ds0, p0, q0, hargs0, rfl, rfl, h0, r0⟩ := trodAll_cons hA
    obtain ⟨hnil, rfl, rfl⟩ := trodAll_nil r0
    subst hnil
    obtain rfl : args = #[v0] := by cases args; simp_all
    obtain ⟨a0_0, c0_0, x0_0, x0_1, rfl, b0_0, i0_0, b0_1⟩ := open_Ledger (hval 0 30 v0 rfl rfl) h0
    exact fnExactLedgerTotal_walk a0_0 c0_0 x0_0 x0_1 W b0_0 i0_0 b0_1

set_option maxRecDepth 8000 in
theorem fnExactLedgerTotal_holds : Rows.FnExactLedgerTotalSaid :=
  OpenClaim.holds_of_wide 5 Try.f5 rfl rfl rfl rfl rfl rfl rfl ⟨rfl, rfl, rfl, rfl, rfl⟩ rfl rfl rfl rfl rfl (by kernel_rfl) Try.func5 (by kernel_rfl)
    (of_decide_eq_true (by kernel_rfl)) (by unfold Func.isWrapper; first | (rw [if_pos (by decide +kernel)]; kernel_rfl) | (rw [if_neg (by decide +kernel)]; exact ⟨rfl, rfl⟩))
    (fun os started H enc _ => fnExactLedgerTotal_lifted os started H enc)

end Go.Proofs.Ytadgdjjibmofpab
