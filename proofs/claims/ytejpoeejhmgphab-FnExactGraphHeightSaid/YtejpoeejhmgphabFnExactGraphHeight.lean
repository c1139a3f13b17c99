/- The exact law of GraphHeight holds at every argument; no conditions of our own. -/
import Derived.Test.YtejpoeejhmgphabRows
import Derived.Test.YtejpoeejhmgphabBase
import Derived.Test.YtejpoeejhmgphabLift
import Derived.Test.YtejpoeejhmgphabApp
import Derived.Test.YtejpoeejhmgphabDt
import Derived.Test.YtejpoeejhmgphabOwR
import Derived.Test.YtejpoeejhmgphabOwS
import Derived.Test.YtejpoeejhmgphabRow
import Derived.Test.YtejpoeejhmgphabEx
import Derived.Test.YtejpoeejhmgphabL1
import Derived.Test.YtejpoeejhmgphabL2
import Derived.Test.YtejpoeejhmgphabM2
import Derived.Test.YtejpoeejhmgphabC1
import Derived.Test.YtejpoeejhmgphabC2
import Derived.Test.YtejpoeejhmgphabRVertex
import Derived.Test.YtejpoeejhmgphabHeld
import Derived.Test.YtejpoeejhmgphabGv1
import Derived.Test.YtejpoeejhmgphabGv2
import Derived.Test.YtejpoeejhmgphabGv3
import Derived.Test.YtejpoeejhmgphabExg
import Derived.Test.YtejpoeejhmgphabGv7
import Derived.Test.YtejpoeejhmgphabGvi
namespace Go.Proofs.Ytejpoeejhmgphab
open Go.ChangeShapes Go.WideShapes Go.ChangeAt Go.RowKit

set_option maxHeartbeats 2000000 in
theorem fnExactGraphHeight_walk (ac : Option Addr) (capc : Nat) (xc : List Int) (vg : Value) (esg : List (List Fd)) (fpg : List Nat) (w : World) (_hkc : xc.length ≤ capc) (hmc : xc.length ≤ maxLen) (hic : IntsAt w ac xc) (_hwc : ∀ z ∈ xc, (Lit.int .i64 z).wf = true) (hrg : Rd w (rowsD esg) vg fpg) (hmg : esg.length ≤ maxLen) (hpg : ∀ e ∈ esg, vertexP e ∧ fitE e) :
    Calls Try.prog 9 #[.slice ac xc.length capc, vg] w fun e w' => e = .returned (.bool true) ∧ Below w.heap.size w w' := by
  unfold maxLen at hmc
  unfold maxLen at hmg
  by_cases hlc : xc.length ≤ 1048576
  case neg =>
    go_enter Try.func9, Try.ntmps9
    go_wp2
    go_ret
    exact ⟨rfl, Below.refl _ _⟩
  have Hic := Lib.hid hic; clear hic
  have Hrg := Lib.hid hrg; clear hrg
  have hpg1 : ∀ e ∈ esg, vertexP e := fun e he => (hpg e he).1
  have Hfg := Lib.hid (fun e he => (hpg e he).2); clear hpg
  have Hb0 := Lib.hid (Below.refl w.heap.size w)
  have Hszg := Lib.hid (fun w (hr : Rd w (rowsD esg) vg fpg) => laws_szVertexSR esg vg fpg (1048576) w (by omega) (by omega) hpg1 (fun e he xs hx => by have := ((Hfg.out e he).2 xs hx).1; unfold maxLen at this; omega) hr)
  go_enter Try.func9, Try.ntmps9
  go_wp2_with fail
  refine (Hszg.out _ (Hrg.out.under Hb0.out)).mono ?_
  rintro e w1 ⟨rfl, hb1⟩
  have Hb1 := Lib.hid (below_step Hb0.out Hb0.out.size hb1)
  have hz1 := (hb1).size
  have hklg := kTo_bd (vertexP_len hpg1) 1 esg.length (Nat.le_refl _)
  clear hklg
  by_cases hlg : esg.length + lnTo esg esg.length ≤ 1048576
  case neg =>
    rw [if_neg hlg]
    go_wp2
    go_ret
    exact ⟨rfl, Hb1.out⟩
  rw [if_pos hlg]
  have hnegg : decide ((((1048576 - esg.length - lnTo esg esg.length : Nat)) : Int) < 0) = false := decide_eq_false (by omega)
  have hngeg : ¬ (((1048576 - esg.length - lnTo esg esg.length : Nat) : Int) < 0) := by omega
  have hing := lnTo_in (es := esg) (m := 1048576) (by omega)
  have hkbg := fun k => kTo_bd (vertexP_len hpg1) k esg.length (Nat.le_refl _)
  have Hlng := Lib.hid (show ∀ e ∈ esg, lnE e ≤ 1099511627776 from fun e he => Nat.le_trans (hing e he) (by omega))
  obtain ⟨g, rfl⟩ := rows_vx hpg1
  have hLg : (g.map Vx.fd).length = g.length := by simp
  have hlg' : ∀ x ∈ g, x.ps.length ≤ 1048576 := vx_lens hing
  have hPg : ∀ x ∈ g, x.ps.length ≤ 1099511627776 := fun x hx => Nat.le_trans (hlg' x hx) (by omega)
  have Hspec := Lib.hid (fun ac cc vg fg w (hcc : xc.length ≤ cc) (h : IntsAt w ac xc) (h' : Rd w (rowsD (g.map Vx.fd)) vg fg) => spec_GraphHeight ac cc xc g vg fg w (by omega) (by omega) hPg h h')
  have Himpl := Lib.hid (fun ac cc vg fg w (hcc : xc.length ≤ cc) (h : IntsAt w ac xc) (h' : Rd w (rowsD (g.map Vx.fd)) vg fg) => impl_GraphHeight ac cc xc g vg fg w (by omega) (by omega) hPg hcc h h')
  generalize ghZ xc g = N at *
  clear hPg hlg' hLg
  generalize g.map Vx.fd = esg at *
  have Hing := Lib.hid hing; clear hing
  have Hkbg := Lib.hid hkbg; clear hkbg
  have Hpg := Lib.hid hpg1; clear hpg1
  go_wp2_with fail
  refine (laws_toIntS ac capc xc _ (by omega) (Hic.out.below Hb1.out)).mono ?_
  rintro e w2 ⟨vcs, rfl, hocs, hb2⟩
  have Hb2 := Lib.hid (below_step Hb1.out Hb1.out.size hb2)
  have hz2 := (hb2).size
  have Hcs := Lib.hid (OwnI.of hocs); clear hocs
  obtain ⟨acs, ccs, rfl, _, _⟩ := Hcs.out.ints
  have hccs := Hcs.out.cap
  have hhcs : w1.heap.size ≤ w1.heap.size := Nat.le_refl _
  have hjcs : w2.heap.size ≤ w2.heap.size := Nat.le_refl _
  go_wp2_with fail
  refine (laws_toVertexSR esg vg fpg _ (by omega) Hpg.out Hing.out (Hrg.out.under Hb2.out)).mono ?_
  rintro e w3 ⟨vgs, rfl, hogs, hb3⟩
  have Hb3 := Lib.hid (below_step Hb2.out Hb2.out.size hb3)
  have Hcs := Lib.hid (Hcs.out.below hb3)
  have hz3 := (hb3).size
  have Hgs := Lib.hid hogs; clear hogs
  have hhgs : w2.heap.size ≤ w2.heap.size := Nat.le_refl _
  have hjgs : w3.heap.size ≤ w3.heap.size := Nat.le_refl _
  obtain ⟨fgs, hrgs⟩ := Hgs.out.reads
  go_wp2_with fail
  refine (Hspec.out acs ccs vgs fgs _ hccs Hcs.out.at hrgs).mono ?_
  rintro e w4 ⟨rfl, hb4⟩
  have Hb4 := Lib.hid (below_step Hb3.out Hb3.out.size hb4)
  have Hcs := Lib.hid (Hcs.out.below hb4)
  have Hgs := Lib.hid (Hgs.out.below hb4 (by omega))
  have hz4 := (hb4).size
  clear hrgs
  clear Hcs
  clear Hgs
  go_wp2_with fail
  refine (laws_toIntS ac capc xc _ (by omega) (Hic.out.below Hb4.out)).mono ?_
  rintro e w5 ⟨vcx, rfl, hocx, hb5⟩
  have Hb5 := Lib.hid (below_step Hb4.out Hb4.out.size hb5)
  have hz5 := (hb5).size
  have Hcx := Lib.hid (OwnI.of hocx); clear hocx
  obtain ⟨acx, ccx, rfl, _, _⟩ := Hcx.out.ints
  have hccx := Hcx.out.cap
  have hhcx : w4.heap.size ≤ w4.heap.size := Nat.le_refl _
  have hjcx : w5.heap.size ≤ w5.heap.size := Nat.le_refl _
  go_wp2_with fail
  refine (laws_toVertexSR esg vg fpg _ (by omega) Hpg.out Hing.out (Hrg.out.under Hb5.out)).mono ?_
  rintro e w6 ⟨vgx, rfl, hogx, hb6⟩
  have Hb6 := Lib.hid (below_step Hb5.out Hb5.out.size hb6)
  have Hcx := Lib.hid (Hcx.out.below hb6)
  have hz6 := (hb6).size
  have Hgx := Lib.hid hogx; clear hogx
  have hhgx : w5.heap.size ≤ w5.heap.size := Nat.le_refl _
  have hjgx : w6.heap.size ≤ w6.heap.size := Nat.le_refl _
  obtain ⟨fgx, hrgx⟩ := Hgx.out.reads
  go_wp2_with fail
  refine (Himpl.out acx ccx vgx fgx _ hccx Hcx.out.at hrgx).mono ?_
  rintro e w7 ⟨rfl, hb7⟩
  have Hb7 := Lib.hid (below_step Hb6.out Hb6.out.size hb7)
  have Hcx := Lib.hid (Hcx.out.below hb7)
  have Hgx := Lib.hid (Hgx.out.below hb7 (by omega))
  have hz7 := (hb7).size
  clear hrgx
  go_wp2_with fail
  refine (laws_toIntS ac capc xc _ (by omega) (Hic.out.below Hb7.out)).mono ?_
  rintro e w8 ⟨vcy, rfl, hocy, hb8⟩
  have Hb8 := Lib.hid (below_step Hb7.out Hb7.out.size hb8)
  have Hcx := Lib.hid (Hcx.out.below hb8)
  have Hgx := Lib.hid (Hgx.out.below hb8 (by omega))
  have hz8 := (hb8).size
  have Hcy := Lib.hid (OwnI.of hocy); clear hocy
  obtain ⟨acy, ccy, rfl, _, _⟩ := Hcy.out.ints
  have hccy := Hcy.out.cap
  have hhcy : w7.heap.size ≤ w7.heap.size := Nat.le_refl _
  have hjcy : w8.heap.size ≤ w8.heap.size := Nat.le_refl _
  go_wp2_with fail
  refine (laws_eqIntS' acx acy ccx ccy xc w8 (by omega) Hcx.out.at Hcy.out.at).mono ?_
  rintro e w9 ⟨rfl, hb9⟩
  have Hb9 := Lib.hid (below_step Hb8.out Hb8.out.size (hb9.below w8.heap.size))
  have Hcx := Lib.hid (Hcx.out.below (hb9.below w8.heap.size))
  have Hgx := Lib.hid (Hgx.out.below (hb9.below w8.heap.size) (by omega))
  have Hcy := Lib.hid (Hcy.out.below (hb9.below w8.heap.size))
  have hz9 := ((hb9.below w8.heap.size)).size
  clear Hcy
  go_wp2_with fail
  refine (laws_toVertexSR esg vg fpg _ (by omega) Hpg.out Hing.out (Hrg.out.under Hb9.out)).mono ?_
  rintro e w10 ⟨vgy, rfl, hogy, hb10⟩
  have Hb10 := Lib.hid (below_step Hb9.out Hb9.out.size hb10)
  have Hcx := Lib.hid (Hcx.out.below hb10)
  have Hgx := Lib.hid (Hgx.out.below hb10 (by omega))
  have hz10 := (hb10).size
  have Hgy := Lib.hid hogy; clear hogy
  have hhgy : w9.heap.size ≤ w9.heap.size := Nat.le_refl _
  have hjgy : w10.heap.size ≤ w10.heap.size := Nat.le_refl _
  obtain ⟨fgx, hrgx⟩ := Hgx.out.reads
  obtain ⟨fgy, hrgy⟩ := Hgy.out.reads
  go_wp2_with fail
  refine (laws_eqVertexSR esg _ _ fgx fgy w10 (by omega) Hpg.out Hlng.out hrgx hrgy).mono ?_
  rintro e w11 ⟨rfl, hb11⟩
  have Hb11 := Lib.hid (below_step Hb10.out Hb10.out.size hb11)
  have Hcx := Lib.hid (Hcx.out.below hb11)
  have Hgx := Lib.hid (Hgx.out.below hb11 (by omega))
  have Hgy := Lib.hid (Hgy.out.below hb11 (by omega))
  have hz11 := (hb11).size
  clear hrgx hrgy
  clear Hgy
  go_wp2
  go_ret
  exact ⟨by first | rfl | exact ret_bool (by simp), Hb11.out⟩

theorem fnExactGraphHeight_own : ownKnob Try.prog.godebug = none := by kernel_rfl
theorem fnExactGraphHeight_laidOut : laidOutB Try.prog = true := by kernel_rfl

theorem fnExactGraphHeight_lifted (os : Os) (started : os.Started) (H : Type) (enc : TypeId × Value → H) :
    ReturnsInHanded {} Try.checked os 9 .any (Rows.fnExactGraphHeightSpec.pre6 enc Try.prog Try.f9 Rows.fnExactGraphHeightRow.domain false) (Rows.fnExactGraphHeightSpec.post enc Try.prog Try.f9 false true false false) := by
  refine law_lifted (C := Try.checked) (tb := 4) fnExactGraphHeight_own fnExactGraphHeight_laidOut started (by kernel_rfl) Try.func9 rfl Try.underlying4 rfl (by rw [Try.params9]; exact of_decide_eq_true (by kernel_rfl)) ?_
    (ChangeSpec.witness6 (enc := enc) (C := Try.checked) false ⟨#[], #[.slice none 0 0, .slice none 0 0], []⟩ 8 (by kernel_rfl) (by kernel_rfl) (by kernel_rfl) (by kernel_rfl)) ?_
  · intro ds hds
    rw [Try.params9] at hds
    match ds, hds with
    | [d0, d1], _ => rfl
  · intro W base args ds p hval0 hA0
    have hval : ∀ (j : Nat) t v, Try.f9.params[j]? = some t → args[j]? = some v → Value.okWide Try.prog W .any base t v := hval0
    have hA : DataW.TrodAll enc Try.prog W 0 (fun _ => true) true Try.f9.params.toList args.toList ds p := hA0
    rw [Try.params9] at hA hval
    obtain ⟨v0, vs0, d0, ds0, p0, q0, hargs0, rfl, rfl, h0, r0⟩ := trodAll_cons hA
    obtain ⟨v1, vs1, d1, ds1, p1, q1, hargs1, rfl, rfl, h1, r1⟩ := trodAll_cons r0
    obtain ⟨hnil, rfl, rfl⟩ := trodAll_nil r1
    subst hnil
    subst hargs1
    obtain rfl : args = #[v0, v1] := by cases args; simp_all
    obtain ⟨a0, cap0, zs0, rfl, hk0, hm0, hi0, hw0⟩ := open_slice_ints Try.underlying22 Try.underlying3 (by kernel_rfl) (hval 0 22 v0 rfl rfl) h0
    obtain ⟨es1, fp1, hr1, hm1, hp1⟩ := open_VertexS (hval 1 33 v1 rfl rfl) h1
    exact fnExactGraphHeight_walk a0 cap0 zs0 v1 es1 fp1 W hk0 hm0 hi0 hw0 hr1 hm1 hp1

theorem fnExactGraphHeight_holds : Rows.FnExactGraphHeightSaid :=
  OpenClaim.holds_of_wide 9 Try.f9 rfl rfl rfl rfl rfl rfl rfl ⟨rfl, rfl, rfl, rfl, rfl⟩ rfl rfl rfl rfl rfl (by kernel_rfl) Try.func9 (by kernel_rfl)
    (of_decide_eq_true (by kernel_rfl)) (by unfold Func.isWrapper; first | (rw [if_pos (by decide +kernel)]; kernel_rfl) | (rw [if_neg (by decide +kernel)]; exact ⟨rfl, rfl⟩))
    (fun os started H enc _ => fnExactGraphHeight_lifted os started H enc)

end Go.Proofs.Ytejpoeejhmgphab
