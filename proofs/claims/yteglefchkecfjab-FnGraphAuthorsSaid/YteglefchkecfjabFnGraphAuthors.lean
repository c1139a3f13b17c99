/- Law FnGraphAuthors holds for every input; no conditions of our own. -/
import Derived.Test.YteglefchkecfjabRows
import Derived.Test.YteglefchkecfjabBu0
import Derived.Test.YteglefchkecfjabBu3
import Derived.Test.YteglefchkecfjabBu4
namespace Go.Proofs.Yteglefchkecfjab
open Go.ChangeShapes Go.WideShapes Go.ChangeAt Go.RowKit

set_option maxHeartbeats 4000000 in
theorem fnGraphAuthors_walk (a : Option Addr) (cap : Nat) (zs : List Int) (w : World) (hk : zs.length ≤ cap) (_hm : zs.length ≤ maxLen) (hi : zs = [] ∨ ∃ b off, a = some ⟨b, off, none⟩ ∧ b < w.heap.size ∧ ∀ j (h : j < zs.length), w.cell? ⟨b, off + j, none⟩ = some (.int .u8 zs[j])) (hw : ∀ z ∈ zs, (Lit.int .u8 z).wf = true) :
    Calls Try.prog 5 #[.slice a zs.length cap] w fun e w' => e = .returned (.bool true) ∧ Below w.heap.size w w' := by
  by_cases hl : 1048576 < zs.length
  · go_enter Try.func5, Try.ntmps5
    go_wp2
    go_ret
    exact ⟨rfl, Below.refl _ _⟩
  have hcode := codeAt_of hk (by omega) hi hw
  have Hcode := Lib.hid hcode; clear hcode hi hw
  go_enter Try.func5, Try.ntmps5
  go_wp2_with fail
  refine (spec_DrawGraphAuthors a cap zs w Hcode.out).mono ?_
  rintro e w1 ⟨vc, c, vg, g, fp, r, rfl, hoc, hcl, hgr, hfp, hgl, hps, hb1⟩
  have hcc := hoc.cap'
  obtain ⟨ac, cc, rfl, _, _⟩ := hoc.ints
  have hcc := hcc _ _ _ rfl
  obtain ⟨ag, cg, rfl⟩ := hgr.slice
  have hgc := Gr.capl hgr
  have Hps := Lib.hid (show ∀ x ∈ g, x.ps.length ≤ 1099511627776 from fun x hx => Nat.le_trans (hps x hx) (by omega))
  have Hps1 := Lib.hid hps
  have Hc := Lib.hid hoc.at; have Hg := Lib.hid hgr; have Hb1 := Lib.hid hb1
  clear hoc hgr hfp hps hb1
  go_wp2_with fail
  refine (impl_GraphAuthors ac cc c g (.slice ag g.length cg) fp r w1 (by omega) (by omega) Hps.out hcc Hc.out Hg.out).mono ?_
  rintro e w2 ⟨uo, rfl, hoo, hb⟩
  obtain ⟨ao, co, rfl, _, _⟩ := hoo.ints
  have HO := Lib.hid (show IntsAt w2 ao (gaZ c g r) from hoo.at)
  clear hoo
  have Hc := Lib.hid (show IntsAt w2 ac c from Hc.out.below hb)
  have Hg := Lib.hid (show Gr w2 g (.slice ag g.length cg) fp from Hg.out.under hb)
  have Hb2 := Lib.hid (below_step Hb1.out Hb1.out.size hb)
  clear hb
  go_wp2_with fail
  refine (spec_GraphAuthors ac cc c g (.slice ag g.length cg) fp r w2 (by omega) (by omega) Hps.out Hc.out Hg.out).mono ?_
  rintro e w3 ⟨uw, rfl, how, hb⟩
  obtain ⟨aw, cw, rfl, _, _⟩ := how.ints
  have HW := Lib.hid (show IntsAt w3 aw (gaZ c g r) from how.at)
  clear how
  have Hc := Lib.hid (show IntsAt w3 ac c from Hc.out.below hb)
  have Hg := Lib.hid (show Gr w3 g (.slice ag g.length cg) fp from Hg.out.under hb)
  have HO := Lib.hid (show IntsAt w3 ao (gaZ c g r) from HO.out.below hb)
  have Hb3 := Lib.hid (below_step Hb2.out Hb2.out.size hb)
  clear hb
  have hal : (gaZ c g r).length ≤ 281 := by unfold gaZ; split; exact Nat.le_trans (authZ_len g r) hgl; simp
  go_wp2_with fail
  refine (laws_sameInts' ao aw co cw (gaZ c g r) w3 (by omega) HO.out HW.out).mono ?_
  rintro e w4 ⟨rfl, hd⟩
  have hb : Below w3.heap.size w3 w4 := hd.below _
  clear hd
  have Hc := Lib.hid (show IntsAt w4 ac c from Hc.out.below hb)
  have Hg := Lib.hid (show Gr w4 g (.slice ag g.length cg) fp from Hg.out.under hb)
  have HO := Lib.hid (show IntsAt w4 ao (gaZ c g r) from HO.out.below hb)
  have HW := Lib.hid (show IntsAt w4 aw (gaZ c g r) from HW.out.below hb)
  have Hb4 := Lib.hid (below_step Hb3.out Hb3.out.size hb)
  clear hb
  go_wp2_with fail
  refine (spec_GraphValid ac cc c g (.slice ag g.length cg) fp w4 (by omega) (by omega) Hps.out Hc.out Hg.out).mono ?_
  rintro e w5 ⟨rfl, hb⟩
  have Hc := Lib.hid (show IntsAt w5 ac c from Hc.out.below hb)
  have Hg := Lib.hid (show Gr w5 g (.slice ag g.length cg) fp from Hg.out.under hb)
  have HO := Lib.hid (show IntsAt w5 ao (gaZ c g r) from HO.out.below hb)
  have HW := Lib.hid (show IntsAt w5 aw (gaZ c g r) from HW.out.below hb)
  have Hb5 := Lib.hid (below_step Hb4.out Hb4.out.size hb)
  clear hb
  cases hgb : graphB c g with
  | false =>
    have HSI := Lib.hid (laws_sameInts' ao aw co cw (gaZ c g r) w5 (by omega) HO.out HW.out)
    generalize gaZ c g r = L at *
    go_wp2_with fail
    refine HSI.out.mono ?_
    rintro e w6 ⟨rfl, hd⟩
    have Hb6 := Lib.hid (below_step Hb5.out Hb5.out.size (hd.below _))
    clear hd
    go_wp2
    go_ret
    exact ⟨by first | rfl | exact ret_bool (by simp), Hb6.out⟩
  | true =>
  have hga : gaZ c g r = authZ g r := by unfold gaZ; rw [if_pos hgb]
  have Hhas := Lib.hid (fun a : Nat => show hasB (gaZ c g r) (a : Int) = decide (0 ≤ gfZ c g r a) by rw [hga, auth_has hgb]; unfold gfZ; rw [if_pos hgb])
  have Hmv := Lib.hid (show mvB c (gaZ c g r) = true by rw [hga, mvB_yes (graph_iff.1 hgb).1]; exact auth_members hgb r)
  have HF := Lib.hid (fun W (hb : Below w5.heap.size w5 W) (a : Nat) => impl_GraphFind ac cc c g (.slice ag g.length cg) fp r (a : Int) W (by omega) (by omega) Hps.out hcc (Hc.out.below hb) (Hg.out.under hb))
  have HM := Lib.hid (fun W (hb : Below w5.heap.size w5 W) => impl_MembersValid ac cc c ao co (gaZ c g r) W (by omega) (by omega) (Hc.out.below hb) (HO.out.below hb))
  have HH := Lib.hid (fun W (hb : Below w5.heap.size w5 W) (a : Nat) => laws_hasInt ao co (gaZ c g r) (a : Int) W (by omega) (HO.out.below hb))
  rw [Hmv.out] at HM
  clear hga hgb HW
  generalize gaZ c g r = L at *
  go_wp2
  go_loopw [8] (fun i wr => ∃ k : Nat, k ≤ c.length ∧ i = .int .i64 k ∧ Below w5.heap.size w5 wr) (fun i _ => c.length - (intOf i).toNat)
  case atStart => exact ⟨0, by omega, rfl, Below.refl _ _⟩
  case round =>
    obtain ⟨k, hk, rfl, hb⟩ := hrel
    have Hbr := Lib.hid hb; clear hb
    by_cases hlt : k < c.length
    · have hlt' : (k : Int) < (c.length : Int) := by omega
      have HHk := Lib.hid (HH.out wr Hbr.out k)
      rw [Hhas.out k] at HHk
      have HFk := Lib.hid (fun W hb => HF.out W hb k)
      generalize gfZ c g r (k : Int) = Z at *
      go_wp2_with fail
      refine HHk.out.mono ?_
      rintro e w6 ⟨rfl, hd⟩
      subst hd
      have Hb6 := Lib.hid Hbr.out
      go_wp2_with fail
      refine (HFk.out _ Hb6.out).mono ?_
      rintro e w7 ⟨rfl, hb⟩
      have Hb7 := Lib.hid (below_step Hb6.out Hb6.out.size hb)
      clear hb HHk HFk
      have hne : (decide (0 ≤ Z) != decide (0 ≤ Z)) = false := by simp
      go_wp2
      go_roundw
      case rel => exact ⟨k + 1, by omega, by go_num, Hb7.out⟩
      case measure => simp [intOf]; omega
    · go_wp2_with fail
      refine (HM.out _ Hbr.out).mono ?_
      rintro e w6 ⟨rfl, rfl⟩
      go_wp2
      go_ret
      exact ⟨by first | rfl | exact ret_bool (by simp), below_step Hb5.out Hb5.out.size Hbr.out⟩

theorem fnGraphAuthors_own : ownKnob Try.prog.godebug = none := by kernel_rfl
theorem fnGraphAuthors_laidOut : laidOutB Try.prog = true := by kernel_rfl

set_option maxRecDepth 8000 in
theorem fnGraphAuthors_lifted (os : Os) (started : os.Started) (H : Type) (enc : TypeId × Value → H) :
    ReturnsInHanded {} Try.checked os 5 .any (Rows.fnGraphAuthorsSpec.pre6 enc Try.prog Try.f5 Rows.fnGraphAuthorsRow.domain false) (Rows.fnGraphAuthorsSpec.post enc Try.prog Try.f5 false true false false) := by
  refine law_lifted (C := Try.checked) (tb := 4) fnGraphAuthors_own fnGraphAuthors_laidOut started (by kernel_rfl) Try.func5 rfl Try.underlying4 rfl (by rw [Try.params5]; exact of_decide_eq_true (by kernel_rfl)) ?_
    (ChangeSpec.witness6 (enc := enc) (C := Try.checked) false ⟨#[], #[.slice none 0 0], []⟩ 8 (by kernel_rfl) (by kernel_rfl) (by kernel_rfl) (by kernel_rfl)) ?_
  · intro ds hds
    rw [Try.params5] at hds
    match ds, hds with
    | [d0], _ => rfl
  · intro W base args ds p hval0 hA0
    have hval : ∀ (j : Nat) t v, Try.f5.params[j]? = some t → args[j]? = some v → Value.okWide Try.prog W .any base t v := hval0
    have hA : DataW.TrodAll enc Try.prog W 0 (fun _ => true) true Try.f5.params.toList args.toList ds p := hA0
    rw [Try.params5] at hA hval
    obtain ⟨v0, vs0, d0, ds0, p0, q0, hargs0, rfl, rfl, h0, r0⟩ := trodAll_cons hA
    obtain ⟨hnil, rfl, rfl⟩ := trodAll_nil r0
    subst hnil
    obtain rfl : args = #[v0] := by cases args; simp_all
    obtain ⟨a0, cap0, zs0, rfl, hk0, hm0, hi0, hw0⟩ := open_slice_ints Try.underlying22 Try.underlying5 (by kernel_rfl) (hval 0 22 v0 rfl rfl) h0
    exact fnGraphAuthors_walk a0 cap0 zs0 W hk0 hm0 hi0 hw0

set_option maxRecDepth 8000 in
theorem fnGraphAuthors_holds : Rows.FnGraphAuthorsSaid :=
  OpenClaim.holds_of_wide 5 Try.f5 rfl rfl rfl rfl rfl rfl rfl ⟨rfl, rfl, rfl, rfl, rfl⟩ rfl rfl rfl rfl rfl (by kernel_rfl) Try.func5 (by kernel_rfl)
    (of_decide_eq_true (by kernel_rfl)) (by unfold Func.isWrapper; first | (rw [if_pos (by decide +kernel)]; kernel_rfl) | (rw [if_neg (by decide +kernel)]; exact ⟨rfl, rfl⟩))
    (fun os started H enc _ => fnGraphAuthors_lifted os started H enc)

end Go.Proofs.Yteglefchkecfjab
