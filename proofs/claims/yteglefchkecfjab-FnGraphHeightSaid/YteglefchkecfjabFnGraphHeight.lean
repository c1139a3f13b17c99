/- Law FnGraphHeight holds for every input; no conditions of our own. -/
import Derived.Test.YteglefchkecfjabRows
import Derived.Test.YteglefchkecfjabBu0
import Derived.Test.YteglefchkecfjabBu3
import Derived.Test.YteglefchkecfjabBu4
namespace Go.Proofs.Yteglefchkecfjab
open Go.ChangeShapes Go.WideShapes Go.ChangeAt Go.RowKit

set_option maxHeartbeats 4000000 in
theorem fnGraphHeight_walk (a : Option Addr) (cap : Nat) (zs : List Int) (w : World) (hk : zs.length ≤ cap) (_hm : zs.length ≤ maxLen) (hi : zs = [] ∨ ∃ b off, a = some ⟨b, off, none⟩ ∧ b < w.heap.size ∧ ∀ j (h : j < zs.length), w.cell? ⟨b, off + j, none⟩ = some (.int .u8 zs[j])) (hw : ∀ z ∈ zs, (Lit.int .u8 z).wf = true) :
    Calls Try.prog 6 #[.slice a zs.length cap] w fun e w' => e = .returned (.bool true) ∧ Below w.heap.size w w' := by
  by_cases hl : 1048576 < zs.length
  · go_enter Try.func6, Try.ntmps6
    go_wp2
    go_ret
    exact ⟨rfl, Below.refl _ _⟩
  have hcode := codeAt_of hk (by omega) hi hw
  have Hcode := Lib.hid hcode; clear hcode hi hw
  go_enter Try.func6, Try.ntmps6
  go_wp2_with fail
  refine (spec_DrawGraphHeight a cap zs w Hcode.out).mono ?_
  rintro e w1 ⟨vc, c, vg, g, fp, rfl, hoc, hcl, hgr, hfp, hgl, hps, hb1⟩
  have hcc := hoc.cap'
  obtain ⟨ac, cc, rfl, _, _⟩ := hoc.ints
  have hcc := hcc _ _ _ rfl
  obtain ⟨ag, cg, rfl⟩ := hgr.slice
  have hgc := Gr.capl hgr
  have Hps := Lib.hid (show ∀ x ∈ g, x.ps.length ≤ 1099511627776 from fun x hx => Nat.le_trans (hps x hx) (by omega))
  have Hps1 := Lib.hid hps
  have Hc := Lib.hid hoc.at; have Hg := Lib.hid hgr; have Hb1 := Lib.hid hb1
  clear hoc hgr hfp hps hb1
  go_wp2_with fail
  refine (impl_GraphHeight ac cc c g (.slice ag g.length cg) fp w1 (by omega) (by omega) Hps.out hcc Hc.out Hg.out).mono ?_
  rintro e w2 ⟨rfl, hb⟩
  have Hc := Lib.hid (show IntsAt w2 ac c from Hc.out.below hb)
  have Hg := Lib.hid (show Gr w2 g (.slice ag g.length cg) fp from Hg.out.under hb)
  have Hb2 := Lib.hid (below_step Hb1.out Hb1.out.size hb)
  clear hb
  go_wp2_with fail
  refine (spec_GraphHeight ac cc c g (.slice ag g.length cg) fp w2 (by omega) (by omega) Hps.out Hc.out Hg.out).mono ?_
  rintro e w3 ⟨rfl, hb⟩
  have Hc := Lib.hid (show IntsAt w3 ac c from Hc.out.below hb)
  have Hg := Lib.hid (show Gr w3 g (.slice ag g.length cg) fp from Hg.out.under hb)
  have Hb3 := Lib.hid (below_step Hb2.out Hb2.out.size hb)
  clear hb
  go_wp2_with fail
  refine (spec_GraphValid ac cc c g (.slice ag g.length cg) fp w3 (by omega) (by omega) Hps.out Hc.out Hg.out).mono ?_
  rintro e w4 ⟨rfl, hb⟩
  have Hc := Lib.hid (show IntsAt w4 ac c from Hc.out.below hb)
  have Hg := Lib.hid (show Gr w4 g (.slice ag g.length cg) fp from Hg.out.under hb)
  have Hb4 := Lib.hid (below_step Hb3.out Hb3.out.size hb)
  clear hb
  cases hgb : graphB c g with
  | false =>
    generalize ghZ c g = H at *
    go_wp2
    go_ret
    exact ⟨by first | rfl | exact ret_bool (by simp), Hb4.out⟩
  | true =>
  obtain ⟨hv, _⟩ := graph_iff.1 hgb
  have hQ : orNo c (2 * totalZ c / 3 + 1) = quorumZ c := by unfold orNo; rw [if_pos hv]; rfl
  have Hiff := Lib.hid (fun k : Nat => fun (h : k < 31) => show (quorumZ c ≤ mwZ c (gaZ c g (k : Int)) ↔ (k : Int) ≤ ghZ c g) by
    have hga : gaZ c g (k : Int) = authZ g k := by unfold gaZ; rw [if_pos hgb]
    have := hgt_iff hgb 31 k h
    unfold qAt at this
    rw [decide_eq_true_eq] at this
    rw [hga, mwZ_of hv (ascP_of (auth_members hgb k))]
    unfold ghZ hgtZ
    rw [if_pos hgb]
    exact this)
  have HA := Lib.hid (fun W (hb : Below w4.heap.size w4 W) (r : Nat) => impl_GraphAuthors ac cc c g (.slice ag g.length cg) fp (r : Int) W (by omega) (by omega) Hps.out hcc (Hc.out.below hb) (Hg.out.under hb))
  have HCQ := Lib.hid (fun W (hb : Below w4.heap.size w4 W) => impl_CommitteeQuorum ac cc c W (by omega) (Hc.out.below hb))
  rw [hQ] at HCQ
  have Hal := Lib.hid (fun r : Nat => show (gaZ c g (r : Int)).length ≤ 281 by
    unfold gaZ; rw [if_pos hgb]; exact Nat.le_trans (authZ_len g r) hgl)
  clear hv hQ hgb
  generalize ghZ c g = H at *
  generalize quorumZ c = Q at *
  go_wp2
  go_loopw [7] (fun i wr => ∃ k : Nat, k ≤ 31 ∧ i = .int .i64 k ∧ Below w4.heap.size w4 wr) (fun i _ => 31 - (intOf i).toNat)
  case atStart => exact ⟨0, by omega, rfl, Below.refl _ _⟩
  case round =>
    obtain ⟨k, hk, rfl, hb⟩ := hrel
    have Hbr := Lib.hid hb; clear hb
    by_cases hlt : k < 31
    · have hlt' : (k : Int) ≤ 30 := by omega
      have HAk := Lib.hid (HA.out wr Hbr.out k)
      have Hif := Lib.hid (Hiff.out k hlt)
      have hal := Hal.out k
      generalize gaZ c g (k : Int) = L at *
      go_wp2_with fail
      refine HAk.out.mono ?_
      rintro e w6 ⟨uo, rfl, hoo, hb⟩
      obtain ⟨ao, co, rfl, _, _⟩ := hoo.ints
      have Hb6 := Lib.hid (below_step Hbr.out Hbr.out.size hb)
      have HM := Lib.hid (impl_MembersWeight ac cc c ao co L w6 (by omega) (by omega) (Hc.out.below Hb6.out) hoo.at)
      have HQ := Lib.hid (HCQ.out w6 Hb6.out)
      generalize mwZ c L = M at *
      clear hb hoo HAk
      go_wp2_with fail
      refine HM.out.mono ?_
      rintro e wx ⟨rfl, rfl⟩
      go_wp2_with fail
      refine HQ.out.mono ?_
      rintro e wx ⟨rfl, rfl⟩
      by_cases hq : Q ≤ M
      · have hq2 := Hif.out.1 hq
        have d1 : decide (Q ≤ M) = true := decide_eq_true hq
        have d2 : decide ((k : Int) ≤ H) = true := decide_eq_true hq2
        clear Hif
        go_wp2
        go_roundw
        case rel => exact ⟨k + 1, by omega, by go_num, Hb6.out⟩
        case measure => simp [intOf]; omega
      · have hq2 : ¬ (k : Int) ≤ H := fun h => hq (Hif.out.2 h)
        have d1 : decide (Q ≤ M) = false := decide_eq_false hq
        have d2 : decide ((k : Int) ≤ H) = false := decide_eq_false hq2
        clear Hif
        go_wp2
        go_roundw
        case rel => exact ⟨k + 1, by omega, by go_num, Hb6.out⟩
        case measure => simp [intOf]; omega
    · go_wp2
      go_ret
      exact ⟨by first | rfl | exact ret_bool (by simp), below_step Hb4.out Hb4.out.size Hbr.out⟩

theorem fnGraphHeight_own : ownKnob Try.prog.godebug = none := by kernel_rfl
theorem fnGraphHeight_laidOut : laidOutB Try.prog = true := by kernel_rfl

set_option maxRecDepth 8000 in
theorem fnGraphHeight_lifted (os : Os) (started : os.Started) (H : Type) (enc : TypeId × Value → H) :
    ReturnsInHanded {} Try.checked os 6 .any (Rows.fnGraphHeightSpec.pre6 enc Try.prog Try.f6 Rows.fnGraphHeightRow.domain false) (Rows.fnGraphHeightSpec.post enc Try.prog Try.f6 false true false false) := by
  refine law_lifted (C := Try.checked) (tb := 4) fnGraphHeight_own fnGraphHeight_laidOut started (by kernel_rfl) Try.func6 rfl Try.underlying4 rfl (by rw [Try.params6]; exact of_decide_eq_true (by kernel_rfl)) ?_
    (ChangeSpec.witness6 (enc := enc) (C := Try.checked) false ⟨#[], #[.slice none 0 0], []⟩ 8 (by kernel_rfl) (by kernel_rfl) (by kernel_rfl) (by kernel_rfl)) ?_
  · intro ds hds
    rw [Try.params6] at hds
    match ds, hds with
    | [d0], _ => rfl
  · intro W base args ds p hval0 hA0
    have hval : ∀ (j : Nat) t v, Try.f6.params[j]? = some t → args[j]? = some v → Value.okWide Try.prog W .any base t v := hval0
    have hA : DataW.TrodAll enc Try.prog W 0 (fun _ => true) true Try.f6.params.toList args.toList ds p := hA0
    rw [Try.params6] at hA hval
    obtain ⟨v0, vs0, d0, ds0, p0, q0, hargs0, rfl, rfl, h0, r0⟩ := trodAll_cons hA
    obtain ⟨hnil, rfl, rfl⟩ := trodAll_nil r0
    subst hnil
    obtain rfl : args = #[v0] := by cases args; simp_all
    obtain ⟨a0, cap0, zs0, rfl, hk0, hm0, hi0, hw0⟩ := open_slice_ints Try.underlying22 Try.underlying5 (by kernel_rfl) (hval 0 22 v0 rfl rfl) h0
    exact fnGraphHeight_walk a0 cap0 zs0 W hk0 hm0 hi0 hw0

set_option maxRecDepth 8000 in
theorem fnGraphHeight_holds : Rows.FnGraphHeightSaid :=
  OpenClaim.holds_of_wide 6 Try.f6 rfl rfl rfl rfl rfl rfl rfl ⟨rfl, rfl, rfl, rfl, rfl⟩ rfl rfl rfl rfl rfl (by kernel_rfl) Try.func6 (by kernel_rfl)
    (of_decide_eq_true (by kernel_rfl)) (by unfold Func.isWrapper; first | (rw [if_pos (by decide +kernel)]; kernel_rfl) | (rw [if_neg (by decide +kernel)]; exact ⟨rfl, rfl⟩))
    (fun os started H enc _ => fnGraphHeight_lifted os started H enc)

end Go.Proofs.Yteglefchkecfjab
