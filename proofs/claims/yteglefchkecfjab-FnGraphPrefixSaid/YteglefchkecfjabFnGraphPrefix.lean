/- Law FnGraphPrefix holds for every input; no conditions of our own. -/
import Derived.Test.YteglefchkecfjabRows
import Derived.Test.YteglefchkecfjabBu0
import Derived.Test.YteglefchkecfjabBu3
import Derived.Test.YteglefchkecfjabBu4
namespace Go.Proofs.Yteglefchkecfjab
open Go.ChangeShapes Go.WideShapes Go.ChangeAt Go.RowKit

set_option maxHeartbeats 4000000 in
theorem fnGraphPrefix_walk (a : Option Addr) (cap : Nat) (zs : List Int) (a' : Option Addr) (cap' : Nat) (ms : List Int) (w : World) (hk : zs.length ≤ cap) (_hm : zs.length ≤ maxLen) (hi : zs = [] ∨ ∃ b off, a = some ⟨b, off, none⟩ ∧ b < w.heap.size ∧ ∀ j (h : j < zs.length), w.cell? ⟨b, off + j, none⟩ = some (.int .u8 zs[j])) (hw : ∀ z ∈ zs, (Lit.int .u8 z).wf = true)
    (_hk' : ms.length ≤ cap') (hm' : ms.length ≤ maxLen) (_hi' : ms = [] ∨ ∃ b off, a' = some ⟨b, off, none⟩ ∧ b < w.heap.size ∧ ∀ j (h : j < ms.length), w.cell? ⟨b, off + j, none⟩ = some (.int .u8 ms[j])) (_hw' : ∀ z ∈ ms, (Lit.int .u8 z).wf = true) :
    Calls Try.prog 3 #[.slice a zs.length cap, .slice a' ms.length cap'] w fun e w' => e = .returned (.bool true) ∧ Below w.heap.size w w' := by
  unfold maxLen at hm'
  by_cases hl : 1048576 < zs.length
  · go_enter Try.func3, Try.ntmps3
    go_wp2
    go_ret
    exact ⟨rfl, Below.refl _ _⟩
  by_cases hl' : 1048576 < ms.length
  · go_enter Try.func3, Try.ntmps3
    go_wp2
    go_ret
    exact ⟨rfl, Below.refl _ _⟩
  have hcode := codeAt_of hk (by omega) hi hw
  have Hcode := Lib.hid hcode; clear hcode hi hw
  go_enter Try.func3, Try.ntmps3
  go_wp2_with fail
  refine (spec_DrawGraphValid a cap zs w Hcode.out).mono ?_
  rintro e w1 ⟨vc, c, vg, g, fp, rfl, hoc, hcl, hgr, hfp, hgl, hps, hb1⟩
  have hcc := hoc.cap'
  obtain ⟨ac, cc, rfl, _, _⟩ := hoc.ints
  have hcc := hcc _ _ _ rfl
  obtain ⟨ag, cg, rfl⟩ := hgr.slice
  have hgc := Gr.capl hgr
  have Hps := Lib.hid (show ∀ x ∈ g, x.ps.length ≤ 1099511627776 from fun x hx => Nat.le_trans (hps x hx) (by omega))
  have Hps1 := Lib.hid hps
  have Hc := Lib.hid hoc.at; have Hg := Lib.hid hgr; have Hb1 := Lib.hid hb1
  clear hoc hgr hfp hps hb1
  go_wp2_with fail
  refine (impl_GraphValid ac cc c g (.slice ag g.length cg) fp w1 (by omega) (by omega) Hps.out hcc Hc.out Hg.out).mono ?_
  rintro e w2 ⟨rfl, hb⟩
  have Hc := Lib.hid (show IntsAt w2 ac c from Hc.out.below hb)
  have Hg := Lib.hid (show Gr w2 g (.slice ag g.length cg) fp from Hg.out.under hb)
  have Hb2 := Lib.hid (below_step Hb1.out Hb1.out.size hb)
  clear hb
  go_wp2_with fail
  refine (spec_GraphValid ac cc c g (.slice ag g.length cg) fp w2 (by omega) (by omega) Hps.out Hc.out Hg.out).mono ?_
  rintro e w3 ⟨rfl, hb⟩
  have Hc := Lib.hid (show IntsAt w3 ac c from Hc.out.below hb)
  have Hg := Lib.hid (show Gr w3 g (.slice ag g.length cg) fp from Hg.out.under hb)
  have Hb3 := Lib.hid (below_step Hb2.out Hb2.out.size hb)
  clear hb
  cases hgb : graphB c g with
  | false =>
    go_wp2
    go_ret
    exact ⟨by first | rfl | exact ret_bool (by simp), Hb3.out⟩
  | true =>
  obtain ⟨k, hkd⟩ : ∃ k : Nat, ms.length % (g.length + 1) = k := ⟨_, rfl⟩
  have hk : k ≤ g.length := by have := Nat.mod_lt ms.length (show 0 < g.length + 1 by omega); omega
  have e1 : IntKind.i64.wrap ((g.length : Int) + 1) = (g.length : Int) + 1 := IntWalk.i64_in _ (by omega)
  have hidx : (ms.length : Int) % ((g.length : Int) + 1) = (k : Int) := by rw [← hkd]; exact (Int.natCast_emod ms.length (g.length + 1)).symm
  have hidx2 : (ms.length : Int).tmod ((g.length : Int) + 1) = (k : Int) := by rw [← hidx]; exact Int.tmod_eq_emod_of_nonneg (by omega)
  have hs' : (((g.length : Int) + 1) == 0) = false := by rw [beq_eq_false_iff_ne]; omega
  have hs2 : ¬ ((g.length : Int) + 1) = 0 := by omega
  have hkc : k ≤ cg := by omega
  have hkc' : (k : Int) ≤ (cg : Int) := by omega
  have hk0 : (0 : Int) ≤ (k : Int) := by omega
  have hkl : (g.take k).length = k := by rw [List.length_take]; omega
  obtain ⟨fpk, hgk⟩ := Hg.out.take k hk
  have HV := impl_GraphValid ac cc c (g.take k) (.slice ag (g.take k).length cg) fpk w3 (by omega) (by omega) (fun x hx => Hps.out x (List.mem_of_mem_take hx)) hcc Hc.out hgk
  rw [hkl, graph_take hgb k] at HV
  have HV := Lib.hid HV
  clear hgk hkd hgb
  go_wp2_with fail
  refine HV.out.mono ?_
  rintro e w4 ⟨rfl, hb⟩
  have Hb4 := Lib.hid (below_step Hb3.out Hb3.out.size hb)
  clear hb
  go_wp2
  go_ret
  exact ⟨by first | rfl | exact ret_bool (by simp), Hb4.out⟩

theorem fnGraphPrefix_own : ownKnob Try.prog.godebug = none := by kernel_rfl
theorem fnGraphPrefix_laidOut : laidOutB Try.prog = true := by kernel_rfl

set_option maxRecDepth 8000 in
theorem fnGraphPrefix_lifted (os : Os) (started : os.Started) (H : Type) (enc : TypeId × Value → H) :
    ReturnsInHanded {} Try.checked os 3 .any (Rows.fnGraphPrefixSpec.pre6 enc Try.prog Try.f3 Rows.fnGraphPrefixRow.domain false) (Rows.fnGraphPrefixSpec.post enc Try.prog Try.f3 false true false false) := by
  refine law_lifted (C := Try.checked) (tb := 4) fnGraphPrefix_own fnGraphPrefix_laidOut started (by kernel_rfl) Try.func3 rfl Try.underlying4 rfl (by rw [Try.params3]; exact of_decide_eq_true (by kernel_rfl)) ?_
    (ChangeSpec.witness6 (enc := enc) (C := Try.checked) false ⟨#[], #[.slice none 0 0, .slice none 0 0], []⟩ 8 (by kernel_rfl) (by kernel_rfl) (by kernel_rfl) (by kernel_rfl)) ?_
  · intro ds hds
    rw [Try.params3] at hds
    match ds, hds with
    | [d0, d1], _ => rfl
  · intro W base args ds p hval0 hA0
    have hval : ∀ (j : Nat) t v, Try.f3.params[j]? = some t → args[j]? = some v → Value.okWide Try.prog W .any base t v := hval0
    have hA : DataW.TrodAll enc Try.prog W 0 (fun _ => true) true Try.f3.params.toList args.toList ds p := hA0
    rw [Try.params3] at hA hval
    obtain ⟨v0, vs0, d0, ds0, p0, q0, hargs0, rfl, rfl, h0, r0⟩ := trodAll_cons hA
    obtain ⟨v1, vs1, d1, ds1, p1, q1, hargs1, rfl, rfl, h1, r1⟩ := trodAll_cons r0
    obtain ⟨hnil, rfl, rfl⟩ := trodAll_nil r1
    subst hnil
    subst hargs1
    obtain rfl : args = #[v0, v1] := by cases args; simp_all
    obtain ⟨a0, cap0, zs0, rfl, hk0, hm0, hi0, hw0⟩ := open_slice_ints Try.underlying22 Try.underlying5 (by kernel_rfl) (hval 0 22 v0 rfl rfl) h0
    obtain ⟨a1, cap1, zs1, rfl, hk1, hm1, hi1, hw1⟩ := open_slice_ints Try.underlying22 Try.underlying5 (by kernel_rfl) (hval 1 22 v1 rfl rfl) h1
    exact fnGraphPrefix_walk a0 cap0 zs0 a1 cap1 zs1 W hk0 hm0 hi0 hw0 hk1 hm1 hi1 hw1

set_option maxRecDepth 8000 in
theorem fnGraphPrefix_holds : Rows.FnGraphPrefixSaid :=
  OpenClaim.holds_of_wide 3 Try.f3 rfl rfl rfl rfl rfl rfl rfl ⟨rfl, rfl, rfl, rfl, rfl⟩ rfl rfl rfl rfl rfl (by kernel_rfl) Try.func3 (by kernel_rfl)
    (of_decide_eq_true (by kernel_rfl)) (by unfold Func.isWrapper; first | (rw [if_pos (by decide +kernel)]; kernel_rfl) | (rw [if_neg (by decide +kernel)]; exact ⟨rfl, rfl⟩))
    (fun os started H enc _ => fnGraphPrefix_lifted os started H enc)

end Go.Proofs.Yteglefchkecfjab
