/- Law FnGraphClosed holds for every input; no conditions of our own. -/
import Derived.Test.YteglefchkecfjaaRows
import Derived.Test.YteglefchkecfjaaBu0
import Derived.Test.YteglefchkecfjaaBu2
import Derived.Test.YteglefchkecfjaaBu3
namespace Go.Proofs.Yteglefchkecfjaa
open Go.ChangeShapes Go.WideShapes Go.ChangeAt Go.RowKit

set_option maxHeartbeats 4000000 in
theorem fnGraphClosed_walk (a : Option Addr) (cap : Nat) (zs : List Int) (w : World) (hk : zs.length ≤ cap) (_hm : zs.length ≤ maxLen) (hi : zs = [] ∨ ∃ b off, a = some ⟨b, off, none⟩ ∧ b < w.heap.size ∧ ∀ j (h : j < zs.length), w.cell? ⟨b, off + j, none⟩ = some (.int .u8 zs[j])) (hw : ∀ z ∈ zs, (Lit.int .u8 z).wf = true) :
    Calls Try.prog 11 #[.slice a zs.length cap] w fun e w' => e = .returned (.bool true) ∧ Below w.heap.size w w' := by
  by_cases hl : 1048576 < zs.length
  · go_enter Try.func11, Try.ntmps11
    go_wp2
    go_ret
    exact ⟨rfl, Below.refl _ _⟩
  have hcode := codeAt_of hk (by omega) hi hw
  have Hcode := Lib.hid hcode; clear hcode hi hw
  go_enter Try.func11, Try.ntmps11
  go_wp2_with fail
  refine (spec_DrawGraphValid a cap zs w Hcode.out).mono ?_
  rintro e w1 ⟨vc, c, vg, g, fp, rfl, hoc, hcl, hgr, hfp, hgl, hps, hb1⟩
  have hcc := hoc.cap'
  obtain ⟨ac, cc, rfl, _, _⟩ := hoc.ints
  have hcc := hcc _ _ _ rfl
  obtain ⟨ag, cg, rfl⟩ := hgr.slice
  have hgc := Gr.capl hgr
  have Hps := Lib.hid (show ∀ x ∈ g, x.ps.length ≤ 1099511627776 from fun x hx => Nat.le_trans (hps x hx) (by omega))
  have Hps1 := Lib.hid hps
  have Hc := Lib.hid hoc.at; have Hg := Lib.hid hgr; have Hb1 := Lib.hid hb1
  clear hoc hgr hfp hps hb1
  go_wp2_with fail
  refine (impl_GraphValid ac cc c g (.slice ag g.length cg) fp w1 (by omega) (by omega) Hps.out hcc Hc.out Hg.out).mono ?_
  rintro e w2 ⟨rfl, hb⟩
  have Hc := Lib.hid (show IntsAt w2 ac c from Hc.out.below hb)
  have Hg := Lib.hid (show Gr w2 g (.slice ag g.length cg) fp from Hg.out.under hb)
  have Hb2 := Lib.hid (below_step Hb1.out Hb1.out.size hb)
  clear hb
  go_wp2_with fail
  refine (spec_GraphValid ac cc c g (.slice ag g.length cg) fp w2 (by omega) (by omega) Hps.out Hc.out Hg.out).mono ?_
  rintro e w3 ⟨rfl, hb⟩
  have Hc := Lib.hid (show IntsAt w3 ac c from Hc.out.below hb)
  have Hg := Lib.hid (show Gr w3 g (.slice ag g.length cg) fp from Hg.out.under hb)
  have Hb3 := Lib.hid (below_step Hb2.out Hb2.out.size hb)
  clear hb
  cases hgb : graphB c g with
  | false =>
    go_wp2
    go_ret
    exact ⟨by first | rfl | exact ret_bool (by simp), Hb3.out⟩
  | true =>
  have Hgf := Lib.hid (show ∀ r p, gfZ c g r p = findZ g r p from fun r p => by unfold gfZ; rw [if_pos hgb])
  have Hpar := Lib.hid (fun m (hm : m < g.length) k (hk : k < g[m].ps.length) => show ∃ j : Nat, j < m ∧ gfZ c g (g[m].r - 1) g[m].ps[k] = j by
    obtain ⟨j, hj, e⟩ := graph_parents hgb m hm k hk
    exact ⟨j, parent_lt hgb hm hj e, (Hgf.out _ _).trans e⟩)
  have Hvx := Lib.hid (graph_vtx hgb)
  have HF := Lib.hid (fun W (hb : Below w3.heap.size w3 W) (r p : Int) => impl_GraphFind ac cc c g (.slice ag g.length cg) fp r p W (by omega) (by omega) Hps.out hcc (Hc.out.below hb) (Hg.out.under hb))
  clear hgb Hgf
  go_wp2
  go_loopw [7] (fun i wr => ∃ m : Nat, m ≤ g.length ∧ i = .int .i64 m ∧ Below w3.heap.size w3 wr) (fun i _ => g.length - (intOf i).toNat)
  case atStart => exact ⟨0, by omega, rfl, Below.refl _ _⟩
  case round =>
    obtain ⟨m, hm, rfl, hb⟩ := hrel
    have Hbr := Lib.hid hb; clear hb
    by_cases hlt : m < g.length
    · have hlt' : (m : Int) < (g.length : Int) := by omega
      have hrr := vtx_round (Hvx.out _ (List.getElem_mem hlt))
      have hpl := Hps1.out _ (List.getElem_mem hlt)
      have Hpm := Lib.hid (Hpar.out m hlt)
      have Hcell := Lib.hid (fun W (h : Below w3.heap.size w3 W) => by
        obtain ⟨b, off, e, hb, hat⟩ := (Hg.out.under h).at (by omega)
        exact (⟨b, off, e, hat m hlt⟩ : ∃ b off, ag = some ⟨b, off, none⟩ ∧ W.cell? ⟨b, off + m * 4, none⟩ = some (.int .i64 g[m].r) ∧ W.cell? ⟨b, off + m * 4 + 1, none⟩ = some (.int .i64 g[m].a) ∧ (∃ pa pc, W.cell? ⟨b, off + m * 4 + 2, none⟩ = some (.slice pa g[m].ps.length pc) ∧ IntsAt W pa g[m].ps ∧ SrcAt W pa pc g[m].ps) ∧ W.cell? ⟨b, off + m * 4 + 3, none⟩ = some (.int .i64 g[m].d)))
      obtain ⟨b, off, rfl, _⟩ := Hcell.out w3 (Below.refl _ _)
      generalize hx : g[m] = x at *
      clear hx
      obtain ⟨W0, hW0⟩ : ∃ W0, W0 = wr := ⟨wr, rfl⟩
      subst hW0
      go_wp2
      go_loopw [8] (fun i wr => ∃ k : Nat, k ≤ x.ps.length ∧ i = .int .i64 k ∧ Below w3.heap.size w3 wr) (fun i _ => x.ps.length - (intOf i).toNat)
      case atStart => exact ⟨0, Nat.zero_le _, rfl, Hbr.out⟩
      case round =>
        obtain ⟨k, hk, rfl, hb⟩ := hrel
        have Hb2 := Lib.hid hb; clear hb
        obtain ⟨b', off', e, c0, c1, ⟨pa, pc, c2, i2, _⟩, c3⟩ := Hcell.out wr Hb2.out
        simp only [Option.some.injEq, Addr.mk.injEq, and_true] at e
        obtain ⟨rfl, rfl⟩ := e
        by_cases hkl : k < x.ps.length
        · have hkl' : (k : Int) < (x.ps.length : Int) := by omega
          obtain ⟨j, hjm, hfz⟩ := Hpm.out k hkl
          obtain ⟨b2, off2, rfl, hb2, hat2⟩ := i2.cell (by omega)
          have q3 := hat2 k hkl
          have hw2 : IntKind.i64.wrap (x.r - 1) = x.r - 1 := IntWalk.i64_in _ (by omega)
          have Hfz := Lib.hid hfz
          have d1 : decide ((j : Int) < 0) = false := decide_eq_false (by omega)
          have d2 : decide ((m : Int) ≤ (j : Int)) = false := decide_eq_false (by omega)
          have d3 : ¬ (j : Int) < 0 := by omega
          have d4 : ¬ (m : Int) ≤ (j : Int) := by omega
          clear c1 c3 hfz hat2 i2
          generalize x.ps[k] = p at *
          go_wp2_with fail
          refine wp_region_held_drew (S := fun W => Below w3.heap.size w3 W ∧ W.cell? ⟨b, off + m * 4, none⟩ = some (.int .i64 x.r) ∧ W.cell? ⟨b, off + m * 4 + 2, none⟩ = some (.slice (some ⟨b2, off2, none⟩) x.ps.length pc) ∧ W.cell? ⟨b2, off2 + k, none⟩ = some (.int .i64 p)) (by kernel_rfl) ⟨Hb2.out.drew, c0, c2, q3⟩ (fun hH => ?_)
          refine takeH 0 (v := ?vc1) rfl (by kernel_rfl) (by kernel_rfl) (by kernel_rfl) (fun _ _ _ h => h) hH rfl ?yc1 ?rc1
          case yc1 => intro W hSw; go_simp; try with_reducible rfl
          try simp only [Act.put, List.setIfInBounds_toArray, List.set_cons_zero, List.set_cons_succ]
          refine takeH 1 (v := ?vc2) rfl (by kernel_rfl) (by kernel_rfl) (by kernel_rfl) (fun _ _ _ h => h) hH rfl ?yc2 ?rc2
          case yc2 => intro W hSw; go_simp; try with_reducible rfl
          try simp only [Act.put, List.setIfInBounds_toArray, List.set_cons_zero, List.set_cons_succ]
          refine takeH 2 (v := ?vc3) rfl (by kernel_rfl) (by kernel_rfl) (by kernel_rfl) (fun _ _ _ h => h) hH rfl ?yc3 ?rc3
          case yc3 => intro W hSw; go_simp; try with_reducible rfl
          try simp only [Act.put, List.setIfInBounds_toArray, List.set_cons_zero, List.set_cons_succ]
          refine takeH 3 (v := ?vc4) rfl (by kernel_rfl) (by kernel_rfl) (by kernel_rfl) (fun _ _ _ h => h) hH rfl ?yc4 ?rc4
          case yc4 => intro W hSw; go_simp; try with_reducible rfl
          try simp only [Act.put, List.setIfInBounds_toArray, List.set_cons_zero, List.set_cons_succ]
          refine takeH 4 (v := ?vc5) rfl (by kernel_rfl) (by kernel_rfl) (by kernel_rfl) (fun _ _ _ h => h) hH rfl ?yc5 ?rc5
          case yc5 => intro W hSw; go_simp; try with_reducible rfl
          try simp only [Act.put, List.setIfInBounds_toArray, List.set_cons_zero, List.set_cons_succ]
          refine takeH 5 (v := ?vc6) rfl (by kernel_rfl) (by kernel_rfl) (by kernel_rfl) (fun _ _ _ h => h) hH rfl ?yc6 ?rc6
          case yc6 => intro W hSw; go_simp; try with_reducible rfl
          try simp only [Act.put, List.setIfInBounds_toArray, List.set_cons_zero, List.set_cons_succ]
          refine takeH 6 (v := ?vc7) rfl (by kernel_rfl) (by kernel_rfl) (by kernel_rfl) (fun _ _ _ h => h) hH rfl ?yc7 ?rc7
          case yc7 => intro W hSw; go_simp; try with_reducible rfl
          try simp only [Act.put, List.setIfInBounds_toArray, List.set_cons_zero, List.set_cons_succ]
          refine takeH 7 (v := ?vc8) rfl (by kernel_rfl) (by kernel_rfl) (by kernel_rfl) (fun _ _ _ h => h) hH rfl ?yc8 ?rc8
          case yc8 => intro W hSw; go_simp; try with_reducible rfl
          try simp only [Act.put, List.setIfInBounds_toArray, List.set_cons_zero, List.set_cons_succ]
          refine takeH 8 (v := ?vc9) rfl (by kernel_rfl) (by kernel_rfl) (by kernel_rfl) (fun _ _ _ h => h) hH rfl ?yc9 ?rc9
          case yc9 => intro W hSw; go_simp; try with_reducible rfl
          try simp only [Act.put, List.setIfInBounds_toArray, List.set_cons_zero, List.set_cons_succ]
          refine takeH 9 (v := ?vc10) rfl (by kernel_rfl) (by kernel_rfl) (by kernel_rfl) (fun _ _ _ h => h) hH rfl ?yc10 ?rc10
          case yc10 => intro W hSw; go_simp; try with_reducible rfl
          try simp only [Act.put, List.setIfInBounds_toArray, List.set_cons_zero, List.set_cons_succ]
          refine takeH 10 (v := ?vc11) rfl (by kernel_rfl) (by kernel_rfl) (by kernel_rfl) (fun _ _ _ h => h) hH rfl ?yc11 ?rc11
          case yc11 => intro W hSw; go_simp; try with_reducible rfl
          try simp only [Act.put, List.setIfInBounds_toArray, List.set_cons_zero, List.set_cons_succ]
          refine takeH 11 (v := ?vc12) rfl (by kernel_rfl) (by kernel_rfl) (by kernel_rfl) (fun _ _ _ h => h) hH rfl ?yc12 ?rc12
          case yc12 => intro W hSw; go_simp; try with_reducible rfl
          try simp only [Act.put, List.setIfInBounds_toArray, List.set_cons_zero, List.set_cons_succ]
          refine takeH 12 (v := ?vc13) rfl (by kernel_rfl) (by kernel_rfl) (by kernel_rfl) (fun _ _ _ h => h) hH rfl ?yc13 ?rc13
          case yc13 => intro W hSw; go_simp; try with_reducible rfl
          try simp only [Act.put, List.setIfInBounds_toArray, List.set_cons_zero, List.set_cons_succ]
          refine takeH 13 (v := ?vc14) rfl (by kernel_rfl) (by kernel_rfl) (by kernel_rfl) (fun _ _ _ h => h) hH rfl ?yc14 ?rc14
          case yc14 => intro W hSw; go_simp; try with_reducible rfl
          try simp only [Act.put, List.setIfInBounds_toArray, List.set_cons_zero, List.set_cons_succ]
          refine takeH 14 (v := ?vc15) rfl (by kernel_rfl) (by kernel_rfl) (by kernel_rfl) (fun _ _ _ h => h) hH rfl ?yc15 ?rc15
          case yc15 => intro W hSw; go_simp; try with_reducible rfl
          try simp only [Act.put, List.setIfInBounds_toArray, List.set_cons_zero, List.set_cons_succ]
          refine takeH 15 (v := ?vc16) rfl (by kernel_rfl) (by kernel_rfl) (by kernel_rfl) (fun _ _ _ h => h) hH rfl ?yc16 ?rc16
          case yc16 => intro W hSw; go_simp; try with_reducible rfl
          try simp only [Act.put, List.setIfInBounds_toArray, List.set_cons_zero, List.set_cons_succ]
          refine callH 16 rfl (by kernel_rfl) rfl (fun K hK => ?_)
          go_simp
          go_at_call 39
          refine (HF.out _ hH.1 (x.r - 1) p).mono ?_
          rintro e wz ⟨rfl, hbz⟩
          rw [Hfz.out]
          refine hK.out _ _ ⟨below_step hH.1 hH.1.size hbz, (hbz.cell (p := ⟨b, off + m * 4, none⟩) (Nat.lt_of_lt_of_le (World.block_lt_of_cell? _ _ hH.2.1) (Nat.le_refl _))).trans hH.2.1, (hbz.cell (p := ⟨b, off + m * 4 + 2, none⟩) (Nat.lt_of_lt_of_le (World.block_lt_of_cell? _ _ hH.2.2.1) (Nat.le_refl _))).trans hH.2.2.1, (hbz.cell (p := ⟨b2, off2 + k, none⟩) (Nat.lt_of_lt_of_le (World.block_lt_of_cell? _ _ hH.2.2.2) (Nat.le_refl _))).trans hH.2.2.2⟩ (fun hH => ?_)
          clear hK K
          try simp only [Act.put, List.setIfInBounds_toArray, List.set_cons_zero, List.set_cons_succ]
          have Hbz := Lib.hid hH.1
          refine takeH 17 (v := ?vc17) rfl (by kernel_rfl) (by kernel_rfl) (by kernel_rfl) (fun _ _ _ h => h) hH rfl ?yc17 ?rc17
          case yc17 => intro W hSw; go_simp; try with_reducible rfl
          try simp only [Act.put, List.setIfInBounds_toArray, List.set_cons_zero, List.set_cons_succ]
          refine wpAnyH_done (by kernel_rfl) ?_ _
          try simp only [Act.put]
          clear hH c0 c2 q3
          go_wp2
          go_roundw
          case rel => exact ⟨k + 1, by omega, by go_num, Hbz.out⟩
          case measure => simp [intOf]; omega
        · have hke : k = x.ps.length := by omega
          subst hke
          go_wp2
          go_roundw
          case rel => exact ⟨m + 1, by omega, by go_num, Hb2.out⟩
          case measure => simp [intOf]; omega
    · go_wp2
      go_ret
      exact ⟨by first | rfl | exact ret_bool (by simp), below_step Hb3.out Hb3.out.size Hbr.out⟩

theorem fnGraphClosed_own : ownKnob Try.prog.godebug = none := by kernel_rfl
theorem fnGraphClosed_laidOut : laidOutB Try.prog = true := by kernel_rfl

set_option maxRecDepth 8000 in
theorem fnGraphClosed_lifted (os : Os) (started : os.Started) (H : Type) (enc : TypeId × Value → H) :
    ReturnsInHanded {} Try.checked os 11 .any (Rows.fnGraphClosedSpec.pre6 enc Try.prog Try.f11 Rows.fnGraphClosedRow.domain false) (Rows.fnGraphClosedSpec.post enc Try.prog Try.f11 false true false false) := by
  refine law_lifted (C := Try.checked) (tb := 4) fnGraphClosed_own fnGraphClosed_laidOut started (by kernel_rfl) Try.func11 rfl Try.underlying4 rfl (by rw [Try.params11]; exact of_decide_eq_true (by kernel_rfl)) ?_
    (ChangeSpec.witness6 (enc := enc) (C := Try.checked) false ⟨#[], #[.slice none 0 0], []⟩ 8 (by kernel_rfl) (by kernel_rfl) (by kernel_rfl) (by kernel_rfl)) ?_
  · intro ds hds
    rw [Try.params11] at hds
    match ds, hds with
    | [d0], _ => rfl
  · intro W base args ds p hval0 hA0
    have hval : ∀ (j : Nat) t v, Try.f11.params[j]? = some t → args[j]? = some v → Value.okWide Try.prog W .any base t v := hval0
    have hA : DataW.TrodAll enc Try.prog W 0 (fun _ => true) true Try.f11.params.toList args.toList ds p := hA0
    rw [Try.params11] at hA hval
    obtain ⟨v0, vs0, d0, ds0, p0, q0, hargs0, rfl, rfl, h0, r0⟩ := trodAll_cons hA
    obtain ⟨hnil, rfl, rfl⟩ := trodAll_nil r0
    subst hnil
    obtain rfl : args = #[v0] := by cases args; simp_all
    obtain ⟨a0, cap0, zs0, rfl, hk0, hm0, hi0, hw0⟩ := open_slice_ints Try.underlying22 Try.underlying5 (by kernel_rfl) (hval 0 22 v0 rfl rfl) h0
    exact fnGraphClosed_walk a0 cap0 zs0 W hk0 hm0 hi0 hw0

set_option maxRecDepth 8000 in
theorem fnGraphClosed_holds : Rows.FnGraphClosedSaid :=
  OpenClaim.holds_of_wide 11 Try.f11 rfl rfl rfl rfl rfl rfl rfl ⟨rfl, rfl, rfl, rfl, rfl⟩ rfl rfl rfl rfl rfl (by kernel_rfl) Try.func11 (by kernel_rfl)
    (of_decide_eq_true (by kernel_rfl)) (by unfold Func.isWrapper; first | (rw [if_pos (by decide +kernel)]; kernel_rfl) | (rw [if_neg (by decide +kernel)]; exact ⟨rfl, rfl⟩))
    (fun os started H enc _ => fnGraphClosed_lifted os started H enc)

end Go.Proofs.Yteglefchkecfjaa
