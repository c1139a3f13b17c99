/- Law FnGraphAdd holds for every input; no conditions of our own. -/
import Derived.Test.YteglefchkecfjabRows
import Derived.Test.YteglefchkecfjabBu0
import Derived.Test.YteglefchkecfjabBu3
import Derived.Test.YteglefchkecfjabBu5
namespace Go.Proofs.Yteglefchkecfjab
open Go.ChangeShapes Go.WideShapes Go.ChangeAt Go.RowKit

set_option maxHeartbeats 4000000 in
theorem fnGraphAdd_walk (a : Option Addr) (cap : Nat) (zs : List Int) (w : World) (hk : zs.length ≤ cap) (_hm : zs.length ≤ maxLen) (hi : zs = [] ∨ ∃ b off, a = some ⟨b, off, none⟩ ∧ b < w.heap.size ∧ ∀ j (h : j < zs.length), w.cell? ⟨b, off + j, none⟩ = some (.int .u8 zs[j])) (hw : ∀ z ∈ zs, (Lit.int .u8 z).wf = true) :
    Calls Try.prog 4 #[.slice a zs.length cap] w fun e w' => e = .returned (.bool true) ∧ Below w.heap.size w w' := by
  by_cases hl : 1048576 < zs.length
  · go_enter Try.func4, Try.ntmps4
    go_wp2
    go_ret
    exact ⟨rfl, Below.refl _ _⟩
  have hcode := codeAt_of hk (by omega) hi hw
  have Hcode := Lib.hid hcode; clear hcode hi hw
  go_enter Try.func4, Try.ntmps4
  go_wp2_with fail
  refine (spec_DrawGraphAdd a cap zs w Hcode.out).mono ?_
  rintro e w1 ⟨vc, c, vg, g, fp, x, pa, pc, rfl, hoc, hcl, hgr, hfp, hgl, hps, hip, hsp, hpc, hxl, hb1⟩
  have hcc := hoc.cap'
  obtain ⟨ac, cc, rfl, _, _⟩ := hoc.ints
  obtain ⟨ag, cg, rfl⟩ := hgr.slice
  have hcc := hcc _ _ _ rfl
  have Hps := Lib.hid (show ∀ y ∈ g, y.ps.length ≤ 1099511627776 from fun y hy => Nat.le_trans (hps y hy) (by omega))
  have hbA : Below w1.heap.size w1 (w1.alloc (.cells #[.int .i64 x.r, .int .i64 x.a, .slice pa x.ps.length pc, .int .i64 x.d] 30)) := (Below.refl _ _).alloc (Nat.le_refl _) _
  have HsA := Lib.hid (Str.new w1 30 #[.int .i64 x.r, .int .i64 x.a, .slice pa x.ps.length pc, .int .i64 x.d])
  have HocA := Lib.hid (hoc.below hbA).at
  have HgrA := Lib.hid (hgr.under hbA)
  have HiA := Lib.hid (hip.below hbA)
  have HspA := Lib.hid (hsp.under hip hbA)
  have HbA := Lib.hid (below_step hb1 hb1.size hbA)
  have HI := Lib.hid (fun (G : List Vx) (y : Vx) (u : Value) (f : List Nat) (p : Option Addr) (q : Nat) W (hG : G.length ≤ 1048576) (hq : ∀ y ∈ G, y.ps.length ≤ 1099511627776) (hy : y.ps.length ≤ 300) (hpq : y.ps.length ≤ q) (h1 : IntsAt W ac c) (h2 : Gr W G u f) (h3 : SrcAt W p q y.ps) (h4 : IntsAt W p y.ps) => impl_GraphAdd ac cc c G u f y p q W (by omega) hG hq (by omega) hcc h1 h2 hpq h3 h4)
  have HS := Lib.hid (fun W (h1 : IntsAt W ac c) (h2 : Gr W g (.slice ag g.length cg) fp) (h3 : SrcAt W pa pc x.ps) (h4 : IntsAt W pa x.ps) => spec_GraphAdd ac cc c g (.slice ag g.length cg) fp x pa pc W (by omega) (by omega) Hps.out (by omega) h1 h2 h3 h4)
  have hGl : (gaG c g x).length ≤ 282 := by
    unfold gaG
    split
    · have := addG_lenP g x; omega
    · simp
  have hGp : ∀ y ∈ gaG c g x, y.ps.length ≤ 1099511627776 := fun y hy => by
    unfold gaG at hy
    split at hy
    · rcases addG_memP hy with h | h
      · exact Hps.out y h
      · rw [h]; omega
    · cases hy
  have HGl := Lib.hid hGl
  have HGp := Lib.hid hGp
  clear hoc hgr hip hsp hbA hb1 hfp hps hGl hGp
  obtain ⟨N, hN⟩ : ∃ N, gaN c g x = N := ⟨_, rfl⟩
  obtain ⟨G1, hG1⟩ : ∃ G1, gaG c g x = G1 := ⟨_, rfl⟩
  have HI1 := Lib.hid (HI.out g x _ fp pa pc _ (by omega) Hps.out hxl hpc HocA.out HgrA.out HspA.out HiA.out)
  rw [hN, hG1] at HI1 HS
  rw [hG1] at HGl HGp
  have HN := Lib.hid hN
  have HG1 := Lib.hid hG1
  clear hN hG1
  have k0 := Str.cell (W := _) HsA.out 0 (v := .int .i64 x.r) rfl
  have k1 := Str.cell (W := _) HsA.out 1 (v := .int .i64 x.a) rfl
  have k2 := Str.cell (W := _) HsA.out 2 (v := .slice pa x.ps.length pc) rfl
  have k3 := Str.cell (W := _) HsA.out 3 (v := .int .i64 x.d) rfl
  go_wp2_with fail
  generalize w1.alloc (.cells #[.int .i64 x.r, .int .i64 x.a, .slice pa x.ps.length pc, .int .i64 x.d] 30) = wA at *
  refine HI1.out.mono ?_
  rintro e w2 ⟨u1, rfl, ho1, hb2⟩
  obtain ⟨f1, hr1⟩ := ho1.reads
  have Hg2 := Lib.hid (show Gr w2 G1 u1 f1 from hr1)
  have Hs2 := Lib.hid (show Str w2 w1.heap.size 30 #[.int .i64 x.r, .int .i64 x.a, .slice pa x.ps.length pc, .int .i64 x.d] from (hb2.block _ HsA.out.lt).trans HsA.out)
  have HS2 := Lib.hid (HS.out w2 (HocA.out.below hb2) (HgrA.out.under hb2) (HspA.out.under HiA.out hb2) (HiA.out.below hb2))
  have Hb2 := Lib.hid hb2
  clear k0 k1 k2 k3
  clear ho1 hr1 hb2
  have k0 := Str.cell (W := w2) Hs2.out 0 (v := .int .i64 x.r) rfl
  have k1 := Str.cell (W := w2) Hs2.out 1 (v := .int .i64 x.a) rfl
  have k2 := Str.cell (W := w2) Hs2.out 2 (v := .slice pa x.ps.length pc) rfl
  have k3 := Str.cell (W := w2) Hs2.out 3 (v := .int .i64 x.d) rfl
  go_wp2_with fail
  refine HS2.out.mono ?_
  rintro e w3 ⟨u2, rfl, ho2, hb3⟩
  obtain ⟨f2, hr2⟩ := ho2.reads
  have Hg3' := Lib.hid (show Gr w3 G1 u2 f2 from hr2)
  have Hg3 := Lib.hid (Hg2.out.under hb3)
  have HbA3 := Lib.hid (below_step Hb2.out Hb2.out.size hb3)
  have Hb3 := Lib.hid (below_step HbA.out HbA.out.size HbA3.out)
  have Hs3 := Lib.hid (show Str w3 w1.heap.size 30 #[.int .i64 x.r, .int .i64 x.a, .slice pa x.ps.length pc, .int .i64 x.d] from (hb3.block _ Hs2.out.lt).trans Hs2.out)
  have Hoc3 := Lib.hid (HocA.out.below HbA3.out)
  have Hgr3 := Lib.hid (HgrA.out.under HbA3.out)
  have Hsp3 := Lib.hid (HspA.out.under HiA.out HbA3.out)
  have Hi3 := Lib.hid (HiA.out.below HbA3.out)
  clear k0 k1 k2 k3
  clear ho2 hr2 hb3
  have e0 : (N != N) = false := by simp
  have e1 : (N == N) = true := by simp
  have HSG := Lib.hid (fun W (h : Gr W G1 u1 f1) (h' : Gr W G1 u2 f2) => laws_sameGraph G1 u1 u2 f1 f2 W (by have := HGl.out; omega) HGp.out h h')
  have k0 := Str.cell (W := w3) Hs3.out 0 (v := .int .i64 x.r) rfl
  have k1 := Str.cell (W := w3) Hs3.out 1 (v := .int .i64 x.a) rfl
  have k2 := Str.cell (W := w3) Hs3.out 2 (v := .slice pa x.ps.length pc) rfl
  have k3 := Str.cell (W := w3) Hs3.out 3 (v := .int .i64 x.d) rfl
  go_wp2_with fail
  refine (HSG.out w3 Hg3.out Hg3'.out).mono ?_
  rintro e w4 ⟨rfl, hb4⟩
  have Hg4' := Lib.hid (Hg3'.out.under hb4)
  have Hg4 := Lib.hid (Hg3.out.under hb4)
  have Hb4 := Lib.hid (below_step Hb3.out Hb3.out.size hb4)
  have Hs4 := Lib.hid (show Str w4 w1.heap.size 30 #[.int .i64 x.r, .int .i64 x.a, .slice pa x.ps.length pc, .int .i64 x.d] from (hb4.block _ Hs3.out.lt).trans Hs3.out)
  have Hoc4 := Lib.hid (Hoc3.out.below hb4)
  have Hgr4 := Lib.hid (Hgr3.out.under hb4)
  have Hsp4 := Lib.hid (Hsp3.out.under Hi3.out hb4)
  have Hi4 := Lib.hid (Hi3.out.below hb4)
  clear k0 k1 k2 k3
  clear hb4
  by_cases hN0 : N = 0
  case neg =>
    have e2 : (N != 0) = true := by simpa using hN0
    clear hN0
    go_wp2_with fail
    refine (HSG.out w4 Hg4.out Hg4'.out).mono ?_
    rintro e w5 ⟨rfl, hb5⟩
    have Hb5 := Lib.hid (below_step Hb4.out Hb4.out.size hb5); clear hb5
    go_wp2
    go_ret
    exact ⟨by first | rfl | exact ret_bool (by simp), Hb5.out⟩
  have e2 : (N != 0) = false := by simp [hN0]
  subst hN0
  obtain ⟨q1, q2, q3, q4⟩ := gaN_0 HN.out
  rw [HG1.out] at q4
  have Hin := Lib.hid (fun y (hy : y ∈ g) => hasVx_yes (show y ∈ G1 by rw [q4]; exact ins_mem.2 (.inl hy)))
  have Hxin := Lib.hid (hasVx_yes (show x ∈ G1 by rw [q4]; exact ins_mem.2 (.inr rfl)))
  have Hgv := Lib.hid (show graphB c G1 = true by rw [q4]; exact ins_graph q1 q2 q3)
  have Hlen := Lib.hid (show G1.length = g.length + 1 by rw [q4]; unfold insG; simp only [List.length_append, List.length_cons, List.length_nil, List.length_take, List.length_drop]; omega)
  clear q1 q2 q3 q4 e0 e1
  obtain ⟨au, cu, rfl⟩ := Hg4.out.slice
  clear HSG HI HI1 HS HS2 Hg4'
  go_wp2
  go_loopw [10] (fun i wr => ∃ k : Nat, k ≤ g.length ∧ i = .int .i64 k ∧ Below w4.heap.size w4 wr) (fun i _ => g.length - (intOf i).toNat)
  case atStart => exact ⟨0, by omega, rfl, Below.refl _ _⟩
  case round =>
    obtain ⟨k, hk, rfl, hb⟩ := hrel
    have Hbr := Lib.hid hb; clear hb
    by_cases hlt : k < g.length
    · have hlt' : (k : Int) < (g.length : Int) := by omega
      obtain ⟨b, off, rfl, hb9, hat⟩ := (Hgr4.out.under Hbr.out).at (by omega)
      obtain ⟨c0, c1, ⟨qa, qc, c2, i2, _⟩, c3⟩ := hat k hlt
      have HH := laws_hasVertex G1 au cu f1 g[k] qa qc wr (by have := HGl.out; omega) HGp.out (Hps.out _ (List.getElem_mem hlt)) (Hg4.out.under Hbr.out) i2
      rw [Hin.out _ (List.getElem_mem hlt)] at HH
      have HH := Lib.hid HH
      clear hat i2
      generalize g[k] = y at *
      obtain ⟨yr, ya, yp, yd⟩ := y
      dsimp only at *
      go_wp2_with fail
      refine HH.out.mono ?_
      rintro e w6 ⟨rfl, hb⟩
      have Hb6 := Lib.hid (below_step Hbr.out Hbr.out.size hb)
      clear hb c0 c1 c2 c3
      go_wp2
      go_roundw
      case rel => exact ⟨k + 1, by omega, by go_num, Hb6.out⟩
      case measure => simp [intOf]; omega
    · have HV := impl_GraphValid ac cc c G1 (.slice au G1.length cu) f1 wr (by omega) (by have := HGl.out; omega) HGp.out hcc (Hoc4.out.below Hbr.out) (Hg4.out.under Hbr.out)
      rw [Hgv.out] at HV
      have HV := Lib.hid HV
      go_wp2_with fail
      refine HV.out.mono ?_
      rintro e w6 ⟨rfl, hb⟩
      have Hb6 := Lib.hid (below_step Hbr.out Hbr.out.size hb)
      clear hb
      have hs6 : Str w6 w1.heap.size 30 #[.int .i64 x.r, .int .i64 x.a, .slice pa x.ps.length pc, .int .i64 x.d] := (Hb6.out.block _ Hs4.out.lt).trans Hs4.out
      have k0 := hs6.cell 0 (v := .int .i64 x.r) rfl
      have k1 := hs6.cell 1 (v := .int .i64 x.a) rfl
      have k2 := hs6.cell 2 (v := .slice pa x.ps.length pc) rfl
      have k3 := hs6.cell 3 (v := .int .i64 x.d) rfl
      clear hs6
      have HH := laws_hasVertex G1 au cu f1 x pa pc w6 (by have := HGl.out; omega) HGp.out (by omega) (Hg4.out.under Hb6.out) (Hi4.out.below Hb6.out)
      rw [Hxin.out] at HH
      have HH := Lib.hid HH
      go_wp2_with fail
      refine HH.out.mono ?_
      rintro e w7 ⟨rfl, hb⟩
      have Hb7 := Lib.hid (below_step Hb6.out Hb6.out.size hb)
      clear hb k0 k1 k2 k3
      have hlen := Hlen.out
      have e1 : IntKind.i64.wrap ((g.length : Int) + 1) = (g.length : Int) + 1 := IntWalk.i64_in _ (by omega)
      have e2 : ((G1.length : Int) == (g.length : Int) + 1) = true := by rw [beq_iff_eq]; omega
      have e3 : (G1.length : Int) = (g.length : Int) + 1 := by omega
      clear hlen
      go_wp2
      go_ret
      exact ⟨by first | rfl | exact ret_bool (by simp) | exact ret_bool (by simp; omega), below_step Hb4.out Hb4.out.size Hb7.out⟩

theorem fnGraphAdd_own : ownKnob Try.prog.godebug = none := by kernel_rfl
theorem fnGraphAdd_laidOut : laidOutB Try.prog = true := by kernel_rfl

set_option maxRecDepth 8000 in
theorem fnGraphAdd_lifted (os : Os) (started : os.Started) (H : Type) (enc : TypeId × Value → H) :
    ReturnsInHanded {} Try.checked os 4 .any (Rows.fnGraphAddSpec.pre6 enc Try.prog Try.f4 Rows.fnGraphAddRow.domain false) (Rows.fnGraphAddSpec.post enc Try.prog Try.f4 false true false false) := by
  refine law_lifted (C := Try.checked) (tb := 4) fnGraphAdd_own fnGraphAdd_laidOut started (by kernel_rfl) Try.func4 rfl Try.underlying4 rfl (by rw [Try.params4]; exact of_decide_eq_true (by kernel_rfl)) ?_
    (ChangeSpec.witness6 (enc := enc) (C := Try.checked) false ⟨#[], #[.slice none 0 0], []⟩ 8 (by kernel_rfl) (by kernel_rfl) (by kernel_rfl) (by kernel_rfl)) ?_
  · intro ds hds
    rw [Try.params4] at hds
    match ds, hds with
    | [d0], _ => rfl
  · intro W base args ds p hval0 hA0
    have hval : ∀ (j : Nat) t v, Try.f4.params[j]? = some t → args[j]? = some v → Value.okWide Try.prog W .any base t v := hval0
    have hA : DataW.TrodAll enc Try.prog W 0 (fun _ => true) true Try.f4.params.toList args.toList ds p := hA0
    rw [Try.params4] at hA hval
    obtain ⟨v0, vs0, d0, ds0, p0, q0, hargs0, rfl, rfl, h0, r0⟩ := trodAll_cons hA
    obtain ⟨hnil, rfl, rfl⟩ := trodAll_nil r0
    subst hnil
    obtain rfl : args = #[v0] := by cases args; simp_all
    obtain ⟨a0, cap0, zs0, rfl, hk0, hm0, hi0, hw0⟩ := open_slice_ints Try.underlying22 Try.underlying5 (by kernel_rfl) (hval 0 22 v0 rfl rfl) h0
    exact fnGraphAdd_walk a0 cap0 zs0 W hk0 hm0 hi0 hw0

set_option maxRecDepth 8000 in
theorem fnGraphAdd_holds : Rows.FnGraphAddSaid :=
  OpenClaim.holds_of_wide 4 Try.f4 rfl rfl rfl rfl rfl rfl rfl ⟨rfl, rfl, rfl, rfl, rfl⟩ rfl rfl rfl rfl rfl (by kernel_rfl) Try.func4 (by kernel_rfl)
    (of_decide_eq_true (by kernel_rfl)) (by unfold Func.isWrapper; first | (rw [if_pos (by decide +kernel)]; kernel_rfl) | (rw [if_neg (by decide +kernel)]; exact ⟨rfl, rfl⟩))
    (fun os started H enc _ => fnGraphAdd_lifted os started H enc)

end Go.Proofs.Yteglefchkecfjab
