/- Law FnGraphPastKeeps holds for every input; no conditions of our own. -/
import Derived.Test.YtejpoeejhmgphaaRows
import Derived.Test.YtejpoeejhmgphaaBase
import Derived.Test.YtejpoeejhmgphaaLift
import Derived.Test.YtejpoeejhmgphaaApp
import Derived.Test.YtejpoeejhmgphaaDt
import Derived.Test.YtejpoeejhmgphaaGv13
import Derived.Test.YtejpoeejhmgphaaGvi
import Derived.Test.YtejpoeejhmgphaaGq0
import Derived.Test.YtejpoeejhmgphaaGq1
namespace Go.Proofs.Ytejpoeejhmgphaa
open Go.ChangeShapes Go.WideShapes Go.ChangeAt Go.RowKit

set_option maxHeartbeats 4000000 in
theorem fnGraphPastKeeps_walk (a : Option Addr) (cap : Nat) (zs : List Int) (a' : Option Addr) (cap' : Nat) (ms : List Int) (w : World) (hk : zs.length ≤ cap) (_hm : zs.length ≤ maxLen) (hi : zs = [] ∨ ∃ b off, a = some ⟨b, off, none⟩ ∧ b < w.heap.size ∧ ∀ j (h : j < zs.length), w.cell? ⟨b, off + j, none⟩ = some (.int .u8 zs[j])) (hw : ∀ z ∈ zs, (Lit.int .u8 z).wf = true)
    (_hk' : ms.length ≤ cap') (hm' : ms.length ≤ maxLen) (_hi' : ms = [] ∨ ∃ b off, a' = some ⟨b, off, none⟩ ∧ b < w.heap.size ∧ ∀ j (h : j < ms.length), w.cell? ⟨b, off + j, none⟩ = some (.int .u8 ms[j])) (_hw' : ∀ z ∈ ms, (Lit.int .u8 z).wf = true) :
    Calls Try.prog 9 #[.slice a zs.length cap, .slice a' ms.length cap'] w fun e w' => e = .returned (.bool true) ∧ Below w.heap.size w w' := by
  unfold maxLen at hm'
  by_cases hl : 1048576 < zs.length
  · go_enter Try.func9, Try.ntmps9
    go_wp2
    go_ret
    exact ⟨rfl, Below.refl _ _⟩
  by_cases hl' : 1048576 < ms.length
  · go_enter Try.func9, Try.ntmps9
    go_wp2
    go_ret
    exact ⟨rfl, Below.refl _ _⟩
  have hcode := codeAt_of hk (by omega) hi hw
  have Hcode := Lib.hid hcode; clear hcode hi hw
  go_enter Try.func9, Try.ntmps9
  go_wp2_with fail
  refine (spec_DrawGraphAdd a cap zs w Hcode.out).mono ?_
  rintro e w1 ⟨vc, c, vg, g, fp, x, pa, pc, rfl, hoc, hcl, hgr, hfp, hgl, hps, hip, hsp, hpc, hxl, hb1⟩
  have hcc := hoc.cap'
  obtain ⟨ac, cc, rfl, _, _⟩ := hoc.ints
  obtain ⟨ag, cg, rfl⟩ := hgr.slice
  have hcc := hcc _ _ _ rfl
  have Hps := Lib.hid (show ∀ y ∈ g, y.ps.length ≤ 1099511627776 from fun y hy => Nat.le_trans (hps y hy) (by omega))
  have hbA : Below w1.heap.size w1 (w1.alloc (.cells #[.int .i64 x.r, .int .i64 x.a, .slice pa x.ps.length pc, .int .i64 x.d] 30)) := (Below.refl _ _).alloc (Nat.le_refl _) _
  have HsA := Lib.hid (Str.new w1 30 #[.int .i64 x.r, .int .i64 x.a, .slice pa x.ps.length pc, .int .i64 x.d])
  have HocA := Lib.hid (hoc.below hbA).at
  have HgrA := Lib.hid (hgr.under hbA)
  have HiA := Lib.hid (hip.below hbA)
  have HspA := Lib.hid (hsp.under hip hbA)
  have HbA := Lib.hid (below_step hb1 hb1.size hbA)
  have HI := Lib.hid (fun (G : List Vx) (y : Vx) (u : Value) (f : List Nat) (p : Option Addr) (q : Nat) W (hG : G.length ≤ 1048576) (hq : ∀ y ∈ G, y.ps.length ≤ 1099511627776) (hy : y.ps.length ≤ 300) (hpq : y.ps.length ≤ q) (h1 : IntsAt W ac c) (h2 : Gr W G u f) (h3 : SrcAt W p q y.ps) (h4 : IntsAt W p y.ps) => impl_GraphAdd ac cc c G u f y p q W (by omega) hG hq (by omega) hcc h1 h2 hpq h3 h4)
  have HS := Lib.hid (fun W (h1 : IntsAt W ac c) (h2 : Gr W g (.slice ag g.length cg) fp) (h3 : SrcAt W pa pc x.ps) (h4 : IntsAt W pa x.ps) => spec_GraphAdd ac cc c g (.slice ag g.length cg) fp x pa pc W (by omega) (by omega) Hps.out (by omega) h1 h2 h3 h4)
  have hGl : (gaG c g x).length ≤ 282 := by
    unfold gaG
    split
    · have := addG_lenP g x; omega
    · simp
  have hGp : ∀ y ∈ gaG c g x, y.ps.length ≤ 1099511627776 := fun y hy => by
    unfold gaG at hy
    split at hy
    · rcases addG_memP hy with h | h
      · exact Hps.out y h
      · rw [h]; omega
    · cases hy
  have HGl := Lib.hid hGl
  have HGp := Lib.hid hGp
  clear hoc hgr hip hsp hbA hb1 hfp hps hGl hGp
  obtain ⟨N, hN⟩ : ∃ N, gaN c g x = N := ⟨_, rfl⟩
  obtain ⟨G1, hG1⟩ : ∃ G1, gaG c g x = G1 := ⟨_, rfl⟩
  have HI1 := Lib.hid (HI.out g x _ fp pa pc _ (by omega) Hps.out hxl hpc HocA.out HgrA.out HspA.out HiA.out)
  rw [hN, hG1] at HI1 HS
  rw [hG1] at HGl HGp
  have HN := Lib.hid hN
  have HG1 := Lib.hid hG1
  clear hN hG1
  have k0 := Str.cell (W := _) HsA.out 0 (v := .int .i64 x.r) rfl
  have k1 := Str.cell (W := _) HsA.out 1 (v := .int .i64 x.a) rfl
  have k2 := Str.cell (W := _) HsA.out 2 (v := .slice pa x.ps.length pc) rfl
  have k3 := Str.cell (W := _) HsA.out 3 (v := .int .i64 x.d) rfl
  go_wp2_with fail
  generalize w1.alloc (.cells #[.int .i64 x.r, .int .i64 x.a, .slice pa x.ps.length pc, .int .i64 x.d] 30) = wA at *
  refine HI1.out.mono ?_
  rintro e w2 ⟨u1, rfl, ho1, hb2⟩
  obtain ⟨f1, hr1⟩ := ho1.reads
  have Hg2 := Lib.hid (show Gr w2 G1 u1 f1 from hr1)
  have Hs2 := Lib.hid (show Str w2 w1.heap.size 30 #[.int .i64 x.r, .int .i64 x.a, .slice pa x.ps.length pc, .int .i64 x.d] from (hb2.block _ HsA.out.lt).trans HsA.out)
  have HS2 := Lib.hid (HS.out w2 (HocA.out.below hb2) (HgrA.out.under hb2) (HspA.out.under HiA.out hb2) (HiA.out.below hb2))
  have Hb2 := Lib.hid hb2
  clear k0 k1 k2 k3
  clear ho1 hr1 hb2
  have k0 := Str.cell (W := w2) Hs2.out 0 (v := .int .i64 x.r) rfl
  have k1 := Str.cell (W := w2) Hs2.out 1 (v := .int .i64 x.a) rfl
  have k2 := Str.cell (W := w2) Hs2.out 2 (v := .slice pa x.ps.length pc) rfl
  have k3 := Str.cell (W := w2) Hs2.out 3 (v := .int .i64 x.d) rfl
  go_wp2_with fail
  refine HS2.out.mono ?_
  rintro e w3 ⟨u2, rfl, ho2, hb3⟩
  obtain ⟨f2, hr2⟩ := ho2.reads
  have Hg3' := Lib.hid (show Gr w3 G1 u2 f2 from hr2)
  have Hg3 := Lib.hid (Hg2.out.under hb3)
  have HbA3 := Lib.hid (below_step Hb2.out Hb2.out.size hb3)
  have Hb3 := Lib.hid (below_step HbA.out HbA.out.size HbA3.out)
  have Hs3 := Lib.hid (show Str w3 w1.heap.size 30 #[.int .i64 x.r, .int .i64 x.a, .slice pa x.ps.length pc, .int .i64 x.d] from (hb3.block _ Hs2.out.lt).trans Hs2.out)
  have Hoc3 := Lib.hid (HocA.out.below HbA3.out)
  have Hgr3 := Lib.hid (HgrA.out.under HbA3.out)
  have Hsp3 := Lib.hid (HspA.out.under HiA.out HbA3.out)
  have Hi3 := Lib.hid (HiA.out.below HbA3.out)
  clear k0 k1 k2 k3
  clear ho2 hr2 hb3
  have e0 : (N != N) = false := by simp
  have e1 : (N == N) = true := by simp
  have HSG := Lib.hid (fun W (h : Gr W G1 u1 f1) (h' : Gr W G1 u2 f2) => laws_sameGraph G1 u1 u2 f1 f2 W (by have := HGl.out; omega) HGp.out h h')
  have k0 := Str.cell (W := w3) Hs3.out 0 (v := .int .i64 x.r) rfl
  have k1 := Str.cell (W := w3) Hs3.out 1 (v := .int .i64 x.a) rfl
  have k2 := Str.cell (W := w3) Hs3.out 2 (v := .slice pa x.ps.length pc) rfl
  have k3 := Str.cell (W := w3) Hs3.out 3 (v := .int .i64 x.d) rfl
  go_wp2_with fail
  refine (HSG.out w3 Hg3.out Hg3'.out).mono ?_
  rintro e w4 ⟨rfl, hb4⟩
  have Hg4' := Lib.hid (Hg3'.out.under hb4)
  have Hg4 := Lib.hid (Hg3.out.under hb4)
  have Hb4 := Lib.hid (below_step Hb3.out Hb3.out.size hb4)
  have Hs4 := Lib.hid (show Str w4 w1.heap.size 30 #[.int .i64 x.r, .int .i64 x.a, .slice pa x.ps.length pc, .int .i64 x.d] from (hb4.block _ Hs3.out.lt).trans Hs3.out)
  have Hoc4 := Lib.hid (Hoc3.out.below hb4)
  have Hgr4 := Lib.hid (Hgr3.out.under hb4)
  have Hsp4 := Lib.hid (Hsp3.out.under Hi3.out hb4)
  have Hi4 := Lib.hid (Hi3.out.below hb4)
  clear k0 k1 k2 k3
  clear hb4
  by_cases hN0 : N = 0
  case neg =>
    have e2 : (N != 0) = true := by simpa using hN0
    clear hN0
    go_wp2_with fail
    refine (HSG.out w4 Hg4.out Hg4'.out).mono ?_
    rintro e w5 ⟨rfl, hb5⟩
    have Hb5 := Lib.hid (below_step Hb4.out Hb4.out.size hb5); clear hb5
    go_wp2
    go_ret
    exact ⟨by first | rfl | exact ret_bool (by simp), Hb5.out⟩
  have e2 : (N != 0) = false := by simp [hN0]
  subst hN0
  clear e0 e1 HSG
  obtain ⟨au, cu, rfl⟩ := Hg4.out.slice
  obtain ⟨q1, q2, q3, q4⟩ := gaN_0 HN.out
  have hgG1 : graphB c G1 = true := by rw [← HG1.out, q4]; exact ins_graph q1 q2 q3
  have HP := Lib.hid (fun (G : List Vx) (u : Value) (f : List Nat) r b W (hG : G.length ≤ 1048576) (hq : ∀ y ∈ G, y.ps.length ≤ 1099511627776) (h1 : IntsAt W ac c) (h2 : Gr W G u f) => impl_GraphPast ac cc c G u f r b W (by omega) hG hq hcc h1 h2)
  by_cases hg0 : g.length = 0
  · have hgn : g = [] := List.eq_nil_of_length_eq_zero hg0
    have hG1x : G1 = [x] := by rw [← HG1.out, q4, hgn]; rfl
    have hpl : (gpZ c G1 x.r x.a).length = 1 := by
      have := psV_eq hgG1 (y := x) (by rw [hG1x]; simp)
      have h2 : (psV c G1 x.r x.a).length = 1 := by
        rw [this, hG1x]
        simp [Past.it]
      unfold psV at h2
      rwa [List.length_map] at h2
    have HP1 := Lib.hid (HP.out G1 _ f1 x.r x.a w4 (by have := HGl.out; omega) HGp.out Hoc4.out Hg4.out)
    have Hpl := Lib.hid hpl
    have e3 : ((g.length : Int) == 0) = true := by simp [hg0]
    clear hpl hG1x hgn hg0 q1 q2 q3 q4
    have k0 := Str.cell (W := w4) Hs4.out 0 (v := .int .i64 x.r) rfl
    have k1 := Str.cell (W := w4) Hs4.out 1 (v := .int .i64 x.a) rfl
    have k2 := Str.cell (W := w4) Hs4.out 2 (v := .slice pa x.ps.length pc) rfl
    have k3 := Str.cell (W := w4) Hs4.out 3 (v := .int .i64 x.d) rfl
    go_wp2_with fail
    refine HP1.out.mono ?_
    rintro e w5 ⟨u5, rfl, ho5, hb5⟩
    obtain ⟨a5, c5, rfl, _, _⟩ := ho5.ints
    rw [Hpl.out]
    have Hb5 := Lib.hid (below_step Hb4.out Hb4.out.size hb5); clear hb5 ho5
    go_wp2
    go_ret
    exact ⟨by first | rfl | exact ret_bool (by simp), Hb5.out⟩
  have e3 : ((g.length : Int) == 0) = false := by simp [hg0]
  obtain ⟨k, hk⟩ : ∃ k : Nat, k = ms.length % g.length := ⟨_, rfl⟩
  have hkl : k < g.length := by rw [hk]; exact Nat.mod_lt _ (by omega)
  have hkz : (ms.length : Int).tmod g.length = k := by rw [hk]; rfl
  have hkz2 : (ms.length : Int) % g.length = k := by rw [hk]; rfl
  have hpos : (0 : Int) < g.length := by omega
  have hym := List.getElem_mem hkl
  have hkeep := keeps_law HN.out hym
  rw [HG1.out] at hkeep
  obtain ⟨L1, hL1⟩ : ∃ L, gpZ c g g[k].r g[k].a = L := ⟨_, rfl⟩
  obtain ⟨L2, hL2⟩ : ∃ L, gpZ c G1 g[k].r g[k].a = L := ⟨_, rfl⟩
  have hL1l := gpZ_len c g g[k].r g[k].a
  rw [hL1] at hL1l
  have HP1 := Lib.hid (fun W h1 h2 => HP.out g (.slice ag g.length cg) fp g[k].r g[k].a W (by omega) Hps.out h1 h2)
  have HP2 := Lib.hid (fun W h1 h2 => HP.out G1 (.slice au G1.length cu) f1 g[k].r g[k].a W (by have := HGl.out; omega) HGp.out h1 h2)
  simp only [hL1, hL2] at HP1 HP2
  obtain ⟨hll, hka⟩ := keeps_at' hL1 hL2 hkeep
  have Hka := Lib.hid hka
  have Hll := Lib.hid hll
  have Hkk := Lib.hid hk
  have Hgr5 := Lib.hid (fun W (h : Below w4.heap.size w4 W) => Hgr4.out.under h)
  have Hg5 := Lib.hid (fun W (h : Below w4.heap.size w4 W) => Hg4.out.under h)
  have Hoc5 := Lib.hid (fun W (h : Below w4.heap.size w4 W) => Hoc4.out.below h)
  have HGl' : G1.length ≤ 282 := HGl.out
  obtain ⟨gb, go, rfl, hgb, hat⟩ := Hgr4.out.at (by omega)
  obtain ⟨q0, q1, _, _⟩ := hat k hkl
  have HSV := Lib.hid (fun (z : Vx) p p' q q' W (hz : z.ps.length ≤ 1099511627776) (h1 : IntsAt W p z.ps) (h2 : IntsAt W p' z.ps) => laws_sameVertex z z p p' q q' W hz hz h1 h2)
  clear hL1 hL2 hka hll hk hat q2 q3 q4 hgG1 hkeep hym hg0
  generalize g[k] = y at *
  go_wp2_with fail
  refine wp_region_held_drew (S := fun w' => Below w4.heap.size w4 w' ∧ w'.cell? ⟨gb, go + k * 4, none⟩ = some (.int .i64 y.r) ∧ w'.cell? ⟨gb, go + k * 4 + 1, none⟩ = some (.int .i64 y.a)) (by kernel_rfl) ⟨(Below.refl _ _).drew, q0, q1⟩ (fun hH => ?_)
  refine takeH 0 (v := ?va0) rfl (by kernel_rfl) (by kernel_rfl) (by kernel_rfl) (fun _ _ _ h => h) hH rfl ?ya0 ?ra0
  case ya0 => intro W hSw; go_simp; try with_reducible rfl
  try simp only [Act.put, List.setIfInBounds_toArray, List.set_cons_zero, List.set_cons_succ]
  refine takeH 1 (v := ?va1) rfl (by kernel_rfl) (by kernel_rfl) (by kernel_rfl) (fun _ _ _ h => h) hH rfl ?ya1 ?ra1
  case ya1 => intro W hSw; go_simp; try with_reducible rfl
  try simp only [Act.put, List.setIfInBounds_toArray, List.set_cons_zero, List.set_cons_succ]
  refine takeH 2 (v := ?va2) rfl (by kernel_rfl) (by kernel_rfl) (by kernel_rfl) (fun _ _ _ h => h) hH rfl ?ya2 ?ra2
  case ya2 => intro W hSw; go_simp; try with_reducible rfl
  try simp only [Act.put, List.setIfInBounds_toArray, List.set_cons_zero, List.set_cons_succ]
  refine takeH 3 (v := ?va3) rfl (by kernel_rfl) (by kernel_rfl) (by kernel_rfl) (fun _ _ _ h => h) hH rfl ?ya3 ?ra3
  case ya3 => intro W hSw; go_simp; try with_reducible rfl
  try simp only [Act.put, List.setIfInBounds_toArray, List.set_cons_zero, List.set_cons_succ]
  refine takeH 4 (v := ?va4) rfl (by kernel_rfl) (by kernel_rfl) (by kernel_rfl) (fun _ _ _ h => h) hH rfl ?ya4 ?ra4
  case ya4 => intro W hSw; go_simp; try with_reducible rfl
  try simp only [Act.put, List.setIfInBounds_toArray, List.set_cons_zero, List.set_cons_succ]
  refine takeH 5 (v := ?va5) rfl (by kernel_rfl) (by kernel_rfl) (by kernel_rfl) (fun _ _ _ h => h) hH rfl ?ya5 ?ra5
  case ya5 => intro W hSw; go_simp; try with_reducible rfl
  try simp only [Act.put, List.setIfInBounds_toArray, List.set_cons_zero, List.set_cons_succ]
  refine takeH 6 (v := ?va6) rfl (by kernel_rfl) (by kernel_rfl) (by kernel_rfl) (fun _ _ _ h => h) hH rfl ?ya6 ?ra6
  case ya6 => intro W hSw; go_simp; try with_reducible rfl
  try simp only [Act.put, List.setIfInBounds_toArray, List.set_cons_zero, List.set_cons_succ]
  refine takeH 7 (v := ?va7) rfl (by kernel_rfl) (by kernel_rfl) (by kernel_rfl) (fun _ _ _ h => h) hH rfl ?ya7 ?ra7
  case ya7 => intro W hSw; go_simp; try with_reducible rfl
  try simp only [Act.put, List.setIfInBounds_toArray, List.set_cons_zero, List.set_cons_succ]
  refine takeH 8 (v := ?va8) rfl (by kernel_rfl) (by kernel_rfl) (by kernel_rfl) (fun _ _ _ h => h) hH rfl ?ya8 ?ra8
  case ya8 => intro W hSw; go_simp; try with_reducible rfl
  try simp only [Act.put, List.setIfInBounds_toArray, List.set_cons_zero, List.set_cons_succ]
  refine takeH 9 (v := ?va9) rfl (by kernel_rfl) (by kernel_rfl) (by kernel_rfl) (fun _ _ _ h => h) hH rfl ?ya9 ?ra9
  case ya9 => intro W hSw; go_simp; try with_reducible rfl
  try simp only [Act.put, List.setIfInBounds_toArray, List.set_cons_zero, List.set_cons_succ]
  refine takeH 10 (v := ?va10) rfl (by kernel_rfl) (by kernel_rfl) (by kernel_rfl) (fun _ _ _ h => h) hH rfl ?ya10 ?ra10
  case ya10 => intro W hSw; go_simp; try with_reducible rfl
  try simp only [Act.put, List.setIfInBounds_toArray, List.set_cons_zero, List.set_cons_succ]
  refine takeH 11 (v := ?va11) rfl (by kernel_rfl) (by kernel_rfl) (by kernel_rfl) (fun _ _ _ h => h) hH rfl ?ya11 ?ra11
  case ya11 => intro W hSw; go_simp; try with_reducible rfl
  try simp only [Act.put, List.setIfInBounds_toArray, List.set_cons_zero, List.set_cons_succ]
  refine callH 12 rfl (by kernel_rfl) rfl (fun K hK => ?_)
  go_simp
  go_at_call 21
  refine (HP1.out _ (Hoc5.out _ hH.1) (Hgr5.out _ hH.1)).mono ?_
  rintro e wx ⟨u5, rfl, ho5, hbx⟩
  obtain ⟨a5, c5, rfl, _, _⟩ := ho5.ints
  refine hK.out _ _ ⟨hH.1.trans (hbx.mono hH.1.size), (hbx.cell (p := ⟨gb, go + k * 4, none⟩) (by simp only; have := hH.1.size; omega)).trans hH.2.1, (hbx.cell (p := ⟨gb, go + k * 4 + 1, none⟩) (by simp only; have := hH.1.size; omega)).trans hH.2.2⟩ (fun hH => ?_)
  clear hK K
  try simp only [Act.put, List.setIfInBounds_toArray, List.set_cons_zero, List.set_cons_succ]
  refine takeH 13 (v := ?va13) rfl (by kernel_rfl) (by kernel_rfl) (by kernel_rfl) (fun _ _ _ h => h) hH rfl ?ya13 ?ra13
  case ya13 => intro W hSw; go_simp; try with_reducible rfl
  try simp only [Act.put, List.setIfInBounds_toArray, List.set_cons_zero, List.set_cons_succ]
  refine wpAnyH_done (by kernel_rfl) ?_ _
  try simp only [Act.put]
  obtain ⟨hbw, q0, q1⟩ := hH
  have Ho5 := Lib.hid ho5
  have HB5 := Lib.hid hbw
  have hsz5 := hbw.size
  clear hbw ho5 hbx
  go_wp2_with fail
  refine wp_region_held_drew (S := fun w' => Below wx.heap.size wx w' ∧ w'.cell? ⟨gb, go + k * 4, none⟩ = some (.int .i64 y.r) ∧ w'.cell? ⟨gb, go + k * 4 + 1, none⟩ = some (.int .i64 y.a)) (by kernel_rfl) ⟨(Below.refl _ _).drew, q0, q1⟩ (fun hH => ?_)
  refine takeH 0 (v := ?vb0) rfl (by kernel_rfl) (by kernel_rfl) (by kernel_rfl) (fun _ _ _ h => h) hH rfl ?yb0 ?rb0
  case yb0 => intro W hSw; go_simp; try with_reducible rfl
  try simp only [Act.put, List.setIfInBounds_toArray, List.set_cons_zero, List.set_cons_succ]
  refine takeH 1 (v := ?vb1) rfl (by kernel_rfl) (by kernel_rfl) (by kernel_rfl) (fun _ _ _ h => h) hH rfl ?yb1 ?rb1
  case yb1 => intro W hSw; go_simp; try with_reducible rfl
  try simp only [Act.put, List.setIfInBounds_toArray, List.set_cons_zero, List.set_cons_succ]
  refine takeH 2 (v := ?vb2) rfl (by kernel_rfl) (by kernel_rfl) (by kernel_rfl) (fun _ _ _ h => h) hH rfl ?yb2 ?rb2
  case yb2 => intro W hSw; go_simp; try with_reducible rfl
  try simp only [Act.put, List.setIfInBounds_toArray, List.set_cons_zero, List.set_cons_succ]
  refine takeH 3 (v := ?vb3) rfl (by kernel_rfl) (by kernel_rfl) (by kernel_rfl) (fun _ _ _ h => h) hH rfl ?yb3 ?rb3
  case yb3 => intro W hSw; go_simp; try with_reducible rfl
  try simp only [Act.put, List.setIfInBounds_toArray, List.set_cons_zero, List.set_cons_succ]
  refine takeH 4 (v := ?vb4) rfl (by kernel_rfl) (by kernel_rfl) (by kernel_rfl) (fun _ _ _ h => h) hH rfl ?yb4 ?rb4
  case yb4 => intro W hSw; go_simp; try with_reducible rfl
  try simp only [Act.put, List.setIfInBounds_toArray, List.set_cons_zero, List.set_cons_succ]
  refine takeH 5 (v := ?vb5) rfl (by kernel_rfl) (by kernel_rfl) (by kernel_rfl) (fun _ _ _ h => h) hH rfl ?yb5 ?rb5
  case yb5 => intro W hSw; go_simp; try with_reducible rfl
  try simp only [Act.put, List.setIfInBounds_toArray, List.set_cons_zero, List.set_cons_succ]
  refine takeH 6 (v := ?vb6) rfl (by kernel_rfl) (by kernel_rfl) (by kernel_rfl) (fun _ _ _ h => h) hH rfl ?yb6 ?rb6
  case yb6 => intro W hSw; go_simp; try with_reducible rfl
  try simp only [Act.put, List.setIfInBounds_toArray, List.set_cons_zero, List.set_cons_succ]
  refine takeH 7 (v := ?vb7) rfl (by kernel_rfl) (by kernel_rfl) (by kernel_rfl) (fun _ _ _ h => h) hH rfl ?yb7 ?rb7
  case yb7 => intro W hSw; go_simp; try with_reducible rfl
  try simp only [Act.put, List.setIfInBounds_toArray, List.set_cons_zero, List.set_cons_succ]
  refine takeH 8 (v := ?vb8) rfl (by kernel_rfl) (by kernel_rfl) (by kernel_rfl) (fun _ _ _ h => h) hH rfl ?yb8 ?rb8
  case yb8 => intro W hSw; go_simp; try with_reducible rfl
  try simp only [Act.put, List.setIfInBounds_toArray, List.set_cons_zero, List.set_cons_succ]
  refine takeH 9 (v := ?vb9) rfl (by kernel_rfl) (by kernel_rfl) (by kernel_rfl) (fun _ _ _ h => h) hH rfl ?yb9 ?rb9
  case yb9 => intro W hSw; go_simp; try with_reducible rfl
  try simp only [Act.put, List.setIfInBounds_toArray, List.set_cons_zero, List.set_cons_succ]
  refine takeH 10 (v := ?vb10) rfl (by kernel_rfl) (by kernel_rfl) (by kernel_rfl) (fun _ _ _ h => h) hH rfl ?yb10 ?rb10
  case yb10 => intro W hSw; go_simp; try with_reducible rfl
  try simp only [Act.put, List.setIfInBounds_toArray, List.set_cons_zero, List.set_cons_succ]
  refine takeH 11 (v := ?vb11) rfl (by kernel_rfl) (by kernel_rfl) (by kernel_rfl) (fun _ _ _ h => h) hH rfl ?yb11 ?rb11
  case yb11 => intro W hSw; go_simp; try with_reducible rfl
  try simp only [Act.put, List.setIfInBounds_toArray, List.set_cons_zero, List.set_cons_succ]
  refine callH 12 rfl (by kernel_rfl) rfl (fun K hK => ?_)
  go_simp
  go_at_call 21
  refine (HP2.out _ (Hoc5.out _ (below_step HB5.out HB5.out.size hH.1)) (Hg5.out _ (below_step HB5.out HB5.out.size hH.1))).mono ?_
  rintro e wy ⟨u6, rfl, ho6, hbx⟩
  obtain ⟨a6, c6, rfl, _, _⟩ := ho6.ints
  rw [Hll.out]
  rw [Hll.out] at ho6
  refine hK.out _ _ ⟨hH.1.trans (hbx.mono hH.1.size), (hbx.cell (p := ⟨gb, go + k * 4, none⟩) (by simp only; have := hH.1.size; omega)).trans hH.2.1, (hbx.cell (p := ⟨gb, go + k * 4 + 1, none⟩) (by simp only; have := hH.1.size; omega)).trans hH.2.2⟩ (fun hH => ?_)
  clear hK K
  try simp only [Act.put, List.setIfInBounds_toArray, List.set_cons_zero, List.set_cons_succ]
  refine takeH 13 (v := ?vb13) rfl (by kernel_rfl) (by kernel_rfl) (by kernel_rfl) (fun _ _ _ h => h) hH rfl ?yb13 ?rb13
  case yb13 => intro W hSw; go_simp; try with_reducible rfl
  try simp only [Act.put, List.setIfInBounds_toArray, List.set_cons_zero, List.set_cons_succ]
  refine wpAnyH_done (by kernel_rfl) ?_ _
  try simp only [Act.put]
  obtain ⟨hbw, q0, q1⟩ := hH
  have Hi5 := Lib.hid (IntsAt_own (Ho5.out.below hbw))
  have Hi6 := Lib.hid (IntsAt_own ho6)
  have HB6 := Lib.hid (below_step HB5.out HB5.out.size hbw)
  clear hbw ho6 hbx q0 q1
  have e7 : ((L1.length : Int) != (L1.length : Int)) = false := by simp
  go_wp2_with fail
  go_loopw [15] (fun i wr => ∃ n : Nat, n ≤ L1.length ∧ i = .int .i64 n ∧ Below w4.heap.size w4 wr ∧ IntsAt wr a5 L1 ∧ IntsAt wr a6 L2) (fun i _ => L1.length - (intOf i).toNat)
  case atStart => exact ⟨0, Nat.zero_le _, rfl, HB6.out, Hi5.out, Hi6.out⟩
  case round =>
    obtain ⟨n, hn, rfl, hbel, hi5, hi6⟩ := hrel
    have Hbel := Lib.hid hbel
    by_cases hlt : n < L1.length
    · have hlt2 : n < L2.length := by have := Hll.out; omega
      obtain ⟨m, m', hm, hm', em, em', ez⟩ := Hka.out n hlt hlt2
      have Hi5r := Lib.hid hi5
      have Hi6r := Lib.hid hi6
      obtain ⟨b5, o5, rfl, hb5, h5⟩ := hi5.cell (by omega)
      obtain ⟨b6, o6, rfl, hb6, h6⟩ := hi6.cell (by omega)
      have x5 := h5 n hlt
      have x6 := h6 n hlt2
      rw [em] at x5
      rw [em'] at x6
      obtain ⟨gb', go', eg, hgb', hat⟩ := (Hgr5.out wr hbel).at (by omega)
      cases eg
      obtain ⟨bu, ou, rfl, hbu, hau⟩ := (Hg5.out wr hbel).at (by omega)
      obtain ⟨c0, c1, ⟨p1, s1, c2, i1, _⟩, c3⟩ := hat m hm
      obtain ⟨d0, d1, ⟨p2, s2, d2, i2, _⟩, d3⟩ := hau m' hm'
      rw [ez] at d0 d1 d2 d3 i2
      have hz := Hps.out _ (List.getElem_mem hm)
      generalize g[m] = z at *
      have HSz := Lib.hid (fun W h1 h2 => HSV.out z p1 p2 s1 s2 W hz h1 h2)
      have Hi1 := Lib.hid i1
      have Hi2 := Lib.hid i2
      have hmz : (m : Int) < g.length := by omega
      have hmz' : (m' : Int) < G1.length := by omega
      clear hat hau h5 h6 i1 i2 em em' ez hi5 hi6 hbel hz
      go_wp2_with fail
      refine wp_region_held_drew (S := fun w' => Below wr.heap.size wr w' ∧ w'.cell? ⟨b5, o5 + n, none⟩ = some (.int .i64 (m : Int)) ∧ w'.cell? ⟨b6, o6 + n, none⟩ = some (.int .i64 (m' : Int)) ∧ w'.cell? ⟨gb, go + m * 4, none⟩ = some (.int .i64 z.r) ∧ w'.cell? ⟨gb, go + m * 4 + 1, none⟩ = some (.int .i64 z.a) ∧ w'.cell? ⟨gb, go + m * 4 + 2, none⟩ = some (.slice p1 z.ps.length s1) ∧ w'.cell? ⟨gb, go + m * 4 + 3, none⟩ = some (.int .i64 z.d) ∧ w'.cell? ⟨bu, ou + m' * 4, none⟩ = some (.int .i64 z.r) ∧ w'.cell? ⟨bu, ou + m' * 4 + 1, none⟩ = some (.int .i64 z.a) ∧ w'.cell? ⟨bu, ou + m' * 4 + 2, none⟩ = some (.slice p2 z.ps.length s2) ∧ w'.cell? ⟨bu, ou + m' * 4 + 3, none⟩ = some (.int .i64 z.d)) (by kernel_rfl) ⟨(Below.refl _ _).drew, x5, x6, c0, c1, c2, c3, d0, d1, d2, d3⟩ (fun hH => ?_)
      refine takeH 0 (v := ?vc0) rfl (by kernel_rfl) (by kernel_rfl) (by kernel_rfl) (fun _ _ _ h => h) hH rfl ?yc0 ?rc0
      case yc0 => intro W hSw; go_simp; try with_reducible rfl
      try simp only [Act.put, List.setIfInBounds_toArray, List.set_cons_zero, List.set_cons_succ]
      refine takeH 1 (v := ?vc1) rfl (by kernel_rfl) (by kernel_rfl) (by kernel_rfl) (fun _ _ _ h => h) hH rfl ?yc1 ?rc1
      case yc1 => intro W hSw; go_simp; try with_reducible rfl
      try simp only [Act.put, List.setIfInBounds_toArray, List.set_cons_zero, List.set_cons_succ]
      refine takeH 2 (v := ?vc2) rfl (by kernel_rfl) (by kernel_rfl) (by kernel_rfl) (fun _ _ _ h => h) hH rfl ?yc2 ?rc2
      case yc2 => intro W hSw; go_simp; try with_reducible rfl
      try simp only [Act.put, List.setIfInBounds_toArray, List.set_cons_zero, List.set_cons_succ]
      refine takeH 3 (v := ?vc3) rfl (by kernel_rfl) (by kernel_rfl) (by kernel_rfl) (fun _ _ _ h => h) hH rfl ?yc3 ?rc3
      case yc3 => intro W hSw; go_simp; try with_reducible rfl
      try simp only [Act.put, List.setIfInBounds_toArray, List.set_cons_zero, List.set_cons_succ]
      refine takeH 4 (v := ?vc4) rfl (by kernel_rfl) (by kernel_rfl) (by kernel_rfl) (fun _ _ _ h => h) hH rfl ?yc4 ?rc4
      case yc4 => intro W hSw; go_simp; try with_reducible rfl
      try simp only [Act.put, List.setIfInBounds_toArray, List.set_cons_zero, List.set_cons_succ]
      refine takeH 5 (v := ?vc5) rfl (by kernel_rfl) (by kernel_rfl) (by kernel_rfl) (fun _ _ _ h => h) hH rfl ?yc5 ?rc5
      case yc5 => intro W hSw; go_simp; try with_reducible rfl
      try simp only [Act.put, List.setIfInBounds_toArray, List.set_cons_zero, List.set_cons_succ]
      refine takeH 6 (v := ?vc6) rfl (by kernel_rfl) (by kernel_rfl) (by kernel_rfl) (fun _ _ _ h => h) hH rfl ?yc6 ?rc6
      case yc6 => intro W hSw; go_simp; try with_reducible rfl
      try simp only [Act.put, List.setIfInBounds_toArray, List.set_cons_zero, List.set_cons_succ]
      refine takeH 7 (v := ?vc7) rfl (by kernel_rfl) (by kernel_rfl) (by kernel_rfl) (fun _ _ _ h => h) hH rfl ?yc7 ?rc7
      case yc7 => intro W hSw; go_simp; try with_reducible rfl
      try simp only [Act.put, List.setIfInBounds_toArray, List.set_cons_zero, List.set_cons_succ]
      refine takeH 8 (v := ?vc8) rfl (by kernel_rfl) (by kernel_rfl) (by kernel_rfl) (fun _ _ _ h => h) hH rfl ?yc8 ?rc8
      case yc8 => intro W hSw; go_simp; try with_reducible rfl
      try simp only [Act.put, List.setIfInBounds_toArray, List.set_cons_zero, List.set_cons_succ]
      refine takeH 9 (v := ?vc9) rfl (by kernel_rfl) (by kernel_rfl) (by kernel_rfl) (fun _ _ _ h => h) hH rfl ?yc9 ?rc9
      case yc9 => intro W hSw; go_simp; try with_reducible rfl
      try simp only [Act.put, List.setIfInBounds_toArray, List.set_cons_zero, List.set_cons_succ]
      refine takeH 10 (v := ?vc10) rfl (by kernel_rfl) (by kernel_rfl) (by kernel_rfl) (fun _ _ _ h => h) hH rfl ?yc10 ?rc10
      case yc10 => intro W hSw; go_simp; try with_reducible rfl
      try simp only [Act.put, List.setIfInBounds_toArray, List.set_cons_zero, List.set_cons_succ]
      refine takeH 11 (v := ?vc11) rfl (by kernel_rfl) (by kernel_rfl) (by kernel_rfl) (fun _ _ _ h => h) hH rfl ?yc11 ?rc11
      case yc11 => intro W hSw; go_simp; try with_reducible rfl
      try simp only [Act.put, List.setIfInBounds_toArray, List.set_cons_zero, List.set_cons_succ]
      refine takeH 12 (v := ?vc12) rfl (by kernel_rfl) (by kernel_rfl) (by kernel_rfl) (fun _ _ _ h => h) hH rfl ?yc12 ?rc12
      case yc12 => intro W hSw; go_simp; try with_reducible rfl
      try simp only [Act.put, List.setIfInBounds_toArray, List.set_cons_zero, List.set_cons_succ]
      refine takeH 13 (v := ?vc13) rfl (by kernel_rfl) (by kernel_rfl) (by kernel_rfl) (fun _ _ _ h => h) hH rfl ?yc13 ?rc13
      case yc13 => intro W hSw; go_simp; try with_reducible rfl
      try simp only [Act.put, List.setIfInBounds_toArray, List.set_cons_zero, List.set_cons_succ]
      refine callH 14 rfl (by kernel_rfl) rfl (fun K hK => ?_)
      go_simp
      go_at_call 19
      refine (HSz.out _ (Hi1.out.below hH.1) (Hi2.out.below hH.1)).mono ?_
      rw [show sameB z z = true from decide_eq_true rfl]
      rintro e wz ⟨rfl, hbx⟩
      refine hK.out _ _ ⟨hH.1.trans (hbx.mono hH.1.size), (hbx.cell (p := ⟨b5, o5 + n, none⟩) (by simp only; have := hH.1.size; omega)).trans hH.2.1, (hbx.cell (p := ⟨b6, o6 + n, none⟩) (by simp only; have := hH.1.size; omega)).trans hH.2.2.1, (hbx.cell (p := ⟨gb, go + m * 4, none⟩) (by simp only; have := hH.1.size; omega)).trans hH.2.2.2.1, (hbx.cell (p := ⟨gb, go + m * 4 + 1, none⟩) (by simp only; have := hH.1.size; omega)).trans hH.2.2.2.2.1, (hbx.cell (p := ⟨gb, go + m * 4 + 2, none⟩) (by simp only; have := hH.1.size; omega)).trans hH.2.2.2.2.2.1, (hbx.cell (p := ⟨gb, go + m * 4 + 3, none⟩) (by simp only; have := hH.1.size; omega)).trans hH.2.2.2.2.2.2.1, (hbx.cell (p := ⟨bu, ou + m' * 4, none⟩) (by simp only; have := hH.1.size; omega)).trans hH.2.2.2.2.2.2.2.1, (hbx.cell (p := ⟨bu, ou + m' * 4 + 1, none⟩) (by simp only; have := hH.1.size; omega)).trans hH.2.2.2.2.2.2.2.2.1, (hbx.cell (p := ⟨bu, ou + m' * 4 + 2, none⟩) (by simp only; have := hH.1.size; omega)).trans hH.2.2.2.2.2.2.2.2.2.1, (hbx.cell (p := ⟨bu, ou + m' * 4 + 3, none⟩) (by simp only; have := hH.1.size; omega)).trans hH.2.2.2.2.2.2.2.2.2.2⟩ (fun hH => ?_)
      clear hK K
      try simp only [Act.put, List.setIfInBounds_toArray, List.set_cons_zero, List.set_cons_succ]
      refine takeH 15 (v := ?vc15) rfl (by kernel_rfl) (by kernel_rfl) (by kernel_rfl) (fun _ _ _ h => h) hH rfl ?yc15 ?rc15
      case yc15 => intro W hSw; go_simp; try with_reducible rfl
      try simp only [Act.put, List.setIfInBounds_toArray, List.set_cons_zero, List.set_cons_succ]
      refine wpAnyH_done (by kernel_rfl) ?_ _
      try simp only [Act.put]
      obtain ⟨hbw, _⟩ := hH
      have Hbw := Lib.hid (below_step Hbel.out Hbel.out.size hbw)
      have Hj5 := Lib.hid (Hi5r.out.below hbw)
      have Hj6 := Lib.hid (Hi6r.out.below hbw)
      clear hbw hbx c0 c1 c2 c3 d0 d1 d2 d3 x5 x6
      go_wp2
      go_roundw
      case rel => exact ⟨n + 1, by omega, by go_num, Hbw.out, Hj5.out, Hj6.out⟩
      case measure => simp [intOf]; omega
    · have Hend := Lib.hid (Hb4.out.trans (hbel.mono Hb4.out.size))
      clear hbel hi5 hi6
      go_wp2
      go_ret
      exact ⟨rfl, Hend.out⟩

theorem fnGraphPastKeeps_own : ownKnob Try.prog.godebug = none := by kernel_rfl
theorem fnGraphPastKeeps_laidOut : laidOutB Try.prog = true := by kernel_rfl

theorem fnGraphPastKeeps_lifted (os : Os) (started : os.Started) (H : Type) (enc : TypeId × Value → H) :
    ReturnsInHanded {} Try.checked os 9 .any (Rows.fnGraphPastKeepsSpec.pre6 enc Try.prog Try.f9 Rows.fnGraphPastKeepsRow.domain false) (Rows.fnGraphPastKeepsSpec.post enc Try.prog Try.f9 false true false false) := by
  refine law_lifted (C := Try.checked) (tb := 4) fnGraphPastKeeps_own fnGraphPastKeeps_laidOut started (by kernel_rfl) Try.func9 rfl Try.underlying4 rfl (by rw [Try.params9]; exact of_decide_eq_true (by kernel_rfl)) ?_
    (ChangeSpec.witness6 (enc := enc) (C := Try.checked) false ⟨#[], #[.slice none 0 0, .slice none 0 0], []⟩ 8 (by kernel_rfl) (by kernel_rfl) (by kernel_rfl) (by kernel_rfl)) ?_
  · intro ds hds
    rw [Try.params9] at hds
    match ds, hds with
    | [d0, d1], _ => rfl
  · intro W base args ds p hval0 hA0
    have hval : ∀ (j : Nat) t v, Try.f9.params[j]? = some t → args[j]? = some v → Value.okWide Try.prog W .any base t v := hval0
    have hA : DataW.TrodAll enc Try.prog W 0 (fun _ => true) true Try.f9.params.toList args.toList ds p := hA0
    rw [Try.params9] at hA hval
    obtain ⟨v0, vs0, d0, ds0, p0, q0, hargs0, rfl, rfl, h0, r0⟩ := trodAll_cons hA
    obtain ⟨v1, vs1, d1, ds1, p1, q1, hargs1, rfl, rfl, h1, r1⟩ := trodAll_cons r0
    obtain ⟨hnil, rfl, rfl⟩ := trodAll_nil r1
    subst hnil
    subst hargs1
    obtain rfl : args = #[v0, v1] := by cases args; simp_all
    obtain ⟨a0, cap0, zs0, rfl, hk0, hm0, hi0, hw0⟩ := open_slice_ints Try.underlying22 Try.underlying5 (by kernel_rfl) (hval 0 22 v0 rfl rfl) h0
    obtain ⟨a1, cap1, zs1, rfl, hk1, hm1, hi1, hw1⟩ := open_slice_ints Try.underlying22 Try.underlying5 (by kernel_rfl) (hval 1 22 v1 rfl rfl) h1
    exact fnGraphPastKeeps_walk a0 cap0 zs0 a1 cap1 zs1 W hk0 hm0 hi0 hw0 hk1 hm1 hi1 hw1

theorem fnGraphPastKeeps_holds : Rows.FnGraphPastKeepsSaid :=
  OpenClaim.holds_of_wide 9 Try.f9 rfl rfl rfl rfl rfl rfl rfl ⟨rfl, rfl, rfl, rfl, rfl⟩ rfl rfl rfl rfl rfl (by kernel_rfl) Try.func9 (by kernel_rfl)
    (of_decide_eq_true (by kernel_rfl)) (by unfold Func.isWrapper; first | (rw [if_pos (by decide +kernel)]; kernel_rfl) | (rw [if_neg (by decide +kernel)]; exact ⟨rfl, rfl⟩))
    (fun os started H enc _ => fnGraphPastKeeps_lifted os started H enc)

end Go.Proofs.Ytejpoeejhmgphaa
