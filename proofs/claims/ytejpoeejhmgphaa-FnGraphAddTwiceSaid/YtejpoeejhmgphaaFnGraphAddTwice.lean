/- Law FnGraphAddTwice holds for every input; no conditions of our own. -/
import Derived.Test.YtejpoeejhmgphaaRows
import Derived.Test.YtejpoeejhmgphaaBase
import Derived.Test.YtejpoeejhmgphaaLift
import Derived.Test.YtejpoeejhmgphaaApp
import Derived.Test.YtejpoeejhmgphaaDt
import Derived.Test.YtejpoeejhmgphaaGv13
import Derived.Test.YtejpoeejhmgphaaGvi
import Derived.Test.YtejpoeejhmgphaaGq0
import Derived.Test.YtejpoeejhmgphaaGq1
namespace Go.Proofs.Ytejpoeejhmgphaa
open Go.ChangeShapes Go.WideShapes Go.ChangeAt Go.RowKit

set_option maxHeartbeats 4000000 in
theorem fnGraphAddTwice_walk (a : Option Addr) (cap : Nat) (zs : List Int) (a' : Option Addr) (cap' : Nat) (ms : List Int) (w : World) (hk : zs.length ≤ cap) (_hm : zs.length ≤ maxLen) (hi : zs = [] ∨ ∃ b off, a = some ⟨b, off, none⟩ ∧ b < w.heap.size ∧ ∀ j (h : j < zs.length), w.cell? ⟨b, off + j, none⟩ = some (.int .u8 zs[j])) (hw : ∀ z ∈ zs, (Lit.int .u8 z).wf = true)
    (_hk' : ms.length ≤ cap') (hm' : ms.length ≤ maxLen) (_hi' : ms = [] ∨ ∃ b off, a' = some ⟨b, off, none⟩ ∧ b < w.heap.size ∧ ∀ j (h : j < ms.length), w.cell? ⟨b, off + j, none⟩ = some (.int .u8 ms[j])) (_hw' : ∀ z ∈ ms, (Lit.int .u8 z).wf = true) :
    Calls Try.prog 4 #[.slice a zs.length cap, .slice a' ms.length cap'] w fun e w' => e = .returned (.bool true) ∧ Below w.heap.size w w' := by
  unfold maxLen at hm'
  by_cases hl : 1048576 < zs.length
  · go_enter Try.func4, Try.ntmps4
    go_wp2
    go_ret
    exact ⟨rfl, Below.refl _ _⟩
  by_cases hl' : 1048576 < ms.length
  · go_enter Try.func4, Try.ntmps4
    go_wp2
    go_ret
    exact ⟨rfl, Below.refl _ _⟩
  have hcode := codeAt_of hk (by omega) hi hw
  have Hcode := Lib.hid hcode; clear hcode hi hw
  go_enter Try.func4, Try.ntmps4
  go_wp2_with fail
  refine (spec_DrawGraphAdd a cap zs w Hcode.out).mono ?_
  rintro e w1 ⟨vc, c, vg, g, fp, x, pa, pc, rfl, hoc, hcl, hgr, hfp, hgl, hps, hip, hsp, hpc, hxl, hb1⟩
  have hcc := hoc.cap'
  obtain ⟨ac, cc, rfl, _, _⟩ := hoc.ints
  obtain ⟨ag, cg, rfl⟩ := hgr.slice
  have hcc := hcc _ _ _ rfl
  have Hps := Lib.hid (show ∀ y ∈ g, y.ps.length ≤ 1099511627776 from fun y hy => Nat.le_trans (hps y hy) (by omega))
  have hbA : Below w1.heap.size w1 (w1.alloc (.cells #[.int .i64 x.r, .int .i64 x.a, .slice pa x.ps.length pc, .int .i64 x.d] 30)) := (Below.refl _ _).alloc (Nat.le_refl _) _
  have HsA := Lib.hid (Str.new w1 30 #[.int .i64 x.r, .int .i64 x.a, .slice pa x.ps.length pc, .int .i64 x.d])
  have HocA := Lib.hid (hoc.below hbA).at
  have HgrA := Lib.hid (hgr.under hbA)
  have HiA := Lib.hid (hip.below hbA)
  have HspA := Lib.hid (hsp.under hip hbA)
  have HbA := Lib.hid (below_step hb1 hb1.size hbA)
  have HI := Lib.hid (fun (G : List Vx) (y : Vx) (u : Value) (f : List Nat) (p : Option Addr) (q : Nat) W (hG : G.length ≤ 1048576) (hq : ∀ y ∈ G, y.ps.length ≤ 1099511627776) (hy : y.ps.length ≤ 300) (hpq : y.ps.length ≤ q) (h1 : IntsAt W ac c) (h2 : Gr W G u f) (h3 : SrcAt W p q y.ps) (h4 : IntsAt W p y.ps) => impl_GraphAdd ac cc c G u f y p q W (by omega) hG hq (by omega) hcc h1 h2 hpq h3 h4)
  have HS := Lib.hid (fun W (h1 : IntsAt W ac c) (h2 : Gr W g (.slice ag g.length cg) fp) (h3 : SrcAt W pa pc x.ps) (h4 : IntsAt W pa x.ps) => spec_GraphAdd ac cc c g (.slice ag g.length cg) fp x pa pc W (by omega) (by omega) Hps.out (by omega) h1 h2 h3 h4)
  have hGl : (gaG c g x).length ≤ 282 := by
    unfold gaG
    split
    · have := addG_lenP g x; omega
    · simp
  have hGp : ∀ y ∈ gaG c g x, y.ps.length ≤ 1099511627776 := fun y hy => by
    unfold gaG at hy
    split at hy
    · rcases addG_memP hy with h | h
      · exact Hps.out y h
      · rw [h]; omega
    · cases hy
  have HGl := Lib.hid hGl
  have HGp := Lib.hid hGp
  clear hoc hgr hip hsp hbA hb1 hfp hps hGl hGp
  obtain ⟨N, hN⟩ : ∃ N, gaN c g x = N := ⟨_, rfl⟩
  obtain ⟨G1, hG1⟩ : ∃ G1, gaG c g x = G1 := ⟨_, rfl⟩
  have HI1 := Lib.hid (HI.out g x _ fp pa pc _ (by omega) Hps.out hxl hpc HocA.out HgrA.out HspA.out HiA.out)
  rw [hN, hG1] at HI1 HS
  rw [hG1] at HGl HGp
  have HN := Lib.hid hN
  have HG1 := Lib.hid hG1
  clear hN hG1
  have k0 := Str.cell (W := _) HsA.out 0 (v := .int .i64 x.r) rfl
  have k1 := Str.cell (W := _) HsA.out 1 (v := .int .i64 x.a) rfl
  have k2 := Str.cell (W := _) HsA.out 2 (v := .slice pa x.ps.length pc) rfl
  have k3 := Str.cell (W := _) HsA.out 3 (v := .int .i64 x.d) rfl
  go_wp2_with fail
  generalize w1.alloc (.cells #[.int .i64 x.r, .int .i64 x.a, .slice pa x.ps.length pc, .int .i64 x.d] 30) = wA at *
  refine HI1.out.mono ?_
  rintro e w2 ⟨u1, rfl, ho1, hb2⟩
  obtain ⟨f1, hr1⟩ := ho1.reads
  have Hg2 := Lib.hid (show Gr w2 G1 u1 f1 from hr1)
  have Hs2 := Lib.hid (show Str w2 w1.heap.size 30 #[.int .i64 x.r, .int .i64 x.a, .slice pa x.ps.length pc, .int .i64 x.d] from (hb2.block _ HsA.out.lt).trans HsA.out)
  have HS2 := Lib.hid (HS.out w2 (HocA.out.below hb2) (HgrA.out.under hb2) (HspA.out.under HiA.out hb2) (HiA.out.below hb2))
  have Hb2 := Lib.hid hb2
  clear k0 k1 k2 k3
  clear ho1 hr1 hb2
  have k0 := Str.cell (W := w2) Hs2.out 0 (v := .int .i64 x.r) rfl
  have k1 := Str.cell (W := w2) Hs2.out 1 (v := .int .i64 x.a) rfl
  have k2 := Str.cell (W := w2) Hs2.out 2 (v := .slice pa x.ps.length pc) rfl
  have k3 := Str.cell (W := w2) Hs2.out 3 (v := .int .i64 x.d) rfl
  go_wp2_with fail
  refine HS2.out.mono ?_
  rintro e w3 ⟨u2, rfl, ho2, hb3⟩
  obtain ⟨f2, hr2⟩ := ho2.reads
  have Hg3' := Lib.hid (show Gr w3 G1 u2 f2 from hr2)
  have Hg3 := Lib.hid (Hg2.out.under hb3)
  have HbA3 := Lib.hid (below_step Hb2.out Hb2.out.size hb3)
  have Hb3 := Lib.hid (below_step HbA.out HbA.out.size HbA3.out)
  have Hs3 := Lib.hid (show Str w3 w1.heap.size 30 #[.int .i64 x.r, .int .i64 x.a, .slice pa x.ps.length pc, .int .i64 x.d] from (hb3.block _ Hs2.out.lt).trans Hs2.out)
  have Hoc3 := Lib.hid (HocA.out.below HbA3.out)
  have Hgr3 := Lib.hid (HgrA.out.under HbA3.out)
  have Hsp3 := Lib.hid (HspA.out.under HiA.out HbA3.out)
  have Hi3 := Lib.hid (HiA.out.below HbA3.out)
  clear k0 k1 k2 k3
  clear ho2 hr2 hb3
  have e0 : (N != N) = false := by simp
  have e1 : (N == N) = true := by simp
  have HSG := Lib.hid (fun W (h : Gr W G1 u1 f1) (h' : Gr W G1 u2 f2) => laws_sameGraph G1 u1 u2 f1 f2 W (by have := HGl.out; omega) HGp.out h h')
  have k0 := Str.cell (W := w3) Hs3.out 0 (v := .int .i64 x.r) rfl
  have k1 := Str.cell (W := w3) Hs3.out 1 (v := .int .i64 x.a) rfl
  have k2 := Str.cell (W := w3) Hs3.out 2 (v := .slice pa x.ps.length pc) rfl
  have k3 := Str.cell (W := w3) Hs3.out 3 (v := .int .i64 x.d) rfl
  go_wp2_with fail
  refine (HSG.out w3 Hg3.out Hg3'.out).mono ?_
  rintro e w4 ⟨rfl, hb4⟩
  have Hg4' := Lib.hid (Hg3'.out.under hb4)
  have Hg4 := Lib.hid (Hg3.out.under hb4)
  have Hb4 := Lib.hid (below_step Hb3.out Hb3.out.size hb4)
  have Hs4 := Lib.hid (show Str w4 w1.heap.size 30 #[.int .i64 x.r, .int .i64 x.a, .slice pa x.ps.length pc, .int .i64 x.d] from (hb4.block _ Hs3.out.lt).trans Hs3.out)
  have Hoc4 := Lib.hid (Hoc3.out.below hb4)
  have Hgr4 := Lib.hid (Hgr3.out.under hb4)
  have Hsp4 := Lib.hid (Hsp3.out.under Hi3.out hb4)
  have Hi4 := Lib.hid (Hi3.out.below hb4)
  clear k0 k1 k2 k3
  clear hb4
  by_cases hN0 : N = 0
  case neg =>
    have e2 : (N != 0) = true := by simpa using hN0
    clear hN0
    go_wp2_with fail
    refine (HSG.out w4 Hg4.out Hg4'.out).mono ?_
    rintro e w5 ⟨rfl, hb5⟩
    have Hb5 := Lib.hid (below_step Hb4.out Hb4.out.size hb5); clear hb5
    go_wp2
    go_ret
    exact ⟨by first | rfl | exact ret_bool (by simp), Hb5.out⟩
  have e2 : (N != 0) = false := by simp [hN0]
  subst hN0
  obtain ⟨q1, q2, q3, q4⟩ := gaN_0 HN.out
  have hd : 0 ≤ x.d ∧ x.d ≤ 990 := by
    unfold vtxB at q2; simp only [Bool.and_eq_true] at q2; exact digB_bd q2.2.2.2.1
  obtain ⟨hd0, hd1⟩ := hd
  obtain ⟨D, hD⟩ : ∃ D : Int, (x.d + 1 + (ms.length : Int) % 990) % 991 = D := ⟨_, rfl⟩
  have hDr : 0 ≤ D ∧ D ≤ 990 := by omega
  obtain ⟨t1, t2, t3, t4⟩ := twice_law (u := ⟨x.r, x.a, x.ps, D⟩) HN.out (fun h => by
    unfold vtxB at h ⊢
    simp only [Bool.and_eq_true] at h ⊢
    exact ⟨h.1, h.2.1, h.2.2.1, digB_yes hDr.1 hDr.2, h.2.2.2.2⟩) rfl rfl
  rw [HG1.out] at t1 t2 t3 t4
  have HA1 := Lib.hid (HI.out G1 x u1 f1 pa pc w4 (by have := HGl.out; omega) HGp.out hxl hpc Hoc4.out Hg4.out Hsp4.out Hi4.out)
  rw [t1, t2] at HA1
  have T3 := Lib.hid t3
  have T4 := Lib.hid t4
  have HD := Lib.hid hD
  have HDr := Lib.hid hDr
  clear q1 q2 q3 q4 t1 t2 t3 t4 hD hDr e0 e1
  have k0 := Str.cell (W := w4) Hs4.out 0 (v := .int .i64 x.r) rfl
  have k1 := Str.cell (W := w4) Hs4.out 1 (v := .int .i64 x.a) rfl
  have k2 := Str.cell (W := w4) Hs4.out 2 (v := .slice pa x.ps.length pc) rfl
  have k3 := Str.cell (W := w4) Hs4.out 3 (v := .int .i64 x.d) rfl
  go_wp2_with fail
  refine HA1.out.mono ?_
  rintro e w5 ⟨u3, rfl, ho3, hb5⟩
  obtain ⟨f3, hr3⟩ := ho3.reads
  have Hg5' := Lib.hid (show Gr w5 G1 u3 f3 from hr3)
  have Hg5 := Lib.hid (Hg4.out.under hb5)
  have Hb5 := Lib.hid (below_step Hb4.out Hb4.out.size hb5)
  have Hs5 := Lib.hid (show Str w5 w1.heap.size 30 #[.int .i64 x.r, .int .i64 x.a, .slice pa x.ps.length pc, .int .i64 x.d] from (hb5.block _ Hs4.out.lt).trans Hs4.out)
  have Hoc5 := Lib.hid (Hoc4.out.below hb5)
  have Hsp5 := Lib.hid (Hsp4.out.under Hi4.out hb5)
  have Hi5 := Lib.hid (Hi4.out.below hb5)
  clear k0 k1 k2 k3
  clear ho3 hr3 hb5
  have hbB : Below w5.heap.size w5 (w5.alloc (.cells #[.int .i64 x.r, .int .i64 x.a, .slice pa x.ps.length pc, .int .i64 D] 30)) := (Below.refl _ _).alloc (Nat.le_refl _) _
  have HB := Lib.hid hbB
  have k0 := Str.cell (W := w5) Hs5.out 0 (v := .int .i64 x.r) rfl
  have k1 := Str.cell (W := w5) Hs5.out 1 (v := .int .i64 x.a) rfl
  have k2 := Str.cell (W := w5) Hs5.out 2 (v := .slice pa x.ps.length pc) rfl
  have k3 := Str.cell (W := w5) Hs5.out 3 (v := .int .i64 x.d) rfl
  have k3B := (HB.out.cell (p := ⟨w1.heap.size, 3, none⟩) Hs5.out.lt).trans k3
  have j0 : (w5.alloc (.cells #[.int .i64 x.r, .int .i64 x.a, .slice pa x.ps.length pc, .int .i64 x.d] 30)).cell? ⟨w1.heap.size, 3, none⟩ = some (.int .i64 x.d) := (((Below.refl w5.heap.size w5).alloc (Nat.le_refl _) (.cells #[.int .i64 x.r, .int .i64 x.a, .slice pa x.ps.length pc, .int .i64 x.d] 30)).cell (p := ⟨w1.heap.size, 3, none⟩) Hs5.out.lt).trans k3
  clear hbB
  have HsB1 := Lib.hid (show Str (w5.alloc (.cells #[.int .i64 x.r, .int .i64 x.a, .slice pa x.ps.length pc, .int .i64 D] 30)) w1.heap.size 30 #[.int .i64 x.r, .int .i64 x.a, .slice pa x.ps.length pc, .int .i64 x.d] from (HB.out.block _ Hs5.out.lt).trans Hs5.out)
  have HsB2 := Lib.hid (Str.new w5 30 #[.int .i64 x.r, .int .i64 x.a, .slice pa x.ps.length pc, .int .i64 D])
  have HA2 := Lib.hid (HI.out G1 ⟨x.r, x.a, x.ps, D⟩ u1 f1 pa pc _ (by have := HGl.out; omega) HGp.out hxl hpc (Hoc5.out.below HB.out) (Hg5.out.under HB.out) (Hsp5.out.under Hi5.out HB.out) (Hi5.out.below HB.out))
  rw [T3.out] at HA2
  have HgB' := Lib.hid (Hg5'.out.under HB.out)
  have HgB := Lib.hid (Hg5.out.under HB.out)
  have HbB := Lib.hid (below_step Hb5.out Hb5.out.size HB.out)
  have HSG3 := Lib.hid (fun u f W (h : Gr W G1 u f) (h' : Gr W G1 u1 f1) => laws_sameGraph G1 u u1 f f1 W (by have := HGl.out; omega) HGp.out h h')
  generalize gaN c G1 ⟨x.r, x.a, x.ps, D⟩ = M at *
  dsimp only at *
  clear k3B
  go_wp2_with fail
  rw [HD.out]
  generalize w5.alloc (.cells #[.int .i64 x.r, .int .i64 x.a, .slice pa x.ps.length pc, .int .i64 D] 30) = wB at *
  refine HA2.out.mono ?_
  rintro e w6 ⟨u4, rfl, ho4, hb6⟩
  obtain ⟨f4, hr4⟩ := ho4.reads
  have Hg6'' := Lib.hid (show Gr w6 G1 u4 f4 from hr4)
  have Hg6' := Lib.hid (HgB'.out.under hb6)
  have Hg6 := Lib.hid (HgB.out.under hb6)
  have Hb6 := Lib.hid (below_step HbB.out HbB.out.size hb6)
  have Hs6 := Lib.hid (show Str w6 w1.heap.size 30 #[.int .i64 x.r, .int .i64 x.a, .slice pa x.ps.length pc, .int .i64 x.d] from (hb6.block _ HsB1.out.lt).trans HsB1.out)
  have Hs6' := Lib.hid (show Str w6 w5.heap.size 30 #[.int .i64 x.r, .int .i64 x.a, .slice pa x.ps.length pc, .int .i64 D] from (hb6.block _ HsB2.out.lt).trans HsB2.out)
  clear k0 k1 k2 k3 j0 ho4 hr4 hb6
  go_wp2_with fail
  refine (HSG3.out u3 f3 w6 Hg6'.out Hg6.out).mono ?_
  rintro e w7 ⟨rfl, hb7⟩
  have Hg7'' := Lib.hid (Hg6''.out.under hb7)
  have Hg7 := Lib.hid (Hg6.out.under hb7)
  have Hb7 := Lib.hid (below_step Hb6.out Hb6.out.size hb7)
  have k3 := Str.cell (W := w7) ((hb7.block _ Hs6.out.lt).trans Hs6.out) 3 (v := .int .i64 x.d) rfl
  have j3 := Str.cell (W := w7) ((hb7.block _ Hs6'.out.lt).trans Hs6'.out) 3 (v := .int .i64 D) rfl
  clear hb7
  by_cases hM : M = 2
  · have e5 : (M == 2) = true := by simpa using hM
    clear hM
    go_wp2_with fail
    refine (HSG3.out u4 f4 w7 Hg7''.out Hg7.out).mono ?_
    rintro e w8 ⟨rfl, hb8⟩
    have Hb8 := Lib.hid (below_step Hb7.out Hb7.out.size hb8); clear hb8
    go_wp2
    go_ret
    exact ⟨by first | rfl | exact ret_bool (by simp), Hb8.out⟩
  · have e5 : (M == 2) = false := by simpa using hM
    have hDx : (D == x.d) = true := by
      rcases T4.out with h | h
      · exact absurd h hM
      · simpa using h
    clear hM
    go_wp2_with fail
    refine (HSG3.out u4 f4 w7 Hg7''.out Hg7.out).mono ?_
    rintro e w8 ⟨rfl, hb8⟩
    have Hb8 := Lib.hid (below_step Hb7.out Hb7.out.size hb8); clear hb8
    go_wp2
    go_ret
    exact ⟨by first | rfl | exact ret_bool (by simp), Hb8.out⟩

theorem fnGraphAddTwice_own : ownKnob Try.prog.godebug = none := by kernel_rfl
theorem fnGraphAddTwice_laidOut : laidOutB Try.prog = true := by kernel_rfl

theorem fnGraphAddTwice_lifted (os : Os) (started : os.Started) (H : Type) (enc : TypeId × Value → H) :
    ReturnsInHanded {} Try.checked os 4 .any (Rows.fnGraphAddTwiceSpec.pre6 enc Try.prog Try.f4 Rows.fnGraphAddTwiceRow.domain false) (Rows.fnGraphAddTwiceSpec.post enc Try.prog Try.f4 false true false false) := by
  refine law_lifted (C := Try.checked) (tb := 4) fnGraphAddTwice_own fnGraphAddTwice_laidOut started (by kernel_rfl) Try.func4 rfl Try.underlying4 rfl (by rw [Try.params4]; exact of_decide_eq_true (by kernel_rfl)) ?_
    (ChangeSpec.witness6 (enc := enc) (C := Try.checked) false ⟨#[], #[.slice none 0 0, .slice none 0 0], []⟩ 8 (by kernel_rfl) (by kernel_rfl) (by kernel_rfl) (by kernel_rfl)) ?_
  · intro ds hds
    rw [Try.params4] at hds
    match ds, hds with
    | [d0, d1], _ => rfl
  · intro W base args ds p hval0 hA0
    have hval : ∀ (j : Nat) t v, Try.f4.params[j]? = some t → args[j]? = some v → Value.okWide Try.prog W .any base t v := hval0
    have hA : DataW.TrodAll enc Try.prog W 0 (fun _ => true) true Try.f4.params.toList args.toList ds p := hA0
    rw [Try.params4] at hA hval
    obtain ⟨v0, vs0, d0, ds0, p0, q0, hargs0, rfl, rfl, h0, r0⟩ := trodAll_cons hA
    obtain ⟨v1, vs1, d1, ds1, p1, q1, hargs1, rfl, rfl, h1, r1⟩ := trodAll_cons r0
    obtain ⟨hnil, rfl, rfl⟩ := trodAll_nil r1
    subst hnil
    subst hargs1
    obtain rfl : args = #[v0, v1] := by cases args; simp_all
    obtain ⟨a0, cap0, zs0, rfl, hk0, hm0, hi0, hw0⟩ := open_slice_ints Try.underlying22 Try.underlying5 (by kernel_rfl) (hval 0 22 v0 rfl rfl) h0
    obtain ⟨a1, cap1, zs1, rfl, hk1, hm1, hi1, hw1⟩ := open_slice_ints Try.underlying22 Try.underlying5 (by kernel_rfl) (hval 1 22 v1 rfl rfl) h1
    exact fnGraphAddTwice_walk a0 cap0 zs0 a1 cap1 zs1 W hk0 hm0 hi0 hw0 hk1 hm1 hi1 hw1

theorem fnGraphAddTwice_holds : Rows.FnGraphAddTwiceSaid :=
  OpenClaim.holds_of_wide 4 Try.f4 rfl rfl rfl rfl rfl rfl rfl ⟨rfl, rfl, rfl, rfl, rfl⟩ rfl rfl rfl rfl rfl (by kernel_rfl) Try.func4 (by kernel_rfl)
    (of_decide_eq_true (by kernel_rfl)) (by unfold Func.isWrapper; first | (rw [if_pos (by decide +kernel)]; kernel_rfl) | (rw [if_neg (by decide +kernel)]; exact ⟨rfl, rfl⟩))
    (fun os started H enc _ => fnGraphAddTwice_lifted os started H enc)

end Go.Proofs.Ytejpoeejhmgphaa
