/- Law FnGraphAddCodes holds for every input; no conditions of our own. -/
import Derived.Test.YtejpoeejhmgphaaRows
import Derived.Test.YtejpoeejhmgphaaBase
import Derived.Test.YtejpoeejhmgphaaLift
import Derived.Test.YtejpoeejhmgphaaApp
import Derived.Test.YtejpoeejhmgphaaDt
import Derived.Test.YtejpoeejhmgphaaGv13
import Derived.Test.YtejpoeejhmgphaaGvi
import Derived.Test.YtejpoeejhmgphaaGq0
import Derived.Test.YtejpoeejhmgphaaGq1
namespace Go.Proofs.Ytejpoeejhmgphaa
open Go.ChangeShapes Go.WideShapes Go.ChangeAt Go.RowKit

set_option maxHeartbeats 4000000 in
theorem fnGraphAddCodes_walk (a : Option Addr) (cap : Nat) (zs : List Int) (w : World) (hk : zs.length ≤ cap) (_hm : zs.length ≤ maxLen) (hi : zs = [] ∨ ∃ b off, a = some ⟨b, off, none⟩ ∧ b < w.heap.size ∧ ∀ j (h : j < zs.length), w.cell? ⟨b, off + j, none⟩ = some (.int .u8 zs[j])) (hw : ∀ z ∈ zs, (Lit.int .u8 z).wf = true) :
    Calls Try.prog 5 #[.slice a zs.length cap] w fun e w' => e = .returned (.bool true) ∧ Below w.heap.size w w' := by
  by_cases hl : 1048576 < zs.length
  · go_enter Try.func5, Try.ntmps5
    go_wp2
    go_ret
    exact ⟨rfl, Below.refl _ _⟩
  have hcode := codeAt_of hk (by omega) hi hw
  have Hcode := Lib.hid hcode; clear hcode hi hw
  go_enter Try.func5, Try.ntmps5
  go_wp2_with fail
  refine (spec_DrawGraphAdd a cap zs w Hcode.out).mono ?_
  rintro e w1 ⟨vc, c, vg, g, fp, x, pa, pc, rfl, hoc, hcl, hgr, hfp, hgl, hps, hip, hsp, hpc, hxl, hb1⟩
  have hcc := hoc.cap'
  obtain ⟨ac, cc, rfl, _, _⟩ := hoc.ints
  obtain ⟨ag, cg, rfl⟩ := hgr.slice
  have hcc := hcc _ _ _ rfl
  have Hps := Lib.hid (show ∀ y ∈ g, y.ps.length ≤ 1099511627776 from fun y hy => Nat.le_trans (hps y hy) (by omega))
  have hbA : Below w1.heap.size w1 (w1.alloc (.cells #[.int .i64 x.r, .int .i64 x.a, .slice pa x.ps.length pc, .int .i64 x.d] 30)) := (Below.refl _ _).alloc (Nat.le_refl _) _
  have HsA := Lib.hid (Str.new w1 30 #[.int .i64 x.r, .int .i64 x.a, .slice pa x.ps.length pc, .int .i64 x.d])
  have HocA := Lib.hid (hoc.below hbA).at
  have HgrA := Lib.hid (hgr.under hbA)
  have HiA := Lib.hid (hip.below hbA)
  have HspA := Lib.hid (hsp.under hip hbA)
  have HbA := Lib.hid (below_step hb1 hb1.size hbA)
  have HI := Lib.hid (fun (G : List Vx) (y : Vx) (u : Value) (f : List Nat) (p : Option Addr) (q : Nat) W (hG : G.length ≤ 1048576) (hq : ∀ y ∈ G, y.ps.length ≤ 1099511627776) (hy : y.ps.length ≤ 300) (hpq : y.ps.length ≤ q) (h1 : IntsAt W ac c) (h2 : Gr W G u f) (h3 : SrcAt W p q y.ps) (h4 : IntsAt W p y.ps) => impl_GraphAdd ac cc c G u f y p q W (by omega) hG hq (by omega) hcc h1 h2 hpq h3 h4)
  have HS := Lib.hid (fun W (h1 : IntsAt W ac c) (h2 : Gr W g (.slice ag g.length cg) fp) (h3 : SrcAt W pa pc x.ps) (h4 : IntsAt W pa x.ps) => spec_GraphAdd ac cc c g (.slice ag g.length cg) fp x pa pc W (by omega) (by omega) Hps.out (by omega) h1 h2 h3 h4)
  have hGl : (gaG c g x).length ≤ 282 := by
    unfold gaG
    split
    · have := addG_lenP g x; omega
    · simp
  have hGp : ∀ y ∈ gaG c g x, y.ps.length ≤ 1099511627776 := fun y hy => by
    unfold gaG at hy
    split at hy
    · rcases addG_memP hy with h | h
      · exact Hps.out y h
      · rw [h]; omega
    · cases hy
  have HGl := Lib.hid hGl
  have HGp := Lib.hid hGp
  clear hoc hgr hip hsp hbA hb1 hfp hps hGl hGp
  obtain ⟨N, hN⟩ : ∃ N, gaN c g x = N := ⟨_, rfl⟩
  obtain ⟨G1, hG1⟩ : ∃ G1, gaG c g x = G1 := ⟨_, rfl⟩
  have HI1 := Lib.hid (HI.out g x _ fp pa pc _ (by omega) Hps.out hxl hpc HocA.out HgrA.out HspA.out HiA.out)
  rw [hN, hG1] at HI1 HS
  rw [hG1] at HGl HGp
  have HN := Lib.hid hN
  have HG1 := Lib.hid hG1
  clear hN hG1
  have k0 := Str.cell (W := _) HsA.out 0 (v := .int .i64 x.r) rfl
  have k1 := Str.cell (W := _) HsA.out 1 (v := .int .i64 x.a) rfl
  have k2 := Str.cell (W := _) HsA.out 2 (v := .slice pa x.ps.length pc) rfl
  have k3 := Str.cell (W := _) HsA.out 3 (v := .int .i64 x.d) rfl
  go_wp2_with fail
  generalize w1.alloc (.cells #[.int .i64 x.r, .int .i64 x.a, .slice pa x.ps.length pc, .int .i64 x.d] 30) = wA at *
  refine HI1.out.mono ?_
  rintro e w2 ⟨u1, rfl, ho1, hb2⟩
  obtain ⟨f1, hr1⟩ := ho1.reads
  have Hg2 := Lib.hid (show Gr w2 G1 u1 f1 from hr1)
  have Hs2 := Lib.hid (show Str w2 w1.heap.size 30 #[.int .i64 x.r, .int .i64 x.a, .slice pa x.ps.length pc, .int .i64 x.d] from (hb2.block _ HsA.out.lt).trans HsA.out)
  have HS2 := Lib.hid (HS.out w2 (HocA.out.below hb2) (HgrA.out.under hb2) (HspA.out.under HiA.out hb2) (HiA.out.below hb2))
  have Hb2 := Lib.hid hb2
  clear k0 k1 k2 k3
  clear ho1 hr1 hb2
  have k0 := Str.cell (W := w2) Hs2.out 0 (v := .int .i64 x.r) rfl
  have k1 := Str.cell (W := w2) Hs2.out 1 (v := .int .i64 x.a) rfl
  have k2 := Str.cell (W := w2) Hs2.out 2 (v := .slice pa x.ps.length pc) rfl
  have k3 := Str.cell (W := w2) Hs2.out 3 (v := .int .i64 x.d) rfl
  go_wp2_with fail
  refine HS2.out.mono ?_
  rintro e w3 ⟨u2, rfl, ho2, hb3⟩
  obtain ⟨f2, hr2⟩ := ho2.reads
  have Hg3' := Lib.hid (show Gr w3 G1 u2 f2 from hr2)
  have Hg3 := Lib.hid (Hg2.out.under hb3)
  have HbA3 := Lib.hid (below_step Hb2.out Hb2.out.size hb3)
  have Hb3 := Lib.hid (below_step HbA.out HbA.out.size HbA3.out)
  have Hs3 := Lib.hid (show Str w3 w1.heap.size 30 #[.int .i64 x.r, .int .i64 x.a, .slice pa x.ps.length pc, .int .i64 x.d] from (hb3.block _ Hs2.out.lt).trans Hs2.out)
  have Hoc3 := Lib.hid (HocA.out.below HbA3.out)
  have Hgr3 := Lib.hid (HgrA.out.under HbA3.out)
  have Hsp3 := Lib.hid (HspA.out.under HiA.out HbA3.out)
  have Hi3 := Lib.hid (HiA.out.below HbA3.out)
  clear k0 k1 k2 k3
  clear ho2 hr2 hb3
  have e0 : (N != N) = false := by simp
  have e1 : (N == N) = true := by simp
  have HSG := Lib.hid (fun W (h : Gr W G1 u1 f1) (h' : Gr W G1 u2 f2) => laws_sameGraph G1 u1 u2 f1 f2 W (by have := HGl.out; omega) HGp.out h h')
  have k0 := Str.cell (W := w3) Hs3.out 0 (v := .int .i64 x.r) rfl
  have k1 := Str.cell (W := w3) Hs3.out 1 (v := .int .i64 x.a) rfl
  have k2 := Str.cell (W := w3) Hs3.out 2 (v := .slice pa x.ps.length pc) rfl
  have k3 := Str.cell (W := w3) Hs3.out 3 (v := .int .i64 x.d) rfl
  go_wp2_with fail
  refine (HSG.out w3 Hg3.out Hg3'.out).mono ?_
  rintro e w4 ⟨rfl, hb4⟩
  have Hg4' := Lib.hid (Hg3'.out.under hb4)
  have Hg4 := Lib.hid (Hg3.out.under hb4)
  have Hb4 := Lib.hid (below_step Hb3.out Hb3.out.size hb4)
  have Hs4 := Lib.hid (show Str w4 w1.heap.size 30 #[.int .i64 x.r, .int .i64 x.a, .slice pa x.ps.length pc, .int .i64 x.d] from (hb4.block _ Hs3.out.lt).trans Hs3.out)
  have Hoc4 := Lib.hid (Hoc3.out.below hb4)
  have Hgr4 := Lib.hid (Hgr3.out.under hb4)
  have Hsp4 := Lib.hid (Hsp3.out.under Hi3.out hb4)
  have Hi4 := Lib.hid (Hi3.out.below hb4)
  clear k0 k1 k2 k3
  clear hb4
  by_cases hN0 : N = 0
  case pos =>
    have e2 : (N == 0) = true := by simpa using hN0
    clear hN0
    go_wp2_with fail
    refine (HSG.out w4 Hg4.out Hg4'.out).mono ?_
    rintro e w5 ⟨rfl, hb5⟩
    have Hb5 := Lib.hid (below_step Hb4.out Hb4.out.size hb5); clear hb5
    go_wp2
    go_ret
    exact ⟨by first | rfl | exact ret_bool (by simp), Hb5.out⟩
  have e2 : (N == 0) = false := by simpa using hN0
  by_cases hN4 : N = 4
  case pos =>
    have e3 : (N == 4) = true := by simpa using hN4
    clear hN4
    go_wp2_with fail
    refine (HSG.out w4 Hg4.out Hg4'.out).mono ?_
    rintro e w5 ⟨rfl, hb5⟩
    have Hb5 := Lib.hid (below_step Hb4.out Hb4.out.size hb5); clear hb5
    go_wp2
    go_ret
    exact ⟨by first | rfl | exact ret_bool (by simp), Hb5.out⟩
  have e3 : (N == 4) = false := by simpa using hN4
  obtain ⟨hgb, hvx, hGg, hcase⟩ := codes3 (by rw [HN.out]; exact hN0) (by rw [HN.out]; exact hN4)
  have hGg' : G1 = g := by rw [← HG1.out]; exact hGg
  subst hGg'
  rw [HN.out] at hcase
  have HF := Lib.hid (fun r b W (h1 : IntsAt W ac c) (h2 : Gr W G1 (.slice ag G1.length cg) fp) => impl_GraphFind ac cc c G1 (.slice ag G1.length cg) fp r b W (by omega) (by omega) Hps.out hcc h1 h2)
  have hgf : ∀ r b, gfZ c G1 r b = findZ G1 r b := fun r b => by unfold gfZ; rw [if_pos hgb]
  simp only [hgf] at HF
  have hr0 : x.r = 0 → x.ps.length = 0 := fun h0 => vtx_r0 hvx h0
  have hrb := vtx_round hvx
  have HF1 := Lib.hid (HF.out x.r x.a w4 Hoc4.out Hgr4.out)
  have Hcase := Lib.hid hcase
  have Hr0 := Lib.hid hr0
  have Hrb := Lib.hid hrb
  clear hgb hvx hGg hcase hgf hr0 hrb hN0 hN4 e1 HN HG1
  have k0 := Str.cell (W := w4) Hs4.out 0 (v := .int .i64 x.r) rfl
  have k1 := Str.cell (W := w4) Hs4.out 1 (v := .int .i64 x.a) rfl
  have k2 := Str.cell (W := w4) Hs4.out 2 (v := .slice pa x.ps.length pc) rfl
  have k3 := Str.cell (W := w4) Hs4.out 3 (v := .int .i64 x.d) rfl
  go_wp2_with fail
  refine HF1.out.mono ?_
  rintro e w5 ⟨rfl, hb5⟩
  have Hgr5 := Lib.hid (Hgr4.out.under hb5)
  have Hg5 := Lib.hid (Hg4.out.under hb5)
  have Hoc5 := Lib.hid (Hoc4.out.below hb5)
  have Hi5 := Lib.hid (Hi4.out.below hb5)
  have Hs5 := Lib.hid (show Str w5 w1.heap.size 30 #[.int .i64 x.r, .int .i64 x.a, .slice pa x.ps.length pc, .int .i64 x.d] from (hb5.block _ Hs4.out.lt).trans Hs4.out)
  have Hb5 := Lib.hid (below_step Hb4.out Hb4.out.size hb5)
  clear k0 k1 k2 k3
  clear hb5
  have k0 := Str.cell (W := w5) Hs5.out 0 (v := .int .i64 x.r) rfl
  have k1 := Str.cell (W := w5) Hs5.out 1 (v := .int .i64 x.a) rfl
  have k2 := Str.cell (W := w5) Hs5.out 2 (v := .slice pa x.ps.length pc) rfl
  have k3 := Str.cell (W := w5) Hs5.out 3 (v := .int .i64 x.d) rfl
  go_wp2_with fail
  clear k0 k1 k2 k3
  go_loopw [11, 12] (fun q i wr => ∃ k : Nat, k ≤ x.ps.length ∧ i = .int .i64 k ∧ q = .bool (misB G1 x.r x.ps k) ∧ Below w5.heap.size w5 wr) (fun _ i _ => x.ps.length - (intOf i).toNat)
  case atStart => exact ⟨0, Nat.zero_le _, rfl, rfl, Below.refl _ _⟩
  case round =>
    obtain ⟨k, hk, rfl, rfl, hbel⟩ := hrel
    have Hbel := Lib.hid hbel
    have Hsr := Lib.hid (show Str wr w1.heap.size 30 #[.int .i64 x.r, .int .i64 x.a, .slice pa x.ps.length pc, .int .i64 x.d] from (hbel.block _ Hs5.out.lt).trans Hs5.out)
    have Hir := Lib.hid (Hi5.out.below hbel)
    have Hgrr := Lib.hid (Hgr5.out.under hbel)
    have Hgg := Lib.hid (Hg5.out.under hbel)
    have Hocr := Lib.hid (Hoc5.out.below hbel)
    clear hbel
    by_cases hlt : k < x.ps.length
    · obtain ⟨b, off, rfl, hb, hat⟩ := Hir.out.cell (by omega)
      have qk := hat k hlt
      have hr1 : 1 ≤ x.r := by
        have := Hrb.out.1
        by_cases e : x.r = 0
        · have := Hr0.out e; omega
        · omega
      have hr30 := Hrb.out.2
      have hw1 : IntKind.i64.wrap (x.r - 1) = x.r - 1 := IntWalk.i64_in _ (by omega)
      have k0 := Str.cell (W := wr) Hsr.out 0 (v := .int .i64 x.r) rfl
      have k1 := Str.cell (W := wr) Hsr.out 1 (v := .int .i64 x.a) rfl
      have k2 := Str.cell (W := wr) Hsr.out 2 (v := .slice (some ⟨b, off, none⟩) x.ps.length pc) rfl
      have k3 := Str.cell (W := wr) Hsr.out 3 (v := .int .i64 x.d) rfl
      have hwl : w1.heap.size < wr.heap.size := Hsr.out.lt
      cases hm : misB G1 x.r x.ps k with
      | true =>
        have Hms := Lib.hid (mis_true hm)
        clear hat hm k1 k3
        go_wp2_with fail
        refine wp_region_held_drew (S := fun w' => Below wr.heap.size wr w') (by kernel_rfl) (Below.refl _ _).drew (fun hH => ?_)
        refine takeH 0 (v := ?vla0) rfl (by kernel_rfl) (by kernel_rfl) (by kernel_rfl) (fun _ _ _ h => h) hH rfl ?yla0 ?rla0
        case yla0 => intro W hSw; go_simp; try with_reducible rfl
        try simp only [Act.put, List.setIfInBounds_toArray, List.set_cons_zero, List.set_cons_succ]
        refine takeH 1 (v := ?vla1) rfl (by kernel_rfl) (by kernel_rfl) (by kernel_rfl) (fun _ _ _ h => h) hH rfl ?yla1 ?rla1
        case yla1 => intro W hSw; go_simp; try with_reducible rfl
        try simp only [Act.put, List.setIfInBounds_toArray, List.set_cons_zero, List.set_cons_succ]
        refine skipH 2 rfl (by kernel_rfl) (by kernel_rfl) (by kernel_rfl) (fun _ _ _ h => h) hH rfl ?_
        try simp only [Act.put, List.setIfInBounds_toArray, List.set_cons_zero, List.set_cons_succ]
        refine skipH 3 rfl (by kernel_rfl) (by kernel_rfl) (by kernel_rfl) (fun _ _ _ h => h) hH rfl ?_
        try simp only [Act.put, List.setIfInBounds_toArray, List.set_cons_zero, List.set_cons_succ]
        refine skipH 4 rfl (by kernel_rfl) (by kernel_rfl) (by kernel_rfl) (fun _ _ _ h => h) hH rfl ?_
        try simp only [Act.put, List.setIfInBounds_toArray, List.set_cons_zero, List.set_cons_succ]
        refine skipH 5 rfl (by kernel_rfl) (by kernel_rfl) (by kernel_rfl) (fun _ _ _ h => h) hH rfl ?_
        try simp only [Act.put, List.setIfInBounds_toArray, List.set_cons_zero, List.set_cons_succ]
        refine skipH 6 rfl (by kernel_rfl) (by kernel_rfl) (by kernel_rfl) (fun _ _ _ h => h) hH rfl ?_
        try simp only [Act.put, List.setIfInBounds_toArray, List.set_cons_zero, List.set_cons_succ]
        refine skipH 7 rfl (by kernel_rfl) (by kernel_rfl) (by kernel_rfl) (fun _ _ _ h => h) hH rfl ?_
        try simp only [Act.put, List.setIfInBounds_toArray, List.set_cons_zero, List.set_cons_succ]
        refine skipH 8 rfl (by kernel_rfl) (by kernel_rfl) (by kernel_rfl) (fun _ _ _ h => h) hH rfl ?_
        try simp only [Act.put, List.setIfInBounds_toArray, List.set_cons_zero, List.set_cons_succ]
        refine skipH 9 rfl (by kernel_rfl) (by kernel_rfl) (by kernel_rfl) (fun _ _ _ h => h) hH rfl ?_
        try simp only [Act.put, List.setIfInBounds_toArray, List.set_cons_zero, List.set_cons_succ]
        refine skipH 10 rfl (by kernel_rfl) (by kernel_rfl) (by kernel_rfl) (fun _ _ _ h => h) hH rfl ?_
        try simp only [Act.put, List.setIfInBounds_toArray, List.set_cons_zero, List.set_cons_succ]
        refine skipH 11 rfl (by kernel_rfl) (by kernel_rfl) (by kernel_rfl) (fun _ _ _ h => h) hH rfl ?_
        try simp only [Act.put, List.setIfInBounds_toArray, List.set_cons_zero, List.set_cons_succ]
        refine skipH 12 rfl (by kernel_rfl) (by kernel_rfl) (by kernel_rfl) (fun _ _ _ h => h) hH rfl ?_
        try simp only [Act.put, List.setIfInBounds_toArray, List.set_cons_zero, List.set_cons_succ]
        refine skipH 13 rfl (by kernel_rfl) (by kernel_rfl) (by kernel_rfl) (fun _ _ _ h => h) hH rfl ?_
        try simp only [Act.put, List.setIfInBounds_toArray, List.set_cons_zero, List.set_cons_succ]
        refine takeH 14 (v := ?vla14) rfl (by kernel_rfl) (by kernel_rfl) (by kernel_rfl) (fun _ _ _ h => h) hH rfl ?yla14 ?rla14
        case yla14 => intro W hSw; go_simp; try with_reducible rfl
        try simp only [Act.put, List.setIfInBounds_toArray, List.set_cons_zero, List.set_cons_succ]
        refine takeH 15 (v := ?vla15) rfl (by kernel_rfl) (by kernel_rfl) (by kernel_rfl) (fun _ _ _ h => h) hH rfl ?yla15 ?rla15
        case yla15 => intro W hSw; go_simp; try with_reducible rfl
        try simp only [Act.put, List.setIfInBounds_toArray, List.set_cons_zero, List.set_cons_succ]
        refine wpAnyH_done (by kernel_rfl) ?_ _
        try simp only [Act.put]
        have Hbw := Lib.hid (Hbel.out.trans (hH.mono Hbel.out.size))
        generalize wr.drew = wq at *
        clear hH k0 k2 qk
        go_wp2
        go_roundw
        case rel => exact ⟨k + 1, by omega, by go_num, by rw [Hms.out], Hbw.out⟩
        case measure => simp [intOf]; omega
      | false =>
        have Hms := Lib.hid (mis_next hm hlt)
        have HFk := Lib.hid (fun W h1 h2 => HF.out (x.r - 1) x.ps[k] W h1 h2)
        clear hat hm k1 k3
        generalize findZ G1 (x.r - 1) x.ps[k] = Z at *
        generalize x.ps[k] = p at *
        go_wp2_with fail
        refine wp_region_held_drew (S := fun w' => Below wr.heap.size wr w' ∧ w'.cell? ⟨w1.heap.size, 0, none⟩ = some (.int .i64 x.r) ∧ w'.cell? ⟨w1.heap.size, 2, none⟩ = some (.slice (some ⟨b, off, none⟩) x.ps.length pc) ∧ w'.cell? ⟨b, off + k, none⟩ = some (.int .i64 p)) (by kernel_rfl) ⟨(Below.refl _ _).drew, k0, k2, qk⟩ (fun hH => ?_)
        refine takeH 0 (v := ?vlb0) rfl (by kernel_rfl) (by kernel_rfl) (by kernel_rfl) (fun _ _ _ h => h) hH rfl ?ylb0 ?rlb0
        case ylb0 => intro W hSw; go_simp; try with_reducible rfl
        try simp only [Act.put, List.setIfInBounds_toArray, List.set_cons_zero, List.set_cons_succ]
        refine takeH 1 (v := ?vlb1) rfl (by kernel_rfl) (by kernel_rfl) (by kernel_rfl) (fun _ _ _ h => h) hH rfl ?ylb1 ?rlb1
        case ylb1 => intro W hSw; go_simp; try with_reducible rfl
        try simp only [Act.put, List.setIfInBounds_toArray, List.set_cons_zero, List.set_cons_succ]
        refine takeH 2 (v := ?vlb2) rfl (by kernel_rfl) (by kernel_rfl) (by kernel_rfl) (fun _ _ _ h => h) hH rfl ?ylb2 ?rlb2
        case ylb2 => intro W hSw; go_simp; try with_reducible rfl
        try simp only [Act.put, List.setIfInBounds_toArray, List.set_cons_zero, List.set_cons_succ]
        refine takeH 3 (v := ?vlb3) rfl (by kernel_rfl) (by kernel_rfl) (by kernel_rfl) (fun _ _ _ h => h) hH rfl ?ylb3 ?rlb3
        case ylb3 => intro W hSw; go_simp; try with_reducible rfl
        try simp only [Act.put, List.setIfInBounds_toArray, List.set_cons_zero, List.set_cons_succ]
        refine takeH 4 (v := ?vlb4) rfl (by kernel_rfl) (by kernel_rfl) (by kernel_rfl) (fun _ _ _ h => h) hH rfl ?ylb4 ?rlb4
        case ylb4 => intro W hSw; go_simp; try with_reducible rfl
        try simp only [Act.put, List.setIfInBounds_toArray, List.set_cons_zero, List.set_cons_succ]
        refine takeH 5 (v := ?vlb5) rfl (by kernel_rfl) (by kernel_rfl) (by kernel_rfl) (fun _ _ _ h => h) hH rfl ?ylb5 ?rlb5
        case ylb5 => intro W hSw; go_simp; try with_reducible rfl
        try simp only [Act.put, List.setIfInBounds_toArray, List.set_cons_zero, List.set_cons_succ]
        refine takeH 6 (v := ?vlb6) rfl (by kernel_rfl) (by kernel_rfl) (by kernel_rfl) (fun _ _ _ h => h) hH rfl ?ylb6 ?rlb6
        case ylb6 => intro W hSw; go_simp; try with_reducible rfl
        try simp only [Act.put, List.setIfInBounds_toArray, List.set_cons_zero, List.set_cons_succ]
        refine takeH 7 (v := ?vlb7) rfl (by kernel_rfl) (by kernel_rfl) (by kernel_rfl) (fun _ _ _ h => h) hH rfl ?ylb7 ?rlb7
        case ylb7 => intro W hSw; go_simp; try with_reducible rfl
        try simp only [Act.put, List.setIfInBounds_toArray, List.set_cons_zero, List.set_cons_succ]
        refine takeH 8 (v := ?vlb8) rfl (by kernel_rfl) (by kernel_rfl) (by kernel_rfl) (fun _ _ _ h => h) hH rfl ?ylb8 ?rlb8
        case ylb8 => intro W hSw; go_simp; try with_reducible rfl
        try simp only [Act.put, List.setIfInBounds_toArray, List.set_cons_zero, List.set_cons_succ]
        refine takeH 9 (v := ?vlb9) rfl (by kernel_rfl) (by kernel_rfl) (by kernel_rfl) (fun _ _ _ h => h) hH rfl ?ylb9 ?rlb9
        case ylb9 => intro W hSw; go_simp; try with_reducible rfl
        try simp only [Act.put, List.setIfInBounds_toArray, List.set_cons_zero, List.set_cons_succ]
        refine takeH 10 (v := ?vlb10) rfl (by kernel_rfl) (by kernel_rfl) (by kernel_rfl) (fun _ _ _ h => h) hH rfl ?ylb10 ?rlb10
        case ylb10 => intro W hSw; go_simp; try with_reducible rfl
        try simp only [Act.put, List.setIfInBounds_toArray, List.set_cons_zero, List.set_cons_succ]
        refine takeH 11 (v := ?vlb11) rfl (by kernel_rfl) (by kernel_rfl) (by kernel_rfl) (fun _ _ _ h => h) hH rfl ?ylb11 ?rlb11
        case ylb11 => intro W hSw; go_simp; try with_reducible rfl
        try simp only [Act.put, List.setIfInBounds_toArray, List.set_cons_zero, List.set_cons_succ]
        refine callH 12 rfl (by kernel_rfl) rfl (fun K hK => ?_)
        go_simp
        go_at_call 12
        refine (HFk.out _ (Hocr.out.below hH.1) (Hgrr.out.under hH.1)).mono ?_
        rintro e wx ⟨rfl, hbx⟩
        refine hK.out _ _ ⟨hH.1.trans (hbx.mono hH.1.size), (hbx.cell (p := ⟨w1.heap.size, 0, none⟩) (by simp only; have := hH.1.size; omega)).trans hH.2.1, (hbx.cell (p := ⟨w1.heap.size, 2, none⟩) (by simp only; have := hH.1.size; omega)).trans hH.2.2.1, (hbx.cell (p := ⟨b, off + k, none⟩) (by simp only; have := hH.1.size; omega)).trans hH.2.2.2⟩ (fun hH => ?_)
        clear hK K
        try simp only [Act.put, List.setIfInBounds_toArray, List.set_cons_zero, List.set_cons_succ]
        refine takeH 13 (v := ?vlb13) rfl (by kernel_rfl) (by kernel_rfl) (by kernel_rfl) (fun _ _ _ h => h) hH rfl ?ylb13 ?rlb13
        case ylb13 => intro W hSw; go_simp; try with_reducible rfl
        try simp only [Act.put, List.setIfInBounds_toArray, List.set_cons_zero, List.set_cons_succ]
        refine takeH 14 (v := ?vlb14) rfl (by kernel_rfl) (by kernel_rfl) (by kernel_rfl) (fun _ _ _ h => h) hH rfl ?ylb14 ?rlb14
        case ylb14 => intro W hSw; go_simp; try with_reducible rfl
        try simp only [Act.put, List.setIfInBounds_toArray, List.set_cons_zero, List.set_cons_succ]
        refine takeH 15 (v := ?vlb15) rfl (by kernel_rfl) (by kernel_rfl) (by kernel_rfl) (fun _ _ _ h => h) hH rfl ?ylb15 ?rlb15
        case ylb15 => intro W hSw; go_simp; try with_reducible rfl
        try simp only [Act.put, List.setIfInBounds_toArray, List.set_cons_zero, List.set_cons_succ]
        refine wpAnyH_done (by kernel_rfl) ?_ _
        try simp only [Act.put]
        have Hbw := Lib.hid (Hbel.out.trans (hH.1.mono Hbel.out.size))
        clear hH hbx k0 k2 qk
        go_wp2
        go_roundw
        case rel => exact ⟨k + 1, by omega, by go_num, by rw [Hms.out], Hbw.out⟩
        case measure => simp [intOf]; omega
    · have hke : k = x.ps.length := by omega
      subst hke
      have k0 := Str.cell (W := wr) Hsr.out 0 (v := .int .i64 x.r) rfl
      have k1 := Str.cell (W := wr) Hsr.out 1 (v := .int .i64 x.a) rfl
      have k2 := Str.cell (W := wr) Hsr.out 2 (v := .slice pa x.ps.length pc) rfl
      have k3 := Str.cell (W := wr) Hsr.out 3 (v := .int .i64 x.d) rfl
      have hwl : w1.heap.size < wr.heap.size := Hsr.out.lt
      have HSGf := Lib.hid (fun W (h : Gr W G1 u1 f1) (h' : Gr W G1 (.slice ag G1.length cg) fp) => laws_sameGraph G1 u1 (.slice ag G1.length cg) f1 fp W (by omega) Hps.out h h')
      rcases Hcase.out with ⟨kk, hkk, hz, hs, hN⟩ | ⟨kk, hkk, hz, hs, hN⟩ | ⟨hz, hp, hN⟩
      · subst hN
        rw [hz]
        obtain ⟨gb, go, rfl, hgb, hat⟩ := Hgrr.out.at (by omega)
        obtain ⟨c0, c1, ⟨p1, s1, c2, i1, _⟩, c3⟩ := hat kk hkk
        have hyl := Hps.out _ (List.getElem_mem hkk)
        have Hsb := Lib.hid hs
        have Hi1 := Lib.hid i1
        have hmax : (if (kk : Int) < 0 then (0 : Int) else kk) = kk := if_neg (by omega)
        have hkz : (kk : Int) < G1.length := by omega
        have hk0 : (0 : Int) ≤ kk := by omega
        have hn0 : ¬ (kk : Int) < 0 := by omega
        have hnd : decide ((kk : Int) < 0) = false := decide_eq_false hn0
        clear hat hz hs i1
        generalize G1[kk] = y at *
        have HSV := Lib.hid (fun W h1 h2 => laws_sameVertex y x p1 pa s1 pc W hyl (by omega) h1 h2)
        rw [Hsb.out] at HSV
        go_wp2_with fail
        refine wp_region_held_drew (S := fun w' => Below wr.heap.size wr w' ∧ w'.cell? ⟨w1.heap.size, 0, none⟩ = some (.int .i64 x.r) ∧ w'.cell? ⟨w1.heap.size, 1, none⟩ = some (.int .i64 x.a) ∧ w'.cell? ⟨w1.heap.size, 2, none⟩ = some (.slice pa x.ps.length pc) ∧ w'.cell? ⟨w1.heap.size, 3, none⟩ = some (.int .i64 x.d) ∧ w'.cell? ⟨gb, go + kk * 4, none⟩ = some (.int .i64 y.r) ∧ w'.cell? ⟨gb, go + kk * 4 + 1, none⟩ = some (.int .i64 y.a) ∧ w'.cell? ⟨gb, go + kk * 4 + 2, none⟩ = some (.slice p1 y.ps.length s1) ∧ w'.cell? ⟨gb, go + kk * 4 + 3, none⟩ = some (.int .i64 y.d)) (by kernel_rfl) ⟨(Below.refl _ _).drew, k0, k1, k2, k3, c0, c1, c2, c3⟩ (fun hH => ?_)
        refine takeH 0 (v := ?vra0) rfl (by kernel_rfl) (by kernel_rfl) (by kernel_rfl) (fun _ _ _ h => h) hH rfl ?yra0 ?rra0
        case yra0 => intro W hSw; go_simp; try with_reducible rfl
        try simp only [Act.put, List.setIfInBounds_toArray, List.set_cons_zero, List.set_cons_succ]
        refine takeH 1 (v := ?vra1) rfl (by kernel_rfl) (by kernel_rfl) (by kernel_rfl) (fun _ _ _ h => h) hH rfl ?yra1 ?rra1
        case yra1 => intro W hSw; go_simp; try with_reducible rfl
        try simp only [Act.put, List.setIfInBounds_toArray, List.set_cons_zero, List.set_cons_succ]
        refine callH 2 rfl (by kernel_rfl) rfl (fun K hK => ?_)
        go_simp
        go_at_call 18
        refine (HSGf.out _ (Hgg.out.under hH.1) (Hgrr.out.under hH.1)).mono ?_
        rintro e wx ⟨rfl, hbx⟩
        refine hK.out _ _ ⟨hH.1.trans (hbx.mono hH.1.size), (hbx.cell (p := ⟨w1.heap.size, 0, none⟩) (by simp only; have := hH.1.size; omega)).trans hH.2.1, (hbx.cell (p := ⟨w1.heap.size, 1, none⟩) (by simp only; have := hH.1.size; omega)).trans hH.2.2.1, (hbx.cell (p := ⟨w1.heap.size, 2, none⟩) (by simp only; have := hH.1.size; omega)).trans hH.2.2.2.1, (hbx.cell (p := ⟨w1.heap.size, 3, none⟩) (by simp only; have := hH.1.size; omega)).trans hH.2.2.2.2.1, (hbx.cell (p := ⟨gb, go + kk * 4, none⟩) (by simp only; have := hH.1.size; omega)).trans hH.2.2.2.2.2.1, (hbx.cell (p := ⟨gb, go + kk * 4 + 1, none⟩) (by simp only; have := hH.1.size; omega)).trans hH.2.2.2.2.2.2.1, (hbx.cell (p := ⟨gb, go + kk * 4 + 2, none⟩) (by simp only; have := hH.1.size; omega)).trans hH.2.2.2.2.2.2.2.1, (hbx.cell (p := ⟨gb, go + kk * 4 + 3, none⟩) (by simp only; have := hH.1.size; omega)).trans hH.2.2.2.2.2.2.2.2⟩ (fun hH => ?_)
        clear hK K
        try simp only [Act.put, List.setIfInBounds_toArray, List.set_cons_zero, List.set_cons_succ]
        refine takeH 3 (v := ?vra3) rfl (by kernel_rfl) (by kernel_rfl) (by kernel_rfl) (fun _ _ _ h => h) hH rfl ?yra3 ?rra3
        case yra3 => intro W hSw; go_simp; try with_reducible rfl
        try simp only [Act.put, List.setIfInBounds_toArray, List.set_cons_zero, List.set_cons_succ]
        refine takeH 4 (v := ?vra4) rfl (by kernel_rfl) (by kernel_rfl) (by kernel_rfl) (fun _ _ _ h => h) hH rfl ?yra4 ?rra4
        case yra4 => intro W hSw; go_simp; try with_reducible rfl
        try simp only [Act.put, List.setIfInBounds_toArray, List.set_cons_zero, List.set_cons_succ]
        refine takeH 5 (v := ?vra5) rfl (by kernel_rfl) (by kernel_rfl) (by kernel_rfl) (fun _ _ _ h => h) hH rfl ?yra5 ?rra5
        case yra5 => intro W hSw; go_simp; try with_reducible rfl
        try simp only [Act.put, List.setIfInBounds_toArray, List.set_cons_zero, List.set_cons_succ]
        refine takeH 6 (v := ?vra6) rfl (by kernel_rfl) (by kernel_rfl) (by kernel_rfl) (fun _ _ _ h => h) hH rfl ?yra6 ?rra6
        case yra6 => intro W hSw; go_simp; try with_reducible rfl
        try simp only [Act.put, List.setIfInBounds_toArray, List.set_cons_zero, List.set_cons_succ]
        refine takeH 7 (v := ?vra7) rfl (by kernel_rfl) (by kernel_rfl) (by kernel_rfl) (fun _ _ _ h => h) hH rfl ?yra7 ?rra7
        case yra7 => intro W hSw; go_simp; try with_reducible rfl
        try simp only [Act.put, List.setIfInBounds_toArray, List.set_cons_zero, List.set_cons_succ]
        refine takeH 8 (v := ?vra8) rfl (by kernel_rfl) (by kernel_rfl) (by kernel_rfl) (fun _ _ _ h => h) hH rfl ?yra8 ?rra8
        case yra8 => intro W hSw; go_simp; try with_reducible rfl
        try simp only [Act.put, List.setIfInBounds_toArray, List.set_cons_zero, List.set_cons_succ]
        refine takeH 9 (v := ?vra9) rfl (by kernel_rfl) (by kernel_rfl) (by kernel_rfl) (fun _ _ _ h => h) hH rfl ?yra9 ?rra9
        case yra9 => intro W hSw; go_simp; try with_reducible rfl
        try simp only [Act.put, List.setIfInBounds_toArray, List.set_cons_zero, List.set_cons_succ]
        refine takeH 10 (v := ?vra10) rfl (by kernel_rfl) (by kernel_rfl) (by kernel_rfl) (fun _ _ _ h => h) hH rfl ?yra10 ?rra10
        case yra10 => intro W hSw; go_simp; try with_reducible rfl
        try simp only [Act.put, List.setIfInBounds_toArray, List.set_cons_zero, List.set_cons_succ]
        refine takeH 11 (v := ?vra11) rfl (by kernel_rfl) (by kernel_rfl) (by kernel_rfl) (fun _ _ _ h => h) hH rfl ?yra11 ?rra11
        case yra11 => intro W hSw; go_simp; try with_reducible rfl
        try simp only [Act.put, List.setIfInBounds_toArray, List.set_cons_zero, List.set_cons_succ]
        refine takeH 12 (v := ?vra12) rfl (by kernel_rfl) (by kernel_rfl) (by kernel_rfl) (fun _ _ _ h => h) hH rfl ?yra12 ?rra12
        case yra12 => intro W hSw; go_simp; try with_reducible rfl
        try simp only [Act.put, List.setIfInBounds_toArray, List.set_cons_zero, List.set_cons_succ]
        refine takeH 13 (v := ?vra13) rfl (by kernel_rfl) (by kernel_rfl) (by kernel_rfl) (fun _ _ _ h => h) hH rfl ?yra13 ?rra13
        case yra13 => intro W hSw; go_simp; try with_reducible rfl
        try simp only [Act.put, List.setIfInBounds_toArray, List.set_cons_zero, List.set_cons_succ]
        refine takeH 14 (v := ?vra14) rfl (by kernel_rfl) (by kernel_rfl) (by kernel_rfl) (fun _ _ _ h => h) hH rfl ?yra14 ?rra14
        case yra14 => intro W hSw; go_simp; try with_reducible rfl
        try simp only [Act.put, List.setIfInBounds_toArray, List.set_cons_zero, List.set_cons_succ]
        refine callH 15 rfl (by kernel_rfl) rfl (fun K hK => ?_)
        go_simp
        go_at_call 19
        refine (HSV.out _ (Hi1.out.below hH.1) (Hir.out.below hH.1)).mono ?_
        rintro e wy ⟨rfl, hbx⟩
        refine hK.out _ _ ⟨hH.1.trans (hbx.mono hH.1.size), (hbx.cell (p := ⟨w1.heap.size, 0, none⟩) (by simp only; have := hH.1.size; omega)).trans hH.2.1, (hbx.cell (p := ⟨w1.heap.size, 1, none⟩) (by simp only; have := hH.1.size; omega)).trans hH.2.2.1, (hbx.cell (p := ⟨w1.heap.size, 2, none⟩) (by simp only; have := hH.1.size; omega)).trans hH.2.2.2.1, (hbx.cell (p := ⟨w1.heap.size, 3, none⟩) (by simp only; have := hH.1.size; omega)).trans hH.2.2.2.2.1, (hbx.cell (p := ⟨gb, go + kk * 4, none⟩) (by simp only; have := hH.1.size; omega)).trans hH.2.2.2.2.2.1, (hbx.cell (p := ⟨gb, go + kk * 4 + 1, none⟩) (by simp only; have := hH.1.size; omega)).trans hH.2.2.2.2.2.2.1, (hbx.cell (p := ⟨gb, go + kk * 4 + 2, none⟩) (by simp only; have := hH.1.size; omega)).trans hH.2.2.2.2.2.2.2.1, (hbx.cell (p := ⟨gb, go + kk * 4 + 3, none⟩) (by simp only; have := hH.1.size; omega)).trans hH.2.2.2.2.2.2.2.2⟩ (fun hH => ?_)
        clear hK K
        try simp only [Act.put, List.setIfInBounds_toArray, List.set_cons_zero, List.set_cons_succ]
        refine takeH 16 (v := ?vra16) rfl (by kernel_rfl) (by kernel_rfl) (by kernel_rfl) (fun _ _ _ h => h) hH rfl ?yra16 ?rra16
        case yra16 => intro W hSw; go_simp; try with_reducible rfl
        try simp only [Act.put, List.setIfInBounds_toArray, List.set_cons_zero, List.set_cons_succ]
        refine takeH 17 (v := ?vra17) rfl (by kernel_rfl) (by kernel_rfl) (by kernel_rfl) (fun _ _ _ h => h) hH rfl ?yra17 ?rra17
        case yra17 => intro W hSw; go_simp; try with_reducible rfl
        try simp only [Act.put, List.setIfInBounds_toArray, List.set_cons_zero, List.set_cons_succ]
        refine takeH 18 (v := ?vra18) rfl (by kernel_rfl) (by kernel_rfl) (by kernel_rfl) (fun _ _ _ h => h) hH rfl ?yra18 ?rra18
        case yra18 => intro W hSw; go_simp; try with_reducible rfl
        try simp only [Act.put, List.setIfInBounds_toArray, List.set_cons_zero, List.set_cons_succ]
        refine takeH 19 (v := ?vra19) rfl (by kernel_rfl) (by kernel_rfl) (by kernel_rfl) (fun _ _ _ h => h) hH rfl ?yra19 ?rra19
        case yra19 => intro W hSw; go_simp; try with_reducible rfl
        try simp only [Act.put, List.setIfInBounds_toArray, List.set_cons_zero, List.set_cons_succ]
        refine takeH 20 (v := ?vra20) rfl (by kernel_rfl) (by kernel_rfl) (by kernel_rfl) (fun _ _ _ h => h) hH rfl ?yra20 ?rra20
        case yra20 => intro W hSw; go_simp; try with_reducible rfl
        try simp only [Act.put, List.setIfInBounds_toArray, List.set_cons_zero, List.set_cons_succ]
        refine takeH 21 (v := ?vra21) rfl (by kernel_rfl) (by kernel_rfl) (by kernel_rfl) (fun _ _ _ h => h) hH rfl ?yra21 ?rra21
        case yra21 => intro W hSw; go_simp; try with_reducible rfl
        try simp only [Act.put, List.setIfInBounds_toArray, List.set_cons_zero, List.set_cons_succ]
        refine takeH 22 (v := ?vra22) rfl (by kernel_rfl) (by kernel_rfl) (by kernel_rfl) (fun _ _ _ h => h) hH rfl ?yra22 ?rra22
        case yra22 => intro W hSw; go_simp; try with_reducible rfl
        try simp only [Act.put, List.setIfInBounds_toArray, List.set_cons_zero, List.set_cons_succ]
        refine takeH 23 (v := ?vra23) rfl (by kernel_rfl) (by kernel_rfl) (by kernel_rfl) (fun _ _ _ h => h) hH rfl ?yra23 ?rra23
        case yra23 => intro W hSw; go_simp; try with_reducible rfl
        try simp only [Act.put, List.setIfInBounds_toArray, List.set_cons_zero, List.set_cons_succ]
        refine takeH 24 (v := ?vra24) rfl (by kernel_rfl) (by kernel_rfl) (by kernel_rfl) (fun _ _ _ h => h) hH rfl ?yra24 ?rra24
        case yra24 => intro W hSw; go_simp; try with_reducible rfl
        try simp only [Act.put, List.setIfInBounds_toArray, List.set_cons_zero, List.set_cons_succ]
        refine skipH 25 rfl (by kernel_rfl) (by kernel_rfl) (by kernel_rfl) (fun _ _ _ h => h) hH rfl ?_
        try simp only [Act.put, List.setIfInBounds_toArray, List.set_cons_zero, List.set_cons_succ]
        refine takeH 26 (v := ?vra26) rfl (by kernel_rfl) (by kernel_rfl) (by kernel_rfl) (fun _ _ _ h => h) hH rfl ?yra26 ?rra26
        case yra26 => intro W hSw; go_simp; try with_reducible rfl
        try simp only [Act.put, List.setIfInBounds_toArray, List.set_cons_zero, List.set_cons_succ]
        refine takeH 27 (v := ?vra27) rfl (by kernel_rfl) (by kernel_rfl) (by kernel_rfl) (fun _ _ _ h => h) hH rfl ?yra27 ?rra27
        case yra27 => intro W hSw; go_simp; try with_reducible rfl
        try simp only [Act.put, List.setIfInBounds_toArray, List.set_cons_zero, List.set_cons_succ]
        refine takeH 28 (v := ?vra28) rfl (by kernel_rfl) (by kernel_rfl) (by kernel_rfl) (fun _ _ _ h => h) hH rfl ?yra28 ?rra28
        case yra28 => intro W hSw; go_simp; try with_reducible rfl
        try simp only [Act.put, List.setIfInBounds_toArray, List.set_cons_zero, List.set_cons_succ]
        refine takeH 29 (v := ?vra29) rfl (by kernel_rfl) (by kernel_rfl) (by kernel_rfl) (fun _ _ _ h => h) hH rfl ?yra29 ?rra29
        case yra29 => intro W hSw; go_simp; try with_reducible rfl
        try simp only [Act.put, List.setIfInBounds_toArray, List.set_cons_zero, List.set_cons_succ]
        refine wpAnyH_done (by kernel_rfl) ?_ _
        try simp only [Act.put]
        have Hbw := Lib.hid (Hbel.out.trans (hH.1.mono Hbel.out.size))
        have Hend := Lib.hid (Hb5.out.trans (Hbw.out.mono Hb5.out.size))
        clear hH
        go_wp2
        go_ret
        exact ⟨by first | rfl | exact ret_bool (by simp), Hend.out⟩
      · subst hN
        rw [hz]
        obtain ⟨gb, go, rfl, hgb, hat⟩ := Hgrr.out.at (by omega)
        obtain ⟨c0, c1, ⟨p1, s1, c2, i1, _⟩, c3⟩ := hat kk hkk
        have hyl := Hps.out _ (List.getElem_mem hkk)
        have Hsb := Lib.hid hs
        have Hi1 := Lib.hid i1
        have hmax : (if (kk : Int) < 0 then (0 : Int) else kk) = kk := if_neg (by omega)
        have hkz : (kk : Int) < G1.length := by omega
        have hk0 : (0 : Int) ≤ kk := by omega
        have hn0 : ¬ (kk : Int) < 0 := by omega
        have hnd : decide ((kk : Int) < 0) = false := decide_eq_false hn0
        clear hat hz hs i1
        generalize G1[kk] = y at *
        have HSV := Lib.hid (fun W h1 h2 => laws_sameVertex y x p1 pa s1 pc W hyl (by omega) h1 h2)
        rw [Hsb.out] at HSV
        go_wp2_with fail
        refine wp_region_held_drew (S := fun w' => Below wr.heap.size wr w' ∧ w'.cell? ⟨w1.heap.size, 0, none⟩ = some (.int .i64 x.r) ∧ w'.cell? ⟨w1.heap.size, 1, none⟩ = some (.int .i64 x.a) ∧ w'.cell? ⟨w1.heap.size, 2, none⟩ = some (.slice pa x.ps.length pc) ∧ w'.cell? ⟨w1.heap.size, 3, none⟩ = some (.int .i64 x.d) ∧ w'.cell? ⟨gb, go + kk * 4, none⟩ = some (.int .i64 y.r) ∧ w'.cell? ⟨gb, go + kk * 4 + 1, none⟩ = some (.int .i64 y.a) ∧ w'.cell? ⟨gb, go + kk * 4 + 2, none⟩ = some (.slice p1 y.ps.length s1) ∧ w'.cell? ⟨gb, go + kk * 4 + 3, none⟩ = some (.int .i64 y.d)) (by kernel_rfl) ⟨(Below.refl _ _).drew, k0, k1, k2, k3, c0, c1, c2, c3⟩ (fun hH => ?_)
        refine takeH 0 (v := ?vrb0) rfl (by kernel_rfl) (by kernel_rfl) (by kernel_rfl) (fun _ _ _ h => h) hH rfl ?yrb0 ?rrb0
        case yrb0 => intro W hSw; go_simp; try with_reducible rfl
        try simp only [Act.put, List.setIfInBounds_toArray, List.set_cons_zero, List.set_cons_succ]
        refine takeH 1 (v := ?vrb1) rfl (by kernel_rfl) (by kernel_rfl) (by kernel_rfl) (fun _ _ _ h => h) hH rfl ?yrb1 ?rrb1
        case yrb1 => intro W hSw; go_simp; try with_reducible rfl
        try simp only [Act.put, List.setIfInBounds_toArray, List.set_cons_zero, List.set_cons_succ]
        refine callH 2 rfl (by kernel_rfl) rfl (fun K hK => ?_)
        go_simp
        go_at_call 18
        refine (HSGf.out _ (Hgg.out.under hH.1) (Hgrr.out.under hH.1)).mono ?_
        rintro e wx ⟨rfl, hbx⟩
        refine hK.out _ _ ⟨hH.1.trans (hbx.mono hH.1.size), (hbx.cell (p := ⟨w1.heap.size, 0, none⟩) (by simp only; have := hH.1.size; omega)).trans hH.2.1, (hbx.cell (p := ⟨w1.heap.size, 1, none⟩) (by simp only; have := hH.1.size; omega)).trans hH.2.2.1, (hbx.cell (p := ⟨w1.heap.size, 2, none⟩) (by simp only; have := hH.1.size; omega)).trans hH.2.2.2.1, (hbx.cell (p := ⟨w1.heap.size, 3, none⟩) (by simp only; have := hH.1.size; omega)).trans hH.2.2.2.2.1, (hbx.cell (p := ⟨gb, go + kk * 4, none⟩) (by simp only; have := hH.1.size; omega)).trans hH.2.2.2.2.2.1, (hbx.cell (p := ⟨gb, go + kk * 4 + 1, none⟩) (by simp only; have := hH.1.size; omega)).trans hH.2.2.2.2.2.2.1, (hbx.cell (p := ⟨gb, go + kk * 4 + 2, none⟩) (by simp only; have := hH.1.size; omega)).trans hH.2.2.2.2.2.2.2.1, (hbx.cell (p := ⟨gb, go + kk * 4 + 3, none⟩) (by simp only; have := hH.1.size; omega)).trans hH.2.2.2.2.2.2.2.2⟩ (fun hH => ?_)
        clear hK K
        try simp only [Act.put, List.setIfInBounds_toArray, List.set_cons_zero, List.set_cons_succ]
        refine takeH 3 (v := ?vrb3) rfl (by kernel_rfl) (by kernel_rfl) (by kernel_rfl) (fun _ _ _ h => h) hH rfl ?yrb3 ?rrb3
        case yrb3 => intro W hSw; go_simp; try with_reducible rfl
        try simp only [Act.put, List.setIfInBounds_toArray, List.set_cons_zero, List.set_cons_succ]
        refine takeH 4 (v := ?vrb4) rfl (by kernel_rfl) (by kernel_rfl) (by kernel_rfl) (fun _ _ _ h => h) hH rfl ?yrb4 ?rrb4
        case yrb4 => intro W hSw; go_simp; try with_reducible rfl
        try simp only [Act.put, List.setIfInBounds_toArray, List.set_cons_zero, List.set_cons_succ]
        refine takeH 5 (v := ?vrb5) rfl (by kernel_rfl) (by kernel_rfl) (by kernel_rfl) (fun _ _ _ h => h) hH rfl ?yrb5 ?rrb5
        case yrb5 => intro W hSw; go_simp; try with_reducible rfl
        try simp only [Act.put, List.setIfInBounds_toArray, List.set_cons_zero, List.set_cons_succ]
        refine takeH 6 (v := ?vrb6) rfl (by kernel_rfl) (by kernel_rfl) (by kernel_rfl) (fun _ _ _ h => h) hH rfl ?yrb6 ?rrb6
        case yrb6 => intro W hSw; go_simp; try with_reducible rfl
        try simp only [Act.put, List.setIfInBounds_toArray, List.set_cons_zero, List.set_cons_succ]
        refine takeH 7 (v := ?vrb7) rfl (by kernel_rfl) (by kernel_rfl) (by kernel_rfl) (fun _ _ _ h => h) hH rfl ?yrb7 ?rrb7
        case yrb7 => intro W hSw; go_simp; try with_reducible rfl
        try simp only [Act.put, List.setIfInBounds_toArray, List.set_cons_zero, List.set_cons_succ]
        refine takeH 8 (v := ?vrb8) rfl (by kernel_rfl) (by kernel_rfl) (by kernel_rfl) (fun _ _ _ h => h) hH rfl ?yrb8 ?rrb8
        case yrb8 => intro W hSw; go_simp; try with_reducible rfl
        try simp only [Act.put, List.setIfInBounds_toArray, List.set_cons_zero, List.set_cons_succ]
        refine takeH 9 (v := ?vrb9) rfl (by kernel_rfl) (by kernel_rfl) (by kernel_rfl) (fun _ _ _ h => h) hH rfl ?yrb9 ?rrb9
        case yrb9 => intro W hSw; go_simp; try with_reducible rfl
        try simp only [Act.put, List.setIfInBounds_toArray, List.set_cons_zero, List.set_cons_succ]
        refine takeH 10 (v := ?vrb10) rfl (by kernel_rfl) (by kernel_rfl) (by kernel_rfl) (fun _ _ _ h => h) hH rfl ?yrb10 ?rrb10
        case yrb10 => intro W hSw; go_simp; try with_reducible rfl
        try simp only [Act.put, List.setIfInBounds_toArray, List.set_cons_zero, List.set_cons_succ]
        refine takeH 11 (v := ?vrb11) rfl (by kernel_rfl) (by kernel_rfl) (by kernel_rfl) (fun _ _ _ h => h) hH rfl ?yrb11 ?rrb11
        case yrb11 => intro W hSw; go_simp; try with_reducible rfl
        try simp only [Act.put, List.setIfInBounds_toArray, List.set_cons_zero, List.set_cons_succ]
        refine takeH 12 (v := ?vrb12) rfl (by kernel_rfl) (by kernel_rfl) (by kernel_rfl) (fun _ _ _ h => h) hH rfl ?yrb12 ?rrb12
        case yrb12 => intro W hSw; go_simp; try with_reducible rfl
        try simp only [Act.put, List.setIfInBounds_toArray, List.set_cons_zero, List.set_cons_succ]
        refine takeH 13 (v := ?vrb13) rfl (by kernel_rfl) (by kernel_rfl) (by kernel_rfl) (fun _ _ _ h => h) hH rfl ?yrb13 ?rrb13
        case yrb13 => intro W hSw; go_simp; try with_reducible rfl
        try simp only [Act.put, List.setIfInBounds_toArray, List.set_cons_zero, List.set_cons_succ]
        refine takeH 14 (v := ?vrb14) rfl (by kernel_rfl) (by kernel_rfl) (by kernel_rfl) (fun _ _ _ h => h) hH rfl ?yrb14 ?rrb14
        case yrb14 => intro W hSw; go_simp; try with_reducible rfl
        try simp only [Act.put, List.setIfInBounds_toArray, List.set_cons_zero, List.set_cons_succ]
        refine callH 15 rfl (by kernel_rfl) rfl (fun K hK => ?_)
        go_simp
        go_at_call 19
        refine (HSV.out _ (Hi1.out.below hH.1) (Hir.out.below hH.1)).mono ?_
        rintro e wy ⟨rfl, hbx⟩
        refine hK.out _ _ ⟨hH.1.trans (hbx.mono hH.1.size), (hbx.cell (p := ⟨w1.heap.size, 0, none⟩) (by simp only; have := hH.1.size; omega)).trans hH.2.1, (hbx.cell (p := ⟨w1.heap.size, 1, none⟩) (by simp only; have := hH.1.size; omega)).trans hH.2.2.1, (hbx.cell (p := ⟨w1.heap.size, 2, none⟩) (by simp only; have := hH.1.size; omega)).trans hH.2.2.2.1, (hbx.cell (p := ⟨w1.heap.size, 3, none⟩) (by simp only; have := hH.1.size; omega)).trans hH.2.2.2.2.1, (hbx.cell (p := ⟨gb, go + kk * 4, none⟩) (by simp only; have := hH.1.size; omega)).trans hH.2.2.2.2.2.1, (hbx.cell (p := ⟨gb, go + kk * 4 + 1, none⟩) (by simp only; have := hH.1.size; omega)).trans hH.2.2.2.2.2.2.1, (hbx.cell (p := ⟨gb, go + kk * 4 + 2, none⟩) (by simp only; have := hH.1.size; omega)).trans hH.2.2.2.2.2.2.2.1, (hbx.cell (p := ⟨gb, go + kk * 4 + 3, none⟩) (by simp only; have := hH.1.size; omega)).trans hH.2.2.2.2.2.2.2.2⟩ (fun hH => ?_)
        clear hK K
        try simp only [Act.put, List.setIfInBounds_toArray, List.set_cons_zero, List.set_cons_succ]
        refine takeH 16 (v := ?vrb16) rfl (by kernel_rfl) (by kernel_rfl) (by kernel_rfl) (fun _ _ _ h => h) hH rfl ?yrb16 ?rrb16
        case yrb16 => intro W hSw; go_simp; try with_reducible rfl
        try simp only [Act.put, List.setIfInBounds_toArray, List.set_cons_zero, List.set_cons_succ]
        refine takeH 17 (v := ?vrb17) rfl (by kernel_rfl) (by kernel_rfl) (by kernel_rfl) (fun _ _ _ h => h) hH rfl ?yrb17 ?rrb17
        case yrb17 => intro W hSw; go_simp; try with_reducible rfl
        try simp only [Act.put, List.setIfInBounds_toArray, List.set_cons_zero, List.set_cons_succ]
        refine takeH 18 (v := ?vrb18) rfl (by kernel_rfl) (by kernel_rfl) (by kernel_rfl) (fun _ _ _ h => h) hH rfl ?yrb18 ?rrb18
        case yrb18 => intro W hSw; go_simp; try with_reducible rfl
        try simp only [Act.put, List.setIfInBounds_toArray, List.set_cons_zero, List.set_cons_succ]
        refine takeH 19 (v := ?vrb19) rfl (by kernel_rfl) (by kernel_rfl) (by kernel_rfl) (fun _ _ _ h => h) hH rfl ?yrb19 ?rrb19
        case yrb19 => intro W hSw; go_simp; try with_reducible rfl
        try simp only [Act.put, List.setIfInBounds_toArray, List.set_cons_zero, List.set_cons_succ]
        refine takeH 20 (v := ?vrb20) rfl (by kernel_rfl) (by kernel_rfl) (by kernel_rfl) (fun _ _ _ h => h) hH rfl ?yrb20 ?rrb20
        case yrb20 => intro W hSw; go_simp; try with_reducible rfl
        try simp only [Act.put, List.setIfInBounds_toArray, List.set_cons_zero, List.set_cons_succ]
        refine takeH 21 (v := ?vrb21) rfl (by kernel_rfl) (by kernel_rfl) (by kernel_rfl) (fun _ _ _ h => h) hH rfl ?yrb21 ?rrb21
        case yrb21 => intro W hSw; go_simp; try with_reducible rfl
        try simp only [Act.put, List.setIfInBounds_toArray, List.set_cons_zero, List.set_cons_succ]
        refine takeH 22 (v := ?vrb22) rfl (by kernel_rfl) (by kernel_rfl) (by kernel_rfl) (fun _ _ _ h => h) hH rfl ?yrb22 ?rrb22
        case yrb22 => intro W hSw; go_simp; try with_reducible rfl
        try simp only [Act.put, List.setIfInBounds_toArray, List.set_cons_zero, List.set_cons_succ]
        refine takeH 23 (v := ?vrb23) rfl (by kernel_rfl) (by kernel_rfl) (by kernel_rfl) (fun _ _ _ h => h) hH rfl ?yrb23 ?rrb23
        case yrb23 => intro W hSw; go_simp; try with_reducible rfl
        try simp only [Act.put, List.setIfInBounds_toArray, List.set_cons_zero, List.set_cons_succ]
        refine takeH 24 (v := ?vrb24) rfl (by kernel_rfl) (by kernel_rfl) (by kernel_rfl) (fun _ _ _ h => h) hH rfl ?yrb24 ?rrb24
        case yrb24 => intro W hSw; go_simp; try with_reducible rfl
        try simp only [Act.put, List.setIfInBounds_toArray, List.set_cons_zero, List.set_cons_succ]
        refine skipH 25 rfl (by kernel_rfl) (by kernel_rfl) (by kernel_rfl) (fun _ _ _ h => h) hH rfl ?_
        try simp only [Act.put, List.setIfInBounds_toArray, List.set_cons_zero, List.set_cons_succ]
        refine takeH 26 (v := ?vrb26) rfl (by kernel_rfl) (by kernel_rfl) (by kernel_rfl) (fun _ _ _ h => h) hH rfl ?yrb26 ?rrb26
        case yrb26 => intro W hSw; go_simp; try with_reducible rfl
        try simp only [Act.put, List.setIfInBounds_toArray, List.set_cons_zero, List.set_cons_succ]
        refine takeH 27 (v := ?vrb27) rfl (by kernel_rfl) (by kernel_rfl) (by kernel_rfl) (fun _ _ _ h => h) hH rfl ?yrb27 ?rrb27
        case yrb27 => intro W hSw; go_simp; try with_reducible rfl
        try simp only [Act.put, List.setIfInBounds_toArray, List.set_cons_zero, List.set_cons_succ]
        refine takeH 28 (v := ?vrb28) rfl (by kernel_rfl) (by kernel_rfl) (by kernel_rfl) (fun _ _ _ h => h) hH rfl ?yrb28 ?rrb28
        case yrb28 => intro W hSw; go_simp; try with_reducible rfl
        try simp only [Act.put, List.setIfInBounds_toArray, List.set_cons_zero, List.set_cons_succ]
        refine takeH 29 (v := ?vrb29) rfl (by kernel_rfl) (by kernel_rfl) (by kernel_rfl) (fun _ _ _ h => h) hH rfl ?yrb29 ?rrb29
        case yrb29 => intro W hSw; go_simp; try with_reducible rfl
        try simp only [Act.put, List.setIfInBounds_toArray, List.set_cons_zero, List.set_cons_succ]
        refine wpAnyH_done (by kernel_rfl) ?_ _
        try simp only [Act.put]
        have Hbw := Lib.hid (Hbel.out.trans (hH.1.mono Hbel.out.size))
        have Hend := Lib.hid (Hb5.out.trans (Hbw.out.mono Hb5.out.size))
        clear hH
        go_wp2
        go_ret
        exact ⟨by first | rfl | exact ret_bool (by simp), Hend.out⟩
      · subst hN
        rw [hz]
        have hmis : misB G1 x.r x.ps x.ps.length = true := by unfold misB; unfold parB at hp; rw [hp]; rfl
        rw [hmis]
        clear hz hp hmis
        go_wp2_with fail
        refine wp_region_held_drew (S := fun w' => Below wr.heap.size wr w' ∧ w'.cell? ⟨w1.heap.size, 0, none⟩ = some (.int .i64 x.r) ∧ w'.cell? ⟨w1.heap.size, 1, none⟩ = some (.int .i64 x.a) ∧ w'.cell? ⟨w1.heap.size, 2, none⟩ = some (.slice pa x.ps.length pc) ∧ w'.cell? ⟨w1.heap.size, 3, none⟩ = some (.int .i64 x.d)) (by kernel_rfl) ⟨(Below.refl _ _).drew, k0, k1, k2, k3⟩ (fun hH => ?_)
        refine takeH 0 (v := ?vrc0) rfl (by kernel_rfl) (by kernel_rfl) (by kernel_rfl) (fun _ _ _ h => h) hH rfl ?yrc0 ?rrc0
        case yrc0 => intro W hSw; go_simp; try with_reducible rfl
        try simp only [Act.put, List.setIfInBounds_toArray, List.set_cons_zero, List.set_cons_succ]
        refine takeH 1 (v := ?vrc1) rfl (by kernel_rfl) (by kernel_rfl) (by kernel_rfl) (fun _ _ _ h => h) hH rfl ?yrc1 ?rrc1
        case yrc1 => intro W hSw; go_simp; try with_reducible rfl
        try simp only [Act.put, List.setIfInBounds_toArray, List.set_cons_zero, List.set_cons_succ]
        refine callH 2 rfl (by kernel_rfl) rfl (fun K hK => ?_)
        go_simp
        go_at_call 18
        refine (HSGf.out _ (Hgg.out.under hH.1) (Hgrr.out.under hH.1)).mono ?_
        rintro e wx ⟨rfl, hbx⟩
        refine hK.out _ _ ⟨hH.1.trans (hbx.mono hH.1.size), (hbx.cell (p := ⟨w1.heap.size, 0, none⟩) (by simp only; have := hH.1.size; omega)).trans hH.2.1, (hbx.cell (p := ⟨w1.heap.size, 1, none⟩) (by simp only; have := hH.1.size; omega)).trans hH.2.2.1, (hbx.cell (p := ⟨w1.heap.size, 2, none⟩) (by simp only; have := hH.1.size; omega)).trans hH.2.2.2.1, (hbx.cell (p := ⟨w1.heap.size, 3, none⟩) (by simp only; have := hH.1.size; omega)).trans hH.2.2.2.2⟩ (fun hH => ?_)
        clear hK K
        try simp only [Act.put, List.setIfInBounds_toArray, List.set_cons_zero, List.set_cons_succ]
        refine takeH 3 (v := ?vrc3) rfl (by kernel_rfl) (by kernel_rfl) (by kernel_rfl) (fun _ _ _ h => h) hH rfl ?yrc3 ?rrc3
        case yrc3 => intro W hSw; go_simp; try with_reducible rfl
        try simp only [Act.put, List.setIfInBounds_toArray, List.set_cons_zero, List.set_cons_succ]
        refine takeH 4 (v := ?vrc4) rfl (by kernel_rfl) (by kernel_rfl) (by kernel_rfl) (fun _ _ _ h => h) hH rfl ?yrc4 ?rrc4
        case yrc4 => intro W hSw; go_simp; try with_reducible rfl
        try simp only [Act.put, List.setIfInBounds_toArray, List.set_cons_zero, List.set_cons_succ]
        refine takeH 5 (v := ?vrc5) rfl (by kernel_rfl) (by kernel_rfl) (by kernel_rfl) (fun _ _ _ h => h) hH rfl ?yrc5 ?rrc5
        case yrc5 => intro W hSw; go_simp; try with_reducible rfl
        try simp only [Act.put, List.setIfInBounds_toArray, List.set_cons_zero, List.set_cons_succ]
        refine takeH 6 (v := ?vrc6) rfl (by kernel_rfl) (by kernel_rfl) (by kernel_rfl) (fun _ _ _ h => h) hH rfl ?yrc6 ?rrc6
        case yrc6 => intro W hSw; go_simp; try with_reducible rfl
        try simp only [Act.put, List.setIfInBounds_toArray, List.set_cons_zero, List.set_cons_succ]
        refine takeH 7 (v := ?vrc7) rfl (by kernel_rfl) (by kernel_rfl) (by kernel_rfl) (fun _ _ _ h => h) hH rfl ?yrc7 ?rrc7
        case yrc7 => intro W hSw; go_simp; try with_reducible rfl
        try simp only [Act.put, List.setIfInBounds_toArray, List.set_cons_zero, List.set_cons_succ]
        refine takeH 8 (v := ?vrc8) rfl (by kernel_rfl) (by kernel_rfl) (by kernel_rfl) (fun _ _ _ h => h) hH rfl ?yrc8 ?rrc8
        case yrc8 => intro W hSw; go_simp; try with_reducible rfl
        try simp only [Act.put, List.setIfInBounds_toArray, List.set_cons_zero, List.set_cons_succ]
        refine skipH 9 rfl (by kernel_rfl) (by kernel_rfl) (by kernel_rfl) (fun _ _ _ h => h) hH rfl ?_
        try simp only [Act.put, List.setIfInBounds_toArray, List.set_cons_zero, List.set_cons_succ]
        refine skipH 10 rfl (by kernel_rfl) (by kernel_rfl) (by kernel_rfl) (fun _ _ _ h => h) hH rfl ?_
        try simp only [Act.put, List.setIfInBounds_toArray, List.set_cons_zero, List.set_cons_succ]
        refine skipH 11 rfl (by kernel_rfl) (by kernel_rfl) (by kernel_rfl) (fun _ _ _ h => h) hH rfl ?_
        try simp only [Act.put, List.setIfInBounds_toArray, List.set_cons_zero, List.set_cons_succ]
        refine skipH 12 rfl (by kernel_rfl) (by kernel_rfl) (by kernel_rfl) (fun _ _ _ h => h) hH rfl ?_
        try simp only [Act.put, List.setIfInBounds_toArray, List.set_cons_zero, List.set_cons_succ]
        refine skipH 13 rfl (by kernel_rfl) (by kernel_rfl) (by kernel_rfl) (fun _ _ _ h => h) hH rfl ?_
        try simp only [Act.put, List.setIfInBounds_toArray, List.set_cons_zero, List.set_cons_succ]
        refine skipH 14 rfl (by kernel_rfl) (by kernel_rfl) (by kernel_rfl) (fun _ _ _ h => h) hH rfl ?_
        try simp only [Act.put, List.setIfInBounds_toArray, List.set_cons_zero, List.set_cons_succ]
        refine skipH 15 rfl (by kernel_rfl) (by kernel_rfl) (by kernel_rfl) (fun _ _ _ h => h) hH rfl ?_
        try simp only [Act.put, List.setIfInBounds_toArray, List.set_cons_zero, List.set_cons_succ]
        refine takeH 16 (v := ?vrc16) rfl (by kernel_rfl) (by kernel_rfl) (by kernel_rfl) (fun _ _ _ h => h) hH rfl ?yrc16 ?rrc16
        case yrc16 => intro W hSw; go_simp; try with_reducible rfl
        try simp only [Act.put, List.setIfInBounds_toArray, List.set_cons_zero, List.set_cons_succ]
        refine takeH 17 (v := ?vrc17) rfl (by kernel_rfl) (by kernel_rfl) (by kernel_rfl) (fun _ _ _ h => h) hH rfl ?yrc17 ?rrc17
        case yrc17 => intro W hSw; go_simp; try with_reducible rfl
        try simp only [Act.put, List.setIfInBounds_toArray, List.set_cons_zero, List.set_cons_succ]
        refine takeH 18 (v := ?vrc18) rfl (by kernel_rfl) (by kernel_rfl) (by kernel_rfl) (fun _ _ _ h => h) hH rfl ?yrc18 ?rrc18
        case yrc18 => intro W hSw; go_simp; try with_reducible rfl
        try simp only [Act.put, List.setIfInBounds_toArray, List.set_cons_zero, List.set_cons_succ]
        refine takeH 19 (v := ?vrc19) rfl (by kernel_rfl) (by kernel_rfl) (by kernel_rfl) (fun _ _ _ h => h) hH rfl ?yrc19 ?rrc19
        case yrc19 => intro W hSw; go_simp; try with_reducible rfl
        try simp only [Act.put, List.setIfInBounds_toArray, List.set_cons_zero, List.set_cons_succ]
        refine takeH 20 (v := ?vrc20) rfl (by kernel_rfl) (by kernel_rfl) (by kernel_rfl) (fun _ _ _ h => h) hH rfl ?yrc20 ?rrc20
        case yrc20 => intro W hSw; go_simp; try with_reducible rfl
        try simp only [Act.put, List.setIfInBounds_toArray, List.set_cons_zero, List.set_cons_succ]
        refine takeH 21 (v := ?vrc21) rfl (by kernel_rfl) (by kernel_rfl) (by kernel_rfl) (fun _ _ _ h => h) hH rfl ?yrc21 ?rrc21
        case yrc21 => intro W hSw; go_simp; try with_reducible rfl
        try simp only [Act.put, List.setIfInBounds_toArray, List.set_cons_zero, List.set_cons_succ]
        refine takeH 22 (v := ?vrc22) rfl (by kernel_rfl) (by kernel_rfl) (by kernel_rfl) (fun _ _ _ h => h) hH rfl ?yrc22 ?rrc22
        case yrc22 => intro W hSw; go_simp; try with_reducible rfl
        try simp only [Act.put, List.setIfInBounds_toArray, List.set_cons_zero, List.set_cons_succ]
        refine takeH 23 (v := ?vrc23) rfl (by kernel_rfl) (by kernel_rfl) (by kernel_rfl) (fun _ _ _ h => h) hH rfl ?yrc23 ?rrc23
        case yrc23 => intro W hSw; go_simp; try with_reducible rfl
        try simp only [Act.put, List.setIfInBounds_toArray, List.set_cons_zero, List.set_cons_succ]
        refine takeH 24 (v := ?vrc24) rfl (by kernel_rfl) (by kernel_rfl) (by kernel_rfl) (fun _ _ _ h => h) hH rfl ?yrc24 ?rrc24
        case yrc24 => intro W hSw; go_simp; try with_reducible rfl
        try simp only [Act.put, List.setIfInBounds_toArray, List.set_cons_zero, List.set_cons_succ]
        refine takeH 25 (v := ?vrc25) rfl (by kernel_rfl) (by kernel_rfl) (by kernel_rfl) (fun _ _ _ h => h) hH rfl ?yrc25 ?rrc25
        case yrc25 => intro W hSw; go_simp; try with_reducible rfl
        try simp only [Act.put, List.setIfInBounds_toArray, List.set_cons_zero, List.set_cons_succ]
        refine takeH 26 (v := ?vrc26) rfl (by kernel_rfl) (by kernel_rfl) (by kernel_rfl) (fun _ _ _ h => h) hH rfl ?yrc26 ?rrc26
        case yrc26 => intro W hSw; go_simp; try with_reducible rfl
        try simp only [Act.put, List.setIfInBounds_toArray, List.set_cons_zero, List.set_cons_succ]
        refine takeH 27 (v := ?vrc27) rfl (by kernel_rfl) (by kernel_rfl) (by kernel_rfl) (fun _ _ _ h => h) hH rfl ?yrc27 ?rrc27
        case yrc27 => intro W hSw; go_simp; try with_reducible rfl
        try simp only [Act.put, List.setIfInBounds_toArray, List.set_cons_zero, List.set_cons_succ]
        refine takeH 28 (v := ?vrc28) rfl (by kernel_rfl) (by kernel_rfl) (by kernel_rfl) (fun _ _ _ h => h) hH rfl ?yrc28 ?rrc28
        case yrc28 => intro W hSw; go_simp; try with_reducible rfl
        try simp only [Act.put, List.setIfInBounds_toArray, List.set_cons_zero, List.set_cons_succ]
        refine takeH 29 (v := ?vrc29) rfl (by kernel_rfl) (by kernel_rfl) (by kernel_rfl) (fun _ _ _ h => h) hH rfl ?yrc29 ?rrc29
        case yrc29 => intro W hSw; go_simp; try with_reducible rfl
        try simp only [Act.put, List.setIfInBounds_toArray, List.set_cons_zero, List.set_cons_succ]
        refine wpAnyH_done (by kernel_rfl) ?_ _
        try simp only [Act.put]
        have Hbw := Lib.hid (Hbel.out.trans (hH.1.mono Hbel.out.size))
        have Hend := Lib.hid (Hb5.out.trans (Hbw.out.mono Hb5.out.size))
        clear hH
        go_wp2
        go_ret
        exact ⟨by first | rfl | exact ret_bool (by simp), Hend.out⟩

theorem fnGraphAddCodes_own : ownKnob Try.prog.godebug = none := by kernel_rfl
theorem fnGraphAddCodes_laidOut : laidOutB Try.prog = true := by kernel_rfl

theorem fnGraphAddCodes_lifted (os : Os) (started : os.Started) (H : Type) (enc : TypeId × Value → H) :
    ReturnsInHanded {} Try.checked os 5 .any (Rows.fnGraphAddCodesSpec.pre6 enc Try.prog Try.f5 Rows.fnGraphAddCodesRow.domain false) (Rows.fnGraphAddCodesSpec.post enc Try.prog Try.f5 false true false false) := by
  refine law_lifted (C := Try.checked) (tb := 4) fnGraphAddCodes_own fnGraphAddCodes_laidOut started (by kernel_rfl) Try.func5 rfl Try.underlying4 rfl (by rw [Try.params5]; exact of_decide_eq_true (by kernel_rfl)) ?_
    (ChangeSpec.witness6 (enc := enc) (C := Try.checked) false ⟨#[], #[.slice none 0 0], []⟩ 8 (by kernel_rfl) (by kernel_rfl) (by kernel_rfl) (by kernel_rfl)) ?_
  · intro ds hds
    rw [Try.params5] at hds
    match ds, hds with
    | [d0], _ => rfl
  · intro W base args ds p hval0 hA0
    have hval : ∀ (j : Nat) t v, Try.f5.params[j]? = some t → args[j]? = some v → Value.okWide Try.prog W .any base t v := hval0
    have hA : DataW.TrodAll enc Try.prog W 0 (fun _ => true) true Try.f5.params.toList args.toList ds p := hA0
    rw [Try.params5] at hA hval
    obtain ⟨v0, vs0, d0, ds0, p0, q0, hargs0, rfl, rfl, h0, r0⟩ := trodAll_cons hA
    obtain ⟨hnil, rfl, rfl⟩ := trodAll_nil r0
    subst hnil
    obtain rfl : args = #[v0] := by cases args; simp_all
    obtain ⟨a0, cap0, zs0, rfl, hk0, hm0, hi0, hw0⟩ := open_slice_ints Try.underlying22 Try.underlying5 (by kernel_rfl) (hval 0 22 v0 rfl rfl) h0
    exact fnGraphAddCodes_walk a0 cap0 zs0 W hk0 hm0 hi0 hw0

theorem fnGraphAddCodes_holds : Rows.FnGraphAddCodesSaid :=
  OpenClaim.holds_of_wide 5 Try.f5 rfl rfl rfl rfl rfl rfl rfl ⟨rfl, rfl, rfl, rfl, rfl⟩ rfl rfl rfl rfl rfl (by kernel_rfl) Try.func5 (by kernel_rfl)
    (of_decide_eq_true (by kernel_rfl)) (by unfold Func.isWrapper; first | (rw [if_pos (by decide +kernel)]; kernel_rfl) | (rw [if_neg (by decide +kernel)]; exact ⟨rfl, rfl⟩))
    (fun os started H enc _ => fnGraphAddCodes_lifted os started H enc)

end Go.Proofs.Ytejpoeejhmgphaa
