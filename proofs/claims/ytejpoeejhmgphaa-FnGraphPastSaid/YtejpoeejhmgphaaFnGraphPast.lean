/- Law FnGraphPast holds for every input; no conditions of our own. -/
import Derived.Test.YtejpoeejhmgphaaRows
import Derived.Test.YtejpoeejhmgphaaBase
import Derived.Test.YtejpoeejhmgphaaLift
import Derived.Test.YtejpoeejhmgphaaApp
import Derived.Test.YtejpoeejhmgphaaDt
import Derived.Test.YtejpoeejhmgphaaGvy
import Derived.Test.YtejpoeejhmgphaaGv11
import Derived.Test.YtejpoeejhmgphaaGvi
namespace Go.Proofs.Ytejpoeejhmgphaa
open Go.ChangeShapes Go.WideShapes Go.ChangeAt Go.RowKit

set_option maxHeartbeats 2000000 in
theorem fnGraphPast_walk (a : Option Addr) (cap : Nat) (zs : List Int) (w : World) (hk : zs.length ≤ cap) (_hm : zs.length ≤ maxLen) (hi : zs = [] ∨ ∃ b off, a = some ⟨b, off, none⟩ ∧ b < w.heap.size ∧ ∀ j (h : j < zs.length), w.cell? ⟨b, off + j, none⟩ = some (.int .u8 zs[j])) (hw : ∀ z ∈ zs, (Lit.int .u8 z).wf = true) :
    Calls Try.prog 7 #[.slice a zs.length cap] w fun e w' => e = .returned (.bool true) ∧ Below w.heap.size w w' := by
  by_cases hl : 1048576 < zs.length
  · go_enter Try.func7, Try.ntmps7
    go_wp2
    go_ret
    exact ⟨rfl, Below.refl _ _⟩
  have hcode := codeAt_of hk (by omega) hi hw
  have Hcode := Lib.hid hcode; clear hcode hi hw
  go_enter Try.func7, Try.ntmps7
  go_wp2_with fail
  refine (spec_DrawGraphPast a cap zs w Hcode.out).mono ?_
  rintro e w1 ⟨vc, c, vg, g, fp, r, b, rfl, hoc, hcl, hgr, hfp, hgl, hps, hb1⟩
  have hcc := hoc.cap'
  obtain ⟨ac, cc, rfl, _, _⟩ := hoc.ints
  obtain ⟨ag, cg, rfl⟩ := hgr.slice
  have hcc := hcc _ _ _ rfl
  have Hps := Lib.hid (show ∀ x ∈ g, x.ps.length ≤ 1099511627776 from fun x hx => Nat.le_trans (hps x hx) (by omega))
  have Hps1 := Lib.hid hps; clear hps
  have HI := Lib.hid (impl_GraphPast ac cc c g _ fp r b w1 (by omega) (by omega) Hps.out hcc hoc.at hgr)
  have HS := Lib.hid (fun W h h' => spec_GraphPast ac cc c g (.slice ag g.length cg) fp r b W (by omega) (by omega) Hps.out h h')
  have HF := Lib.hid (fun r b W h h' => impl_GraphFind ac cc c g (.slice ag g.length cg) fp r b W (by omega) (by omega) Hps.out hcc h h')
  have Hoc := Lib.hid hoc; clear hoc
  have Hgr := Lib.hid hgr; clear hgr
  have Hb1 := Lib.hid hb1; clear hb1 hfp
  have hLl := gpZ_len c g r b
  have Hlaw := Lib.hid (fun L hL hne => past_law (c := c) (g := g) (r := r) (b := b) (L := L) hL hne)
  obtain ⟨L, hL⟩ : ∃ L, gpZ c g r b = L := ⟨_, rfl⟩
  rw [hL] at HI HS hLl
  have HL := Lib.hid hL; clear hL
  go_wp2_with fail
  refine HI.out.mono ?_
  rintro e w2 ⟨vo, rfl, hoo, hb2⟩
  obtain ⟨ao, co, rfl, _, _⟩ := hoo.ints
  have Hoc2 := Lib.hid (Hoc.out.below hb2)
  have Hgr2 := Lib.hid (Hgr.out.under hb2)
  have Hoo2 := Lib.hid hoo; clear hoo
  have Hb2 := Lib.hid (below_step Hb1.out Hb1.out.size hb2); clear hb2
  go_wp2_with fail
  refine (HS.out w2 Hoc2.out.at Hgr2.out).mono ?_
  rintro e w3 ⟨vt, rfl, hot, hb3⟩
  obtain ⟨at', ct, rfl, _, _⟩ := hot.ints
  have Hoc3 := Lib.hid (Hoc2.out.below hb3)
  have Hgr3 := Lib.hid (Hgr2.out.under hb3)
  have Hoo3 := Lib.hid (Hoo2.out.below hb3)
  have Hot3 := Lib.hid hot; clear hot
  have Hb3 := Lib.hid (below_step Hb2.out Hb2.out.size hb3); clear hb3
  go_wp2_with fail
  refine (laws_sameInts' ao at' co ct L w3 (by omega) Hoo3.out.at Hot3.out.at).mono ?_
  rintro e w4 ⟨rfl, hd4⟩
  have Hoc4 := Lib.hid (Hoc3.out.below (hd4.below w3.heap.size))
  have Hgr4 := Lib.hid (Hgr3.out.under (hd4.below w3.heap.size))
  have Hoo4 := Lib.hid (Hoo3.out.below (hd4.below w3.heap.size))
  have Hot4 := Lib.hid (Hot3.out.below (hd4.below w3.heap.size))
  have Hb4 := Lib.hid (below_step Hb3.out Hb3.out.size (hd4.below w3.heap.size)); clear hd4
  by_cases h0 : L.length = 0
  · have e0 : ((L.length : Int) == 0) = true := by rw [beq_iff_eq]; omega
    clear h0
    go_wp2_with fail
    refine (laws_sameInts' ao at' co ct L w4 (by omega) Hoo4.out.at Hot4.out.at).mono ?_
    rintro e w5 ⟨rfl, hd5⟩
    have Hb5 := Lib.hid (below_step Hb4.out Hb4.out.size (hd5.below w4.heap.size)); clear hd5
    go_wp2
    go_ret
    exact ⟨by first | rfl | exact ret_bool (by simp), Hb5.out⟩
  have e0 : ((L.length : Int) == 0) = false := by rw [beq_eq_false_iff_ne]; omega
  obtain ⟨hgb, A, hA, hfA, hrow, hasc, hlast⟩ := Hlaw.out L HL.out (by omega)
  have HgfA := Lib.hid (show gfZ c g r b = (A : Int) by unfold gfZ; rw [if_pos hgb, hfA])
  have Hgf := Lib.hid (fun r' p' => show gfZ c g r' p' = findZ g r' p' by unfold gfZ; rw [if_pos hgb])
  have Hrow := Lib.hid hrow; clear hrow
  have Hasc := Lib.hid hasc; clear hasc
  have Hlast := Lib.hid hlast; clear hlast hfA
  have Hvx := Lib.hid (graph_vtx hgb); clear hgb
  have hLpos : 0 < L.length := by omega
  go_wp2
  go_loopw [9] (fun i wr => ∃ i' : Nat, i' ≤ L.length ∧ i = .int .i64 i' ∧ Below w4.heap.size w4 wr) (fun i _ => L.length - (intOf i).toNat)
  case atStart => exact ⟨0, Nat.zero_le _, rfl, Below.refl _ _⟩
  case round =>
    obtain ⟨i, hi, rfl, hbel⟩ := hrel
    have Hbel := Lib.hid hbel; clear hbel
    obtain ⟨bo, oo, rfl, hbo, hcells⟩ := (Hoo4.out.at.below Hbel.out).cell (by omega)
    by_cases hil : i < L.length
    case neg =>
      have q9 := hcells (L.length - 1) (by omega)
      rw [Hlast.out] at q9
      have HF2 := Lib.hid (fun W (h : Below wr.heap.size wr W) => HF.out r b W ((Hoc4.out.at.below Hbel.out).below h) ((Hgr4.out.under Hbel.out).under h))
      rw [HgfA.out] at HF2
      have hw1 : IntKind.i64.wrap ((L.length : Int) - 1) = L.length - 1 := IntWalk.i64_in _ (by omega)
      have e1 : ((L.length : Int) - 1).toNat = L.length - 1 := by omega
      have e2 : 0 ≤ (L.length : Int) - 1 := by omega
      have e3 : 1 ≤ (L.length : Int) := by omega
      have e4 : (L.length : Int) - 1 < L.length := by omega
      have hb0 : Below wr.heap.size wr wr.drew := (Below.refl _ _).drew
      go_wp2_with fail
      refine wp_region_held_drew (S := fun w' => Below wr.heap.size wr w' ∧ w'.cell? ⟨bo, oo + (L.length - 1), none⟩ = some (.int .i64 A)) (by kernel_rfl) ⟨hb0, q9⟩ (fun hH => ?_)
      refine takeH 0 (v := ?vl0) rfl (by kernel_rfl) (by kernel_rfl) (by kernel_rfl) (fun _ _ _ h => h) hH rfl ?yl0 ?rl0
      case yl0 => intro W hSw; go_simp; try with_reducible rfl
      try simp only [Act.put, List.setIfInBounds_toArray, List.set_cons_zero, List.set_cons_succ]
      refine takeH 1 (v := ?vl1) rfl (by kernel_rfl) (by kernel_rfl) (by kernel_rfl) (fun _ _ _ h => h) hH rfl ?yl1 ?rl1
      case yl1 => intro W hSw; go_simp; try with_reducible rfl
      try simp only [Act.put, List.setIfInBounds_toArray, List.set_cons_zero, List.set_cons_succ]
      refine takeH 2 (v := ?vl2) rfl (by kernel_rfl) (by kernel_rfl) (by kernel_rfl) (fun _ _ _ h => h) hH rfl ?yl2 ?rl2
      case yl2 => intro W hSw; go_simp; try with_reducible rfl
      try simp only [Act.put, List.setIfInBounds_toArray, List.set_cons_zero, List.set_cons_succ]
      refine takeH 3 (v := ?vl3) rfl (by kernel_rfl) (by kernel_rfl) (by kernel_rfl) (fun _ _ _ h => h) hH rfl ?yl3 ?rl3
      case yl3 => intro W hSw; go_simp; try with_reducible rfl
      try simp only [Act.put, List.setIfInBounds_toArray, List.set_cons_zero, List.set_cons_succ]
      refine takeH 4 (v := ?vl4) rfl (by kernel_rfl) (by kernel_rfl) (by kernel_rfl) (fun _ _ _ h => h) hH rfl ?yl4 ?rl4
      case yl4 => intro W hSw; go_simp; try with_reducible rfl
      try simp only [Act.put, List.setIfInBounds_toArray, List.set_cons_zero, List.set_cons_succ]
      refine takeH 5 (v := ?vl5) rfl (by kernel_rfl) (by kernel_rfl) (by kernel_rfl) (fun _ _ _ h => h) hH rfl ?yl5 ?rl5
      case yl5 => intro W hSw; go_simp; try with_reducible rfl
      try simp only [Act.put, List.setIfInBounds_toArray, List.set_cons_zero, List.set_cons_succ]
      refine takeH 6 (v := ?vl6) rfl (by kernel_rfl) (by kernel_rfl) (by kernel_rfl) (fun _ _ _ h => h) hH rfl ?yl6 ?rl6
      case yl6 => intro W hSw; go_simp; try with_reducible rfl
      try simp only [Act.put, List.setIfInBounds_toArray, List.set_cons_zero, List.set_cons_succ]
      refine takeH 7 (v := ?vl7) rfl (by kernel_rfl) (by kernel_rfl) (by kernel_rfl) (fun _ _ _ h => h) hH rfl ?yl7 ?rl7
      case yl7 => intro W hSw; go_simp; try with_reducible rfl
      try simp only [Act.put, List.setIfInBounds_toArray, List.set_cons_zero, List.set_cons_succ]
      refine takeH 8 (v := ?vl8) rfl (by kernel_rfl) (by kernel_rfl) (by kernel_rfl) (fun _ _ _ h => h) hH rfl ?yl8 ?rl8
      case yl8 => intro W hSw; go_simp; try with_reducible rfl
      try simp only [Act.put, List.setIfInBounds_toArray, List.set_cons_zero, List.set_cons_succ]
      refine takeH 9 (v := ?vl9) rfl (by kernel_rfl) (by kernel_rfl) (by kernel_rfl) (fun _ _ _ h => h) hH rfl ?yl9 ?rl9
      case yl9 => intro W hSw; go_simp; try with_reducible rfl
      try simp only [Act.put, List.setIfInBounds_toArray, List.set_cons_zero, List.set_cons_succ]
      refine callH 10 rfl (by kernel_rfl) rfl (fun K hK => ?_)
      go_simp
      refine (HF2.out _ hH.1).mono ?_
      rintro e wx ⟨rfl, hbx⟩
      dsimp only
      refine hK.out _ _ ⟨hH.1.trans (hbx.mono hH.1.size), (hbx.cell (p := ⟨bo, oo + (L.length - 1), none⟩) (Nat.lt_of_lt_of_le hbo hH.1.size)).trans hH.2⟩ (fun hH => ?_)
      clear hK K
      try simp only [Act.put, List.setIfInBounds_toArray, List.set_cons_zero, List.set_cons_succ]
      refine takeH 11 (v := ?vl11) rfl (by kernel_rfl) (by kernel_rfl) (by kernel_rfl) (fun _ _ _ h => h) hH rfl ?yl11 ?rl11
      case yl11 => intro W hSw; go_simp; try with_reducible rfl
      try simp only [Act.put, List.setIfInBounds_toArray, List.set_cons_zero, List.set_cons_succ]
      refine takeH 12 (v := ?vl12) rfl (by kernel_rfl) (by kernel_rfl) (by kernel_rfl) (fun _ _ _ h => h) hH rfl ?yl12 ?rl12
      case yl12 => intro W hSw; go_simp; try with_reducible rfl
      try simp only [Act.put, List.setIfInBounds_toArray, List.set_cons_zero, List.set_cons_succ]
      refine wpAnyH_done (by kernel_rfl) ?_ _
      try simp only [Act.put]
      go_wp2
      go_ret
      exact ⟨by first | rfl | exact ret_bool (by simp), Hb4.out.trans ((below_step Hbel.out Hbel.out.size hH.1).mono Hb4.out.size)⟩
    case pos =>
    obtain ⟨m, hm, em, hpar⟩ := Hrow.out i hil
    have qi := hcells i hil
    rw [em] at qi
    have Hpar := Lib.hid hpar; clear hpar
    obtain ⟨gb, go, rfl, _, hat⟩ := (Hgr4.out.under Hbel.out).at (by omega)
    obtain ⟨c0, c1, ⟨pa, pc, c2, i2, _⟩, c3⟩ := hat m hm
    have hrr := vtx_round (Hvx.out _ (List.getElem_mem hm))
    have hpl := Hps1.out _ (List.getElem_mem hm)
    clear hat
    generalize g[m] = x at *
    have hst := Str.new wr 30 #[.int .i64 x.r, .int .i64 x.a, .slice pa x.ps.length pc, .int .i64 x.d]
    have hbA : Below wr.heap.size wr (wr.alloc (.cells #[.int .i64 x.r, .int .i64 x.a, .slice pa x.ps.length pc, .int .i64 x.d] 30)) := (Below.refl _ _).alloc (Nat.le_refl _) _
    have hzA : (wr.alloc (.cells #[.int .i64 x.r, .int .i64 x.a, .slice pa x.ps.length pc, .int .i64 x.d] 30)).heap.size = wr.heap.size + 1 := by simp
    have Hi2 := Lib.hid (i2.below hbA)
    have HbA := Lib.hid (below_step Hbel.out Hbel.out.size hbA)
    have Hst := Lib.hid hst; clear hst i2 hbA
    have hw2 : IntKind.i64.wrap (x.r - 1) = x.r - 1 := IntWalk.i64_in _ (by omega)
    obtain ⟨W9, hW9⟩ : ∃ W9, W9 = wr := ⟨wr, rfl⟩
    subst hW9
    go_wp2
    generalize W9.alloc (.cells #[.int .i64 x.r, .int .i64 x.a, .slice pa x.ps.length pc, .int .i64 x.d] 30) = W0 at *
    have hBl : W9.heap.size < W0.heap.size := by omega
    generalize W9.heap.size = Bv at *
    go_loopw [11] (fun i wr => ∃ k : Nat, k ≤ x.ps.length ∧ i = .int .i64 k ∧ Below W0.heap.size W0 wr) (fun i _ => x.ps.length - (intOf i).toNat)
    case atStart => exact ⟨0, Nat.zero_le _, rfl, Below.refl _ _⟩
    case round =>
      obtain ⟨k, hk, rfl, hbel2⟩ := hrel
      have hball := HbA.out.trans (hbel2.mono HbA.out.size)
      have sx := (hbel2.block _ Hst.out.lt).trans Hst.out
      have k0 := Str.cell sx 0 (v := .int .i64 x.r) rfl
      have k2 := Str.cell sx 2 (v := .slice pa x.ps.length pc) rfl
      have hBW := Nat.lt_of_lt_of_le hBl hbel2.size
      have Hball := Lib.hid hball; clear sx
      have Hbel2 := Lib.hid hbel2; clear hbel2 hball
      by_cases hkl : k < x.ps.length
      · obtain ⟨bp, op, rfl, hpW, hpc⟩ := (Hi2.out.below Hbel2.out).cell (by omega)
        have q3 := hpc k hkl
        obtain ⟨j, hj, ej, hmem⟩ := Hpar.out k hkl
        have HF1 := Lib.hid (fun W (h : Below wr.heap.size wr W) => HF.out (x.r - 1) x.ps[k] W ((Hoc4.out.at.below Hball.out).below h) ((Hgr4.out.under Hball.out).under h))
        rw [Hgf.out, ej] at HF1
        have HH1 := Lib.hid (fun W (h : Below wr.heap.size wr W) => laws_hasInt (some ⟨bo, oo, none⟩) co L (j : Int) W (by omega) ((Hoo4.out.at.below Hball.out).below h))
        rw [show hasB L (j : Int) = true from decide_eq_true hmem] at HH1
        have hb0 : Below wr.heap.size wr wr.drew := (Below.refl _ _).drew
        clear hpc hmem ej
        generalize x.ps[k] = p at *
        obtain ⟨W1, hW1⟩ : ∃ W1, W1 = wr := ⟨wr, rfl⟩
        subst hW1
        go_wp2_with fail
        refine wp_region_held_drew (S := fun w' => Below W1.heap.size W1 w' ∧ w'.cell? ⟨Bv, 0, none⟩ = some (.int .i64 x.r) ∧ w'.cell? ⟨Bv, 2, none⟩ = some (.slice (some ⟨bp, op, none⟩) x.ps.length pc) ∧ w'.cell? ⟨bp, op + k, none⟩ = some (.int .i64 p)) (by kernel_rfl) ⟨hb0, k0, k2, q3⟩ (fun hH => ?_)
        refine takeH 0 (v := ?vi0) rfl (by kernel_rfl) (by kernel_rfl) (by kernel_rfl) (fun _ _ _ h => h) hH rfl ?yi0 ?ri0
        case yi0 => intro W hSw; go_simp; try with_reducible rfl
        try simp only [Act.put, List.setIfInBounds_toArray, List.set_cons_zero, List.set_cons_succ]
        refine takeH 1 (v := ?vi1) rfl (by kernel_rfl) (by kernel_rfl) (by kernel_rfl) (fun _ _ _ h => h) hH rfl ?yi1 ?ri1
        case yi1 => intro W hSw; go_simp; try with_reducible rfl
        try simp only [Act.put, List.setIfInBounds_toArray, List.set_cons_zero, List.set_cons_succ]
        refine takeH 2 (v := ?vi2) rfl (by kernel_rfl) (by kernel_rfl) (by kernel_rfl) (fun _ _ _ h => h) hH rfl ?yi2 ?ri2
        case yi2 => intro W hSw; go_simp; try with_reducible rfl
        try simp only [Act.put, List.setIfInBounds_toArray, List.set_cons_zero, List.set_cons_succ]
        refine takeH 3 (v := ?vi3) rfl (by kernel_rfl) (by kernel_rfl) (by kernel_rfl) (fun _ _ _ h => h) hH rfl ?yi3 ?ri3
        case yi3 => intro W hSw; go_simp; try with_reducible rfl
        try simp only [Act.put, List.setIfInBounds_toArray, List.set_cons_zero, List.set_cons_succ]
        refine takeH 4 (v := ?vi4) rfl (by kernel_rfl) (by kernel_rfl) (by kernel_rfl) (fun _ _ _ h => h) hH rfl ?yi4 ?ri4
        case yi4 => intro W hSw; go_simp; try with_reducible rfl
        try simp only [Act.put, List.setIfInBounds_toArray, List.set_cons_zero, List.set_cons_succ]
        refine takeH 5 (v := ?vi5) rfl (by kernel_rfl) (by kernel_rfl) (by kernel_rfl) (fun _ _ _ h => h) hH rfl ?yi5 ?ri5
        case yi5 => intro W hSw; go_simp; try with_reducible rfl
        try simp only [Act.put, List.setIfInBounds_toArray, List.set_cons_zero, List.set_cons_succ]
        refine takeH 6 (v := ?vi6) rfl (by kernel_rfl) (by kernel_rfl) (by kernel_rfl) (fun _ _ _ h => h) hH rfl ?yi6 ?ri6
        case yi6 => intro W hSw; go_simp; try with_reducible rfl
        try simp only [Act.put, List.setIfInBounds_toArray, List.set_cons_zero, List.set_cons_succ]
        refine takeH 7 (v := ?vi7) rfl (by kernel_rfl) (by kernel_rfl) (by kernel_rfl) (fun _ _ _ h => h) hH rfl ?yi7 ?ri7
        case yi7 => intro W hSw; go_simp; try with_reducible rfl
        try simp only [Act.put, List.setIfInBounds_toArray, List.set_cons_zero, List.set_cons_succ]
        refine takeH 8 (v := ?vi8) rfl (by kernel_rfl) (by kernel_rfl) (by kernel_rfl) (fun _ _ _ h => h) hH rfl ?yi8 ?ri8
        case yi8 => intro W hSw; go_simp; try with_reducible rfl
        try simp only [Act.put, List.setIfInBounds_toArray, List.set_cons_zero, List.set_cons_succ]
        refine takeH 9 (v := ?vi9) rfl (by kernel_rfl) (by kernel_rfl) (by kernel_rfl) (fun _ _ _ h => h) hH rfl ?yi9 ?ri9
        case yi9 => intro W hSw; go_simp; try with_reducible rfl
        try simp only [Act.put, List.setIfInBounds_toArray, List.set_cons_zero, List.set_cons_succ]
        refine takeH 10 (v := ?vi10) rfl (by kernel_rfl) (by kernel_rfl) (by kernel_rfl) (fun _ _ _ h => h) hH rfl ?yi10 ?ri10
        case yi10 => intro W hSw; go_simp; try with_reducible rfl
        try simp only [Act.put, List.setIfInBounds_toArray, List.set_cons_zero, List.set_cons_succ]
        refine callH 11 rfl (by kernel_rfl) rfl (fun K hK => ?_)
        go_simp
        refine (HF1.out _ hH.1).mono ?_
        rintro e wx ⟨rfl, hbx⟩
        dsimp only
        have hbx' := hH.1.trans (hbx.mono hH.1.size)
        refine hK.out _ _ ⟨hbx', (hbx.cell (p := ⟨Bv, 0, none⟩) (Nat.lt_of_lt_of_le hBW hH.1.size)).trans hH.2.1, (hbx.cell (p := ⟨Bv, 2, none⟩) (Nat.lt_of_lt_of_le hBW hH.1.size)).trans hH.2.2.1, (hbx.cell (p := ⟨bp, op + k, none⟩) (Nat.lt_of_lt_of_le hpW hH.1.size)).trans hH.2.2.2⟩ (fun hH => ?_)
        clear hK K
        try simp only [Act.put, List.setIfInBounds_toArray, List.set_cons_zero, List.set_cons_succ]
        refine callH 12 rfl (by kernel_rfl) rfl (fun K hK => ?_)
        go_simp
        refine (HH1.out _ hH.1).mono ?_
        rintro e wy ⟨rfl, rfl⟩
        dsimp only
        refine hK.out _ _ hH (fun hH => ?_)
        clear hK K
        try simp only [Act.put, List.setIfInBounds_toArray, List.set_cons_zero, List.set_cons_succ]
        refine takeH 13 (v := ?vi13) rfl (by kernel_rfl) (by kernel_rfl) (by kernel_rfl) (fun _ _ _ h => h) hH rfl ?yi13 ?ri13
        case yi13 => intro W hSw; go_simp; try with_reducible rfl
        try simp only [Act.put, List.setIfInBounds_toArray, List.set_cons_zero, List.set_cons_succ]
        refine wpAnyH_done (by kernel_rfl) ?_ _
        try simp only [Act.put]
        go_wp2
        go_roundw
        case rel => exact ⟨k + 1, by omega, by go_num, below_step Hbel2.out Hbel2.out.size hH.1⟩
        case measure => simp [intOf]; omega
      · obtain ⟨bo', oo', eo, _, hcl2⟩ := (Hoo4.out.at.below Hball.out).cell (by omega)
        simp only [Option.some.injEq, Addr.mk.injEq, and_true] at eo
        obtain ⟨rfl, rfl⟩ := eo
        clear k0 c0 c1 c2 c3 qi
        by_cases hi0 : i = 0
        · have hgd : decide ((0 : Int) < (i : Int)) = false := decide_eq_false (by omega)
          have hgd' : ¬ (0 : Int) < (i : Int) := by omega
          have hb0 : Below wr.heap.size wr wr.drew := (Below.refl _ _).drew
          have Hi0 := Lib.hid hi0
          clear hcl2 hi0
          go_wp2_with fail
          refine wp_region_held_drew (S := fun w' => Below wr.heap.size wr w') (by kernel_rfl) hb0 (fun hH => ?_)
          refine takeH 0 (v := ?vg0) rfl (by kernel_rfl) (by kernel_rfl) (by kernel_rfl) (fun _ _ _ h => h) hH rfl ?yg0 ?rg0
          case yg0 => intro W hSw; go_simp; try with_reducible rfl
          try simp only [Act.put, List.setIfInBounds_toArray, List.set_cons_zero, List.set_cons_succ]
          refine takeH 1 (v := .bool false) rfl (by kernel_rfl) (by kernel_rfl) (by kernel_rfl) (fun _ _ _ h => h) hH rfl ?yg1 ?rg1
          case yg1 => intro W hSw; go_simp; first | done | simp only [hgd] | omega | (simp; omega)
          try simp only [Act.put, List.setIfInBounds_toArray, List.set_cons_zero, List.set_cons_succ]
          refine takeH 2 (v := ?vg2) rfl (by kernel_rfl) (by kernel_rfl) (by kernel_rfl) (fun _ _ _ h => h) hH rfl ?yg2 ?rg2
          case yg2 => intro W hSw; go_simp; try with_reducible rfl
          try simp only [Act.put, List.setIfInBounds_toArray, List.set_cons_zero, List.set_cons_succ]
          refine skipH 3 rfl (by kernel_rfl) (by kernel_rfl) (by kernel_rfl) (fun _ _ _ h => h) hH rfl ?_
          try simp only [Act.put, List.setIfInBounds_toArray, List.set_cons_zero, List.set_cons_succ]
          refine skipH 4 rfl (by kernel_rfl) (by kernel_rfl) (by kernel_rfl) (fun _ _ _ h => h) hH rfl ?_
          try simp only [Act.put, List.setIfInBounds_toArray, List.set_cons_zero, List.set_cons_succ]
          refine skipH 5 rfl (by kernel_rfl) (by kernel_rfl) (by kernel_rfl) (fun _ _ _ h => h) hH rfl ?_
          try simp only [Act.put, List.setIfInBounds_toArray, List.set_cons_zero, List.set_cons_succ]
          refine skipH 6 rfl (by kernel_rfl) (by kernel_rfl) (by kernel_rfl) (fun _ _ _ h => h) hH rfl ?_
          try simp only [Act.put, List.setIfInBounds_toArray, List.set_cons_zero, List.set_cons_succ]
          refine skipH 7 rfl (by kernel_rfl) (by kernel_rfl) (by kernel_rfl) (fun _ _ _ h => h) hH rfl ?_
          try simp only [Act.put, List.setIfInBounds_toArray, List.set_cons_zero, List.set_cons_succ]
          refine skipH 8 rfl (by kernel_rfl) (by kernel_rfl) (by kernel_rfl) (fun _ _ _ h => h) hH rfl ?_
          try simp only [Act.put, List.setIfInBounds_toArray, List.set_cons_zero, List.set_cons_succ]
          refine skipH 9 rfl (by kernel_rfl) (by kernel_rfl) (by kernel_rfl) (fun _ _ _ h => h) hH rfl ?_
          try simp only [Act.put, List.setIfInBounds_toArray, List.set_cons_zero, List.set_cons_succ]
          refine skipH 10 rfl (by kernel_rfl) (by kernel_rfl) (by kernel_rfl) (fun _ _ _ h => h) hH rfl ?_
          try simp only [Act.put, List.setIfInBounds_toArray, List.set_cons_zero, List.set_cons_succ]
          refine skipH 11 rfl (by kernel_rfl) (by kernel_rfl) (by kernel_rfl) (fun _ _ _ h => h) hH rfl ?_
          try simp only [Act.put, List.setIfInBounds_toArray, List.set_cons_zero, List.set_cons_succ]
          refine skipH 12 rfl (by kernel_rfl) (by kernel_rfl) (by kernel_rfl) (fun _ _ _ h => h) hH rfl ?_
          try simp only [Act.put, List.setIfInBounds_toArray, List.set_cons_zero, List.set_cons_succ]
          refine takeH 13 (v := ?vg13) rfl (by kernel_rfl) (by kernel_rfl) (by kernel_rfl) (fun _ _ _ h => h) hH rfl ?yg13 ?rg13
          case yg13 => intro W hSw; go_simp; try with_reducible rfl
          try simp only [Act.put, List.setIfInBounds_toArray, List.set_cons_zero, List.set_cons_succ]
          refine wpAnyH_done (by kernel_rfl) ?_ _
          try simp only [Act.put]
          go_wp2
          go_roundw
          case rel => exact ⟨i + 1, by omega, by go_num, below_step Hball.out Hball.out.size hH⟩
          case measure => simp [intOf]; omega
        · have hgd : decide ((0 : Int) < (i : Int)) = true := decide_eq_true (by omega)
          have hgd' : (0 : Int) < (i : Int) := by omega
          have q1 := hcl2 (i - 1) (by omega)
          have q2 := hcl2 i hil
          have hlt := Hasc.out i hil (by omega)
          have hdd : decide (L[i] ≤ L[i - 1]) = false := decide_eq_false (by omega)
          have hdd' : ¬ L[i] ≤ L[i - 1] := by omega
          have hw1 : IntKind.i64.wrap ((i : Int) - 1) = i - 1 := IntWalk.i64_in _ (by omega)
          have e1 : ((i : Int) - 1).toNat = i - 1 := by omega
          have e2 : 0 ≤ (i : Int) - 1 := by omega
          have e3 : 1 ≤ (i : Int) := by omega
          have e4 : (i : Int) - 1 < L.length := by omega
          clear hcl2 hlt em
          generalize L[i - 1] = l1 at *
          generalize L[i] = l2 at *
          have hb0 : Below wr.heap.size wr wr.drew := (Below.refl _ _).drew
          go_wp2_with fail
          refine wp_region_held_drew (S := fun w' => Below wr.heap.size wr w' ∧ w'.cell? ⟨bo, oo + (i - 1), none⟩ = some (.int .i64 l1) ∧ w'.cell? ⟨bo, oo + i, none⟩ = some (.int .i64 l2)) (by kernel_rfl) ⟨hb0, q1, q2⟩ (fun hH => ?_)
          refine takeH 0 (v := ?vh0) rfl (by kernel_rfl) (by kernel_rfl) (by kernel_rfl) (fun _ _ _ h => h) hH rfl ?yh0 ?rh0
          case yh0 => intro W hSw; go_simp; try with_reducible rfl
          try simp only [Act.put, List.setIfInBounds_toArray, List.set_cons_zero, List.set_cons_succ]
          refine takeH 1 (v := .bool true) rfl (by kernel_rfl) (by kernel_rfl) (by kernel_rfl) (fun _ _ _ h => h) hH rfl ?yh1 ?rh1
          case yh1 => intro W hSw; go_simp; first | done | simp only [hgd] | omega | (simp; omega)
          try simp only [Act.put, List.setIfInBounds_toArray, List.set_cons_zero, List.set_cons_succ]
          refine takeH 2 (v := ?vh2) rfl (by kernel_rfl) (by kernel_rfl) (by kernel_rfl) (fun _ _ _ h => h) hH rfl ?yh2 ?rh2
          case yh2 => intro W hSw; go_simp; try with_reducible rfl
          try simp only [Act.put, List.setIfInBounds_toArray, List.set_cons_zero, List.set_cons_succ]
          refine takeH 3 (v := ?vh3) rfl (by kernel_rfl) (by kernel_rfl) (by kernel_rfl) (fun _ _ _ h => h) hH rfl ?yh3 ?rh3
          case yh3 => intro W hSw; go_simp; try with_reducible rfl
          try simp only [Act.put, List.setIfInBounds_toArray, List.set_cons_zero, List.set_cons_succ]
          refine takeH 4 (v := ?vh4) rfl (by kernel_rfl) (by kernel_rfl) (by kernel_rfl) (fun _ _ _ h => h) hH rfl ?yh4 ?rh4
          case yh4 => intro W hSw; go_simp; try with_reducible rfl
          try simp only [Act.put, List.setIfInBounds_toArray, List.set_cons_zero, List.set_cons_succ]
          refine takeH 5 (v := ?vh5) rfl (by kernel_rfl) (by kernel_rfl) (by kernel_rfl) (fun _ _ _ h => h) hH rfl ?yh5 ?rh5
          case yh5 => intro W hSw; go_simp; try with_reducible rfl
          try simp only [Act.put, List.setIfInBounds_toArray, List.set_cons_zero, List.set_cons_succ]
          refine takeH 6 (v := ?vh6) rfl (by kernel_rfl) (by kernel_rfl) (by kernel_rfl) (fun _ _ _ h => h) hH rfl ?yh6 ?rh6
          case yh6 => intro W hSw; go_simp; try with_reducible rfl
          try simp only [Act.put, List.setIfInBounds_toArray, List.set_cons_zero, List.set_cons_succ]
          refine takeH 7 (v := ?vh7) rfl (by kernel_rfl) (by kernel_rfl) (by kernel_rfl) (fun _ _ _ h => h) hH rfl ?yh7 ?rh7
          case yh7 => intro W hSw; go_simp; try with_reducible rfl
          try simp only [Act.put, List.setIfInBounds_toArray, List.set_cons_zero, List.set_cons_succ]
          refine takeH 8 (v := ?vh8) rfl (by kernel_rfl) (by kernel_rfl) (by kernel_rfl) (fun _ _ _ h => h) hH rfl ?yh8 ?rh8
          case yh8 => intro W hSw; go_simp; try with_reducible rfl
          try simp only [Act.put, List.setIfInBounds_toArray, List.set_cons_zero, List.set_cons_succ]
          refine takeH 9 (v := ?vh9) rfl (by kernel_rfl) (by kernel_rfl) (by kernel_rfl) (fun _ _ _ h => h) hH rfl ?yh9 ?rh9
          case yh9 => intro W hSw; go_simp; try with_reducible rfl
          try simp only [Act.put, List.setIfInBounds_toArray, List.set_cons_zero, List.set_cons_succ]
          refine takeH 10 (v := ?vh10) rfl (by kernel_rfl) (by kernel_rfl) (by kernel_rfl) (fun _ _ _ h => h) hH rfl ?yh10 ?rh10
          case yh10 => intro W hSw; go_simp; try with_reducible rfl
          try simp only [Act.put, List.setIfInBounds_toArray, List.set_cons_zero, List.set_cons_succ]
          refine takeH 11 (v := ?vh11) rfl (by kernel_rfl) (by kernel_rfl) (by kernel_rfl) (fun _ _ _ h => h) hH rfl ?yh11 ?rh11
          case yh11 => intro W hSw; go_simp; try with_reducible rfl
          try simp only [Act.put, List.setIfInBounds_toArray, List.set_cons_zero, List.set_cons_succ]
          refine takeH 12 (v := .bool false) rfl (by kernel_rfl) (by kernel_rfl) (by kernel_rfl) (fun _ _ _ h => h) hH rfl ?yh12 ?rh12
          case yh12 => intro W hSw; go_simp; first | done | simp only [hdd] | omega | (simp; omega)
          try simp only [Act.put, List.setIfInBounds_toArray, List.set_cons_zero, List.set_cons_succ]
          refine takeH 13 (v := ?vh13) rfl (by kernel_rfl) (by kernel_rfl) (by kernel_rfl) (fun _ _ _ h => h) hH rfl ?yh13 ?rh13
          case yh13 => intro W hSw; go_simp; try with_reducible rfl
          try simp only [Act.put, List.setIfInBounds_toArray, List.set_cons_zero, List.set_cons_succ]
          refine wpAnyH_done (by kernel_rfl) ?_ _
          try simp only [Act.put]
          go_wp2
          go_roundw
          case rel => exact ⟨i + 1, by omega, by go_num, below_step Hball.out Hball.out.size hH.1⟩
          case measure => simp [intOf]; omega

theorem fnGraphPast_own : ownKnob Try.prog.godebug = none := by kernel_rfl
theorem fnGraphPast_laidOut : laidOutB Try.prog = true := by kernel_rfl

theorem fnGraphPast_lifted (os : Os) (started : os.Started) (H : Type) (enc : TypeId × Value → H) :
    ReturnsInHanded {} Try.checked os 7 .any (Rows.fnGraphPastSpec.pre6 enc Try.prog Try.f7 Rows.fnGraphPastRow.domain false) (Rows.fnGraphPastSpec.post enc Try.prog Try.f7 false true false false) := by
  refine law_lifted (C := Try.checked) (tb := 4) fnGraphPast_own fnGraphPast_laidOut started (by kernel_rfl) Try.func7 rfl Try.underlying4 rfl (by rw [Try.params7]; exact of_decide_eq_true (by kernel_rfl)) ?_
    (ChangeSpec.witness6 (enc := enc) (C := Try.checked) false ⟨#[], #[.slice none 0 0], []⟩ 8 (by kernel_rfl) (by kernel_rfl) (by kernel_rfl) (by kernel_rfl)) ?_
  · intro ds hds
    rw [Try.params7] at hds
    match ds, hds with
    | [d0], _ => rfl
  · intro W base args ds p hval0 hA0
    have hval : ∀ (j : Nat) t v, Try.f7.params[j]? = some t → args[j]? = some v → Value.okWide Try.prog W .any base t v := hval0
    have hA : DataW.TrodAll enc Try.prog W 0 (fun _ => true) true Try.f7.params.toList args.toList ds p := hA0
    rw [Try.params7] at hA hval
    obtain ⟨v0, vs0, d0, ds0, p0, q0, hargs0, rfl, rfl, h0, r0⟩ := trodAll_cons hA
    obtain ⟨hnil, rfl, rfl⟩ := trodAll_nil r0
    subst hnil
    obtain rfl : args = #[v0] := by cases args; simp_all
    obtain ⟨a0, cap0, zs0, rfl, hk0, hm0, hi0, hw0⟩ := open_slice_ints Try.underlying22 Try.underlying5 (by kernel_rfl) (hval 0 22 v0 rfl rfl) h0
    exact fnGraphPast_walk a0 cap0 zs0 W hk0 hm0 hi0 hw0

theorem fnGraphPast_holds : Rows.FnGraphPastSaid :=
  OpenClaim.holds_of_wide 7 Try.f7 rfl rfl rfl rfl rfl rfl rfl ⟨rfl, rfl, rfl, rfl, rfl⟩ rfl rfl rfl rfl rfl (by kernel_rfl) Try.func7 (by kernel_rfl)
    (of_decide_eq_true (by kernel_rfl)) (by unfold Func.isWrapper; first | (rw [if_pos (by decide +kernel)]; kernel_rfl) | (rw [if_neg (by decide +kernel)]; exact ⟨rfl, rfl⟩))
    (fun os started H enc _ => fnGraphPast_lifted os started H enc)

end Go.Proofs.Ytejpoeejhmgphaa
