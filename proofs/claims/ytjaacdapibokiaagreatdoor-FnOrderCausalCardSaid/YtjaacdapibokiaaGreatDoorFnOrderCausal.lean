/- Law FnOrderCausal holds for every input; no conditions of our own (its card: the two sentinels of impl are tied to the program's text). -/
import Derived.Test.YtjaacdapibokiaaGreatDoorRows
import Derived.Test.YtjaacdapibokiaaGreatDoorBu0
import Derived.Test.YtjaacdapibokiaaGreatDoorBu1
import Derived.Test.YtjaacdapibokiaaGreatDoorBu2
import Derived.Test.YtjaacdapibokiaaGreatDoorBu5
namespace Go.Proofs.YtjaacdapibokiaaGreatDoor
open Go.ChangeShapes Go.WideShapes Go.ChangeAt Go.RowKit

set_option maxHeartbeats 8000000 in
theorem fnOrderCausal_walk (a : Option Addr) (cap : Nat) (zs : List Int) (w : World) (hk : zs.length ≤ cap) (_hm : zs.length ≤ maxLen) (hi : zs = [] ∨ ∃ b off, a = some ⟨b, off, none⟩ ∧ b < w.heap.size ∧ ∀ j (h : j < zs.length), w.cell? ⟨b, off + j, none⟩ = some (.int .u8 zs[j])) (hw : ∀ z ∈ zs, (Lit.int .u8 z).wf = true) (eN eI : Addr) (hs : Sen w eN eI) :
    Calls Tryz.prog 6 #[.slice a zs.length cap] w fun e w' => e = .returned (.bool true) ∧ Below w.heap.size w w' := by
  by_cases hl : 1048576 < zs.length
  · go_enter Tryz.func6, Tryz.ntmps6
    go_wp2
    go_ret
    exact ⟨rfl, Below.refl _ _⟩
  have hcode := codeAt_of hk (by omega) hi hw
  have Hcode := Lib.hid hcode; clear hcode hi hw
  have Hs := Lib.hid hs; clear hs
  go_enter Tryz.func6, Tryz.ntmps6
  go_wp2_with fail
  refine (spec_DrawOrderSlots a cap zs w Hcode.out).mono ?_
  rintro e w1 ⟨ac, cc, c, vg, g, fp, al, cl, ls, rfl, hoc, hcl, hgr, hfp, hgl, hps, hol, hll, hb1⟩
  have hcc := hoc.cap
  have hlc := hol.cap
  obtain ⟨ag, cg, rfl⟩ := hgr.slice
  have Hps := Lib.hid (show ∀ x ∈ g, x.ps.length ≤ 1099511627776 from fun x hx => Nat.le_trans (hps x hx) (by omega)); clear hps
  have Hb1 := Lib.hid hb1
  have HS := Lib.hid (Hs.out.below hb1)
  have Hc := Lib.hid hoc.at; have Hl := Lib.hid hol.at; have Hg := Lib.hid hgr
  clear hoc hol hgr hb1 hfp Hs
  go_wp2_with fail
  refine (impl_OrderSlots ac cc c g (.slice ag g.length cg) fp al cl ls eN eI w1 (by omega) (by omega) Hps.out (by omega) Hc.out Hg.out Hl.out HS.out).mono ?_
  rintro e w2 ⟨uo, rfl, hoo, hb⟩
  obtain ⟨ao, co, fo, rfl, hcpo, hso⟩ := sls_of hoo
  have Ho := Lib.hid hso
  clear hoo hso
  have Hc := Lib.hid (show IntsAt w2 ac c from Hc.out.below hb)
  have Hl := Lib.hid (show IntsAt w2 al ls from Hl.out.below hb)
  have Hg := Lib.hid (show Gr w2 g (.slice ag g.length cg) fp from Hg.out.under hb)
  have HS := Lib.hid (show Sen w2 eN eI from HS.out.below hb)
  have Hb2 := Lib.hid (below_step Hb1.out Hb1.out.size hb)
  clear hb
  go_wp2_with fail
  refine (spec_OrderSlots ac cc c g (.slice ag g.length cg) fp al cl ls w2 (by omega) (by omega) Hps.out (by omega) Hc.out Hg.out Hl.out).mono ?_
  rintro e w3 ⟨uw, rfl, how, hb⟩
  obtain ⟨aw, cw, fw, rfl, hcpw, hsw⟩ := sls_of how
  have Hw := Lib.hid hsw
  clear how hsw
  have Hc := Lib.hid (show IntsAt w3 ac c from Hc.out.below hb)
  have Hl := Lib.hid (show IntsAt w3 al ls from Hl.out.below hb)
  have Hg := Lib.hid (show Gr w3 g (.slice ag g.length cg) fp from Hg.out.under hb)
  have HS := Lib.hid (show Sen w3 eN eI from HS.out.below hb)
  have Ho := Lib.hid (show Sls w3 (osS c g ls) (.slice ao (osS c g ls).length co) fo from Ho.out.under hb)
  have Hb3 := Lib.hid (below_step Hb2.out Hb2.out.size hb)
  clear hb
  have hO := Nat.le_trans (Nat.le_of_eq (osS_len c g ls)) (osI_len (c := c) (ls := ls) Hps.out)
  have HSS := Lib.hid (laws_sameSlots (osS c g ls) (osS c g ls) ao aw co cw fo fw w3 (by omega) (by omega) Ho.out Hw.out)
  rw [decide_eq_true rfl] at HSS
  go_wp2_with fail
  refine (HSS.out).mono ?_
  rintro e w4 ⟨rfl, hd⟩
  have hb : Below w3.heap.size w3 w4 := hd.below _
  clear hd
  have Hc := Lib.hid (show IntsAt w4 ac c from Hc.out.below hb)
  have Hl := Lib.hid (show IntsAt w4 al ls from Hl.out.below hb)
  have Hg := Lib.hid (show Gr w4 g (.slice ag g.length cg) fp from Hg.out.under hb)
  have HS := Lib.hid (show Sen w4 eN eI from HS.out.below hb)
  have Ho := Lib.hid (show Sls w4 (osS c g ls) (.slice ao (osS c g ls).length co) fo from Ho.out.under hb)
  have Hw := Lib.hid (show Sls w4 (osS c g ls) (.slice aw (osS c g ls).length cw) fw from Hw.out.under hb)
  have Hb4 := Lib.hid (below_step Hb3.out Hb3.out.size hb)
  clear hb
  clear Hw
  have HF := Lib.hid (fun W (hb : Below w4.heap.size w4 W) (r b : Int) => impl_GraphFind' ac cc c g (.slice ag g.length cg) fp r b W (by omega) (by omega) Hps.out (Hc.out.below hb) (Hg.out.under hb))
  have HOn := Lib.hid (fun m => os_causal (c := c) (g := g) (ls := ls) (m := m) Hps.out)
  have HHS := Lib.hid (fun W (l : List Sl) fq (s t : Int) (h : l.length ≤ 281) (hr : Sls W l (.slice ao l.length co) fq) => laws_hasSlot l ao co fq s t W (by omega) hr)
  have hOL : (osS c g ls).length ≤ 281 := by omega
  generalize osS c g ls = OL at *
  go_wp2
  go_loopw [8, 9, 10, 11] (fun i _ _ _ wr => ∃ m : Nat, m ≤ OL.length ∧ i = .int .i64 m ∧ Below w4.heap.size w4 wr) (fun i _ _ _ _ => OL.length - (intOf i).toNat)
  case atStart => exact ⟨0, by omega, rfl, Below.refl _ _⟩
  case round =>
    obtain ⟨m, hm, rfl, hb⟩ := hrel
    have Hbr := Lib.hid hb
    by_cases hlt : m < OL.length
    · have hlt' : (m : Int) < (OL.length : Int) := by omega
      have hmc : (m : Int) ≤ (co : Int) := by omega
      have hmc2 : m ≤ co := by omega
      have Hor := Lib.hid (Ho.out.under hb)
      obtain ⟨fq, hcut⟩ := sl_cut (k := m) Hor.out (by omega)
      have hlen : (OL.take m).length = m := by rw [List.length_take]; omega
      rw [hlen] at hcut
      have Hcut := Lib.hid hcut
      obtain ⟨bo, oo, rfl, hbo, hat⟩ := Hor.out.at (by omega)
      obtain ⟨c0, c1⟩ := hat m hlt
      obtain ⟨j, hj, hgf, hr0, hr30, hcau⟩ := HOn.out m hlt
      obtain ⟨b, off, hag, hbg, hgt⟩ := (Hg.out.under hb).at (by omega)
      subst hag
      obtain ⟨d0, d1, ⟨pa, pc, d2, hpi, _⟩, d3⟩ := hgt j hj
      have hpl := Hps.out _ (List.getElem_mem hj)
      have HFm := Lib.hid (fun W hb => HF.out W hb OL[m].1 OL[m].2)
      rw [hgf] at HFm
      have hjl : (j : Int) < (g.length : Int) := by omega
      have Hcau := Lib.hid hcau
      clear hat hgt hgf hcut hb hcau
      generalize hOT : OL.take m = OT at *
      clear hOT
      generalize OL[m] = x at *
      obtain ⟨xr, xa⟩ := x
      generalize g[j] = y at *
      obtain ⟨yr, ya, yp, yd⟩ := y
      dsimp only at *
      have Hpi := Lib.hid hpi; clear hpi
      have hbw := hbg
      go_wp2_with fail
      refine Code.wp_mono (Q := fun e a' w' => match e with | .normal => ∃ OB : Nat, a' = (?F : Nat → Act) OB ∧ Below wr.heap.size wr w' ∧ Str w' OB 39 #[.int .i64 yr, .int .i64 ya, .slice pa yp.length pc, .int .i64 yd] ∧ wr.heap.size ≤ OB | _ => False) ?hq ?hc
      case hc =>
        refine wp_region_L 17 (fun W => Below wr.heap.size wr W ∧ W.cell? ⟨bo, oo + m * 2, none⟩ = some (.int .i64 xr) ∧ W.cell? ⟨bo, oo + m * 2 + 1, none⟩ = some (.int .i64 xa) ∧ W.cell? ⟨b, off + j * 4, none⟩ = some (.int .i64 yr) ∧ W.cell? ⟨b, off + j * 4 + 1, none⟩ = some (.int .i64 ya) ∧ W.cell? ⟨b, off + j * 4 + 2, none⟩ = some (.slice pa yp.length pc) ∧ W.cell? ⟨b, off + j * 4 + 3, none⟩ = some (.int .i64 yd)) (by kernel_rfl) ⟨(Below.refl _ _).drew, c0, c1, d0, d1, d2, d3⟩ (fun hH => ?_)
        generalize wr.drew = wd at *
        refine takeL 0 (v := ?vca1) rfl (by kernel_rfl) (by kernel_rfl) (by kernel_rfl) (by kernel_rfl) (by kernel_rfl) (fun _ _ _ h => h) hH rfl ?yca1 ?rca1
        case yca1 => intro W hSw; go_simp; try with_reducible rfl
        try simp only [Act.put, List.setIfInBounds_toArray, List.set_cons_zero, List.set_cons_succ]
        refine takeL 1 (v := ?vca2) rfl (by kernel_rfl) (by kernel_rfl) (by kernel_rfl) (by kernel_rfl) (by kernel_rfl) (fun _ _ _ h => h) hH rfl ?yca2 ?rca2
        case yca2 => intro W hSw; go_simp; try with_reducible rfl
        try simp only [Act.put, List.setIfInBounds_toArray, List.set_cons_zero, List.set_cons_succ]
        refine takeL 2 (v := ?vca3) rfl (by kernel_rfl) (by kernel_rfl) (by kernel_rfl) (by kernel_rfl) (by kernel_rfl) (fun _ _ _ h => h) hH rfl ?yca3 ?rca3
        case yca3 => intro W hSw; go_simp; try with_reducible rfl
        try simp only [Act.put, List.setIfInBounds_toArray, List.set_cons_zero, List.set_cons_succ]
        refine takeL 3 (v := ?vca4) rfl (by kernel_rfl) (by kernel_rfl) (by kernel_rfl) (by kernel_rfl) (by kernel_rfl) (fun _ _ _ h => h) hH rfl ?yca4 ?rca4
        case yca4 => intro W hSw; go_simp; try with_reducible rfl
        try simp only [Act.put, List.setIfInBounds_toArray, List.set_cons_zero, List.set_cons_succ]
        refine takeL 4 (v := ?vca5) rfl (by kernel_rfl) (by kernel_rfl) (by kernel_rfl) (by kernel_rfl) (by kernel_rfl) (fun _ _ _ h => h) hH rfl ?yca5 ?rca5
        case yca5 => intro W hSw; go_simp; try with_reducible rfl
        try simp only [Act.put, List.setIfInBounds_toArray, List.set_cons_zero, List.set_cons_succ]
        refine takeL 5 (v := ?vca6) rfl (by kernel_rfl) (by kernel_rfl) (by kernel_rfl) (by kernel_rfl) (by kernel_rfl) (fun _ _ _ h => h) hH rfl ?yca6 ?rca6
        case yca6 => intro W hSw; go_simp; try with_reducible rfl
        try simp only [Act.put, List.setIfInBounds_toArray, List.set_cons_zero, List.set_cons_succ]
        refine takeL 6 (v := ?vca7) rfl (by kernel_rfl) (by kernel_rfl) (by kernel_rfl) (by kernel_rfl) (by kernel_rfl) (fun _ _ _ h => h) hH rfl ?yca7 ?rca7
        case yca7 => intro W hSw; go_simp; try with_reducible rfl
        try simp only [Act.put, List.setIfInBounds_toArray, List.set_cons_zero, List.set_cons_succ]
        refine takeL 7 (v := ?vca8) rfl (by kernel_rfl) (by kernel_rfl) (by kernel_rfl) (by kernel_rfl) (by kernel_rfl) (fun _ _ _ h => h) hH rfl ?yca8 ?rca8
        case yca8 => intro W hSw; go_simp; try with_reducible rfl
        try simp only [Act.put, List.setIfInBounds_toArray, List.set_cons_zero, List.set_cons_succ]
        refine takeL 8 (v := ?vca9) rfl (by kernel_rfl) (by kernel_rfl) (by kernel_rfl) (by kernel_rfl) (by kernel_rfl) (fun _ _ _ h => h) hH rfl ?yca9 ?rca9
        case yca9 => intro W hSw; go_simp; try with_reducible rfl
        try simp only [Act.put, List.setIfInBounds_toArray, List.set_cons_zero, List.set_cons_succ]
        refine takeL 9 (v := ?vca10) rfl (by kernel_rfl) (by kernel_rfl) (by kernel_rfl) (by kernel_rfl) (by kernel_rfl) (fun _ _ _ h => h) hH rfl ?yca10 ?rca10
        case yca10 => intro W hSw; go_simp; try with_reducible rfl
        try simp only [Act.put, List.setIfInBounds_toArray, List.set_cons_zero, List.set_cons_succ]
        refine takeL 10 (v := ?vca11) rfl (by kernel_rfl) (by kernel_rfl) (by kernel_rfl) (by kernel_rfl) (by kernel_rfl) (fun _ _ _ h => h) hH rfl ?yca11 ?rca11
        case yca11 => intro W hSw; go_simp; try with_reducible rfl
        try simp only [Act.put, List.setIfInBounds_toArray, List.set_cons_zero, List.set_cons_succ]
        refine takeL 11 (v := ?vca12) rfl (by kernel_rfl) (by kernel_rfl) (by kernel_rfl) (by kernel_rfl) (by kernel_rfl) (fun _ _ _ h => h) hH rfl ?yca12 ?rca12
        case yca12 => intro W hSw; go_simp; try with_reducible rfl
        try simp only [Act.put, List.setIfInBounds_toArray, List.set_cons_zero, List.set_cons_succ]
        refine takeL 12 (v := ?vca13) rfl (by kernel_rfl) (by kernel_rfl) (by kernel_rfl) (by kernel_rfl) (by kernel_rfl) (fun _ _ _ h => h) hH rfl ?yca13 ?rca13
        case yca13 => intro W hSw; go_simp; try with_reducible rfl
        try simp only [Act.put, List.setIfInBounds_toArray, List.set_cons_zero, List.set_cons_succ]
        refine twoL 13 16 rfl rfl (by kernel_rfl) rfl rfl (fun K hK => ?_) (fun K hK => ?_)
        rotate_left
        · skip
          go_simp
          have hal : Below wd.heap.size wd (wd.alloc (.cells #[.int .i64 0, .int .i64 0, .slice none 0 0, .int .i64 0] 39)) := (Below.refl _ _).alloc (Nat.le_refl _) _
          have sN := Str.new wd 39 #[.int .i64 0, .int .i64 0, .slice none 0 0, .int .i64 0]
          have hbq := below_step hH.1 hH.1.size hal
          have hVB : wr.heap.size ≤ wd.heap.size := hH.1.size
          obtain ⟨VB, hVe⟩ : ∃ VB, VB = wd.heap.size := ⟨_, rfl⟩
          rw [← hVe] at sN hVB ⊢
          clear hVe
          generalize wd.alloc (.cells #[.int .i64 0, .int .i64 0, .slice none 0 0, .int .i64 0] 39) = wa at *
          clear hal
          refine hK.out _ _ ⟨hbq, (Below.cell hbq (p := ⟨bo, oo + m * 2, none⟩) hbo).trans c0, (Below.cell hbq (p := ⟨bo, oo + m * 2 + 1, none⟩) hbo).trans c1, (Below.cell hbq (p := ⟨b, off + j * 4, none⟩) hbg).trans d0, (Below.cell hbq (p := ⟨b, off + j * 4 + 1, none⟩) hbg).trans d1, (Below.cell hbq (p := ⟨b, off + j * 4 + 2, none⟩) hbg).trans d2, (Below.cell hbq (p := ⟨b, off + j * 4 + 3, none⟩) hbg).trans d3⟩ (fun hH => ?_)
          clear hK K hbq
          try simp only [Act.put, List.setIfInBounds_toArray, List.set_cons_zero, List.set_cons_succ]
          refine callL 13 rfl (by kernel_rfl) rfl (fun K hK => ?_)
          go_simp
          go_at_call 14
          refine (HFm.out _ (below_step Hbr.out Hbr.out.size hH.1)).mono ?_
          rintro e wz ⟨rfl, hbz⟩
          have hbq := below_step hH.1 hH.1.size hbz
          have sN : Str wz VB 39 #[.int .i64 0, .int .i64 0, .slice none 0 0, .int .i64 0] := (hbz.block _ sN.lt).trans sN
          refine hK.out _ _ ⟨hbq, (Below.cell hbq (p := ⟨bo, oo + m * 2, none⟩) hbo).trans c0, (Below.cell hbq (p := ⟨bo, oo + m * 2 + 1, none⟩) hbo).trans c1, (Below.cell hbq (p := ⟨b, off + j * 4, none⟩) hbg).trans d0, (Below.cell hbq (p := ⟨b, off + j * 4 + 1, none⟩) hbg).trans d1, (Below.cell hbq (p := ⟨b, off + j * 4 + 2, none⟩) hbg).trans d2, (Below.cell hbq (p := ⟨b, off + j * 4 + 3, none⟩) hbg).trans d3⟩ (fun hH => ?_)
          clear hK K hbq hbz
          try simp only [Act.put, List.setIfInBounds_toArray, List.set_cons_zero, List.set_cons_succ]
          refine takeL 14 (v := ?vca14) rfl (by kernel_rfl) (by kernel_rfl) (by kernel_rfl) (by kernel_rfl) (by kernel_rfl) (fun _ _ _ h => h) hH rfl ?yca14 ?rca14
          case yca14 => intro W hSw; go_simp; try with_reducible rfl
          try simp only [Act.put, List.setIfInBounds_toArray, List.set_cons_zero, List.set_cons_succ]
          refine takeL 15 (v := ?vca15) rfl (by kernel_rfl) (by kernel_rfl) (by kernel_rfl) (by kernel_rfl) (by kernel_rfl) (fun _ _ _ h => h) hH rfl ?yca15 ?rca15
          case yca15 => intro W hSw; go_simp; try with_reducible rfl
          try simp only [Act.put, List.setIfInBounds_toArray, List.set_cons_zero, List.set_cons_succ]
          have y0 := sN.frozen 0
          have y1 := sN.frozen 1
          have y2 := sN.frozen 2
          have y3 := sN.frozen 3
          have g0 := sN.cell 0 (v := .int .i64 0) rfl
          have g1 := sN.cell 1 (v := .int .i64 0) rfl
          have g2 := sN.cell 2 (v := .slice none 0 0) rfl
          have g3 := sN.cell 3 (v := .int .i64 0) rfl
          refine lastL rfl (by kernel_rfl) (by kernel_rfl) (by kernel_rfl) rfl (fun K hK => ?_)
          go_simp
          clear y0 g0 y1 g1 y2 g2 y3 g3
          have hbt : Btw VB (VB + 1) wz ((((wz.setCell ⟨VB, 0, none⟩ (.int .i64 yr)).setCell ⟨VB, 1, none⟩ (.int .i64 ya)).setCell ⟨VB, 2, none⟩ (.slice pa yp.length pc)).setCell ⟨VB, 3, none⟩ (.int .i64 yd)) := ((((Btw.set wz (Nat.le_refl VB) (Nat.lt_succ_self _) 0 (.int .i64 yr)).trans (Btw.set (wz.setCell ⟨VB, 0, none⟩ (.int .i64 yr)) (Nat.le_refl VB) (Nat.lt_succ_self _) 1 (.int .i64 ya))).trans (Btw.set ((wz.setCell ⟨VB, 0, none⟩ (.int .i64 yr)).setCell ⟨VB, 1, none⟩ (.int .i64 ya)) (Nat.le_refl VB) (Nat.lt_succ_self _) 2 (.slice pa yp.length pc))).trans (Btw.set (((wz.setCell ⟨VB, 0, none⟩ (.int .i64 yr)).setCell ⟨VB, 1, none⟩ (.int .i64 ya)).setCell ⟨VB, 2, none⟩ (.slice pa yp.length pc)) (Nat.le_refl VB) (Nat.lt_succ_self _) 3 (.int .i64 yd)))
          have sO : Str ((((wz.setCell ⟨VB, 0, none⟩ (.int .i64 yr)).setCell ⟨VB, 1, none⟩ (.int .i64 ya)).setCell ⟨VB, 2, none⟩ (.slice pa yp.length pc)).setCell ⟨VB, 3, none⟩ (.int .i64 yd)) VB 39 #[.int .i64 yr, .int .i64 ya, .slice pa yp.length pc, .int .i64 yd] := ((((sN.set 0 (.int .i64 yr)).set 1 (.int .i64 ya)).set 2 (.slice pa yp.length pc)).set 3 (.int .i64 yd))
          generalize ((((wz.setCell ⟨VB, 0, none⟩ (.int .i64 yr)).setCell ⟨VB, 1, none⟩ (.int .i64 ya)).setCell ⟨VB, 2, none⟩ (.slice pa yp.length pc)).setCell ⟨VB, 3, none⟩ (.int .i64 yd)) = w9 at *
          have hb9 := hbt.below hH.1 hH.1.size (by omega)
          clear hbt
          refine hK.out _ _ ⟨VB, ?_, hb9, sO, hVB⟩
          rfl
        go_simp
        go_at_call 14
        refine (HFm.out _ (below_step Hbr.out Hbr.out.size hH.1)).mono ?_
        rintro e wz ⟨rfl, hbz⟩
        have hbq := below_step hH.1 hH.1.size hbz
        refine hK.out _ _ ⟨hbq, (Below.cell hbq (p := ⟨bo, oo + m * 2, none⟩) hbo).trans c0, (Below.cell hbq (p := ⟨bo, oo + m * 2 + 1, none⟩) hbo).trans c1, (Below.cell hbq (p := ⟨b, off + j * 4, none⟩) hbg).trans d0, (Below.cell hbq (p := ⟨b, off + j * 4 + 1, none⟩) hbg).trans d1, (Below.cell hbq (p := ⟨b, off + j * 4 + 2, none⟩) hbg).trans d2, (Below.cell hbq (p := ⟨b, off + j * 4 + 3, none⟩) hbg).trans d3⟩ (fun hH => ?_)
        clear hK K hbq hbz
        try simp only [Act.put, List.setIfInBounds_toArray, List.set_cons_zero, List.set_cons_succ]
        refine takeL 14 (v := ?vca16) rfl (by kernel_rfl) (by kernel_rfl) (by kernel_rfl) (by kernel_rfl) (by kernel_rfl) (fun _ _ _ h => h) hH rfl ?yca16 ?rca16
        case yca16 => intro W hSw; go_simp; try with_reducible rfl
        try simp only [Act.put, List.setIfInBounds_toArray, List.set_cons_zero, List.set_cons_succ]
        refine takeL 15 (v := ?vca17) rfl (by kernel_rfl) (by kernel_rfl) (by kernel_rfl) (by kernel_rfl) (by kernel_rfl) (fun _ _ _ h => h) hH rfl ?yca17 ?rca17
        case yca17 => intro W hSw; go_simp; try with_reducible rfl
        try simp only [Act.put, List.setIfInBounds_toArray, List.set_cons_zero, List.set_cons_succ]
        refine callL 16 rfl (by kernel_rfl) rfl (fun K hK => ?_)
        go_simp
        have hal : Below wz.heap.size wz (wz.alloc (.cells #[.int .i64 0, .int .i64 0, .slice none 0 0, .int .i64 0] 39)) := (Below.refl _ _).alloc (Nat.le_refl _) _
        have sN := Str.new wz 39 #[.int .i64 0, .int .i64 0, .slice none 0 0, .int .i64 0]
        have hbq := below_step hH.1 hH.1.size hal
        have hVB : wr.heap.size ≤ wz.heap.size := hH.1.size
        obtain ⟨VB, hVe⟩ : ∃ VB, VB = wz.heap.size := ⟨_, rfl⟩
        rw [← hVe] at sN hVB ⊢
        clear hVe
        generalize wz.alloc (.cells #[.int .i64 0, .int .i64 0, .slice none 0 0, .int .i64 0] 39) = wa at *
        clear hal
        refine hK.out _ _ ⟨hbq, (Below.cell hbq (p := ⟨bo, oo + m * 2, none⟩) hbo).trans c0, (Below.cell hbq (p := ⟨bo, oo + m * 2 + 1, none⟩) hbo).trans c1, (Below.cell hbq (p := ⟨b, off + j * 4, none⟩) hbg).trans d0, (Below.cell hbq (p := ⟨b, off + j * 4 + 1, none⟩) hbg).trans d1, (Below.cell hbq (p := ⟨b, off + j * 4 + 2, none⟩) hbg).trans d2, (Below.cell hbq (p := ⟨b, off + j * 4 + 3, none⟩) hbg).trans d3⟩ (fun hH => ?_)
        clear hK K hbq
        try simp only [Act.put, List.setIfInBounds_toArray, List.set_cons_zero, List.set_cons_succ]
        have y0 := sN.frozen 0
        have y1 := sN.frozen 1
        have y2 := sN.frozen 2
        have y3 := sN.frozen 3
        have g0 := sN.cell 0 (v := .int .i64 0) rfl
        have g1 := sN.cell 1 (v := .int .i64 0) rfl
        have g2 := sN.cell 2 (v := .slice none 0 0) rfl
        have g3 := sN.cell 3 (v := .int .i64 0) rfl
        refine lastL rfl (by kernel_rfl) (by kernel_rfl) (by kernel_rfl) rfl (fun K hK => ?_)
        go_simp
        clear y0 g0 y1 g1 y2 g2 y3 g3
        have hbt : Btw VB (VB + 1) wa ((((wa.setCell ⟨VB, 0, none⟩ (.int .i64 yr)).setCell ⟨VB, 1, none⟩ (.int .i64 ya)).setCell ⟨VB, 2, none⟩ (.slice pa yp.length pc)).setCell ⟨VB, 3, none⟩ (.int .i64 yd)) := ((((Btw.set wa (Nat.le_refl VB) (Nat.lt_succ_self _) 0 (.int .i64 yr)).trans (Btw.set (wa.setCell ⟨VB, 0, none⟩ (.int .i64 yr)) (Nat.le_refl VB) (Nat.lt_succ_self _) 1 (.int .i64 ya))).trans (Btw.set ((wa.setCell ⟨VB, 0, none⟩ (.int .i64 yr)).setCell ⟨VB, 1, none⟩ (.int .i64 ya)) (Nat.le_refl VB) (Nat.lt_succ_self _) 2 (.slice pa yp.length pc))).trans (Btw.set (((wa.setCell ⟨VB, 0, none⟩ (.int .i64 yr)).setCell ⟨VB, 1, none⟩ (.int .i64 ya)).setCell ⟨VB, 2, none⟩ (.slice pa yp.length pc)) (Nat.le_refl VB) (Nat.lt_succ_self _) 3 (.int .i64 yd)))
        have sO : Str ((((wa.setCell ⟨VB, 0, none⟩ (.int .i64 yr)).setCell ⟨VB, 1, none⟩ (.int .i64 ya)).setCell ⟨VB, 2, none⟩ (.slice pa yp.length pc)).setCell ⟨VB, 3, none⟩ (.int .i64 yd)) VB 39 #[.int .i64 yr, .int .i64 ya, .slice pa yp.length pc, .int .i64 yd] := ((((sN.set 0 (.int .i64 yr)).set 1 (.int .i64 ya)).set 2 (.slice pa yp.length pc)).set 3 (.int .i64 yd))
        generalize ((((wa.setCell ⟨VB, 0, none⟩ (.int .i64 yr)).setCell ⟨VB, 1, none⟩ (.int .i64 ya)).setCell ⟨VB, 2, none⟩ (.slice pa yp.length pc)).setCell ⟨VB, 3, none⟩ (.int .i64 yd)) = w9 at *
        have hb9 := hbt.below hH.1 hH.1.size (by omega)
        clear hbt
        refine hK.out _ _ ⟨VB, ?_, hb9, sO, hVB⟩
        rfl
      case hq =>
        intro e a w8 hx
        cases e <;> first | exact hx.elim | skip
        obtain ⟨OB, rfl, hb8, so, hOB⟩ := hx
        have So := Lib.hid so; have Hb8 := Lib.hid hb8
        have Hpi8 := Lib.hid (Hpi.out.below hb8)
        have Ho8 := Lib.hid (Hor.out.under hb8)
        have Hcut8 := Lib.hid (Hcut.out.under hb8)
        have hOBl := so.lt
        clear so hb8 c0 c1 d0 d1 d2 d3
        go_wp2
        go_loopw [10, 11] (fun i _ wr => ∃ q : Nat, q ≤ yp.length ∧ i = .int .i64 q ∧ Below w8.heap.size w8 wr) (fun i _ _ => yp.length - (intOf i).toNat)
        case atStart => exact ⟨0, by omega, rfl, Below.refl _ _⟩
        case round =>
          obtain ⟨q, hq, rfl, hbq⟩ := hrel
          have Hbq := Lib.hid hbq
          have Soq := Lib.hid (show Str wr OB 39 #[.int .i64 yr, .int .i64 ya, .slice pa yp.length pc, .int .i64 yd] from (hbq.block _ hOBl).trans So.out)
          have v2 := Soq.out.cell 2 (v := .slice pa yp.length pc) rfl
          by_cases hlq : q < yp.length
          · have hlq' : (q : Int) < (yp.length : Int) := by omega
            have v0 := Soq.out.cell 0 (v := .int .i64 yr) rfl
            obtain ⟨bp, op, rfl, hbp, hpat⟩ := (Hpi8.out.below hbq).cell (by omega)
            have cq := hpat q hlq
            have hcau := Hcau.out _ (List.getElem_mem hlq)
            have Hcq := Lib.hid hcau
            have Hoq := Lib.hid (Ho8.out.under hbq)
            have Hcutq := Lib.hid (Hcut8.out.under hbq)
            have e1 : IntKind.i64.wrap (yr - 1) = yr - 1 := IntWalk.i64_in _ (by omega)
            clear hpat hcau
            generalize yp[q] = P at *
            clear hbq
            go_wp2_with fail
            have hbd : Below wr.heap.size wr wr.drew := (Below.refl _ _).drew
            refine wp_region_L 10 (fun W => W.cell? ⟨OB, 0, none⟩ = some (.int .i64 yr) ∧ W.cell? ⟨OB, 2, none⟩ = some (.slice (some ⟨bp, op, none⟩) yp.length pc) ∧ W.cell? ⟨bp, op + q, none⟩ = some (.int .i64 P)) (by kernel_rfl) ⟨v0, v2, cq⟩ (fun hH => ?_)
            generalize wr.drew = wd at *
            refine takeL 0 (v := ?vcb1) rfl (by kernel_rfl) (by kernel_rfl) (by kernel_rfl) (by kernel_rfl) (by kernel_rfl) (fun _ _ _ h => h) hH rfl ?ycb1 ?rcb1
            case ycb1 => intro W hSw; go_simp; try with_reducible rfl
            try simp only [Act.put, List.setIfInBounds_toArray, List.set_cons_zero, List.set_cons_succ]
            refine takeL 1 (v := ?vcb2) rfl (by kernel_rfl) (by kernel_rfl) (by kernel_rfl) (by kernel_rfl) (by kernel_rfl) (fun _ _ _ h => h) hH rfl ?ycb2 ?rcb2
            case ycb2 => intro W hSw; go_simp; try with_reducible rfl
            try simp only [Act.put, List.setIfInBounds_toArray, List.set_cons_zero, List.set_cons_succ]
            refine takeL 2 (v := ?vcb3) rfl (by kernel_rfl) (by kernel_rfl) (by kernel_rfl) (by kernel_rfl) (by kernel_rfl) (fun _ _ _ h => h) hH rfl ?ycb3 ?rcb3
            case ycb3 => intro W hSw; go_simp; try with_reducible rfl
            try simp only [Act.put, List.setIfInBounds_toArray, List.set_cons_zero, List.set_cons_succ]
            refine takeL 3 (v := ?vcb4) rfl (by kernel_rfl) (by kernel_rfl) (by kernel_rfl) (by kernel_rfl) (by kernel_rfl) (fun _ _ _ h => h) hH rfl ?ycb4 ?rcb4
            case ycb4 => intro W hSw; go_simp; try with_reducible rfl
            try simp only [Act.put, List.setIfInBounds_toArray, List.set_cons_zero, List.set_cons_succ]
            refine takeL 4 (v := ?vcb5) rfl (by kernel_rfl) (by kernel_rfl) (by kernel_rfl) (by kernel_rfl) (by kernel_rfl) (fun _ _ _ h => h) hH rfl ?ycb5 ?rcb5
            case ycb5 => intro W hSw; go_simp; try with_reducible rfl
            try simp only [Act.put, List.setIfInBounds_toArray, List.set_cons_zero, List.set_cons_succ]
            refine takeL 5 (v := ?vcb6) rfl (by kernel_rfl) (by kernel_rfl) (by kernel_rfl) (by kernel_rfl) (by kernel_rfl) (fun _ _ _ h => h) hH rfl ?ycb6 ?rcb6
            case ycb6 => intro W hSw; go_simp; try with_reducible rfl
            try simp only [Act.put, List.setIfInBounds_toArray, List.set_cons_zero, List.set_cons_succ]
            refine takeL 6 (v := ?vcb7) rfl (by kernel_rfl) (by kernel_rfl) (by kernel_rfl) (by kernel_rfl) (by kernel_rfl) (fun _ _ _ h => h) hH rfl ?ycb7 ?rcb7
            case ycb7 => intro W hSw; go_simp; try with_reducible rfl
            try simp only [Act.put, List.setIfInBounds_toArray, List.set_cons_zero, List.set_cons_succ]
            refine takeL 7 (v := ?vcb8) rfl (by kernel_rfl) (by kernel_rfl) (by kernel_rfl) (by kernel_rfl) (by kernel_rfl) (fun _ _ _ h => h) hH rfl ?ycb8 ?rcb8
            case ycb8 => intro W hSw; go_simp; try with_reducible rfl
            try simp only [Act.put, List.setIfInBounds_toArray, List.set_cons_zero, List.set_cons_succ]
            refine takeL 8 (v := ?vcb9) rfl (by kernel_rfl) (by kernel_rfl) (by kernel_rfl) (by kernel_rfl) (by kernel_rfl) (fun _ _ _ h => h) hH rfl ?ycb9 ?rcb9
            case ycb9 => intro W hSw; go_simp; try with_reducible rfl
            try simp only [Act.put, List.setIfInBounds_toArray, List.set_cons_zero, List.set_cons_succ]
            refine callL 9 rfl (by kernel_rfl) rfl (fun K hK => ?_)
            go_simp
            have hal : Below wr.heap.size wr (wd.alloc (.cells #[.int .i64 0, .int .i64 0] 32)) := below_step hbd hbd.size ((Below.refl _ _).alloc (Nat.le_refl _) _)
            have sN := Str.new wd 32 #[.int .i64 0, .int .i64 0]
            have hSB : wr.heap.size ≤ wd.heap.size := hbd.size
            obtain ⟨SB, hSe⟩ : ∃ SB, SB = wd.heap.size := ⟨_, rfl⟩
            rw [← hSe] at sN hSB ⊢
            clear hSe
            generalize wd.alloc (.cells #[.int .i64 0, .int .i64 0] 32) = wa at *
            refine hK.out _ _ ⟨(hal.cell (p := ⟨OB, 0, none⟩) Soq.out.lt).trans v0, (hal.cell (p := ⟨OB, 2, none⟩) Soq.out.lt).trans v2, (hal.cell (p := ⟨bp, op + q, none⟩) hbp).trans cq⟩ (fun hH => ?_)
            clear hK K
            try simp only [Act.put, List.setIfInBounds_toArray, List.set_cons_zero, List.set_cons_succ]
            have y0 := sN.frozen 0
            have y1 := sN.frozen 1
            have g0 := sN.cell 0 (v := .int .i64 0) rfl
            have g1 := sN.cell 1 (v := .int .i64 0) rfl
            refine lastL rfl (by kernel_rfl) (by kernel_rfl) (by kernel_rfl) rfl (fun K hK => ?_)
            go_simp
            clear y0 y1 g0 g1
            have hbt : Btw SB (SB + 1) wa ((wa.setCell ⟨SB, 0, none⟩ (.int .i64 (yr - 1))).setCell ⟨SB, 1, none⟩ (.int .i64 P)) := ((Btw.set wa (Nat.le_refl SB) (Nat.lt_succ_self _) 0 (.int .i64 (yr - 1))).trans (Btw.set (wa.setCell ⟨SB, 0, none⟩ (.int .i64 (yr - 1))) (Nat.le_refl SB) (Nat.lt_succ_self _) 1 (.int .i64 P)))
            have sO : Str ((wa.setCell ⟨SB, 0, none⟩ (.int .i64 (yr - 1))).setCell ⟨SB, 1, none⟩ (.int .i64 P)) SB 32 #[.int .i64 (yr - 1), .int .i64 P] := ((sN.set 0 (.int .i64 (yr - 1))).set 1 (.int .i64 P))
            generalize ((wa.setCell ⟨SB, 0, none⟩ (.int .i64 (yr - 1))).setCell ⟨SB, 1, none⟩ (.int .i64 P)) = w9 at *
            have hb9 := hbt.below hal hal.size (by omega)
            clear hbt hal hbd
            refine hK.out _ _ ?_
            clear hK K hH v0 v2 cq
            try simp only [Act.put]
            have s0 := sO.cell 0 (v := .int .i64 (yr - 1)) rfl
            have s1 := sO.cell 1 (v := .int .i64 P) rfl
            have hSl := sO.lt
            have Ho9 := Lib.hid (Hoq.out.under hb9)
            have Hcut9 := Lib.hid (Hcutq.out.under hb9)
            have Hb9 := Lib.hid (below_step Hbq.out Hbq.out.size hb9)
            skip
            have HHo := Lib.hid (fun W (hr : Sls W OL (.slice (some ⟨bo, oo, none⟩) OL.length co) fo) => HHS.out W OL fo (yr - 1) P (by omega) hr)
            have HHc := Lib.hid (fun W (hr : Sls W OT (.slice (some ⟨bo, oo, none⟩) m co) fq) => HHS.out W OT fq (yr - 1) P (by omega) (hlen.symm ▸ hr))
            rw [hlen] at HHc
            clear hb9 sO
            by_cases hin : ((yr - 1, P) : Sl) ∈ OL
            · have hin2 := Hcq.out hin
              rw [decide_eq_true hin] at HHo
              rw [decide_eq_true hin2] at HHc
              clear hin hin2
              go_wp2_with fail
              refine wp_region_held_drew (S := fun W => Below w9.heap.size w9 W ∧ W.cell? ⟨SB, 0, none⟩ = some (.int .i64 (yr - 1)) ∧ W.cell? ⟨SB, 1, none⟩ = some (.int .i64 P) ∧ SB < W.heap.size) (by kernel_rfl) ⟨(Below.refl _ _).drew, s0, s1, hSl⟩ (fun hH => ?_)
              refine takeH 0 (v := ?vcc1) rfl (by kernel_rfl) (by kernel_rfl) (by kernel_rfl) (fun _ _ _ h => h) hH rfl ?ycc1 ?rcc1
              case ycc1 => intro W hSw; go_simp; try with_reducible rfl
              try simp only [Act.put, List.setIfInBounds_toArray, List.set_cons_zero, List.set_cons_succ]
              refine takeH 1 (v := ?vcc2) rfl (by kernel_rfl) (by kernel_rfl) (by kernel_rfl) (fun _ _ _ h => h) hH rfl ?ycc2 ?rcc2
              case ycc2 => intro W hSw; go_simp; try with_reducible rfl
              try simp only [Act.put, List.setIfInBounds_toArray, List.set_cons_zero, List.set_cons_succ]
              refine callH 2 rfl (by kernel_rfl) rfl (fun K hK => ?_)
              go_simp
              go_at_call 15
              refine (HHo.out _ (Ho9.out.under hH.1)).mono ?_
              rintro e wz ⟨rfl, hbz⟩
              refine hK.out _ _ ⟨below_step hH.1 hH.1.size hbz, (hbz.cell (p := ⟨SB, 0, none⟩) hH.2.2.2).trans hH.2.1, (hbz.cell (p := ⟨SB, 1, none⟩) hH.2.2.2).trans hH.2.2.1, Nat.lt_of_lt_of_le hH.2.2.2 hbz.size⟩ (fun hH => ?_)
              clear hK K
              try simp only [Act.put, List.setIfInBounds_toArray, List.set_cons_zero, List.set_cons_succ]
              refine takeH 3 (v := ?vcc3) rfl (by kernel_rfl) (by kernel_rfl) (by kernel_rfl) (fun _ _ _ h => h) hH rfl ?ycc3 ?rcc3
              case ycc3 => intro W hSw; go_simp; try with_reducible rfl
              try simp only [Act.put, List.setIfInBounds_toArray, List.set_cons_zero, List.set_cons_succ]
              refine takeH 4 (v := ?vcc4) rfl (by kernel_rfl) (by kernel_rfl) (by kernel_rfl) (fun _ _ _ h => h) hH rfl ?ycc4 ?rcc4
              case ycc4 => intro W hSw; go_simp; try with_reducible rfl
              try simp only [Act.put, List.setIfInBounds_toArray, List.set_cons_zero, List.set_cons_succ]
              refine takeH 5 (v := ?vcc5) rfl (by kernel_rfl) (by kernel_rfl) (by kernel_rfl) (fun _ _ _ h => h) hH rfl ?ycc5 ?rcc5
              case ycc5 => intro W hSw; go_simp; try with_reducible rfl
              try simp only [Act.put, List.setIfInBounds_toArray, List.set_cons_zero, List.set_cons_succ]
              refine takeH 6 (v := ?vcc6) rfl (by kernel_rfl) (by kernel_rfl) (by kernel_rfl) (fun _ _ _ h => h) hH rfl ?ycc6 ?rcc6
              case ycc6 => intro W hSw; go_simp; try with_reducible rfl
              try simp only [Act.put, List.setIfInBounds_toArray, List.set_cons_zero, List.set_cons_succ]
              refine takeH 7 (v := ?vcc7) rfl (by kernel_rfl) (by kernel_rfl) (by kernel_rfl) (fun _ _ _ h => h) hH rfl ?ycc7 ?rcc7
              case ycc7 => intro W hSw; go_simp; try with_reducible rfl
              try simp only [Act.put, List.setIfInBounds_toArray, List.set_cons_zero, List.set_cons_succ]
              refine callH 8 rfl (by kernel_rfl) rfl (fun K hK => ?_)
              go_simp
              go_at_call 15
              refine (HHc.out _ (Hcut9.out.under hH.1)).mono ?_
              rintro e wz ⟨rfl, hbz⟩
              refine hK.out _ _ ⟨below_step hH.1 hH.1.size hbz, (hbz.cell (p := ⟨SB, 0, none⟩) hH.2.2.2).trans hH.2.1, (hbz.cell (p := ⟨SB, 1, none⟩) hH.2.2.2).trans hH.2.2.1, Nat.lt_of_lt_of_le hH.2.2.2 hbz.size⟩ (fun hH => ?_)
              clear hK K
              try simp only [Act.put, List.setIfInBounds_toArray, List.set_cons_zero, List.set_cons_succ]
              refine takeH 9 (v := ?vcc8) rfl (by kernel_rfl) (by kernel_rfl) (by kernel_rfl) (fun _ _ _ h => h) hH rfl ?ycc8 ?rcc8
              case ycc8 => intro W hSw; go_simp; try with_reducible rfl
              try simp only [Act.put, List.setIfInBounds_toArray, List.set_cons_zero, List.set_cons_succ]
              refine takeH 10 (v := ?vcc9) rfl (by kernel_rfl) (by kernel_rfl) (by kernel_rfl) (fun _ _ _ h => h) hH rfl ?ycc9 ?rcc9
              case ycc9 => intro W hSw; go_simp; try with_reducible rfl
              try simp only [Act.put, List.setIfInBounds_toArray, List.set_cons_zero, List.set_cons_succ]
              have Hbz := Lib.hid hH.1
              refine wpAnyH_done (by kernel_rfl) ?_ _
              try simp only [Act.put]
              clear hH s0 s1
              go_wp2
              go_roundw
              case rel => exact ⟨q + 1, by omega, by go_num, below_step Hb9.out Hb9.out.size Hbz.out⟩
              case measure => simp [intOf]; omega
            · rw [decide_eq_false hin] at HHo
              clear hin
              go_wp2_with fail
              refine wp_region_held_drew (S := fun W => Below w9.heap.size w9 W ∧ W.cell? ⟨SB, 0, none⟩ = some (.int .i64 (yr - 1)) ∧ W.cell? ⟨SB, 1, none⟩ = some (.int .i64 P) ∧ SB < W.heap.size) (by kernel_rfl) ⟨(Below.refl _ _).drew, s0, s1, hSl⟩ (fun hH => ?_)
              refine takeH 0 (v := ?vcd1) rfl (by kernel_rfl) (by kernel_rfl) (by kernel_rfl) (fun _ _ _ h => h) hH rfl ?ycd1 ?rcd1
              case ycd1 => intro W hSw; go_simp; try with_reducible rfl
              try simp only [Act.put, List.setIfInBounds_toArray, List.set_cons_zero, List.set_cons_succ]
              refine takeH 1 (v := ?vcd2) rfl (by kernel_rfl) (by kernel_rfl) (by kernel_rfl) (fun _ _ _ h => h) hH rfl ?ycd2 ?rcd2
              case ycd2 => intro W hSw; go_simp; try with_reducible rfl
              try simp only [Act.put, List.setIfInBounds_toArray, List.set_cons_zero, List.set_cons_succ]
              refine callH 2 rfl (by kernel_rfl) rfl (fun K hK => ?_)
              go_simp
              go_at_call 15
              refine (HHo.out _ (Ho9.out.under hH.1)).mono ?_
              rintro e wz ⟨rfl, hbz⟩
              refine hK.out _ _ ⟨below_step hH.1 hH.1.size hbz, (hbz.cell (p := ⟨SB, 0, none⟩) hH.2.2.2).trans hH.2.1, (hbz.cell (p := ⟨SB, 1, none⟩) hH.2.2.2).trans hH.2.2.1, Nat.lt_of_lt_of_le hH.2.2.2 hbz.size⟩ (fun hH => ?_)
              clear hK K
              try simp only [Act.put, List.setIfInBounds_toArray, List.set_cons_zero, List.set_cons_succ]
              refine takeH 3 (v := ?vcd3) rfl (by kernel_rfl) (by kernel_rfl) (by kernel_rfl) (fun _ _ _ h => h) hH rfl ?ycd3 ?rcd3
              case ycd3 => intro W hSw; go_simp; try with_reducible rfl
              try simp only [Act.put, List.setIfInBounds_toArray, List.set_cons_zero, List.set_cons_succ]
              refine skipH 4 rfl (by kernel_rfl) (by kernel_rfl) (by kernel_rfl) (fun _ _ _ h => h) hH rfl ?_
              try simp only [Act.put, List.setIfInBounds_toArray, List.set_cons_zero, List.set_cons_succ]
              refine skipH 5 rfl (by kernel_rfl) (by kernel_rfl) (by kernel_rfl) (fun _ _ _ h => h) hH rfl ?_
              try simp only [Act.put, List.setIfInBounds_toArray, List.set_cons_zero, List.set_cons_succ]
              refine skipH 6 rfl (by kernel_rfl) (by kernel_rfl) (by kernel_rfl) (fun _ _ _ h => h) hH rfl ?_
              try simp only [Act.put, List.setIfInBounds_toArray, List.set_cons_zero, List.set_cons_succ]
              refine skipH 7 rfl (by kernel_rfl) (by kernel_rfl) (by kernel_rfl) (fun _ _ _ h => h) hH rfl ?_
              try simp only [Act.put, List.setIfInBounds_toArray, List.set_cons_zero, List.set_cons_succ]
              refine skipH 8 rfl (by kernel_rfl) (by kernel_rfl) (by kernel_rfl) (fun _ _ _ h => h) hH rfl ?_
              try simp only [Act.put, List.setIfInBounds_toArray, List.set_cons_zero, List.set_cons_succ]
              refine skipH 9 rfl (by kernel_rfl) (by kernel_rfl) (by kernel_rfl) (fun _ _ _ h => h) hH rfl ?_
              try simp only [Act.put, List.setIfInBounds_toArray, List.set_cons_zero, List.set_cons_succ]
              refine takeH 10 (v := ?vcd4) rfl (by kernel_rfl) (by kernel_rfl) (by kernel_rfl) (fun _ _ _ h => h) hH rfl ?ycd4 ?rcd4
              case ycd4 => intro W hSw; go_simp; try with_reducible rfl
              try simp only [Act.put, List.setIfInBounds_toArray, List.set_cons_zero, List.set_cons_succ]
              have Hbz := Lib.hid hH.1
              refine wpAnyH_done (by kernel_rfl) ?_ _
              try simp only [Act.put]
              clear hH s0 s1
              go_wp2
              go_roundw
              case rel => exact ⟨q + 1, by omega, by go_num, below_step Hb9.out Hb9.out.size Hbz.out⟩
              case measure => simp [intOf]; omega
          · clear hbq
            go_wp2
            go_roundw
            case rel => exact ⟨m + 1, by omega, by go_num, below_step Hbr.out Hbr.out.size (below_step Hb8.out Hb8.out.size Hbq.out)⟩
            case measure => simp [intOf]; omega
    · clear hb
      go_wp2
      go_ret
      exact ⟨rfl, below_step Hb4.out Hb4.out.size Hbr.out⟩

theorem fnOrderCausal_own : ownKnob Tryz.prog.godebug = none := by kernel_rfl
theorem fnOrderCausal_laidOut : laidOutB Tryz.prog = true := by kernel_rfl

set_option maxRecDepth 8000 in
theorem fnOrderCausal_lifted (os : Os) (started : os.Started) (H : Type) (enc : TypeId × Value → H) :
    ReturnsInHanded {} Tryz.checked os 6 .any (fun w args => (Rows.fnOrderCausalSpec.pre enc Tryz.prog Tryz.f6 [] false w args ∧ laidMetH Tryz.prog laidE w) ∧ sizedMet enc Tryz.prog Tryz.f6 (OpenSpec.ofChange Rows.fnOrderCausalSpec) false w args) (Rows.fnOrderCausalSpec.post enc Tryz.prog Tryz.f6 false true false false) := by
  refine law_lifted_tied (C := Tryz.checked) (tb := 4) laidE fnOrderCausal_own fnOrderCausal_laidOut started (by kernel_rfl) Tryz.func6 rfl Tryz.underlying4 (by kernel_rfl) (by rw [Tryz.params6]; exact of_decide_eq_true (by kernel_rfl)) ?_
    (ChangeSpec.witness_shaped (enc := enc) (C := Tryz.checked) (os := os) (X := fun w _ => laidMetH Tryz.prog laidE w) false (World.laidAll Tryz.prog os laidE) #[.slice none 0 0] 8 (World.laidAll_os _ _ _) (World.shaped_of_ZipB (by kernel_rfl) (by kernel_rfl)) (by kernel_rfl) (by kernel_rfl) (by kernel_rfl) (laid_witness os _)) ?_
  · intro ds gs hds hgs
    rw [Tryz.params6] at hds
    match ds, hds, gs, hgs with
    | [d0], _, [g0, g1], _ => rfl
  · intro W base args ds p hval0 hA0 hL0
    have hval : ∀ (j : Nat) t v, Tryz.f6.params[j]? = some t → args[j]? = some v → Value.okWide Tryz.prog W .any base t v := hval0
    have hA : DataW.TrodAll enc Tryz.prog W 0 (fun _ => true) true Tryz.f6.params.toList args.toList ds p := hA0
    rw [Tryz.params6] at hA hval
    obtain ⟨v0, vs0, d0, ds0, p0, q0, hargs0, rfl, rfl, h0, r0⟩ := trodAll_cons hA
    obtain ⟨hnil, rfl, rfl⟩ := trodAll_nil r0
    subst hnil
    obtain rfl : args = #[v0] := by cases args; simp_all
    obtain ⟨a0, cap0, zs0, rfl, hk0, hm0, hi0, hw0⟩ := open_slice_ints Tryz.underlying22 Tryz.underlying5 (by kernel_rfl) (hval 0 22 v0 rfl rfl) h0
    obtain ⟨eN, eI, hS⟩ := sen_of hL0
    exact fnOrderCausal_walk a0 cap0 zs0 W hk0 hm0 hi0 hw0 eN eI hS

set_option maxRecDepth 8000 in
theorem fnOrderCausal_holds : Rows.FnOrderCausalSaid :=
  OpenClaim.holds_of_wide 6 Tryz.f6 rfl rfl rfl rfl rfl rfl rfl ⟨rfl, rfl, rfl, rfl, rfl⟩ rfl rfl rfl rfl rfl (by kernel_rfl) Tryz.func6 (by kernel_rfl)
    (of_decide_eq_true (by kernel_rfl)) (by unfold Func.isWrapper; first | (rw [if_pos (by decide +kernel)]; kernel_rfl) | (rw [if_neg (by decide +kernel)]; exact ⟨rfl, rfl⟩))
    (fun os started H enc _ => fnOrderCausal_lifted os started H enc)

theorem fnOrderCausal_card : Rows.FnOrderCausalCardSaid :=
  Claim7.holds_tied_plain_at .later [] _ _ _ _ fnOrderCausal_holds (fun _ h => by cases h) (by kernel_rfl) (fun _ h => by cases h) fnOrderCausal_row_tie rfl ⟨rfl, rfl⟩ (by kernel_rfl) rfl
    (plain_of (f0 := 6) (fn0 := Tryz.f6) (ts := [22]) (by kernel_rfl) Tryz.func6 (by rw [Tryz.params6]) (by kernel_rfl) (by kernel_rfl)) (by kernel_rfl)

end Go.Proofs.YtjaacdapibokiaaGreatDoor
