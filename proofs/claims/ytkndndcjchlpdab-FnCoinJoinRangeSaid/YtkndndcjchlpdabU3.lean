/- What spec's elimination finds for a column, by a walk of its text; conditions: as many shards as suffice, with different numbers and one to twelve values each. -/
import Derived.Test.YtkndndcjchlpdabT3
namespace Go.Proofs.Ytkndndcjchlpdab
open Go.RowKit

theorem ints_info : (Try.prog.info? 30).map (fun i => (i.zero, i.size, i.bytes)) = some (some (.slice none 0 0), 1, 24) := by kernel_rfl

theorem own_cell {E : TypeId} {W : World} {B B0 : Nat} {v u : Value} {xs : List Int} (hlt : ∀ g, v.ownBlock = some g → B ≤ g ∧ g < B0) (hB : B ≤ B0) (h : Own E W B0 u xs) : CellsRd W B v.ownBlock [u] [intsD xs] := by
  obtain ⟨fp, hr, hf⟩ := Rd.of_own h
  intro j hj
  match j, hj with
  | 0, _ => exact ⟨u, fp, rfl, hr, fun r hm => ⟨by have := (hf r hm).1; omega, fun e => by have := (hf r hm).1; have := (hlt r e).2; omega⟩⟩

set_option maxRecDepth 8000 in
set_option maxHeartbeats 2000000 in
theorem spec_l3Solve (need cols col : Nat) (L : List Sh) (v : Value) (fp : List Nat) (w : World) (hn1 : 1 ≤ need) (hn8 : need ≤ 8) (hlen : need ≤ L.length) (hL : L.length ≤ 8) (hcol : col < cols) (hc12 : cols ≤ 12) (hok : shsB cols L = true) (hr : Rd w (.l (L.map shardD)) v fp) :
    Calls Try.prog 61 #[.int .i64 (need : Int), v, .int .i64 (col : Int)] w fun e w' => ∃ u, e = .returned u ∧ Own 3 w' w.heap.size u ((List.range need).map fun i => stAt need (eqs0 need (xsOf L) (vsOf L) need) need i (8 + col)) ∧ Below w.heap.size w w' := by
  obtain ⟨a, cap, rfl⟩ := hr.slice
  rw [List.length_map] at *
  obtain ⟨g, off, rfl, hg, hat⟩ := shards_at hr (by omega)
  have Hat := Lib.hid hat; clear hat hr
  have Hok := Lib.hid hok; clear hok
  have hb0 : Below w.heap.size w (w.alloc (.cells #[] 30)) := (Below.refl _ _).alloc (Nat.le_refl _) _
  have hv0 : Bld 30 1 (w.alloc (.cells #[] 30)) w.heap.size (.slice (some ⟨w.heap.size, 0, none⟩) 0 0) (((List.range 0).map fun i => rowE need col (eqOf need (xsOf L i) (vsOf L i))).map fun r => [intsD r]) := .nil (World.ownsRow_made w #[] 0 (Nat.le_refl _) (by simp) (by simp))
  have Hv0 := Lib.hid hv0; clear hv0
  go_enter Try.func61, Try.ntmps61
  go_wp2_with fail
  go_loopw [7, 8] (fun v i wr => ∃ k : Nat, k ≤ need ∧ i = .int .i64 k ∧ Bld 30 1 wr w.heap.size v (((List.range k).map fun i => rowE need col (eqOf need (xsOf L i) (vsOf L i))).map fun r => [intsD r]) ∧ Below w.heap.size w wr) (fun _ i _ => need - (intOf i).toNat)
  case atStart => exact ⟨0, by omega, rfl, Hv0.out, hb0⟩
  case round =>
    obtain ⟨k, hk, rfl, hbld, hbel⟩ := hrel
    obtain ⟨W0, hW0⟩ : ∃ W0, W0 = wr := ⟨_, rfl⟩
    subst hW0
    have Hbld := Lib.hid hbld; clear hbld
    have Hbel := Lib.hid hbel; clear hbel
    by_cases hlt : k < need
    · have hkL : k < L.length := by omega
      obtain ⟨av, cv, C0, C1, I1⟩ := Hat.out k hkL
      have hsh := (shsB_at Hok.out hkL).1
      have hxk : xsOf L k = L[k].1 := by unfold xsOf; rw [getS hkL]
      have hvk : vsOf L k = L[k].2 := by unfold vsOf; rw [getS hkL]
      have Hex := Lib.hid (show ((List.range (k + 1)).map fun i => rowE need col (eqOf need (xsOf L i) (vsOf L i))).map (fun r => [intsD r]) = (((List.range k).map fun i => rowE need col (eqOf need (xsOf L i) (vsOf L i))).map fun r => [intsD r]) ++ [[intsD (((List.range need).map fun j => powF L[k].1 j) ++ [L[k].2.getD col 0])]] by
        rw [List.range_succ, List.map_append, List.map_append]
        simp only [List.map_cons, List.map_nil]
        rw [rowE_eq hn8, hxk, hvk])
      clear hxk hvk
      have hel : (((List.range k).map fun i => rowE need col (eqOf need (xsOf L i) (vsOf L i))).map fun r => [intsD r]).length ≤ 1048576 := by simp; omega
      generalize ((List.range k).map fun i => rowE need col (eqOf need (xsOf L i) (vsOf L i))).map (fun r => [intsD r]) = es at *
      generalize L[k].1 = x at *
      generalize L[k].2 = vs at *
      have Hsh := Lib.hid hsh; clear hsh
      have C0r := Lib.hid ((Hbel.out.cell hg).trans C0); clear C0
      have C1r := Lib.hid ((Hbel.out.cell hg).trans C1); clear C1
      have I1r := Lib.hid (I1.below Hbel.out); clear I1
      have hgr : g < W0.heap.size := Nat.lt_of_lt_of_le hg Hbel.out.size
      have hB := Hbel.out.size
      have Hbw := Lib.hid ((Below.refl W0.heap.size W0).alloc (Nat.le_refl _) (.cells #[] 3))
      have Hv9 := Lib.hid (own_empty 3 W0 (Nat.le_refl _))
      go_wp2_with fail
      go_loopw [9, 10] (fun v i wi => ∃ j : Nat, j ≤ need ∧ i = .int .i64 j ∧ Own 3 wi W0.heap.size v ((List.range j).map fun j => powF x j) ∧ Below W0.heap.size W0 wi) (fun _ i _ => need - (intOf i).toNat)
      case atStart => exact ⟨0, by omega, rfl, Hv9.out, Hbw.out⟩
      case round =>
        obtain ⟨j, hj, rfl, hown, hbi⟩ := hrel
        have hol : ((List.range j).map fun j => powF x j).length ≤ 1099511627776 := by simp; omega
        have Hbi := Lib.hid hbi; clear hbi
        have hB2 := Hbi.out.size
        by_cases hjn : j < need
        · have c0 := (Hbi.out.cell (p := ⟨g, off + k * 2, none⟩) hgr).trans C0r.out
          have Hp := Lib.hid (spec_l3Power x j wr (by have := Hsh.out.1; omega) (by have := Hsh.out.1; omega) (by omega))
          have Hex2 := Lib.hid (show ((List.range (j + 1)).map fun j => powF x j) = ((List.range j).map fun j => powF x j) ++ [powF x j] by rw [List.range_succ, List.map_append]; rfl)
          generalize (List.range j).map (fun j => powF x j) = ps at *
          generalize powF x j = pw at *
          go_wp2_with fail
          refine Hp.out.mono ?_
          rintro e w' ⟨rfl, rfl⟩
          go_wp2_with (at_builtin; refine wpList_push TI3 rfl (.tmp 35) (.tmp 43) rfl W0.heap.size _ ps _ rfl hown hol rfl hB2 ?_; intro v2 w2 hown2 hg2)
          go_roundw
          case rel => exact ⟨j + 1, by omega, by go_num, by rw [Hex2.out]; exact hown2, Hbi.out.grown hg2 hB2 (fun g e => (hown.lt g e).1)⟩
          case measure => simp [intOf]; omega
        · have hje : j = need := by omega
          subst hje
          obtain ⟨W2, hW2⟩ : ∃ W2, W2 = wr := ⟨_, rfl⟩
          subst hW2
          have hvl : vs.length = cols := Hsh.out.2.1
          obtain ⟨b', off', rfl, hb', hcs⟩ := I1r.out.cell (by omega)
          have c1 := (Hbi.out.cell (p := ⟨g, off + k * 2 + 1, none⟩) hgr).trans C1r.out
          have d1 := (Hbi.out.cell (p := ⟨b', off' + col, none⟩) hb').trans (hcs col (by omega))
          rw [getD_get (show col < vs.length by omega)] at Hex
          clear hcs
          have hcv : col < vs.length := by omega
          generalize vs[col] = y at *
          generalize hps : (List.range j).map (fun j => powF x j) = ps at *
          clear hps
          obtain ⟨qs, hqs⟩ : ∃ qs, ps ++ [y] = qs := ⟨_, rfl⟩
          rw [hqs] at Hex
          have Hqs := Lib.hid hqs; clear hqs
          have HC := Lib.hid (fun (W : World) (u : Value) (h : Own 3 W W0.heap.size u qs) => show CellsRd W w.heap.size _ [u] [intsD qs] from own_cell (Hbld.out.lt) hB h)
          have Hb2 := Lib.hid (fun (w2 : World) (h : W2.grownBy w2 _) => Hbi.out.grown h hB2 (fun g e => (hown.lt g e).1))
          have hB3 : w.heap.size ≤ W2.heap.size := Nat.le_trans hB hB2
          go_wp2_with (at_builtin; first
            | (refine wpList_push TI3 rfl (.tmp 46) (.tmp 55) rfl W0.heap.size _ ps _ rfl hown hol rfl hB2 ?_; intro v2 w2 hown2 hg2; rw [Hqs.out] at hown2; obtain ⟨a2, c2, rfl, _, _⟩ := hown2.ints)
            | (refine wpList_push_row (E := 30) Try.underlying88 ints_info rfl (by decide) (by decide) rfl (.tmp 45) (.tmp 57) rfl w.heap.size _ es _ _ _ rfl rfl (by intro u hu; simp at hu; subst hu; rfl) rfl (Hbld.out.under (Hb2.out _ hg2)) rfl (HC.out _ _ hown2) hel rfl (Nat.le_trans hB (Hb2.out _ hg2).size) ?_; intro v8 w8 hbld8 hg8 hat8))
          go_roundw
          case rel => exact ⟨k + 1, by omega, by go_num, by rw [Hex.out]; exact hbld8, (below_step Hbel.out hB (Hb2.out _ hg2)).grown hg8 (Nat.le_trans hB (Hb2.out _ hg2).size) (fun g e => (Hbld.out.lt g e).1)⟩
          case measure => simp [intOf]; omega
    · have hke : k = need := by omega
      subst hke
      obtain ⟨a7, c7, rfl, _⟩ := Hbld.out.slice
      obtain ⟨hn7, hc7, g7, rfl, hrws⟩ := rws_of_bld Hbld.out (by simp; omega) (by intro r hr; simp only [List.mem_map] at hr; obtain ⟨i, _, rfl⟩ := hr; rw [rowE_len]; omega)
      have hrl : ((List.range k).map fun i => rowE k col (eqOf k (xsOf L i) (vsOf L i))).length = k := by simp
      rw [List.length_map, hrl]
      rw [hrl] at hrws hc7
      have hxs := xs_nz Hok.out
      have hsb : ∀ i, i < k → ∀ y ∈ vsOf L i, 0 ≤ y ∧ y ≤ 250 := fun i hi => by
        have := (shsB_at Hok.out (show i < L.length by omega)).1.2.2
        unfold vsOf; rw [getS (by omega)]; exact this
      have HBd := Lib.hid (stAt_bd (eqs0_bd (need := k) (xs := xsOf L) hsb) k)
      have Hpiv := Lib.hid (fun p (hp : p < k) => pivot_nz (need := k) hn8 (vs := vsOf L) (fun i j hi hj => hxs i j (by omega) hj) p hp (inv_b (eqs0_bd hsb) (pivot_nz hn8 (fun i j hi hj => hxs i j (by omega) hj)) p (by omega)))
      have hrws := hrws.congr (F' := fun i => rowE k col (eqs0 k (xsOf L) (vsOf L) k i)) (fun i hi => by rw [eqs0_at hi]; simp [List.getD, hi])
      clear hsb hxs hn7 hrl
      generalize hS0 : eqs0 k (xsOf L) (vsOf L) k = S0 at *
      have HS0 := Lib.hid hS0; clear hS0
      have Hrws := Lib.hid hrws; clear hrws Hbld
      go_wp2
      go_loopw [11] (fun i wr => ∃ p : Nat, p ≤ k ∧ i = .int .i64 p ∧ Rws 30 wr w.heap.size g7 k (fun i => rowE k col (stAt k S0 p i)) ∧ Below w.heap.size w wr) (fun i _ => k - (intOf i).toNat)
      case atStart => exact ⟨0, by omega, rfl, Hrws.out, Hbel.out⟩
      case round =>
        clear Hrws Hbel
        obtain ⟨p, hp, rfl, hrws, hbel⟩ := hrel
        obtain ⟨W1, hW1⟩ : ∃ W1, W1 = wr := ⟨_, rfl⟩
        subst hW1
        have Hrws := Lib.hid hrws; clear hrws
        have Hbel := Lib.hid hbel; clear hbel
        by_cases hpk : p < k
        · have hT : ∀ i c, 0 ≤ stAt k S0 p i c ∧ stAt k S0 p i c ≤ 250 := HBd.out p
          have hpv := Hpiv.out p hpk
          have Hst := Lib.hid (show stAt k S0 (p + 1) = elimTo (stAt k S0 p) p k from rfl)
          generalize stAt k S0 p = T at *
          obtain ⟨b, off1, c1, D, hb1, hb2, hb3, hcs⟩ := Hrws.out.at hpk
          have hpp := hcs p (by rw [rowE_len]; omega)
          rw [rowE_get, show colE k col (T p) p = T p p by unfold colE; rw [if_pos hpk]] at hpp
          rw [rowE_len] at D
          have Hcs := Lib.hid hcs; clear hcs
          have hfr := Hrws.out.frozen p
          have hne : (T p p == 0) = false := by simpa using hpv
          have hp1 : (p : Int) < (k : Int) + 1 := by omega
          go_wp2_with fail
          refine wp_loop_rounds 1 ?_
          rw [rounds_succ]
          go_wp2_with fail
          have hrw2 := Hrws.out.set hpk (c := c1) hb1 hb2 hb3 Hcs.out
          rw [rowE_len] at hrw2
          have hrw2 := hrw2.congr (F' := fun i => rowE k col (T i)) (fun i _ => by by_cases e : i = p <;> simp [e])
          have hbel2 := Hbel.out.setCell (p := ⟨g7, p, none⟩) Hrws.out.lo (.slice (some ⟨b, off1, none⟩) (k + 1) c1)
          have hcs2 : ∀ j (h : j < k + 1), (W1.setCell ⟨g7, p, none⟩ (.slice (some ⟨b, off1, none⟩) (k + 1) c1)).cell? ⟨b, off1 + j, none⟩ = some (.int .i64 (colE k col (T p) j)) := fun j hj => by
            have hj' : j < (rowE k col (T p)).length := by rw [rowE_len]; exact hj
            have := (grownBy_set W1 g7 p (.slice (some ⟨b, off1, none⟩) (k + 1) c1)).cell (Hcs.out j hj') (by simpa using hb2)
            rwa [rowE_get] at this
          have hbW : b < (W1.setCell ⟨g7, p, none⟩ (.slice (some ⟨b, off1, none⟩) (k + 1) c1)).heap.size := by simpa [World.setCell] using hb3
          clear Hcs Hrws Hbel D hpp hfr hb3
          generalize W1.setCell ⟨g7, p, none⟩ (.slice (some ⟨b, off1, none⟩) (k + 1) c1) = W2 at *
          have Hrw2 := Lib.hid hrw2; clear hrw2
          have Hbel2 := Lib.hid hbel2; clear hbel2
          have hpp2 := hcs2 p (by omega)
          rw [show colE k col (T p) p = T p p by unfold colE; rw [if_pos hpk]] at hpp2
          obtain ⟨n249, hn249⟩ : ∃ m : Nat, m = 249 := ⟨_, rfl⟩
          have hpw := spec_l3Power (T p p) n249 W2 (hT p p).1 (hT p p).2 (by omega)
          rw [show powF (T p p) n249 = invZ (T p p) by rw [hn249]; rfl, show (n249 : Int) = 249 by omega] at hpw
          clear hn249
          have hib : 0 ≤ invZ (T p p) ∧ invZ (T p p) ≤ 250 := powF_bd _ _
          have Hpw := Lib.hid hpw; clear hpw
          have Hcs2 := Lib.hid hcs2; clear hcs2
          have HT := Lib.hid hT; clear hT
          have Hel0 := Lib.hid (elimC_zero T p)
          have HES := Lib.hid (fun m (h : m ≠ p) => elimC_step (S := T) (p := p) (m := m) h)
          have HR := Lib.hid (fun j => colE_tms k col (T p) (invZ (T p p)) j)
          generalize invZ (T p p) = iv at *
          refine Hpw.out.mono ?_
          rintro e W2 ⟨rfl, rfl⟩
          go_wp2_with fail
          have hB2 := Hbel2.out.size
          have Hv15 := Lib.hid (own_empty 3 W2 (Nat.le_refl _))
          have Hb15 := Lib.hid ((Below.refl W2.heap.size W2).alloc (Nat.le_refl _) (.cells #[] 3))
          go_loopw [15, 16] (fun v i wi => ∃ j : Nat, j ≤ k + 1 ∧ i = .int .i64 j ∧ Own 3 wi W2.heap.size v ((List.range j).map fun c => colE k col (tmsE (T p) iv) c) ∧ Below W2.heap.size W2 wi) (fun _ i _ => k + 1 - (intOf i).toNat)
          case atStart => exact ⟨0, by omega, rfl, Hv15.out, Hb15.out⟩
          case round =>
            clear Hv15 Hb15
            obtain ⟨j, hj, rfl, hown, hbi⟩ := hrel
            have hol : ((List.range j).map fun c => colE k col (tmsE (T p) iv) c).length ≤ 1099511627776 := by simp; omega
            have Hbi := Lib.hid hbi; clear hbi
            have hB3 := Hbi.out.size
            by_cases hjk : j < k + 1
            · have d1 := (Hbi.out.cell (p := ⟨b, off1 + j, none⟩) hbW).trans (Hcs2.out j hjk)
              have hzb := colE_bd (need := k) (col := col) (HT.out p) j
              have hr := HR.out j
              have Hex2 := Lib.hid (show ((List.range (j + 1)).map fun c => colE k col (tmsE (T p) iv) c) = ((List.range j).map fun c => colE k col (tmsE (T p) iv) c) ++ [colE k col (tmsE (T p) iv) j] by rw [List.range_succ, List.map_append]; rfl)
              generalize hps : (List.range j).map (fun c => colE k col (tmsE (T p) iv) c) = ps at *
              clear hps
              generalize colE k col (tmsE (T p) iv) j = z2 at *
              generalize colE k col (T p) j = z at *
              have hm2 := mul_bd hzb.1 hzb.2 hib.1 hib.2
              obtain ⟨q, hq⟩ : ∃ q, z * iv = q := ⟨_, rfl⟩
              rw [hq] at hm2 hr
              have Hr := Lib.hid hr; clear hr
              have hj1 : (j : Int) < (k : Int) + 1 := by omega
              have hj2 : (j : Int) ≤ (k : Int) := by omega
              have hj3 : j ≤ k := by omega
              go_wp2_with (at_builtin; refine wpList_push TI3 rfl (.tmp 97) (.tmp 105) rfl W2.heap.size _ ps _ rfl hown hol rfl hB3 ?_; intro v2 w2 hown2 hg2)
              go_roundw
              case rel => exact ⟨j + 1, by omega, by go_num, by rw [Hex2.out, Hr.out]; exact hown2, Hbi.out.grown hg2 hB3 (fun g e => (hown.lt g e).1)⟩
              case measure => simp [intOf]; omega
            · have hje : j = k + 1 := by omega
              subst hje
              obtain ⟨W3, hW3⟩ : ∃ W3, W3 = wr := ⟨_, rfl⟩
              subst hW3
              have hxl : ((List.range (k + 1)).map fun c => colE k col (tmsE (T p) iv) c).length = k + 1 := by simp
              obtain ⟨g15, c15, rfl, hg15, hg15', _, hc15, _⟩ := hown.row (by omega)
              have hrow : ∀ j, j < k + 1 → W3.cell? ⟨g15, j, none⟩ = some (.int .i64 (colE k col (tmsE (T p) iv) j)) := fun j hj => by
                have := hc15 j (by omega)
                simpa using this
              rw [hxl]
              clear hc15 hown hol hxl
              have hrw3 := Hrw2.out.below Hbi.out
              have hbel3 := below_step Hbel2.out hB2 Hbi.out
              obtain ⟨_, _, _, D, _⟩ := hrw3.at hpk
              rw [rowE_len] at D
              have hfr := hrw3.frozen p
              have hne7 : g15 ≠ g7 := by have := Hrw2.out.lt; omega
              have hrw4 := hrw3.set hpk (b := g15) (off := 0) (c := c15) (r := rowE k col (tmsE (T p) iv)) (by omega) hne7 hg15' (fun j hj => by rw [rowE_len] at hj; rw [rowE_get, Nat.zero_add]; exact hrow j hj)
              rw [rowE_len] at hrw4
              have hrw4 := hrw4.congr (F' := fun i => rowE k col (elimTo T p 0 i)) (fun i _ => by rw [Hel0.out]; by_cases e : i = p <;> simp [e])
              have hrow4 : ∀ j, j < k + 1 → (W3.setCell ⟨g7, p, none⟩ (.slice (some ⟨g15, 0, none⟩) (k + 1) c15)).cell? ⟨g15, j, none⟩ = some (.int .i64 (colE k col (tmsE (T p) iv) j)) := fun j hj => (grownBy_set W3 g7 p _).cell (hrow j hj) (by simpa using hne7)
              have hsz4 : g15 < (W3.setCell ⟨g7, p, none⟩ (.slice (some ⟨g15, 0, none⟩) (k + 1) c15)).heap.size := by simpa [World.setCell] using hg15'
              have hbel4 := hbel3.setCell (p := ⟨g7, p, none⟩) hrw3.lo (.slice (some ⟨g15, 0, none⟩) (k + 1) c15)
              have Hrw4 := Lib.hid hrw4; clear hrw4 hrw3
              have Hrow4 := Lib.hid hrow4; clear hrow4 hrow
              have Hbel4 := Lib.hid hbel4; clear hbel4 hbel3
              have Hsz4 := Lib.hid hsz4; clear hsz4 hg15'
              have hdk : decide ((k : Int) + 1 ≤ (k : Int)) = false := decide_eq_false (by omega)
              have hdk2 : decide (k + 1 ≤ k) = false := decide_eq_false (by omega)
              have hdk3 : ¬ ((k : Int) + 1 ≤ (k : Int)) := by omega
              go_wp2_with fail
              clear D hfr
              generalize W3.setCell ⟨g7, p, none⟩ (.slice (some ⟨g15, 0, none⟩) (k + 1) c15) = W4 at *
              go_loopw [17] (fun i wr => ∃ m : Nat, m ≤ k ∧ i = .int .i64 m ∧ Rws 30 wr w.heap.size g7 k (fun i => rowE k col (elimTo T p m i)) ∧ (∀ j, j < k + 1 → wr.cell? ⟨g15, j, none⟩ = some (.int .i64 (colE k col (tmsE (T p) iv) j))) ∧ g15 < wr.heap.size ∧ Below w.heap.size w wr) (fun i _ => k - (intOf i).toNat)
              case atStart => exact ⟨0, by omega, rfl, Hrw4.out, Hrow4.out, Hsz4.out, Hbel4.out⟩
              case round =>
                clear Hrw4 Hrow4 Hsz4 Hbel4
                obtain ⟨m, hm, rfl, hrw, hrow, hsz, hbel⟩ := hrel
                obtain ⟨W5, hW5⟩ : ∃ W5, W5 = wr := ⟨_, rfl⟩
                subst hW5
                have Hrw := Lib.hid hrw; clear hrw
                have Hrow := Lib.hid hrow; clear hrow
                have Hbel := Lib.hid hbel; clear hbel
                have Hsz := Lib.hid hsz; clear hsz
                by_cases hmk : m < k
                · by_cases hmp : m = p
                  · have hq : ((m : Int) == (p : Int)) = true := by simp [hmp]
                    have Hsk := Lib.hid (show elimTo T p (m + 1) = elimTo T p m by rw [hmp]; exact elimC_skip T p)
                    go_wp2
                    go_roundw
                    case rel => exact ⟨m + 1, by omega, by go_num, by rw [Hsk.out]; exact Hrw.out, Hrow.out, Hsz.out, Hbel.out⟩
                    case measure => simp [intOf]; omega
                  · have hq : ((m : Int) == (p : Int)) = false := by simp; omega
                    have HE := Lib.hid (HES.out m hmp)
                    have hlt := elimC_later (S := T) (p := p) (m := m) (k := m) hmp (Nat.le_refl _)
                    obtain ⟨b, off1, c1, D, hb1, hb2, hb3, hcs⟩ := Hrw.out.at hmk
                    have hcs : ∀ j, j < k + 1 → W5.cell? ⟨b, off1 + j, none⟩ = some (.int .i64 (colE k col (T m) j)) := fun j hj => by
                      have := hcs j (by rw [rowE_len]; exact hj)
                      rwa [rowE_get, hlt] at this
                    rw [rowE_len] at D
                    have hfT := HT.out m p
                    have hmp0 := hcs p (by omega)
                    rw [show colE k col (T m) p = T m p by unfold colE; rw [if_pos hpk]] at hmp0
                    have Hcs := Lib.hid hcs; clear hcs
                    have HW := Lib.hid (fun j => colE_wth k col (T m) (tmsE (T p) iv) (T m p) j)
                    clear hlt
                    have hrb : ∀ i, 0 ≤ tmsE (T p) iv i ∧ tmsE (T p) iv i ≤ 250 := tms_bd _ _
                    have Hrb := Lib.hid hrb; clear hrb
                    generalize tmsE (T p) iv = R at *
                    generalize T m p = f at *
                    have hfr7 := Hrw.out.frozen m
                    have hg7 := Hrw.out.lt
                    have hp1 : (p : Int) < (k : Int) + 1 := by omega
                    have Hv19 := Lib.hid (own_empty 3 W5 (Nat.le_refl _))
                    have Hb19 := Lib.hid ((Below.refl W5.heap.size W5).alloc (Nat.le_refl _) (.cells #[] 3))
                    go_wp2_with fail
                    go_loopw [19, 20] (fun v i wi => ∃ j : Nat, j ≤ k + 1 ∧ i = .int .i64 j ∧ Own 3 wi W5.heap.size v ((List.range j).map fun c => colE k col (wthE (T m) (tmsE R f)) c) ∧ Below W5.heap.size W5 wi) (fun _ i _ => k + 1 - (intOf i).toNat)
                    case atStart => exact ⟨0, by omega, rfl, Hv19.out, Hb19.out⟩
                    case round =>
                      clear Hv19 Hb19
                      obtain ⟨j, hj, rfl, hown, hbi⟩ := hrel
                      have hol : ((List.range j).map fun c => colE k col (wthE (T m) (tmsE R f)) c).length ≤ 1099511627776 := by simp; omega
                      have Hbi := Lib.hid hbi; clear hbi
                      have hB5 := Hbi.out.size
                      by_cases hjk : j < k + 1
                      · have d0 := (Hbi.out.cell (p := ⟨g7, m, none⟩) hg7).trans D
                        have d1 := (Hbi.out.cell (p := ⟨b, off1 + j, none⟩) hb3).trans (Hcs.out j hjk)
                        have d2 := (Hbi.out.cell (p := ⟨g15, j, none⟩) Hsz.out).trans (Hrow.out j hjk)
                        have hxb := colE_bd (need := k) (col := col) (HT.out m) j
                        have hrb := colE_bd (need := k) (col := col) Hrb.out j
                        have hw := HW.out j
                        have Hex2 := Lib.hid (show ((List.range (j + 1)).map fun c => colE k col (wthE (T m) (tmsE R f)) c) = ((List.range j).map fun c => colE k col (wthE (T m) (tmsE R f)) c) ++ [colE k col (wthE (T m) (tmsE R f)) j] by rw [List.range_succ, List.map_append]; rfl)
                        generalize hps : (List.range j).map (fun c => colE k col (wthE (T m) (tmsE R f)) c) = ps at *
                        clear hps
                        generalize colE k col (wthE (T m) (tmsE R f)) j = z2 at *
                        generalize colE k col (T m) j = x at *
                        generalize colE k col R j = r at *
                        obtain ⟨s, hs⟩ : ∃ s, 251 - f = s := ⟨_, rfl⟩
                        obtain ⟨q, hq⟩ : ∃ q, s * r = q := ⟨_, rfl⟩
                        have hqb : 0 ≤ q ∧ q ≤ 251 * 250 := ⟨by rw [← hq]; exact Int.mul_nonneg (by omega) (by omega), by rw [← hq]; exact Int.mul_le_mul (by omega) (by omega) (by omega) (by omega)⟩
                        rw [hs, hq] at hw
                        have e1 : IntKind.i64.wrap (251 - f) = s := by rw [hs]; exact IntWalk.i64_in _ (by omega)
                        have e2 : IntKind.i64.wrap (s * r) = q := by rw [hq]; exact IntWalk.i64_in _ (by omega)
                        have e3 : IntKind.i64.wrap (x + q) = x + q := IntWalk.i64_in _ (by omega)
                        have e4 : (x + q).tmod 251 = z2 := by rw [hw]; exact Int.tmod_eq_emod_of_nonneg (by omega)
                        have e5 : IntKind.i64.wrap z2 = z2 := IntWalk.i64_in _ (by omega)
                        have hj1 : (j : Int) < (k : Int) + 1 := by omega
                        have hj2 : (j : Int) ≤ (k : Int) := by omega
                        have hj3 : j ≤ k := by omega
                        clear hs hq hw
                        go_wp2_with fail
                        refine wp_region_held_drew (S := fun w' => w'.cell? ⟨g7, m, none⟩ = some (.slice (some ⟨b, off1, none⟩) (k + 1) c1) ∧ w'.cell? ⟨b, off1 + j, none⟩ = some (.int .i64 x) ∧ w'.cell? ⟨g15, j, none⟩ = some (.int .i64 r)) (by kernel_rfl) ⟨d0, d1, d2⟩ (fun hH => ?_)
                        refine takeH 0 (v := ?vz0) rfl (by kernel_rfl) (by kernel_rfl) (by kernel_rfl) (fun _ _ _ h => h) hH rfl ?yz0 ?rz0
                        case yz0 => intro W hSw; obtain ⟨h1, h2, h3⟩ := hSw; go_simp; try with_reducible rfl
                        try simp only [Act.put, List.setIfInBounds_toArray, List.set_cons_zero, List.set_cons_succ]
                        refine takeH 1 (v := ?vz1) rfl (by kernel_rfl) (by kernel_rfl) (by kernel_rfl) (fun _ _ _ h => h) hH rfl ?yz1 ?rz1
                        case yz1 => intro W hSw; obtain ⟨h1, h2, h3⟩ := hSw; go_simp; try with_reducible rfl
                        try simp only [Act.put, List.setIfInBounds_toArray, List.set_cons_zero, List.set_cons_succ]
                        refine takeH 2 (v := ?vz2) rfl (by kernel_rfl) (by kernel_rfl) (by kernel_rfl) (fun _ _ _ h => h) hH rfl ?yz2 ?rz2
                        case yz2 => intro W hSw; obtain ⟨h1, h2, h3⟩ := hSw; go_simp; try with_reducible rfl
                        try simp only [Act.put, List.setIfInBounds_toArray, List.set_cons_zero, List.set_cons_succ]
                        refine takeH 3 (v := ?vz3) rfl (by kernel_rfl) (by kernel_rfl) (by kernel_rfl) (fun _ _ _ h => h) hH rfl ?yz3 ?rz3
                        case yz3 => intro W hSw; obtain ⟨h1, h2, h3⟩ := hSw; go_simp; try with_reducible rfl
                        try simp only [Act.put, List.setIfInBounds_toArray, List.set_cons_zero, List.set_cons_succ]
                        refine takeH 4 (v := ?vz4) rfl (by kernel_rfl) (by kernel_rfl) (by kernel_rfl) (fun _ _ _ h => h) hH rfl ?yz4 ?rz4
                        case yz4 => intro W hSw; obtain ⟨h1, h2, h3⟩ := hSw; go_simp; try with_reducible rfl
                        try simp only [Act.put, List.setIfInBounds_toArray, List.set_cons_zero, List.set_cons_succ]
                        refine takeH 5 (v := ?vz5) rfl (by kernel_rfl) (by kernel_rfl) (by kernel_rfl) (fun _ _ _ h => h) hH rfl ?yz5 ?rz5
                        case yz5 => intro W hSw; obtain ⟨h1, h2, h3⟩ := hSw; go_simp; try with_reducible rfl
                        try simp only [Act.put, List.setIfInBounds_toArray, List.set_cons_zero, List.set_cons_succ]
                        refine takeH 6 (v := ?vz6) rfl (by kernel_rfl) (by kernel_rfl) (by kernel_rfl) (fun _ _ _ h => h) hH rfl ?yz6 ?rz6
                        case yz6 => intro W hSw; obtain ⟨h1, h2, h3⟩ := hSw; go_simp; try with_reducible rfl
                        try simp only [Act.put, List.setIfInBounds_toArray, List.set_cons_zero, List.set_cons_succ]
                        refine takeH 7 (v := ?vz7) rfl (by kernel_rfl) (by kernel_rfl) (by kernel_rfl) (fun _ _ _ h => h) hH rfl ?yz7 ?rz7
                        case yz7 => intro W hSw; obtain ⟨h1, h2, h3⟩ := hSw; go_simp; try with_reducible rfl
                        try simp only [Act.put, List.setIfInBounds_toArray, List.set_cons_zero, List.set_cons_succ]
                        refine takeH 8 (v := ?vz8) rfl (by kernel_rfl) (by kernel_rfl) (by kernel_rfl) (fun _ _ _ h => h) hH rfl ?yz8 ?rz8
                        case yz8 => intro W hSw; obtain ⟨h1, h2, h3⟩ := hSw; go_simp; try with_reducible rfl
                        try simp only [Act.put, List.setIfInBounds_toArray, List.set_cons_zero, List.set_cons_succ]
                        refine takeH 9 (v := ?vz9) rfl (by kernel_rfl) (by kernel_rfl) (by kernel_rfl) (fun _ _ _ h => h) hH rfl ?yz9 ?rz9
                        case yz9 => intro W hSw; obtain ⟨h1, h2, h3⟩ := hSw; go_simp; try with_reducible rfl
                        try simp only [Act.put, List.setIfInBounds_toArray, List.set_cons_zero, List.set_cons_succ]
                        refine takeH 10 (v := ?vz10) rfl (by kernel_rfl) (by kernel_rfl) (by kernel_rfl) (fun _ _ _ h => h) hH rfl ?yz10 ?rz10
                        case yz10 => intro W hSw; obtain ⟨h1, h2, h3⟩ := hSw; go_simp; try with_reducible rfl
                        try simp only [Act.put, List.setIfInBounds_toArray, List.set_cons_zero, List.set_cons_succ]
                        refine takeH 11 (v := ?vz11) rfl (by kernel_rfl) (by kernel_rfl) (by kernel_rfl) (fun _ _ _ h => h) hH rfl ?yz11 ?rz11
                        case yz11 => intro W hSw; obtain ⟨h1, h2, h3⟩ := hSw; go_simp; try with_reducible rfl
                        try simp only [Act.put, List.setIfInBounds_toArray, List.set_cons_zero, List.set_cons_succ]
                        refine takeH 12 (v := ?vz12) rfl (by kernel_rfl) (by kernel_rfl) (by kernel_rfl) (fun _ _ _ h => h) hH rfl ?yz12 ?rz12
                        case yz12 => intro W hSw; obtain ⟨h1, h2, h3⟩ := hSw; go_simp; try with_reducible rfl
                        try simp only [Act.put, List.setIfInBounds_toArray, List.set_cons_zero, List.set_cons_succ]
                        refine takeH 13 (v := ?vz13) rfl (by kernel_rfl) (by kernel_rfl) (by kernel_rfl) (fun _ _ _ h => h) hH rfl ?yz13 ?rz13
                        case yz13 => intro W hSw; obtain ⟨h1, h2, h3⟩ := hSw; go_simp; try with_reducible rfl
                        try simp only [Act.put, List.setIfInBounds_toArray, List.set_cons_zero, List.set_cons_succ]
                        refine takeH 14 (v := ?vz14) rfl (by kernel_rfl) (by kernel_rfl) (by kernel_rfl) (fun _ _ _ h => h) hH rfl ?yz14 ?rz14
                        case yz14 => intro W hSw; obtain ⟨h1, h2, h3⟩ := hSw; go_simp; try with_reducible rfl
                        try simp only [Act.put, List.setIfInBounds_toArray, List.set_cons_zero, List.set_cons_succ]
                        refine takeH 15 (v := ?vz15) rfl (by kernel_rfl) (by kernel_rfl) (by kernel_rfl) (fun _ _ _ h => h) hH rfl ?yz15 ?rz15
                        case yz15 => intro W hSw; obtain ⟨h1, h2, h3⟩ := hSw; go_simp; try with_reducible rfl
                        try simp only [Act.put, List.setIfInBounds_toArray, List.set_cons_zero, List.set_cons_succ]
                        refine takeH 16 (v := ?vz16) rfl (by kernel_rfl) (by kernel_rfl) (by kernel_rfl) (fun _ _ _ h => h) hH rfl ?yz16 ?rz16
                        case yz16 => intro W hSw; go_simp; first | done | (rw [if_neg (by decide)]; with_reducible rfl) | with_reducible rfl
                        try simp only [Act.put, List.setIfInBounds_toArray, List.set_cons_zero, List.set_cons_succ]
                        refine callH 17 rfl (by kernel_rfl) rfl (fun K hK => ?_)
                        go_simp
                        refine hK.out _ _ ⟨(World.grownBy_alloc _ _ none).cell hH.1 (by simp), (World.grownBy_alloc _ _ none).cell hH.2.1 (by simp), (World.grownBy_alloc _ _ none).cell hH.2.2 (by simp)⟩ (fun hH => ?_)
                        clear hK K
                        try simp only [Act.put, List.setIfInBounds_toArray, List.set_cons_zero, List.set_cons_succ]
                        refine callH 18 rfl (by kernel_rfl) rfl (fun K hK => ?_)
                        refine op_push_at TI3 wr.drew (.tmp 132) (.tmp 149) rfl W5.heap.size _ ps _ rfl hown hol rfl hB5 ?_
                        intro v8 w8 hown8 hg8 _
                        have hgr8 : ∀ g, u19.ownBlock = some g → W5.heap.size ≤ g := fun g e => (hown.lt g e).1
                        refine hK.out _ _ ⟨hg8.cell d0 (fun e => by have := hgr8 _ e.symm; simp only at this; omega), hg8.cell d1 (fun e => by have := hgr8 _ e.symm; simp only at this; omega), hg8.cell d2 (fun e => by have h15 := Hsz.out; have := hgr8 _ e.symm; simp only at this; omega)⟩ (fun hH => ?_)
                        clear hK K
                        try simp only [Act.put, List.setIfInBounds_toArray, List.set_cons_zero, List.set_cons_succ]
                        refine takeH 19 (v := ?vz19) rfl (by kernel_rfl) (by kernel_rfl) (by kernel_rfl) (fun _ _ _ h => h) hH rfl ?yz19 ?rz19
                        case yz19 => intro W hSw; obtain ⟨h1, h2, h3⟩ := hSw; go_simp; try with_reducible rfl
                        try simp only [Act.put, List.setIfInBounds_toArray, List.set_cons_zero, List.set_cons_succ]
                        refine wpAnyH_done (by kernel_rfl) ?_ _
                        try simp only [Act.put]
                        have hb8 := Hbi.out.drew.grown hg8 hB5 hgr8
                        clear hg8 hH e1 e2 e3 e4 e5 d0 d1 d2
                        go_wp2
                        go_roundw
                        case rel => exact ⟨j + 1, by omega, by go_num, by rw [Hex2.out]; exact hown8, hb8⟩
                        case measure => simp [intOf]; omega
                      · have hje : j = k + 1 := by omega
                        subst hje
                        obtain ⟨W6, hW6⟩ : ∃ W6, W6 = wr := ⟨_, rfl⟩
                        subst hW6
                        have hxl : ((List.range (k + 1)).map fun c => colE k col (wthE (T m) (tmsE R f)) c).length = k + 1 := by simp
                        obtain ⟨g19, c19, rfl, hg19, hg19', _, hc19, _⟩ := hown.row (by omega)
                        have hrow : ∀ j, j < k + 1 → W6.cell? ⟨g19, j, none⟩ = some (.int .i64 (colE k col (wthE (T m) (tmsE R f)) j)) := fun j hj => by
                          have := hc19 j (by omega)
                          simpa using this
                        rw [hxl]
                        clear hc19 hown hol hxl
                        have hrw6 := Hrw.out.below Hbi.out
                        have hbel6 := below_step Hbel.out Hbel.out.size Hbi.out
                        obtain ⟨_, _, _, D6, _⟩ := hrw6.at hmk
                        rw [rowE_len] at D6
                        have hfr6 := hrw6.frozen m
                        have hne19 : g19 ≠ g7 := by omega
                        have hrw8 := hrw6.set hmk (b := g19) (off := 0) (c := c19) (r := rowE k col (wthE (T m) (tmsE R f))) (by have := Hbel.out.size; omega) hne19 hg19' (fun j hj => by rw [rowE_len] at hj; rw [rowE_get, Nat.zero_add]; exact hrow j hj)
                        rw [rowE_len] at hrw8
                        have hrw8 := hrw8.congr (F' := fun i => rowE k col (elimTo T p (m + 1) i)) (fun i _ => by rw [HE.out]; by_cases e : i = m <;> simp [e])
                        have hrow8 : ∀ j, j < k + 1 → (W6.setCell ⟨g7, m, none⟩ (.slice (some ⟨g19, 0, none⟩) (k + 1) c19)).cell? ⟨g15, j, none⟩ = some (.int .i64 (colE k col R j)) := fun j hj => (grownBy_set W6 g7 m _).cell ((Hbi.out.cell (p := ⟨g15, j, none⟩) Hsz.out).trans (Hrow.out j hj)) (by simpa using hne7)
                        have hsz8 : g15 < (W6.setCell ⟨g7, m, none⟩ (.slice (some ⟨g19, 0, none⟩) (k + 1) c19)).heap.size := by have := Hsz.out; simp [World.setCell]; omega
                        have hbel8 := hbel6.setCell (p := ⟨g7, m, none⟩) hrw6.lo (.slice (some ⟨g19, 0, none⟩) (k + 1) c19)
                        have Hrw8 := Lib.hid hrw8; clear hrw8 hrw6
                        have Hrow8 := Lib.hid hrow8; clear hrow8 hrow
                        have Hbel8 := Lib.hid hbel8; clear hbel8 hbel6
                        have Hsz8 := Lib.hid hsz8; clear hsz8 hg19'
                        go_wp2_with fail
                        clear D6 hfr6
                        generalize W6.setCell ⟨g7, m, none⟩ (.slice (some ⟨g19, 0, none⟩) (k + 1) c19) = W8 at *
                        go_roundw
                        case rel => exact ⟨m + 1, by omega, by go_num, Hrw8.out, Hrow8.out, Hsz8.out, Hbel8.out⟩
                        case measure => simp [intOf]; omega
                · have hmk' : m = k := by omega
                  subst hmk'
                  have Hend := Lib.hid Hrw.out
                  go_wp2
                  go_roundw
                  case rel => exact ⟨p + 1, by omega, by go_num, by rw [Hst.out]; exact Hend.out, Hbel.out⟩
                  case measure => simp [intOf]; omega
        · have hpk' : p = k := by omega
          subst hpk'
          have hrw := Hrws.out
          have Hv21 := Lib.hid (own_empty 3 W1 (Nat.le_refl _))
          have Hb21 := Lib.hid ((Below.refl W1.heap.size W1).alloc (Nat.le_refl _) (.cells #[] 3))
          have hat : ∀ i, i < p → ∃ b off c, W1.cell? ⟨g7, i, none⟩ = some (.slice (some ⟨b, off, none⟩) (p + 1) c) ∧ b < W1.heap.size ∧ W1.cell? ⟨b, off + p, none⟩ = some (.int .i64 (stAt p S0 p i (8 + col))) := fun i hi => by
            obtain ⟨b, off, c, h1, _, _, h4, h5⟩ := hrw.at hi
            have := h5 p (by rw [rowE_len]; omega)
            rw [rowE_get, show colE p col (stAt p S0 p i) p = stAt p S0 p i (8 + col) by unfold colE; rw [if_neg (by omega)]] at this
            rw [rowE_len] at h1
            exact ⟨b, off, c, h1, h4, this⟩
          have Hat2 := Lib.hid hat; clear hat
          have hg7 := hrw.lt
          clear hrw Hrws
          go_wp2_with fail
          go_loopw [21, 22] (fun v i wi => ∃ j : Nat, j ≤ p ∧ i = .int .i64 j ∧ Own 3 wi W1.heap.size v ((List.range j).map fun i => stAt p S0 p i (8 + col)) ∧ Below W1.heap.size W1 wi) (fun _ i _ => p - (intOf i).toNat)
          case atStart => exact ⟨0, by omega, rfl, Hv21.out, Hb21.out⟩
          case round =>
            clear Hv21 Hb21
            obtain ⟨j, hj, rfl, hown, hbi⟩ := hrel
            have hol : ((List.range j).map fun i => stAt p S0 p i (8 + col)).length ≤ 1099511627776 := by simp; omega
            have Hbi := Lib.hid hbi; clear hbi
            have hB3 := Hbi.out.size
            by_cases hjp : j < p
            · obtain ⟨b, off1, c1, D, hb, E⟩ := Hat2.out j hjp
              have d0 := (Hbi.out.cell (p := ⟨g7, j, none⟩) hg7).trans D
              have d1 := (Hbi.out.cell (p := ⟨b, off1 + p, none⟩) hb).trans E
              have Hex2 := Lib.hid (show ((List.range (j + 1)).map fun i => stAt p S0 p i (8 + col)) = ((List.range j).map fun i => stAt p S0 p i (8 + col)) ++ [stAt p S0 p j (8 + col)] by rw [List.range_succ, List.map_append]; rfl)
              generalize hps : (List.range j).map (fun i => stAt p S0 p i (8 + col)) = ps at *
              clear hps D E
              generalize stAt p S0 p j (8 + col) = z at *
              have hp1 : (p : Int) < (p : Int) + 1 := by omega
              go_wp2_with (at_builtin; refine wpList_push TI3 rfl (.tmp 161) (.tmp 169) rfl W1.heap.size _ ps _ rfl hown hol rfl hB3 ?_; intro v2 w2 hown2 hg2)
              go_roundw
              case rel => exact ⟨j + 1, by omega, by go_num, by rw [Hex2.out]; exact hown2, Hbi.out.grown hg2 hB3 (fun g e => (hown.lt g e).1)⟩
              case measure => simp [intOf]; omega
            · have hje : j = p := by omega
              subst hje
              have hB1 := Hbel.out.size
              have Hown := Lib.hid hown; clear hown
              go_wp2
              go_ret
              exact ⟨_, rfl, by have := Hown.out.mono hB1; rw [← HS0.out] at this; exact this, below_step Hbel.out hB1 Hbi.out⟩

end Go.Proofs.Ytkndndcjchlpdab
