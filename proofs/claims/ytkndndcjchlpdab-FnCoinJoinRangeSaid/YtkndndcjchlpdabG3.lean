/- What impl's elimination finds, by a walk of its text; conditions: as many shards as suffice, with different numbers and one to twelve values each. -/
import Derived.Test.YtkndndcjchlpdabF3
namespace Go.Proofs.Ytkndndcjchlpdab
open Go.RowKit

set_option maxHeartbeats 2000000 in
theorem impl_solve (need cols : Nat) (L : List Sh) (v : Value) (fp : List Nat) (w : World) (hn1 : 1 ≤ need) (hn8 : need ≤ 8) (hlen : need ≤ L.length) (hc1 : 1 ≤ cols) (hc12 : cols ≤ 12) (hok : shsB cols L = true) (hr : Rd w (.l (L.map shardD)) v fp) :
    Calls Try.prog 59 #[.int .i64 (need : Int), v] w fun e w' => e = .returned (.agg (grC (stAt need (eqs0 need (xsOf L) (vsOf L) need) need))) ∧ Below w.heap.size w w' := by
  obtain ⟨a, cap, rfl⟩ := hr.slice
  rw [List.length_map] at *
  have Hr := Lib.hid hr; clear hr
  have Hok := Lib.hid hok; clear hok
  have hzv := fun w => run_zeroValue (P := Try.prog) (ty := 78) (v := .agg (grC fun _ _ => 0)) (by kernel_rfl) w
  go_enter Try.func59, Try.ntmps59
  go_wp2_with fail
  have hw1 : Str ((w.alloc (.cells (grC fun _ _ => 0) 78)).alloc (.cells (grC fun _ _ => 0) 78)) (w.heap.size + 1) 78 (grC (eqs0 need (xsOf L) (vsOf L) 0)) := by
    have := Str.new (w.alloc (.cells (grC fun _ _ => 0) 78)) 78 (grC fun _ _ => 0)
    simp only [World.size_alloc] at this
    rw [show grC (eqs0 need (xsOf L) (vsOf L) 0) = grC fun _ _ => 0 from grC_congr fun k c _ _ => by unfold eqs0; rw [if_neg (by omega)]]
    exact this
  have hw0 : Str ((w.alloc (.cells (grC fun _ _ => 0) 78)).alloc (.cells (grC fun _ _ => 0) 78)) w.heap.size 78 (grC fun _ _ => 0) := (Str.new w 78 (grC fun _ _ => 0)).alloc _
  have hwb : Below w.heap.size w ((w.alloc (.cells (grC fun _ _ => 0) 78)).alloc (.cells (grC fun _ _ => 0) 78)) := ((Below.refl _ w).alloc (Nat.le_refl _) _).alloc (by simp) _
  clear hzv
  generalize (w.alloc (.cells (grC fun _ _ => 0) 78)).alloc (.cells (grC fun _ _ => 0) 78) = W1 at *
  have Hw0 := Lib.hid hw0; clear hw0
  have Hw1 := Lib.hid hw1; clear hw1
  have Hwb := Lib.hid hwb; clear hwb
  go_loopw [10] (fun i wr => ∃ k : Nat, k ≤ need ∧ i = .int .i64 k ∧ Str wr w.heap.size 78 (grC fun _ _ => 0) ∧ Str wr (w.heap.size + 1) 78 (grC (eqs0 need (xsOf L) (vsOf L) k)) ∧ Below w.heap.size w wr) (fun i _ => need - (intOf i).toNat)
  case atStart => exact ⟨0, by omega, rfl, Hw0.out, Hw1.out, Hwb.out⟩
  case round =>
    obtain ⟨k, hk, rfl, s0, s1, hbel⟩ := hrel
    have hsz := s1.lt
    have Hs0 := Lib.hid s0; clear s0
    have Hs1 := Lib.hid s1; clear s1
    by_cases hlt : k < need
    · have hkL : k < L.length := by omega
      obtain ⟨g, off, rfl, hg, hat⟩ := shards_at (Hr.out.underB hbel (fun r hr => Hr.out.lt r hr)) (by omega)
      obtain ⟨av, cv, C0, C1, I1⟩ := hat k hkL
      have hsh := shsB_at Hok.out hkL
      have Hbel := Lib.hid hbel; clear hbel hat
      have Hstep := Lib.hid (eqs0_step need (xsOf L) (vsOf L) k)
      have hxk : xsOf L k = L[k].1 := by unfold xsOf; rw [getS hkL]
      have hvk : vsOf L k = L[k].2 := by unfold vsOf; rw [getS hkL]
      rw [hxk, hvk] at Hstep
      have hx := hsh.1.1
      have hvl := hsh.1.2.1
      clear hsh hxk hvk
      generalize L[k].1 = x at *
      generalize L[k].2 = vs at *
      have Hcall := Lib.hid (impl_equationOf need x av cv vs wr hn8 (by omega) (by omega) (by omega) (by omega) I1)
      have hxa := fun w' => run_indexAt_arr (P := Try.prog) (B := w.heap.size + 1) (o := 0) Try.underlying78 (s := 20) (by kernel_rfl) (show k < 8 by omega) w'
      rw [Nat.zero_add] at hxa
      clear hvl I1
      go_wp2_with fail
      refine Hcall.out.mono ?_
      rintro e w6 ⟨rfl, hb6⟩
      have Hs06 := Lib.hid ((hb6.block _ Hs0.out.lt).trans Hs0.out)
      have Hs16 := Lib.hid ((hb6.block _ Hs1.out.lt).trans Hs1.out)
      have Hb6 := Lib.hid (below_step Hbel.out Hbel.out.size hb6)
      have hsz6 := hb6.size
      clear hb6
      go_wp2_with (refine wpList_store_grid rfl 76 _ _ rfl (w.heap.size + 1) k (eqs0 need (xsOf L) (vsOf L) k) (eqOf need x vs) (by omega) rfl rfl 78 Hs16.out (by kernel_rfl) ?_; intro w8 hs8 hg8)
      rw [Hstep.out] at hs8
      have Hs8 := Lib.hid hs8; clear hs8
      go_roundw
      case rel => exact ⟨k + 1, by omega, by go_num, Str.kept Hs06.out hg8 (by simp), Hs8.out, Hb6.out.grown hg8 Hb6.out.size (fun g e => by cases e; omega)⟩
      case measure => simp [intOf]; omega
    · have hke : k = need := by omega
      subst hke
      have hS0b : Bd (eqs0 k (xsOf L) (vsOf L) k) := eqs0_bd fun j hj y hy => by
        have := (shsB_at Hok.out (show j < L.length by omega)).1.2.2 y
        unfold vsOf at hy; rw [getS (show j < L.length by omega)] at hy
        exact this hy
      have HS0b := Lib.hid hS0b; clear hS0b
      clear Hw1 Hw0
      generalize hS0 : eqs0 k (xsOf L) (vsOf L) k = S0 at *
      have HS0 := Lib.hid hS0; clear hS0
      have Hbel := Lib.hid hbel; clear hbel
      go_wp2_with fail
      go_loopw [23] (fun i wi => ∃ p : Nat, p ≤ k ∧ i = .int .i64 p ∧ Str wi w.heap.size 78 (grC fun _ _ => 0) ∧ Str wi (w.heap.size + 1) 78 (grC (stAt k S0 p)) ∧ Below w.heap.size w wi) (fun i _ => k - (intOf i).toNat)
      case atStart => exact ⟨0, by omega, rfl, Hs0.out, Hs1.out, Hbel.out⟩
      case round =>
        obtain ⟨p, hp, rfl, s0, s1, hbel⟩ := hrel
        clear Hs0 Hs1 Hbel
        have hsz := s1.lt
        have Hs0 := Lib.hid s0; clear s0
        have Hbel := Lib.hid hbel; clear hbel
        by_cases hlt : p < k
        · have hTb := stAt_bd HS0b.out k p
          have HE := Lib.hid (show elimTo (stAt k S0 p) p k = stAt k S0 (p + 1) from rfl)
          generalize stAt k S0 p = T at *
          have HTb := Lib.hid hTb; clear hTb
          have Hz := Lib.hid (elim_zero T p)
          have hxa := fun w' => run_indexAt_arr (P := Try.prog) (B := w.heap.size + 1) (o := 0) Try.underlying78 (s := 20) (by kernel_rfl) (show p < 8 by omega) w'
          have hxb := fun w' => run_indexAt_arr (P := Try.prog) (B := w.heap.size + 1) (o := p * 20) Try.underlying76 (s := 1) (by kernel_rfl) (show p < 20 by omega) w'
          rw [Nat.zero_add] at hxa
          rw [Nat.mul_one] at hxb
          go_wp2_with fail
          refine wp_region_L 12 (fun w' => Str w' (w.heap.size + 1) 78 (grC T)) (by kernel_rfl) s1 (fun hH => ?_)
          refine takeL 0 (v := ?va0) rfl (by kernel_rfl) (by kernel_rfl) (by kernel_rfl) (by kernel_rfl) (by kernel_rfl) (fun _ _ _ h => h) hH rfl ?ya0 ?ra0
          case ya0 => intro W hSw; go_simp; try with_reducible rfl
          try simp only [Act.put, List.setIfInBounds_toArray, List.set_cons_zero, List.set_cons_succ]
          refine takeL 1 (v := ?va1) rfl (by kernel_rfl) (by kernel_rfl) (by kernel_rfl) (by kernel_rfl) (by kernel_rfl) (fun _ _ _ h => h) hH rfl ?ya1 ?ra1
          case ya1 => intro W hSw; go_simp; try with_reducible rfl
          try simp only [Act.put, List.setIfInBounds_toArray, List.set_cons_zero, List.set_cons_succ]
          refine takeL 2 (v := ?va2) rfl (by kernel_rfl) (by kernel_rfl) (by kernel_rfl) (by kernel_rfl) (by kernel_rfl) (fun _ _ _ h => h) hH rfl ?ya2 ?ra2
          case ya2 => intro W hSw; go_simp; try with_reducible rfl
          try simp only [Act.put, List.setIfInBounds_toArray, List.set_cons_zero, List.set_cons_succ]
          refine takeL 3 (v := ?va3) rfl (by kernel_rfl) (by kernel_rfl) (by kernel_rfl) (by kernel_rfl) (by kernel_rfl) (fun _ _ _ h => h) hH rfl ?ya3 ?ra3
          case ya3 => intro W hSw; refine Eq.trans (exec_load_row 76 _ rfl (w.heap.size + 1) p T (by omega) rfl _ Try.underlying76 rfl (by kernel_rfl) 78 hSw) ?_; with_reducible rfl
          try simp only [Act.put, List.setIfInBounds_toArray, List.set_cons_zero, List.set_cons_succ]
          refine takeL 4 (v := ?va4) rfl (by kernel_rfl) (by kernel_rfl) (by kernel_rfl) (by kernel_rfl) (by kernel_rfl) (fun _ _ _ h => h) hH rfl ?ya4 ?ra4
          case ya4 => intro W hSw; go_simp; try with_reducible rfl
          try simp only [Act.put, List.setIfInBounds_toArray, List.set_cons_zero, List.set_cons_succ]
          refine takeL 5 (v := ?va5) rfl (by kernel_rfl) (by kernel_rfl) (by kernel_rfl) (by kernel_rfl) (by kernel_rfl) (fun _ _ _ h => h) hH rfl ?ya5 ?ra5
          case ya5 => intro W hSw; go_simp; try with_reducible rfl
          try simp only [Act.put, List.setIfInBounds_toArray, List.set_cons_zero, List.set_cons_succ]
          refine takeL 6 (v := ?va6) rfl (by kernel_rfl) (by kernel_rfl) (by kernel_rfl) (by kernel_rfl) (by kernel_rfl) (fun _ _ _ h => h) hH rfl ?ya6 ?ra6
          case ya6 => intro W hSw; go_simp; try with_reducible rfl
          try simp only [Act.put, List.setIfInBounds_toArray, List.set_cons_zero, List.set_cons_succ]
          refine takeL 7 (v := ?va7) rfl (by kernel_rfl) (by kernel_rfl) (by kernel_rfl) (by kernel_rfl) (by kernel_rfl) (fun _ _ _ h => h) hH rfl ?ya7 ?ra7
          case ya7 => intro W hSw; go_simp; try with_reducible rfl
          try simp only [Act.put, List.setIfInBounds_toArray, List.set_cons_zero, List.set_cons_succ]
          refine takeL 8 (v := ?va8) rfl (by kernel_rfl) (by kernel_rfl) (by kernel_rfl) (by kernel_rfl) (by kernel_rfl) (fun _ _ _ h => h) hH rfl ?ya8 ?ra8
          case ya8 => intro W hSw; have hcc := Str.cell hSw (p * 20 + p) (grC_get (S := T) (k := p) (c := p) (by omega) (by omega)); go_simp; try with_reducible rfl
          try simp only [Act.put, List.setIfInBounds_toArray, List.set_cons_zero, List.set_cons_succ]
          refine callL 9 rfl (by kernel_rfl) rfl (fun K hK => ?_)
          go_simp
          refine (impl_inverse (T p p) _ (HTb.out p p).1 (HTb.out p p).2).mono ?_
          rintro e w' ⟨rfl, rfl⟩
          dsimp only
          refine hK.out _ _ hH (fun hH => ?_)
          clear hK K
          try simp only [Act.put, List.setIfInBounds_toArray, List.set_cons_zero, List.set_cons_succ]
          refine callL 10 rfl (by kernel_rfl) rfl (fun K hK => ?_)
          go_simp
          refine (impl_times (T p) (invZ (T p p)) _ (HTb.out p) (powF_bd _ _).1 (powF_bd _ _).2).mono ?_
          rintro e w6 ⟨rfl, hb6⟩
          dsimp only
          have hwd : wr.drew.heap.size = wr.heap.size := rfl
          refine hK.out _ _ ((hb6.block _ (by omega)).trans hH) (fun hH => ?_)
          clear hK K
          try simp only [Act.put, List.setIfInBounds_toArray, List.set_cons_zero, List.set_cons_succ]
          have Hs06 := Lib.hid ((hb6.block _ (by omega)).trans Hs0.out)
          have Hb6 := Lib.hid (below_step Hbel.out.drew Hbel.out.size hb6)
          have hsz6 := hb6.size
          clear hb6
          refine takeL 11 (v := ?va11) rfl (by kernel_rfl) (by kernel_rfl) (by kernel_rfl) (by kernel_rfl) (by kernel_rfl) (fun _ _ _ h => h) hH rfl ?ya11 ?ra11
          case ya11 => intro W hSw; go_simp; try with_reducible rfl
          try simp only [Act.put, List.setIfInBounds_toArray, List.set_cons_zero, List.set_cons_succ]
          refine lastL rfl (by kernel_rfl) (by kernel_rfl) (by kernel_rfl) rfl (fun K hK => ?_)
          refine wp_store_grid 76 _ _ rfl (w.heap.size + 1) p T (tmsE (T p) (invZ (T p p))) (by omega) rfl rfl 78 hH (by kernel_rfl) ?_
          intro w8 hs8 hg8
          refine hK.out _ _ ?_
          clear hK K
          try simp only [Act.put]
          rw [Hz.out] at hs8
          have Hs8 := Lib.hid hs8; clear hs8
          have Hs08 := Lib.hid (Str.kept Hs06.out hg8 (by simp))
          have Hb8 := Lib.hid (Hb6.out.grown hg8 Hb6.out.size (fun g e => by cases e; omega))
          clear hg8 hH s1
          clear hxa hxb Hs06 Hb6
          go_wp2_with fail
          go_loopw [39] (fun i wj => ∃ j : Nat, j ≤ k ∧ i = .int .i64 j ∧ Str wj w.heap.size 78 (grC fun _ _ => 0) ∧ Str wj (w.heap.size + 1) 78 (grC (elimTo T p j)) ∧ Below w.heap.size w wj) (fun i _ => k - (intOf i).toNat)
          case atStart => exact ⟨0, by omega, rfl, Hs08.out, Hs8.out, Hb8.out⟩
          case round =>
            clear Hs8 Hs08 Hb8
            obtain ⟨j, hj, rfl, s0, s1, hbel⟩ := hrel
            have hszj := s1.lt
            have Hs0 := Lib.hid s0; clear s0
            have Hbel := Lib.hid hbel; clear hbel
            by_cases hjk : j < k
            · by_cases hjp : j = p
              · subst hjp
                rw [← elim_same] at s1
                have Hs1 := Lib.hid s1; clear s1
                go_wp2
                go_roundw
                case rel => exact ⟨j + 1, by omega, by go_num, Hs0.out, Hs1.out, Hbel.out⟩
                case measure => simp [intOf]; omega
              · have hq : ((j : Int) == (p : Int)) = false := by rw [beq_eq_false_iff_ne]; omega
                have hq' : ((j : Int) != (p : Int)) = true := by simp; omega
                have Hz := Lib.hid (elim_step (T := T) hjp)
                have hVb := elim_bd HTb.out p j
                generalize hV : elimTo T p j = V at *
                clear hV
                have HVb := Lib.hid hVb; clear hVb
                have hxj := fun w' => run_indexAt_arr (P := Try.prog) (B := w.heap.size + 1) (o := 0) Try.underlying78 (s := 20) (by kernel_rfl) (show j < 8 by omega) w'
                have hxp := fun w' => run_indexAt_arr (P := Try.prog) (B := w.heap.size + 1) (o := 0) Try.underlying78 (s := 20) (by kernel_rfl) (show p < 8 by omega) w'
                have hxb := fun w' => run_indexAt_arr (P := Try.prog) (B := w.heap.size + 1) (o := j * 20) Try.underlying76 (s := 1) (by kernel_rfl) (show p < 20 by omega) w'
                rw [Nat.zero_add] at hxj hxp
                rw [Nat.mul_one] at hxb
                clear hjp
                go_wp2_with fail
                refine wp_region_L 15 (fun w' => Str w' (w.heap.size + 1) 78 (grC V)) (by kernel_rfl) s1 (fun hH => ?_)
                refine takeL 0 (v := ?vb0) rfl (by kernel_rfl) (by kernel_rfl) (by kernel_rfl) (by kernel_rfl) (by kernel_rfl) (fun _ _ _ h => h) hH rfl ?yb0 ?rb0
                case yb0 => intro W hSw; go_simp; try with_reducible rfl
                try simp only [Act.put, List.setIfInBounds_toArray, List.set_cons_zero, List.set_cons_succ]
                refine takeL 1 (v := ?vb1) rfl (by kernel_rfl) (by kernel_rfl) (by kernel_rfl) (by kernel_rfl) (by kernel_rfl) (fun _ _ _ h => h) hH rfl ?yb1 ?rb1
                case yb1 => intro W hSw; go_simp; try with_reducible rfl
                try simp only [Act.put, List.setIfInBounds_toArray, List.set_cons_zero, List.set_cons_succ]
                refine takeL 2 (v := ?vb2) rfl (by kernel_rfl) (by kernel_rfl) (by kernel_rfl) (by kernel_rfl) (by kernel_rfl) (fun _ _ _ h => h) hH rfl ?yb2 ?rb2
                case yb2 => intro W hSw; go_simp; try with_reducible rfl
                try simp only [Act.put, List.setIfInBounds_toArray, List.set_cons_zero, List.set_cons_succ]
                refine takeL 3 (v := ?vb3) rfl (by kernel_rfl) (by kernel_rfl) (by kernel_rfl) (by kernel_rfl) (by kernel_rfl) (fun _ _ _ h => h) hH rfl ?yb3 ?rb3
                case yb3 => intro W hSw; refine Eq.trans (exec_load_row 76 _ rfl (w.heap.size + 1) j V (by omega) rfl _ Try.underlying76 rfl (by kernel_rfl) 78 hSw) ?_; with_reducible rfl
                try simp only [Act.put, List.setIfInBounds_toArray, List.set_cons_zero, List.set_cons_succ]
                refine takeL 4 (v := ?vb4) rfl (by kernel_rfl) (by kernel_rfl) (by kernel_rfl) (by kernel_rfl) (by kernel_rfl) (fun _ _ _ h => h) hH rfl ?yb4 ?rb4
                case yb4 => intro W hSw; go_simp; try with_reducible rfl
                try simp only [Act.put, List.setIfInBounds_toArray, List.set_cons_zero, List.set_cons_succ]
                refine takeL 5 (v := ?vb5) rfl (by kernel_rfl) (by kernel_rfl) (by kernel_rfl) (by kernel_rfl) (by kernel_rfl) (fun _ _ _ h => h) hH rfl ?yb5 ?rb5
                case yb5 => intro W hSw; go_simp; try with_reducible rfl
                try simp only [Act.put, List.setIfInBounds_toArray, List.set_cons_zero, List.set_cons_succ]
                refine takeL 6 (v := ?vb6) rfl (by kernel_rfl) (by kernel_rfl) (by kernel_rfl) (by kernel_rfl) (by kernel_rfl) (fun _ _ _ h => h) hH rfl ?yb6 ?rb6
                case yb6 => intro W hSw; refine Eq.trans (exec_load_row 76 _ rfl (w.heap.size + 1) p V (by omega) rfl _ Try.underlying76 rfl (by kernel_rfl) 78 hSw) ?_; with_reducible rfl
                try simp only [Act.put, List.setIfInBounds_toArray, List.set_cons_zero, List.set_cons_succ]
                refine takeL 7 (v := ?vb7) rfl (by kernel_rfl) (by kernel_rfl) (by kernel_rfl) (by kernel_rfl) (by kernel_rfl) (fun _ _ _ h => h) hH rfl ?yb7 ?rb7
                case yb7 => intro W hSw; go_simp; try with_reducible rfl
                try simp only [Act.put, List.setIfInBounds_toArray, List.set_cons_zero, List.set_cons_succ]
                refine takeL 8 (v := ?vb8) rfl (by kernel_rfl) (by kernel_rfl) (by kernel_rfl) (by kernel_rfl) (by kernel_rfl) (fun _ _ _ h => h) hH rfl ?yb8 ?rb8
                case yb8 => intro W hSw; go_simp; try with_reducible rfl
                try simp only [Act.put, List.setIfInBounds_toArray, List.set_cons_zero, List.set_cons_succ]
                refine takeL 9 (v := ?vb9) rfl (by kernel_rfl) (by kernel_rfl) (by kernel_rfl) (by kernel_rfl) (by kernel_rfl) (fun _ _ _ h => h) hH rfl ?yb9 ?rb9
                case yb9 => intro W hSw; go_simp; try with_reducible rfl
                try simp only [Act.put, List.setIfInBounds_toArray, List.set_cons_zero, List.set_cons_succ]
                refine takeL 10 (v := ?vb10) rfl (by kernel_rfl) (by kernel_rfl) (by kernel_rfl) (by kernel_rfl) (by kernel_rfl) (fun _ _ _ h => h) hH rfl ?yb10 ?rb10
                case yb10 => intro W hSw; go_simp; try with_reducible rfl
                try simp only [Act.put, List.setIfInBounds_toArray, List.set_cons_zero, List.set_cons_succ]
                refine takeL 11 (v := ?vb11) rfl (by kernel_rfl) (by kernel_rfl) (by kernel_rfl) (by kernel_rfl) (by kernel_rfl) (fun _ _ _ h => h) hH rfl ?yb11 ?rb11
                case yb11 => intro W hSw; have hcc := Str.cell hSw (j * 20 + p) (grC_get (S := V) (k := j) (c := p) (by omega) (by omega)); go_simp; try with_reducible rfl
                try simp only [Act.put, List.setIfInBounds_toArray, List.set_cons_zero, List.set_cons_succ]
                refine callL 12 rfl (by kernel_rfl) rfl (fun K hK => ?_)
                go_simp
                refine (impl_times (V p) (V j p) _ (HVb.out p) (HVb.out j p).1 (HVb.out j p).2).mono ?_
                rintro e w6 ⟨rfl, hb6⟩
                dsimp only
                have hwd : wr.drew.heap.size = wr.heap.size := rfl
                refine hK.out _ _ ((hb6.block _ (by omega)).trans hH) (fun hH => ?_)
                clear hK K
                try simp only [Act.put, List.setIfInBounds_toArray, List.set_cons_zero, List.set_cons_succ]
                have Hs06 := Lib.hid ((hb6.block _ (by omega)).trans Hs0.out)
                have Hb6 := Lib.hid (below_step Hbel.out.drew Hbel.out.size hb6)
                have hsz6 := hb6.size
                clear hb6
                refine callL 13 rfl (by kernel_rfl) rfl (fun K hK => ?_)
                go_simp
                refine (impl_without (V j) (tmsE (V p) (V j p)) _ (HVb.out j) (tms_bd _ _)).mono ?_
                rintro e w7 ⟨rfl, hb7⟩
                dsimp only
                refine hK.out _ _ ((hb7.block _ (by omega)).trans hH) (fun hH => ?_)
                clear hK K
                try simp only [Act.put, List.setIfInBounds_toArray, List.set_cons_zero, List.set_cons_succ]
                have Hs07 := Lib.hid ((hb7.block _ (by omega)).trans Hs06.out)
                have Hb7 := Lib.hid (below_step Hb6.out Hb6.out.size hb7)
                have hsz7 := hb7.size
                clear hb7
                refine takeL 14 (v := ?vb14) rfl (by kernel_rfl) (by kernel_rfl) (by kernel_rfl) (by kernel_rfl) (by kernel_rfl) (fun _ _ _ h => h) hH rfl ?yb14 ?rb14
                case yb14 => intro W hSw; go_simp; try with_reducible rfl
                try simp only [Act.put, List.setIfInBounds_toArray, List.set_cons_zero, List.set_cons_succ]
                refine lastL rfl (by kernel_rfl) (by kernel_rfl) (by kernel_rfl) rfl (fun K hK => ?_)
                refine wp_store_grid 76 _ _ rfl (w.heap.size + 1) j V (wthE (V j) (tmsE (V p) (V j p))) (by omega) rfl rfl 78 hH (by kernel_rfl) ?_
                intro w8 hs8 hg8
                refine hK.out _ _ ?_
                clear hK K
                try simp only [Act.put]
                rw [Hz.out] at hs8
                have Hs8 := Lib.hid hs8; clear hs8
                have Hs08 := Lib.hid (Str.kept Hs07.out hg8 (by simp))
                have Hb8 := Lib.hid (Hb7.out.grown hg8 Hb7.out.size (fun g e => by cases e; omega))
                clear hg8 hH s1 hxj hxp hxb
                go_wp2
                go_roundw
                case rel => exact ⟨j + 1, by omega, by go_num, Hs08.out, Hs8.out, Hb8.out⟩
                case measure => simp [intOf]; omega
            · have hjk' : j = k := by omega
              subst hjk'
              rw [HE.out] at s1
              have Hs1 := Lib.hid s1; clear s1
              go_wp2
              go_roundw
              case rel => exact ⟨p + 1, by omega, by go_num, Hs0.out, Hs1.out, Hbel.out⟩
              case measure => simp [intOf]; omega
        · have hpk : p = k := by omega
          subst hpk
          go_wp2_with (first
            | refine wpList_load_row rfl 78 _ rfl (w.heap.size + 1) rfl 78 (grC (stAt p S0 p)) (0, 0) _ s1 Try.underlying78 rfl (by rw [grC_size]; kernel_rfl) ?_
            | refine wpList_store_row rfl 78 _ _ rfl w.heap.size (grC (stAt p S0 p)) rfl rfl 78 (grC fun _ _ => 0) Hs0.out (by rw [grC_size]; kernel_rfl) (by rw [grC_size, grC_size]) (grC_one _) ?_)
          have sF := setRow_str Hs0.out (grC (stAt p S0 p))
          refine bodyPost_ret (results_cell_row rfl _ _ w.heap.size 78 (grC (stAt p S0 p)) (0, 0) _ rfl sF Try.underlying78 rfl (by rw [grC_size]; kernel_rfl)) rfl ⟨by rw [HS0.out], ?_⟩
          exact Hbel.out.grown (grownBy_setRow wr _ _) Hbel.out.size (fun g e => by cases e; omega)

end Go.Proofs.Ytkndndcjchlpdab
