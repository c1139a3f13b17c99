/- What impl's join of shards is, by a walk of its text; conditions: the lists are short, the numbers are ints. -/
import Derived.Test.YtkndndcjchlpdabH3
import Derived.IntWalk
namespace Go.Proofs.Ytkndndcjchlpdab
open Go.RowKit

theorem join_no {size need : Int} {L : List Sh} (h : joinOk size need L = false) : joinB size need L = false ∧ joinD size need L = [] := by
  have : joinB size need L = false := by unfold joinB; rw [h]; rfl
  exact ⟨this, by unfold joinD; rw [if_neg (by simp [this])]⟩
theorem join_yes {size need : Int} {L : List Sh} (h : joinOk size need L = true) (h' : L.all (matB (dataI size.toNat need.toNat L) need) = true) : joinB size need L = true ∧ joinD size need L = dataI size.toNat need.toNat L := by
  have : joinB size need L = true := by unfold joinB; rw [h, h']; rfl
  exact ⟨this, by unfold joinD; rw [if_pos this]⟩
theorem join_bad {size need : Int} {L : List Sh} (h' : L.all (matB (dataI size.toNat need.toNat L) need) = false) : joinB size need L = false ∧ joinD size need L = [] := by
  have : joinB size need L = false := by unfold joinB; rw [h', Bool.and_false]
  exact ⟨this, by unfold joinD; rw [if_neg (by simp [this])]⟩
def matAt (d : List Int) (need : Int) (L : List Sh) (k : Nat) : Bool := matB d need (L.getD k (0, []))
theorem mat_all {d : List Int} {need : Int} {L : List Sh} {k : Nat} (h : Upto (matAt d need L) k) (hk : L.length ≤ k) : L.all (matB d need) = true := by
  rw [List.all_eq_true]
  intro s hs
  obtain ⟨j, hj, rfl⟩ := List.mem_iff_getElem.1 hs
  have := h j (by omega)
  unfold matAt at this
  rwa [getS hj] at this
theorem mat_no {d : List Int} {need : Int} {L : List Sh} {k : Nat} (hk : k < L.length) (h : matB d need L[k] = false) : L.all (matB d need) = false := by
  rw [List.all_eq_false]; exact ⟨L[k], List.getElem_mem hk, by simp [h]⟩
theorem ownE (E : TypeId) (w : World) : Own E (w.alloc (.cells #[] E)) w.heap.size (.slice (some ⟨w.heap.size, 0, none⟩) 0 0) [] := own_empty E w (Nat.le_refl _)

set_option maxHeartbeats 2000000 in
theorem impl_ShardJoin (size need : Int) (L : List Sh) (v : Value) (fp : List Nat) (w : World) (hbig : L.length ≤ 1048576) (hin : ∀ s ∈ L, s.2.length ≤ 1048576) (hr : Rd w (.l (L.map shardD)) v fp) :
    Calls Try.prog 36 #[.int .i64 size, .int .i64 need, v] w fun e w' => ∃ u, e = .returned (.tuple #[u, .bool (joinB size need L)]) ∧ Own 3 w' w.heap.size u (joinD size need L) ∧ Below w.heap.size w w' := by
  obtain ⟨a, cap, rfl⟩ := hr.slice
  rw [List.length_map] at *
  have Hr := Lib.hid hr; clear hr
  have Hin := Lib.hid hin; clear hin
  have hds := fun w => impl_isDataSize size w
  have hnm := fun w => impl_isShardNumber need w
  by_cases hS : 1 ≤ size ∧ size ≤ 12
  · rw [decide_eq_true hS] at hds
    have Hds := Lib.hid hds; clear hds
    by_cases hN : 1 ≤ need ∧ need ≤ 8
    · rw [decide_eq_true hN] at hnm
      have Hnm := Lib.hid hnm; clear hnm
      obtain ⟨size, rfl⟩ := Int.eq_ofNat_of_zero_le (show 0 ≤ size by omega)
      obtain ⟨need, rfl⟩ := Int.eq_ofNat_of_zero_le (show 0 ≤ need by omega)
      have has := impl_areShards size need L _ fp w (by omega) (by omega) (by omega) (by omega) hbig Hin.out Hr.out
      cases hA : (lenB need L && shsB ((size + need - 1) / need) L) with
      | false =>
        rw [hA] at has
        have Has := Lib.hid has; clear has
        have Hf := Lib.hid (join_no (size := size) (need := need) (L := L) (by unfold joinOk; simp only [Int.toNat_natCast]; rw [hA, Bool.and_false]))
        clear hA
        go_enter Try.func36, Try.ntmps36
        go_wp2_with fail
        refine (Hds.out _).mono ?_
        rintro e w' ⟨rfl, rfl⟩
        go_wp2_with fail
        refine (Hnm.out _).mono ?_
        rintro e w' ⟨rfl, rfl⟩
        go_wp2_with fail
        refine Has.out.mono ?_
        rintro e w1 ⟨rfl, hb1⟩
        have Hb1 := Lib.hid hb1; clear hb1
        have hs1 := Hb1.out.size
        go_wp2
        refine bodyPost_ret (v := .tuple #[.slice (some ⟨w1.heap.size, 0, none⟩) 0 0, .bool false]) (by simp [results, Try.f36, go_sem]) rfl ?_
        rw [Hf.out.1, Hf.out.2]
        exact ⟨_, rfl, (ownE 3 w1).mono hs1, Hb1.out.alloc hs1 _⟩
      | true =>
        rw [hA] at has
        have Has := Lib.hid has; clear has
        obtain ⟨hl, hsh⟩ := Bool.and_eq_true_iff.1 hA
        unfold lenB at hl
        rw [decide_eq_true_eq] at hl
        have hJ : joinOk size need L = true := by unfold joinOk lenB; simp only [Int.toNat_natCast]; rw [hsh, decide_eq_true hS, decide_eq_true hN, decide_eq_true hl]; rfl
        have hcols1 : 1 ≤ (size + need - 1) / need := (Nat.le_div_iff_mul_le (by omega)).2 (by omega)
        have hcols2 : (size + need - 1) / need ≤ 12 := by
          have := cols_le (d := List.replicate size 0) (need := need) (by omega) (by simp; omega)
          unfold colsN at this; rwa [List.length_replicate] at this
        have Hsol := Lib.hid (fun W (h : Rd W (.l (L.map shardD)) (.slice a L.length cap) fp) => impl_solve need _ L _ fp W (by omega) (by omega) (by omega) hcols1 hcols2 hsh h)
        have hDat : dataI size need L = (List.range size).map fun i => stAt need (eqs0 need (xsOf L) (vsOf L) need) need (i % need) (8 + i / need) := rfl
        have HDat := Lib.hid hDat; clear hDat
        have HJ := Lib.hid hJ; clear hJ hA hsh hcols1 hcols2
        generalize hG : stAt need (eqs0 need (xsOf L) (vsOf L) need) need = G at *
        clear hG
        have hzv := fun w => run_zeroValue (P := Try.prog) (ty := 78) (v := .agg (grC fun _ _ => 0)) (by kernel_rfl) w
        go_enter Try.func36, Try.ntmps36
        go_wp2_with fail
        refine (Hds.out _).mono ?_
        rintro e w' ⟨rfl, rfl⟩
        go_wp2_with fail
        refine (Hnm.out _).mono ?_
        rintro e w' ⟨rfl, rfl⟩
        go_wp2_with fail
        refine Has.out.mono ?_
        rintro e w1 ⟨rfl, hb1⟩
        have Hb1 := Lib.hid hb1
        have hs1 := Hb1.out.size
        have Hr1 := Lib.hid (Hr.out.under hb1); clear hb1
        go_wp2_with fail
        refine (Hsol.out _ Hr1.out).mono ?_
        rintro e w2 ⟨rfl, hb2⟩
        have Hb2 := Lib.hid (below_step Hb1.out hs1 hb2)
        have hs2 := hb2.size
        have Hr2 := Lib.hid (Hr1.out.under hb2); clear hb2
        go_wp2_with (refine wpList_store_row rfl 78 _ _ rfl w2.heap.size (grC G) rfl rfl 78 (grC fun _ _ => 0) (Str.new w2 78 (grC fun _ _ => 0)) (by rw [grC_size]; kernel_rfl) (by rw [grC_size, grC_size]) (grC_one _) ?_)
        have hg3 : Str (((w2.alloc (.cells (grC fun _ _ => 0) 78)).setRow w2.heap.size (grC G)).alloc (.cells #[] 3)) w2.heap.size 78 (grC G) := (setRow_str (Str.new w2 78 (grC fun _ _ => 0)) (grC G)).alloc _
        have hz3 : ((w2.alloc (.cells (grC fun _ _ => 0) 78)).setRow w2.heap.size (grC G)).heap.size = w2.heap.size + 1 := by simp [World.setRow]
        have ho3 := ownE 3 ((w2.alloc (.cells (grC fun _ _ => 0) 78)).setRow w2.heap.size (grC G))
        have hb3 : Below w2.heap.size w2 (((w2.alloc (.cells (grC fun _ _ => 0) 78)).setRow w2.heap.size (grC G)).alloc (.cells #[] 3)) := (((Below.refl _ w2).alloc (Nat.le_refl _) _).grown (grownBy_setRow _ _ _) (by simp) (fun g e => by cases e; omega)).alloc (by rw [hz3]; omega) _
        rw [hz3] at ho3
        clear hz3 hzv
        generalize ((w2.alloc (.cells (grC fun _ _ => 0) 78)).setRow w2.heap.size (grC G)).alloc (.cells #[] 3) = W3 at *
        have Hg3 := Lib.hid hg3; clear hg3
        have Ho3 := Lib.hid ho3; clear ho3
        have Hb3 := Lib.hid hb3; clear hb3
        have hdl := dataI_len size need L
        have Hdl := Lib.hid hdl; clear hdl
        go_loopw [9, 34] (fun v i wr => ∃ k : Nat, k ≤ size ∧ i = .int .i64 k ∧ Own 3 wr (w2.heap.size + 1) v ((dataI size need L).take k) ∧ Str wr w2.heap.size 78 (grC G) ∧ Below w2.heap.size w2 wr) (fun _ i _ => size - (intOf i).toNat)
        case atStart => exact ⟨0, by omega, rfl, Ho3.out, Hg3.out, Hb3.out⟩
        case round =>
          obtain ⟨k, hk, rfl, hown, hg, hbel⟩ := hrel
          have hsz := hg.lt
          have Hbel := Lib.hid hbel; clear hbel
          by_cases hlt : k < size
          · have hr8 : k % need < need := Nat.mod_lt _ (by omega)
            have hq12 : k / need < 12 := div_lt12 (by omega) hlt (by omega)
            have Hz := Lib.hid (show (dataI size need L).take (k + 1) = (dataI size need L).take k ++ [G (k % need) (8 + k / need)] by
              rw [List.take_succ_eq_append_getElem (by rw [Hdl.out]; exact hlt)]
              congr 1
              simp only [HDat.out, List.getElem_map, List.getElem_range])
            have hzl := Lib.hid (show ((dataI size need L).take k).length ≤ 1099511627776 by rw [List.length_take, Hdl.out]; omega)
            have hme : ((k : Int)).tmod (need : Int) = ((k % need : Nat) : Int) := by rw [Int.tmod_eq_emod_of_nonneg (by omega)]; exact (Int.natCast_emod _ _).symm
            have hde : ((k : Int)).tdiv (need : Int) = ((k / need : Nat) : Int) := by rw [Int.tdiv_eq_ediv_of_nonneg (by omega)]; exact (Int.natCast_ediv _ _).symm
            generalize k % need = r at *
            generalize k / need = q at *
            obtain ⟨m, hm⟩ : ∃ m : Nat, 8 + q = m := ⟨_, rfl⟩
            rw [hm] at Hz
            have hm20 : m < 20 := by omega
            have hw1 : IntKind.i64.wrap (q : Int) = (q : Int) := IntWalk.i64_in _ (by omega)
            have hw2 : IntKind.i64.wrap (8 + (q : Int)) = (m : Int) := by rw [IntWalk.i64_in _ (by omega)]; omega
            have hx1 := fun W => run_indexAt_arr (P := Try.prog) (B := w2.heap.size) (o := 0) Try.underlying78 (s := 20) (by kernel_rfl) (show r < 8 by omega) W
            have hx2 := fun W => run_indexAt_arr (P := Try.prog) (B := w2.heap.size) (o := r * 20) Try.underlying76 (s := 1) (by kernel_rfl) hm20 W
            rw [Nat.zero_add] at hx1
            rw [Nat.mul_one] at hx2
            clear hm
            generalize (dataI size need L).take k = zs at hown Hz hzl
            go_wp2_with fail
            refine wp_region_held_drew (S := fun w' => Str w' w2.heap.size 78 (grC G)) (by kernel_rfl) hg (fun hH => ?_)
            refine takeH 0 (v := ?vj0) rfl (by kernel_rfl) (by kernel_rfl) (by kernel_rfl) (fun _ _ _ h => h) hH rfl ?yj0 ?rj0
            case yj0 => intro W hSw; go_simp; try with_reducible rfl
            try simp only [Act.put, List.setIfInBounds_toArray, List.set_cons_zero, List.set_cons_succ]
            refine takeH 1 (v := ?vj1) rfl (by kernel_rfl) (by kernel_rfl) (by kernel_rfl) (fun _ _ _ h => h) hH rfl ?yj1 ?rj1
            case yj1 => intro W hSw; go_simp; try with_reducible rfl
            try simp only [Act.put, List.setIfInBounds_toArray, List.set_cons_zero, List.set_cons_succ]
            refine takeH 2 (v := ?vj2) rfl (by kernel_rfl) (by kernel_rfl) (by kernel_rfl) (fun _ _ _ h => h) hH rfl ?yj2 ?rj2
            case yj2 => intro W hSw; go_simp; try with_reducible rfl
            try simp only [Act.put, List.setIfInBounds_toArray, List.set_cons_zero, List.set_cons_succ]
            refine takeH 3 (v := ?vj3) rfl (by kernel_rfl) (by kernel_rfl) (by kernel_rfl) (fun _ _ _ h => h) hH rfl ?yj3 ?rj3
            case yj3 => intro W hSw; go_simp; rw [if_neg (show ¬ need = 0 by omega)]
            try simp only [Act.put, List.setIfInBounds_toArray, List.set_cons_zero, List.set_cons_succ]
            refine takeH 4 (v := ?vj4) rfl (by kernel_rfl) (by kernel_rfl) (by kernel_rfl) (fun _ _ _ h => h) hH rfl ?yj4 ?rj4
            case yj4 => intro W hSw; go_simp; try with_reducible rfl
            try simp only [Act.put, List.setIfInBounds_toArray, List.set_cons_zero, List.set_cons_succ]
            refine takeH 5 (v := ?vj5) rfl (by kernel_rfl) (by kernel_rfl) (by kernel_rfl) (fun _ _ _ h => h) hH rfl ?yj5 ?rj5
            case yj5 => intro W hSw; go_simp; try with_reducible rfl
            try simp only [Act.put, List.setIfInBounds_toArray, List.set_cons_zero, List.set_cons_succ]
            refine takeH 6 (v := ?vj6) rfl (by kernel_rfl) (by kernel_rfl) (by kernel_rfl) (fun _ _ _ h => h) hH rfl ?yj6 ?rj6
            case yj6 => intro W hSw; go_simp; rw [if_neg (show ¬ need = 0 by omega)]
            try simp only [Act.put, List.setIfInBounds_toArray, List.set_cons_zero, List.set_cons_succ]
            refine takeH 7 (v := ?vj7) rfl (by kernel_rfl) (by kernel_rfl) (by kernel_rfl) (fun _ _ _ h => h) hH rfl ?yj7 ?rj7
            case yj7 => intro W hSw; go_simp; try with_reducible rfl
            try simp only [Act.put, List.setIfInBounds_toArray, List.set_cons_zero, List.set_cons_succ]
            refine takeH 8 (v := ?vj8) rfl (by kernel_rfl) (by kernel_rfl) (by kernel_rfl) (fun _ _ _ h => h) hH rfl ?yj8 ?rj8
            case yj8 => intro W hSw; go_simp; try with_reducible rfl
            try simp only [Act.put, List.setIfInBounds_toArray, List.set_cons_zero, List.set_cons_succ]
            refine takeH 9 (v := ?vj9) rfl (by kernel_rfl) (by kernel_rfl) (by kernel_rfl) (fun _ _ _ h => h) hH rfl ?yj9 ?rj9
            case yj9 => intro W hSw; go_simp; try with_reducible rfl
            try simp only [Act.put, List.setIfInBounds_toArray, List.set_cons_zero, List.set_cons_succ]
            refine takeH 10 (v := ?vj10) rfl (by kernel_rfl) (by kernel_rfl) (by kernel_rfl) (fun _ _ _ h => h) hH rfl ?yj10 ?rj10
            case yj10 => intro W hSw; have hcc := Str.cell hSw (r * 20 + m) (grC_get (S := G) (k := r) (c := m) (by omega) hm20); go_simp; try with_reducible rfl
            try simp only [Act.put, List.setIfInBounds_toArray, List.set_cons_zero, List.set_cons_succ]
            refine callH 11 rfl (by kernel_rfl) rfl (fun K hK => ?_)
            go_simp
            refine hK.out _ _ (Str.alloc (W := wr.drew) hH _) (fun hH => ?_)
            clear hK K
            try simp only [Act.put, List.setIfInBounds_toArray, List.set_cons_zero, List.set_cons_succ]
            generalize G r m = z at *
            refine callH 12 rfl (by kernel_rfl) rfl (fun K hK => ?_)
            refine op_push_at TI3 wr.drew (.tmp 37) (.tmp 48) rfl (w2.heap.size + 1) u9 zs z rfl hown hzl.out rfl hsz ?_
            intro v8 W8 hown8 hg8 hat8
            have hne8 : u9.ownBlock ≠ some w2.heap.size := fun e => by have := (hown.lt _ e).1; omega
            refine hK.out _ _ (Str.kept (W := wr.drew) hg hg8 (fun e => hne8 e.symm)) (fun hH => ?_)
            clear hK K
            try simp only [Act.put, List.setIfInBounds_toArray, List.set_cons_zero, List.set_cons_succ]
            refine takeH 13 (v := ?vj13) rfl (by kernel_rfl) (by kernel_rfl) (by kernel_rfl) (fun _ _ _ h => h) hH rfl ?yj13 ?rj13
            case yj13 => intro W hSw; go_simp; try with_reducible rfl
            try simp only [Act.put, List.setIfInBounds_toArray, List.set_cons_zero, List.set_cons_succ]
            refine wpAnyH_done (by kernel_rfl) ?_ _
            try simp only [Act.put]
            have Hown8 := Lib.hid hown8; clear hown8
            have Hh8 := Lib.hid hH; clear hH
            have Hb8 := Lib.hid (Hbel.out.drew.grown hg8 Hbel.out.size (fun g e => by have := (hown.lt _ e).1; omega))
            clear hat8 hg8 hx1 hx2 hw1 hw2 hme hde
            go_wp2
            go_roundw
            case rel => exact ⟨k + 1, by omega, by go_num, by rw [Hz.out]; exact Hown8.out, Hh8.out, Hb8.out⟩
            case measure => simp [intOf]; omega
          · have hke : k = size := by omega
            subst hke
            rw [List.take_of_length_le (by rw [Hdl.out]; exact Nat.le_refl _)] at hown
            have Hyes := Lib.hid (fun h => join_yes (L := L) HJ.out h)
            have Hbad := Lib.hid (fun h => join_bad (size := (k : Int)) (need := (need : Int)) (L := L) h)
            simp only [Int.toNat_natCast] at Hyes Hbad
            have hD12 : (dataI k need L).length ≤ 12 := by rw [Hdl.out]; omega
            clear HJ HDat Hdl
            generalize dataI k need L = D at *
            obtain ⟨ad, cd, rfl, _, _, hDc⟩ := hown.src
            have Hown := Lib.hid hown; clear hown
            have HrW := Lib.hid (Hr2.out.underB Hbel.out (fun r hr => Hr2.out.lt r hr))
            have HbW := Lib.hid (below_step Hb2.out Hb2.out.size Hbel.out)
            clear Hg3 Ho3 Hb3 hg Hb1 Hr1 Hb2 Hr2 Hbel Hsol
            go_wp2_with fail
            go_loopw [53] (fun i wq => ∃ j : Nat, j ≤ L.length ∧ i = .int .i64 j ∧ Upto (matAt D need L) j ∧ Below wr.heap.size wr wq) (fun i _ => L.length - (intOf i).toNat)
            case atStart => exact ⟨0, by omega, rfl, upto_zero _, Below.refl _ _⟩
            case round =>
              obtain ⟨j, hj, rfl, hup, hbel⟩ := hrel
              have Hup := Lib.hid hup; clear hup
              by_cases hlt : j < L.length
              · obtain ⟨g, off, rfl, hg, hat⟩ := shards_at (HrW.out.under hbel) (by omega)
                obtain ⟨av, cv, C0, C1, I1⟩ := hat j hlt
                have hxs := Hin.out _ (List.getElem_mem hlt)
                have Hms := Lib.hid (fun (h : matB D need L[j] = true) => upto_step Hup.out (show matAt D need L j = true by unfold matAt; rw [getS hlt]; exact h))
                have Hmn := Lib.hid (fun (h : matB D need L[j] = false) => mat_no hlt h)
                have Hbel := Lib.hid hbel
                have Hs := Lib.hid (show L[j] = (L[j].1, L[j].2) from rfl)
                rw [Hs.out] at Hms Hmn
                clear hat hbel Hs
                generalize L[j].1 = x at *
                generalize L[j].2 = vs at *
                have Hba := Lib.hid (Hbel.out.alloc Hbel.out.size (.cells #[.int .i64 x, .slice av vs.length cv] 55))
                have Hown2 := Lib.hid (Hown.out.below Hba.out)
                have hm := impl_ShardMatches ad cd D need x av cv vs _ (by omega) hDc (by omega) (IntsAt_own Hown2.out) (I1.below ((Below.refl _ _).alloc (Nat.le_refl _) (.cells #[.int .i64 x, .slice av vs.length cv] 55)))
                clear I1
                cases hmb : matB D need (x, vs) with
                | true =>
                  rw [hmb] at hm
                  have Hm := Lib.hid hm; clear hm
                  have Hms' := Lib.hid (Hms.out hmb)
                  clear hmb
                  go_wp2_with fail
                  refine Hm.out.mono ?_
                  rintro e w6 ⟨rfl, hb6⟩
                  have Hb6 := Lib.hid (below_step Hba.out Hba.out.size hb6)
                  clear hb6
                  go_wp2
                  go_roundw
                  case rel => exact ⟨j + 1, by omega, by go_num, Hms'.out, Hb6.out⟩
                  case measure => simp [intOf]; omega
                | false =>
                  rw [hmb] at hm
                  have Hm := Lib.hid hm; clear hm
                  have Hf := Lib.hid (Hbad.out (Hmn.out hmb))
                  clear hmb
                  go_wp2_with fail
                  refine Hm.out.mono ?_
                  rintro e w6 ⟨rfl, hb6⟩
                  have Hb6 := Lib.hid (below_step HbW.out HbW.out.size (below_step Hba.out Hba.out.size hb6))
                  have hs6 := Hb6.out.size
                  clear hb6
                  go_wp2
                  refine bodyPost_ret (v := .tuple #[.slice (some ⟨w6.heap.size, 0, none⟩) 0 0, .bool false]) (by simp [results, Try.f36, go_sem]) rfl ?_
                  rw [Hf.out.1, Hf.out.2]
                  exact ⟨_, rfl, (ownE 3 w6).mono hs6, Hb6.out.alloc hs6 _⟩
              · have Hf := Lib.hid (Hyes.out (mat_all Hup.out (by omega)))
                have Hown2 := Lib.hid (Hown.out.below hbel)
                have Hb2 := Lib.hid (below_step HbW.out HbW.out.size hbel)
                clear hbel
                go_wp2
                refine bodyPost_ret (v := .tuple #[.slice ad D.length cd, .bool true]) (by simp [results, Try.f36, go_sem]) rfl ?_
                rw [Hf.out.1, Hf.out.2]
                exact ⟨_, rfl, Hown2.out.mono (by omega), Hb2.out⟩
    · rw [decide_eq_false hN] at hnm
      have Hnm := Lib.hid hnm; clear hnm
      have Hf := Lib.hid (join_no (size := size) (L := L) (show joinOk size need L = false by unfold joinOk; rw [decide_eq_false hN, Bool.and_false]; rfl))
      go_enter Try.func36, Try.ntmps36
      go_wp2_with fail
      refine (Hds.out _).mono ?_
      rintro e w' ⟨rfl, rfl⟩
      go_wp2_with fail
      refine (Hnm.out _).mono ?_
      rintro e w' ⟨rfl, rfl⟩
      go_wp2
      refine bodyPost_ret (v := .tuple #[.slice (some ⟨w.heap.size, 0, none⟩) 0 0, .bool false]) (by simp [results, Try.f36, go_sem]) rfl ?_
      rw [Hf.out.1, Hf.out.2]
      exact ⟨_, rfl, ownE 3 w, (Below.refl _ _).alloc (Nat.le_refl _) _⟩
  · rw [decide_eq_false hS] at hds
    have Hds := Lib.hid hds; clear hds
    have Hf := Lib.hid (join_no (need := need) (L := L) (show joinOk size need L = false by unfold joinOk; rw [decide_eq_false hS]; rfl))
    go_enter Try.func36, Try.ntmps36
    go_wp2_with fail
    refine (Hds.out _).mono ?_
    rintro e w' ⟨rfl, rfl⟩
    go_wp2
    refine bodyPost_ret (v := .tuple #[.slice (some ⟨w.heap.size, 0, none⟩) 0 0, .bool false]) (by simp [results, Try.f36, go_sem]) rfl ?_
    rw [Hf.out.1, Hf.out.2]
    exact ⟨_, rfl, ownE 3 w, (Below.refl _ _).alloc (Nat.le_refl _) _⟩

end Go.Proofs.Ytkndndcjchlpdab
