/- Texts that the laws of this folder share, one behind another; no conditions. -/
import Derived.Test.YtnaeeemgehgdfabBu1
import Derived.IntWalk
import Derived.Test.YtnaeeemgehgdfabRows
import Derived.Test.YtnaeeemgehgdfabBu0
import Derived.Deep.Slices
import Derived.ChangeArms
import Derived.ChangeSame

/- What impl's join of shards is, by a walk of its text; conditions: the lists are short, the numbers are ints. -/
namespace Go.Proofs.Ytnaeeemgehgdfab
open Go.RowKit

theorem join_no {size need : Int} {L : List Sh} (h : joinOk size need L = false) : joinB size need L = false ∧ joinD size need L = [] := by
  have : joinB size need L = false := by unfold joinB; rw [h]; rfl
  exact ⟨this, by unfold joinD; rw [if_neg (by simp [this])]⟩
theorem join_yes {size need : Int} {L : List Sh} (h : joinOk size need L = true) (h' : L.all (matB (dataI size.toNat need.toNat L) need) = true) : joinB size need L = true ∧ joinD size need L = dataI size.toNat need.toNat L := by
  have : joinB size need L = true := by unfold joinB; rw [h, h']; rfl
  exact ⟨this, by unfold joinD; rw [if_pos this]⟩
theorem join_bad {size need : Int} {L : List Sh} (h' : L.all (matB (dataI size.toNat need.toNat L) need) = false) : joinB size need L = false ∧ joinD size need L = [] := by
  have : joinB size need L = false := by unfold joinB; rw [h', Bool.and_false]
  exact ⟨this, by unfold joinD; rw [if_neg (by simp [this])]⟩
def matAt (d : List Int) (need : Int) (L : List Sh) (k : Nat) : Bool := matB d need (L.getD k (0, []))
theorem mat_all {d : List Int} {need : Int} {L : List Sh} {k : Nat} (h : Upto (matAt d need L) k) (hk : L.length ≤ k) : L.all (matB d need) = true := by
  rw [List.all_eq_true]
  intro s hs
  obtain ⟨j, hj, rfl⟩ := List.mem_iff_getElem.1 hs
  have := h j (by omega)
  unfold matAt at this
  rwa [getS hj] at this
theorem mat_no {d : List Int} {need : Int} {L : List Sh} {k : Nat} (hk : k < L.length) (h : matB d need L[k] = false) : L.all (matB d need) = false := by
  rw [List.all_eq_false]; exact ⟨L[k], List.getElem_mem hk, by simp [h]⟩
theorem ownE (E : TypeId) (w : World) : Own E (w.alloc (.cells #[] E)) w.heap.size (.slice (some ⟨w.heap.size, 0, none⟩) 0 0) [] := own_empty E w (Nat.le_refl _)

set_option maxHeartbeats 2000000 in
theorem impl_ShardJoin (size need : Int) (L : List Sh) (v : Value) (fp : List Nat) (w : World) (hbig : L.length ≤ 1048576) (hin : ∀ s ∈ L, s.2.length ≤ 1048576) (hr : Rd w (.l (L.map shardD)) v fp) :
    Calls Try.prog 8 #[.int .i64 size, .int .i64 need, v] w fun e w' => ∃ u, e = .returned (.tuple #[u, .bool (joinB size need L)]) ∧ Own 3 w' w.heap.size u (joinD size need L) ∧ Below w.heap.size w w' := by
  obtain ⟨a, cap, rfl⟩ := hr.slice
  rw [List.length_map] at *
  have Hr := Lib.hid hr; clear hr
  have Hin := Lib.hid hin; clear hin
  have hds := fun w => impl_isDataSize size w
  have hnm := fun w => impl_isShardNumber need w
  by_cases hS : 1 ≤ size ∧ size ≤ 12
  · rw [decide_eq_true hS] at hds
    have Hds := Lib.hid hds; clear hds
    by_cases hN : 1 ≤ need ∧ need ≤ 8
    · rw [decide_eq_true hN] at hnm
      have Hnm := Lib.hid hnm; clear hnm
      obtain ⟨size, rfl⟩ := Int.eq_ofNat_of_zero_le (show 0 ≤ size by omega)
      obtain ⟨need, rfl⟩ := Int.eq_ofNat_of_zero_le (show 0 ≤ need by omega)
      have has := impl_areShards size need L _ fp w (by omega) (by omega) (by omega) (by omega) hbig Hin.out Hr.out
      cases hA : (lenB need L && shsB ((size + need - 1) / need) L) with
      | false =>
        rw [hA] at has
        have Has := Lib.hid has; clear has
        have Hf := Lib.hid (join_no (size := size) (need := need) (L := L) (by unfold joinOk; simp only [Int.toNat_natCast]; rw [hA, Bool.and_false]))
        clear hA
        go_enter Try.func8, Try.ntmps8
        go_wp2_with fail
        refine (Hds.out _).mono ?_
        rintro e w' ⟨rfl, rfl⟩
        go_wp2_with fail
        refine (Hnm.out _).mono ?_
        rintro e w' ⟨rfl, rfl⟩
        go_wp2_with fail
        refine Has.out.mono ?_
        rintro e w1 ⟨rfl, hb1⟩
        have Hb1 := Lib.hid hb1; clear hb1
        have hs1 := Hb1.out.size
        go_wp2
        refine bodyPost_ret (v := .tuple #[.slice (some ⟨w1.heap.size, 0, none⟩) 0 0, .bool false]) (by simp [results, Try.f8, go_sem]) rfl ?_
        rw [Hf.out.1, Hf.out.2]
        exact ⟨_, rfl, (ownE 3 w1).mono hs1, Hb1.out.alloc hs1 _⟩
      | true =>
        rw [hA] at has
        have Has := Lib.hid has; clear has
        obtain ⟨hl, hsh⟩ := Bool.and_eq_true_iff.1 hA
        unfold lenB at hl
        rw [decide_eq_true_eq] at hl
        have hJ : joinOk size need L = true := by unfold joinOk lenB; simp only [Int.toNat_natCast]; rw [hsh, decide_eq_true hS, decide_eq_true hN, decide_eq_true hl]; rfl
        have hcols1 : 1 ≤ (size + need - 1) / need := (Nat.le_div_iff_mul_le (by omega)).2 (by omega)
        have hcols2 : (size + need - 1) / need ≤ 12 := by
          have := cols_le (d := List.replicate size 0) (need := need) (by omega) (by simp; omega)
          unfold colsN at this; rwa [List.length_replicate] at this
        have Hsol := Lib.hid (fun W (h : Rd W (.l (L.map shardD)) (.slice a L.length cap) fp) => impl_solve need _ L _ fp W (by omega) (by omega) (by omega) hcols1 hcols2 hsh h)
        have hDat : dataI size need L = (List.range size).map fun i => stAt need (eqs0 need (xsOf L) (vsOf L) need) need (i % need) (8 + i / need) := rfl
        have HDat := Lib.hid hDat; clear hDat
        have HJ := Lib.hid hJ; clear hJ hA hsh hcols1 hcols2
        generalize hG : stAt need (eqs0 need (xsOf L) (vsOf L) need) need = G at *
        clear hG
        have hzv := fun w => run_zeroValue (P := Try.prog) (ty := 49) (v := .agg (grC fun _ _ => 0)) (by kernel_rfl) w
        go_enter Try.func8, Try.ntmps8
        go_wp2_with fail
        refine (Hds.out _).mono ?_
        rintro e w' ⟨rfl, rfl⟩
        go_wp2_with fail
        refine (Hnm.out _).mono ?_
        rintro e w' ⟨rfl, rfl⟩
        go_wp2_with fail
        refine Has.out.mono ?_
        rintro e w1 ⟨rfl, hb1⟩
        have Hb1 := Lib.hid hb1
        have hs1 := Hb1.out.size
        have Hr1 := Lib.hid (Hr.out.under hb1); clear hb1
        go_wp2_with fail
        refine (Hsol.out _ Hr1.out).mono ?_
        rintro e w2 ⟨rfl, hb2⟩
        have Hb2 := Lib.hid (below_step Hb1.out hs1 hb2)
        have hs2 := hb2.size
        have Hr2 := Lib.hid (Hr1.out.under hb2); clear hb2
        go_wp2_with (refine wpList_store_row rfl 49 _ _ rfl w2.heap.size (grC G) rfl rfl 49 (grC fun _ _ => 0) (Str.new w2 49 (grC fun _ _ => 0)) (by rw [grC_size]; kernel_rfl) (by rw [grC_size, grC_size]) (grC_one _) ?_)
        have hg3 : Str (((w2.alloc (.cells (grC fun _ _ => 0) 49)).setRow w2.heap.size (grC G)).alloc (.cells #[] 3)) w2.heap.size 49 (grC G) := (setRow_str (Str.new w2 49 (grC fun _ _ => 0)) (grC G)).alloc _
        have hz3 : ((w2.alloc (.cells (grC fun _ _ => 0) 49)).setRow w2.heap.size (grC G)).heap.size = w2.heap.size + 1 := by simp [World.setRow]
        have ho3 := ownE 3 ((w2.alloc (.cells (grC fun _ _ => 0) 49)).setRow w2.heap.size (grC G))
        have hb3 : Below w2.heap.size w2 (((w2.alloc (.cells (grC fun _ _ => 0) 49)).setRow w2.heap.size (grC G)).alloc (.cells #[] 3)) := (((Below.refl _ w2).alloc (Nat.le_refl _) _).grown (grownBy_setRow _ _ _) (by simp) (fun g e => by cases e; omega)).alloc (by rw [hz3]; omega) _
        rw [hz3] at ho3
        clear hz3 hzv
        generalize ((w2.alloc (.cells (grC fun _ _ => 0) 49)).setRow w2.heap.size (grC G)).alloc (.cells #[] 3) = W3 at *
        have Hg3 := Lib.hid hg3; clear hg3
        have Ho3 := Lib.hid ho3; clear ho3
        have Hb3 := Lib.hid hb3; clear hb3
        have hdl := dataI_len size need L
        have Hdl := Lib.hid hdl; clear hdl
        go_loopw [9, 34] (fun v i wr => ∃ k : Nat, k ≤ size ∧ i = .int .i64 k ∧ Own 3 wr (w2.heap.size + 1) v ((dataI size need L).take k) ∧ Str wr w2.heap.size 49 (grC G) ∧ Below w2.heap.size w2 wr) (fun _ i _ => size - (intOf i).toNat)
        case atStart => exact ⟨0, by omega, rfl, Ho3.out, Hg3.out, Hb3.out⟩
        case round =>
          obtain ⟨k, hk, rfl, hown, hg, hbel⟩ := hrel
          have hsz := hg.lt
          have Hbel := Lib.hid hbel; clear hbel
          by_cases hlt : k < size
          · have hr8 : k % need < need := Nat.mod_lt _ (by omega)
            have hq12 : k / need < 12 := div_lt12 (by omega) hlt (by omega)
            have Hz := Lib.hid (show (dataI size need L).take (k + 1) = (dataI size need L).take k ++ [G (k % need) (8 + k / need)] by
              rw [List.take_succ_eq_append_getElem (by rw [Hdl.out]; exact hlt)]
              congr 1
              simp only [HDat.out, List.getElem_map, List.getElem_range])
            have hzl := Lib.hid (show ((dataI size need L).take k).length ≤ 1099511627776 by rw [List.length_take, Hdl.out]; omega)
            have hme : ((k : Int)).tmod (need : Int) = ((k % need : Nat) : Int) := by rw [Int.tmod_eq_emod_of_nonneg (by omega)]; exact (Int.natCast_emod _ _).symm
            have hde : ((k : Int)).tdiv (need : Int) = ((k / need : Nat) : Int) := by rw [Int.tdiv_eq_ediv_of_nonneg (by omega)]; exact (Int.natCast_ediv _ _).symm
            generalize k % need = r at *
            generalize k / need = q at *
            obtain ⟨m, hm⟩ : ∃ m : Nat, 8 + q = m := ⟨_, rfl⟩
            rw [hm] at Hz
            have hm20 : m < 20 := by omega
            have hw1 : IntKind.i64.wrap (q : Int) = (q : Int) := IntWalk.i64_in _ (by omega)
            have hw2 : IntKind.i64.wrap (8 + (q : Int)) = (m : Int) := by rw [IntWalk.i64_in _ (by omega)]; omega
            have hx1 := fun W => run_indexAt_arr (P := Try.prog) (B := w2.heap.size) (o := 0) Try.underlying49 (s := 20) (by kernel_rfl) (show r < 8 by omega) W
            have hx2 := fun W => run_indexAt_arr (P := Try.prog) (B := w2.heap.size) (o := r * 20) Try.underlying47 (s := 1) (by kernel_rfl) hm20 W
            rw [Nat.zero_add] at hx1
            rw [Nat.mul_one] at hx2
            clear hm
            generalize (dataI size need L).take k = zs at hown Hz hzl
            go_wp2_with fail
            refine wp_region_held_drew (S := fun w' => Str w' w2.heap.size 49 (grC G)) (by kernel_rfl) hg (fun hH => ?_)
            refine takeH 0 (v := ?vj0) rfl (by kernel_rfl) (by kernel_rfl) (by kernel_rfl) (fun _ _ _ h => h) hH rfl ?yj0 ?rj0
            case yj0 => intro W hSw; go_simp; try with_reducible rfl
            try simp only [Act.put, List.setIfInBounds_toArray, List.set_cons_zero, List.set_cons_succ]
            refine takeH 1 (v := ?vj1) rfl (by kernel_rfl) (by kernel_rfl) (by kernel_rfl) (fun _ _ _ h => h) hH rfl ?yj1 ?rj1
            case yj1 => intro W hSw; go_simp; try with_reducible rfl
            try simp only [Act.put, List.setIfInBounds_toArray, List.set_cons_zero, List.set_cons_succ]
            refine takeH 2 (v := ?vj2) rfl (by kernel_rfl) (by kernel_rfl) (by kernel_rfl) (fun _ _ _ h => h) hH rfl ?yj2 ?rj2
            case yj2 => intro W hSw; go_simp; try with_reducible rfl
            try simp only [Act.put, List.setIfInBounds_toArray, List.set_cons_zero, List.set_cons_succ]
            refine takeH 3 (v := ?vj3) rfl (by kernel_rfl) (by kernel_rfl) (by kernel_rfl) (fun _ _ _ h => h) hH rfl ?yj3 ?rj3
            case yj3 => intro W hSw; go_simp; rw [if_neg (show ¬ need = 0 by omega)]
            try simp only [Act.put, List.setIfInBounds_toArray, List.set_cons_zero, List.set_cons_succ]
            refine takeH 4 (v := ?vj4) rfl (by kernel_rfl) (by kernel_rfl) (by kernel_rfl) (fun _ _ _ h => h) hH rfl ?yj4 ?rj4
            case yj4 => intro W hSw; go_simp; try with_reducible rfl
            try simp only [Act.put, List.setIfInBounds_toArray, List.set_cons_zero, List.set_cons_succ]
            refine takeH 5 (v := ?vj5) rfl (by kernel_rfl) (by kernel_rfl) (by kernel_rfl) (fun _ _ _ h => h) hH rfl ?yj5 ?rj5
            case yj5 => intro W hSw; go_simp; try with_reducible rfl
            try simp only [Act.put, List.setIfInBounds_toArray, List.set_cons_zero, List.set_cons_succ]
            refine takeH 6 (v := ?vj6) rfl (by kernel_rfl) (by kernel_rfl) (by kernel_rfl) (fun _ _ _ h => h) hH rfl ?yj6 ?rj6
            case yj6 => intro W hSw; go_simp; rw [if_neg (show ¬ need = 0 by omega)]
            try simp only [Act.put, List.setIfInBounds_toArray, List.set_cons_zero, List.set_cons_succ]
            refine takeH 7 (v := ?vj7) rfl (by kernel_rfl) (by kernel_rfl) (by kernel_rfl) (fun _ _ _ h => h) hH rfl ?yj7 ?rj7
            case yj7 => intro W hSw; go_simp; try with_reducible rfl
            try simp only [Act.put, List.setIfInBounds_toArray, List.set_cons_zero, List.set_cons_succ]
            refine takeH 8 (v := ?vj8) rfl (by kernel_rfl) (by kernel_rfl) (by kernel_rfl) (fun _ _ _ h => h) hH rfl ?yj8 ?rj8
            case yj8 => intro W hSw; go_simp; try with_reducible rfl
            try simp only [Act.put, List.setIfInBounds_toArray, List.set_cons_zero, List.set_cons_succ]
            refine takeH 9 (v := ?vj9) rfl (by kernel_rfl) (by kernel_rfl) (by kernel_rfl) (fun _ _ _ h => h) hH rfl ?yj9 ?rj9
            case yj9 => intro W hSw; go_simp; try with_reducible rfl
            try simp only [Act.put, List.setIfInBounds_toArray, List.set_cons_zero, List.set_cons_succ]
            refine takeH 10 (v := ?vj10) rfl (by kernel_rfl) (by kernel_rfl) (by kernel_rfl) (fun _ _ _ h => h) hH rfl ?yj10 ?rj10
            case yj10 => intro W hSw; have hcc := Str.cell hSw (r * 20 + m) (grC_get (S := G) (k := r) (c := m) (by omega) hm20); go_simp; try with_reducible rfl
            try simp only [Act.put, List.setIfInBounds_toArray, List.set_cons_zero, List.set_cons_succ]
            refine callH 11 rfl (by kernel_rfl) rfl (fun K hK => ?_)
            go_simp
            refine hK.out _ _ (Str.alloc (W := wr.drew) hH _) (fun hH => ?_)
            clear hK K
            try simp only [Act.put, List.setIfInBounds_toArray, List.set_cons_zero, List.set_cons_succ]
            generalize G r m = z at *
            refine callH 12 rfl (by kernel_rfl) rfl (fun K hK => ?_)
            refine op_push_at TI3 wr.drew (.tmp 37) (.tmp 48) rfl (w2.heap.size + 1) u9 zs z rfl hown hzl.out rfl hsz ?_
            intro v8 W8 hown8 hg8 hat8
            have hne8 : u9.ownBlock ≠ some w2.heap.size := fun e => by have := (hown.lt _ e).1; omega
            refine hK.out _ _ (Str.kept (W := wr.drew) hg hg8 (fun e => hne8 e.symm)) (fun hH => ?_)
            clear hK K
            try simp only [Act.put, List.setIfInBounds_toArray, List.set_cons_zero, List.set_cons_succ]
            refine takeH 13 (v := ?vj13) rfl (by kernel_rfl) (by kernel_rfl) (by kernel_rfl) (fun _ _ _ h => h) hH rfl ?yj13 ?rj13
            case yj13 => intro W hSw; go_simp; try with_reducible rfl
            try simp only [Act.put, List.setIfInBounds_toArray, List.set_cons_zero, List.set_cons_succ]
            refine wpAnyH_done (by kernel_rfl) ?_ _
            try simp only [Act.put]
            have Hown8 := Lib.hid hown8; clear hown8
            have Hh8 := Lib.hid hH; clear hH
            have Hb8 := Lib.hid (Hbel.out.drew.grown hg8 Hbel.out.size (fun g e => by have := (hown.lt _ e).1; omega))
            clear hat8 hg8 hx1 hx2 hw1 hw2 hme hde
            go_wp2
            go_roundw
            case rel => exact ⟨k + 1, by omega, by go_num, by rw [Hz.out]; exact Hown8.out, Hh8.out, Hb8.out⟩
            case measure => simp [intOf]; omega
          · have hke : k = size := by omega
            subst hke
            rw [List.take_of_length_le (by rw [Hdl.out]; exact Nat.le_refl _)] at hown
            have Hyes := Lib.hid (fun h => join_yes (L := L) HJ.out h)
            have Hbad := Lib.hid (fun h => join_bad (size := (k : Int)) (need := (need : Int)) (L := L) h)
            simp only [Int.toNat_natCast] at Hyes Hbad
            have hD12 : (dataI k need L).length ≤ 12 := by rw [Hdl.out]; omega
            clear HJ HDat Hdl
            generalize dataI k need L = D at *
            obtain ⟨ad, cd, rfl, _, _, hDc⟩ := hown.src
            have Hown := Lib.hid hown; clear hown
            have HrW := Lib.hid (Hr2.out.underB Hbel.out (fun r hr => Hr2.out.lt r hr))
            have HbW := Lib.hid (below_step Hb2.out Hb2.out.size Hbel.out)
            clear Hg3 Ho3 Hb3 hg Hb1 Hr1 Hb2 Hr2 Hbel Hsol
            go_wp2_with fail
            go_loopw [53] (fun i wq => ∃ j : Nat, j ≤ L.length ∧ i = .int .i64 j ∧ Upto (matAt D need L) j ∧ Below wr.heap.size wr wq) (fun i _ => L.length - (intOf i).toNat)
            case atStart => exact ⟨0, by omega, rfl, upto_zero _, Below.refl _ _⟩
            case round =>
              obtain ⟨j, hj, rfl, hup, hbel⟩ := hrel
              have Hup := Lib.hid hup; clear hup
              by_cases hlt : j < L.length
              · obtain ⟨g, off, rfl, hg, hat⟩ := shards_at (HrW.out.under hbel) (by omega)
                obtain ⟨av, cv, C0, C1, I1⟩ := hat j hlt
                have hxs := Hin.out _ (List.getElem_mem hlt)
                have Hms := Lib.hid (fun (h : matB D need L[j] = true) => upto_step Hup.out (show matAt D need L j = true by unfold matAt; rw [getS hlt]; exact h))
                have Hmn := Lib.hid (fun (h : matB D need L[j] = false) => mat_no hlt h)
                have Hbel := Lib.hid hbel
                have Hs := Lib.hid (show L[j] = (L[j].1, L[j].2) from rfl)
                rw [Hs.out] at Hms Hmn
                clear hat hbel Hs
                generalize L[j].1 = x at *
                generalize L[j].2 = vs at *
                have Hba := Lib.hid (Hbel.out.alloc Hbel.out.size (.cells #[.int .i64 x, .slice av vs.length cv] 28))
                have Hown2 := Lib.hid (Hown.out.below Hba.out)
                have hm := impl_ShardMatches ad cd D need x av cv vs _ (by omega) hDc (by omega) (IntsAt_own Hown2.out) (I1.below ((Below.refl _ _).alloc (Nat.le_refl _) (.cells #[.int .i64 x, .slice av vs.length cv] 28)))
                clear I1
                cases hmb : matB D need (x, vs) with
                | true =>
                  rw [hmb] at hm
                  have Hm := Lib.hid hm; clear hm
                  have Hms' := Lib.hid (Hms.out hmb)
                  clear hmb
                  go_wp2_with fail
                  refine Hm.out.mono ?_
                  rintro e w6 ⟨rfl, hb6⟩
                  have Hb6 := Lib.hid (below_step Hba.out Hba.out.size hb6)
                  clear hb6
                  go_wp2
                  go_roundw
                  case rel => exact ⟨j + 1, by omega, by go_num, Hms'.out, Hb6.out⟩
                  case measure => simp [intOf]; omega
                | false =>
                  rw [hmb] at hm
                  have Hm := Lib.hid hm; clear hm
                  have Hf := Lib.hid (Hbad.out (Hmn.out hmb))
                  clear hmb
                  go_wp2_with fail
                  refine Hm.out.mono ?_
                  rintro e w6 ⟨rfl, hb6⟩
                  have Hb6 := Lib.hid (below_step HbW.out HbW.out.size (below_step Hba.out Hba.out.size hb6))
                  have hs6 := Hb6.out.size
                  clear hb6
                  go_wp2
                  refine bodyPost_ret (v := .tuple #[.slice (some ⟨w6.heap.size, 0, none⟩) 0 0, .bool false]) (by simp [results, Try.f8, go_sem]) rfl ?_
                  rw [Hf.out.1, Hf.out.2]
                  exact ⟨_, rfl, (ownE 3 w6).mono hs6, Hb6.out.alloc hs6 _⟩
              · have Hf := Lib.hid (Hyes.out (mat_all Hup.out (by omega)))
                have Hown2 := Lib.hid (Hown.out.below hbel)
                have Hb2 := Lib.hid (below_step HbW.out HbW.out.size hbel)
                clear hbel
                go_wp2
                refine bodyPost_ret (v := .tuple #[.slice ad D.length cd, .bool true]) (by simp [results, Try.f8, go_sem]) rfl ?_
                rw [Hf.out.1, Hf.out.2]
                exact ⟨_, rfl, Hown2.out.mono (by omega), Hb2.out⟩
    · rw [decide_eq_false hN] at hnm
      have Hnm := Lib.hid hnm; clear hnm
      have Hf := Lib.hid (join_no (size := size) (L := L) (show joinOk size need L = false by unfold joinOk; rw [decide_eq_false hN, Bool.and_false]; rfl))
      go_enter Try.func8, Try.ntmps8
      go_wp2_with fail
      refine (Hds.out _).mono ?_
      rintro e w' ⟨rfl, rfl⟩
      go_wp2_with fail
      refine (Hnm.out _).mono ?_
      rintro e w' ⟨rfl, rfl⟩
      go_wp2
      refine bodyPost_ret (v := .tuple #[.slice (some ⟨w.heap.size, 0, none⟩) 0 0, .bool false]) (by simp [results, Try.f8, go_sem]) rfl ?_
      rw [Hf.out.1, Hf.out.2]
      exact ⟨_, rfl, ownE 3 w, (Below.refl _ _).alloc (Nat.le_refl _) _⟩
  · rw [decide_eq_false hS] at hds
    have Hds := Lib.hid hds; clear hds
    have Hf := Lib.hid (join_no (need := need) (L := L) (show joinOk size need L = false by unfold joinOk; rw [decide_eq_false hS]; rfl))
    go_enter Try.func8, Try.ntmps8
    go_wp2_with fail
    refine (Hds.out _).mono ?_
    rintro e w' ⟨rfl, rfl⟩
    go_wp2
    refine bodyPost_ret (v := .tuple #[.slice (some ⟨w.heap.size, 0, none⟩) 0 0, .bool false]) (by simp [results, Try.f8, go_sem]) rfl ?_
    rw [Hf.out.1, Hf.out.2]
    exact ⟨_, rfl, ownE 3 w, (Below.refl _ _).alloc (Nat.le_refl _) _⟩

end Go.Proofs.Ytnaeeemgehgdfab

/- Lists of shards read, cut and joined; plain steps on lists and memory, no walk and no condition of our own. -/
namespace Go.Proofs.Ytnaeeemgehgdfab
open Go.RowKit

theorem shsB_of {cols : Nat} {L : List Sh} (h : ∀ k (hk : k < L.length), (1 ≤ L[k].1 ∧ L[k].1 ≤ 8) ∧ L[k].2.length = cols ∧ ∀ y ∈ L[k].2, 0 ≤ y ∧ y ≤ 250) (hd : ∀ j k (hj : j < L.length) (hk : k < L.length), j < k → L[j].1 ≠ L[k].1) : shsB cols L = true := by
  refine allB_yes (k := L.length) (fun k hk => ?_) (Nat.le_refl _)
  obtain ⟨h1, h2, h3⟩ := h k hk
  unfold shAt okS newAt
  rw [getS hk, decide_eq_true h1, decide_eq_true h2, show L[k].2.all symB = true from List.all_eq_true.2 fun y hy => symB_yes (h3 y hy)]
  rw [Bool.true_and, Bool.true_and, Bool.true_and]
  refine allB_yes (k := k) (fun j hj => ?_) (Nat.le_refl _)
  have e1 : xsOf L j = L[j].1 := by unfold xsOf; rw [getS (by omega)]
  have e2 : xsOf L k = L[k].1 := by unfold xsOf; rw [getS hk]
  rw [e1, e2]
  exact decide_eq_true (hd j k (by omega) hk hj)
theorem shardV_bd {d : List Int} {need : Nat} {x : Int} : ∀ y ∈ shardV d need x, 0 ≤ y ∧ y ≤ 250 := by
  intro y hy
  obtain ⟨j, hj, rfl⟩ := List.mem_iff_getElem.1 hy
  rw [shardV_get]; exact valZ_bd _ _ _ _
/-- Shards of data, with different numbers, are joined to the data. -/
theorem join_of {d : List Int} {need : Nat} {L : List Sh} (hd : dataB d need = true) (hn : need ≤ L.length) (h8 : L.length ≤ 8) (hv : ∀ k (hk : k < L.length), (1 ≤ L[k].1 ∧ L[k].1 ≤ 8) ∧ L[k].2 = shardV d need L[k].1) (hne : ∀ j k (hj : j < L.length) (hk : k < L.length), j < k → L[j].1 ≠ L[k].1) :
    joinB d.length need L = true ∧ joinD d.length need L = d := by
  have hs : shsB (colsN d need) L = true := shsB_of (fun k hk => ⟨(hv k hk).1, by rw [(hv k hk).2, shardV_len], by rw [(hv k hk).2]; exact shardV_bd⟩) hne
  have hm : ∀ s ∈ L, s.2 = shardV d need s.1 := by
    intro s h
    obtain ⟨k, hk, rfl⟩ := List.mem_iff_getElem.1 h
    exact (hv k hk).2
  have hD := dataI_eq hd hn hs hm
  obtain ⟨_, ⟨hl1, hl2⟩, hn1, hn8⟩ := dataB_iff hd
  have hJ : joinOk d.length need L = true := by
    unfold joinOk lenB
    simp only [Int.toNat_natCast]
    rw [decide_eq_true (by omega), decide_eq_true (by omega), decide_eq_true (by omega)]
    exact hs
  have hall : L.all (matB (dataI (d.length : Int).toNat (need : Int).toNat L) need) = true := by
    simp only [Int.toNat_natCast]
    rw [hD, List.all_eq_true]
    intro s h
    obtain ⟨k, hk, rfl⟩ := List.mem_iff_getElem.1 h
    rw [matB_yes hd (hv k hk).1]
    exact decide_eq_true (hv k hk).2.symm
  have := join_yes hJ hall
  simp only [Int.toNat_natCast] at this
  rw [hD] at this
  exact this
/-- What is joined has all the shards. -/
theorem join_has {size need : Nat} {L : List Sh} (h : joinB size need L = true) : ∃ D : List Int, D.length = size ∧ dataB D need = true ∧ ∀ k (hk : k < L.length), (1 ≤ L[k].1 ∧ L[k].1 ≤ 8) ∧ shardV D need L[k].1 = L[k].2 := by
  unfold joinB at h
  rw [Bool.and_eq_true] at h
  simp only [Int.toNat_natCast] at h
  obtain ⟨hJ, hall⟩ := h
  obtain ⟨_, _, ⟨hn, _⟩, _⟩ := joinOk_iff hJ
  rw [List.all_eq_true] at hall
  have hJ' := joinOk_iff hJ
  have h0 : 0 < L.length := by omega
  have hd : dataB (dataI size need L) need = true := by
    have := hall _ (List.getElem_mem h0)
    unfold matB at this
    simp only [Bool.and_eq_true] at this
    exact this.1.1
  refine ⟨dataI size need L, dataI_len _ _ _, hd, fun k hk => ?_⟩
  have := hall _ (List.getElem_mem hk)
  unfold matB at this
  simp only [Bool.and_eq_true, decide_eq_true_eq, Int.toNat_natCast] at this
  exact ⟨this.1.2, this.2⟩
theorem mod_ne {i j m many : Nat} (h1 : j < i) (h2 : i < many) : (j + m) % many ≠ (i + m) % many := by
  intro e
  have h := Nat.sub_mod_eq_zero_of_mod_eq e.symm
  rw [show i + m - (j + m) = i - j by omega, Nat.mod_eq_of_lt (by omega)] at h
  omega

/-! memory -/
theorem Rd.take {w : World} {L : List Sh} {a : Option Addr} {n cap : Nat} {fp : List Nat} (h : Rd w (.l (L.map shardD)) (.slice a n cap) fp) (k : Nat) (hk : k ≤ L.length) : ∃ fp', Rd w (.l ((L.take k).map shardD)) (.slice a k cap) fp' ∧ ∀ r ∈ fp', r ∈ fp := by
  rcases Nat.eq_zero_or_pos k with h0 | h0
  · subst h0; exact ⟨[], .nil _ _ (fun e => by subst e; exact h.nilcap), by simp⟩
  · have hpos : 0 < (L.map shardD).length := by rw [List.length_map]; omega
    obtain ⟨g, off, rfl, hg, hgf, hn, hcap, hc⟩ := Rd.at h hpos (sz := 2) (by intro e he; obtain ⟨s, _, rfl⟩ := List.mem_map.1 he; rfl)
    have hex : ∀ i j, ∃ p : Value × List Nat, ∀ (_ : i < (L.map shardD).length) (_ : j < 2), w.cell? ⟨g, off + (i * 2 + j), none⟩ = some p.1 ∧ (∀ (hi : i < (L.map shardD).length) (hj : j < ((L.map shardD)[i]).length), Rd w (((L.map shardD)[i])[j]) p.1 p.2) ∧ ∀ r ∈ p.2, r ∈ fp := by
      intro i j
      by_cases hi : i < (L.map shardD).length
      · by_cases hj : j < 2
        · obtain ⟨v, fp', h1, h2, h3⟩ := hc i j hi (by rw [List.getElem_map]; exact hj)
          exact ⟨(v, fp'), fun _ _ => ⟨h1, fun _ _ => h2, h3⟩⟩
        · exact ⟨(undef, []), fun _ h => absurd h hj⟩
      · exact ⟨(undef, []), fun h _ => absurd h hi⟩
    obtain ⟨F, hF⟩ : ∃ F : Nat → Nat → Value × List Nat, ∀ i j (_ : i < (L.map shardD).length) (_ : j < 2), w.cell? ⟨g, off + (i * 2 + j), none⟩ = some (F i j).1 ∧ (∀ (hi : i < (L.map shardD).length) (hj : j < ((L.map shardD)[i]).length), Rd w (((L.map shardD)[i])[j]) (F i j).1 (F i j).2) ∧ ∀ r ∈ (F i j).2, r ∈ fp :=
      ⟨fun i j => Classical.choose (hex i j), fun i j => Classical.choose_spec (hex i j)⟩
    have hlt : ((L.take k).map shardD).length = k := by simp; omega
    have hr := Rd.l (w := w) 2 ((L.take k).map shardD) g off cap (fun i j => (F i j).1) (fun i j => (F i j).2) (by rw [hlt]; exact h0) (by intro e he; obtain ⟨s, _, rfl⟩ := List.mem_map.1 he; rfl)
      (by rw [hlt]; rw [List.length_map] at hn; omega) hg (fun i j hi hj => (hF i j (by rw [hlt] at hi; rw [List.length_map]; omega) hj).1)
      (fun i j hi hj => by
        have hi' : i < (L.map shardD).length := by rw [hlt] at hi; rw [List.length_map]; omega
        have hj2 : j < 2 := by rw [List.getElem_map] at hj; exact hj
        have := (hF i j hi' hj2).2.1 hi' (by rw [List.getElem_map]; exact hj2)
        simp only [List.getElem_map, List.getElem_take] at this ⊢
        exact this)
    rw [hlt] at hr
    refine ⟨_, hr, fun r hm => ?_⟩
    rcases List.mem_cons.1 hm with rfl | hm
    · exact hgf
    · obtain ⟨i, hi, hm⟩ := List.mem_flatMap.1 hm
      obtain ⟨j, hj, hm⟩ := List.mem_flatMap.1 hm
      rw [List.mem_range] at hi hj
      exact (hF i j (by rw [List.length_map]; omega) hj).2.2 r hm
/-- An element of a list of shards: its cells, and what its values read as. -/
theorem row_of_list {w : World} {L : List Sh} {a : Option Addr} {n cap : Nat} {fp : List Nat} (h : Rd w (.l (L.map shardD)) (.slice a n cap) fp) (hne : 0 < L.length) :
    ∃ g off, a = some ⟨g, off, none⟩ ∧ g < w.heap.size ∧ ∀ k (hk : k < L.length), ∃ av cv fp', w.cell? ⟨g, off + k * 2, none⟩ = some (.int .i64 L[k].1) ∧ w.cell? ⟨g, off + k * 2 + 1, none⟩ = some (.slice av L[k].2.length cv) ∧ IntsAt w av L[k].2 ∧
      Rd w (intsD L[k].2) (.slice av L[k].2.length cv) fp' ∧ ∀ r ∈ fp', r ∈ fp := by
  obtain ⟨g, off, rfl, hg, hgf, hn, hcap, hc⟩ := Rd.at h (by rw [List.length_map]; exact hne) (sz := 2) (by intro e he; obtain ⟨s, _, rfl⟩ := List.mem_map.1 he; rfl)
  refine ⟨g, off, rfl, hg, fun k hk => ?_⟩
  have hk' : k < (L.map shardD).length := by rw [List.length_map]; exact hk
  obtain ⟨v0, f0, c0, r0, _⟩ := hc k 0 hk' (by rw [List.getElem_map]; show 0 < 2; omega)
  obtain ⟨v1, f1, c1, r1, s1⟩ := hc k 1 hk' (by rw [List.getElem_map]; show 1 < 2; omega)
  have r0' : Rd w (.i L[k].1) v0 f0 := by simpa [shardD] using r0
  have r1' : Rd w (intsD L[k].2) v1 f1 := by simpa [shardD] using r1
  obtain ⟨rfl, _⟩ := r0'.int
  obtain ⟨av, cv, rfl, _, hi⟩ := r1'.ints
  exact ⟨av, cv, f1, by simpa using c0, by simpa [Nat.add_assoc] using c1, hi, r1', s1⟩
/-- The element's cells, for a list that is built of it. -/
theorem cells_of_row {w : World} {B : Nat} {blk : Option Nat} {x : Int} {av : Option Addr} {cv : Nat} {vs : List Int} {fp : List Nat} (h : Rd w (intsD vs) (.slice av vs.length cv) fp) (hf : ∀ r ∈ fp, B ≤ r ∧ blk ≠ some r) :
    CellsRd w B blk [.int .i64 x, .slice av vs.length cv] [.i x, intsD vs] := by
  intro j hj
  match j, hj with
  | 0, _ => exact ⟨_, [], rfl, .i _, by simp⟩
  | 1, _ => exact ⟨_, fp, rfl, h, hf⟩

/-- 'append(s, rest...)', elements of a struct type, s empty. -/
theorem wpList_spread {P : Program} {T E : TypeId} {z0 : Value} {sz bytes : Nat} (hsl : P.underlying T = some (.slice E)) (hinf : (P.info? E).map (fun i => (i.zero, i.size, i.bytes)) = some (some z0, sz, bytes)) (hz0 : z0.cells.size = sz) (hpos : 0 < sz) (hby : bytes ≤ 1000)
    {w : World} {ops : Array Oper} {rest : List Oper} {o : Oper} {a : Act} {Q : Exit → Act → World → Prop} (hgd : o.guard = none) (s x : Operand) (ho : o.op = .call { callee := .builtin .append, args := #[s, x], argTypes := #[T, T] }) (B : Nat) (v : Value) (hs : a.eval s = v) (hown : w.ownsRow B E sz v 0 [])
    (ad : Addr) (n c : Nat) (hx : a.eval x = .slice (some ad) n c) (vals : List Value) (hvl : vals.length = n * sz) (hcell : ∀ j u, vals[j]? = some u → w.cell? (ad.add j) = some u) (h1c : ∀ u ∈ vals, u.oneCell' = true) (hlen : n ≤ 1000000) (hB : B ≤ w.heap.size)
    (h : ∀ v' w', w'.ownsRow B E sz v' n vals → w.grownBy w' v.ownBlock → (v'.ownBlock = v.ownBlock ∨ v'.ownBlock = some w.heap.size) → wpList P ops Q rest (a.put o.dst v') w') : wpList P ops Q (o :: rest) a w := by
  refine wpList_want (by unfold Region.wanted; rw [hgd]) fun K hK => ?_
  obtain ⟨i, hi, hz, hsz, hbb⟩ := info_parts hinf
  obtain ⟨v', w', hrun, h1, h2, _, h4⟩ := run_append_own_at (P := P) w B T o.type E i z0 sz bytes hsl hi hz hsz hbb hz0 hpos v 0 [] hown ad n c vals hvl hcell h1c (by unfold maxLen; omega) (by
    have := Nat.mul_le_mul (show 0 + n ≤ 1000000 by omega) hby; omega) hB
  unfold Oper.wp execOp
  simp only [ho, resolve, invoke, builtin, Sem.run_bind, Sem.run_pure, Result.andThen_ok, List.map_toArray, List.map_cons, List.map_nil, hs, hx, hrun]
  refine hK _ _ (h v' w' ?_ h2 h4)
  simpa using h1
/-- A row of shards' cells reads as the shards. -/
theorem rd_of_row {E : TypeId} {w : World} {B g n cap : Nat} {cs : List Value} {L : List Sh} (h : w.ownsRow B E 2 (.slice (some ⟨g, 0, none⟩) n cap) n cs) (hn : n = L.length) (hpos : 0 < n) (hcap : n ≤ cap)
    (hc : ∀ k (hk : k < L.length), cs[k * 2]? = some (.int .i64 L[k].1) ∧ ∃ c fp, cs[k * 2 + 1]? = some c ∧ Rd w (intsD L[k].2) c fp) : ∃ fp, Rd w (.l (L.map shardD)) (.slice (some ⟨g, 0, none⟩) L.length cap) fp := by
  subst hn
  have hex : ∀ k j, ∃ p : Value × List Nat, ∀ (hk : k < L.length) (_ : j < 2), cs[k * 2 + j]? = some p.1 ∧ ∀ (hj : j < (shardD L[k]).length), Rd w ((shardD L[k])[j]) p.1 p.2 := by
    intro k j
    by_cases hk : k < L.length
    · obtain ⟨h0, c, fp, h1, h2⟩ := hc k hk
      match j with
      | 0 => exact ⟨(.int .i64 L[k].1, []), fun _ _ => ⟨h0, fun _ => .i _⟩⟩
      | 1 => exact ⟨(c, fp), fun _ _ => ⟨h1, fun _ => h2⟩⟩
      | j + 2 => exact ⟨(undef, []), fun _ h => by omega⟩
    · exact ⟨(undef, []), fun h => absurd h hk⟩
  obtain ⟨F, hF⟩ : ∃ F : Nat → Nat → Value × List Nat, ∀ k j (hk : k < L.length) (_ : j < 2), cs[k * 2 + j]? = some (F k j).1 ∧ ∀ (hj : j < (shardD L[k]).length), Rd w ((shardD L[k])[j]) (F k j).1 (F k j).2 :=
    ⟨fun k j => Classical.choose (hex k j), fun k j => Classical.choose_spec (hex k j)⟩
  have hml : (L.map shardD).length = L.length := List.length_map _
  have := Rd.l (w := w) 2 (L.map shardD) g 0 cap (fun k j => (F k j).1) (fun k j => (F k j).2) (by omega) (by intro e he; obtain ⟨s, _, rfl⟩ := List.mem_map.1 he; rfl) (by omega) (h.lt g rfl).2
    (fun k j hk hj => by
      have := World.ownsRow.cells h (g := g) rfl _ _ (hF k j (by omega) hj).1
      rw [addr_add] at this
      rw [Nat.zero_add]; exact this)
    (fun k j hk hj => by
      have hk' : k < L.length := by omega
      simp only [List.getElem_map] at hj ⊢
      exact (hF k j hk' hj).2 hj)
  rw [hml] at this
  exact ⟨_, this⟩
/-- A shard that was changed is found out. -/
theorem wrong_shard {d : List Int} {need many kk : Nat} {ys : List Int} (hd : dataB d need = true) (hm : need + 1 ≤ many) (h8 : many ≤ 8) (hk : kk < need + 1) (h : joinB d.length need (((List.range (need + 1)).map (shardZ d need)).set kk ((kk : Int) + 1, ys)) = true) : ys = shardV d need ((kk : Int) + 1) := by
  obtain ⟨D, hDl, hDd, hall⟩ := join_has h
  obtain ⟨hd0, ⟨_, hd2⟩, hn1, hn8⟩ := dataB_iff hd
  obtain ⟨hD0, _, _, _⟩ := dataB_iff hDd
  have hget : ∀ j, j < need + 1 → j ≠ kk → shardV D need ((j : Int) + 1) = shardV d need ((j : Int) + 1) := by
    intro j hj hne
    have := (hall j (by simp; omega)).2
    rw [List.getElem_set_ne (fun h => hne h.symm)] at this
    simpa [shardZ] using this
  have hsame : D = d := uniq_data (need := need) (by omega) (by omega) hD0 hd0 (by omega) hDl (xs := fun j => if j < kk then (j : Int) + 1 else (j : Int) + 2) (fun i j hi hj => by
      rintro ⟨q, e⟩
      by_cases h1 : i < kk
      · simp only [if_pos h1, if_pos (show j < kk by omega)] at e; omega
      · by_cases h2 : j < kk
        · simp only [if_neg h1, if_pos h2] at e; omega
        · simp only [if_neg h1, if_neg h2] at e; omega)
    (fun j hj => by
      by_cases h1 : j < kk
      · simp only [if_pos h1]; exact hget j (by omega) (by omega)
      · simp only [if_neg h1]
        have := hget (j + 1) (by omega) (by omega)
        rwa [show (((j + 1 : Nat) : Int) + 1) = (j : Int) + 2 by omega] at this)
  have := (hall kk (by simp; omega)).2
  simp only [List.getElem_set_self] at this
  rw [← this, hsame]

theorem row_form {E : TypeId} {sz : Nat} {w : World} {B n : Nat} {v : Value} {cs : List Value} (h : w.ownsRow B E sz v n cs) (hn : 0 < n) : ∃ g cap, v = .slice (some ⟨g, 0, none⟩) n cap ∧ B ≤ g ∧ g < w.heap.size ∧ n ≤ cap := by
  rcases h.2 with ⟨_, h0⟩ | ⟨g, cap, cur, rfl, hb, hg, hc, _⟩
  · omega
  · exact ⟨g, cap, rfl, hb, (h.lt g rfl).2, hc⟩

end Go.Proofs.Ytnaeeemgehgdfab

/- The draw of shards, some of them spoilt: what is drawn reads as a list of shards; by a walk of its text; condition: at most 10^4 picks before. -/
namespace Go.Proofs.Ytnaeeemgehgdfab
open Go.RowKit

/-- What is drawn. -/
def ShPost (w : World) (R : Nat) : Ending → World → Prop := fun e w' => ∃ (size need : Int) (v : Value) (L : List (Int × List Int)) (fp : List Nat), e = .returned (.tuple #[.int .i64 size, .int .i64 need, v]) ∧ Rd w' (.l (L.map shardD)) v fp ∧ L.length ≤ 8 ∧ (∀ s ∈ L, s.2.length ≤ 20) ∧
  (-100 ≤ size ∧ size ≤ 100) ∧ (-100 ≤ need ∧ need ≤ 100) ∧ w.grownBy w' (some R) ∧ (∃ p', p' ≤ 20000 ∧ Rdr w' R p') ∧ R ∉ fp
theorem shard_cells {w : World} {L : List (Int × List Int)} {a : Option Addr} {n cap : Nat} {fp : List Nat} (h : Rd w (.l (L.map shardD)) (.slice a n cap) fp) {k : Nat} (hk : k < L.length) {B : Nat} {blk : Option Nat} (hf : ∀ r ∈ fp, B ≤ r ∧ blk ≠ some r) :
    ∃ g off av cv, a = some ⟨g, off, none⟩ ∧ g < w.heap.size ∧ g ∈ fp ∧ w.cell? ⟨g, off + k * 2, none⟩ = some (.int .i64 L[k].1) ∧ w.cell? ⟨g, off + k * 2 + 1, none⟩ = some (.slice av L[k].2.length cv) ∧ IntsAt w av L[k].2 ∧ SrcAt w av cv L[k].2 ∧ CellsRd w B blk [.int .i64 L[k].1, .slice av L[k].2.length cv] (shardD L[k]) := by
  obtain ⟨g, off, rfl, hg, hgf, _, _, hc⟩ := Rd.at h (by simp; omega) (sz := 2) (by intro e he; simp at he; obtain ⟨x, y, _, rfl⟩ := he; rfl)
  have hk' : k < (L.map shardD).length := by simpa using hk
  have he : (L.map shardD)[k] = shardD L[k] := by simp
  obtain ⟨c0, f0, h0, r0, s0⟩ := hc k 0 hk' (by rw [he]; simp [shardD])
  obtain ⟨c1, f1, h1, r1, s1⟩ := hc k 1 hk' (by rw [he]; simp [shardD])
  have r0' : Rd w (.i L[k].1) c0 f0 := by simpa [shardD] using r0
  have r1' : Rd w (intsD L[k].2) c1 f1 := by simpa [shardD] using r1
  obtain ⟨rfl, rfl⟩ := r0'.int
  obtain ⟨av, cv, rfl, hi, hs⟩ := rd_ls (f := .l L[k].2) (show Rd w (Fd.l L[k].2).dt c1 f1 from r1') rfl
  refine ⟨g, off, av, cv, rfl, hg, hgf, by simpa using h0, h1, hi, hs, fun j hj => ?_⟩
  match j, hj with
  | 0, _ => exact ⟨_, [], rfl, .i _, by simp⟩
  | 1, _ => exact ⟨_, f1, rfl, r1', fun r hr => hf r (s1 r hr)⟩

theorem srcAt_under {w w' : World} {a : Option Addr} {c : Nat} {xs : List Int} (h : SrcAt w a c xs) (hi : IntsAt w a xs) (hb : Below w.heap.size w w') : SrcAt w' a c xs := by
  rcases h with h | ⟨ad, rfl, hc⟩
  · exact .inl h
  · refine .inr ⟨ad, rfl, fun j hj => ?_⟩
    obtain ⟨b, off, e, hbb, _⟩ := hi.cell (by omega)
    cases e
    have := hc j hj
    rw [addr_add'] at this ⊢
    exact (hb.cell (p := ⟨b, off + j, none⟩) hbb).trans this
theorem shards_cap {w : World} {L : List (Int × List Int)} {a : Option Addr} {n cap : Nat} {fp : List Nat} (h : Rd w (.l (L.map shardD)) (.slice a n cap) fp) (hne : 0 < L.length) : n ≤ cap := by
  obtain ⟨_, _, _, _, _, _, h', _⟩ := Rd.at h (by simpa using hne) (sz := 2) (by intro e he; simp at he; obtain ⟨x, y, _, rfl⟩ := he; rfl)
  exact h'

theorem TShs : (Try.prog.info? 28).map (fun i => (i.zero, i.size, i.bytes)) = some (some (.agg #[.int .i64 0, .slice none 0 0]), 2, 32) := by kernel_rfl
set_option maxRecDepth 8000 in
set_option maxHeartbeats 4000000 in
theorem drawShards (R p : Nat) (w : World) (hp : p ≤ 10000) (hr : Rdr w R p) (hR : R < w.heap.size) :
    Calls Try.prog 11 #[.pointer (some ⟨R, 0, none⟩)] w (ShPost w R) := by
  have HD := Lib.hid (drawData R p w (by omega) hr hR)
  clear hr
  go_enter Try.func11, Try.ntmps11
  go_wp2_with fail
  refine HD.out.mono ?_
  rintro e w1 ⟨vd, xs, p1, rfl, ho1, hxl, hsy, hr1, hp1, hg1⟩
  obtain ⟨ad, cd, rfl, _, _⟩ := ho1.ints
  have Ho1 := Lib.hid ho1
  have Hr1 := Lib.hid hr1
  have Hg1 := Lib.hid hg1
  have hs1 := hg1.size
  clear ho1 hr1 hg1 hsy
  go_wp2_with fail
  refine (pick_any R 5 p1 w1 (by omega) Hr1.out (by omega)).mono ?_
  rintro e w2 ⟨n0, rfl, hn0, hn1, hr2, hg2⟩
  have Hr2 := Lib.hid hr2
  have Hg2 := Lib.hid (grownBy_trans Hg1.out hg2)
  have Ho2 := Lib.hid (Ho1.out.kept hg2 (.inr (fun e => by have := (Ho1.out.lt R e).1; omega)))
  have hs2 := hg2.size
  clear hr2 hg2
  have HM := Lib.hid (spec_ShardMakeO ad cd xs (1 + n0) 8 w2 (by omega) (IntsAt_own Ho2.out))
  go_wp2_with fail
  refine HM.out.mono ?_
  rintro e w3 ⟨va, rfl, hbA, hb3⟩
  have hAl := makeZ_len (d := xs) (need := 1 + n0) (many := 8)
  have hAi := makeZ_in (d := xs) (need := 1 + n0) (many := 8)
  obtain ⟨A, hA⟩ : ∃ A, makeZ xs (1 + n0) 8 = A := ⟨_, rfl⟩
  rw [hA] at hAl hAi hbA
  clear hA HM
  obtain ⟨aa, ca, rfl, _⟩ := hbA.slice
  rw [List.length_map] at hbA ⊢
  have hs3 := hb3.size
  have hRlt : R < w2.heap.size := by omega
  obtain ⟨Nf, hNf⟩ : ∃ Nf : Nat → Prop, Nf = fun r => w2.heap.size ≤ r ∧ r < w3.heap.size ∧ r ≠ R ∧ ∀ j, w3.frozen? ⟨r, j, none⟩ = false := ⟨_, rfl⟩
  have HN := Lib.hid (show ∀ r, Nf r → w2.heap.size ≤ r ∧ r < w3.heap.size ∧ r ≠ R ∧ ∀ j, w3.frozen? ⟨r, j, none⟩ = false from fun r h => by rw [hNf] at h; exact h)
  have Hall := Lib.hid (fun k (hk : k < A.length) => made_rows hbA Nf (fun r h1 h2 h3 => by rw [hNf]; exact ⟨h1, h2, by omega, h3⟩) hk)
  have HAi := Lib.hid hAi
  have Hr3 := Lib.hid (Hr2.out.kept (below_grown hb3) (fun _ e => by cases e))
  have Hg3 := Lib.hid (grown_row' Hg2.out (below_grown hb3) (fun _ e => by cases e))
  clear hbA hAi hb3 hNf
  have hbE : Below w3.heap.size w3 (w3.alloc (.cells #[] 28)) := (Below.refl _ _).alloc (Nat.le_refl _) _
  have hBE : BldN 28 2 (w3.alloc (.cells #[] 28)) w2.heap.size Nf (.slice (some ⟨w3.heap.size, 0, none⟩) 0 0) (([] : List (Int × List Int)).map shardD) := BldN.nil (World.ownsRow_made w3 #[] 0 hs3 (by simp) (by simp))
  have HBE := Lib.hid hBE
  have hzE := hbE.size
  have HrE := Lib.hid (Hr3.out.kept (below_grown hbE) (fun _ e => by cases e))
  have HgE := Lib.hid (show w3.grownBy (w3.alloc (.cells #[] 28)) (some R) from World.grownBy_alloc _ _ _)
  clear hBE hbE
  go_wp2_with fail
  go_loopw [8, 9] (fun v i wr => ∃ (k : Nat) (L : List (Int × List Int)) (q : Nat), k ≤ A.length ∧ i = .int .i64 k ∧ L.length ≤ k ∧ (∀ s ∈ L, s.2.length ≤ 12) ∧ BldN 28 2 wr w2.heap.size Nf v (L.map shardD) ∧ (∀ g, v.ownBlock = some g → w3.heap.size ≤ g) ∧ Rdr wr R q ∧ q ≤ p1 + 10 + 2 * k ∧ w3.grownBy wr (some R)) (fun _ i _ => A.length - (intOf i).toNat)
  case atStart => exact ⟨0, [], _, Nat.zero_le _, rfl, Nat.le_refl _, by simp, HBE.out, (fun g e => by cases e; exact Nat.le_refl _), HrE.out, by omega, HgE.out⟩
  case round =>
    obtain ⟨k, L, q, hk, rfl, hLk, hLi, hbl, hvb, hrd, hq, hgr⟩ := hrel
    have hz3 := hgr.size
    have HLi := Lib.hid hLi
    have Hbl := Lib.hid hbl
    have Hvb := Lib.hid hvb
    have Hrd := Lib.hid hrd
    have Hgr := Lib.hid hgr
    clear hLi hbl hvb hrd hgr
    by_cases hlt : k < A.length
    · have hk8 : k < 8 := by omega
      go_wp2_with fail
      refine (pick_any R 3 q wr (by omega) Hrd.out (by omega)).mono ?_
      rintro e w4 ⟨m, rfl, hm0, hm1, hr4, hg4⟩
      have Hr4 := Lib.hid hr4
      have hz4 := hg4.size
      have Hg4 := Lib.hid (grownBy_trans Hgr.out hg4)
      have Hbl4 := Lib.hid (Hbl.out.step hg4 (fun r e => by cases e; omega))
      clear hr4 hg4
      obtain ⟨kk, hkk⟩ : ∃ kk : Nat, (((k : Int) * 3 + m) % (A.length : Int)) = kk := ⟨(((k : Int) * 3 + m) % (A.length : Int)).toNat, (Int.toNat_of_nonneg (Int.emod_nonneg _ (by omega))).symm⟩
      have hkl : kk < A.length := by have := Int.emod_lt_of_pos ((k : Int) * 3 + m) (show (0 : Int) < A.length by omega); omega
      have hkt : ((k : Int) * 3 + m).tmod (A.length : Int) = kk := by rw [Int.tmod_eq_emod_of_nonneg (by omega)]; exact hkk
      have hpos : (0 : Int) < A.length := by omega
      obtain ⟨gA, av, cv, rfl, hgA, hgA3, a0, a1, acr⟩ := Hall.out kk hkl
      have Hacr := Lib.hid acr
      have A0 := Lib.hid a0
      have A1 := Lib.hid a1
      have a0 := Hg4.out.cell a0 (by simp only [ne_eq, Option.some.injEq]; omega)
      have a1 := Hg4.out.cell a1 (by simp only [ne_eq, Option.some.injEq]; omega)
      obtain ⟨av8, cv8, hv8, _⟩ := Hbl4.out.slice
      rw [List.length_map] at hv8
      subst hv8
      obtain ⟨fo, hro, hfo⟩ := Hbl4.out.bld.rd
      have Hro := Lib.hid hro
      have Hks := Lib.hid hkk
      have hAi' := HAi.out _ (List.getElem_mem hkl)
      have HAk := Lib.hid (show A[kk].2.length ≤ 12 from hAi')
      clear acr hro hfo hAi'
      generalize hS : A[kk] = S at *
      obtain ⟨Sn, Sv⟩ := S
      dsimp only at *
      have HS := Lib.hid hS
      clear hS
      go_wp2_with fail
      go_loopw [11, 12] (fun f i wr2 => ∃ (j : Nat) (bf : Bool), j ≤ L.length ∧ i = .int .i64 j ∧ f = .bool bf ∧ Drawn w4 wr2) (fun _ i _ => L.length - (intOf i).toNat)
      case atStart => exact ⟨0, false, Nat.zero_le _, rfl, rfl, Drawn.refl _⟩
      case round =>
        obtain ⟨j, bf, hj, rfl, rfl, hdr⟩ := hrel
        have b0 := (hdr.cell _).trans a0
        have b1 := (hdr.cell _).trans a1
        have Hdr := Lib.hid hdr
        by_cases hjl : j < L.length
        · obtain ⟨gO, oO, ox, oc, rfl, hgO, _, c0, _⟩ := shard_cells Hro.out hjl (B := 0) (blk := none) (fun r _ => ⟨Nat.zero_le _, by simp⟩)
          have c0 := (hdr.cell _).trans c0
          clear hdr
          have hjz : (j : Int) < L.length := by omega
          have hkz : (kk : Int) < A.length := by omega
          cases bf with
          | true =>
            clear b0 b1 c0
            go_wp2_with fail
            refine wp_region_held_drew (S := fun w' => True) (by kernel_rfl) trivial (fun hH => ?_)
            refine takeH 0 (v := ?va0) rfl (by kernel_rfl) (by kernel_rfl) (by kernel_rfl) (fun _ _ _ h => h) hH rfl ?ya0 ?ra0
            case ya0 => intro W hSw; go_simp; try with_reducible rfl
            try simp only [Act.put, List.setIfInBounds_toArray, List.set_cons_zero, List.set_cons_succ]
            refine takeH 1 (v := ?va1) rfl (by kernel_rfl) (by kernel_rfl) (by kernel_rfl) (fun _ _ _ h => h) hH rfl ?ya1 ?ra1
            case ya1 => intro W hSw; go_simp; try with_reducible rfl
            try simp only [Act.put, List.setIfInBounds_toArray, List.set_cons_zero, List.set_cons_succ]
            refine skipH 2 rfl (by kernel_rfl) (by kernel_rfl) (by kernel_rfl) (fun _ _ _ h => h) hH rfl ?_
            try simp only [Act.put, List.setIfInBounds_toArray, List.set_cons_zero, List.set_cons_succ]
            refine skipH 3 rfl (by kernel_rfl) (by kernel_rfl) (by kernel_rfl) (fun _ _ _ h => h) hH rfl ?_
            try simp only [Act.put, List.setIfInBounds_toArray, List.set_cons_zero, List.set_cons_succ]
            refine skipH 4 rfl (by kernel_rfl) (by kernel_rfl) (by kernel_rfl) (fun _ _ _ h => h) hH rfl ?_
            try simp only [Act.put, List.setIfInBounds_toArray, List.set_cons_zero, List.set_cons_succ]
            refine skipH 5 rfl (by kernel_rfl) (by kernel_rfl) (by kernel_rfl) (fun _ _ _ h => h) hH rfl ?_
            try simp only [Act.put, List.setIfInBounds_toArray, List.set_cons_zero, List.set_cons_succ]
            refine skipH 6 rfl (by kernel_rfl) (by kernel_rfl) (by kernel_rfl) (fun _ _ _ h => h) hH rfl ?_
            try simp only [Act.put, List.setIfInBounds_toArray, List.set_cons_zero, List.set_cons_succ]
            refine skipH 7 rfl (by kernel_rfl) (by kernel_rfl) (by kernel_rfl) (fun _ _ _ h => h) hH rfl ?_
            try simp only [Act.put, List.setIfInBounds_toArray, List.set_cons_zero, List.set_cons_succ]
            refine skipH 8 rfl (by kernel_rfl) (by kernel_rfl) (by kernel_rfl) (fun _ _ _ h => h) hH rfl ?_
            try simp only [Act.put, List.setIfInBounds_toArray, List.set_cons_zero, List.set_cons_succ]
            refine skipH 9 rfl (by kernel_rfl) (by kernel_rfl) (by kernel_rfl) (fun _ _ _ h => h) hH rfl ?_
            try simp only [Act.put, List.setIfInBounds_toArray, List.set_cons_zero, List.set_cons_succ]
            refine skipH 10 rfl (by kernel_rfl) (by kernel_rfl) (by kernel_rfl) (fun _ _ _ h => h) hH rfl ?_
            try simp only [Act.put, List.setIfInBounds_toArray, List.set_cons_zero, List.set_cons_succ]
            refine skipH 11 rfl (by kernel_rfl) (by kernel_rfl) (by kernel_rfl) (fun _ _ _ h => h) hH rfl ?_
            try simp only [Act.put, List.setIfInBounds_toArray, List.set_cons_zero, List.set_cons_succ]
            refine skipH 12 rfl (by kernel_rfl) (by kernel_rfl) (by kernel_rfl) (fun _ _ _ h => h) hH rfl ?_
            try simp only [Act.put, List.setIfInBounds_toArray, List.set_cons_zero, List.set_cons_succ]
            refine takeH 13 (v := ?va13) rfl (by kernel_rfl) (by kernel_rfl) (by kernel_rfl) (fun _ _ _ h => h) hH rfl ?ya13 ?ra13
            case ya13 => intro W hSw; go_simp; try with_reducible rfl
            try simp only [Act.put, List.setIfInBounds_toArray, List.set_cons_zero, List.set_cons_succ]
            refine takeH 14 (v := ?va14) rfl (by kernel_rfl) (by kernel_rfl) (by kernel_rfl) (fun _ _ _ h => h) hH rfl ?ya14 ?ra14
            case ya14 => intro W hSw; go_simp; try with_reducible rfl
            try simp only [Act.put, List.setIfInBounds_toArray, List.set_cons_zero, List.set_cons_succ]
            refine wpAnyH_done (by kernel_rfl) ?_ _
            try simp only [Act.put]
            have Hd2 := Lib.hid (Hdr.out.drewN 1)
            clear hH
            go_wp2
            go_roundw
            case rel => exact ⟨j + 1, true, by omega, by go_num, rfl, Hd2.out⟩
            case measure => simp [intOf]; omega
          | false =>
            generalize L[j].1 = Ln at *
            go_wp2_with fail
            refine wp_region_held_drew (S := fun w' => w'.cell? ⟨gO, oO + j * 2, none⟩ = some (.int .i64 Ln) ∧ w'.cell? ⟨gA, kk * 2, none⟩ = some (.int .i64 Sn)) (by kernel_rfl) ⟨c0, b0⟩ (fun hH => ?_)
            refine takeH 0 (v := ?vb0) rfl (by kernel_rfl) (by kernel_rfl) (by kernel_rfl) (fun _ _ _ h => h) hH rfl ?yb0 ?rb0
            case yb0 => intro W hSw; go_simp; try with_reducible rfl
            try simp only [Act.put, List.setIfInBounds_toArray, List.set_cons_zero, List.set_cons_succ]
            refine takeH 1 (v := ?vb1) rfl (by kernel_rfl) (by kernel_rfl) (by kernel_rfl) (fun _ _ _ h => h) hH rfl ?yb1 ?rb1
            case yb1 => intro W hSw; go_simp; try with_reducible rfl
            try simp only [Act.put, List.setIfInBounds_toArray, List.set_cons_zero, List.set_cons_succ]
            refine takeH 2 (v := ?vb2) rfl (by kernel_rfl) (by kernel_rfl) (by kernel_rfl) (fun _ _ _ h => h) hH rfl ?yb2 ?rb2
            case yb2 => intro W hSw; go_simp; try with_reducible rfl
            try simp only [Act.put, List.setIfInBounds_toArray, List.set_cons_zero, List.set_cons_succ]
            refine takeH 3 (v := ?vb3) rfl (by kernel_rfl) (by kernel_rfl) (by kernel_rfl) (fun _ _ _ h => h) hH rfl ?yb3 ?rb3
            case yb3 => intro W hSw; go_simp; try with_reducible rfl
            try simp only [Act.put, List.setIfInBounds_toArray, List.set_cons_zero, List.set_cons_succ]
            refine takeH 4 (v := ?vb4) rfl (by kernel_rfl) (by kernel_rfl) (by kernel_rfl) (fun _ _ _ h => h) hH rfl ?yb4 ?rb4
            case yb4 => intro W hSw; go_simp; try with_reducible rfl
            try simp only [Act.put, List.setIfInBounds_toArray, List.set_cons_zero, List.set_cons_succ]
            refine takeH 5 (v := ?vb5) rfl (by kernel_rfl) (by kernel_rfl) (by kernel_rfl) (fun _ _ _ h => h) hH rfl ?yb5 ?rb5
            case yb5 => intro W hSw; go_simp; try with_reducible rfl
            try simp only [Act.put, List.setIfInBounds_toArray, List.set_cons_zero, List.set_cons_succ]
            refine takeH 6 (v := ?vb6) rfl (by kernel_rfl) (by kernel_rfl) (by kernel_rfl) (fun _ _ _ h => h) hH rfl ?yb6 ?rb6
            case yb6 => intro W hSw; go_simp; try with_reducible rfl
            try simp only [Act.put, List.setIfInBounds_toArray, List.set_cons_zero, List.set_cons_succ]
            refine takeH 7 (v := ?vb7) rfl (by kernel_rfl) (by kernel_rfl) (by kernel_rfl) (fun _ _ _ h => h) hH rfl ?yb7 ?rb7
            case yb7 => intro W hSw; go_simp; try with_reducible rfl
            try simp only [Act.put, List.setIfInBounds_toArray, List.set_cons_zero, List.set_cons_succ]
            refine takeH 8 (v := ?vb8) rfl (by kernel_rfl) (by kernel_rfl) (by kernel_rfl) (fun _ _ _ h => h) hH rfl ?yb8 ?rb8
            case yb8 => intro W hSw; go_simp; try with_reducible rfl
            try simp only [Act.put, List.setIfInBounds_toArray, List.set_cons_zero, List.set_cons_succ]
            refine takeH 9 (v := ?vb9) rfl (by kernel_rfl) (by kernel_rfl) (by kernel_rfl) (fun _ _ _ h => h) hH rfl ?yb9 ?rb9
            case yb9 => intro W hSw; go_simp; try with_reducible rfl
            try simp only [Act.put, List.setIfInBounds_toArray, List.set_cons_zero, List.set_cons_succ]
            refine takeH 10 (v := ?vb10) rfl (by kernel_rfl) (by kernel_rfl) (by kernel_rfl) (fun _ _ _ h => h) hH rfl ?yb10 ?rb10
            case yb10 => intro W hSw; go_simp; try with_reducible rfl
            try simp only [Act.put, List.setIfInBounds_toArray, List.set_cons_zero, List.set_cons_succ]
            refine takeH 11 (v := ?vb11) rfl (by kernel_rfl) (by kernel_rfl) (by kernel_rfl) (fun _ _ _ h => h) hH rfl ?yb11 ?rb11
            case yb11 => intro W hSw; go_simp; try with_reducible rfl
            try simp only [Act.put, List.setIfInBounds_toArray, List.set_cons_zero, List.set_cons_succ]
            refine takeH 12 (v := ?vb12) rfl (by kernel_rfl) (by kernel_rfl) (by kernel_rfl) (fun _ _ _ h => h) hH rfl ?yb12 ?rb12
            case yb12 => intro W hSw; go_simp; try with_reducible rfl
            try simp only [Act.put, List.setIfInBounds_toArray, List.set_cons_zero, List.set_cons_succ]
            refine takeH 13 (v := ?vb13) rfl (by kernel_rfl) (by kernel_rfl) (by kernel_rfl) (fun _ _ _ h => h) hH rfl ?yb13 ?rb13
            case yb13 => intro W hSw; go_simp; try with_reducible rfl
            try simp only [Act.put, List.setIfInBounds_toArray, List.set_cons_zero, List.set_cons_succ]
            refine takeH 14 (v := ?vb14) rfl (by kernel_rfl) (by kernel_rfl) (by kernel_rfl) (fun _ _ _ h => h) hH rfl ?yb14 ?rb14
            case yb14 => intro W hSw; go_simp; try with_reducible rfl
            try simp only [Act.put, List.setIfInBounds_toArray, List.set_cons_zero, List.set_cons_succ]
            refine wpAnyH_done (by kernel_rfl) ?_ _
            try simp only [Act.put]
            have Hd2 := Lib.hid (Hdr.out.drewN 1)
            clear hH b0 b1 c0
            go_wp2
            go_roundw
            case rel => exact ⟨j + 1, _, by omega, by go_num, rfl, Hd2.out⟩
            case measure => simp [intOf]; omega
        · have hbd := hdr.below w4.heap.size
          have hz5 := hbd.size
          have Hbl5 := Lib.hid (Hbl4.out.under hbd)
          have Hr5 := Lib.hid (Hr4.out.kept (below_grown hbd) (fun _ e => by cases e))
          have Hg5 := Lib.hid (grown_row' Hg4.out (below_grown hbd) (fun _ e => by cases e))
          clear hbd hdr b0 b1
          cases bf with
          | true =>
            go_wp2
            go_roundw
            case rel => exact ⟨k + 1, L, q + 1, by omega, by go_num, by omega, HLi.out, Hbl5.out, Hvb.out, Hr5.out, by omega, Hg5.out⟩
            case measure => simp [intOf]; omega
          | false =>
            go_wp2_with fail
            refine (pick_any R 4 (q + 1) _ (by omega) Hr5.out (by omega)).mono ?_
            rintro e w6 ⟨m2, rfl, hm20, hm21, hr6, hg6⟩
            have Hr6 := Lib.hid hr6
            have hz6 := hg6.size
            have Hg6 := Lib.hid (grownBy_trans Hg5.out hg6)
            have Hbl6 := Lib.hid (Hbl5.out.step hg6 (fun r e => by cases e; omega))
            clear hr6 hg6
            by_cases hm2 : 0 < m2
            · have a0 := Hg6.out.cell A0.out (by simp only [ne_eq, Option.some.injEq]; omega)
              have a1 := Hg6.out.cell A1.out (by simp only [ne_eq, Option.some.injEq]; omega)
              have Hacr6 := Lib.hid (Hacr.out.step (blk' := (Value.slice av8 L.length cv8).ownBlock) Hg6.out (fun r e => by cases e; exact .inl hRlt) (fun g e => .inr (Hvb.out g e)))
              have hB6 : w2.heap.size ≤ w6.heap.size := by omega
              have hLl : (L.map shardD).length ≤ 1048576 := by simp; omega
              have hkz : (kk : Int) < A.length := by omega
              have Hln := Lib.hid (show L.length = (L.map shardD).length by simp)
              have Hex := Lib.hid (show (L ++ [(Sn, Sv)]).map shardD = L.map shardD ++ [shardD (Sn, Sv)] by simp)
              go_wp2_with (at_builtin; refine wpList_push_rowN Try.underlying23 TShs rfl (by decide) (by decide) rfl (.tmp 65) (.tmp 70) rfl w2.heap.size Nf _ (L.map shardD) (shardD (Sn, Sv)) [.int .i64 Sn, .slice av Sv.length cv] _ rfl rfl (by intro u hu; simp at hu; rcases hu with rfl | rfl <;> rfl) rfl Hbl6.out rfl Hacr6.out hLl rfl hB6 ?_; intro v8 w8 hbl8 hg8 hloc8)
              have Hr8 := Lib.hid (Hr6.out.kept hg8 (fun g e => by have := Hvb.out g e; omega))
              have hz8 := hg8.size
              have Hg8 := Lib.hid (grown_row' Hg6.out hg8 (fun g e => by have := Hvb.out g e; omega))
              have Hvb8 := Lib.hid (show ∀ g, v8.ownBlock = some g → w3.heap.size ≤ g from fun g e => by
                rcases hloc8 g e with h | h
                · exact Hvb.out g h
                · omega)
              go_roundw
              case rel => exact ⟨k + 1, L ++ [(Sn, Sv)], q + 2, by omega, by go_num, by simp; omega, (fun s hs => by
                rcases List.mem_append.1 hs with h | h
                · exact HLi.out s h
                · simp at h; subst h; exact HAk.out), by rw [Hex.out]; exact hbl8, Hvb8.out, Hr8.out, by omega, Hg8.out⟩
              case measure => simp [intOf]; omega
            · have hm2' : ¬ (0 : Int) < m2 := hm2
              go_wp2
              go_roundw
              case rel => exact ⟨k + 1, L, q + 2, by omega, by go_num, by omega, HLi.out, Hbl6.out, Hvb.out, Hr6.out, by omega, Hg6.out⟩
              case measure => simp [intOf]; omega
    · obtain ⟨ao, co, hvo, _⟩ := Hbl.out.slice
      rw [List.length_map] at hvo
      subst hvo
      obtain ⟨fo, hro, hfo⟩ := Hbl.out.bld.rd
      have Hro := Lib.hid hro
      have Hfo := Lib.hid hfo
      have Hnf := Lib.hid (show R ∉ fo from fun hm => by have := hfo R hm; omega)
      have hL8 : L.length ≤ 8 := by omega
      have hn1' : 1 ≤ 1 + n0 ∧ 1 + n0 ≤ 6 := by omega
      have HLi' := Lib.hid (show ∀ s ∈ L, s.2.length ≤ 20 from fun s hs => by have := HLi.out s hs; omega)
      clear hro hfo
      by_cases hL0 : L.length = 0
      · have e0 : ((L.length : Int) == 0) = true := by simp [hL0]
        clear hL0
        go_wp2
        go_ret3
        exact ⟨_, _, _, L, fo, rfl, Hro.out, hL8, HLi'.out, by omega, by omega, grownBy_trans Hg3.out Hgr.out, ⟨_, by omega, Hrd.out⟩, Hnf.out⟩
      have e0 : ((L.length : Int) == 0) = false := by simp [hL0]
      go_wp2_with fail
      refine (pick_any R L.length q _ (by omega) Hrd.out (by omega)).mono ?_
      rintro e w4 ⟨k2, rfl, hk20, hk21, hr4, hg4⟩
      obtain ⟨kn, rfl⟩ : ∃ kn : Nat, k2 = kn := ⟨k2.toNat, (Int.toNat_of_nonneg hk20).symm⟩
      have hknl : kn < L.length := by omega
      have Hr4 := Lib.hid hr4
      have Hg4 := Lib.hid (grownBy_trans Hgr.out hg4)
      have Hbl4 := Lib.hid (Hbl.out.step hg4 (fun r e => by cases e; omega))
      have hz4 := hg4.size
      clear hr4 hg4 hk20 hk21
      go_wp2_with fail
      refine (pick_any R 14 (q + 1) w4 (by omega) Hr4.out (by omega)).mono ?_
      rintro e w5 ⟨m, rfl, hm0, hm1, hr5, hg5⟩
      have Hr5 := Lib.hid hr5
      have Hg5 := Lib.hid (grownBy_trans Hg4.out hg5)
      have Hbl5 := Lib.hid (Hbl4.out.step hg5 (fun r e => by cases e; omega))
      have hz5 := hg5.size
      clear hr5 hg5
      obtain ⟨f5, hro5, hfo5⟩ := Hbl5.out.bld.rd
      have Hro5 := Lib.hid hro5
      have Hfo5 := Lib.hid hfo5
      have Hnf5 := Lib.hid (show R ∉ f5 from fun hm => by have := hfo5 R hm; omega)
      obtain ⟨gO, oO, av, cv, rfl, hgO, hgOf, c0, c1, ci, cs, _⟩ := shard_cells hro5 hknl (B := 0) (blk := none) (fun r _ => ⟨Nat.zero_le _, by simp⟩)
      have hgO2 := hfo5 gO hgOf
      obtain ⟨hoff, hfz⟩ := Hbl5.out.frz
      subst hoff
      rw [Nat.zero_add] at c0 c1
      have Hlist := Lib.hid (fun hne => Hbl5.out.list hknl hne)
      have Hci := Lib.hid ci
      have Hcs := Lib.hid cs
      have hknz : (kn : Int) < L.length := by omega
      have hSl : L[kn].2.length ≤ 12 := HLi.out _ (List.getElem_mem hknl)
      have Htail := Lib.hid (fun (size need : Int) (v : Value) (L' : List (Int × List Int)) (f' : List Nat) W (h1 : Rd W (.l (L'.map shardD)) v f') (h2 : L'.length ≤ 8) (h3 : ∀ s ∈ L', s.2.length ≤ 20) (h4 : -100 ≤ size ∧ size ≤ 100) (h5 : -100 ≤ need ∧ need ≤ 100) (h6 : w.grownBy W (some R)) (q' : Nat) (h7 : q' ≤ 20000) (h8 : Rdr W R q') (h9 : R ∉ f') => (⟨size, need, v, L', f', rfl, h1, h2, h3, h4, h5, h6, ⟨q', h7, h8⟩, h9⟩ : ShPost w R (.returned (.tuple #[.int .i64 size, .int .i64 need, v])) W))
      clear hro5 hfo5 ci cs hL0 hfz
      generalize hS : L[kn] = S at *
      obtain ⟨Sn, Sv⟩ := S
      dsimp only at *
      have HS := Lib.hid hS
      clear hS
      by_cases h0 : m = 0
      · subst h0
        by_cases hSv : 0 < Sv.length
        case neg =>
          have e9 : ¬ (0 : Int) < (Sv.length : Int) := by omega
          clear c0
          go_wp2
          go_ret3
          exact Htail.out _ _ _ L f5 w5 Hro5.out hL8 HLi'.out (by omega) (by omega) (grownBy_trans Hg3.out Hg5.out) _ (by omega) Hr5.out Hnf5.out
        obtain ⟨bv, ov, cv2, c2, hNb, hbv, hcells⟩ := Hlist.out hSv
        have hcc := Option.some.inj (c1.symm.trans c2)
        simp only [Value.slice.injEq, true_and] at hcc
        obtain ⟨rfl, rfl⟩ := hcc
        obtain ⟨hb1, hb2, hb3', hb4⟩ := HN.out bv hNb
        have Hb4 := Lib.hid hb4
        have Hcells := Lib.hid hcells
        have e9 : (0 : Int) < (Sv.length : Int) := by omega
        clear hb4 hcells c2 c0
        go_wp2_with fail
        refine wp_region_L 16 (fun w' => w'.cell? ⟨gO, kn * 2 + 1, none⟩ = some (.slice (some ⟨bv, ov, none⟩) Sv.length cv)) (by kernel_rfl) c1 (fun hH => ?_)
        refine takeL 0 (v := ?vz0) rfl (by kernel_rfl) (by kernel_rfl) (by kernel_rfl) (by kernel_rfl) (by kernel_rfl) (fun _ _ _ h => h) hH rfl ?yz0 ?rz0
        case yz0 => intro w hSw; go_simp; try with_reducible rfl
        try simp only [Act.put, List.setIfInBounds_toArray, List.set_cons_zero, List.set_cons_succ]
        refine takeL 1 (v := ?vz1) rfl (by kernel_rfl) (by kernel_rfl) (by kernel_rfl) (by kernel_rfl) (by kernel_rfl) (fun _ _ _ h => h) hH rfl ?yz1 ?rz1
        case yz1 => intro w hSw; go_simp; try with_reducible rfl
        try simp only [Act.put, List.setIfInBounds_toArray, List.set_cons_zero, List.set_cons_succ]
        refine takeL 2 (v := ?vz2) rfl (by kernel_rfl) (by kernel_rfl) (by kernel_rfl) (by kernel_rfl) (by kernel_rfl) (fun _ _ _ h => h) hH rfl ?yz2 ?rz2
        case yz2 => intro w hSw; go_simp; try with_reducible rfl
        try simp only [Act.put, List.setIfInBounds_toArray, List.set_cons_zero, List.set_cons_succ]
        refine takeL 3 (v := ?vz3) rfl (by kernel_rfl) (by kernel_rfl) (by kernel_rfl) (by kernel_rfl) (by kernel_rfl) (fun _ _ _ h => h) hH rfl ?yz3 ?rz3
        case yz3 => intro w hSw; go_simp; try with_reducible rfl
        try simp only [Act.put, List.setIfInBounds_toArray, List.set_cons_zero, List.set_cons_succ]
        refine takeL 4 (v := ?vz4) rfl (by kernel_rfl) (by kernel_rfl) (by kernel_rfl) (by kernel_rfl) (by kernel_rfl) (fun _ _ _ h => h) hH rfl ?yz4 ?rz4
        case yz4 => intro w hSw; go_simp; try with_reducible rfl
        try simp only [Act.put, List.setIfInBounds_toArray, List.set_cons_zero, List.set_cons_succ]
        refine takeL 5 (v := ?vz5) rfl (by kernel_rfl) (by kernel_rfl) (by kernel_rfl) (by kernel_rfl) (by kernel_rfl) (fun _ _ _ h => h) hH rfl ?yz5 ?rz5
        case yz5 => intro w hSw; go_simp; try with_reducible rfl
        try simp only [Act.put, List.setIfInBounds_toArray, List.set_cons_zero, List.set_cons_succ]
        refine takeL 6 (v := ?vz6) rfl (by kernel_rfl) (by kernel_rfl) (by kernel_rfl) (by kernel_rfl) (by kernel_rfl) (fun _ _ _ h => h) hH rfl ?yz6 ?rz6
        case yz6 => intro w hSw; go_simp; try with_reducible rfl
        try simp only [Act.put, List.setIfInBounds_toArray, List.set_cons_zero, List.set_cons_succ]
        refine takeL 7 (v := ?vz7) rfl (by kernel_rfl) (by kernel_rfl) (by kernel_rfl) (by kernel_rfl) (by kernel_rfl) (fun _ _ _ h => h) hH rfl ?yz7 ?rz7
        case yz7 => intro w hSw; go_simp; try with_reducible rfl
        try simp only [Act.put, List.setIfInBounds_toArray, List.set_cons_zero, List.set_cons_succ]
        refine takeL 8 (v := ?vz8) rfl (by kernel_rfl) (by kernel_rfl) (by kernel_rfl) (by kernel_rfl) (by kernel_rfl) (fun _ _ _ h => h) hH rfl ?yz8 ?rz8
        case yz8 => intro w hSw; go_simp; try with_reducible rfl
        try simp only [Act.put, List.setIfInBounds_toArray, List.set_cons_zero, List.set_cons_succ]
        refine takeL 9 (v := ?vz9) rfl (by kernel_rfl) (by kernel_rfl) (by kernel_rfl) (by kernel_rfl) (by kernel_rfl) (fun _ _ _ h => h) hH rfl ?yz9 ?rz9
        case yz9 => intro w hSw; go_simp; try with_reducible rfl
        try simp only [Act.put, List.setIfInBounds_toArray, List.set_cons_zero, List.set_cons_succ]
        refine takeL 10 (v := ?vz10) rfl (by kernel_rfl) (by kernel_rfl) (by kernel_rfl) (by kernel_rfl) (by kernel_rfl) (fun _ _ _ h => h) hH rfl ?yz10 ?rz10
        case yz10 => intro w hSw; go_simp; try with_reducible rfl
        try simp only [Act.put, List.setIfInBounds_toArray, List.set_cons_zero, List.set_cons_succ]
        refine takeL 11 (v := ?vz11) rfl (by kernel_rfl) (by kernel_rfl) (by kernel_rfl) (by kernel_rfl) (by kernel_rfl) (fun _ _ _ h => h) hH rfl ?yz11 ?rz11
        case yz11 => intro w hSw; go_simp; try with_reducible rfl
        try simp only [Act.put, List.setIfInBounds_toArray, List.set_cons_zero, List.set_cons_succ]
        refine takeL 13 (v := ?vz12) rfl (by kernel_rfl) (by kernel_rfl) (by kernel_rfl) (by kernel_rfl) (by kernel_rfl) (fun _ _ _ h => h) hH rfl ?yz12 ?rz12
        case yz12 => intro w hSw; go_simp; try with_reducible rfl
        try simp only [Act.put, List.setIfInBounds_toArray, List.set_cons_zero, List.set_cons_succ]
        refine callL 12 rfl (by kernel_rfl) rfl (fun K hK => ?_)
        go_simp
        refine (pick_any R (Sv.length : Int) (q + 1 + 1) _ (by omega) (Hr5.out.drewN 1) (by omega)).mono ?_
        rintro e wx ⟨z1, rfl, hz10, hz11, hrx, hgx⟩
        obtain ⟨zn, rfl⟩ : ∃ zn : Nat, z1 = zn := ⟨z1.toNat, (Int.toNat_of_nonneg hz10).symm⟩
        have hznl : zn < Sv.length := by omega
        have hznz : (zn : Int) < (Sv.length : Int) := by omega
        dsimp only
        have Hrx := Lib.hid hrx
        have Hgx := Lib.hid hgx
        clear hrx
        refine hK.out _ _ (hgx.cell hH (by simp only [ne_eq, Option.some.injEq]; omega)) (fun hH => ?_)
        clear hK K
        try simp only [Act.put, List.setIfInBounds_toArray, List.set_cons_zero, List.set_cons_succ]
        refine callL 14 rfl (by kernel_rfl) rfl (fun K hK => ?_)
        go_simp
        refine (pick_any R 251 (q + 1 + 1 + 1) _ (by omega) Hrx.out (by omega)).mono ?_
        rintro e wy ⟨y, rfl, hy0, hy1, hry, hgy⟩
        have Hry := Lib.hid hry; clear hry
        have Hg5y := Lib.hid (grownBy_trans (show w5.grownBy w5.drew (some R) from grownBy_drewN (World.grownBy.refl _ _) 1) (grownBy_trans Hgx.out hgy))
        have Hgy := Lib.hid (grownBy_trans Hg5.out Hg5y.out)
        have gcell : wy.cell? ⟨bv, ov + zn, none⟩ = some (.int .i64 Sv[zn]) := Hg5y.out.cell (Hcells.out zn hznl) (by simp only [ne_eq, Option.some.injEq]; omega)
        have gfrz : wy.frozen? ⟨bv, ov + zn, none⟩ = false := (grown_frozen Hgy.out hb2 (by simp only [ne_eq, Option.some.injEq]; omega) _).trans (Hb4.out _)
        dsimp only
        refine hK.out _ _ (hgy.cell hH (by simp only [ne_eq, Option.some.injEq]; omega)) (fun hH => ?_)
        clear hK K
        try simp only [Act.put, List.setIfInBounds_toArray, List.set_cons_zero, List.set_cons_succ]
        refine callL 15 rfl (by kernel_rfl) rfl (fun K hK => ?_)
        go_simp
        refine hK.out _ _ hH (fun hH => ?_)
        clear hK K
        try simp only [Act.put, List.setIfInBounds_toArray, List.set_cons_zero, List.set_cons_succ]
        refine lastL rfl (by kernel_rfl) (by kernel_rfl) (by kernel_rfl) rfl (fun K hK => ?_)
        go_simp
        refine hK.out _ _ ?_
        clear hK K
        try simp only [Act.put, List.setIfInBounds_toArray, List.set_cons_zero, List.set_cons_succ]
        have HW := Lib.hid (grownBy_trans Hg3.out Hgy.out)
        have Hbl7 := Lib.hid (Hbl5.out.step (row := some R) Hg5y.out (fun r e => by cases e; omega))
        obtain ⟨f7, hr7, hf7⟩ := Hbl7.out.bld.rd
        have Hn7 := Lib.hid (show R ∉ f7 from fun hm => by have := hf7 R hm; omega)
        have Hrz := Lib.hid (Hry.out.kept (grownBy_set wy bv (ov + zn) (.int .i64 y)) (fun g e => by cases e; omega))
        clear hf7
        obtain ⟨L', hl', hm', hp'⟩ := shards_poke y gcell hr7 HLi'.out
        have Hp' := Lib.hid hp'
        have Hm' := Lib.hid hm'
        have HWs := Lib.hid (grown_row' HW.out (grownBy_set wy bv (ov + zn) (.int .i64 y)) (fun g e => by cases e; omega))
        clear hr7 hp' hm' gcell gfrz
        go_wp2
        go_ret3
        exact Htail.out _ _ _ L' f7 _ Hp'.out (by omega) Hm'.out (by omega) (by omega) HWs.out _ (by omega) Hrz.out Hn7.out
      have m0 : (m == 0) = false := by simpa using h0
      by_cases h1 : m = 1
      · subst h1
        go_wp2_with fail
        refine (pick_any R 10 (q + 2) w5 (by omega) Hr5.out (by omega)).mono ?_
        rintro e w6 ⟨y, rfl, hy0, hy1, hr6, hg6⟩
        have d0 := hg6.cell c0 (by simp only [ne_eq, Option.some.injEq]; omega)
        have hbl6 := Hbl5.out.step hg6 (fun r e => by cases e; omega)
        have g0 := hbl6.frz.2 (kn * 2)
        obtain ⟨f6, hr6', hf6⟩ := hbl6.bld.rd
        have Hn6 := Lib.hid (show R ∉ f6 from fun hm => by have := hf6 R hm; omega)
        have Hrz := Lib.hid (hr6.kept (grownBy_set w6 gO (kn * 2) (.int .i64 y)) (fun g e => by cases e; omega))
        clear hf6
        obtain ⟨L', hl', hm', hp'⟩ := shards_poke y d0 hr6' HLi'.out
        have Hp' := Lib.hid hp'
        have Hm' := Lib.hid hm'
        have HWs := Lib.hid (grown_row' (grownBy_trans Hg3.out (grownBy_trans Hg5.out hg6)) (grownBy_set w6 gO (kn * 2) (.int .i64 y)) (fun g e => by cases e; omega))
        clear hr6 hg6 hr6' hbl6 hp' hm' c0 c1
        go_wp2
        go_ret3
        exact Htail.out _ _ _ L' f6 _ Hp'.out (by omega) Hm'.out (by omega) (by omega) HWs.out _ (by omega) Hrz.out Hn6.out
      have m1 : (m == 1) = false := by simpa using h1
      by_cases h2 : m = 2
      · subst h2
        go_wp2_with fail
        refine (pick_any R 3 (q + 2) w5 (by omega) Hr5.out (by omega)).mono ?_
        rintro e w6 ⟨y, rfl, hy0, hy1, hr6, hg6⟩
        have Hg6 := Lib.hid (grownBy_trans Hg5.out hg6)
        obtain ⟨f6, hr6', hf6⟩ := (Hbl5.out.step hg6 (fun r e => by cases e; omega)).bld.rd
        have Hn6 := Lib.hid (show R ∉ f6 from fun hm => by have := hf6 R hm; omega)
        have Hrz := Lib.hid hr6
        clear hf6
        have Hr6 := Lib.hid hr6'
        clear hr6 hg6 hr6' c0 c1
        go_wp2
        all_goals
          go_ret3
          exact Htail.out _ _ _ L f6 w6 Hr6.out hL8 HLi'.out (by first | omega | (split <;> omega)) (by omega) (grownBy_trans Hg3.out Hg6.out) _ (by omega) Hrz.out Hn6.out
      have m2 : (m == 2) = false := by simpa using h2
      by_cases h3 : m = 3
      · subst h3
        go_wp2_with fail
        refine (pick_any R 3 (q + 2) w5 (by omega) Hr5.out (by omega)).mono ?_
        rintro e w6 ⟨y, rfl, hy0, hy1, hr6, hg6⟩
        have Hg6 := Lib.hid (grownBy_trans Hg5.out hg6)
        obtain ⟨f6, hr6', hf6⟩ := (Hbl5.out.step hg6 (fun r e => by cases e; omega)).bld.rd
        have Hn6 := Lib.hid (show R ∉ f6 from fun hm => by have := hf6 R hm; omega)
        have Hrz := Lib.hid hr6
        clear hf6
        have Hr6 := Lib.hid hr6'
        clear hr6 hg6 hr6' c0 c1
        go_wp2
        go_ret3
        exact Htail.out _ _ _ L f6 w6 Hr6.out hL8 HLi'.out (by omega) (by omega) (grownBy_trans Hg3.out Hg6.out) _ (by omega) Hrz.out Hn6.out
      have m3 : (m == 3) = false := by simpa using h3
      by_cases h4 : m = 4
      · subst h4
        have hcap := shards_cap Hro5.out (by omega)
        have hkc : kn ≤ co := by omega
        have hkcz : (kn : Int) ≤ (co : Int) := by omega
        obtain ⟨f7, hr7, hf7⟩ := Rd.take Hro5.out kn (by omega)
        have Hn7 := Lib.hid (show R ∉ f7 from fun hm => Hnf5.out (hf7 R hm))
        clear hf7
        have Hr7 := Lib.hid hr7
        have hkl : (L.take kn).length ≤ 8 := by rw [List.length_take]; omega
        have hki : ∀ s ∈ L.take kn, s.2.length ≤ 20 := fun s hs => HLi'.out s (List.mem_of_mem_take hs)
        have Hki := Lib.hid hki
        clear hr7 hki c0 c1
        go_wp2
        go_ret3
        exact Htail.out _ _ _ (L.take kn) f7 w5 Hr7.out hkl Hki.out (by omega) (by omega) (grownBy_trans Hg3.out Hg5.out) _ (by omega) Hr5.out Hn7.out
      have m4 : (m == 4) = false := by simpa using h4
      by_cases h5 : m = 5
      · subst h5
        have hbE : Below w5.heap.size w5 (w5.alloc (.cells #[] 3)) := (Below.refl _ _).alloc (Nat.le_refl _) _
        have HoE := Lib.hid (own_empty 3 w5 (Nat.le_refl w5.heap.size))
        have HsE := Lib.hid (srcAt_under Hcs.out Hci.out hbE)
        have HrE5 := Lib.hid (Hr5.out.kept (below_grown hbE) (fun _ e => by cases e))
        have hzE5 : (w5.alloc (.cells #[] 3)).heap.size = w5.heap.size + 1 := by simp
        have HzE5 := Lib.hid hzE5
        have c1E := (hbE.cell (p := ⟨gO, kn * 2 + 1, none⟩) hgO).trans c1
        have HbE := Lib.hid hbE
        clear hbE hzE5 c0
        go_wp2_with (at_builtin; refine wpList_appI TI3 rfl (.tmp 143) (.tmp 148) rfl w5.heap.size (.slice (some ⟨w5.heap.size, 0, none⟩) 0 0) [] Sv _ _ rfl HoE.out rfl HsE.out (by simp; omega) (by rw [HzE5.out]; omega) ?_; intro v6 w6 hown6 hg6; (rw [List.nil_append] at hown6); (clear c1E))
        have hRg : R < gO := by omega
        have hR5 : R < w5.heap.size := by omega
        have Hr6 := Lib.hid (HrE5.out.kept hg6 (fun g e => by cases e; exact hR5))
        have Hg56 := Lib.hid (grown_row' (show w5.grownBy (w5.alloc (.cells #[] 3)) (some R) from World.grownBy_alloc _ _ _) (row := some w5.heap.size) hg6 (fun g e => by cases e; exact Nat.le_refl _))
        have Hown6 := Lib.hid hown6
        have hz6 := Hg56.out.size
        clear hown6 hg6
        refine (pick_any R 251 (q + 1 + 1) w6 (by omega) Hr6.out (by omega)).mono ?_
        rintro e w7 ⟨y, rfl, hy0, hy1, hr7, hg7⟩
        have Hown7 := Lib.hid (Hown6.out.kept hg7 (.inr (fun e => by have := (Hown6.out.lt R e).1; omega)))
        have Hg57 := Lib.hid (grownBy_trans Hg56.out hg7)
        have hB7 : w5.heap.size ≤ w7.heap.size := by have := hg7.size; omega
        have Hr7 := Lib.hid hr7
        clear hr7 hg7
        go_wp2_with (at_builtin; refine wpList_push TI3 rfl (.tmp 149) (.tmp 152) rfl w5.heap.size _ Sv _ rfl Hown7.out (by omega) rfl hB7 ?_; intro v8 w8 hown8 hg8; (have Hg58 := Lib.hid (grown_row' Hg57.out hg8 (fun g e => (Hown7.out.lt g e).1))); (obtain ⟨a8, n8, c8, rfl⟩ : ∃ a n c, v8 = Value.slice a n c := (by obtain ⟨a, c, e, _⟩ := hown8.ints; exact ⟨a, _, c, e⟩)); (have Hbl8 := Lib.hid (Hbl5.out.step (row := some R) Hg58.out (fun r e => by cases e; omega))); (have c8' := Hg58.out.cell c1 (by simp only [ne_eq, Option.some.injEq]; omega)); (have f8' := Hbl8.out.frz.2 (kn * 2 + 1)); (have Hown8 := Lib.hid hown8); (have Hr8 := Lib.hid (Hr7.out.kept hg8 (fun g e => by have := (Hown7.out.lt g e).1; omega))); (clear hown8 hg8))
        have hgu : (Value.slice a8 n8 c8).ownBlock ≠ some gO := fun e => by have := (Hown8.out.lt gO e).1; omega
        obtain ⟨f9, hr9, hf9⟩ := (Bld.setL Hbl8.out.bld rfl hknl Hown8.out (show w2.heap.size ≤ w5.heap.size by omega) hgu).rd
        have HW9 := Lib.hid (grown_row' (grownBy_trans Hg3.out (grownBy_trans Hg5.out Hg58.out)) (grownBy_set w8 gO (kn * 2 + 1) (.slice a8 n8 c8)) (fun g e => by cases e; omega))
        have Hr9 := Lib.hid hr9
        have Hn9 := Lib.hid (show R ∉ f9 from fun hm => by have := hf9 R hm; omega)
        have Hrz := Lib.hid (Hr8.out.kept (grownBy_set w8 gO (kn * 2 + 1) (.slice a8 n8 c8)) (fun g e => by cases e; exact hRg))
        clear hf9
        have Hm9 := Lib.hid (show ∀ s ∈ L.set kn ((L[kn]'hknl).1, Sv ++ [y]), s.2.length ≤ 20 from fun s hs => by
          rcases List.mem_or_eq_of_mem_set hs with h | h
          · exact HLi'.out s h
          · subst h; simp; omega)
        go_ret3
        exact Htail.out _ _ _ (L.set kn ((L[kn]'hknl).1, Sv ++ [y])) f9 _ Hr9.out (by simp; omega) Hm9.out (by omega) (by omega) HW9.out _ (by omega) Hrz.out Hn9.out
      have m5 : (m == 5) = false := by simpa using h5
      clear c0 c1
      go_wp2
      go_ret3
      exact Htail.out _ _ _ L f5 w5 Hro5.out hL8 HLi'.out (by omega) (by omega) (grownBy_trans Hg3.out Hg5.out) _ (by omega) Hr5.out Hnf5.out

end Go.Proofs.Ytnaeeemgehgdfab

/- What impl's repair of a shard is, by a walk of its text; conditions: the lists are short, the numbers are ints. -/
namespace Go.Proofs.Ytnaeeemgehgdfab
open Go.RowKit

def repB (size need : Int) (L : List Sh) (x : Int) : Bool := joinB size need L && decide (1 ≤ x ∧ x ≤ 8)
/-- The shard with a number, of the data that the shards of a list join to. -/
def repS (size need : Int) (L : List Sh) (x : Int) : Sh := if repB size need L x then (x, shardV (joinD size need L) need.toNat x) else (0, [])
theorem rep_no {size need : Int} {L : List Sh} {x : Int} (h : repB size need L x = false) : repS size need L x = (0, []) := by unfold repS; rw [if_neg (by simp [h])]
theorem rep_yes {size need : Int} {L : List Sh} {x : Int} (h : repB size need L x = true) : repS size need L x = (x, shardV (joinD size need L) need.toNat x) := by unfold repS; rw [if_pos h]
theorem join_data {size need : Int} {L : List Sh} (h : joinB size need L = true) : dataB (joinD size need L) need = true := by
  have hD : joinD size need L = dataI size.toNat need.toNat L := by unfold joinD; rw [if_pos h]
  rw [hD]
  unfold joinB joinOk lenB at h
  simp only [Bool.and_eq_true, decide_eq_true_eq, List.all_eq_true] at h
  obtain ⟨⟨⟨hs, hn⟩, ⟨hl, _⟩, _⟩, ha⟩ := h
  have h0 : 0 < L.length := by omega
  have := ha _ (List.getElem_mem h0)
  unfold matB at this
  simp only [Bool.and_eq_true] at this
  exact this.1.1

set_option maxHeartbeats 2000000 in
theorem impl_ShardRepair (size need : Int) (L : List Sh) (v : Value) (x : Int) (fp : List Nat) (w : World) (hbig : L.length ≤ 1048576) (hin : ∀ s ∈ L, s.2.length ≤ 1048576) (hr : Rd w (.l (L.map shardD)) v fp) :
    Calls Try.prog 5 #[.int .i64 size, .int .i64 need, v, .int .i64 x] w fun e w' => ∃ u, e = .returned (.tuple #[.agg #[.int .i64 (repS size need L x).1, u], .bool (repB size need L x)]) ∧ Own 3 w' w.heap.size u (repS size need L x).2 ∧ Below w.heap.size w w' := by
  have hb0 : Below w.heap.size w (w.alloc (.cells #[.int .i64 0, .slice none 0 0] 28)) := (Below.refl _ _).alloc (Nat.le_refl _) _
  have s0 := Str.new w 28 #[.int .i64 0, .slice none 0 0]
  have hr1 := hr.under hb0
  clear hr
  have Hj := Lib.hid (impl_ShardJoin size need L v fp _ hbig hin hr1)
  clear hr1
  have hnm := fun w => impl_isShardNumber x w
  have hsz1 : (w.alloc (.cells #[.int .i64 0, .slice none 0 0] 28)).heap.size = w.heap.size + 1 := by simp
  cases hj : joinB size need L with
  | false =>
    have hrb : repB size need L x = false := by unfold repB; rw [hj]; rfl
    have Hf := Lib.hid (And.intro hrb (rep_no hrb))
    have hj' := Hj.out
    rw [hj] at hj'
    have Hj := Lib.hid hj'; clear hj' hrb hj hnm
    have Hs0 := Lib.hid s0; clear s0
    have Hb0 := Lib.hid hb0; clear hb0
    go_enter Try.func5, Try.ntmps5
    go_wp2_with fail
    generalize w.alloc (.cells #[.int .i64 0, .slice none 0 0] 28) = W1 at *
    refine Hj.out.mono ?_
    rintro e w2 ⟨u, rfl, hown, hb2⟩
    have hs2 : Str w2 w.heap.size 28 _ := (hb2.block _ Hs0.out.lt).trans Hs0.out
    have Hs2 := Lib.hid hs2; clear hs2
    have Hb2 := Lib.hid (below_step Hb0.out Hb0.out.size hb2)
    have f0 := Hs2.out.frozen 0
    have f1 := Hs2.out.frozen 1
    have k0 := Hs2.out.cell 0 rfl
    have k1 := Hs2.out.cell 1 rfl
    have sF := (Hs2.out.set 0 (.int .i64 0)).set 1 (.slice none 0 0)
    have e0 := sF.cell 0 (v := .int .i64 0) rfl
    have e1 := sF.cell 1 (v := .slice none 0 0) rfl
    clear hown hb2 sF
    go_wp2
    refine bodyPost_ret (v := .tuple #[.agg #[.int .i64 0, .slice none 0 0], .bool false]) (by simp [results, Try.f5, go_sem, e0, e1]) rfl ?_
    rw [Hf.out.1, Hf.out.2]
    exact ⟨_, rfl, Own.nil _ _ _, (Hb2.out.setCell (p := ⟨w.heap.size, 0, none⟩) (Nat.le_refl _) _).setCell (p := ⟨w.heap.size, 1, none⟩) (Nat.le_refl _) _⟩
  | true =>
    have hj' := Hj.out
    rw [hj] at hj'
    have Hj := Lib.hid hj'; clear hj'
    have Hs0 := Lib.hid s0; clear s0
    have Hb0 := Lib.hid hb0; clear hb0
    by_cases hX : 1 ≤ x ∧ x ≤ 8
    · rw [decide_eq_true hX] at hnm
      have Hnm := Lib.hid hnm; clear hnm
      have hrb : repB size need L x = true := by unfold repB; rw [hj, decide_eq_true hX]; rfl
      have Hf := Lib.hid (And.intro hrb (rep_yes hrb))
      clear hrb
      have hD := join_data hj
      obtain ⟨hsym, ⟨hd1, hd2⟩, hn1, hn2⟩ := dataB_iff hD
      clear hD hj
      obtain ⟨need, rfl⟩ := Int.eq_ofNat_of_zero_le (show 0 ≤ need by omega)
      generalize joinD size (need : Int) L = D at *
      have Hsh := Lib.hid (fun a cap W hcap h => impl_shardOf a cap D need x W hsym hd2 (by omega) (by omega) (by omega) (by omega) hcap h)
      clear hsym
      have Hd2 := Lib.hid hd2; clear hd2
      go_enter Try.func5, Try.ntmps5
      go_wp2_with fail
      generalize w.alloc (.cells #[.int .i64 0, .slice none 0 0] 28) = W1 at *
      refine Hj.out.mono ?_
      rintro e w2 ⟨u, rfl, hown, hb2⟩
      have hs2 : Str w2 w.heap.size 28 _ := (hb2.block _ Hs0.out.lt).trans Hs0.out
      have Hs2 := Lib.hid hs2; clear hs2
      have Hb2 := Lib.hid (below_step Hb0.out Hb0.out.size hb2)
      clear hb2
      obtain ⟨ad, cd, rfl, hi2, _, hcap2⟩ := hown.src
      have Hi2 := Lib.hid hi2; clear hi2
      clear hown
      go_wp2_with fail
      refine (Hnm.out _).mono ?_
      rintro e w' ⟨rfl, rfl⟩
      go_wp2_with fail
      refine (Hsh.out ad cd _ hcap2 Hi2.out).mono ?_
      rintro e w4 ⟨v4, rfl, hown4, hb4⟩
      have hs4 : Str w4 w.heap.size 28 _ := (hb4.block _ Hs2.out.lt).trans Hs2.out
      have Hs4 := Lib.hid hs4; clear hs4
      have Hb4 := Lib.hid (below_step Hb2.out Hb2.out.size hb4)
      clear hb4
      have hsz2 := Hs2.out.lt
      have hne : v4.ownBlock ≠ some w.heap.size := fun e => by have := (hown4.lt _ e).1; omega
      obtain ⟨av, cv, rfl, _, _⟩ := hown4.ints
      have Hown4 := Lib.hid hown4; clear hown4
      have Hne := Lib.hid hne; clear hne
      have f0 := Hs4.out.frozen 0
      have f1 := Hs4.out.frozen 1
      have k0 := Hs4.out.cell 0 rfl
      have k1 := Hs4.out.cell 1 rfl
      have sF := (Hs4.out.set 0 (.int .i64 x)).set 1 (.slice av (shardV D need x).length cv)
      have e0 := sF.cell 0 (v := .int .i64 x) rfl
      have e1 := sF.cell 1 (v := .slice av (shardV D need x).length cv) rfl
      clear sF
      go_wp2
      refine bodyPost_ret (v := .tuple #[.agg #[.int .i64 x, .slice av (shardV D need x).length cv], .bool true]) (by simp [results, Try.f5, go_sem, e0, e1]) rfl ?_
      rw [Hf.out.1, Hf.out.2]
      exact ⟨_, rfl, ((Hown4.out.mono (by omega)).set_other Hne.out 0 _).set_other Hne.out 1 _, (Hb4.out.setCell (p := ⟨w.heap.size, 0, none⟩) (Nat.le_refl _) _).setCell (p := ⟨w.heap.size, 1, none⟩) (Nat.le_refl _) _⟩
    · rw [decide_eq_false hX] at hnm
      have Hnm := Lib.hid hnm; clear hnm
      have hrb : repB size need L x = false := by unfold repB; rw [decide_eq_false hX, Bool.and_false]
      have Hf := Lib.hid (And.intro hrb (rep_no hrb))
      clear hrb hj
      go_enter Try.func5, Try.ntmps5
      go_wp2_with fail
      generalize w.alloc (.cells #[.int .i64 0, .slice none 0 0] 28) = W1 at *
      refine Hj.out.mono ?_
      rintro e w2 ⟨u, rfl, hown, hb2⟩
      have hs2 : Str w2 w.heap.size 28 _ := (hb2.block _ Hs0.out.lt).trans Hs0.out
      have Hs2 := Lib.hid hs2; clear hs2
      have Hb2 := Lib.hid (below_step Hb0.out Hb0.out.size hb2)
      clear hown hb2
      go_wp2_with fail
      refine (Hnm.out _).mono ?_
      rintro e w' ⟨rfl, rfl⟩
      have f0 := Hs2.out.frozen 0
      have f1 := Hs2.out.frozen 1
      have k0 := Hs2.out.cell 0 rfl
      have k1 := Hs2.out.cell 1 rfl
      have sF := (Hs2.out.set 0 (.int .i64 0)).set 1 (.slice none 0 0)
      have e0 := sF.cell 0 (v := .int .i64 0) rfl
      have e1 := sF.cell 1 (v := .slice none 0 0) rfl
      clear sF
      go_wp2
      refine bodyPost_ret (v := .tuple #[.agg #[.int .i64 0, .slice none 0 0], .bool false]) (by simp [results, Try.f5, go_sem, e0, e1]) rfl ?_
      rw [Hf.out.1, Hf.out.2]
      exact ⟨_, rfl, Own.nil _ _ _, (Hb2.out.setCell (p := ⟨w.heap.size, 0, none⟩) (Nat.le_refl _) _).setCell (p := ⟨w.heap.size, 1, none⟩) (Nat.le_refl _) _⟩

end Go.Proofs.Ytnaeeemgehgdfab

/- The draw for repairing a shard, by a walk of its text, and what its law asks of the reference's answers. -/
namespace Go.Proofs.Ytnaeeemgehgdfab
open Go.RowKit

/-- P25: a repaired shard belongs to the data that the others join to. -/
theorem repair_law {size need : Int} {L : List Sh} {x : Int} (h : repB size need L x = true) : joinB size need L = true ∧ (repS size need L x).1 = x ∧ matB (joinD size need L) need (repS size need L x) = true := by
  have h2 := h
  unfold repB at h2
  rw [Bool.and_eq_true, decide_eq_true_eq] at h2
  refine ⟨h2.1, by rw [rep_yes h], ?_⟩
  rw [rep_yes h]
  unfold matB
  rw [join_data h2.1, decide_eq_true (show 1 ≤ x ∧ x ≤ 8 from h2.2)]
  simp

theorem repS_len (size need : Int) (L : List Sh) (x : Int) : (repS size need L x).2.length ≤ 12 := by
  cases h : repB size need L x with
  | false => rw [rep_no h]; simp
  | true =>
    rw [rep_yes h]
    have h2 := h
    unfold repB at h2
    rw [Bool.and_eq_true] at h2
    obtain ⟨-, h3, h4⟩ := dataB_iff (join_data h2.1)
    rw [show ((x, shardV (joinD size need L) need.toNat x) : Sh).2 = shardV (joinD size need L) need.toNat x from rfl, shardV_len]
    exact cols_le (by omega) h3.2
theorem joinD_short (size need : Int) (L : List Sh) : (joinD size need L).length ≤ 12 := by
  cases h : joinB size need L with
  | false => unfold joinD; rw [if_neg (by simp [h])]; simp
  | true => exact (dataB_iff (join_data h)).2.1.2

theorem spec_DrawShardRepair (a : Option Addr) (cap : Nat) (zs : List Int) (w : World) (h : CodeAt w a cap zs) :
    Calls Try.prog 4 #[.slice a zs.length cap] w fun e w' => ∃ (size need : Int) (v : Value) (L : List Sh) (fp : List Nat) (x : Int), e = .returned (.tuple #[.int .i64 size, .int .i64 need, v, .int .i64 x]) ∧ Rd w' (.l (L.map shardD)) v fp ∧ L.length ≤ 8 ∧ (∀ s ∈ L, s.2.length ≤ 20) ∧ Below w.heap.size w w' := by
  have hop := open_any a cap zs _ h
  have Hop := Lib.hid hop; clear hop h
  go_enter Try.func4, Try.ntmps4
  go_wp2_with fail
  refine Hop.out.mono ?_
  rintro e w1 ⟨R, rfl, hR1, hR2, hr1, hb1⟩
  have Hr1 := Lib.hid hr1; clear hr1
  have hRl := Hr1.out.lt
  have Hb1 := Lib.hid hb1
  have hs1 := hb1.size
  clear hb1
  go_wp2_with fail
  refine (drawShards R 0 w1 (by omega) Hr1.out hRl).mono ?_
  rintro e w2 ⟨size, need, v, L, fp, rfl, hr, hL, hS, hz1, hz2, hg, ⟨p2, hp2, hr2⟩, hnf⟩
  have HS := Lib.hid hS
  have hs2 := hg.size
  have Hr := Lib.hid hr
  have Hr2 := Lib.hid hr2
  have Hnf := Lib.hid hnf
  have Hg := Lib.hid hg
  clear hr hS hg hz1 hz2 hr2 hnf
  go_wp2_with fail
  refine (pick_any R 10 p2 w2 (by omega) Hr2.out (by omega)).mono ?_
  rintro e w3 ⟨x, rfl, _, _, _, hg3⟩
  have Hr3 := Lib.hid (Rd.grown hg3 Hr.out (fun r e hm => by cases e; exact Hnf.out hm))
  have Hg3 := Lib.hid (Hb1.out.trans (below_of_row' (grownBy_trans Hg.out hg3) (by omega) (by omega)))
  clear hg3
  go_wp2
  refine bodyPost_ret (v := .tuple #[.int .i64 size, .int .i64 need, v, .int .i64 x]) (by simp [results, Try.f4, go_sem]) rfl ?_
  exact ⟨size, need, v, L, fp, x, rfl, Hr3.out, hL, HS.out, Hg3.out⟩

end Go.Proofs.Ytnaeeemgehgdfab

/- Whether shards have different numbers and the right lengths, as spec reckons it, by a walk of its text; conditions: the lists are short. -/
namespace Go.Proofs.Ytnaeeemgehgdfab
open Go.RowKit

theorem ok_no1 {size need : Int} {L : List Sh} (h : ¬ (1 ≤ size ∧ size ≤ 12)) : joinOk size need L = false := by unfold joinOk; rw [decide_eq_false h]; rfl
theorem ok_no2 {size need : Int} {L : List Sh} (h : ¬ (1 ≤ need ∧ need ≤ 8)) : joinOk size need L = false := by unfold joinOk; rw [decide_eq_false h, Bool.and_false]; rfl
theorem ok_no3 {size need : Int} {L : List Sh} (h : ¬ (need ≤ L.length ∧ L.length ≤ 8)) : joinOk size need L = false := by unfold joinOk lenB; rw [decide_eq_false h, Bool.false_and, Bool.and_false]
theorem ok_eq {size need : Nat} {L : List Sh} (h1 : 1 ≤ (size : Int) ∧ (size : Int) ≤ 12) (h2 : 1 ≤ (need : Int) ∧ (need : Int) ≤ 8) (h3 : (need : Int) ≤ L.length ∧ L.length ≤ 8) : joinOk size need L = shsB ((size + need - 1) / need) L := by
  unfold joinOk lenB; rw [decide_eq_true h1, decide_eq_true h2, decide_eq_true h3]; simp
def neAt (L : List Sh) (k : Nat) : Nat → Bool := fun j => decide (xsOf L j ≠ xsOf L k)
def syAt (vs : List Int) : Nat → Bool := fun j => symB (vs.getD j 0)
theorem shAt_new {cols : Nat} {L : List Sh} {k j : Nat} (hj : j < k) (h : xsOf L j = xsOf L k) : shAt cols L k = false := by
  unfold shAt newAt; rw [allB_no hj (by simp [h]), Bool.and_false]
theorem shAt_yes2 {cols : Nat} {L : List Sh} {k : Nat} (hk : k < L.length) (h1 : 1 ≤ L[k].1 ∧ L[k].1 ≤ 8) (h : Upto (neAt L k) k) (hl : L[k].2.length = cols) (hs : L[k].2.all symB = true) : shAt cols L k = true := by
  unfold shAt okS newAt; rw [getS hk, decide_eq_true h1, decide_eq_true hl, hs, allB_yes (p := fun j => decide (xsOf L j ≠ xsOf L k)) h (Nat.le_refl _)]; rfl
theorem sy_all {vs : List Int} (h : Upto (syAt vs) vs.length) : vs.all symB = true := by
  rw [List.all_eq_true]
  intro y hy
  obtain ⟨j, hj, rfl⟩ := List.mem_iff_getElem.1 hy
  have := h j hj
  unfold syAt at this
  rwa [getD_get hj] at this
theorem sy_no {vs : List Int} {j : Nat} (hj : j < vs.length) (h : ¬ (0 ≤ vs[j] ∧ vs[j] ≤ 250)) : vs.all symB = false := by
  rw [List.all_eq_false]; exact ⟨vs[j], List.getElem_mem hj, by simp [symB_no h]⟩

set_option maxRecDepth 8000 in
set_option maxHeartbeats 1000000 in
theorem spec_l3List (size need : Int) (L : List Sh) (v : Value) (fp : List Nat) (w : World) (hbig : L.length ≤ 1048576) (hin : ∀ s ∈ L, s.2.length ≤ 1048576) (hr : Rd w (.l (L.map shardD)) v fp) :
    Calls Try.prog 28 #[.int .i64 size, .int .i64 need, v] w fun e w' => e = .returned (.bool (joinOk size need L)) ∧ Drawn w w' := by
  obtain ⟨a, cap, rfl⟩ := hr.slice
  rw [List.length_map] at *
  by_cases hS : 1 ≤ size ∧ size ≤ 12
  case neg =>
    have Hf := Lib.hid (ok_no1 (need := need) (L := L) hS)
    go_enter Try.func28, Try.ntmps28
    go_wp2_with fail
    refine (spec_l6In_no hS _).mono ?_
    rintro e w' ⟨rfl, rfl⟩
    go_wp2
    go_ret
    exact ⟨ret_bool Hf.out.symm, Drawn.refl _⟩
  by_cases hN : 1 ≤ need ∧ need ≤ 8
  case neg =>
    have Hf := Lib.hid (ok_no2 (size := size) (L := L) hN)
    go_enter Try.func28, Try.ntmps28
    go_wp2_with fail
    refine (spec_l6In_yes hS _).mono ?_
    rintro e w' ⟨rfl, rfl⟩
    go_wp2_with fail
    refine (spec_l6In_no hN _).mono ?_
    rintro e w' ⟨rfl, rfl⟩
    go_wp2
    go_ret
    exact ⟨ret_bool Hf.out.symm, Drawn.refl _⟩
  obtain ⟨size, rfl⟩ := Int.eq_ofNat_of_zero_le (show 0 ≤ size by omega)
  obtain ⟨need, rfl⟩ := Int.eq_ofNat_of_zero_le (show 0 ≤ need by omega)
  by_cases hl1 : L.length < need
  · have Hf := Lib.hid (ok_no3 (size := size) (need := need) (L := L) (by omega))
    have Hc := Lib.hid hN
    go_enter Try.func28, Try.ntmps28
    go_wp2_with fail
    refine (spec_l6In_yes hS _).mono ?_
    rintro e w' ⟨rfl, rfl⟩
    go_wp2_with fail
    refine (spec_l6In_yes hN _).mono ?_
    rintro e w' ⟨rfl, rfl⟩
    go_wp2
    go_ret
    exact ⟨ret_bool Hf.out.symm, Drawn.refl _⟩
  by_cases hl2 : 8 < (L.length : Int)
  · have Hf := Lib.hid (ok_no3 (size := size) (need := need) (L := L) (by omega))
    have hl1d : decide (L.length < need) = false := decide_eq_false hl1
    have hl1' : need ≤ L.length := by omega
    go_enter Try.func28, Try.ntmps28
    go_wp2_with fail
    refine (spec_l6In_yes hS _).mono ?_
    rintro e w' ⟨rfl, rfl⟩
    go_wp2_with fail
    refine (spec_l6In_yes hN _).mono ?_
    rintro e w' ⟨rfl, rfl⟩
    go_wp2
    go_ret
    exact ⟨ret_bool Hf.out.symm, Drawn.refl _⟩
  have Hf := Lib.hid (ok_eq hS hN (show (need : Int) ≤ L.length ∧ L.length ≤ 8 by omega))
  have hl1d : decide (L.length < need) = false := decide_eq_false hl1
  have hl2d : decide (8 < (L.length : Int)) = false := decide_eq_false hl2
  have hl1' : need ≤ L.length := by omega
  obtain ⟨g, off, rfl, hg, hat⟩ := shards_at hr (by omega)
  have Hat := Lib.hid hat; clear hat hr
  have Hcast := Lib.hid (show (((size + need - 1) / need : Nat) : Int) = ((size : Int) + (need : Int) - 1) / (need : Int) by rw [Int.natCast_ediv]; congr 1; omega)
  have Hin := Lib.hid hin; clear hin
  have hadd : IntKind.i64.wrap ((size : Int) + need) = size + need := IntWalk.i64_in _ (by omega)
  have hsub : IntKind.i64.wrap ((size : Int) + need - 1) = size + need - 1 := IntWalk.i64_in _ (by omega)
  go_enter Try.func28, Try.ntmps28
  go_wp2_with fail
  refine (spec_l6In_yes hS _).mono ?_
  rintro e w' ⟨rfl, rfl⟩
  go_wp2_with fail
  refine (spec_l6In_yes hN _).mono ?_
  rintro e w' ⟨rfl, rfl⟩
  go_wp2
  go_loopw [7] (fun i wr => ∃ k : Nat, k ≤ L.length ∧ i = .int .i64 k ∧ Upto (shAt ((size + need - 1) / need) L) k ∧ Drawn w wr) (fun i _ => L.length - (intOf i).toNat)
  case atStart => exact ⟨0, by omega, rfl, upto_zero _, Drawn.refl _⟩
  case round =>
    obtain ⟨k, hk, rfl, hup, hdr⟩ := hrel
    by_cases hlt : k < L.length
    · obtain ⟨av, cv, C0, C1, I1⟩ := Hat.out k hlt
      have hxs := Hin.out _ (List.getElem_mem hlt)
      have Hup := Lib.hid hup; clear hup
      have Hxk := Lib.hid (show xsOf L k = L[k].1 by unfold xsOf; rw [getS hlt])
      have c0 := (hdr.cell _).trans C0
      have c1 := (hdr.cell _).trans C1
      have HC0 := Lib.hid C0; clear C0
      have HC1 := Lib.hid C1; clear C1
      have HI1 := Lib.hid I1; clear I1
      by_cases hv : 1 ≤ L[k].1 ∧ L[k].1 ≤ 8
      · have Hv := Lib.hid hv
        by_cases hcl : L[k].2.length = (size + need - 1) / need
        · have hq : ((L[k].2.length : Int) != ((size : Int) + need - 1) / need) = false := by rw [← Hcast.out, hcl]; simp
          have Hok := Lib.hid (fun h h' => shAt_yes2 (cols := (size + need - 1) / need) hlt hv h hcl h')
          have Hbs := Lib.hid (fun h => shAt_sym (cols := (size + need - 1) / need) hlt h)
          clear hcl
          generalize L[k].1 = x at *
          generalize L[k].2 = vs at *
          go_wp2_with fail
          go_quiet ((go_at_call 16; exact Calls.quiet_of_same (turned (spec_l6In_yes hv _))))
          have hdr2 := hdr.drewN nq
          generalize wr.drewN nq = W1 at *
          go_wp2
          clear c0 c1 hdr hq hv
          go_loopw [8] (fun i wi => ∃ m : Nat, m ≤ k ∧ i = .int .i64 m ∧ Upto (neAt L k) m ∧ Drawn w wi) (fun i _ => k - (intOf i).toNat)
          case atStart => exact ⟨0, by omega, rfl, upto_zero _, hdr2⟩
          case round =>
            clear hdr2
            obtain ⟨m, hm, rfl, hnu, hdr⟩ := hrel
            have Hnu := Lib.hid hnu; clear hnu
            have c0 := (hdr.cell _).trans HC0.out
            have c1 := (hdr.cell _).trans HC1.out
            by_cases hmk : m < k
            · obtain ⟨am, cm, D0, _, _⟩ := Hat.out m (by omega)
              have d0 := (hdr.cell _).trans D0
              have Hxm := Lib.hid (show xsOf L m = L[m].1 by unfold xsOf; rw [getS (by omega)])
              clear D0
              generalize L[m].1 = y at *
              by_cases hyx : y = x
              · have Hbad := Lib.hid (shAt_new (cols := (size + need - 1) / need) hmk (by rw [Hxm.out, Hxk.out, hyx]))
                have hdd : (y == x) = true := by simpa using hyx
                clear hyx
                go_wp2_with fail
                go_quiet (fail)
                go_wp2
                go_ret
                exact ⟨ret_bool (by rw [Hf.out]; exact (allB_no hlt Hbad.out).symm), hdr.drewN _⟩
              · have Hstep := Lib.hid (upto_step Hnu.out (show neAt L k m = true by unfold neAt; rw [Hxm.out, Hxk.out]; exact decide_eq_true hyx))
                have hdd : (y == x) = false := by simpa using hyx
                go_wp2_with fail
                go_quiet (fail)
                go_wp2
                go_roundw
                case rel => exact ⟨m + 1, by omega, by go_num, Hstep.out, hdr.drewN _⟩
                case measure => simp [intOf]; omega
            · have Hnk := Lib.hid (show Upto (neAt L k) k from fun j hj => Hnu.out j (by omega))
              clear c0 c1
              go_wp2
              go_loopw [9] (fun i wi => ∃ j : Nat, j ≤ vs.length ∧ i = .int .i64 j ∧ Upto (syAt vs) j ∧ Drawn w wi) (fun i _ => vs.length - (intOf i).toNat)
              case atStart => exact ⟨0, by omega, rfl, upto_zero _, hdr⟩
              case round =>
                clear hdr
                obtain ⟨j, hj, rfl, hsu, hdr⟩ := hrel
                have Hsu := Lib.hid hsu; clear hsu
                have c1 := (hdr.cell _).trans HC1.out
                by_cases hjv : j < vs.length
                · obtain ⟨g2, off2, rfl, hg2, hcs⟩ := HI1.out.cell (by omega)
                  have e1 := (hdr.cell _).trans (hcs j hjv)
                  by_cases hz : 0 ≤ vs[j] ∧ vs[j] ≤ 250
                  · have Hs := Lib.hid (upto_step Hsu.out (show syAt vs j = true by unfold syAt; rw [getD_get hjv]; exact symB_yes hz))
                    generalize vs[j] = z at *
                    clear hcs
                    go_wp2_with fail
                    refine (spec_l6In_yes hz _).mono ?_
                    rintro e w' ⟨rfl, rfl⟩
                    go_wp2
                    go_roundw
                    case rel => exact ⟨j + 1, by omega, by go_num, Hs.out, hdr⟩
                    case measure => simp [intOf]; omega
                  · have Hbad := Lib.hid (Hbs.out (sy_no hjv hz))
                    generalize vs[j] = z at *
                    clear hcs
                    go_wp2_with fail
                    refine (spec_l6In_no hz _).mono ?_
                    rintro e w' ⟨rfl, rfl⟩
                    go_wp2
                    go_ret
                    exact ⟨ret_bool (by rw [Hf.out]; exact (allB_no hlt Hbad.out).symm), hdr⟩
                · have Hs := Lib.hid (upto_step Hup.out (Hok.out Hnk.out (sy_all (fun i hi => Hsu.out i (by omega)))))
                  have hjd : decide ((j : Int) < (vs.length : Int)) = false := decide_eq_false (by omega)
                  have hjd' : decide (j < vs.length) = false := decide_eq_false hjv
                  have hk1 : IntKind.i64.wrap ((k : Int) + 1) = (k : Int) + 1 := IntWalk.i64_in _ (by omega)
                  clear hmk hm hxs hjv hj hS hN hl1 hl1d hl2d hl1' hl2 hadd hsub hbig
                  go_wp2
                  go_roundw
                  case rel => exact ⟨k + 1, by omega, by go_num, Hs.out, hdr⟩
                  case measure => simp [intOf]; omega
        · have Hbad := Lib.hid (shAt_len (cols := (size + need - 1) / need) hlt hcl)
          have hq : ((L[k].2.length : Int) != ((size : Int) + need - 1) / need) = true := by rw [← Hcast.out]; simp; omega
          clear hcl
          generalize L[k].1 = x at *
          generalize L[k].2 = vs at *
          go_wp2_with fail
          go_quiet ((go_at_call 16; exact Calls.quiet_of_same (turned (spec_l6In_yes hv _))))
          go_wp2
          go_ret
          exact ⟨ret_bool (by rw [Hf.out]; exact (allB_no hlt Hbad.out).symm), hdr.drewN _⟩
      · have Hbad := Lib.hid (shAt_num (cols := (size + need - 1) / need) hlt hv)
        generalize L[k].1 = x at *
        generalize L[k].2 = vs at *
        go_wp2_with fail
        go_quiet ((go_at_call 16; exact Calls.quiet_of_same (turned (spec_l6In_no hv _))))
        go_wp2
        go_ret
        exact ⟨ret_bool (by rw [Hf.out]; exact (allB_no hlt Hbad.out).symm), hdr.drewN _⟩
    · have Hs := Lib.hid (show shsB ((size + need - 1) / need) L = true from allB_yes hup (by omega))
      go_wp2
      go_ret
      exact ⟨ret_bool (by rw [Hf.out]; exact Hs.out.symm), hdr⟩

end Go.Proofs.Ytnaeeemgehgdfab

/- Rows of numbers in a list of lists, and the columns that spec solves; general steps and plain arithmetic, no walk and no condition of our own. -/
namespace Go.Proofs.Ytnaeeemgehgdfab
open Go.RowKit

/-- A list of rows of numbers: the rows are never written, only replaced. -/
def Rws (E : TypeId) (w : World) (B g n : Nat) (F : Nat → List Int) : Prop :=
  B ≤ g ∧ ∃ cur, Str w g E cur ∧ ∀ k, k < n → ∃ b off c, cur[k]? = some (.slice (some ⟨b, off, none⟩) (F k).length c) ∧ B ≤ b ∧ b ≠ g ∧ b < w.heap.size ∧ ∀ j (h : j < (F k).length), w.cell? ⟨b, off + j, none⟩ = some (.int .i64 (F k)[j])
section
variable {E : TypeId} {w w' : World} {B g n : Nat} {F : Nat → List Int}
theorem Rws.at (h : Rws E w B g n F) {k : Nat} (hk : k < n) : ∃ b off c, w.cell? ⟨g, k, none⟩ = some (.slice (some ⟨b, off, none⟩) (F k).length c) ∧ B ≤ b ∧ b ≠ g ∧ b < w.heap.size ∧ ∀ j (h : j < (F k).length), w.cell? ⟨b, off + j, none⟩ = some (.int .i64 (F k)[j]) := by
  obtain ⟨_, cur, hs, hc⟩ := h
  obtain ⟨b, off, c, h1, h2⟩ := hc k hk
  exact ⟨b, off, c, hs.cell k h1, h2⟩
theorem Rws.frozen (h : Rws E w B g n F) (k : Nat) : w.frozen? ⟨g, k, none⟩ = false := by obtain ⟨_, cur, hs, _⟩ := h; exact hs.frozen k
theorem Rws.lt (h : Rws E w B g n F) : g < w.heap.size := by obtain ⟨_, cur, hs, _⟩ := h; exact hs.lt
theorem Rws.lo (h : Rws E w B g n F) : B ≤ g := h.1
theorem Rws.below (h : Rws E w B g n F) (hb : Below w.heap.size w w') : Rws E w' B g n F := by
  obtain ⟨h0, cur, hs, hc⟩ := h
  refine ⟨h0, cur, (hb.block _ hs.lt).trans hs, fun k hk => ?_⟩
  obtain ⟨b, off, c, h1, h2, h3, h4, h5⟩ := hc k hk
  exact ⟨b, off, c, h1, h2, h3, Nat.lt_of_lt_of_le h4 hb.size, fun j hj => (hb.cell (p := ⟨b, off + j, none⟩) h4).trans (h5 j hj)⟩
theorem Rws.congr {F' : Nat → List Int} (h : Rws E w B g n F) (he : ∀ k, k < n → F k = F' k) : Rws E w B g n F' := by
  obtain ⟨h0, cur, hs, hc⟩ := h
  refine ⟨h0, cur, hs, fun k hk => ?_⟩
  rw [← he k hk]; exact hc k hk
theorem Rws.set (h : Rws E w B g n F) {k : Nat} (hk : k < n) {b off c : Nat} {r : List Int} (h2 : B ≤ b) (h3 : b ≠ g) (h4 : b < w.heap.size) (h5 : ∀ j (h : j < r.length), w.cell? ⟨b, off + j, none⟩ = some (.int .i64 r[j])) :
    Rws E (w.setCell ⟨g, k, none⟩ (.slice (some ⟨b, off, none⟩) r.length c)) B g n (fun i => if i = k then r else F i) := by
  obtain ⟨h0, cur, hs, hc⟩ := h
  have hg := grownBy_set w g k (.slice (some ⟨b, off, none⟩) r.length c)
  refine ⟨h0, _, hs.set k _, fun i hi => ?_⟩
  have hsz : (w.setCell ⟨g, k, none⟩ (.slice (some ⟨b, off, none⟩) r.length c)).heap.size = w.heap.size := by simp [World.setCell]
  by_cases e : i = k
  · subst e
    have hlt : i < cur.size := by
      obtain ⟨b', off', c', e1, _⟩ := hc i hi
      exact (Array.getElem?_eq_some_iff.1 e1).1
    refine ⟨b, off, c, by simp [hlt], h2, h3, by omega, fun j hj => ?_⟩
    have hj' : j < r.length := by simpa using hj
    have := hg.cell (h5 j hj') (by simpa using h3)
    simpa using this
  · obtain ⟨b', off', c', e1, e2, e3, e4, e5⟩ := hc i hi
    refine ⟨b', off', c', by rw [Array.getElem?_setIfInBounds_ne (by omega)]; simpa [e] using e1, e2, e3, by omega, fun j hj => ?_⟩
    have hj' : j < (F i).length := by simpa [e] using hj
    have := hg.cell (e5 j hj') (by simpa using e3)
    simpa [e] using this
end
theorem rws_of_bld {E : TypeId} {w : World} {B n cap : Nat} {a : Option Addr} {rows : List (List Int)} (h : Bld E 1 w B (.slice a n cap) (rows.map fun r => [intsD r])) (hn : 0 < rows.length) (hr : ∀ r ∈ rows, 0 < r.length) :
    n = rows.length ∧ rows.length ≤ cap ∧ ∃ g, a = some ⟨g, 0, none⟩ ∧ Rws E w B g rows.length (fun k => rows.getD k []) := by
  obtain ⟨cs, ho, hc⟩ := h.row
  rw [List.length_map] at ho
  rcases ho.2 with ⟨_, h0⟩ | ⟨g, cap', cur, hv, hb, hg, hnc, hm, hs, ht⟩
  · omega
  simp only [Value.slice.injEq] at hv
  obtain ⟨rfl, rfl, rfl⟩ := hv
  refine ⟨rfl, hnc, g, rfl, hb, cur, hg, fun k hk => ?_⟩
  have hk' : k < (rows.map fun r => [intsD r]).length := by simpa using hk
  have hkr : rows.getD k [] = rows[k] := by simp [List.getD, List.getElem?_eq_getElem hk]
  obtain ⟨c, fp, h1, h2, h3⟩ := hc k hk' 0 (by simp)
  simp only [List.getElem_map, List.getElem_cons_zero] at h2
  obtain ⟨ar, cr, rfl, _, hi⟩ := Rd.ints h2
  have h1' : cs[k]? = some (.slice ar rows[k].length cr) := by simpa using h1
  have hcur : cur[k]? = some (.slice ar rows[k].length cr) := by
    have hkc : k < cs.length := (List.getElem?_eq_some_iff.1 h1').1
    have : (cur.toList.take (rows.length * 1))[k]? = some (.slice ar rows[k].length cr) := by rw [ht]; exact h1'
    rw [List.getElem?_take] at this
    split at this
    · simpa using this
    · cases this
  show ∃ b off c, cur[k]? = some (Value.slice (some ⟨b, off, none⟩) (rows.getD k []).length c) ∧ B ≤ b ∧ b ≠ g ∧ b < w.heap.size ∧ ∀ j (h : j < (rows.getD k []).length), w.cell? ⟨b, off + j, none⟩ = some (.int .i64 (rows.getD k [])[j])
  rw [hkr]
  obtain ⟨b, off, rfl, hbl, hcell⟩ := hi.cell (hr _ (List.getElem_mem hk))
  obtain ⟨b', off', e, _, hfp, _⟩ := Rd.at h2 (by simpa using hr _ (List.getElem_mem hk)) (sz := 1) (by intro e he; simp at he; obtain ⟨x, _, rfl⟩ := he; rfl)
  simp only [Option.some.injEq, Addr.mk.injEq] at e
  obtain ⟨rfl, _, _⟩ := e
  obtain ⟨h4, h5⟩ := h3 b hfp
  exact ⟨b, off, cr, hcur, h4, fun e => h5 (by rw [e]; rfl), hbl, hcell⟩

/-! the rows of a column -/
def colE (need col : Nat) (e : Eqn) : Nat → Int := fun k => if k < need then e k else e (8 + col)
def rowE (need col : Nat) (e : Eqn) : List Int := (List.range (need + 1)).map (colE need col e)
theorem rowE_len (need col : Nat) (e : Eqn) : (rowE need col e).length = need + 1 := by simp [rowE]
theorem rowE_get {need col : Nat} {e : Eqn} {k : Nat} (h : k < (rowE need col e).length) : (rowE need col e)[k] = colE need col e k := by simp [rowE]
theorem colE_bd {need col : Nat} {e : Eqn} (h : ∀ i, 0 ≤ e i ∧ e i ≤ 250) (k : Nat) : 0 ≤ colE need col e k ∧ colE need col e k ≤ 250 := by
  unfold colE; split <;> exact h _
theorem rowE_eq {need col : Nat} {x : Int} {vs : List Int} (hn : need ≤ 8) : rowE need col (eqOf need x vs) = ((List.range need).map fun k => powF x k) ++ [vs.getD col 0] := by
  unfold rowE
  rw [List.range_succ, List.map_append]
  congr 1
  · refine List.map_congr_left fun k hk => ?_
    have hk := List.mem_range.1 hk
    unfold colE eqOf; rw [if_pos hk, if_pos hk]
  · simp only [List.map_cons, List.map_nil]
    unfold colE eqOf
    rw [if_neg (by omega), if_neg (by omega), if_neg (by omega), show 8 + col - 8 = col by omega]
theorem colE_tms (need col : Nat) (e : Eqn) (c : Int) (k : Nat) : colE need col (tmsE e c) k = colE need col e k * c % 251 := by
  unfold colE tmsE; split <;> rfl
theorem wth_mod (x f r : Int) : (x + 251 - r * f % 251) % 251 = (x + (251 - f) * r) % 251 := by
  have h : Cg (x + 251 - r * f % 251) (x + (251 - f) * r) := by
    have e : x + (251 - f) * r = (x + 251 - r * f) + 251 * (r - 1) := by grind
    rw [e]
    exact ((Cg.refl (x + 251)).sub (Cg.mod (r * f))).trans ⟨-(r - 1), by omega⟩
  obtain ⟨k, hk⟩ := h
  rw [hk]; omega
theorem colE_wth (need col : Nat) (e r : Eqn) (f : Int) (k : Nat) : colE need col (wthE e (tmsE r f)) k = (colE need col e k + (251 - f) * colE need col r k) % 251 := by
  unfold colE wthE tmsE
  split <;> exact wth_mod _ _ _
theorem elimC_self (S : Nat → Eqn) (p m : Nat) : elimTo S p m p = tmsE (S p) (invZ (S p p)) := by unfold elimTo; rw [if_pos rfl]
theorem elimC_later {S : Nat → Eqn} {p m k : Nat} (h : k ≠ p) (hk : m ≤ k) : elimTo S p m k = S k := by unfold elimTo; rw [if_neg h, if_neg (by omega)]
theorem elimC_step {S : Nat → Eqn} {p m : Nat} (h : m ≠ p) : elimTo S p (m + 1) = fun k => if k = m then wthE (S m) (tmsE (tmsE (S p) (invZ (S p p))) (S m p)) else elimTo S p m k := by
  funext k
  unfold elimTo
  by_cases e : k = m
  · subst e; rw [if_neg h, if_pos (by omega), if_pos rfl]
  · rw [if_neg e]
    by_cases e2 : k = p
    · rw [if_pos e2, if_pos e2]
    · rw [if_neg e2, if_neg e2]
      by_cases e3 : k < m
      · rw [if_pos (by omega), if_pos e3]
      · rw [if_neg (by omega), if_neg e3]
theorem elimC_skip (S : Nat → Eqn) (p : Nat) : elimTo S p (p + 1) = elimTo S p p := by
  funext k
  unfold elimTo
  by_cases e2 : k = p
  · rw [if_pos e2, if_pos e2]
  · rw [if_neg e2, if_neg e2]
    by_cases e3 : k < p
    · rw [if_pos (by omega), if_pos e3]
    · rw [if_neg (by omega), if_neg e3]
theorem elimC_zero (S : Nat → Eqn) (p : Nat) : elimTo S p 0 = fun k => if k = p then tmsE (S p) (invZ (S p p)) else S k := by
  funext k
  unfold elimTo
  by_cases e2 : k = p
  · subst e2; rw [if_pos rfl, if_pos rfl]
  · rw [if_neg e2, if_neg e2, if_neg (by omega)]

end Go.Proofs.Ytnaeeemgehgdfab

/- What spec's elimination finds for a column, by a walk of its text; conditions: as many shards as suffice, with different numbers and one to twelve values each. -/
namespace Go.Proofs.Ytnaeeemgehgdfab
open Go.RowKit

theorem ints_info : (Try.prog.info? 26).map (fun i => (i.zero, i.size, i.bytes)) = some (some (.slice none 0 0), 1, 24) := by kernel_rfl

theorem own_cell {E : TypeId} {W : World} {B B0 : Nat} {v u : Value} {xs : List Int} (hlt : ∀ g, v.ownBlock = some g → B ≤ g ∧ g < B0) (hB : B ≤ B0) (h : Own E W B0 u xs) : CellsRd W B v.ownBlock [u] [intsD xs] := by
  obtain ⟨fp, hr, hf⟩ := Rd.of_own h
  intro j hj
  match j, hj with
  | 0, _ => exact ⟨u, fp, rfl, hr, fun r hm => ⟨by have := (hf r hm).1; omega, fun e => by have := (hf r hm).1; have := (hlt r e).2; omega⟩⟩

set_option maxRecDepth 8000 in
set_option maxHeartbeats 2000000 in
theorem spec_l3Solve (need cols col : Nat) (L : List Sh) (v : Value) (fp : List Nat) (w : World) (hn1 : 1 ≤ need) (hn8 : need ≤ 8) (hlen : need ≤ L.length) (hL : L.length ≤ 8) (hcol : col < cols) (hc12 : cols ≤ 12) (hok : shsB cols L = true) (hr : Rd w (.l (L.map shardD)) v fp) :
    Calls Try.prog 40 #[.int .i64 (need : Int), v, .int .i64 (col : Int)] w fun e w' => ∃ u, e = .returned u ∧ Own 3 w' w.heap.size u ((List.range need).map fun i => stAt need (eqs0 need (xsOf L) (vsOf L) need) need i (8 + col)) ∧ Below w.heap.size w w' := by
  obtain ⟨a, cap, rfl⟩ := hr.slice
  rw [List.length_map] at *
  obtain ⟨g, off, rfl, hg, hat⟩ := shards_at hr (by omega)
  have Hat := Lib.hid hat; clear hat hr
  have Hok := Lib.hid hok; clear hok
  have hb0 : Below w.heap.size w (w.alloc (.cells #[] 26)) := (Below.refl _ _).alloc (Nat.le_refl _) _
  have hv0 : Bld 26 1 (w.alloc (.cells #[] 26)) w.heap.size (.slice (some ⟨w.heap.size, 0, none⟩) 0 0) (((List.range 0).map fun i => rowE need col (eqOf need (xsOf L i) (vsOf L i))).map fun r => [intsD r]) := .nil (World.ownsRow_made w #[] 0 (Nat.le_refl _) (by simp) (by simp))
  have Hv0 := Lib.hid hv0; clear hv0
  go_enter Try.func40, Try.ntmps40
  go_wp2_with fail
  go_loopw [7, 8] (fun v i wr => ∃ k : Nat, k ≤ need ∧ i = .int .i64 k ∧ Bld 26 1 wr w.heap.size v (((List.range k).map fun i => rowE need col (eqOf need (xsOf L i) (vsOf L i))).map fun r => [intsD r]) ∧ Below w.heap.size w wr) (fun _ i _ => need - (intOf i).toNat)
  case atStart => exact ⟨0, by omega, rfl, Hv0.out, hb0⟩
  case round =>
    obtain ⟨k, hk, rfl, hbld, hbel⟩ := hrel
    obtain ⟨W0, hW0⟩ : ∃ W0, W0 = wr := ⟨_, rfl⟩
    subst hW0
    have Hbld := Lib.hid hbld; clear hbld
    have Hbel := Lib.hid hbel; clear hbel
    by_cases hlt : k < need
    · have hkL : k < L.length := by omega
      obtain ⟨av, cv, C0, C1, I1⟩ := Hat.out k hkL
      have hsh := (shsB_at Hok.out hkL).1
      have hxk : xsOf L k = L[k].1 := by unfold xsOf; rw [getS hkL]
      have hvk : vsOf L k = L[k].2 := by unfold vsOf; rw [getS hkL]
      have Hex := Lib.hid (show ((List.range (k + 1)).map fun i => rowE need col (eqOf need (xsOf L i) (vsOf L i))).map (fun r => [intsD r]) = (((List.range k).map fun i => rowE need col (eqOf need (xsOf L i) (vsOf L i))).map fun r => [intsD r]) ++ [[intsD (((List.range need).map fun j => powF L[k].1 j) ++ [L[k].2.getD col 0])]] by
        rw [List.range_succ, List.map_append, List.map_append]
        simp only [List.map_cons, List.map_nil]
        rw [rowE_eq hn8, hxk, hvk])
      clear hxk hvk
      have hel : (((List.range k).map fun i => rowE need col (eqOf need (xsOf L i) (vsOf L i))).map fun r => [intsD r]).length ≤ 1048576 := by simp; omega
      generalize ((List.range k).map fun i => rowE need col (eqOf need (xsOf L i) (vsOf L i))).map (fun r => [intsD r]) = es at *
      generalize L[k].1 = x at *
      generalize L[k].2 = vs at *
      have Hsh := Lib.hid hsh; clear hsh
      have C0r := Lib.hid ((Hbel.out.cell hg).trans C0); clear C0
      have C1r := Lib.hid ((Hbel.out.cell hg).trans C1); clear C1
      have I1r := Lib.hid (I1.below Hbel.out); clear I1
      have hgr : g < W0.heap.size := Nat.lt_of_lt_of_le hg Hbel.out.size
      have hB := Hbel.out.size
      have Hbw := Lib.hid ((Below.refl W0.heap.size W0).alloc (Nat.le_refl _) (.cells #[] 3))
      have Hv9 := Lib.hid (own_empty 3 W0 (Nat.le_refl _))
      go_wp2_with fail
      go_loopw [9, 10] (fun v i wi => ∃ j : Nat, j ≤ need ∧ i = .int .i64 j ∧ Own 3 wi W0.heap.size v ((List.range j).map fun j => powF x j) ∧ Below W0.heap.size W0 wi) (fun _ i _ => need - (intOf i).toNat)
      case atStart => exact ⟨0, by omega, rfl, Hv9.out, Hbw.out⟩
      case round =>
        obtain ⟨j, hj, rfl, hown, hbi⟩ := hrel
        have hol : ((List.range j).map fun j => powF x j).length ≤ 1099511627776 := by simp; omega
        have Hbi := Lib.hid hbi; clear hbi
        have hB2 := Hbi.out.size
        by_cases hjn : j < need
        · have c0 := (Hbi.out.cell (p := ⟨g, off + k * 2, none⟩) hgr).trans C0r.out
          have Hp := Lib.hid (spec_l3Power x j wr (by have := Hsh.out.1; omega) (by have := Hsh.out.1; omega) (by omega))
          have Hex2 := Lib.hid (show ((List.range (j + 1)).map fun j => powF x j) = ((List.range j).map fun j => powF x j) ++ [powF x j] by rw [List.range_succ, List.map_append]; rfl)
          generalize (List.range j).map (fun j => powF x j) = ps at *
          generalize powF x j = pw at *
          go_wp2_with fail
          refine Hp.out.mono ?_
          rintro e w' ⟨rfl, rfl⟩
          go_wp2_with (at_builtin; refine wpList_push TI3 rfl (.tmp 35) (.tmp 43) rfl W0.heap.size _ ps _ rfl hown hol rfl hB2 ?_; intro v2 w2 hown2 hg2)
          go_roundw
          case rel => exact ⟨j + 1, by omega, by go_num, by rw [Hex2.out]; exact hown2, Hbi.out.grown hg2 hB2 (fun g e => (hown.lt g e).1)⟩
          case measure => simp [intOf]; omega
        · have hje : j = need := by omega
          subst hje
          obtain ⟨W2, hW2⟩ : ∃ W2, W2 = wr := ⟨_, rfl⟩
          subst hW2
          have hvl : vs.length = cols := Hsh.out.2.1
          obtain ⟨b', off', rfl, hb', hcs⟩ := I1r.out.cell (by omega)
          have c1 := (Hbi.out.cell (p := ⟨g, off + k * 2 + 1, none⟩) hgr).trans C1r.out
          have d1 := (Hbi.out.cell (p := ⟨b', off' + col, none⟩) hb').trans (hcs col (by omega))
          rw [getD_get (show col < vs.length by omega)] at Hex
          clear hcs
          have hcv : col < vs.length := by omega
          generalize vs[col] = y at *
          generalize hps : (List.range j).map (fun j => powF x j) = ps at *
          clear hps
          obtain ⟨qs, hqs⟩ : ∃ qs, ps ++ [y] = qs := ⟨_, rfl⟩
          rw [hqs] at Hex
          have Hqs := Lib.hid hqs; clear hqs
          have HC := Lib.hid (fun (W : World) (u : Value) (h : Own 3 W W0.heap.size u qs) => show CellsRd W w.heap.size _ [u] [intsD qs] from own_cell (Hbld.out.lt) hB h)
          have Hb2 := Lib.hid (fun (w2 : World) (h : W2.grownBy w2 _) => Hbi.out.grown h hB2 (fun g e => (hown.lt g e).1))
          have hB3 : w.heap.size ≤ W2.heap.size := Nat.le_trans hB hB2
          go_wp2_with (at_builtin; first
            | (refine wpList_push TI3 rfl (.tmp 46) (.tmp 55) rfl W0.heap.size _ ps _ rfl hown hol rfl hB2 ?_; intro v2 w2 hown2 hg2; rw [Hqs.out] at hown2; obtain ⟨a2, c2, rfl, _, _⟩ := hown2.ints)
            | (refine wpList_push_row (E := 26) Try.underlying72 ints_info rfl (by decide) (by decide) rfl (.tmp 45) (.tmp 57) rfl w.heap.size _ es _ _ _ rfl rfl (by intro u hu; simp at hu; subst hu; rfl) rfl (Hbld.out.under (Hb2.out _ hg2)) rfl (HC.out _ _ hown2) hel rfl (Nat.le_trans hB (Hb2.out _ hg2).size) ?_; intro v8 w8 hbld8 hg8 hat8))
          go_roundw
          case rel => exact ⟨k + 1, by omega, by go_num, by rw [Hex.out]; exact hbld8, (below_step Hbel.out hB (Hb2.out _ hg2)).grown hg8 (Nat.le_trans hB (Hb2.out _ hg2).size) (fun g e => (Hbld.out.lt g e).1)⟩
          case measure => simp [intOf]; omega
    · have hke : k = need := by omega
      subst hke
      obtain ⟨a7, c7, rfl, _⟩ := Hbld.out.slice
      obtain ⟨hn7, hc7, g7, rfl, hrws⟩ := rws_of_bld Hbld.out (by simp; omega) (by intro r hr; simp only [List.mem_map] at hr; obtain ⟨i, _, rfl⟩ := hr; rw [rowE_len]; omega)
      have hrl : ((List.range k).map fun i => rowE k col (eqOf k (xsOf L i) (vsOf L i))).length = k := by simp
      rw [List.length_map, hrl]
      rw [hrl] at hrws hc7
      have hxs := xs_nz Hok.out
      have hsb : ∀ i, i < k → ∀ y ∈ vsOf L i, 0 ≤ y ∧ y ≤ 250 := fun i hi => by
        have := (shsB_at Hok.out (show i < L.length by omega)).1.2.2
        unfold vsOf; rw [getS (by omega)]; exact this
      have HBd := Lib.hid (stAt_bd (eqs0_bd (need := k) (xs := xsOf L) hsb) k)
      have Hpiv := Lib.hid (fun p (hp : p < k) => pivot_nz (need := k) hn8 (vs := vsOf L) (fun i j hi hj => hxs i j (by omega) hj) p hp (inv_b (eqs0_bd hsb) (pivot_nz hn8 (fun i j hi hj => hxs i j (by omega) hj)) p (by omega)))
      have hrws := hrws.congr (F' := fun i => rowE k col (eqs0 k (xsOf L) (vsOf L) k i)) (fun i hi => by rw [eqs0_at hi]; simp [List.getD, hi])
      clear hsb hxs hn7 hrl
      generalize hS0 : eqs0 k (xsOf L) (vsOf L) k = S0 at *
      have HS0 := Lib.hid hS0; clear hS0
      have Hrws := Lib.hid hrws; clear hrws Hbld
      go_wp2
      go_loopw [11] (fun i wr => ∃ p : Nat, p ≤ k ∧ i = .int .i64 p ∧ Rws 26 wr w.heap.size g7 k (fun i => rowE k col (stAt k S0 p i)) ∧ Below w.heap.size w wr) (fun i _ => k - (intOf i).toNat)
      case atStart => exact ⟨0, by omega, rfl, Hrws.out, Hbel.out⟩
      case round =>
        clear Hrws Hbel
        obtain ⟨p, hp, rfl, hrws, hbel⟩ := hrel
        obtain ⟨W1, hW1⟩ : ∃ W1, W1 = wr := ⟨_, rfl⟩
        subst hW1
        have Hrws := Lib.hid hrws; clear hrws
        have Hbel := Lib.hid hbel; clear hbel
        by_cases hpk : p < k
        · have hT : ∀ i c, 0 ≤ stAt k S0 p i c ∧ stAt k S0 p i c ≤ 250 := HBd.out p
          have hpv := Hpiv.out p hpk
          have Hst := Lib.hid (show stAt k S0 (p + 1) = elimTo (stAt k S0 p) p k from rfl)
          generalize stAt k S0 p = T at *
          obtain ⟨b, off1, c1, D, hb1, hb2, hb3, hcs⟩ := Hrws.out.at hpk
          have hpp := hcs p (by rw [rowE_len]; omega)
          rw [rowE_get, show colE k col (T p) p = T p p by unfold colE; rw [if_pos hpk]] at hpp
          rw [rowE_len] at D
          have Hcs := Lib.hid hcs; clear hcs
          have hfr := Hrws.out.frozen p
          have hne : (T p p == 0) = false := by simpa using hpv
          have hp1 : (p : Int) < (k : Int) + 1 := by omega
          go_wp2_with fail
          refine wp_loop_rounds 1 ?_
          rw [rounds_succ]
          go_wp2_with fail
          have hrw2 := Hrws.out.set hpk (c := c1) hb1 hb2 hb3 Hcs.out
          rw [rowE_len] at hrw2
          have hrw2 := hrw2.congr (F' := fun i => rowE k col (T i)) (fun i _ => by by_cases e : i = p <;> simp [e])
          have hbel2 := Hbel.out.setCell (p := ⟨g7, p, none⟩) Hrws.out.lo (.slice (some ⟨b, off1, none⟩) (k + 1) c1)
          have hcs2 : ∀ j (h : j < k + 1), (W1.setCell ⟨g7, p, none⟩ (.slice (some ⟨b, off1, none⟩) (k + 1) c1)).cell? ⟨b, off1 + j, none⟩ = some (.int .i64 (colE k col (T p) j)) := fun j hj => by
            have hj' : j < (rowE k col (T p)).length := by rw [rowE_len]; exact hj
            have := (grownBy_set W1 g7 p (.slice (some ⟨b, off1, none⟩) (k + 1) c1)).cell (Hcs.out j hj') (by simpa using hb2)
            rwa [rowE_get] at this
          have hbW : b < (W1.setCell ⟨g7, p, none⟩ (.slice (some ⟨b, off1, none⟩) (k + 1) c1)).heap.size := by simpa [World.setCell] using hb3
          clear Hcs Hrws Hbel D hpp hfr hb3
          generalize W1.setCell ⟨g7, p, none⟩ (.slice (some ⟨b, off1, none⟩) (k + 1) c1) = W2 at *
          have Hrw2 := Lib.hid hrw2; clear hrw2
          have Hbel2 := Lib.hid hbel2; clear hbel2
          have hpp2 := hcs2 p (by omega)
          rw [show colE k col (T p) p = T p p by unfold colE; rw [if_pos hpk]] at hpp2
          obtain ⟨n249, hn249⟩ : ∃ m : Nat, m = 249 := ⟨_, rfl⟩
          have hpw := spec_l3Power (T p p) n249 W2 (hT p p).1 (hT p p).2 (by omega)
          rw [show powF (T p p) n249 = invZ (T p p) by rw [hn249]; rfl, show (n249 : Int) = 249 by omega] at hpw
          clear hn249
          have hib : 0 ≤ invZ (T p p) ∧ invZ (T p p) ≤ 250 := powF_bd _ _
          have Hpw := Lib.hid hpw; clear hpw
          have Hcs2 := Lib.hid hcs2; clear hcs2
          have HT := Lib.hid hT; clear hT
          have Hel0 := Lib.hid (elimC_zero T p)
          have HES := Lib.hid (fun m (h : m ≠ p) => elimC_step (S := T) (p := p) (m := m) h)
          have HR := Lib.hid (fun j => colE_tms k col (T p) (invZ (T p p)) j)
          generalize invZ (T p p) = iv at *
          refine Hpw.out.mono ?_
          rintro e W2 ⟨rfl, rfl⟩
          go_wp2_with fail
          have hB2 := Hbel2.out.size
          have Hv15 := Lib.hid (own_empty 3 W2 (Nat.le_refl _))
          have Hb15 := Lib.hid ((Below.refl W2.heap.size W2).alloc (Nat.le_refl _) (.cells #[] 3))
          go_loopw [15, 16] (fun v i wi => ∃ j : Nat, j ≤ k + 1 ∧ i = .int .i64 j ∧ Own 3 wi W2.heap.size v ((List.range j).map fun c => colE k col (tmsE (T p) iv) c) ∧ Below W2.heap.size W2 wi) (fun _ i _ => k + 1 - (intOf i).toNat)
          case atStart => exact ⟨0, by omega, rfl, Hv15.out, Hb15.out⟩
          case round =>
            clear Hv15 Hb15
            obtain ⟨j, hj, rfl, hown, hbi⟩ := hrel
            have hol : ((List.range j).map fun c => colE k col (tmsE (T p) iv) c).length ≤ 1099511627776 := by simp; omega
            have Hbi := Lib.hid hbi; clear hbi
            have hB3 := Hbi.out.size
            by_cases hjk : j < k + 1
            · have d1 := (Hbi.out.cell (p := ⟨b, off1 + j, none⟩) hbW).trans (Hcs2.out j hjk)
              have hzb := colE_bd (need := k) (col := col) (HT.out p) j
              have hr := HR.out j
              have Hex2 := Lib.hid (show ((List.range (j + 1)).map fun c => colE k col (tmsE (T p) iv) c) = ((List.range j).map fun c => colE k col (tmsE (T p) iv) c) ++ [colE k col (tmsE (T p) iv) j] by rw [List.range_succ, List.map_append]; rfl)
              generalize hps : (List.range j).map (fun c => colE k col (tmsE (T p) iv) c) = ps at *
              clear hps
              generalize colE k col (tmsE (T p) iv) j = z2 at *
              generalize colE k col (T p) j = z at *
              have hm2 := mul_bd hzb.1 hzb.2 hib.1 hib.2
              obtain ⟨q, hq⟩ : ∃ q, z * iv = q := ⟨_, rfl⟩
              rw [hq] at hm2 hr
              have Hr := Lib.hid hr; clear hr
              have hj1 : (j : Int) < (k : Int) + 1 := by omega
              have hj2 : (j : Int) ≤ (k : Int) := by omega
              have hj3 : j ≤ k := by omega
              go_wp2_with (at_builtin; refine wpList_push TI3 rfl (.tmp 97) (.tmp 105) rfl W2.heap.size _ ps _ rfl hown hol rfl hB3 ?_; intro v2 w2 hown2 hg2)
              go_roundw
              case rel => exact ⟨j + 1, by omega, by go_num, by rw [Hex2.out, Hr.out]; exact hown2, Hbi.out.grown hg2 hB3 (fun g e => (hown.lt g e).1)⟩
              case measure => simp [intOf]; omega
            · have hje : j = k + 1 := by omega
              subst hje
              obtain ⟨W3, hW3⟩ : ∃ W3, W3 = wr := ⟨_, rfl⟩
              subst hW3
              have hxl : ((List.range (k + 1)).map fun c => colE k col (tmsE (T p) iv) c).length = k + 1 := by simp
              obtain ⟨g15, c15, rfl, hg15, hg15', _, hc15, _⟩ := hown.row (by omega)
              have hrow : ∀ j, j < k + 1 → W3.cell? ⟨g15, j, none⟩ = some (.int .i64 (colE k col (tmsE (T p) iv) j)) := fun j hj => by
                have := hc15 j (by omega)
                simpa using this
              rw [hxl]
              clear hc15 hown hol hxl
              have hrw3 := Hrw2.out.below Hbi.out
              have hbel3 := below_step Hbel2.out hB2 Hbi.out
              obtain ⟨_, _, _, D, _⟩ := hrw3.at hpk
              rw [rowE_len] at D
              have hfr := hrw3.frozen p
              have hne7 : g15 ≠ g7 := by have := Hrw2.out.lt; omega
              have hrw4 := hrw3.set hpk (b := g15) (off := 0) (c := c15) (r := rowE k col (tmsE (T p) iv)) (by omega) hne7 hg15' (fun j hj => by rw [rowE_len] at hj; rw [rowE_get, Nat.zero_add]; exact hrow j hj)
              rw [rowE_len] at hrw4
              have hrw4 := hrw4.congr (F' := fun i => rowE k col (elimTo T p 0 i)) (fun i _ => by rw [Hel0.out]; by_cases e : i = p <;> simp [e])
              have hrow4 : ∀ j, j < k + 1 → (W3.setCell ⟨g7, p, none⟩ (.slice (some ⟨g15, 0, none⟩) (k + 1) c15)).cell? ⟨g15, j, none⟩ = some (.int .i64 (colE k col (tmsE (T p) iv) j)) := fun j hj => (grownBy_set W3 g7 p _).cell (hrow j hj) (by simpa using hne7)
              have hsz4 : g15 < (W3.setCell ⟨g7, p, none⟩ (.slice (some ⟨g15, 0, none⟩) (k + 1) c15)).heap.size := by simpa [World.setCell] using hg15'
              have hbel4 := hbel3.setCell (p := ⟨g7, p, none⟩) hrw3.lo (.slice (some ⟨g15, 0, none⟩) (k + 1) c15)
              have Hrw4 := Lib.hid hrw4; clear hrw4 hrw3
              have Hrow4 := Lib.hid hrow4; clear hrow4 hrow
              have Hbel4 := Lib.hid hbel4; clear hbel4 hbel3
              have Hsz4 := Lib.hid hsz4; clear hsz4 hg15'
              have hdk : decide ((k : Int) + 1 ≤ (k : Int)) = false := decide_eq_false (by omega)
              have hdk2 : decide (k + 1 ≤ k) = false := decide_eq_false (by omega)
              have hdk3 : ¬ ((k : Int) + 1 ≤ (k : Int)) := by omega
              go_wp2_with fail
              clear D hfr
              generalize W3.setCell ⟨g7, p, none⟩ (.slice (some ⟨g15, 0, none⟩) (k + 1) c15) = W4 at *
              go_loopw [17] (fun i wr => ∃ m : Nat, m ≤ k ∧ i = .int .i64 m ∧ Rws 26 wr w.heap.size g7 k (fun i => rowE k col (elimTo T p m i)) ∧ (∀ j, j < k + 1 → wr.cell? ⟨g15, j, none⟩ = some (.int .i64 (colE k col (tmsE (T p) iv) j))) ∧ g15 < wr.heap.size ∧ Below w.heap.size w wr) (fun i _ => k - (intOf i).toNat)
              case atStart => exact ⟨0, by omega, rfl, Hrw4.out, Hrow4.out, Hsz4.out, Hbel4.out⟩
              case round =>
                clear Hrw4 Hrow4 Hsz4 Hbel4
                obtain ⟨m, hm, rfl, hrw, hrow, hsz, hbel⟩ := hrel
                obtain ⟨W5, hW5⟩ : ∃ W5, W5 = wr := ⟨_, rfl⟩
                subst hW5
                have Hrw := Lib.hid hrw; clear hrw
                have Hrow := Lib.hid hrow; clear hrow
                have Hbel := Lib.hid hbel; clear hbel
                have Hsz := Lib.hid hsz; clear hsz
                by_cases hmk : m < k
                · by_cases hmp : m = p
                  · have hq : ((m : Int) == (p : Int)) = true := by simp [hmp]
                    have Hsk := Lib.hid (show elimTo T p (m + 1) = elimTo T p m by rw [hmp]; exact elimC_skip T p)
                    go_wp2
                    go_roundw
                    case rel => exact ⟨m + 1, by omega, by go_num, by rw [Hsk.out]; exact Hrw.out, Hrow.out, Hsz.out, Hbel.out⟩
                    case measure => simp [intOf]; omega
                  · have hq : ((m : Int) == (p : Int)) = false := by simp; omega
                    have HE := Lib.hid (HES.out m hmp)
                    have hlt := elimC_later (S := T) (p := p) (m := m) (k := m) hmp (Nat.le_refl _)
                    obtain ⟨b, off1, c1, D, hb1, hb2, hb3, hcs⟩ := Hrw.out.at hmk
                    have hcs : ∀ j, j < k + 1 → W5.cell? ⟨b, off1 + j, none⟩ = some (.int .i64 (colE k col (T m) j)) := fun j hj => by
                      have := hcs j (by rw [rowE_len]; exact hj)
                      rwa [rowE_get, hlt] at this
                    rw [rowE_len] at D
                    have hfT := HT.out m p
                    have hmp0 := hcs p (by omega)
                    rw [show colE k col (T m) p = T m p by unfold colE; rw [if_pos hpk]] at hmp0
                    have Hcs := Lib.hid hcs; clear hcs
                    have HW := Lib.hid (fun j => colE_wth k col (T m) (tmsE (T p) iv) (T m p) j)
                    clear hlt
                    have hrb : ∀ i, 0 ≤ tmsE (T p) iv i ∧ tmsE (T p) iv i ≤ 250 := tms_bd _ _
                    have Hrb := Lib.hid hrb; clear hrb
                    generalize tmsE (T p) iv = R at *
                    generalize T m p = f at *
                    have hfr7 := Hrw.out.frozen m
                    have hg7 := Hrw.out.lt
                    have hp1 : (p : Int) < (k : Int) + 1 := by omega
                    have Hv19 := Lib.hid (own_empty 3 W5 (Nat.le_refl _))
                    have Hb19 := Lib.hid ((Below.refl W5.heap.size W5).alloc (Nat.le_refl _) (.cells #[] 3))
                    go_wp2_with fail
                    go_loopw [19, 20] (fun v i wi => ∃ j : Nat, j ≤ k + 1 ∧ i = .int .i64 j ∧ Own 3 wi W5.heap.size v ((List.range j).map fun c => colE k col (wthE (T m) (tmsE R f)) c) ∧ Below W5.heap.size W5 wi) (fun _ i _ => k + 1 - (intOf i).toNat)
                    case atStart => exact ⟨0, by omega, rfl, Hv19.out, Hb19.out⟩
                    case round =>
                      clear Hv19 Hb19
                      obtain ⟨j, hj, rfl, hown, hbi⟩ := hrel
                      have hol : ((List.range j).map fun c => colE k col (wthE (T m) (tmsE R f)) c).length ≤ 1099511627776 := by simp; omega
                      have Hbi := Lib.hid hbi; clear hbi
                      have hB5 := Hbi.out.size
                      by_cases hjk : j < k + 1
                      · have d0 := (Hbi.out.cell (p := ⟨g7, m, none⟩) hg7).trans D
                        have d1 := (Hbi.out.cell (p := ⟨b, off1 + j, none⟩) hb3).trans (Hcs.out j hjk)
                        have d2 := (Hbi.out.cell (p := ⟨g15, j, none⟩) Hsz.out).trans (Hrow.out j hjk)
                        have hxb := colE_bd (need := k) (col := col) (HT.out m) j
                        have hrb := colE_bd (need := k) (col := col) Hrb.out j
                        have hw := HW.out j
                        have Hex2 := Lib.hid (show ((List.range (j + 1)).map fun c => colE k col (wthE (T m) (tmsE R f)) c) = ((List.range j).map fun c => colE k col (wthE (T m) (tmsE R f)) c) ++ [colE k col (wthE (T m) (tmsE R f)) j] by rw [List.range_succ, List.map_append]; rfl)
                        generalize hps : (List.range j).map (fun c => colE k col (wthE (T m) (tmsE R f)) c) = ps at *
                        clear hps
                        generalize colE k col (wthE (T m) (tmsE R f)) j = z2 at *
                        generalize colE k col (T m) j = x at *
                        generalize colE k col R j = r at *
                        obtain ⟨s, hs⟩ : ∃ s, 251 - f = s := ⟨_, rfl⟩
                        obtain ⟨q, hq⟩ : ∃ q, s * r = q := ⟨_, rfl⟩
                        have hqb : 0 ≤ q ∧ q ≤ 251 * 250 := ⟨by rw [← hq]; exact Int.mul_nonneg (by omega) (by omega), by rw [← hq]; exact Int.mul_le_mul (by omega) (by omega) (by omega) (by omega)⟩
                        rw [hs, hq] at hw
                        have e1 : IntKind.i64.wrap (251 - f) = s := by rw [hs]; exact IntWalk.i64_in _ (by omega)
                        have e2 : IntKind.i64.wrap (s * r) = q := by rw [hq]; exact IntWalk.i64_in _ (by omega)
                        have e3 : IntKind.i64.wrap (x + q) = x + q := IntWalk.i64_in _ (by omega)
                        have e4 : (x + q).tmod 251 = z2 := by rw [hw]; exact Int.tmod_eq_emod_of_nonneg (by omega)
                        have e5 : IntKind.i64.wrap z2 = z2 := IntWalk.i64_in _ (by omega)
                        have hj1 : (j : Int) < (k : Int) + 1 := by omega
                        have hj2 : (j : Int) ≤ (k : Int) := by omega
                        have hj3 : j ≤ k := by omega
                        clear hs hq hw
                        go_wp2_with fail
                        refine wp_region_held_drew (S := fun w' => w'.cell? ⟨g7, m, none⟩ = some (.slice (some ⟨b, off1, none⟩) (k + 1) c1) ∧ w'.cell? ⟨b, off1 + j, none⟩ = some (.int .i64 x) ∧ w'.cell? ⟨g15, j, none⟩ = some (.int .i64 r)) (by kernel_rfl) ⟨d0, d1, d2⟩ (fun hH => ?_)
                        refine takeH 0 (v := ?vz0) rfl (by kernel_rfl) (by kernel_rfl) (by kernel_rfl) (fun _ _ _ h => h) hH rfl ?yz0 ?rz0
                        case yz0 => intro W hSw; obtain ⟨h1, h2, h3⟩ := hSw; go_simp; try with_reducible rfl
                        try simp only [Act.put, List.setIfInBounds_toArray, List.set_cons_zero, List.set_cons_succ]
                        refine takeH 1 (v := ?vz1) rfl (by kernel_rfl) (by kernel_rfl) (by kernel_rfl) (fun _ _ _ h => h) hH rfl ?yz1 ?rz1
                        case yz1 => intro W hSw; obtain ⟨h1, h2, h3⟩ := hSw; go_simp; try with_reducible rfl
                        try simp only [Act.put, List.setIfInBounds_toArray, List.set_cons_zero, List.set_cons_succ]
                        refine takeH 2 (v := ?vz2) rfl (by kernel_rfl) (by kernel_rfl) (by kernel_rfl) (fun _ _ _ h => h) hH rfl ?yz2 ?rz2
                        case yz2 => intro W hSw; obtain ⟨h1, h2, h3⟩ := hSw; go_simp; try with_reducible rfl
                        try simp only [Act.put, List.setIfInBounds_toArray, List.set_cons_zero, List.set_cons_succ]
                        refine takeH 3 (v := ?vz3) rfl (by kernel_rfl) (by kernel_rfl) (by kernel_rfl) (fun _ _ _ h => h) hH rfl ?yz3 ?rz3
                        case yz3 => intro W hSw; obtain ⟨h1, h2, h3⟩ := hSw; go_simp; try with_reducible rfl
                        try simp only [Act.put, List.setIfInBounds_toArray, List.set_cons_zero, List.set_cons_succ]
                        refine takeH 4 (v := ?vz4) rfl (by kernel_rfl) (by kernel_rfl) (by kernel_rfl) (fun _ _ _ h => h) hH rfl ?yz4 ?rz4
                        case yz4 => intro W hSw; obtain ⟨h1, h2, h3⟩ := hSw; go_simp; try with_reducible rfl
                        try simp only [Act.put, List.setIfInBounds_toArray, List.set_cons_zero, List.set_cons_succ]
                        refine takeH 5 (v := ?vz5) rfl (by kernel_rfl) (by kernel_rfl) (by kernel_rfl) (fun _ _ _ h => h) hH rfl ?yz5 ?rz5
                        case yz5 => intro W hSw; obtain ⟨h1, h2, h3⟩ := hSw; go_simp; try with_reducible rfl
                        try simp only [Act.put, List.setIfInBounds_toArray, List.set_cons_zero, List.set_cons_succ]
                        refine takeH 6 (v := ?vz6) rfl (by kernel_rfl) (by kernel_rfl) (by kernel_rfl) (fun _ _ _ h => h) hH rfl ?yz6 ?rz6
                        case yz6 => intro W hSw; obtain ⟨h1, h2, h3⟩ := hSw; go_simp; try with_reducible rfl
                        try simp only [Act.put, List.setIfInBounds_toArray, List.set_cons_zero, List.set_cons_succ]
                        refine takeH 7 (v := ?vz7) rfl (by kernel_rfl) (by kernel_rfl) (by kernel_rfl) (fun _ _ _ h => h) hH rfl ?yz7 ?rz7
                        case yz7 => intro W hSw; obtain ⟨h1, h2, h3⟩ := hSw; go_simp; try with_reducible rfl
                        try simp only [Act.put, List.setIfInBounds_toArray, List.set_cons_zero, List.set_cons_succ]
                        refine takeH 8 (v := ?vz8) rfl (by kernel_rfl) (by kernel_rfl) (by kernel_rfl) (fun _ _ _ h => h) hH rfl ?yz8 ?rz8
                        case yz8 => intro W hSw; obtain ⟨h1, h2, h3⟩ := hSw; go_simp; try with_reducible rfl
                        try simp only [Act.put, List.setIfInBounds_toArray, List.set_cons_zero, List.set_cons_succ]
                        refine takeH 9 (v := ?vz9) rfl (by kernel_rfl) (by kernel_rfl) (by kernel_rfl) (fun _ _ _ h => h) hH rfl ?yz9 ?rz9
                        case yz9 => intro W hSw; obtain ⟨h1, h2, h3⟩ := hSw; go_simp; try with_reducible rfl
                        try simp only [Act.put, List.setIfInBounds_toArray, List.set_cons_zero, List.set_cons_succ]
                        refine takeH 10 (v := ?vz10) rfl (by kernel_rfl) (by kernel_rfl) (by kernel_rfl) (fun _ _ _ h => h) hH rfl ?yz10 ?rz10
                        case yz10 => intro W hSw; obtain ⟨h1, h2, h3⟩ := hSw; go_simp; try with_reducible rfl
                        try simp only [Act.put, List.setIfInBounds_toArray, List.set_cons_zero, List.set_cons_succ]
                        refine takeH 11 (v := ?vz11) rfl (by kernel_rfl) (by kernel_rfl) (by kernel_rfl) (fun _ _ _ h => h) hH rfl ?yz11 ?rz11
                        case yz11 => intro W hSw; obtain ⟨h1, h2, h3⟩ := hSw; go_simp; try with_reducible rfl
                        try simp only [Act.put, List.setIfInBounds_toArray, List.set_cons_zero, List.set_cons_succ]
                        refine takeH 12 (v := ?vz12) rfl (by kernel_rfl) (by kernel_rfl) (by kernel_rfl) (fun _ _ _ h => h) hH rfl ?yz12 ?rz12
                        case yz12 => intro W hSw; obtain ⟨h1, h2, h3⟩ := hSw; go_simp; try with_reducible rfl
                        try simp only [Act.put, List.setIfInBounds_toArray, List.set_cons_zero, List.set_cons_succ]
                        refine takeH 13 (v := ?vz13) rfl (by kernel_rfl) (by kernel_rfl) (by kernel_rfl) (fun _ _ _ h => h) hH rfl ?yz13 ?rz13
                        case yz13 => intro W hSw; obtain ⟨h1, h2, h3⟩ := hSw; go_simp; try with_reducible rfl
                        try simp only [Act.put, List.setIfInBounds_toArray, List.set_cons_zero, List.set_cons_succ]
                        refine takeH 14 (v := ?vz14) rfl (by kernel_rfl) (by kernel_rfl) (by kernel_rfl) (fun _ _ _ h => h) hH rfl ?yz14 ?rz14
                        case yz14 => intro W hSw; obtain ⟨h1, h2, h3⟩ := hSw; go_simp; try with_reducible rfl
                        try simp only [Act.put, List.setIfInBounds_toArray, List.set_cons_zero, List.set_cons_succ]
                        refine takeH 15 (v := ?vz15) rfl (by kernel_rfl) (by kernel_rfl) (by kernel_rfl) (fun _ _ _ h => h) hH rfl ?yz15 ?rz15
                        case yz15 => intro W hSw; obtain ⟨h1, h2, h3⟩ := hSw; go_simp; try with_reducible rfl
                        try simp only [Act.put, List.setIfInBounds_toArray, List.set_cons_zero, List.set_cons_succ]
                        refine takeH 16 (v := ?vz16) rfl (by kernel_rfl) (by kernel_rfl) (by kernel_rfl) (fun _ _ _ h => h) hH rfl ?yz16 ?rz16
                        case yz16 => intro W hSw; go_simp; first | done | (rw [if_neg (by decide)]; with_reducible rfl) | with_reducible rfl
                        try simp only [Act.put, List.setIfInBounds_toArray, List.set_cons_zero, List.set_cons_succ]
                        refine callH 17 rfl (by kernel_rfl) rfl (fun K hK => ?_)
                        go_simp
                        refine hK.out _ _ ⟨(World.grownBy_alloc _ _ none).cell hH.1 (by simp), (World.grownBy_alloc _ _ none).cell hH.2.1 (by simp), (World.grownBy_alloc _ _ none).cell hH.2.2 (by simp)⟩ (fun hH => ?_)
                        clear hK K
                        try simp only [Act.put, List.setIfInBounds_toArray, List.set_cons_zero, List.set_cons_succ]
                        refine callH 18 rfl (by kernel_rfl) rfl (fun K hK => ?_)
                        refine op_push_at TI3 wr.drew (.tmp 132) (.tmp 149) rfl W5.heap.size _ ps _ rfl hown hol rfl hB5 ?_
                        intro v8 w8 hown8 hg8 _
                        have hgr8 : ∀ g, u19.ownBlock = some g → W5.heap.size ≤ g := fun g e => (hown.lt g e).1
                        refine hK.out _ _ ⟨hg8.cell d0 (fun e => by have := hgr8 _ e.symm; simp only at this; omega), hg8.cell d1 (fun e => by have := hgr8 _ e.symm; simp only at this; omega), hg8.cell d2 (fun e => by have h15 := Hsz.out; have := hgr8 _ e.symm; simp only at this; omega)⟩ (fun hH => ?_)
                        clear hK K
                        try simp only [Act.put, List.setIfInBounds_toArray, List.set_cons_zero, List.set_cons_succ]
                        refine takeH 19 (v := ?vz19) rfl (by kernel_rfl) (by kernel_rfl) (by kernel_rfl) (fun _ _ _ h => h) hH rfl ?yz19 ?rz19
                        case yz19 => intro W hSw; obtain ⟨h1, h2, h3⟩ := hSw; go_simp; try with_reducible rfl
                        try simp only [Act.put, List.setIfInBounds_toArray, List.set_cons_zero, List.set_cons_succ]
                        refine wpAnyH_done (by kernel_rfl) ?_ _
                        try simp only [Act.put]
                        have hb8 := Hbi.out.drew.grown hg8 hB5 hgr8
                        clear hg8 hH e1 e2 e3 e4 e5 d0 d1 d2
                        go_wp2
                        go_roundw
                        case rel => exact ⟨j + 1, by omega, by go_num, by rw [Hex2.out]; exact hown8, hb8⟩
                        case measure => simp [intOf]; omega
                      · have hje : j = k + 1 := by omega
                        subst hje
                        obtain ⟨W6, hW6⟩ : ∃ W6, W6 = wr := ⟨_, rfl⟩
                        subst hW6
                        have hxl : ((List.range (k + 1)).map fun c => colE k col (wthE (T m) (tmsE R f)) c).length = k + 1 := by simp
                        obtain ⟨g19, c19, rfl, hg19, hg19', _, hc19, _⟩ := hown.row (by omega)
                        have hrow : ∀ j, j < k + 1 → W6.cell? ⟨g19, j, none⟩ = some (.int .i64 (colE k col (wthE (T m) (tmsE R f)) j)) := fun j hj => by
                          have := hc19 j (by omega)
                          simpa using this
                        rw [hxl]
                        clear hc19 hown hol hxl
                        have hrw6 := Hrw.out.below Hbi.out
                        have hbel6 := below_step Hbel.out Hbel.out.size Hbi.out
                        obtain ⟨_, _, _, D6, _⟩ := hrw6.at hmk
                        rw [rowE_len] at D6
                        have hfr6 := hrw6.frozen m
                        have hne19 : g19 ≠ g7 := by omega
                        have hrw8 := hrw6.set hmk (b := g19) (off := 0) (c := c19) (r := rowE k col (wthE (T m) (tmsE R f))) (by have := Hbel.out.size; omega) hne19 hg19' (fun j hj => by rw [rowE_len] at hj; rw [rowE_get, Nat.zero_add]; exact hrow j hj)
                        rw [rowE_len] at hrw8
                        have hrw8 := hrw8.congr (F' := fun i => rowE k col (elimTo T p (m + 1) i)) (fun i _ => by rw [HE.out]; by_cases e : i = m <;> simp [e])
                        have hrow8 : ∀ j, j < k + 1 → (W6.setCell ⟨g7, m, none⟩ (.slice (some ⟨g19, 0, none⟩) (k + 1) c19)).cell? ⟨g15, j, none⟩ = some (.int .i64 (colE k col R j)) := fun j hj => (grownBy_set W6 g7 m _).cell ((Hbi.out.cell (p := ⟨g15, j, none⟩) Hsz.out).trans (Hrow.out j hj)) (by simpa using hne7)
                        have hsz8 : g15 < (W6.setCell ⟨g7, m, none⟩ (.slice (some ⟨g19, 0, none⟩) (k + 1) c19)).heap.size := by have := Hsz.out; simp [World.setCell]; omega
                        have hbel8 := hbel6.setCell (p := ⟨g7, m, none⟩) hrw6.lo (.slice (some ⟨g19, 0, none⟩) (k + 1) c19)
                        have Hrw8 := Lib.hid hrw8; clear hrw8 hrw6
                        have Hrow8 := Lib.hid hrow8; clear hrow8 hrow
                        have Hbel8 := Lib.hid hbel8; clear hbel8 hbel6
                        have Hsz8 := Lib.hid hsz8; clear hsz8 hg19'
                        go_wp2_with fail
                        clear D6 hfr6
                        generalize W6.setCell ⟨g7, m, none⟩ (.slice (some ⟨g19, 0, none⟩) (k + 1) c19) = W8 at *
                        go_roundw
                        case rel => exact ⟨m + 1, by omega, by go_num, Hrw8.out, Hrow8.out, Hsz8.out, Hbel8.out⟩
                        case measure => simp [intOf]; omega
                · have hmk' : m = k := by omega
                  subst hmk'
                  have Hend := Lib.hid Hrw.out
                  go_wp2
                  go_roundw
                  case rel => exact ⟨p + 1, by omega, by go_num, by rw [Hst.out]; exact Hend.out, Hbel.out⟩
                  case measure => simp [intOf]; omega
        · have hpk' : p = k := by omega
          subst hpk'
          have hrw := Hrws.out
          have Hv21 := Lib.hid (own_empty 3 W1 (Nat.le_refl _))
          have Hb21 := Lib.hid ((Below.refl W1.heap.size W1).alloc (Nat.le_refl _) (.cells #[] 3))
          have hat : ∀ i, i < p → ∃ b off c, W1.cell? ⟨g7, i, none⟩ = some (.slice (some ⟨b, off, none⟩) (p + 1) c) ∧ b < W1.heap.size ∧ W1.cell? ⟨b, off + p, none⟩ = some (.int .i64 (stAt p S0 p i (8 + col))) := fun i hi => by
            obtain ⟨b, off, c, h1, _, _, h4, h5⟩ := hrw.at hi
            have := h5 p (by rw [rowE_len]; omega)
            rw [rowE_get, show colE p col (stAt p S0 p i) p = stAt p S0 p i (8 + col) by unfold colE; rw [if_neg (by omega)]] at this
            rw [rowE_len] at h1
            exact ⟨b, off, c, h1, h4, this⟩
          have Hat2 := Lib.hid hat; clear hat
          have hg7 := hrw.lt
          clear hrw Hrws
          go_wp2_with fail
          go_loopw [21, 22] (fun v i wi => ∃ j : Nat, j ≤ p ∧ i = .int .i64 j ∧ Own 3 wi W1.heap.size v ((List.range j).map fun i => stAt p S0 p i (8 + col)) ∧ Below W1.heap.size W1 wi) (fun _ i _ => p - (intOf i).toNat)
          case atStart => exact ⟨0, by omega, rfl, Hv21.out, Hb21.out⟩
          case round =>
            clear Hv21 Hb21
            obtain ⟨j, hj, rfl, hown, hbi⟩ := hrel
            have hol : ((List.range j).map fun i => stAt p S0 p i (8 + col)).length ≤ 1099511627776 := by simp; omega
            have Hbi := Lib.hid hbi; clear hbi
            have hB3 := Hbi.out.size
            by_cases hjp : j < p
            · obtain ⟨b, off1, c1, D, hb, E⟩ := Hat2.out j hjp
              have d0 := (Hbi.out.cell (p := ⟨g7, j, none⟩) hg7).trans D
              have d1 := (Hbi.out.cell (p := ⟨b, off1 + p, none⟩) hb).trans E
              have Hex2 := Lib.hid (show ((List.range (j + 1)).map fun i => stAt p S0 p i (8 + col)) = ((List.range j).map fun i => stAt p S0 p i (8 + col)) ++ [stAt p S0 p j (8 + col)] by rw [List.range_succ, List.map_append]; rfl)
              generalize hps : (List.range j).map (fun i => stAt p S0 p i (8 + col)) = ps at *
              clear hps D E
              generalize stAt p S0 p j (8 + col) = z at *
              have hp1 : (p : Int) < (p : Int) + 1 := by omega
              go_wp2_with (at_builtin; refine wpList_push TI3 rfl (.tmp 161) (.tmp 169) rfl W1.heap.size _ ps _ rfl hown hol rfl hB3 ?_; intro v2 w2 hown2 hg2)
              go_roundw
              case rel => exact ⟨j + 1, by omega, by go_num, by rw [Hex2.out]; exact hown2, Hbi.out.grown hg2 hB3 (fun g e => (hown.lt g e).1)⟩
              case measure => simp [intOf]; omega
            · have hje : j = p := by omega
              subst hje
              have hB1 := Hbel.out.size
              have Hown := Lib.hid hown; clear hown
              go_wp2
              go_ret
              exact ⟨_, rfl, by have := Hown.out.mono hB1; rw [← HS0.out] at this; exact this, below_step Hbel.out hB1 Hbi.out⟩

end Go.Proofs.Ytnaeeemgehgdfab

/- Arguments that came in, read as data: numbers, truth values, texts, slices of these and of structs of these; general steps, nothing here speaks of the program. -/
namespace Go.Proofs.Ytnaeeemgehgdfab
open Go.ChangeShapes Go.WideShapes Go.ChangeAt Go.RowKit

section
variable {H : Type} {enc : TypeId × Value → H} {P : Program} {W : World}

/-- A one-cell value of type t that came in reads as a datum with G. -/
def Opens (H : Type) (enc : TypeId × Value → H) (P : Program) (W : World) (t : TypeId) (G : Dt → Prop) : Prop :=
  P.cellsOf t = 1 ∧ ∀ fuel c x, DataW.trod enc P W 0 (fun _ => true) true fuel t [c] = some x → ∃ d fp, Rd W d c fp ∧ G d
def IntG (d : Dt) : Prop := ∃ n, d = .i n ∧ (-9223372036854775808 ≤ n ∧ n ≤ 9223372036854775807)
def BoolG (d : Dt) : Prop := ∃ x, d = .b x
def StrG (d : Dt) : Prop := ∃ s : ByteArray, d = .s s ∧ s.size ≤ maxLen
/-- A list whose elements are rows of these. -/
def RowsG (Gs : List (Dt → Prop)) (d : Dt) : Prop := ∃ es : List (List Dt), d = .l es ∧ es.length ≤ maxLen ∧ ∀ e ∈ es, e.length = Gs.length ∧ ∀ j (h : j < e.length) (h' : j < Gs.length), Gs[j] e[j]
theorem opens_int {t : TypeId} (ht : P.underlying t = some (.int .i64)) (hc : P.cellsOf t = 1) : Opens H enc P W t IntG := ⟨hc, fun fuel c x h => by
  obtain ⟨n, e, _, hw⟩ := DataW.trod_int ht h
  obtain rfl : c = .int .i64 n := by simpa using e
  exact ⟨.i n, [], .i n, n, rfl, wf_i64 hw⟩⟩
theorem opens_bool {t : TypeId} (ht : P.underlying t = some .bool) (hc : P.cellsOf t = 1) : Opens H enc P W t BoolG := ⟨hc, fun fuel c x h => by
  obtain ⟨n, e, _⟩ := DataW.trod_bool ht h
  obtain rfl : c = .bool n := by simpa using e
  exact ⟨.b n, [], .b n, n, rfl⟩⟩
theorem opens_str {t : TypeId} (ht : P.underlying t = some .string) (hc : P.cellsOf t = 1) : Opens H enc P W t StrG := ⟨hc, fun fuel c x h => by
  obtain ⟨n, e, _, hs⟩ := DataW.trod_string ht h
  obtain rfl : c = .string n := by simpa using e
  exact ⟨.s n, [], .s n, n, rfl, hs⟩⟩
theorem mapM_some {α β : Type} {f : α → Option β} : ∀ {l : List α} {r : List β}, l.mapM f = some r → r.length = l.length ∧ ∀ i (h : i < l.length) (h' : i < r.length), f l[i] = some r[i]
  | [], r, h => by
    have : r = [] := by simpa using h.symm
    subst this
    exact ⟨rfl, fun i h => by simp at h⟩
  | x :: l, r, h => by
    rw [List.mapM_cons] at h
    simp only [Option.bind_eq_bind, Option.bind_eq_some_iff, Option.pure_def, Option.some.injEq] at h
    obtain ⟨y, hy, ys, hys, rfl⟩ := h
    obtain ⟨h1, h2⟩ := mapM_some hys
    refine ⟨by simp [h1], fun i hi hi' => ?_⟩
    cases i with
    | zero => simpa using hy
    | succ i => simpa using h2 i (by simpa using hi) (by simpa using hi')
/-- A slice's elements, whatever reads each of them. -/
theorem opens_slice_by {T e : TypeId} {sz : Nat} {Gs : List (Dt → Prop)} (hT : P.underlying T = some (.slice e)) (hc : P.cellsOf T = 1) (hsz : P.cellsOf e = sz) (hpos : 0 < sz) (hg : Gs.length = sz)
    (hE : ∀ fuel cs x, cs.length = sz → DataW.trod enc P W 0 (fun _ => true) true fuel e cs = some x → ∀ j (h : j < cs.length) (h' : j < Gs.length), ∃ d fp, Rd W d cs[j] fp ∧ Gs[j] d) : Opens H enc P W T (RowsG Gs) := by
  refine ⟨hc, fun fuel c x h => ?_⟩
  rcases Go.Deep.open_slice hT h with ⟨e1, _⟩ | ⟨a, len, cap, m, n, D, Pl, e1, _, hlc, hcm, hm, _, hel⟩
  · obtain rfl : c = .slice none 0 0 := by simpa using e1
    exact ⟨.l [], [], .nil _ _ (fun _ => rfl), [], rfl, by simp, by simp⟩
  · obtain rfl : c = .slice (some a) len cap := by simpa using e1
    rw [if_pos rfl] at hm
    have hm' := hm.symm
    subst hm'
    rcases Nat.eq_zero_or_pos len with h0 | h0
    · subst h0; exact ⟨.l [], [], .nil _ _ (fun e => by cases e), [], rfl, by simp, by simp⟩
    · have hrow : ∀ i, i < len → ∃ cs : List Value, cs.length = sz ∧ (∀ j (h : j < cs.length), W.cell? ((a.add (i * sz)).add j) = some cs[j]) ∧ ∀ j (h : j < cs.length) (h' : j < Gs.length), ∃ d fp, Rd W d cs[j] fp ∧ Gs[j] d := by
        intro i hi
        obtain ⟨cs, h1, h2⟩ := hel i (by omega)
        rw [hsz] at h1
        unfold World.cells? at h1
        rw [if_pos (Nat.zero_le _)] at h1
        obtain ⟨hl, hcell⟩ := mapM_some h1
        rw [List.length_range] at hl
        exact ⟨cs, hl, fun j hj => by have := hcell j (by rw [List.length_range]; omega) hj; rwa [List.getElem_range] at this, hE n cs _ hl h2⟩
      obtain ⟨cs0, hl0, hc0, _⟩ := hrow 0 h0
      obtain ⟨b, off, spot⟩ := a
      have hspot : spot = none := by
        have := hc0 0 (by omega)
        simpa [Addr.add] using World.cell?_spot this
      subst hspot
      have hblt : b < W.heap.size := by
        have := hc0 0 (by omega)
        rw [show ((⟨b, off, none⟩ : Addr).add (0 * sz)).add 0 = ⟨b, off, none⟩ by simp [Addr.add]] at this
        exact World.block_lt_of_cell? W _ this
      have hex : ∀ k j, ∃ p : Value × Dt × List Nat, ∀ (_ : k < len) (_ : j < sz), W.cell? ⟨b, off + (k * sz + j), none⟩ = some p.1 ∧ Rd W p.2.1 p.1 p.2.2 ∧ ∀ (h' : j < Gs.length), Gs[j] p.2.1 := by
        intro k j
        by_cases hk : k < len
        · by_cases hj : j < sz
          · obtain ⟨cs, hl, hcc, hr⟩ := hrow k hk
            obtain ⟨d, fp, h1, h2⟩ := hr j (by omega) (by omega)
            refine ⟨(cs[j]'(by omega), d, fp), fun _ _ => ⟨?_, h1, fun _ => h2⟩⟩
            have := hcc j (by omega)
            rwa [addr_add', addr_add', Nat.add_assoc] at this
          · exact ⟨(undef, .i 0, []), fun _ h => absurd h hj⟩
        · exact ⟨(undef, .i 0, []), fun h => absurd h hk⟩
      obtain ⟨F, hF⟩ : ∃ F : Nat → Nat → Value × Dt × List Nat, ∀ k j (_ : k < len) (_ : j < sz), W.cell? ⟨b, off + (k * sz + j), none⟩ = some (F k j).1 ∧ Rd W (F k j).2.1 (F k j).1 (F k j).2.2 ∧ ∀ (h' : j < Gs.length), Gs[j] (F k j).2.1 :=
        ⟨fun k j => Classical.choose (hex k j), fun k j => Classical.choose_spec (hex k j)⟩
      obtain ⟨es, hes⟩ : ∃ es : List (List Dt), es = (List.range len).map fun k => (List.range sz).map fun j => (F k j).2.1 := ⟨_, rfl⟩
      have hel' : es.length = len := by rw [hes]; simp
      have hget : ∀ k j (hk : k < es.length) (hj : j < (es[k]).length), (es[k])[j] = (F k j).2.1 := fun k j hk hj => by subst hes; simp
      have hrl : ∀ e ∈ es, e.length = sz := by intro e he; rw [hes] at he; obtain ⟨k, _, rfl⟩ := List.mem_map.1 he; simp
      have hrd := Rd.l (w := W) sz es b off cap (fun k j => (F k j).1) (fun k j => (F k j).2.2) (by omega) hrl (by omega) hblt (fun k j hk hj => (hF k j (by omega) hj).1)
        (fun k j hk hj => by rw [hget k j hk hj]; exact (hF k j (by omega) (by rw [← hrl _ (List.getElem_mem hk)]; exact hj)).2.1)
      rw [hel'] at hrd
      refine ⟨.l es, _, hrd, es, rfl, by omega, fun e he => ⟨by rw [hrl e he, hg], fun j hj hj' => ?_⟩⟩
      obtain ⟨k, hk, rfl⟩ := List.mem_iff_getElem.1 he
      rw [hget k j hk hj]
      exact (hF k j (by omega) (by omega)).2.2 hj'
/-- A slice of one-cell elements. -/
theorem opens_slice {T e : TypeId} {G : Dt → Prop} (hT : P.underlying T = some (.slice e)) (hc : P.cellsOf T = 1) (hE : Opens H enc P W e G) : Opens H enc P W T (RowsG [G]) :=
  opens_slice_by (sz := 1) hT hc hE.1 (by omega) rfl fun fuel cs x hl h j hj hj' => by
    have : j = 0 := by omega
    subst this
    match cs, hl with
    | [c], _ => exact hE.2 fuel c x h
/-- The fields of a struct, each in one cell. -/
theorem fields_open {t : TypeId} {fs : Array Field} {Gs : List (Dt → Prop)} (ht : P.underlying t = some (.struct fs)) (_hg : Gs.length = fs.size) (hf : ∀ j (h : j < fs.size) (h' : j < Gs.length), (fs[j]).offset = j ∧ Opens H enc P W (fs[j]).type Gs[j])
    (fuel : Nat) (cs : List Value) (x : DataW H × List MemPlace) (hl : cs.length = fs.size) (h : DataW.trod enc P W 0 (fun _ => true) true fuel t cs = some x) : ∀ j (h : j < cs.length) (h' : j < Gs.length), ∃ d fp, Rd W d cs[j] fp ∧ Gs[j] d := by
  obtain ⟨xs, n, _, rfl, hl', hlen, hff⟩ := DataW.trod_struct ht h
  intro j hj hj'
  have hjf : j < fs.size := by omega
  obtain ⟨ho, hO⟩ := hf j hjf hj'
  have := hff j (fs[j]) (by simp [hjf])
  rw [ho, hO.1] at this
  have hd : (cs.drop j).take 1 = [cs[j]] := by
    rw [List.drop_eq_getElem_cons hj]; rfl
  rw [hd, List.getElem?_eq_getElem (show j < xs.length by omega)] at this
  exact hO.2 n _ _ this
/-- A slice of structs. -/
theorem opens_slice_struct {T e : TypeId} {fs : Array Field} {Gs : List (Dt → Prop)} (hT : P.underlying T = some (.slice e)) (hc : P.cellsOf T = 1) (he : P.underlying e = some (.struct fs)) (hsz : P.cellsOf e = fs.size) (hpos : 0 < fs.size) (hg : Gs.length = fs.size)
    (hf : ∀ j (h : j < fs.size) (h' : j < Gs.length), (fs[j]).offset = j ∧ Opens H enc P W (fs[j]).type Gs[j]) : Opens H enc P W T (RowsG Gs) :=
  opens_slice_by hT hc hsz hpos hg fun fuel cs x hl h => fields_open he hg hf fuel cs x hl h
/-- A struct by value. -/
theorem open_struct {t : TypeId} {fs : Array Field} {Gs : List (Dt → Prop)} {base : Nat} {v : Value} {d : DataW H} {p : List MemPlace} (ht : P.underlying t = some (.struct fs)) (hsz : P.cellsOf t = fs.size) (hg : Gs.length = fs.size) (hf : ∀ j (h : j < fs.size) (h' : j < Gs.length), (fs[j]).offset = j ∧ Opens H enc P W (fs[j]).type Gs[j])
    (hv : Value.okWide P W .any base t v) (h : DataW.Trod enc P W 0 (fun _ => true) true t v d p) : ∃ cs : List Value, v = .agg cs.toArray ∧ cs.length = fs.size ∧ ∀ j (h : j < cs.length) (h' : j < Gs.length), ∃ d fp, Rd W d cs[j] fp ∧ Gs[j] d := by
  unfold Value.okWide at hv
  rw [ht] at hv
  obtain ⟨cs, rfl, hs, _⟩ := hv
  obtain ⟨fuel, hf'⟩ := h
  refine ⟨cs.toList, by simp, by rw [Array.length_toList, hs, hsz], ?_⟩
  exact fields_open ht hg hf fuel cs.toList _ (by rw [Array.length_toList, hs, hsz]) hf'
/-- A one-cell value. -/
theorem open_cell {t : TypeId} {G : Dt → Prop} {v : Value} {d : DataW H} {p : List MemPlace} (hO : Opens H enc P W t G) (hna : v.cells = #[v]) (h : DataW.Trod enc P W 0 (fun _ => true) true t v d p) : ∃ d fp, Rd W d v fp ∧ G d := by
  obtain ⟨fuel, hf⟩ := h
  rw [hna] at hf
  exact hO.2 fuel v _ hf
end
/-- A list of numbers. -/
theorem ints_of {d : Dt} (h : RowsG [IntG] d) : ∃ xs, d = intsD xs ∧ xs.length ≤ maxLen ∧ ∀ x ∈ xs, -9223372036854775808 ≤ x ∧ x ≤ 9223372036854775807 := by
  obtain ⟨es, rfl, hl, he⟩ := h
  refine ⟨es.map fun e => match e with | [.i n] => n | _ => 0, ?_, by simpa using hl, ?_⟩
  · unfold intsD
    congr 1
    rw [List.map_map]
    conv => lhs; rw [← List.map_id es]
    refine List.map_congr_left fun e hm => ?_
    obtain ⟨h1, h2⟩ := he e hm
    match e, h1, h2 with
    | [d], _, h2 =>
      obtain ⟨n, hn, _⟩ := h2 0 (by simp) (by simp)
      simp only [List.getElem_cons_zero] at hn
      subst hn; rfl
  · intro x hx
    obtain ⟨e, hm, rfl⟩ := List.mem_map.1 hx
    obtain ⟨h1, h2⟩ := he e hm
    match e, h1, h2 with
    | [d], _, h2 =>
      obtain ⟨n, hn, hr⟩ := h2 0 (by simp) (by simp)
      simp only [List.getElem_cons_zero] at hn
      subst hn; exact hr

end Go.Proofs.Ytnaeeemgehgdfab

/- Whether a shard belongs to data, as spec reckons it, and the exact laws' copies and sizes of a shard, each by a walk of its text; conditions: a list that is read has fewer than 2^40 elements, the numbers are ints. -/
namespace Go.Proofs.Ytnaeeemgehgdfab
open Go.RowKit

theorem spec_l3Same (n : Int) (a a' : Option Addr) (c c' : Nat) (xs ys : List Int) (w : World) (hbig : xs.length ≤ 1099511627776) (hbig' : ys.length ≤ 1099511627776) (hc : IntsAt w a xs) (hc' : IntsAt w a' ys) :
    Calls Try.prog 41 #[.agg #[.int .i64 n, .slice a xs.length c], .agg #[.int .i64 n, .slice a' ys.length c']] w fun e w' => e = .returned (.bool (decide (xs = ys))) ∧ Below w.heap.size w w' := by
  have hb0 : Below w.heap.size w ((w.alloc (.cells #[.int .i64 n, .slice a xs.length c] 28)).alloc (.cells #[.int .i64 n, .slice a' ys.length c'] 28)) := ((Below.refl _ w).alloc (Nat.le_refl _) _).alloc (by simp) _
  have s0 := (Str.new w 28 #[.int .i64 n, .slice a xs.length c]).alloc (.cells #[.int .i64 n, .slice a' ys.length c'] 28)
  have s1 := Str.new (w.alloc (.cells #[.int .i64 n, .slice a xs.length c] 28)) 28 #[.int .i64 n, .slice a' ys.length c']
  simp only [World.size_alloc] at s1
  have e00 := s0.cell 0 (v := .int .i64 n) rfl
  have e01 := s0.cell 1 (v := .slice a xs.length c) rfl
  have e10 := s1.cell 0 (v := .int .i64 n) rfl
  have e11 := s1.cell 1 (v := .slice a' ys.length c') rfl
  have hc := hc.below hb0
  have hc' := hc'.below hb0
  clear s0 s1
  by_cases hl : xs.length = ys.length
  · have hql : ((xs.length : Int) != (ys.length : Int)) = false := by rw [hl]; simp
    have Hl := Lib.hid hl; clear hl
    go_enter Try.func41, Try.ntmps41
    go_wp2
    generalize (w.alloc (.cells #[.int .i64 n, .slice a xs.length c] 28)).alloc (.cells #[.int .i64 n, .slice a' ys.length c'] 28) = W1 at *
    go_loopw [5] (fun i wr => ∃ k : Nat, k ≤ xs.length ∧ i = .int .i64 k ∧ EqTo xs ys k ∧ Drawn W1 wr) (fun i _ => xs.length - (intOf i).toNat)
    case atStart => exact ⟨0, by omega, rfl, fun j _ _ h => by omega, Drawn.refl _⟩
    case round =>
      obtain ⟨k, hk, rfl, heq, hdr⟩ := hrel
      have Heq := Lib.hid heq; clear heq
      have d01 := (hdr.cell _).trans e01
      have d11 := (hdr.cell _).trans e11
      by_cases hlt : k < xs.length
      · have hlt' : k < ys.length := by have := Hl.out; omega
        obtain ⟨b, off, rfl, hb, hcs⟩ := hc.cell (by omega)
        obtain ⟨b', off', rfl, hb', hcs'⟩ := hc'.cell (by omega)
        have c1 := (hdr.cell _).trans (hcs k hlt)
        have c2 := (hdr.cell _).trans (hcs' k hlt')
        have Hb0 := Lib.hid hb0
        clear hcs hcs' hc hc' hb0
        by_cases he : xs[k] = ys[k]
        · have Hs := Lib.hid (eqTo_step Heq.out hlt hlt' he)
          rw [← he] at c2
          clear he
          generalize xs[k] = z at *
          go_wp2_with fail
          go_quiet (fail)
          go_wp2
          go_roundw
          case rel => exact ⟨k + 1, by omega, by go_num, Hs.out, hdr.drewN _⟩
          case measure => simp [intOf]; omega
        · have Hf := Lib.hid (show decide (xs = ys) = false from decide_eq_false fun e => he (by subst e; rfl))
          have hq : (xs[k] != ys[k]) = true := by simpa using he
          clear he
          generalize xs[k] = z at *
          generalize ys[k] = y at *
          go_wp2_with fail
          go_quiet (fail)
          go_wp2
          go_ret
          exact ⟨ret_bool Hf.out.symm, Hb0.out.trans ((hdr.drewN _).below _)⟩
      · have Hf := Lib.hid (show decide (xs = ys) = true from decide_eq_true (eqTo_all Heq.out (by omega) Hl.out))
        go_wp2
        go_ret
        exact ⟨ret_bool Hf.out.symm, hb0.trans (hdr.below _)⟩
  · have Hf := Lib.hid (show decide (xs = ys) = false from decide_eq_false fun e => hl (by rw [e]))
    have hq : ((xs.length : Int) != (ys.length : Int)) = true := by simp; omega
    clear hc hc' e00 e01 e10 e11
    go_enter Try.func41, Try.ntmps41
    go_wp2
    go_ret
    exact ⟨ret_bool Hf.out.symm, hb0⟩

end Go.Proofs.Ytnaeeemgehgdfab

/- What spec's join of shards is, by a walk of its text; conditions: the lists are short. -/
namespace Go.Proofs.Ytnaeeemgehgdfab
open Go.RowKit

def eAt (need : Nat) (L : List Sh) (i : Nat) : Int := stAt need (eqs0 need (xsOf L) (vsOf L) need) need (i % need) (8 + i / need)
def allS (need : Nat) (L : List Sh) (c : Nat) : List Int := (List.range (c * need)).map (eAt need L)
theorem allS_len (need : Nat) (L : List Sh) (c : Nat) : (allS need L c).length = c * need := by simp [allS]
theorem eAt_col {need c i : Nat} (L : List Sh) (h : i < need) : eAt need L (c * need + i) = stAt need (eqs0 need (xsOf L) (vsOf L) need) need i (8 + c) := by
  unfold eAt
  rw [Nat.mul_comm c need, Nat.mul_add_mod, Nat.mod_eq_of_lt h, Nat.mul_add_div (by omega), Nat.div_eq_of_lt h, Nat.add_zero]
theorem allS_succ (need : Nat) (L : List Sh) (c : Nat) : allS need L (c + 1) = allS need L c ++ (List.range need).map fun i => stAt need (eqs0 need (xsOf L) (vsOf L) need) need i (8 + c) := by
  unfold allS
  rw [Nat.add_mul, Nat.one_mul, List.range_add, List.map_append, List.map_map]
  congr 1
  refine List.map_congr_left fun i hi => ?_
  exact eAt_col L (List.mem_range.1 hi)
theorem allS_take {need : Nat} {L : List Sh} {c size : Nat} (h : size ≤ c * need) : (allS need L c).take size = dataI size need L := by
  unfold allS dataI
  rw [← List.map_take, List.take_range, Nat.min_eq_left h]; rfl
theorem eAt_bd {need : Nat} {L : List Sh} {cols : Nat} (hok : shsB cols L = true) (hn : need ≤ L.length) (i : Nat) : 0 ≤ eAt need L i ∧ eAt need L i ≤ 250 := by
  refine stAt_bd (eqs0_bd fun k hk => ?_) need need _ _
  have := (shsB_at hok (show k < L.length by omega)).1.2.2
  unfold vsOf; rw [getS (by omega)]; exact this
theorem dataI_ok {size need : Nat} {L : List Sh} {cols : Nat} (hok : shsB cols L = true) (hn : need ≤ L.length) (hs : 1 ≤ size ∧ size ≤ 12) (hn8 : 1 ≤ need ∧ need ≤ 8) : dataB (dataI size need L) need = true := by
  unfold dataB
  simp only [Bool.and_eq_true, decide_eq_true_eq, List.all_eq_true, dataI_len]
  refine ⟨⟨fun y hy => ?_, hs⟩, by omega⟩
  unfold dataI at hy
  obtain ⟨i, _, rfl⟩ := List.mem_map.1 hy
  exact symB_yes (eAt_bd hok hn i)
/-- If the data has all shards, the padding that elimination finds is 0. -/
theorem pad_zero {size need : Nat} {L : List Sh} (h1 : 1 ≤ need) (h8 : need ≤ 8) (hn : need ≤ L.length) (hs : size ≤ 12) (hok : shsB ((size + need - 1) / need) L = true) (hm : L.all (matB (dataI size need L) need) = true) {i : Nat} (hi : size ≤ i) (hi2 : i < (size + need - 1) / need * need) : eAt need L i = 0 := by
  have hcn : colsN (dataI size need L) need = (size + need - 1) / need := by unfold colsN; rw [dataI_len]
  have hc : i / need < colsN (dataI size need L) need := by rw [hcn]; exact Nat.div_lt_of_lt_mul (by rw [Nat.mul_comm]; exact hi2)
  have hc12 := cols_le (d := dataI size need L) h1 (by rw [dataI_len]; exact hs)
  have hv : ∀ j, j < need → vsOf L j = shardV (dataI size need L) need (xsOf L j) := by
    intro j hj
    have := List.all_eq_true.1 hm _ (List.getElem_mem (show j < L.length by omega))
    unfold matB at this
    simp only [Bool.and_eq_true, decide_eq_true_eq, Int.toNat_natCast] at this
    unfold vsOf xsOf; rw [getS (by omega)]; exact this.2.symm
  have hb : ∀ k, k < need → ∀ y ∈ vsOf L k, 0 ≤ y ∧ y ≤ 250 := fun k hk => by
    have := (shsB_at hok (show k < L.length by omega)).1.2.2
    unfold vsOf; rw [getS (by omega)]; exact this
  have := solve_at h8 hb (fun i j hi hj => xs_nz hok i j (by omega) hj) (c := i / need) (by omega) (fun k => (dataI size need L).getD (i / need * need + k) 0) (fun j hj => by
    rw [hv j hj, shard_getD hc]; exact (val_sm _ need (i / need) (xsOf L j) need).symm) (i % need) (Nat.mod_lt _ h1)
  simp only [idx_div] at this
  rw [List.getD_eq_getElem?_getD, List.getElem?_eq_none (by rw [dataI_len]; exact hi)] at this
  exact this.eq (eAt_bd hok hn i) (by simp)

set_option maxRecDepth 8000 in
set_option maxHeartbeats 2000000 in
theorem spec_l3Join (size need : Nat) (L : List Sh) (v : Value) (fp : List Nat) (w : World) (hok : joinOk size need L = true) (hr : Rd w (.l (L.map shardD)) v fp) :
    Calls Try.prog 29 #[.int .i64 (size : Int), .int .i64 (need : Int), v] w fun e w' => ∃ u, e = .returned (.tuple #[u, .bool (joinB size need L)]) ∧ Own 3 w' w.heap.size u (joinD size need L) ∧ Below w.heap.size w w' := by
  obtain ⟨a, cap, rfl⟩ := hr.slice
  rw [List.length_map] at *
  obtain ⟨hS, hN, ⟨hlen, hL8⟩, hsh⟩ := joinOk_iff hok
  simp only [Int.toNat_natCast] at hsh
  have hlen' : need ≤ L.length := by omega
  have hcl : ∀ c, c < (size + need - 1) / need ↔ c * need < size := fun c => by
    have := cols_lt (d := dataI size need L) (need := need) (c := c) (by omega)
    unfold colsN at this; rwa [dataI_len] at this
  have hc12 : (size + need - 1) / need ≤ 12 := by
    have := cols_le (d := dataI size need L) (need := need) (by omega) (by rw [dataI_len]; omega)
    unfold colsN at this; rwa [dataI_len] at this
  have Hpad := Lib.hid (fun (hm : L.all (matB (dataI size need L) need) = true) i hi hi2 => pad_zero (size := size) (i := i) (by omega) (by omega) hlen' (by omega) hsh hm hi hi2)
  have Hdok := Lib.hid (dataI_ok hsh hlen' (size := size) (by omega) (by omega))
  have Hyes := Lib.hid (fun (h : L.all (matB (dataI size need L) (need : Int)) = true) => join_yes (size := (size : Int)) (need := (need : Int)) (L := L) hok (by simpa only [Int.toNat_natCast] using h))
  have Hno := Lib.hid (fun (h : L.all (matB (dataI size need L) (need : Int)) = false) => join_bad (size := (size : Int)) (need := (need : Int)) (L := L) (by simpa only [Int.toNat_natCast] using h))
  have Hr := Lib.hid hr; clear hr hok
  have hcs : size ≤ (size + need - 1) / need * need := by
    rcases Nat.lt_or_ge ((size + need - 1) / need * need) size with h | h
    · exact absurd ((hcl _).2 h) (Nat.lt_irrefl _)
    · exact h
  have hc1 : 1 ≤ (size + need - 1) / need := (hcl 0).2 (by omega)
  generalize (size + need - 1) / need = cols at *
  have Hsh := Lib.hid hsh; clear hsh
  have Hv0 := Lib.hid (show Own 3 (w.alloc (.cells #[] 3)) w.heap.size (.slice (some ⟨w.heap.size, 0, none⟩) 0 0) (allS need L 0) by unfold allS; simp; exact ownE _ w)
  have Hb0 := Lib.hid ((Below.refl w.heap.size w).alloc (Nat.le_refl _) (.cells #[] 3))
  go_enter Try.func29, Try.ntmps29
  go_wp2_with fail
  go_loopw [8, 9] (fun v i wi => ∃ c : Nat, c ≤ cols ∧ i = .int .i64 c ∧ Own 3 wi w.heap.size v (allS need L c) ∧ Below w.heap.size w wi) (fun _ i _ => cols - (intOf i).toNat)
  case atStart => exact ⟨0, by omega, rfl, Hv0.out, Hb0.out⟩
  case round =>
    clear Hv0 Hb0
    obtain ⟨c, hc, rfl, hown, hbel⟩ := hrel
    have hB := hbel.size
    have Hbel := Lib.hid hbel; clear hbel
    have hm96 := Nat.mul_le_mul (show c ≤ 12 by omega) (show need ≤ 8 by omega)
    have hcc := hcl c
    obtain ⟨m, hm⟩ : ∃ m, c * need = m := ⟨_, rfl⟩
    have hcn : (c : Int) * (need : Int) = (m : Int) := by rw [← hm]; exact (Int.natCast_mul _ _).symm
    rw [hm] at hm96 hcc
    by_cases hlt : c < cols
    · have hms : m < size := hcc.1 hlt
      have hal := allS_len need L c
      have Hcall := Lib.hid (spec_l3Solve need cols c L _ fp wr (by omega) (by omega) hlen' (by omega) hlt hc12 Hsh.out (Hr.out.under Hbel.out))
      have Hex := Lib.hid (allS_succ need L c)
      obtain ⟨zs, hzs⟩ : ∃ zs, ((List.range need).map fun i => stAt need (eqs0 need (xsOf L) (vsOf L) need) need i (8 + c)) = zs := ⟨_, rfl⟩
      have hzl : zs.length = need := by rw [← hzs]; simp
      rw [hzs] at Hcall Hex
      clear hzs
      have hal' : (allS need L c).length + zs.length ≤ 1099511627776 := by omega
      clear hal hm
      generalize allS need L c = xs at *
      have Hzl := Lib.hid hzl.symm
      go_wp2_with fail
      refine Hcall.out.mono ?_
      rintro e w2 ⟨u, rfl, hownu, hb2⟩
      obtain ⟨gu, cu, rfl, hgu, hgu', _, hcu, _⟩ := hownu.row (by omega)
      have hown2 := hown.below hb2
      have hz : ∀ j (h : j < zs.length), w2.cell? ((⟨gu, 0, none⟩ : Addr).add j) = some (.int .i64 zs[j]) := fun j h => by rw [addr_add]; exact hcu j h
      have Hz := Lib.hid hz; clear hz hcu
      have hB2 : w.heap.size ≤ w2.heap.size := Nat.le_trans hB hb2.size
      have Hb2 := Lib.hid (below_step Hbel.out hB hb2)
      clear hb2
      go_wp2_with (at_builtin; refine wpList_app TI3 rfl (.tmp 21) (.tmp 25) rfl w.heap.size _ xs zs ⟨gu, 0, none⟩ _ cu Hzl.out rfl hown2 rfl Hz.out hal' hB2 ?_; intro v3 w3 hown3 hg3)
      go_roundw
      case rel => exact ⟨c + 1, by omega, by go_num, by rw [Hex.out]; exact hown3, Hb2.out.grown hg3 hB2 (fun g e => (hown.lt g e).1)⟩
      case measure => simp [intOf]; omega
    · have hce : c = cols := by omega
      subst hce
      have hml : (allS need L c).length = m := by rw [allS_len, hm]
      have hDl := dataI_len size need L
      have htk := allS_take (need := need) (L := L) (c := c) (size := size) (by omega)
      have hgt : ∀ j (h : j < (allS need L c).length), (allS need L c)[j] = eAt need L j := fun j h => by simp [allS]
      obtain ⟨ga, ca, rfl, hga, hga', hmca, hcells, _⟩ := hown.row (by omega)
      rw [hml] at hmca ⊢
      have hcel : ∀ j, j < m → wr.cell? ⟨ga, j, none⟩ = some (.int .i64 (eAt need L j)) := fun j hj => by
        have := hcells j (by omega)
        rwa [hgt] at this
      have hDg : ∀ j (h : j < (dataI size need L).length), (dataI size need L)[j] = eAt need L j := fun j h => by simp only [dataI, eAt, List.getElem_map, List.getElem_range]
      have hz : ∀ j (h : j < (dataI size need L).length), (wr.alloc (.cells #[] 3)).cell? ((⟨ga, 0, none⟩ : Addr).add j) = some (.int .i64 (dataI size need L)[j]) := fun j h => by
        rw [addr_add, hDg]
        exact (World.grownBy_alloc _ _ none).cell (hcel j (by omega)) (by simp)
      have Hpz := Lib.hid (fun (hm' : L.all (matB (dataI size need L) need) = true) i hi hi2 => Hpad.out hm' i hi hi2)
      clear Hpad hcells hgt hDg htk hml hown
      rw [hm] at Hpz
      have Hz := Lib.hid hz; clear hz
      have Hcel := Lib.hid hcel; clear hcel
      generalize hD : dataI size need L = D at *
      have HD := Lib.hid hD; clear hD
      have hg0 := (Hr.out)
      obtain ⟨g, off, rfl, hg, hat⟩ := shards_at Hr.out (by omega)
      have Hat := Lib.hid hat; clear hat hg0
      have hsm : size ≤ m := by omega
      have hsca : size ≤ ca := by omega
      have hown0 := ownE 3 wr
      have HDl := Lib.hid hDl.symm
      have hsl : ([] : List Int).length + D.length ≤ 1099511627776 := by rw [hDl]; simp; omega
      have hbw := (Below.refl wr.heap.size wr).alloc (Nat.le_refl _) (.cells #[] 3)
      have Hbw := Lib.hid hbw; clear hbw
      obtain ⟨W1, hW1⟩ : ∃ W1, W1 = wr := ⟨_, rfl⟩
      subst hW1
      go_wp2_with (at_builtin; refine wpList_app TI3 rfl (.tmp 27) (.tmp 30) rfl W1.heap.size _ [] D ⟨ga, 0, none⟩ _ ca HDl.out rfl hown0 rfl Hz.out hsl (by simp) ?_; intro v3 w3 hown3 hg3; rw [List.nil_append] at hown3)
      obtain ⟨a3, c3, rfl, hi3, _⟩ := hown3.ints
      have Hb3 := Lib.hid (Hbw.out.grown hg3 (by simp) (fun g e => by cases e; exact Nat.le_refl _))
      clear hg3 Hz hown0
      have Hown3 := Lib.hid hown3; clear hown3
      have Hi3w := Lib.hid hi3; clear hi3
      have hg1 : g < W1.heap.size := Nat.lt_of_lt_of_le hg hB
      rw [hDl]
      go_wp2_with fail
      go_loop [11] (fun i => ∃ i' : Nat, size ≤ i' ∧ i' ≤ m ∧ i = .int .i64 i') (fun i => m - (intOf i).toNat)
      case atStart => exact ⟨size, by omega, by omega, rfl⟩
      case round =>
        obtain ⟨i, hi1, hi2, rfl⟩ := hrel
        by_cases him : i < m
        · have d0 := (Hb3.out.cell (p := ⟨ga, i, none⟩) hga').trans (Hcel.out i him)
          by_cases hz : eAt need L i = 0
          · rw [hz] at d0
            go_wp2
            go_round
            case rel => exact ⟨i + 1, by omega, by omega, by go_num⟩
            case measure => simp [intOf]; omega
          · have hall : L.all (matB D need) = false := by
              cases h : L.all (matB D need) with
              | false => rfl
              | true => exact absurd (Hpz.out h i hi1 him) hz
            have Hf := Lib.hid (Hno.out hall)
            have hq : (eAt need L i != 0) = true := by simpa using hz
            clear hall hz
            generalize eAt need L i = z at *
            have hs3 := Hb3.out.size
            go_wp2
            refine bodyPost_ret (v := .tuple #[.slice (some ⟨w3.heap.size, 0, none⟩) 0 0, .bool false]) (by simp [results, Try.f29, go_sem]) rfl ?_
            rw [Hf.out.1, Hf.out.2]
            exact ⟨_, rfl, (ownE 3 w3).mono (by omega), (below_step Hbel.out hB Hb3.out).alloc (by omega) _⟩
        · have hie : decide ((i : Int) < (m : Int)) = false := decide_eq_false (by omega)
          have hie2 : decide (i < m) = false := decide_eq_false him
          have hDok := dataB_iff Hdok.out
          have hsh3 := fun (W : World) (x : Nat) (hx : x ≤ 8) h => spec_l3Shard a3 c3 D need x W hDok.1 (by omega) (by omega) (by omega) hx h
          rw [hDl] at hsh3
          have Hsh3 := Lib.hid hsh3; clear hsh3 hDok
          go_wp2_with fail
          go_loopw [12] (fun i wr => ∃ k : Nat, k ≤ L.length ∧ i = .int .i64 k ∧ Upto (matAt D need L) k ∧ Below w3.heap.size w3 wr) (fun i _ => L.length - (intOf i).toNat)
          case atStart => exact ⟨0, by omega, rfl, upto_zero _, Below.refl _ _⟩
          case round =>
            obtain ⟨k, hk, rfl, hup, hbi⟩ := hrel
            have Hbi := Lib.hid hbi; clear hbi
            have Hup := Lib.hid hup; clear hup
            have hB3 := Hbi.out.size
            have hs3 := Hb3.out.size
            by_cases hlt : k < L.length
            · obtain ⟨av, cv, C0, C1, I1⟩ := Hat.out k hlt
              obtain ⟨⟨hx1, hx8⟩, hvl, _⟩ := (shsB_at Hsh.out hlt).1
              have Hvl := Lib.hid hvl; clear hvl
              have hw3 : ∀ j, w3.cell? ⟨g, j, none⟩ = w.cell? ⟨g, j, none⟩ := fun j => (Hb3.out.cell (p := ⟨g, j, none⟩) hg1).trans (Hbel.out.cell (p := ⟨g, j, none⟩) hg)
              have hg3 : g < w3.heap.size := by omega
              have d0 := (Hbi.out.cell (p := ⟨g, off + k * 2, none⟩) hg3).trans ((hw3 _).trans C0)
              have d1 := (Hbi.out.cell (p := ⟨g, off + k * 2 + 1, none⟩) hg3).trans ((hw3 _).trans C1)
              have Hiv := Lib.hid (((I1.below Hbel.out).below Hb3.out).below Hbi.out)
              have Hi3 := Lib.hid (Hi3w.out.below Hbi.out)
              have Hmat := Lib.hid (show matAt D need L k = decide (shardV D need L[k].1 = L[k].2) by unfold matAt; rw [getS hlt]; exact matB_yes Hdok.out ⟨hx1, hx8⟩)
              have Hno2 := Lib.hid (fun h => mat_no (d := D) (need := need) hlt h)
              have Hst := Lib.hid (show matB D need L[k] = matAt D need L k by unfold matAt; rw [getS hlt])
              clear C0 C1 I1 hw3
              obtain ⟨x, hx⟩ : ∃ x : Nat, L[k].1 = (x : Int) := ⟨L[k].1.toNat, by omega⟩
              rw [Hst.out] at Hno2
              rw [hx] at d0 Hmat hx8
              clear hx hx1 Hst
              have hx8' : x ≤ 8 := by omega
              generalize L[k].2 = vs at *
              have Hsh4 := Lib.hid (fun W h => Hsh3.out W x hx8' h)
              have Hsvl := Lib.hid (show (shardV D need (x : Int)).length ≤ 1099511627776 by rw [shardV_len]; exact Nat.le_trans (cols_le (d := D) (need := need) (by omega) (by omega)) (by omega))
              cases hdec : decide (shardV D need (x : Int) = vs) with
              | true =>
                have Hs := Lib.hid (upto_step Hup.out (Hmat.out.trans hdec))
                go_wp2_with fail
                refine wp_region_held_drew (S := fun w' => w'.cell? ⟨g, off + k * 2, none⟩ = some (.int .i64 (x : Int)) ∧ w'.cell? ⟨g, off + k * 2 + 1, none⟩ = some (.slice av vs.length cv)) (by kernel_rfl) ⟨d0, d1⟩ (fun hH => ?_)
                refine takeH 0 (v := ?vz0) rfl (by kernel_rfl) (by kernel_rfl) (by kernel_rfl) (fun _ _ _ h => h) hH rfl ?yz0 ?rz0
                case yz0 => intro W hSw; obtain ⟨h1, h2⟩ := hSw; go_simp; try with_reducible rfl
                try simp only [Act.put, List.setIfInBounds_toArray, List.set_cons_zero, List.set_cons_succ]
                refine takeH 1 (v := ?vz1) rfl (by kernel_rfl) (by kernel_rfl) (by kernel_rfl) (fun _ _ _ h => h) hH rfl ?yz1 ?rz1
                case yz1 => intro W hSw; obtain ⟨h1, h2⟩ := hSw; go_simp; try with_reducible rfl
                try simp only [Act.put, List.setIfInBounds_toArray, List.set_cons_zero, List.set_cons_succ]
                refine takeH 2 (v := ?vz2) rfl (by kernel_rfl) (by kernel_rfl) (by kernel_rfl) (fun _ _ _ h => h) hH rfl ?yz2 ?rz2
                case yz2 => intro W hSw; obtain ⟨h1, h2⟩ := hSw; go_simp; try with_reducible rfl
                try simp only [Act.put, List.setIfInBounds_toArray, List.set_cons_zero, List.set_cons_succ]
                refine takeH 3 (v := ?vz3) rfl (by kernel_rfl) (by kernel_rfl) (by kernel_rfl) (fun _ _ _ h => h) hH rfl ?yz3 ?rz3
                case yz3 => intro W hSw; obtain ⟨h1, h2⟩ := hSw; go_simp; try with_reducible rfl
                try simp only [Act.put, List.setIfInBounds_toArray, List.set_cons_zero, List.set_cons_succ]
                refine takeH 4 (v := ?vz4) rfl (by kernel_rfl) (by kernel_rfl) (by kernel_rfl) (fun _ _ _ h => h) hH rfl ?yz4 ?rz4
                case yz4 => intro W hSw; obtain ⟨h1, h2⟩ := hSw; go_simp; try with_reducible rfl
                try simp only [Act.put, List.setIfInBounds_toArray, List.set_cons_zero, List.set_cons_succ]
                refine takeH 5 (v := ?vz5) rfl (by kernel_rfl) (by kernel_rfl) (by kernel_rfl) (fun _ _ _ h => h) hH rfl ?yz5 ?rz5
                case yz5 => intro W hSw; obtain ⟨h1, h2⟩ := hSw; go_simp; try with_reducible rfl
                try simp only [Act.put, List.setIfInBounds_toArray, List.set_cons_zero, List.set_cons_succ]
                refine takeH 6 (v := ?vz6) rfl (by kernel_rfl) (by kernel_rfl) (by kernel_rfl) (fun _ _ _ h => h) hH rfl ?yz6 ?rz6
                case yz6 => intro W hSw; obtain ⟨h1, h2⟩ := hSw; go_simp; try with_reducible rfl
                try simp only [Act.put, List.setIfInBounds_toArray, List.set_cons_zero, List.set_cons_succ]
                refine takeH 8 (v := ?vz8) rfl (by kernel_rfl) (by kernel_rfl) (by kernel_rfl) (fun _ _ _ h => h) hH rfl ?yz8 ?rz8
                case yz8 => intro W hSw; obtain ⟨h1, h2⟩ := hSw; go_simp; try with_reducible rfl
                try simp only [Act.put, List.setIfInBounds_toArray, List.set_cons_zero, List.set_cons_succ]
                refine takeH 9 (v := ?vz9) rfl (by kernel_rfl) (by kernel_rfl) (by kernel_rfl) (fun _ _ _ h => h) hH rfl ?yz9 ?rz9
                case yz9 => intro W hSw; obtain ⟨h1, h2⟩ := hSw; go_simp; try with_reducible rfl
                try simp only [Act.put, List.setIfInBounds_toArray, List.set_cons_zero, List.set_cons_succ]
                refine takeH 10 (v := ?vz10) rfl (by kernel_rfl) (by kernel_rfl) (by kernel_rfl) (fun _ _ _ h => h) hH rfl ?yz10 ?rz10
                case yz10 => intro W hSw; obtain ⟨h1, h2⟩ := hSw; go_simp; try with_reducible rfl
                try simp only [Act.put, List.setIfInBounds_toArray, List.set_cons_zero, List.set_cons_succ]
                refine takeH 11 (v := ?vz11) rfl (by kernel_rfl) (by kernel_rfl) (by kernel_rfl) (fun _ _ _ h => h) hH rfl ?yz11 ?rz11
                case yz11 => intro W hSw; obtain ⟨h1, h2⟩ := hSw; go_simp; try with_reducible rfl
                try simp only [Act.put, List.setIfInBounds_toArray, List.set_cons_zero, List.set_cons_succ]
                refine callH 7 rfl (by kernel_rfl) rfl (fun K hK => ?_)
                go_simp
                refine (Hsh4.out wr.drew Hi3.out).mono ?_
                rintro e w6 ⟨v6, rfl, hown6, hb6⟩
                obtain ⟨a6, c6, rfl, hi6, _⟩ := hown6.ints
                dsimp only
                have hwd : wr.drew.heap.size = wr.heap.size := rfl
                refine hK.out _ _ ⟨(hb6.cell (p := ⟨g, off + k * 2, none⟩) (by simp only; omega)).trans hH.1, (hb6.cell (p := ⟨g, off + k * 2 + 1, none⟩) (by simp only; omega)).trans hH.2⟩ (fun hH => ?_)
                clear hK K
                try simp only [Act.put, List.setIfInBounds_toArray, List.set_cons_zero, List.set_cons_succ]
                have Hb6 := Lib.hid (below_step Hbi.out.drew hB3 hb6)
                have hs6 := hb6.size
                have Hv6 := Lib.hid (IntsAt.below (w := wr.drew) Hiv.out hb6)
                have Hi6 := Lib.hid hi6; clear hi6 hb6 hown6
                have hsame := spec_l3Same (x : Int) a6 av c6 cv (shardV D need x) vs w6 Hsvl.out (by have := Hvl.out; omega) Hi6.out Hv6.out
                rw [hdec] at hsame
                refine callH 12 rfl (by kernel_rfl) rfl (fun K hK => ?_)
                go_simp
                refine hsame.mono ?_
                rintro e w7 ⟨rfl, hb7⟩
                dsimp only
                refine hK.out _ _ ⟨(hb7.cell (p := ⟨g, off + k * 2, none⟩) (by simp only; omega)).trans hH.1, (hb7.cell (p := ⟨g, off + k * 2 + 1, none⟩) (by simp only; omega)).trans hH.2⟩ (fun hH => ?_)
                clear hK K
                try simp only [Act.put, List.setIfInBounds_toArray, List.set_cons_zero, List.set_cons_succ]
                refine takeH 13 (v := ?vz13) rfl (by kernel_rfl) (by kernel_rfl) (by kernel_rfl) (fun _ _ _ h => h) hH rfl ?yz13 ?rz13
                case yz13 => intro W hSw; obtain ⟨h1, h2⟩ := hSw; go_simp; try with_reducible rfl
                try simp only [Act.put, List.setIfInBounds_toArray, List.set_cons_zero, List.set_cons_succ]
                refine wpAnyH_done (by kernel_rfl) ?_ _
                try simp only [Act.put]
                have Hb7 := Lib.hid (below_step Hb6.out Hb6.out.size hb7)
                clear hH hb7 d0 d1 hsame hdec
                go_wp2
                go_roundw
                case rel => exact ⟨k + 1, by omega, by go_num, Hs.out, Hb7.out⟩
                case measure => simp [intOf]; omega
              | false =>
                have Hf := Lib.hid (Hno.out (Hno2.out (Hmat.out.trans hdec)))
                go_wp2_with fail
                refine wp_region_held_drew (S := fun w' => w'.cell? ⟨g, off + k * 2, none⟩ = some (.int .i64 (x : Int)) ∧ w'.cell? ⟨g, off + k * 2 + 1, none⟩ = some (.slice av vs.length cv)) (by kernel_rfl) ⟨d0, d1⟩ (fun hH => ?_)
                refine takeH 0 (v := ?vq0) rfl (by kernel_rfl) (by kernel_rfl) (by kernel_rfl) (fun _ _ _ h => h) hH rfl ?yq0 ?rq0
                case yq0 => intro W hSw; obtain ⟨h1, h2⟩ := hSw; go_simp; try with_reducible rfl
                try simp only [Act.put, List.setIfInBounds_toArray, List.set_cons_zero, List.set_cons_succ]
                refine takeH 1 (v := ?vq1) rfl (by kernel_rfl) (by kernel_rfl) (by kernel_rfl) (fun _ _ _ h => h) hH rfl ?yq1 ?rq1
                case yq1 => intro W hSw; obtain ⟨h1, h2⟩ := hSw; go_simp; try with_reducible rfl
                try simp only [Act.put, List.setIfInBounds_toArray, List.set_cons_zero, List.set_cons_succ]
                refine takeH 2 (v := ?vq2) rfl (by kernel_rfl) (by kernel_rfl) (by kernel_rfl) (fun _ _ _ h => h) hH rfl ?yq2 ?rq2
                case yq2 => intro W hSw; obtain ⟨h1, h2⟩ := hSw; go_simp; try with_reducible rfl
                try simp only [Act.put, List.setIfInBounds_toArray, List.set_cons_zero, List.set_cons_succ]
                refine takeH 3 (v := ?vq3) rfl (by kernel_rfl) (by kernel_rfl) (by kernel_rfl) (fun _ _ _ h => h) hH rfl ?yq3 ?rq3
                case yq3 => intro W hSw; obtain ⟨h1, h2⟩ := hSw; go_simp; try with_reducible rfl
                try simp only [Act.put, List.setIfInBounds_toArray, List.set_cons_zero, List.set_cons_succ]
                refine takeH 4 (v := ?vq4) rfl (by kernel_rfl) (by kernel_rfl) (by kernel_rfl) (fun _ _ _ h => h) hH rfl ?yq4 ?rq4
                case yq4 => intro W hSw; obtain ⟨h1, h2⟩ := hSw; go_simp; try with_reducible rfl
                try simp only [Act.put, List.setIfInBounds_toArray, List.set_cons_zero, List.set_cons_succ]
                refine takeH 5 (v := ?vq5) rfl (by kernel_rfl) (by kernel_rfl) (by kernel_rfl) (fun _ _ _ h => h) hH rfl ?yq5 ?rq5
                case yq5 => intro W hSw; obtain ⟨h1, h2⟩ := hSw; go_simp; try with_reducible rfl
                try simp only [Act.put, List.setIfInBounds_toArray, List.set_cons_zero, List.set_cons_succ]
                refine takeH 6 (v := ?vq6) rfl (by kernel_rfl) (by kernel_rfl) (by kernel_rfl) (fun _ _ _ h => h) hH rfl ?yq6 ?rq6
                case yq6 => intro W hSw; obtain ⟨h1, h2⟩ := hSw; go_simp; try with_reducible rfl
                try simp only [Act.put, List.setIfInBounds_toArray, List.set_cons_zero, List.set_cons_succ]
                refine takeH 8 (v := ?vq8) rfl (by kernel_rfl) (by kernel_rfl) (by kernel_rfl) (fun _ _ _ h => h) hH rfl ?yq8 ?rq8
                case yq8 => intro W hSw; obtain ⟨h1, h2⟩ := hSw; go_simp; try with_reducible rfl
                try simp only [Act.put, List.setIfInBounds_toArray, List.set_cons_zero, List.set_cons_succ]
                refine takeH 9 (v := ?vq9) rfl (by kernel_rfl) (by kernel_rfl) (by kernel_rfl) (fun _ _ _ h => h) hH rfl ?yq9 ?rq9
                case yq9 => intro W hSw; obtain ⟨h1, h2⟩ := hSw; go_simp; try with_reducible rfl
                try simp only [Act.put, List.setIfInBounds_toArray, List.set_cons_zero, List.set_cons_succ]
                refine takeH 10 (v := ?vq10) rfl (by kernel_rfl) (by kernel_rfl) (by kernel_rfl) (fun _ _ _ h => h) hH rfl ?yq10 ?rq10
                case yq10 => intro W hSw; obtain ⟨h1, h2⟩ := hSw; go_simp; try with_reducible rfl
                try simp only [Act.put, List.setIfInBounds_toArray, List.set_cons_zero, List.set_cons_succ]
                refine takeH 11 (v := ?vq11) rfl (by kernel_rfl) (by kernel_rfl) (by kernel_rfl) (fun _ _ _ h => h) hH rfl ?yq11 ?rq11
                case yq11 => intro W hSw; obtain ⟨h1, h2⟩ := hSw; go_simp; try with_reducible rfl
                try simp only [Act.put, List.setIfInBounds_toArray, List.set_cons_zero, List.set_cons_succ]
                refine callH 7 rfl (by kernel_rfl) rfl (fun K hK => ?_)
                go_simp
                refine (Hsh4.out wr.drew Hi3.out).mono ?_
                rintro e w6 ⟨v6, rfl, hown6, hb6⟩
                obtain ⟨a6, c6, rfl, hi6, _⟩ := hown6.ints
                dsimp only
                have hwd : wr.drew.heap.size = wr.heap.size := rfl
                refine hK.out _ _ ⟨(hb6.cell (p := ⟨g, off + k * 2, none⟩) (by simp only; omega)).trans hH.1, (hb6.cell (p := ⟨g, off + k * 2 + 1, none⟩) (by simp only; omega)).trans hH.2⟩ (fun hH => ?_)
                clear hK K
                try simp only [Act.put, List.setIfInBounds_toArray, List.set_cons_zero, List.set_cons_succ]
                have Hb6 := Lib.hid (below_step Hbi.out.drew hB3 hb6)
                have hs6 := hb6.size
                have Hv6 := Lib.hid (IntsAt.below (w := wr.drew) Hiv.out hb6)
                have Hi6 := Lib.hid hi6; clear hi6 hb6 hown6
                have hsame := spec_l3Same (x : Int) a6 av c6 cv (shardV D need x) vs w6 Hsvl.out (by have := Hvl.out; omega) Hi6.out Hv6.out
                rw [hdec] at hsame
                refine callH 12 rfl (by kernel_rfl) rfl (fun K hK => ?_)
                go_simp
                refine hsame.mono ?_
                rintro e w7 ⟨rfl, hb7⟩
                dsimp only
                refine hK.out _ _ ⟨(hb7.cell (p := ⟨g, off + k * 2, none⟩) (by simp only; omega)).trans hH.1, (hb7.cell (p := ⟨g, off + k * 2 + 1, none⟩) (by simp only; omega)).trans hH.2⟩ (fun hH => ?_)
                clear hK K
                try simp only [Act.put, List.setIfInBounds_toArray, List.set_cons_zero, List.set_cons_succ]
                refine takeH 13 (v := ?vq13) rfl (by kernel_rfl) (by kernel_rfl) (by kernel_rfl) (fun _ _ _ h => h) hH rfl ?yq13 ?rq13
                case yq13 => intro W hSw; obtain ⟨h1, h2⟩ := hSw; go_simp; try with_reducible rfl
                try simp only [Act.put, List.setIfInBounds_toArray, List.set_cons_zero, List.set_cons_succ]
                refine wpAnyH_done (by kernel_rfl) ?_ _
                try simp only [Act.put]
                have Hb7 := Lib.hid (below_step Hb6.out Hb6.out.size hb7)
                clear hH hb7 d0 d1 hsame hdec
                have hs7 := Hb7.out.size
                go_wp2
                refine bodyPost_ret (v := .tuple #[.slice (some ⟨w7.heap.size, 0, none⟩) 0 0, .bool false]) (by simp [results, Try.f29, go_sem]) rfl ?_
                rw [Hf.out.1, Hf.out.2]
                exact ⟨_, rfl, (ownE 3 w7).mono (by omega), (below_step (below_step Hbel.out hB Hb3.out) (by omega) Hb7.out).alloc (by omega) _⟩
            · have Hf := Lib.hid (Hyes.out (mat_all Hup.out (by omega)))
              have Hown2 := Lib.hid (Hown3.out.below Hbi.out)
              go_wp2
              refine bodyPost_ret (v := .tuple #[.slice a3 size c3, .bool true]) (by simp [results, Try.f29, go_sem]) rfl ?_
              rw [Hf.out.1, Hf.out.2]
              exact ⟨_, rfl, by have := Hown2.out.mono (show w.heap.size ≤ W1.heap.size by omega); rw [hDl] at this; simp only [Int.toNat_natCast]; rw [HD.out]; exact this, below_step (below_step Hbel.out hB Hb3.out) (by omega) Hbi.out⟩

set_option maxHeartbeats 1000000 in
theorem spec_ShardJoin (size need : Int) (L : List Sh) (v : Value) (fp : List Nat) (w : World) (hbig : L.length ≤ 1048576) (hin : ∀ s ∈ L, s.2.length ≤ 1048576) (hr : Rd w (.l (L.map shardD)) v fp) :
    Calls Try.prog 15 #[.int .i64 size, .int .i64 need, v] w fun e w' => ∃ u, e = .returned (.tuple #[u, .bool (joinB size need L)]) ∧ Own 3 w' w.heap.size u (joinD size need L) ∧ Below w.heap.size w w' := by
  have hl := spec_l3List size need L v fp w hbig hin hr
  cases hok : joinOk size need L with
  | false =>
    rw [hok] at hl
    have Hl := Lib.hid hl; clear hl
    have Hf := Lib.hid (join_no hok)
    clear hok
    go_enter Try.func15, Try.ntmps15
    go_wp2_with fail
    refine Hl.out.mono ?_
    rintro e w2 ⟨rfl, hd⟩
    have Hb := Lib.hid (hd.below w.heap.size)
    have hs := Hb.out.size
    clear hd
    go_wp2
    refine bodyPost_ret (v := .tuple #[.slice (some ⟨w2.heap.size, 0, none⟩) 0 0, .bool false]) (by simp [results, Try.f15, go_sem]) rfl ?_
    rw [Hf.out.1, Hf.out.2]
    exact ⟨_, rfl, (ownE 3 w2).mono hs, Hb.out.alloc hs _⟩
  | true =>
    rw [hok] at hl
    have Hl := Lib.hid hl; clear hl
    obtain ⟨hS, hN, _, _⟩ := joinOk_iff hok
    obtain ⟨size, rfl⟩ := Int.eq_ofNat_of_zero_le (show 0 ≤ size by omega)
    obtain ⟨need, rfl⟩ := Int.eq_ofNat_of_zero_le (show 0 ≤ need by omega)
    have Hj := Lib.hid (fun (w2 : World) (h : Drawn w w2) => spec_l3Join size need L v fp w2 hok (hr.under (h.below w.heap.size)))
    clear hr hok
    generalize joinB (size : Int) (need : Int) L = jb at *
    generalize joinD (size : Int) (need : Int) L = jd at *
    go_enter Try.func15, Try.ntmps15
    go_wp2_with fail
    refine Hl.out.mono ?_
    rintro e w2 ⟨rfl, hd⟩
    go_wp2_with fail
    refine (Hj.out w2 hd).mono ?_
    rintro e w3 ⟨u, rfl, hown, hb3⟩
    have Hb := Lib.hid (below_step (hd.below w.heap.size) (hd.below w.heap.size).size hb3)
    have Hown := Lib.hid (hown.mono (hd.below w.heap.size).size)
    clear hown hb3 hd
    go_wp2
    refine bodyPost_ret (v := .tuple #[u, .bool jb]) (by simp [results, Try.f15, go_sem]) rfl ?_
    exact ⟨_, rfl, Hown.out, Hb.out⟩

end Go.Proofs.Ytnaeeemgehgdfab
