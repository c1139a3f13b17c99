/- Texts that the laws of this folder share, one behind another; no conditions. -/
import Derived.Test.YteglefchkecfjaaBu1
import Derived.IntWalk
import Derived.Test.YteglefchkecfjaaRows
import Derived.Test.YteglefchkecfjaaBu0
import Derived.Deep.QuietTactic
import Derived.BigQuiet
import Derived.Deep.Slices
import Derived.ChangeArms
import Derived.ChangeSame

/- What impl's join of shards is, by a walk of its text; conditions: the lists are short, the numbers are ints. -/
namespace Go.Proofs.Yteglefchkecfjaa
open Go.RowKit

theorem join_no {size need : Int} {L : List Sh} (h : joinOk size need L = false) : joinB size need L = false ∧ joinD size need L = [] := by
  have : joinB size need L = false := by unfold joinB; rw [h]; rfl
  exact ⟨this, by unfold joinD; rw [if_neg (by simp [this])]⟩
theorem join_yes {size need : Int} {L : List Sh} (h : joinOk size need L = true) (h' : L.all (matB (dataI size.toNat need.toNat L) need) = true) : joinB size need L = true ∧ joinD size need L = dataI size.toNat need.toNat L := by
  have : joinB size need L = true := by unfold joinB; rw [h, h']; rfl
  exact ⟨this, by unfold joinD; rw [if_pos this]⟩
theorem join_bad {size need : Int} {L : List Sh} (h' : L.all (matB (dataI size.toNat need.toNat L) need) = false) : joinB size need L = false ∧ joinD size need L = [] := by
  have : joinB size need L = false := by unfold joinB; rw [h', Bool.and_false]
  exact ⟨this, by unfold joinD; rw [if_neg (by simp [this])]⟩
def matAt (d : List Int) (need : Int) (L : List Sh) (k : Nat) : Bool := matB d need (L.getD k (0, []))
theorem mat_all {d : List Int} {need : Int} {L : List Sh} {k : Nat} (h : Upto (matAt d need L) k) (hk : L.length ≤ k) : L.all (matB d need) = true := by
  rw [List.all_eq_true]
  intro s hs
  obtain ⟨j, hj, rfl⟩ := List.mem_iff_getElem.1 hs
  have := h j (by omega)
  unfold matAt at this
  rwa [getS hj] at this
theorem mat_no {d : List Int} {need : Int} {L : List Sh} {k : Nat} (hk : k < L.length) (h : matB d need L[k] = false) : L.all (matB d need) = false := by
  rw [List.all_eq_false]; exact ⟨L[k], List.getElem_mem hk, by simp [h]⟩
theorem ownE (E : TypeId) (w : World) : Own E (w.alloc (.cells #[] E)) w.heap.size (.slice (some ⟨w.heap.size, 0, none⟩) 0 0) [] := own_empty E w (Nat.le_refl _)

set_option maxHeartbeats 2000000 in
theorem impl_ShardJoin (size need : Int) (L : List Sh) (v : Value) (fp : List Nat) (w : World) (hbig : L.length ≤ 1048576) (hin : ∀ s ∈ L, s.2.length ≤ 1048576) (hr : Rd w (.l (L.map shardD)) v fp) :
    Calls Try.prog 13 #[.int .i64 size, .int .i64 need, v] w fun e w' => ∃ u, e = .returned (.tuple #[u, .bool (joinB size need L)]) ∧ Own 3 w' w.heap.size u (joinD size need L) ∧ Below w.heap.size w w' := by
  obtain ⟨a, cap, rfl⟩ := hr.slice
  rw [List.length_map] at *
  have Hr := Lib.hid hr; clear hr
  have Hin := Lib.hid hin; clear hin
  have hds := fun w => impl_isDataSize size w
  have hnm := fun w => impl_isShardNumber need w
  by_cases hS : 1 ≤ size ∧ size ≤ 12
  · rw [decide_eq_true hS] at hds
    have Hds := Lib.hid hds; clear hds
    by_cases hN : 1 ≤ need ∧ need ≤ 8
    · rw [decide_eq_true hN] at hnm
      have Hnm := Lib.hid hnm; clear hnm
      obtain ⟨size, rfl⟩ := Int.eq_ofNat_of_zero_le (show 0 ≤ size by omega)
      obtain ⟨need, rfl⟩ := Int.eq_ofNat_of_zero_le (show 0 ≤ need by omega)
      have has := impl_areShards size need L _ fp w (by omega) (by omega) (by omega) (by omega) hbig Hin.out Hr.out
      cases hA : (lenB need L && shsB ((size + need - 1) / need) L) with
      | false =>
        rw [hA] at has
        have Has := Lib.hid has; clear has
        have Hf := Lib.hid (join_no (size := size) (need := need) (L := L) (by unfold joinOk; simp only [Int.toNat_natCast]; rw [hA, Bool.and_false]))
        clear hA
        go_enter Try.func13, Try.ntmps13
        go_wp2_with fail
        refine (Hds.out _).mono ?_
        rintro e w' ⟨rfl, rfl⟩
        go_wp2_with fail
        refine (Hnm.out _).mono ?_
        rintro e w' ⟨rfl, rfl⟩
        go_wp2_with fail
        refine Has.out.mono ?_
        rintro e w1 ⟨rfl, hb1⟩
        have Hb1 := Lib.hid hb1; clear hb1
        have hs1 := Hb1.out.size
        go_wp2
        refine bodyPost_ret (v := .tuple #[.slice (some ⟨w1.heap.size, 0, none⟩) 0 0, .bool false]) (by simp [results, Try.f13, go_sem]) rfl ?_
        rw [Hf.out.1, Hf.out.2]
        exact ⟨_, rfl, (ownE 3 w1).mono hs1, Hb1.out.alloc hs1 _⟩
      | true =>
        rw [hA] at has
        have Has := Lib.hid has; clear has
        obtain ⟨hl, hsh⟩ := Bool.and_eq_true_iff.1 hA
        unfold lenB at hl
        rw [decide_eq_true_eq] at hl
        have hJ : joinOk size need L = true := by unfold joinOk lenB; simp only [Int.toNat_natCast]; rw [hsh, decide_eq_true hS, decide_eq_true hN, decide_eq_true hl]; rfl
        have hcols1 : 1 ≤ (size + need - 1) / need := (Nat.le_div_iff_mul_le (by omega)).2 (by omega)
        have hcols2 : (size + need - 1) / need ≤ 12 := by
          have := cols_le (d := List.replicate size 0) (need := need) (by omega) (by simp; omega)
          unfold colsN at this; rwa [List.length_replicate] at this
        have Hsol := Lib.hid (fun W (h : Rd W (.l (L.map shardD)) (.slice a L.length cap) fp) => impl_solve need _ L _ fp W (by omega) (by omega) (by omega) hcols1 hcols2 hsh h)
        have hDat : dataI size need L = (List.range size).map fun i => stAt need (eqs0 need (xsOf L) (vsOf L) need) need (i % need) (8 + i / need) := rfl
        have HDat := Lib.hid hDat; clear hDat
        have HJ := Lib.hid hJ; clear hJ hA hsh hcols1 hcols2
        generalize hG : stAt need (eqs0 need (xsOf L) (vsOf L) need) need = G at *
        clear hG
        have hzv := fun w => run_zeroValue (P := Try.prog) (ty := 71) (v := .agg (grC fun _ _ => 0)) (by kernel_rfl) w
        go_enter Try.func13, Try.ntmps13
        go_wp2_with fail
        refine (Hds.out _).mono ?_
        rintro e w' ⟨rfl, rfl⟩
        go_wp2_with fail
        refine (Hnm.out _).mono ?_
        rintro e w' ⟨rfl, rfl⟩
        go_wp2_with fail
        refine Has.out.mono ?_
        rintro e w1 ⟨rfl, hb1⟩
        have Hb1 := Lib.hid hb1
        have hs1 := Hb1.out.size
        have Hr1 := Lib.hid (Hr.out.under hb1); clear hb1
        go_wp2_with fail
        refine (Hsol.out _ Hr1.out).mono ?_
        rintro e w2 ⟨rfl, hb2⟩
        have Hb2 := Lib.hid (below_step Hb1.out hs1 hb2)
        have hs2 := hb2.size
        have Hr2 := Lib.hid (Hr1.out.under hb2); clear hb2
        go_wp2_with (refine wpList_store_row rfl 71 _ _ rfl w2.heap.size (grC G) rfl rfl 71 (grC fun _ _ => 0) (Str.new w2 71 (grC fun _ _ => 0)) (by rw [grC_size]; kernel_rfl) (by rw [grC_size, grC_size]) (grC_one _) ?_)
        have hg3 : Str (((w2.alloc (.cells (grC fun _ _ => 0) 71)).setRow w2.heap.size (grC G)).alloc (.cells #[] 3)) w2.heap.size 71 (grC G) := (setRow_str (Str.new w2 71 (grC fun _ _ => 0)) (grC G)).alloc _
        have hz3 : ((w2.alloc (.cells (grC fun _ _ => 0) 71)).setRow w2.heap.size (grC G)).heap.size = w2.heap.size + 1 := by simp [World.setRow]
        have ho3 := ownE 3 ((w2.alloc (.cells (grC fun _ _ => 0) 71)).setRow w2.heap.size (grC G))
        have hb3 : Below w2.heap.size w2 (((w2.alloc (.cells (grC fun _ _ => 0) 71)).setRow w2.heap.size (grC G)).alloc (.cells #[] 3)) := (((Below.refl _ w2).alloc (Nat.le_refl _) _).grown (grownBy_setRow _ _ _) (by simp) (fun g e => by cases e; omega)).alloc (by rw [hz3]; omega) _
        rw [hz3] at ho3
        clear hz3 hzv
        generalize ((w2.alloc (.cells (grC fun _ _ => 0) 71)).setRow w2.heap.size (grC G)).alloc (.cells #[] 3) = W3 at *
        have Hg3 := Lib.hid hg3; clear hg3
        have Ho3 := Lib.hid ho3; clear ho3
        have Hb3 := Lib.hid hb3; clear hb3
        have hdl := dataI_len size need L
        have Hdl := Lib.hid hdl; clear hdl
        go_loopw [9, 34] (fun v i wr => ∃ k : Nat, k ≤ size ∧ i = .int .i64 k ∧ Own 3 wr (w2.heap.size + 1) v ((dataI size need L).take k) ∧ Str wr w2.heap.size 71 (grC G) ∧ Below w2.heap.size w2 wr) (fun _ i _ => size - (intOf i).toNat)
        case atStart => exact ⟨0, by omega, rfl, Ho3.out, Hg3.out, Hb3.out⟩
        case round =>
          obtain ⟨k, hk, rfl, hown, hg, hbel⟩ := hrel
          have hsz := hg.lt
          have Hbel := Lib.hid hbel; clear hbel
          by_cases hlt : k < size
          · have hr8 : k % need < need := Nat.mod_lt _ (by omega)
            have hq12 : k / need < 12 := div_lt12 (by omega) hlt (by omega)
            have Hz := Lib.hid (show (dataI size need L).take (k + 1) = (dataI size need L).take k ++ [G (k % need) (8 + k / need)] by
              rw [List.take_succ_eq_append_getElem (by rw [Hdl.out]; exact hlt)]
              congr 1
              simp only [HDat.out, List.getElem_map, List.getElem_range])
            have hzl := Lib.hid (show ((dataI size need L).take k).length ≤ 1099511627776 by rw [List.length_take, Hdl.out]; omega)
            have hme : ((k : Int)).tmod (need : Int) = ((k % need : Nat) : Int) := by rw [Int.tmod_eq_emod_of_nonneg (by omega)]; exact (Int.natCast_emod _ _).symm
            have hde : ((k : Int)).tdiv (need : Int) = ((k / need : Nat) : Int) := by rw [Int.tdiv_eq_ediv_of_nonneg (by omega)]; exact (Int.natCast_ediv _ _).symm
            generalize k % need = r at *
            generalize k / need = q at *
            obtain ⟨m, hm⟩ : ∃ m : Nat, 8 + q = m := ⟨_, rfl⟩
            rw [hm] at Hz
            have hm20 : m < 20 := by omega
            have hw1 : IntKind.i64.wrap (q : Int) = (q : Int) := IntWalk.i64_in _ (by omega)
            have hw2 : IntKind.i64.wrap (8 + (q : Int)) = (m : Int) := by rw [IntWalk.i64_in _ (by omega)]; omega
            have hx1 := fun W => run_indexAt_arr (P := Try.prog) (B := w2.heap.size) (o := 0) Try.underlying71 (s := 20) (by kernel_rfl) (show r < 8 by omega) W
            have hx2 := fun W => run_indexAt_arr (P := Try.prog) (B := w2.heap.size) (o := r * 20) Try.underlying69 (s := 1) (by kernel_rfl) hm20 W
            rw [Nat.zero_add] at hx1
            rw [Nat.mul_one] at hx2
            clear hm
            generalize (dataI size need L).take k = zs at hown Hz hzl
            go_wp2_with fail
            refine wp_region_held_drew (S := fun w' => Str w' w2.heap.size 71 (grC G)) (by kernel_rfl) hg (fun hH => ?_)
            refine takeH 0 (v := ?vj0) rfl (by kernel_rfl) (by kernel_rfl) (by kernel_rfl) (fun _ _ _ h => h) hH rfl ?yj0 ?rj0
            case yj0 => intro W hSw; go_simp; try with_reducible rfl
            try simp only [Act.put, List.setIfInBounds_toArray, List.set_cons_zero, List.set_cons_succ]
            refine takeH 1 (v := ?vj1) rfl (by kernel_rfl) (by kernel_rfl) (by kernel_rfl) (fun _ _ _ h => h) hH rfl ?yj1 ?rj1
            case yj1 => intro W hSw; go_simp; try with_reducible rfl
            try simp only [Act.put, List.setIfInBounds_toArray, List.set_cons_zero, List.set_cons_succ]
            refine takeH 2 (v := ?vj2) rfl (by kernel_rfl) (by kernel_rfl) (by kernel_rfl) (fun _ _ _ h => h) hH rfl ?yj2 ?rj2
            case yj2 => intro W hSw; go_simp; try with_reducible rfl
            try simp only [Act.put, List.setIfInBounds_toArray, List.set_cons_zero, List.set_cons_succ]
            refine takeH 3 (v := ?vj3) rfl (by kernel_rfl) (by kernel_rfl) (by kernel_rfl) (fun _ _ _ h => h) hH rfl ?yj3 ?rj3
            case yj3 => intro W hSw; go_simp; rw [if_neg (show ¬ need = 0 by omega)]
            try simp only [Act.put, List.setIfInBounds_toArray, List.set_cons_zero, List.set_cons_succ]
            refine takeH 4 (v := ?vj4) rfl (by kernel_rfl) (by kernel_rfl) (by kernel_rfl) (fun _ _ _ h => h) hH rfl ?yj4 ?rj4
            case yj4 => intro W hSw; go_simp; try with_reducible rfl
            try simp only [Act.put, List.setIfInBounds_toArray, List.set_cons_zero, List.set_cons_succ]
            refine takeH 5 (v := ?vj5) rfl (by kernel_rfl) (by kernel_rfl) (by kernel_rfl) (fun _ _ _ h => h) hH rfl ?yj5 ?rj5
            case yj5 => intro W hSw; go_simp; try with_reducible rfl
            try simp only [Act.put, List.setIfInBounds_toArray, List.set_cons_zero, List.set_cons_succ]
            refine takeH 6 (v := ?vj6) rfl (by kernel_rfl) (by kernel_rfl) (by kernel_rfl) (fun _ _ _ h => h) hH rfl ?yj6 ?rj6
            case yj6 => intro W hSw; go_simp; rw [if_neg (show ¬ need = 0 by omega)]
            try simp only [Act.put, List.setIfInBounds_toArray, List.set_cons_zero, List.set_cons_succ]
            refine takeH 7 (v := ?vj7) rfl (by kernel_rfl) (by kernel_rfl) (by kernel_rfl) (fun _ _ _ h => h) hH rfl ?yj7 ?rj7
            case yj7 => intro W hSw; go_simp; try with_reducible rfl
            try simp only [Act.put, List.setIfInBounds_toArray, List.set_cons_zero, List.set_cons_succ]
            refine takeH 8 (v := ?vj8) rfl (by kernel_rfl) (by kernel_rfl) (by kernel_rfl) (fun _ _ _ h => h) hH rfl ?yj8 ?rj8
            case yj8 => intro W hSw; go_simp; try with_reducible rfl
            try simp only [Act.put, List.setIfInBounds_toArray, List.set_cons_zero, List.set_cons_succ]
            refine takeH 9 (v := ?vj9) rfl (by kernel_rfl) (by kernel_rfl) (by kernel_rfl) (fun _ _ _ h => h) hH rfl ?yj9 ?rj9
            case yj9 => intro W hSw; go_simp; try with_reducible rfl
            try simp only [Act.put, List.setIfInBounds_toArray, List.set_cons_zero, List.set_cons_succ]
            refine takeH 10 (v := ?vj10) rfl (by kernel_rfl) (by kernel_rfl) (by kernel_rfl) (fun _ _ _ h => h) hH rfl ?yj10 ?rj10
            case yj10 => intro W hSw; have hcc := Str.cell hSw (r * 20 + m) (grC_get (S := G) (k := r) (c := m) (by omega) hm20); go_simp; try with_reducible rfl
            try simp only [Act.put, List.setIfInBounds_toArray, List.set_cons_zero, List.set_cons_succ]
            refine callH 11 rfl (by kernel_rfl) rfl (fun K hK => ?_)
            go_simp
            refine hK.out _ _ (Str.alloc (W := wr.drew) hH _) (fun hH => ?_)
            clear hK K
            try simp only [Act.put, List.setIfInBounds_toArray, List.set_cons_zero, List.set_cons_succ]
            generalize G r m = z at *
            refine callH 12 rfl (by kernel_rfl) rfl (fun K hK => ?_)
            refine op_push_at TI3 wr.drew (.tmp 37) (.tmp 48) rfl (w2.heap.size + 1) u9 zs z rfl hown hzl.out rfl hsz ?_
            intro v8 W8 hown8 hg8 hat8
            have hne8 : u9.ownBlock ≠ some w2.heap.size := fun e => by have := (hown.lt _ e).1; omega
            refine hK.out _ _ (Str.kept (W := wr.drew) hg hg8 (fun e => hne8 e.symm)) (fun hH => ?_)
            clear hK K
            try simp only [Act.put, List.setIfInBounds_toArray, List.set_cons_zero, List.set_cons_succ]
            refine takeH 13 (v := ?vj13) rfl (by kernel_rfl) (by kernel_rfl) (by kernel_rfl) (fun _ _ _ h => h) hH rfl ?yj13 ?rj13
            case yj13 => intro W hSw; go_simp; try with_reducible rfl
            try simp only [Act.put, List.setIfInBounds_toArray, List.set_cons_zero, List.set_cons_succ]
            refine wpAnyH_done (by kernel_rfl) ?_ _
            try simp only [Act.put]
            have Hown8 := Lib.hid hown8; clear hown8
            have Hh8 := Lib.hid hH; clear hH
            have Hb8 := Lib.hid (Hbel.out.drew.grown hg8 Hbel.out.size (fun g e => by have := (hown.lt _ e).1; omega))
            clear hat8 hg8 hx1 hx2 hw1 hw2 hme hde
            go_wp2
            go_roundw
            case rel => exact ⟨k + 1, by omega, by go_num, by rw [Hz.out]; exact Hown8.out, Hh8.out, Hb8.out⟩
            case measure => simp [intOf]; omega
          · have hke : k = size := by omega
            subst hke
            rw [List.take_of_length_le (by rw [Hdl.out]; exact Nat.le_refl _)] at hown
            have Hyes := Lib.hid (fun h => join_yes (L := L) HJ.out h)
            have Hbad := Lib.hid (fun h => join_bad (size := (k : Int)) (need := (need : Int)) (L := L) h)
            simp only [Int.toNat_natCast] at Hyes Hbad
            have hD12 : (dataI k need L).length ≤ 12 := by rw [Hdl.out]; omega
            clear HJ HDat Hdl
            generalize dataI k need L = D at *
            obtain ⟨ad, cd, rfl, _, _, hDc⟩ := hown.src
            have Hown := Lib.hid hown; clear hown
            have HrW := Lib.hid (Hr2.out.underB Hbel.out (fun r hr => Hr2.out.lt r hr))
            have HbW := Lib.hid (below_step Hb2.out Hb2.out.size Hbel.out)
            clear Hg3 Ho3 Hb3 hg Hb1 Hr1 Hb2 Hr2 Hbel Hsol
            go_wp2_with fail
            go_loopw [53] (fun i wq => ∃ j : Nat, j ≤ L.length ∧ i = .int .i64 j ∧ Upto (matAt D need L) j ∧ Below wr.heap.size wr wq) (fun i _ => L.length - (intOf i).toNat)
            case atStart => exact ⟨0, by omega, rfl, upto_zero _, Below.refl _ _⟩
            case round =>
              obtain ⟨j, hj, rfl, hup, hbel⟩ := hrel
              have Hup := Lib.hid hup; clear hup
              by_cases hlt : j < L.length
              · obtain ⟨g, off, rfl, hg, hat⟩ := shards_at (HrW.out.under hbel) (by omega)
                obtain ⟨av, cv, C0, C1, I1⟩ := hat j hlt
                have hxs := Hin.out _ (List.getElem_mem hlt)
                have Hms := Lib.hid (fun (h : matB D need L[j] = true) => upto_step Hup.out (show matAt D need L j = true by unfold matAt; rw [getS hlt]; exact h))
                have Hmn := Lib.hid (fun (h : matB D need L[j] = false) => mat_no hlt h)
                have Hbel := Lib.hid hbel
                have Hs := Lib.hid (show L[j] = (L[j].1, L[j].2) from rfl)
                rw [Hs.out] at Hms Hmn
                clear hat hbel Hs
                generalize L[j].1 = x at *
                generalize L[j].2 = vs at *
                have Hba := Lib.hid (Hbel.out.alloc Hbel.out.size (.cells #[.int .i64 x, .slice av vs.length cv] 32))
                have Hown2 := Lib.hid (Hown.out.below Hba.out)
                have hm := impl_ShardMatches ad cd D need x av cv vs _ (by omega) hDc (by omega) (IntsAt_own Hown2.out) (I1.below ((Below.refl _ _).alloc (Nat.le_refl _) (.cells #[.int .i64 x, .slice av vs.length cv] 32)))
                clear I1
                cases hmb : matB D need (x, vs) with
                | true =>
                  rw [hmb] at hm
                  have Hm := Lib.hid hm; clear hm
                  have Hms' := Lib.hid (Hms.out hmb)
                  clear hmb
                  go_wp2_with fail
                  refine Hm.out.mono ?_
                  rintro e w6 ⟨rfl, hb6⟩
                  have Hb6 := Lib.hid (below_step Hba.out Hba.out.size hb6)
                  clear hb6
                  go_wp2
                  go_roundw
                  case rel => exact ⟨j + 1, by omega, by go_num, Hms'.out, Hb6.out⟩
                  case measure => simp [intOf]; omega
                | false =>
                  rw [hmb] at hm
                  have Hm := Lib.hid hm; clear hm
                  have Hf := Lib.hid (Hbad.out (Hmn.out hmb))
                  clear hmb
                  go_wp2_with fail
                  refine Hm.out.mono ?_
                  rintro e w6 ⟨rfl, hb6⟩
                  have Hb6 := Lib.hid (below_step HbW.out HbW.out.size (below_step Hba.out Hba.out.size hb6))
                  have hs6 := Hb6.out.size
                  clear hb6
                  go_wp2
                  refine bodyPost_ret (v := .tuple #[.slice (some ⟨w6.heap.size, 0, none⟩) 0 0, .bool false]) (by simp [results, Try.f13, go_sem]) rfl ?_
                  rw [Hf.out.1, Hf.out.2]
                  exact ⟨_, rfl, (ownE 3 w6).mono hs6, Hb6.out.alloc hs6 _⟩
              · have Hf := Lib.hid (Hyes.out (mat_all Hup.out (by omega)))
                have Hown2 := Lib.hid (Hown.out.below hbel)
                have Hb2 := Lib.hid (below_step HbW.out HbW.out.size hbel)
                clear hbel
                go_wp2
                refine bodyPost_ret (v := .tuple #[.slice ad D.length cd, .bool true]) (by simp [results, Try.f13, go_sem]) rfl ?_
                rw [Hf.out.1, Hf.out.2]
                exact ⟨_, rfl, Hown2.out.mono (by omega), Hb2.out⟩
    · rw [decide_eq_false hN] at hnm
      have Hnm := Lib.hid hnm; clear hnm
      have Hf := Lib.hid (join_no (size := size) (L := L) (show joinOk size need L = false by unfold joinOk; rw [decide_eq_false hN, Bool.and_false]; rfl))
      go_enter Try.func13, Try.ntmps13
      go_wp2_with fail
      refine (Hds.out _).mono ?_
      rintro e w' ⟨rfl, rfl⟩
      go_wp2_with fail
      refine (Hnm.out _).mono ?_
      rintro e w' ⟨rfl, rfl⟩
      go_wp2
      refine bodyPost_ret (v := .tuple #[.slice (some ⟨w.heap.size, 0, none⟩) 0 0, .bool false]) (by simp [results, Try.f13, go_sem]) rfl ?_
      rw [Hf.out.1, Hf.out.2]
      exact ⟨_, rfl, ownE 3 w, (Below.refl _ _).alloc (Nat.le_refl _) _⟩
  · rw [decide_eq_false hS] at hds
    have Hds := Lib.hid hds; clear hds
    have Hf := Lib.hid (join_no (need := need) (L := L) (show joinOk size need L = false by unfold joinOk; rw [decide_eq_false hS]; rfl))
    go_enter Try.func13, Try.ntmps13
    go_wp2_with fail
    refine (Hds.out _).mono ?_
    rintro e w' ⟨rfl, rfl⟩
    go_wp2
    refine bodyPost_ret (v := .tuple #[.slice (some ⟨w.heap.size, 0, none⟩) 0 0, .bool false]) (by simp [results, Try.f13, go_sem]) rfl ?_
    rw [Hf.out.1, Hf.out.2]
    exact ⟨_, rfl, ownE 3 w, (Below.refl _ _).alloc (Nat.le_refl _) _⟩

end Go.Proofs.Yteglefchkecfjaa

/- What the laws' helpers that mark a list of integers and look the marks up answer, each by a walk of its text; condition: a list has at most 2^40 elements. -/
namespace Go.Proofs.Yteglefchkecfjaa
open Go.RowKit

/-- The marks k, k+1, .. -/
def markL (k n : Nat) : List Int := (List.range n).map (fun j => ((k + j : Nat) : Int))
theorem markL_len (k n : Nat) : (markL k n).length = n := by simp [markL]
theorem markL_get (k n j : Nat) (h : j < (markL k n).length) : (markL k n)[j] = ((k + j : Nat) : Int) := by simp [markL]
theorem markL_snoc (k n : Nat) : markL k (n + 1) = markL k n ++ [((k + n : Nat) : Int)] := by simp [markL, List.range_succ]
/-- i elements are marked. -/
def markU (xs : List Int) (k i : Nat) : List Int := markL k i ++ xs.drop i
theorem markU_len {xs : List Int} {k i : Nat} (h : i ≤ xs.length) : (markU xs k i).length = xs.length := by simp [markU, markL_len]; omega
theorem markU_zero (xs : List Int) (k : Nat) : markU xs k 0 = xs := by simp [markU, markL]
theorem markU_all (xs : List Int) (k : Nat) : markU xs k xs.length = markL k xs.length := by simp [markU]
theorem markU_step {xs : List Int} {k i : Nat} (h : i < xs.length) : (markU xs k i).set i ((k : Int) + (i : Int)) = markU xs k (i + 1) := by
  unfold markU
  rw [← Int.natCast_add, List.set_append, if_neg (by rw [markL_len]; omega), markL_len, Nat.sub_self, markL_snoc, List.append_assoc, List.drop_eq_getElem_cons h]
  rfl

/-- What is made later lies apart. -/
theorem own_apart {E E' : TypeId} {w w' : World} {B B' : Nat} {v v' : Value} {xs ys : List Int} (h : Own E w B v xs) (h' : Own E' w' B' v' ys) (hB : w.heap.size ≤ B') : (v.ownBlock = none ∨ v.ownBlock ≠ v'.ownBlock) ∧ (v'.ownBlock = none ∨ v'.ownBlock ≠ v.ownBlock) := by
  cases e : v.ownBlock with
  | none => exact ⟨.inl rfl, by cases e' : v'.ownBlock <;> simp⟩
  | some g =>
    have h1 := (h.lt g e).2
    cases e' : v'.ownBlock with
    | none => exact ⟨.inr (by simp), .inl rfl⟩
    | some g' =>
      have h2 := (h'.lt g' e').1
      exact ⟨.inr (by simp; omega), .inr (by simp; omega)⟩
theorem Own.at {E : TypeId} {w : World} {B n c : Nat} {a : Option Addr} {xs : List Int} (h : Own E w B (.slice a n c) xs) : IntsAt w a xs := by
  obtain ⟨a', c', e, hi, _⟩ := h.ints
  simp only [Value.slice.injEq] at e
  obtain ⟨rfl, _, _⟩ := e
  exact hi
theorem Own.cap {E : TypeId} {w : World} {B n c : Nat} {a : Option Addr} {xs : List Int} (h : Own E w B (.slice a n c) xs) : xs.length ≤ c := by
  rcases Nat.eq_zero_or_pos xs.length with h0 | h0
  · omega
  · obtain ⟨g, cap, e, _, _, hc, _⟩ := h.row h0
    simp only [Value.slice.injEq] at e
    omega
theorem below_row {a w w' : World} {B B' : Nat} {E : TypeId} {v : Value} {xs : List Int} (h : Below B a w) (hB : B ≤ w.heap.size) (hg : w.grownBy w' v.ownBlock) (ho : Own E w B' v xs) (hB' : B ≤ B') : Below B a w' :=
  h.grown hg hB (fun g e => Nat.le_trans hB' (ho.lt g e).1)
theorem ret_num {a b : Int} (h : a = b) : Value.int .i64 a = .int .i64 b := by rw [h]

theorem laws_markIntS (v : Value) (xs : List Int) (k B : Nat) (w : World) (hlen : xs.length ≤ 1099511627776) (hk : k ≤ 1099511627776) (hown : Own 3 w B v xs) :
    Calls Try.prog 31 #[v, .int .i64 k] w fun e w' => e = .returned (.int .i64 ((k + xs.length : Nat) : Int)) ∧ Own 3 w' B v (markL k xs.length) ∧ w.grownBy w' v.ownBlock := by
  obtain ⟨a, cap, rfl, _, _⟩ := hown.ints
  have Hown := Lib.hid hown; clear hown
  go_enter Try.func31, Try.ntmps31
  go_wp2
  go_loopw [1, 5] (fun vk vi wr => ∃ i : Nat, i ≤ xs.length ∧ vk = .int .i64 ((k + i : Nat) : Int) ∧ vi = .int .i64 i ∧ Own 3 wr B (.slice a xs.length cap) (markU xs k i) ∧ w.grownBy wr (Value.slice a xs.length cap).ownBlock) (fun _ vi _ => xs.length - (intOf vi).toNat)
  case atStart => exact ⟨0, by omega, rfl, rfl, by rw [markU_zero]; exact Hown.out, World.grownBy.refl _ _⟩
  case round =>
    obtain ⟨i, hi, rfl, rfl, how, hgr⟩ := hrel
    have hul := markU_len (k := k) hi
    by_cases hlt : (i : Int) < xs.length
    · obtain ⟨g, cap', hv', hgB, hgs, hcap, hcells, hfz⟩ := how.row (by omega)
      simp only [Value.slice.injEq] at hv'
      obtain ⟨rfl, hl', rfl⟩ := hv'
      have hix : i < xs.length := by omega
      have hold := hcells i (by omega)
      have hfr := hfz i
      have hst := Lib.hid (how.store (by omega) i ((k : Int) + (i : Int)))
      have Hgr := Lib.hid hgr; clear hgr hcells hfz how hl'
      go_wp2
      go_roundw
      case rel =>
        obtain ⟨hs1, hs2⟩ := hst.out
        rw [markU_step hix] at hs1
        exact ⟨i + 1, by omega, ret_num (by omega), ret_num (by omega), hs1, grownBy_trans Hgr.out hs2⟩
      case measure => simp [intOf]; omega
    · have hxi : i = xs.length := by omega
      subst hxi
      have How := Lib.hid how; clear how
      have Hgr := Lib.hid hgr; clear hgr
      go_wp2
      go_ret
      exact ⟨rfl, by rw [← markU_all]; exact How.out, Hgr.out⟩

theorem laws_heldIntS (a : Option Addr) (cap k n : Nat) (w : World) (hlen : n ≤ 1099511627776) (hk : k ≤ 1099511627776) (hc : IntsAt w a (markL k n)) :
    Calls Try.prog 74 #[.slice a n cap, .int .i64 k] w fun e w' => e = .returned (.int .i64 ((k + n : Nat) : Int)) ∧ Drawn w w' := by
  have hl := markL_len k n
  have hg := markL_get k n
  generalize markL k n = xs at hc hl hg
  subst hl
  rcases hc.len with h0 | ⟨b, off, rfl, hb, hc⟩
  all_goals
    go_enter Try.func74, Try.ntmps74
    go_wp2
    go_loopw [1, 5] (fun vk vi wr => ∃ i : Nat, i ≤ xs.length ∧ vk = .int .i64 ((k + i : Nat) : Int) ∧ vi = .int .i64 i ∧ Drawn w wr) (fun _ vi _ => xs.length - (intOf vi).toNat)
    case atStart => exact ⟨0, by omega, rfl, rfl, Drawn.refl _⟩
    case round =>
      obtain ⟨i, hi, rfl, rfl, hwr⟩ := hrel
      by_cases hlt : i < xs.length
      · first
        | (exfalso; omega)
        | (have hcell := (hwr.cell ⟨b, off + i, none⟩).trans (hc i hlt)
           rw [hg i hlt] at hcell
           have Hc := Lib.hid hc; clear hc
           have Hg := Lib.hid hg; clear hg
           have e2 : (((k + i : Nat) : Int) != ((k + i : Nat) : Int)) = false := by rw [bne_eq_false_iff_eq]
           go_wp2
           go_roundw
           case rel => exact ⟨i + 1, by omega, ret_num (by omega), ret_num (by omega), hwr⟩
           case measure => simp [intOf]; omega)
      · go_wp2
        go_ret
        exact ⟨ret_int (by omega), hwr⟩

end Go.Proofs.Yteglefchkecfjaa

/- Arguments that came in, read as data: numbers, truth values, texts, slices of these and of structs of these; general steps, nothing here speaks of the program. -/
namespace Go.Proofs.Yteglefchkecfjaa
open Go.ChangeShapes Go.WideShapes Go.ChangeAt Go.RowKit

section
variable {H : Type} {enc : TypeId × Value → H} {P : Program} {W : World}

/-- A one-cell value of type t that came in reads as a datum with G. -/
def Opens (H : Type) (enc : TypeId × Value → H) (P : Program) (W : World) (t : TypeId) (G : Dt → Prop) : Prop :=
  P.cellsOf t = 1 ∧ ∀ fuel c x, DataW.trod enc P W 0 (fun _ => true) true fuel t [c] = some x → ∃ d fp, Rd W d c fp ∧ G d
def IntG (d : Dt) : Prop := ∃ n, d = .i n ∧ (-9223372036854775808 ≤ n ∧ n ≤ 9223372036854775807)
def BoolG (d : Dt) : Prop := ∃ x, d = .b x
def StrG (d : Dt) : Prop := ∃ s : ByteArray, d = .s s ∧ s.size ≤ maxLen
/-- A list whose elements are rows of these. -/
def RowsG (Gs : List (Dt → Prop)) (d : Dt) : Prop := ∃ es : List (List Dt), d = .l es ∧ es.length ≤ maxLen ∧ ∀ e ∈ es, e.length = Gs.length ∧ ∀ j (h : j < e.length) (h' : j < Gs.length), Gs[j] e[j]
theorem opens_int {t : TypeId} (ht : P.underlying t = some (.int .i64)) (hc : P.cellsOf t = 1) : Opens H enc P W t IntG := ⟨hc, fun fuel c x h => by
  obtain ⟨n, e, _, hw⟩ := DataW.trod_int ht h
  obtain rfl : c = .int .i64 n := by simpa using e
  exact ⟨.i n, [], .i n, n, rfl, wf_i64 hw⟩⟩
theorem opens_bool {t : TypeId} (ht : P.underlying t = some .bool) (hc : P.cellsOf t = 1) : Opens H enc P W t BoolG := ⟨hc, fun fuel c x h => by
  obtain ⟨n, e, _⟩ := DataW.trod_bool ht h
  obtain rfl : c = .bool n := by simpa using e
  exact ⟨.b n, [], .b n, n, rfl⟩⟩
theorem opens_str {t : TypeId} (ht : P.underlying t = some .string) (hc : P.cellsOf t = 1) : Opens H enc P W t StrG := ⟨hc, fun fuel c x h => by
  obtain ⟨n, e, _, hs⟩ := DataW.trod_string ht h
  obtain rfl : c = .string n := by simpa using e
  exact ⟨.s n, [], .s n, n, rfl, hs⟩⟩
theorem mapM_some {α β : Type} {f : α → Option β} : ∀ {l : List α} {r : List β}, l.mapM f = some r → r.length = l.length ∧ ∀ i (h : i < l.length) (h' : i < r.length), f l[i] = some r[i]
  | [], r, h => by
    have : r = [] := by simpa using h.symm
    subst this
    exact ⟨rfl, fun i h => by simp at h⟩
  | x :: l, r, h => by
    rw [List.mapM_cons] at h
    simp only [Option.bind_eq_bind, Option.bind_eq_some_iff, Option.pure_def, Option.some.injEq] at h
    obtain ⟨y, hy, ys, hys, rfl⟩ := h
    obtain ⟨h1, h2⟩ := mapM_some hys
    refine ⟨by simp [h1], fun i hi hi' => ?_⟩
    cases i with
    | zero => simpa using hy
    | succ i => simpa using h2 i (by simpa using hi) (by simpa using hi')
/-- A slice's elements, whatever reads each of them. -/
theorem opens_slice_by {T e : TypeId} {sz : Nat} {Gs : List (Dt → Prop)} (hT : P.underlying T = some (.slice e)) (hc : P.cellsOf T = 1) (hsz : P.cellsOf e = sz) (hpos : 0 < sz) (hg : Gs.length = sz)
    (hE : ∀ fuel cs x, cs.length = sz → DataW.trod enc P W 0 (fun _ => true) true fuel e cs = some x → ∀ j (h : j < cs.length) (h' : j < Gs.length), ∃ d fp, Rd W d cs[j] fp ∧ Gs[j] d) : Opens H enc P W T (RowsG Gs) := by
  refine ⟨hc, fun fuel c x h => ?_⟩
  rcases Go.Deep.open_slice hT h with ⟨e1, _⟩ | ⟨a, len, cap, m, n, D, Pl, e1, _, hlc, hcm, hm, _, hel⟩
  · obtain rfl : c = .slice none 0 0 := by simpa using e1
    exact ⟨.l [], [], .nil _ _ (fun _ => rfl), [], rfl, by simp, by simp⟩
  · obtain rfl : c = .slice (some a) len cap := by simpa using e1
    rw [if_pos rfl] at hm
    have hm' := hm.symm
    subst hm'
    rcases Nat.eq_zero_or_pos len with h0 | h0
    · subst h0; exact ⟨.l [], [], .nil _ _ (fun e => by cases e), [], rfl, by simp, by simp⟩
    · have hrow : ∀ i, i < len → ∃ cs : List Value, cs.length = sz ∧ (∀ j (h : j < cs.length), W.cell? ((a.add (i * sz)).add j) = some cs[j]) ∧ ∀ j (h : j < cs.length) (h' : j < Gs.length), ∃ d fp, Rd W d cs[j] fp ∧ Gs[j] d := by
        intro i hi
        obtain ⟨cs, h1, h2⟩ := hel i (by omega)
        rw [hsz] at h1
        unfold World.cells? at h1
        rw [if_pos (Nat.zero_le _)] at h1
        obtain ⟨hl, hcell⟩ := mapM_some h1
        rw [List.length_range] at hl
        exact ⟨cs, hl, fun j hj => by have := hcell j (by rw [List.length_range]; omega) hj; rwa [List.getElem_range] at this, hE n cs _ hl h2⟩
      obtain ⟨cs0, hl0, hc0, _⟩ := hrow 0 h0
      obtain ⟨b, off, spot⟩ := a
      have hspot : spot = none := by
        have := hc0 0 (by omega)
        simpa [Addr.add] using World.cell?_spot this
      subst hspot
      have hblt : b < W.heap.size := by
        have := hc0 0 (by omega)
        rw [show ((⟨b, off, none⟩ : Addr).add (0 * sz)).add 0 = ⟨b, off, none⟩ by simp [Addr.add]] at this
        exact World.block_lt_of_cell? W _ this
      have hex : ∀ k j, ∃ p : Value × Dt × List Nat, ∀ (_ : k < len) (_ : j < sz), W.cell? ⟨b, off + (k * sz + j), none⟩ = some p.1 ∧ Rd W p.2.1 p.1 p.2.2 ∧ ∀ (h' : j < Gs.length), Gs[j] p.2.1 := by
        intro k j
        by_cases hk : k < len
        · by_cases hj : j < sz
          · obtain ⟨cs, hl, hcc, hr⟩ := hrow k hk
            obtain ⟨d, fp, h1, h2⟩ := hr j (by omega) (by omega)
            refine ⟨(cs[j]'(by omega), d, fp), fun _ _ => ⟨?_, h1, fun _ => h2⟩⟩
            have := hcc j (by omega)
            rwa [addr_add', addr_add', Nat.add_assoc] at this
          · exact ⟨(undef, .i 0, []), fun _ h => absurd h hj⟩
        · exact ⟨(undef, .i 0, []), fun h => absurd h hk⟩
      obtain ⟨F, hF⟩ : ∃ F : Nat → Nat → Value × Dt × List Nat, ∀ k j (_ : k < len) (_ : j < sz), W.cell? ⟨b, off + (k * sz + j), none⟩ = some (F k j).1 ∧ Rd W (F k j).2.1 (F k j).1 (F k j).2.2 ∧ ∀ (h' : j < Gs.length), Gs[j] (F k j).2.1 :=
        ⟨fun k j => Classical.choose (hex k j), fun k j => Classical.choose_spec (hex k j)⟩
      obtain ⟨es, hes⟩ : ∃ es : List (List Dt), es = (List.range len).map fun k => (List.range sz).map fun j => (F k j).2.1 := ⟨_, rfl⟩
      have hel' : es.length = len := by rw [hes]; simp
      have hget : ∀ k j (hk : k < es.length) (hj : j < (es[k]).length), (es[k])[j] = (F k j).2.1 := fun k j hk hj => by subst hes; simp
      have hrl : ∀ e ∈ es, e.length = sz := by intro e he; rw [hes] at he; obtain ⟨k, _, rfl⟩ := List.mem_map.1 he; simp
      have hrd := Rd.l (w := W) sz es b off cap (fun k j => (F k j).1) (fun k j => (F k j).2.2) (by omega) hrl (by omega) hblt (fun k j hk hj => (hF k j (by omega) hj).1)
        (fun k j hk hj => by rw [hget k j hk hj]; exact (hF k j (by omega) (by rw [← hrl _ (List.getElem_mem hk)]; exact hj)).2.1)
      rw [hel'] at hrd
      refine ⟨.l es, _, hrd, es, rfl, by omega, fun e he => ⟨by rw [hrl e he, hg], fun j hj hj' => ?_⟩⟩
      obtain ⟨k, hk, rfl⟩ := List.mem_iff_getElem.1 he
      rw [hget k j hk hj]
      exact (hF k j (by omega) (by omega)).2.2 hj'
/-- A slice of one-cell elements. -/
theorem opens_slice {T e : TypeId} {G : Dt → Prop} (hT : P.underlying T = some (.slice e)) (hc : P.cellsOf T = 1) (hE : Opens H enc P W e G) : Opens H enc P W T (RowsG [G]) :=
  opens_slice_by (sz := 1) hT hc hE.1 (by omega) rfl fun fuel cs x hl h j hj hj' => by
    have : j = 0 := by omega
    subst this
    match cs, hl with
    | [c], _ => exact hE.2 fuel c x h
/-- The fields of a struct, each in one cell. -/
theorem fields_open {t : TypeId} {fs : Array Field} {Gs : List (Dt → Prop)} (ht : P.underlying t = some (.struct fs)) (_hg : Gs.length = fs.size) (hf : ∀ j (h : j < fs.size) (h' : j < Gs.length), (fs[j]).offset = j ∧ Opens H enc P W (fs[j]).type Gs[j])
    (fuel : Nat) (cs : List Value) (x : DataW H × List MemPlace) (hl : cs.length = fs.size) (h : DataW.trod enc P W 0 (fun _ => true) true fuel t cs = some x) : ∀ j (h : j < cs.length) (h' : j < Gs.length), ∃ d fp, Rd W d cs[j] fp ∧ Gs[j] d := by
  obtain ⟨xs, n, _, rfl, hl', hlen, hff⟩ := DataW.trod_struct ht h
  intro j hj hj'
  have hjf : j < fs.size := by omega
  obtain ⟨ho, hO⟩ := hf j hjf hj'
  have := hff j (fs[j]) (by simp [hjf])
  rw [ho, hO.1] at this
  have hd : (cs.drop j).take 1 = [cs[j]] := by
    rw [List.drop_eq_getElem_cons hj]; rfl
  rw [hd, List.getElem?_eq_getElem (show j < xs.length by omega)] at this
  exact hO.2 n _ _ this
/-- A slice of structs. -/
theorem opens_slice_struct {T e : TypeId} {fs : Array Field} {Gs : List (Dt → Prop)} (hT : P.underlying T = some (.slice e)) (hc : P.cellsOf T = 1) (he : P.underlying e = some (.struct fs)) (hsz : P.cellsOf e = fs.size) (hpos : 0 < fs.size) (hg : Gs.length = fs.size)
    (hf : ∀ j (h : j < fs.size) (h' : j < Gs.length), (fs[j]).offset = j ∧ Opens H enc P W (fs[j]).type Gs[j]) : Opens H enc P W T (RowsG Gs) :=
  opens_slice_by hT hc hsz hpos hg fun fuel cs x hl h => fields_open he hg hf fuel cs x hl h
/-- A struct by value. -/
theorem open_struct {t : TypeId} {fs : Array Field} {Gs : List (Dt → Prop)} {base : Nat} {v : Value} {d : DataW H} {p : List MemPlace} (ht : P.underlying t = some (.struct fs)) (hsz : P.cellsOf t = fs.size) (hg : Gs.length = fs.size) (hf : ∀ j (h : j < fs.size) (h' : j < Gs.length), (fs[j]).offset = j ∧ Opens H enc P W (fs[j]).type Gs[j])
    (hv : Value.okWide P W .any base t v) (h : DataW.Trod enc P W 0 (fun _ => true) true t v d p) : ∃ cs : List Value, v = .agg cs.toArray ∧ cs.length = fs.size ∧ ∀ j (h : j < cs.length) (h' : j < Gs.length), ∃ d fp, Rd W d cs[j] fp ∧ Gs[j] d := by
  unfold Value.okWide at hv
  rw [ht] at hv
  obtain ⟨cs, rfl, hs, _⟩ := hv
  obtain ⟨fuel, hf'⟩ := h
  refine ⟨cs.toList, by simp, by rw [Array.length_toList, hs, hsz], ?_⟩
  exact fields_open ht hg hf fuel cs.toList _ (by rw [Array.length_toList, hs, hsz]) hf'
/-- A one-cell value. -/
theorem open_cell {t : TypeId} {G : Dt → Prop} {v : Value} {d : DataW H} {p : List MemPlace} (hO : Opens H enc P W t G) (hna : v.cells = #[v]) (h : DataW.Trod enc P W 0 (fun _ => true) true t v d p) : ∃ d fp, Rd W d v fp ∧ G d := by
  obtain ⟨fuel, hf⟩ := h
  rw [hna] at hf
  exact hO.2 fuel v _ hf
end
/-- A list of numbers. -/
theorem ints_of {d : Dt} (h : RowsG [IntG] d) : ∃ xs, d = intsD xs ∧ xs.length ≤ maxLen ∧ ∀ x ∈ xs, -9223372036854775808 ≤ x ∧ x ≤ 9223372036854775807 := by
  obtain ⟨es, rfl, hl, he⟩ := h
  refine ⟨es.map fun e => match e with | [.i n] => n | _ => 0, ?_, by simpa using hl, ?_⟩
  · unfold intsD
    congr 1
    rw [List.map_map]
    conv => lhs; rw [← List.map_id es]
    refine List.map_congr_left fun e hm => ?_
    obtain ⟨h1, h2⟩ := he e hm
    match e, h1, h2 with
    | [d], _, h2 =>
      obtain ⟨n, hn, _⟩ := h2 0 (by simp) (by simp)
      simp only [List.getElem_cons_zero] at hn
      subst hn; rfl
  · intro x hx
    obtain ⟨e, hm, rfl⟩ := List.mem_map.1 hx
    obtain ⟨h1, h2⟩ := he e hm
    match e, h1, h2 with
    | [d], _, h2 =>
      obtain ⟨n, hn, hr⟩ := h2 0 (by simp) (by simp)
      simp only [List.getElem_cons_zero] at hn
      subst hn; exact hr

end Go.Proofs.Yteglefchkecfjaa

/- Whether a shard belongs to data, as spec reckons it, and the exact laws' copies and sizes of a shard, each by a walk of its text; conditions: a list that is read has fewer than 2^40 elements, the numbers are ints. -/
namespace Go.Proofs.Yteglefchkecfjaa
open Go.RowKit

theorem spec_l3Same (n : Int) (a a' : Option Addr) (c c' : Nat) (xs ys : List Int) (w : World) (hbig : xs.length ≤ 1099511627776) (hbig' : ys.length ≤ 1099511627776) (hc : IntsAt w a xs) (hc' : IntsAt w a' ys) :
    Calls Try.prog 93 #[.agg #[.int .i64 n, .slice a xs.length c], .agg #[.int .i64 n, .slice a' ys.length c']] w fun e w' => e = .returned (.bool (decide (xs = ys))) ∧ Below w.heap.size w w' := by
  have hb0 : Below w.heap.size w ((w.alloc (.cells #[.int .i64 n, .slice a xs.length c] 32)).alloc (.cells #[.int .i64 n, .slice a' ys.length c'] 32)) := ((Below.refl _ w).alloc (Nat.le_refl _) _).alloc (by simp) _
  have s0 := (Str.new w 32 #[.int .i64 n, .slice a xs.length c]).alloc (.cells #[.int .i64 n, .slice a' ys.length c'] 32)
  have s1 := Str.new (w.alloc (.cells #[.int .i64 n, .slice a xs.length c] 32)) 32 #[.int .i64 n, .slice a' ys.length c']
  simp only [World.size_alloc] at s1
  have e00 := s0.cell 0 (v := .int .i64 n) rfl
  have e01 := s0.cell 1 (v := .slice a xs.length c) rfl
  have e10 := s1.cell 0 (v := .int .i64 n) rfl
  have e11 := s1.cell 1 (v := .slice a' ys.length c') rfl
  have hc := hc.below hb0
  have hc' := hc'.below hb0
  clear s0 s1
  by_cases hl : xs.length = ys.length
  · have hql : ((xs.length : Int) != (ys.length : Int)) = false := by rw [hl]; simp
    have Hl := Lib.hid hl; clear hl
    go_enter Try.func93, Try.ntmps93
    go_wp2
    generalize (w.alloc (.cells #[.int .i64 n, .slice a xs.length c] 32)).alloc (.cells #[.int .i64 n, .slice a' ys.length c'] 32) = W1 at *
    go_loopw [5] (fun i wr => ∃ k : Nat, k ≤ xs.length ∧ i = .int .i64 k ∧ EqTo xs ys k ∧ Drawn W1 wr) (fun i _ => xs.length - (intOf i).toNat)
    case atStart => exact ⟨0, by omega, rfl, fun j _ _ h => by omega, Drawn.refl _⟩
    case round =>
      obtain ⟨k, hk, rfl, heq, hdr⟩ := hrel
      have Heq := Lib.hid heq; clear heq
      have d01 := (hdr.cell _).trans e01
      have d11 := (hdr.cell _).trans e11
      by_cases hlt : k < xs.length
      · have hlt' : k < ys.length := by have := Hl.out; omega
        obtain ⟨b, off, rfl, hb, hcs⟩ := hc.cell (by omega)
        obtain ⟨b', off', rfl, hb', hcs'⟩ := hc'.cell (by omega)
        have c1 := (hdr.cell _).trans (hcs k hlt)
        have c2 := (hdr.cell _).trans (hcs' k hlt')
        have Hb0 := Lib.hid hb0
        clear hcs hcs' hc hc' hb0
        by_cases he : xs[k] = ys[k]
        · have Hs := Lib.hid (eqTo_step Heq.out hlt hlt' he)
          rw [← he] at c2
          clear he
          generalize xs[k] = z at *
          go_wp2_with fail
          go_quiet (fail)
          go_wp2
          go_roundw
          case rel => exact ⟨k + 1, by omega, by go_num, Hs.out, hdr.drewN _⟩
          case measure => simp [intOf]; omega
        · have Hf := Lib.hid (show decide (xs = ys) = false from decide_eq_false fun e => he (by subst e; rfl))
          have hq : (xs[k] != ys[k]) = true := by simpa using he
          clear he
          generalize xs[k] = z at *
          generalize ys[k] = y at *
          go_wp2_with fail
          go_quiet (fail)
          go_wp2
          go_ret
          exact ⟨ret_bool Hf.out.symm, Hb0.out.trans ((hdr.drewN _).below _)⟩
      · have Hf := Lib.hid (show decide (xs = ys) = true from decide_eq_true (eqTo_all Heq.out (by omega) Hl.out))
        go_wp2
        go_ret
        exact ⟨ret_bool Hf.out.symm, hb0.trans (hdr.below _)⟩
  · have Hf := Lib.hid (show decide (xs = ys) = false from decide_eq_false fun e => hl (by rw [e]))
    have hq : ((xs.length : Int) != (ys.length : Int)) = true := by simp; omega
    clear hc hc' e00 e01 e10 e11
    go_enter Try.func93, Try.ntmps93
    go_wp2
    go_ret
    exact ⟨ret_bool Hf.out.symm, hb0⟩

theorem laws_szIntS (a : Option Addr) (cap : Nat) (xs : List Int) (left : Nat) (w : World) (hl : left ≤ 1048576) (hbig : xs.length ≤ 9223372036854775807) :
    Calls Try.prog 75 #[.slice a xs.length cap, .int .i64 (left : Int)] w fun e w' => e = .returned (.int .i64 (if xs.length ≤ left then (left : Int) - (xs.length : Int) else -1)) ∧ w = w' := by
  by_cases h : xs.length ≤ left
  · have h' : ¬ ((left : Int) - (xs.length : Int) < 0) := by omega
    rw [if_pos h]
    go_enter Try.func75, Try.ntmps75
    go_wp2
    go_ret
    exact ⟨rfl, rfl⟩
  · have h' : (left : Int) - (xs.length : Int) < 0 := by omega
    rw [if_neg h]
    go_enter Try.func75, Try.ntmps75
    go_wp2
    go_ret
    exact ⟨rfl, rfl⟩

end Go.Proofs.Yteglefchkecfjaa

/- What spec's join of shards is, by a walk of its text; conditions: the lists are short. -/
namespace Go.Proofs.Yteglefchkecfjaa
open Go.RowKit

def eAt (need : Nat) (L : List Sh) (i : Nat) : Int := stAt need (eqs0 need (xsOf L) (vsOf L) need) need (i % need) (8 + i / need)
def allS (need : Nat) (L : List Sh) (c : Nat) : List Int := (List.range (c * need)).map (eAt need L)
theorem allS_len (need : Nat) (L : List Sh) (c : Nat) : (allS need L c).length = c * need := by simp [allS]
theorem eAt_col {need c i : Nat} (L : List Sh) (h : i < need) : eAt need L (c * need + i) = stAt need (eqs0 need (xsOf L) (vsOf L) need) need i (8 + c) := by
  unfold eAt
  rw [Nat.mul_comm c need, Nat.mul_add_mod, Nat.mod_eq_of_lt h, Nat.mul_add_div (by omega), Nat.div_eq_of_lt h, Nat.add_zero]
theorem allS_succ (need : Nat) (L : List Sh) (c : Nat) : allS need L (c + 1) = allS need L c ++ (List.range need).map fun i => stAt need (eqs0 need (xsOf L) (vsOf L) need) need i (8 + c) := by
  unfold allS
  rw [Nat.add_mul, Nat.one_mul, List.range_add, List.map_append, List.map_map]
  congr 1
  refine List.map_congr_left fun i hi => ?_
  exact eAt_col L (List.mem_range.1 hi)
theorem allS_take {need : Nat} {L : List Sh} {c size : Nat} (h : size ≤ c * need) : (allS need L c).take size = dataI size need L := by
  unfold allS dataI
  rw [← List.map_take, List.take_range, Nat.min_eq_left h]; rfl
theorem eAt_bd {need : Nat} {L : List Sh} {cols : Nat} (hok : shsB cols L = true) (hn : need ≤ L.length) (i : Nat) : 0 ≤ eAt need L i ∧ eAt need L i ≤ 250 := by
  refine stAt_bd (eqs0_bd fun k hk => ?_) need need _ _
  have := (shsB_at hok (show k < L.length by omega)).1.2.2
  unfold vsOf; rw [getS (by omega)]; exact this
theorem dataI_ok {size need : Nat} {L : List Sh} {cols : Nat} (hok : shsB cols L = true) (hn : need ≤ L.length) (hs : 1 ≤ size ∧ size ≤ 12) (hn8 : 1 ≤ need ∧ need ≤ 8) : dataB (dataI size need L) need = true := by
  unfold dataB
  simp only [Bool.and_eq_true, decide_eq_true_eq, List.all_eq_true, dataI_len]
  refine ⟨⟨fun y hy => ?_, hs⟩, by omega⟩
  unfold dataI at hy
  obtain ⟨i, _, rfl⟩ := List.mem_map.1 hy
  exact symB_yes (eAt_bd hok hn i)
/-- If the data has all shards, the padding that elimination finds is 0. -/
theorem pad_zero {size need : Nat} {L : List Sh} (h1 : 1 ≤ need) (h8 : need ≤ 8) (hn : need ≤ L.length) (hs : size ≤ 12) (hok : shsB ((size + need - 1) / need) L = true) (hm : L.all (matB (dataI size need L) need) = true) {i : Nat} (hi : size ≤ i) (hi2 : i < (size + need - 1) / need * need) : eAt need L i = 0 := by
  have hcn : colsN (dataI size need L) need = (size + need - 1) / need := by unfold colsN; rw [dataI_len]
  have hc : i / need < colsN (dataI size need L) need := by rw [hcn]; exact Nat.div_lt_of_lt_mul (by rw [Nat.mul_comm]; exact hi2)
  have hc12 := cols_le (d := dataI size need L) h1 (by rw [dataI_len]; exact hs)
  have hv : ∀ j, j < need → vsOf L j = shardV (dataI size need L) need (xsOf L j) := by
    intro j hj
    have := List.all_eq_true.1 hm _ (List.getElem_mem (show j < L.length by omega))
    unfold matB at this
    simp only [Bool.and_eq_true, decide_eq_true_eq, Int.toNat_natCast] at this
    unfold vsOf xsOf; rw [getS (by omega)]; exact this.2.symm
  have hb : ∀ k, k < need → ∀ y ∈ vsOf L k, 0 ≤ y ∧ y ≤ 250 := fun k hk => by
    have := (shsB_at hok (show k < L.length by omega)).1.2.2
    unfold vsOf; rw [getS (by omega)]; exact this
  have := solve_at h8 hb (fun i j hi hj => xs_nz hok i j (by omega) hj) (c := i / need) (by omega) (fun k => (dataI size need L).getD (i / need * need + k) 0) (fun j hj => by
    rw [hv j hj, shard_getD hc]; exact (val_sm _ need (i / need) (xsOf L j) need).symm) (i % need) (Nat.mod_lt _ h1)
  simp only [idx_div] at this
  rw [List.getD_eq_getElem?_getD, List.getElem?_eq_none (by rw [dataI_len]; exact hi)] at this
  exact this.eq (eAt_bd hok hn i) (by simp)

set_option maxRecDepth 8000 in
set_option maxHeartbeats 2000000 in
theorem spec_l3Join (size need : Nat) (L : List Sh) (v : Value) (fp : List Nat) (w : World) (hok : joinOk size need L = true) (hr : Rd w (.l (L.map shardD)) v fp) :
    Calls Try.prog 47 #[.int .i64 (size : Int), .int .i64 (need : Int), v] w fun e w' => ∃ u, e = .returned (.tuple #[u, .bool (joinB size need L)]) ∧ Own 3 w' w.heap.size u (joinD size need L) ∧ Below w.heap.size w w' := by
  obtain ⟨a, cap, rfl⟩ := hr.slice
  rw [List.length_map] at *
  obtain ⟨hS, hN, ⟨hlen, hL8⟩, hsh⟩ := joinOk_iff hok
  simp only [Int.toNat_natCast] at hsh
  have hlen' : need ≤ L.length := by omega
  have hcl : ∀ c, c < (size + need - 1) / need ↔ c * need < size := fun c => by
    have := cols_lt (d := dataI size need L) (need := need) (c := c) (by omega)
    unfold colsN at this; rwa [dataI_len] at this
  have hc12 : (size + need - 1) / need ≤ 12 := by
    have := cols_le (d := dataI size need L) (need := need) (by omega) (by rw [dataI_len]; omega)
    unfold colsN at this; rwa [dataI_len] at this
  have Hpad := Lib.hid (fun (hm : L.all (matB (dataI size need L) need) = true) i hi hi2 => pad_zero (size := size) (i := i) (by omega) (by omega) hlen' (by omega) hsh hm hi hi2)
  have Hdok := Lib.hid (dataI_ok hsh hlen' (size := size) (by omega) (by omega))
  have Hyes := Lib.hid (fun (h : L.all (matB (dataI size need L) (need : Int)) = true) => join_yes (size := (size : Int)) (need := (need : Int)) (L := L) hok (by simpa only [Int.toNat_natCast] using h))
  have Hno := Lib.hid (fun (h : L.all (matB (dataI size need L) (need : Int)) = false) => join_bad (size := (size : Int)) (need := (need : Int)) (L := L) (by simpa only [Int.toNat_natCast] using h))
  have Hr := Lib.hid hr; clear hr hok
  have hcs : size ≤ (size + need - 1) / need * need := by
    rcases Nat.lt_or_ge ((size + need - 1) / need * need) size with h | h
    · exact absurd ((hcl _).2 h) (Nat.lt_irrefl _)
    · exact h
  have hc1 : 1 ≤ (size + need - 1) / need := (hcl 0).2 (by omega)
  generalize (size + need - 1) / need = cols at *
  have Hsh := Lib.hid hsh; clear hsh
  have Hv0 := Lib.hid (show Own 3 (w.alloc (.cells #[] 3)) w.heap.size (.slice (some ⟨w.heap.size, 0, none⟩) 0 0) (allS need L 0) by unfold allS; simp; exact ownE _ w)
  have Hb0 := Lib.hid ((Below.refl w.heap.size w).alloc (Nat.le_refl _) (.cells #[] 3))
  go_enter Try.func47, Try.ntmps47
  go_wp2_with fail
  go_loopw [8, 9] (fun v i wi => ∃ c : Nat, c ≤ cols ∧ i = .int .i64 c ∧ Own 3 wi w.heap.size v (allS need L c) ∧ Below w.heap.size w wi) (fun _ i _ => cols - (intOf i).toNat)
  case atStart => exact ⟨0, by omega, rfl, Hv0.out, Hb0.out⟩
  case round =>
    clear Hv0 Hb0
    obtain ⟨c, hc, rfl, hown, hbel⟩ := hrel
    have hB := hbel.size
    have Hbel := Lib.hid hbel; clear hbel
    have hm96 := Nat.mul_le_mul (show c ≤ 12 by omega) (show need ≤ 8 by omega)
    have hcc := hcl c
    obtain ⟨m, hm⟩ : ∃ m, c * need = m := ⟨_, rfl⟩
    have hcn : (c : Int) * (need : Int) = (m : Int) := by rw [← hm]; exact (Int.natCast_mul _ _).symm
    rw [hm] at hm96 hcc
    by_cases hlt : c < cols
    · have hms : m < size := hcc.1 hlt
      have hal := allS_len need L c
      have Hcall := Lib.hid (spec_l3Solve need cols c L _ fp wr (by omega) (by omega) hlen' (by omega) hlt hc12 Hsh.out (Hr.out.under Hbel.out))
      have Hex := Lib.hid (allS_succ need L c)
      obtain ⟨zs, hzs⟩ : ∃ zs, ((List.range need).map fun i => stAt need (eqs0 need (xsOf L) (vsOf L) need) need i (8 + c)) = zs := ⟨_, rfl⟩
      have hzl : zs.length = need := by rw [← hzs]; simp
      rw [hzs] at Hcall Hex
      clear hzs
      have hal' : (allS need L c).length + zs.length ≤ 1099511627776 := by omega
      clear hal hm
      generalize allS need L c = xs at *
      have Hzl := Lib.hid hzl.symm
      go_wp2_with fail
      refine Hcall.out.mono ?_
      rintro e w2 ⟨u, rfl, hownu, hb2⟩
      obtain ⟨gu, cu, rfl, hgu, hgu', _, hcu, _⟩ := hownu.row (by omega)
      have hown2 := hown.below hb2
      have hz : ∀ j (h : j < zs.length), w2.cell? ((⟨gu, 0, none⟩ : Addr).add j) = some (.int .i64 zs[j]) := fun j h => by rw [addr_add]; exact hcu j h
      have Hz := Lib.hid hz; clear hz hcu
      have hB2 : w.heap.size ≤ w2.heap.size := Nat.le_trans hB hb2.size
      have Hb2 := Lib.hid (below_step Hbel.out hB hb2)
      clear hb2
      go_wp2_with (at_builtin; refine wpList_app TI3 rfl (.tmp 21) (.tmp 25) rfl w.heap.size _ xs zs ⟨gu, 0, none⟩ _ cu Hzl.out rfl hown2 rfl Hz.out hal' hB2 ?_; intro v3 w3 hown3 hg3)
      go_roundw
      case rel => exact ⟨c + 1, by omega, by go_num, by rw [Hex.out]; exact hown3, Hb2.out.grown hg3 hB2 (fun g e => (hown.lt g e).1)⟩
      case measure => simp [intOf]; omega
    · have hce : c = cols := by omega
      subst hce
      have hml : (allS need L c).length = m := by rw [allS_len, hm]
      have hDl := dataI_len size need L
      have htk := allS_take (need := need) (L := L) (c := c) (size := size) (by omega)
      have hgt : ∀ j (h : j < (allS need L c).length), (allS need L c)[j] = eAt need L j := fun j h => by simp [allS]
      obtain ⟨ga, ca, rfl, hga, hga', hmca, hcells, _⟩ := hown.row (by omega)
      rw [hml] at hmca ⊢
      have hcel : ∀ j, j < m → wr.cell? ⟨ga, j, none⟩ = some (.int .i64 (eAt need L j)) := fun j hj => by
        have := hcells j (by omega)
        rwa [hgt] at this
      have hDg : ∀ j (h : j < (dataI size need L).length), (dataI size need L)[j] = eAt need L j := fun j h => by simp only [dataI, eAt, List.getElem_map, List.getElem_range]
      have hz : ∀ j (h : j < (dataI size need L).length), (wr.alloc (.cells #[] 3)).cell? ((⟨ga, 0, none⟩ : Addr).add j) = some (.int .i64 (dataI size need L)[j]) := fun j h => by
        rw [addr_add, hDg]
        exact (World.grownBy_alloc _ _ none).cell (hcel j (by omega)) (by simp)
      have Hpz := Lib.hid (fun (hm' : L.all (matB (dataI size need L) need) = true) i hi hi2 => Hpad.out hm' i hi hi2)
      clear Hpad hcells hgt hDg htk hml hown
      rw [hm] at Hpz
      have Hz := Lib.hid hz; clear hz
      have Hcel := Lib.hid hcel; clear hcel
      generalize hD : dataI size need L = D at *
      have HD := Lib.hid hD; clear hD
      have hg0 := (Hr.out)
      obtain ⟨g, off, rfl, hg, hat⟩ := shards_at Hr.out (by omega)
      have Hat := Lib.hid hat; clear hat hg0
      have hsm : size ≤ m := by omega
      have hsca : size ≤ ca := by omega
      have hown0 := ownE 3 wr
      have HDl := Lib.hid hDl.symm
      have hsl : ([] : List Int).length + D.length ≤ 1099511627776 := by rw [hDl]; simp; omega
      have hbw := (Below.refl wr.heap.size wr).alloc (Nat.le_refl _) (.cells #[] 3)
      have Hbw := Lib.hid hbw; clear hbw
      obtain ⟨W1, hW1⟩ : ∃ W1, W1 = wr := ⟨_, rfl⟩
      subst hW1
      go_wp2_with (at_builtin; refine wpList_app TI3 rfl (.tmp 27) (.tmp 30) rfl W1.heap.size _ [] D ⟨ga, 0, none⟩ _ ca HDl.out rfl hown0 rfl Hz.out hsl (by simp) ?_; intro v3 w3 hown3 hg3; rw [List.nil_append] at hown3)
      obtain ⟨a3, c3, rfl, hi3, _⟩ := hown3.ints
      have Hb3 := Lib.hid (Hbw.out.grown hg3 (by simp) (fun g e => by cases e; exact Nat.le_refl _))
      clear hg3 Hz hown0
      have Hown3 := Lib.hid hown3; clear hown3
      have Hi3w := Lib.hid hi3; clear hi3
      have hg1 : g < W1.heap.size := Nat.lt_of_lt_of_le hg hB
      rw [hDl]
      go_wp2_with fail
      go_loop [11] (fun i => ∃ i' : Nat, size ≤ i' ∧ i' ≤ m ∧ i = .int .i64 i') (fun i => m - (intOf i).toNat)
      case atStart => exact ⟨size, by omega, by omega, rfl⟩
      case round =>
        obtain ⟨i, hi1, hi2, rfl⟩ := hrel
        by_cases him : i < m
        · have d0 := (Hb3.out.cell (p := ⟨ga, i, none⟩) hga').trans (Hcel.out i him)
          by_cases hz : eAt need L i = 0
          · rw [hz] at d0
            go_wp2
            go_round
            case rel => exact ⟨i + 1, by omega, by omega, by go_num⟩
            case measure => simp [intOf]; omega
          · have hall : L.all (matB D need) = false := by
              cases h : L.all (matB D need) with
              | false => rfl
              | true => exact absurd (Hpz.out h i hi1 him) hz
            have Hf := Lib.hid (Hno.out hall)
            have hq : (eAt need L i != 0) = true := by simpa using hz
            clear hall hz
            generalize eAt need L i = z at *
            have hs3 := Hb3.out.size
            go_wp2
            refine bodyPost_ret (v := .tuple #[.slice (some ⟨w3.heap.size, 0, none⟩) 0 0, .bool false]) (by simp [results, Try.f47, go_sem]) rfl ?_
            rw [Hf.out.1, Hf.out.2]
            exact ⟨_, rfl, (ownE 3 w3).mono (by omega), (below_step Hbel.out hB Hb3.out).alloc (by omega) _⟩
        · have hie : decide ((i : Int) < (m : Int)) = false := decide_eq_false (by omega)
          have hie2 : decide (i < m) = false := decide_eq_false him
          have hDok := dataB_iff Hdok.out
          have hsh3 := fun (W : World) (x : Nat) (hx : x ≤ 8) h => spec_l3Shard a3 c3 D need x W hDok.1 (by omega) (by omega) (by omega) hx h
          rw [hDl] at hsh3
          have Hsh3 := Lib.hid hsh3; clear hsh3 hDok
          go_wp2_with fail
          go_loopw [12] (fun i wr => ∃ k : Nat, k ≤ L.length ∧ i = .int .i64 k ∧ Upto (matAt D need L) k ∧ Below w3.heap.size w3 wr) (fun i _ => L.length - (intOf i).toNat)
          case atStart => exact ⟨0, by omega, rfl, upto_zero _, Below.refl _ _⟩
          case round =>
            obtain ⟨k, hk, rfl, hup, hbi⟩ := hrel
            have Hbi := Lib.hid hbi; clear hbi
            have Hup := Lib.hid hup; clear hup
            have hB3 := Hbi.out.size
            have hs3 := Hb3.out.size
            by_cases hlt : k < L.length
            · obtain ⟨av, cv, C0, C1, I1⟩ := Hat.out k hlt
              obtain ⟨⟨hx1, hx8⟩, hvl, _⟩ := (shsB_at Hsh.out hlt).1
              have Hvl := Lib.hid hvl; clear hvl
              have hw3 : ∀ j, w3.cell? ⟨g, j, none⟩ = w.cell? ⟨g, j, none⟩ := fun j => (Hb3.out.cell (p := ⟨g, j, none⟩) hg1).trans (Hbel.out.cell (p := ⟨g, j, none⟩) hg)
              have hg3 : g < w3.heap.size := by omega
              have d0 := (Hbi.out.cell (p := ⟨g, off + k * 2, none⟩) hg3).trans ((hw3 _).trans C0)
              have d1 := (Hbi.out.cell (p := ⟨g, off + k * 2 + 1, none⟩) hg3).trans ((hw3 _).trans C1)
              have Hiv := Lib.hid (((I1.below Hbel.out).below Hb3.out).below Hbi.out)
              have Hi3 := Lib.hid (Hi3w.out.below Hbi.out)
              have Hmat := Lib.hid (show matAt D need L k = decide (shardV D need L[k].1 = L[k].2) by unfold matAt; rw [getS hlt]; exact matB_yes Hdok.out ⟨hx1, hx8⟩)
              have Hno2 := Lib.hid (fun h => mat_no (d := D) (need := need) hlt h)
              have Hst := Lib.hid (show matB D need L[k] = matAt D need L k by unfold matAt; rw [getS hlt])
              clear C0 C1 I1 hw3
              obtain ⟨x, hx⟩ : ∃ x : Nat, L[k].1 = (x : Int) := ⟨L[k].1.toNat, by omega⟩
              rw [Hst.out] at Hno2
              rw [hx] at d0 Hmat hx8
              clear hx hx1 Hst
              have hx8' : x ≤ 8 := by omega
              generalize L[k].2 = vs at *
              have Hsh4 := Lib.hid (fun W h => Hsh3.out W x hx8' h)
              have Hsvl := Lib.hid (show (shardV D need (x : Int)).length ≤ 1099511627776 by rw [shardV_len]; exact Nat.le_trans (cols_le (d := D) (need := need) (by omega) (by omega)) (by omega))
              cases hdec : decide (shardV D need (x : Int) = vs) with
              | true =>
                have Hs := Lib.hid (upto_step Hup.out (Hmat.out.trans hdec))
                go_wp2_with fail
                refine wp_region_held_drew (S := fun w' => w'.cell? ⟨g, off + k * 2, none⟩ = some (.int .i64 (x : Int)) ∧ w'.cell? ⟨g, off + k * 2 + 1, none⟩ = some (.slice av vs.length cv)) (by kernel_rfl) ⟨d0, d1⟩ (fun hH => ?_)
                refine takeH 0 (v := ?vz0) rfl (by kernel_rfl) (by kernel_rfl) (by kernel_rfl) (fun _ _ _ h => h) hH rfl ?yz0 ?rz0
                case yz0 => intro W hSw; obtain ⟨h1, h2⟩ := hSw; go_simp; try with_reducible rfl
                try simp only [Act.put, List.setIfInBounds_toArray, List.set_cons_zero, List.set_cons_succ]
                refine takeH 1 (v := ?vz1) rfl (by kernel_rfl) (by kernel_rfl) (by kernel_rfl) (fun _ _ _ h => h) hH rfl ?yz1 ?rz1
                case yz1 => intro W hSw; obtain ⟨h1, h2⟩ := hSw; go_simp; try with_reducible rfl
                try simp only [Act.put, List.setIfInBounds_toArray, List.set_cons_zero, List.set_cons_succ]
                refine takeH 2 (v := ?vz2) rfl (by kernel_rfl) (by kernel_rfl) (by kernel_rfl) (fun _ _ _ h => h) hH rfl ?yz2 ?rz2
                case yz2 => intro W hSw; obtain ⟨h1, h2⟩ := hSw; go_simp; try with_reducible rfl
                try simp only [Act.put, List.setIfInBounds_toArray, List.set_cons_zero, List.set_cons_succ]
                refine takeH 3 (v := ?vz3) rfl (by kernel_rfl) (by kernel_rfl) (by kernel_rfl) (fun _ _ _ h => h) hH rfl ?yz3 ?rz3
                case yz3 => intro W hSw; obtain ⟨h1, h2⟩ := hSw; go_simp; try with_reducible rfl
                try simp only [Act.put, List.setIfInBounds_toArray, List.set_cons_zero, List.set_cons_succ]
                refine takeH 4 (v := ?vz4) rfl (by kernel_rfl) (by kernel_rfl) (by kernel_rfl) (fun _ _ _ h => h) hH rfl ?yz4 ?rz4
                case yz4 => intro W hSw; obtain ⟨h1, h2⟩ := hSw; go_simp; try with_reducible rfl
                try simp only [Act.put, List.setIfInBounds_toArray, List.set_cons_zero, List.set_cons_succ]
                refine takeH 5 (v := ?vz5) rfl (by kernel_rfl) (by kernel_rfl) (by kernel_rfl) (fun _ _ _ h => h) hH rfl ?yz5 ?rz5
                case yz5 => intro W hSw; obtain ⟨h1, h2⟩ := hSw; go_simp; try with_reducible rfl
                try simp only [Act.put, List.setIfInBounds_toArray, List.set_cons_zero, List.set_cons_succ]
                refine takeH 6 (v := ?vz6) rfl (by kernel_rfl) (by kernel_rfl) (by kernel_rfl) (fun _ _ _ h => h) hH rfl ?yz6 ?rz6
                case yz6 => intro W hSw; obtain ⟨h1, h2⟩ := hSw; go_simp; try with_reducible rfl
                try simp only [Act.put, List.setIfInBounds_toArray, List.set_cons_zero, List.set_cons_succ]
                refine takeH 8 (v := ?vz8) rfl (by kernel_rfl) (by kernel_rfl) (by kernel_rfl) (fun _ _ _ h => h) hH rfl ?yz8 ?rz8
                case yz8 => intro W hSw; obtain ⟨h1, h2⟩ := hSw; go_simp; try with_reducible rfl
                try simp only [Act.put, List.setIfInBounds_toArray, List.set_cons_zero, List.set_cons_succ]
                refine takeH 9 (v := ?vz9) rfl (by kernel_rfl) (by kernel_rfl) (by kernel_rfl) (fun _ _ _ h => h) hH rfl ?yz9 ?rz9
                case yz9 => intro W hSw; obtain ⟨h1, h2⟩ := hSw; go_simp; try with_reducible rfl
                try simp only [Act.put, List.setIfInBounds_toArray, List.set_cons_zero, List.set_cons_succ]
                refine takeH 10 (v := ?vz10) rfl (by kernel_rfl) (by kernel_rfl) (by kernel_rfl) (fun _ _ _ h => h) hH rfl ?yz10 ?rz10
                case yz10 => intro W hSw; obtain ⟨h1, h2⟩ := hSw; go_simp; try with_reducible rfl
                try simp only [Act.put, List.setIfInBounds_toArray, List.set_cons_zero, List.set_cons_succ]
                refine takeH 11 (v := ?vz11) rfl (by kernel_rfl) (by kernel_rfl) (by kernel_rfl) (fun _ _ _ h => h) hH rfl ?yz11 ?rz11
                case yz11 => intro W hSw; obtain ⟨h1, h2⟩ := hSw; go_simp; try with_reducible rfl
                try simp only [Act.put, List.setIfInBounds_toArray, List.set_cons_zero, List.set_cons_succ]
                refine callH 7 rfl (by kernel_rfl) rfl (fun K hK => ?_)
                go_simp
                refine (Hsh4.out wr.drew Hi3.out).mono ?_
                rintro e w6 ⟨v6, rfl, hown6, hb6⟩
                obtain ⟨a6, c6, rfl, hi6, _⟩ := hown6.ints
                dsimp only
                have hwd : wr.drew.heap.size = wr.heap.size := rfl
                refine hK.out _ _ ⟨(hb6.cell (p := ⟨g, off + k * 2, none⟩) (by simp only; omega)).trans hH.1, (hb6.cell (p := ⟨g, off + k * 2 + 1, none⟩) (by simp only; omega)).trans hH.2⟩ (fun hH => ?_)
                clear hK K
                try simp only [Act.put, List.setIfInBounds_toArray, List.set_cons_zero, List.set_cons_succ]
                have Hb6 := Lib.hid (below_step Hbi.out.drew hB3 hb6)
                have hs6 := hb6.size
                have Hv6 := Lib.hid (IntsAt.below (w := wr.drew) Hiv.out hb6)
                have Hi6 := Lib.hid hi6; clear hi6 hb6 hown6
                have hsame := spec_l3Same (x : Int) a6 av c6 cv (shardV D need x) vs w6 Hsvl.out (by have := Hvl.out; omega) Hi6.out Hv6.out
                rw [hdec] at hsame
                refine callH 12 rfl (by kernel_rfl) rfl (fun K hK => ?_)
                go_simp
                refine hsame.mono ?_
                rintro e w7 ⟨rfl, hb7⟩
                dsimp only
                refine hK.out _ _ ⟨(hb7.cell (p := ⟨g, off + k * 2, none⟩) (by simp only; omega)).trans hH.1, (hb7.cell (p := ⟨g, off + k * 2 + 1, none⟩) (by simp only; omega)).trans hH.2⟩ (fun hH => ?_)
                clear hK K
                try simp only [Act.put, List.setIfInBounds_toArray, List.set_cons_zero, List.set_cons_succ]
                refine takeH 13 (v := ?vz13) rfl (by kernel_rfl) (by kernel_rfl) (by kernel_rfl) (fun _ _ _ h => h) hH rfl ?yz13 ?rz13
                case yz13 => intro W hSw; obtain ⟨h1, h2⟩ := hSw; go_simp; try with_reducible rfl
                try simp only [Act.put, List.setIfInBounds_toArray, List.set_cons_zero, List.set_cons_succ]
                refine wpAnyH_done (by kernel_rfl) ?_ _
                try simp only [Act.put]
                have Hb7 := Lib.hid (below_step Hb6.out Hb6.out.size hb7)
                clear hH hb7 d0 d1 hsame hdec
                go_wp2
                go_roundw
                case rel => exact ⟨k + 1, by omega, by go_num, Hs.out, Hb7.out⟩
                case measure => simp [intOf]; omega
              | false =>
                have Hf := Lib.hid (Hno.out (Hno2.out (Hmat.out.trans hdec)))
                go_wp2_with fail
                refine wp_region_held_drew (S := fun w' => w'.cell? ⟨g, off + k * 2, none⟩ = some (.int .i64 (x : Int)) ∧ w'.cell? ⟨g, off + k * 2 + 1, none⟩ = some (.slice av vs.length cv)) (by kernel_rfl) ⟨d0, d1⟩ (fun hH => ?_)
                refine takeH 0 (v := ?vq0) rfl (by kernel_rfl) (by kernel_rfl) (by kernel_rfl) (fun _ _ _ h => h) hH rfl ?yq0 ?rq0
                case yq0 => intro W hSw; obtain ⟨h1, h2⟩ := hSw; go_simp; try with_reducible rfl
                try simp only [Act.put, List.setIfInBounds_toArray, List.set_cons_zero, List.set_cons_succ]
                refine takeH 1 (v := ?vq1) rfl (by kernel_rfl) (by kernel_rfl) (by kernel_rfl) (fun _ _ _ h => h) hH rfl ?yq1 ?rq1
                case yq1 => intro W hSw; obtain ⟨h1, h2⟩ := hSw; go_simp; try with_reducible rfl
                try simp only [Act.put, List.setIfInBounds_toArray, List.set_cons_zero, List.set_cons_succ]
                refine takeH 2 (v := ?vq2) rfl (by kernel_rfl) (by kernel_rfl) (by kernel_rfl) (fun _ _ _ h => h) hH rfl ?yq2 ?rq2
                case yq2 => intro W hSw; obtain ⟨h1, h2⟩ := hSw; go_simp; try with_reducible rfl
                try simp only [Act.put, List.setIfInBounds_toArray, List.set_cons_zero, List.set_cons_succ]
                refine takeH 3 (v := ?vq3) rfl (by kernel_rfl) (by kernel_rfl) (by kernel_rfl) (fun _ _ _ h => h) hH rfl ?yq3 ?rq3
                case yq3 => intro W hSw; obtain ⟨h1, h2⟩ := hSw; go_simp; try with_reducible rfl
                try simp only [Act.put, List.setIfInBounds_toArray, List.set_cons_zero, List.set_cons_succ]
                refine takeH 4 (v := ?vq4) rfl (by kernel_rfl) (by kernel_rfl) (by kernel_rfl) (fun _ _ _ h => h) hH rfl ?yq4 ?rq4
                case yq4 => intro W hSw; obtain ⟨h1, h2⟩ := hSw; go_simp; try with_reducible rfl
                try simp only [Act.put, List.setIfInBounds_toArray, List.set_cons_zero, List.set_cons_succ]
                refine takeH 5 (v := ?vq5) rfl (by kernel_rfl) (by kernel_rfl) (by kernel_rfl) (fun _ _ _ h => h) hH rfl ?yq5 ?rq5
                case yq5 => intro W hSw; obtain ⟨h1, h2⟩ := hSw; go_simp; try with_reducible rfl
                try simp only [Act.put, List.setIfInBounds_toArray, List.set_cons_zero, List.set_cons_succ]
                refine takeH 6 (v := ?vq6) rfl (by kernel_rfl) (by kernel_rfl) (by kernel_rfl) (fun _ _ _ h => h) hH rfl ?yq6 ?rq6
                case yq6 => intro W hSw; obtain ⟨h1, h2⟩ := hSw; go_simp; try with_reducible rfl
                try simp only [Act.put, List.setIfInBounds_toArray, List.set_cons_zero, List.set_cons_succ]
                refine takeH 8 (v := ?vq8) rfl (by kernel_rfl) (by kernel_rfl) (by kernel_rfl) (fun _ _ _ h => h) hH rfl ?yq8 ?rq8
                case yq8 => intro W hSw; obtain ⟨h1, h2⟩ := hSw; go_simp; try with_reducible rfl
                try simp only [Act.put, List.setIfInBounds_toArray, List.set_cons_zero, List.set_cons_succ]
                refine takeH 9 (v := ?vq9) rfl (by kernel_rfl) (by kernel_rfl) (by kernel_rfl) (fun _ _ _ h => h) hH rfl ?yq9 ?rq9
                case yq9 => intro W hSw; obtain ⟨h1, h2⟩ := hSw; go_simp; try with_reducible rfl
                try simp only [Act.put, List.setIfInBounds_toArray, List.set_cons_zero, List.set_cons_succ]
                refine takeH 10 (v := ?vq10) rfl (by kernel_rfl) (by kernel_rfl) (by kernel_rfl) (fun _ _ _ h => h) hH rfl ?yq10 ?rq10
                case yq10 => intro W hSw; obtain ⟨h1, h2⟩ := hSw; go_simp; try with_reducible rfl
                try simp only [Act.put, List.setIfInBounds_toArray, List.set_cons_zero, List.set_cons_succ]
                refine takeH 11 (v := ?vq11) rfl (by kernel_rfl) (by kernel_rfl) (by kernel_rfl) (fun _ _ _ h => h) hH rfl ?yq11 ?rq11
                case yq11 => intro W hSw; obtain ⟨h1, h2⟩ := hSw; go_simp; try with_reducible rfl
                try simp only [Act.put, List.setIfInBounds_toArray, List.set_cons_zero, List.set_cons_succ]
                refine callH 7 rfl (by kernel_rfl) rfl (fun K hK => ?_)
                go_simp
                refine (Hsh4.out wr.drew Hi3.out).mono ?_
                rintro e w6 ⟨v6, rfl, hown6, hb6⟩
                obtain ⟨a6, c6, rfl, hi6, _⟩ := hown6.ints
                dsimp only
                have hwd : wr.drew.heap.size = wr.heap.size := rfl
                refine hK.out _ _ ⟨(hb6.cell (p := ⟨g, off + k * 2, none⟩) (by simp only; omega)).trans hH.1, (hb6.cell (p := ⟨g, off + k * 2 + 1, none⟩) (by simp only; omega)).trans hH.2⟩ (fun hH => ?_)
                clear hK K
                try simp only [Act.put, List.setIfInBounds_toArray, List.set_cons_zero, List.set_cons_succ]
                have Hb6 := Lib.hid (below_step Hbi.out.drew hB3 hb6)
                have hs6 := hb6.size
                have Hv6 := Lib.hid (IntsAt.below (w := wr.drew) Hiv.out hb6)
                have Hi6 := Lib.hid hi6; clear hi6 hb6 hown6
                have hsame := spec_l3Same (x : Int) a6 av c6 cv (shardV D need x) vs w6 Hsvl.out (by have := Hvl.out; omega) Hi6.out Hv6.out
                rw [hdec] at hsame
                refine callH 12 rfl (by kernel_rfl) rfl (fun K hK => ?_)
                go_simp
                refine hsame.mono ?_
                rintro e w7 ⟨rfl, hb7⟩
                dsimp only
                refine hK.out _ _ ⟨(hb7.cell (p := ⟨g, off + k * 2, none⟩) (by simp only; omega)).trans hH.1, (hb7.cell (p := ⟨g, off + k * 2 + 1, none⟩) (by simp only; omega)).trans hH.2⟩ (fun hH => ?_)
                clear hK K
                try simp only [Act.put, List.setIfInBounds_toArray, List.set_cons_zero, List.set_cons_succ]
                refine takeH 13 (v := ?vq13) rfl (by kernel_rfl) (by kernel_rfl) (by kernel_rfl) (fun _ _ _ h => h) hH rfl ?yq13 ?rq13
                case yq13 => intro W hSw; obtain ⟨h1, h2⟩ := hSw; go_simp; try with_reducible rfl
                try simp only [Act.put, List.setIfInBounds_toArray, List.set_cons_zero, List.set_cons_succ]
                refine wpAnyH_done (by kernel_rfl) ?_ _
                try simp only [Act.put]
                have Hb7 := Lib.hid (below_step Hb6.out Hb6.out.size hb7)
                clear hH hb7 d0 d1 hsame hdec
                have hs7 := Hb7.out.size
                go_wp2
                refine bodyPost_ret (v := .tuple #[.slice (some ⟨w7.heap.size, 0, none⟩) 0 0, .bool false]) (by simp [results, Try.f47, go_sem]) rfl ?_
                rw [Hf.out.1, Hf.out.2]
                exact ⟨_, rfl, (ownE 3 w7).mono (by omega), (below_step (below_step Hbel.out hB Hb3.out) (by omega) Hb7.out).alloc (by omega) _⟩
            · have Hf := Lib.hid (Hyes.out (mat_all Hup.out (by omega)))
              have Hown2 := Lib.hid (Hown3.out.below Hbi.out)
              go_wp2
              refine bodyPost_ret (v := .tuple #[.slice a3 size c3, .bool true]) (by simp [results, Try.f47, go_sem]) rfl ?_
              rw [Hf.out.1, Hf.out.2]
              exact ⟨_, rfl, by have := Hown2.out.mono (show w.heap.size ≤ W1.heap.size by omega); rw [hDl] at this; simp only [Int.toNat_natCast]; rw [HD.out]; exact this, below_step (below_step Hbel.out hB Hb3.out) (by omega) Hbi.out⟩

set_option maxHeartbeats 1000000 in
theorem spec_ShardJoin (size need : Int) (L : List Sh) (v : Value) (fp : List Nat) (w : World) (hbig : L.length ≤ 1048576) (hin : ∀ s ∈ L, s.2.length ≤ 1048576) (hr : Rd w (.l (L.map shardD)) v fp) :
    Calls Try.prog 14 #[.int .i64 size, .int .i64 need, v] w fun e w' => ∃ u, e = .returned (.tuple #[u, .bool (joinB size need L)]) ∧ Own 3 w' w.heap.size u (joinD size need L) ∧ Below w.heap.size w w' := by
  have hl := spec_l3List size need L v fp w hbig hin hr
  cases hok : joinOk size need L with
  | false =>
    rw [hok] at hl
    have Hl := Lib.hid hl; clear hl
    have Hf := Lib.hid (join_no hok)
    clear hok
    go_enter Try.func14, Try.ntmps14
    go_wp2_with fail
    refine Hl.out.mono ?_
    rintro e w2 ⟨rfl, hd⟩
    have Hb := Lib.hid (hd.below w.heap.size)
    have hs := Hb.out.size
    clear hd
    go_wp2
    refine bodyPost_ret (v := .tuple #[.slice (some ⟨w2.heap.size, 0, none⟩) 0 0, .bool false]) (by simp [results, Try.f14, go_sem]) rfl ?_
    rw [Hf.out.1, Hf.out.2]
    exact ⟨_, rfl, (ownE 3 w2).mono hs, Hb.out.alloc hs _⟩
  | true =>
    rw [hok] at hl
    have Hl := Lib.hid hl; clear hl
    obtain ⟨hS, hN, _, _⟩ := joinOk_iff hok
    obtain ⟨size, rfl⟩ := Int.eq_ofNat_of_zero_le (show 0 ≤ size by omega)
    obtain ⟨need, rfl⟩ := Int.eq_ofNat_of_zero_le (show 0 ≤ need by omega)
    have Hj := Lib.hid (fun (w2 : World) (h : Drawn w w2) => spec_l3Join size need L v fp w2 hok (hr.under (h.below w.heap.size)))
    clear hr hok
    generalize joinB (size : Int) (need : Int) L = jb at *
    generalize joinD (size : Int) (need : Int) L = jd at *
    go_enter Try.func14, Try.ntmps14
    go_wp2_with fail
    refine Hl.out.mono ?_
    rintro e w2 ⟨rfl, hd⟩
    go_wp2_with fail
    refine (Hj.out w2 hd).mono ?_
    rintro e w3 ⟨u, rfl, hown, hb3⟩
    have Hb := Lib.hid (below_step (hd.below w.heap.size) (hd.below w.heap.size).size hb3)
    have Hown := Lib.hid (hown.mono (hd.below w.heap.size).size)
    clear hown hb3 hd
    go_wp2
    refine bodyPost_ret (v := .tuple #[u, .bool jb]) (by simp [results, Try.f14, go_sem]) rfl ?_
    exact ⟨_, rfl, Hown.out, Hb.out⟩

end Go.Proofs.Yteglefchkecfjaa

/- Lists of shards in memory that are written over: a number in place of a number, a list in place of a list, and a head of the list; general steps, nothing here speaks of the program. -/
namespace Go.Proofs.Yteglefchkecfjaa
open Go.RowKit

/-- Data of one shape. -/
inductive Same : Dt → Dt → Prop
  | i (n m : Int) : Same (.i n) (.i m)
  | b (x y : Bool) : Same (.b x) (.b y)
  | s (t : ByteArray) : Same (.s t) (.s t)
  | l (es es' : List (List Dt)) (hl : es.length = es'.length) (he : ∀ k (h : k < es.length) (h' : k < es'.length), es[k].length = es'[k].length)
      (hs : ∀ k (h : k < es.length) (h' : k < es'.length) j (hj : j < es[k].length) (hj' : j < es'[k].length), Same es[k][j] es'[k][j]) : Same (.l es) (.l es')
theorem Same.refl (d : Dt) {w : World} {v : Value} {fp : List Nat} (h : Rd w d v fp) : Same d d := by
  induction h with
  | i n => exact .i n n
  | b x => exact .b x x
  | s t => exact .s t
  | nil a cap hn => exact .l [] [] rfl (fun k h => by simp at h) (fun k h => by simp at h)
  | l sz es g off cap V F hne hsz hcap hgl hc hrd ih => exact .l es es rfl (fun _ _ _ => rfl) (fun k hk _ j hj _ => ih k j hk hj)
/-- A number is stored where a number was: what read as data reads as data of the same shape. -/
theorem Rd.poke {w : World} {p : Addr} {x0 y : Int} (hp : w.cell? p = some (.int .i64 x0)) {d : Dt} {v : Value} {fp : List Nat} (h : Rd w d v fp) : ∃ d', Same d d' ∧ Rd (w.setCell p (.int .i64 y)) d' v fp := by
  induction h with
  | i n => exact ⟨_, .i n n, .i n⟩
  | b x => exact ⟨_, .b x x, .b x⟩
  | s t => exact ⟨_, .s t, .s t⟩
  | nil a cap hn => exact ⟨.l [], .l [] [] rfl (fun k h => by simp at h) (fun k h => by simp at h), .nil a cap hn⟩
  | l sz es g off cap V F hne hsz hcap hgl hc hrd ih =>
    have hex : ∀ k j, ∃ (q : Dt × Value), ∀ (hk : k < es.length) (hj : j < (es[k]).length), Same (es[k][j]) q.1 ∧ Rd (w.setCell p (.int .i64 y)) q.1 q.2 (F k j) ∧ (w.setCell p (.int .i64 y)).cell? ⟨g, off + (k * sz + j), none⟩ = some q.2 := by
      intro k j
      by_cases hk : k < es.length
      · by_cases hj : j < (es[k]).length
        · have hcj := hc k j hk (by rw [← hsz _ (List.getElem_mem hk)]; exact hj)
          by_cases e : p = ⟨g, off + (k * sz + j), none⟩
          · have hv : V k j = .int .i64 x0 := by rw [e, hcj] at hp; exact Option.some.inj hp
            have hr := hrd k j hk hj
            rw [hv] at hr
            have hd : ∃ n, es[k][j] = .i n ∧ F k j = [] := by
              generalize es[k][j] = dd at hr
              generalize F k j = ff at hr
              cases hr with
              | i n => exact ⟨_, rfl, rfl⟩
            obtain ⟨n, hn, hf⟩ := hd
            refine ⟨(.i y, .int .i64 y), fun _ _ => ⟨by rw [hn]; exact .i _ _, by rw [hf]; exact .i y, ?_⟩⟩
            rw [← e]
            exact World.cell?_setCell_same' _ _ _ (by rw [hp]; rfl)
          · obtain ⟨d', hs, hr'⟩ := ih k j hk hj
            exact ⟨(d', V k j), fun _ _ => ⟨hs, hr', (World.cell?_setCell_other _ _ _ _ e).trans hcj⟩⟩
        · exact ⟨(.i 0, undef), fun _ h => absurd h hj⟩
      · exact ⟨(.i 0, undef), fun h => absurd h hk⟩
    let D : Nat → Nat → Dt × Value := fun k j => (hex k j).choose
    have hD : ∀ k j (hk : k < es.length) (hj : j < (es[k]).length), Same (es[k][j]) (D k j).1 ∧ Rd (w.setCell p (.int .i64 y)) (D k j).1 (D k j).2 (F k j) ∧ (w.setCell p (.int .i64 y)).cell? ⟨g, off + (k * sz + j), none⟩ = some (D k j).2 := fun k j => (hex k j).choose_spec
    have hes : ∀ (es2 : List (List Dt)), es2 = (List.range es.length).map (fun k => (List.range sz).map fun j => (D k j).1) → Rd (w.setCell p (.int .i64 y)) (.l es2) (.slice (some ⟨g, off, none⟩) es2.length cap) (g :: (List.range es2.length).flatMap fun k => (List.range sz).flatMap (F k)) := by
      intro es2 h2
      have hl2 : es2.length = es.length := by rw [h2]; simp
      refine .l sz es2 g off cap (fun k j => (D k j).2) F (by omega) (fun e he => ?_) (by omega) (by rw [World.size_setCell]; exact hgl) (fun k j hk hj => ?_) (fun k j hk hj => ?_)
      · rw [h2] at he
        obtain ⟨k, _, rfl⟩ := List.mem_map.1 he
        simp
      · have hk' : k < es.length := by omega
        exact (hD k j hk' (by rw [hsz _ (List.getElem_mem hk')]; exact hj)).2.2
      · have hk' : k < es.length := by omega
        subst h2
        have hj' : j < sz := by simpa using hj
        have := (hD k j hk' (by rw [hsz _ (List.getElem_mem hk')]; exact hj')).2.1
        simpa using this
    have hfin := hes _ rfl
    simp only [List.length_map, List.length_range] at hfin
    refine ⟨_, .l es _ (by simp) (fun k h h' => by simp [hsz _ (List.getElem_mem h)]) (fun k h h' j hj hj' => ?_), hfin⟩
    have := (hD k j h hj).1
    simpa using this
theorem same_i {n : Int} {d : Dt} (h : Same (.i n) d) : ∃ m, d = .i m := by cases h; exact ⟨_, rfl⟩
theorem same_ints {xs : List Int} {d : Dt} (h : Same (intsD xs) d) : ∃ ys : List Int, d = intsD ys ∧ ys.length = xs.length := by
  unfold intsD at h
  cases h with
  | l _ es' hl he hs =>
    rw [List.length_map] at hl
    have hall : ∀ k (hk : k < es'.length), ∃ m, es'[k] = [.i m] := fun k hk => by
      have hk' : k < (xs.map fun x => [Dt.i x]).length := by simp; omega
      have h1 := he k hk' hk
      rw [List.getElem_map] at h1
      simp at h1
      have h2 := hs k hk' hk 0 (by simp) (by omega)
      simp only [List.getElem_map, List.getElem_cons_zero] at h2
      obtain ⟨m, hm⟩ := same_i h2
      match he' : es'[k], h1 with
      | [e0], _ => simp only [he', List.getElem_cons_zero] at hm; exact ⟨m, by rw [hm]⟩
    have hex : ∀ l : List (List Dt), (∀ k (hk : k < l.length), ∃ m, l[k] = [.i m]) → ∃ ys : List Int, l = ys.map fun x => [.i x] := by
      intro l
      induction l with
      | nil => intro _; exact ⟨[], rfl⟩
      | cons e l ih =>
        intro h
        obtain ⟨m, hm⟩ := h 0 (by simp)
        obtain ⟨ys, rfl⟩ := ih fun k hk => by have := h (k + 1) (by simp; omega); simpa using this
        simp at hm
        subst hm
        exact ⟨m :: ys, rfl⟩
    obtain ⟨ys, rfl⟩ := hex es' hall
    refine ⟨ys, rfl, ?_⟩
    rw [List.length_map] at hl
    omega
theorem same_shards {m : Nat} : ∀ {L : List (Int × List Int)} {es : List (List Dt)}, Same (.l (L.map shardD)) (.l es) → (∀ s ∈ L, s.2.length ≤ m) → ∃ L' : List (Int × List Int), es = L'.map shardD ∧ L'.length = L.length ∧ ∀ s ∈ L', s.2.length ≤ m := by
  intro L es h hm
  cases h with
  | l _ _ hl he hs =>
    rw [List.length_map] at hl
    have hall : ∀ k (hk : k < es.length), ∃ s : Int × List Int, es[k] = shardD s ∧ s.2.length ≤ m := fun k hk => by
      have hkL : k < L.length := by omega
      have hk' : k < (L.map shardD).length := by simp; omega
      have h1 := he k hk' hk
      rw [List.getElem_map] at h1
      have h0 := hs k hk' hk 0 (by simp [shardD]) (by rw [← h1]; simp [shardD])
      have h2 := hs k hk' hk 1 (by simp [shardD]) (by rw [← h1]; simp [shardD])
      simp only [List.getElem_map, shardD, List.getElem_cons_zero, List.getElem_cons_succ] at h0 h2
      obtain ⟨n, hn⟩ := same_i h0
      obtain ⟨ys, hy, hyl⟩ := same_ints h2
      refine ⟨(n, ys), ?_, by have := hm _ (List.getElem_mem hkL); simp only; omega⟩
      have hl2 : es[k].length = 2 := by rw [← h1]; rfl
      match he' : es[k], hl2 with
      | [e0, e1], _ =>
        simp only [he', List.getElem_cons_zero, List.getElem_cons_succ] at hn hy
        rw [hn, hy]; rfl
    have hex : ∀ l : List (List Dt), (∀ k (hk : k < l.length), ∃ s : Int × List Int, l[k] = shardD s ∧ s.2.length ≤ m) → ∃ L' : List (Int × List Int), l = L'.map shardD ∧ ∀ s ∈ L', s.2.length ≤ m := by
      intro l
      induction l with
      | nil => intro _; exact ⟨[], rfl, by simp⟩
      | cons e l ih =>
        intro h
        obtain ⟨s, hs, hsm⟩ := h 0 (by simp)
        obtain ⟨L', rfl, hL⟩ := ih fun k hk => by have := h (k + 1) (by simp; omega); simpa using this
        simp at hs
        subst hs
        refine ⟨s :: L', rfl, fun x hx => ?_⟩
        rcases List.mem_cons.1 hx with rfl | hx
        · exact hsm
        · exact hL x hx
    obtain ⟨L', rfl, hL⟩ := hex es hall
    exact ⟨L', rfl, by rw [List.length_map] at hl; omega, hL⟩
theorem shards_poke {w : World} {p : Addr} {x0 : Int} (y : Int) (hp : w.cell? p = some (.int .i64 x0)) {L : List (Int × List Int)} {v : Value} {fp : List Nat} {m : Nat} (h : Rd w (.l (L.map shardD)) v fp) (hm : ∀ s ∈ L, s.2.length ≤ m) :
    ∃ L' : List (Int × List Int), L'.length = L.length ∧ (∀ s ∈ L', s.2.length ≤ m) ∧ Rd (w.setCell p (.int .i64 y)) (.l (L'.map shardD)) v fp := by
  obtain ⟨d', hs, hr⟩ := h.poke hp (y := y)
  have hd : ∃ es, d' = .l es := by cases hs with | l _ es' _ _ _ => exact ⟨es', rfl⟩
  obtain ⟨es, rfl⟩ := hd
  obtain ⟨L', rfl, hl, hm'⟩ := same_shards hs hm
  exact ⟨L', hl, hm', hr⟩
/-- A list is stored in place of a row's list. -/
theorem Bld.setL {E Ei : TypeId} {w : World} {B g n cap : Nat} {L : List (Int × List Int)} (h : Bld E 2 w B (.slice (some ⟨g, 0, none⟩) n cap) (L.map shardD)) (hn : n = L.length) {k : Nat} (hk : k < L.length) {u : Value} {xs : List Int} {lo : Nat} (hu : Own Ei w lo u xs) (hlo : B ≤ lo) (hgu : u.ownBlock ≠ some g) :
    Bld E 2 (w.setCell ⟨g, k * 2 + 1, none⟩ u) B (.slice (some ⟨g, 0, none⟩) n cap) ((L.set k (L[k].1, xs)).map shardD) := by
  subst hn
  obtain ⟨cs, ho, hc⟩ := h.row
  have hlen : (L.map shardD).length = L.length := by simp
  rw [hlen] at ho
  have hst := World.ownsRow.stored ho (k * 2 + 1) u
  have hcl : cs.length = L.length * 2 := ho.1
  obtain ⟨fu, hru, hfu⟩ := Rd.of_own hu
  refine ⟨fun e he => ?_, cs.set (k * 2 + 1) u, ?_, fun k' hk' => ?_⟩
  · obtain ⟨s, _, rfl⟩ := List.mem_map.1 he; rfl
  · have : ((L.set k (L[k].1, xs)).map shardD).length = L.length := by simp
    rw [this]; exact hst.1
  · have hkL : k' < L.length := by simpa using hk'
    have hk0 : k' < (L.map shardD).length := by simpa using hkL
    intro j hj
    have h22 : (((L.set k (L[k].1, xs)).map shardD)[k']).length = 2 := by rw [List.getElem_map]; rfl
    have hj2 : j < 2 := by omega
    by_cases e : k' = k ∧ j = 1
    · obtain ⟨rfl, rfl⟩ := e
      refine ⟨u, fu, ?_, ?_, fun r hr => ?_⟩
      · rw [List.getElem?_drop, List.getElem?_set_self (by rw [hcl]; omega)]
      · have : ((L.set k' (L[k'].1, xs)).map shardD)[k'][1] = intsD xs := by simp [shardD]
        rw [this]
        exact hru.grown (grownBy_set w g _ u) fun r e hm => by cases e; exact hgu (hfu g hm).2
      · have := hfu r hr
        exact ⟨by omega, fun e => by cases e; exact hgu this.2⟩
    · have hj0 : j < ((L.map shardD)[k']).length := by simp [shardD]; exact hj2
      obtain ⟨c, fp, hcc, hr, hf⟩ := hc k' hk0 j hj0
      refine ⟨c, fp, ?_, ?_, hf⟩
      · rw [List.getElem?_drop] at hcc ⊢
        rw [List.getElem?_set_ne (by intro h1; apply e; omega)]
        exact hcc
      · have he : ((L.set k (L[k].1, xs)).map shardD)[k'][j] = (L.map shardD)[k'][j] := by
          by_cases ek : k' = k
          · subst ek
            have : j = 0 := by have : ¬ j = 1 := fun h => e ⟨rfl, h⟩; omega
            subst this
            simp [shardD]
          · simp only [List.getElem_map, List.getElem_set_ne (fun h => ek h.symm)]
        rw [he]
        exact hr.grown (grownBy_set w g _ u) fun r e hm => by cases e; exact (hf g hm).2 rfl

end Go.Proofs.Yteglefchkecfjaa

/- A field of a row that lies in memory of its own is written over by a value with a new block; general steps, nothing here speaks of the program. -/
namespace Go.Proofs.Yteglefchkecfjaa
open Go.RowKit

/-- A field is written over by a value whose block, if it has one, is new. -/
theorem OwnR.setF {E Ei : TypeId} {sz : Nat} {w : World} {B hi hi' g n cap : Nat} {es : List (List Fd)} (h : OwnR E Ei sz w B hi (.slice (some ⟨g, 0, none⟩) n cap) es) (hn : n = es.length) {k j : Nat} (hk : k < es.length) (hj : j < sz) {u : Value} {f : Fd}
    (hf : FdOk Ei w B u f) (hhi : hi ≤ hi') (hu : ∀ b, u.ownBlock = some b → hi ≤ b ∧ b < hi') :
    OwnR E Ei sz (w.setCell ⟨g, k * sz + j, none⟩ u) B hi' (.slice (some ⟨g, 0, none⟩) n cap) (es.set k ((es[k]).set j f)) := by
  subst hn
  obtain ⟨cs, h1, h2, h3, h4, h5, h6⟩ := h.row
  have hsz := h.szs _ (List.getElem_mem hk)
  have hlt : k * sz + j < cs.length := by
    rw [h1.1]
    have := Nat.mul_le_mul_right sz (show k + 1 ≤ es.length by omega)
    rw [Nat.add_mul] at this; omega
  have hgB := (h1.lt g rfl).1
  have hgh := h6 g rfl
  have hst := (World.ownsRow.stored (w := w) (base := B) (e := E) (size := sz) (g := g) (n := es.length) (cap := cap) h1 (k * sz + j) u).1
  have hbl : ∀ b, b ≠ g → (w.setCell ⟨g, k * sz + j, none⟩ u).heap[b]? = w.heap[b]? := fun b hb => Below.heap_setCell _ _ _ b hb
  have hset : ∀ (p : Nat) c, (cs.set (k * sz + j) u)[p]? = some c → (p ≠ k * sz + j ∧ cs[p]? = some c) ∨ (p = k * sz + j ∧ c = u) := by
    intro p c hp
    by_cases e : k * sz + j = p
    · subst e
      rw [List.getElem?_set_self hlt] at hp
      exact .inr ⟨rfl, by cases hp; rfl⟩
    · rw [List.getElem?_set_ne e] at hp
      exact .inl ⟨fun h => e h.symm, hp⟩
  refine ⟨fun e he => ?_, cs.set (k * sz + j) u, by rw [List.length_set]; exact hst, fun k' j' hk' hj' => ?_, fun p q c d hp hq hne => ?_, fun p c hp => ?_, fun p c b hp hb => ?_, fun b hb => Nat.lt_of_lt_of_le (h6 b hb) hhi⟩
  · rcases List.mem_or_eq_of_mem_set he with he | rfl
    · exact h.szs e he
    · rw [List.length_set]; exact hsz
  · by_cases e : k' = k ∧ j' = j
    · obtain ⟨rfl, rfl⟩ := e
      refine ⟨_, List.getElem?_set_self hlt, ?_⟩
      simp only [List.getElem_set_self]
      exact hf.same fun b hb => hbl b fun hg => by have := (hu b hb).1; omega
    · obtain ⟨a1, a2, a3⟩ := set_get (j := j) hk k' j' hk' hj' (by rw [List.length_set]) e (fun i _ _ hi => by rw [List.getElem_set_ne (fun h => hi h.symm)])
      obtain ⟨c, hc, hf⟩ := h2 k' j' a1 a2
      rw [a3]
      have hp : k * sz + j ≠ k' * sz + j' := by
        intro hh
        have hj2 : j' < sz := by rw [← h.szs _ (List.getElem_mem a1)]; exact a2
        have e1 : (k * sz + j) / sz = k := by rw [Nat.add_comm, Nat.add_mul_div_right _ _ (by omega), Nat.div_eq_of_lt hj, Nat.zero_add]
        have e2 : (k' * sz + j') / sz = k' := by rw [Nat.add_comm, Nat.add_mul_div_right _ _ (by omega), Nat.div_eq_of_lt hj2, Nat.zero_add]
        have : k' = k := by rw [← e1, ← e2, hh]
        subst this
        exact e ⟨rfl, by omega⟩
      exact ⟨c, by rw [List.getElem?_set_ne hp]; exact hc, hf.same fun b hb => hbl b fun hg => h4 _ c hc b hb (by rw [hg]; rfl)⟩
  · rcases hset p c hp with ⟨_, hp1⟩ | ⟨ep, ec⟩
    · rcases hset q d hq with ⟨_, hq1⟩ | ⟨eq, ed⟩
      · exact h3 p q c d hp1 hq1 hne
      · intro b e e'
        rw [ed] at e'
        have := (h5 p c b hp1 e).2; have := (hu b e').1; omega
    · rcases hset q d hq with ⟨_, hq1⟩ | ⟨eq, ed⟩
      · intro b e e'
        rw [ec] at e
        have := (h5 q d b hq1 e').2; have := (hu b e).1; omega
      · exact absurd (ep.trans eq.symm) hne
  · rcases hset p c hp with ⟨_, hp1⟩ | ⟨ep, ec⟩
    · exact h4 p c hp1
    · intro b e e'
      cases e'
      rw [ec] at e
      have h9 : hi ≤ g := (hu _ e).1
      omega
  · rcases hset p c hp with ⟨_, hp1⟩ | ⟨ep, ec⟩
    · have := h5 p c b hp1 hb; exact ⟨this.1, by omega⟩
    · rw [ec] at hb
      have := hu b hb; exact ⟨by omega, this.2⟩

end Go.Proofs.Yteglefchkecfjaa

/- Rows of fields: the numbers that mark them, their sizes, their copies; general steps, nothing here speaks of the program. -/
namespace Go.Proofs.Yteglefchkecfjaa
open Go.RowKit

/-! marks -/
/-- A field's mark, and the next number. -/
def Fd.mk' (k : Nat) : Fd → Fd
  | .i _ => .i k
  | .b _ => .b (k % 3 == 0)
  | .s t => .s t
  | .l xs => .l (markL k xs.length)
def Fd.nx (k : Nat) : Fd → Nat
  | .i _ => k + 1
  | .b _ => k + 1
  | .s _ => k
  | .l xs => k + xs.length
def mkE : Nat → List Fd → List Fd
  | _, [] => []
  | k, f :: e => f.mk' k :: mkE (f.nx k) e
def nxE : Nat → List Fd → Nat
  | k, [] => k
  | k, f :: e => nxE (f.nx k) e
theorem mkE_len : ∀ (k : Nat) (e : List Fd), (mkE k e).length = e.length
  | _, [] => rfl
  | k, f :: e => by simp [mkE, mkE_len (f.nx k) e]
/-- How many numbers a field takes. -/
def Fd.sz : Fd → Nat
  | .i _ => 1
  | .b _ => 1
  | .s _ => 0
  | .l xs => xs.length
theorem nx_sz (k : Nat) (f : Fd) : f.nx k = k + f.sz := by cases f <;> rfl
def szE (e : List Fd) : Nat := (e.map Fd.sz).sum
theorem nxE_sz : ∀ (e : List Fd) (k : Nat), nxE k e = k + szE e
  | [], k => by simp [nxE, szE]
  | f :: e, k => by rw [nxE, nxE_sz e, nx_sz]; simp [szE]; omega
/-- The number with which row i begins. -/
def kTo (es : List (List Fd)) (k i : Nat) : Nat := k + ((es.take i).map szE).sum
theorem kTo_zero (es : List (List Fd)) (k : Nat) : kTo es k 0 = k := by simp [kTo]
theorem kTo_succ {es : List (List Fd)} {k i : Nat} (h : i < es.length) : kTo es k (i + 1) = nxE (kTo es k i) es[i] := by
  unfold kTo
  rw [nxE_sz, List.take_succ_eq_append_getElem h, List.map_append, List.sum_append]
  simp; omega
theorem kTo_le {es : List (List Fd)} {k i n : Nat} (h : i ≤ n) : kTo es k i ≤ kTo es k n := by
  induction n with
  | zero => have : i = 0 := by omega
            subst this; exact Nat.le_refl _
  | succ n ih =>
    by_cases e : i = n + 1
    · subst e; exact Nat.le_refl _
    · refine Nat.le_trans (ih (by omega)) ?_
      by_cases hn : n < es.length
      · rw [kTo_succ hn, nxE_sz]; omega
      · unfold kTo
        rw [List.take_of_length_le (by omega), List.take_of_length_le (by omega)]
        exact Nat.le_refl _
/-- The rows when the first i are marked. -/
def mkTo (es : List (List Fd)) (k i : Nat) : List (List Fd) := (List.range es.length).map fun j => if j < i then mkE (kTo es k j) (es.getD j []) else es.getD j []
theorem mkTo_len (es : List (List Fd)) (k i : Nat) : (mkTo es k i).length = es.length := by simp [mkTo]
theorem getE {es : List (List Fd)} {j : Nat} (h : j < es.length) : es.getD j [] = es[j] := by simp [List.getD, List.getElem?_eq_getElem h]
theorem mkTo_get {es : List (List Fd)} {k i j : Nat} (h : j < (mkTo es k i).length) : (mkTo es k i)[j] = if j < i then mkE (kTo es k j) (es.getD j []) else es.getD j [] := by simp [mkTo]
theorem mkTo_zero (es : List (List Fd)) (k : Nat) : mkTo es k 0 = es := by
  apply List.ext_getElem
  · simp [mkTo]
  · intro j h1 h2
    rw [mkTo_get, if_neg (by omega), getE h2]
theorem mkTo_at {es : List (List Fd)} {k i : Nat} (h : i < es.length) (h' : i < (mkTo es k i).length) : (mkTo es k i)[i] = es[i] := by rw [mkTo_get, if_neg (by omega), getE h]
theorem mkTo_all {es : List (List Fd)} {k i : Nat} (h : i < es.length) (h' : i < (mkTo es k es.length).length) : (mkTo es k es.length)[i] = mkE (kTo es k i) es[i] := by rw [mkTo_get, if_pos h, getE h]
theorem mkTo_set {es : List (List Fd)} {k i : Nat} (h : i < es.length) : (mkTo es k i).set i (mkE (kTo es k i) es[i]) = mkTo es k (i + 1) := by
  apply List.ext_getElem
  · simp [mkTo]
  · intro j h1 h2
    by_cases e : j = i
    · subst e; simp only [List.getElem_set_self]; rw [mkTo_get, if_pos (by omega), getE h]
    · rw [List.getElem_set_ne (fun h => e h.symm), mkTo_get, mkTo_get]
      by_cases e2 : j < i
      · rw [if_pos e2, if_pos (by omega)]
      · rw [if_neg e2, if_neg (by omega)]

/-! sizes -/
def Fd.ln : Fd → Nat
  | .l xs => xs.length
  | _ => 0
def lnE (e : List Fd) : Nat := (e.map Fd.ln).sum
/-- How many numbers lie in the lists of the first k rows. -/
def lnTo (es : List (List Fd)) (k : Nat) : Nat := ((es.take k).map lnE).sum
theorem lnTo_zero (es : List (List Fd)) : lnTo es 0 = 0 := by simp [lnTo]
theorem lnTo_succ {es : List (List Fd)} {k : Nat} (h : k < es.length) : lnTo es (k + 1) = lnTo es k + lnE es[k] := by
  unfold lnTo
  rw [List.take_succ_eq_append_getElem h, List.map_append, List.sum_append]
  simp
theorem lnTo_le {es : List (List Fd)} {k n : Nat} (h : k ≤ n) : lnTo es k ≤ lnTo es n := by
  induction n with
  | zero => have : k = 0 := by omega
            subst this; exact Nat.le_refl _
  | succ n ih =>
    by_cases e : k = n + 1
    · subst e; exact Nat.le_refl _
    · refine Nat.le_trans (ih (by omega)) ?_
      by_cases hn : n < es.length
      · rw [lnTo_succ hn]; omega
      · unfold lnTo
        rw [List.take_of_length_le (by omega), List.take_of_length_le (by omega)]
        exact Nat.le_refl _
theorem lnTo_none {es : List (List Fd)} (h : ∀ e ∈ es, lnE e = 0) (k : Nat) : lnTo es k = 0 := by
  unfold lnTo
  rw [List.sum_eq_zero_iff_forall_eq_nat]
  intro n hn
  obtain ⟨e, he, rfl⟩ := List.mem_map.1 hn
  exact h e (List.mem_of_mem_take he)
theorem lnTo_in {es : List (List Fd)} {m : Nat} (h : lnTo es es.length ≤ m) : ∀ e ∈ es, lnE e ≤ m := by
  intro e he
  obtain ⟨k, hk, rfl⟩ := List.mem_iff_getElem.1 he
  have := lnTo_le (es := es) (show k + 1 ≤ es.length from hk)
  rw [lnTo_succ hk] at this
  omega
theorem ln_in {e : List Fd} {xs : List Int} {m : Nat} (h : lnE e ≤ m) (hx : Fd.l xs ∈ e) : xs.length ≤ m := by
  unfold lnE at h
  induction e with
  | nil => cases hx
  | cons f e ih =>
    rw [List.map_cons, List.sum_cons] at h
    rcases List.mem_cons.1 hx with rfl | hx
    · have : (Fd.l xs).ln = xs.length := rfl
      omega
    · exact ih (by omega) hx
theorem sz_ln (f : Fd) : f.sz ≤ 1 + f.ln := by cases f <;> simp [Fd.sz, Fd.ln]
theorem szE_ln : ∀ e : List Fd, szE e ≤ e.length + lnE e
  | [] => by simp [szE, lnE]
  | f :: e => by have := szE_ln e; have := sz_ln f; simp [szE, lnE] at *; omega
/-- The marks of rows of m fields are few. -/
theorem kTo_bd {es : List (List Fd)} {m : Nat} (hm : ∀ e ∈ es, e.length = m) (k : Nat) : ∀ i, i ≤ es.length → kTo es k i ≤ k + (i * m + lnTo es i)
  | 0, _ => by simp [kTo, lnTo]
  | i + 1, h => by
    have h1 := kTo_bd hm k i (by omega)
    have h2 := szE_ln es[i]
    rw [hm _ (List.getElem_mem _)] at h2
    rw [kTo_succ (by omega), nxE_sz, lnTo_succ (by omega), Nat.add_mul]
    omega

/-! copies -/
/-- Of these rows the first k have been copied, the others are the row z. -/
def cpTo (es : List (List Fd)) (z : List Fd) (k : Nat) : List (List Fd) := (List.range es.length).map fun i => if i < k then es.getD i [] else z
theorem cpTo_len (es : List (List Fd)) (z : List Fd) (k : Nat) : (cpTo es z k).length = es.length := by simp [cpTo]
theorem cpTo_get {es : List (List Fd)} {z : List Fd} {k i : Nat} (h : i < (cpTo es z k).length) : (cpTo es z k)[i] = if i < k then es.getD i [] else z := by simp [cpTo]
theorem cpTo_all (es : List (List Fd)) (z : List Fd) : cpTo es z es.length = es := by
  refine List.ext_getElem (by simp [cpTo]) fun i h1 h2 => ?_
  rw [cpTo_get, if_pos h2, getE h2]
theorem cpTo_step {es : List (List Fd)} {z : List Fd} {k : Nat} (hk : k < es.length) : (cpTo es z k).set k es[k] = cpTo es z (k + 1) := by
  refine List.ext_getElem (by simp [cpTo]) fun i h1 h2 => ?_
  by_cases hik : k = i
  · subst hik
    rw [List.getElem_set_self, cpTo_get, if_pos (by omega), getE hk]
  · rw [List.getElem_set_ne hik, cpTo_get, cpTo_get]
    by_cases h : i < k
    · rw [if_pos h, if_pos (by omega)]
    · rw [if_neg h, if_neg (by omega)]

/-! fields -/
/-- A truth value is stored. -/
theorem OwnR.setB {E Ei : TypeId} {sz : Nat} {w : World} {B hi g n cap : Nat} {es : List (List Fd)} (h : OwnR E Ei sz w B hi (.slice (some ⟨g, 0, none⟩) n cap) es) (hn : n = es.length) {k j : Nat} (hk : k < es.length) (hj : j < sz) (x : Bool) :
    OwnR E Ei sz (w.setCell ⟨g, k * sz + j, none⟩ (.bool x)) B hi (.slice (some ⟨g, 0, none⟩) n cap) (es.set k ((es[k]).set j (.b x))) :=
  h.setF hn hk hj (f := .b x) rfl (Nat.le_refl _) (fun b e => by cases e)
/-- The block of a field's list lies among the rows' own. -/
theorem OwnR.range {E Ei : TypeId} {sz : Nat} {w : World} {B hi g n cap : Nat} {es : List (List Fd)} (h : OwnR E Ei sz w B hi (.slice (some ⟨g, 0, none⟩) n cap) es) {k j : Nat} (hk : k < es.length) (hj : j < (es[k]).length) {c : Value} (hc : w.cell? ⟨g, k * sz + j, none⟩ = some c) :
    ∀ b, c.ownBlock = some b → B ≤ b ∧ b < hi := by
  obtain ⟨cs, o1, o2, _, _, o5, _⟩ := h.row
  obtain ⟨c', hc', _⟩ := o2 k j hk hj
  have hcc := World.ownsRow.cells o1 (g := g) rfl _ _ hc'
  rw [addr_add, hc] at hcc
  obtain rfl := Option.some.inj hcc
  exact fun b hb => o5 _ c b hc' hb
/-- A field's value by its kind. -/
theorem OwnR.fieldI {E Ei : TypeId} {sz : Nat} {w : World} {B hi g n cap : Nat} {es : List (List Fd)} (h : OwnR E Ei sz w B hi (.slice (some ⟨g, 0, none⟩) n cap) es) {k j : Nat} (hk : k < es.length) (hj : j < (es[k]).length) {x : Int} (hx : (es[k])[j] = .i x) :
    w.cell? ⟨g, k * sz + j, none⟩ = some (.int .i64 x) ∧ w.frozen? ⟨g, k * sz + j, none⟩ = false := by
  obtain ⟨c, h1, h2, h3, _⟩ := h.cell hk hj
  rw [hx] at h2
  obtain rfl : c = .int .i64 x := h2
  exact ⟨h1, h3⟩
theorem OwnR.fieldB {E Ei : TypeId} {sz : Nat} {w : World} {B hi g n cap : Nat} {es : List (List Fd)} (h : OwnR E Ei sz w B hi (.slice (some ⟨g, 0, none⟩) n cap) es) {k j : Nat} (hk : k < es.length) (hj : j < (es[k]).length) {x : Bool} (hx : (es[k])[j] = .b x) :
    w.cell? ⟨g, k * sz + j, none⟩ = some (.bool x) ∧ w.frozen? ⟨g, k * sz + j, none⟩ = false := by
  obtain ⟨c, h1, h2, h3, _⟩ := h.cell hk hj
  rw [hx] at h2
  obtain rfl : c = .bool x := h2
  exact ⟨h1, h3⟩
theorem OwnR.fieldL {E Ei : TypeId} {sz : Nat} {w : World} {B hi g n cap : Nat} {es : List (List Fd)} (h : OwnR E Ei sz w B hi (.slice (some ⟨g, 0, none⟩) n cap) es) {k j : Nat} (hk : k < es.length) (hj : j < (es[k]).length) {xs : List Int} (hx : (es[k])[j] = .l xs) :
    ∃ a c, w.cell? ⟨g, k * sz + j, none⟩ = some (.slice a xs.length c) ∧ Own Ei w B (.slice a xs.length c) xs ∧ w.frozen? ⟨g, k * sz + j, none⟩ = false ∧ (Value.slice a xs.length c).ownBlock ≠ some g ∧ ∀ b, (Value.slice a xs.length c).ownBlock = some b → B ≤ b ∧ b < hi := by
  obtain ⟨c, h1, h2, h3, h4⟩ := h.cell hk hj
  rw [hx] at h2
  have h2' : Own Ei w B c xs := h2
  obtain ⟨a, cap', rfl, _, _⟩ := h2'.ints
  exact ⟨a, cap', h1, h2', h3, h4, h.range hk hj h1⟩

/-! rows that are read -/
def rowsD (es : List (List Fd)) : Dt := .l (es.map fun e => e.map Fd.dt)
/-- A list of rows in memory: each field's cell and how it reads. -/
theorem rows_at {w : World} {es : List (List Fd)} {a : Option Addr} {n cap : Nat} {fp : List Nat} (h : Rd w (rowsD es) (.slice a n cap) fp) (hne : 0 < es.length) {m : Nat} (hm : ∀ e ∈ es, e.length = m) :
    ∃ g off, a = some ⟨g, off, none⟩ ∧ g < w.heap.size ∧ ∀ k (hk : k < es.length) j (hj : j < (es[k]).length), ∃ c fp', w.cell? ⟨g, off + k * m + j, none⟩ = some c ∧ Rd w (((es[k])[j]).dt) c fp' := by
  obtain ⟨g, off, rfl, hg, _, _, _, hc⟩ := Rd.at h (by simpa using hne) (sz := m) (by intro e he; obtain ⟨e', he', rfl⟩ := List.mem_map.1 he; rw [List.length_map]; exact hm e' he')
  refine ⟨g, off, rfl, hg, fun k hk j hj => ?_⟩
  obtain ⟨v, fp', h1, h2, _⟩ := hc k j (by simpa using hk) (by simpa using hj)
  refine ⟨v, fp', by rw [Nat.add_assoc]; exact h1, by simpa using h2⟩
theorem rd_i {w : World} {c : Value} {fp : List Nat} {f : Fd} {x : Int} (h : Rd w f.dt c fp) (hf : f = .i x) : c = .int .i64 x := by subst hf; exact (Rd.int h).1
theorem rd_b {w : World} {c : Value} {fp : List Nat} {f : Fd} {x : Bool} (h : Rd w f.dt c fp) (hf : f = .b x) : c = .bool x := by subst hf; exact (Rd.bool h).1
theorem rd_l {w : World} {c : Value} {fp : List Nat} {f : Fd} {xs : List Int} (h : Rd w f.dt c fp) (hf : f = .l xs) : ∃ a cap, c = .slice a xs.length cap ∧ IntsAt w a xs := by
  subst hf
  obtain ⟨a, cap, rfl, _, hi⟩ := Rd.ints (show Rd w (intsD xs) c fp from h)
  exact ⟨a, cap, rfl, hi⟩
theorem rd_ls {w : World} {c : Value} {fp : List Nat} {f : Fd} {xs : List Int} (h : Rd w f.dt c fp) (hf : f = .l xs) : ∃ a cap, c = .slice a xs.length cap ∧ IntsAt w a xs ∧ SrcAt w a cap xs := by
  subst hf
  have h' : Rd w (intsD xs) c fp := h
  obtain ⟨a, cap, rfl, _, hi⟩ := Rd.ints h'
  refine ⟨a, cap, rfl, hi, ?_⟩
  rcases hi with rfl | ⟨b, off, rfl, _, hc⟩
  · cases a with
    | none => exact .inl ⟨rfl, rfl, Rd.nilcap h'⟩
    | some ad => exact .inr ⟨ad, rfl, fun j hj => by simp at hj⟩
  · exact .inr ⟨_, rfl, fun j hj => by rw [addr_add']; exact hc j hj⟩
theorem OwnR.reads {E Ei : TypeId} {sz : Nat} {w : World} {B hi : Nat} {v : Value} {es : List (List Fd)} (h : OwnR E Ei sz w B hi v es) : ∃ fp, Rd w (rowsD es) v fp := by
  obtain ⟨fp, hr, _⟩ := h.bld.rd
  exact ⟨fp, hr⟩

/-! one row among rows -/
theorem set_self' {es : List (List Fd)} {j : Nat} {e : List Fd} (h : j < es.length) (he : es[j] = e) : es.set j e = es := by subst he; exact List.set_getElem_self h
section
variable {E Ei : TypeId} {sz : Nat} {w : World} {B hi g n cap : Nat} {es : List (List Fd)} {j : Nat} {row : List Fd}
theorem OwnR.rowI (h : OwnR E Ei sz w B hi (.slice (some ⟨g, 0, none⟩) n cap) (es.set j row)) (hn : n = es.length) (hj : j < es.length) (q : Nat) (hq : q < sz) (z : Int) :
    OwnR E Ei sz (w.setCell ⟨g, j * sz + q, none⟩ (.int .i64 z)) B hi (.slice (some ⟨g, 0, none⟩) n cap) (es.set j (row.set q (.i z))) := by
  have := h.setI (by rw [List.length_set]; exact hn) (k := j) (by rw [List.length_set]; exact hj) hq z
  rwa [List.getElem_set_self, List.set_set] at this
theorem OwnR.rowB (h : OwnR E Ei sz w B hi (.slice (some ⟨g, 0, none⟩) n cap) (es.set j row)) (hn : n = es.length) (hj : j < es.length) (q : Nat) (hq : q < sz) (z : Bool) :
    OwnR E Ei sz (w.setCell ⟨g, j * sz + q, none⟩ (.bool z)) B hi (.slice (some ⟨g, 0, none⟩) n cap) (es.set j (row.set q (.b z))) := by
  have := h.setB (by rw [List.length_set]; exact hn) (k := j) (by rw [List.length_set]; exact hj) hq z
  rwa [List.getElem_set_self, List.set_set] at this
theorem OwnR.rowF (h : OwnR E Ei sz w B hi (.slice (some ⟨g, 0, none⟩) n cap) (es.set j row)) (hn : n = es.length) (hj : j < es.length) (q : Nat) (hq : q < sz) {u : Value} {f : Fd} {hi' : Nat} (hf : FdOk Ei w B u f) (hhi : hi ≤ hi') (hu : ∀ b, u.ownBlock = some b → hi ≤ b ∧ b < hi') :
    OwnR E Ei sz (w.setCell ⟨g, j * sz + q, none⟩ u) B hi' (.slice (some ⟨g, 0, none⟩) n cap) (es.set j (row.set q f)) := by
  have := h.setF (by rw [List.length_set]; exact hn) (k := j) (by rw [List.length_set]; exact hj) hq hf hhi hu
  rwa [List.getElem_set_self, List.set_set] at this
theorem OwnR.rowL {w' : World} (h : OwnR E Ei sz w B hi (.slice (some ⟨g, 0, none⟩) n cap) (es.set j row)) (hj : j < es.length) (q : Nat) (hq : q < sz) {c : Value} (hc : w.cell? ⟨g, j * sz + q, none⟩ = some c) {ys : List Int} (hown : Own Ei w' B c ys) (hg : w.grownBy w' c.ownBlock) :
    OwnR E Ei sz w' B hi (.slice (some ⟨g, 0, none⟩) n cap) (es.set j (row.set q (.l ys))) := by
  have := h.setL (k := j) (by rw [List.length_set]; exact hj) hq hc hown (fun b hb hne => hg.block b hb fun e => hne e.symm)
  rwa [List.getElem_set_self, List.set_set] at this
theorem OwnR.rcI (h : OwnR E Ei sz w B hi (.slice (some ⟨g, 0, none⟩) n cap) (es.set j row)) (hj : j < es.length) (q : Nat) {x : Int} (hx : row[q]? = some (.i x)) :
    w.cell? ⟨g, j * sz + q, none⟩ = some (.int .i64 x) ∧ w.frozen? ⟨g, j * sz + q, none⟩ = false := by
  obtain ⟨hq, hx⟩ := List.getElem?_eq_some_iff.1 hx
  exact h.fieldI (k := j) (j := q) (by rw [List.length_set]; exact hj) (by rw [List.getElem_set_self]; exact hq) (by simp only [List.getElem_set_self]; exact hx)
theorem OwnR.rcB (h : OwnR E Ei sz w B hi (.slice (some ⟨g, 0, none⟩) n cap) (es.set j row)) (hj : j < es.length) (q : Nat) {x : Bool} (hx : row[q]? = some (.b x)) :
    w.cell? ⟨g, j * sz + q, none⟩ = some (.bool x) ∧ w.frozen? ⟨g, j * sz + q, none⟩ = false := by
  obtain ⟨hq, hx⟩ := List.getElem?_eq_some_iff.1 hx
  exact h.fieldB (k := j) (j := q) (by rw [List.length_set]; exact hj) (by rw [List.getElem_set_self]; exact hq) (by simp only [List.getElem_set_self]; exact hx)
theorem OwnR.rcL (h : OwnR E Ei sz w B hi (.slice (some ⟨g, 0, none⟩) n cap) (es.set j row)) (hj : j < es.length) (q : Nat) {xs : List Int} (hx : row[q]? = some (.l xs)) :
    ∃ a c, w.cell? ⟨g, j * sz + q, none⟩ = some (.slice a xs.length c) ∧ Own Ei w B (.slice a xs.length c) xs ∧ w.frozen? ⟨g, j * sz + q, none⟩ = false ∧ (Value.slice a xs.length c).ownBlock ≠ some g ∧ ∀ b, (Value.slice a xs.length c).ownBlock = some b → B ≤ b ∧ b < hi := by
  obtain ⟨hq, hx⟩ := List.getElem?_eq_some_iff.1 hx
  exact h.fieldL (k := j) (j := q) (by rw [List.length_set]; exact hj) (by rw [List.getElem_set_self]; exact hq) (by simp only [List.getElem_set_self]; exact hx)
end
/-- New rows are rows of zeros. -/
theorem made_at' (z : Array Value) {n p : Nat} (h : p < n) : (madeCells z n).toList[p]? = some z[p % z.size]! := by
  unfold madeCells; rw [Array.getElem?_toList, Array.getElem?_map, Array.getElem?_range]; simp [h]
theorem ownR_new {E Ei : TypeId} {m : Nat} (w : World) (es : List (List Fd)) (zv : List Value) (z : List Fd) (hm : es.length ≤ maxLen) (hl : zv.length = m) (hz : z.length = m) (hpos : 0 < m) (hn : ∀ c ∈ zv, c.ownBlock = none) (hok : ∀ W B j (h : j < zv.length) (h' : j < z.length), FdOk Ei W B zv[j] z[j]) :
    OwnR E Ei m (w.alloc (.cells (madeCells zv.toArray (es.length * m)) E)) w.heap.size (w.heap.size + 1) (.slice (some ⟨w.heap.size, 0, none⟩) es.length es.length) (cpTo es z 0) := by
  have hc : ∀ (p : Nat) (c : Value), (madeCells zv.toArray (es.length * m)).toList[p]? = some c → c ∈ zv := by
    intro p c h
    have hp : p < es.length * m := by
      obtain ⟨h1, _⟩ := List.getElem?_eq_some_iff.1 h
      simpa [madeCells] using h1
    rw [made_at' _ hp] at h
    have hq : p % zv.toArray.size < zv.length := by simp; exact Nat.mod_lt _ (by omega)
    have : c = zv[p % zv.toArray.size] := by
      have := Option.some.inj h
      rw [← this]
      have hq' : p % zv.length < zv.length := by simpa using hq
      simp [List.getElem?_eq_getElem hq']
    rw [this]; exact List.getElem_mem hq
  have hno : ∀ (p : Nat) (c : Value), (madeCells zv.toArray (es.length * m)).toList[p]? = some c → c.ownBlock = none := fun p c h => hn c (hc p c h)
  refine ⟨fun e he => ?_, (madeCells zv.toArray (es.length * m)).toList, ⟨by rw [cpTo_len]; simp [madeCells], .inr ⟨w.heap.size, es.length, _, by rw [cpTo_len], Nat.le_refl _, heap_alloc_new w _, by rw [cpTo_len]; exact Nat.le_refl _, hm, by simp [madeCells], by rw [cpTo_len]; exact List.take_of_length_le (by simp [madeCells])⟩⟩, fun k j hk hj => ?_, ?_, ?_, ?_, ?_⟩
  · unfold cpTo at he
    obtain ⟨i, _, rfl⟩ := List.mem_map.1 he
    rw [if_neg (by omega)]; exact hz
  · have hkL : k < es.length := by rw [cpTo_len] at hk; exact hk
    have hg : (cpTo es z 0)[k] = z := by rw [cpTo_get, if_neg (by omega)]
    simp only [hg] at hj ⊢
    have hlt : k * m + j < es.length * m := by
      have := Nat.mul_le_mul_right m (show k + 1 ≤ es.length by omega)
      rw [Nat.add_mul] at this; omega
    refine ⟨zv[j], ?_, hok _ _ j (by omega) hj⟩
    rw [made_at' _ hlt]
    have : (k * m + j) % zv.toArray.size = j := by
      rw [List.size_toArray, hl, Nat.add_comm, Nat.add_mul_mod_self_right, Nat.mod_eq_of_lt (by omega)]
    rw [this]
    simp [show j < zv.length by omega]
  · intro p q c d h1 h2 _ g e
    rw [hno p c h1] at e; cases e
  · intro p c h g e
    rw [hno p c h] at e; cases e
  · intro p c g h e
    rw [hno p c h] at e; cases e
  · intro g e
    cases e; exact Nat.lt_succ_self _

end Go.Proofs.Yteglefchkecfjaa

/- A list of rows that the call builds by append, whose elements lie in memory that is known not to be frozen; general steps, nothing here speaks of the program. -/
namespace Go.Proofs.Yteglefchkecfjaa
open Go.RowKit

/-- Each cell of an element reads as its datum, in memory from B on that is not the outer row's. -/
def CellsN (w : World) (B : Nat) (N : Nat → Prop) (blk : Option Nat) (cs : List Value) (e : List Dt) : Prop :=
  ∀ j (hj : j < e.length), ∃ c fp, cs[j]? = some c ∧ Rd w e[j] c fp ∧ ∀ r ∈ fp, B ≤ r ∧ blk ≠ some r ∧ N r
theorem CellsN.step {w w' : World} {B : Nat} {N : Nat → Prop} {blk blk' row : Option Nat} {cs : List Value} {e : List Dt} (h : CellsN w B N blk cs e) (hg : w.grownBy w' row) (hrow : ∀ r, row = some r → r < B ∨ blk = some r) (hb : ∀ g, blk' = some g → blk = some g ∨ w.heap.size ≤ g) :
    CellsN w' B N blk' cs e := by
  intro j hj
  obtain ⟨c, fp, hc, hr, hf⟩ := h j hj
  refine ⟨c, fp, hc, hr.grown hg fun r e hm => ?_, fun r hm => ⟨(hf r hm).1, fun e => ?_, (hf r hm).2.2⟩⟩
  · rcases hrow r e with h | h
    · have := (hf r hm).1; omega
    · exact (hf r hm).2.1 h
  · rcases hb r e with h | h
    · exact (hf r hm).2.1 h
    · have := hr.lt r hm; omega
structure BldN (E : TypeId) (sz : Nat) (w : World) (B : Nat) (N : Nat → Prop) (v : Value) (es : List (List Dt)) : Prop where
  szs : ∀ e ∈ es, e.length = sz
  row : ∃ cs : List Value, w.ownsRow B E sz v es.length cs ∧ ∀ k (hk : k < es.length), CellsN w B N v.ownBlock (cs.drop (k * sz)) es[k]
theorem BldN.nil {E : TypeId} {sz : Nat} {w : World} {B : Nat} {N : Nat → Prop} {v : Value} (h : w.ownsRow B E sz v 0 []) : BldN E sz w B N v [] := ⟨by simp, [], h, fun k hk => by simp at hk⟩
theorem BldN.step {E : TypeId} {sz : Nat} {w w' : World} {B : Nat} {N : Nat → Prop} {v : Value} {es : List (List Dt)} {row : Option Nat} (h : BldN E sz w B N v es) (hg : w.grownBy w' row) (hrow : ∀ r, row = some r → r < B) : BldN E sz w' B N v es := by
  obtain ⟨cs, ho, hc⟩ := h.row
  refine ⟨h.szs, cs, ho.kept hg ?_, fun k hk => (hc k hk).step hg (fun r e => .inl (hrow r e)) (fun g e => .inl e)⟩
  cases hv : v.ownBlock with
  | none => exact .inl rfl
  | some g => exact .inr fun e => by have := hrow g e.symm; have := (ho.lt g hv).1; omega
theorem BldN.under {E : TypeId} {sz : Nat} {w w' : World} {B : Nat} {N : Nat → Prop} {v : Value} {es : List (List Dt)} (h : BldN E sz w B N v es) (hb : Below w.heap.size w w') : BldN E sz w' B N v es := h.step (below_grown hb) fun _ e => by cases e
theorem BldN.lt {E : TypeId} {sz : Nat} {w : World} {B : Nat} {N : Nat → Prop} {v : Value} {es : List (List Dt)} (h : BldN E sz w B N v es) : ∀ g, v.ownBlock = some g → B ≤ g ∧ g < w.heap.size := by
  obtain ⟨cs, ho, _⟩ := h.row; exact ho.lt
theorem BldN.slice {E : TypeId} {sz : Nat} {w : World} {B : Nat} {N : Nat → Prop} {v : Value} {es : List (List Dt)} (h : BldN E sz w B N v es) : ∃ a cap, v = .slice a es.length cap ∧ es.length ≤ maxLen := by
  obtain ⟨cs, ho, _⟩ := h.row
  rcases ho.2 with ⟨rfl, h0⟩ | ⟨g, cap, cur, rfl, hb, hg, hn, hm, hs, ht⟩
  · exact ⟨none, 0, by rw [h0], by rw [h0]; simp⟩
  · exact ⟨_, cap, rfl, by omega⟩

/-- 'append(s, x)', x an element of a struct type. -/
theorem wpList_push_rowN {P : Program} {T E : TypeId} {z0 : Value} {sz bytes : Nat} (hsl : P.underlying T = some (.slice E)) (hinf : (P.info? E).map (fun i => (i.zero, i.size, i.bytes)) = some (some z0, sz, bytes)) (hz0 : z0.cells.size = sz) (hpos : 0 < sz) (hby : bytes ≤ 1000)
    {w : World} {ops : Array Oper} {rest : List Oper} {o : Oper} {a : Act} {Q : Exit → Act → World → Prop} (hgd : o.guard = none) (s x : Operand) (ho : o.op = .call { callee := .builtin .append, args := #[s, x], argTypes := #[T, T] }) (B : Nat) (N : Nat → Prop) (v : Value) (es : List (List Dt)) (e : List Dt)
    (vals : List Value) (cells : Array Value) (hcells : cells = vals.toArray) (hvl : vals.length = sz) (h1c : ∀ u ∈ vals, u.oneCell' = true) (hs : a.eval s = v) (hb : BldN E sz w B N v es) (he : e.length = sz) (hr : CellsN w B N v.ownBlock vals e) (hlen : es.length ≤ 1048576)
    (hx : a.eval x = .slice (some ⟨w.heap.size, 0, none⟩) 1 1) (hB : B ≤ w.heap.size)
    (h : ∀ v' w', BldN E sz w' B N v' (es ++ [e]) → w.grownBy w' v.ownBlock → (∀ g, v'.ownBlock = some g → v.ownBlock = some g ∨ w.heap.size ≤ g) → wpList P ops Q rest (a.put o.dst v') w') : wpList P ops Q (o :: rest) a (w.alloc (.cells cells E)) := by
  subst hcells
  refine wpList_want (by unfold Region.wanted; rw [hgd]) fun K hK => ?_
  obtain ⟨i, hi, hz, hsz, hbb⟩ := info_parts hinf
  obtain ⟨cs, hown, hc⟩ := hb.row
  have hcl : cs.length = es.length * sz := hown.1
  obtain ⟨v', w', hrun, h1, h2, _, h4⟩ := run_append_own_at (P := P) (w.alloc (.cells vals.toArray E)) B T o.type E i z0 sz bytes hsl hi hz hsz hbb hz0 hpos v es.length _ (World.ownsRow.alloc hown _) ⟨w.heap.size, 0, none⟩ 1 1 vals (by rw [hvl]; simp)
    (fun j u hu => by
      rw [addr_add, World.cell?_alloc_at _ _ _ _ rfl]; simpa using hu) h1c (by unfold maxLen; omega) (by
      have := Nat.mul_le_mul (show es.length + 1 ≤ 1048577 by omega) hby; omega) (by simp; omega)
  unfold Oper.wp execOp
  simp only [ho, resolve, invoke, builtin, Sem.run_bind, Sem.run_pure, Result.andThen_ok, List.map_toArray, List.map_cons, List.map_nil, hs, hx, hrun]
  have hg : w.grownBy w' v.ownBlock := grownBy_trans (World.grownBy_alloc _ _ _) h2
  have hloc : ∀ g, v'.ownBlock = some g → v.ownBlock = some g ∨ w.heap.size ≤ g := fun g e => by
    rcases h4 with h4 | h4
    · exact .inl (by rw [← h4]; exact e)
    · rw [h4] at e; cases e; exact .inr (by simp)
  refine hK _ _ (h v' w' ⟨?_, cs ++ vals, by rw [List.length_append]; exact h1, fun k hk => ?_⟩ hg hloc)
  · intro d hd
    rcases List.mem_append.1 hd with hd | hd
    · exact hb.szs d hd
    · simp at hd; subst hd; exact he
  · by_cases hke : k < es.length
    · have hkk : (es ++ [e])[k] = es[k] := List.getElem_append_left hke
      rw [hkk]
      have hcr := (hc k hke).step (blk' := v'.ownBlock) hg (fun r e => .inr e) hloc
      intro j hj
      obtain ⟨c, fp, hcc, hrest⟩ := hcr j hj
      refine ⟨c, fp, ?_, hrest⟩
      rw [List.getElem?_drop] at hcc ⊢
      have hjs : j < sz := by rw [← hb.szs _ (List.getElem_mem hke)]; exact hj
      have : k * sz + j < cs.length := by
        rw [hcl]
        have := Nat.mul_le_mul_right sz (show k + 1 ≤ es.length by omega)
        rw [Nat.add_mul] at this; omega
      rw [List.getElem?_append_left this]; exact hcc
    · have hkl : k = es.length := by simp at hk; omega
      subst hkl
      have hkk : (es ++ [e])[es.length] = e := by simp
      rw [hkk]
      have : (cs ++ vals).drop (es.length * sz) = vals := by rw [← hcl]; simp
      rw [this]
      exact hr.step hg (fun r e => .inr e) hloc

theorem BldN.bld {E : TypeId} {sz : Nat} {w : World} {B : Nat} {N : Nat → Prop} {v : Value} {es : List (List Dt)} (h : BldN E sz w B N v es) : Bld E sz w B v es := by
  obtain ⟨cs, ho, hc⟩ := h.row
  exact ⟨h.szs, cs, ho, fun k hk j hj => by
    obtain ⟨c, fp, h1, h2, h3⟩ := hc k hk j hj
    exact ⟨c, fp, h1, h2, fun r hr => ⟨(h3 r hr).1, (h3 r hr).2.1⟩⟩⟩
theorem BldN.frz {E : TypeId} {sz : Nat} {w : World} {B : Nat} {N : Nat → Prop} {g off n cap : Nat} {es : List (List Dt)} (h : BldN E sz w B N (.slice (some ⟨g, off, none⟩) n cap) es) : off = 0 ∧ ∀ j, w.frozen? ⟨g, j, none⟩ = false := by
  obtain ⟨cs, ho, _⟩ := h.row
  rcases ho.2 with ⟨e, _⟩ | ⟨g', cap', cur, e, hb, hg, _⟩
  · cases e
  · simp only [Value.slice.injEq, Option.some.injEq, Addr.mk.injEq, and_true] at e
    obtain ⟨⟨rfl, rfl⟩, _, _⟩ := e
    exact ⟨rfl, fun j => frozen_of_row w g j cur E hg⟩
theorem BldN.list {E : TypeId} {w : World} {B : Nat} {N : Nat → Prop} {g n cap : Nat} {L : List (Int × List Int)} (h : BldN E 2 w B N (.slice (some ⟨g, 0, none⟩) n cap) (L.map shardD)) {k : Nat} (hk : k < L.length) (hne : 0 < L[k].2.length) :
    ∃ bv ov cv, w.cell? ⟨g, k * 2 + 1, none⟩ = some (.slice (some ⟨bv, ov, none⟩) L[k].2.length cv) ∧ N bv ∧ bv < w.heap.size ∧ ∀ i (hi : i < L[k].2.length), w.cell? ⟨bv, ov + i, none⟩ = some (.int .i64 L[k].2[i]) := by
  obtain ⟨cs, ho, hc⟩ := h.row
  have hk' : k < (L.map shardD).length := by simpa using hk
  have he : (L.map shardD)[k] = shardD L[k] := by simp
  obtain ⟨c, fp, h1, h2, h3⟩ := hc k hk' 1 (by rw [he]; simp [shardD])
  have h2' : Rd w (intsD L[k].2) c fp := by simpa [shardD] using h2
  obtain ⟨a, cap', rfl⟩ := Rd.slice h2'
  rw [List.length_map] at h2' h1
  obtain ⟨bv, ov, rfl, hlt, hin, _, _, hcs⟩ := Rd.at h2' (by simpa using hne) (sz := 1) (by intro e he; simp at he; obtain ⟨x, _, rfl⟩ := he; rfl)
  refine ⟨bv, ov, cap', ?_, (h3 bv hin).2.2, hlt, fun i hi => ?_⟩
  · rw [List.getElem?_drop] at h1
    have := World.ownsRow.cells ho (g := g) rfl (k * 2 + 1) _ h1
    rw [addr_add] at this
    exact this
  · obtain ⟨v, fp', hcell, hr, _⟩ := hcs i 0 (by simpa using hi) (by simp)
    have hr' : Rd w (.i L[k].2[i]) v fp' := by simpa using hr
    obtain ⟨rfl, _⟩ := hr'.int
    simpa using hcell
/-- What has just been made by a call, row by row. -/
theorem made_rows {E Ei : TypeId} {w : World} {B hi : Nat} {a : Option Addr} {n cap : Nat} {A : List (Int × List Int)} (h : OwnR E Ei 2 w B hi (.slice a n cap) (A.map shardF)) (N : Nat → Prop) (hN : ∀ r, B ≤ r → r < w.heap.size → (∀ j, w.frozen? ⟨r, j, none⟩ = false) → N r) {k : Nat} (hk : k < A.length) :
    ∃ gA av cv, a = some ⟨gA, 0, none⟩ ∧ B ≤ gA ∧ gA < w.heap.size ∧ w.cell? ⟨gA, k * 2, none⟩ = some (.int .i64 A[k].1) ∧ w.cell? ⟨gA, k * 2 + 1, none⟩ = some (.slice av A[k].2.length cv) ∧ CellsN w B N none [.int .i64 A[k].1, .slice av A[k].2.length cv] (shardD A[k]) := by
  obtain ⟨gA, cap', e, hB, _, hlt⟩ := h.head (by simp; omega)
  simp only [Value.slice.injEq] at e
  obtain ⟨rfl, rfl, rfl⟩ := e
  have hk' : k < (A.map shardF).length := by simpa using hk
  have he : (A.map shardF)[k] = shardF A[k] := by simp
  have h0 := h.fieldI (k := k) (j := 0) hk' (by rw [he]; simp [shardF]) (x := A[k].1) (by simp only [he]; rfl)
  obtain ⟨c, hc, hf⟩ := h.cell (k := k) (j := 1) hk' (by rw [he]; simp [shardF])
  have hf' : Own Ei w B c A[k].2 := by
    have h9 := hf.1
    simp only [List.getElem_map, shardF, List.getElem_cons_zero, List.getElem_cons_succ] at h9
    exact h9
  obtain ⟨av, cv, rfl, _, _⟩ := hf'.ints
  refine ⟨gA, av, cv, rfl, hB, hlt, by simpa using h0.1, hc, fun j hj => ?_⟩
  match j, hj with
  | 0, _ => exact ⟨_, [], rfl, .i _, by simp⟩
  | 1, _ =>
    obtain ⟨fp, hr, hfp⟩ := Rd.of_own hf'
    refine ⟨_, fp, rfl, hr, fun r hr => ?_⟩
    obtain ⟨h1, h2⟩ := hfp r hr
    refine ⟨h1, by simp, hN r h1 (hf'.lt r h2).2 fun j => ?_⟩
    rcases hf'.2 with ⟨e, _⟩ | ⟨g', cap', cur, e, _, hg, _⟩
    · rw [e] at h2; cases h2
    · rw [e] at h2; cases h2; exact frozen_of_row w g' j cur Ei hg
theorem grown_frozen {w w' : World} {row : Option Nat} (h : w.grownBy w' row) {b : Nat} (hb : b < w.heap.size) (hne : some b ≠ row) (j : Nat) : w'.frozen? ⟨b, j, none⟩ = w.frozen? ⟨b, j, none⟩ := by
  unfold World.frozen?
  rw [h.block b hb hne]

end Go.Proofs.Yteglefchkecfjaa

/- The reader of a code: what it picks lies in the range that is asked, and nothing but the reader's own count is written; each by a walk of its text; condition: at most 2^40 picks. -/
namespace Go.Proofs.Yteglefchkecfjaa
open Go.RowKit

/-- The reader in block R: its code reads as bytes; it has picked p times. -/
structure Rdr (w : World) (R : Nat) (p : Nat) : Prop where
  at0 : ∃ a cap zs, w.cell? ⟨R, 0, none⟩ = some (.slice a (List.length (α := Int) zs) cap) ∧ zs.length ≤ 2000 ∧ (∀ z ∈ zs, 0 ≤ z ∧ z ≤ 255) ∧
    (zs.length < 1 ∨ ∃ b off, a = some ⟨b, off, none⟩ ∧ b < w.heap.size ∧ b < R ∧ ∀ j (h : j < zs.length), w.cell? ⟨b, off + j, none⟩ = some (.int .u8 zs[j]))
  at1 : w.cell? ⟨R, 1, none⟩ = some (.int .i64 p)
  fr : w.frozen? ⟨R, 1, none⟩ = false

theorem bits_xor_i64_nat (a b : Nat) (ha : a < 4611686018427387904) (hb : b < 4611686018427387904) : bits .xor .i64 (a : Int) (b : Int) = ((a ^^^ b : Nat) : Int) := by
  have hx : a ^^^ b < 2 ^ 62 := Nat.xor_lt_two_pow (by omega) (by omega)
  have h1 : (BitVec.ofInt 64 (a : Int)).toNat = a := by simp; omega
  have h2 : (BitVec.ofInt 64 (b : Int)).toNat = b := by simp; omega
  show IntKind.i64.wrap ((BitVec.ofInt 64 (a : Int) ^^^ BitVec.ofInt 64 (b : Int)).toNat : Int) = _
  rw [BitVec.toNat_xor, h1, h2]
  exact IntWalk.i64_in _ (by omega)

/-- A code that came in: its bytes. -/
structure CodeAt (w : World) (a : Option Addr) (cap : Nat) (zs : List Int) : Prop where
  big : zs.length ≤ 1099511627776
  cap : zs.length ≤ cap
  byte : ∀ z ∈ zs, 0 ≤ z ∧ z ≤ 255
  cells : zs.length < 1 ∨ ∃ b off, a = some ⟨b, off, none⟩ ∧ b < w.heap.size ∧ ∀ j (h : j < zs.length), w.cell? ⟨b, off + j, none⟩ = some (.int .u8 zs[j])
theorem CodeAt.below {w w' : World} {a : Option Addr} {cap : Nat} {zs : List Int} (h : CodeAt w a cap zs) (hb : Below w.heap.size w w') : CodeAt w' a cap zs := by
  refine ⟨h.big, h.cap, h.byte, ?_⟩
  rcases h.cells with h0 | ⟨b, off, rfl, hlt, hc⟩
  · exact .inl h0
  · exact .inr ⟨b, off, rfl, Nat.lt_of_lt_of_le hlt hb.size, fun j hj => (hb.cell (p := ⟨b, off + j, none⟩) hlt).trans (hc j hj)⟩
theorem codeAt_of {w : World} {a : Option Addr} {cap : Nat} {zs : List Int} (hk : zs.length ≤ cap) (hm : zs.length ≤ 1048576) (hi : zs = [] ∨ ∃ b off, a = some ⟨b, off, none⟩ ∧ b < w.heap.size ∧ ∀ j (h : j < zs.length), w.cell? ⟨b, off + j, none⟩ = some (.int .u8 zs[j]))
    (hw : ∀ z ∈ zs, (Lit.int .u8 z).wf = true) : CodeAt w a cap zs := by
  have hc : zs.length < 1 ∨ ∃ b off, a = some ⟨b, off, none⟩ ∧ b < w.heap.size ∧ ∀ j (h : j < zs.length), w.cell? ⟨b, off + j, none⟩ = some (.int .u8 zs[j]) := by
    rcases hi with rfl | hi
    · exact .inl (by simp)
    · exact .inr hi
  refine ⟨by omega, hk, fun z hz => ?_, hc⟩
  have := hw z hz
  simp [Lit.wf, IntKind.min, IntKind.max, IntKind.signed, IntKind.bits] at this
  omega

/-- The world behind one pick. -/
def picked (w : World) (R p : Nat) : World := w.setCell ⟨R, 1, none⟩ (.int .i64 ((p : Int) + 1))
theorem picked_grown (w : World) (R p : Nat) : w.grownBy (picked w R p) (some R) :=
  ⟨rfl, rfl, rfl, by simp [picked, World.setCell], fun k _ hk => Below.heap_setCell _ _ _ _ (fun e => hk (by rw [e]))⟩
theorem picked_rdr {w : World} {R p : Nat} (h : Rdr w R p) : Rdr (picked w R p) R (p + 1) := by
  obtain ⟨⟨a, cap, zs, h0, hlen, hby, hb⟩, h1, hfr⟩ := h
  refine ⟨⟨a, cap, zs, (World.cell?_setCell_other _ _ _ _ (by simp)).trans h0, hlen, hby, ?_⟩, (World.cell?_setCell_same _ _ _ h1).trans (by simp), (World.frozen?_setCell _ _ _ _).trans hfr⟩
  rcases hb with hb | ⟨b, off, rfl, hlt, hne, hc⟩
  · exact .inl hb
  · exact .inr ⟨b, off, rfl, by simpa [picked, World.setCell] using hlt, hne, fun j hj => (World.cell?_setCell_other _ _ _ _ (by simp)).trans (hc j hj)⟩
theorem Rdr.kept {w w' : World} {R p : Nat} {row : Option Nat} (h : Rdr w R p) (hg : w.grownBy w' row) (hrow : ∀ g, row = some g → R < g) : Rdr w' R p := by
  obtain ⟨⟨a, cap, zs, h0, hlen, hby, hb⟩, h1, hfr⟩ := h
  have hRr : ∀ b, b ≤ R → some b ≠ row := fun b hb e => by have := hrow b e.symm; omega
  have hRs := World.block_lt_of_cell? w _ h1
  refine ⟨⟨a, cap, zs, hg.cell h0 (hRr _ (Nat.le_refl _)), hlen, hby, ?_⟩, hg.cell h1 (hRr _ (Nat.le_refl _)), (World.frozen?_of_block (hg.block R hRs (hRr _ (Nat.le_refl _)))).trans hfr⟩
  rcases hb with hb | ⟨b, off, rfl, hlt, hne, hc⟩
  · exact .inl hb
  · exact .inr ⟨b, off, rfl, Nat.lt_of_lt_of_le hlt hg.size, hne, fun j hj => hg.cell (hc j hj) (hRr b (by omega))⟩
theorem Rdr.alloc {w : World} {R p : Nat} (h : Rdr w R p) (o : Obj) : Rdr (w.alloc o) R p := h.kept (World.grownBy_alloc w o none) (by simp)
theorem Rdr.lt {w : World} {R p : Nat} (h : Rdr w R p) : R < w.heap.size := World.block_lt_of_cell? w _ h.at1
theorem Rdr.drewN {w : World} {R p : Nat} (h : Rdr w R p) (n : Nat) : Rdr (w.drewN n) R p := ⟨h.at0, h.at1, h.fr⟩
theorem grownBy_drewN {a w : World} {row : Option Nat} (h : a.grownBy w row) (n : Nat) : a.grownBy (w.drewN n) row := ⟨h.os, h.tape, h.output, h.size, h.block⟩

theorem pick_any (R : Nat) (n : Int) (p : Nat) (w : World) (hp : p ≤ 1099511627776) (hr : Rdr w R p) (hn : n ≤ 1099511627776) :
    Calls Try.prog 55 #[.pointer (some ⟨R, 0, none⟩), .int .i64 n] w fun e w' => ∃ k : Int, e = .returned (.int .i64 k) ∧ 0 ≤ k ∧ (k < n ∨ k = 0) ∧ Rdr w' R (p + 1) ∧ w.grownBy w' (some R) := by
  have hr' := picked_rdr hr
  have hg := picked_grown w R p
  have Hr := Lib.hid hr'
  have Hg := Lib.hid hg; clear hg
  obtain ⟨⟨a, cap, zs, h0, hlen, hby, hbytes⟩, h1, hfr⟩ := hr
  have hs0 : (w.setCell ⟨R, 1, none⟩ (.int .i64 ((p : Int) + 1))).cell? ⟨R, 0, none⟩ = some (.slice a zs.length cap) := (World.cell?_setCell_other _ _ _ _ (by simp)).trans h0
  have hs1 : (w.setCell ⟨R, 1, none⟩ (.int .i64 ((p : Int) + 1))).cell? ⟨R, 1, none⟩ = some (.int .i64 ((p : Int) + 1)) := World.cell?_setCell_same _ _ _ h1
  clear hr'
  by_cases hn1 : n < 1
  · go_enter Try.func55, Try.ntmps55
    go_wp2
    go_ret
    exact ⟨0, rfl, by omega, .inr rfl, Hr.out, Hg.out⟩
  by_cases hz : zs.length < 1
  · have hz1 : ((zs.length : Int) == 0) = true := by rw [beq_iff_eq]; omega
    go_enter Try.func55, Try.ntmps55
    go_wp2
    go_ret
    exact ⟨0, rfl, by omega, .inr rfl, Hr.out, Hg.out⟩
  have hz1 : ((zs.length : Int) == 0) = false := by rw [beq_eq_false_iff_ne]; omega
  obtain ⟨b, off, rfl, hlt, hne, hc⟩ := hbytes.resolve_left hz
  have hcc : ∀ j (h : j < zs.length), (w.setCell ⟨R, 1, none⟩ (.int .i64 ((p : Int) + 1))).cell? ⟨b, off + j, none⟩ = some (.int .u8 zs[j]) := fun j hj => (World.cell?_setCell_other _ _ _ _ (by simp)).trans (hc j hj)
  clear hc
  have Hc := Lib.hid hcc; clear hcc
  have Hby := Lib.hid hby; clear hby
  by_cases hpl : p < zs.length
  · have hcell := Hc.out p hpl
    have hbd := Hby.out zs[p] (List.getElem_mem hpl)
    go_enter Try.func55, Try.ntmps55
    go_wp2
    go_ret
    exact ⟨zs[p] % n, rfl, Int.emod_nonneg _ (by omega), .inl (Int.emod_lt_of_pos _ (by omega)), Hr.out, Hg.out⟩
  · have hq1 : p % zs.length < zs.length := Nat.mod_lt _ (by omega)
    have hq2 : (p * 7 + 3) % zs.length < zs.length := Nat.mod_lt _ (by omega)
    have hcell1 := Hc.out _ hq1
    have hcell2 := Hc.out _ hq2
    obtain ⟨hb1, hb1'⟩ := Hby.out _ (List.getElem_mem hq1)
    obtain ⟨hb2, hb2'⟩ := Hby.out _ (List.getElem_mem hq2)
    have hdv : p / zs.length ≤ p := Nat.div_le_self _ _
    generalize zs[p % zs.length] = x1 at hcell1 hb1 hb1'
    generalize zs[(p * 7 + 3) % zs.length] = x2 at hcell2 hb2 hb2'
    have m1 : ((p : Int)).tmod zs.length = ((p % zs.length : Nat) : Int) := by rw [Int.tmod_eq_emod_of_nonneg (by omega)]; omega
    have m2 : ((p : Int) * 7 + 3).tmod zs.length = (((p * 7 + 3) % zs.length : Nat) : Int) := by rw [Int.tmod_eq_emod_of_nonneg (by omega), Int.natCast_emod]; rfl
    have m3 : ((p : Int)).tdiv zs.length = ((p / zs.length : Nat) : Int) := by rw [Int.tdiv_eq_ediv_of_nonneg (by omega)]; omega
    generalize hQ1 : p % zs.length = q1 at *
    generalize hQ2 : (p * 7 + 3) % zs.length = q2 at *
    generalize hQ3 : p / zs.length = q3 at *
    have HQ1 := Lib.hid hQ1; clear hQ1
    have HQ2 := Lib.hid hQ2; clear hQ2
    have HQ3 := Lib.hid hQ3; clear hQ3
    have i1 : (q1 : Int) < zs.length := by omega
    have i2 : (q2 : Int) < zs.length := by omega
    have e1 : IntKind.i64.wrap (x1 * 131) = x1 * 131 := IntWalk.i64_in _ (by omega)
    have e2 : IntKind.i64.wrap ((p : Int) * 7) = p * 7 := IntWalk.i64_in _ (by omega)
    have e3 : IntKind.i64.wrap ((p : Int) * 7 + 3) = p * 7 + 3 := IntWalk.i64_in _ (by omega)
    have e4 : IntKind.i64.wrap (x2 * 1117) = x2 * 1117 := IntWalk.i64_in _ (by omega)
    have e5 : IntKind.i64.wrap (x1 * 131 + x2 * 1117) = x1 * 131 + x2 * 1117 := IntWalk.i64_in _ (by omega)
    have e6 : IntKind.i64.wrap ((p : Int) * 29) = p * 29 := IntWalk.i64_in _ (by omega)
    have e7 : IntKind.i64.wrap (x1 * 131 + x2 * 1117 + (p : Int) * 29) = x1 * 131 + x2 * 1117 + p * 29 := IntWalk.i64_in _ (by omega)
    have e8 : IntKind.i64.wrap ((q3 : Int) * 53) = q3 * 53 := IntWalk.i64_in _ (by omega)
    have e9 : IntKind.i64.wrap (x1 * 131 + x2 * 1117 + (p : Int) * 29 + (q3 : Int) * 53) = x1 * 131 + x2 * 1117 + p * 29 + q3 * 53 := IntWalk.i64_in _ (by omega)
    have e10 : IntKind.i64.wrap x1 = x1 := IntWalk.i64_in _ (by omega)
    have e11 : IntKind.i64.wrap x2 = x2 := IntWalk.i64_in _ (by omega)
    have e12 : IntKind.i64.wrap (q3 : Int) = q3 := IntWalk.i64_in _ (by omega)
    have hX : ∃ X : Nat, x1 * 131 + x2 * 1117 + (p : Int) * 29 + (q3 : Int) * 53 = X ∧ X < 4611686018427387904 := ⟨(x1 * 131 + x2 * 1117 + (p : Int) * 29 + (q3 : Int) * 53).toNat, by omega, by omega⟩
    obtain ⟨X, hX, hXb⟩ := hX
    rw [hX] at e9
    have HX := Lib.hid hX; clear hX
    have hx1 := bits_xor_i64_nat X (X / 64) hXb (Nat.lt_of_le_of_lt (Nat.div_le_self _ _) hXb)
    have Hx1 := Lib.hid hx1; clear hx1
    go_enter Try.func55, Try.ntmps55
    go_wp2
    go_quiet (fail)
    clear e1 e2 e3 e4 e5 e6 e7 e8 e9 e10 e11 e12 m1 m2 m3
    go_wp2
    go_ret
    rw [HX.out, show (X : Int) / 64 = ((X / 64 : Nat) : Int) from by simp, Hx1.out, Int.tmod_eq_emod_of_nonneg (by omega)]
    exact ⟨_, rfl, Int.emod_nonneg _ (by omega), .inl (Int.emod_lt_of_pos _ (by omega)), Hr.out.drewN _, grownBy_drewN Hg.out _⟩

theorem rdr_new (w : World) (a : Option Addr) (cap n : Nat) (zs : List Int) (T : TypeId) (hn : n = zs.length) (hlen : zs.length ≤ 2000) (hby : ∀ z ∈ zs, 0 ≤ z ∧ z ≤ 255)
    (hc : zs.length < 1 ∨ ∃ b off, a = some ⟨b, off, none⟩ ∧ b < w.heap.size ∧ ∀ j (h : j < zs.length), w.cell? ⟨b, off + j, none⟩ = some (.int .u8 zs[j])) :
    Rdr (w.alloc (.cells #[.slice a n cap, .int .i64 0] T)) w.heap.size 0 := by
  subst hn
  refine ⟨⟨a, cap, zs, by rw [World.cell?_alloc_at _ _ _ _ rfl]; rfl, hlen, hby, ?_⟩, by rw [World.cell?_alloc_at _ _ _ _ rfl]; rfl, World.frozen?_alloc_at _ _ _ _ rfl⟩
  rcases hc with h | ⟨b, off, rfl, hlt, h⟩
  · exact .inl h
  · exact .inr ⟨b, off, rfl, by simp; omega, hlt, fun j hj => (World.cell?_alloc_past _ _ _ hlt).trans (h j hj)⟩

theorem open_any (a : Option Addr) (cap : Nat) (zs : List Int) (w : World) (h : CodeAt w a cap zs) :
    Calls Try.prog 41 #[.slice a zs.length cap] w fun e w' => ∃ R, e = .returned (.pointer (some ⟨R, 0, none⟩)) ∧ w.heap.size ≤ R ∧ R < w'.heap.size ∧ Rdr w' R 0 ∧ Below w.heap.size w w' := by
  obtain ⟨hbig, hcap, hby, hc⟩ := h
  by_cases hl : zs.length ≤ 2000
  · go_enter Try.func41, Try.ntmps41
    go_wp2
    go_ret
    exact ⟨w.heap.size, rfl, Nat.le_refl _, by simp, rdr_new w a cap _ zs _ rfl hl hby hc, (Below.refl _ _).alloc (Nat.le_refl _) _⟩
  · obtain ⟨b, off, rfl, hlt, hcc⟩ := hc.resolve_left (by omega)
    go_enter Try.func41, Try.ntmps41
    go_wp2
    go_ret
    have ht : (zs.take 2000).length = 2000 := by rw [List.length_take]; omega
    exact ⟨w.heap.size, rfl, Nat.le_refl _, by simp, rdr_new w _ cap 2000 (zs.take 2000) _ ht.symm (by omega) (fun z hz => hby z (List.mem_of_mem_take hz)) (.inr ⟨b, off, rfl, hlt, fun j hj => by rw [hcc j (by omega), List.getElem_take]⟩), (Below.refl _ _).alloc (Nat.le_refl _) _⟩

end Go.Proofs.Yteglefchkecfjaa

/- The draws of symbols and shards: what is drawn is short and lies in new memory; each by a walk of its text; condition: at most 10^5 picks. -/
namespace Go.Proofs.Yteglefchkecfjaa
open Go.RowKit

/-- Numbers between -1 and 251. -/
def Syms (xs : List Int) : Prop := ∀ x ∈ xs, -1 ≤ x ∧ x ≤ 251
theorem syms_app {xs zs : List Int} (h : Syms xs) (k : Syms zs) : Syms (xs ++ zs) := fun x hx => by
  rcases List.mem_append.1 hx with hx | hx
  · exact h x hx
  · exact k x hx
theorem syms_one {z : Int} (h1 : -1 ≤ z) (h2 : z ≤ 251) : Syms [z] := fun x hx => by simp at hx; subst hx; exact ⟨h1, h2⟩
theorem syms_set {xs : List Int} (h : Syms xs) (j : Nat) {z : Int} (h1 : -1 ≤ z) (h2 : z ≤ 251) : Syms (xs.set j z) := fun x hx => by
  rcases List.mem_or_eq_of_mem_set hx with hx | rfl
  · exact h x hx
  · exact ⟨h1, h2⟩
theorem sym3_at (k : Nat) (hk : k < 3) : ∃ z : Int, (#[Value.int .i64 (-1), .int .i64 250, .int .i64 251] : Array Value)[k]? = some (.int .i64 z) ∧ -1 ≤ z ∧ z ≤ 251 := by
  match k, hk with
  | 0, _ => exact ⟨-1, rfl, by omega, by omega⟩
  | 1, _ => exact ⟨250, rfl, by omega, by omega⟩
  | 2, _ => exact ⟨251, rfl, by omega, by omega⟩
theorem grown_row' {w a b : World} {R : Nat} {row : Option Nat} (h : w.grownBy a (some R)) (k : a.grownBy b row) (hr : ∀ g, row = some g → w.heap.size ≤ g) : w.grownBy b (some R) :=
  ⟨k.os.trans h.os, k.tape.trans h.tape, k.output.trans h.output, Nat.le_trans h.size k.size, fun i hi hne => (k.block i (Nat.lt_of_lt_of_le hi h.size) (fun e => by have := hr i e.symm; omega)).trans (h.block i hi hne)⟩
theorem below_of_row' {w w' : World} {R B : Nat} (h : w.grownBy w' (some R)) (hR : B ≤ R) (hB : B ≤ w.heap.size) : Below B w w' :=
  ⟨h.os, h.tape, h.output, h.size, fun k hk => h.block k (by omega) (fun e => by injection e with e; omega)⟩

theorem drawData (R p : Nat) (w : World) (hp : p ≤ 100000) (hr : Rdr w R p) (hR : R < w.heap.size) :
    Calls Try.prog 84 #[.pointer (some ⟨R, 0, none⟩)] w fun e w' => ∃ v xs p', e = .returned v ∧ Own 3 w' w.heap.size v xs ∧ xs.length ≤ 24 ∧ Syms xs ∧ Rdr w' R p' ∧ p' ≤ p + 60 ∧ w.grownBy w' (some R) := by
  have Hr1 := Lib.hid (hr.alloc (.cells #[] 3)); clear hr
  go_enter Try.func84, Try.ntmps84
  go_wp2_with fail
  go_loopw [3, 4] (fun v i wr => ∃ xs q, xs.length ≤ 12 ∧ i = .int .i64 (List.length (α := Int) xs) ∧ Own 3 wr w.heap.size v xs ∧ Syms xs ∧ Rdr wr R q ∧ q ≤ p + 2 * xs.length ∧ w.grownBy wr (some R)) (fun _ i _ => 13 - (intOf i).toNat)
  case atStart => exact ⟨[], p, by simp, rfl, own_empty _ _ (Nat.le_refl _), by intro x hx; simp at hx, Hr1.out, by simp, World.grownBy_alloc _ _ _⟩
  case round =>
    obtain ⟨xs, q, hx12, rfl, hown, hsm, hrd, hq, hgr⟩ := hrel
    have Hrd := Lib.hid hrd; clear hrd
    have Hown := Lib.hid hown; clear hown
    go_wp2_with fail
    refine (pick_any R 12 q _ (by omega) Hrd.out (by omega)).mono ?_
    rintro e w2 ⟨m, rfl, hm0, hm1, hr2, hg2⟩
    have Hr2 := Lib.hid hr2; clear hr2
    have Hg2 := Lib.hid (grownBy_trans hgr hg2)
    have Ho2 := Lib.hid (Hown.out.kept hg2 (.inr (fun e => by have := (Hown.out.lt R e).1; omega)))
    clear hg2
    by_cases hlt : (xs.length : Int) < 1 + m
    · go_wp2_with fail
      refine (pick_any R 251 (q + 1) _ (by omega) Hr2.out (by omega)).mono ?_
      rintro e w3 ⟨x, rfl, hx0, hx1, hr3, hg3⟩
      have Hr3 := Lib.hid hr3; clear hr3
      have Hg3 := Lib.hid (grownBy_trans Hg2.out hg3)
      have Ho3 := Lib.hid (Ho2.out.kept hg3 (.inr (fun e => by have := (Ho2.out.lt R e).1; omega)))
      clear hg3
      have hB := Hg3.out.size
      go_wp2_with (at_builtin; refine wpList_push TI3 rfl (.tmp 13) (.tmp 16) rfl w.heap.size _ xs _ rfl Ho3.out (by omega) rfl hB ?_; intro v' w5 hown5 hg5)
      have Hr5 := Lib.hid (Hr3.out.kept hg5 (fun g e => by have := (Ho3.out.lt g e).1; omega))
      have Hg5 := Lib.hid (grown_row' Hg3.out hg5 (fun g e => (Ho3.out.lt g e).1))
      clear hg5
      go_roundw
      case rel => exact ⟨_, q + 2, by simp; omega, by simp, hown5, syms_app hsm (syms_one (by omega) (by omega)), Hr5.out, by simp; omega, Hg5.out⟩
      case measure => simp [intOf]; omega
    · obtain ⟨g, cap, rfl, hgB, hgs, hcap, hcells, hfz⟩ := Ho2.out.row (by omega)
      clear hcells hfz
      go_wp2_with fail
      refine (pick_any R 20 (q + 1) _ (by omega) Hr2.out (by omega)).mono ?_
      rintro e w3 ⟨x, rfl, hx0, hx1, hr3, hg3⟩
      have Hr3 := Lib.hid hr3; clear hr3
      have Hg3 := Lib.hid (grownBy_trans Hg2.out hg3)
      have Ho3 := Lib.hid (Ho2.out.kept hg3 (.inr (by simp [Value.ownBlock]; omega)))
      have hB := Hg3.out.size
      clear hg3
      by_cases h0 : x = 0
      · subst h0
        go_wp2_with fail
        refine (pick_any R xs.length (q + 2) _ (by omega) Hr3.out (by omega)).mono ?_
        rintro e w4 ⟨y, rfl, hy0, hy1, hr4, hg4⟩
        obtain ⟨y, rfl⟩ := Int.eq_ofNat_of_zero_le hy0
        have Hr4 := Lib.hid hr4; clear hr4
        have Hg4 := Lib.hid (grownBy_trans Hg3.out hg4)
        have Ho4 := Lib.hid (Ho3.out.kept hg4 (.inr (by simp [Value.ownBlock]; omega)))
        clear hg4
        go_wp2_with fail
        refine (pick_any R 3 (q + 3) _ (by omega) (Hr4.out.alloc (.cells #[.int .i64 (-1), .int .i64 250, .int .i64 251] 3)) (by omega)).mono ?_
        rintro e w5 ⟨u, rfl, hu0, hu1, hr5, hg5⟩
        obtain ⟨u, rfl⟩ := Int.eq_ofNat_of_zero_le hu0
        obtain ⟨z, hz, hz1, hz2⟩ := sym3_at u (by omega)
        have hRs4 := Hr4.out.lt
        have hlit := lit_cell hg5 (by simp; omega) hz
        have hg5 := grownBy_trans (World.grownBy_alloc w4 (.cells #[.int .i64 (-1), .int .i64 250, .int .i64 251] 3) _) hg5
        have hu3 : u < 3 := by omega
        have hu3' : (u : Int) < 3 := by omega
        have Hr5 := Lib.hid hr5; clear hr5 hz
        have Hg5 := Lib.hid (grownBy_trans Hg4.out hg5)
        have Ho5 := Lib.hid (Ho4.out.kept hg5 (.inr (by simp [Value.ownBlock]; omega)))
        have hyx : y < xs.length := by omega
        obtain ⟨g', cap', hv', hgB', hgs', hcap', hcells', hfz'⟩ := Ho5.out.row (by omega)
        simp only [Value.slice.injEq, Option.some.injEq, Addr.mk.injEq, and_true, true_and] at hv'
        obtain ⟨rfl, rfl⟩ := hv'
        have hold := hcells' y hyx
        have hfr := hfz' y
        clear hg5 hcells' hfz' hgs' hy0 hy1
        go_wp2
        go_ret
        have hst := Ho5.out.store rfl y z
        exact ⟨_, _, _, rfl, hst.1, by simp; omega, syms_set hsm y hz1 hz2, Hr5.out.kept hst.2 (fun g' e => by simp at e; omega), by omega, grown_row' Hg5.out hst.2 (fun g' e => by simp at e; omega)⟩
      have h0' : (x == 0) = false := by rw [beq_eq_false_iff_ne]; exact h0
      by_cases h1 : x = 1
      · subst h1
        obtain ⟨g', cap', hv', hgB', hgs', hcap', hcells', hfz'⟩ := Ho3.out.row (by omega)
        simp only [Value.slice.injEq, Option.some.injEq, Addr.mk.injEq, and_true, true_and] at hv'
        obtain ⟨rfl, rfl⟩ := hv'
        have Hcl := Lib.hid (show ∀ j (h : j < xs.length), w3.cell? ((⟨g, 0, none⟩ : Addr).add j) = some (.int .i64 xs[j]) from fun j hj => by rw [addr_add]; exact hcells' j hj)
        clear hcells' hfz' hgs'
        go_wp2_with (at_builtin; refine wpList_app TI3 rfl (.tmp 35) (.tmp 36) rfl w.heap.size _ xs xs ⟨g, 0, none⟩ _ _ rfl rfl Ho3.out rfl Hcl.out (by omega) hB ?_; intro v5 w5 hown5 hg5)
        go_ret
        exact ⟨_, _, _, rfl, hown5, by simp; omega, syms_app hsm hsm, Hr3.out.kept hg5 (fun g' e => by have := (Ho3.out.lt g' e).1; omega), by omega, grown_row' Hg3.out hg5 (fun g' e => (Ho3.out.lt g' e).1)⟩
      have h1' : (x == 1) = false := by rw [beq_eq_false_iff_ne]; exact h1
      by_cases h2 : x = 2
      · subst h2
        go_wp2
        go_ret
        exact ⟨_, _, _, rfl, Ho3.out.front 0 (by omega), by simp, by intro z hz; simp at hz, Hr3.out, by omega, Hg3.out⟩
      have h2' : (x == 2) = false := by rw [beq_eq_false_iff_ne]; exact h2
      go_wp2
      go_ret
      exact ⟨_, _, _, rfl, Ho3.out, by omega, hsm, Hr3.out, by omega, Hg3.out⟩

end Go.Proofs.Yteglefchkecfjaa

/- Lists of shards read, cut and joined; plain steps on lists and memory, no walk and no condition of our own. -/
namespace Go.Proofs.Yteglefchkecfjaa
open Go.RowKit

theorem shsB_of {cols : Nat} {L : List Sh} (h : ∀ k (hk : k < L.length), (1 ≤ L[k].1 ∧ L[k].1 ≤ 8) ∧ L[k].2.length = cols ∧ ∀ y ∈ L[k].2, 0 ≤ y ∧ y ≤ 250) (hd : ∀ j k (hj : j < L.length) (hk : k < L.length), j < k → L[j].1 ≠ L[k].1) : shsB cols L = true := by
  refine allB_yes (k := L.length) (fun k hk => ?_) (Nat.le_refl _)
  obtain ⟨h1, h2, h3⟩ := h k hk
  unfold shAt okS newAt
  rw [getS hk, decide_eq_true h1, decide_eq_true h2, show L[k].2.all symB = true from List.all_eq_true.2 fun y hy => symB_yes (h3 y hy)]
  rw [Bool.true_and, Bool.true_and, Bool.true_and]
  refine allB_yes (k := k) (fun j hj => ?_) (Nat.le_refl _)
  have e1 : xsOf L j = L[j].1 := by unfold xsOf; rw [getS (by omega)]
  have e2 : xsOf L k = L[k].1 := by unfold xsOf; rw [getS hk]
  rw [e1, e2]
  exact decide_eq_true (hd j k (by omega) hk hj)
theorem shardV_bd {d : List Int} {need : Nat} {x : Int} : ∀ y ∈ shardV d need x, 0 ≤ y ∧ y ≤ 250 := by
  intro y hy
  obtain ⟨j, hj, rfl⟩ := List.mem_iff_getElem.1 hy
  rw [shardV_get]; exact valZ_bd _ _ _ _
/-- Shards of data, with different numbers, are joined to the data. -/
theorem join_of {d : List Int} {need : Nat} {L : List Sh} (hd : dataB d need = true) (hn : need ≤ L.length) (h8 : L.length ≤ 8) (hv : ∀ k (hk : k < L.length), (1 ≤ L[k].1 ∧ L[k].1 ≤ 8) ∧ L[k].2 = shardV d need L[k].1) (hne : ∀ j k (hj : j < L.length) (hk : k < L.length), j < k → L[j].1 ≠ L[k].1) :
    joinB d.length need L = true ∧ joinD d.length need L = d := by
  have hs : shsB (colsN d need) L = true := shsB_of (fun k hk => ⟨(hv k hk).1, by rw [(hv k hk).2, shardV_len], by rw [(hv k hk).2]; exact shardV_bd⟩) hne
  have hm : ∀ s ∈ L, s.2 = shardV d need s.1 := by
    intro s h
    obtain ⟨k, hk, rfl⟩ := List.mem_iff_getElem.1 h
    exact (hv k hk).2
  have hD := dataI_eq hd hn hs hm
  obtain ⟨_, ⟨hl1, hl2⟩, hn1, hn8⟩ := dataB_iff hd
  have hJ : joinOk d.length need L = true := by
    unfold joinOk lenB
    simp only [Int.toNat_natCast]
    rw [decide_eq_true (by omega), decide_eq_true (by omega), decide_eq_true (by omega)]
    exact hs
  have hall : L.all (matB (dataI (d.length : Int).toNat (need : Int).toNat L) need) = true := by
    simp only [Int.toNat_natCast]
    rw [hD, List.all_eq_true]
    intro s h
    obtain ⟨k, hk, rfl⟩ := List.mem_iff_getElem.1 h
    rw [matB_yes hd (hv k hk).1]
    exact decide_eq_true (hv k hk).2.symm
  have := join_yes hJ hall
  simp only [Int.toNat_natCast] at this
  rw [hD] at this
  exact this
/-- What is joined has all the shards. -/
theorem join_has {size need : Nat} {L : List Sh} (h : joinB size need L = true) : ∃ D : List Int, D.length = size ∧ dataB D need = true ∧ ∀ k (hk : k < L.length), (1 ≤ L[k].1 ∧ L[k].1 ≤ 8) ∧ shardV D need L[k].1 = L[k].2 := by
  unfold joinB at h
  rw [Bool.and_eq_true] at h
  simp only [Int.toNat_natCast] at h
  obtain ⟨hJ, hall⟩ := h
  obtain ⟨_, _, ⟨hn, _⟩, _⟩ := joinOk_iff hJ
  rw [List.all_eq_true] at hall
  have hJ' := joinOk_iff hJ
  have h0 : 0 < L.length := by omega
  have hd : dataB (dataI size need L) need = true := by
    have := hall _ (List.getElem_mem h0)
    unfold matB at this
    simp only [Bool.and_eq_true] at this
    exact this.1.1
  refine ⟨dataI size need L, dataI_len _ _ _, hd, fun k hk => ?_⟩
  have := hall _ (List.getElem_mem hk)
  unfold matB at this
  simp only [Bool.and_eq_true, decide_eq_true_eq, Int.toNat_natCast] at this
  exact ⟨this.1.2, this.2⟩
theorem mod_ne {i j m many : Nat} (h1 : j < i) (h2 : i < many) : (j + m) % many ≠ (i + m) % many := by
  intro e
  have h := Nat.sub_mod_eq_zero_of_mod_eq e.symm
  rw [show i + m - (j + m) = i - j by omega, Nat.mod_eq_of_lt (by omega)] at h
  omega

/-! memory -/
theorem Rd.take {w : World} {L : List Sh} {a : Option Addr} {n cap : Nat} {fp : List Nat} (h : Rd w (.l (L.map shardD)) (.slice a n cap) fp) (k : Nat) (hk : k ≤ L.length) : ∃ fp', Rd w (.l ((L.take k).map shardD)) (.slice a k cap) fp' ∧ ∀ r ∈ fp', r ∈ fp := by
  rcases Nat.eq_zero_or_pos k with h0 | h0
  · subst h0; exact ⟨[], .nil _ _ (fun e => by subst e; exact h.nilcap), by simp⟩
  · have hpos : 0 < (L.map shardD).length := by rw [List.length_map]; omega
    obtain ⟨g, off, rfl, hg, hgf, hn, hcap, hc⟩ := Rd.at h hpos (sz := 2) (by intro e he; obtain ⟨s, _, rfl⟩ := List.mem_map.1 he; rfl)
    have hex : ∀ i j, ∃ p : Value × List Nat, ∀ (_ : i < (L.map shardD).length) (_ : j < 2), w.cell? ⟨g, off + (i * 2 + j), none⟩ = some p.1 ∧ (∀ (hi : i < (L.map shardD).length) (hj : j < ((L.map shardD)[i]).length), Rd w (((L.map shardD)[i])[j]) p.1 p.2) ∧ ∀ r ∈ p.2, r ∈ fp := by
      intro i j
      by_cases hi : i < (L.map shardD).length
      · by_cases hj : j < 2
        · obtain ⟨v, fp', h1, h2, h3⟩ := hc i j hi (by rw [List.getElem_map]; exact hj)
          exact ⟨(v, fp'), fun _ _ => ⟨h1, fun _ _ => h2, h3⟩⟩
        · exact ⟨(undef, []), fun _ h => absurd h hj⟩
      · exact ⟨(undef, []), fun h _ => absurd h hi⟩
    obtain ⟨F, hF⟩ : ∃ F : Nat → Nat → Value × List Nat, ∀ i j (_ : i < (L.map shardD).length) (_ : j < 2), w.cell? ⟨g, off + (i * 2 + j), none⟩ = some (F i j).1 ∧ (∀ (hi : i < (L.map shardD).length) (hj : j < ((L.map shardD)[i]).length), Rd w (((L.map shardD)[i])[j]) (F i j).1 (F i j).2) ∧ ∀ r ∈ (F i j).2, r ∈ fp :=
      ⟨fun i j => Classical.choose (hex i j), fun i j => Classical.choose_spec (hex i j)⟩
    have hlt : ((L.take k).map shardD).length = k := by simp; omega
    have hr := Rd.l (w := w) 2 ((L.take k).map shardD) g off cap (fun i j => (F i j).1) (fun i j => (F i j).2) (by rw [hlt]; exact h0) (by intro e he; obtain ⟨s, _, rfl⟩ := List.mem_map.1 he; rfl)
      (by rw [hlt]; rw [List.length_map] at hn; omega) hg (fun i j hi hj => (hF i j (by rw [hlt] at hi; rw [List.length_map]; omega) hj).1)
      (fun i j hi hj => by
        have hi' : i < (L.map shardD).length := by rw [hlt] at hi; rw [List.length_map]; omega
        have hj2 : j < 2 := by rw [List.getElem_map] at hj; exact hj
        have := (hF i j hi' hj2).2.1 hi' (by rw [List.getElem_map]; exact hj2)
        simp only [List.getElem_map, List.getElem_take] at this ⊢
        exact this)
    rw [hlt] at hr
    refine ⟨_, hr, fun r hm => ?_⟩
    rcases List.mem_cons.1 hm with rfl | hm
    · exact hgf
    · obtain ⟨i, hi, hm⟩ := List.mem_flatMap.1 hm
      obtain ⟨j, hj, hm⟩ := List.mem_flatMap.1 hm
      rw [List.mem_range] at hi hj
      exact (hF i j (by rw [List.length_map]; omega) hj).2.2 r hm
/-- An element of a list of shards: its cells, and what its values read as. -/
theorem row_of_list {w : World} {L : List Sh} {a : Option Addr} {n cap : Nat} {fp : List Nat} (h : Rd w (.l (L.map shardD)) (.slice a n cap) fp) (hne : 0 < L.length) :
    ∃ g off, a = some ⟨g, off, none⟩ ∧ g < w.heap.size ∧ ∀ k (hk : k < L.length), ∃ av cv fp', w.cell? ⟨g, off + k * 2, none⟩ = some (.int .i64 L[k].1) ∧ w.cell? ⟨g, off + k * 2 + 1, none⟩ = some (.slice av L[k].2.length cv) ∧ IntsAt w av L[k].2 ∧
      Rd w (intsD L[k].2) (.slice av L[k].2.length cv) fp' ∧ ∀ r ∈ fp', r ∈ fp := by
  obtain ⟨g, off, rfl, hg, hgf, hn, hcap, hc⟩ := Rd.at h (by rw [List.length_map]; exact hne) (sz := 2) (by intro e he; obtain ⟨s, _, rfl⟩ := List.mem_map.1 he; rfl)
  refine ⟨g, off, rfl, hg, fun k hk => ?_⟩
  have hk' : k < (L.map shardD).length := by rw [List.length_map]; exact hk
  obtain ⟨v0, f0, c0, r0, _⟩ := hc k 0 hk' (by rw [List.getElem_map]; show 0 < 2; omega)
  obtain ⟨v1, f1, c1, r1, s1⟩ := hc k 1 hk' (by rw [List.getElem_map]; show 1 < 2; omega)
  have r0' : Rd w (.i L[k].1) v0 f0 := by simpa [shardD] using r0
  have r1' : Rd w (intsD L[k].2) v1 f1 := by simpa [shardD] using r1
  obtain ⟨rfl, _⟩ := r0'.int
  obtain ⟨av, cv, rfl, _, hi⟩ := r1'.ints
  exact ⟨av, cv, f1, by simpa using c0, by simpa [Nat.add_assoc] using c1, hi, r1', s1⟩
/-- The element's cells, for a list that is built of it. -/
theorem cells_of_row {w : World} {B : Nat} {blk : Option Nat} {x : Int} {av : Option Addr} {cv : Nat} {vs : List Int} {fp : List Nat} (h : Rd w (intsD vs) (.slice av vs.length cv) fp) (hf : ∀ r ∈ fp, B ≤ r ∧ blk ≠ some r) :
    CellsRd w B blk [.int .i64 x, .slice av vs.length cv] [.i x, intsD vs] := by
  intro j hj
  match j, hj with
  | 0, _ => exact ⟨_, [], rfl, .i _, by simp⟩
  | 1, _ => exact ⟨_, fp, rfl, h, hf⟩

/-- 'append(s, rest...)', elements of a struct type, s empty. -/
theorem wpList_spread {P : Program} {T E : TypeId} {z0 : Value} {sz bytes : Nat} (hsl : P.underlying T = some (.slice E)) (hinf : (P.info? E).map (fun i => (i.zero, i.size, i.bytes)) = some (some z0, sz, bytes)) (hz0 : z0.cells.size = sz) (hpos : 0 < sz) (hby : bytes ≤ 1000)
    {w : World} {ops : Array Oper} {rest : List Oper} {o : Oper} {a : Act} {Q : Exit → Act → World → Prop} (hgd : o.guard = none) (s x : Operand) (ho : o.op = .call { callee := .builtin .append, args := #[s, x], argTypes := #[T, T] }) (B : Nat) (v : Value) (hs : a.eval s = v) (hown : w.ownsRow B E sz v 0 [])
    (ad : Addr) (n c : Nat) (hx : a.eval x = .slice (some ad) n c) (vals : List Value) (hvl : vals.length = n * sz) (hcell : ∀ j u, vals[j]? = some u → w.cell? (ad.add j) = some u) (h1c : ∀ u ∈ vals, u.oneCell' = true) (hlen : n ≤ 1000000) (hB : B ≤ w.heap.size)
    (h : ∀ v' w', w'.ownsRow B E sz v' n vals → w.grownBy w' v.ownBlock → (v'.ownBlock = v.ownBlock ∨ v'.ownBlock = some w.heap.size) → wpList P ops Q rest (a.put o.dst v') w') : wpList P ops Q (o :: rest) a w := by
  refine wpList_want (by unfold Region.wanted; rw [hgd]) fun K hK => ?_
  obtain ⟨i, hi, hz, hsz, hbb⟩ := info_parts hinf
  obtain ⟨v', w', hrun, h1, h2, _, h4⟩ := run_append_own_at (P := P) w B T o.type E i z0 sz bytes hsl hi hz hsz hbb hz0 hpos v 0 [] hown ad n c vals hvl hcell h1c (by unfold maxLen; omega) (by
    have := Nat.mul_le_mul (show 0 + n ≤ 1000000 by omega) hby; omega) hB
  unfold Oper.wp execOp
  simp only [ho, resolve, invoke, builtin, Sem.run_bind, Sem.run_pure, Result.andThen_ok, List.map_toArray, List.map_cons, List.map_nil, hs, hx, hrun]
  refine hK _ _ (h v' w' ?_ h2 h4)
  simpa using h1
/-- A row of shards' cells reads as the shards. -/
theorem rd_of_row {E : TypeId} {w : World} {B g n cap : Nat} {cs : List Value} {L : List Sh} (h : w.ownsRow B E 2 (.slice (some ⟨g, 0, none⟩) n cap) n cs) (hn : n = L.length) (hpos : 0 < n) (hcap : n ≤ cap)
    (hc : ∀ k (hk : k < L.length), cs[k * 2]? = some (.int .i64 L[k].1) ∧ ∃ c fp, cs[k * 2 + 1]? = some c ∧ Rd w (intsD L[k].2) c fp) : ∃ fp, Rd w (.l (L.map shardD)) (.slice (some ⟨g, 0, none⟩) L.length cap) fp := by
  subst hn
  have hex : ∀ k j, ∃ p : Value × List Nat, ∀ (hk : k < L.length) (_ : j < 2), cs[k * 2 + j]? = some p.1 ∧ ∀ (hj : j < (shardD L[k]).length), Rd w ((shardD L[k])[j]) p.1 p.2 := by
    intro k j
    by_cases hk : k < L.length
    · obtain ⟨h0, c, fp, h1, h2⟩ := hc k hk
      match j with
      | 0 => exact ⟨(.int .i64 L[k].1, []), fun _ _ => ⟨h0, fun _ => .i _⟩⟩
      | 1 => exact ⟨(c, fp), fun _ _ => ⟨h1, fun _ => h2⟩⟩
      | j + 2 => exact ⟨(undef, []), fun _ h => by omega⟩
    · exact ⟨(undef, []), fun h => absurd h hk⟩
  obtain ⟨F, hF⟩ : ∃ F : Nat → Nat → Value × List Nat, ∀ k j (hk : k < L.length) (_ : j < 2), cs[k * 2 + j]? = some (F k j).1 ∧ ∀ (hj : j < (shardD L[k]).length), Rd w ((shardD L[k])[j]) (F k j).1 (F k j).2 :=
    ⟨fun k j => Classical.choose (hex k j), fun k j => Classical.choose_spec (hex k j)⟩
  have hml : (L.map shardD).length = L.length := List.length_map _
  have := Rd.l (w := w) 2 (L.map shardD) g 0 cap (fun k j => (F k j).1) (fun k j => (F k j).2) (by omega) (by intro e he; obtain ⟨s, _, rfl⟩ := List.mem_map.1 he; rfl) (by omega) (h.lt g rfl).2
    (fun k j hk hj => by
      have := World.ownsRow.cells h (g := g) rfl _ _ (hF k j (by omega) hj).1
      rw [addr_add] at this
      rw [Nat.zero_add]; exact this)
    (fun k j hk hj => by
      have hk' : k < L.length := by omega
      simp only [List.getElem_map] at hj ⊢
      exact (hF k j hk' hj).2 hj)
  rw [hml] at this
  exact ⟨_, this⟩
/-- A shard that was changed is found out. -/
theorem wrong_shard {d : List Int} {need many kk : Nat} {ys : List Int} (hd : dataB d need = true) (hm : need + 1 ≤ many) (h8 : many ≤ 8) (hk : kk < need + 1) (h : joinB d.length need (((List.range (need + 1)).map (shardZ d need)).set kk ((kk : Int) + 1, ys)) = true) : ys = shardV d need ((kk : Int) + 1) := by
  obtain ⟨D, hDl, hDd, hall⟩ := join_has h
  obtain ⟨hd0, ⟨_, hd2⟩, hn1, hn8⟩ := dataB_iff hd
  obtain ⟨hD0, _, _, _⟩ := dataB_iff hDd
  have hget : ∀ j, j < need + 1 → j ≠ kk → shardV D need ((j : Int) + 1) = shardV d need ((j : Int) + 1) := by
    intro j hj hne
    have := (hall j (by simp; omega)).2
    rw [List.getElem_set_ne (fun h => hne h.symm)] at this
    simpa [shardZ] using this
  have hsame : D = d := uniq_data (need := need) (by omega) (by omega) hD0 hd0 (by omega) hDl (xs := fun j => if j < kk then (j : Int) + 1 else (j : Int) + 2) (fun i j hi hj => by
      rintro ⟨q, e⟩
      by_cases h1 : i < kk
      · simp only [if_pos h1, if_pos (show j < kk by omega)] at e; omega
      · by_cases h2 : j < kk
        · simp only [if_neg h1, if_pos h2] at e; omega
        · simp only [if_neg h1, if_neg h2] at e; omega)
    (fun j hj => by
      by_cases h1 : j < kk
      · simp only [if_pos h1]; exact hget j (by omega) (by omega)
      · simp only [if_neg h1]
        have := hget (j + 1) (by omega) (by omega)
        rwa [show (((j + 1 : Nat) : Int) + 1) = (j : Int) + 2 by omega] at this)
  have := (hall kk (by simp; omega)).2
  simp only [List.getElem_set_self] at this
  rw [← this, hsame]

theorem row_form {E : TypeId} {sz : Nat} {w : World} {B n : Nat} {v : Value} {cs : List Value} (h : w.ownsRow B E sz v n cs) (hn : 0 < n) : ∃ g cap, v = .slice (some ⟨g, 0, none⟩) n cap ∧ B ≤ g ∧ g < w.heap.size ∧ n ≤ cap := by
  rcases h.2 with ⟨_, h0⟩ | ⟨g, cap, cur, rfl, hb, hg, hc, _⟩
  · omega
  · exact ⟨g, cap, rfl, hb, (h.lt g rfl).2, hc⟩

end Go.Proofs.Yteglefchkecfjaa

/- The draw of shards, some of them spoilt: what is drawn reads as a list of shards; by a walk of its text; condition: at most 10^4 picks before. -/
namespace Go.Proofs.Yteglefchkecfjaa
open Go.RowKit

/-- What is drawn. -/
def ShPost (w : World) (R : Nat) : Ending → World → Prop := fun e w' => ∃ (size need : Int) (v : Value) (L : List (Int × List Int)) (fp : List Nat), e = .returned (.tuple #[.int .i64 size, .int .i64 need, v]) ∧ Rd w' (.l (L.map shardD)) v fp ∧ L.length ≤ 8 ∧ (∀ s ∈ L, s.2.length ≤ 20) ∧
  (-100 ≤ size ∧ size ≤ 100) ∧ (-100 ≤ need ∧ need ≤ 100) ∧ w.grownBy w' (some R)
theorem shard_cells {w : World} {L : List (Int × List Int)} {a : Option Addr} {n cap : Nat} {fp : List Nat} (h : Rd w (.l (L.map shardD)) (.slice a n cap) fp) {k : Nat} (hk : k < L.length) {B : Nat} {blk : Option Nat} (hf : ∀ r ∈ fp, B ≤ r ∧ blk ≠ some r) :
    ∃ g off av cv, a = some ⟨g, off, none⟩ ∧ g < w.heap.size ∧ g ∈ fp ∧ w.cell? ⟨g, off + k * 2, none⟩ = some (.int .i64 L[k].1) ∧ w.cell? ⟨g, off + k * 2 + 1, none⟩ = some (.slice av L[k].2.length cv) ∧ IntsAt w av L[k].2 ∧ SrcAt w av cv L[k].2 ∧ CellsRd w B blk [.int .i64 L[k].1, .slice av L[k].2.length cv] (shardD L[k]) := by
  obtain ⟨g, off, rfl, hg, hgf, _, _, hc⟩ := Rd.at h (by simp; omega) (sz := 2) (by intro e he; simp at he; obtain ⟨x, y, _, rfl⟩ := he; rfl)
  have hk' : k < (L.map shardD).length := by simpa using hk
  have he : (L.map shardD)[k] = shardD L[k] := by simp
  obtain ⟨c0, f0, h0, r0, s0⟩ := hc k 0 hk' (by rw [he]; simp [shardD])
  obtain ⟨c1, f1, h1, r1, s1⟩ := hc k 1 hk' (by rw [he]; simp [shardD])
  have r0' : Rd w (.i L[k].1) c0 f0 := by simpa [shardD] using r0
  have r1' : Rd w (intsD L[k].2) c1 f1 := by simpa [shardD] using r1
  obtain ⟨rfl, rfl⟩ := r0'.int
  obtain ⟨av, cv, rfl, hi, hs⟩ := rd_ls (f := .l L[k].2) (show Rd w (Fd.l L[k].2).dt c1 f1 from r1') rfl
  refine ⟨g, off, av, cv, rfl, hg, hgf, by simpa using h0, h1, hi, hs, fun j hj => ?_⟩
  match j, hj with
  | 0, _ => exact ⟨_, [], rfl, .i _, by simp⟩
  | 1, _ => exact ⟨_, f1, rfl, r1', fun r hr => hf r (s1 r hr)⟩

theorem srcAt_under {w w' : World} {a : Option Addr} {c : Nat} {xs : List Int} (h : SrcAt w a c xs) (hi : IntsAt w a xs) (hb : Below w.heap.size w w') : SrcAt w' a c xs := by
  rcases h with h | ⟨ad, rfl, hc⟩
  · exact .inl h
  · refine .inr ⟨ad, rfl, fun j hj => ?_⟩
    obtain ⟨b, off, e, hbb, _⟩ := hi.cell (by omega)
    cases e
    have := hc j hj
    rw [addr_add'] at this ⊢
    exact (hb.cell (p := ⟨b, off + j, none⟩) hbb).trans this
theorem shards_cap {w : World} {L : List (Int × List Int)} {a : Option Addr} {n cap : Nat} {fp : List Nat} (h : Rd w (.l (L.map shardD)) (.slice a n cap) fp) (hne : 0 < L.length) : n ≤ cap := by
  obtain ⟨_, _, _, _, _, _, h', _⟩ := Rd.at h (by simpa using hne) (sz := 2) (by intro e he; simp at he; obtain ⟨x, y, _, rfl⟩ := he; rfl)
  exact h'

theorem TShs : (Try.prog.info? 32).map (fun i => (i.zero, i.size, i.bytes)) = some (some (.agg #[.int .i64 0, .slice none 0 0]), 2, 32) := by kernel_rfl
set_option maxRecDepth 8000 in
set_option maxHeartbeats 4000000 in
theorem drawShards (R p : Nat) (w : World) (hp : p ≤ 10000) (hr : Rdr w R p) (hR : R < w.heap.size) :
    Calls Try.prog 40 #[.pointer (some ⟨R, 0, none⟩)] w (ShPost w R) := by
  have HD := Lib.hid (drawData R p w (by omega) hr hR)
  clear hr
  go_enter Try.func40, Try.ntmps40
  go_wp2_with fail
  refine HD.out.mono ?_
  rintro e w1 ⟨vd, xs, p1, rfl, ho1, hxl, hsy, hr1, hp1, hg1⟩
  obtain ⟨ad, cd, rfl, _, _⟩ := ho1.ints
  have Ho1 := Lib.hid ho1
  have Hr1 := Lib.hid hr1
  have Hg1 := Lib.hid hg1
  have hs1 := hg1.size
  clear ho1 hr1 hg1 hsy
  go_wp2_with fail
  refine (pick_any R 5 p1 w1 (by omega) Hr1.out (by omega)).mono ?_
  rintro e w2 ⟨n0, rfl, hn0, hn1, hr2, hg2⟩
  have Hr2 := Lib.hid hr2
  have Hg2 := Lib.hid (grownBy_trans Hg1.out hg2)
  have Ho2 := Lib.hid (Ho1.out.kept hg2 (.inr (fun e => by have := (Ho1.out.lt R e).1; omega)))
  have hs2 := hg2.size
  clear hr2 hg2
  have HM := Lib.hid (spec_ShardMakeO ad cd xs (1 + n0) 8 w2 (by omega) (IntsAt_own Ho2.out))
  go_wp2_with fail
  refine HM.out.mono ?_
  rintro e w3 ⟨va, rfl, hbA, hb3⟩
  have hAl := makeZ_len (d := xs) (need := 1 + n0) (many := 8)
  have hAi := makeZ_in (d := xs) (need := 1 + n0) (many := 8)
  obtain ⟨A, hA⟩ : ∃ A, makeZ xs (1 + n0) 8 = A := ⟨_, rfl⟩
  rw [hA] at hAl hAi hbA
  clear hA HM
  obtain ⟨aa, ca, rfl, _⟩ := hbA.slice
  rw [List.length_map] at hbA ⊢
  have hs3 := hb3.size
  have hRlt : R < w2.heap.size := by omega
  obtain ⟨Nf, hNf⟩ : ∃ Nf : Nat → Prop, Nf = fun r => w2.heap.size ≤ r ∧ r < w3.heap.size ∧ r ≠ R ∧ ∀ j, w3.frozen? ⟨r, j, none⟩ = false := ⟨_, rfl⟩
  have HN := Lib.hid (show ∀ r, Nf r → w2.heap.size ≤ r ∧ r < w3.heap.size ∧ r ≠ R ∧ ∀ j, w3.frozen? ⟨r, j, none⟩ = false from fun r h => by rw [hNf] at h; exact h)
  have Hall := Lib.hid (fun k (hk : k < A.length) => made_rows hbA Nf (fun r h1 h2 h3 => by rw [hNf]; exact ⟨h1, h2, by omega, h3⟩) hk)
  have HAi := Lib.hid hAi
  have Hr3 := Lib.hid (Hr2.out.kept (below_grown hb3) (fun _ e => by cases e))
  have Hg3 := Lib.hid (grown_row' Hg2.out (below_grown hb3) (fun _ e => by cases e))
  clear hbA hAi hb3 hNf
  have hbE : Below w3.heap.size w3 (w3.alloc (.cells #[] 32)) := (Below.refl _ _).alloc (Nat.le_refl _) _
  have hBE : BldN 32 2 (w3.alloc (.cells #[] 32)) w2.heap.size Nf (.slice (some ⟨w3.heap.size, 0, none⟩) 0 0) (([] : List (Int × List Int)).map shardD) := BldN.nil (World.ownsRow_made w3 #[] 0 hs3 (by simp) (by simp))
  have HBE := Lib.hid hBE
  have hzE := hbE.size
  have HrE := Lib.hid (Hr3.out.kept (below_grown hbE) (fun _ e => by cases e))
  have HgE := Lib.hid (show w3.grownBy (w3.alloc (.cells #[] 32)) (some R) from World.grownBy_alloc _ _ _)
  clear hBE hbE
  go_wp2_with fail
  go_loopw [8, 9] (fun v i wr => ∃ (k : Nat) (L : List (Int × List Int)) (q : Nat), k ≤ A.length ∧ i = .int .i64 k ∧ L.length ≤ k ∧ (∀ s ∈ L, s.2.length ≤ 12) ∧ BldN 32 2 wr w2.heap.size Nf v (L.map shardD) ∧ (∀ g, v.ownBlock = some g → w3.heap.size ≤ g) ∧ Rdr wr R q ∧ q ≤ p1 + 10 + 2 * k ∧ w3.grownBy wr (some R)) (fun _ i _ => A.length - (intOf i).toNat)
  case atStart => exact ⟨0, [], _, Nat.zero_le _, rfl, Nat.le_refl _, by simp, HBE.out, (fun g e => by cases e; exact Nat.le_refl _), HrE.out, by omega, HgE.out⟩
  case round =>
    obtain ⟨k, L, q, hk, rfl, hLk, hLi, hbl, hvb, hrd, hq, hgr⟩ := hrel
    have hz3 := hgr.size
    have HLi := Lib.hid hLi
    have Hbl := Lib.hid hbl
    have Hvb := Lib.hid hvb
    have Hrd := Lib.hid hrd
    have Hgr := Lib.hid hgr
    clear hLi hbl hvb hrd hgr
    by_cases hlt : k < A.length
    · have hk8 : k < 8 := by omega
      go_wp2_with fail
      refine (pick_any R 3 q wr (by omega) Hrd.out (by omega)).mono ?_
      rintro e w4 ⟨m, rfl, hm0, hm1, hr4, hg4⟩
      have Hr4 := Lib.hid hr4
      have hz4 := hg4.size
      have Hg4 := Lib.hid (grownBy_trans Hgr.out hg4)
      have Hbl4 := Lib.hid (Hbl.out.step hg4 (fun r e => by cases e; omega))
      clear hr4 hg4
      obtain ⟨kk, hkk⟩ : ∃ kk : Nat, (((k : Int) * 3 + m) % (A.length : Int)) = kk := ⟨(((k : Int) * 3 + m) % (A.length : Int)).toNat, (Int.toNat_of_nonneg (Int.emod_nonneg _ (by omega))).symm⟩
      have hkl : kk < A.length := by have := Int.emod_lt_of_pos ((k : Int) * 3 + m) (show (0 : Int) < A.length by omega); omega
      have hkt : ((k : Int) * 3 + m).tmod (A.length : Int) = kk := by rw [Int.tmod_eq_emod_of_nonneg (by omega)]; exact hkk
      have hpos : (0 : Int) < A.length := by omega
      obtain ⟨gA, av, cv, rfl, hgA, hgA3, a0, a1, acr⟩ := Hall.out kk hkl
      have Hacr := Lib.hid acr
      have A0 := Lib.hid a0
      have A1 := Lib.hid a1
      have a0 := Hg4.out.cell a0 (by simp only [ne_eq, Option.some.injEq]; omega)
      have a1 := Hg4.out.cell a1 (by simp only [ne_eq, Option.some.injEq]; omega)
      obtain ⟨av8, cv8, hv8, _⟩ := Hbl4.out.slice
      rw [List.length_map] at hv8
      subst hv8
      obtain ⟨fo, hro, hfo⟩ := Hbl4.out.bld.rd
      have Hro := Lib.hid hro
      have Hks := Lib.hid hkk
      have hAi' := HAi.out _ (List.getElem_mem hkl)
      have HAk := Lib.hid (show A[kk].2.length ≤ 12 from hAi')
      clear acr hro hfo hAi'
      generalize hS : A[kk] = S at *
      obtain ⟨Sn, Sv⟩ := S
      dsimp only at *
      have HS := Lib.hid hS
      clear hS
      go_wp2_with fail
      go_loopw [11, 12] (fun f i wr2 => ∃ (j : Nat) (bf : Bool), j ≤ L.length ∧ i = .int .i64 j ∧ f = .bool bf ∧ Drawn w4 wr2) (fun _ i _ => L.length - (intOf i).toNat)
      case atStart => exact ⟨0, false, Nat.zero_le _, rfl, rfl, Drawn.refl _⟩
      case round =>
        obtain ⟨j, bf, hj, rfl, rfl, hdr⟩ := hrel
        have b0 := (hdr.cell _).trans a0
        have b1 := (hdr.cell _).trans a1
        have Hdr := Lib.hid hdr
        by_cases hjl : j < L.length
        · obtain ⟨gO, oO, ox, oc, rfl, hgO, _, c0, _⟩ := shard_cells Hro.out hjl (B := 0) (blk := none) (fun r _ => ⟨Nat.zero_le _, by simp⟩)
          have c0 := (hdr.cell _).trans c0
          clear hdr
          have hjz : (j : Int) < L.length := by omega
          have hkz : (kk : Int) < A.length := by omega
          cases bf with
          | true =>
            clear b0 b1 c0
            go_wp2_with fail
            refine wp_region_held_drew (S := fun w' => True) (by kernel_rfl) trivial (fun hH => ?_)
            refine takeH 0 (v := ?va0) rfl (by kernel_rfl) (by kernel_rfl) (by kernel_rfl) (fun _ _ _ h => h) hH rfl ?ya0 ?ra0
            case ya0 => intro W hSw; go_simp; try with_reducible rfl
            try simp only [Act.put, List.setIfInBounds_toArray, List.set_cons_zero, List.set_cons_succ]
            refine takeH 1 (v := ?va1) rfl (by kernel_rfl) (by kernel_rfl) (by kernel_rfl) (fun _ _ _ h => h) hH rfl ?ya1 ?ra1
            case ya1 => intro W hSw; go_simp; try with_reducible rfl
            try simp only [Act.put, List.setIfInBounds_toArray, List.set_cons_zero, List.set_cons_succ]
            refine skipH 2 rfl (by kernel_rfl) (by kernel_rfl) (by kernel_rfl) (fun _ _ _ h => h) hH rfl ?_
            try simp only [Act.put, List.setIfInBounds_toArray, List.set_cons_zero, List.set_cons_succ]
            refine skipH 3 rfl (by kernel_rfl) (by kernel_rfl) (by kernel_rfl) (fun _ _ _ h => h) hH rfl ?_
            try simp only [Act.put, List.setIfInBounds_toArray, List.set_cons_zero, List.set_cons_succ]
            refine skipH 4 rfl (by kernel_rfl) (by kernel_rfl) (by kernel_rfl) (fun _ _ _ h => h) hH rfl ?_
            try simp only [Act.put, List.setIfInBounds_toArray, List.set_cons_zero, List.set_cons_succ]
            refine skipH 5 rfl (by kernel_rfl) (by kernel_rfl) (by kernel_rfl) (fun _ _ _ h => h) hH rfl ?_
            try simp only [Act.put, List.setIfInBounds_toArray, List.set_cons_zero, List.set_cons_succ]
            refine skipH 6 rfl (by kernel_rfl) (by kernel_rfl) (by kernel_rfl) (fun _ _ _ h => h) hH rfl ?_
            try simp only [Act.put, List.setIfInBounds_toArray, List.set_cons_zero, List.set_cons_succ]
            refine skipH 7 rfl (by kernel_rfl) (by kernel_rfl) (by kernel_rfl) (fun _ _ _ h => h) hH rfl ?_
            try simp only [Act.put, List.setIfInBounds_toArray, List.set_cons_zero, List.set_cons_succ]
            refine skipH 8 rfl (by kernel_rfl) (by kernel_rfl) (by kernel_rfl) (fun _ _ _ h => h) hH rfl ?_
            try simp only [Act.put, List.setIfInBounds_toArray, List.set_cons_zero, List.set_cons_succ]
            refine skipH 9 rfl (by kernel_rfl) (by kernel_rfl) (by kernel_rfl) (fun _ _ _ h => h) hH rfl ?_
            try simp only [Act.put, List.setIfInBounds_toArray, List.set_cons_zero, List.set_cons_succ]
            refine skipH 10 rfl (by kernel_rfl) (by kernel_rfl) (by kernel_rfl) (fun _ _ _ h => h) hH rfl ?_
            try simp only [Act.put, List.setIfInBounds_toArray, List.set_cons_zero, List.set_cons_succ]
            refine skipH 11 rfl (by kernel_rfl) (by kernel_rfl) (by kernel_rfl) (fun _ _ _ h => h) hH rfl ?_
            try simp only [Act.put, List.setIfInBounds_toArray, List.set_cons_zero, List.set_cons_succ]
            refine skipH 12 rfl (by kernel_rfl) (by kernel_rfl) (by kernel_rfl) (fun _ _ _ h => h) hH rfl ?_
            try simp only [Act.put, List.setIfInBounds_toArray, List.set_cons_zero, List.set_cons_succ]
            refine takeH 13 (v := ?va13) rfl (by kernel_rfl) (by kernel_rfl) (by kernel_rfl) (fun _ _ _ h => h) hH rfl ?ya13 ?ra13
            case ya13 => intro W hSw; go_simp; try with_reducible rfl
            try simp only [Act.put, List.setIfInBounds_toArray, List.set_cons_zero, List.set_cons_succ]
            refine takeH 14 (v := ?va14) rfl (by kernel_rfl) (by kernel_rfl) (by kernel_rfl) (fun _ _ _ h => h) hH rfl ?ya14 ?ra14
            case ya14 => intro W hSw; go_simp; try with_reducible rfl
            try simp only [Act.put, List.setIfInBounds_toArray, List.set_cons_zero, List.set_cons_succ]
            refine wpAnyH_done (by kernel_rfl) ?_ _
            try simp only [Act.put]
            have Hd2 := Lib.hid (Hdr.out.drewN 1)
            clear hH
            go_wp2
            go_roundw
            case rel => exact ⟨j + 1, true, by omega, by go_num, rfl, Hd2.out⟩
            case measure => simp [intOf]; omega
          | false =>
            generalize L[j].1 = Ln at *
            go_wp2_with fail
            refine wp_region_held_drew (S := fun w' => w'.cell? ⟨gO, oO + j * 2, none⟩ = some (.int .i64 Ln) ∧ w'.cell? ⟨gA, kk * 2, none⟩ = some (.int .i64 Sn)) (by kernel_rfl) ⟨c0, b0⟩ (fun hH => ?_)
            refine takeH 0 (v := ?vb0) rfl (by kernel_rfl) (by kernel_rfl) (by kernel_rfl) (fun _ _ _ h => h) hH rfl ?yb0 ?rb0
            case yb0 => intro W hSw; go_simp; try with_reducible rfl
            try simp only [Act.put, List.setIfInBounds_toArray, List.set_cons_zero, List.set_cons_succ]
            refine takeH 1 (v := ?vb1) rfl (by kernel_rfl) (by kernel_rfl) (by kernel_rfl) (fun _ _ _ h => h) hH rfl ?yb1 ?rb1
            case yb1 => intro W hSw; go_simp; try with_reducible rfl
            try simp only [Act.put, List.setIfInBounds_toArray, List.set_cons_zero, List.set_cons_succ]
            refine takeH 2 (v := ?vb2) rfl (by kernel_rfl) (by kernel_rfl) (by kernel_rfl) (fun _ _ _ h => h) hH rfl ?yb2 ?rb2
            case yb2 => intro W hSw; go_simp; try with_reducible rfl
            try simp only [Act.put, List.setIfInBounds_toArray, List.set_cons_zero, List.set_cons_succ]
            refine takeH 3 (v := ?vb3) rfl (by kernel_rfl) (by kernel_rfl) (by kernel_rfl) (fun _ _ _ h => h) hH rfl ?yb3 ?rb3
            case yb3 => intro W hSw; go_simp; try with_reducible rfl
            try simp only [Act.put, List.setIfInBounds_toArray, List.set_cons_zero, List.set_cons_succ]
            refine takeH 4 (v := ?vb4) rfl (by kernel_rfl) (by kernel_rfl) (by kernel_rfl) (fun _ _ _ h => h) hH rfl ?yb4 ?rb4
            case yb4 => intro W hSw; go_simp; try with_reducible rfl
            try simp only [Act.put, List.setIfInBounds_toArray, List.set_cons_zero, List.set_cons_succ]
            refine takeH 5 (v := ?vb5) rfl (by kernel_rfl) (by kernel_rfl) (by kernel_rfl) (fun _ _ _ h => h) hH rfl ?yb5 ?rb5
            case yb5 => intro W hSw; go_simp; try with_reducible rfl
            try simp only [Act.put, List.setIfInBounds_toArray, List.set_cons_zero, List.set_cons_succ]
            refine takeH 6 (v := ?vb6) rfl (by kernel_rfl) (by kernel_rfl) (by kernel_rfl) (fun _ _ _ h => h) hH rfl ?yb6 ?rb6
            case yb6 => intro W hSw; go_simp; try with_reducible rfl
            try simp only [Act.put, List.setIfInBounds_toArray, List.set_cons_zero, List.set_cons_succ]
            refine takeH 7 (v := ?vb7) rfl (by kernel_rfl) (by kernel_rfl) (by kernel_rfl) (fun _ _ _ h => h) hH rfl ?yb7 ?rb7
            case yb7 => intro W hSw; go_simp; try with_reducible rfl
            try simp only [Act.put, List.setIfInBounds_toArray, List.set_cons_zero, List.set_cons_succ]
            refine takeH 8 (v := ?vb8) rfl (by kernel_rfl) (by kernel_rfl) (by kernel_rfl) (fun _ _ _ h => h) hH rfl ?yb8 ?rb8
            case yb8 => intro W hSw; go_simp; try with_reducible rfl
            try simp only [Act.put, List.setIfInBounds_toArray, List.set_cons_zero, List.set_cons_succ]
            refine takeH 9 (v := ?vb9) rfl (by kernel_rfl) (by kernel_rfl) (by kernel_rfl) (fun _ _ _ h => h) hH rfl ?yb9 ?rb9
            case yb9 => intro W hSw; go_simp; try with_reducible rfl
            try simp only [Act.put, List.setIfInBounds_toArray, List.set_cons_zero, List.set_cons_succ]
            refine takeH 10 (v := ?vb10) rfl (by kernel_rfl) (by kernel_rfl) (by kernel_rfl) (fun _ _ _ h => h) hH rfl ?yb10 ?rb10
            case yb10 => intro W hSw; go_simp; try with_reducible rfl
            try simp only [Act.put, List.setIfInBounds_toArray, List.set_cons_zero, List.set_cons_succ]
            refine takeH 11 (v := ?vb11) rfl (by kernel_rfl) (by kernel_rfl) (by kernel_rfl) (fun _ _ _ h => h) hH rfl ?yb11 ?rb11
            case yb11 => intro W hSw; go_simp; try with_reducible rfl
            try simp only [Act.put, List.setIfInBounds_toArray, List.set_cons_zero, List.set_cons_succ]
            refine takeH 12 (v := ?vb12) rfl (by kernel_rfl) (by kernel_rfl) (by kernel_rfl) (fun _ _ _ h => h) hH rfl ?yb12 ?rb12
            case yb12 => intro W hSw; go_simp; try with_reducible rfl
            try simp only [Act.put, List.setIfInBounds_toArray, List.set_cons_zero, List.set_cons_succ]
            refine takeH 13 (v := ?vb13) rfl (by kernel_rfl) (by kernel_rfl) (by kernel_rfl) (fun _ _ _ h => h) hH rfl ?yb13 ?rb13
            case yb13 => intro W hSw; go_simp; try with_reducible rfl
            try simp only [Act.put, List.setIfInBounds_toArray, List.set_cons_zero, List.set_cons_succ]
            refine takeH 14 (v := ?vb14) rfl (by kernel_rfl) (by kernel_rfl) (by kernel_rfl) (fun _ _ _ h => h) hH rfl ?yb14 ?rb14
            case yb14 => intro W hSw; go_simp; try with_reducible rfl
            try simp only [Act.put, List.setIfInBounds_toArray, List.set_cons_zero, List.set_cons_succ]
            refine wpAnyH_done (by kernel_rfl) ?_ _
            try simp only [Act.put]
            have Hd2 := Lib.hid (Hdr.out.drewN 1)
            clear hH b0 b1 c0
            go_wp2
            go_roundw
            case rel => exact ⟨j + 1, _, by omega, by go_num, rfl, Hd2.out⟩
            case measure => simp [intOf]; omega
        · have hbd := hdr.below w4.heap.size
          have hz5 := hbd.size
          have Hbl5 := Lib.hid (Hbl4.out.under hbd)
          have Hr5 := Lib.hid (Hr4.out.kept (below_grown hbd) (fun _ e => by cases e))
          have Hg5 := Lib.hid (grown_row' Hg4.out (below_grown hbd) (fun _ e => by cases e))
          clear hbd hdr b0 b1
          cases bf with
          | true =>
            go_wp2
            go_roundw
            case rel => exact ⟨k + 1, L, q + 1, by omega, by go_num, by omega, HLi.out, Hbl5.out, Hvb.out, Hr5.out, by omega, Hg5.out⟩
            case measure => simp [intOf]; omega
          | false =>
            go_wp2_with fail
            refine (pick_any R 4 (q + 1) _ (by omega) Hr5.out (by omega)).mono ?_
            rintro e w6 ⟨m2, rfl, hm20, hm21, hr6, hg6⟩
            have Hr6 := Lib.hid hr6
            have hz6 := hg6.size
            have Hg6 := Lib.hid (grownBy_trans Hg5.out hg6)
            have Hbl6 := Lib.hid (Hbl5.out.step hg6 (fun r e => by cases e; omega))
            clear hr6 hg6
            by_cases hm2 : 0 < m2
            · have a0 := Hg6.out.cell A0.out (by simp only [ne_eq, Option.some.injEq]; omega)
              have a1 := Hg6.out.cell A1.out (by simp only [ne_eq, Option.some.injEq]; omega)
              have Hacr6 := Lib.hid (Hacr.out.step (blk' := (Value.slice av8 L.length cv8).ownBlock) Hg6.out (fun r e => by cases e; exact .inl hRlt) (fun g e => .inr (Hvb.out g e)))
              have hB6 : w2.heap.size ≤ w6.heap.size := by omega
              have hLl : (L.map shardD).length ≤ 1048576 := by simp; omega
              have hkz : (kk : Int) < A.length := by omega
              have Hln := Lib.hid (show L.length = (L.map shardD).length by simp)
              have Hex := Lib.hid (show (L ++ [(Sn, Sv)]).map shardD = L.map shardD ++ [shardD (Sn, Sv)] by simp)
              go_wp2_with (at_builtin; refine wpList_push_rowN Try.underlying23 TShs rfl (by decide) (by decide) rfl (.tmp 65) (.tmp 70) rfl w2.heap.size Nf _ (L.map shardD) (shardD (Sn, Sv)) [.int .i64 Sn, .slice av Sv.length cv] _ rfl rfl (by intro u hu; simp at hu; rcases hu with rfl | rfl <;> rfl) rfl Hbl6.out rfl Hacr6.out hLl rfl hB6 ?_; intro v8 w8 hbl8 hg8 hloc8)
              have Hr8 := Lib.hid (Hr6.out.kept hg8 (fun g e => by have := Hvb.out g e; omega))
              have hz8 := hg8.size
              have Hg8 := Lib.hid (grown_row' Hg6.out hg8 (fun g e => by have := Hvb.out g e; omega))
              have Hvb8 := Lib.hid (show ∀ g, v8.ownBlock = some g → w3.heap.size ≤ g from fun g e => by
                rcases hloc8 g e with h | h
                · exact Hvb.out g h
                · omega)
              go_roundw
              case rel => exact ⟨k + 1, L ++ [(Sn, Sv)], q + 2, by omega, by go_num, by simp; omega, (fun s hs => by
                rcases List.mem_append.1 hs with h | h
                · exact HLi.out s h
                · simp at h; subst h; exact HAk.out), by rw [Hex.out]; exact hbl8, Hvb8.out, Hr8.out, by omega, Hg8.out⟩
              case measure => simp [intOf]; omega
            · have hm2' : ¬ (0 : Int) < m2 := hm2
              go_wp2
              go_roundw
              case rel => exact ⟨k + 1, L, q + 2, by omega, by go_num, by omega, HLi.out, Hbl6.out, Hvb.out, Hr6.out, by omega, Hg6.out⟩
              case measure => simp [intOf]; omega
    · obtain ⟨ao, co, hvo, _⟩ := Hbl.out.slice
      rw [List.length_map] at hvo
      subst hvo
      obtain ⟨fo, hro, hfo⟩ := Hbl.out.bld.rd
      have Hro := Lib.hid hro
      have Hfo := Lib.hid hfo
      have hL8 : L.length ≤ 8 := by omega
      have hn1' : 1 ≤ 1 + n0 ∧ 1 + n0 ≤ 6 := by omega
      have HLi' := Lib.hid (show ∀ s ∈ L, s.2.length ≤ 20 from fun s hs => by have := HLi.out s hs; omega)
      clear hro hfo
      by_cases hL0 : L.length = 0
      · have e0 : ((L.length : Int) == 0) = true := by simp [hL0]
        clear hL0
        go_wp2
        go_ret3
        exact ⟨_, _, _, L, fo, rfl, Hro.out, hL8, HLi'.out, by omega, by omega, grownBy_trans Hg3.out Hgr.out⟩
      have e0 : ((L.length : Int) == 0) = false := by simp [hL0]
      go_wp2_with fail
      refine (pick_any R L.length q _ (by omega) Hrd.out (by omega)).mono ?_
      rintro e w4 ⟨k2, rfl, hk20, hk21, hr4, hg4⟩
      obtain ⟨kn, rfl⟩ : ∃ kn : Nat, k2 = kn := ⟨k2.toNat, (Int.toNat_of_nonneg hk20).symm⟩
      have hknl : kn < L.length := by omega
      have Hr4 := Lib.hid hr4
      have Hg4 := Lib.hid (grownBy_trans Hgr.out hg4)
      have Hbl4 := Lib.hid (Hbl.out.step hg4 (fun r e => by cases e; omega))
      have hz4 := hg4.size
      clear hr4 hg4 hk20 hk21
      go_wp2_with fail
      refine (pick_any R 14 (q + 1) w4 (by omega) Hr4.out (by omega)).mono ?_
      rintro e w5 ⟨m, rfl, hm0, hm1, hr5, hg5⟩
      have Hr5 := Lib.hid hr5
      have Hg5 := Lib.hid (grownBy_trans Hg4.out hg5)
      have Hbl5 := Lib.hid (Hbl4.out.step hg5 (fun r e => by cases e; omega))
      have hz5 := hg5.size
      clear hr5 hg5
      obtain ⟨f5, hro5, hfo5⟩ := Hbl5.out.bld.rd
      have Hro5 := Lib.hid hro5
      have Hfo5 := Lib.hid hfo5
      obtain ⟨gO, oO, av, cv, rfl, hgO, hgOf, c0, c1, ci, cs, _⟩ := shard_cells hro5 hknl (B := 0) (blk := none) (fun r _ => ⟨Nat.zero_le _, by simp⟩)
      have hgO2 := hfo5 gO hgOf
      obtain ⟨hoff, hfz⟩ := Hbl5.out.frz
      subst hoff
      rw [Nat.zero_add] at c0 c1
      have Hlist := Lib.hid (fun hne => Hbl5.out.list hknl hne)
      have Hci := Lib.hid ci
      have Hcs := Lib.hid cs
      have hknz : (kn : Int) < L.length := by omega
      have hSl : L[kn].2.length ≤ 12 := HLi.out _ (List.getElem_mem hknl)
      have Htail := Lib.hid (fun (size need : Int) (v : Value) (L' : List (Int × List Int)) (f' : List Nat) W (h1 : Rd W (.l (L'.map shardD)) v f') (h2 : L'.length ≤ 8) (h3 : ∀ s ∈ L', s.2.length ≤ 20) (h4 : -100 ≤ size ∧ size ≤ 100) (h5 : -100 ≤ need ∧ need ≤ 100) (h6 : w.grownBy W (some R)) => (⟨size, need, v, L', f', rfl, h1, h2, h3, h4, h5, h6⟩ : ShPost w R (.returned (.tuple #[.int .i64 size, .int .i64 need, v])) W))
      clear hro5 hfo5 ci cs hL0 hfz
      generalize hS : L[kn] = S at *
      obtain ⟨Sn, Sv⟩ := S
      dsimp only at *
      have HS := Lib.hid hS
      clear hS
      by_cases h0 : m = 0
      · subst h0
        by_cases hSv : 0 < Sv.length
        case neg =>
          have e9 : ¬ (0 : Int) < (Sv.length : Int) := by omega
          clear c0
          go_wp2
          go_ret3
          exact Htail.out _ _ _ L f5 w5 Hro5.out hL8 HLi'.out (by omega) (by omega) (grownBy_trans Hg3.out Hg5.out)
        obtain ⟨bv, ov, cv2, c2, hNb, hbv, hcells⟩ := Hlist.out hSv
        have hcc := Option.some.inj (c1.symm.trans c2)
        simp only [Value.slice.injEq, true_and] at hcc
        obtain ⟨rfl, rfl⟩ := hcc
        obtain ⟨hb1, hb2, hb3', hb4⟩ := HN.out bv hNb
        have Hb4 := Lib.hid hb4
        have Hcells := Lib.hid hcells
        have e9 : (0 : Int) < (Sv.length : Int) := by omega
        clear hb4 hcells c2 c0
        go_wp2_with fail
        refine wp_region_L 16 (fun w' => w'.cell? ⟨gO, kn * 2 + 1, none⟩ = some (.slice (some ⟨bv, ov, none⟩) Sv.length cv)) (by kernel_rfl) c1 (fun hH => ?_)
        refine takeL 0 (v := ?vz0) rfl (by kernel_rfl) (by kernel_rfl) (by kernel_rfl) (by kernel_rfl) (by kernel_rfl) (fun _ _ _ h => h) hH rfl ?yz0 ?rz0
        case yz0 => intro w hSw; go_simp; try with_reducible rfl
        try simp only [Act.put, List.setIfInBounds_toArray, List.set_cons_zero, List.set_cons_succ]
        refine takeL 1 (v := ?vz1) rfl (by kernel_rfl) (by kernel_rfl) (by kernel_rfl) (by kernel_rfl) (by kernel_rfl) (fun _ _ _ h => h) hH rfl ?yz1 ?rz1
        case yz1 => intro w hSw; go_simp; try with_reducible rfl
        try simp only [Act.put, List.setIfInBounds_toArray, List.set_cons_zero, List.set_cons_succ]
        refine takeL 2 (v := ?vz2) rfl (by kernel_rfl) (by kernel_rfl) (by kernel_rfl) (by kernel_rfl) (by kernel_rfl) (fun _ _ _ h => h) hH rfl ?yz2 ?rz2
        case yz2 => intro w hSw; go_simp; try with_reducible rfl
        try simp only [Act.put, List.setIfInBounds_toArray, List.set_cons_zero, List.set_cons_succ]
        refine takeL 3 (v := ?vz3) rfl (by kernel_rfl) (by kernel_rfl) (by kernel_rfl) (by kernel_rfl) (by kernel_rfl) (fun _ _ _ h => h) hH rfl ?yz3 ?rz3
        case yz3 => intro w hSw; go_simp; try with_reducible rfl
        try simp only [Act.put, List.setIfInBounds_toArray, List.set_cons_zero, List.set_cons_succ]
        refine takeL 4 (v := ?vz4) rfl (by kernel_rfl) (by kernel_rfl) (by kernel_rfl) (by kernel_rfl) (by kernel_rfl) (fun _ _ _ h => h) hH rfl ?yz4 ?rz4
        case yz4 => intro w hSw; go_simp; try with_reducible rfl
        try simp only [Act.put, List.setIfInBounds_toArray, List.set_cons_zero, List.set_cons_succ]
        refine takeL 5 (v := ?vz5) rfl (by kernel_rfl) (by kernel_rfl) (by kernel_rfl) (by kernel_rfl) (by kernel_rfl) (fun _ _ _ h => h) hH rfl ?yz5 ?rz5
        case yz5 => intro w hSw; go_simp; try with_reducible rfl
        try simp only [Act.put, List.setIfInBounds_toArray, List.set_cons_zero, List.set_cons_succ]
        refine takeL 6 (v := ?vz6) rfl (by kernel_rfl) (by kernel_rfl) (by kernel_rfl) (by kernel_rfl) (by kernel_rfl) (fun _ _ _ h => h) hH rfl ?yz6 ?rz6
        case yz6 => intro w hSw; go_simp; try with_reducible rfl
        try simp only [Act.put, List.setIfInBounds_toArray, List.set_cons_zero, List.set_cons_succ]
        refine takeL 7 (v := ?vz7) rfl (by kernel_rfl) (by kernel_rfl) (by kernel_rfl) (by kernel_rfl) (by kernel_rfl) (fun _ _ _ h => h) hH rfl ?yz7 ?rz7
        case yz7 => intro w hSw; go_simp; try with_reducible rfl
        try simp only [Act.put, List.setIfInBounds_toArray, List.set_cons_zero, List.set_cons_succ]
        refine takeL 8 (v := ?vz8) rfl (by kernel_rfl) (by kernel_rfl) (by kernel_rfl) (by kernel_rfl) (by kernel_rfl) (fun _ _ _ h => h) hH rfl ?yz8 ?rz8
        case yz8 => intro w hSw; go_simp; try with_reducible rfl
        try simp only [Act.put, List.setIfInBounds_toArray, List.set_cons_zero, List.set_cons_succ]
        refine takeL 9 (v := ?vz9) rfl (by kernel_rfl) (by kernel_rfl) (by kernel_rfl) (by kernel_rfl) (by kernel_rfl) (fun _ _ _ h => h) hH rfl ?yz9 ?rz9
        case yz9 => intro w hSw; go_simp; try with_reducible rfl
        try simp only [Act.put, List.setIfInBounds_toArray, List.set_cons_zero, List.set_cons_succ]
        refine takeL 10 (v := ?vz10) rfl (by kernel_rfl) (by kernel_rfl) (by kernel_rfl) (by kernel_rfl) (by kernel_rfl) (fun _ _ _ h => h) hH rfl ?yz10 ?rz10
        case yz10 => intro w hSw; go_simp; try with_reducible rfl
        try simp only [Act.put, List.setIfInBounds_toArray, List.set_cons_zero, List.set_cons_succ]
        refine takeL 11 (v := ?vz11) rfl (by kernel_rfl) (by kernel_rfl) (by kernel_rfl) (by kernel_rfl) (by kernel_rfl) (fun _ _ _ h => h) hH rfl ?yz11 ?rz11
        case yz11 => intro w hSw; go_simp; try with_reducible rfl
        try simp only [Act.put, List.setIfInBounds_toArray, List.set_cons_zero, List.set_cons_succ]
        refine takeL 13 (v := ?vz12) rfl (by kernel_rfl) (by kernel_rfl) (by kernel_rfl) (by kernel_rfl) (by kernel_rfl) (fun _ _ _ h => h) hH rfl ?yz12 ?rz12
        case yz12 => intro w hSw; go_simp; try with_reducible rfl
        try simp only [Act.put, List.setIfInBounds_toArray, List.set_cons_zero, List.set_cons_succ]
        refine callL 12 rfl (by kernel_rfl) rfl (fun K hK => ?_)
        go_simp
        refine (pick_any R (Sv.length : Int) (q + 1 + 1) _ (by omega) (Hr5.out.drewN 1) (by omega)).mono ?_
        rintro e wx ⟨z1, rfl, hz10, hz11, hrx, hgx⟩
        obtain ⟨zn, rfl⟩ : ∃ zn : Nat, z1 = zn := ⟨z1.toNat, (Int.toNat_of_nonneg hz10).symm⟩
        have hznl : zn < Sv.length := by omega
        have hznz : (zn : Int) < (Sv.length : Int) := by omega
        dsimp only
        have Hrx := Lib.hid hrx
        have Hgx := Lib.hid hgx
        clear hrx
        refine hK.out _ _ (hgx.cell hH (by simp only [ne_eq, Option.some.injEq]; omega)) (fun hH => ?_)
        clear hK K
        try simp only [Act.put, List.setIfInBounds_toArray, List.set_cons_zero, List.set_cons_succ]
        refine callL 14 rfl (by kernel_rfl) rfl (fun K hK => ?_)
        go_simp
        refine (pick_any R 251 (q + 1 + 1 + 1) _ (by omega) Hrx.out (by omega)).mono ?_
        rintro e wy ⟨y, rfl, hy0, hy1, _, hgy⟩
        have Hg5y := Lib.hid (grownBy_trans (show w5.grownBy w5.drew (some R) from grownBy_drewN (World.grownBy.refl _ _) 1) (grownBy_trans Hgx.out hgy))
        have Hgy := Lib.hid (grownBy_trans Hg5.out Hg5y.out)
        have gcell : wy.cell? ⟨bv, ov + zn, none⟩ = some (.int .i64 Sv[zn]) := Hg5y.out.cell (Hcells.out zn hznl) (by simp only [ne_eq, Option.some.injEq]; omega)
        have gfrz : wy.frozen? ⟨bv, ov + zn, none⟩ = false := (grown_frozen Hgy.out hb2 (by simp only [ne_eq, Option.some.injEq]; omega) _).trans (Hb4.out _)
        dsimp only
        refine hK.out _ _ (hgy.cell hH (by simp only [ne_eq, Option.some.injEq]; omega)) (fun hH => ?_)
        clear hK K
        try simp only [Act.put, List.setIfInBounds_toArray, List.set_cons_zero, List.set_cons_succ]
        refine callL 15 rfl (by kernel_rfl) rfl (fun K hK => ?_)
        go_simp
        refine hK.out _ _ hH (fun hH => ?_)
        clear hK K
        try simp only [Act.put, List.setIfInBounds_toArray, List.set_cons_zero, List.set_cons_succ]
        refine lastL rfl (by kernel_rfl) (by kernel_rfl) (by kernel_rfl) rfl (fun K hK => ?_)
        go_simp
        refine hK.out _ _ ?_
        clear hK K
        try simp only [Act.put, List.setIfInBounds_toArray, List.set_cons_zero, List.set_cons_succ]
        have HW := Lib.hid (grownBy_trans Hg3.out Hgy.out)
        have Hbl7 := Lib.hid (Hbl5.out.step (row := some R) Hg5y.out (fun r e => by cases e; omega))
        obtain ⟨f7, hr7, _⟩ := Hbl7.out.bld.rd
        obtain ⟨L', hl', hm', hp'⟩ := shards_poke y gcell hr7 HLi'.out
        have Hp' := Lib.hid hp'
        have Hm' := Lib.hid hm'
        have HWs := Lib.hid (grown_row' HW.out (grownBy_set wy bv (ov + zn) (.int .i64 y)) (fun g e => by cases e; omega))
        clear hr7 hp' hm' gcell gfrz
        go_wp2
        go_ret3
        exact Htail.out _ _ _ L' f7 _ Hp'.out (by omega) Hm'.out (by omega) (by omega) HWs.out
      have m0 : (m == 0) = false := by simpa using h0
      by_cases h1 : m = 1
      · subst h1
        go_wp2_with fail
        refine (pick_any R 10 (q + 2) w5 (by omega) Hr5.out (by omega)).mono ?_
        rintro e w6 ⟨y, rfl, hy0, hy1, hr6, hg6⟩
        have d0 := hg6.cell c0 (by simp only [ne_eq, Option.some.injEq]; omega)
        have hbl6 := Hbl5.out.step hg6 (fun r e => by cases e; omega)
        have g0 := hbl6.frz.2 (kn * 2)
        obtain ⟨f6, hr6', _⟩ := hbl6.bld.rd
        obtain ⟨L', hl', hm', hp'⟩ := shards_poke y d0 hr6' HLi'.out
        have Hp' := Lib.hid hp'
        have Hm' := Lib.hid hm'
        have HWs := Lib.hid (grown_row' (grownBy_trans Hg3.out (grownBy_trans Hg5.out hg6)) (grownBy_set w6 gO (kn * 2) (.int .i64 y)) (fun g e => by cases e; omega))
        clear hr6 hg6 hr6' hbl6 hp' hm' c0 c1
        go_wp2
        go_ret3
        exact Htail.out _ _ _ L' f6 _ Hp'.out (by omega) Hm'.out (by omega) (by omega) HWs.out
      have m1 : (m == 1) = false := by simpa using h1
      by_cases h2 : m = 2
      · subst h2
        go_wp2_with fail
        refine (pick_any R 3 (q + 2) w5 (by omega) Hr5.out (by omega)).mono ?_
        rintro e w6 ⟨y, rfl, hy0, hy1, hr6, hg6⟩
        have Hg6 := Lib.hid (grownBy_trans Hg5.out hg6)
        obtain ⟨f6, hr6', _⟩ := (Hbl5.out.step hg6 (fun r e => by cases e; omega)).bld.rd
        have Hr6 := Lib.hid hr6'
        clear hr6 hg6 hr6' c0 c1
        go_wp2
        all_goals
          go_ret3
          exact Htail.out _ _ _ L f6 w6 Hr6.out hL8 HLi'.out (by first | omega | (split <;> omega)) (by omega) (grownBy_trans Hg3.out Hg6.out)
      have m2 : (m == 2) = false := by simpa using h2
      by_cases h3 : m = 3
      · subst h3
        go_wp2_with fail
        refine (pick_any R 3 (q + 2) w5 (by omega) Hr5.out (by omega)).mono ?_
        rintro e w6 ⟨y, rfl, hy0, hy1, hr6, hg6⟩
        have Hg6 := Lib.hid (grownBy_trans Hg5.out hg6)
        obtain ⟨f6, hr6', _⟩ := (Hbl5.out.step hg6 (fun r e => by cases e; omega)).bld.rd
        have Hr6 := Lib.hid hr6'
        clear hr6 hg6 hr6' c0 c1
        go_wp2
        go_ret3
        exact Htail.out _ _ _ L f6 w6 Hr6.out hL8 HLi'.out (by omega) (by omega) (grownBy_trans Hg3.out Hg6.out)
      have m3 : (m == 3) = false := by simpa using h3
      by_cases h4 : m = 4
      · subst h4
        have hcap := shards_cap Hro5.out (by omega)
        have hkc : kn ≤ co := by omega
        have hkcz : (kn : Int) ≤ (co : Int) := by omega
        obtain ⟨f7, hr7, _⟩ := Rd.take Hro5.out kn (by omega)
        have Hr7 := Lib.hid hr7
        have hkl : (L.take kn).length ≤ 8 := by rw [List.length_take]; omega
        have hki : ∀ s ∈ L.take kn, s.2.length ≤ 20 := fun s hs => HLi'.out s (List.mem_of_mem_take hs)
        have Hki := Lib.hid hki
        clear hr7 hki c0 c1
        go_wp2
        go_ret3
        exact Htail.out _ _ _ (L.take kn) f7 w5 Hr7.out hkl Hki.out (by omega) (by omega) (grownBy_trans Hg3.out Hg5.out)
      have m4 : (m == 4) = false := by simpa using h4
      by_cases h5 : m = 5
      · subst h5
        have hbE : Below w5.heap.size w5 (w5.alloc (.cells #[] 3)) := (Below.refl _ _).alloc (Nat.le_refl _) _
        have HoE := Lib.hid (own_empty 3 w5 (Nat.le_refl w5.heap.size))
        have HsE := Lib.hid (srcAt_under Hcs.out Hci.out hbE)
        have HrE5 := Lib.hid (Hr5.out.kept (below_grown hbE) (fun _ e => by cases e))
        have hzE5 : (w5.alloc (.cells #[] 3)).heap.size = w5.heap.size + 1 := by simp
        have HzE5 := Lib.hid hzE5
        have c1E := (hbE.cell (p := ⟨gO, kn * 2 + 1, none⟩) hgO).trans c1
        have HbE := Lib.hid hbE
        clear hbE hzE5 c0
        go_wp2_with (at_builtin; refine wpList_appI TI3 rfl (.tmp 143) (.tmp 148) rfl w5.heap.size (.slice (some ⟨w5.heap.size, 0, none⟩) 0 0) [] Sv _ _ rfl HoE.out rfl HsE.out (by simp; omega) (by rw [HzE5.out]; omega) ?_; intro v6 w6 hown6 hg6; (rw [List.nil_append] at hown6); (clear c1E))
        have hRg : R < gO := by omega
        have hR5 : R < w5.heap.size := by omega
        have Hr6 := Lib.hid (HrE5.out.kept hg6 (fun g e => by cases e; exact hR5))
        have Hg56 := Lib.hid (grown_row' (show w5.grownBy (w5.alloc (.cells #[] 3)) (some R) from World.grownBy_alloc _ _ _) (row := some w5.heap.size) hg6 (fun g e => by cases e; exact Nat.le_refl _))
        have Hown6 := Lib.hid hown6
        have hz6 := Hg56.out.size
        clear hown6 hg6
        refine (pick_any R 251 (q + 1 + 1) w6 (by omega) Hr6.out (by omega)).mono ?_
        rintro e w7 ⟨y, rfl, hy0, hy1, hr7, hg7⟩
        have Hown7 := Lib.hid (Hown6.out.kept hg7 (.inr (fun e => by have := (Hown6.out.lt R e).1; omega)))
        have Hg57 := Lib.hid (grownBy_trans Hg56.out hg7)
        have hB7 : w5.heap.size ≤ w7.heap.size := by have := hg7.size; omega
        clear hr7 hg7
        go_wp2_with (at_builtin; refine wpList_push TI3 rfl (.tmp 149) (.tmp 152) rfl w5.heap.size _ Sv _ rfl Hown7.out (by omega) rfl hB7 ?_; intro v8 w8 hown8 hg8; (have Hg58 := Lib.hid (grown_row' Hg57.out hg8 (fun g e => (Hown7.out.lt g e).1))); (obtain ⟨a8, n8, c8, rfl⟩ : ∃ a n c, v8 = Value.slice a n c := (by obtain ⟨a, c, e, _⟩ := hown8.ints; exact ⟨a, _, c, e⟩)); (have Hbl8 := Lib.hid (Hbl5.out.step (row := some R) Hg58.out (fun r e => by cases e; omega))); (have c8' := Hg58.out.cell c1 (by simp only [ne_eq, Option.some.injEq]; omega)); (have f8' := Hbl8.out.frz.2 (kn * 2 + 1)); (have Hown8 := Lib.hid hown8); (clear hown8 hg8))
        have hgu : (Value.slice a8 n8 c8).ownBlock ≠ some gO := fun e => by have := (Hown8.out.lt gO e).1; omega
        obtain ⟨f9, hr9, _⟩ := (Bld.setL Hbl8.out.bld rfl hknl Hown8.out (show w2.heap.size ≤ w5.heap.size by omega) hgu).rd
        have HW9 := Lib.hid (grown_row' (grownBy_trans Hg3.out (grownBy_trans Hg5.out Hg58.out)) (grownBy_set w8 gO (kn * 2 + 1) (.slice a8 n8 c8)) (fun g e => by cases e; omega))
        have Hr9 := Lib.hid hr9
        have Hm9 := Lib.hid (show ∀ s ∈ L.set kn ((L[kn]'hknl).1, Sv ++ [y]), s.2.length ≤ 20 from fun s hs => by
          rcases List.mem_or_eq_of_mem_set hs with h | h
          · exact HLi'.out s h
          · subst h; simp; omega)
        go_ret3
        exact Htail.out _ _ _ (L.set kn ((L[kn]'hknl).1, Sv ++ [y])) f9 _ Hr9.out (by simp; omega) Hm9.out (by omega) (by omega) HW9.out
      have m5 : (m == 5) = false := by simpa using h5
      clear c0 c1
      go_wp2
      go_ret3
      exact Htail.out _ _ _ L f5 w5 Hro5.out hL8 HLi'.out (by omega) (by omega) (grownBy_trans Hg3.out Hg5.out)

end Go.Proofs.Yteglefchkecfjaa
