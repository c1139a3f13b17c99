/- Whether a shard belongs to data, as impl reckons it, by a walk of its text; conditions: a list that is read has fewer than 2^40 elements and fits its capacity, the numbers are ints. -/
import Derived.Test.YtkndndcjchlpdabG3
import Derived.Test.YtkndndcjchlpdabHeld
import Derived.Test.YtkndndcjchlpdabLeq
namespace Go.Proofs.Ytkndndcjchlpdab
open Go.RowKit

theorem matB_no1 {d : List Int} {need : Int} {s : Sh} (h : isdB d = false) : matB d need s = false := by unfold matB; rw [isdB_data, h]; rfl
theorem matB_no2 {d : List Int} {need : Int} {s : Sh} (h : ¬ (1 ≤ need ∧ need ≤ 8)) : matB d need s = false := by unfold matB; rw [isdB_data, decide_eq_false h, Bool.and_false]; rfl
theorem matB_no3 {d : List Int} {need : Int} {s : Sh} (h : ¬ (1 ≤ s.1 ∧ s.1 ≤ 8)) : matB d need s = false := by unfold matB; rw [decide_eq_false h, Bool.and_false]; rfl
theorem matB_yes {d : List Int} {need : Nat} {s : Sh} (h : dataB d need = true) (h' : 1 ≤ s.1 ∧ s.1 ≤ 8) : matB d need s = decide (shardV d need s.1 = s.2) := by unfold matB; rw [h, decide_eq_true h']; rfl

theorem sh_field (x : Int) (a : Option Addr) (n c : Nat) (W : World) : (Instr.field 55 (.agg #[.int .i64 x, .slice a n c]) 1).run Try.prog W = .ok (.slice a n c) W := by kernel_rfl

theorem impl_ShardMatches (a : Option Addr) (cap : Nat) (d : List Int) (need x : Int) (av : Option Addr) (cv : Nat) (vs : List Int) (w : World) (hbig : d.length ≤ 1099511627776) (hcap : d.length ≤ cap) (hvbig : vs.length ≤ 1099511627776) (hc : IntsAt w a d) (hv : IntsAt w av vs) :
    Calls Try.prog 60 #[.slice a d.length cap, .int .i64 need, .agg #[.int .i64 x, .slice av vs.length cv]] w fun e w' => e = .returned (.bool (matB d need (x, vs))) ∧ Below w.heap.size w w' := by
  have hb0 : Below w.heap.size w (w.alloc (.cells #[.int .i64 x, .slice av vs.length cv] 55)) := (Below.refl _ _).alloc (Nat.le_refl _) _
  have hdt := impl_isData a cap d _ hbig (hc.below hb0)
  have hnm := fun w => impl_isShardNumber need w
  have hxm := fun w => impl_isShardNumber x w
  cases hd : isdB d with
  | false =>
    rw [hd] at hdt
    have Hdt := Lib.hid hdt; clear hdt
    have Hf := Lib.hid (matB_no1 (need := need) (s := (x, vs)) hd)
    clear hd hc hv hnm hxm
    go_enter Try.func60, Try.ntmps60
    go_wp2_with fail
    refine Hdt.out.mono ?_
    rintro e w' ⟨rfl, rfl⟩
    go_wp2
    go_ret
    exact ⟨ret_bool Hf.out.symm, hb0⟩
  | true =>
    rw [hd] at hdt
    have Hdt := Lib.hid hdt; clear hdt
    by_cases hN : 1 ≤ need ∧ need ≤ 8
    · rw [decide_eq_true hN] at hnm
      have Hnm := Lib.hid hnm; clear hnm
      by_cases hX : 1 ≤ x ∧ x ≤ 8
      · rw [decide_eq_true hX] at hxm
        have Hxm := Lib.hid hxm; clear hxm
        obtain ⟨need, rfl⟩ := Int.eq_ofNat_of_zero_le (show 0 ≤ need by omega)
        have hdB : dataB d need = true := by rw [isdB_data, hd, decide_eq_true hN]; rfl
        obtain ⟨hsym, ⟨hd1, hd2⟩, _, _⟩ := dataB_iff hdB
        have Hf := Lib.hid (matB_yes (s := (x, vs)) hdB hX)
        have Hsh := Lib.hid (fun W h => impl_shardOf a cap d need x W hsym hd2 (by omega) (by omega) (by omega) (by omega) hcap h)
        have hcol := cols_le (d := d) (need := need) (by omega) hd2
        have hsv : (shardV d need x).length ≤ 12 := by rw [shardV_len]; exact hcol
        clear hd hdB hsym
        have S0 := Str.new w 55 #[.int .i64 x, .slice av vs.length cv]
        have Hc := Lib.hid (hc.below hb0); clear hc
        have Hv := Lib.hid (hv.below hb0); clear hv
        have Hb0 := Lib.hid hb0; clear hb0
        have hsz1 : w.heap.size < (w.alloc (.cells #[.int .i64 x, .slice av vs.length cv] 55)).heap.size := by simp
        have e0 := S0.cell 0 (v := .int .i64 x) rfl
        have e1 := S0.cell 1 (v := .slice av vs.length cv) rfl
        go_enter Try.func60, Try.ntmps60
        go_wp2_with fail
        refine Hdt.out.mono ?_
        rintro e w' ⟨rfl, rfl⟩
        go_wp2_with fail
        refine (Hnm.out _).mono ?_
        rintro e w' ⟨rfl, rfl⟩
        go_wp2_with fail
        refine (Hxm.out _).mono ?_
        rintro e w' ⟨rfl, rfl⟩
        go_wp2_with fail
        clear Hdt Hnm Hxm S0
        generalize w.alloc (.cells #[.int .i64 x, .slice av vs.length cv] 55) = W1 at *
        refine wp_region_held_drew (S := fun w' => w'.cell? ⟨w.heap.size, 0, none⟩ = some (.int .i64 x) ∧ w'.cell? ⟨w.heap.size, 1, none⟩ = some (.slice av vs.length cv)) (by kernel_rfl) ⟨e0, e1⟩ (fun hH => ?_)
        refine takeH 0 (v := ?vm0) rfl (by kernel_rfl) (by kernel_rfl) (by kernel_rfl) (fun _ _ _ h => h) hH rfl ?ym0 ?rm0
        case ym0 => intro W hSw; go_simp; try with_reducible rfl
        try simp only [Act.put, List.setIfInBounds_toArray, List.set_cons_zero, List.set_cons_succ]
        refine takeH 1 (v := ?vm1) rfl (by kernel_rfl) (by kernel_rfl) (by kernel_rfl) (fun _ _ _ h => h) hH rfl ?ym1 ?rm1
        case ym1 => intro W hSw; go_simp; try with_reducible rfl
        try simp only [Act.put, List.setIfInBounds_toArray, List.set_cons_zero, List.set_cons_succ]
        refine takeH 2 (v := ?vm2) rfl (by kernel_rfl) (by kernel_rfl) (by kernel_rfl) (fun _ _ _ h => h) hH rfl ?ym2 ?rm2
        case ym2 => intro W hSw; go_simp; try with_reducible rfl
        try simp only [Act.put, List.setIfInBounds_toArray, List.set_cons_zero, List.set_cons_succ]
        refine takeH 3 (v := ?vm3) rfl (by kernel_rfl) (by kernel_rfl) (by kernel_rfl) (fun _ _ _ h => h) hH rfl ?ym3 ?rm3
        case ym3 => intro W hSw; go_simp; try with_reducible rfl
        try simp only [Act.put, List.setIfInBounds_toArray, List.set_cons_zero, List.set_cons_succ]
        refine takeH 6 (v := ?vm6) rfl (by kernel_rfl) (by kernel_rfl) (by kernel_rfl) (fun _ _ _ h => h) hH rfl ?ym6 ?rm6
        case ym6 => intro W hSw; go_simp; try with_reducible rfl
        try simp only [Act.put, List.setIfInBounds_toArray, List.set_cons_zero, List.set_cons_succ]
        refine takeH 7 (v := ?vm7) rfl (by kernel_rfl) (by kernel_rfl) (by kernel_rfl) (fun _ _ _ h => h) hH rfl ?ym7 ?rm7
        case ym7 => intro W hSw; go_simp; try with_reducible rfl
        try simp only [Act.put, List.setIfInBounds_toArray, List.set_cons_zero, List.set_cons_succ]
        refine callH 4 rfl (by kernel_rfl) rfl (fun K hK => ?_)
        go_simp
        refine (Hsh.out W1.drew Hc.out).mono ?_
        rintro e w6 ⟨v6, rfl, hown, hb6⟩
        obtain ⟨a6, c6, rfl, hi6, _⟩ := hown.ints
        dsimp only
        have hwd : W1.drew.heap.size = W1.heap.size := rfl
        refine hK.out _ _ ⟨(hb6.cell (p := ⟨w.heap.size, 0, none⟩) (by simp only; omega)).trans hH.1, (hb6.cell (p := ⟨w.heap.size, 1, none⟩) (by simp only; omega)).trans hH.2⟩ (fun hH => ?_)
        clear hK K
        try simp only [Act.put, List.setIfInBounds_toArray, List.set_cons_zero, List.set_cons_succ]
        have Hi6 := Lib.hid hi6; clear hi6
        have Hv6 := Lib.hid (IntsAt.below (w := W1.drew) Hv.out hb6)
        have Hb6 := Lib.hid (below_step Hb0.out.drew Hb0.out.size hb6)
        clear hb6 hown
        have hfd := fun W => sh_field x a6 (shardV d need x).length c6 W
        refine takeH 5 (v := ?vm5) rfl (by kernel_rfl) (by kernel_rfl) (by kernel_rfl) (fun _ _ _ h => h) hH rfl ?ym5 ?rm5
        case ym5 => intro W hSw; go_simp; try with_reducible rfl
        try simp only [Act.put, List.setIfInBounds_toArray, List.set_cons_zero, List.set_cons_succ]
        refine callH 8 rfl (by kernel_rfl) rfl (fun K hK => ?_)
        go_simp
        refine (lib_Equal a6 av c6 cv (shardV d need x) vs _ (by omega) (by omega) Hi6.out Hv6.out).mono ?_
        rintro e w7 ⟨rfl, hdr⟩
        dsimp only
        refine hK.out _ _ ⟨(hdr.cell _).trans hH.1, (hdr.cell _).trans hH.2⟩ (fun hH => ?_)
        clear hK K
        try simp only [Act.put, List.setIfInBounds_toArray, List.set_cons_zero, List.set_cons_succ]
        refine takeH 9 (v := ?vm9) rfl (by kernel_rfl) (by kernel_rfl) (by kernel_rfl) (fun _ _ _ h => h) hH rfl ?ym9 ?rm9
        case ym9 => intro W hSw; go_simp; try with_reducible rfl
        try simp only [Act.put, List.setIfInBounds_toArray, List.set_cons_zero, List.set_cons_succ]
        refine wpAnyH_done (by kernel_rfl) ?_ _
        try simp only [Act.put]
        go_wp2
        go_ret
        exact ⟨ret_bool Hf.out.symm, below_step Hb6.out Hb6.out.size (hdr.below _)⟩
      · rw [decide_eq_false hX] at hxm
        have Hxm := Lib.hid hxm; clear hxm
        have Hf := Lib.hid (matB_no3 (d := d) (need := need) (s := (x, vs)) hX)
        clear hd hc hv
        go_enter Try.func60, Try.ntmps60
        go_wp2_with fail
        refine Hdt.out.mono ?_
        rintro e w' ⟨rfl, rfl⟩
        go_wp2_with fail
        refine (Hnm.out _).mono ?_
        rintro e w' ⟨rfl, rfl⟩
        go_wp2_with fail
        refine (Hxm.out _).mono ?_
        rintro e w' ⟨rfl, rfl⟩
        go_wp2
        go_ret
        exact ⟨ret_bool Hf.out.symm, hb0⟩
    · rw [decide_eq_false hN] at hnm
      have Hnm := Lib.hid hnm; clear hnm
      have Hf := Lib.hid (matB_no2 (d := d) (s := (x, vs)) hN)
      clear hd hc hv hxm
      go_enter Try.func60, Try.ntmps60
      go_wp2_with fail
      refine Hdt.out.mono ?_
      rintro e w' ⟨rfl, rfl⟩
      go_wp2_with fail
      refine (Hnm.out _).mono ?_
      rintro e w' ⟨rfl, rfl⟩
      go_wp2
      go_ret
      exact ⟨ret_bool Hf.out.symm, hb0⟩

end Go.Proofs.Ytkndndcjchlpdab
