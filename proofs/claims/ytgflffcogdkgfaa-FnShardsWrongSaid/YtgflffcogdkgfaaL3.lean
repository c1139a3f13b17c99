/- What the helpers of the laws on shards answer where the two lists are equal, each by a walk of its text; conditions: the lists have fewer than 2^40 elements. -/
import Derived.Test.YtgflffcogdkgfaaRows
import Derived.Test.YtgflffcogdkgfaaBase
import Derived.Test.YtgflffcogdkgfaaApp
import Derived.Test.YtgflffcogdkgfaaDt
import Derived.Test.YtgflffcogdkgfaaC3
import Derived.Test.YtgflffcogdkgfaaL1
import Derived.Test.YtgflffcogdkgfaaHeld
import Derived.Deep.QuietTactic
import Derived.BigQuiet
namespace Go.Proofs.Ytgflffcogdkgfaa
open Go.RowKit

/-- A list of shards in memory. -/
theorem shards_at {w : World} {L : List (Int × List Int)} {a : Option Addr} {n cap : Nat} {fp : List Nat} (h : Rd w (.l (L.map shardD)) (.slice a n cap) fp) (hne : 0 < L.length) :
    ∃ g off, a = some ⟨g, off, none⟩ ∧ g < w.heap.size ∧ ∀ k (hk : k < L.length), ∃ av cv, w.cell? ⟨g, off + k * 2, none⟩ = some (.int .i64 L[k].1) ∧ w.cell? ⟨g, off + k * 2 + 1, none⟩ = some (.slice av L[k].2.length cv) ∧ IntsAt w av L[k].2 := by
  obtain ⟨g, off, rfl, hg, _, _, _, hc⟩ := Rd.at h (by simpa using hne) (sz := 2) (by intro e he; simp at he; obtain ⟨x, y, _, rfl⟩ := he; rfl)
  refine ⟨g, off, rfl, hg, fun k hk => ?_⟩
  have hk' : k < (L.map shardD).length := by simpa using hk
  have he : (L.map shardD)[k] = shardD L[k] := by simp
  obtain ⟨v0, f0, h0, r0, _⟩ := hc k 0 hk' (by rw [he]; simp [shardD])
  obtain ⟨v1, f1, h1, r1, _⟩ := hc k 1 hk' (by rw [he]; simp [shardD])
  have r0' : Rd w (.i L[k].1) v0 f0 := by simpa [shardD] using r0
  have r1' : Rd w (intsD L[k].2) v1 f1 := by simpa [shardD] using r1
  obtain ⟨rfl, _⟩ := r0'.int
  obtain ⟨av, cv, rfl, _, hi⟩ := r1'.ints
  exact ⟨av, cv, h0, by rw [Nat.add_assoc]; exact h1, hi⟩

theorem laws_sameShard' (n : Int) (a a' : Option Addr) (cap cap' : Nat) (xs : List Int) (w : World) (hbig : xs.length ≤ 1099511627776) (hc : IntsAt w a xs) (hc' : IntsAt w a' xs) :
    Calls Try.prog 15 #[.agg #[.int .i64 n, .slice a xs.length cap], .agg #[.int .i64 n, .slice a' xs.length cap']] w fun e w' => e = .returned (.bool true) ∧ Below w.heap.size w w' := by
  have hb : ∀ o o', Below w.heap.size w ((w.alloc o).alloc o') := fun o o' => ((Below.refl _ w).alloc (Nat.le_refl _) _).alloc (by simp) _
  have H := Lib.hid (fun w' (h : Below w.heap.size w w') => laws_sameInts' a a' cap cap' xs w' hbig (hc.below h) (hc'.below h))
  have Hb := Lib.hid hb; clear hb hc hc'
  go_enter Try.func15, Try.ntmps15
  go_wp2_with fail
  refine (H.out _ (Hb.out _ _)).mono ?_
  rintro e w1 ⟨rfl, hd⟩
  go_wp2
  go_ret
  exact ⟨rfl, (Hb.out _ _).trans ((hd.below _).mono (Nat.le_refl _))⟩

theorem laws_sameShards' (L : List (Int × List Int)) (v v' : Value) (fp fp' : List Nat) (w : World) (hbig : L.length ≤ 1000000) (hin : ∀ s ∈ L, s.2.length ≤ 1000000) (hr : Rd w (.l (L.map shardD)) v fp) (hr' : Rd w (.l (L.map shardD)) v' fp') :
    Calls Try.prog 12 #[v, v'] w fun e w' => e = .returned (.bool true) ∧ Below w.heap.size w w' := by
  obtain ⟨a, cap, rfl⟩ := hr.slice
  obtain ⟨a', cap', rfl⟩ := hr'.slice
  rw [List.length_map] at *
  have Hr := Lib.hid hr; clear hr
  have Hr' := Lib.hid hr'; clear hr'
  have Hin := Lib.hid hin; clear hin
  go_enter Try.func12, Try.ntmps12
  go_wp2
  go_loopw [5] (fun i wr => ∃ k : Nat, k ≤ L.length ∧ i = .int .i64 k ∧ Below w.heap.size w wr) (fun i _ => L.length - (intOf i).toNat)
  case atStart => exact ⟨0, by omega, rfl, Below.refl _ _⟩
  case round =>
    obtain ⟨k, hk, rfl, hbel⟩ := hrel
    by_cases hlt : k < L.length
    · obtain ⟨g, off, rfl, hg, hat⟩ := shards_at (Hr.out.under hbel) (by omega)
      obtain ⟨g', off', rfl, hg', hat'⟩ := shards_at (Hr'.out.under hbel) (by omega)
      obtain ⟨av, cv, C0, C1, I1⟩ := hat k hlt
      obtain ⟨av', cv', C2, C3, I2⟩ := hat' k hlt
      have hxs := Hin.out _ (List.getElem_mem hlt)
      have Hbel := Lib.hid hbel; clear hbel hat hat'
      generalize L[k].1 = x at *
      generalize L[k].2 = xs at *
      have H := Lib.hid (fun w' (h : Below wr.heap.size wr w') => laws_sameShard' x av av' cv cv' xs w' (by omega) (I1.below h) (I2.below h))
      have hgl := Lib.hid (fun w' (h : Below wr.heap.size wr w') => (⟨Nat.lt_of_lt_of_le hg h.size, Nat.lt_of_lt_of_le hg' h.size⟩ : g < w'.heap.size ∧ g' < w'.heap.size))
      have hb0 : Below wr.heap.size wr wr.drew := (Below.refl _ _).drew
      clear I1 I2 hg hg'
      go_wp2_with fail
      refine wp_region_held_drew (S := fun w' => Below wr.heap.size wr w' ∧ w'.cell? ⟨g, off + k * 2, none⟩ = some (.int .i64 x) ∧ w'.cell? ⟨g, off + k * 2 + 1, none⟩ = some (.slice av xs.length cv) ∧ w'.cell? ⟨g', off' + k * 2, none⟩ = some (.int .i64 x) ∧ w'.cell? ⟨g', off' + k * 2 + 1, none⟩ = some (.slice av' xs.length cv')) (by kernel_rfl) ⟨hb0, C0, C1, C2, C3⟩ (fun hH => ?_)
      refine takeH 0 (v := ?vs1) rfl (by kernel_rfl) (by kernel_rfl) (by kernel_rfl) (fun _ _ _ h => h) hH rfl ?ys1 ?rs1
      case ys1 => intro w hSw; go_simp; try with_reducible rfl
      try simp only [Act.put, List.setIfInBounds_toArray, List.set_cons_zero, List.set_cons_succ]
      refine takeH 1 (v := ?vs2) rfl (by kernel_rfl) (by kernel_rfl) (by kernel_rfl) (fun _ _ _ h => h) hH rfl ?ys2 ?rs2
      case ys2 => intro w hSw; go_simp; try with_reducible rfl
      try simp only [Act.put, List.setIfInBounds_toArray, List.set_cons_zero, List.set_cons_succ]
      refine takeH 2 (v := ?vs3) rfl (by kernel_rfl) (by kernel_rfl) (by kernel_rfl) (fun _ _ _ h => h) hH rfl ?ys3 ?rs3
      case ys3 => intro w hSw; go_simp; try with_reducible rfl
      try simp only [Act.put, List.setIfInBounds_toArray, List.set_cons_zero, List.set_cons_succ]
      refine takeH 3 (v := ?vs4) rfl (by kernel_rfl) (by kernel_rfl) (by kernel_rfl) (fun _ _ _ h => h) hH rfl ?ys4 ?rs4
      case ys4 => intro w hSw; go_simp; try with_reducible rfl
      try simp only [Act.put, List.setIfInBounds_toArray, List.set_cons_zero, List.set_cons_succ]
      refine takeH 4 (v := ?vs5) rfl (by kernel_rfl) (by kernel_rfl) (by kernel_rfl) (fun _ _ _ h => h) hH rfl ?ys5 ?rs5
      case ys5 => intro w hSw; go_simp; try with_reducible rfl
      try simp only [Act.put, List.setIfInBounds_toArray, List.set_cons_zero, List.set_cons_succ]
      refine takeH 5 (v := ?vs6) rfl (by kernel_rfl) (by kernel_rfl) (by kernel_rfl) (fun _ _ _ h => h) hH rfl ?ys6 ?rs6
      case ys6 => intro w hSw; go_simp; try with_reducible rfl
      try simp only [Act.put, List.setIfInBounds_toArray, List.set_cons_zero, List.set_cons_succ]
      refine takeH 6 (v := ?vs7) rfl (by kernel_rfl) (by kernel_rfl) (by kernel_rfl) (fun _ _ _ h => h) hH rfl ?ys7 ?rs7
      case ys7 => intro w hSw; go_simp; try with_reducible rfl
      try simp only [Act.put, List.setIfInBounds_toArray, List.set_cons_zero, List.set_cons_succ]
      refine takeH 7 (v := ?vs8) rfl (by kernel_rfl) (by kernel_rfl) (by kernel_rfl) (fun _ _ _ h => h) hH rfl ?ys8 ?rs8
      case ys8 => intro w hSw; go_simp; try with_reducible rfl
      try simp only [Act.put, List.setIfInBounds_toArray, List.set_cons_zero, List.set_cons_succ]
      refine callH 8 rfl (by kernel_rfl) rfl (fun K hK => ?_)
      go_simp
      go_at_call 15
      refine (H.out _ hH.1).mono ?_
      rintro e wx ⟨rfl, hbx⟩
      refine hK.out _ _ ⟨hH.1.trans (hbx.mono hH.1.size), (hbx.cell (p := ⟨g, off + k * 2, none⟩) (hgl.out _ hH.1).1).trans hH.2.1, (hbx.cell (p := ⟨g, off + k * 2 + 1, none⟩) (hgl.out _ hH.1).1).trans hH.2.2.1, (hbx.cell (p := ⟨g', off' + k * 2, none⟩) (hgl.out _ hH.1).2).trans hH.2.2.2.1, (hbx.cell (p := ⟨g', off' + k * 2 + 1, none⟩) (hgl.out _ hH.1).2).trans hH.2.2.2.2⟩ (fun hH => ?_)
      clear hK K
      try simp only [Act.put, List.setIfInBounds_toArray, List.set_cons_zero, List.set_cons_succ]
      refine takeH 9 (v := ?vs10) rfl (by kernel_rfl) (by kernel_rfl) (by kernel_rfl) (fun _ _ _ h => h) hH rfl ?ys10 ?rs10
      case ys10 => intro w hSw; go_simp; try with_reducible rfl
      try simp only [Act.put, List.setIfInBounds_toArray, List.set_cons_zero, List.set_cons_succ]
      refine wpAnyH_done (by kernel_rfl) ?_ _
      go_wp2
      go_roundw
      case rel => exact ⟨k + 1, by omega, by go_num, below_step Hbel.out Hbel.out.size hH.1⟩
      case measure => simp [intOf]; omega
    · go_wp2
      go_ret
      exact ⟨rfl, hbel⟩

end Go.Proofs.Ytgflffcogdkgfaa
