/- The exact laws' functions on shards: whether two are the same, marks written and found again, each by a walk of its text; conditions: the lists are short. -/
import Derived.Test.YtaicljoapmmnnaaN3
import Derived.Test.YtaicljoapmmnnaaL2
import Derived.Test.YtaicljoapmmnnaaL3
namespace Go.Proofs.Ytaicljoapmmnnaa
open Go.RowKit

theorem laws_eqShard' (n : Int) (a a' : Option Addr) (cap cap' : Nat) (xs : List Int) (w : World) (hbig : xs.length ≤ 1099511627776) (hc : IntsAt w a xs) (hc' : IntsAt w a' xs) :
    Calls Try.prog 19 #[.agg #[.int .i64 n, .slice a xs.length cap], .agg #[.int .i64 n, .slice a' xs.length cap']] w fun e w' => e = .returned (.bool true) ∧ Below w.heap.size w w' := by
  have hb : ∀ o o', Below w.heap.size w ((w.alloc o).alloc o') := fun o o' => ((Below.refl _ w).alloc (Nat.le_refl _) _).alloc (by simp) _
  have H := Lib.hid (fun w' (h : Below w.heap.size w w') => laws_eqIntS' a a' cap cap' xs w' hbig (hc.below h) (hc'.below h))
  have Hb := Lib.hid hb; clear hb hc hc'
  go_enter Try.func19, Try.ntmps19
  go_wp2_with fail
  refine (H.out _ (Hb.out _ _)).mono ?_
  rintro e w1 ⟨rfl, hd⟩
  go_wp2
  go_ret
  exact ⟨rfl, (Hb.out _ _).trans ((hd.below _).mono (Nat.le_refl _))⟩

theorem laws_eqShardS' (L : List (Int × List Int)) (v v' : Value) (fp fp' : List Nat) (w : World) (hbig : L.length ≤ 1048576) (hin : ∀ s ∈ L, s.2.length ≤ 1048576) (hr : Rd w (.l (L.map shardD)) v fp) (hr' : Rd w (.l (L.map shardD)) v' fp') :
    Calls Try.prog 14 #[v, v'] w fun e w' => e = .returned (.bool true) ∧ Below w.heap.size w w' := by
  obtain ⟨a, cap, rfl⟩ := hr.slice
  obtain ⟨a', cap', rfl⟩ := hr'.slice
  rw [List.length_map] at *
  have Hr := Lib.hid hr; clear hr
  have Hr' := Lib.hid hr'; clear hr'
  have Hin := Lib.hid hin; clear hin
  go_enter Try.func14, Try.ntmps14
  go_wp2
  go_loopw [5] (fun i wr => ∃ k : Nat, k ≤ L.length ∧ i = .int .i64 k ∧ Below w.heap.size w wr) (fun i _ => L.length - (intOf i).toNat)
  case atStart => exact ⟨0, by omega, rfl, Below.refl _ _⟩
  case round =>
    obtain ⟨k, hk, rfl, hbel⟩ := hrel
    by_cases hlt : k < L.length
    · obtain ⟨g, off, rfl, hg, hat⟩ := shards_at (Hr.out.under hbel) (by omega)
      obtain ⟨g', off', rfl, hg', hat'⟩ := shards_at (Hr'.out.under hbel) (by omega)
      obtain ⟨av, cv, C0, C1, I1⟩ := hat k hlt
      obtain ⟨av', cv', C2, C3, I2⟩ := hat' k hlt
      have hxs := Hin.out _ (List.getElem_mem hlt)
      have Hbel := Lib.hid hbel; clear hbel hat hat'
      generalize L[k].1 = x at *
      generalize L[k].2 = xs at *
      have H := Lib.hid (fun w' (h : Below wr.heap.size wr w') => laws_eqShard' x av av' cv cv' xs w' (by omega) (I1.below h) (I2.below h))
      have hgl := Lib.hid (fun w' (h : Below wr.heap.size wr w') => (⟨Nat.lt_of_lt_of_le hg h.size, Nat.lt_of_lt_of_le hg' h.size⟩ : g < w'.heap.size ∧ g' < w'.heap.size))
      have hb0 : Below wr.heap.size wr wr.drew := (Below.refl _ _).drew
      clear I1 I2 hg hg'
      go_wp2_with fail
      refine wp_region_held_drew (S := fun w' => Below wr.heap.size wr w' ∧ w'.cell? ⟨g, off + k * 2, none⟩ = some (.int .i64 x) ∧ w'.cell? ⟨g, off + k * 2 + 1, none⟩ = some (.slice av xs.length cv) ∧ w'.cell? ⟨g', off' + k * 2, none⟩ = some (.int .i64 x) ∧ w'.cell? ⟨g', off' + k * 2 + 1, none⟩ = some (.slice av' xs.length cv')) (by kernel_rfl) ⟨hb0, C0, C1, C2, C3⟩ (fun hH => ?_)
      refine takeH 0 (v := ?vs1) rfl (by kernel_rfl) (by kernel_rfl) (by kernel_rfl) (fun _ _ _ h => h) hH rfl ?ys1 ?rs1
      case ys1 => intro w hSw; go_simp; try with_reducible rfl
      try simp only [Act.put, List.setIfInBounds_toArray, List.set_cons_zero, List.set_cons_succ]
      refine takeH 1 (v := ?vs2) rfl (by kernel_rfl) (by kernel_rfl) (by kernel_rfl) (fun _ _ _ h => h) hH rfl ?ys2 ?rs2
      case ys2 => intro w hSw; go_simp; try with_reducible rfl
      try simp only [Act.put, List.setIfInBounds_toArray, List.set_cons_zero, List.set_cons_succ]
      refine takeH 2 (v := ?vs3) rfl (by kernel_rfl) (by kernel_rfl) (by kernel_rfl) (fun _ _ _ h => h) hH rfl ?ys3 ?rs3
      case ys3 => intro w hSw; go_simp; try with_reducible rfl
      try simp only [Act.put, List.setIfInBounds_toArray, List.set_cons_zero, List.set_cons_succ]
      refine takeH 3 (v := ?vs4) rfl (by kernel_rfl) (by kernel_rfl) (by kernel_rfl) (fun _ _ _ h => h) hH rfl ?ys4 ?rs4
      case ys4 => intro w hSw; go_simp; try with_reducible rfl
      try simp only [Act.put, List.setIfInBounds_toArray, List.set_cons_zero, List.set_cons_succ]
      refine takeH 4 (v := ?vs5) rfl (by kernel_rfl) (by kernel_rfl) (by kernel_rfl) (fun _ _ _ h => h) hH rfl ?ys5 ?rs5
      case ys5 => intro w hSw; go_simp; try with_reducible rfl
      try simp only [Act.put, List.setIfInBounds_toArray, List.set_cons_zero, List.set_cons_succ]
      refine takeH 5 (v := ?vs6) rfl (by kernel_rfl) (by kernel_rfl) (by kernel_rfl) (fun _ _ _ h => h) hH rfl ?ys6 ?rs6
      case ys6 => intro w hSw; go_simp; try with_reducible rfl
      try simp only [Act.put, List.setIfInBounds_toArray, List.set_cons_zero, List.set_cons_succ]
      refine takeH 6 (v := ?vs7) rfl (by kernel_rfl) (by kernel_rfl) (by kernel_rfl) (fun _ _ _ h => h) hH rfl ?ys7 ?rs7
      case ys7 => intro w hSw; go_simp; try with_reducible rfl
      try simp only [Act.put, List.setIfInBounds_toArray, List.set_cons_zero, List.set_cons_succ]
      refine takeH 7 (v := ?vs8) rfl (by kernel_rfl) (by kernel_rfl) (by kernel_rfl) (fun _ _ _ h => h) hH rfl ?ys8 ?rs8
      case ys8 => intro w hSw; go_simp; try with_reducible rfl
      try simp only [Act.put, List.setIfInBounds_toArray, List.set_cons_zero, List.set_cons_succ]
      refine callH 8 rfl (by kernel_rfl) rfl (fun K hK => ?_)
      go_simp
      go_at_call 19
      refine (H.out _ hH.1).mono ?_
      rintro e wx ⟨rfl, hbx⟩
      refine hK.out _ _ ⟨hH.1.trans (hbx.mono hH.1.size), (hbx.cell (p := ⟨g, off + k * 2, none⟩) (hgl.out _ hH.1).1).trans hH.2.1, (hbx.cell (p := ⟨g, off + k * 2 + 1, none⟩) (hgl.out _ hH.1).1).trans hH.2.2.1, (hbx.cell (p := ⟨g', off' + k * 2, none⟩) (hgl.out _ hH.1).2).trans hH.2.2.2.1, (hbx.cell (p := ⟨g', off' + k * 2 + 1, none⟩) (hgl.out _ hH.1).2).trans hH.2.2.2.2⟩ (fun hH => ?_)
      clear hK K
      try simp only [Act.put, List.setIfInBounds_toArray, List.set_cons_zero, List.set_cons_succ]
      refine takeH 9 (v := ?vs10) rfl (by kernel_rfl) (by kernel_rfl) (by kernel_rfl) (fun _ _ _ h => h) hH rfl ?ys10 ?rs10
      case ys10 => intro w hSw; go_simp; try with_reducible rfl
      try simp only [Act.put, List.setIfInBounds_toArray, List.set_cons_zero, List.set_cons_succ]
      refine wpAnyH_done (by kernel_rfl) ?_ _
      go_wp2
      go_roundw
      case rel => exact ⟨k + 1, by omega, by go_num, below_step Hbel.out Hbel.out.size hH.1⟩
      case measure => simp [intOf]; omega
    · go_wp2
      go_ret
      exact ⟨rfl, hbel⟩

/-- The mark that the row with index i gets. -/
def kAt (L : List Sh) (k : Nat) : Nat → Nat
  | 0 => k
  | i + 1 => kAt L k i + 1 + (L.getD i (0, [])).2.length
def markRow (L : List Sh) (k i : Nat) : List Fd := [.i (kAt L k i), .l (markL (kAt L k i + 1) (L.getD i (0, [])).2.length)]
/-- The rows when the first i are marked. -/
def markTo (L : List Sh) (k i : Nat) : List (List Fd) := (List.range L.length).map fun j => if j < i then markRow L k j else shardF (L.getD j (0, []))
theorem markTo_len (L : List Sh) (k i : Nat) : (markTo L k i).length = L.length := by simp [markTo]
theorem markTo_get {L : List Sh} {k i j : Nat} (h : j < (markTo L k i).length) : (markTo L k i)[j] = if j < i then markRow L k j else shardF (L.getD j (0, [])) := by simp [markTo]
theorem markTo_zero (L : List Sh) (k : Nat) : markTo L k 0 = L.map shardF := by
  apply List.ext_getElem
  · simp [markTo]
  · intro j h1 h2
    have hj : j < L.length := by simpa using h2
    rw [markTo_get, if_neg (by omega), List.getElem_map, getS hj]
theorem markTo_set {L : List Sh} {k i : Nat} (h : i < L.length) : (markTo L k i).set i (markRow L k i) = markTo L k (i + 1) := by
  apply List.ext_getElem
  · simp [markTo]
  · intro j h1 h2
    by_cases e : j = i
    · subst e; simp only [List.getElem_set_self]; rw [markTo_get, if_pos (by omega)]
    · rw [List.getElem_set_ne (fun h => e h.symm), markTo_get, markTo_get]
      by_cases e2 : j < i
      · rw [if_pos e2, if_pos (by omega)]
      · rw [if_neg e2, if_neg (by omega)]
theorem kAt_le {L : List Sh} {M : Nat} (h : ∀ s ∈ L, s.2.length ≤ M) (k : Nat) : ∀ i, i ≤ L.length → kAt L k i ≤ k + i * (M + 1)
  | 0, _ => by simp [kAt]
  | i + 1, hi => by
    have h1 := kAt_le h k i (by omega)
    have h2 := h L[i] (List.getElem_mem _)
    rw [kAt, getS (by omega), Nat.add_mul]; omega

theorem laws_markShardS (L : List Sh) (v : Value) (k B hi : Nat) (w : World) (hlen : L.length ≤ 1000) (hin : ∀ s ∈ L, s.2.length ≤ 1000) (hk : k ≤ 1000000) (hown : OwnR 30 3 2 w B hi v (L.map shardF)) :
    Calls Try.prog 15 #[v, .int .i64 k] w fun e w' => e = .returned (.int .i64 ((kAt L k L.length : Nat) : Int)) ∧ OwnR 30 3 2 w' B hi v (markTo L k L.length) ∧ Btw B hi w w' := by
  obtain ⟨a, cap, rfl, _⟩ := hown.slice
  rw [← markTo_zero L k, markTo_len] at hown
  have Hown := Lib.hid hown; clear hown
  have Hin := Lib.hid hin; clear hin
  rw [List.length_map]
  go_enter Try.func15, Try.ntmps15
  go_wp2
  go_loopw [1, 5] (fun m i wr => ∃ j : Nat, j ≤ L.length ∧ i = .int .i64 j ∧ m = .int .i64 ((kAt L k j : Nat) : Int) ∧ OwnR 30 3 2 wr B hi (.slice a L.length cap) (markTo L k j) ∧ Btw B hi w wr) (fun _ i _ => L.length - (intOf i).toNat)
  case atStart => exact ⟨0, by omega, rfl, rfl, Hown.out, Btw.refl _ _ _⟩
  case round =>
    obtain ⟨j, hj, rfl, rfl, hrow, hbt⟩ := hrel
    by_cases hlt : j < L.length
    · have hkl := kAt_le Hin.out k j (by omega)
      have hkm : j * (1000 + 1) ≤ 1000 * 1001 := Nat.mul_le_mul (by omega) (Nat.le_refl _)
      have hml := markTo_len L k j
      obtain ⟨g, cap', hv, hBg, hgh, hgs⟩ := hrow.head (by rw [hml]; omega)
      simp only [Value.slice.injEq] at hv
      obtain ⟨rfl, hvl, rfl⟩ := hv
      clear hvl
      have hjm : j < (markTo L k j).length := by omega
      have hrj : (markTo L k j)[j] = shardF (L.getD j (0, [])) := by rw [markTo_get, if_neg (by omega)]
      obtain ⟨c0, hc0, hf0, hz0, _⟩ := hrow.cell (k := j) (j := 0) hjm (by rw [hrj]; simp [shardF])
      simp only [hrj, shardF] at hf0
      have hxs := Hin.out _ (List.getElem_mem hlt)
      obtain rfl : c0 = .int .i64 (L.getD j (0, [])).1 := hf0
      have hnext : kAt L k (j + 1) = kAt L k j + 1 + (L.getD j (0, [])).2.length := rfl
      have hset := markTo_set (k := k) hlt
      rw [markRow] at hset
      rw [getS hlt] at hc0 hnext hset
      have hr1 := hrow.setI (by rw [hml]) hjm (j := 0) (by omega) ((kAt L k j : Nat) : Int)
      simp only [hrj, shardF, List.set_cons_zero] at hr1
      rw [getS hlt] at hr1
      obtain ⟨c1, hc1, hf1, _, hne1⟩ := hrow.cell (k := j) (j := 1) hjm (by rw [hrj]; simp [shardF])
      simp only [hrj, shardF] at hf1
      have hown1 : Own 3 wr B c1 L[j].2 := by rw [← getS hlt]; exact hf1
      simp only [Nat.add_zero] at hc0 hz0 hr1
      have hown2 := hown1.set_other (B' := g) hne1 (j * 2) (.int .i64 ((kAt L k j : Nat) : Int))
      have hcall := laws_markIntS c1 L[j].2 (kAt L k j + 1) B _ (by omega) (by omega) hown2
      rw [show ((kAt L k j + 1 : Nat) : Int) = ((kAt L k j : Nat) : Int) + 1 by omega, ← hnext] at hcall
      have hc1' : (wr.setCell ⟨g, j * 2, none⟩ (.int .i64 ((kAt L k j : Nat) : Int))).cell? ⟨g, j * 2 + 1, none⟩ = some c1 := by
        exact (World.cell?_setCell_other _ _ _ _ (by simp)).trans hc1
      have hsj : j < ((markTo L k j).set j [.i ((kAt L k j : Nat) : Int), .l L[j].2]).length := by rw [List.length_set]; exact hjm
      have hsz1 : (wr.setCell ⟨g, j * 2, none⟩ (.int .i64 ((kAt L k j : Nat) : Int))).heap.size = wr.heap.size := by simp [World.setCell]
      have hfin := fun w' (ho : Own 3 w' B c1 (markL (kAt L k j + 1) L[j].2.length)) (hg' : (wr.setCell ⟨g, j * 2, none⟩ (.int .i64 ((kAt L k j : Nat) : Int))).grownBy w' c1.ownBlock) => hr1.setL (k := j) (j := 1) hsj (by omega) hc1' ho (fun b hb hne => hg'.block b hb fun e => hne e.symm)
      simp only [List.getElem_set_self, List.set_cons_succ, List.set_cons_zero, List.set_set] at hfin
      rw [hset] at hfin
      have hlt1 := hown1.lt
      have hhi1 : ∀ b, c1.ownBlock = some b → B ≤ b ∧ b < hi := by
        obtain ⟨cs, o1, o2, o3, o4, o5, o6⟩ := hrow.row
        obtain ⟨c, hc, hf⟩ := o2 j 1 hjm (by rw [hrj]; simp [shardF])
        have hcc := World.ownsRow.cells o1 (g := g) rfl _ _ hc
        rw [addr_add, hc1] at hcc
        obtain rfl := Option.some.inj hcc
        exact fun b hb => o5 _ c1 b hc hb
      have Hbt := Lib.hid (hbt.trans (Btw.set (lo := B) (hi := hi) wr hBg hgh (j * 2) (.int .i64 ((kAt L k j : Nat) : Int))))
      have Hhi := Lib.hid hhi1
      have Hfin := Lib.hid hfin
      have Hcall := Lib.hid hcall
      have Hnext := Lib.hid hnext
      clear hr1 hown1 hown2 hcall hfin hset hrj hjm hml hnext hc1' hsj hsz1 hlt1 hhi1 hrow hf1 hbt
      have hm9 : kAt L k j ≤ 3000000 := by omega
      clear hkl hkm
      generalize hm : kAt L k j = m at *
      generalize hm2 : kAt L k (j + 1) = m2 at *
      have Hm2 := Lib.hid hm2
      clear hm hm2
      go_wp2_with fail
      refine Hcall.out.mono ?_
      rintro e w6 ⟨rfl, ho6, hg6⟩
      have Hr6 := Lib.hid (Hfin.out w6 ho6 hg6)
      have Hb6 := Lib.hid (Hbt.out.trans (Btw.grown hg6 Hhi.out))
      clear ho6 hg6
      go_wp2
      go_roundw
      case rel => exact ⟨j + 1, by omega, by go_num, int_eq (by rw [Hm2.out]), Hr6.out, Hb6.out⟩
      case measure => simp [intOf]; omega
    · have hje : j = L.length := by omega
      subst hje
      go_wp2
      go_ret
      exact ⟨rfl, hrow, hbt⟩

