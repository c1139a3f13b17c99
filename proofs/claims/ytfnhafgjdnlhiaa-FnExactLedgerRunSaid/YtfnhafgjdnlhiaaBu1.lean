/- Texts that the laws of this folder share, one behind another; no conditions. -/
import Derived.Test.YtfnhafgjdnlhiaaRows
import Derived.Test.YtfnhafgjdnlhiaaBu0
import Derived.Deep.QuietTactic
import Derived.BigQuiet
import Derived.Deep.RegionHeld3
import Derived.Maps.AppendAt

/- The exact laws' functions on values and lists of Txn: sameness, copies, sizes, marks, each by a walk of its text; conditions: the lists are no longer than the laws' bound. -/
namespace Go.Proofs.Ytfnhafgjdnlhiaa
open Go.RowKit

def txnP (e : List Fd) : Prop := ∃ (x0 : Int) (x1 : Int) (x2 : Int) (x3 : Int), e = [.i x0, .i x1, .i x2, .i x3]
theorem txnP_len {es : List (List Fd)} (h : ∀ e ∈ es, txnP e) : ∀ e ∈ es, e.length = 4 := by
  intro e he
  obtain ⟨_, _, _, _, rfl⟩ := h e he
  rfl

theorem txn_inf : (Try.prog.info? 41).map (fun i => (i.zero, i.size, i.bytes)) = some (some (.agg #[.int .i64 0, .int .i64 0, .int .i64 0, .int .i64 0]), 4, 32) := by kernel_rfl

set_option maxRecDepth 8000 in
/-- A list of Txn that came in. -/
theorem open_TxnS {H : Type} {enc : TypeId × Value → H} {W : World} {base : Nat} {v : Value} {d : DataW H} {p : List MemPlace} (hv : Value.okWide Try.prog W .any base 43 v) (h : DataW.Trod enc Try.prog W 0 (fun _ => true) true 43 v d p) :
    ∃ es fp, Rd W (rowsD es) v fp ∧ es.length ≤ maxLen ∧ ∀ e ∈ es, txnP e ∧ fitE e := by
  obtain ⟨a, len, cap, rfl⟩ := Go.WideShapes.okWide_slice Try.underlying43 hv
  obtain ⟨d, fp, hr, hg⟩ := open_cell (opens_slice_struct (Gs := [IntG, IntG, IntG, IntG]) Try.underlying43 (by kernel_rfl) Try.underlying74 (by kernel_rfl) (by first | decide | exact Nat.zero_lt_succ _ | simp) rfl (fun j h h' => by
    match j, h, h' with
    | 0, _, _ => exact ⟨rfl, opens_int Try.underlying3 (by kernel_rfl)⟩
    | 1, _, _ => exact ⟨rfl, opens_int Try.underlying3 (by kernel_rfl)⟩
    | 2, _, _ => exact ⟨rfl, opens_int Try.underlying3 (by kernel_rfl)⟩
    | 3, _, _ => exact ⟨rfl, opens_int Try.underlying3 (by kernel_rfl)⟩)) rfl h
  obtain ⟨es, rfl, hl, hp⟩ := rows_of hg (P := fun e => txnP e ∧ fitE e) (fun e he hf => by
    match e, he with
    | [d0, d1, d2, d3], _ =>
      obtain ⟨x0, rfl, b0⟩ := hf 0 (by simp) (by simp)
      obtain ⟨x1, rfl, b1⟩ := hf 1 (by simp) (by simp)
      obtain ⟨x2, rfl, b2⟩ := hf 2 (by simp) (by simp)
      obtain ⟨x3, rfl, b3⟩ := hf 3 (by simp) (by simp)
      exact ⟨[.i x0, .i x1, .i x2, .i x3], rfl, ⟨x0, x1, x2, x3, rfl⟩, fun _ hx => by
        simp at hx
        rcases hx with rfl | rfl | rfl | rfl
        · exact b0
        · exact b1
        · exact b2
        · exact b3,
      fun _ hx => by simp at hx⟩)
  exact ⟨es, fp, hr, hl, hp⟩

set_option maxRecDepth 8000 in
/-- A Txn that came in by value. -/
theorem open_Txn {H : Type} {enc : TypeId × Value → H} {W : World} {base : Nat} {v : Value} {d : DataW H} {p : List MemPlace} (hv : Value.okWide Try.prog W .any base 74 v) (h : DataW.Trod enc Try.prog W 0 (fun _ => true) true 74 v d p) :
    ∃ x0 x1 x2 x3, v = .agg #[.int .i64 x0, .int .i64 x1, .int .i64 x2, .int .i64 x3] ∧ (-9223372036854775808 ≤ x0 ∧ x0 ≤ 9223372036854775807) ∧ (-9223372036854775808 ≤ x1 ∧ x1 ≤ 9223372036854775807) ∧ (-9223372036854775808 ≤ x2 ∧ x2 ≤ 9223372036854775807) ∧ (-9223372036854775808 ≤ x3 ∧ x3 ≤ 9223372036854775807) := by
  obtain ⟨cs, rfl, hl, hf⟩ := open_struct (Gs := [IntG, IntG, IntG, IntG]) Try.underlying74 (by kernel_rfl) rfl (fun j h h' => by
    match j, h, h' with
    | 0, _, _ => exact ⟨rfl, opens_int Try.underlying3 (by kernel_rfl)⟩
    | 1, _, _ => exact ⟨rfl, opens_int Try.underlying3 (by kernel_rfl)⟩
    | 2, _, _ => exact ⟨rfl, opens_int Try.underlying3 (by kernel_rfl)⟩
    | 3, _, _ => exact ⟨rfl, opens_int Try.underlying3 (by kernel_rfl)⟩) hv h
  match cs, hl with
  | [u0, u1, u2, u3], _ =>
    obtain ⟨d0, f0, r0, x0, rfl, b0⟩ := hf 0 (by simp) (by simp)
    obtain ⟨rfl, _⟩ := Rd.int (show Rd W (.i x0) u0 f0 from r0)
    obtain ⟨d1, f1, r1, x1, rfl, b1⟩ := hf 1 (by simp) (by simp)
    obtain ⟨rfl, _⟩ := Rd.int (show Rd W (.i x1) u1 f1 from r1)
    obtain ⟨d2, f2, r2, x2, rfl, b2⟩ := hf 2 (by simp) (by simp)
    obtain ⟨rfl, _⟩ := Rd.int (show Rd W (.i x2) u2 f2 from r2)
    obtain ⟨d3, f3, r3, x3, rfl, b3⟩ := hf 3 (by simp) (by simp)
    obtain ⟨rfl, _⟩ := Rd.int (show Rd W (.i x3) u3 f3 from r3)
    exact ⟨x0, x1, x2, x3, rfl, b0, b1, b2, b3⟩

theorem laws_eqTxnR (x0 : Int) (x1 : Int) (x2 : Int) (x3 : Int) (w : World) :
    Calls Try.prog 44 #[.agg #[.int .i64 x0, .int .i64 x1, .int .i64 x2, .int .i64 x3], .agg #[.int .i64 x0, .int .i64 x1, .int .i64 x2, .int .i64 x3]] w fun e w' => e = .returned (.bool true) ∧ Below w.heap.size w w' := by
  have hb : Below w.heap.size w ((w.alloc (.cells #[.int .i64 x0, .int .i64 x1, .int .i64 x2, .int .i64 x3] 41)).alloc (.cells #[.int .i64 x0, .int .i64 x1, .int .i64 x2, .int .i64 x3] 41)) := ((Below.refl _ w).alloc (Nat.le_refl _) _).alloc (by simp) _
  go_enter Try.func44, Try.ntmps44
  go_wp2
  go_ret
  exact ⟨rfl, hb⟩

set_option maxHeartbeats 1000000 in
theorem laws_eqTxnSR (es : List (List Fd)) (v v' : Value) (fp fp' : List Nat) (w : World) (hbig : es.length ≤ 1099511627776) (hp : ∀ e ∈ es, txnP e) (hl : ∀ e ∈ es, lnE e ≤ 1099511627776) (hr : Rd w (rowsD es) v fp) (hr' : Rd w (rowsD es) v' fp') :
    Calls Try.prog 22 #[v, v'] w fun e w' => e = .returned (.bool true) ∧ Below w.heap.size w w' := by
  have Hm := Lib.hid (txnP_len hp)
  obtain ⟨a, cap, rfl⟩ := Rd.slice hr
  obtain ⟨a', cap', rfl⟩ := Rd.slice hr'
  rw [List.length_map] at *
  have Hr := Lib.hid hr; clear hr
  have Hr' := Lib.hid hr'; clear hr'
  have Hp := Lib.hid hp; clear hp
  have Hl := Lib.hid hl; clear hl
  go_enter Try.func22, Try.ntmps22
  go_wp2
  go_loopw [5] (fun i wr => ∃ k : Nat, k ≤ es.length ∧ i = .int .i64 k ∧ Below w.heap.size w wr) (fun i _ => es.length - (intOf i).toNat)
  case atStart => exact ⟨0, by omega, rfl, Below.refl _ _⟩
  case round =>
    obtain ⟨k, hk, rfl, hbel⟩ := hrel
    by_cases hlt : k < es.length
    · obtain ⟨g, off, rfl, hg, hat⟩ := rows_at (Hr.out.under hbel) (by omega) Hm.out
      obtain ⟨g', off', rfl, hg', hat'⟩ := rows_at (Hr'.out.under hbel) (by omega) Hm.out
      obtain ⟨x0, x1, x2, x3, he⟩ := Hp.out _ (List.getElem_mem hlt)
      have hle := Hl.out _ (List.getElem_mem hlt)
      rw [he] at hle
      obtain ⟨v0, f0, C0, R0⟩ := hat k hlt 0 (by rw [he]; simp)
      obtain rfl := rd_i R0 (x := x0) (by simp only [he]; rfl)
      clear R0
      obtain ⟨v1, f1, C1, R1⟩ := hat k hlt 1 (by rw [he]; simp)
      obtain rfl := rd_i R1 (x := x1) (by simp only [he]; rfl)
      clear R1
      obtain ⟨v2, f2, C2, R2⟩ := hat k hlt 2 (by rw [he]; simp)
      obtain rfl := rd_i R2 (x := x2) (by simp only [he]; rfl)
      clear R2
      obtain ⟨v3, f3, C3, R3⟩ := hat k hlt 3 (by rw [he]; simp)
      obtain rfl := rd_i R3 (x := x3) (by simp only [he]; rfl)
      clear R3
      simp only [Nat.add_zero] at C0
      obtain ⟨v0, f0, C0', R0⟩ := hat' k hlt 0 (by rw [he]; simp)
      obtain rfl := rd_i R0 (x := x0) (by simp only [he]; rfl)
      clear R0
      obtain ⟨v1, f1, C1', R1⟩ := hat' k hlt 1 (by rw [he]; simp)
      obtain rfl := rd_i R1 (x := x1) (by simp only [he]; rfl)
      clear R1
      obtain ⟨v2, f2, C2', R2⟩ := hat' k hlt 2 (by rw [he]; simp)
      obtain rfl := rd_i R2 (x := x2) (by simp only [he]; rfl)
      clear R2
      obtain ⟨v3, f3, C3', R3⟩ := hat' k hlt 3 (by rw [he]; simp)
      obtain rfl := rd_i R3 (x := x3) (by simp only [he]; rfl)
      clear R3
      simp only [Nat.add_zero] at C0'
      have Hbel := Lib.hid hbel; clear hbel hat hat' he hle
      have H := Lib.hid (fun w' (h : Below wr.heap.size wr w') => laws_eqTxnR x0 x1 x2 x3 w')
      have hgl := Lib.hid (fun w' (h : Below wr.heap.size wr w') => (⟨Nat.lt_of_lt_of_le hg h.size, Nat.lt_of_lt_of_le hg' h.size⟩ : g < w'.heap.size ∧ g' < w'.heap.size))
      have hb0 : Below wr.heap.size wr wr.drew := (Below.refl _ _).drew
      clear hg hg'
      go_wp2_with fail
      refine wp_region_held_drew (S := fun w' => Below wr.heap.size wr w' ∧ w'.cell? ⟨g, off + k * 4, none⟩ = some (.int .i64 x0) ∧ w'.cell? ⟨g, off + k * 4 + 1, none⟩ = some (.int .i64 x1) ∧ w'.cell? ⟨g, off + k * 4 + 2, none⟩ = some (.int .i64 x2) ∧ w'.cell? ⟨g, off + k * 4 + 3, none⟩ = some (.int .i64 x3) ∧ w'.cell? ⟨g', off' + k * 4, none⟩ = some (.int .i64 x0) ∧ w'.cell? ⟨g', off' + k * 4 + 1, none⟩ = some (.int .i64 x1) ∧ w'.cell? ⟨g', off' + k * 4 + 2, none⟩ = some (.int .i64 x2) ∧ w'.cell? ⟨g', off' + k * 4 + 3, none⟩ = some (.int .i64 x3)) (by kernel_rfl) ⟨hb0, C0, C1, C2, C3, C0', C1', C2', C3'⟩ (fun hH => ?_)
      refine takeH 0 (v := ?vs0) rfl (by kernel_rfl) (by kernel_rfl) (by kernel_rfl) (fun _ _ _ h => h) hH rfl ?ys0 ?rs0
      case ys0 => intro w hSw; go_simp; try with_reducible rfl
      try simp only [Act.put, List.setIfInBounds_toArray, List.set_cons_zero, List.set_cons_succ]
      refine takeH 1 (v := ?vs1) rfl (by kernel_rfl) (by kernel_rfl) (by kernel_rfl) (fun _ _ _ h => h) hH rfl ?ys1 ?rs1
      case ys1 => intro w hSw; go_simp; try with_reducible rfl
      try simp only [Act.put, List.setIfInBounds_toArray, List.set_cons_zero, List.set_cons_succ]
      refine takeH 2 (v := ?vs2) rfl (by kernel_rfl) (by kernel_rfl) (by kernel_rfl) (fun _ _ _ h => h) hH rfl ?ys2 ?rs2
      case ys2 => intro w hSw; go_simp; try with_reducible rfl
      try simp only [Act.put, List.setIfInBounds_toArray, List.set_cons_zero, List.set_cons_succ]
      refine takeH 3 (v := ?vs3) rfl (by kernel_rfl) (by kernel_rfl) (by kernel_rfl) (fun _ _ _ h => h) hH rfl ?ys3 ?rs3
      case ys3 => intro w hSw; go_simp; try with_reducible rfl
      try simp only [Act.put, List.setIfInBounds_toArray, List.set_cons_zero, List.set_cons_succ]
      refine takeH 4 (v := ?vs4) rfl (by kernel_rfl) (by kernel_rfl) (by kernel_rfl) (fun _ _ _ h => h) hH rfl ?ys4 ?rs4
      case ys4 => intro w hSw; go_simp; try with_reducible rfl
      try simp only [Act.put, List.setIfInBounds_toArray, List.set_cons_zero, List.set_cons_succ]
      refine takeH 5 (v := ?vs5) rfl (by kernel_rfl) (by kernel_rfl) (by kernel_rfl) (fun _ _ _ h => h) hH rfl ?ys5 ?rs5
      case ys5 => intro w hSw; go_simp; try with_reducible rfl
      try simp only [Act.put, List.setIfInBounds_toArray, List.set_cons_zero, List.set_cons_succ]
      refine takeH 6 (v := ?vs6) rfl (by kernel_rfl) (by kernel_rfl) (by kernel_rfl) (fun _ _ _ h => h) hH rfl ?ys6 ?rs6
      case ys6 => intro w hSw; go_simp; try with_reducible rfl
      try simp only [Act.put, List.setIfInBounds_toArray, List.set_cons_zero, List.set_cons_succ]
      refine takeH 7 (v := ?vs7) rfl (by kernel_rfl) (by kernel_rfl) (by kernel_rfl) (fun _ _ _ h => h) hH rfl ?ys7 ?rs7
      case ys7 => intro w hSw; go_simp; try with_reducible rfl
      try simp only [Act.put, List.setIfInBounds_toArray, List.set_cons_zero, List.set_cons_succ]
      refine callH 8 rfl (by kernel_rfl) rfl (fun K hK => ?_)
      go_simp
      go_at_call 44
      refine (H.out _ hH.1).mono ?_
      rintro e wx ⟨rfl, hbx⟩
      refine hK.out _ _ ⟨hH.1.trans (hbx.mono hH.1.size), (hbx.cell (p := ⟨g, off + k * 4, none⟩) (hgl.out _ hH.1).1).trans hH.2.1, (hbx.cell (p := ⟨g, off + k * 4 + 1, none⟩) (hgl.out _ hH.1).1).trans hH.2.2.1, (hbx.cell (p := ⟨g, off + k * 4 + 2, none⟩) (hgl.out _ hH.1).1).trans hH.2.2.2.1, (hbx.cell (p := ⟨g, off + k * 4 + 3, none⟩) (hgl.out _ hH.1).1).trans hH.2.2.2.2.1, (hbx.cell (p := ⟨g', off' + k * 4, none⟩) (hgl.out _ hH.1).2).trans hH.2.2.2.2.2.1, (hbx.cell (p := ⟨g', off' + k * 4 + 1, none⟩) (hgl.out _ hH.1).2).trans hH.2.2.2.2.2.2.1, (hbx.cell (p := ⟨g', off' + k * 4 + 2, none⟩) (hgl.out _ hH.1).2).trans hH.2.2.2.2.2.2.2.1, (hbx.cell (p := ⟨g', off' + k * 4 + 3, none⟩) (hgl.out _ hH.1).2).trans hH.2.2.2.2.2.2.2.2⟩ (fun hH => ?_)
      clear hK K
      try simp only [Act.put, List.setIfInBounds_toArray, List.set_cons_zero, List.set_cons_succ]
      refine takeH 9 (v := ?vs9) rfl (by kernel_rfl) (by kernel_rfl) (by kernel_rfl) (fun _ _ _ h => h) hH rfl ?ys9 ?rs9
      case ys9 => intro w hSw; go_simp; try with_reducible rfl
      try simp only [Act.put, List.setIfInBounds_toArray, List.set_cons_zero, List.set_cons_succ]
      refine wpAnyH_done (by kernel_rfl) ?_ _
      go_wp2
      go_roundw
      case rel => exact ⟨k + 1, by omega, by go_num, below_step Hbel.out Hbel.out.size hH.1⟩
      case measure => simp [intOf]; omega
    · go_wp2
      go_ret
      exact ⟨rfl, hbel⟩

set_option maxHeartbeats 2000000 in
theorem laws_markTxnSR (es : List (List Fd)) (v : Value) (k B hi : Nat) (w : World) (hk : kTo es k es.length ≤ 1099511627776) (hp : ∀ e ∈ es, txnP e) (hown : OwnR 41 3 4 w B hi v es) :
    Calls Try.prog 24 #[v, .int .i64 k] w fun e w' => e = .returned (.int .i64 ((kTo es k es.length : Nat) : Int)) ∧ OwnR 41 3 4 w' B hi v (mkTo es k es.length) ∧ Btw B hi w w' := by
  obtain ⟨a, cap, rfl, hml9⟩ := hown.slice
  unfold maxLen at hml9
  rw [← mkTo_zero es k, mkTo_len] at hown
  have Hown := Lib.hid hown; clear hown
  have Hp := Lib.hid hp; clear hp
  have Hk := Lib.hid (fun j (h : j ≤ es.length) => Nat.le_trans (kTo_le (es := es) (k := k) h) hk)
  have hk0 : k ≤ 1099511627776 := by have := Hk.out 0 (Nat.zero_le _); rwa [kTo_zero] at this
  clear hk
  go_enter Try.func24, Try.ntmps24
  go_wp2
  go_loopw [1, 5] (fun c i wr => ∃ j : Nat, j ≤ es.length ∧ i = .int .i64 j ∧ c = .int .i64 ((kTo es k j : Nat) : Int) ∧ OwnR 41 3 4 wr B hi (.slice a es.length cap) (mkTo es k j) ∧ Btw B hi w wr) (fun _ i _ => es.length - (intOf i).toNat)
  case atStart => exact ⟨0, by omega, rfl, by rw [kTo_zero], Hown.out, Btw.refl _ _ _⟩
  case round =>
    obtain ⟨j, hj, rfl, rfl, hrow, hbt⟩ := hrel
    by_cases hlt : j < es.length
    · have hml := mkTo_len es k j
      obtain ⟨g, cap', hv, hBg, hgh, hgs⟩ := hrow.head (by rw [hml]; omega)
      simp only [Value.slice.injEq] at hv
      obtain ⟨rfl, hvl, rfl⟩ := hv
      clear hvl
      have hjm : j < (mkTo es k j).length := by omega
      obtain ⟨x0, x1, x2, x3, he⟩ := Hp.out _ (List.getElem_mem hlt)
      have hset := mkTo_set (k := k) hlt
      have hnx := kTo_succ (k := k) hlt
      have hkb := Hk.out (j + 1) hlt
      have hkb0 := Hk.out j (by omega)
      have hr0 := hrow
      rw [← set_self' hjm ((mkTo_at hlt hjm).trans he)] at hr0
      rw [he] at hset hnx
      simp only [mkE, Fd.mk', Fd.nx] at hset
      simp only [nxE, Fd.nx] at hnx
      rw [hnx] at hkb
      generalize hes : mkTo es k j = rs at *
      have Hrs := Lib.hid (show es.length = rs.length from hml.symm)
      have Hjm := Lib.hid hjm
      have Hset := Lib.hid hset; clear hset
      have Hnx := Lib.hid hnx; clear hnx
      have Hes := Lib.hid hes; clear hes
      generalize hm0 : kTo es k j = m0 at *
      have Hm0 := Lib.hid hm0; clear hm0 hrow hml he
      obtain ⟨C0, Z0⟩ := hr0.rcI hjm 0 (x := x0) rfl
      obtain ⟨C1, Z1⟩ := hr0.rcI hjm 1 (x := x1) rfl
      obtain ⟨C2, Z2⟩ := hr0.rcI hjm 2 (x := x2) rfl
      obtain ⟨C3, Z3⟩ := hr0.rcI hjm 3 (x := x3) rfl
      have hr0_0 := hr0.rowI Hrs.out hjm 0 (by omega) ((m0 : Int))
      have hbt0_0 := hbt.trans (Btw.set (lo := B) (hi := hi) wr hBg hgh (j * 4 + 0) (.int .i64 ((m0 : Int))))
      have hr0_1 := hr0_0.rowI Hrs.out hjm 1 (by omega) ((m0 : Int) + 1)
      have hbt0_1 := hbt0_0.trans (Btw.set (lo := B) (hi := hi) (wr.setCell ⟨g, j * 4 + 0, none⟩ (.int .i64 ((m0 : Int)))) hBg hgh (j * 4 + 1) (.int .i64 ((m0 : Int) + 1)))
      have hr0_2 := hr0_1.rowI Hrs.out hjm 2 (by omega) ((m0 : Int) + 1 + 1)
      have hbt0_2 := hbt0_1.trans (Btw.set (lo := B) (hi := hi) ((wr.setCell ⟨g, j * 4 + 0, none⟩ (.int .i64 ((m0 : Int)))).setCell ⟨g, j * 4 + 1, none⟩ (.int .i64 ((m0 : Int) + 1))) hBg hgh (j * 4 + 2) (.int .i64 ((m0 : Int) + 1 + 1)))
      have hr0_3 := hr0_2.rowI Hrs.out hjm 3 (by omega) ((m0 : Int) + 1 + 1 + 1)
      have hbt0_3 := hbt0_2.trans (Btw.set (lo := B) (hi := hi) (((wr.setCell ⟨g, j * 4 + 0, none⟩ (.int .i64 ((m0 : Int)))).setCell ⟨g, j * 4 + 1, none⟩ (.int .i64 ((m0 : Int) + 1))).setCell ⟨g, j * 4 + 2, none⟩ (.int .i64 ((m0 : Int) + 1 + 1))) hBg hgh (j * 4 + 3) (.int .i64 ((m0 : Int) + 1 + 1 + 1)))
      simp only [List.set_cons_zero, List.set_cons_succ] at hr0_3
      have HR := Lib.hid hr0_3
      have HB := Lib.hid hbt0_3
      clear hr0_0 hbt0_0 hr0_1 hbt0_1 hr0_2 hbt0_2 hr0_3 hbt0_3 hr0 hbt
      simp only [Nat.add_zero] at C0 Z0
      go_wp2
      go_roundw
      case rel =>
        have hn9 := Hnx.out
        have hs9 := Hset.out
        have hr9 := HR.out
        refine ⟨j + 1, by omega, by go_num, int_eq (by rw [hn9] <;> omega), ?_, HB.out⟩
        rw [← hs9]
        first | exact hr9 | simpa using hr9
      case measure => simp [intOf]; omega
    · have hje : j = es.length := by omega
      subst hje
      go_wp2
      go_ret
      exact ⟨rfl, hrow, hbt⟩

theorem laws_szTxnSR (es : List (List Fd)) (v : Value) (fp : List Nat) (left : Nat) (w : World) (hl : left ≤ 1048576) (hbig : es.length ≤ 9223372036854775807) (hp : ∀ e ∈ es, txnP e) (hr : Rd w (rowsD es) v fp) :
    Calls Try.prog 17 #[v, .int .i64 (left : Int)] w fun e w' => e = .returned (.int .i64 (if es.length + lnTo es es.length ≤ left then ((left - es.length - lnTo es es.length : Nat) : Int) else -1)) ∧ Below w.heap.size w w' := by
  obtain ⟨a, cap, rfl⟩ := Rd.slice hr
  rw [List.length_map] at *
  have h0 : lnTo es es.length = 0 := lnTo_none (fun e he => by obtain ⟨_, _, _, _, rfl⟩ := hp e he; rfl) _
  rw [h0]
  clear hr hp h0
  by_cases h : es.length ≤ left
  · rw [if_pos (by omega)]
    have h' : ¬ ((left : Int) - (es.length : Int) < 0) := by omega
    go_enter Try.func17, Try.ntmps17
    go_wp2
    go_ret
    exact ⟨ret_int (by omega), Below.refl _ _⟩
  · rw [if_neg (by omega)]
    have h' : (left : Int) - (es.length : Int) < 0 := by omega
    go_enter Try.func17, Try.ntmps17
    go_wp2
    go_ret
    exact ⟨rfl, Below.refl _ _⟩

theorem laws_toTxnR (x0 : Int) (x1 : Int) (x2 : Int) (x3 : Int) (w : World) :
    Calls Try.prog 42 #[.agg #[.int .i64 x0, .int .i64 x1, .int .i64 x2, .int .i64 x3]] w fun e w' => e = .returned (.agg #[.int .i64 x0, .int .i64 x1, .int .i64 x2, .int .i64 x3]) ∧ Below w.heap.size w w' := by
  have hbW : Below w.heap.size w (((w.alloc (.cells #[.int .i64 x0, .int .i64 x1, .int .i64 x2, .int .i64 x3] 74)).alloc (.cells #[.int .i64 0, .int .i64 0, .int .i64 0, .int .i64 0] 41)).alloc (.cells #[.int .i64 x0, .int .i64 x1, .int .i64 x2, .int .i64 x3] 41)) := (((Below.refl _ w).alloc (Nat.le_refl _) _).alloc (by simp) _).alloc (by simp; omega) _
  have s0 := ((Str.new w 74 #[.int .i64 x0, .int .i64 x1, .int .i64 x2, .int .i64 x3]).alloc (.cells #[.int .i64 0, .int .i64 0, .int .i64 0, .int .i64 0] 41)).alloc (.cells #[.int .i64 x0, .int .i64 x1, .int .i64 x2, .int .i64 x3] 41)
  have s1 := (Str.new (w.alloc (.cells #[.int .i64 x0, .int .i64 x1, .int .i64 x2, .int .i64 x3] 74)) 41 #[.int .i64 0, .int .i64 0, .int .i64 0, .int .i64 0]).alloc (.cells #[.int .i64 x0, .int .i64 x1, .int .i64 x2, .int .i64 x3] 41)
  have s2 := Str.new ((w.alloc (.cells #[.int .i64 x0, .int .i64 x1, .int .i64 x2, .int .i64 x3] 74)).alloc (.cells #[.int .i64 0, .int .i64 0, .int .i64 0, .int .i64 0] 41)) 41 #[.int .i64 x0, .int .i64 x1, .int .i64 x2, .int .i64 x3]
  have hzW : (((w.alloc (.cells #[.int .i64 x0, .int .i64 x1, .int .i64 x2, .int .i64 x3] 74)).alloc (.cells #[.int .i64 0, .int .i64 0, .int .i64 0, .int .i64 0] 41)).alloc (.cells #[.int .i64 x0, .int .i64 x1, .int .i64 x2, .int .i64 x3] 41)).heap.size = w.heap.size + 3 := by simp
  simp only [World.size_alloc] at s1 s2
  have Hb := Lib.hid hbW
  have Hs0 := Lib.hid s0
  have Hs1 := Lib.hid s1
  have Hs2 := Lib.hid s2
  have Hz := Lib.hid hzW
  clear hbW s0 s1 s2 hzW
  have t0 := Hs0.out
  have t1 := Hs1.out
  have t2 := Hs2.out
  clear Hs0 Hs1 Hs2 Hz
  have k0 := t1.cell 0 (v := .int .i64 0) rfl
  have k1 := t1.cell 1 (v := .int .i64 0) rfl
  have k2 := t1.cell 2 (v := .int .i64 0) rfl
  have k3 := t1.cell 3 (v := .int .i64 0) rfl
  have f0 := t1.frozen 0
  have f1 := t1.frozen 1
  have f2 := t1.frozen 2
  have f3 := t1.frozen 3
  have j0 := t2.cell 0 (v := .int .i64 x0) rfl
  have j1 := t2.cell 1 (v := .int .i64 x1) rfl
  have j2 := t2.cell 2 (v := .int .i64 x2) rfl
  have j3 := t2.cell 3 (v := .int .i64 x3) rfl
  have hne : w.heap.size + 1 ≠ w.heap.size + 1 + 1 := by omega
  have u := ((((t1.set 0 (.int .i64 x0)).set 1 (.int .i64 x1)).set 2 (.int .i64 x2)).set 3 (.int .i64 x3))
  have e0 := u.cell 0 (v := .int .i64 x0) rfl
  have e1 := u.cell 1 (v := .int .i64 x1) rfl
  have e2 := u.cell 2 (v := .int .i64 x2) rfl
  have e3 := u.cell 3 (v := .int .i64 x3) rfl
  clear u t0 t1 t2
  go_enter Try.func42, Try.ntmps42
  go_wp2
  refine bodyPost_ret (v := .agg #[.int .i64 x0, .int .i64 x1, .int .i64 x2, .int .i64 x3]) (by simp [results, Try.f42, go_sem]) rfl ?_
  exact ⟨rfl, (((Below.refl _ w).alloc (Nat.le_refl _) _).alloc (by simp) _).alloc (by simp; omega) _⟩

theorem txn_info : (Try.prog.info? 41).map (fun i => (i.zero, i.size, i.bytes)) = some (some (.agg #[.int .i64 0, .int .i64 0, .int .i64 0, .int .i64 0]), 4, 32) := by kernel_rfl

set_option maxHeartbeats 1000000 in
theorem laws_toTxnSR (es : List (List Fd)) (v : Value) (fp : List Nat) (w : World) (hbig : es.length ≤ 1048576) (hp : ∀ e ∈ es, txnP e) (hl : ∀ e ∈ es, lnE e ≤ 1048576) (hr : Rd w (rowsD es) v fp) :
    Calls Try.prog 19 #[v] w fun e w' => ∃ u, e = .returned u ∧ OwnR 41 3 4 w' w.heap.size w'.heap.size u es ∧ Below w.heap.size w w' := by
  obtain ⟨a, cap, rfl⟩ := Rd.slice hr
  rw [List.length_map] at *
  have Hm := Lib.hid (txnP_len hp)
  have Hr := Lib.hid hr; clear hr
  have Hp := Lib.hid hp; clear hp
  have Hl := Lib.hid hl; clear hl
  have hmk : ∀ w, (Instr.makeSlice 26 (.int .i64 (es.length : Int)) (.int .i64 (es.length : Int))).run Try.prog w = .ok (.slice (some ⟨w.heap.size, 0, none⟩) es.length es.length) (w.alloc (.cells (madeCells #[.int .i64 0, .int .i64 0, .int .i64 0, .int .i64 0] (es.length * 4)) 41)) := fun w => by
    obtain ⟨i, hi, hz, hsz, hb⟩ := info_parts txn_info
    have h := run_make (P := Try.prog) w 26 41 i (.agg #[.int .i64 0, .int .i64 0, .int .i64 0, .int .i64 0]) Try.underlying26 hi hz .i64 .i64 (es.length : Int) (es.length : Int) (by omega) (Int.le_refl _) (by rw [hb]; omega) (by omega)
    simp only [Int.toNat_natCast, hsz] at h
    exact h
  have hn0 := ownR_new (E := 41) (Ei := 3) (m := 4) w es [.int .i64 0, .int .i64 0, .int .i64 0, .int .i64 0] [.i 0, .i 0, .i 0, .i 0] (by unfold maxLen; omega) rfl rfl (by omega) (by intro c hc; simp only [List.mem_cons, List.not_mem_nil, or_false] at hc; rcases hc with rfl | rfl | rfl | rfl <;> rfl) (fun W B j h h' => by
    match j, h, h' with
    | 0, _, _ => exact rfl
    | 1, _, _ => exact rfl
    | 2, _, _ => exact rfl
    | 3, _, _ => exact rfl)
  have Hv0 := Lib.hid (show OwnR 41 3 4 (w.alloc (.cells (madeCells #[.int .i64 0, .int .i64 0, .int .i64 0, .int .i64 0] (es.length * 4)) 41)) w.heap.size (w.alloc (.cells (madeCells #[.int .i64 0, .int .i64 0, .int .i64 0, .int .i64 0] (es.length * 4)) 41)).heap.size _ (cpTo es [.i 0, .i 0, .i 0, .i 0] 0) from hn0.mono (by simp)); clear hn0
  have Hb0 := Lib.hid ((Below.refl w.heap.size w).alloc (Nat.le_refl _) (.cells (madeCells #[.int .i64 0, .int .i64 0, .int .i64 0, .int .i64 0] (es.length * 4)) 41))
  go_enter Try.func19, Try.ntmps19
  go_wp2_with fail
  go_loopw [4] (fun i wr => ∃ k : Nat, k ≤ es.length ∧ i = .int .i64 k ∧ OwnR 41 3 4 wr w.heap.size wr.heap.size (.slice (some ⟨w.heap.size, 0, none⟩) es.length es.length) (cpTo es [.i 0, .i 0, .i 0, .i 0] k) ∧ Below w.heap.size w wr) (fun i _ => es.length - (intOf i).toNat)
  case atStart => exact ⟨0, by omega, rfl, Hv0.out, Hb0.out⟩
  case round =>
    clear Hv0 Hb0
    obtain ⟨k, hk, rfl, hown, hbel⟩ := hrel
    have hB := hbel.size
    have Hbel := Lib.hid hbel; clear hbel
    have Hown := Lib.hid hown; clear hown
    by_cases hlt : k < es.length
    · obtain ⟨g, off, rfl, hg, hat⟩ := rows_at (Hr.out.under Hbel.out) (by omega) Hm.out
      obtain ⟨x0, x1, x2, x3, he⟩ := Hp.out _ (List.getElem_mem hlt)
      have hle := Hl.out _ (List.getElem_mem hlt)
      rw [he] at hle
      obtain ⟨v0, f0, C0, R0⟩ := hat k hlt 0 (by rw [he]; simp)
      obtain rfl := rd_i R0 (x := x0) (by simp only [he]; rfl)
      clear R0
      obtain ⟨v1, f1, C1, R1⟩ := hat k hlt 1 (by rw [he]; simp)
      obtain rfl := rd_i R1 (x := x1) (by simp only [he]; rfl)
      clear R1
      obtain ⟨v2, f2, C2, R2⟩ := hat k hlt 2 (by rw [he]; simp)
      obtain rfl := rd_i R2 (x := x2) (by simp only [he]; rfl)
      clear R2
      obtain ⟨v3, f3, C3, R3⟩ := hat k hlt 3 (by rw [he]; simp)
      obtain rfl := rd_i R3 (x := x3) (by simp only [he]; rfl)
      clear R3
      simp only [Nat.add_zero] at C0
      have hst := cpTo_step (z := [.i 0, .i 0, .i 0, .i 0]) hlt
      rw [he] at hst
      have Hst := Lib.hid hst; clear hst
      have hcl := cpTo_len es [.i 0, .i 0, .i 0, .i 0] k
      have hkc : k < (cpTo es [.i 0, .i 0, .i 0, .i 0] k).length := by rw [hcl]; exact hlt
      have hz0 : (cpTo es [.i 0, .i 0, .i 0, .i 0] k)[k] = [.i 0, .i 0, .i 0, .i 0] := by rw [cpTo_get, if_neg (by omega)]
      have hr0 := Hown.out
      rw [← set_self' hkc hz0] at hr0
      generalize cpTo es [.i 0, .i 0, .i 0, .i 0] k = rs at *
      have Hrs := Lib.hid (show es.length = rs.length from hcl.symm)
      have Hr0 := Lib.hid hr0; clear hr0 hz0
      have Hcall := Lib.hid (laws_toTxnR x0 x1 x2 x3 wr)
      clear hat he hle hcl Hown
      go_wp2_with fail
      refine Hcall.out.mono ?_
      rintro e w2 ⟨rfl, hb2⟩
      have hs2 := hb2.size
      have hrow := Hr0.out.below hb2 (Nat.le_refl _)
      have Hb2 := Lib.hid (below_step Hbel.out hB hb2)
      clear hb2 Hr0
      obtain ⟨P0, F0⟩ := hrow.rcI hkc 0 (x := 0) rfl
      obtain ⟨P1, F1⟩ := hrow.rcI hkc 1 (x := 0) rfl
      obtain ⟨P2, F2⟩ := hrow.rcI hkc 2 (x := 0) rfl
      obtain ⟨P3, F3⟩ := hrow.rcI hkc 3 (x := 0) rfl
      simp only [Nat.add_zero] at P0 F0
      have A0 := hrow.rowI Hrs.out hkc 0 (by omega) x0
      have A1 := A0.rowI Hrs.out hkc 1 (by omega) x1
      have A2 := A1.rowI Hrs.out hkc 2 (by omega) x2
      have A3 := A2.rowI Hrs.out hkc 3 (by omega) x3
      simp only [List.set_cons_zero, List.set_cons_succ, Nat.add_zero] at A3
      rw [Hst.out] at A3
      have hsz4 : ((((w2.setCell ⟨w.heap.size, k * 4, none⟩ (.int .i64 x0)).setCell ⟨w.heap.size, k * 4 + 1, none⟩ (.int .i64 x1)).setCell ⟨w.heap.size, k * 4 + 2, none⟩ (.int .i64 x2)).setCell ⟨w.heap.size, k * 4 + 3, none⟩ (.int .i64 x3)).heap.size = w2.heap.size := by simp [World.setCell]
      have HA := Lib.hid (A3.mono (show wr.heap.size ≤ ((((w2.setCell ⟨w.heap.size, k * 4, none⟩ (.int .i64 x0)).setCell ⟨w.heap.size, k * 4 + 1, none⟩ (.int .i64 x1)).setCell ⟨w.heap.size, k * 4 + 2, none⟩ (.int .i64 x2)).setCell ⟨w.heap.size, k * 4 + 3, none⟩ (.int .i64 x3)).heap.size by rw [hsz4]; exact hs2))
      have HB4 := Lib.hid ((((Hb2.out.setCell (p := ⟨w.heap.size, k * 4, none⟩) (Nat.le_refl _) (.int .i64 x0)).setCell (p := ⟨w.heap.size, k * 4 + 1, none⟩) (Nat.le_refl _) (.int .i64 x1)).setCell (p := ⟨w.heap.size, k * 4 + 2, none⟩) (Nat.le_refl _) (.int .i64 x2)).setCell (p := ⟨w.heap.size, k * 4 + 3, none⟩) (Nat.le_refl _) (.int .i64 x3))
      clear hsz4 A0 A1 A2 A3 hrow
      go_wp2_with fail
      go_roundw
      case rel => exact ⟨k + 1, by omega, by go_num, HA.out, HB4.out⟩
      case measure => simp [intOf]; omega
    · have hke : k = es.length := by omega
      subst hke
      go_wp2
      go_ret
      exact ⟨_, rfl, by have h9 := Hown.out; rwa [cpTo_all] at h9, Hbel.out⟩

end Go.Proofs.Ytfnhafgjdnlhiaa

/- An owned list as the source of an append; a general step, nothing here speaks of the program. -/
namespace Go.Proofs.Ytfnhafgjdnlhiaa
open Go.RowKit

theorem own_src {E : TypeId} {w : World} {B n c : Nat} {a : Option Addr} {xs : List Int} (h : Own E w B (.slice a n c) xs) : SrcAt w a c xs := by
  obtain ⟨a', c', e, _, hs, _⟩ := h.src
  cases e
  exact hs

end Go.Proofs.Ytfnhafgjdnlhiaa

/- What the ledger's functions of the reference answer, and what chapter 31's laws say of these answers; plain facts on lists, nothing here is walked. -/
namespace Go.Proofs.Ytfnhafgjdnlhiaa
open Go.RowKit

/-- A transaction: from, to, sum, fee. -/
structure Tx where
  f : Int
  t : Int
  s : Int
  e : Int
deriving DecidableEq
def txB (x : Tx) : Bool := decide (0 ≤ x.f ∧ x.f ≤ 5) && (decide (0 ≤ x.t ∧ x.t ≤ 5) && (decide (x.f ≠ x.t) && (decide (1 ≤ x.s ∧ x.s ≤ 99) && decide (0 ≤ x.e ∧ x.e ≤ 9))))
theorem txB_iff {x : Tx} : txB x = true ↔ (0 ≤ x.f ∧ x.f ≤ 5) ∧ (0 ≤ x.t ∧ x.t ≤ 5) ∧ x.f ≠ x.t ∧ (1 ≤ x.s ∧ x.s ≤ 99) ∧ 0 ≤ x.e ∧ x.e ≤ 9 := by
  unfold txB; simp only [Bool.and_eq_true, decide_eq_true_eq]
def balB (b : Int) : Bool := decide (0 ≤ b ∧ b ≤ 999)
def ldB (l : List Int) (n : Int) : Bool := l.all balB && (decide (l.length = 6) && decide (0 ≤ n ∧ n ≤ 5994))
theorem ldB_iff {l : List Int} {n : Int} : ldB l n = true ↔ (∀ b ∈ l, 0 ≤ b ∧ b ≤ 999) ∧ l.length = 6 ∧ 0 ≤ n ∧ n ≤ 5994 := by
  unfold ldB balB; simp only [Bool.and_eq_true, decide_eq_true_eq, List.all_eq_true]
/-- The balance of an account. -/
def bal (l : List Int) (i : Int) : Int := l.getD i.toNat 0
theorem bal_at {l : List Int} {i : Int} (h : i.toNat < l.length) : bal l i = l[i.toNat] := by unfold bal; simp [List.getD, List.getElem?_eq_getElem h]
theorem bal_bd {l : List Int} {n i : Int} (h : ldB l n = true) : 0 ≤ bal l i ∧ bal l i ≤ 999 := by
  obtain ⟨h1, _⟩ := ldB_iff.1 h
  by_cases hi : i.toNat < l.length
  · rw [bal_at hi]; exact h1 _ (List.getElem_mem hi)
  · unfold bal; rw [List.getD, List.getElem?_eq_none (by omega)]; simp
def okT (l : List Int) (x : Tx) : Bool := txB x && (decide (x.s + x.e ≤ bal l x.f) && decide (bal l x.t + x.s ≤ 999))
theorem okT_iff {l : List Int} {x : Tx} : okT l x = true ↔ txB x = true ∧ x.s + x.e ≤ bal l x.f ∧ bal l x.t + x.s ≤ 999 := by
  unfold okT; simp only [Bool.and_eq_true, decide_eq_true_eq]
/-- The balances behind a transaction, and the fees. -/
def apL (l : List Int) (x : Tx) : List Int := if okT l x then (l.set x.f.toNat (bal l x.f - x.s - x.e)).set x.t.toNat (bal l x.t + x.s) else l
def apF (l : List Int) (n : Int) (x : Tx) : Int := if okT l x then n + x.e else n
theorem ap_no {l : List Int} {n : Int} {x : Tx} (h : okT l x = false) : apL l x = l ∧ apF l n x = n := by unfold apL apF; rw [h]; exact ⟨rfl, rfl⟩
theorem ap_yes {l : List Int} {n : Int} {x : Tx} (h : okT l x = true) : apL l x = (l.set x.f.toNat (bal l x.f - x.s - x.e)).set x.t.toNat (bal l x.t + x.s) ∧ apF l n x = n + x.e := by unfold apL apF; rw [h]; exact ⟨rfl, rfl⟩
theorem ap_len (l : List Int) (x : Tx) : (apL l x).length = l.length := by
  unfold apL; split
  · rw [List.length_set, List.length_set]
  · rfl
theorem ap_fee {l : List Int} {n : Int} (x : Tx) : n ≤ apF l n x ∧ apF l n x ≤ n + 9 := by
  unfold apF; split
  · rename_i h
    obtain ⟨h1, _⟩ := okT_iff.1 h
    obtain ⟨_, _, _, _, h5⟩ := txB_iff.1 h1
    omega
  · omega
/-- What a transaction adds to an account. -/
def dlt (x : Tx) (i : Int) : Int := if i = x.t then x.s else if i = x.f then -x.s - x.e else 0
theorem ap_bal {l : List Int} {x : Tx} (h : okT l x = true) (hl : l.length = 6) {i : Nat} (hi : i < l.length) : (apL l x)[i]? = some (l[i] + dlt x i) := by
  obtain ⟨h1, h2, h3⟩ := okT_iff.1 h
  obtain ⟨⟨f0, f1⟩, ⟨t0, t1⟩, hne, _, _⟩ := txB_iff.1 h1
  rw [(ap_yes (n := 0) h).1]
  unfold dlt
  by_cases ht : (i : Int) = x.t
  · have e : x.t.toNat = i := by omega
    rw [if_pos ht, e, List.getElem?_set_self (by rw [List.length_set]; exact hi), ← ht, bal_at (by omega)]
    simp
  · rw [if_neg ht, List.getElem?_set_ne (by omega)]
    by_cases hf : (i : Int) = x.f
    · have e : x.f.toNat = i := by omega
      rw [if_pos hf, e, List.getElem?_set_self hi, ← hf, bal_at (by omega)]
      simp only [Int.toNat_natCast, Option.some.injEq]; omega
    · rw [if_neg hf, List.getElem?_set_ne (by omega), List.getElem?_eq_getElem hi]
      simp
theorem ap_valid {l : List Int} {n : Int} (x : Tx) (h : ldB l n = true) (hn : n + 9 ≤ 5994) : ldB (apL l x) (apF l n x) = true := by
  obtain ⟨h1, h2, h3, h4⟩ := ldB_iff.1 h
  have hf := ap_fee (l := l) (n := n) x
  refine ldB_iff.2 ⟨?_, by rw [ap_len]; exact h2, by omega, by omega⟩
  cases ho : okT l x with
  | false => rw [(ap_no (n := n) ho).1]; exact h1
  | true =>
    obtain ⟨k1, k2, k3⟩ := okT_iff.1 ho
    obtain ⟨_, _, _, ⟨s0, s1⟩, e0, e1⟩ := txB_iff.1 k1
    have bf := bal_bd (i := x.f) h
    have bt := bal_bd (i := x.t) h
    rw [(ap_yes (n := n) ho).1]
    intro b hb
    rcases List.mem_or_eq_of_mem_set hb with hb | hb
    · rcases List.mem_or_eq_of_mem_set hb with hb | hb
      · exact h1 b hb
      · omega
    · omega
theorem sum_set : ∀ (l : List Int) (i : Nat) (v : Int) (hi : i < l.length), (l.set i v).sum = l.sum - l[i] + v
  | [], _, _, h => absurd h (by simp)
  | y :: l, 0, v, _ => by simp; omega
  | y :: l, i + 1, v, h => by
    have := sum_set l i v (by simpa using h)
    simp only [List.set_cons_succ, List.sum_cons, List.getElem_cons_succ, this]
    omega
theorem ap_sum {l : List Int} {n : Int} (x : Tx) (hl : l.length = 6) : (apL l x).sum + apF l n x = l.sum + n := by
  cases ho : okT l x with
  | false => rw [(ap_no (n := n) ho).1, (ap_no (n := n) ho).2]
  | true =>
    obtain ⟨k1, _, _⟩ := okT_iff.1 ho
    obtain ⟨⟨f0, f1⟩, ⟨t0, t1⟩, hne, _, _⟩ := txB_iff.1 k1
    have hf : x.f.toNat < l.length := by omega
    have ht : x.t.toNat < l.length := by omega
    rw [(ap_yes (n := n) ho).1, (ap_yes (n := n) ho).2, sum_set _ _ _ (by rw [List.length_set]; exact ht), sum_set _ _ _ hf, List.getElem_set_ne (by omega), bal_at hf, bal_at ht]
    omega
/-- A run's balances, fees and outcomes. -/
def rnL : List Int → List Tx → List Int
  | l, [] => l
  | l, x :: xs => rnL (apL l x) xs
def rnF : List Int → Int → List Tx → Int
  | _, n, [] => n
  | l, n, x :: xs => rnF (apL l x) (apF l n x) xs
def rnO : List Int → List Tx → List Bool
  | _, [] => []
  | l, x :: xs => okT l x :: rnO (apL l x) xs
theorem rn_len : ∀ (xs : List Tx) (l : List Int), (rnL l xs).length = l.length ∧ (rnO l xs).length = xs.length
  | [], l => ⟨rfl, rfl⟩
  | x :: xs, l => by
    have := rn_len xs (apL l x)
    exact ⟨by rw [rnL, this.1, ap_len], by rw [rnO, List.length_cons, this.2, List.length_cons]⟩
theorem rn_app : ∀ (xs ys : List Tx) (l : List Int) (n : Int), rnL l (xs ++ ys) = rnL (rnL l xs) ys ∧ rnF l n (xs ++ ys) = rnF (rnL l xs) (rnF l n xs) ys ∧ rnO l (xs ++ ys) = rnO l xs ++ rnO (rnL l xs) ys
  | [], ys, l, n => ⟨rfl, rfl, rfl⟩
  | x :: xs, ys, l, n => by
    obtain ⟨h1, h2, h3⟩ := rn_app xs ys (apL l x) (apF l n x)
    exact ⟨by rw [List.cons_append, rnL, h1, rnL], by rw [List.cons_append, rnF, h2, rnF, rnL], by rw [List.cons_append, rnO, h3, rnO, rnL, List.cons_append]⟩
theorem rn_snoc (xs : List Tx) (x : Tx) (l : List Int) (n : Int) : rnL l (xs ++ [x]) = apL (rnL l xs) x ∧ rnF l n (xs ++ [x]) = apF (rnL l xs) (rnF l n xs) x ∧ rnO l (xs ++ [x]) = rnO l xs ++ [okT (rnL l xs) x] := by
  obtain ⟨h1, h2, h3⟩ := rn_app xs [x] l n
  exact ⟨h1, h2, h3⟩
theorem rn_fee : ∀ (xs : List Tx) (l : List Int) (n : Int), n ≤ rnF l n xs ∧ rnF l n xs ≤ n + 9 * xs.length
  | [], _, _ => by simp [rnF]
  | x :: xs, l, n => by
    have h1 := rn_fee xs (apL l x) (apF l n x)
    have h2 := ap_fee (l := l) (n := n) x
    rw [rnF, List.length_cons]; omega
theorem rn_valid : ∀ (xs : List Tx) (l : List Int) (n : Int), ldB l n = true → n + 9 * xs.length ≤ 5994 → ldB (rnL l xs) (rnF l n xs) = true
  | [], _, _, h, _ => h
  | x :: xs, l, n, h, hn => by
    rw [List.length_cons] at hn
    have h2 := ap_fee (l := l) (n := n) x
    exact rn_valid xs _ _ (ap_valid x h (by omega)) (by omega)
theorem rn_sum : ∀ (xs : List Tx) (l : List Int) (n : Int), l.length = 6 → (rnL l xs).sum + rnF l n xs = l.sum + n
  | [], _, _, _ => rfl
  | x :: xs, l, n, h => by
    have h1 := rn_sum xs (apL l x) (apF l n x) (by rw [ap_len]; exact h)
    rw [rnL, rnF, h1]; exact ap_sum x h
/-- The transactions that succeed. -/
def sucL : List Int → List Tx → List Tx
  | _, [] => []
  | l, x :: xs => if okT l x then x :: sucL (apL l x) xs else sucL l xs
theorem suc_run : ∀ (xs : List Tx) (l : List Int) (n : Int), rnL l (sucL l xs) = rnL l xs ∧ rnF l n (sucL l xs) = rnF l n xs ∧ ∀ b ∈ rnO l (sucL l xs), b = true
  | [], l, n => ⟨rfl, rfl, fun b h => absurd h (by simp [sucL, rnO])⟩
  | x :: xs, l, n => by
    cases ho : okT l x with
    | false =>
      obtain ⟨h1, h2, h3⟩ := suc_run xs l n
      have e : sucL l (x :: xs) = sucL l xs := by rw [sucL, ho]; rfl
      rw [e, rnL, rnF, (ap_no (n := n) ho).1, (ap_no (n := n) ho).2]
      exact ⟨h1, h2, h3⟩
    | true =>
      obtain ⟨h1, h2, h3⟩ := suc_run xs (apL l x) (apF l n x)
      have e : sucL l (x :: xs) = x :: sucL (apL l x) xs := by rw [sucL, ho]; rfl
      rw [e, rnL, rnF, rnO, rnL, rnF]
      refine ⟨h1, h2, fun b hb => ?_⟩
      rcases List.mem_cons.1 hb with hb | hb
      · rw [hb]; exact ho
      · exact h3 b hb
/-- The reverse transaction restores the ledger. -/
theorem ap_back {l : List Int} {n : Int} {x : Tx} (hv : ldB l n = true) (h : okT l x = true) (he : x.e = 0) : okT (apL l x) ⟨x.t, x.f, x.s, 0⟩ = true ∧ apL (apL l x) ⟨x.t, x.f, x.s, 0⟩ = l ∧ apF (apL l x) (apF l n x) ⟨x.t, x.f, x.s, 0⟩ = n := by
  obtain ⟨k1, k2, k3⟩ := okT_iff.1 h
  obtain ⟨⟨f0, f1⟩, ⟨t0, t1⟩, hne, ⟨s0, s1⟩, _⟩ := txB_iff.1 k1
  obtain ⟨_, hl, _, _⟩ := ldB_iff.1 hv
  have hb : ∀ i : Int, 0 ≤ i → i ≤ 5 → bal (apL l x) i = bal l i + dlt x i := by
    intro i h0 h1
    have hi : i.toNat < l.length := by omega
    have := ap_bal h hl hi
    unfold bal
    rw [List.getD, this, List.getD, List.getElem?_eq_getElem hi]
    simp only [Option.getD_some]
    rw [show ((i.toNat : Nat) : Int) = i by omega]
  have bf := hb x.f f0 f1
  have bt := hb x.t t0 t1
  unfold dlt at bf bt
  rw [if_neg hne, if_pos rfl] at bf
  rw [if_pos rfl] at bt
  have bfl := bal_bd (i := x.f) hv
  have btl := bal_bd (i := x.t) hv
  have ho : okT (apL l x) ⟨x.t, x.f, x.s, 0⟩ = true := okT_iff.2 ⟨txB_iff.2 ⟨⟨t0, t1⟩, ⟨f0, f1⟩, fun e => hne e.symm, ⟨s0, s1⟩, by simp, by simp⟩, by simp only; omega, by simp only; omega⟩
  refine ⟨ho, ?_, ?_⟩
  · refine List.ext_getElem? fun i => ?_
    by_cases hi : i < l.length
    · have hi' : i < (apL l x).length := by rw [ap_len]; exact hi
      rw [ap_bal ho (by rw [ap_len]; exact hl) hi', List.getElem?_eq_getElem hi]
      have e1 := ap_bal h hl hi
      rw [List.getElem?_eq_getElem hi'] at e1
      rw [Option.some.inj e1]
      unfold dlt
      simp only [Option.some.injEq]
      by_cases a1 : (i : Int) = x.t
      · rw [if_pos a1, if_neg (by omega), if_pos a1]; omega
      · rw [if_neg a1]
        by_cases a2 : (i : Int) = x.f
        · rw [if_pos a2, if_pos a2]; omega
        · rw [if_neg a2, if_neg a2, if_neg a1]; omega
    · rw [List.getElem?_eq_none (by rw [ap_len, ap_len]; omega), List.getElem?_eq_none (by omega)]
  · rw [(ap_yes ho).2, (ap_yes h).2, he]; simp

end Go.Proofs.Ytfnhafgjdnlhiaa

/- The reference's tests of transactions and of ledgers, each by a walk of its text; condition: the lists are shorter than 2^40. -/
namespace Go.Proofs.Ytfnhafgjdnlhiaa
open Go.RowKit

def agT (x : Tx) : Value := .agg #[.int .i64 x.f, .int .i64 x.t, .int .i64 x.s, .int .i64 x.e]
theorem spec_TxnValid (x : Tx) (w : World) :
    Calls Try.prog 59 #[agT x] w fun e w' => e = .returned (.bool (txB x)) ∧ Below w.heap.size w w' := by
  obtain ⟨f, t, s, e⟩ := x
  have hb0 : Below w.heap.size w (w.alloc (.cells #[.int .i64 f, .int .i64 t, .int .i64 s, .int .i64 e] 41)) := (Below.refl _ _).alloc (Nat.le_refl _) _
  have s0 := Str.new w 41 #[.int .i64 f, .int .i64 t, .int .i64 s, .int .i64 e]
  have k0 := s0.cell 0 (v := .int .i64 f) rfl
  have H0 := Lib.hid (fun W => spec_l6In f 0 5 W)
  have k1 := s0.cell 1 (v := .int .i64 t) rfl
  have H1 := Lib.hid (fun W => spec_l6In t 0 5 W)
  have k2 := s0.cell 2 (v := .int .i64 s) rfl
  have H2 := Lib.hid (fun W => spec_l6In s 1 99 W)
  have k3 := s0.cell 3 (v := .int .i64 e) rfl
  have H3 := Lib.hid (fun W => spec_l6In e 0 9 W)
  have Hb0 := Lib.hid hb0; clear hb0 s0
  have Hres := Lib.hid (show txB ⟨f, t, s, e⟩ = (decide (0 ≤ f ∧ f ≤ 5) && (decide (0 ≤ t ∧ t ≤ 5) && (decide (f ≠ t) && (decide (1 ≤ s ∧ s ≤ 99) && decide (0 ≤ e ∧ e ≤ 9))))) from rfl)
  generalize decide (0 ≤ f ∧ f ≤ 5) = xf at *
  generalize decide (0 ≤ t ∧ t ≤ 5) = xt at *
  generalize decide (1 ≤ s ∧ s ≤ 99) = xs at *
  generalize decide (0 ≤ e ∧ e ≤ 9) = xe at *
  unfold agT
  dsimp only
  go_enter Try.func59, Try.ntmps59
  go_wp2_with fail
  generalize w.alloc (.cells #[.int .i64 f, .int .i64 t, .int .i64 s, .int .i64 e] 41) = W0 at *
  refine (H0.out W0).mono ?_
  rintro e1 w1 ⟨rfl, rfl⟩
  cases xf with
  | false =>
    go_wp2
    go_ret
    exact ⟨ret_bool (by rw [Hres.out]; simp), Hb0.out⟩
  | true =>
  go_wp2_with fail
  refine (H1.out W0).mono ?_
  rintro e1 w1 ⟨rfl, rfl⟩
  cases xt with
  | false =>
    go_wp2
    go_ret
    exact ⟨ret_bool (by rw [Hres.out]; simp), Hb0.out⟩
  | true =>
  by_cases hne : f = t
  case pos =>
    have hn1 : (f == t) = true := by rw [beq_iff_eq]; exact hne
    have hn2 : (f != t) = false := by rw [bne, hn1]; rfl
    have Hne := Lib.hid hne; clear hne
    go_wp2
    go_ret
    exact ⟨ret_bool (by rw [Hres.out, decide_eq_false (show ¬ (f ≠ t) from fun h => h Hne.out)]; rfl), Hb0.out⟩
  have hn1 : (f == t) = false := by rw [beq_eq_false_iff_ne]; exact hne
  have hn2 : (f != t) = true := by rw [bne, hn1]; rfl
  have Hres := Lib.hid (Hres.out.trans (by rw [decide_eq_true (show f ≠ t from hne)]))
  have Hne := Lib.hid hne; clear hne
  go_wp2_with fail
  refine (H2.out W0).mono ?_
  rintro e1 w1 ⟨rfl, rfl⟩
  cases xs with
  | false =>
    go_wp2
    go_ret
    exact ⟨ret_bool (by rw [Hres.out]; simp), Hb0.out⟩
  | true =>
  go_wp2_with fail
  refine (H3.out W0).mono ?_
  rintro e1 w1 ⟨rfl, rfl⟩
  go_wp2
  go_ret
  exact ⟨ret_bool (by rw [Hres.out]; cases xe <;> simp_all), Hb0.out⟩

theorem ldB_bad {l : List Int} {n : Int} {k : Nat} (hk : k < l.length) (h : ¬ (0 ≤ l[k] ∧ l[k] ≤ 999)) : ldB l n = false := by
  cases hv : ldB l n with
  | false => rfl
  | true => exact absurd ((ldB_iff.1 hv).1 _ (List.getElem_mem hk)) h
theorem ldB_end {l : List Int} {n : Int} (h : ∀ j (hj : j < l.length), 0 ≤ l[j] ∧ l[j] ≤ 999) : ldB l n = (decide (l.length = 6) && decide (0 ≤ n ∧ n ≤ 5994)) := by
  have h1 : l.all balB = true := List.all_eq_true.2 fun b hb => by
    obtain ⟨j, hj, rfl⟩ := List.mem_iff_getElem.1 hb
    exact decide_eq_true (h j hj)
  unfold ldB
  rw [h1]; rfl
set_option maxHeartbeats 1000000 in
theorem spec_LedgerValid (a : Option Addr) (cap : Nat) (l : List Int) (n : Int) (w : World) (hbig : l.length ≤ 1099511627776) (hl : IntsAt w a l) :
    Calls Try.prog 53 #[.agg #[.slice a l.length cap, .int .i64 n]] w fun e w' => e = .returned (.bool (ldB l n)) ∧ Below w.heap.size w w' := by
  have hb0 : Below w.heap.size w (w.alloc (.cells #[.slice a l.length cap, .int .i64 n] 25)) := (Below.refl _ _).alloc (Nat.le_refl _) _
  have s0 := Str.new w 25 #[.slice a l.length cap, .int .i64 n]
  have k0 := s0.cell 0 (v := .slice a l.length cap) rfl
  have k1 := s0.cell 1 (v := .int .i64 n) rfl
  have hl0 := hl.below hb0
  have Hb0 := Lib.hid hb0; clear hb0 s0 hl
  have HF := Lib.hid (fun W => spec_l6In n 0 5994 W)
  go_enter Try.func53, Try.ntmps53
  go_wp2
  generalize w.alloc (.cells #[.slice a l.length cap, .int .i64 n] 25) = W0 at *
  go_loop [3] (fun i => ∃ k : Nat, k ≤ l.length ∧ i = .int .i64 k ∧ ∀ j (hj : j < k) (hj' : j < l.length), 0 ≤ l[j] ∧ l[j] ≤ 999) (fun i => l.length - (intOf i).toNat)
  case atStart => exact ⟨0, by omega, rfl, fun j hj => absurd hj (by omega)⟩
  case round =>
    obtain ⟨k, hk, rfl, hg⟩ := hrel
    by_cases hlt : k < l.length
    · rcases hl0 with rfl | ⟨b, off, rfl, hb, hc⟩
      · simp at hlt
      have hcell := hc k hlt
      have Hc := Lib.hid hc; clear hc
      have hlt' : (k : Int) < (l.length : Int) := by omega
      have Hg := Lib.hid hg; clear hg
      by_cases h : 0 ≤ l[k] ∧ l[k] ≤ 999
      · have HI := Lib.hid (fun W => spec_l6In_yes (n := l[k]) (lo := 0) (hi := 999) h W)
        have Hh := Lib.hid (show ∀ j (hj : j < k + 1) (hj' : j < l.length), 0 ≤ l[j] ∧ l[j] ≤ 999 from fun j hj hj' => by rcases Nat.lt_succ_iff_lt_or_eq.1 hj with e | e; exact Hg.out j e hj'; subst e; exact h); clear h
        generalize l[k] = x at *
        go_wp2_with fail
        refine (HI.out _).mono ?_
        rintro e w' ⟨rfl, rfl⟩
        go_wp2
        go_round
        case rel => exact ⟨k + 1, by omega, by go_num, Hh.out⟩
        case measure => simp [intOf]; omega
      · have HI := Lib.hid (fun W => spec_l6In_no (n := l[k]) (lo := 0) (hi := 999) h W)
        have Hz := Lib.hid (ldB_bad (n := n) hlt h); clear h
        generalize l[k] = x at *
        go_wp2_with fail
        refine (HI.out _).mono ?_
        rintro e w' ⟨rfl, rfl⟩
        go_wp2
        go_ret
        exact ⟨ret_bool Hz.out.symm, Hb0.out⟩
    · have hlt' : ¬ (k : Int) < (l.length : Int) := by omega
      have Hz := Lib.hid (ldB_end (n := n) (fun j hj => hg j (by omega) hj)); clear hg
      have HL := Lib.hid hl0; clear hl0
      by_cases h6 : l.length = 6
      · have h61 : ((l.length : Int) == 6) = true := by rw [beq_iff_eq]; omega
        have Hz := Lib.hid (Hz.out.trans (by rw [decide_eq_true h6])); clear h6
        go_wp2_with fail
        refine (HF.out _).mono ?_
        rintro e w' ⟨rfl, rfl⟩
        go_wp2
        go_ret
        exact ⟨ret_bool (by rw [Hz.out]; simp), Hb0.out⟩
      · have h61 : ((l.length : Int) == 6) = false := by rw [beq_eq_false_iff_ne]; omega
        have Hz := Lib.hid (Hz.out.trans (by rw [decide_eq_false h6])); clear h6
        go_wp2
        go_ret
        exact ⟨ret_bool (by rw [Hz.out]; simp), Hb0.out⟩

end Go.Proofs.Ytfnhafgjdnlhiaa

/- The reference's test of a ledger with space for fees, by a walk of its text; conditions: the list is shorter than 2^40, at most a hundred transactions. -/
namespace Go.Proofs.Ytfnhafgjdnlhiaa
open Go.RowKit

def roomB (l : List Int) (n m : Int) : Bool := ldB l n && decide (n ≤ 5994 - 9 * m)
set_option maxHeartbeats 1000000 in
theorem spec_l31Room (a : Option Addr) (cap : Nat) (l : List Int) (n m : Int) (w : World) (hbig : l.length ≤ 1099511627776) (hl : IntsAt w a l) (hm : 0 ≤ m ∧ m ≤ 100) :
    Calls Try.prog 34 #[.agg #[.slice a l.length cap, .int .i64 n], .int .i64 m] w fun e w' => e = .returned (.bool (roomB l n m)) ∧ Below w.heap.size w w' := by
  have hb0 : Below w.heap.size w (w.alloc (.cells #[.slice a l.length cap, .int .i64 n] 25)) := (Below.refl _ _).alloc (Nat.le_refl _) _
  have s0 := Str.new w 25 #[.slice a l.length cap, .int .i64 n]
  have k0 := s0.cell 0 (v := .slice a l.length cap) rfl
  have k1 := s0.cell 1 (v := .int .i64 n) rfl
  have Hl := Lib.hid (hl.below hb0); clear hl
  have Hb0 := Lib.hid hb0; clear hb0
  have Hs := Lib.hid s0; clear s0
  have HV := Lib.hid (fun W (h : IntsAt W a l) => spec_LedgerValid a cap l n W hbig h)
  have Hres := Lib.hid (show roomB l n m = (ldB l n && decide (n ≤ 5994 - 9 * m)) from rfl)
  have hw1 : IntKind.i64.wrap (9 * m) = 9 * m := IntWalk.i64_in _ (by omega)
  have hw2 : IntKind.i64.wrap (5994 - 9 * m) = 5994 - 9 * m := IntWalk.i64_in _ (by omega)
  generalize ldB l n = B at *
  go_enter Try.func34, Try.ntmps34
  go_wp2_with fail
  generalize w.alloc (.cells #[.slice a l.length cap, .int .i64 n] 25) = W0 at *
  refine (HV.out W0 Hl.out).mono ?_
  rintro e w1 ⟨rfl, hb1⟩
  have Hb1 := Lib.hid (below_step Hb0.out Hb0.out.size hb1)
  have Hs1 := Lib.hid (show Str w1 w.heap.size 25 #[.slice a l.length cap, .int .i64 n] from (hb1.block _ Hs.out.lt).trans Hs.out)
  clear hb1 k0 k1
  cases B with
  | false =>
    go_wp2
    go_ret
    exact ⟨ret_bool (by rw [Hres.out]; rfl), Hb1.out⟩
  | true =>
  have k1 := Hs1.out.cell 1 (v := .int .i64 n) rfl
  go_wp2
  go_ret
  exact ⟨ret_bool (by rw [Hres.out]; rfl), Hb1.out⟩

end Go.Proofs.Ytfnhafgjdnlhiaa

/- Plain arithmetic of sets of members and their weights; no walk and no condition of our own. -/
namespace Go.Proofs.Ytfnhafgjdnlhiaa

/-- Ascending members below n. -/
def AscP (n : Nat) (ms : List Int) : Prop := ms.Pairwise (· < ·) ∧ ∀ m ∈ ms, 0 ≤ m ∧ m < n
theorem ascP_of {n : Nat} {ms : List Int} (h : membersB n ms = true) : AscP n ms := by
  have step : ∀ d i (hi : i + 1 + d < ms.length), ms[i] < ms[i + 1 + d] := by
    intro d
    induction d with
    | zero =>
      intro i hi
      have := okAt_bd hi (allB_upto h (i + 1) hi)
      rcases this.2.2 with h0 | h0
      · omega
      · rw [show i + 1 + 0 - 1 = i by omega, getD_get (by omega)] at h0; exact h0
    | succ d ih =>
      intro i hi
      have h1 := ih i (by omega)
      have := okAt_bd hi (allB_upto h (i + 1 + (d + 1)) hi)
      rcases this.2.2 with h0 | h0
      · omega
      · rw [show i + 1 + (d + 1) - 1 = i + 1 + d by omega, getD_get (by omega)] at h0
        exact Int.lt_trans h1 h0
  refine ⟨List.pairwise_iff_getElem.2 fun i j hi hj hij => ?_, fun m hm => ?_⟩
  · have := step (j - i - 1) i (by omega)
    simpa [show i + 1 + (j - i - 1) = j by omega] using this
  · obtain ⟨j, hj, rfl⟩ := List.mem_iff_getElem.1 hm
    exact membersB_at h j hj
theorem of_ascP {n : Nat} {ms : List Int} (h : AscP n ms) : membersB n ms = true := by
  unfold membersB
  refine allB_yes (k := ms.length) (fun j hj => ?_) (Nat.le_refl _)
  have hb := h.2 ms[j] (List.getElem_mem hj)
  refine okAt_yes hj hb.1 hb.2 ?_
  by_cases h0 : j = 0
  · exact .inl h0
  · refine .inr ?_
    rw [getD_get (by omega)]
    exact List.pairwise_iff_getElem.1 h.1 (j - 1) j (by omega) hj (by omega)
theorem ascP_filter {n : Nat} {ms : List Int} (p : Int → Bool) (h : AscP n ms) : AscP n (ms.filter p) :=
  ⟨h.1.filter p, fun m hm => h.2 m (List.mem_filter.1 hm).1⟩
theorem ascP_rangeF (p : Nat → Bool) (n : Nat) : AscP n (rangeF p n) := by
  induction n with
  | zero => exact ⟨by simp [rangeF], by simp [rangeF]⟩
  | succ n ih =>
    cases hp : p n with
    | false => rw [rangeF_no hp]; exact ⟨ih.1, fun m hm => by have := ih.2 m hm; omega⟩
    | true =>
      rw [rangeF_yes hp]
      refine ⟨List.pairwise_append.2 ⟨ih.1, by simp, fun a ha b hb => ?_⟩, fun m hm => ?_⟩
      · simp at hb; subst hb; exact (ih.2 a ha).2
      · rcases List.mem_append.1 hm with hm | hm
        · have := ih.2 m hm; omega
        · simp at hm; omega
theorem mem_rangeF {p : Nat → Bool} {n i : Nat} : (i : Int) ∈ rangeF p n ↔ i < n ∧ p i = true := by
  unfold rangeF
  simp only [List.mem_map, List.mem_filter, List.mem_range]
  constructor
  · rintro ⟨a, h, e⟩
    obtain rfl : a = i := by omega
    exact h
  · intro h; exact ⟨i, h, rfl⟩

/-- f 0 + .. + f (n - 1). -/
def isum (f : Nat → Int) : Nat → Int
  | 0 => 0
  | n + 1 => isum f n + f n
theorem isum_congr {f g : Nat → Int} {n : Nat} (h : ∀ i, i < n → f i = g i) : isum f n = isum g n := by
  induction n with
  | zero => rfl
  | succ n ih => simp only [isum]; rw [ih (fun i hi => h i (by omega)), h n (by omega)]
theorem isum_add (f g : Nat → Int) (n : Nat) : isum (fun i => f i + g i) n = isum f n + isum g n := by
  induction n with
  | zero => rfl
  | succ n ih => simp only [isum]; rw [ih]; omega
theorem isum_le {f g : Nat → Int} {n : Nat} (h : ∀ i, i < n → f i ≤ g i) : isum f n ≤ isum g n := by
  induction n with
  | zero => exact Int.le_refl _
  | succ n ih => simp only [isum]; have := ih (fun i hi => h i (by omega)); have := h n (by omega); omega
theorem isum_total (c : List Int) : isum (fun i => c.getD i 0) c.length = totalZ c := by
  have : ∀ k, k ≤ c.length → isum (fun i => c.getD i 0) k = sumTo c k := by
    intro k
    induction k with
    | zero => intro _; rfl
    | succ k ih => intro hk; simp only [isum]; rw [ih (by omega), sumTo_succ (by omega), getD_get (by omega)]
  exact this _ (Nat.le_refl _)

/-- The weight of i if it is among ms. -/
def wAt (c ms : List Int) (i : Nat) : Int := if hasB ms i = true then c.getD i 0 else 0
theorem weightTo_app (c ms : List Int) (x : Int) : weightZ c (ms ++ [x]) = weightZ c ms + c.getD x.toNat 0 := by
  unfold weightZ
  rw [List.length_append]
  simp only [List.length_cons, List.length_nil]
  rw [weightTo_succ (by simp)]
  congr 1
  · unfold weightTo; simp
  · simp
theorem weight_isum (c : List Int) : ∀ (n : Nat) (ms : List Int), AscP n ms → weightZ c ms = isum (wAt c ms) n := by
  intro n
  induction n with
  | zero =>
    intro ms h
    cases ms with
    | nil => rfl
    | cons m ms => have := h.2 m (by simp); omega
  | succ n ih =>
    intro ms h
    simp only [isum]
    rcases List.eq_nil_or_concat ms with rfl | ⟨l, x, rfl⟩
    · rw [← ih [] ⟨by simp, by simp⟩]; simp [wAt, hasB]
    · rw [List.concat_eq_append] at h ⊢
      have hp := List.pairwise_append.1 h.1
      have hx := h.2 x (by simp)
      have hl : ∀ m ∈ l, 0 ≤ m ∧ m < x := fun m hm => ⟨(h.2 m (by simp [hm])).1, hp.2.2 m hm x (by simp)⟩
      by_cases hxn : x = n
      · subst hxn
        have h1 := ih l ⟨hp.1, fun m hm => ⟨(hl m hm).1, by have := hl m hm; omega⟩⟩
        rw [weightTo_app, h1]
        congr 1
        · refine isum_congr fun i hi => ?_
          unfold wAt hasB
          have : ((i : Int) ∈ l ++ [(n : Int)]) = ((i : Int) ∈ l) := by
            rw [List.mem_append]; simp; omega
          simp only [this]
        · unfold wAt hasB; simp
      · have h1 := ih (l ++ [x]) ⟨h.1, fun m hm => by
          have := h.2 m hm
          rcases List.mem_append.1 hm with hm | hm
          · have := hl m hm; omega
          · simp at hm; omega⟩
        rw [h1]
        have : wAt c (l ++ [x]) n = 0 := by
          unfold wAt hasB
          rw [if_neg]
          rw [decide_eq_true_eq]
          intro hm
          rcases List.mem_append.1 hm with hm | hm
          · have := hl _ hm; omega
          · simp at hm; omega
        omega

theorem hasB_common (a b : List Int) (i : Int) : hasB (commonZ a b) i = (hasB a i && hasB b i) := by
  rw [commonZ_eq, Bool.eq_iff_iff]
  simp [hasB, List.mem_filter]
theorem c_nonneg {c : List Int} (h : validB c = true) (i : Nat) (hi : i < c.length) : 0 ≤ c.getD i 0 := by have := good_getD h hi; omega

/-- Two sets weigh no more together than all members and what is common. -/
theorem weights_meet {c a b : List Int} (h : validB c = true) (ha : AscP c.length a) (hb : AscP c.length b) : weightZ c a + weightZ c b ≤ totalZ c + weightZ c (commonZ a b) := by
  have hc : AscP c.length (commonZ a b) := by rw [commonZ_eq]; exact ascP_filter _ ha
  rw [weight_isum c _ a ha, weight_isum c _ b hb, weight_isum c _ _ hc, ← isum_total, ← isum_add, ← isum_add]
  refine isum_le fun i hi => ?_
  have := c_nonneg h i hi
  unfold wAt
  rw [hasB_common]
  generalize c.getD i 0 = x at *
  cases hasB a i <;> cases hasB b i <;> simp <;> omega
/-- Weights are added. -/
theorem weights_add {c a b : List Int} (ha : AscP c.length a) (hb : AscP c.length b) :
    weightZ c a + weightZ c b = weightZ c (rangeF (fun i => hasB a i || hasB b i) c.length) + weightZ c (commonZ a b) := by
  have hc : AscP c.length (commonZ a b) := by rw [commonZ_eq]; exact ascP_filter _ ha
  have hu := ascP_rangeF (fun i => hasB a i || hasB b i) c.length
  rw [weight_isum c _ a ha, weight_isum c _ b hb, weight_isum c _ _ hc, weight_isum c _ _ hu, ← isum_add, ← isum_add]
  refine isum_congr fun i hi => ?_
  unfold wAt
  rw [hasB_common]
  have : hasB (rangeF (fun i => hasB a i || hasB b i) c.length) i = (hasB a i || hasB b i) := by
    rw [Bool.eq_iff_iff]; unfold hasB; rw [decide_eq_true_eq, mem_rangeF]; simp [hi]
  rw [this]
  cases hasB a i <;> cases hasB b i <;> simp

/-- The weight of all members. -/
theorem weight_all {c : List Int} (h : validB c = true) : weightZ c (rangeF (bitB 127) c.length) = totalZ c := by
  rw [weight_isum c _ _ (ascP_rangeF _ _), ← isum_total]
  refine isum_congr fun i hi => ?_
  have hl := validB_len h
  have h7 : bitB 127 i = true := by
    have : i < 7 := by omega
    match i, this with
    | 0, _ => rfl
    | 1, _ => rfl
    | 2, _ => rfl
    | 3, _ => rfl
    | 4, _ => rfl
    | 5, _ => rfl
    | 6, _ => rfl
  have : hasB (rangeF (bitB 127) c.length) i = true := decide_eq_true (mem_rangeF.2 ⟨hi, h7⟩)
  unfold wAt
  rw [if_pos this]

theorem mwZ_of {c ms : List Int} (h : validB c = true) (hm : AscP c.length ms) : mwZ c ms = weightZ c ms := mwZ_yes (by rw [mvB_yes h]; exact of_ascP hm)
theorem mwZ_rangeF {c : List Int} (h : validB c = true) (p : Nat → Bool) : mwZ c (rangeF p c.length) = weightZ c (rangeF p c.length) := mwZ_of h (ascP_rangeF p _)

theorem weight_bd {c a : List Int} (h : validB c = true) (ha : AscP c.length a) : 0 ≤ weightZ c a ∧ weightZ c a ≤ totalZ c := by
  have h0 : isum (fun _ => 0) c.length = 0 := by
    generalize c.length = n
    induction n with
    | zero => rfl
    | succ n ih => simp only [isum]; rw [ih]; rfl
  rw [weight_isum c _ a ha, ← isum_total]
  refine ⟨Int.le_trans (Int.le_of_eq h0.symm) (isum_le fun i hi => ?_), isum_le fun i hi => ?_⟩ <;> (have := c_nonneg h i hi; unfold wAt; split <;> omega)
theorem ascP_common {n : Nat} {a b : List Int} (ha : AscP n a) : AscP n (commonZ a b) := by rw [commonZ_eq]; exact ascP_filter _ ha
theorem common_pos {c a b : List Int} (h : 0 < weightZ c (commonZ a b)) : 0 < (commonZ a b).length := by
  rcases Nat.eq_zero_or_pos (commonZ a b).length with h0 | h0
  · rw [List.eq_nil_of_length_eq_zero h0] at h; exact absurd h (by simp [weightZ, weightTo])
  · exact h0

theorem validB_iff (c : List Int) : validB c = true ↔ (1 ≤ c.length ∧ c.length ≤ 7) ∧ ∀ x ∈ c, 1 ≤ x ∧ x ≤ 9 := by
  unfold validB goodB
  rw [Bool.and_eq_true, decide_eq_true_eq, List.all_eq_true]
  simp
theorem valid_less {c : List Int} {k : Nat} (h : validB c = true) (hk : k < c.length) (h1 : c.length ≠ 1) : validB (c.take k ++ c.drop (k + 1)) = true := by
  rw [validB_iff] at h ⊢
  refine ⟨?_, fun x hx => h.2 x ?_⟩
  · rw [List.length_append, List.length_take, List.length_drop]; omega
  · rcases List.mem_append.1 hx with hx | hx
    · exact List.mem_of_mem_take hx
    · exact List.mem_of_mem_drop hx
theorem valid_zero {c : List Int} {k : Nat} (hk : k < c.length) : validB (c.set k 0) = false := by
  rw [Bool.eq_false_iff]
  intro h
  rw [validB_iff] at h
  have := h.2 0 (List.mem_set hk 0)
  omega

theorem members_less {n : Nat} {ms : List Int} {k : Nat} (h : AscP n ms) : AscP n (ms.take k ++ ms.drop (k + 1)) := by
  have hsub : (ms.take k ++ ms.drop (k + 1)).Sublist ms := by rw [← List.eraseIdx_eq_take_drop_succ]; exact List.eraseIdx_sublist ms k
  exact ⟨h.1.sublist hsub, fun m hm => h.2 m (hsub.subset hm)⟩
theorem members_twice {n : Nat} {ms : List Int} {k : Nat} (hk : k < ms.length) : membersB n (ms.take (k + 1) ++ ms.drop k) = false := by
  rw [Bool.eq_false_iff]
  intro h
  have hp := (List.pairwise_append.1 (ascP_of h).1).2.2 ms[k] (by rw [List.mem_take_iff_getElem]; exact ⟨k, by omega, rfl⟩) ms[k] (by rw [List.mem_drop_iff_getElem]; exact ⟨0, by omega, by simp⟩)
  omega

end Go.Proofs.Ytfnhafgjdnlhiaa

/- A number put into an ascending list; plain facts and slices of a source; nothing here speaks of the program's text. -/
namespace Go.Proofs.Ytfnhafgjdnlhiaa
open Go.RowKit

/-- x put in its place, where it is lacking. -/
def addZ (ms : List Int) (x : Int) : List Int := if hasB ms x then ms else ms.takeWhile (fun m => decide (m < x)) ++ x :: ms.dropWhile (fun m => decide (m < x))
theorem asc_at {ms : List Int} (hs : ms.Pairwise (· < ·)) {i j : Nat} (hi : i < ms.length) (hj : j < ms.length) (h : i < j) : ms[i] < ms[j] := List.pairwise_iff_getElem.1 hs i j hi hj h
theorem place_ex (ms : List Int) (x : Int) : ∃ k, k ≤ ms.length ∧ (∀ m ∈ ms.take k, m < x) ∧ ∀ hk : k < ms.length, x ≤ ms[k] := by
  induction ms with
  | nil => exact ⟨0, Nat.le_refl _, by simp, fun hk => absurd hk (by simp)⟩
  | cons y ys ih =>
    by_cases hy : y < x
    · obtain ⟨k, h1, h2, h3⟩ := ih
      refine ⟨k + 1, by simpa using h1, ?_, fun hk => ?_⟩
      · intro m hm
        rw [List.take_succ_cons] at hm
        rcases List.mem_cons.1 hm with e | hm
        · rw [e]; exact hy
        · exact h2 m hm
      · rw [List.getElem_cons_succ]
        exact h3 (by simpa using hk)
    · exact ⟨0, Nat.zero_le _, by simp, fun hk => by rw [List.getElem_cons_zero]; omega⟩
theorem rest_ge {ms : List Int} (hs : ms.Pairwise (· < ·)) {x : Int} {k : Nat} (h' : ∀ hk : k < ms.length, x ≤ ms[k]) : ∀ m ∈ ms.drop k, x ≤ m := by
  intro m hm
  obtain ⟨j, hj, rfl⟩ := List.mem_iff_getElem.1 hm
  rw [List.length_drop] at hj
  rw [List.getElem_drop]
  have hk : k < ms.length := by omega
  have h0 := h' hk
  rcases Nat.eq_zero_or_pos j with e | e
  · subst e; exact h0
  · have := asc_at hs hk (j := k + j) (by omega) (by omega)
    omega
theorem count_at {ms : List Int} (hs : ms.Pairwise (· < ·)) {x : Int} {k : Nat} (hk : k ≤ ms.length) (h : ∀ m ∈ ms.take k, m < x) (h' : ∀ hk : k < ms.length, x ≤ ms[k]) : ms.countP (fun m => decide (m < x)) = k := by
  have e : ms.countP (fun m => decide (m < x)) = (ms.take k ++ ms.drop k).countP (fun m => decide (m < x)) := by rw [List.take_append_drop]
  rw [e, List.countP_append, List.countP_eq_length.2 (fun m hm => decide_eq_true (h m hm)), List.countP_eq_zero.2 (fun m hm => by have := rest_ge hs h' m hm; simp; omega), List.length_take]
  omega
theorem ins_hit {ms : List Int} {x : Int} {k : Nat} (hk : k < ms.length) (e : ms[k] = x) : hasB ms x = true ∧ addZ ms x = ms := by
  have h := hasB_yes hk
  rw [e] at h
  exact ⟨h, by unfold addZ; rw [if_pos h]⟩
theorem ins_no {ms : List Int} (hs : ms.Pairwise (· < ·)) {x : Int} {k : Nat} (_hk : k ≤ ms.length) (h : ∀ m ∈ ms.take k, m < x) (h' : ∀ hk : k < ms.length, x < ms[k]) : hasB ms x = false ∧ addZ ms x = ms.take k ++ x :: ms.drop k := by
  have hn : hasB ms x = false := by
    refine decide_eq_false fun hm => ?_
    have : x ∈ ms.take k ++ ms.drop k := by rw [List.take_append_drop]; exact hm
    rcases List.mem_append.1 this with hm | hm
    · exact absurd (h x hm) (by omega)
    · obtain ⟨j, hj, e⟩ := List.mem_iff_getElem.1 hm
      rw [List.length_drop] at hj
      rw [List.getElem_drop] at e
      have hk : k < ms.length := by omega
      have h0 := h' hk
      rcases Nat.eq_zero_or_pos j with e0 | e0
      · subst e0; simp only [Nat.add_zero] at e; omega
      · have := asc_at hs hk (j := k + j) (by omega) (by omega)
        omega
  refine ⟨hn, ?_⟩
  unfold addZ
  rw [hn, if_neg (by simp)]
  have h2 : (ms.drop k).takeWhile (fun m => decide (m < x)) = [] ∧ (ms.drop k).dropWhile (fun m => decide (m < x)) = ms.drop k := by
    by_cases hk : k < ms.length
    · have h0 := h' hk
      rw [List.drop_eq_getElem_cons hk]
      exact ⟨List.takeWhile_cons_of_neg (by simp; omega), List.dropWhile_cons_of_neg (by simp; omega)⟩
    · rw [List.drop_of_length_le (by omega)]; exact ⟨rfl, rfl⟩
  have e := List.take_append_drop k ms
  have hp : ∀ m ∈ ms.take k, (fun m => decide (m < x)) m = true := fun m hm => decide_eq_true (h m hm)
  rw [show ms.takeWhile (fun m => decide (m < x)) = (ms.take k ++ ms.drop k).takeWhile (fun m => decide (m < x)) by rw [e], List.takeWhile_append_of_pos hp, h2.1, List.append_nil,
    show ms.dropWhile (fun m => decide (m < x)) = (ms.take k ++ ms.drop k).dropWhile (fun m => decide (m < x)) by rw [e], List.dropWhile_append_of_pos hp, h2.2]
theorem ins_len (ms : List Int) (x : Int) : (addZ ms x).length ≤ ms.length + 1 := by
  unfold addZ
  split
  · omega
  · have e := congrArg List.length (List.takeWhile_append_dropWhile (p := fun m => decide (m < x)) (l := ms))
    rw [List.length_append] at e
    rw [List.length_append, List.length_cons]
    omega
theorem take_step {ms : List Int} {x : Int} {k : Nat} (hk : k < ms.length) (h : ∀ m ∈ ms.take k, m < x) (h' : ms[k] < x) : ∀ m ∈ ms.take (k + 1), m < x := by
  intro m hm
  rw [List.take_succ_eq_append_getElem hk, List.mem_append] at hm
  rcases hm with hm | hm
  · exact h m hm
  · rw [List.mem_singleton] at hm; rw [hm]; exact h'

theorem SrcAt.takeI {w : World} {a : Option Addr} {c : Nat} {g : List Int} (h : SrcAt w a c g) (k : Nat) : SrcAt w a c (g.take k) := by
  rcases h with ⟨rfl, rfl, rfl⟩ | ⟨q, rfl, hq⟩
  · exact .inl ⟨rfl, by simp, rfl⟩
  · refine .inr ⟨q, rfl, fun j hj => ?_⟩
    rw [List.length_take] at hj
    rw [List.getElem_take]
    exact hq j (by omega)
theorem add_add (q : Addr) (k j : Nat) : (q.add k).add j = q.add (k + j) := by
  unfold Addr.add
  by_cases hj : j = 0
  · subst hj; simp
  · by_cases hk : k = 0
    · subst hk; simp [hj]
    · have : k + j ≠ 0 := by omega
      simp [hj, hk, Nat.add_assoc]
theorem SrcAt.dropI {w : World} {a : Option Addr} {c : Nat} {g : List Int} (h : SrcAt w a c g) (hc : g.length ≤ c) {k : Nat} (hk : k ≤ g.length) : SrcAt w (if c = k then a else a.map (·.add (k * 1))) (c - k) (g.drop k) := by
  rcases h with ⟨rfl, rfl, rfl⟩ | ⟨q, rfl, hq⟩
  · exact .inl ⟨by split <;> rfl, by simp, by simp⟩
  · by_cases e : c = k
    · rw [if_pos e, List.drop_of_length_le (by omega)]; exact .inr ⟨q, rfl, fun j hj => by simp at hj⟩
    · rw [if_neg e]
      refine .inr ⟨_, rfl, fun j hj => ?_⟩
      rw [List.length_drop] at hj
      rw [List.getElem_drop, add_add, Nat.mul_one]
      exact hq (k + j) (by omega)
theorem SrcAt.parts {w : World} {va : Option Addr} {vc : Nat} {g : List Int} (h : SrcAt w va vc g) (hc : g.length ≤ vc) {k : Nat} (hk : k ≤ g.length) :
    (∀ W, (Instr.slice 23 (.slice va g.length vc) none (some (.int .i64 k)) none).run Try.prog W = .ok (.slice va (g.take k).length vc) W) ∧ SrcAt w va vc (g.take k) ∧
    ∃ ad ac, (∀ W, (Instr.slice 23 (.slice va g.length vc) (some (.int .i64 k)) none none).run Try.prog W = .ok (.slice ad (g.drop k).length ac) W) ∧ SrcAt w ad ac (g.drop k) := by
  have ht : Try.prog.underlying 23 = some (.slice (Try.prog.elem 23)) := by kernel_rfl
  have hs : ∀ W, (sizeOf (Try.prog.elem 23)).run Try.prog W = .ok 1 W := fun W => by kernel_rfl
  refine ⟨fun W => ?_, h.takeI k, _, _, fun W => ?_, h.dropI hc hk⟩
  · rw [run_slice_h (ht := ht) (h0 := by omega) (h2 := by omega), hs]
    simp only [Result.andThen, sliced, Int.toNat_natCast, List.length_take, Nat.min_eq_left hk, Nat.sub_zero]
    have e : (if vc = 0 then va else va.map (·.add (0 * 1))) = va := by
      split
      · rfl
      · cases va <;> simp [Addr.add]
    rw [e]
  · rw [run_slice_l (ht := ht) (h0 := by omega) (h1 := by omega), hs]
    simp only [Result.andThen, sliced, Int.toNat_natCast, List.length_drop]
theorem SrcAt.lies {w w' : World} {a : Option Addr} {c : Nat} {xs : List Int} (h : SrcAt w a c xs) (hi : IntsAt w a xs) (hb : Below w.heap.size w w') : SrcAt w' a c xs := by
  rcases h with h | ⟨ad, rfl, hc⟩
  · exact .inl h
  · refine .inr ⟨ad, rfl, fun j hj => ?_⟩
    obtain ⟨b, off, e, hlt, _⟩ := hi.cell (by omega)
    cases e
    have := hc j hj
    rw [addr_add'] at this ⊢
    exact (hb.cell (p := ⟨b, off + j, none⟩) hlt).trans this
theorem src_one {w : World} {E : TypeId} {B : Nat} {x : Int} (h : Str w B E #[.int .i64 x]) : SrcAt w (some ⟨B, 0, none⟩) 1 [x] := by
  refine .inr ⟨_, rfl, fun j hj => ?_⟩
  have h0 : j = 0 := by simpa using hj
  subst h0
  rw [addr_add]
  exact h.cell 0 rfl
/-- 'append(s, t...)' as an operation of a region. -/
theorem op_appI {P : Program} {T E : TypeId} (hT : IntT P T E) {w : World} {o : Oper} {a : Act} {K : Act → World → Prop} {Q : Exit → Act → World → Prop} (s x : Operand)
    (ho : o.op = .call { callee := .builtin .append, args := #[s, x], argTypes := #[T, T] }) (B : Nat) (v : Value) (xs zs : List Int) (ax : Option Addr) (c : Nat) (hs : a.eval s = v) (hown : Own E w B v xs)
    (hx : a.eval x = .slice ax zs.length c) (hz : SrcAt w ax c zs) (hlen : xs.length + zs.length ≤ 1099511627776) (hB : B ≤ w.heap.size)
    (h : ∀ v' w', Own E w' B v' (xs ++ zs) → w.grownBy w' v.ownBlock → K (a.put o.dst v') w') : Oper.wp P o a w K Q := by
  obtain ⟨v', w', hr, h1, h2⟩ := run_appI hT o.type hown hz hlen hB
  unfold Oper.wp execOp
  simp only [ho, resolve, invoke, builtin, Sem.run_bind, Sem.run_pure, Result.andThen_ok, List.map_toArray, List.map_cons, List.map_nil, hs, hx, hr]
  exact h v' w' h1 h2

end Go.Proofs.Ytfnhafgjdnlhiaa

/- The reference's copy of a ledger, by a walk of its text; condition: the list has at most 2^20 numbers. -/
namespace Go.Proofs.Ytfnhafgjdnlhiaa
open Go.RowKit

theorem TIl : IntT Try.prog 23 3 := ⟨Try.underlying23, by kernel_rfl⟩
set_option maxHeartbeats 2000000 in
theorem spec_l31Copy (a : Option Addr) (cap : Nat) (l : List Int) (n : Int) (w : World) (hbig : l.length ≤ 1048576) (hi : IntsAt w a l) (hsrc : SrcAt w a cap l) :
    Calls Try.prog 54 #[.agg #[.slice a l.length cap, .int .i64 n]] w fun e w' => ∃ v, e = .returned (.agg #[v, .int .i64 n]) ∧ Own 3 w' w.heap.size v l ∧ Below w.heap.size w w' := by
  have hb0 : Below w.heap.size w ((w.alloc (.cells #[.slice a l.length cap, .int .i64 n] 25)).alloc (.cells #[.slice none 0 0, .int .i64 0] 25)) := ((Below.refl _ _).alloc (Nat.le_refl _) _).alloc (by simp) _
  have hsrc0 := hsrc.lies hi hb0
  have hi0 := hi.below hb0
  have s1 := (Str.new w 25 #[.slice a l.length cap, .int .i64 n]).alloc (.cells #[.slice none 0 0, .int .i64 0] 25)
  have s2 := Str.new (w.alloc (.cells #[.slice a l.length cap, .int .i64 n] 25)) 25 #[.slice none 0 0, .int .i64 0]
  simp only [World.size_alloc] at s2
  have hz : ((w.alloc (.cells #[.slice a l.length cap, .int .i64 n] 25)).alloc (.cells #[.slice none 0 0, .int .i64 0] 25)).heap.size = w.heap.size + 2 := by simp
  have Hi := Lib.hid hi0; have Hsrc := Lib.hid hsrc0; have Hb := Lib.hid hb0; have S1 := Lib.hid s1; have S2 := Lib.hid s2; clear hi0 hsrc0 hb0 s1 s2 hi hsrc
  go_enter Try.func54, Try.ntmps54
  have k0 := S1.out.cell 0 (v := .slice a l.length cap) rfl
  have k1 := S1.out.cell 1 (v := .int .i64 n) rfl
  go_wp2_with fail
  generalize ((w.alloc (.cells #[.slice a l.length cap, .int .i64 n] 25)).alloc (.cells #[.slice none 0 0, .int .i64 0] 25)) = W0 at *
  clear k0 k1
  refine wp_region_held_drew (S := fun w' => w'.cell? ⟨w.heap.size, 0, none⟩ = some (.slice a l.length cap) ∧ w'.cell? ⟨w.heap.size, 1, none⟩ = some (.int .i64 n)) (by kernel_rfl) ⟨S1.out.cell 0 (v := .slice a l.length cap) rfl, S1.out.cell 1 (v := .int .i64 n) rfl⟩ (fun hH => ?_)
  have hdr : Below W0.heap.size W0 W0.drew := (Below.refl _ _).drew
  have Hsrc := Lib.hid (Hsrc.out.lies Hi.out hdr)
  have Hi := Lib.hid (Hi.out.below hdr)
  have S1 := Lib.hid (show Str W0.drew (w.heap.size) 25 #[.slice a l.length cap, .int .i64 n] from (hdr.block _ S1.out.lt).trans S1.out)
  have S2 := Lib.hid (show Str W0.drew (w.heap.size + 1) 25 #[.slice none 0 0, .int .i64 0] from (hdr.block _ S2.out.lt).trans S2.out)
  have hsx := hdr.size
  have Hb := Lib.hid (below_step Hb.out Hb.out.size hdr)
  clear hdr
  generalize W0.drew = wd at *
  refine takeH 1 (v := ?vlc1) rfl (by kernel_rfl) (by kernel_rfl) (by kernel_rfl) (fun _ _ _ h => h) hH rfl ?ylc1 ?rlc1
  case ylc1 => intro W hSw; go_simp; try with_reducible rfl
  try simp only [Act.put, List.setIfInBounds_toArray, List.set_cons_zero, List.set_cons_succ]
  refine takeH 2 (v := ?vlc2) rfl (by kernel_rfl) (by kernel_rfl) (by kernel_rfl) (fun _ _ _ h => h) hH rfl ?ylc2 ?rlc2
  case ylc2 => intro W hSw; go_simp; try with_reducible rfl
  try simp only [Act.put, List.setIfInBounds_toArray, List.set_cons_zero, List.set_cons_succ]
  refine takeH 4 (v := ?vlc3) rfl (by kernel_rfl) (by kernel_rfl) (by kernel_rfl) (fun _ _ _ h => h) hH rfl ?ylc3 ?rlc3
  case ylc3 => intro W hSw; go_simp; try with_reducible rfl
  try simp only [Act.put, List.setIfInBounds_toArray, List.set_cons_zero, List.set_cons_succ]
  refine takeH 5 (v := ?vlc4) rfl (by kernel_rfl) (by kernel_rfl) (by kernel_rfl) (fun _ _ _ h => h) hH rfl ?ylc4 ?rlc4
  case ylc4 => intro W hSw; go_simp; try with_reducible rfl
  try simp only [Act.put, List.setIfInBounds_toArray, List.set_cons_zero, List.set_cons_succ]
  refine callH 0 rfl (by kernel_rfl) rfl (fun K hK => ?_)
  go_simp
  have hal : Below wd.heap.size wd (wd.alloc (.cells #[] 3)) := (Below.refl _ _).alloc (Nat.le_refl _) _
  have oM := own_empty 3 wd (Nat.le_refl _)
  have OM := Lib.hid oM; clear oM
  have hzw : wd.heap.size < (wd.alloc (.cells #[] 3)).heap.size := by simp
  have Hsrc := Lib.hid (Hsrc.out.lies Hi.out hal)
  have Hi := Lib.hid (Hi.out.below hal)
  have S1 := Lib.hid (show Str (wd.alloc (.cells #[] 3)) (w.heap.size) 25 #[.slice a l.length cap, .int .i64 n] from (hal.block _ S1.out.lt).trans S1.out)
  have S2 := Lib.hid (show Str (wd.alloc (.cells #[] 3)) (w.heap.size + 1) 25 #[.slice none 0 0, .int .i64 0] from (hal.block _ S2.out.lt).trans S2.out)
  have hsx := hal.size
  have Hb := Lib.hid (below_step Hb.out Hb.out.size hal)
  refine hK.out _ _ ⟨S1.out.cell 0 (v := .slice a l.length cap) rfl, S1.out.cell 1 (v := .int .i64 n) rfl⟩ (fun hH => ?_)
  clear hK K hal
  try simp only [Act.put, List.setIfInBounds_toArray, List.set_cons_zero, List.set_cons_succ]
  generalize wd.alloc (.cells #[] 3) = w2 at *
  generalize hNB : wd.heap.size = NB at *
  refine callH 3 rfl (by kernel_rfl) rfl (fun K hK => ?_)
  refine op_appI TIl _ _ rfl NB (Value.slice (some ⟨NB, 0, none⟩) 0 0) [] l a cap rfl OM.out rfl Hsrc.out (by simp; omega) (by omega) (fun u w3 ho9 hg9 => ?_)
  rw [List.nil_append] at ho9
  obtain ⟨ua, uc, rfl, _, _⟩ := ho9.ints
  have hs3 := hg9.size
  have hlt9 : ∀ q, (Value.slice (some ⟨NB, 0, none⟩) 0 0).ownBlock = some q → NB ≤ q := fun q e => (OM.out.lt q e).1
  have S1 := Lib.hid (show Str w3 (w.heap.size) 25 #[.slice a l.length cap, .int .i64 n] from S1.out.kept hg9 (fun e => by have := hlt9 _ e.symm; omega))
  have S2 := Lib.hid (show Str w3 (w.heap.size + 1) 25 #[.slice none 0 0, .int .i64 0] from S2.out.kept hg9 (fun e => by have := hlt9 _ e.symm; omega))
  have Hb := Lib.hid (Hb.out.grown hg9 Hb.out.size (fun q e => by have := hlt9 q e; omega))
  have OL := Lib.hid ho9
  clear ho9 hg9 hlt9 OM Hi Hsrc
  refine hK.out _ _ ⟨S1.out.cell 0 (v := .slice a l.length cap) rfl, S1.out.cell 1 (v := .int .i64 n) rfl⟩ (fun hH => ?_)
  clear hK K
  try simp only [Act.put, List.setIfInBounds_toArray, List.set_cons_zero, List.set_cons_succ]
  refine takeH 6 (v := ?vlc5) rfl (by kernel_rfl) (by kernel_rfl) (by kernel_rfl) (fun _ _ _ h => h) hH rfl ?ylc5 ?rlc5
  case ylc5 => intro W hSw; go_simp; try with_reducible rfl
  try simp only [Act.put, List.setIfInBounds_toArray, List.set_cons_zero, List.set_cons_succ]
  refine callH 7 rfl (by kernel_rfl) rfl (fun K hK => ?_)
  have y0 := S2.out.frozen 0
  have y1 := S2.out.frozen 1
  have v0 := S2.out.cell 0 (v := .slice none 0 0) rfl
  have v1 := S2.out.cell 1 (v := .int .i64 0) rfl
  go_simp
  clear y0 y1 v0 v1
  have hne : (Value.slice ua l.length uc).ownBlock ≠ some (w.heap.size + 1) := fun e => by have := (OL.out.lt _ e).1; omega
  have sF := (S2.out.set 0 (.slice ua l.length uc)).set 1 (.int .i64 n)
  have SF := Lib.hid sF; clear sF
  have S1 := Lib.hid ((S1.out.other (B' := w.heap.size + 1) (by omega) 0 (.slice ua l.length uc)).other (B' := w.heap.size + 1) (by omega) 1 (.int .i64 n))
  have OL := Lib.hid ((OL.out.set_other hne 0 (.slice ua l.length uc)).set_other hne 1 (.int .i64 n))
  have Hb := Lib.hid ((Hb.out.setCell (p := ⟨w.heap.size + 1, 0, none⟩) (by simp only; omega) (.slice ua l.length uc)).setCell (p := ⟨w.heap.size + 1, 1, none⟩) (by simp only; omega) (.int .i64 n))
  refine hK.out _ _ ⟨S1.out.cell 0 rfl, S1.out.cell 1 rfl⟩ (fun hH => ?_)
  clear hK K hne
  try simp only [Act.put, List.setIfInBounds_toArray, List.set_cons_zero, List.set_cons_succ]
  generalize ((w3.setCell ⟨w.heap.size + 1, 0, none⟩ (.slice ua l.length uc)).setCell ⟨w.heap.size + 1, 1, none⟩ (.int .i64 n)) = we at *
  refine wpAnyH_done (by kernel_rfl) ?_ _
  try simp only [Act.put]
  clear hH
  have e0 := SF.out.cell 0 (v := .slice ua l.length uc) rfl
  have e1 := SF.out.cell 1 (v := .int .i64 n) rfl
  go_wp2
  refine bodyPost_ret (v := .agg #[.slice ua l.length uc, .int .i64 n]) (by simp [results, Try.f54, go_sem, e0, e1]) rfl ?_
  exact ⟨_, rfl, OL.out.mono (by omega), Hb.out⟩

end Go.Proofs.Ytfnhafgjdnlhiaa

/- A region that draws its order, operation by operation, where the condition on the world is kept up to a last operation alone (a store into what was loaded): general steps, nothing here speaks of the program. -/
namespace Go.Proofs.Ytfnhafgjdnlhiaa
open Go.RowKit

/-- Whatever order is picked from here on; S holds behind every operation until number m has come up. -/
def wpAnyL (P : Program) (md : Region.Mode) (ops : Array Oper) (Q : Exit → Act → World → Prop) (m : Nat) (S : World → Prop) : Nat → Array Bool → Act → World → Prop
  | 0, listed, a, w => Region.ready md ops listed = [] ∧ Q .normal a w
  | fuel + 1, listed, a, w =>
    (Region.ready md ops listed = [] → Q .normal a w) ∧
    ∀ i ∈ Region.ready md ops listed, wpOp P ops Q i (fun a' w' => ((listed.setIfInBounds i true).getD m true = false → S w') ∧ wpAnyL P md ops Q m S fuel (listed.setIfInBounds i true) a' w') a w

section
variable {P : Program} {md : Region.Mode} {ops : Array Oper} {Q : Exit → Act → World → Prop} {S : World → Prop} {m : Nat}

theorem any_of_L : ∀ (fuel : Nat) (listed : Array Bool) (a : Act) (w : World), wpAnyL P md ops Q m S fuel listed a w → wpAny P md ops Q fuel listed a w
  | 0, _, _, _, h => h
  | fuel + 1, _, _, _, h => ⟨h.1, fun i hi => wpOp_mono (fun a' w' h' => any_of_L fuel _ a' w' h'.2) (h.2 i hi)⟩

/-- Of two that may come up, neither waits for the other. -/
theorem ready_pair {listed : Array Bool} {i j : Nat} (hi : i ∈ Region.ready md ops listed) (hj : j ∈ Region.ready md ops listed) :
    listed.getD j true = false ∧ ∃ o, ops[j]? = some o ∧ ∀ e ∈ o.after, Region.binds md e = true → e.on ≠ i := by
  obtain ⟨hun, o, ho, hall⟩ := mem_ready.1 hj
  refine ⟨hun, o, ho, fun e he hb heq => ?_⟩
  have h1 := hall e he hb
  have h0 := (mem_ready.1 hi).1
  rw [heq] at h1
  by_cases hlt : i < listed.size <;> simp [hlt] at h0 h1
  rw [h0] at h1; cases h1
/-- Number m waits for number i. -/
def waits (md : Region.Mode) (ops : Array Oper) (m i : Nat) : Bool := (ops[m]?.map fun o => o.after.any fun e => Region.binds md e && e.on == i).getD false
theorem waits_not {listed : Array Bool} {i : Nat} (hw : waits md ops m i = true) (hi : i ∈ Region.ready md ops listed) : m ∉ Region.ready md ops listed := by
  intro hm
  obtain ⟨_, o, ho, hno⟩ := ready_pair hi hm
  unfold waits at hw
  rw [ho, Option.map_some, Option.getD_some, Array.any_eq_true'] at hw
  obtain ⟨e, he, hb⟩ := hw
  rw [Bool.and_eq_true, beq_iff_eq] at hb
  exact hno e he hb.1 hb.2

/-- Whoever may come up ahead of number i leaves its temporaries alone. -/
def FreeAt (md : Region.Mode) (ops : Array Oper) (oi : Oper) (i : Nat) (listed : Array Bool) : Prop :=
  ∀ j oj, ops[j]? = some oj → j ≠ i → listed.getD j true = false → (∀ e ∈ oj.after, Region.binds md e = true → e.on ≠ i) → oi.apart ops oj = true
theorem FreeAt.set {oi : Oper} {i j : Nat} {listed : Array Bool} (h : FreeAt md ops oi i listed) (hj : listed.getD j true = false) : FreeAt md ops oi i (listed.setIfInBounds j true) := by
  intro k ok hk hki hun hno
  refine h k ok hk hki ?_ hno
  rcases Nat.decEq j k with hjk | hjk
  · rwa [getD_set_ne true hjk] at hun
  · exact hjk ▸ hj
theorem firstL {i : Nat} {oi : Oper} {v : Value} (hi : ops[i]? = some oi) (hsel : ∀ (j : Nat) (o : Oper) cs b, ops[j]? = some o → o.op ≠ .select cs b)
    (hQ : ∀ c a w, Q (.panic c) (a.put oi.dst v) w → Q (.panic c) a w) (hw : waits md ops m i = true) (fuel : Nat) :
    ∀ (listed : Array Bool) (a : Act) (w : World), FreeAt md ops oi i listed → listed.getD m true = false → i ∈ Region.ready md ops listed → YieldsIf P ops S oi v a → S w →
      wpAnyL P md ops Q m S fuel (listed.setIfInBounds i true) (a.put oi.dst v) w → wpAnyL P md ops Q m S (fuel + 1) listed a w := by
  have im : ∀ {listed}, i ∈ Region.ready md ops listed → i ≠ m := fun hr e => waits_not hw hr (e ▸ hr)
  induction fuel with
  | zero =>
    intro listed a w _ _ hr hy hS H
    refine ⟨fun h => absurd hr (by rw [h]; simp), fun j hj => ?_⟩
    rcases Nat.decEq j i with hji | rfl
    · exact absurd (ready_mono hj hji) (by rw [H.1]; simp)
    · exact hy.wpOp hi hS ⟨fun _ => hS, H⟩
  | succ fuel ih =>
    intro listed a w hfree hmf hr hy hS H
    refine ⟨fun h => absurd hr (by rw [h]; simp), fun j hj => ?_⟩
    rcases Nat.decEq j i with hji | rfl
    · have hjm : j ≠ m := fun e => waits_not hw hr (e ▸ hj)
      obtain ⟨hjun, oj, hoj, hno⟩ := ready_pair hr hj
      refine wpOp_mono (fun a' w' h3 => ?_) (wpOp_putIf hoj (hfree j oj hoj hji hjun hno) (fun cs b => hsel i oi cs b hi) (fun cs b => hsel j oj cs b hoj) hQ hy (H.2 j (ready_mono hj hji)))
      have hS' : S w' := h3.2.1 (by rw [getD_set_ne true hjm, getD_set_ne true (im hr)]; exact hmf)
      exact ⟨fun _ => hS', ih _ a' w' (hfree.set hjun) (by rw [getD_set_ne true hjm]; exact hmf) (ready_mono hr (Ne.symm hji)) h3.1 hS' (by rw [Array.setIfInBounds_comm _ _ hji]; exact h3.2.2)⟩
    · exact hy.wpOp hi hS ⟨fun _ => hS, H⟩
end

section
variable {P : Program} {md : Region.Mode} {l : List Oper} {Q : Exit → Act → World → Prop} {S : World → Prop} {oi : Oper} {rest : List Oper} {fuel m : Nat} {listed : Array Bool} {a : Act} {w : World}

/-- Take number i first: it is carried out and yields v in every world that meets S. -/
theorem takeL (i : Nat) {v : Value} (hi : l.drop i = oi :: rest) (hs : Region.noSelect l.toArray = true) (hf : Region.free md l.toArray listed i = true) (hr : (Region.ready md l.toArray listed).contains i = true) (hm : waits md l.toArray m i = true) (hm' : listed.getD m true = false)
    (hQ : ∀ c a w, Q (.panic c) (a.put oi.dst v) w → Q (.panic c) a w) (hS : S w) (hw : Region.wanted oi (yielded l.toArray a.tmps) = true)
    (hy : ∀ w, S w → (execOp a.eval oi).run P w = .ok (.value v) w)
    (h : wpAnyL P md l.toArray Q m S fuel (listed.setIfInBounds i true) (a.put oi.dst v) w) : wpAnyL P md l.toArray Q m S (fuel + 1) listed a w :=
  firstL (drop_at hi) (Region.noSelect_spec hs) hQ hm fuel listed a w (Region.free_spec (drop_at hi) hf) hm' (by simpa using hr) (.inl ⟨hw, hy⟩) hS h
/-- Number i is left out by its guard. -/
theorem skipL (i : Nat) (hi : l.drop i = oi :: rest) (hs : Region.noSelect l.toArray = true) (hf : Region.free md l.toArray listed i = true) (hr : (Region.ready md l.toArray listed).contains i = true) (hm : waits md l.toArray m i = true) (hm' : listed.getD m true = false)
    (hQ : ∀ c a w, Q (.panic c) (a.put oi.dst undef) w → Q (.panic c) a w) (hS : S w) (hw : Region.wanted oi (yielded l.toArray a.tmps) = false)
    (h : wpAnyL P md l.toArray Q m S fuel (listed.setIfInBounds i true) (a.put oi.dst undef) w) : wpAnyL P md l.toArray Q m S (fuel + 1) listed a w :=
  firstL (drop_at hi) (Region.noSelect_spec hs) hQ hm fuel listed a w (Region.free_spec (drop_at hi) hf) hm' (by simpa using hr) (.inr ⟨hw, rfl⟩) hS h
/-- Number i alone may come up, and is not the last: it is carried out, and S is shown behind it. -/
theorem callL (i : Nat) (hi : l.drop i = oi :: rest) (hr : Region.ready md l.toArray listed = [i]) (hw : Region.wanted oi (yielded l.toArray a.tmps) = true)
    (h : ∀ K' : Act → World → Prop, Shut (∀ a w, S w → (S w → wpAnyL P md l.toArray Q m S fuel (listed.setIfInBounds i true) a w) → K' a w) → Oper.wp P oi a w K' Q) : wpAnyL P md l.toArray Q m S (fuel + 1) listed a w := by
  refine ⟨fun h0 => absurd (hr ▸ h0) (by simp), fun j hj => ?_⟩
  rw [hr] at hj
  have : j = i := by simpa using hj
  subst this
  exact wpOp_step (drop_at hi) fun K' hK => by rw [if_pos hw]; exact h K' fun a w hS hW => hK a w ⟨fun _ => hS, hW hS⟩
/-- The last one. -/
theorem lastL (hi : l.drop m = oi :: rest) (hr : Region.ready md l.toArray listed = [m]) (hend : Region.ready md l.toArray (listed.setIfInBounds m true) = []) (hm : (listed.setIfInBounds m true).getD m true = true) (hw : Region.wanted oi (yielded l.toArray a.tmps) = true)
    (h : ∀ K' : Act → World → Prop, Shut (∀ a w, Q .normal a w → K' a w) → Oper.wp P oi a w K' Q) : wpAnyL P md l.toArray Q m S (fuel + 1) listed a w := by
  refine ⟨fun h0 => absurd (hr ▸ h0) (by simp), fun j hj => ?_⟩
  rw [hr] at hj
  have : j = m := by simpa using hj
  subst this
  refine wpOp_step (drop_at hi) fun K' hK => by
    rw [if_pos hw]
    refine h K' fun a w hq => hK a w ⟨fun e => absurd (hm.symm.trans e) (by simp), ?_⟩
    cases fuel with
    | zero => exact ⟨hend, hq⟩
    | succ f => exact ⟨fun _ => hq, by rw [hend]; simp⟩
theorem wp_region_L (m : Nat) (S : World → Prop) {id : Nat} {ops : Array Oper} {a : Act} {w : World} (hm : P.follows .mixedOrders = true) (hS : S w.drew)
    (h : S w.drew → wpAnyL P .any ops Q m S ops.size (Array.replicate ops.size false) a w.drew) : (Code.region id ops true).wp P Q a w :=
  wp_region_any hm (any_of_L _ _ _ _ (h hS))
end

end Go.Proofs.Ytfnhafgjdnlhiaa

/- The reference's execution of a transaction on a valid ledger, by a walk of its text; condition: the ledger is valid. -/
namespace Go.Proofs.Ytfnhafgjdnlhiaa
open Go.RowKit

/-- What executing a transaction answers. -/
def ApP (E : TypeId) (w : World) (l : List Int) (n : Int) (x : Tx) (e : Ending) (w' : World) : Prop := ∃ v, e = .returned (.tuple #[.agg #[v, .int .i64 (apF l n x)], .bool (okT l x)]) ∧ Own E w' w.heap.size v (apL l x) ∧ Below w.heap.size w w'
/-- While it is executed: l the argument, t the transaction, the answer, out with its own list c and fees m. -/
structure Apw (TL TX E : TypeId) (w : World) (a : Option Addr) (cap : Nat) (l : List Int) (n : Int) (x : Tx) (O g vc : Nat) (c : List Int) (m : Int) (W : World) : Prop where
  s1 : Str W w.heap.size TL #[.slice a l.length cap, .int .i64 n]
  s2 : Str W (w.heap.size + 1) TX #[.int .i64 x.f, .int .i64 x.t, .int .i64 x.s, .int .i64 x.e]
  s3 : Str W (w.heap.size + 2) TL #[.slice none 0 0, .int .i64 0]
  s4 : Str W O TL #[.slice (some ⟨g, 0, none⟩) l.length vc, .int .i64 m]
  own : Own E W (w.heap.size + 3) (.slice (some ⟨g, 0, none⟩) l.length vc) c
  len : c.length = l.length
  bel : Below w.heap.size w W
  dO : w.heap.size + 3 ≤ O
  dg : w.heap.size + 3 ≤ g ∧ g ≠ O
section
variable {TL TX E : TypeId} {w : World} {a : Option Addr} {cap : Nat} {l : List Int} {n : Int} {x : Tx} {O g vc : Nat} {c : List Int} {m : Int} {W W' : World}
theorem Apw.drew (h : Apw TL TX E w a cap l n x O g vc c m W) : Apw TL TX E w a cap l n x O g vc c m W.drew := ⟨h.s1, h.s2, h.s3, h.s4, h.own.drewN 1, h.len, h.bel.drew, h.dO, h.dg⟩
theorem Apw.below (h : Apw TL TX E w a cap l n x O g vc c m W) (hb : Below W.heap.size W W') : Apw TL TX E w a cap l n x O g vc c m W' :=
  ⟨(hb.block _ h.s1.lt).trans h.s1, (hb.block _ h.s2.lt).trans h.s2, (hb.block _ h.s3.lt).trans h.s3, (hb.block _ h.s4.lt).trans h.s4, h.own.below hb, h.len, below_step h.bel h.bel.size hb, h.dO, h.dg⟩
theorem Apw.store (h : Apw TL TX E w a cap l n x O g vc c m W) (k : Nat) (z : Int) : Apw TL TX E w a cap l n x O g vc (c.set k z) m (W.setCell ⟨g, k, none⟩ (.int .i64 z)) := by
  obtain ⟨d1, d2⟩ := h.dg
  have d3 := h.dO
  exact ⟨h.s1.other (by omega) _ _, h.s2.other (by omega) _ _, h.s3.other (by omega) _ _, h.s4.other (by omega) _ _, (h.own.store h.len.symm k z).1, by rw [List.length_set]; exact h.len, h.bel.setCell (p := ⟨g, k, none⟩) (by simp only; omega) _, h.dO, h.dg⟩
theorem Apw.fee (h : Apw TL TX E w a cap l n x O g vc c m W) (z : Int) : Apw TL TX E w a cap l n x O g vc c z (W.setCell ⟨O, 1, none⟩ (.int .i64 z)) := by
  obtain ⟨d1, d2⟩ := h.dg
  have d3 := h.dO
  exact ⟨h.s1.other (by omega) _ _, h.s2.other (by omega) _ _, h.s3.other (by omega) _ _, h.s4.set 1 _, h.own.set_other (by simp [Value.ownBlock]; exact d2) _ _, h.len, h.bel.setCell (p := ⟨O, 1, none⟩) (by simp only; omega) _, h.dO, h.dg⟩
theorem Apw.frozen (h : Apw TL TX E w a cap l n x O g vc c m W) (hl : 0 < l.length) (j : Nat) : W.frozen? ⟨g, j, none⟩ = false := by
  obtain ⟨g', cap', e, _, _, _, _, hf⟩ := h.own.row (by rw [h.len]; exact hl)
  simp only [Value.slice.injEq, Option.some.injEq, Addr.mk.injEq, and_true] at e
  rw [e.1]; exact hf j
theorem Apw.at (h : Apw TL TX E w a cap l n x O g vc c m W) (hl : 0 < l.length) {j : Nat} (hj : j < c.length) : W.cell? ⟨g, j, none⟩ = some (.int .i64 c[j]) := by
  obtain ⟨g', cap', e, _, _, _, hc, _⟩ := h.own.row (by rw [h.len]; exact hl)
  simp only [Value.slice.injEq, Option.some.injEq, Addr.mk.injEq, and_true] at e
  rw [e.1]; exact hc j hj
/-- The answer is set. -/
theorem Apw.fin (h : Apw TL TX E w a cap l n x O g vc c m W) : Str ((W.setCell ⟨w.heap.size + 2, 0, none⟩ (.slice (some ⟨g, 0, none⟩) l.length vc)).setCell ⟨w.heap.size + 2, 1, none⟩ (.int .i64 m)) (w.heap.size + 2) TL #[.slice (some ⟨g, 0, none⟩) l.length vc, .int .i64 m] ∧
    Own E ((W.setCell ⟨w.heap.size + 2, 0, none⟩ (.slice (some ⟨g, 0, none⟩) l.length vc)).setCell ⟨w.heap.size + 2, 1, none⟩ (.int .i64 m)) w.heap.size (.slice (some ⟨g, 0, none⟩) l.length vc) c ∧
    Below w.heap.size w ((W.setCell ⟨w.heap.size + 2, 0, none⟩ (.slice (some ⟨g, 0, none⟩) l.length vc)).setCell ⟨w.heap.size + 2, 1, none⟩ (.int .i64 m)) := by
  obtain ⟨d1, d2⟩ := h.dg
  have hne : (Value.slice (some ⟨g, 0, none⟩) l.length vc).ownBlock ≠ some (w.heap.size + 2) := by simp [Value.ownBlock]; omega
  exact ⟨(h.s3.set 0 _).set 1 _, ((h.own.set_other hne _ _).set_other hne _ _).mono (by omega), (h.bel.setCell (p := ⟨w.heap.size + 2, 0, none⟩) (by simp only; omega) _).setCell (p := ⟨w.heap.size + 2, 1, none⟩) (by simp only; omega) _⟩
end
set_option maxHeartbeats 4000000 in
theorem spec_l31Apply (a : Option Addr) (cap : Nat) (l : List Int) (n : Int) (x : Tx) (w : World) (hv : ldB l n = true) (hi : IntsAt w a l) (hsrc : SrcAt w a cap l) :
    Calls Try.prog 55 #[.agg #[.slice a l.length cap, .int .i64 n], agT x] w (ApP 3 w l n x) := by
  have hpost : ∀ (e : Ending) (w' : World) (v : Value) (c : List Int) (m : Int) (b : Bool), e = .returned (.tuple #[.agg #[v, .int .i64 m], .bool b]) → Own 3 w' w.heap.size v c → Below w.heap.size w w' → c = apL l x → m = apF l n x → b = okT l x → ApP 3 w l n x e w' := by
    rintro e w' v c m b rfl ho hb rfl rfl rfl
    exact ⟨v, rfl, ho, hb⟩
  have Hpost := Lib.hid hpost; clear hpost
  generalize ApP 3 w l n x = POST at *
  obtain ⟨hv1, hv2, hv3, hv4⟩ := ldB_iff.1 hv
  have h6 : 0 < l.length := by omega
  obtain ⟨b, off, rfl, hbw, hc⟩ : ∃ b off, a = some ⟨b, off, none⟩ ∧ b < w.heap.size ∧ ∀ j (h : j < l.length), w.cell? ⟨b, off + j, none⟩ = some (.int .i64 l[j]) := hi.cell h6
  have hb0 : Below w.heap.size w (((w.alloc (.cells #[.slice (some ⟨b, off, none⟩) l.length cap, .int .i64 n] 25)).alloc (.cells #[.int .i64 x.f, .int .i64 x.t, .int .i64 x.s, .int .i64 x.e] 41)).alloc (.cells #[.slice none 0 0, .int .i64 0] 25)) := (((Below.refl _ _).alloc (Nat.le_refl _) _).alloc (by simp only [World.size_alloc]; omega) _).alloc (by simp only [World.size_alloc]; omega) _
  have s1 := ((Str.new w 25 #[.slice (some ⟨b, off, none⟩) l.length cap, .int .i64 n]).alloc (.cells #[.int .i64 x.f, .int .i64 x.t, .int .i64 x.s, .int .i64 x.e] 41)).alloc (.cells #[.slice none 0 0, .int .i64 0] 25)
  have s2 := (Str.new (w.alloc (.cells #[.slice (some ⟨b, off, none⟩) l.length cap, .int .i64 n] 25)) 41 #[.int .i64 x.f, .int .i64 x.t, .int .i64 x.s, .int .i64 x.e]).alloc (.cells #[.slice none 0 0, .int .i64 0] 25)
  have s3 := Str.new ((w.alloc (.cells #[.slice (some ⟨b, off, none⟩) l.length cap, .int .i64 n] 25)).alloc (.cells #[.int .i64 x.f, .int .i64 x.t, .int .i64 x.s, .int .i64 x.e] 41)) 25 #[.slice none 0 0, .int .i64 0]
  simp only [World.size_alloc] at s2 s3
  have hi0 := hi.below hb0
  have hsrc0 := hsrc.lies hi hb0
  have hz : (((w.alloc (.cells #[.slice (some ⟨b, off, none⟩) l.length cap, .int .i64 n] 25)).alloc (.cells #[.int .i64 x.f, .int .i64 x.t, .int .i64 x.s, .int .i64 x.e] 41)).alloc (.cells #[.slice none 0 0, .int .i64 0] 25)).heap.size = w.heap.size + 3 := by simp
  have S1 := Lib.hid s1; have S2 := Lib.hid s2; have S3 := Lib.hid s3; have Hi := Lib.hid hi0; have Hsrc := Lib.hid hsrc0; have Hb := Lib.hid hb0; have Hc := Lib.hid hc; have Hv1 := Lib.hid hv1; have Hv2 := Lib.hid hv2; have Hv := Lib.hid hv; clear s1 s2 s3 hi0 hsrc0 hb0 hi hsrc hc hv1 hv2 hv
  have hv6 : l.length ≤ 1048576 := by have := Hv2.out; omega
  unfold agT
  go_enter Try.func55, Try.ntmps55
  have k0 := S1.out.cell 0 (v := .slice (some ⟨b, off, none⟩) l.length cap) rfl
  have k1 := S1.out.cell 1 (v := .int .i64 n) rfl
  go_wp2_with fail
  generalize (((w.alloc (.cells #[.slice (some ⟨b, off, none⟩) l.length cap, .int .i64 n] 25)).alloc (.cells #[.int .i64 x.f, .int .i64 x.t, .int .i64 x.s, .int .i64 x.e] 41)).alloc (.cells #[.slice none 0 0, .int .i64 0] 25)) = W0 at *
  clear k0 k1
  refine (spec_l31Copy (some ⟨b, off, none⟩) cap l n W0 hv6 Hi.out Hsrc.out).mono ?_
  rintro e w1 ⟨v, rfl, ho, hb1⟩
  obtain ⟨g, vc, rfl, hg1, hg2, hvc, _, _⟩ := ho.row h6
  have HA := Lib.hid (show Apw 25 41 3 w (some ⟨b, off, none⟩) cap l n x w1.heap.size g vc l n (w1.alloc (.cells #[.slice (some ⟨g, 0, none⟩) l.length vc, .int .i64 n] 25)) from ⟨Str.alloc ((hb1.block _ S1.out.lt).trans S1.out) _, Str.alloc ((hb1.block _ S2.out.lt).trans S2.out) _, Str.alloc ((hb1.block _ S3.out.lt).trans S3.out) _, Str.new _ _ _, (ho.mono (by omega)).alloc _, rfl, below_step (below_step Hb.out Hb.out.size hb1) (by have := Hb.out.size; have := hb1.size; omega) ((Below.refl _ _).alloc (Nat.le_refl _) _), by have := hb1.size; omega, by omega, by omega⟩)
  obtain ⟨O, hO⟩ : ∃ O, O = w1.heap.size := ⟨_, rfl⟩
  rw [← hO] at HA
  have hzO : (w1.alloc (.cells #[.slice (some ⟨g, 0, none⟩) l.length vc, .int .i64 n] 25)).heap.size = O + 1 := by rw [hO]; simp
  clear ho hb1 S1 S2 S3 Hi Hsrc Hb
  have HV := Lib.hid (fun W => spec_TxnValid x W)
  unfold agT at HV
  have x0 := HA.out.s2.cell 0 (v := .int .i64 x.f) rfl
  have x1 := HA.out.s2.cell 1 (v := .int .i64 x.t) rfl
  have x2 := HA.out.s2.cell 2 (v := .int .i64 x.s) rfl
  have x3 := HA.out.s2.cell 3 (v := .int .i64 x.e) rfl
  go_wp2_with fail
  generalize (w1.alloc (.cells #[.slice (some ⟨g, 0, none⟩) l.length vc, .int .i64 n] 25)) = W4 at *
  try rw [← hO]
  clear hO
  clear x0 x1 x2 x3
  have hbt : txB x = true ∨ txB x = false := by cases txB x <;> simp
  rcases hbt with hbt | hbt
  case inr =>
    have hV := HV.out
    rw [hbt] at hV
    have HV := Lib.hid hV; clear hV
    have Hbt := Lib.hid hbt; clear hbt
    refine wp_region_held_drew (S := fun w' => w'.cell? ⟨w.heap.size + 1, 0, none⟩ = some (.int .i64 x.f) ∧ w'.cell? ⟨w.heap.size + 1, 1, none⟩ = some (.int .i64 x.t) ∧ w'.cell? ⟨w.heap.size + 1, 2, none⟩ = some (.int .i64 x.s) ∧ w'.cell? ⟨w.heap.size + 1, 3, none⟩ = some (.int .i64 x.e)) (by kernel_rfl) ⟨HA.out.s2.cell 0 (v := .int .i64 x.f) rfl, HA.out.s2.cell 1 (v := .int .i64 x.t) rfl, HA.out.s2.cell 2 (v := .int .i64 x.s) rfl, HA.out.s2.cell 3 (v := .int .i64 x.e) rfl⟩ (fun hH => ?_)
    have HA := Lib.hid HA.out.drew
    generalize W4.drew = wd at *
    refine takeH 0 (v := ?vla1) rfl (by kernel_rfl) (by kernel_rfl) (by kernel_rfl) (fun _ _ _ h => h) hH rfl ?yla1 ?rla1
    case yla1 => intro W hSw; go_simp; try with_reducible rfl
    try simp only [Act.put, List.setIfInBounds_toArray, List.set_cons_zero, List.set_cons_succ]
    refine callH 1 rfl (by kernel_rfl) rfl (fun K hK => ?_)
    go_simp
    refine (HV.out _).mono ?_
    rintro e w5 ⟨rfl, hb⟩
    have HA := Lib.hid (HA.out.below hb)
    clear hb
    refine hK.out _ _ ⟨HA.out.s2.cell 0 (v := .int .i64 x.f) rfl, HA.out.s2.cell 1 (v := .int .i64 x.t) rfl, HA.out.s2.cell 2 (v := .int .i64 x.s) rfl, HA.out.s2.cell 3 (v := .int .i64 x.e) rfl⟩ (fun hH => ?_)
    clear hK K
    try simp only [Act.put, List.setIfInBounds_toArray, List.set_cons_zero, List.set_cons_succ]
    refine takeH 2 (v := ?vla2) rfl (by kernel_rfl) (by kernel_rfl) (by kernel_rfl) (fun _ _ _ h => h) hH rfl ?yla2 ?rla2
    case yla2 => intro W hSw; go_simp; try with_reducible rfl
    try simp only [Act.put, List.setIfInBounds_toArray, List.set_cons_zero, List.set_cons_succ]
    refine takeH 3 (v := ?vla3) rfl (by kernel_rfl) (by kernel_rfl) (by kernel_rfl) (fun _ _ _ h => h) hH rfl ?yla3 ?rla3
    case yla3 => intro W hSw; go_simp; try with_reducible rfl
    try simp only [Act.put, List.setIfInBounds_toArray, List.set_cons_zero, List.set_cons_succ]
    refine skipH 4 rfl (by kernel_rfl) (by kernel_rfl) (by kernel_rfl) (fun _ _ _ h => h) hH rfl ?_
    try simp only [Act.put, List.setIfInBounds_toArray, List.set_cons_zero, List.set_cons_succ]
    refine skipH 5 rfl (by kernel_rfl) (by kernel_rfl) (by kernel_rfl) (fun _ _ _ h => h) hH rfl ?_
    try simp only [Act.put, List.setIfInBounds_toArray, List.set_cons_zero, List.set_cons_succ]
    refine skipH 6 rfl (by kernel_rfl) (by kernel_rfl) (by kernel_rfl) (fun _ _ _ h => h) hH rfl ?_
    try simp only [Act.put, List.setIfInBounds_toArray, List.set_cons_zero, List.set_cons_succ]
    refine skipH 7 rfl (by kernel_rfl) (by kernel_rfl) (by kernel_rfl) (fun _ _ _ h => h) hH rfl ?_
    try simp only [Act.put, List.setIfInBounds_toArray, List.set_cons_zero, List.set_cons_succ]
    refine skipH 8 rfl (by kernel_rfl) (by kernel_rfl) (by kernel_rfl) (fun _ _ _ h => h) hH rfl ?_
    try simp only [Act.put, List.setIfInBounds_toArray, List.set_cons_zero, List.set_cons_succ]
    refine skipH 9 rfl (by kernel_rfl) (by kernel_rfl) (by kernel_rfl) (fun _ _ _ h => h) hH rfl ?_
    try simp only [Act.put, List.setIfInBounds_toArray, List.set_cons_zero, List.set_cons_succ]
    refine skipH 10 rfl (by kernel_rfl) (by kernel_rfl) (by kernel_rfl) (fun _ _ _ h => h) hH rfl ?_
    try simp only [Act.put, List.setIfInBounds_toArray, List.set_cons_zero, List.set_cons_succ]
    refine skipH 11 rfl (by kernel_rfl) (by kernel_rfl) (by kernel_rfl) (fun _ _ _ h => h) hH rfl ?_
    try simp only [Act.put, List.setIfInBounds_toArray, List.set_cons_zero, List.set_cons_succ]
    refine skipH 12 rfl (by kernel_rfl) (by kernel_rfl) (by kernel_rfl) (fun _ _ _ h => h) hH rfl ?_
    try simp only [Act.put, List.setIfInBounds_toArray, List.set_cons_zero, List.set_cons_succ]
    refine skipH 13 rfl (by kernel_rfl) (by kernel_rfl) (by kernel_rfl) (fun _ _ _ h => h) hH rfl ?_
    try simp only [Act.put, List.setIfInBounds_toArray, List.set_cons_zero, List.set_cons_succ]
    refine skipH 14 rfl (by kernel_rfl) (by kernel_rfl) (by kernel_rfl) (fun _ _ _ h => h) hH rfl ?_
    try simp only [Act.put, List.setIfInBounds_toArray, List.set_cons_zero, List.set_cons_succ]
    refine skipH 15 rfl (by kernel_rfl) (by kernel_rfl) (by kernel_rfl) (fun _ _ _ h => h) hH rfl ?_
    try simp only [Act.put, List.setIfInBounds_toArray, List.set_cons_zero, List.set_cons_succ]
    refine takeH 16 (v := ?vla4) rfl (by kernel_rfl) (by kernel_rfl) (by kernel_rfl) (fun _ _ _ h => h) hH rfl ?yla4 ?rla4
    case yla4 => intro W hSw; go_simp; try with_reducible rfl
    try simp only [Act.put, List.setIfInBounds_toArray, List.set_cons_zero, List.set_cons_succ]
    refine takeH 17 (v := ?vla5) rfl (by kernel_rfl) (by kernel_rfl) (by kernel_rfl) (fun _ _ _ h => h) hH rfl ?yla5 ?rla5
    case yla5 => intro W hSw; go_simp; try with_reducible rfl
    try simp only [Act.put, List.setIfInBounds_toArray, List.set_cons_zero, List.set_cons_succ]
    refine skipH 18 rfl (by kernel_rfl) (by kernel_rfl) (by kernel_rfl) (fun _ _ _ h => h) hH rfl ?_
    try simp only [Act.put, List.setIfInBounds_toArray, List.set_cons_zero, List.set_cons_succ]
    refine skipH 19 rfl (by kernel_rfl) (by kernel_rfl) (by kernel_rfl) (fun _ _ _ h => h) hH rfl ?_
    try simp only [Act.put, List.setIfInBounds_toArray, List.set_cons_zero, List.set_cons_succ]
    refine skipH 20 rfl (by kernel_rfl) (by kernel_rfl) (by kernel_rfl) (fun _ _ _ h => h) hH rfl ?_
    try simp only [Act.put, List.setIfInBounds_toArray, List.set_cons_zero, List.set_cons_succ]
    refine skipH 21 rfl (by kernel_rfl) (by kernel_rfl) (by kernel_rfl) (fun _ _ _ h => h) hH rfl ?_
    try simp only [Act.put, List.setIfInBounds_toArray, List.set_cons_zero, List.set_cons_succ]
    refine skipH 22 rfl (by kernel_rfl) (by kernel_rfl) (by kernel_rfl) (fun _ _ _ h => h) hH rfl ?_
    try simp only [Act.put, List.setIfInBounds_toArray, List.set_cons_zero, List.set_cons_succ]
    refine skipH 23 rfl (by kernel_rfl) (by kernel_rfl) (by kernel_rfl) (fun _ _ _ h => h) hH rfl ?_
    try simp only [Act.put, List.setIfInBounds_toArray, List.set_cons_zero, List.set_cons_succ]
    refine skipH 24 rfl (by kernel_rfl) (by kernel_rfl) (by kernel_rfl) (fun _ _ _ h => h) hH rfl ?_
    try simp only [Act.put, List.setIfInBounds_toArray, List.set_cons_zero, List.set_cons_succ]
    refine skipH 25 rfl (by kernel_rfl) (by kernel_rfl) (by kernel_rfl) (fun _ _ _ h => h) hH rfl ?_
    try simp only [Act.put, List.setIfInBounds_toArray, List.set_cons_zero, List.set_cons_succ]
    refine skipH 26 rfl (by kernel_rfl) (by kernel_rfl) (by kernel_rfl) (fun _ _ _ h => h) hH rfl ?_
    try simp only [Act.put, List.setIfInBounds_toArray, List.set_cons_zero, List.set_cons_succ]
    refine skipH 27 rfl (by kernel_rfl) (by kernel_rfl) (by kernel_rfl) (fun _ _ _ h => h) hH rfl ?_
    try simp only [Act.put, List.setIfInBounds_toArray, List.set_cons_zero, List.set_cons_succ]
    refine takeH 28 (v := ?vla6) rfl (by kernel_rfl) (by kernel_rfl) (by kernel_rfl) (fun _ _ _ h => h) hH rfl ?yla6 ?rla6
    case yla6 => intro W hSw; go_simp; try with_reducible rfl
    try simp only [Act.put, List.setIfInBounds_toArray, List.set_cons_zero, List.set_cons_succ]
    refine wpAnyH_done (by kernel_rfl) ?_ _
    try simp only [Act.put]
    clear hH
    have hok : okT l x = false := by unfold okT; rw [Hbt.out]; rfl
    have Hok := Lib.hid hok; clear hok
    have sF := HA.out.fin
    obtain ⟨sf, oF, bF⟩ := sF
    have y0 := HA.out.s3.frozen 0
    have y1 := HA.out.s3.frozen 1
    have q0 := HA.out.s3.cell 0 (v := .slice none 0 0) rfl
    have q1 := HA.out.s3.cell 1 (v := .int .i64 0) rfl
    have o0 := HA.out.s4.cell 0 (v := .slice (some ⟨g, 0, none⟩) l.length vc) rfl
    have o1 := HA.out.s4.cell 1 (v := .int .i64 (n)) rfl
    have e0 := sf.cell 0 (v := .slice (some ⟨g, 0, none⟩) l.length vc) rfl
    have e1 := sf.cell 1 (v := .int .i64 (n)) rfl
    have OF := Lib.hid oF; have BF := Lib.hid bF; clear oF bF sf
    go_wp2
    skip
    refine bodyPost_ret (v := .tuple #[.agg #[.slice (some ⟨g, 0, none⟩) l.length vc, .int .i64 (n)], .bool false]) (by simp [results, Try.f55, go_sem, e0, e1]) rfl ?_
    exact Hpost.out _ _ _ _ _ _ rfl OF.out BF.out (ap_no (n := n) Hok.out).1.symm (ap_no (l := l) Hok.out).2.symm Hok.out.symm
  have hV := HV.out
  rw [hbt] at hV
  have HV := Lib.hid hV; clear hV
  obtain ⟨hx1, hx2, hx3, hx4, hx5⟩ := txB_iff.1 hbt
  obtain ⟨f, t, s, ee⟩ := x
  dsimp only at *
  obtain ⟨i, rfl⟩ : ∃ i : Nat, f = i := ⟨f.toNat, by omega⟩
  obtain ⟨j, rfl⟩ : ∃ j : Nat, t = j := ⟨t.toNat, by omega⟩
  have hl6 := Hv2.out
  have hil : i < l.length := by omega
  have hjl : j < l.length := by omega
  have hij : i ≠ j := by omega
  clear hl6
  obtain ⟨bi, hbi⟩ : ∃ z, z = l[i] := ⟨_, rfl⟩
  obtain ⟨bj, hbj⟩ : ∃ z, z = l[j] := ⟨_, rfl⟩
  have hr1 := Hv1.out _ (List.getElem_mem hil)
  have hr2 := Hv1.out _ (List.getElem_mem hjl)
  rw [← hbi] at hr1
  rw [← hbj] at hr2
  have HCI := Lib.hid (show ∀ W, Below w.heap.size w W → W.cell? ⟨b, off + i, none⟩ = some (.int .i64 bi) from fun W hb => by rw [hbi]; exact (hb.cell (p := ⟨b, off + i, none⟩) hbw).trans (Hc.out i hil))
  have HCJ := Lib.hid (show ∀ W, Below w.heap.size w W → W.cell? ⟨b, off + j, none⟩ = some (.int .i64 bj) from fun W hb => by rw [hbj]; exact (hb.cell (p := ⟨b, off + j, none⟩) hbw).trans (Hc.out j hjl))
  have HX := Lib.hid (show okT l ⟨i, j, s, ee⟩ = (decide (s + ee ≤ bi) && decide (bj + s ≤ 999)) from by unfold okT; rw [hbt, bal_at (by simpa using hil), bal_at (by simpa using hjl), hbi, hbj]; rfl)
  have HY := Lib.hid (show okT l ⟨i, j, s, ee⟩ = true → (l.set i (bi - s - ee)).set j (bj + s) = apL l ⟨i, j, s, ee⟩ from fun h => by rw [(ap_yes (n := n) h).1, bal_at (by simpa using hil), bal_at (by simpa using hjl), hbi, hbj]; simp only [Int.toNat_natCast])
  clear hbi hbj
  have w1' : IntKind.i64.wrap (s + ee) = s + ee := IntWalk.i64_in _ (by omega)
  have w2' : IntKind.i64.wrap (bj + s) = bj + s := IntWalk.i64_in _ (by omega)
  have w3' : IntKind.i64.wrap (bi - s) = bi - s := IntWalk.i64_in _ (by omega)
  have w4' : IntKind.i64.wrap (bi - s - ee) = bi - s - ee := IntWalk.i64_in _ (by omega)
  have w5' : IntKind.i64.wrap (n + ee) = n + ee := IntWalk.i64_in _ (by omega)
  have Hbt := Lib.hid hbt; have Hx3 := Lib.hid hx3; clear hbt hx3
  refine wp_region_held_drew (S := fun w' => w'.cell? ⟨w.heap.size + 1, 0, none⟩ = some (.int .i64 i) ∧ w'.cell? ⟨w.heap.size + 1, 1, none⟩ = some (.int .i64 j) ∧ w'.cell? ⟨w.heap.size + 1, 2, none⟩ = some (.int .i64 s) ∧ w'.cell? ⟨w.heap.size + 1, 3, none⟩ = some (.int .i64 ee) ∧ w'.cell? ⟨w.heap.size, 0, none⟩ = some (.slice (some ⟨b, off, none⟩) l.length cap) ∧ w'.cell? ⟨b, off + i, none⟩ = some (.int .i64 bi) ∧ w'.cell? ⟨b, off + j, none⟩ = some (.int .i64 bj)) (by kernel_rfl) ⟨HA.out.s2.cell 0 (v := .int .i64 i) rfl, HA.out.s2.cell 1 (v := .int .i64 j) rfl, HA.out.s2.cell 2 (v := .int .i64 s) rfl, HA.out.s2.cell 3 (v := .int .i64 ee) rfl, HA.out.s1.cell 0 (v := .slice (some ⟨b, off, none⟩) l.length cap) rfl, HCI.out _ HA.out.bel.drew, HCJ.out _ HA.out.bel.drew⟩ (fun hH => ?_)
  have HA := Lib.hid HA.out.drew
  generalize W4.drew = wd at *
  refine takeH 0 (v := ?vla7) rfl (by kernel_rfl) (by kernel_rfl) (by kernel_rfl) (fun _ _ _ h => h) hH rfl ?yla7 ?rla7
  case yla7 => intro W hSw; go_simp; try with_reducible rfl
  try simp only [Act.put, List.setIfInBounds_toArray, List.set_cons_zero, List.set_cons_succ]
  refine callH 1 rfl (by kernel_rfl) rfl (fun K hK => ?_)
  go_simp
  refine (HV.out _).mono ?_
  rintro e w5 ⟨rfl, hb⟩
  have HA := Lib.hid (HA.out.below hb)
  clear hb
  refine hK.out _ _ ⟨HA.out.s2.cell 0 (v := .int .i64 i) rfl, HA.out.s2.cell 1 (v := .int .i64 j) rfl, HA.out.s2.cell 2 (v := .int .i64 s) rfl, HA.out.s2.cell 3 (v := .int .i64 ee) rfl, HA.out.s1.cell 0 (v := .slice (some ⟨b, off, none⟩) l.length cap) rfl, HCI.out _ HA.out.bel, HCJ.out _ HA.out.bel⟩ (fun hH => ?_)
  clear hK K
  try simp only [Act.put, List.setIfInBounds_toArray, List.set_cons_zero, List.set_cons_succ]
  refine takeH 2 (v := ?vla8) rfl (by kernel_rfl) (by kernel_rfl) (by kernel_rfl) (fun _ _ _ h => h) hH rfl ?yla8 ?rla8
  case yla8 => intro W hSw; go_simp; try with_reducible rfl
  try simp only [Act.put, List.setIfInBounds_toArray, List.set_cons_zero, List.set_cons_succ]
  refine takeH 3 (v := ?vla9) rfl (by kernel_rfl) (by kernel_rfl) (by kernel_rfl) (fun _ _ _ h => h) hH rfl ?yla9 ?rla9
  case yla9 => intro W hSw; go_simp; try with_reducible rfl
  try simp only [Act.put, List.setIfInBounds_toArray, List.set_cons_zero, List.set_cons_succ]
  refine takeH 4 (v := ?vla10) rfl (by kernel_rfl) (by kernel_rfl) (by kernel_rfl) (fun _ _ _ h => h) hH rfl ?yla10 ?rla10
  case yla10 => intro W hSw; go_simp; try with_reducible rfl
  try simp only [Act.put, List.setIfInBounds_toArray, List.set_cons_zero, List.set_cons_succ]
  refine takeH 5 (v := ?vla11) rfl (by kernel_rfl) (by kernel_rfl) (by kernel_rfl) (fun _ _ _ h => h) hH rfl ?yla11 ?rla11
  case yla11 => intro W hSw; go_simp; try with_reducible rfl
  try simp only [Act.put, List.setIfInBounds_toArray, List.set_cons_zero, List.set_cons_succ]
  refine takeH 6 (v := ?vla12) rfl (by kernel_rfl) (by kernel_rfl) (by kernel_rfl) (fun _ _ _ h => h) hH rfl ?yla12 ?rla12
  case yla12 => intro W hSw; go_simp; try with_reducible rfl
  try simp only [Act.put, List.setIfInBounds_toArray, List.set_cons_zero, List.set_cons_succ]
  refine takeH 7 (v := ?vla13) rfl (by kernel_rfl) (by kernel_rfl) (by kernel_rfl) (fun _ _ _ h => h) hH rfl ?yla13 ?rla13
  case yla13 => intro W hSw; go_simp; try with_reducible rfl
  try simp only [Act.put, List.setIfInBounds_toArray, List.set_cons_zero, List.set_cons_succ]
  refine takeH 8 (v := ?vla14) rfl (by kernel_rfl) (by kernel_rfl) (by kernel_rfl) (fun _ _ _ h => h) hH rfl ?yla14 ?rla14
  case yla14 => intro W hSw; go_simp; try with_reducible rfl
  try simp only [Act.put, List.setIfInBounds_toArray, List.set_cons_zero, List.set_cons_succ]
  refine takeH 9 (v := ?vla15) rfl (by kernel_rfl) (by kernel_rfl) (by kernel_rfl) (fun _ _ _ h => h) hH rfl ?yla15 ?rla15
  case yla15 => intro W hSw; go_simp; try with_reducible rfl
  try simp only [Act.put, List.setIfInBounds_toArray, List.set_cons_zero, List.set_cons_succ]
  refine takeH 10 (v := ?vla16) rfl (by kernel_rfl) (by kernel_rfl) (by kernel_rfl) (fun _ _ _ h => h) hH rfl ?yla16 ?rla16
  case yla16 => intro W hSw; go_simp; try with_reducible rfl
  try simp only [Act.put, List.setIfInBounds_toArray, List.set_cons_zero, List.set_cons_succ]
  refine takeH 11 (v := ?vla17) rfl (by kernel_rfl) (by kernel_rfl) (by kernel_rfl) (fun _ _ _ h => h) hH rfl ?yla17 ?rla17
  case yla17 => intro W hSw; go_simp; try with_reducible rfl
  try simp only [Act.put, List.setIfInBounds_toArray, List.set_cons_zero, List.set_cons_succ]
  refine takeH 12 (v := ?vla18) rfl (by kernel_rfl) (by kernel_rfl) (by kernel_rfl) (fun _ _ _ h => h) hH rfl ?yla18 ?rla18
  case yla18 => intro W hSw; go_simp; try with_reducible rfl
  try simp only [Act.put, List.setIfInBounds_toArray, List.set_cons_zero, List.set_cons_succ]
  refine takeH 13 (v := ?vla19) rfl (by kernel_rfl) (by kernel_rfl) (by kernel_rfl) (fun _ _ _ h => h) hH rfl ?yla19 ?rla19
  case yla19 => intro W hSw; go_simp; try with_reducible rfl
  try simp only [Act.put, List.setIfInBounds_toArray, List.set_cons_zero, List.set_cons_succ]
  refine takeH 14 (v := .int .i64 (s + ee)) rfl (by kernel_rfl) (by kernel_rfl) (by kernel_rfl) (fun _ _ _ h => h) hH rfl ?yla20 ?rla20
  case yla20 => intro W hSw; go_simp; first | done | (simp [w1'])
  try simp only [Act.put, List.setIfInBounds_toArray, List.set_cons_zero, List.set_cons_succ]
  refine takeH 15 (v := ?vla21) rfl (by kernel_rfl) (by kernel_rfl) (by kernel_rfl) (fun _ _ _ h => h) hH rfl ?yla21 ?rla21
  case yla21 => intro W hSw; go_simp; try with_reducible rfl
  try simp only [Act.put, List.setIfInBounds_toArray, List.set_cons_zero, List.set_cons_succ]
  by_cases hlow : bi < s + ee
  case pos =>
    have d1 : decide (bi < s + ee) = true := decide_eq_true (by omega)
    rw [d1]
    refine takeH 16 (v := ?vla22) rfl (by kernel_rfl) (by kernel_rfl) (by kernel_rfl) (fun _ _ _ h => h) hH rfl ?yla22 ?rla22
    case yla22 => intro W hSw; go_simp; try with_reducible rfl
    try simp only [Act.put, List.setIfInBounds_toArray, List.set_cons_zero, List.set_cons_succ]
    refine takeH 17 (v := ?vla23) rfl (by kernel_rfl) (by kernel_rfl) (by kernel_rfl) (fun _ _ _ h => h) hH rfl ?yla23 ?rla23
    case yla23 => intro W hSw; go_simp; try with_reducible rfl
    try simp only [Act.put, List.setIfInBounds_toArray, List.set_cons_zero, List.set_cons_succ]
    refine skipH 18 rfl (by kernel_rfl) (by kernel_rfl) (by kernel_rfl) (fun _ _ _ h => h) hH rfl ?_
    try simp only [Act.put, List.setIfInBounds_toArray, List.set_cons_zero, List.set_cons_succ]
    refine skipH 19 rfl (by kernel_rfl) (by kernel_rfl) (by kernel_rfl) (fun _ _ _ h => h) hH rfl ?_
    try simp only [Act.put, List.setIfInBounds_toArray, List.set_cons_zero, List.set_cons_succ]
    refine skipH 20 rfl (by kernel_rfl) (by kernel_rfl) (by kernel_rfl) (fun _ _ _ h => h) hH rfl ?_
    try simp only [Act.put, List.setIfInBounds_toArray, List.set_cons_zero, List.set_cons_succ]
    refine skipH 21 rfl (by kernel_rfl) (by kernel_rfl) (by kernel_rfl) (fun _ _ _ h => h) hH rfl ?_
    try simp only [Act.put, List.setIfInBounds_toArray, List.set_cons_zero, List.set_cons_succ]
    refine skipH 22 rfl (by kernel_rfl) (by kernel_rfl) (by kernel_rfl) (fun _ _ _ h => h) hH rfl ?_
    try simp only [Act.put, List.setIfInBounds_toArray, List.set_cons_zero, List.set_cons_succ]
    refine skipH 23 rfl (by kernel_rfl) (by kernel_rfl) (by kernel_rfl) (fun _ _ _ h => h) hH rfl ?_
    try simp only [Act.put, List.setIfInBounds_toArray, List.set_cons_zero, List.set_cons_succ]
    refine skipH 24 rfl (by kernel_rfl) (by kernel_rfl) (by kernel_rfl) (fun _ _ _ h => h) hH rfl ?_
    try simp only [Act.put, List.setIfInBounds_toArray, List.set_cons_zero, List.set_cons_succ]
    refine skipH 25 rfl (by kernel_rfl) (by kernel_rfl) (by kernel_rfl) (fun _ _ _ h => h) hH rfl ?_
    try simp only [Act.put, List.setIfInBounds_toArray, List.set_cons_zero, List.set_cons_succ]
    refine skipH 26 rfl (by kernel_rfl) (by kernel_rfl) (by kernel_rfl) (fun _ _ _ h => h) hH rfl ?_
    try simp only [Act.put, List.setIfInBounds_toArray, List.set_cons_zero, List.set_cons_succ]
    refine skipH 27 rfl (by kernel_rfl) (by kernel_rfl) (by kernel_rfl) (fun _ _ _ h => h) hH rfl ?_
    try simp only [Act.put, List.setIfInBounds_toArray, List.set_cons_zero, List.set_cons_succ]
    refine takeH 28 (v := ?vla24) rfl (by kernel_rfl) (by kernel_rfl) (by kernel_rfl) (fun _ _ _ h => h) hH rfl ?yla24 ?rla24
    case yla24 => intro W hSw; go_simp; try with_reducible rfl
    try simp only [Act.put, List.setIfInBounds_toArray, List.set_cons_zero, List.set_cons_succ]
    refine wpAnyH_done (by kernel_rfl) ?_ _
    try simp only [Act.put]
    clear hH d1
    have hok : okT l ⟨i, j, s, ee⟩ = false := by rw [HX.out, decide_eq_false (by omega)]; rfl
    have Hok := Lib.hid hok; clear hok
    have sF := HA.out.fin
    obtain ⟨sf, oF, bF⟩ := sF
    have y0 := HA.out.s3.frozen 0
    have y1 := HA.out.s3.frozen 1
    have q0 := HA.out.s3.cell 0 (v := .slice none 0 0) rfl
    have q1 := HA.out.s3.cell 1 (v := .int .i64 0) rfl
    have o0 := HA.out.s4.cell 0 (v := .slice (some ⟨g, 0, none⟩) l.length vc) rfl
    have o1 := HA.out.s4.cell 1 (v := .int .i64 (n)) rfl
    have e0 := sf.cell 0 (v := .slice (some ⟨g, 0, none⟩) l.length vc) rfl
    have e1 := sf.cell 1 (v := .int .i64 (n)) rfl
    have OF := Lib.hid oF; have BF := Lib.hid bF; clear oF bF sf
    go_wp2
    skip
    refine bodyPost_ret (v := .tuple #[.agg #[.slice (some ⟨g, 0, none⟩) l.length vc, .int .i64 (n)], .bool false]) (by simp [results, Try.f55, go_sem, e0, e1]) rfl ?_
    exact Hpost.out _ _ _ _ _ _ rfl OF.out BF.out (ap_no (n := n) Hok.out).1.symm (ap_no (l := l) Hok.out).2.symm Hok.out.symm
  have d1 : decide (bi < s + ee) = false := decide_eq_false (by omega)
  rw [d1]
  refine takeH 16 (v := ?vla25) rfl (by kernel_rfl) (by kernel_rfl) (by kernel_rfl) (fun _ _ _ h => h) hH rfl ?yla25 ?rla25
  case yla25 => intro W hSw; go_simp; try with_reducible rfl
  try simp only [Act.put, List.setIfInBounds_toArray, List.set_cons_zero, List.set_cons_succ]
  refine takeH 17 (v := ?vla26) rfl (by kernel_rfl) (by kernel_rfl) (by kernel_rfl) (fun _ _ _ h => h) hH rfl ?yla26 ?rla26
  case yla26 => intro W hSw; go_simp; try with_reducible rfl
  try simp only [Act.put, List.setIfInBounds_toArray, List.set_cons_zero, List.set_cons_succ]
  refine takeH 18 (v := ?vla27) rfl (by kernel_rfl) (by kernel_rfl) (by kernel_rfl) (fun _ _ _ h => h) hH rfl ?yla27 ?rla27
  case yla27 => intro W hSw; go_simp; try with_reducible rfl
  try simp only [Act.put, List.setIfInBounds_toArray, List.set_cons_zero, List.set_cons_succ]
  refine takeH 19 (v := ?vla28) rfl (by kernel_rfl) (by kernel_rfl) (by kernel_rfl) (fun _ _ _ h => h) hH rfl ?yla28 ?rla28
  case yla28 => intro W hSw; go_simp; try with_reducible rfl
  try simp only [Act.put, List.setIfInBounds_toArray, List.set_cons_zero, List.set_cons_succ]
  refine takeH 20 (v := ?vla29) rfl (by kernel_rfl) (by kernel_rfl) (by kernel_rfl) (fun _ _ _ h => h) hH rfl ?yla29 ?rla29
  case yla29 => intro W hSw; go_simp; try with_reducible rfl
  try simp only [Act.put, List.setIfInBounds_toArray, List.set_cons_zero, List.set_cons_succ]
  refine takeH 21 (v := ?vla30) rfl (by kernel_rfl) (by kernel_rfl) (by kernel_rfl) (fun _ _ _ h => h) hH rfl ?yla30 ?rla30
  case yla30 => intro W hSw; go_simp; try with_reducible rfl
  try simp only [Act.put, List.setIfInBounds_toArray, List.set_cons_zero, List.set_cons_succ]
  refine takeH 22 (v := ?vla31) rfl (by kernel_rfl) (by kernel_rfl) (by kernel_rfl) (fun _ _ _ h => h) hH rfl ?yla31 ?rla31
  case yla31 => intro W hSw; go_simp; try with_reducible rfl
  try simp only [Act.put, List.setIfInBounds_toArray, List.set_cons_zero, List.set_cons_succ]
  refine takeH 23 (v := ?vla32) rfl (by kernel_rfl) (by kernel_rfl) (by kernel_rfl) (fun _ _ _ h => h) hH rfl ?yla32 ?rla32
  case yla32 => intro W hSw; go_simp; try with_reducible rfl
  try simp only [Act.put, List.setIfInBounds_toArray, List.set_cons_zero, List.set_cons_succ]
  refine takeH 24 (v := ?vla33) rfl (by kernel_rfl) (by kernel_rfl) (by kernel_rfl) (fun _ _ _ h => h) hH rfl ?yla33 ?rla33
  case yla33 => intro W hSw; go_simp; try with_reducible rfl
  try simp only [Act.put, List.setIfInBounds_toArray, List.set_cons_zero, List.set_cons_succ]
  refine takeH 25 (v := ?vla34) rfl (by kernel_rfl) (by kernel_rfl) (by kernel_rfl) (fun _ _ _ h => h) hH rfl ?yla34 ?rla34
  case yla34 => intro W hSw; go_simp; try with_reducible rfl
  try simp only [Act.put, List.setIfInBounds_toArray, List.set_cons_zero, List.set_cons_succ]
  refine takeH 26 (v := .int .i64 (bj + s)) rfl (by kernel_rfl) (by kernel_rfl) (by kernel_rfl) (fun _ _ _ h => h) hH rfl ?yla35 ?rla35
  case yla35 => intro W hSw; go_simp; first | done | (simp [w2'])
  try simp only [Act.put, List.setIfInBounds_toArray, List.set_cons_zero, List.set_cons_succ]
  refine takeH 27 (v := ?vla36) rfl (by kernel_rfl) (by kernel_rfl) (by kernel_rfl) (fun _ _ _ h => h) hH rfl ?yla36 ?rla36
  case yla36 => intro W hSw; go_simp; try with_reducible rfl
  try simp only [Act.put, List.setIfInBounds_toArray, List.set_cons_zero, List.set_cons_succ]
  by_cases hhigh : 999 < bj + s
  case pos =>
    have d2 : decide (999 < bj + s) = true := decide_eq_true (by omega)
    rw [d2]
    refine takeH 28 (v := ?vla37) rfl (by kernel_rfl) (by kernel_rfl) (by kernel_rfl) (fun _ _ _ h => h) hH rfl ?yla37 ?rla37
    case yla37 => intro W hSw; go_simp; try with_reducible rfl
    try simp only [Act.put, List.setIfInBounds_toArray, List.set_cons_zero, List.set_cons_succ]
    refine wpAnyH_done (by kernel_rfl) ?_ _
    try simp only [Act.put]
    clear hH d1 d2
    have hok : okT l ⟨i, j, s, ee⟩ = false := by rw [HX.out, decide_eq_false (show ¬ bj + s ≤ 999 by omega), Bool.and_false]
    have Hok := Lib.hid hok; clear hok
    have sF := HA.out.fin
    obtain ⟨sf, oF, bF⟩ := sF
    have y0 := HA.out.s3.frozen 0
    have y1 := HA.out.s3.frozen 1
    have q0 := HA.out.s3.cell 0 (v := .slice none 0 0) rfl
    have q1 := HA.out.s3.cell 1 (v := .int .i64 0) rfl
    have o0 := HA.out.s4.cell 0 (v := .slice (some ⟨g, 0, none⟩) l.length vc) rfl
    have o1 := HA.out.s4.cell 1 (v := .int .i64 (n)) rfl
    have e0 := sf.cell 0 (v := .slice (some ⟨g, 0, none⟩) l.length vc) rfl
    have e1 := sf.cell 1 (v := .int .i64 (n)) rfl
    have OF := Lib.hid oF; have BF := Lib.hid bF; clear oF bF sf
    go_wp2
    skip
    refine bodyPost_ret (v := .tuple #[.agg #[.slice (some ⟨g, 0, none⟩) l.length vc, .int .i64 (n)], .bool false]) (by simp [results, Try.f55, go_sem, e0, e1]) rfl ?_
    exact Hpost.out _ _ _ _ _ _ rfl OF.out BF.out (ap_no (n := n) Hok.out).1.symm (ap_no (l := l) Hok.out).2.symm Hok.out.symm
  have d2 : decide (999 < bj + s) = false := decide_eq_false (by omega)
  rw [d2]
  refine takeH 28 (v := ?vla38) rfl (by kernel_rfl) (by kernel_rfl) (by kernel_rfl) (fun _ _ _ h => h) hH rfl ?yla38 ?rla38
  case yla38 => intro W hSw; go_simp; try with_reducible rfl
  try simp only [Act.put, List.setIfInBounds_toArray, List.set_cons_zero, List.set_cons_succ]
  refine wpAnyH_done (by kernel_rfl) ?_ _
  try simp only [Act.put]
  clear hH d1 d2
  have hok : okT l ⟨i, j, s, ee⟩ = true := by rw [HX.out, decide_eq_true (show s + ee ≤ bi by omega), decide_eq_true (show bj + s ≤ 999 by omega)]; rfl
  have Hok := Lib.hid hok; clear hok
  go_wp2_with fail
  refine wp_region_held_drew (S := fun w' => w'.cell? ⟨w.heap.size + 1, 0, none⟩ = some (.int .i64 i) ∧ w'.cell? ⟨w.heap.size + 1, 1, none⟩ = some (.int .i64 j) ∧ w'.cell? ⟨w.heap.size + 1, 2, none⟩ = some (.int .i64 s) ∧ w'.cell? ⟨w.heap.size + 1, 3, none⟩ = some (.int .i64 ee) ∧ w'.cell? ⟨w.heap.size, 0, none⟩ = some (.slice (some ⟨b, off, none⟩) l.length cap) ∧ w'.cell? ⟨O, 0, none⟩ = some (.slice (some ⟨g, 0, none⟩) l.length vc) ∧ w'.cell? ⟨b, off + i, none⟩ = some (.int .i64 bi)) (by kernel_rfl) ⟨HA.out.s2.cell 0 (v := .int .i64 i) rfl, HA.out.s2.cell 1 (v := .int .i64 j) rfl, HA.out.s2.cell 2 (v := .int .i64 s) rfl, HA.out.s2.cell 3 (v := .int .i64 ee) rfl, HA.out.s1.cell 0 (v := .slice (some ⟨b, off, none⟩) l.length cap) rfl, HA.out.s4.cell 0 (v := .slice (some ⟨g, 0, none⟩) l.length vc) rfl, HCI.out _ HA.out.bel.drew⟩ (fun hH => ?_)
  have HA := Lib.hid HA.out.drew
  generalize w5.drew = wd at *
  refine takeH 0 (v := ?vla39) rfl (by kernel_rfl) (by kernel_rfl) (by kernel_rfl) (fun _ _ _ h => h) hH rfl ?yla39 ?rla39
  case yla39 => intro W hSw; go_simp; try with_reducible rfl
  try simp only [Act.put, List.setIfInBounds_toArray, List.set_cons_zero, List.set_cons_succ]
  refine takeH 1 (v := ?vla40) rfl (by kernel_rfl) (by kernel_rfl) (by kernel_rfl) (fun _ _ _ h => h) hH rfl ?yla40 ?rla40
  case yla40 => intro W hSw; go_simp; try with_reducible rfl
  try simp only [Act.put, List.setIfInBounds_toArray, List.set_cons_zero, List.set_cons_succ]
  refine takeH 2 (v := ?vla41) rfl (by kernel_rfl) (by kernel_rfl) (by kernel_rfl) (fun _ _ _ h => h) hH rfl ?yla41 ?rla41
  case yla41 => intro W hSw; go_simp; try with_reducible rfl
  try simp only [Act.put, List.setIfInBounds_toArray, List.set_cons_zero, List.set_cons_succ]
  refine takeH 3 (v := ?vla42) rfl (by kernel_rfl) (by kernel_rfl) (by kernel_rfl) (fun _ _ _ h => h) hH rfl ?yla42 ?rla42
  case yla42 => intro W hSw; go_simp; try with_reducible rfl
  try simp only [Act.put, List.setIfInBounds_toArray, List.set_cons_zero, List.set_cons_succ]
  refine takeH 4 (v := ?vla43) rfl (by kernel_rfl) (by kernel_rfl) (by kernel_rfl) (fun _ _ _ h => h) hH rfl ?yla43 ?rla43
  case yla43 => intro W hSw; go_simp; try with_reducible rfl
  try simp only [Act.put, List.setIfInBounds_toArray, List.set_cons_zero, List.set_cons_succ]
  refine takeH 5 (v := ?vla44) rfl (by kernel_rfl) (by kernel_rfl) (by kernel_rfl) (fun _ _ _ h => h) hH rfl ?yla44 ?rla44
  case yla44 => intro W hSw; go_simp; try with_reducible rfl
  try simp only [Act.put, List.setIfInBounds_toArray, List.set_cons_zero, List.set_cons_succ]
  refine takeH 6 (v := ?vla45) rfl (by kernel_rfl) (by kernel_rfl) (by kernel_rfl) (fun _ _ _ h => h) hH rfl ?yla45 ?rla45
  case yla45 => intro W hSw; go_simp; try with_reducible rfl
  try simp only [Act.put, List.setIfInBounds_toArray, List.set_cons_zero, List.set_cons_succ]
  refine takeH 7 (v := ?vla46) rfl (by kernel_rfl) (by kernel_rfl) (by kernel_rfl) (fun _ _ _ h => h) hH rfl ?yla46 ?rla46
  case yla46 => intro W hSw; go_simp; try with_reducible rfl
  try simp only [Act.put, List.setIfInBounds_toArray, List.set_cons_zero, List.set_cons_succ]
  refine takeH 8 (v := ?vla47) rfl (by kernel_rfl) (by kernel_rfl) (by kernel_rfl) (fun _ _ _ h => h) hH rfl ?yla47 ?rla47
  case yla47 => intro W hSw; go_simp; try with_reducible rfl
  try simp only [Act.put, List.setIfInBounds_toArray, List.set_cons_zero, List.set_cons_succ]
  refine takeH 9 (v := ?vla48) rfl (by kernel_rfl) (by kernel_rfl) (by kernel_rfl) (fun _ _ _ h => h) hH rfl ?yla48 ?rla48
  case yla48 => intro W hSw; go_simp; try with_reducible rfl
  try simp only [Act.put, List.setIfInBounds_toArray, List.set_cons_zero, List.set_cons_succ]
  refine takeH 10 (v := ?vla49) rfl (by kernel_rfl) (by kernel_rfl) (by kernel_rfl) (fun _ _ _ h => h) hH rfl ?yla49 ?rla49
  case yla49 => intro W hSw; go_simp; try with_reducible rfl
  try simp only [Act.put, List.setIfInBounds_toArray, List.set_cons_zero, List.set_cons_succ]
  refine takeH 11 (v := ?vla50) rfl (by kernel_rfl) (by kernel_rfl) (by kernel_rfl) (fun _ _ _ h => h) hH rfl ?yla50 ?rla50
  case yla50 => intro W hSw; go_simp; try with_reducible rfl
  try simp only [Act.put, List.setIfInBounds_toArray, List.set_cons_zero, List.set_cons_succ]
  refine takeH 12 (v := .int .i64 (bi - s)) rfl (by kernel_rfl) (by kernel_rfl) (by kernel_rfl) (fun _ _ _ h => h) hH rfl ?yla51 ?rla51
  case yla51 => intro W hSw; go_simp; first | done | (simp [w3'])
  try simp only [Act.put, List.setIfInBounds_toArray, List.set_cons_zero, List.set_cons_succ]
  refine takeH 13 (v := ?vla52) rfl (by kernel_rfl) (by kernel_rfl) (by kernel_rfl) (fun _ _ _ h => h) hH rfl ?yla52 ?rla52
  case yla52 => intro W hSw; go_simp; try with_reducible rfl
  try simp only [Act.put, List.setIfInBounds_toArray, List.set_cons_zero, List.set_cons_succ]
  refine takeH 14 (v := ?vla53) rfl (by kernel_rfl) (by kernel_rfl) (by kernel_rfl) (fun _ _ _ h => h) hH rfl ?yla53 ?rla53
  case yla53 => intro W hSw; go_simp; try with_reducible rfl
  try simp only [Act.put, List.setIfInBounds_toArray, List.set_cons_zero, List.set_cons_succ]
  refine takeH 15 (v := .int .i64 (bi - s - ee)) rfl (by kernel_rfl) (by kernel_rfl) (by kernel_rfl) (fun _ _ _ h => h) hH rfl ?yla54 ?rla54
  case yla54 => intro W hSw; go_simp; first | done | (simp [w4'])
  try simp only [Act.put, List.setIfInBounds_toArray, List.set_cons_zero, List.set_cons_succ]
  refine takeH 16 (v := ?vla55) rfl (by kernel_rfl) (by kernel_rfl) (by kernel_rfl) (fun _ _ _ h => h) hH rfl ?yla55 ?rla55
  case yla55 => intro W hSw; go_simp; try with_reducible rfl
  try simp only [Act.put, List.setIfInBounds_toArray, List.set_cons_zero, List.set_cons_succ]
  refine callH 17 rfl (by kernel_rfl) rfl (fun K hK => ?_)
  have y9 := HA.out.frozen h6 i
  have q9 := HA.out.at h6 (j := i) (by rw [HA.out.len]; omega)
  skip
  go_simp
  clear y9 q9
  have HA := Lib.hid (HA.out.store i (bi - s - ee))
  refine hK.out _ _ ⟨HA.out.s2.cell 0 (v := .int .i64 i) rfl, HA.out.s2.cell 1 (v := .int .i64 j) rfl, HA.out.s2.cell 2 (v := .int .i64 s) rfl, HA.out.s2.cell 3 (v := .int .i64 ee) rfl, HA.out.s1.cell 0 (v := .slice (some ⟨b, off, none⟩) l.length cap) rfl, HA.out.s4.cell 0 (v := .slice (some ⟨g, 0, none⟩) l.length vc) rfl, HCI.out _ HA.out.bel⟩ (fun hH => ?_)
  clear hK K
  try simp only [Act.put, List.setIfInBounds_toArray, List.set_cons_zero, List.set_cons_succ]
  generalize (wd.setCell ⟨g, i, none⟩ (.int .i64 (bi - s - ee))) = w5s at *
  refine wpAnyH_done (by kernel_rfl) ?_ _
  try simp only [Act.put]
  clear hH
  go_wp2_with fail
  refine wp_region_held_drew (S := fun w' => w'.cell? ⟨w.heap.size + 1, 0, none⟩ = some (.int .i64 i) ∧ w'.cell? ⟨w.heap.size + 1, 1, none⟩ = some (.int .i64 j) ∧ w'.cell? ⟨w.heap.size + 1, 2, none⟩ = some (.int .i64 s) ∧ w'.cell? ⟨w.heap.size + 1, 3, none⟩ = some (.int .i64 ee) ∧ w'.cell? ⟨w.heap.size, 0, none⟩ = some (.slice (some ⟨b, off, none⟩) l.length cap) ∧ w'.cell? ⟨O, 0, none⟩ = some (.slice (some ⟨g, 0, none⟩) l.length vc) ∧ w'.cell? ⟨b, off + j, none⟩ = some (.int .i64 bj)) (by kernel_rfl) ⟨HA.out.s2.cell 0 (v := .int .i64 i) rfl, HA.out.s2.cell 1 (v := .int .i64 j) rfl, HA.out.s2.cell 2 (v := .int .i64 s) rfl, HA.out.s2.cell 3 (v := .int .i64 ee) rfl, HA.out.s1.cell 0 (v := .slice (some ⟨b, off, none⟩) l.length cap) rfl, HA.out.s4.cell 0 (v := .slice (some ⟨g, 0, none⟩) l.length vc) rfl, HCJ.out _ HA.out.bel.drew⟩ (fun hH => ?_)
  have HA := Lib.hid HA.out.drew
  generalize w5s.drew = wd at *
  refine takeH 0 (v := ?vla56) rfl (by kernel_rfl) (by kernel_rfl) (by kernel_rfl) (fun _ _ _ h => h) hH rfl ?yla56 ?rla56
  case yla56 => intro W hSw; go_simp; try with_reducible rfl
  try simp only [Act.put, List.setIfInBounds_toArray, List.set_cons_zero, List.set_cons_succ]
  refine takeH 1 (v := ?vla57) rfl (by kernel_rfl) (by kernel_rfl) (by kernel_rfl) (fun _ _ _ h => h) hH rfl ?yla57 ?rla57
  case yla57 => intro W hSw; go_simp; try with_reducible rfl
  try simp only [Act.put, List.setIfInBounds_toArray, List.set_cons_zero, List.set_cons_succ]
  refine takeH 2 (v := ?vla58) rfl (by kernel_rfl) (by kernel_rfl) (by kernel_rfl) (fun _ _ _ h => h) hH rfl ?yla58 ?rla58
  case yla58 => intro W hSw; go_simp; try with_reducible rfl
  try simp only [Act.put, List.setIfInBounds_toArray, List.set_cons_zero, List.set_cons_succ]
  refine takeH 3 (v := ?vla59) rfl (by kernel_rfl) (by kernel_rfl) (by kernel_rfl) (fun _ _ _ h => h) hH rfl ?yla59 ?rla59
  case yla59 => intro W hSw; go_simp; try with_reducible rfl
  try simp only [Act.put, List.setIfInBounds_toArray, List.set_cons_zero, List.set_cons_succ]
  refine takeH 4 (v := ?vla60) rfl (by kernel_rfl) (by kernel_rfl) (by kernel_rfl) (fun _ _ _ h => h) hH rfl ?yla60 ?rla60
  case yla60 => intro W hSw; go_simp; try with_reducible rfl
  try simp only [Act.put, List.setIfInBounds_toArray, List.set_cons_zero, List.set_cons_succ]
  refine takeH 5 (v := ?vla61) rfl (by kernel_rfl) (by kernel_rfl) (by kernel_rfl) (fun _ _ _ h => h) hH rfl ?yla61 ?rla61
  case yla61 => intro W hSw; go_simp; try with_reducible rfl
  try simp only [Act.put, List.setIfInBounds_toArray, List.set_cons_zero, List.set_cons_succ]
  refine takeH 6 (v := ?vla62) rfl (by kernel_rfl) (by kernel_rfl) (by kernel_rfl) (fun _ _ _ h => h) hH rfl ?yla62 ?rla62
  case yla62 => intro W hSw; go_simp; try with_reducible rfl
  try simp only [Act.put, List.setIfInBounds_toArray, List.set_cons_zero, List.set_cons_succ]
  refine takeH 7 (v := ?vla63) rfl (by kernel_rfl) (by kernel_rfl) (by kernel_rfl) (fun _ _ _ h => h) hH rfl ?yla63 ?rla63
  case yla63 => intro W hSw; go_simp; try with_reducible rfl
  try simp only [Act.put, List.setIfInBounds_toArray, List.set_cons_zero, List.set_cons_succ]
  refine takeH 8 (v := ?vla64) rfl (by kernel_rfl) (by kernel_rfl) (by kernel_rfl) (fun _ _ _ h => h) hH rfl ?yla64 ?rla64
  case yla64 => intro W hSw; go_simp; try with_reducible rfl
  try simp only [Act.put, List.setIfInBounds_toArray, List.set_cons_zero, List.set_cons_succ]
  refine takeH 9 (v := ?vla65) rfl (by kernel_rfl) (by kernel_rfl) (by kernel_rfl) (fun _ _ _ h => h) hH rfl ?yla65 ?rla65
  case yla65 => intro W hSw; go_simp; try with_reducible rfl
  try simp only [Act.put, List.setIfInBounds_toArray, List.set_cons_zero, List.set_cons_succ]
  refine takeH 10 (v := ?vla66) rfl (by kernel_rfl) (by kernel_rfl) (by kernel_rfl) (fun _ _ _ h => h) hH rfl ?yla66 ?rla66
  case yla66 => intro W hSw; go_simp; try with_reducible rfl
  try simp only [Act.put, List.setIfInBounds_toArray, List.set_cons_zero, List.set_cons_succ]
  refine takeH 11 (v := ?vla67) rfl (by kernel_rfl) (by kernel_rfl) (by kernel_rfl) (fun _ _ _ h => h) hH rfl ?yla67 ?rla67
  case yla67 => intro W hSw; go_simp; try with_reducible rfl
  try simp only [Act.put, List.setIfInBounds_toArray, List.set_cons_zero, List.set_cons_succ]
  refine takeH 12 (v := .int .i64 (bj + s)) rfl (by kernel_rfl) (by kernel_rfl) (by kernel_rfl) (fun _ _ _ h => h) hH rfl ?yla68 ?rla68
  case yla68 => intro W hSw; go_simp; first | done | (simp [w2'])
  try simp only [Act.put, List.setIfInBounds_toArray, List.set_cons_zero, List.set_cons_succ]
  refine takeH 13 (v := ?vla69) rfl (by kernel_rfl) (by kernel_rfl) (by kernel_rfl) (fun _ _ _ h => h) hH rfl ?yla69 ?rla69
  case yla69 => intro W hSw; go_simp; try with_reducible rfl
  try simp only [Act.put, List.setIfInBounds_toArray, List.set_cons_zero, List.set_cons_succ]
  refine callH 14 rfl (by kernel_rfl) rfl (fun K hK => ?_)
  have y9 := HA.out.frozen h6 j
  have q9 := HA.out.at h6 (j := j) (by rw [HA.out.len]; omega)
  skip
  go_simp
  clear y9 q9
  have HA := Lib.hid (HA.out.store j (bj + s))
  refine hK.out _ _ ⟨HA.out.s2.cell 0 (v := .int .i64 i) rfl, HA.out.s2.cell 1 (v := .int .i64 j) rfl, HA.out.s2.cell 2 (v := .int .i64 s) rfl, HA.out.s2.cell 3 (v := .int .i64 ee) rfl, HA.out.s1.cell 0 (v := .slice (some ⟨b, off, none⟩) l.length cap) rfl, HA.out.s4.cell 0 (v := .slice (some ⟨g, 0, none⟩) l.length vc) rfl, HCJ.out _ HA.out.bel⟩ (fun hH => ?_)
  clear hK K
  try simp only [Act.put, List.setIfInBounds_toArray, List.set_cons_zero, List.set_cons_succ]
  generalize (wd.setCell ⟨g, j, none⟩ (.int .i64 (bj + s))) = w5ss at *
  refine wpAnyH_done (by kernel_rfl) ?_ _
  try simp only [Act.put]
  clear hH
  have x0 := HA.out.s2.cell 0 (v := .int .i64 i) rfl
  have x1 := HA.out.s2.cell 1 (v := .int .i64 j) rfl
  have x2 := HA.out.s2.cell 2 (v := .int .i64 s) rfl
  have x3 := HA.out.s2.cell 3 (v := .int .i64 ee) rfl
  have l0 := HA.out.s1.cell 0 (v := .slice (some ⟨b, off, none⟩) l.length cap) rfl
  have l1 := HA.out.s1.cell 1 (v := .int .i64 n) rfl
  have o1 := HA.out.s4.cell 1 (v := .int .i64 n) rfl
  have fo := HA.out.s4.frozen 1
  have HA := Lib.hid (HA.out.fee (n + ee))
  have sF := HA.out.fin
  obtain ⟨sf, oF, bF⟩ := sF
  have y0 := HA.out.s3.frozen 0
  have y1 := HA.out.s3.frozen 1
  have q0 := HA.out.s3.cell 0 (v := .slice none 0 0) rfl
  have q1 := HA.out.s3.cell 1 (v := .int .i64 0) rfl
  have o0 := HA.out.s4.cell 0 (v := .slice (some ⟨g, 0, none⟩) l.length vc) rfl
  have o1 := HA.out.s4.cell 1 (v := .int .i64 (n + ee)) rfl
  have e0 := sf.cell 0 (v := .slice (some ⟨g, 0, none⟩) l.length vc) rfl
  have e1 := sf.cell 1 (v := .int .i64 (n + ee)) rfl
  have OF := Lib.hid oF; have BF := Lib.hid bF; clear oF bF sf
  go_wp2
  skip
  refine bodyPost_ret (v := .tuple #[.agg #[.slice (some ⟨g, 0, none⟩) l.length vc, .int .i64 (n + ee)], .bool true]) (by simp [results, Try.f55, go_sem, e0, e1]) rfl ?_
  exact Hpost.out _ _ _ _ _ _ rfl OF.out BF.out (HY.out Hok.out) (ap_yes (l := l) Hok.out).2.symm Hok.out.symm

end Go.Proofs.Ytfnhafgjdnlhiaa

/- Parts of a list that reads as data: its head and its tail; general steps, nothing here speaks of the program. -/
namespace Go.Proofs.Ytfnhafgjdnlhiaa
open Go.RowKit

theorem Rd.cut {w : World} {es : List (List Dt)} {g off n cap sz : Nat} {fp : List Nat} (h : Rd w (.l es) (.slice (some ⟨g, off, none⟩) n cap) fp) (hsz : ∀ e ∈ es, e.length = sz) (k m o2 cap2 : Nat) (hk : k + m ≤ es.length) (ho : 0 < m → o2 = off + k * sz) (hcap2 : k + m ≤ cap → m ≤ cap2) :
    ∃ fp', Rd w (.l ((es.drop k).take m)) (.slice (some ⟨g, o2, none⟩) m cap2) fp' ∧ ∀ r ∈ fp', r ∈ fp := by
  rcases Nat.eq_zero_or_pos m with h0 | h0
  · subst h0
    exact ⟨[], by rw [List.take_zero]; exact .nil _ _ (fun e => by cases e), by simp⟩
  · generalize hd : Dt.l es = d at h
    generalize hv : Value.slice (some ⟨g, off, none⟩) n cap = v at h
    cases h with
    | i n => cases hd
    | b x => cases hd
    | s t => cases hd
    | nil a cap hn => cases hd; simp at hk; omega
    | l sz' es' g' off' cap' V F hne' hsz' hcap hgl hc hrd =>
      cases hd
      simp only [Value.slice.injEq, Option.some.injEq, Addr.mk.injEq, and_true] at hv
      obtain ⟨⟨rfl, rfl⟩, rfl, rfl⟩ := hv
      have hss : sz' = sz := by
        have h0 := List.getElem_mem hne'
        rw [← hsz' _ h0, hsz _ h0]
      subst hss
      have hl : ((es.drop k).take m).length = m := by rw [List.length_take, List.length_drop]; omega
      have hget : ∀ i (hi : i < ((es.drop k).take m).length) (hi' : k + i < es.length), ((es.drop k).take m)[i] = es[k + i] := by
        intro i hi hi'
        rw [List.getElem_take, List.getElem_drop]
      have := Rd.l (w := w) sz' ((es.drop k).take m) g o2 cap2 (fun i j => V (k + i) j) (fun i j => F (k + i) j) (by omega) (fun e he => hsz' e (List.mem_of_mem_drop (List.mem_of_mem_take he))) (by rw [hl]; exact hcap2 (by omega)) hgl
        (fun i j hi hj => by
          rw [ho h0, show off + k * sz' + (i * sz' + j) = off + ((k + i) * sz' + j) by rw [Nat.add_mul]; omega]
          exact hc (k + i) j (by omega) hj)
        (fun i j hi hj => by
          have hi' : k + i < es.length := by omega
          have e := hget i hi hi'
          simp only [e] at hj ⊢
          exact hrd (k + i) j hi' hj)
      rw [hl] at this
      refine ⟨_, this, fun r hr => ?_⟩
      rcases List.mem_cons.1 hr with rfl | hr
      · simp
      · obtain ⟨i, hi, hr⟩ := List.mem_flatMap.1 hr
        obtain ⟨j, hj, hr⟩ := List.mem_flatMap.1 hr
        rw [List.mem_range] at hi hj
        exact List.mem_cons_of_mem _ (List.mem_flatMap.2 ⟨k + i, List.mem_range.2 (by omega), List.mem_flatMap.2 ⟨j, List.mem_range.2 hj, hr⟩⟩)
theorem Rd.lens {w : World} {es : List (List Dt)} {a : Option Addr} {n cap : Nat} {fp : List Nat} (h : Rd w (.l es) (.slice a n cap) fp) : n = es.length := by
  obtain ⟨a', c', e⟩ := Rd.slice h
  cases e; rfl
/-- The tail of a list, and where it lies. -/
theorem Rd.tail {w : World} {es : List (List Dt)} {g off n cap sz : Nat} {fp : List Nat} (h : Rd w (.l es) (.slice (some ⟨g, off, none⟩) n cap) fp) (hsz : ∀ e ∈ es, e.length = sz) (k : Nat) (hk : k ≤ es.length) :
    ∃ o2, (if cap = k then some (⟨g, off, none⟩ : Addr) else some ⟨g, off + k * sz, none⟩) = some ⟨g, o2, none⟩ ∧ ∃ fp', Rd w (.l (es.drop k)) (.slice (some ⟨g, o2, none⟩) (es.length - k) (cap - k)) fp' ∧ ∀ r ∈ fp', r ∈ fp := by
  have key : ∀ o2, (k < es.length → o2 = off + k * sz) → ∃ fp', Rd w (.l (es.drop k)) (.slice (some ⟨g, o2, none⟩) (es.length - k) (cap - k)) fp' ∧ ∀ r ∈ fp', r ∈ fp := by
    intro o2 ho
    have := h.cut hsz k (es.length - k) o2 (cap - k) (by omega) (fun hm => ho (by omega)) (fun hc => by omega)
    rwa [List.take_of_length_le (by rw [List.length_drop]; omega)] at this
  by_cases hc : cap = k
  · refine ⟨off, by rw [if_pos hc], key off fun hlt => ?_⟩
    obtain ⟨_, _, _, _, _, _, hcap, _⟩ := Rd.at h (by omega) hsz
    have := h.lens
    omega
  · exact ⟨off + k * sz, by rw [if_neg hc], key _ fun _ => rfl⟩

end Go.Proofs.Ytfnhafgjdnlhiaa

/- Lists of rows of numbers in memory of their own, cell by cell; an append to them at an operation; general steps, nothing here speaks of the program. -/
namespace Go.Proofs.Ytfnhafgjdnlhiaa
open Go.RowKit

def rwN (e : List Int) : List Value := e.map (Value.int .i64)
def flN (es : List (List Int)) : List Value := es.flatMap rwN
theorem flN_app (es es2 : List (List Int)) : flN (es ++ es2) = flN es ++ flN es2 := by unfold flN; rw [List.flatMap_append]
theorem flN_len {sz : Nat} : ∀ {es : List (List Int)}, (∀ e ∈ es, e.length = sz) → (flN es).length = es.length * sz
  | [], _ => by simp [flN]
  | x :: es, h => by
    have ih := flN_len (es := es) fun e he => h e (List.mem_cons_of_mem _ he)
    have hx := h x (by simp)
    unfold flN at *
    rw [List.flatMap_cons, List.length_append, ih, List.length_cons, Nat.add_mul]
    simp [rwN, hx]; omega
theorem flN_at {sz : Nat} : ∀ {es : List (List Int)}, (∀ e ∈ es, e.length = sz) → ∀ (k j : Nat) (hk : k < es.length), j < sz → (flN es)[k * sz + j]? = (rwN es[k])[j]?
  | x :: es, h, 0, j, _, hj => by
    have hx := h x (by simp)
    unfold flN
    rw [List.flatMap_cons, List.getElem?_append_left (by simp [rwN, hx]; omega)]
    simp
  | x :: es, h, k + 1, j, hk, hj => by
    have hx := h x (by simp)
    have hk' : k < es.length := by simpa using hk
    have ih := flN_at (es := es) (fun e he => h e (List.mem_cons_of_mem _ he)) k j hk' hj
    unfold flN at *
    have hlx : (rwN x).length = sz := by simp [rwN, hx]
    rw [List.flatMap_cons, List.getElem?_append_right (by rw [hlx, Nat.add_mul]; omega)]
    rw [show (k + 1) * sz + j - (rwN x).length = k * sz + j by rw [hlx, Nat.add_mul]; omega, ih]
    simp
theorem flN_int {es : List (List Int)} {c : Value} (h : c ∈ flN es) : ∃ x, c = .int .i64 x := by
  unfold flN at h
  obtain ⟨e, _, hc⟩ := List.mem_flatMap.1 h
  unfold rwN at hc
  obtain ⟨x, _, rfl⟩ := List.mem_map.1 hc
  exact ⟨x, rfl⟩
/-- v owns rows of sz numbers, in a block from B on. -/
structure OwnN (E : TypeId) (sz : Nat) (w : World) (B : Nat) (v : Value) (es : List (List Int)) : Prop where
  szs : ∀ e ∈ es, e.length = sz
  row : w.ownsRow B E sz v es.length (flN es)
section
variable {E : TypeId} {sz : Nat} {w w' : World} {B : Nat} {v : Value} {es : List (List Int)}
theorem OwnN.lt (h : OwnN E sz w B v es) : ∀ g, v.ownBlock = some g → B ≤ g ∧ g < w.heap.size := World.ownsRow.lt h.row
theorem OwnN.slice (h : OwnN E sz w B v es) : ∃ a c, v = .slice a es.length c ∧ es.length ≤ c := by
  rcases h.row.2 with ⟨rfl, h0⟩ | ⟨g, cap, cur, rfl, _, _, hn, _⟩
  · exact ⟨none, 0, by rw [h0], by omega⟩
  · exact ⟨_, _, rfl, hn⟩
theorem OwnN.same (h : OwnN E sz w B v es) (hb : ∀ g, v.ownBlock = some g → w'.heap[g]? = w.heap[g]?) : OwnN E sz w' B v es := ⟨h.szs, row_same h.row hb⟩
theorem OwnN.below (h : OwnN E sz w B v es) (hb : Below w.heap.size w w') : OwnN E sz w' B v es := h.same fun g e => hb.block g (h.lt g e).2
theorem OwnN.kept {row : Option Nat} (h : OwnN E sz w B v es) (hg : w.grownBy w' row) (hne : ∀ g, v.ownBlock = some g → row ≠ some g) : OwnN E sz w' B v es :=
  h.same fun g e => hg.block g (h.lt g e).2 (fun e' => hne g e e'.symm)
theorem OwnN.mono {B' : Nat} (h : OwnN E sz w B v es) (hB : B' ≤ B) : OwnN E sz w B' v es := by
  refine ⟨h.szs, h.row.1, ?_⟩
  rcases h.row.2 with h0 | ⟨g, cap, cur, e, hb, rest⟩
  · exact .inl h0
  · exact .inr ⟨g, cap, cur, e, by omega, rest⟩
theorem OwnN.empty (E : TypeId) (sz : Nat) (w : World) : OwnN E sz (w.alloc (.cells #[] E)) w.heap.size (.slice (some ⟨w.heap.size, 0, none⟩) 0 0) [] :=
  ⟨by simp, by simp [flN], .inr ⟨w.heap.size, 0, #[], rfl, Nat.le_refl _, Str.new w E #[], Nat.le_refl _, Nat.zero_le _, by simp, by simp [flN]⟩⟩
theorem OwnN.ownR {Ei : TypeId} {hi : Nat} (h : OwnN E sz w B v es) (hh : w.heap.size ≤ hi) : OwnR E Ei sz w B hi v (es.map fun e => e.map Fd.i) := by
  have hn : ∀ (p : Nat) c, (flN es)[p]? = some c → c.ownBlock = none := fun p c hc => by obtain ⟨x, rfl⟩ := flN_int (List.mem_of_getElem? hc); rfl
  refine ⟨fun e he => by obtain ⟨x, hx, rfl⟩ := List.mem_map.1 he; rw [List.length_map]; exact h.szs x hx, flN es, by rw [List.length_map]; exact h.row, fun k j hk hj => ?_, ?_, ?_, ?_, fun g e => Nat.lt_of_lt_of_le (h.lt g e).2 hh⟩
  · have hk' : k < es.length := by simpa using hk
    have he : (es.map fun e => e.map Fd.i)[k] = es[k].map Fd.i := by simp
    have hl : es[k].length = sz := h.szs _ (List.getElem_mem hk')
    have hj' : j < es[k].length := by rw [he, List.length_map] at hj; exact hj
    rw [flN_at h.szs k j hk' (by omega)]
    refine ⟨.int .i64 es[k][j], by simp [rwN, hj'], ?_⟩
    simp only [he, List.getElem_map]
    rfl
  · intro p q c d hc _ _ g e; rw [hn p c hc] at e; cases e
  · intro p c hc g e; rw [hn p c hc] at e; cases e
  · intro p c g hc e; rw [hn p c hc] at e; cases e
theorem OwnN.cell {g n cap : Nat} (h : OwnN E sz w B (.slice (some ⟨g, 0, none⟩) n cap) es) {k j : Nat} (hk : k < es.length) (hj : j < sz) : w.cell? ⟨g, k * sz + j, none⟩ = (rwN es[k])[j]? ∧ w.frozen? ⟨g, k * sz + j, none⟩ = false := by
  have hl : es[k].length = sz := h.szs _ (List.getElem_mem hk)
  have hc := flN_at h.szs k j hk hj
  have he : (rwN es[k])[j]? = some (.int .i64 (es[k][j]'(by omega))) := by simp [rwN, show j < es[k].length by omega]
  have h0 := World.ownsRow.cells h.row (g := g) rfl _ _ (hc.trans he)
  rw [addr_add] at h0
  refine ⟨h0.trans he.symm, ?_⟩
  rcases h.row.2 with ⟨h', _⟩ | ⟨g', cap', cur, h', _, hg, _⟩
  · simp at h'
  · simp only [Value.slice.injEq, Option.some.injEq, Addr.mk.injEq, and_true] at h'
    obtain ⟨rfl, _⟩ := h'
    exact frozen_of_row w g _ cur E hg
end
/-- The rows' cells from this place on. -/
def SrcN (w : World) (ad : Addr) (es : List (List Int)) : Prop := ∀ (j : Nat) u, (flN es)[j]? = some u → w.cell? (ad.add j) = some u
theorem SrcN.below {w w' : World} {ad : Addr} {es : List (List Int)} (h : SrcN w ad es) (hb : Below w.heap.size w w') : SrcN w' ad es := fun j u hj => (hb.cell (World.block_lt_of_cell? _ _ (h j u hj))).trans (h j u hj)
theorem SrcN.new (w : World) (E : TypeId) (e : List Int) : SrcN (w.alloc (.cells (rwN e).toArray E)) ⟨w.heap.size, 0, none⟩ [e] := by
  intro j u hu
  rw [addr_add, World.cell?_alloc_at _ _ _ _ rfl]
  simpa [flN] using hu
theorem OwnN.src {E : TypeId} {sz : Nat} {w : World} {B g n cap : Nat} {es : List (List Int)} (h : OwnN E sz w B (.slice (some ⟨g, 0, none⟩) n cap) es) : SrcN w ⟨g, 0, none⟩ es := fun j u hj => World.ownsRow.cells h.row (g := g) rfl j u hj

/-- 'append(s, t...)' at an operation: s is the call's own, the rows of t lie at ad. -/
theorem op_app_N {P : Program} {T E : TypeId} {sz bytes : Nat} {z0 : Value} (hsl : P.underlying T = some (.slice E)) (hinf : (P.info? E).map (fun i => (i.zero, i.size, i.bytes)) = some (some z0, sz, bytes)) (hz0 : z0.cells.size = sz) (hpos : 0 < sz) (hby : bytes ≤ 1000)
    {w : World} {o : Oper} {a : Act} {K : Act → World → Prop} {Q : Exit → Act → World → Prop} (s x : Operand) (ho : o.op = .call { callee := .builtin .append, args := #[s, x], argTypes := #[T, T] }) (B : Nat) (v : Value) (es es2 : List (List Int)) (ad : Option Addr) (c : Nat)
    (hs : a.eval s = v) (hb : OwnN E sz w B v es) (hx : a.eval x = .slice ad es2.length c) (hs2 : ∀ e ∈ es2, e.length = sz) (hsrc : (ad = none ∧ es2 = [] ∧ c = 0) ∨ ∃ q, ad = some q ∧ SrcN w q es2) (hlen : es.length + es2.length ≤ 1048577) (hB : B ≤ w.heap.size)
    (h : ∀ v' w', OwnN E sz w' B v' (es ++ es2) → w.grownBy w' v.ownBlock → (∀ g, v'.ownBlock = some g → v.ownBlock = some g ∨ w.heap.size ≤ g) → K (a.put o.dst v') w') : Oper.wp P o a w K Q := by
  obtain ⟨i, hi, hz, hsz, hbb⟩ := info_parts hinf
  have hall : ∀ e ∈ es ++ es2, e.length = sz := fun e he => by
    rcases List.mem_append.1 he with h1 | h1
    · exact hb.szs e h1
    · exact hs2 e h1
  have run : ∃ v' w', (Builtin.append_ #[T, T] o.type #[v, .slice ad es2.length c]).run P w = .ok v' w' ∧ OwnN E sz w' B v' (es ++ es2) ∧ w.grownBy w' v.ownBlock ∧ (v'.ownBlock = v.ownBlock ∨ v'.ownBlock = some w.heap.size) := by
    rcases hsrc with ⟨rfl, rfl, rfl⟩ | ⟨q, rfl, hq⟩
    · exact ⟨v, w, run_append_owned_none (P := P) (w := w) B T o.type E i sz hsl hi v es.length _ hb.row, by simpa using hb, World.grownBy.refl _ _, .inl rfl⟩
    · obtain ⟨v', w', h1, h2, h3, _, h4⟩ := run_append_own_at (P := P) w B T o.type E i z0 sz bytes hsl hi hz hsz hbb hz0 hpos v es.length _ hb.row q es2.length c (flN es2) (flN_len hs2) hq (fun u hu => by obtain ⟨x, rfl⟩ := flN_int hu; rfl) (by unfold maxLen; omega) (by
        have := Nat.mul_le_mul (show es.length + es2.length ≤ 1048577 from hlen) hby; omega) hB
      exact ⟨v', w', h1, ⟨hall, by rw [List.length_append, flN_app]; exact h2⟩, h3, h4⟩
  obtain ⟨v', w', hrun, h1, hg, h4⟩ := run
  unfold Oper.wp execOp
  simp only [ho, resolve, invoke, builtin, Sem.run_bind, Sem.run_pure, Result.andThen_ok, List.map_toArray, List.map_cons, List.map_nil, hs, hx, hrun]
  exact h v' w' h1 hg fun g e => by
    rcases h4 with h4 | h4
    · exact .inl (by rw [← h4]; exact e)
    · rw [h4] at e; cases e; exact .inr (Nat.le_refl _)

end Go.Proofs.Ytfnhafgjdnlhiaa

/- Lists of transactions in memory; conditions: the lists are shorter than 2^40. -/
namespace Go.Proofs.Ytfnhafgjdnlhiaa
open Go.RowKit

def txF (b : Tx) : List Fd := [.i b.f, .i b.t, .i b.s, .i b.e]
def txN (b : Tx) : List Int := [b.f, b.t, b.s, b.e]
/-- A list of transactions in memory. -/
def Txs (w : World) (l : List Tx) (v : Value) (fp : List Nat) : Prop := Rd w (rowsD (l.map txF)) v fp
theorem Txs.under {w w' : World} {l : List Tx} {v : Value} {fp : List Nat} (h : Txs w l v fp) (hb : Below w.heap.size w w') : Txs w' l v fp := Rd.under h hb
theorem Txs.slice {w : World} {l : List Tx} {v : Value} {fp : List Nat} (h : Txs w l v fp) : ∃ a cap, v = .slice a l.length cap ∧ l.length ≤ cap := by
  have h' : Rd w (.l ((l.map txF).map fun e => e.map Fd.dt)) v fp := h
  obtain ⟨a, cap, ⟨rfl, hc⟩ | ⟨he, a, cap, rfl⟩⟩ := Rd.list h'
  · exact ⟨a, cap, by simp, by simpa using hc⟩
  · have : l = [] := by simpa using he
    subst this
    exact ⟨a, cap, rfl, Nat.zero_le _⟩
theorem Txs.at {w : World} {l : List Tx} {a : Option Addr} {n cap : Nat} {fp : List Nat} (h : Txs w l (.slice a n cap) fp) (hne : 0 < l.length) : ∃ b off, a = some ⟨b, off, none⟩ ∧ b < w.heap.size ∧ ∀ k (hk : k < l.length),
    w.cell? ⟨b, off + k * 4, none⟩ = some (.int .i64 l[k].f) ∧ w.cell? ⟨b, off + k * 4 + 1, none⟩ = some (.int .i64 l[k].t) ∧ w.cell? ⟨b, off + k * 4 + 2, none⟩ = some (.int .i64 l[k].s) ∧ w.cell? ⟨b, off + k * 4 + 3, none⟩ = some (.int .i64 l[k].e) := by
  obtain ⟨b, off, rfl, hb, hc⟩ := rows_at (es := l.map txF) (m := 4) h (by simpa using hne) (fun e he => by obtain ⟨x, _, rfl⟩ := List.mem_map.1 he; rfl)
  refine ⟨b, off, rfl, hb, fun k hk => ?_⟩
  have hk' : k < (l.map txF).length := by simpa using hk
  have he : (l.map txF)[k] = txF l[k] := by simp
  obtain ⟨c0, _, h0, r0⟩ := hc k hk' 0 (by rw [he]; simp [txF])
  obtain ⟨c1, _, h1, r1⟩ := hc k hk' 1 (by rw [he]; simp [txF])
  obtain ⟨c2, _, h2, r2⟩ := hc k hk' 2 (by rw [he]; simp [txF])
  obtain ⟨c3, _, h3, r3⟩ := hc k hk' 3 (by rw [he]; simp [txF])
  obtain rfl := rd_i r0 (x := l[k].f) (by simp only [he]; rfl)
  obtain rfl := rd_i r1 (x := l[k].t) (by simp only [he]; rfl)
  obtain rfl := rd_i r2 (x := l[k].s) (by simp only [he]; rfl)
  obtain rfl := rd_i r3 (x := l[k].e) (by simp only [he]; rfl)
  exact ⟨h0, h1, h2, h3⟩
theorem txs_of {E : TypeId} {w : World} {B : Nat} {v : Value} {l : List Tx} (h : OwnN E 4 w B v (l.map txN)) : ∃ a cap fp, v = .slice a l.length cap ∧ l.length ≤ cap ∧ Txs w l v fp := by
  obtain ⟨fp, hr⟩ := (h.ownR (Ei := E) (Nat.le_refl _)).reads
  obtain ⟨a, cap, rfl, hc⟩ := h.slice
  rw [List.length_map] at hr hc ⊢
  refine ⟨a, cap, fp, rfl, hc, ?_⟩
  unfold Txs
  rw [List.map_map] at hr
  exact hr
/-- A first part of a list of transactions. -/
theorem tx_cut {w : World} {l : List Tx} {a : Option Addr} {cap : Nat} {fp : List Nat} (h : Txs w l (.slice a l.length cap) fp) {k : Nat} (hk : k ≤ l.length) : ∃ fq, Txs w (l.take k) (.slice a (l.take k).length cap) fq := by
  rw [List.length_take, Nat.min_eq_left hk]
  by_cases h0 : k = 0
  · subst h0
    refine ⟨[], ?_⟩
    unfold Txs rowsD
    rw [List.take_zero]
    refine .nil _ _ fun e => ?_
    subst e
    exact Rd.nilcap h
  · obtain ⟨b, off, rfl, _⟩ := h.at (by omega)
    have hrow : ∀ e ∈ (l.map txF).map (fun e => e.map Fd.dt), e.length = 4 := by
      intro e he
      rw [List.map_map] at he
      obtain ⟨x, _, rfl⟩ := List.mem_map.1 he
      rfl
    have hz : ((l.map txF).map fun e => e.map Fd.dt).length = l.length := by simp
    obtain ⟨fq, hq⟩ := Rd.cut (g := b) (off := off) (n := l.length) (cap := cap) h hrow 0 k off cap (by omega) (fun _ => by omega) (fun _ => by omega)
    refine ⟨fq, ?_⟩
    unfold Txs rowsD
    rw [List.map_take, List.map_take]
    rw [List.drop_zero] at hq
    exact hq.1

end Go.Proofs.Ytfnhafgjdnlhiaa

/- A region that draws its order and keeps a condition up to its last operation: either of two operations may come up next. A general step; nothing here speaks of the program. -/
namespace Go.Proofs.Ytfnhafgjdnlhiaa
open Go.RowKit
section
variable {P : Program} {md : Region.Mode} {l : List Oper} {Q : Exit → Act → World → Prop} {S : World → Prop} {oi oj : Oper} {rest rest' : List Oper} {fuel m : Nat} {listed : Array Bool} {a : Act} {w : World}
/-- Number i or number j may come up, neither is the last. -/
theorem twoL (i j : Nat) (hi : l.drop i = oi :: rest) (hj : l.drop j = oj :: rest') (hr : Region.ready md l.toArray listed = [i, j]) (hw : Region.wanted oi (yielded l.toArray a.tmps) = true) (hw' : Region.wanted oj (yielded l.toArray a.tmps) = true)
    (h : ∀ K' : Act → World → Prop, Shut (∀ a w, S w → (S w → wpAnyL P md l.toArray Q m S fuel (listed.setIfInBounds i true) a w) → K' a w) → Oper.wp P oi a w K' Q)
    (h' : ∀ K' : Act → World → Prop, Shut (∀ a w, S w → (S w → wpAnyL P md l.toArray Q m S fuel (listed.setIfInBounds j true) a w) → K' a w) → Oper.wp P oj a w K' Q) : wpAnyL P md l.toArray Q m S (fuel + 1) listed a w := by
  refine ⟨fun h0 => absurd (hr ▸ h0) (by simp), fun k hk => ?_⟩
  rw [hr] at hk
  have hk' : k = i ∨ k = j := by simpa using hk
  rcases hk' with e | e
  · subst e
    exact wpOp_step (drop_at hi) fun K' hK => by rw [if_pos hw]; exact h K' fun a w hS hW => hK a w ⟨fun _ => hS, hW hS⟩
  · subst e
    exact wpOp_step (drop_at hj) fun K' hK => by rw [if_pos hw']; exact h' K' fun a w hS hW => hK a w ⟨fun _ => hS, hW hS⟩
end
end Go.Proofs.Ytfnhafgjdnlhiaa

/- Lists of transactions of the call's own, and as the source of an append; general steps, nothing here speaks of the program but the types. -/
namespace Go.Proofs.Ytfnhafgjdnlhiaa
open Go.RowKit

/-- v owns these transactions, in a block from B on. -/
abbrev OwnX (E : TypeId) (w : World) (B : Nat) (v : Value) (l : List Tx) : Prop := OwnN E 4 w B v (l.map txN)
theorem OwnX.sl {E : TypeId} {w : World} {B : Nat} {v : Value} {l : List Tx} (h : OwnX E w B v l) : ∃ a c, v = .slice a l.length c ∧ l.length ≤ c := by
  obtain ⟨a, c, rfl, h2⟩ := OwnN.slice h
  rw [List.length_map] at h2 ⊢
  exact ⟨a, c, rfl, h2⟩
theorem OwnX.txs {E : TypeId} {w : World} {B : Nat} {v : Value} {l : List Tx} (h : OwnX E w B v l) : ∃ fp, Txs w l v fp := by
  obtain ⟨a, c, fp, rfl, _, hr⟩ := txs_of h
  exact ⟨fp, hr⟩
theorem OwnX.fresh (E : TypeId) (w : World) : OwnX E (w.alloc (.cells #[] E)) w.heap.size (.slice (some ⟨w.heap.size, 0, none⟩) 0 0) [] := OwnN.empty E 4 w
theorem OwnX.setc {E : TypeId} {w : World} {B : Nat} {v : Value} {l : List Tx} (h : OwnX E w B v l) {b : Nat} (hne : ∀ g, v.ownBlock = some g → g ≠ b) (j : Nat) (u : Value) : OwnX E (w.setCell ⟨b, j, none⟩ u) B v l :=
  OwnN.kept h (grownBy_set w b j u) fun g e e2 => hne g e (by injection e2 with e2; exact e2.symm)
theorem flN_tx (l : List Tx) : (flN (l.map txN)).length = l.length * 4 := by
  rw [flN_len (sz := 4) (fun e he => by obtain ⟨x, _, rfl⟩ := List.mem_map.1 he; rfl), List.length_map]
theorem flN_cutX (l m : List Tx) : flN ((l ++ m).map txN) = flN (l.map txN) ++ flN (m.map txN) := by rw [List.map_append, flN_app]
/-- A list of transactions as the source of an append. -/
def TSrc (w : World) (va : Option Addr) (vc : Nat) (l : List Tx) : Prop := (va = none ∧ l = [] ∧ vc = 0) ∨ ∃ q, va = some q ∧ SrcN w q (l.map txN)
theorem TSrc.below {w w' : World} {va : Option Addr} {vc : Nat} {l : List Tx} (h : TSrc w va vc l) (hb : Below w.heap.size w w') : TSrc w' va vc l := h.imp id fun ⟨q, e, hq⟩ => ⟨q, e, hq.below hb⟩
theorem SrcN.txs {w : World} {b off : Nat} {l : List Tx} (h : ∀ k (hk : k < l.length), w.cell? ⟨b, off + k * 4, none⟩ = some (.int .i64 l[k].f) ∧ w.cell? ⟨b, off + k * 4 + 1, none⟩ = some (.int .i64 l[k].t) ∧ w.cell? ⟨b, off + k * 4 + 2, none⟩ = some (.int .i64 l[k].s) ∧ w.cell? ⟨b, off + k * 4 + 3, none⟩ = some (.int .i64 l[k].e)) : SrcN w ⟨b, off, none⟩ (l.map txN) := by
  intro p u hp
  have hpl : p < l.length * 4 := by rw [← flN_tx]; exact (List.getElem?_eq_some_iff.1 hp).1
  have hk : p / 4 < l.length := by omega
  have hk' : p / 4 < (l.map txN).length := by simpa using hk
  have e1 : p = p / 4 * 4 + p % 4 := by omega
  have hge : (l.map txN)[p / 4] = txN l[p / 4] := by simp
  rw [e1, flN_at (sz := 4) (fun e he => by obtain ⟨x, _, rfl⟩ := List.mem_map.1 he; rfl) (p / 4) (p % 4) hk' (by omega), hge] at hp
  rw [addr_add']
  simp only [show (⟨b, off + p, none⟩ : Addr) = ⟨b, off + p / 4 * 4 + p % 4, none⟩ by congr 1; omega]
  obtain ⟨h0, h1, h2, h3⟩ := h (p / 4) hk
  have h4 : p % 4 < 4 := by omega
  match hm : p % 4, h4 with
  | 0, _ => rw [hm] at hp; rw [show off + p / 4 * 4 + 0 = off + p / 4 * 4 from rfl, h0]; simpa [rwN, txN] using hp
  | 1, _ => rw [hm] at hp; rw [h1]; simpa [rwN, txN] using hp
  | 2, _ => rw [hm] at hp; rw [h2]; simpa [rwN, txN] using hp
  | 3, _ => rw [hm] at hp; rw [h3]; simpa [rwN, txN] using hp
theorem SrcN.takeX {w : World} {ad : Addr} {l : List Tx} (h : SrcN w ad (l.map txN)) (k : Nat) : SrcN w ad ((l.take k).map txN) := by
  intro p u hp
  have h1 := flN_cutX (l.take k) (l.drop k)
  rw [List.take_append_drop] at h1
  refine h p u ?_
  rw [h1, List.getElem?_append_left (List.getElem?_eq_some_iff.1 hp).1]
  exact hp
theorem SrcN.dropX {w : World} {q : Addr} {l : List Tx} (h : SrcN w q (l.map txN)) (k : Nat) : SrcN w (q.add (k * 4)) ((l.drop k).map txN) := by
  intro p u hp
  by_cases hk : k ≤ l.length
  · have h1 := flN_cutX (l.take k) (l.drop k)
    rw [List.take_append_drop] at h1
    have hl : (flN ((l.take k).map txN)).length = k * 4 := by rw [flN_tx, List.length_take]; omega
    have hd : flN ((l.drop k).map txN) = (flN (l.map txN)).drop (k * 4) := by
      rw [h1, List.drop_append_of_le_length (by omega), show (flN ((l.take k).map txN)).drop (k * 4) = [] from List.drop_of_length_le (by omega)]
      rfl
    rw [hd, List.getElem?_drop] at hp
    have := h _ _ hp
    rw [← this]
    simp only [Addr.add]
    by_cases e1 : k * 4 = 0 <;> by_cases e2 : p = 0 <;> simp [e1, e2, Nat.add_assoc]
  · rw [List.drop_of_length_le (by omega)] at hp; simp [flN] at hp
theorem SrcN.nilX {w : World} {q : Addr} : SrcN w q (([] : List Tx).map txN) := fun j u hj => by simp [flN] at hj
theorem tsrc_of {w : World} {l : List Tx} {va : Option Addr} {vc : Nat} {fp : List Nat} (h : Txs w l (.slice va l.length vc) fp) : TSrc w va vc l := by
  by_cases h0 : l = []
  · subst h0
    cases va with
    | some q => exact .inr ⟨q, rfl, SrcN.nilX⟩
    | none => exact .inl ⟨rfl, rfl, Rd.nilcap h⟩
  · obtain ⟨b, off, rfl, _, hat⟩ := h.at (List.length_pos_iff.2 h0)
    exact .inr ⟨_, rfl, SrcN.txs hat⟩
theorem txs_cap {w : World} {l : List Tx} {va : Option Addr} {vc : Nat} {fp : List Nat} (h : Txs w l (.slice va l.length vc) fp) : l.length ≤ vc := by
  obtain ⟨a, c, e, hc⟩ := h.slice
  injection e with _ _ e3; omega
theorem tsrc_parts {w : World} {va : Option Addr} {vc : Nat} {l : List Tx} (h : TSrc w va vc l) (hc : l.length ≤ vc) {k : Nat} (hk : k ≤ l.length) :
    TSrc w va vc (l.take k) ∧ TSrc w (if vc = k then va else va.map (·.add (k * 4))) (vc - k) (l.drop k) := by
  rcases h with ⟨rfl, rfl, rfl⟩ | ⟨q, rfl, hq⟩
  · exact ⟨.inl ⟨rfl, by simp, rfl⟩, .inl ⟨by split <;> rfl, by simp, by simp⟩⟩
  · refine ⟨.inr ⟨q, rfl, hq.takeX k⟩, ?_⟩
    by_cases e : vc = k
    · rw [if_pos e, List.drop_of_length_le (by omega)]; exact .inr ⟨q, rfl, SrcN.nilX⟩
    · rw [if_neg e]; exact .inr ⟨_, rfl, hq.dropX k⟩
theorem srcX_one {w : World} {B : Nat} {E : TypeId} {x : Tx} (h : Str w B E #[.int .i64 x.f, .int .i64 x.t, .int .i64 x.s, .int .i64 x.e]) : SrcN w ⟨B, 0, none⟩ ([x].map txN) := by
  intro p u hp
  rw [addr_add']
  simp only [Nat.zero_add]
  match p with
  | 0 | 1 | 2 | 3 => exact h.cell _ (by simpa [flN, rwN, txN] using hp)
  | n + 4 => simp [flN, rwN, txN] at hp
theorem setx1 {w : World} {B j : Nat} {v : Value} {q : Nat} (hq : q < w.heap.size) (hne : q ≠ B) : (w.setCell ⟨B, j, none⟩ v).heap[q]? = w.heap[q]? := (grownBy_set _ B j v).block q hq (by simpa using hne)
theorem setx2 {w : World} {B j j' : Nat} {v v' : Value} {q : Nat} (hq : q < w.heap.size) (hne : q ≠ B) : ((w.setCell ⟨B, j, none⟩ v).setCell ⟨B, j', none⟩ v').heap[q]? = w.heap[q]? :=
  ((grownBy_set _ B j' v').block q (by simpa using hq) (by simpa using hne)).trans ((grownBy_set _ B j v).block q hq (by simpa using hne))

theorem tq_T : Try.prog.underlying 26 = some (.slice 41) := Try.underlying26
theorem tq_inf : (Try.prog.info? 41).map (fun i => (i.zero, i.size, i.bytes)) = some (some (.agg #[.int .i64 0, .int .i64 0, .int .i64 0, .int .i64 0]), 4, 32) := by kernel_rfl
theorem op_app_X {w : World} {o : Oper} {a : Act} {K : Act → World → Prop} {Q : Exit → Act → World → Prop} (s x : Operand) (ho : o.op = .call { callee := .builtin .append, args := #[s, x], argTypes := #[26, 26] }) (B : Nat) (v : Value) (es es2 : List Tx) (ad : Option Addr) (c : Nat)
    (hs : a.eval s = v) (hb : OwnX 41 w B v es) (hx : a.eval x = .slice ad es2.length c) (hsrc : TSrc w ad c es2) (hlen : es.length + es2.length ≤ 1048577) (hB : B ≤ w.heap.size)
    (h : ∀ v' w', OwnX 41 w' B v' (es ++ es2) → w.grownBy w' v.ownBlock → (∀ g, v'.ownBlock = some g → v.ownBlock = some g ∨ w.heap.size ≤ g) → K (a.put o.dst v') w') : Oper.wp Try.prog o a w K Q :=
  op_app_N tq_T tq_inf rfl (by decide) (by decide) s x ho B v (es.map txN) (es2.map txN) ad c hs hb (by rw [hx, List.length_map]) (fun e he => by obtain ⟨y, _, rfl⟩ := List.mem_map.1 he; rfl) (hsrc.imp (fun ⟨h1, h2, h3⟩ => ⟨h1, by rw [h2]; rfl, h3⟩) id) (by rw [List.length_map, List.length_map]; exact hlen) hB
    fun v' w' h1 h2 h3 => h v' w' (by unfold OwnX; rw [List.map_append]; exact h1) h2 h3
theorem wpList_app_X {w : World} {ops : Array Oper} {rest : List Oper} {o : Oper} {a : Act} {Q : Exit → Act → World → Prop} (hgd : Region.wanted o (yielded ops a.tmps) = true) (s x : Operand) (ho : o.op = .call { callee := .builtin .append, args := #[s, x], argTypes := #[26, 26] }) (B : Nat) (v : Value) (es es2 : List Tx) (ad : Option Addr) (c : Nat)
    (hs : a.eval s = v) (hb : OwnX 41 w B v es) (hx : a.eval x = .slice ad es2.length c) (hsrc : TSrc w ad c es2) (hlen : es.length + es2.length ≤ 1048577) (hB : B ≤ w.heap.size)
    (h : ∀ v' w', OwnX 41 w' B v' (es ++ es2) → w.grownBy w' v.ownBlock → (∀ g, v'.ownBlock = some g → v.ownBlock = some g ∨ w.heap.size ≤ g) → wpList Try.prog ops Q rest (a.put o.dst v') w') : wpList Try.prog ops Q (o :: rest) a w :=
  wpList_want hgd fun _ hK => op_app_X s x ho B v es es2 ad c hs hb hx hsrc hlen hB fun v' w' h1 h2 h3 => hK _ _ (h v' w' h1 h2 h3)
theorem TSrc.parts {w : World} {va : Option Addr} {vc : Nat} {g : List Tx} (h : TSrc w va vc g) (hc : g.length ≤ vc) {k : Nat} (hk : k ≤ g.length) :
    (∀ W, (Instr.slice 26 (.slice va g.length vc) none (some (.int .i64 k)) none).run Try.prog W = .ok (.slice va (g.take k).length vc) W) ∧ TSrc w va vc (g.take k) ∧
    ∃ ad ac, (∀ W, (Instr.slice 26 (.slice va g.length vc) (some (.int .i64 k)) none none).run Try.prog W = .ok (.slice ad (g.drop k).length ac) W) ∧ TSrc w ad ac (g.drop k) := by
  obtain ⟨h1, h2⟩ := tsrc_parts h hc hk
  have ht : Try.prog.underlying 26 = some (.slice (Try.prog.elem 26)) := by kernel_rfl
  have hs : ∀ W, (sizeOf (Try.prog.elem 26)).run Try.prog W = .ok 4 W := fun W => by kernel_rfl
  refine ⟨fun W => ?_, h1, _, _, fun W => ?_, h2⟩
  · rw [run_slice_h (ht := ht) (h0 := by omega) (h2 := by omega), hs]
    simp only [Result.andThen, sliced, Int.toNat_natCast, List.length_take, Nat.min_eq_left hk, Nat.sub_zero]
    have e : (if vc = 0 then va else va.map (·.add (0 * 4))) = va := by
      split
      · rfl
      · cases va <;> simp [Addr.add]
    rw [e]
  · rw [run_slice_l (ht := ht) (h0 := by omega) (h1 := by omega), hs]
    simp only [Result.andThen, sliced, Int.toNat_natCast, List.length_drop]

end Go.Proofs.Ytfnhafgjdnlhiaa

/- Lists of truth values in memory of their own; general steps, nothing here speaks of the program. -/
namespace Go.Proofs.Ytfnhafgjdnlhiaa
open Go.RowKit

/-- The slice value v owns the truth values bs in memory made from block B on. -/
def OwnB (E : TypeId) (w : World) (B : Nat) (v : Value) (bs : List Bool) : Prop := w.ownsRow B E 1 v bs.length (bs.map Value.bool)
section
variable {E : TypeId} {w w' : World} {B : Nat} {v : Value} {bs : List Bool}
theorem OwnB.kept {row : Option Nat} (h : OwnB E w B v bs) (hg : w.grownBy w' row) (hne : v.ownBlock = none ∨ v.ownBlock ≠ row) : OwnB E w' B v bs := World.ownsRow.kept h hg hne
theorem OwnB.below (h : OwnB E w B v bs) (hg : Below w.heap.size w w') : OwnB E w' B v bs := h.kept (below_grown hg) (by cases hv : v.ownBlock <;> simp)
theorem OwnB.lt (h : OwnB E w B v bs) : ∀ k, v.ownBlock = some k → B ≤ k ∧ k < w.heap.size := World.ownsRow.lt h
theorem OwnB.mono {B' : Nat} (h : OwnB E w B v bs) (hB : B' ≤ B) : OwnB E w B' v bs := by
  refine ⟨h.1, ?_⟩
  rcases h.2 with h0 | ⟨g, cap, cur, e, hb, rest⟩
  · exact .inl h0
  · exact .inr ⟨g, cap, cur, e, by omega, rest⟩
theorem OwnB.slice (h : OwnB E w B v bs) : ∃ a cap, v = .slice a bs.length cap ∧ bs.length ≤ maxLen := by
  rcases h.2 with ⟨rfl, h0⟩ | ⟨g, cap, cur, rfl, hb, hg, hn, hm, hs, ht⟩
  · exact ⟨none, 0, by rw [h0], by rw [h0]; simp⟩
  · exact ⟨_, cap, rfl, by omega⟩
theorem OwnB.row (h : OwnB E w B v bs) (hx : 0 < bs.length) : ∃ g cap, v = .slice (some ⟨g, 0, none⟩) bs.length cap ∧ B ≤ g ∧ g < w.heap.size ∧ bs.length ≤ cap ∧
    (∀ j (h : j < bs.length), w.cell? ⟨g, j, none⟩ = some (.bool bs[j])) ∧ ∀ j, w.frozen? ⟨g, j, none⟩ = false := by
  rcases h.2 with ⟨rfl, h0⟩ | ⟨g, cap, cur, rfl, hb, hg, hn, hm, hs, ht⟩
  · omega
  · refine ⟨g, cap, rfl, hb, (Array.getElem?_eq_some_iff.1 hg).1, hn, fun j hj => ?_, fun j => frozen_of_row w g j cur E hg⟩
    have hc := World.ownsRow.cells (w := w) (base := B) (e := E) (size := 1) (v := .slice (some ⟨g, 0, none⟩) bs.length cap) (n := bs.length) (xs := bs.map Value.bool) h (g := g) rfl j (.bool bs[j]) (by simp [hj])
    rwa [addr_add] at hc
theorem OwnB.store {g cap n : Nat} (h : OwnB E w B (.slice (some ⟨g, 0, none⟩) n cap) bs) (hn : n = bs.length) (j : Nat) (z : Bool) :
    OwnB E (w.setCell ⟨g, j, none⟩ (.bool z)) B (.slice (some ⟨g, 0, none⟩) n cap) (bs.set j z) ∧ w.grownBy (w.setCell ⟨g, j, none⟩ (.bool z)) (some g) := by
  subst hn
  have := World.ownsRow.stored (w := w) (base := B) (e := E) (size := 1) (g := g) (n := bs.length) (cap := cap) h j (.bool z)
  refine ⟨?_, this.2⟩
  unfold OwnB
  rw [List.map_set, List.length_set]
  exact this.1
theorem OwnB.apart {E' : TypeId} {B' : Nat} {u : Value} {xs : List Int} (h' : OwnB E w B v bs) (h : Own E' w B' u xs) (hE : E ≠ E') : v.ownBlock = none ∨ v.ownBlock ≠ u.ownBlock := by
  rcases h'.2 with ⟨rfl, _⟩ | ⟨g, cap, cur, rfl, _, hg, _⟩
  · exact .inl rfl
  · rcases h.2 with ⟨rfl, _⟩ | ⟨g', cap', cur', rfl, _, hg', _⟩
    · exact .inr (fun e => by cases e)
    · refine .inr fun e => hE ?_
      have e' : g = g' := by cases e; rfl
      subst e'
      rw [hg] at hg'
      cases hg'
      rfl
/-- New memory holds no truth. -/
theorem ownB_new (E : TypeId) (w : World) (n : Nat) (hm : n ≤ maxLen) : OwnB E (w.alloc (.cells (madeCells #[.bool false] n) E)) w.heap.size (.slice (some ⟨w.heap.size, 0, none⟩) n n) (List.replicate n false) := by
  have e : (madeCells #[Value.bool false] n).toList = (List.replicate n false).map Value.bool := by
    refine List.ext_getElem (by simp [madeCells]) fun i h1 h2 => ?_
    simp [madeCells, Nat.mod_one]
  have hs : (madeCells #[Value.bool false] n).size = n := by simp [madeCells]
  refine ⟨by simp, .inr ⟨w.heap.size, n, _, by simp, Nat.le_refl _, heap_alloc_new w _, by simp, hm, by rw [hs, Nat.mul_one], ?_⟩⟩
  rw [e]
  exact List.take_of_length_le (by simp)
end

end Go.Proofs.Ytfnhafgjdnlhiaa

/- Lists of truth values in memory: how they read, an append to them, their sameness; condition: the lists are shorter than 2^40. -/
namespace Go.Proofs.Ytfnhafgjdnlhiaa
open Go.RowKit

/-- The slice at address a reads as bs. -/
def BlsAt (w : World) (a : Option Addr) (bs : List Bool) : Prop :=
  bs = [] ∨ ∃ b off, a = some ⟨b, off, none⟩ ∧ b < w.heap.size ∧ ∀ j (h : j < bs.length), w.cell? ⟨b, off + j, none⟩ = some (.bool bs[j])
theorem BlsAt.below {w w' : World} {a : Option Addr} {bs : List Bool} (h : BlsAt w a bs) (hb : Below w.heap.size w w') : BlsAt w' a bs := by
  rcases h with h | ⟨b, off, e, hl, hc⟩
  · exact .inl h
  · exact .inr ⟨b, off, e, Nat.lt_of_lt_of_le hl hb.size, fun j hj => (hb.cell (p := ⟨b, off + j, none⟩) hl).trans (hc j hj)⟩
theorem BlsAt.cell {w : World} {a : Option Addr} {bs : List Bool} (h : BlsAt w a bs) (hx : 0 < bs.length) : ∃ b off, a = some ⟨b, off, none⟩ ∧ b < w.heap.size ∧ ∀ j (h : j < bs.length), w.cell? ⟨b, off + j, none⟩ = some (.bool bs[j]) := by
  rcases h with rfl | h
  · simp at hx
  · exact h
theorem OwnB.at {E : TypeId} {w : World} {B n c : Nat} {a : Option Addr} {bs : List Bool} (h : OwnB E w B (.slice a n c) bs) : BlsAt w a bs := by
  rcases Nat.eq_zero_or_pos bs.length with h0 | h0
  · exact .inl (List.eq_nil_of_length_eq_zero h0)
  · obtain ⟨g, cap, e, _, hg, _, hc, _⟩ := h.row h0
    simp only [Value.slice.injEq] at e
    obtain ⟨rfl, _, _⟩ := e
    exact .inr ⟨g, 0, rfl, hg, fun j hj => by rw [Nat.zero_add]; exact hc j hj⟩
theorem OwnB.nil (E : TypeId) (w : World) (B : Nat) : OwnB E w B (.slice none 0 0) [] := World.ownsRow_nil _ _ _ _
theorem ownB_empty (E : TypeId) (w : World) {B : Nat} (hB : B ≤ w.heap.size) : OwnB E (w.alloc (.cells #[] E)) B (.slice (some ⟨w.heap.size, 0, none⟩) 0 0) [] :=
  ⟨by simp, .inr ⟨w.heap.size, 0, #[], rfl, hB, heap_alloc_new w _, by simp, by simp, by simp, by simp⟩⟩
theorem OwnB.alloc {E : TypeId} {w : World} {B : Nat} {v : Value} {bs : List Bool} (h : OwnB E w B v bs) (o : Obj) : OwnB E (w.alloc o) B v bs := World.ownsRow.alloc h o
theorem OwnB.drewN {E : TypeId} {w : World} {B : Nat} {v : Value} {bs : List Bool} (h : OwnB E w B v bs) (n : Nat) : OwnB E (w.drewN n) B v bs := h
theorem OwnB.set_other {E : TypeId} {w : World} {B : Nat} {v : Value} {bs : List Bool} (h : OwnB E w B v bs) {B' : Nat} (hne : v.ownBlock ≠ some B') (j : Nat) (u : Value) : OwnB E (w.setCell ⟨B', j, none⟩ u) B v bs := h.kept ⟨rfl, rfl, rfl, by simp [World.setCell], fun k _ hk => Below.heap_setCell _ _ _ k (fun e => hk (by rw [e]))⟩ (.inr hne)
/-- T is the type of slices of truth values, E the type of truth values. -/
structure BoolT (P : Program) (T E : TypeId) : Prop where
  sl : P.underlying T = some (.slice E)
  info : (P.info? E).map (fun i => (i.zero, i.size, i.bytes)) = some (some (.bool false), 1, 1)
theorem cells_oneB (w : World) (E : TypeId) (z : Bool) : ∀ (j : Nat) u, [Value.bool z][j]? = some u → (w.alloc (.cells #[.bool z] E)).cell? ((⟨w.heap.size, 0, none⟩ : Addr).add j) = some u := by
  intro j u hu
  match j, hu with
  | 0, hu => rw [addr_add, World.cell?_alloc_at _ _ _ _ rfl]; simpa using hu
  | j + 1, hu => simp at hu
/-- 'append(s, z)', and where the new slice lies. -/
theorem wpList_push_b {P : Program} {T E : TypeId} (hT : BoolT P T E) {w : World} {ops : Array Oper} {rest : List Oper} {o : Oper} {a : Act} {Q : Exit → Act → World → Prop} (hgd : Region.wanted o (yielded ops a.tmps) = true) (s x : Operand)
    (ho : o.op = .call { callee := .builtin .append, args := #[s, x], argTypes := #[T, T] }) (B : Nat) (v : Value) (bs : List Bool) (z : Bool) (hs : a.eval s = v) (hown : OwnB E w B v bs)
    (hlen : bs.length ≤ 1048576) (hx : a.eval x = .slice (some ⟨w.heap.size, 0, none⟩) 1 1) (hB : B ≤ w.heap.size)
    (h : ∀ v' w', OwnB E w' B v' (bs ++ [z]) → w.grownBy w' v.ownBlock → (v'.ownBlock = v.ownBlock ∨ ∃ g, v'.ownBlock = some g ∧ w.heap.size ≤ g) → wpList P ops Q rest (a.put o.dst v') w') : wpList P ops Q (o :: rest) a (w.alloc (.cells #[.bool z] E)) := by
  refine wpList_want hgd fun K hK => ?_
  obtain ⟨i, hi, hz, hsz, hby⟩ := info_parts hT.info
  obtain ⟨v', w', hr, h1, h2, _, h4⟩ := run_append_own_at (P := P) (w.alloc (.cells #[.bool z] E)) B T o.type E i (.bool false) 1 1 hT.sl hi hz hsz hby rfl (by decide) v bs.length _ (World.ownsRow.alloc hown _) ⟨w.heap.size, 0, none⟩ 1 1 [.bool z] rfl (cells_oneB _ _ _) (by intro u hu; simp at hu; subst hu; rfl) (by unfold maxLen; omega) (by omega) (by simp; omega)
  unfold Oper.wp execOp
  simp only [ho, resolve, invoke, builtin, Sem.run_bind, Sem.run_pure, Result.andThen_ok, List.map_toArray, List.map_cons, List.map_nil, hs, hx, hr]
  refine hK _ _ (h v' w' ?_ (grownBy_trans (World.grownBy_alloc _ _ _) h2) ?_)
  · unfold OwnB; simpa using h1
  · rcases h4 with h4 | h4
    · exact .inl h4
    · exact .inr ⟨_, h4, by simp⟩

theorem laws_sameBools (a a' : Option Addr) (cap cap' : Nat) (xs : List Bool) (w : World) (hbig : xs.length ≤ 1048577) (hc : BlsAt w a xs) (hc' : BlsAt w a' xs) :
    Calls Try.prog 12 #[.slice a xs.length cap, .slice a' xs.length cap'] w fun e w' => e = .returned (.bool true) ∧ Below w.heap.size w w' := by
  rcases Nat.eq_zero_or_pos xs.length with h0 | h0
  · obtain rfl : xs = [] := List.eq_nil_of_length_eq_zero h0
    go_enter Try.func12, Try.ntmps12
    go_wp2
    go_loopw [5] (fun i wr => i = .int .i64 0 ∧ Drawn w wr) (fun _ _ => 0)
    case atStart => exact ⟨rfl, Drawn.refl _⟩
    case round =>
      obtain ⟨rfl, hwr⟩ := hrel
      go_wp2
      go_ret
      exact ⟨rfl, hwr.below _⟩
  obtain ⟨b, off, rfl, hb, hc⟩ := hc.cell h0
  obtain ⟨b', off', rfl, hb', hc'⟩ := hc'.cell h0
  have Hc := Lib.hid hc; have Hc' := Lib.hid hc'; clear hc hc'
  go_enter Try.func12, Try.ntmps12
  go_wp2
  go_loopw [5] (fun i wr => ∃ k : Nat, k ≤ xs.length ∧ i = .int .i64 k ∧ Drawn w wr) (fun i _ => xs.length - (intOf i).toNat)
  case atStart => exact ⟨0, by omega, rfl, Drawn.refl _⟩
  case round =>
    obtain ⟨k, hk, rfl, hwr⟩ := hrel
    by_cases hlt : k < xs.length
    · have hcell := (hwr.cell ⟨b, off + k, none⟩).trans (Hc.out k hlt)
      have hcell' := (hwr.cell ⟨b', off' + k, none⟩).trans (Hc'.out k hlt)
      generalize xs[k] = z at *
      have hz : (z != z) = false := by simp
      go_wp2
      go_quiet (fail)
      go_wp2
      go_roundw
      case rel => exact ⟨k + 1, by omega, by go_num, hwr.drewN _⟩
      case measure => simp [intOf]; omega
    · go_wp2
      go_ret
      exact ⟨rfl, hwr.below _⟩

end Go.Proofs.Ytfnhafgjdnlhiaa
