/- The exact laws' functions on values and lists of Vote: sameness, copies, sizes, marks, each by a walk of its text; conditions: the lists are no longer than the laws' bound. -/
import Derived.Test.YtkndndcjchlpdaaRows
import Derived.Test.YtkndndcjchlpdaaBase
import Derived.Test.YtkndndcjchlpdaaApp
import Derived.Test.YtkndndcjchlpdaaDt
import Derived.Test.YtkndndcjchlpdaaOwR
import Derived.Test.YtkndndcjchlpdaaOwS
import Derived.Test.YtkndndcjchlpdaaRow
import Derived.Test.YtkndndcjchlpdaaEx
import Derived.Test.YtkndndcjchlpdaaHeld
import Derived.Test.YtkndndcjchlpdaaL1
import Derived.Test.YtkndndcjchlpdaaL2
import Derived.Test.YtkndndcjchlpdaaOpen
import Derived.Deep.QuietTactic
import Derived.BigQuiet
namespace Go.Proofs.Ytkndndcjchlpdaa
open Go.RowKit

def voteP (e : List Fd) : Prop := ∃ (x0 : Int) (x1 : Int) (x2 : Int), e = [.i x0, .i x1, .i x2]
theorem voteP_len {es : List (List Fd)} (h : ∀ e ∈ es, voteP e) : ∀ e ∈ es, e.length = 3 := by
  intro e he
  obtain ⟨_, _, _, rfl⟩ := h e he
  rfl

theorem vote_inf : (Try.prog.info? 27).map (fun i => (i.zero, i.size, i.bytes)) = some (some (.agg #[.int .i64 0, .int .i64 0, .int .i64 0]), 3, 24) := by kernel_rfl

set_option maxRecDepth 8000 in
/-- A list of Vote that came in. -/
theorem open_VoteS {H : Type} {enc : TypeId × Value → H} {W : World} {base : Nat} {v : Value} {d : DataW H} {p : List MemPlace} (hv : Value.okWide Try.prog W .any base 39 v) (h : DataW.Trod enc Try.prog W 0 (fun _ => true) true 39 v d p) :
    ∃ es fp, Rd W (rowsD es) v fp ∧ es.length ≤ maxLen ∧ ∀ e ∈ es, voteP e ∧ fitE e := by
  obtain ⟨a, len, cap, rfl⟩ := Go.WideShapes.okWide_slice Try.underlying39 hv
  obtain ⟨d, fp, hr, hg⟩ := open_cell (opens_slice_struct (Gs := [IntG, IntG, IntG]) Try.underlying39 (by kernel_rfl) Try.underlying42 (by kernel_rfl) (by first | decide | exact Nat.zero_lt_succ _ | simp) rfl (fun j h h' => by
    match j, h, h' with
    | 0, _, _ => exact ⟨rfl, opens_int Try.underlying3 (by kernel_rfl)⟩
    | 1, _, _ => exact ⟨rfl, opens_int Try.underlying3 (by kernel_rfl)⟩
    | 2, _, _ => exact ⟨rfl, opens_int Try.underlying3 (by kernel_rfl)⟩)) rfl h
  obtain ⟨es, rfl, hl, hp⟩ := rows_of hg (P := fun e => voteP e ∧ fitE e) (fun e he hf => by
    match e, he with
    | [d0, d1, d2], _ =>
      obtain ⟨x0, rfl, b0⟩ := hf 0 (by simp) (by simp)
      obtain ⟨x1, rfl, b1⟩ := hf 1 (by simp) (by simp)
      obtain ⟨x2, rfl, b2⟩ := hf 2 (by simp) (by simp)
      exact ⟨[.i x0, .i x1, .i x2], rfl, ⟨x0, x1, x2, rfl⟩, fun _ hx => by
        simp at hx
        rcases hx with rfl | rfl | rfl
        · exact b0
        · exact b1
        · exact b2,
      fun _ hx => by simp at hx⟩)
  exact ⟨es, fp, hr, hl, hp⟩

set_option maxRecDepth 8000 in
/-- A Vote that came in by value. -/
theorem open_Vote {H : Type} {enc : TypeId × Value → H} {W : World} {base : Nat} {v : Value} {d : DataW H} {p : List MemPlace} (hv : Value.okWide Try.prog W .any base 42 v) (h : DataW.Trod enc Try.prog W 0 (fun _ => true) true 42 v d p) :
    ∃ x0 x1 x2, v = .agg #[.int .i64 x0, .int .i64 x1, .int .i64 x2] ∧ (-9223372036854775808 ≤ x0 ∧ x0 ≤ 9223372036854775807) ∧ (-9223372036854775808 ≤ x1 ∧ x1 ≤ 9223372036854775807) ∧ (-9223372036854775808 ≤ x2 ∧ x2 ≤ 9223372036854775807) := by
  obtain ⟨cs, rfl, hl, hf⟩ := open_struct (Gs := [IntG, IntG, IntG]) Try.underlying42 (by kernel_rfl) rfl (fun j h h' => by
    match j, h, h' with
    | 0, _, _ => exact ⟨rfl, opens_int Try.underlying3 (by kernel_rfl)⟩
    | 1, _, _ => exact ⟨rfl, opens_int Try.underlying3 (by kernel_rfl)⟩
    | 2, _, _ => exact ⟨rfl, opens_int Try.underlying3 (by kernel_rfl)⟩) hv h
  match cs, hl with
  | [u0, u1, u2], _ =>
    obtain ⟨d0, f0, r0, x0, rfl, b0⟩ := hf 0 (by simp) (by simp)
    obtain ⟨rfl, _⟩ := Rd.int (show Rd W (.i x0) u0 f0 from r0)
    obtain ⟨d1, f1, r1, x1, rfl, b1⟩ := hf 1 (by simp) (by simp)
    obtain ⟨rfl, _⟩ := Rd.int (show Rd W (.i x1) u1 f1 from r1)
    obtain ⟨d2, f2, r2, x2, rfl, b2⟩ := hf 2 (by simp) (by simp)
    obtain ⟨rfl, _⟩ := Rd.int (show Rd W (.i x2) u2 f2 from r2)
    exact ⟨x0, x1, x2, rfl, b0, b1, b2⟩

theorem laws_eqVoteR (x0 : Int) (x1 : Int) (x2 : Int) (w : World) :
    Calls Try.prog 64 #[.agg #[.int .i64 x0, .int .i64 x1, .int .i64 x2], .agg #[.int .i64 x0, .int .i64 x1, .int .i64 x2]] w fun e w' => e = .returned (.bool true) ∧ Below w.heap.size w w' := by
  have hb : Below w.heap.size w ((w.alloc (.cells #[.int .i64 x0, .int .i64 x1, .int .i64 x2] 27)).alloc (.cells #[.int .i64 x0, .int .i64 x1, .int .i64 x2] 27)) := ((Below.refl _ w).alloc (Nat.le_refl _) _).alloc (by simp) _
  go_enter Try.func64, Try.ntmps64
  go_wp2
  go_ret
  exact ⟨rfl, hb⟩

set_option maxHeartbeats 1000000 in
theorem laws_eqVoteSR (es : List (List Fd)) (v v' : Value) (fp fp' : List Nat) (w : World) (hbig : es.length ≤ 1099511627776) (hp : ∀ e ∈ es, voteP e) (hl : ∀ e ∈ es, lnE e ≤ 1099511627776) (hr : Rd w (rowsD es) v fp) (hr' : Rd w (rowsD es) v' fp') :
    Calls Try.prog 53 #[v, v'] w fun e w' => e = .returned (.bool true) ∧ Below w.heap.size w w' := by
  have Hm := Lib.hid (voteP_len hp)
  obtain ⟨a, cap, rfl⟩ := Rd.slice hr
  obtain ⟨a', cap', rfl⟩ := Rd.slice hr'
  rw [List.length_map] at *
  have Hr := Lib.hid hr; clear hr
  have Hr' := Lib.hid hr'; clear hr'
  have Hp := Lib.hid hp; clear hp
  have Hl := Lib.hid hl; clear hl
  go_enter Try.func53, Try.ntmps53
  go_wp2
  go_loopw [5] (fun i wr => ∃ k : Nat, k ≤ es.length ∧ i = .int .i64 k ∧ Below w.heap.size w wr) (fun i _ => es.length - (intOf i).toNat)
  case atStart => exact ⟨0, by omega, rfl, Below.refl _ _⟩
  case round =>
    obtain ⟨k, hk, rfl, hbel⟩ := hrel
    by_cases hlt : k < es.length
    · obtain ⟨g, off, rfl, hg, hat⟩ := rows_at (Hr.out.under hbel) (by omega) Hm.out
      obtain ⟨g', off', rfl, hg', hat'⟩ := rows_at (Hr'.out.under hbel) (by omega) Hm.out
      obtain ⟨x0, x1, x2, he⟩ := Hp.out _ (List.getElem_mem hlt)
      have hle := Hl.out _ (List.getElem_mem hlt)
      rw [he] at hle
      obtain ⟨v0, f0, C0, R0⟩ := hat k hlt 0 (by rw [he]; simp)
      obtain rfl := rd_i R0 (x := x0) (by simp only [he]; rfl)
      clear R0
      obtain ⟨v1, f1, C1, R1⟩ := hat k hlt 1 (by rw [he]; simp)
      obtain rfl := rd_i R1 (x := x1) (by simp only [he]; rfl)
      clear R1
      obtain ⟨v2, f2, C2, R2⟩ := hat k hlt 2 (by rw [he]; simp)
      obtain rfl := rd_i R2 (x := x2) (by simp only [he]; rfl)
      clear R2
      simp only [Nat.add_zero] at C0
      obtain ⟨v0, f0, C0', R0⟩ := hat' k hlt 0 (by rw [he]; simp)
      obtain rfl := rd_i R0 (x := x0) (by simp only [he]; rfl)
      clear R0
      obtain ⟨v1, f1, C1', R1⟩ := hat' k hlt 1 (by rw [he]; simp)
      obtain rfl := rd_i R1 (x := x1) (by simp only [he]; rfl)
      clear R1
      obtain ⟨v2, f2, C2', R2⟩ := hat' k hlt 2 (by rw [he]; simp)
      obtain rfl := rd_i R2 (x := x2) (by simp only [he]; rfl)
      clear R2
      simp only [Nat.add_zero] at C0'
      have Hbel := Lib.hid hbel; clear hbel hat hat' he hle
      have H := Lib.hid (fun w' (h : Below wr.heap.size wr w') => laws_eqVoteR x0 x1 x2 w')
      have hgl := Lib.hid (fun w' (h : Below wr.heap.size wr w') => (⟨Nat.lt_of_lt_of_le hg h.size, Nat.lt_of_lt_of_le hg' h.size⟩ : g < w'.heap.size ∧ g' < w'.heap.size))
      have hb0 : Below wr.heap.size wr wr.drew := (Below.refl _ _).drew
      clear hg hg'
      go_wp2_with fail
      refine wp_region_held_drew (S := fun w' => Below wr.heap.size wr w' ∧ w'.cell? ⟨g, off + k * 3, none⟩ = some (.int .i64 x0) ∧ w'.cell? ⟨g, off + k * 3 + 1, none⟩ = some (.int .i64 x1) ∧ w'.cell? ⟨g, off + k * 3 + 2, none⟩ = some (.int .i64 x2) ∧ w'.cell? ⟨g', off' + k * 3, none⟩ = some (.int .i64 x0) ∧ w'.cell? ⟨g', off' + k * 3 + 1, none⟩ = some (.int .i64 x1) ∧ w'.cell? ⟨g', off' + k * 3 + 2, none⟩ = some (.int .i64 x2)) (by kernel_rfl) ⟨hb0, C0, C1, C2, C0', C1', C2'⟩ (fun hH => ?_)
      refine takeH 0 (v := ?vs0) rfl (by kernel_rfl) (by kernel_rfl) (by kernel_rfl) (fun _ _ _ h => h) hH rfl ?ys0 ?rs0
      case ys0 => intro w hSw; go_simp; try with_reducible rfl
      try simp only [Act.put, List.setIfInBounds_toArray, List.set_cons_zero, List.set_cons_succ]
      refine takeH 1 (v := ?vs1) rfl (by kernel_rfl) (by kernel_rfl) (by kernel_rfl) (fun _ _ _ h => h) hH rfl ?ys1 ?rs1
      case ys1 => intro w hSw; go_simp; try with_reducible rfl
      try simp only [Act.put, List.setIfInBounds_toArray, List.set_cons_zero, List.set_cons_succ]
      refine takeH 2 (v := ?vs2) rfl (by kernel_rfl) (by kernel_rfl) (by kernel_rfl) (fun _ _ _ h => h) hH rfl ?ys2 ?rs2
      case ys2 => intro w hSw; go_simp; try with_reducible rfl
      try simp only [Act.put, List.setIfInBounds_toArray, List.set_cons_zero, List.set_cons_succ]
      refine takeH 3 (v := ?vs3) rfl (by kernel_rfl) (by kernel_rfl) (by kernel_rfl) (fun _ _ _ h => h) hH rfl ?ys3 ?rs3
      case ys3 => intro w hSw; go_simp; try with_reducible rfl
      try simp only [Act.put, List.setIfInBounds_toArray, List.set_cons_zero, List.set_cons_succ]
      refine takeH 4 (v := ?vs4) rfl (by kernel_rfl) (by kernel_rfl) (by kernel_rfl) (fun _ _ _ h => h) hH rfl ?ys4 ?rs4
      case ys4 => intro w hSw; go_simp; try with_reducible rfl
      try simp only [Act.put, List.setIfInBounds_toArray, List.set_cons_zero, List.set_cons_succ]
      refine takeH 5 (v := ?vs5) rfl (by kernel_rfl) (by kernel_rfl) (by kernel_rfl) (fun _ _ _ h => h) hH rfl ?ys5 ?rs5
      case ys5 => intro w hSw; go_simp; try with_reducible rfl
      try simp only [Act.put, List.setIfInBounds_toArray, List.set_cons_zero, List.set_cons_succ]
      refine takeH 6 (v := ?vs6) rfl (by kernel_rfl) (by kernel_rfl) (by kernel_rfl) (fun _ _ _ h => h) hH rfl ?ys6 ?rs6
      case ys6 => intro w hSw; go_simp; try with_reducible rfl
      try simp only [Act.put, List.setIfInBounds_toArray, List.set_cons_zero, List.set_cons_succ]
      refine takeH 7 (v := ?vs7) rfl (by kernel_rfl) (by kernel_rfl) (by kernel_rfl) (fun _ _ _ h => h) hH rfl ?ys7 ?rs7
      case ys7 => intro w hSw; go_simp; try with_reducible rfl
      try simp only [Act.put, List.setIfInBounds_toArray, List.set_cons_zero, List.set_cons_succ]
      refine callH 8 rfl (by kernel_rfl) rfl (fun K hK => ?_)
      go_simp
      go_at_call 64
      refine (H.out _ hH.1).mono ?_
      rintro e wx ⟨rfl, hbx⟩
      refine hK.out _ _ ⟨hH.1.trans (hbx.mono hH.1.size), (hbx.cell (p := ⟨g, off + k * 3, none⟩) (hgl.out _ hH.1).1).trans hH.2.1, (hbx.cell (p := ⟨g, off + k * 3 + 1, none⟩) (hgl.out _ hH.1).1).trans hH.2.2.1, (hbx.cell (p := ⟨g, off + k * 3 + 2, none⟩) (hgl.out _ hH.1).1).trans hH.2.2.2.1, (hbx.cell (p := ⟨g', off' + k * 3, none⟩) (hgl.out _ hH.1).2).trans hH.2.2.2.2.1, (hbx.cell (p := ⟨g', off' + k * 3 + 1, none⟩) (hgl.out _ hH.1).2).trans hH.2.2.2.2.2.1, (hbx.cell (p := ⟨g', off' + k * 3 + 2, none⟩) (hgl.out _ hH.1).2).trans hH.2.2.2.2.2.2⟩ (fun hH => ?_)
      clear hK K
      try simp only [Act.put, List.setIfInBounds_toArray, List.set_cons_zero, List.set_cons_succ]
      refine takeH 9 (v := ?vs9) rfl (by kernel_rfl) (by kernel_rfl) (by kernel_rfl) (fun _ _ _ h => h) hH rfl ?ys9 ?rs9
      case ys9 => intro w hSw; go_simp; try with_reducible rfl
      try simp only [Act.put, List.setIfInBounds_toArray, List.set_cons_zero, List.set_cons_succ]
      refine wpAnyH_done (by kernel_rfl) ?_ _
      go_wp2
      go_roundw
      case rel => exact ⟨k + 1, by omega, by go_num, below_step Hbel.out Hbel.out.size hH.1⟩
      case measure => simp [intOf]; omega
    · go_wp2
      go_ret
      exact ⟨rfl, hbel⟩

set_option maxHeartbeats 2000000 in
theorem laws_markVoteSR (es : List (List Fd)) (v : Value) (k B hi : Nat) (w : World) (hk : kTo es k es.length ≤ 1099511627776) (hp : ∀ e ∈ es, voteP e) (hown : OwnR 27 3 3 w B hi v es) :
    Calls Try.prog 54 #[v, .int .i64 k] w fun e w' => e = .returned (.int .i64 ((kTo es k es.length : Nat) : Int)) ∧ OwnR 27 3 3 w' B hi v (mkTo es k es.length) ∧ Btw B hi w w' := by
  obtain ⟨a, cap, rfl, hml9⟩ := hown.slice
  unfold maxLen at hml9
  rw [← mkTo_zero es k, mkTo_len] at hown
  have Hown := Lib.hid hown; clear hown
  have Hp := Lib.hid hp; clear hp
  have Hk := Lib.hid (fun j (h : j ≤ es.length) => Nat.le_trans (kTo_le (es := es) (k := k) h) hk)
  have hk0 : k ≤ 1099511627776 := by have := Hk.out 0 (Nat.zero_le _); rwa [kTo_zero] at this
  clear hk
  go_enter Try.func54, Try.ntmps54
  go_wp2
  go_loopw [1, 5] (fun c i wr => ∃ j : Nat, j ≤ es.length ∧ i = .int .i64 j ∧ c = .int .i64 ((kTo es k j : Nat) : Int) ∧ OwnR 27 3 3 wr B hi (.slice a es.length cap) (mkTo es k j) ∧ Btw B hi w wr) (fun _ i _ => es.length - (intOf i).toNat)
  case atStart => exact ⟨0, by omega, rfl, by rw [kTo_zero], Hown.out, Btw.refl _ _ _⟩
  case round =>
    obtain ⟨j, hj, rfl, rfl, hrow, hbt⟩ := hrel
    by_cases hlt : j < es.length
    · have hml := mkTo_len es k j
      obtain ⟨g, cap', hv, hBg, hgh, hgs⟩ := hrow.head (by rw [hml]; omega)
      simp only [Value.slice.injEq] at hv
      obtain ⟨rfl, hvl, rfl⟩ := hv
      clear hvl
      have hjm : j < (mkTo es k j).length := by omega
      obtain ⟨x0, x1, x2, he⟩ := Hp.out _ (List.getElem_mem hlt)
      have hset := mkTo_set (k := k) hlt
      have hnx := kTo_succ (k := k) hlt
      have hkb := Hk.out (j + 1) hlt
      have hkb0 := Hk.out j (by omega)
      have hr0 := hrow
      rw [← set_self' hjm ((mkTo_at hlt hjm).trans he)] at hr0
      rw [he] at hset hnx
      simp only [mkE, Fd.mk', Fd.nx] at hset
      simp only [nxE, Fd.nx] at hnx
      rw [hnx] at hkb
      generalize hes : mkTo es k j = rs at *
      have Hrs := Lib.hid (show es.length = rs.length from hml.symm)
      have Hjm := Lib.hid hjm
      have Hset := Lib.hid hset; clear hset
      have Hnx := Lib.hid hnx; clear hnx
      have Hes := Lib.hid hes; clear hes
      generalize hm0 : kTo es k j = m0 at *
      have Hm0 := Lib.hid hm0; clear hm0 hrow hml he
      obtain ⟨C0, Z0⟩ := hr0.rcI hjm 0 (x := x0) rfl
      obtain ⟨C1, Z1⟩ := hr0.rcI hjm 1 (x := x1) rfl
      obtain ⟨C2, Z2⟩ := hr0.rcI hjm 2 (x := x2) rfl
      have hr0_0 := hr0.rowI Hrs.out hjm 0 (by omega) ((m0 : Int))
      have hbt0_0 := hbt.trans (Btw.set (lo := B) (hi := hi) wr hBg hgh (j * 3 + 0) (.int .i64 ((m0 : Int))))
      have hr0_1 := hr0_0.rowI Hrs.out hjm 1 (by omega) ((m0 : Int) + 1)
      have hbt0_1 := hbt0_0.trans (Btw.set (lo := B) (hi := hi) (wr.setCell ⟨g, j * 3 + 0, none⟩ (.int .i64 ((m0 : Int)))) hBg hgh (j * 3 + 1) (.int .i64 ((m0 : Int) + 1)))
      have hr0_2 := hr0_1.rowI Hrs.out hjm 2 (by omega) ((m0 : Int) + 1 + 1)
      have hbt0_2 := hbt0_1.trans (Btw.set (lo := B) (hi := hi) ((wr.setCell ⟨g, j * 3 + 0, none⟩ (.int .i64 ((m0 : Int)))).setCell ⟨g, j * 3 + 1, none⟩ (.int .i64 ((m0 : Int) + 1))) hBg hgh (j * 3 + 2) (.int .i64 ((m0 : Int) + 1 + 1)))
      simp only [List.set_cons_zero, List.set_cons_succ] at hr0_2
      have HR := Lib.hid hr0_2
      have HB := Lib.hid hbt0_2
      clear hr0_0 hbt0_0 hr0_1 hbt0_1 hr0_2 hbt0_2 hr0 hbt
      simp only [Nat.add_zero] at C0 Z0
      go_wp2
      go_roundw
      case rel =>
        have hn9 := Hnx.out
        have hs9 := Hset.out
        have hr9 := HR.out
        refine ⟨j + 1, by omega, by go_num, int_eq (by rw [hn9] <;> omega), ?_, HB.out⟩
        rw [← hs9]
        first | exact hr9 | simpa using hr9
      case measure => simp [intOf]; omega
    · have hje : j = es.length := by omega
      subst hje
      go_wp2
      go_ret
      exact ⟨rfl, hrow, hbt⟩

set_option maxHeartbeats 2000000 in
theorem laws_heldVoteSR (es : List (List Fd)) (v : Value) (k B hi : Nat) (w : World) (hk : kTo es k es.length ≤ 1099511627776) (hp : ∀ e ∈ es, voteP e) (hown : OwnR 27 3 3 w B hi v (mkTo es k es.length)) :
    Calls Try.prog 55 #[v, .int .i64 k] w fun e w' => e = .returned (.int .i64 ((kTo es k es.length : Nat) : Int)) ∧ Drawn w w' := by
  obtain ⟨a, cap, rfl, hml9⟩ := hown.slice
  rw [mkTo_len] at *
  unfold maxLen at hml9
  have Hown := Lib.hid hown; clear hown
  have Hp := Lib.hid hp; clear hp
  have Hk := Lib.hid (fun j (h : j ≤ es.length) => Nat.le_trans (kTo_le (es := es) (k := k) h) hk)
  have hk0 : k ≤ 1099511627776 := by have := Hk.out 0 (Nat.zero_le _); rwa [kTo_zero] at this
  clear hk
  go_enter Try.func55, Try.ntmps55
  go_wp2
  go_loopw [1, 5] (fun c i wr => ∃ j : Nat, j ≤ es.length ∧ i = .int .i64 j ∧ c = .int .i64 ((kTo es k j : Nat) : Int) ∧ Drawn w wr) (fun _ i _ => es.length - (intOf i).toNat)
  case atStart => exact ⟨0, by omega, rfl, by rw [kTo_zero], Drawn.refl _⟩
  case round =>
    obtain ⟨j, hj, rfl, rfl, hdr⟩ := hrel
    by_cases hlt : j < es.length
    · have hml := mkTo_len es k es.length
      obtain ⟨g, cap', hv, hBg, hgh, hgs⟩ := Hown.out.head (by rw [hml]; omega)
      simp only [Value.slice.injEq] at hv
      obtain ⟨rfl, hvl, rfl⟩ := hv
      clear hvl
      have hjm : j < (mkTo es k es.length).length := by omega
      obtain ⟨x0, x1, x2, he⟩ := Hp.out _ (List.getElem_mem hlt)
      have hnx := kTo_succ (k := k) hlt
      have hkb := Hk.out (j + 1) hlt
      have hkb0 := Hk.out j (by omega)
      have hr0 := Hown.out
      rw [← set_self' hjm (mkTo_all hlt hjm)] at hr0
      rw [he] at hr0 hnx
      simp only [mkE, Fd.mk', Fd.nx] at hr0
      simp only [nxE, Fd.nx] at hnx
      rw [hnx] at hkb
      have Hnx := Lib.hid hnx; clear hnx
      generalize hm0 : kTo es k j = m0 at *
      have Hm0 := Lib.hid hm0; clear hm0 he
      have C0 := (hdr.cell _).trans (hr0.rcI hjm 0 rfl).1
      have C1 := (hdr.cell _).trans (hr0.rcI hjm 1 rfl).1
      have C2 := (hdr.cell _).trans (hr0.rcI hjm 2 rfl).1
      clear hr0
      simp only [Nat.add_zero] at C0
      rw [show ((m0 + 1 : Nat) : Int) = (m0 : Int) + 1 by omega] at C1
      rw [show ((m0 + 1 + 1 : Nat) : Int) = (m0 : Int) + 1 + 1 by omega] at C2
      go_wp2
      go_roundw
      case rel =>
        have hn9 := Hnx.out
        refine ⟨j + 1, by omega, by go_num, int_eq (by rw [hn9] <;> omega), hdr⟩
      case measure => simp [intOf]; omega
    · have hje : j = es.length := by omega
      subst hje
      go_wp2
      go_ret
      exact ⟨rfl, hdr⟩

theorem laws_szVoteSR (es : List (List Fd)) (v : Value) (fp : List Nat) (left : Nat) (w : World) (hl : left ≤ 1048576) (hbig : es.length ≤ 9223372036854775807) (hp : ∀ e ∈ es, voteP e) (hr : Rd w (rowsD es) v fp) :
    Calls Try.prog 51 #[v, .int .i64 (left : Int)] w fun e w' => e = .returned (.int .i64 (if es.length + lnTo es es.length ≤ left then ((left - es.length - lnTo es es.length : Nat) : Int) else -1)) ∧ Below w.heap.size w w' := by
  obtain ⟨a, cap, rfl⟩ := Rd.slice hr
  rw [List.length_map] at *
  have h0 : lnTo es es.length = 0 := lnTo_none (fun e he => by obtain ⟨_, _, _, rfl⟩ := hp e he; rfl) _
  rw [h0]
  clear hr hp h0
  by_cases h : es.length ≤ left
  · rw [if_pos (by omega)]
    have h' : ¬ ((left : Int) - (es.length : Int) < 0) := by omega
    go_enter Try.func51, Try.ntmps51
    go_wp2
    go_ret
    exact ⟨ret_int (by omega), Below.refl _ _⟩
  · rw [if_neg (by omega)]
    have h' : (left : Int) - (es.length : Int) < 0 := by omega
    go_enter Try.func51, Try.ntmps51
    go_wp2
    go_ret
    exact ⟨rfl, Below.refl _ _⟩

theorem laws_toVoteR (x0 : Int) (x1 : Int) (x2 : Int) (w : World) :
    Calls Try.prog 21 #[.agg #[.int .i64 x0, .int .i64 x1, .int .i64 x2]] w fun e w' => e = .returned (.agg #[.int .i64 x0, .int .i64 x1, .int .i64 x2]) ∧ Below w.heap.size w w' := by
  have hbW : Below w.heap.size w (((w.alloc (.cells #[.int .i64 x0, .int .i64 x1, .int .i64 x2] 42)).alloc (.cells #[.int .i64 0, .int .i64 0, .int .i64 0] 27)).alloc (.cells #[.int .i64 x0, .int .i64 x1, .int .i64 x2] 27)) := (((Below.refl _ w).alloc (Nat.le_refl _) _).alloc (by simp) _).alloc (by simp; omega) _
  have s0 := ((Str.new w 42 #[.int .i64 x0, .int .i64 x1, .int .i64 x2]).alloc (.cells #[.int .i64 0, .int .i64 0, .int .i64 0] 27)).alloc (.cells #[.int .i64 x0, .int .i64 x1, .int .i64 x2] 27)
  have s1 := (Str.new (w.alloc (.cells #[.int .i64 x0, .int .i64 x1, .int .i64 x2] 42)) 27 #[.int .i64 0, .int .i64 0, .int .i64 0]).alloc (.cells #[.int .i64 x0, .int .i64 x1, .int .i64 x2] 27)
  have s2 := Str.new ((w.alloc (.cells #[.int .i64 x0, .int .i64 x1, .int .i64 x2] 42)).alloc (.cells #[.int .i64 0, .int .i64 0, .int .i64 0] 27)) 27 #[.int .i64 x0, .int .i64 x1, .int .i64 x2]
  have hzW : (((w.alloc (.cells #[.int .i64 x0, .int .i64 x1, .int .i64 x2] 42)).alloc (.cells #[.int .i64 0, .int .i64 0, .int .i64 0] 27)).alloc (.cells #[.int .i64 x0, .int .i64 x1, .int .i64 x2] 27)).heap.size = w.heap.size + 3 := by simp
  simp only [World.size_alloc] at s1 s2
  have Hb := Lib.hid hbW
  have Hs0 := Lib.hid s0
  have Hs1 := Lib.hid s1
  have Hs2 := Lib.hid s2
  have Hz := Lib.hid hzW
  clear hbW s0 s1 s2 hzW
  have t0 := Hs0.out
  have t1 := Hs1.out
  have t2 := Hs2.out
  clear Hs0 Hs1 Hs2 Hz
  have k0 := t1.cell 0 (v := .int .i64 0) rfl
  have k1 := t1.cell 1 (v := .int .i64 0) rfl
  have k2 := t1.cell 2 (v := .int .i64 0) rfl
  have f0 := t1.frozen 0
  have f1 := t1.frozen 1
  have f2 := t1.frozen 2
  have j0 := t2.cell 0 (v := .int .i64 x0) rfl
  have j1 := t2.cell 1 (v := .int .i64 x1) rfl
  have j2 := t2.cell 2 (v := .int .i64 x2) rfl
  have hne : w.heap.size + 1 ≠ w.heap.size + 1 + 1 := by omega
  have u := (((t1.set 0 (.int .i64 x0)).set 1 (.int .i64 x1)).set 2 (.int .i64 x2))
  have e0 := u.cell 0 (v := .int .i64 x0) rfl
  have e1 := u.cell 1 (v := .int .i64 x1) rfl
  have e2 := u.cell 2 (v := .int .i64 x2) rfl
  clear u t0 t1 t2
  go_enter Try.func21, Try.ntmps21
  go_wp2
  refine bodyPost_ret (v := .agg #[.int .i64 x0, .int .i64 x1, .int .i64 x2]) (by simp [results, Try.f21, go_sem]) rfl ?_
  exact ⟨rfl, (((Below.refl _ w).alloc (Nat.le_refl _) _).alloc (by simp) _).alloc (by simp; omega) _⟩

theorem vote_info : (Try.prog.info? 27).map (fun i => (i.zero, i.size, i.bytes)) = some (some (.agg #[.int .i64 0, .int .i64 0, .int .i64 0]), 3, 24) := by kernel_rfl

set_option maxHeartbeats 1000000 in
theorem laws_toVoteSR (es : List (List Fd)) (v : Value) (fp : List Nat) (w : World) (hbig : es.length ≤ 1048576) (hp : ∀ e ∈ es, voteP e) (hl : ∀ e ∈ es, lnE e ≤ 1048576) (hr : Rd w (rowsD es) v fp) :
    Calls Try.prog 52 #[v] w fun e w' => ∃ u, e = .returned u ∧ OwnR 27 3 3 w' w.heap.size w'.heap.size u es ∧ Below w.heap.size w w' := by
  obtain ⟨a, cap, rfl⟩ := Rd.slice hr
  rw [List.length_map] at *
  have Hm := Lib.hid (voteP_len hp)
  have Hr := Lib.hid hr; clear hr
  have Hp := Lib.hid hp; clear hp
  have Hl := Lib.hid hl; clear hl
  have hmk : ∀ w, (Instr.makeSlice 23 (.int .i64 (es.length : Int)) (.int .i64 (es.length : Int))).run Try.prog w = .ok (.slice (some ⟨w.heap.size, 0, none⟩) es.length es.length) (w.alloc (.cells (madeCells #[.int .i64 0, .int .i64 0, .int .i64 0] (es.length * 3)) 27)) := fun w => by
    obtain ⟨i, hi, hz, hsz, hb⟩ := info_parts vote_info
    have h := run_make (P := Try.prog) w 23 27 i (.agg #[.int .i64 0, .int .i64 0, .int .i64 0]) Try.underlying23 hi hz .i64 .i64 (es.length : Int) (es.length : Int) (by omega) (Int.le_refl _) (by rw [hb]; omega) (by omega)
    simp only [Int.toNat_natCast, hsz] at h
    exact h
  have hn0 := ownR_new (E := 27) (Ei := 3) (m := 3) w es [.int .i64 0, .int .i64 0, .int .i64 0] [.i 0, .i 0, .i 0] (by unfold maxLen; omega) rfl rfl (by omega) (by intro c hc; simp only [List.mem_cons, List.not_mem_nil, or_false] at hc; rcases hc with rfl | rfl | rfl <;> rfl) (fun W B j h h' => by
    match j, h, h' with
    | 0, _, _ => exact rfl
    | 1, _, _ => exact rfl
    | 2, _, _ => exact rfl)
  have Hv0 := Lib.hid (show OwnR 27 3 3 (w.alloc (.cells (madeCells #[.int .i64 0, .int .i64 0, .int .i64 0] (es.length * 3)) 27)) w.heap.size (w.alloc (.cells (madeCells #[.int .i64 0, .int .i64 0, .int .i64 0] (es.length * 3)) 27)).heap.size _ (cpTo es [.i 0, .i 0, .i 0] 0) from hn0.mono (by simp)); clear hn0
  have Hb0 := Lib.hid ((Below.refl w.heap.size w).alloc (Nat.le_refl _) (.cells (madeCells #[.int .i64 0, .int .i64 0, .int .i64 0] (es.length * 3)) 27))
  go_enter Try.func52, Try.ntmps52
  go_wp2_with fail
  go_loopw [4] (fun i wr => ∃ k : Nat, k ≤ es.length ∧ i = .int .i64 k ∧ OwnR 27 3 3 wr w.heap.size wr.heap.size (.slice (some ⟨w.heap.size, 0, none⟩) es.length es.length) (cpTo es [.i 0, .i 0, .i 0] k) ∧ Below w.heap.size w wr) (fun i _ => es.length - (intOf i).toNat)
  case atStart => exact ⟨0, by omega, rfl, Hv0.out, Hb0.out⟩
  case round =>
    clear Hv0 Hb0
    obtain ⟨k, hk, rfl, hown, hbel⟩ := hrel
    have hB := hbel.size
    have Hbel := Lib.hid hbel; clear hbel
    have Hown := Lib.hid hown; clear hown
    by_cases hlt : k < es.length
    · obtain ⟨g, off, rfl, hg, hat⟩ := rows_at (Hr.out.under Hbel.out) (by omega) Hm.out
      obtain ⟨x0, x1, x2, he⟩ := Hp.out _ (List.getElem_mem hlt)
      have hle := Hl.out _ (List.getElem_mem hlt)
      rw [he] at hle
      obtain ⟨v0, f0, C0, R0⟩ := hat k hlt 0 (by rw [he]; simp)
      obtain rfl := rd_i R0 (x := x0) (by simp only [he]; rfl)
      clear R0
      obtain ⟨v1, f1, C1, R1⟩ := hat k hlt 1 (by rw [he]; simp)
      obtain rfl := rd_i R1 (x := x1) (by simp only [he]; rfl)
      clear R1
      obtain ⟨v2, f2, C2, R2⟩ := hat k hlt 2 (by rw [he]; simp)
      obtain rfl := rd_i R2 (x := x2) (by simp only [he]; rfl)
      clear R2
      simp only [Nat.add_zero] at C0
      have hst := cpTo_step (z := [.i 0, .i 0, .i 0]) hlt
      rw [he] at hst
      have Hst := Lib.hid hst; clear hst
      have hcl := cpTo_len es [.i 0, .i 0, .i 0] k
      have hkc : k < (cpTo es [.i 0, .i 0, .i 0] k).length := by rw [hcl]; exact hlt
      have hz0 : (cpTo es [.i 0, .i 0, .i 0] k)[k] = [.i 0, .i 0, .i 0] := by rw [cpTo_get, if_neg (by omega)]
      have hr0 := Hown.out
      rw [← set_self' hkc hz0] at hr0
      generalize cpTo es [.i 0, .i 0, .i 0] k = rs at *
      have Hrs := Lib.hid (show es.length = rs.length from hcl.symm)
      have Hr0 := Lib.hid hr0; clear hr0 hz0
      have Hcall := Lib.hid (laws_toVoteR x0 x1 x2 wr)
      clear hat he hle hcl Hown
      go_wp2_with fail
      refine Hcall.out.mono ?_
      rintro e w2 ⟨rfl, hb2⟩
      have hs2 := hb2.size
      have hrow := Hr0.out.below hb2 (Nat.le_refl _)
      have Hb2 := Lib.hid (below_step Hbel.out hB hb2)
      clear hb2 Hr0
      obtain ⟨P0, F0⟩ := hrow.rcI hkc 0 (x := 0) rfl
      obtain ⟨P1, F1⟩ := hrow.rcI hkc 1 (x := 0) rfl
      obtain ⟨P2, F2⟩ := hrow.rcI hkc 2 (x := 0) rfl
      simp only [Nat.add_zero] at P0 F0
      have A0 := hrow.rowI Hrs.out hkc 0 (by omega) x0
      have A1 := A0.rowI Hrs.out hkc 1 (by omega) x1
      have A2 := A1.rowI Hrs.out hkc 2 (by omega) x2
      simp only [List.set_cons_zero, List.set_cons_succ, Nat.add_zero] at A2
      rw [Hst.out] at A2
      have hsz4 : (((w2.setCell ⟨w.heap.size, k * 3, none⟩ (.int .i64 x0)).setCell ⟨w.heap.size, k * 3 + 1, none⟩ (.int .i64 x1)).setCell ⟨w.heap.size, k * 3 + 2, none⟩ (.int .i64 x2)).heap.size = w2.heap.size := by simp [World.setCell]
      have HA := Lib.hid (A2.mono (show wr.heap.size ≤ (((w2.setCell ⟨w.heap.size, k * 3, none⟩ (.int .i64 x0)).setCell ⟨w.heap.size, k * 3 + 1, none⟩ (.int .i64 x1)).setCell ⟨w.heap.size, k * 3 + 2, none⟩ (.int .i64 x2)).heap.size by rw [hsz4]; exact hs2))
      have HB4 := Lib.hid (((Hb2.out.setCell (p := ⟨w.heap.size, k * 3, none⟩) (Nat.le_refl _) (.int .i64 x0)).setCell (p := ⟨w.heap.size, k * 3 + 1, none⟩) (Nat.le_refl _) (.int .i64 x1)).setCell (p := ⟨w.heap.size, k * 3 + 2, none⟩) (Nat.le_refl _) (.int .i64 x2))
      clear hsz4 A0 A1 A2 hrow
      go_wp2_with fail
      go_roundw
      case rel => exact ⟨k + 1, by omega, by go_num, HA.out, HB4.out⟩
      case measure => simp [intOf]; omega
    · have hke : k = es.length := by omega
      subst hke
      go_wp2
      go_ret
      exact ⟨_, rfl, by have h9 := Hown.out; rwa [cpTo_all] at h9, Hbel.out⟩

end Go.Proofs.Ytkndndcjchlpdaa
