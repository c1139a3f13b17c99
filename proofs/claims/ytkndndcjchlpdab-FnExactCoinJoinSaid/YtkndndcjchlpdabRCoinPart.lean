/- The exact laws' functions on values and lists of CoinPart: sameness, copies, sizes, marks, each by a walk of its text; conditions: the lists are no longer than the laws' bound. -/
import Derived.Test.YtkndndcjchlpdabRows
import Derived.Test.YtkndndcjchlpdabBase
import Derived.Test.YtkndndcjchlpdabApp
import Derived.Test.YtkndndcjchlpdabDt
import Derived.Test.YtkndndcjchlpdabOwR
import Derived.Test.YtkndndcjchlpdabOwS
import Derived.Test.YtkndndcjchlpdabRow
import Derived.Test.YtkndndcjchlpdabEx
import Derived.Test.YtkndndcjchlpdabHeld
import Derived.Test.YtkndndcjchlpdabL1
import Derived.Test.YtkndndcjchlpdabL2
import Derived.Test.YtkndndcjchlpdabOpen
import Derived.Deep.QuietTactic
import Derived.BigQuiet
namespace Go.Proofs.Ytkndndcjchlpdab
open Go.RowKit

def coinPartP (e : List Fd) : Prop := ∃ (x0 : Int) (x1 : Int), e = [.i x0, .i x1]
theorem coinPartP_len {es : List (List Fd)} (h : ∀ e ∈ es, coinPartP e) : ∀ e ∈ es, e.length = 2 := by
  intro e he
  obtain ⟨_, _, rfl⟩ := h e he
  rfl

theorem coinPart_inf : (Try.prog.info? 50).map (fun i => (i.zero, i.size, i.bytes)) = some (some (.agg #[.int .i64 0, .int .i64 0]), 2, 16) := by kernel_rfl

set_option maxRecDepth 8000 in
/-- A list of CoinPart that came in. -/
theorem open_CoinPartS {H : Type} {enc : TypeId × Value → H} {W : World} {base : Nat} {v : Value} {d : DataW H} {p : List MemPlace} (hv : Value.okWide Try.prog W .any base 42 v) (h : DataW.Trod enc Try.prog W 0 (fun _ => true) true 42 v d p) :
    ∃ es fp, Rd W (rowsD es) v fp ∧ es.length ≤ maxLen ∧ ∀ e ∈ es, coinPartP e ∧ fitE e := by
  obtain ⟨a, len, cap, rfl⟩ := Go.WideShapes.okWide_slice Try.underlying42 hv
  obtain ⟨d, fp, hr, hg⟩ := open_cell (opens_slice_struct (Gs := [IntG, IntG]) Try.underlying42 (by kernel_rfl) Try.underlying70 (by kernel_rfl) (by first | decide | exact Nat.zero_lt_succ _ | simp) rfl (fun j h h' => by
    match j, h, h' with
    | 0, _, _ => exact ⟨rfl, opens_int Try.underlying3 (by kernel_rfl)⟩
    | 1, _, _ => exact ⟨rfl, opens_int Try.underlying3 (by kernel_rfl)⟩)) rfl h
  obtain ⟨es, rfl, hl, hp⟩ := rows_of hg (P := fun e => coinPartP e ∧ fitE e) (fun e he hf => by
    match e, he with
    | [d0, d1], _ =>
      obtain ⟨x0, rfl, b0⟩ := hf 0 (by simp) (by simp)
      obtain ⟨x1, rfl, b1⟩ := hf 1 (by simp) (by simp)
      exact ⟨[.i x0, .i x1], rfl, ⟨x0, x1, rfl⟩, fun _ hx => by
        simp at hx
        rcases hx with rfl | rfl
        · exact b0
        · exact b1,
      fun _ hx => by simp at hx⟩)
  exact ⟨es, fp, hr, hl, hp⟩

set_option maxRecDepth 8000 in
/-- A CoinPart that came in by value. -/
theorem open_CoinPart {H : Type} {enc : TypeId × Value → H} {W : World} {base : Nat} {v : Value} {d : DataW H} {p : List MemPlace} (hv : Value.okWide Try.prog W .any base 70 v) (h : DataW.Trod enc Try.prog W 0 (fun _ => true) true 70 v d p) :
    ∃ x0 x1, v = .agg #[.int .i64 x0, .int .i64 x1] ∧ (-9223372036854775808 ≤ x0 ∧ x0 ≤ 9223372036854775807) ∧ (-9223372036854775808 ≤ x1 ∧ x1 ≤ 9223372036854775807) := by
  obtain ⟨cs, rfl, hl, hf⟩ := open_struct (Gs := [IntG, IntG]) Try.underlying70 (by kernel_rfl) rfl (fun j h h' => by
    match j, h, h' with
    | 0, _, _ => exact ⟨rfl, opens_int Try.underlying3 (by kernel_rfl)⟩
    | 1, _, _ => exact ⟨rfl, opens_int Try.underlying3 (by kernel_rfl)⟩) hv h
  match cs, hl with
  | [u0, u1], _ =>
    obtain ⟨d0, f0, r0, x0, rfl, b0⟩ := hf 0 (by simp) (by simp)
    obtain ⟨rfl, _⟩ := Rd.int (show Rd W (.i x0) u0 f0 from r0)
    obtain ⟨d1, f1, r1, x1, rfl, b1⟩ := hf 1 (by simp) (by simp)
    obtain ⟨rfl, _⟩ := Rd.int (show Rd W (.i x1) u1 f1 from r1)
    exact ⟨x0, x1, rfl, b0, b1⟩

theorem laws_eqCoinPartR (x0 : Int) (x1 : Int) (w : World) :
    Calls Try.prog 54 #[.agg #[.int .i64 x0, .int .i64 x1], .agg #[.int .i64 x0, .int .i64 x1]] w fun e w' => e = .returned (.bool true) ∧ Below w.heap.size w w' := by
  have hb : Below w.heap.size w ((w.alloc (.cells #[.int .i64 x0, .int .i64 x1] 50)).alloc (.cells #[.int .i64 x0, .int .i64 x1] 50)) := ((Below.refl _ w).alloc (Nat.le_refl _) _).alloc (by simp) _
  go_enter Try.func54, Try.ntmps54
  go_wp2
  go_ret
  exact ⟨rfl, hb⟩

set_option maxHeartbeats 1000000 in
theorem laws_eqCoinPartSR (es : List (List Fd)) (v v' : Value) (fp fp' : List Nat) (w : World) (hbig : es.length ≤ 1099511627776) (hp : ∀ e ∈ es, coinPartP e) (hl : ∀ e ∈ es, lnE e ≤ 1099511627776) (hr : Rd w (rowsD es) v fp) (hr' : Rd w (rowsD es) v' fp') :
    Calls Try.prog 28 #[v, v'] w fun e w' => e = .returned (.bool true) ∧ Below w.heap.size w w' := by
  have Hm := Lib.hid (coinPartP_len hp)
  obtain ⟨a, cap, rfl⟩ := Rd.slice hr
  obtain ⟨a', cap', rfl⟩ := Rd.slice hr'
  rw [List.length_map] at *
  have Hr := Lib.hid hr; clear hr
  have Hr' := Lib.hid hr'; clear hr'
  have Hp := Lib.hid hp; clear hp
  have Hl := Lib.hid hl; clear hl
  go_enter Try.func28, Try.ntmps28
  go_wp2
  go_loopw [5] (fun i wr => ∃ k : Nat, k ≤ es.length ∧ i = .int .i64 k ∧ Below w.heap.size w wr) (fun i _ => es.length - (intOf i).toNat)
  case atStart => exact ⟨0, by omega, rfl, Below.refl _ _⟩
  case round =>
    obtain ⟨k, hk, rfl, hbel⟩ := hrel
    by_cases hlt : k < es.length
    · obtain ⟨g, off, rfl, hg, hat⟩ := rows_at (Hr.out.under hbel) (by omega) Hm.out
      obtain ⟨g', off', rfl, hg', hat'⟩ := rows_at (Hr'.out.under hbel) (by omega) Hm.out
      obtain ⟨x0, x1, he⟩ := Hp.out _ (List.getElem_mem hlt)
      have hle := Hl.out _ (List.getElem_mem hlt)
      rw [he] at hle
      obtain ⟨v0, f0, C0, R0⟩ := hat k hlt 0 (by rw [he]; simp)
      obtain rfl := rd_i R0 (x := x0) (by simp only [he]; rfl)
      clear R0
      obtain ⟨v1, f1, C1, R1⟩ := hat k hlt 1 (by rw [he]; simp)
      obtain rfl := rd_i R1 (x := x1) (by simp only [he]; rfl)
      clear R1
      simp only [Nat.add_zero] at C0
      obtain ⟨v0, f0, C0', R0⟩ := hat' k hlt 0 (by rw [he]; simp)
      obtain rfl := rd_i R0 (x := x0) (by simp only [he]; rfl)
      clear R0
      obtain ⟨v1, f1, C1', R1⟩ := hat' k hlt 1 (by rw [he]; simp)
      obtain rfl := rd_i R1 (x := x1) (by simp only [he]; rfl)
      clear R1
      simp only [Nat.add_zero] at C0'
      have Hbel := Lib.hid hbel; clear hbel hat hat' he hle
      have H := Lib.hid (fun w' (h : Below wr.heap.size wr w') => laws_eqCoinPartR x0 x1 w')
      have hgl := Lib.hid (fun w' (h : Below wr.heap.size wr w') => (⟨Nat.lt_of_lt_of_le hg h.size, Nat.lt_of_lt_of_le hg' h.size⟩ : g < w'.heap.size ∧ g' < w'.heap.size))
      have hb0 : Below wr.heap.size wr wr.drew := (Below.refl _ _).drew
      clear hg hg'
      go_wp2_with fail
      refine wp_region_held_drew (S := fun w' => Below wr.heap.size wr w' ∧ w'.cell? ⟨g, off + k * 2, none⟩ = some (.int .i64 x0) ∧ w'.cell? ⟨g, off + k * 2 + 1, none⟩ = some (.int .i64 x1) ∧ w'.cell? ⟨g', off' + k * 2, none⟩ = some (.int .i64 x0) ∧ w'.cell? ⟨g', off' + k * 2 + 1, none⟩ = some (.int .i64 x1)) (by kernel_rfl) ⟨hb0, C0, C1, C0', C1'⟩ (fun hH => ?_)
      refine takeH 0 (v := ?vs0) rfl (by kernel_rfl) (by kernel_rfl) (by kernel_rfl) (fun _ _ _ h => h) hH rfl ?ys0 ?rs0
      case ys0 => intro w hSw; go_simp; try with_reducible rfl
      try simp only [Act.put, List.setIfInBounds_toArray, List.set_cons_zero, List.set_cons_succ]
      refine takeH 1 (v := ?vs1) rfl (by kernel_rfl) (by kernel_rfl) (by kernel_rfl) (fun _ _ _ h => h) hH rfl ?ys1 ?rs1
      case ys1 => intro w hSw; go_simp; try with_reducible rfl
      try simp only [Act.put, List.setIfInBounds_toArray, List.set_cons_zero, List.set_cons_succ]
      refine takeH 2 (v := ?vs2) rfl (by kernel_rfl) (by kernel_rfl) (by kernel_rfl) (fun _ _ _ h => h) hH rfl ?ys2 ?rs2
      case ys2 => intro w hSw; go_simp; try with_reducible rfl
      try simp only [Act.put, List.setIfInBounds_toArray, List.set_cons_zero, List.set_cons_succ]
      refine takeH 3 (v := ?vs3) rfl (by kernel_rfl) (by kernel_rfl) (by kernel_rfl) (fun _ _ _ h => h) hH rfl ?ys3 ?rs3
      case ys3 => intro w hSw; go_simp; try with_reducible rfl
      try simp only [Act.put, List.setIfInBounds_toArray, List.set_cons_zero, List.set_cons_succ]
      refine takeH 4 (v := ?vs4) rfl (by kernel_rfl) (by kernel_rfl) (by kernel_rfl) (fun _ _ _ h => h) hH rfl ?ys4 ?rs4
      case ys4 => intro w hSw; go_simp; try with_reducible rfl
      try simp only [Act.put, List.setIfInBounds_toArray, List.set_cons_zero, List.set_cons_succ]
      refine takeH 5 (v := ?vs5) rfl (by kernel_rfl) (by kernel_rfl) (by kernel_rfl) (fun _ _ _ h => h) hH rfl ?ys5 ?rs5
      case ys5 => intro w hSw; go_simp; try with_reducible rfl
      try simp only [Act.put, List.setIfInBounds_toArray, List.set_cons_zero, List.set_cons_succ]
      refine takeH 6 (v := ?vs6) rfl (by kernel_rfl) (by kernel_rfl) (by kernel_rfl) (fun _ _ _ h => h) hH rfl ?ys6 ?rs6
      case ys6 => intro w hSw; go_simp; try with_reducible rfl
      try simp only [Act.put, List.setIfInBounds_toArray, List.set_cons_zero, List.set_cons_succ]
      refine takeH 7 (v := ?vs7) rfl (by kernel_rfl) (by kernel_rfl) (by kernel_rfl) (fun _ _ _ h => h) hH rfl ?ys7 ?rs7
      case ys7 => intro w hSw; go_simp; try with_reducible rfl
      try simp only [Act.put, List.setIfInBounds_toArray, List.set_cons_zero, List.set_cons_succ]
      refine callH 8 rfl (by kernel_rfl) rfl (fun K hK => ?_)
      go_simp
      go_at_call 54
      refine (H.out _ hH.1).mono ?_
      rintro e wx ⟨rfl, hbx⟩
      refine hK.out _ _ ⟨hH.1.trans (hbx.mono hH.1.size), (hbx.cell (p := ⟨g, off + k * 2, none⟩) (hgl.out _ hH.1).1).trans hH.2.1, (hbx.cell (p := ⟨g, off + k * 2 + 1, none⟩) (hgl.out _ hH.1).1).trans hH.2.2.1, (hbx.cell (p := ⟨g', off' + k * 2, none⟩) (hgl.out _ hH.1).2).trans hH.2.2.2.1, (hbx.cell (p := ⟨g', off' + k * 2 + 1, none⟩) (hgl.out _ hH.1).2).trans hH.2.2.2.2⟩ (fun hH => ?_)
      clear hK K
      try simp only [Act.put, List.setIfInBounds_toArray, List.set_cons_zero, List.set_cons_succ]
      refine takeH 9 (v := ?vs9) rfl (by kernel_rfl) (by kernel_rfl) (by kernel_rfl) (fun _ _ _ h => h) hH rfl ?ys9 ?rs9
      case ys9 => intro w hSw; go_simp; try with_reducible rfl
      try simp only [Act.put, List.setIfInBounds_toArray, List.set_cons_zero, List.set_cons_succ]
      refine wpAnyH_done (by kernel_rfl) ?_ _
      go_wp2
      go_roundw
      case rel => exact ⟨k + 1, by omega, by go_num, below_step Hbel.out Hbel.out.size hH.1⟩
      case measure => simp [intOf]; omega
    · go_wp2
      go_ret
      exact ⟨rfl, hbel⟩

theorem laws_szCoinPartSR (es : List (List Fd)) (v : Value) (fp : List Nat) (left : Nat) (w : World) (hl : left ≤ 1048576) (hbig : es.length ≤ 9223372036854775807) (hp : ∀ e ∈ es, coinPartP e) (hr : Rd w (rowsD es) v fp) :
    Calls Try.prog 26 #[v, .int .i64 (left : Int)] w fun e w' => e = .returned (.int .i64 (if es.length + lnTo es es.length ≤ left then ((left - es.length - lnTo es es.length : Nat) : Int) else -1)) ∧ Below w.heap.size w w' := by
  obtain ⟨a, cap, rfl⟩ := Rd.slice hr
  rw [List.length_map] at *
  have h0 : lnTo es es.length = 0 := lnTo_none (fun e he => by obtain ⟨_, _, rfl⟩ := hp e he; rfl) _
  rw [h0]
  clear hr hp h0
  by_cases h : es.length ≤ left
  · rw [if_pos (by omega)]
    have h' : ¬ ((left : Int) - (es.length : Int) < 0) := by omega
    go_enter Try.func26, Try.ntmps26
    go_wp2
    go_ret
    exact ⟨ret_int (by omega), Below.refl _ _⟩
  · rw [if_neg (by omega)]
    have h' : (left : Int) - (es.length : Int) < 0 := by omega
    go_enter Try.func26, Try.ntmps26
    go_wp2
    go_ret
    exact ⟨rfl, Below.refl _ _⟩

theorem laws_toCoinPartR (x0 : Int) (x1 : Int) (w : World) :
    Calls Try.prog 53 #[.agg #[.int .i64 x0, .int .i64 x1]] w fun e w' => e = .returned (.agg #[.int .i64 x0, .int .i64 x1]) ∧ Below w.heap.size w w' := by
  have hbW : Below w.heap.size w (((w.alloc (.cells #[.int .i64 x0, .int .i64 x1] 70)).alloc (.cells #[.int .i64 0, .int .i64 0] 50)).alloc (.cells #[.int .i64 x0, .int .i64 x1] 50)) := (((Below.refl _ w).alloc (Nat.le_refl _) _).alloc (by simp) _).alloc (by simp; omega) _
  have s0 := ((Str.new w 70 #[.int .i64 x0, .int .i64 x1]).alloc (.cells #[.int .i64 0, .int .i64 0] 50)).alloc (.cells #[.int .i64 x0, .int .i64 x1] 50)
  have s1 := (Str.new (w.alloc (.cells #[.int .i64 x0, .int .i64 x1] 70)) 50 #[.int .i64 0, .int .i64 0]).alloc (.cells #[.int .i64 x0, .int .i64 x1] 50)
  have s2 := Str.new ((w.alloc (.cells #[.int .i64 x0, .int .i64 x1] 70)).alloc (.cells #[.int .i64 0, .int .i64 0] 50)) 50 #[.int .i64 x0, .int .i64 x1]
  have hzW : (((w.alloc (.cells #[.int .i64 x0, .int .i64 x1] 70)).alloc (.cells #[.int .i64 0, .int .i64 0] 50)).alloc (.cells #[.int .i64 x0, .int .i64 x1] 50)).heap.size = w.heap.size + 3 := by simp
  simp only [World.size_alloc] at s1 s2
  have Hb := Lib.hid hbW
  have Hs0 := Lib.hid s0
  have Hs1 := Lib.hid s1
  have Hs2 := Lib.hid s2
  have Hz := Lib.hid hzW
  clear hbW s0 s1 s2 hzW
  have t0 := Hs0.out
  have t1 := Hs1.out
  have t2 := Hs2.out
  clear Hs0 Hs1 Hs2 Hz
  have k0 := t1.cell 0 (v := .int .i64 0) rfl
  have k1 := t1.cell 1 (v := .int .i64 0) rfl
  have f0 := t1.frozen 0
  have f1 := t1.frozen 1
  have j0 := t2.cell 0 (v := .int .i64 x0) rfl
  have j1 := t2.cell 1 (v := .int .i64 x1) rfl
  have hne : w.heap.size + 1 ≠ w.heap.size + 1 + 1 := by omega
  have u := ((t1.set 0 (.int .i64 x0)).set 1 (.int .i64 x1))
  have e0 := u.cell 0 (v := .int .i64 x0) rfl
  have e1 := u.cell 1 (v := .int .i64 x1) rfl
  clear u t0 t1 t2
  go_enter Try.func53, Try.ntmps53
  go_wp2
  refine bodyPost_ret (v := .agg #[.int .i64 x0, .int .i64 x1]) (by simp [results, Try.f53, go_sem]) rfl ?_
  exact ⟨rfl, (((Below.refl _ w).alloc (Nat.le_refl _) _).alloc (by simp) _).alloc (by simp; omega) _⟩

theorem coinPart_info : (Try.prog.info? 50).map (fun i => (i.zero, i.size, i.bytes)) = some (some (.agg #[.int .i64 0, .int .i64 0]), 2, 16) := by kernel_rfl

set_option maxHeartbeats 1000000 in
theorem laws_toCoinPartSR (es : List (List Fd)) (v : Value) (fp : List Nat) (w : World) (hbig : es.length ≤ 1048576) (hp : ∀ e ∈ es, coinPartP e) (hl : ∀ e ∈ es, lnE e ≤ 1048576) (hr : Rd w (rowsD es) v fp) :
    Calls Try.prog 27 #[v] w fun e w' => ∃ u, e = .returned u ∧ OwnR 50 3 2 w' w.heap.size w'.heap.size u es ∧ Below w.heap.size w w' := by
  obtain ⟨a, cap, rfl⟩ := Rd.slice hr
  rw [List.length_map] at *
  have Hm := Lib.hid (coinPartP_len hp)
  have Hr := Lib.hid hr; clear hr
  have Hp := Lib.hid hp; clear hp
  have Hl := Lib.hid hl; clear hl
  have hmk : ∀ w, (Instr.makeSlice 23 (.int .i64 (es.length : Int)) (.int .i64 (es.length : Int))).run Try.prog w = .ok (.slice (some ⟨w.heap.size, 0, none⟩) es.length es.length) (w.alloc (.cells (madeCells #[.int .i64 0, .int .i64 0] (es.length * 2)) 50)) := fun w => by
    obtain ⟨i, hi, hz, hsz, hb⟩ := info_parts coinPart_info
    have h := run_make (P := Try.prog) w 23 50 i (.agg #[.int .i64 0, .int .i64 0]) Try.underlying23 hi hz .i64 .i64 (es.length : Int) (es.length : Int) (by omega) (Int.le_refl _) (by rw [hb]; omega) (by omega)
    simp only [Int.toNat_natCast, hsz] at h
    exact h
  have hn0 := ownR_new (E := 50) (Ei := 3) (m := 2) w es [.int .i64 0, .int .i64 0] [.i 0, .i 0] (by unfold maxLen; omega) rfl rfl (by omega) (by intro c hc; simp only [List.mem_cons, List.not_mem_nil, or_false] at hc; rcases hc with rfl | rfl <;> rfl) (fun W B j h h' => by
    match j, h, h' with
    | 0, _, _ => exact rfl
    | 1, _, _ => exact rfl)
  have Hv0 := Lib.hid (show OwnR 50 3 2 (w.alloc (.cells (madeCells #[.int .i64 0, .int .i64 0] (es.length * 2)) 50)) w.heap.size (w.alloc (.cells (madeCells #[.int .i64 0, .int .i64 0] (es.length * 2)) 50)).heap.size _ (cpTo es [.i 0, .i 0] 0) from hn0.mono (by simp)); clear hn0
  have Hb0 := Lib.hid ((Below.refl w.heap.size w).alloc (Nat.le_refl _) (.cells (madeCells #[.int .i64 0, .int .i64 0] (es.length * 2)) 50))
  go_enter Try.func27, Try.ntmps27
  go_wp2_with fail
  go_loopw [4] (fun i wr => ∃ k : Nat, k ≤ es.length ∧ i = .int .i64 k ∧ OwnR 50 3 2 wr w.heap.size wr.heap.size (.slice (some ⟨w.heap.size, 0, none⟩) es.length es.length) (cpTo es [.i 0, .i 0] k) ∧ Below w.heap.size w wr) (fun i _ => es.length - (intOf i).toNat)
  case atStart => exact ⟨0, by omega, rfl, Hv0.out, Hb0.out⟩
  case round =>
    clear Hv0 Hb0
    obtain ⟨k, hk, rfl, hown, hbel⟩ := hrel
    have hB := hbel.size
    have Hbel := Lib.hid hbel; clear hbel
    have Hown := Lib.hid hown; clear hown
    by_cases hlt : k < es.length
    · obtain ⟨g, off, rfl, hg, hat⟩ := rows_at (Hr.out.under Hbel.out) (by omega) Hm.out
      obtain ⟨x0, x1, he⟩ := Hp.out _ (List.getElem_mem hlt)
      have hle := Hl.out _ (List.getElem_mem hlt)
      rw [he] at hle
      obtain ⟨v0, f0, C0, R0⟩ := hat k hlt 0 (by rw [he]; simp)
      obtain rfl := rd_i R0 (x := x0) (by simp only [he]; rfl)
      clear R0
      obtain ⟨v1, f1, C1, R1⟩ := hat k hlt 1 (by rw [he]; simp)
      obtain rfl := rd_i R1 (x := x1) (by simp only [he]; rfl)
      clear R1
      simp only [Nat.add_zero] at C0
      have hst := cpTo_step (z := [.i 0, .i 0]) hlt
      rw [he] at hst
      have Hst := Lib.hid hst; clear hst
      have hcl := cpTo_len es [.i 0, .i 0] k
      have hkc : k < (cpTo es [.i 0, .i 0] k).length := by rw [hcl]; exact hlt
      have hz0 : (cpTo es [.i 0, .i 0] k)[k] = [.i 0, .i 0] := by rw [cpTo_get, if_neg (by omega)]
      have hr0 := Hown.out
      rw [← set_self' hkc hz0] at hr0
      generalize cpTo es [.i 0, .i 0] k = rs at *
      have Hrs := Lib.hid (show es.length = rs.length from hcl.symm)
      have Hr0 := Lib.hid hr0; clear hr0 hz0
      have Hcall := Lib.hid (laws_toCoinPartR x0 x1 wr)
      clear hat he hle hcl Hown
      go_wp2_with fail
      refine Hcall.out.mono ?_
      rintro e w2 ⟨rfl, hb2⟩
      have hs2 := hb2.size
      have hrow := Hr0.out.below hb2 (Nat.le_refl _)
      have Hb2 := Lib.hid (below_step Hbel.out hB hb2)
      clear hb2 Hr0
      obtain ⟨P0, F0⟩ := hrow.rcI hkc 0 (x := 0) rfl
      obtain ⟨P1, F1⟩ := hrow.rcI hkc 1 (x := 0) rfl
      simp only [Nat.add_zero] at P0 F0
      have A0 := hrow.rowI Hrs.out hkc 0 (by omega) x0
      have A1 := A0.rowI Hrs.out hkc 1 (by omega) x1
      simp only [List.set_cons_zero, List.set_cons_succ, Nat.add_zero] at A1
      rw [Hst.out] at A1
      have hsz4 : ((w2.setCell ⟨w.heap.size, k * 2, none⟩ (.int .i64 x0)).setCell ⟨w.heap.size, k * 2 + 1, none⟩ (.int .i64 x1)).heap.size = w2.heap.size := by simp [World.setCell]
      have HA := Lib.hid (A1.mono (show wr.heap.size ≤ ((w2.setCell ⟨w.heap.size, k * 2, none⟩ (.int .i64 x0)).setCell ⟨w.heap.size, k * 2 + 1, none⟩ (.int .i64 x1)).heap.size by rw [hsz4]; exact hs2))
      have HB4 := Lib.hid ((Hb2.out.setCell (p := ⟨w.heap.size, k * 2, none⟩) (Nat.le_refl _) (.int .i64 x0)).setCell (p := ⟨w.heap.size, k * 2 + 1, none⟩) (Nat.le_refl _) (.int .i64 x1))
      clear hsz4 A0 A1 hrow
      go_wp2_with fail
      go_roundw
      case rel => exact ⟨k + 1, by omega, by go_num, HA.out, HB4.out⟩
      case measure => simp [intOf]; omega
    · have hke : k = es.length := by omega
      subst hke
      go_wp2
      go_ret
      exact ⟨_, rfl, by have h9 := Hown.out; rwa [cpTo_all] at h9, Hbel.out⟩

end Go.Proofs.Ytkndndcjchlpdab
