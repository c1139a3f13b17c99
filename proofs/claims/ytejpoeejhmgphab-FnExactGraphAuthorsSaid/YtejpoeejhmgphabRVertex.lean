/- The exact laws' functions on values and lists of Vertex: sameness, copies, sizes, marks, each by a walk of its text; conditions: the lists are no longer than the laws' bound. -/
import Derived.Test.YtejpoeejhmgphabRows
import Derived.Test.YtejpoeejhmgphabBase
import Derived.Test.YtejpoeejhmgphabApp
import Derived.Test.YtejpoeejhmgphabDt
import Derived.Test.YtejpoeejhmgphabOwR
import Derived.Test.YtejpoeejhmgphabOwS
import Derived.Test.YtejpoeejhmgphabRow
import Derived.Test.YtejpoeejhmgphabEx
import Derived.Test.YtejpoeejhmgphabHeld
import Derived.Test.YtejpoeejhmgphabL1
import Derived.Test.YtejpoeejhmgphabL2
import Derived.Test.YtejpoeejhmgphabOpen
import Derived.Deep.QuietTactic
import Derived.BigQuiet
namespace Go.Proofs.Ytejpoeejhmgphab
open Go.RowKit

def vertexP (e : List Fd) : Prop := ∃ (x0 : Int) (x1 : Int) (x2 : List Int) (x3 : Int), e = [.i x0, .i x1, .l x2, .i x3]
theorem vertexP_len {es : List (List Fd)} (h : ∀ e ∈ es, vertexP e) : ∀ e ∈ es, e.length = 4 := by
  intro e he
  obtain ⟨_, _, _, _, rfl⟩ := h e he
  rfl

theorem vertex_inf : (Try.prog.info? 28).map (fun i => (i.zero, i.size, i.bytes)) = some (some (.agg #[.int .i64 0, .int .i64 0, .slice none 0 0, .int .i64 0]), 4, 48) := by kernel_rfl
theorem vertex_new {B hi : Nat} {w : World} (x0 : Int) (x1 : Int) (x3 : Int) {a2 : Option Addr} {c2 : Nat} {x2 : List Int} (h : Own 3 w hi (.slice a2 x2.length c2) x2) (hB : B ≤ hi) :
    (∀ j (hj : j < [Fd.i x0, Fd.i x1, .l x2, Fd.i x3].length), ∃ c, [Value.int .i64 x0, Value.int .i64 x1, Value.slice a2 x2.length c2, Value.int .i64 x3][j]? = some c ∧ FdOk 3 w B c ([Fd.i x0, Fd.i x1, .l x2, Fd.i x3])[j]) ∧ (∀ (p q : Nat) c d, [Value.int .i64 x0, Value.int .i64 x1, Value.slice a2 x2.length c2, Value.int .i64 x3][p]? = some c → [Value.int .i64 x0, Value.int .i64 x1, Value.slice a2 x2.length c2, Value.int .i64 x3][q]? = some d → p ≠ q → Apart c d) ∧ ∀ c ∈ [Value.int .i64 x0, Value.int .i64 x1, Value.slice a2 x2.length c2, Value.int .i64 x3], ∀ g, c.ownBlock = some g → hi ≤ g := by
  refine ⟨fun j hj => ?_, fun p q c d hp hq hne g hc hd => ?_, fun c hc g hg => ?_⟩
  · match j, hj with
    | 0, _ => exact ⟨_, rfl, rfl⟩
    | 1, _ => exact ⟨_, rfl, rfl⟩
    | 2, _ => exact ⟨_, rfl, h.mono hB⟩
    | 3, _ => exact ⟨_, rfl, rfl⟩
  · have no : ∀ (p : Nat) c, p ≠ 2 → [Value.int .i64 x0, Value.int .i64 x1, Value.slice a2 x2.length c2, Value.int .i64 x3][p]? = some c → c.ownBlock = none := by
      intro p c hp hc
      match p, hc with
      | 0, hc => cases hc; rfl
      | 1, hc => cases hc; rfl
      | 2, hc => exact absurd rfl hp
      | 3, hc => cases hc; rfl
      | p + 4, hc => simp at hc
    by_cases e : p = 2
    · have := no q d (fun h => hne (e.trans h.symm)) hq
      rw [this] at hd; cases hd
    · have := no p c e hp
      rw [this] at hc; cases hc
  · simp only [List.mem_cons, List.not_mem_nil, or_false] at hc
    rcases hc with rfl | rfl | rfl | rfl
    · cases hg
    · cases hg
    · exact (h.lt g hg).1
    · cases hg

/-- A list of Vertex that came in. -/
theorem open_VertexS {H : Type} {enc : TypeId × Value → H} {W : World} {base : Nat} {v : Value} {d : DataW H} {p : List MemPlace} (hv : Value.okWide Try.prog W .any base 33 v) (h : DataW.Trod enc Try.prog W 0 (fun _ => true) true 33 v d p) :
    ∃ es fp, Rd W (rowsD es) v fp ∧ es.length ≤ maxLen ∧ ∀ e ∈ es, vertexP e ∧ fitE e := by
  obtain ⟨a, len, cap, rfl⟩ := Go.WideShapes.okWide_slice Try.underlying33 hv
  obtain ⟨d, fp, hr, hg⟩ := open_cell (opens_slice_struct (Gs := [IntG, IntG, RowsG [IntG], IntG]) Try.underlying33 (by kernel_rfl) Try.underlying24 (by kernel_rfl) (by decide) rfl (fun j h h' => by
    match j, h, h' with
    | 0, _, _ => exact ⟨rfl, opens_int Try.underlying3 (by kernel_rfl)⟩
    | 1, _, _ => exact ⟨rfl, opens_int Try.underlying3 (by kernel_rfl)⟩
    | 2, _, _ => exact ⟨rfl, opens_slice Try.underlying22 (by kernel_rfl) (opens_int Try.underlying3 (by kernel_rfl))⟩
    | 3, _, _ => exact ⟨rfl, opens_int Try.underlying3 (by kernel_rfl)⟩)) rfl h
  obtain ⟨es, rfl, hl, hp⟩ := rows_of hg (P := fun e => vertexP e ∧ fitE e) (fun e he hf => by
    match e, he with
    | [d0, d1, d2, d3], _ =>
      obtain ⟨x0, rfl, b0⟩ := hf 0 (by simp) (by simp)
      obtain ⟨x1, rfl, b1⟩ := hf 1 (by simp) (by simp)
      obtain ⟨x2, rfl, b2⟩ := ints_of (hf 2 (by simp) (by simp))
      obtain ⟨x3, rfl, b3⟩ := hf 3 (by simp) (by simp)
      exact ⟨[.i x0, .i x1, .l x2, .i x3], rfl, ⟨x0, x1, x2, x3, rfl⟩, fun _ hx => by
        simp at hx
        rcases hx with rfl | rfl | rfl
        · exact b0
        · exact b1
        · exact b3,
      fun _ hx => by
        simp at hx
        subst hx; exact b2⟩)
  exact ⟨es, fp, hr, hl, hp⟩

/-- A Vertex that came in by value. -/
theorem open_Vertex {H : Type} {enc : TypeId × Value → H} {W : World} {base : Nat} {v : Value} {d : DataW H} {p : List MemPlace} (hv : Value.okWide Try.prog W .any base 24 v) (h : DataW.Trod enc Try.prog W 0 (fun _ => true) true 24 v d p) :
    ∃ x0 x1 a2 c2 x2 x3, v = .agg #[.int .i64 x0, .int .i64 x1, .slice a2 x2.length c2, .int .i64 x3] ∧ (-9223372036854775808 ≤ x0 ∧ x0 ≤ 9223372036854775807) ∧ (-9223372036854775808 ≤ x1 ∧ x1 ≤ 9223372036854775807) ∧ (x2.length ≤ maxLen ∧ ∀ x ∈ x2, -9223372036854775808 ≤ x ∧ x ≤ 9223372036854775807) ∧ IntsAt W a2 x2 ∧ (-9223372036854775808 ≤ x3 ∧ x3 ≤ 9223372036854775807) := by
  obtain ⟨cs, rfl, hl, hf⟩ := open_struct (Gs := [IntG, IntG, RowsG [IntG], IntG]) Try.underlying24 (by kernel_rfl) rfl (fun j h h' => by
    match j, h, h' with
    | 0, _, _ => exact ⟨rfl, opens_int Try.underlying3 (by kernel_rfl)⟩
    | 1, _, _ => exact ⟨rfl, opens_int Try.underlying3 (by kernel_rfl)⟩
    | 2, _, _ => exact ⟨rfl, opens_slice Try.underlying22 (by kernel_rfl) (opens_int Try.underlying3 (by kernel_rfl))⟩
    | 3, _, _ => exact ⟨rfl, opens_int Try.underlying3 (by kernel_rfl)⟩) hv h
  match cs, hl with
  | [u0, u1, u2, u3], _ =>
    obtain ⟨d0, f0, r0, x0, rfl, b0⟩ := hf 0 (by simp) (by simp)
    obtain ⟨rfl, _⟩ := Rd.int (show Rd W (.i x0) u0 f0 from r0)
    obtain ⟨d1, f1, r1, x1, rfl, b1⟩ := hf 1 (by simp) (by simp)
    obtain ⟨rfl, _⟩ := Rd.int (show Rd W (.i x1) u1 f1 from r1)
    obtain ⟨d2, f2, r2, g2⟩ := hf 2 (by simp) (by simp)
    obtain ⟨x2, rfl, b2⟩ := ints_of g2
    obtain ⟨a2, c2, rfl, _, i2⟩ := Rd.ints (show Rd W (intsD x2) u2 f2 from r2)
    obtain ⟨d3, f3, r3, x3, rfl, b3⟩ := hf 3 (by simp) (by simp)
    obtain ⟨rfl, _⟩ := Rd.int (show Rd W (.i x3) u3 f3 from r3)
    exact ⟨x0, x1, a2, c2, x2, x3, rfl, b0, b1, b2, i2, b3⟩

theorem laws_eqVertexR (x0 : Int) (x1 : Int) (a2 a2' : Option Addr) (c2 c2' : Nat) (x2 : List Int) (x3 : Int) (w : World) (n2 : x2.length ≤ 1099511627776) (h2 : IntsAt w a2 x2) (h2' : IntsAt w a2' x2) :
    Calls Try.prog 17 #[.agg #[.int .i64 x0, .int .i64 x1, .slice a2 x2.length c2, .int .i64 x3], .agg #[.int .i64 x0, .int .i64 x1, .slice a2' x2.length c2', .int .i64 x3]] w fun e w' => e = .returned (.bool true) ∧ Below w.heap.size w w' := by
  have hb : Below w.heap.size w ((w.alloc (.cells #[.int .i64 x0, .int .i64 x1, .slice a2 x2.length c2, .int .i64 x3] 28)).alloc (.cells #[.int .i64 x0, .int .i64 x1, .slice a2' x2.length c2', .int .i64 x3] 28)) := ((Below.refl _ w).alloc (Nat.le_refl _) _).alloc (by simp) _
  have s0 := (Str.new w 28 #[.int .i64 x0, .int .i64 x1, .slice a2 x2.length c2, .int .i64 x3]).alloc (.cells #[.int .i64 x0, .int .i64 x1, .slice a2' x2.length c2', .int .i64 x3] 28)
  have s1 : Str ((w.alloc (.cells #[.int .i64 x0, .int .i64 x1, .slice a2 x2.length c2, .int .i64 x3] 28)).alloc (.cells #[.int .i64 x0, .int .i64 x1, .slice a2' x2.length c2', .int .i64 x3] 28)) (w.heap.size + 1) 28 #[.int .i64 x0, .int .i64 x1, .slice a2' x2.length c2', .int .i64 x3] := by
    rw [← (by simp : (w.alloc (.cells #[.int .i64 x0, .int .i64 x1, .slice a2 x2.length c2, .int .i64 x3] 28)).heap.size = w.heap.size + 1)]
    exact Str.new _ _ _
  have k0 := s0.cell 0 (v := .int .i64 x0) rfl
  have k1 := s0.cell 1 (v := .int .i64 x1) rfl
  have k2 := s0.cell 2 (v := .slice a2 x2.length c2) rfl
  have k3 := s0.cell 3 (v := .int .i64 x3) rfl
  have j0 := s1.cell 0 (v := .int .i64 x0) rfl
  have j1 := s1.cell 1 (v := .int .i64 x1) rfl
  have j2 := s1.cell 2 (v := .slice a2' x2.length c2') rfl
  have j3 := s1.cell 3 (v := .int .i64 x3) rfl
  have H2 := Lib.hid (fun W (h : Below w.heap.size w W) => laws_eqIntS' a2 a2' c2 c2' x2 W n2 (h2.below h) (h2'.below h))
  have Hb0 := Lib.hid hb; clear hb s0 s1 h2 h2'
  go_enter Try.func17, Try.ntmps17
  go_wp2_with fail
  generalize ((w.alloc (.cells #[.int .i64 x0, .int .i64 x1, .slice a2 x2.length c2, .int .i64 x3] 28)).alloc (.cells #[.int .i64 x0, .int .i64 x1, .slice a2' x2.length c2', .int .i64 x3] 28)) = W0 at *
  refine (H2.out _ Hb0.out).mono ?_
  rintro e W1 ⟨rfl, hd⟩
  have Hb1 := Lib.hid (Hb0.out.trans (hd.below _))
  have k0 := (hd.cell _).trans k0
  have k1 := (hd.cell _).trans k1
  have k2 := (hd.cell _).trans k2
  have k3 := (hd.cell _).trans k3
  have j0 := (hd.cell _).trans j0
  have j1 := (hd.cell _).trans j1
  have j2 := (hd.cell _).trans j2
  have j3 := (hd.cell _).trans j3
  clear hd
  go_wp2
  go_ret
  exact ⟨rfl, Hb1.out⟩

set_option maxHeartbeats 1000000 in
theorem laws_eqVertexSR (es : List (List Fd)) (v v' : Value) (fp fp' : List Nat) (w : World) (hbig : es.length ≤ 1099511627776) (hp : ∀ e ∈ es, vertexP e) (hl : ∀ e ∈ es, lnE e ≤ 1099511627776) (hr : Rd w (rowsD es) v fp) (hr' : Rd w (rowsD es) v' fp') :
    Calls Try.prog 22 #[v, v'] w fun e w' => e = .returned (.bool true) ∧ Below w.heap.size w w' := by
  have Hm := Lib.hid (vertexP_len hp)
  obtain ⟨a, cap, rfl⟩ := Rd.slice hr
  obtain ⟨a', cap', rfl⟩ := Rd.slice hr'
  rw [List.length_map] at *
  have Hr := Lib.hid hr; clear hr
  have Hr' := Lib.hid hr'; clear hr'
  have Hp := Lib.hid hp; clear hp
  have Hl := Lib.hid hl; clear hl
  go_enter Try.func22, Try.ntmps22
  go_wp2
  go_loopw [5] (fun i wr => ∃ k : Nat, k ≤ es.length ∧ i = .int .i64 k ∧ Below w.heap.size w wr) (fun i _ => es.length - (intOf i).toNat)
  case atStart => exact ⟨0, by omega, rfl, Below.refl _ _⟩
  case round =>
    obtain ⟨k, hk, rfl, hbel⟩ := hrel
    by_cases hlt : k < es.length
    · obtain ⟨g, off, rfl, hg, hat⟩ := rows_at (Hr.out.under hbel) (by omega) Hm.out
      obtain ⟨g', off', rfl, hg', hat'⟩ := rows_at (Hr'.out.under hbel) (by omega) Hm.out
      obtain ⟨x0, x1, x2, x3, he⟩ := Hp.out _ (List.getElem_mem hlt)
      have hle := Hl.out _ (List.getElem_mem hlt)
      rw [he] at hle
      obtain ⟨v0, f0, C0, R0⟩ := hat k hlt 0 (by rw [he]; simp)
      obtain rfl := rd_i R0 (x := x0) (by simp only [he]; rfl)
      clear R0
      obtain ⟨v1, f1, C1, R1⟩ := hat k hlt 1 (by rw [he]; simp)
      obtain rfl := rd_i R1 (x := x1) (by simp only [he]; rfl)
      clear R1
      obtain ⟨v2, f2, C2, R2⟩ := hat k hlt 2 (by rw [he]; simp)
      obtain ⟨a2, c2, rfl, I2⟩ := rd_l R2 (xs := x2) (by simp only [he]; rfl)
      clear R2
      obtain ⟨v3, f3, C3, R3⟩ := hat k hlt 3 (by rw [he]; simp)
      obtain rfl := rd_i R3 (x := x3) (by simp only [he]; rfl)
      clear R3
      simp only [Nat.add_zero] at C0
      obtain ⟨v0, f0, C0', R0⟩ := hat' k hlt 0 (by rw [he]; simp)
      obtain rfl := rd_i R0 (x := x0) (by simp only [he]; rfl)
      clear R0
      obtain ⟨v1, f1, C1', R1⟩ := hat' k hlt 1 (by rw [he]; simp)
      obtain rfl := rd_i R1 (x := x1) (by simp only [he]; rfl)
      clear R1
      obtain ⟨v2, f2, C2', R2⟩ := hat' k hlt 2 (by rw [he]; simp)
      obtain ⟨a2', c2', rfl, I2'⟩ := rd_l R2 (xs := x2) (by simp only [he]; rfl)
      clear R2
      obtain ⟨v3, f3, C3', R3⟩ := hat' k hlt 3 (by rw [he]; simp)
      obtain rfl := rd_i R3 (x := x3) (by simp only [he]; rfl)
      clear R3
      simp only [Nat.add_zero] at C0'
      have n2 : x2.length ≤ 1099511627776 := ln_in hle (by simp)
      have Hbel := Lib.hid hbel; clear hbel hat hat' he hle
      have H := Lib.hid (fun w' (h : Below wr.heap.size wr w') => laws_eqVertexR x0 x1 a2 a2' c2 c2' x2 x3 w' n2 (I2.below h) (I2'.below h))
      have hgl := Lib.hid (fun w' (h : Below wr.heap.size wr w') => (⟨Nat.lt_of_lt_of_le hg h.size, Nat.lt_of_lt_of_le hg' h.size⟩ : g < w'.heap.size ∧ g' < w'.heap.size))
      have hb0 : Below wr.heap.size wr wr.drew := (Below.refl _ _).drew
      clear hg hg' I2 I2'
      go_wp2_with fail
      refine wp_region_held_drew (S := fun w' => Below wr.heap.size wr w' ∧ w'.cell? ⟨g, off + k * 4, none⟩ = some (.int .i64 x0) ∧ w'.cell? ⟨g, off + k * 4 + 1, none⟩ = some (.int .i64 x1) ∧ w'.cell? ⟨g, off + k * 4 + 2, none⟩ = some (.slice a2 x2.length c2) ∧ w'.cell? ⟨g, off + k * 4 + 3, none⟩ = some (.int .i64 x3) ∧ w'.cell? ⟨g', off' + k * 4, none⟩ = some (.int .i64 x0) ∧ w'.cell? ⟨g', off' + k * 4 + 1, none⟩ = some (.int .i64 x1) ∧ w'.cell? ⟨g', off' + k * 4 + 2, none⟩ = some (.slice a2' x2.length c2') ∧ w'.cell? ⟨g', off' + k * 4 + 3, none⟩ = some (.int .i64 x3)) (by kernel_rfl) ⟨hb0, C0, C1, C2, C3, C0', C1', C2', C3'⟩ (fun hH => ?_)
      refine takeH 0 (v := ?vs0) rfl (by kernel_rfl) (by kernel_rfl) (by kernel_rfl) (fun _ _ _ h => h) hH rfl ?ys0 ?rs0
      case ys0 => intro w hSw; go_simp; try with_reducible rfl
      try simp only [Act.put, List.setIfInBounds_toArray, List.set_cons_zero, List.set_cons_succ]
      refine takeH 1 (v := ?vs1) rfl (by kernel_rfl) (by kernel_rfl) (by kernel_rfl) (fun _ _ _ h => h) hH rfl ?ys1 ?rs1
      case ys1 => intro w hSw; go_simp; try with_reducible rfl
      try simp only [Act.put, List.setIfInBounds_toArray, List.set_cons_zero, List.set_cons_succ]
      refine takeH 2 (v := ?vs2) rfl (by kernel_rfl) (by kernel_rfl) (by kernel_rfl) (fun _ _ _ h => h) hH rfl ?ys2 ?rs2
      case ys2 => intro w hSw; go_simp; try with_reducible rfl
      try simp only [Act.put, List.setIfInBounds_toArray, List.set_cons_zero, List.set_cons_succ]
      refine takeH 3 (v := ?vs3) rfl (by kernel_rfl) (by kernel_rfl) (by kernel_rfl) (fun _ _ _ h => h) hH rfl ?ys3 ?rs3
      case ys3 => intro w hSw; go_simp; try with_reducible rfl
      try simp only [Act.put, List.setIfInBounds_toArray, List.set_cons_zero, List.set_cons_succ]
      refine takeH 4 (v := ?vs4) rfl (by kernel_rfl) (by kernel_rfl) (by kernel_rfl) (fun _ _ _ h => h) hH rfl ?ys4 ?rs4
      case ys4 => intro w hSw; go_simp; try with_reducible rfl
      try simp only [Act.put, List.setIfInBounds_toArray, List.set_cons_zero, List.set_cons_succ]
      refine takeH 5 (v := ?vs5) rfl (by kernel_rfl) (by kernel_rfl) (by kernel_rfl) (fun _ _ _ h => h) hH rfl ?ys5 ?rs5
      case ys5 => intro w hSw; go_simp; try with_reducible rfl
      try simp only [Act.put, List.setIfInBounds_toArray, List.set_cons_zero, List.set_cons_succ]
      refine takeH 6 (v := ?vs6) rfl (by kernel_rfl) (by kernel_rfl) (by kernel_rfl) (fun _ _ _ h => h) hH rfl ?ys6 ?rs6
      case ys6 => intro w hSw; go_simp; try with_reducible rfl
      try simp only [Act.put, List.setIfInBounds_toArray, List.set_cons_zero, List.set_cons_succ]
      refine takeH 7 (v := ?vs7) rfl (by kernel_rfl) (by kernel_rfl) (by kernel_rfl) (fun _ _ _ h => h) hH rfl ?ys7 ?rs7
      case ys7 => intro w hSw; go_simp; try with_reducible rfl
      try simp only [Act.put, List.setIfInBounds_toArray, List.set_cons_zero, List.set_cons_succ]
      refine callH 8 rfl (by kernel_rfl) rfl (fun K hK => ?_)
      go_simp
      go_at_call 17
      refine (H.out _ hH.1).mono ?_
      rintro e wx ⟨rfl, hbx⟩
      refine hK.out _ _ ⟨hH.1.trans (hbx.mono hH.1.size), (hbx.cell (p := ⟨g, off + k * 4, none⟩) (hgl.out _ hH.1).1).trans hH.2.1, (hbx.cell (p := ⟨g, off + k * 4 + 1, none⟩) (hgl.out _ hH.1).1).trans hH.2.2.1, (hbx.cell (p := ⟨g, off + k * 4 + 2, none⟩) (hgl.out _ hH.1).1).trans hH.2.2.2.1, (hbx.cell (p := ⟨g, off + k * 4 + 3, none⟩) (hgl.out _ hH.1).1).trans hH.2.2.2.2.1, (hbx.cell (p := ⟨g', off' + k * 4, none⟩) (hgl.out _ hH.1).2).trans hH.2.2.2.2.2.1, (hbx.cell (p := ⟨g', off' + k * 4 + 1, none⟩) (hgl.out _ hH.1).2).trans hH.2.2.2.2.2.2.1, (hbx.cell (p := ⟨g', off' + k * 4 + 2, none⟩) (hgl.out _ hH.1).2).trans hH.2.2.2.2.2.2.2.1, (hbx.cell (p := ⟨g', off' + k * 4 + 3, none⟩) (hgl.out _ hH.1).2).trans hH.2.2.2.2.2.2.2.2⟩ (fun hH => ?_)
      clear hK K
      try simp only [Act.put, List.setIfInBounds_toArray, List.set_cons_zero, List.set_cons_succ]
      refine takeH 9 (v := ?vs9) rfl (by kernel_rfl) (by kernel_rfl) (by kernel_rfl) (fun _ _ _ h => h) hH rfl ?ys9 ?rs9
      case ys9 => intro w hSw; go_simp; try with_reducible rfl
      try simp only [Act.put, List.setIfInBounds_toArray, List.set_cons_zero, List.set_cons_succ]
      refine wpAnyH_done (by kernel_rfl) ?_ _
      go_wp2
      go_roundw
      case rel => exact ⟨k + 1, by omega, by go_num, below_step Hbel.out Hbel.out.size hH.1⟩
      case measure => simp [intOf]; omega
    · go_wp2
      go_ret
      exact ⟨rfl, hbel⟩

set_option maxHeartbeats 2000000 in
theorem laws_markVertexSR (es : List (List Fd)) (v : Value) (k B hi : Nat) (w : World) (hk : kTo es k es.length ≤ 1099511627776) (hp : ∀ e ∈ es, vertexP e) (hown : OwnR 28 3 4 w B hi v es) :
    Calls Try.prog 28 #[v, .int .i64 k] w fun e w' => e = .returned (.int .i64 ((kTo es k es.length : Nat) : Int)) ∧ OwnR 28 3 4 w' B hi v (mkTo es k es.length) ∧ Btw B hi w w' := by
  obtain ⟨a, cap, rfl, hml9⟩ := hown.slice
  unfold maxLen at hml9
  rw [← mkTo_zero es k, mkTo_len] at hown
  have Hown := Lib.hid hown; clear hown
  have Hp := Lib.hid hp; clear hp
  have Hk := Lib.hid (fun j (h : j ≤ es.length) => Nat.le_trans (kTo_le (es := es) (k := k) h) hk)
  have hk0 : k ≤ 1099511627776 := by have := Hk.out 0 (Nat.zero_le _); rwa [kTo_zero] at this
  clear hk
  go_enter Try.func28, Try.ntmps28
  go_wp2
  go_loopw [1, 5] (fun c i wr => ∃ j : Nat, j ≤ es.length ∧ i = .int .i64 j ∧ c = .int .i64 ((kTo es k j : Nat) : Int) ∧ OwnR 28 3 4 wr B hi (.slice a es.length cap) (mkTo es k j) ∧ Btw B hi w wr) (fun _ i _ => es.length - (intOf i).toNat)
  case atStart => exact ⟨0, by omega, rfl, by rw [kTo_zero], Hown.out, Btw.refl _ _ _⟩
  case round =>
    obtain ⟨j, hj, rfl, rfl, hrow, hbt⟩ := hrel
    by_cases hlt : j < es.length
    · have hml := mkTo_len es k j
      obtain ⟨g, cap', hv, hBg, hgh, hgs⟩ := hrow.head (by rw [hml]; omega)
      simp only [Value.slice.injEq] at hv
      obtain ⟨rfl, hvl, rfl⟩ := hv
      clear hvl
      have hjm : j < (mkTo es k j).length := by omega
      obtain ⟨x0, x1, x2, x3, he⟩ := Hp.out _ (List.getElem_mem hlt)
      have hset := mkTo_set (k := k) hlt
      have hnx := kTo_succ (k := k) hlt
      have hkb := Hk.out (j + 1) hlt
      have hkb0 := Hk.out j (by omega)
      have hr0 := hrow
      rw [← set_self' hjm ((mkTo_at hlt hjm).trans he)] at hr0
      rw [he] at hset hnx
      simp only [mkE, Fd.mk', Fd.nx] at hset
      simp only [nxE, Fd.nx] at hnx
      rw [hnx] at hkb
      generalize hes : mkTo es k j = rs at *
      have Hrs := Lib.hid (show es.length = rs.length from hml.symm)
      have Hjm := Lib.hid hjm
      have Hset := Lib.hid hset; clear hset
      have Hnx := Lib.hid hnx; clear hnx
      have Hes := Lib.hid hes; clear hes
      generalize hm0 : kTo es k j = m0 at *
      have Hm0 := Lib.hid hm0; clear hm0 hrow hml he
      obtain ⟨C0, Z0⟩ := hr0.rcI hjm 0 (x := x0) rfl
      obtain ⟨C1, Z1⟩ := hr0.rcI hjm 1 (x := x1) rfl
      obtain ⟨a2, c2, C2, O2, Z2, N2, R2⟩ := hr0.rcL hjm 2 (xs := x2) rfl
      have hr0_0 := hr0.rowI Hrs.out hjm 0 (by omega) ((m0 : Int))
      have hbt0_0 := hbt.trans (Btw.set (lo := B) (hi := hi) wr hBg hgh (j * 4 + 0) (.int .i64 ((m0 : Int))))
      have ho0_0 := O2.set_other (B' := g) N2 (j * 4 + 0) (.int .i64 ((m0 : Int)))
      have hc0_0 := (World.cell?_setCell_other wr ⟨g, j * 4 + 0, none⟩ ⟨g, j * 4 + 2, none⟩ (.int .i64 ((m0 : Int))) (by simp)).trans C2
      have hr0_1 := hr0_0.rowI Hrs.out hjm 1 (by omega) ((m0 : Int) + 1)
      have hbt0_1 := hbt0_0.trans (Btw.set (lo := B) (hi := hi) (wr.setCell ⟨g, j * 4 + 0, none⟩ (.int .i64 ((m0 : Int)))) hBg hgh (j * 4 + 1) (.int .i64 ((m0 : Int) + 1)))
      have ho0_1 := ho0_0.set_other (B' := g) N2 (j * 4 + 1) (.int .i64 ((m0 : Int) + 1))
      have hc0_1 := (World.cell?_setCell_other (wr.setCell ⟨g, j * 4 + 0, none⟩ (.int .i64 ((m0 : Int)))) ⟨g, j * 4 + 1, none⟩ ⟨g, j * 4 + 2, none⟩ (.int .i64 ((m0 : Int) + 1)) (by simp)).trans hc0_0
      simp only [List.set_cons_zero, List.set_cons_succ] at hr0_1
      have hcall := laws_markIntS (.slice a2 x2.length c2) x2 (m0 + 2) B ((wr.setCell ⟨g, j * 4 + 0, none⟩ (.int .i64 ((m0 : Int)))).setCell ⟨g, j * 4 + 1, none⟩ (.int .i64 ((m0 : Int) + 1))) (by omega) (by omega) ho0_1
      rw [show ((m0 + 2 : Nat) : Int) = (m0 : Int) + 1 + 1 by omega] at hcall
      have HR0 := Lib.hid (fun W' (o : Own 3 W' B (.slice a2 x2.length c2) (markL (m0 + 2) x2.length)) (hg' : World.grownBy ((wr.setCell ⟨g, j * 4 + 0, none⟩ (.int .i64 ((m0 : Int)))).setCell ⟨g, j * 4 + 1, none⟩ (.int .i64 ((m0 : Int) + 1))) W' (Value.slice a2 x2.length c2).ownBlock) => hr0_1.rowL hjm 2 (by omega) hc0_1 o hg')
      have HBT0 := Lib.hid (fun W' (hg' : World.grownBy ((wr.setCell ⟨g, j * 4 + 0, none⟩ (.int .i64 ((m0 : Int)))).setCell ⟨g, j * 4 + 1, none⟩ (.int .i64 ((m0 : Int) + 1))) W' (Value.slice a2 x2.length c2).ownBlock) => hbt0_1.trans (Btw.grown hg' R2))
      obtain ⟨m1, hm1⟩ : ∃ x : Nat, m0 + 2 + x2.length = x := ⟨_, rfl⟩
      rw [hm1] at hcall hkb
      have Hm1 := Lib.hid hm1; clear hm1
      have Hcall := Lib.hid hcall; clear hcall
      clear hr0_0 hbt0_0 ho0_0 hc0_0 hr0_1 hbt0_1 ho0_1 hc0_1 hr0 hbt O2 N2 Z2 R2
      simp only [Nat.add_zero] at C0 Z0
      go_wp2_with fail
      refine Hcall.out.mono ?_
      rintro e w1 ⟨rfl, ho, hg⟩
      have hr1 := HR0.out w1 ho hg
      simp only [List.set_cons_zero, List.set_cons_succ] at hr1
      have hbt1 := HBT0.out w1 hg
      clear ho hg Hcall HR0 HBT0 C2 C0 Z0 C1 Z1
      obtain ⟨C3, Z3⟩ := hr1.rcI hjm 3 (x := x3) rfl
      have hr1_3 := hr1.rowI Hrs.out hjm 3 (by omega) ((m1 : Int))
      have hbt1_3 := hbt1.trans (Btw.set (lo := B) (hi := hi) w1 hBg hgh (j * 4 + 3) (.int .i64 ((m1 : Int))))
      simp only [List.set_cons_zero, List.set_cons_succ] at hr1_3
      have HR := Lib.hid hr1_3
      have HB := Lib.hid hbt1_3
      clear hr1_3 hbt1_3 hr1 hbt1
      go_wp2
      go_roundw
      case rel =>
        have hn9 := Hnx.out
        have hs9 := Hset.out
        have hr9 := HR.out
        have e1 := Hm1.out
        subst e1
        refine ⟨j + 1, by omega, by go_num, int_eq (by rw [hn9] <;> omega), ?_, HB.out⟩
        rw [← hs9]
        first | exact hr9 | simpa using hr9
      case measure => simp [intOf]; omega
    · have hje : j = es.length := by omega
      subst hje
      go_wp2
      go_ret
      exact ⟨rfl, hrow, hbt⟩

set_option maxHeartbeats 2000000 in
theorem laws_heldVertexSR (es : List (List Fd)) (v : Value) (k B hi : Nat) (w : World) (hk : kTo es k es.length ≤ 1099511627776) (hp : ∀ e ∈ es, vertexP e) (hown : OwnR 28 3 4 w B hi v (mkTo es k es.length)) :
    Calls Try.prog 30 #[v, .int .i64 k] w fun e w' => e = .returned (.int .i64 ((kTo es k es.length : Nat) : Int)) ∧ Drawn w w' := by
  obtain ⟨a, cap, rfl, hml9⟩ := hown.slice
  rw [mkTo_len] at *
  unfold maxLen at hml9
  have Hown := Lib.hid hown; clear hown
  have Hp := Lib.hid hp; clear hp
  have Hk := Lib.hid (fun j (h : j ≤ es.length) => Nat.le_trans (kTo_le (es := es) (k := k) h) hk)
  have hk0 : k ≤ 1099511627776 := by have := Hk.out 0 (Nat.zero_le _); rwa [kTo_zero] at this
  clear hk
  go_enter Try.func30, Try.ntmps30
  go_wp2
  go_loopw [1, 5] (fun c i wr => ∃ j : Nat, j ≤ es.length ∧ i = .int .i64 j ∧ c = .int .i64 ((kTo es k j : Nat) : Int) ∧ Drawn w wr) (fun _ i _ => es.length - (intOf i).toNat)
  case atStart => exact ⟨0, by omega, rfl, by rw [kTo_zero], Drawn.refl _⟩
  case round =>
    obtain ⟨j, hj, rfl, rfl, hdr⟩ := hrel
    by_cases hlt : j < es.length
    · have hml := mkTo_len es k es.length
      obtain ⟨g, cap', hv, hBg, hgh, hgs⟩ := Hown.out.head (by rw [hml]; omega)
      simp only [Value.slice.injEq] at hv
      obtain ⟨rfl, hvl, rfl⟩ := hv
      clear hvl
      have hjm : j < (mkTo es k es.length).length := by omega
      obtain ⟨x0, x1, x2, x3, he⟩ := Hp.out _ (List.getElem_mem hlt)
      have hnx := kTo_succ (k := k) hlt
      have hkb := Hk.out (j + 1) hlt
      have hkb0 := Hk.out j (by omega)
      have hr0 := Hown.out
      rw [← set_self' hjm (mkTo_all hlt hjm)] at hr0
      rw [he] at hr0 hnx
      simp only [mkE, Fd.mk', Fd.nx] at hr0
      simp only [nxE, Fd.nx] at hnx
      rw [hnx] at hkb
      have Hnx := Lib.hid hnx; clear hnx
      generalize hm0 : kTo es k j = m0 at *
      have Hm0 := Lib.hid hm0; clear hm0 he
      have C0 := (hdr.cell _).trans (hr0.rcI hjm 0 rfl).1
      have C1 := (hdr.cell _).trans (hr0.rcI hjm 1 rfl).1
      obtain ⟨a2, c2, D2, O2, _, _, _⟩ := hr0.rcL hjm 2 rfl
      rw [markL_len] at D2
      have C2 := (hdr.cell _).trans D2; clear D2
      obtain ⟨_, _, hv2, I2, _⟩ := O2.ints; rw [markL_len] at hv2; simp only [Value.slice.injEq] at hv2; obtain ⟨rfl, _, rfl⟩ := hv2; clear O2
      have C3 := (hdr.cell _).trans (hr0.rcI hjm 3 rfl).1
      clear hr0
      simp only [Nat.add_zero] at C0
      obtain ⟨m1, hm1⟩ : ∃ x : Nat, m0 + 2 + x2.length = x := ⟨_, rfl⟩
      have Hm1 := Lib.hid hm1; clear hm1
      rw [show ((m0 + 1 : Nat) : Int) = (m0 : Int) + 1 by omega] at C1
      rw [show m0 + 1 + 1 = m0 + 2 by omega] at I2
      have hkb9 : m1 ≤ 1099511627776 := by have := Hm1.out; omega
      have H2 := fun W (h : Drawn w W) => laws_heldIntS a2 c2 (m0 + 2) x2.length W (by have := Hm1.out; omega) (by omega) (h.ints I2)
      rw [show ((m0 + 2 : Nat) : Int) = (m0 : Int) + 1 + 1 by omega, Hm1.out] at H2
      have H2 := Lib.hid H2; clear I2
      have g1 : decide ((m1 : Int) < 0) = false := decide_eq_false (by omega)
      rw [show ((m0 + 1 + 1 + x2.length : Nat) : Int) = (m1 : Int) by have := Hm1.out; omega] at C3
      go_wp2_with fail
      refine (H2.out _ hdr).mono ?_
      rintro e w1 ⟨rfl, hd1⟩
      have C3 := (hd1.cell _).trans C3
      have hdr1 := hdr.trans hd1
      clear hd1 H2
      go_wp2
      go_roundw
      case rel =>
        have hn9 := Hnx.out
        have e1 := Hm1.out
        refine ⟨j + 1, by omega, by go_num, int_eq (by rw [hn9] <;> omega), hdr1⟩
      case measure => simp [intOf]; omega
    · have hje : j = es.length := by omega
      subst hje
      go_wp2
      go_ret
      exact ⟨rfl, hdr⟩

theorem laws_szIntSVertex (a : Option Addr) (cap : Nat) (xs : List Int) (left : Nat) (w : World) (hl : left ≤ 1048576) (hbig : xs.length ≤ 9223372036854775807) :
    Calls Try.prog 40 #[.slice a xs.length cap, .int .i64 (left : Int)] w fun e w' => e = .returned (.int .i64 (if xs.length ≤ left then ((left - xs.length : Nat) : Int) else -1)) ∧ w = w' := by
  by_cases h : xs.length ≤ left
  · have h' : ¬ ((left : Int) - (xs.length : Int) < 0) := by omega
    rw [if_pos h]
    go_enter Try.func40, Try.ntmps40
    go_wp2
    go_ret
    exact ⟨ret_int (by omega), rfl⟩
  · have h' : (left : Int) - (xs.length : Int) < 0 := by omega
    rw [if_neg h]
    go_enter Try.func40, Try.ntmps40
    go_wp2
    go_ret
    exact ⟨rfl, rfl⟩

theorem laws_szVertexR (x0 : Int) (x1 : Int) (a2 : Option Addr) (c2 : Nat) (x2 : List Int) (x3 : Int) (left : Nat) (w : World) (hl : left ≤ 1048576) (n2 : x2.length ≤ 9223372036854775807) :
    Calls Try.prog 11 #[.agg #[.int .i64 x0, .int .i64 x1, .slice a2 x2.length c2, .int .i64 x3], .int .i64 (left : Int)] w fun e w' => e = .returned (.int .i64 (if x2.length ≤ left then ((left - (x2.length) : Nat) : Int) else -1)) ∧ Below w.heap.size w w' := by
  have hb : Below w.heap.size w (w.alloc (.cells #[.int .i64 x0, .int .i64 x1, .slice a2 x2.length c2, .int .i64 x3] 24)) := (Below.refl _ w).alloc (Nat.le_refl _) _
  have s0 := Str.new w 24 #[.int .i64 x0, .int .i64 x1, .slice a2 x2.length c2, .int .i64 x3]
  have k0 := s0.cell 0 (v := .int .i64 x0) rfl
  have k1 := s0.cell 1 (v := .int .i64 x1) rfl
  have k2 := s0.cell 2 (v := .slice a2 x2.length c2) rfl
  have k3 := s0.cell 3 (v := .int .i64 x3) rfl
  have Hb := Lib.hid hb; clear hb s0
  by_cases h0 : x2.length ≤ left
  · have H0 := fun W => laws_szIntSVertex a2 c2 x2 left W (by omega) n2
    rw [if_pos h0] at H0
    obtain ⟨l0, hl0⟩ : ∃ l : Nat, left - x2.length = l := ⟨_, rfl⟩
    rw [hl0] at H0
    have H0 := Lib.hid H0
    have L0 := Lib.hid hl0; clear hl0
    have g0 : decide ((l0 : Int) < 0) = false := decide_eq_false (by omega)
    have b0 : l0 ≤ 1048576 := by have := L0.out; omega
    go_enter Try.func11, Try.ntmps11
    go_wp2_with fail
    refine (H0.out _).mono ?_
    rintro e w' ⟨rfl, rfl⟩
    go_wp2
    go_ret
    exact ⟨ret_int (by have := L0.out; first | omega | (rw [if_pos (by omega)]; omega)), Hb.out⟩
  · have H0 := fun W => laws_szIntSVertex a2 c2 x2 left W (by omega) n2
    rw [if_neg h0] at H0
    have H0 := Lib.hid H0
    go_enter Try.func11, Try.ntmps11
    go_wp2_with fail
    refine (H0.out _).mono ?_
    rintro e w' ⟨rfl, rfl⟩
    go_wp2
    go_ret
    exact ⟨ret_int (by first | rfl | (rw [if_neg (by omega)])), Hb.out⟩

set_option maxHeartbeats 1000000 in
theorem laws_szVertexSR (es : List (List Fd)) (v : Value) (fp : List Nat) (left : Nat) (w : World) (hl : left ≤ 1048576) (hbig : es.length ≤ 9223372036854775807) (hp : ∀ e ∈ es, vertexP e) (hin : ∀ e ∈ es, ∀ xs, Fd.l xs ∈ e → xs.length ≤ 9223372036854775807) (hr : Rd w (rowsD es) v fp) :
    Calls Try.prog 18 #[v, .int .i64 (left : Int)] w fun e w' => e = .returned (.int .i64 (if es.length + lnTo es es.length ≤ left then ((left - es.length - lnTo es es.length : Nat) : Int) else -1)) ∧ Below w.heap.size w w' := by
  obtain ⟨a, cap, rfl⟩ := Rd.slice hr
  rw [List.length_map] at *
  have Hm := Lib.hid (vertexP_len hp)
  have Hr := Lib.hid hr; clear hr
  have Hin := Lib.hid hin; clear hin
  have Hp := Lib.hid hp; clear hp
  by_cases h : es.length ≤ left
  · have h' : ¬ ((left : Int) - (es.length : Int) < 0) := by omega
    have hcast : (left : Int) - (es.length : Int) = ((left - es.length : Nat) : Int) := by omega
    go_enter Try.func18, Try.ntmps18
    go_wp2_with fail
    go_loopw [1, 5] (fun m i wr => ∃ k : Nat, k ≤ es.length ∧ i = .int .i64 k ∧ es.length + lnTo es k ≤ left ∧ m = .int .i64 ((left - es.length - lnTo es k : Nat) : Int) ∧ Below w.heap.size w wr) (fun _ i _ => es.length - (intOf i).toNat)
    case atStart => exact ⟨0, by omega, rfl, by rw [lnTo_zero]; exact h, int_eq (by rw [lnTo_zero]; omega), Below.refl _ _⟩
    case round =>
      obtain ⟨k, hk, rfl, hle, rfl, hbel⟩ := hrel
      clear h' hcast
      by_cases hlt : k < es.length
      · obtain ⟨g, off, rfl, hg, hat⟩ := rows_at (Hr.out.under hbel) (by omega) Hm.out
        have Hbel := Lib.hid hbel; clear hbel
        obtain ⟨x0, x1, x2, x3, he⟩ := Hp.out _ (List.getElem_mem hlt)
        have hin := Hin.out _ (List.getElem_mem hlt)
        rw [he] at hin
        obtain ⟨v0, f0, C0, R0⟩ := hat k hlt 0 (by rw [he]; simp)
        obtain rfl := rd_i R0 (x := x0) (by simp only [he]; rfl)
        clear R0
        obtain ⟨v1, f1, C1, R1⟩ := hat k hlt 1 (by rw [he]; simp)
        obtain rfl := rd_i R1 (x := x1) (by simp only [he]; rfl)
        clear R1
        obtain ⟨v2, f2, C2, R2⟩ := hat k hlt 2 (by rw [he]; simp)
        obtain ⟨a2, c2, rfl, I2⟩ := rd_l R2 (xs := x2) (by simp only [he]; rfl)
        clear R2
        obtain ⟨v3, f3, C3, R3⟩ := hat k hlt 3 (by rw [he]; simp)
        obtain rfl := rd_i R3 (x := x3) (by simp only [he]; rfl)
        clear R3
        simp only [Nat.add_zero] at C0
        have n2 := hin x2 (by simp)
        have hs1 := lnTo_succ hlt
        rw [he] at hs1
        rw [show lnE [.i x0, .i x1, .l x2, .i x3] = x2.length by simp [lnE, Fd.ln]] at hs1
        have Hs1 := Lib.hid hs1; clear hs1 hin hat he I2
        have Hmono := Lib.hid (lnTo_le (es := es) (show k + 1 ≤ es.length from hlt))
        obtain ⟨q, hq⟩ : ∃ q, left - es.length - lnTo es k = q := ⟨_, rfl⟩
        have hsz := laws_szVertexR x0 x1 a2 c2 x2 x3 q wr (by omega) n2
        rw [hq]
        by_cases hv : x2.length ≤ q
        · rw [if_pos hv] at hsz
          have Hsz := Lib.hid hsz; clear hsz
          have Hn := Lib.hid (show ((q - (x2.length) : Nat) : Int) = ((left - es.length - lnTo es (k + 1) : Nat) : Int) by rw [Hs1.out]; omega)
          have Hn2 := Lib.hid (show es.length + lnTo es (k + 1) ≤ left by rw [Hs1.out]; omega)
          obtain ⟨u, hu⟩ : ∃ u : Nat, q - (x2.length) = u := ⟨_, rfl⟩
          have Hu := Lib.hid hu
          have hz := Hsz.out
          rw [hu] at hz
          have Hz := Lib.hid hz; clear hz hu
          have g9 : decide ((u : Int) < 0) = false := decide_eq_false (by omega)
          clear hq
          go_wp2_with fail
          refine Hz.out.mono ?_
          rintro e w2 ⟨rfl, hb2⟩
          have Hb2 := Lib.hid (below_step Hbel.out Hbel.out.size hb2)
          clear hb2
          go_wp2
          go_roundw
          case rel => exact ⟨k + 1, by omega, by go_num, Hn2.out, int_eq (by rw [← Hn.out, Hu.out]), Hb2.out⟩
          case measure => simp [intOf]; omega
        · rw [if_neg hv] at hsz
          have Hsz := Lib.hid hsz; clear hsz
          have Hf := Lib.hid (show ¬ es.length + lnTo es es.length ≤ left by have := Hmono.out; rw [Hs1.out] at this; omega)
          clear hq
          go_wp2_with fail
          refine Hsz.out.mono ?_
          rintro e w2 ⟨rfl, hb2⟩
          have Hb2 := Lib.hid (below_step Hbel.out Hbel.out.size hb2)
          clear hb2
          go_wp2
          go_ret
          exact ⟨by first | rfl | (rw [if_neg Hf.out]; rfl), Hb2.out⟩
      · have hke : k = es.length := by omega
        subst hke
        have Hle := Lib.hid hle; clear hle
        generalize hq : left - es.length - lnTo es es.length = q at *
        have Hq := Lib.hid hq; clear hq
        go_wp2
        go_ret
        exact ⟨by first | (rw [if_pos Hle.out, Hq.out]; rfl) | (rw [Hq.out]; rfl), hbel⟩
  · have h' : (left : Int) - (es.length : Int) < 0 := by omega
    have Hf := Lib.hid (show ¬ es.length + lnTo es es.length ≤ left by omega)
    go_enter Try.func18, Try.ntmps18
    go_wp2
    go_ret
    exact ⟨by first | rfl | (rw [if_neg Hf.out]; rfl), Below.refl _ _⟩

theorem laws_toVertexR (x0 : Int) (x1 : Int) (a2 : Option Addr) (c2 : Nat) (x2 : List Int) (x3 : Int) (w : World) (hbig : x2.length ≤ 1099511627776) (hc : IntsAt w a2 x2) :
    Calls Try.prog 14 #[.agg #[.int .i64 x0, .int .i64 x1, .slice a2 x2.length c2, .int .i64 x3]] w fun e w' => ∃ v, e = .returned (.agg #[.int .i64 x0, .int .i64 x1, v, .int .i64 x3]) ∧ Own 3 w' w.heap.size v x2 ∧ Below w.heap.size w w' := by
  have hbW : Below w.heap.size w (((w.alloc (.cells #[.int .i64 x0, .int .i64 x1, .slice a2 x2.length c2, .int .i64 x3] 24)).alloc (.cells #[.int .i64 0, .int .i64 0, .slice none 0 0, .int .i64 0] 28)).alloc (.cells #[.int .i64 x0, .int .i64 x1, .slice none 0 0, .int .i64 0] 28)) := (((Below.refl _ w).alloc (Nat.le_refl _) _).alloc (by simp) _).alloc (by simp; omega) _
  have s0 := ((Str.new w 24 #[.int .i64 x0, .int .i64 x1, .slice a2 x2.length c2, .int .i64 x3]).alloc (.cells #[.int .i64 0, .int .i64 0, .slice none 0 0, .int .i64 0] 28)).alloc (.cells #[.int .i64 x0, .int .i64 x1, .slice none 0 0, .int .i64 0] 28)
  have s1 := (Str.new (w.alloc (.cells #[.int .i64 x0, .int .i64 x1, .slice a2 x2.length c2, .int .i64 x3] 24)) 28 #[.int .i64 0, .int .i64 0, .slice none 0 0, .int .i64 0]).alloc (.cells #[.int .i64 x0, .int .i64 x1, .slice none 0 0, .int .i64 0] 28)
  have s2 := Str.new ((w.alloc (.cells #[.int .i64 x0, .int .i64 x1, .slice a2 x2.length c2, .int .i64 x3] 24)).alloc (.cells #[.int .i64 0, .int .i64 0, .slice none 0 0, .int .i64 0] 28)) 28 #[.int .i64 x0, .int .i64 x1, .slice none 0 0, .int .i64 0]
  have hzW : (((w.alloc (.cells #[.int .i64 x0, .int .i64 x1, .slice a2 x2.length c2, .int .i64 x3] 24)).alloc (.cells #[.int .i64 0, .int .i64 0, .slice none 0 0, .int .i64 0] 28)).alloc (.cells #[.int .i64 x0, .int .i64 x1, .slice none 0 0, .int .i64 0] 28)).heap.size = w.heap.size + 3 := by simp
  simp only [World.size_alloc] at s1 s2
  have Hc := Lib.hid (hc.below hbW)
  have Hb := Lib.hid hbW
  have Hs0 := Lib.hid s0
  have Hs1 := Lib.hid s1
  have Hs2 := Lib.hid s2
  have Hz := Lib.hid hzW
  clear hc hbW s0 s1 s2 hzW
  go_enter Try.func14, Try.ntmps14
  go_wp2_with fail
  generalize ((w.alloc (.cells #[.int .i64 x0, .int .i64 x1, .slice a2 x2.length c2, .int .i64 x3] 24)).alloc (.cells #[.int .i64 0, .int .i64 0, .slice none 0 0, .int .i64 0] 28)).alloc (.cells #[.int .i64 x0, .int .i64 x1, .slice none 0 0, .int .i64 0] 28) = W1 at *
  refine (laws_toIntS a2 c2 x2 W1 hbig Hc.out).mono ?_
  rintro e w6 ⟨v, rfl, hown, hb6⟩
  have hz := Hz.out
  have t0 : Str w6 w.heap.size 24 #[.int .i64 x0, .int .i64 x1, .slice a2 x2.length c2, .int .i64 x3] := (hb6.block _ (by omega)).trans Hs0.out
  have t1 : Str w6 (w.heap.size + 1) 28 #[.int .i64 0, .int .i64 0, .slice none 0 0, .int .i64 0] := (hb6.block _ (by omega)).trans Hs1.out
  have t2 : Str w6 (w.heap.size + 1 + 1) 28 #[.int .i64 x0, .int .i64 x1, .slice none 0 0, .int .i64 0] := (hb6.block _ (by omega)).trans Hs2.out
  have Hlt := Lib.hid (show ∀ g, v.ownBlock = some g → w.heap.size + 3 ≤ g from fun g e => by have := (hown.lt g e).1; omega)
  have HbF := Lib.hid (below_step Hb.out (by omega) hb6)
  obtain ⟨a6, c6, rfl, _, _⟩ := hown.ints
  have HwW := Lib.hid (show w.heap.size ≤ W1.heap.size by omega)
  have Hown := Lib.hid hown
  clear hown hb6 hz Hz Hs0 Hs1 Hs2 Hc Hb
  have l3 := t0.cell 3 (v := .int .i64 x3) rfl
  have k0 := t1.cell 0 (v := .int .i64 0) rfl
  have k1 := t1.cell 1 (v := .int .i64 0) rfl
  have k2 := t1.cell 2 (v := .slice none 0 0) rfl
  have k3 := t1.cell 3 (v := .int .i64 0) rfl
  have f0 := t1.frozen 0
  have f1 := t1.frozen 1
  have f2 := t1.frozen 2
  have f3 := t1.frozen 3
  have j0 := t2.cell 0 (v := .int .i64 x0) rfl
  have j1 := t2.cell 1 (v := .int .i64 x1) rfl
  have j2 := t2.cell 2 (v := .slice none 0 0) rfl
  have j3 := t2.cell 3 (v := .int .i64 0) rfl
  have g2 := t2.frozen 2
  have g3 := t2.frozen 3
  have hne : w.heap.size + 1 ≠ w.heap.size + 1 + 1 := by omega
  have u := ((((((t1.other hne 2 (.slice a6 x2.length c6)).other hne 3 (.int .i64 x3)).set 0 (.int .i64 x0)).set 1 (.int .i64 x1)).set 2 (.slice a6 x2.length c6)).set 3 (.int .i64 x3))
  have e0 := u.cell 0 (v := .int .i64 x0) rfl
  have e1 := u.cell 1 (v := .int .i64 x1) rfl
  have e2 := u.cell 2 (v := .slice a6 x2.length c6) rfl
  have e3 := u.cell 3 (v := .int .i64 x3) rfl
  clear u t0 t1 t2
  go_wp2
  refine bodyPost_ret (v := .agg #[.int .i64 x0, .int .i64 x1, .slice a6 x2.length c6, .int .i64 x3]) (by simp [results, Try.f14, go_sem, e0, e1, e2, e3]) rfl ?_
  have n1 : (Value.slice a6 x2.length c6).ownBlock ≠ some (w.heap.size + 1) := fun e => by have := Hlt.out _ e; omega
  have n2 : (Value.slice a6 x2.length c6).ownBlock ≠ some (w.heap.size + 1 + 1) := fun e => by have := Hlt.out _ e; omega
  exact ⟨_, rfl, (((((((Hown.out.mono HwW.out).set_other n2 2 _).set_other n2 3 _).set_other n1 0 _).set_other n1 1 _).set_other n1 2 _).set_other n1 3 _), ((((((HbF.out.setCell (p := ⟨w.heap.size + 1 + 1, 2, none⟩) (by simp only; omega) _).setCell (p := ⟨w.heap.size + 1 + 1, 3, none⟩) (by simp only; omega) _).setCell (p := ⟨w.heap.size + 1, 0, none⟩) (by simp only; omega) _).setCell (p := ⟨w.heap.size + 1, 1, none⟩) (by simp only; omega) _).setCell (p := ⟨w.heap.size + 1, 2, none⟩) (by simp only; omega) _).setCell (p := ⟨w.heap.size + 1, 3, none⟩) (by simp only; omega) _)⟩

theorem vertex_info : (Try.prog.info? 28).map (fun i => (i.zero, i.size, i.bytes)) = some (some (.agg #[.int .i64 0, .int .i64 0, .slice none 0 0, .int .i64 0]), 4, 48) := by kernel_rfl

set_option maxHeartbeats 1000000 in
theorem laws_toVertexSR (es : List (List Fd)) (v : Value) (fp : List Nat) (w : World) (hbig : es.length ≤ 1048576) (hp : ∀ e ∈ es, vertexP e) (hl : ∀ e ∈ es, lnE e ≤ 1048576) (hr : Rd w (rowsD es) v fp) :
    Calls Try.prog 20 #[v] w fun e w' => ∃ u, e = .returned u ∧ OwnR 28 3 4 w' w.heap.size w'.heap.size u es ∧ Below w.heap.size w w' := by
  obtain ⟨a, cap, rfl⟩ := Rd.slice hr
  rw [List.length_map] at *
  have Hm := Lib.hid (vertexP_len hp)
  have Hr := Lib.hid hr; clear hr
  have Hp := Lib.hid hp; clear hp
  have Hl := Lib.hid hl; clear hl
  have hmk : ∀ w, (Instr.makeSlice 36 (.int .i64 (es.length : Int)) (.int .i64 (es.length : Int))).run Try.prog w = .ok (.slice (some ⟨w.heap.size, 0, none⟩) es.length es.length) (w.alloc (.cells (madeCells #[.int .i64 0, .int .i64 0, .slice none 0 0, .int .i64 0] (es.length * 4)) 28)) := fun w => by
    obtain ⟨i, hi, hz, hsz, hb⟩ := info_parts vertex_info
    have h := run_make (P := Try.prog) w 36 28 i (.agg #[.int .i64 0, .int .i64 0, .slice none 0 0, .int .i64 0]) Try.underlying36 hi hz .i64 .i64 (es.length : Int) (es.length : Int) (by omega) (Int.le_refl _) (by rw [hb]; omega) (by omega)
    simp only [Int.toNat_natCast, hsz] at h
    exact h
  have hn0 := ownR_new (E := 28) (Ei := 3) (m := 4) w es [.int .i64 0, .int .i64 0, .slice none 0 0, .int .i64 0] [.i 0, .i 0, .l [], .i 0] (by unfold maxLen; omega) rfl rfl (by omega) (by intro c hc; simp only [List.mem_cons, List.not_mem_nil, or_false] at hc; rcases hc with rfl | rfl | rfl | rfl <;> rfl) (fun W B j h h' => by
    match j, h, h' with
    | 0, _, _ => exact rfl
    | 1, _, _ => exact rfl
    | 2, _, _ => exact Own.nil _ _ _
    | 3, _, _ => exact rfl)
  have Hv0 := Lib.hid (show OwnR 28 3 4 (w.alloc (.cells (madeCells #[.int .i64 0, .int .i64 0, .slice none 0 0, .int .i64 0] (es.length * 4)) 28)) w.heap.size (w.alloc (.cells (madeCells #[.int .i64 0, .int .i64 0, .slice none 0 0, .int .i64 0] (es.length * 4)) 28)).heap.size _ (cpTo es [.i 0, .i 0, .l [], .i 0] 0) from hn0.mono (by simp)); clear hn0
  have Hb0 := Lib.hid ((Below.refl w.heap.size w).alloc (Nat.le_refl _) (.cells (madeCells #[.int .i64 0, .int .i64 0, .slice none 0 0, .int .i64 0] (es.length * 4)) 28))
  go_enter Try.func20, Try.ntmps20
  go_wp2_with fail
  go_loopw [4] (fun i wr => ∃ k : Nat, k ≤ es.length ∧ i = .int .i64 k ∧ OwnR 28 3 4 wr w.heap.size wr.heap.size (.slice (some ⟨w.heap.size, 0, none⟩) es.length es.length) (cpTo es [.i 0, .i 0, .l [], .i 0] k) ∧ Below w.heap.size w wr) (fun i _ => es.length - (intOf i).toNat)
  case atStart => exact ⟨0, by omega, rfl, Hv0.out, Hb0.out⟩
  case round =>
    clear Hv0 Hb0
    obtain ⟨k, hk, rfl, hown, hbel⟩ := hrel
    have hB := hbel.size
    have Hbel := Lib.hid hbel; clear hbel
    have Hown := Lib.hid hown; clear hown
    by_cases hlt : k < es.length
    · obtain ⟨g, off, rfl, hg, hat⟩ := rows_at (Hr.out.under Hbel.out) (by omega) Hm.out
      obtain ⟨x0, x1, x2, x3, he⟩ := Hp.out _ (List.getElem_mem hlt)
      have hle := Hl.out _ (List.getElem_mem hlt)
      rw [he] at hle
      obtain ⟨v0, f0, C0, R0⟩ := hat k hlt 0 (by rw [he]; simp)
      obtain rfl := rd_i R0 (x := x0) (by simp only [he]; rfl)
      clear R0
      obtain ⟨v1, f1, C1, R1⟩ := hat k hlt 1 (by rw [he]; simp)
      obtain rfl := rd_i R1 (x := x1) (by simp only [he]; rfl)
      clear R1
      obtain ⟨v2, f2, C2, R2⟩ := hat k hlt 2 (by rw [he]; simp)
      obtain ⟨a2, c2, rfl, I2⟩ := rd_l R2 (xs := x2) (by simp only [he]; rfl)
      clear R2
      obtain ⟨v3, f3, C3, R3⟩ := hat k hlt 3 (by rw [he]; simp)
      obtain rfl := rd_i R3 (x := x3) (by simp only [he]; rfl)
      clear R3
      simp only [Nat.add_zero] at C0
      have n2 : x2.length ≤ 1048576 := ln_in hle (by simp)
      have hst := cpTo_step (z := [.i 0, .i 0, .l [], .i 0]) hlt
      rw [he] at hst
      have Hst := Lib.hid hst; clear hst
      have hcl := cpTo_len es [.i 0, .i 0, .l [], .i 0] k
      have hkc : k < (cpTo es [.i 0, .i 0, .l [], .i 0] k).length := by rw [hcl]; exact hlt
      have hz0 : (cpTo es [.i 0, .i 0, .l [], .i 0] k)[k] = [.i 0, .i 0, .l [], .i 0] := by rw [cpTo_get, if_neg (by omega)]
      have hr0 := Hown.out
      rw [← set_self' hkc hz0] at hr0
      generalize cpTo es [.i 0, .i 0, .l [], .i 0] k = rs at *
      have Hrs := Lib.hid (show es.length = rs.length from hcl.symm)
      have Hr0 := Lib.hid hr0; clear hr0 hz0
      have Hcall := Lib.hid (laws_toVertexR x0 x1 a2 c2 x2 x3 wr (by omega) I2)
      clear hat he hle hcl I2 Hown
      go_wp2_with fail
      refine Hcall.out.mono ?_
      rintro e w2 ⟨u, rfl, hown2, hb2⟩
      have hs2 := hb2.size
      have hrow := Hr0.out.below hb2 (Nat.le_refl _)
      have Hb2 := Lib.hid (below_step Hbel.out hB hb2)
      clear hb2 Hr0
      obtain ⟨P0, F0⟩ := hrow.rcI hkc 0 (x := 0) rfl
      obtain ⟨P1, F1⟩ := hrow.rcI hkc 1 (x := 0) rfl
      obtain ⟨aq2, cq2, P2, _, F2, _, _⟩ := hrow.rcL hkc 2 (xs := []) rfl
      obtain ⟨P3, F3⟩ := hrow.rcI hkc 3 (x := 0) rfl
      simp only [Nat.add_zero] at P0 F0
      have hgw : w.heap.size < wr.heap.size := by have := hrow.head (by rw [List.length_set]; omega); obtain ⟨_, _, hh, _, h10, _⟩ := this; simp only [Value.slice.injEq, Option.some.injEq, Addr.mk.injEq] at hh; have h11 := hh.1.1; omega
      have hne : u.ownBlock ≠ some w.heap.size := fun e => by have h9 : wr.heap.size ≤ w.heap.size := (hown2.lt _ e).1; omega
      have A0 := hrow.rowI Hrs.out hkc 0 (by omega) x0
      have A1 := A0.rowI Hrs.out hkc 1 (by omega) x1
      have A2 := A1.rowF Hrs.out hkc 2 (by omega) (u := u) (f := .l x2) (hf := (((hown2.mono hB).set_other hne _ _).set_other hne _ _)) (hi' := w2.heap.size) hs2 (fun b e => hown2.lt b e)
      have A3 := A2.rowI Hrs.out hkc 3 (by omega) x3
      obtain ⟨a2, c2, rfl, _, _⟩ := hown2.ints
      simp only [List.set_cons_zero, List.set_cons_succ, Nat.add_zero] at A3
      rw [Hst.out] at A3
      have hsz4 : ((((w2.setCell ⟨w.heap.size, k * 4, none⟩ (.int .i64 x0)).setCell ⟨w.heap.size, k * 4 + 1, none⟩ (.int .i64 x1)).setCell ⟨w.heap.size, k * 4 + 2, none⟩ (.slice a2 x2.length c2)).setCell ⟨w.heap.size, k * 4 + 3, none⟩ (.int .i64 x3)).heap.size = w2.heap.size := by simp [World.setCell]
      have HA := Lib.hid (A3.mono (Nat.le_of_eq hsz4.symm))
      have HB4 := Lib.hid ((((Hb2.out.setCell (p := ⟨w.heap.size, k * 4, none⟩) (Nat.le_refl _) (.int .i64 x0)).setCell (p := ⟨w.heap.size, k * 4 + 1, none⟩) (Nat.le_refl _) (.int .i64 x1)).setCell (p := ⟨w.heap.size, k * 4 + 2, none⟩) (Nat.le_refl _) (.slice a2 x2.length c2)).setCell (p := ⟨w.heap.size, k * 4 + 3, none⟩) (Nat.le_refl _) (.int .i64 x3))
      clear hsz4 A0 A1 A2 A3 hrow hown2 hne
      go_wp2_with fail
      go_roundw
      case rel => exact ⟨k + 1, by omega, by go_num, HA.out, HB4.out⟩
      case measure => simp [intOf]; omega
    · have hke : k = es.length := by omega
      subst hke
      go_wp2
      go_ret
      exact ⟨_, rfl, by have h9 := Hown.out; rwa [cpTo_all] at h9, Hbel.out⟩

theorem laws_markVertexR (x0 x1 x3 : Int) (v : Value) (xs : List Int) (k B : Nat) (w : World) (hlen : xs.length ≤ 1099511627776) (hk : k ≤ 1099511627776) (hown : Own 3 w B v xs) :
    Calls Try.prog 29 #[.agg #[.int .i64 x0, .int .i64 x1, v, .int .i64 x3], .int .i64 k] w fun e w' => e = .returned (.int .i64 ((k + xs.length : Nat) : Int)) ∧ Own 3 w' B v (markL k xs.length) ∧ (w.alloc (.cells #[.int .i64 x0, .int .i64 x1, v, .int .i64 x3] 28)).grownBy w' v.ownBlock := by
  have H := Lib.hid (laws_markIntS v xs k B _ hlen hk (hown.alloc (.cells #[.int .i64 x0, .int .i64 x1, v, .int .i64 x3] 28)))
  obtain ⟨a, cap, rfl, _, _⟩ := hown.ints
  clear hown
  go_enter Try.func29, Try.ntmps29
  go_wp2_with fail
  refine H.out.mono ?_
  rintro e w1 ⟨rfl, ho, hg⟩
  go_wp2
  go_ret
  exact ⟨rfl, ho, hg⟩

