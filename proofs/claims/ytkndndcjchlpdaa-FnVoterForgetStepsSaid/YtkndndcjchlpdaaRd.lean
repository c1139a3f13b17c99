/- The reader of a code: what it picks lies in the range that is asked, and nothing but the reader's own count is written; each by a walk of its text; condition: at most 2^40 picks. -/
import Derived.Test.YtkndndcjchlpdaaRows
import Derived.Test.YtkndndcjchlpdaaBase
import Derived.Deep.QuietTactic
import Derived.BigQuiet
namespace Go.Proofs.Ytkndndcjchlpdaa
open Go.RowKit

/-- The reader in block R: its code reads as bytes; it has picked p times. -/
structure Rdr (w : World) (R : Nat) (p : Nat) : Prop where
  at0 : ∃ a cap zs, w.cell? ⟨R, 0, none⟩ = some (.slice a (List.length (α := Int) zs) cap) ∧ zs.length ≤ 2000 ∧ (∀ z ∈ zs, 0 ≤ z ∧ z ≤ 255) ∧
    (zs.length < 1 ∨ ∃ b off, a = some ⟨b, off, none⟩ ∧ b < w.heap.size ∧ b < R ∧ ∀ j (h : j < zs.length), w.cell? ⟨b, off + j, none⟩ = some (.int .u8 zs[j]))
  at1 : w.cell? ⟨R, 1, none⟩ = some (.int .i64 p)
  fr : w.frozen? ⟨R, 1, none⟩ = false

theorem bits_xor_i64_nat (a b : Nat) (ha : a < 4611686018427387904) (hb : b < 4611686018427387904) : bits .xor .i64 (a : Int) (b : Int) = ((a ^^^ b : Nat) : Int) := by
  have hx : a ^^^ b < 2 ^ 62 := Nat.xor_lt_two_pow (by omega) (by omega)
  have h1 : (BitVec.ofInt 64 (a : Int)).toNat = a := by simp; omega
  have h2 : (BitVec.ofInt 64 (b : Int)).toNat = b := by simp; omega
  show IntKind.i64.wrap ((BitVec.ofInt 64 (a : Int) ^^^ BitVec.ofInt 64 (b : Int)).toNat : Int) = _
  rw [BitVec.toNat_xor, h1, h2]
  exact IntWalk.i64_in _ (by omega)

/-- A code that came in: its bytes. -/
structure CodeAt (w : World) (a : Option Addr) (cap : Nat) (zs : List Int) : Prop where
  big : zs.length ≤ 1099511627776
  cap : zs.length ≤ cap
  byte : ∀ z ∈ zs, 0 ≤ z ∧ z ≤ 255
  cells : zs.length < 1 ∨ ∃ b off, a = some ⟨b, off, none⟩ ∧ b < w.heap.size ∧ ∀ j (h : j < zs.length), w.cell? ⟨b, off + j, none⟩ = some (.int .u8 zs[j])
theorem CodeAt.below {w w' : World} {a : Option Addr} {cap : Nat} {zs : List Int} (h : CodeAt w a cap zs) (hb : Below w.heap.size w w') : CodeAt w' a cap zs := by
  refine ⟨h.big, h.cap, h.byte, ?_⟩
  rcases h.cells with h0 | ⟨b, off, rfl, hlt, hc⟩
  · exact .inl h0
  · exact .inr ⟨b, off, rfl, Nat.lt_of_lt_of_le hlt hb.size, fun j hj => (hb.cell (p := ⟨b, off + j, none⟩) hlt).trans (hc j hj)⟩
theorem codeAt_of {w : World} {a : Option Addr} {cap : Nat} {zs : List Int} (hk : zs.length ≤ cap) (hm : zs.length ≤ 1048576) (hi : zs = [] ∨ ∃ b off, a = some ⟨b, off, none⟩ ∧ b < w.heap.size ∧ ∀ j (h : j < zs.length), w.cell? ⟨b, off + j, none⟩ = some (.int .u8 zs[j]))
    (hw : ∀ z ∈ zs, (Lit.int .u8 z).wf = true) : CodeAt w a cap zs := by
  have hc : zs.length < 1 ∨ ∃ b off, a = some ⟨b, off, none⟩ ∧ b < w.heap.size ∧ ∀ j (h : j < zs.length), w.cell? ⟨b, off + j, none⟩ = some (.int .u8 zs[j]) := by
    rcases hi with rfl | hi
    · exact .inl (by simp)
    · exact .inr hi
  refine ⟨by omega, hk, fun z hz => ?_, hc⟩
  have := hw z hz
  simp [Lit.wf, IntKind.min, IntKind.max, IntKind.signed, IntKind.bits] at this
  omega

/-- The world behind one pick. -/
def picked (w : World) (R p : Nat) : World := w.setCell ⟨R, 1, none⟩ (.int .i64 ((p : Int) + 1))
theorem picked_grown (w : World) (R p : Nat) : w.grownBy (picked w R p) (some R) :=
  ⟨rfl, rfl, rfl, by simp [picked, World.setCell], fun k _ hk => Below.heap_setCell _ _ _ _ (fun e => hk (by rw [e]))⟩
theorem picked_rdr {w : World} {R p : Nat} (h : Rdr w R p) : Rdr (picked w R p) R (p + 1) := by
  obtain ⟨⟨a, cap, zs, h0, hlen, hby, hb⟩, h1, hfr⟩ := h
  refine ⟨⟨a, cap, zs, (World.cell?_setCell_other _ _ _ _ (by simp)).trans h0, hlen, hby, ?_⟩, (World.cell?_setCell_same _ _ _ h1).trans (by simp), (World.frozen?_setCell _ _ _ _).trans hfr⟩
  rcases hb with hb | ⟨b, off, rfl, hlt, hne, hc⟩
  · exact .inl hb
  · exact .inr ⟨b, off, rfl, by simpa [picked, World.setCell] using hlt, hne, fun j hj => (World.cell?_setCell_other _ _ _ _ (by simp)).trans (hc j hj)⟩
theorem Rdr.kept {w w' : World} {R p : Nat} {row : Option Nat} (h : Rdr w R p) (hg : w.grownBy w' row) (hrow : ∀ g, row = some g → R < g) : Rdr w' R p := by
  obtain ⟨⟨a, cap, zs, h0, hlen, hby, hb⟩, h1, hfr⟩ := h
  have hRr : ∀ b, b ≤ R → some b ≠ row := fun b hb e => by have := hrow b e.symm; omega
  have hRs := World.block_lt_of_cell? w _ h1
  refine ⟨⟨a, cap, zs, hg.cell h0 (hRr _ (Nat.le_refl _)), hlen, hby, ?_⟩, hg.cell h1 (hRr _ (Nat.le_refl _)), (World.frozen?_of_block (hg.block R hRs (hRr _ (Nat.le_refl _)))).trans hfr⟩
  rcases hb with hb | ⟨b, off, rfl, hlt, hne, hc⟩
  · exact .inl hb
  · exact .inr ⟨b, off, rfl, Nat.lt_of_lt_of_le hlt hg.size, hne, fun j hj => hg.cell (hc j hj) (hRr b (by omega))⟩
theorem Rdr.alloc {w : World} {R p : Nat} (h : Rdr w R p) (o : Obj) : Rdr (w.alloc o) R p := h.kept (World.grownBy_alloc w o none) (by simp)
theorem Rdr.lt {w : World} {R p : Nat} (h : Rdr w R p) : R < w.heap.size := World.block_lt_of_cell? w _ h.at1
theorem Rdr.drewN {w : World} {R p : Nat} (h : Rdr w R p) (n : Nat) : Rdr (w.drewN n) R p := ⟨h.at0, h.at1, h.fr⟩
theorem grownBy_drewN {a w : World} {row : Option Nat} (h : a.grownBy w row) (n : Nat) : a.grownBy (w.drewN n) row := ⟨h.os, h.tape, h.output, h.size, h.block⟩

theorem pick_any (R : Nat) (n : Int) (p : Nat) (w : World) (hp : p ≤ 1099511627776) (hr : Rdr w R p) (hn : n ≤ 1099511627776) :
    Calls Try.prog 38 #[.pointer (some ⟨R, 0, none⟩), .int .i64 n] w fun e w' => ∃ k : Int, e = .returned (.int .i64 k) ∧ 0 ≤ k ∧ (k < n ∨ k = 0) ∧ Rdr w' R (p + 1) ∧ w.grownBy w' (some R) := by
  have hr' := picked_rdr hr
  have hg := picked_grown w R p
  have Hr := Lib.hid hr'
  have Hg := Lib.hid hg; clear hg
  obtain ⟨⟨a, cap, zs, h0, hlen, hby, hbytes⟩, h1, hfr⟩ := hr
  have hs0 : (w.setCell ⟨R, 1, none⟩ (.int .i64 ((p : Int) + 1))).cell? ⟨R, 0, none⟩ = some (.slice a zs.length cap) := (World.cell?_setCell_other _ _ _ _ (by simp)).trans h0
  have hs1 : (w.setCell ⟨R, 1, none⟩ (.int .i64 ((p : Int) + 1))).cell? ⟨R, 1, none⟩ = some (.int .i64 ((p : Int) + 1)) := World.cell?_setCell_same _ _ _ h1
  clear hr'
  by_cases hn1 : n < 1
  · go_enter Try.func38, Try.ntmps38
    go_wp2
    go_ret
    exact ⟨0, rfl, by omega, .inr rfl, Hr.out, Hg.out⟩
  by_cases hz : zs.length < 1
  · have hz1 : ((zs.length : Int) == 0) = true := by rw [beq_iff_eq]; omega
    go_enter Try.func38, Try.ntmps38
    go_wp2
    go_ret
    exact ⟨0, rfl, by omega, .inr rfl, Hr.out, Hg.out⟩
  have hz1 : ((zs.length : Int) == 0) = false := by rw [beq_eq_false_iff_ne]; omega
  obtain ⟨b, off, rfl, hlt, hne, hc⟩ := hbytes.resolve_left hz
  have hcc : ∀ j (h : j < zs.length), (w.setCell ⟨R, 1, none⟩ (.int .i64 ((p : Int) + 1))).cell? ⟨b, off + j, none⟩ = some (.int .u8 zs[j]) := fun j hj => (World.cell?_setCell_other _ _ _ _ (by simp)).trans (hc j hj)
  clear hc
  have Hc := Lib.hid hcc; clear hcc
  have Hby := Lib.hid hby; clear hby
  by_cases hpl : p < zs.length
  · have hcell := Hc.out p hpl
    have hbd := Hby.out zs[p] (List.getElem_mem hpl)
    go_enter Try.func38, Try.ntmps38
    go_wp2
    go_ret
    exact ⟨zs[p] % n, rfl, Int.emod_nonneg _ (by omega), .inl (Int.emod_lt_of_pos _ (by omega)), Hr.out, Hg.out⟩
  · have hq1 : p % zs.length < zs.length := Nat.mod_lt _ (by omega)
    have hq2 : (p * 7 + 3) % zs.length < zs.length := Nat.mod_lt _ (by omega)
    have hcell1 := Hc.out _ hq1
    have hcell2 := Hc.out _ hq2
    obtain ⟨hb1, hb1'⟩ := Hby.out _ (List.getElem_mem hq1)
    obtain ⟨hb2, hb2'⟩ := Hby.out _ (List.getElem_mem hq2)
    have hdv : p / zs.length ≤ p := Nat.div_le_self _ _
    generalize zs[p % zs.length] = x1 at hcell1 hb1 hb1'
    generalize zs[(p * 7 + 3) % zs.length] = x2 at hcell2 hb2 hb2'
    have m1 : ((p : Int)).tmod zs.length = ((p % zs.length : Nat) : Int) := by rw [Int.tmod_eq_emod_of_nonneg (by omega)]; omega
    have m2 : ((p : Int) * 7 + 3).tmod zs.length = (((p * 7 + 3) % zs.length : Nat) : Int) := by rw [Int.tmod_eq_emod_of_nonneg (by omega), Int.natCast_emod]; rfl
    have m3 : ((p : Int)).tdiv zs.length = ((p / zs.length : Nat) : Int) := by rw [Int.tdiv_eq_ediv_of_nonneg (by omega)]; omega
    generalize hQ1 : p % zs.length = q1 at *
    generalize hQ2 : (p * 7 + 3) % zs.length = q2 at *
    generalize hQ3 : p / zs.length = q3 at *
    have HQ1 := Lib.hid hQ1; clear hQ1
    have HQ2 := Lib.hid hQ2; clear hQ2
    have HQ3 := Lib.hid hQ3; clear hQ3
    have i1 : (q1 : Int) < zs.length := by omega
    have i2 : (q2 : Int) < zs.length := by omega
    have e1 : IntKind.i64.wrap (x1 * 131) = x1 * 131 := IntWalk.i64_in _ (by omega)
    have e2 : IntKind.i64.wrap ((p : Int) * 7) = p * 7 := IntWalk.i64_in _ (by omega)
    have e3 : IntKind.i64.wrap ((p : Int) * 7 + 3) = p * 7 + 3 := IntWalk.i64_in _ (by omega)
    have e4 : IntKind.i64.wrap (x2 * 1117) = x2 * 1117 := IntWalk.i64_in _ (by omega)
    have e5 : IntKind.i64.wrap (x1 * 131 + x2 * 1117) = x1 * 131 + x2 * 1117 := IntWalk.i64_in _ (by omega)
    have e6 : IntKind.i64.wrap ((p : Int) * 29) = p * 29 := IntWalk.i64_in _ (by omega)
    have e7 : IntKind.i64.wrap (x1 * 131 + x2 * 1117 + (p : Int) * 29) = x1 * 131 + x2 * 1117 + p * 29 := IntWalk.i64_in _ (by omega)
    have e8 : IntKind.i64.wrap ((q3 : Int) * 53) = q3 * 53 := IntWalk.i64_in _ (by omega)
    have e9 : IntKind.i64.wrap (x1 * 131 + x2 * 1117 + (p : Int) * 29 + (q3 : Int) * 53) = x1 * 131 + x2 * 1117 + p * 29 + q3 * 53 := IntWalk.i64_in _ (by omega)
    have e10 : IntKind.i64.wrap x1 = x1 := IntWalk.i64_in _ (by omega)
    have e11 : IntKind.i64.wrap x2 = x2 := IntWalk.i64_in _ (by omega)
    have e12 : IntKind.i64.wrap (q3 : Int) = q3 := IntWalk.i64_in _ (by omega)
    have hX : ∃ X : Nat, x1 * 131 + x2 * 1117 + (p : Int) * 29 + (q3 : Int) * 53 = X ∧ X < 4611686018427387904 := ⟨(x1 * 131 + x2 * 1117 + (p : Int) * 29 + (q3 : Int) * 53).toNat, by omega, by omega⟩
    obtain ⟨X, hX, hXb⟩ := hX
    rw [hX] at e9
    have HX := Lib.hid hX; clear hX
    have hx1 := bits_xor_i64_nat X (X / 64) hXb (Nat.lt_of_le_of_lt (Nat.div_le_self _ _) hXb)
    have Hx1 := Lib.hid hx1; clear hx1
    go_enter Try.func38, Try.ntmps38
    go_wp2
    go_quiet (fail)
    clear e1 e2 e3 e4 e5 e6 e7 e8 e9 e10 e11 e12 m1 m2 m3
    go_wp2
    go_ret
    rw [HX.out, show (X : Int) / 64 = ((X / 64 : Nat) : Int) from by simp, Hx1.out, Int.tmod_eq_emod_of_nonneg (by omega)]
    exact ⟨_, rfl, Int.emod_nonneg _ (by omega), .inl (Int.emod_lt_of_pos _ (by omega)), Hr.out.drewN _, grownBy_drewN Hg.out _⟩

theorem rdr_new (w : World) (a : Option Addr) (cap n : Nat) (zs : List Int) (T : TypeId) (hn : n = zs.length) (hlen : zs.length ≤ 2000) (hby : ∀ z ∈ zs, 0 ≤ z ∧ z ≤ 255)
    (hc : zs.length < 1 ∨ ∃ b off, a = some ⟨b, off, none⟩ ∧ b < w.heap.size ∧ ∀ j (h : j < zs.length), w.cell? ⟨b, off + j, none⟩ = some (.int .u8 zs[j])) :
    Rdr (w.alloc (.cells #[.slice a n cap, .int .i64 0] T)) w.heap.size 0 := by
  subst hn
  refine ⟨⟨a, cap, zs, by rw [World.cell?_alloc_at _ _ _ _ rfl]; rfl, hlen, hby, ?_⟩, by rw [World.cell?_alloc_at _ _ _ _ rfl]; rfl, World.frozen?_alloc_at _ _ _ _ rfl⟩
  rcases hc with h | ⟨b, off, rfl, hlt, h⟩
  · exact .inl h
  · exact .inr ⟨b, off, rfl, by simp; omega, hlt, fun j hj => (World.cell?_alloc_past _ _ _ hlt).trans (h j hj)⟩

theorem open_any (a : Option Addr) (cap : Nat) (zs : List Int) (w : World) (h : CodeAt w a cap zs) :
    Calls Try.prog 35 #[.slice a zs.length cap] w fun e w' => ∃ R, e = .returned (.pointer (some ⟨R, 0, none⟩)) ∧ w.heap.size ≤ R ∧ R < w'.heap.size ∧ Rdr w' R 0 ∧ Below w.heap.size w w' := by
  obtain ⟨hbig, hcap, hby, hc⟩ := h
  by_cases hl : zs.length ≤ 2000
  · go_enter Try.func35, Try.ntmps35
    go_wp2
    go_ret
    exact ⟨w.heap.size, rfl, Nat.le_refl _, by simp, rdr_new w a cap _ zs _ rfl hl hby hc, (Below.refl _ _).alloc (Nat.le_refl _) _⟩
  · obtain ⟨b, off, rfl, hlt, hcc⟩ := hc.resolve_left (by omega)
    go_enter Try.func35, Try.ntmps35
    go_wp2
    go_ret
    have ht : (zs.take 2000).length = 2000 := by rw [List.length_take]; omega
    exact ⟨w.heap.size, rfl, Nat.le_refl _, by simp, rdr_new w _ cap 2000 (zs.take 2000) _ ht.symm (by omega) (fun z hz => hby z (List.mem_of_mem_take hz)) (.inr ⟨b, off, rfl, hlt, fun j hj => by rw [hcc j (by omega), List.getElem_take]⟩), (Below.refl _ _).alloc (Nat.le_refl _) _⟩

end Go.Proofs.Ytkndndcjchlpdaa
