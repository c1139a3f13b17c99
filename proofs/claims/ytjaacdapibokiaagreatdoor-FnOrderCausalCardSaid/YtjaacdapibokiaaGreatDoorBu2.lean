/- Texts that the laws of this folder share, one behind another; no conditions. -/
import Derived.Test.YtjaacdapibokiaaGreatDoorRows
import Derived.Test.YtjaacdapibokiaaGreatDoorBu0
import Derived.Deep.QuietTactic
import Derived.BigQuiet
import Derived.Test.YtjaacdapibokiaaGreatDoorBu1
import Derived.Maps.AppendAt
import Derived.Lib.AppendZeros
import Derived.WalkSpells

/- The reader of a code: what it picks lies in the range that is asked, and nothing but the reader's own count is written; each by a walk of its text; condition: at most 2^40 picks. -/
namespace Go.Proofs.YtjaacdapibokiaaGreatDoor
open Go.RowKit

/-- The reader in block R: its code reads as bytes; it has picked p times. -/
structure Rdr (w : World) (R : Nat) (p : Nat) : Prop where
  at0 : ∃ a cap zs, w.cell? ⟨R, 0, none⟩ = some (.slice a (List.length (α := Int) zs) cap) ∧ zs.length ≤ 2000 ∧ (∀ z ∈ zs, 0 ≤ z ∧ z ≤ 255) ∧
    (zs.length < 1 ∨ ∃ b off, a = some ⟨b, off, none⟩ ∧ b < w.heap.size ∧ b < R ∧ ∀ j (h : j < zs.length), w.cell? ⟨b, off + j, none⟩ = some (.int .u8 zs[j]))
  at1 : w.cell? ⟨R, 1, none⟩ = some (.int .i64 p)
  fr : w.frozen? ⟨R, 1, none⟩ = false

theorem bits_xor_i64_nat (a b : Nat) (ha : a < 4611686018427387904) (hb : b < 4611686018427387904) : bits .xor .i64 (a : Int) (b : Int) = ((a ^^^ b : Nat) : Int) := by
  have hx : a ^^^ b < 2 ^ 62 := Nat.xor_lt_two_pow (by omega) (by omega)
  have h1 : (BitVec.ofInt 64 (a : Int)).toNat = a := by simp; omega
  have h2 : (BitVec.ofInt 64 (b : Int)).toNat = b := by simp; omega
  show IntKind.i64.wrap ((BitVec.ofInt 64 (a : Int) ^^^ BitVec.ofInt 64 (b : Int)).toNat : Int) = _
  rw [BitVec.toNat_xor, h1, h2]
  exact IntWalk.i64_in _ (by omega)

/-- A code that came in: its bytes. -/
structure CodeAt (w : World) (a : Option Addr) (cap : Nat) (zs : List Int) : Prop where
  big : zs.length ≤ 1099511627776
  cap : zs.length ≤ cap
  byte : ∀ z ∈ zs, 0 ≤ z ∧ z ≤ 255
  cells : zs.length < 1 ∨ ∃ b off, a = some ⟨b, off, none⟩ ∧ b < w.heap.size ∧ ∀ j (h : j < zs.length), w.cell? ⟨b, off + j, none⟩ = some (.int .u8 zs[j])
theorem CodeAt.below {w w' : World} {a : Option Addr} {cap : Nat} {zs : List Int} (h : CodeAt w a cap zs) (hb : Below w.heap.size w w') : CodeAt w' a cap zs := by
  refine ⟨h.big, h.cap, h.byte, ?_⟩
  rcases h.cells with h0 | ⟨b, off, rfl, hlt, hc⟩
  · exact .inl h0
  · exact .inr ⟨b, off, rfl, Nat.lt_of_lt_of_le hlt hb.size, fun j hj => (hb.cell (p := ⟨b, off + j, none⟩) hlt).trans (hc j hj)⟩
theorem codeAt_of {w : World} {a : Option Addr} {cap : Nat} {zs : List Int} (hk : zs.length ≤ cap) (hm : zs.length ≤ 1048576) (hi : zs = [] ∨ ∃ b off, a = some ⟨b, off, none⟩ ∧ b < w.heap.size ∧ ∀ j (h : j < zs.length), w.cell? ⟨b, off + j, none⟩ = some (.int .u8 zs[j]))
    (hw : ∀ z ∈ zs, (Lit.int .u8 z).wf = true) : CodeAt w a cap zs := by
  have hc : zs.length < 1 ∨ ∃ b off, a = some ⟨b, off, none⟩ ∧ b < w.heap.size ∧ ∀ j (h : j < zs.length), w.cell? ⟨b, off + j, none⟩ = some (.int .u8 zs[j]) := by
    rcases hi with rfl | hi
    · exact .inl (by simp)
    · exact .inr hi
  refine ⟨by omega, hk, fun z hz => ?_, hc⟩
  have := hw z hz
  simp [Lit.wf, IntKind.min, IntKind.max, IntKind.signed, IntKind.bits] at this
  omega

/-- The world behind one pick. -/
def picked (w : World) (R p : Nat) : World := w.setCell ⟨R, 1, none⟩ (.int .i64 ((p : Int) + 1))
theorem picked_grown (w : World) (R p : Nat) : w.grownBy (picked w R p) (some R) :=
  ⟨rfl, rfl, rfl, by simp [picked, World.setCell], fun k _ hk => Below.heap_setCell _ _ _ _ (fun e => hk (by rw [e]))⟩
theorem picked_rdr {w : World} {R p : Nat} (h : Rdr w R p) : Rdr (picked w R p) R (p + 1) := by
  obtain ⟨⟨a, cap, zs, h0, hlen, hby, hb⟩, h1, hfr⟩ := h
  refine ⟨⟨a, cap, zs, (World.cell?_setCell_other _ _ _ _ (by simp)).trans h0, hlen, hby, ?_⟩, (World.cell?_setCell_same _ _ _ h1).trans (by simp), (World.frozen?_setCell _ _ _ _).trans hfr⟩
  rcases hb with hb | ⟨b, off, rfl, hlt, hne, hc⟩
  · exact .inl hb
  · exact .inr ⟨b, off, rfl, by simpa [picked, World.setCell] using hlt, hne, fun j hj => (World.cell?_setCell_other _ _ _ _ (by simp)).trans (hc j hj)⟩
theorem Rdr.kept {w w' : World} {R p : Nat} {row : Option Nat} (h : Rdr w R p) (hg : w.grownBy w' row) (hrow : ∀ g, row = some g → R < g) : Rdr w' R p := by
  obtain ⟨⟨a, cap, zs, h0, hlen, hby, hb⟩, h1, hfr⟩ := h
  have hRr : ∀ b, b ≤ R → some b ≠ row := fun b hb e => by have := hrow b e.symm; omega
  have hRs := World.block_lt_of_cell? w _ h1
  refine ⟨⟨a, cap, zs, hg.cell h0 (hRr _ (Nat.le_refl _)), hlen, hby, ?_⟩, hg.cell h1 (hRr _ (Nat.le_refl _)), (World.frozen?_of_block (hg.block R hRs (hRr _ (Nat.le_refl _)))).trans hfr⟩
  rcases hb with hb | ⟨b, off, rfl, hlt, hne, hc⟩
  · exact .inl hb
  · exact .inr ⟨b, off, rfl, Nat.lt_of_lt_of_le hlt hg.size, hne, fun j hj => hg.cell (hc j hj) (hRr b (by omega))⟩
theorem Rdr.alloc {w : World} {R p : Nat} (h : Rdr w R p) (o : Obj) : Rdr (w.alloc o) R p := h.kept (World.grownBy_alloc w o none) (by simp)
theorem Rdr.lt {w : World} {R p : Nat} (h : Rdr w R p) : R < w.heap.size := World.block_lt_of_cell? w _ h.at1
theorem Rdr.drewN {w : World} {R p : Nat} (h : Rdr w R p) (n : Nat) : Rdr (w.drewN n) R p := ⟨h.at0, h.at1, h.fr⟩
theorem grownBy_drewN {a w : World} {row : Option Nat} (h : a.grownBy w row) (n : Nat) : a.grownBy (w.drewN n) row := ⟨h.os, h.tape, h.output, h.size, h.block⟩

theorem pick_any (R : Nat) (n : Int) (p : Nat) (w : World) (hp : p ≤ 1099511627776) (hr : Rdr w R p) (hn : n ≤ 1099511627776) :
    Calls Tryz.prog 48 #[.pointer (some ⟨R, 0, none⟩), .int .i64 n] w fun e w' => ∃ k : Int, e = .returned (.int .i64 k) ∧ 0 ≤ k ∧ (k < n ∨ k = 0) ∧ Rdr w' R (p + 1) ∧ w.grownBy w' (some R) := by
  have hr' := picked_rdr hr
  have hg := picked_grown w R p
  have Hr := Lib.hid hr'
  have Hg := Lib.hid hg; clear hg
  obtain ⟨⟨a, cap, zs, h0, hlen, hby, hbytes⟩, h1, hfr⟩ := hr
  have hs0 : (w.setCell ⟨R, 1, none⟩ (.int .i64 ((p : Int) + 1))).cell? ⟨R, 0, none⟩ = some (.slice a zs.length cap) := (World.cell?_setCell_other _ _ _ _ (by simp)).trans h0
  have hs1 : (w.setCell ⟨R, 1, none⟩ (.int .i64 ((p : Int) + 1))).cell? ⟨R, 1, none⟩ = some (.int .i64 ((p : Int) + 1)) := World.cell?_setCell_same _ _ _ h1
  clear hr'
  by_cases hn1 : n < 1
  · go_enter Tryz.func48, Tryz.ntmps48
    go_wp2
    go_ret
    exact ⟨0, rfl, by omega, .inr rfl, Hr.out, Hg.out⟩
  by_cases hz : zs.length < 1
  · have hz1 : ((zs.length : Int) == 0) = true := by rw [beq_iff_eq]; omega
    go_enter Tryz.func48, Tryz.ntmps48
    go_wp2
    go_ret
    exact ⟨0, rfl, by omega, .inr rfl, Hr.out, Hg.out⟩
  have hz1 : ((zs.length : Int) == 0) = false := by rw [beq_eq_false_iff_ne]; omega
  obtain ⟨b, off, rfl, hlt, hne, hc⟩ := hbytes.resolve_left hz
  have hcc : ∀ j (h : j < zs.length), (w.setCell ⟨R, 1, none⟩ (.int .i64 ((p : Int) + 1))).cell? ⟨b, off + j, none⟩ = some (.int .u8 zs[j]) := fun j hj => (World.cell?_setCell_other _ _ _ _ (by simp)).trans (hc j hj)
  clear hc
  have Hc := Lib.hid hcc; clear hcc
  have Hby := Lib.hid hby; clear hby
  by_cases hpl : p < zs.length
  · have hcell := Hc.out p hpl
    have hbd := Hby.out zs[p] (List.getElem_mem hpl)
    go_enter Tryz.func48, Tryz.ntmps48
    go_wp2
    go_ret
    exact ⟨zs[p] % n, rfl, Int.emod_nonneg _ (by omega), .inl (Int.emod_lt_of_pos _ (by omega)), Hr.out, Hg.out⟩
  · have hq1 : p % zs.length < zs.length := Nat.mod_lt _ (by omega)
    have hq2 : (p * 7 + 3) % zs.length < zs.length := Nat.mod_lt _ (by omega)
    have hcell1 := Hc.out _ hq1
    have hcell2 := Hc.out _ hq2
    obtain ⟨hb1, hb1'⟩ := Hby.out _ (List.getElem_mem hq1)
    obtain ⟨hb2, hb2'⟩ := Hby.out _ (List.getElem_mem hq2)
    have hdv : p / zs.length ≤ p := Nat.div_le_self _ _
    generalize zs[p % zs.length] = x1 at hcell1 hb1 hb1'
    generalize zs[(p * 7 + 3) % zs.length] = x2 at hcell2 hb2 hb2'
    have m1 : ((p : Int)).tmod zs.length = ((p % zs.length : Nat) : Int) := by rw [Int.tmod_eq_emod_of_nonneg (by omega)]; omega
    have m2 : ((p : Int) * 7 + 3).tmod zs.length = (((p * 7 + 3) % zs.length : Nat) : Int) := by rw [Int.tmod_eq_emod_of_nonneg (by omega), Int.natCast_emod]; rfl
    have m3 : ((p : Int)).tdiv zs.length = ((p / zs.length : Nat) : Int) := by rw [Int.tdiv_eq_ediv_of_nonneg (by omega)]; omega
    generalize hQ1 : p % zs.length = q1 at *
    generalize hQ2 : (p * 7 + 3) % zs.length = q2 at *
    generalize hQ3 : p / zs.length = q3 at *
    have HQ1 := Lib.hid hQ1; clear hQ1
    have HQ2 := Lib.hid hQ2; clear hQ2
    have HQ3 := Lib.hid hQ3; clear hQ3
    have i1 : (q1 : Int) < zs.length := by omega
    have i2 : (q2 : Int) < zs.length := by omega
    have e1 : IntKind.i64.wrap (x1 * 131) = x1 * 131 := IntWalk.i64_in _ (by omega)
    have e2 : IntKind.i64.wrap ((p : Int) * 7) = p * 7 := IntWalk.i64_in _ (by omega)
    have e3 : IntKind.i64.wrap ((p : Int) * 7 + 3) = p * 7 + 3 := IntWalk.i64_in _ (by omega)
    have e4 : IntKind.i64.wrap (x2 * 1117) = x2 * 1117 := IntWalk.i64_in _ (by omega)
    have e5 : IntKind.i64.wrap (x1 * 131 + x2 * 1117) = x1 * 131 + x2 * 1117 := IntWalk.i64_in _ (by omega)
    have e6 : IntKind.i64.wrap ((p : Int) * 29) = p * 29 := IntWalk.i64_in _ (by omega)
    have e7 : IntKind.i64.wrap (x1 * 131 + x2 * 1117 + (p : Int) * 29) = x1 * 131 + x2 * 1117 + p * 29 := IntWalk.i64_in _ (by omega)
    have e8 : IntKind.i64.wrap ((q3 : Int) * 53) = q3 * 53 := IntWalk.i64_in _ (by omega)
    have e9 : IntKind.i64.wrap (x1 * 131 + x2 * 1117 + (p : Int) * 29 + (q3 : Int) * 53) = x1 * 131 + x2 * 1117 + p * 29 + q3 * 53 := IntWalk.i64_in _ (by omega)
    have e10 : IntKind.i64.wrap x1 = x1 := IntWalk.i64_in _ (by omega)
    have e11 : IntKind.i64.wrap x2 = x2 := IntWalk.i64_in _ (by omega)
    have e12 : IntKind.i64.wrap (q3 : Int) = q3 := IntWalk.i64_in _ (by omega)
    have hX : ∃ X : Nat, x1 * 131 + x2 * 1117 + (p : Int) * 29 + (q3 : Int) * 53 = X ∧ X < 4611686018427387904 := ⟨(x1 * 131 + x2 * 1117 + (p : Int) * 29 + (q3 : Int) * 53).toNat, by omega, by omega⟩
    obtain ⟨X, hX, hXb⟩ := hX
    rw [hX] at e9
    have HX := Lib.hid hX; clear hX
    have hx1 := bits_xor_i64_nat X (X / 64) hXb (Nat.lt_of_le_of_lt (Nat.div_le_self _ _) hXb)
    have Hx1 := Lib.hid hx1; clear hx1
    go_enter Tryz.func48, Tryz.ntmps48
    go_wp2
    go_quiet (fail)
    clear e1 e2 e3 e4 e5 e6 e7 e8 e9 e10 e11 e12 m1 m2 m3
    go_wp2
    go_ret
    rw [HX.out, show (X : Int) / 64 = ((X / 64 : Nat) : Int) from by simp, Hx1.out, Int.tmod_eq_emod_of_nonneg (by omega)]
    exact ⟨_, rfl, Int.emod_nonneg _ (by omega), .inl (Int.emod_lt_of_pos _ (by omega)), Hr.out.drewN _, grownBy_drewN Hg.out _⟩

theorem rdr_new (w : World) (a : Option Addr) (cap n : Nat) (zs : List Int) (T : TypeId) (hn : n = zs.length) (hlen : zs.length ≤ 2000) (hby : ∀ z ∈ zs, 0 ≤ z ∧ z ≤ 255)
    (hc : zs.length < 1 ∨ ∃ b off, a = some ⟨b, off, none⟩ ∧ b < w.heap.size ∧ ∀ j (h : j < zs.length), w.cell? ⟨b, off + j, none⟩ = some (.int .u8 zs[j])) :
    Rdr (w.alloc (.cells #[.slice a n cap, .int .i64 0] T)) w.heap.size 0 := by
  subst hn
  refine ⟨⟨a, cap, zs, by rw [World.cell?_alloc_at _ _ _ _ rfl]; rfl, hlen, hby, ?_⟩, by rw [World.cell?_alloc_at _ _ _ _ rfl]; rfl, World.frozen?_alloc_at _ _ _ _ rfl⟩
  rcases hc with h | ⟨b, off, rfl, hlt, h⟩
  · exact .inl h
  · exact .inr ⟨b, off, rfl, by simp; omega, hlt, fun j hj => (World.cell?_alloc_past _ _ _ hlt).trans (h j hj)⟩

theorem open_any (a : Option Addr) (cap : Nat) (zs : List Int) (w : World) (h : CodeAt w a cap zs) :
    Calls Tryz.prog 31 #[.slice a zs.length cap] w fun e w' => ∃ R, e = .returned (.pointer (some ⟨R, 0, none⟩)) ∧ w.heap.size ≤ R ∧ R < w'.heap.size ∧ Rdr w' R 0 ∧ Below w.heap.size w w' := by
  obtain ⟨hbig, hcap, hby, hc⟩ := h
  by_cases hl : zs.length ≤ 2000
  · go_enter Tryz.func31, Tryz.ntmps31
    go_wp2
    go_ret
    exact ⟨w.heap.size, rfl, Nat.le_refl _, by simp, rdr_new w a cap _ zs _ rfl hl hby hc, (Below.refl _ _).alloc (Nat.le_refl _) _⟩
  · obtain ⟨b, off, rfl, hlt, hcc⟩ := hc.resolve_left (by omega)
    go_enter Tryz.func31, Tryz.ntmps31
    go_wp2
    go_ret
    have ht : (zs.take 2000).length = 2000 := by rw [List.length_take]; omega
    exact ⟨w.heap.size, rfl, Nat.le_refl _, by simp, rdr_new w _ cap 2000 (zs.take 2000) _ ht.symm (by omega) (fun z hz => hby z (List.mem_of_mem_take hz)) (.inr ⟨b, off, rfl, hlt, fun j hj => by rw [hcc j (by omega), List.getElem_take]⟩), (Below.refl _ _).alloc (Nat.le_refl _) _⟩

end Go.Proofs.YtjaacdapibokiaaGreatDoor

/- The draws of committees and of members: what is drawn is a short list of small numbers in new memory; each by a walk of its text; condition: at most 2^40 picks. -/
namespace Go.Proofs.YtjaacdapibokiaaGreatDoor
open Go.RowKit

theorem TI' : IntT Tryz.prog 23 3 := ⟨Tryz.underlying23, by kernel_rfl⟩

def sizes9 : List Int := [4, 4, 4, 1, 2, 3, 5, 6, 7]
theorem sizes9_at (k : Nat) (hk : k < 9) : ∃ m : Nat, (#[Value.int .i64 4, .int .i64 4, .int .i64 4, .int .i64 1, .int .i64 2, .int .i64 3, .int .i64 5, .int .i64 6, .int .i64 7] : Array Value)[k]? = some (.int .i64 m) ∧ 1 ≤ m ∧ m ≤ 7 := by
  match k, hk with
  | 0, _ => exact ⟨4, rfl, by omega, by omega⟩
  | 1, _ => exact ⟨4, rfl, by omega, by omega⟩
  | 2, _ => exact ⟨4, rfl, by omega, by omega⟩
  | 3, _ => exact ⟨1, rfl, by omega, by omega⟩
  | 4, _ => exact ⟨2, rfl, by omega, by omega⟩
  | 5, _ => exact ⟨3, rfl, by omega, by omega⟩
  | 6, _ => exact ⟨5, rfl, by omega, by omega⟩
  | 7, _ => exact ⟨6, rfl, by omega, by omega⟩
  | 8, _ => exact ⟨7, rfl, by omega, by omega⟩

/-- Numbers between -1 and 10. -/
def Small (xs : List Int) : Prop := ∀ x ∈ xs, -1 ≤ x ∧ x ≤ 10

theorem small_push {xs : List Int} (h : Small xs) {z : Int} (h1 : -1 ≤ z) (h2 : z ≤ 10) : Small (xs ++ [z]) := by
  intro x hx
  rcases List.mem_append.1 hx with hx | hx
  · exact h x hx
  · simp at hx; subst hx; exact ⟨h1, h2⟩
theorem small_app {xs zs : List Int} (h : Small xs) (k : Small zs) : Small (xs ++ zs) := fun x hx => by
  rcases List.mem_append.1 hx with hx | hx
  · exact h x hx
  · exact k x hx
theorem small_set {xs : List Int} (h : Small xs) (j : Nat) {z : Int} (h1 : -1 ≤ z) (h2 : z ≤ 10) : Small (xs.set j z) := fun x hx => by
  rcases List.mem_or_eq_of_mem_set hx with hx | rfl
  · exact h x hx
  · exact ⟨h1, h2⟩
theorem lit4_at (k : Nat) (hk : k < 4) : ∃ z : Int, (#[Value.int .i64 0, .int .i64 9, .int .i64 10, .int .i64 (-1)] : Array Value)[k]? = some (.int .i64 z) ∧ -1 ≤ z ∧ z ≤ 10 := by
  match k, hk with
  | 0, _ => exact ⟨0, rfl, by omega, by omega⟩
  | 1, _ => exact ⟨9, rfl, by omega, by omega⟩
  | 2, _ => exact ⟨10, rfl, by omega, by omega⟩
  | 3, _ => exact ⟨-1, rfl, by omega, by omega⟩
theorem grown_row {w a b : World} {R : Nat} {row : Option Nat} (h : w.grownBy a (some R)) (k : a.grownBy b row) (hr : ∀ g, row = some g → w.heap.size ≤ g) : w.grownBy b (some R) :=
  ⟨k.os.trans h.os, k.tape.trans h.tape, k.output.trans h.output, Nat.le_trans h.size k.size, fun i hi hne => (k.block i (Nat.lt_of_lt_of_le hi h.size) (fun e => by have := hr i e.symm; omega)).trans (h.block i hi hne)⟩
theorem prod_bd {a b : Int} (h1 : 0 ≤ a) (h2 : a ≤ 3) (h3 : 0 ≤ b) (h4 : b ≤ 2) : 0 ≤ a * b ∧ a * b ≤ 6 :=
  ⟨Int.mul_nonneg h1 h3, Int.le_trans (Int.mul_le_mul h2 h4 h3 (by omega)) (by omega)⟩

theorem drawCommittee (R p : Nat) (w : World) (hp : p ≤ 1000000) (hr : Rdr w R p) (hR : R < w.heap.size) :
    Calls Tryz.prog 75 #[.pointer (some ⟨R, 0, none⟩)] w fun e w' => ∃ v xs p', e = .returned v ∧ Own 3 w' w.heap.size v xs ∧ xs.length ≤ 11 ∧ Small xs ∧ Rdr w' R p' ∧ p' ≤ p + 20 ∧ w.grownBy w' (some R) := by
  have hr1 := (hr.alloc (.cells #[] 3)).alloc (.cells #[.int .i64 4, .int .i64 4, .int .i64 4, .int .i64 1, .int .i64 2, .int .i64 3, .int .i64 5, .int .i64 6, .int .i64 7] 3)
  have ho1 := (own_empty 3 w (Nat.le_refl _)).alloc (.cells #[.int .i64 4, .int .i64 4, .int .i64 4, .int .i64 1, .int .i64 2, .int .i64 3, .int .i64 5, .int .i64 6, .int .i64 7] 3)
  have Hr1 := Lib.hid hr1; clear hr1
  have Ho1 := Lib.hid ho1; clear ho1
  go_enter Tryz.func75, Tryz.ntmps75
  go_wp2_with fail
  refine (pick_any R 9 p _ (by omega) Hr1.out (by omega)).mono ?_
  rintro e w2 ⟨k, rfl, hk0, hk1, hr2, hg2⟩
  obtain ⟨k, rfl⟩ := Int.eq_ofNat_of_zero_le hk0
  obtain ⟨m, hm, hm1, hm2⟩ := sizes9_at k (by omega)
  have hcell := lit_cell hg2 (by simp; omega) hm
  simp only [World.size_alloc] at hcell
  have hk9 : k < 9 := by omega
  have Hg2 := Lib.hid (grownBy_trans (grownBy_trans (World.grownBy_alloc w _ (some R)) (World.grownBy_alloc _ _ (some R))) hg2)
  have Ho2 := Lib.hid (Ho1.out.kept hg2 (.inr (by simp [Value.ownBlock]; omega)))
  have Hr2 := Lib.hid hr2; clear hr2
  clear hm hk0 hk1 hg2
  go_wp2_with fail
  go_loopw [3, 5] (fun v i wr => ∃ xs q, xs.length ≤ m ∧ i = .int .i64 (List.length (α := Int) xs) ∧ Own 3 wr w.heap.size v xs ∧ Small xs ∧ Rdr wr R q ∧ q ≤ p + 1 + 2 * xs.length ∧ w.grownBy wr (some R)) (fun _ i _ => m - (intOf i).toNat)
  case atStart => exact ⟨[], p + 1, by simp, rfl, Ho2.out, by intro x hx; simp at hx, Hr2.out, by simp, Hg2.out⟩
  case round =>
    obtain ⟨xs, q, hxm, rfl, hown, hsm, hrd, hq, hgr⟩ := hrel
    by_cases hlt : xs.length < m
    · have Hrd := Lib.hid hrd; clear hrd
      have Hown := Lib.hid hown; clear hown
      go_wp2_with fail
      refine (pick_any R 4 q _ (by omega) Hrd.out (by omega)).mono ?_
      rintro e w3 ⟨x, rfl, hx0, hx1, hr3, hg3⟩
      have Hr3 := Lib.hid hr3; clear hr3
      have Hg3 := Lib.hid (grownBy_trans hgr hg3)
      have Ho3 := Lib.hid (Hown.out.kept hg3 (.inr (fun e => by have := (Hown.out.lt R e).1; omega)))
      clear hg3
      go_wp2_with fail
      refine (pick_any R 3 (q + 1) _ (by omega) Hr3.out (by omega)).mono ?_
      rintro e w4 ⟨y, rfl, hy0, hy1, hr4, hg4⟩
      have Hr4 := Lib.hid hr4; clear hr4
      have Hg4 := Lib.hid (grownBy_trans Hg3.out hg4)
      have Ho4 := Lib.hid (Ho3.out.kept hg4 (.inr (fun e => by have := (Ho3.out.lt R e).1; omega)))
      clear hg4
      obtain ⟨hxy0, hxy1⟩ := prod_bd hx0 (show x ≤ 3 by omega) hy0 (show y ≤ 2 by omega)
      have hB := Hg4.out.size
      go_wp2_with (at_builtin; refine wpList_push TI' rfl (.tmp 17) (.tmp 25) rfl w.heap.size _ xs _ rfl Ho4.out (by omega) rfl hB ?_; intro v' w5 hown5 hg5)
      have Hr5 := Lib.hid (Hr4.out.kept hg5 (fun g e => by have := (Ho4.out.lt g e).1; omega))
      have Hg5 := Lib.hid (grown_row Hg4.out hg5 (fun g e => (Ho4.out.lt g e).1))
      clear hg5
      go_wp2
      go_roundw
      case rel => exact ⟨_, q + 2, by simp; omega, by simp, hown5, small_push hsm (by omega) (by omega), Hr5.out, by simp; omega, Hg5.out⟩
      case measure => simp [intOf]; omega
    · have Hrd := Lib.hid hrd; clear hrd
      have hxm' : xs.length = m := by omega
      obtain ⟨g, cap, rfl, hgB, hgs, hcap, hcells, hfz⟩ := hown.row (by omega)
      have Hown := Lib.hid hown; clear hown
      have Hcells := Lib.hid hcells; clear hcells
      have Hfz := Lib.hid hfz; clear hfz
      have Hm := Lib.hid hxm'; clear hxm'
      go_wp2_with fail
      refine (pick_any R 24 q _ (by omega) Hrd.out (by omega)).mono ?_
      rintro e w3 ⟨x, rfl, hx0, hx1, hr3, hg3⟩
      have Hr3 := Lib.hid hr3; clear hr3
      have Hg3 := Lib.hid (grownBy_trans hgr hg3)
      have Ho3 := Lib.hid (Hown.out.kept hg3 (.inr (by simp [Value.ownBlock]; omega)))
      have hB := Hg3.out.size
      clear hg3 Hcells Hfz
      by_cases h0 : x = 0
      · subst h0
        go_wp2_with (at_builtin; refine wpList_pushes TI' rfl (.tmp 31) (.tmp 32) rfl w.heap.size _ xs [1, 1, 1, 1] 4 _ rfl rfl rfl Ho3.out (by simp; omega) rfl hB ?_; intro v' w5 hown5 hg5)
        go_ret
        exact ⟨_, _, _, rfl, hown5, by simp; omega, small_app hsm (by intro z hz; simp at hz; omega),
          Hr3.out.kept hg5 (fun g' e => by have := (Ho3.out.lt g' e).1; omega), by omega, grown_row Hg3.out hg5 (fun g' e => (Ho3.out.lt g' e).1)⟩
      have h0' : (x == 0) = false := by rw [beq_eq_false_iff_ne]; exact h0
      by_cases h1 : x = 1
      · subst h1
        have Hxl := Lib.hid (show (xs.length : Int) = m by omega)
        go_wp2_with fail
        refine (pick_any R m (q + 1) _ (by omega) Hr3.out (by omega)).mono ?_
        rintro e w4 ⟨y, rfl, hy0, hy1, hr4, hg4⟩
        obtain ⟨y, rfl⟩ := Int.eq_ofNat_of_zero_le hy0
        have Hr4 := Lib.hid (hr4.alloc (.cells #[.int .i64 0, .int .i64 9, .int .i64 10, .int .i64 (-1)] 3)); clear hr4
        have Hg4 := Lib.hid ((grownBy_trans Hg3.out hg4))
        have Ho4 := Lib.hid (Ho3.out.kept hg4 (.inr (by simp [Value.ownBlock]; omega)))
        have hs4 := Hg4.out.size
        clear hg4
        go_wp2_with fail
        refine (pick_any R 4 (q + 1 + 1) _ (by omega) Hr4.out (by omega)).mono ?_
        rintro e w5 ⟨u, rfl, hu0, hu1, hr5, hg5⟩
        obtain ⟨u, rfl⟩ := Int.eq_ofNat_of_zero_le hu0
        obtain ⟨z, hz, hz1, hz2⟩ := lit4_at u (by omega)
        have hcell := lit_cell hg5 (by simp; omega) hz
        have Ho5 := Lib.hid ((Ho4.out.alloc _).kept hg5 (.inr (by simp [Value.ownBlock]; omega)))
        have Hg5 := Lib.hid (grownBy_trans (grownBy_trans Hg4.out (World.grownBy_alloc _ _ _)) hg5)
        have Hr5 := Lib.hid hr5; clear hr5
        have hu4 : u < 4 := by omega
        have hyx : y < xs.length := by omega
        have hs5 := Hg5.out.size
        obtain ⟨g', cap', hv', hgB', hgs', hcap', hcells', hfz'⟩ := Ho5.out.row (by omega)
        simp only [Value.slice.injEq, Option.some.injEq, Addr.mk.injEq, and_true, true_and] at hv'
        obtain ⟨rfl, rfl⟩ := hv'
        have hold := hcells' y hyx
        have hfr := hfz' y
        clear hg5 hz hu0 hu1 hy0 hy1 hcells' hfz' hgs'
        go_wp2
        go_ret
        have hst := Ho5.out.store rfl y z
        exact ⟨_, _, _, rfl, hst.1, by simp; omega, small_set hsm y hz1 hz2, Hr5.out.kept hst.2 (fun g' e => by simp at e; omega), by omega, grown_row Hg5.out hst.2 (fun g' e => by simp at e; omega)⟩
      have h1' : (x == 1) = false := by rw [beq_eq_false_iff_ne]; exact h1
      by_cases h2 : x = 2
      · subst h2
        go_wp2
        go_ret
        exact ⟨_, _, _, rfl, Ho3.out.front 0 (by omega), by simp, by intro z hz; simp at hz, Hr3.out, by omega, Hg3.out⟩
      have h2' : (x == 2) = false := by rw [beq_eq_false_iff_ne]; exact h2
      go_wp2
      go_ret
      exact ⟨_, _, _, rfl, Ho3.out, by omega, hsm, Hr3.out, by omega, Hg3.out⟩

theorem drawMembers (R p n : Nat) (w : World) (hp : p ≤ 1000000) (hn : n ≤ 1000) (hr : Rdr w R p) (hR : R < w.heap.size) :
    Calls Tryz.prog 74 #[.pointer (some ⟨R, 0, none⟩), .int .i64 n] w fun e w' => ∃ v xs p', e = .returned v ∧ Own 3 w' w.heap.size v xs ∧ xs.length ≤ n + 1 ∧ Rdr w' R p' ∧ p' ≤ p + n + 2 ∧ w.grownBy w' (some R) := by
  have Hr1 := Lib.hid (hr.alloc (.cells #[] 3)); clear hr
  go_enter Tryz.func74, Tryz.ntmps74
  go_wp2_with fail
  go_loopw [5, 6] (fun v i wr => ∃ xs k, k ≤ n ∧ xs.length ≤ k ∧ i = .int .i64 (k : Nat) ∧ Own 3 wr w.heap.size v xs ∧ Rdr wr R (p + k) ∧ w.grownBy wr (some R)) (fun _ i _ => n - (intOf i).toNat)
  case atStart => exact ⟨[], 0, by simp, by simp, rfl, own_empty _ _ (Nat.le_refl _), Hr1.out, World.grownBy_alloc _ _ _⟩
  case round =>
    obtain ⟨xs, k, hkn, hxk, rfl, hown, hrd, hgr⟩ := hrel
    have Hrd := Lib.hid hrd; clear hrd
    have Hown := Lib.hid hown; clear hown
    by_cases hlt : k < n
    · go_wp2_with fail
      refine (pick_any R 4 (p + k) _ (by omega) Hrd.out (by omega)).mono ?_
      rintro e w3 ⟨x, rfl, hx0, hx1, hr3, hg3⟩
      have Hr3 := Lib.hid hr3; clear hr3
      have Hg3 := Lib.hid (grownBy_trans hgr hg3)
      have Ho3 := Lib.hid (Hown.out.kept hg3 (.inr (fun e => by have := (Hown.out.lt R e).1; omega)))
      have hB := Hg3.out.size
      clear hg3
      by_cases hx : 0 < x
      · go_wp2_with (at_builtin; refine wpList_push TI' rfl (.tmp 16) (.tmp 18) rfl w.heap.size _ xs _ rfl Ho3.out (by omega) rfl hB ?_; intro v' w5 hown5 hg5)
        go_roundw
        case rel => exact ⟨_, k + 1, by omega, by simp; omega, by go_num, hown5, Hr3.out.kept hg5 (fun g e => by have := (Ho3.out.lt g e).1; omega), grown_row Hg3.out hg5 (fun g e => (Ho3.out.lt g e).1)⟩
        case measure => simp [intOf]; omega
      · go_wp2
        go_roundw
        case rel => exact ⟨xs, k + 1, by omega, by omega, by go_num, Ho3.out, Hr3.out, Hg3.out⟩
        case measure => simp [intOf]; omega
    · have hk : k = n := by omega
      have hkn' : (k : Int) = n := by omega
      go_wp2_with fail
      refine (pick_any R 16 (p + k) _ (by omega) Hrd.out (by omega)).mono ?_
      rintro e w3 ⟨x, rfl, hx0, hx1, hr3, hg3⟩
      have Hr3 := Lib.hid hr3; clear hr3
      have Hg3 := Lib.hid (grownBy_trans hgr hg3)
      have Ho3 := Lib.hid (Hown.out.kept hg3 (.inr (fun e => by have := (Hown.out.lt R e).1; omega)))
      have hB := Hg3.out.size
      clear hg3
      have Hk := Lib.hid hk; clear hk hkn'
      by_cases h0 : x = 0
      · subst h0
        go_wp2_with (at_builtin; refine wpList_push TI' rfl (.tmp 24) (.tmp 26) rfl w.heap.size _ xs _ rfl Ho3.out (by omega) rfl hB ?_; intro v' w5 hown5 hg5)
        go_ret
        exact ⟨_, _, _, rfl, hown5, by simp; omega, Hr3.out.kept hg5 (fun g e => by have := (Ho3.out.lt g e).1; omega), by omega, grown_row Hg3.out hg5 (fun g e => (Ho3.out.lt g e).1)⟩
      have h0' : (x == 0) = false := by rw [beq_eq_false_iff_ne]; exact h0
      by_cases h1 : x = 1
      · subst h1
        go_wp2_with fail
        refine (pick_any R 8 (p + k + 1) _ (by omega) Hr3.out (by omega)).mono ?_
        rintro e w4 ⟨y, rfl, hy0, hy1, hr4, hg4⟩
        have Hr4 := Lib.hid hr4; clear hr4
        have Hg4 := Lib.hid (grownBy_trans Hg3.out hg4)
        have Ho4 := Lib.hid (Ho3.out.kept hg4 (.inr (fun e => by have := (Ho3.out.lt R e).1; omega)))
        have hB4 := Hg4.out.size
        clear hg4
        go_wp2_with (at_builtin; refine wpList_push TI' rfl (.tmp 30) (.tmp 34) rfl w.heap.size _ xs _ rfl Ho4.out (by omega) rfl hB4 ?_; intro v' w5 hown5 hg5)
        go_ret
        exact ⟨_, _, _, rfl, hown5, by simp; omega, Hr4.out.kept hg5 (fun g e => by have := (Ho4.out.lt g e).1; omega), by omega, grown_row Hg4.out hg5 (fun g e => (Ho4.out.lt g e).1)⟩
      have h1' : (x == 1) = false := by rw [beq_eq_false_iff_ne]; exact h1
      go_wp2
      go_ret
      exact ⟨_, _, _, rfl, Ho3.out, by omega, Hr3.out, by omega, Hg3.out⟩

theorem below_of_row {w w' : World} {R B : Nat} (h : w.grownBy w' (some R)) (hR : B ≤ R) (hB : B ≤ w.heap.size) : Below B w w' :=
  ⟨h.os, h.tape, h.output, h.size, fun k hk => h.block k (by omega) (fun e => by injection e with e; omega)⟩

end Go.Proofs.YtjaacdapibokiaaGreatDoor

/- The draws of digests, leaves and texts: what is drawn is short and lies in new memory; each by a walk of its text; condition: at most 2^40 picks. -/
namespace Go.Proofs.YtjaacdapibokiaaGreatDoor
open Go.RowKit

/-- Numbers between -1 and 991. -/
def Digs (xs : List Int) : Prop := ∀ x ∈ xs, -1 ≤ x ∧ x ≤ 991
theorem digs_app {xs zs : List Int} (h : Digs xs) (k : Digs zs) : Digs (xs ++ zs) := fun x hx => by
  rcases List.mem_append.1 hx with hx | hx
  · exact h x hx
  · exact k x hx
theorem digs_one {z : Int} (h1 : -1 ≤ z) (h2 : z ≤ 991) : Digs [z] := fun x hx => by simp at hx; subst hx; exact ⟨h1, h2⟩
theorem digs_set {xs : List Int} (h : Digs xs) (j : Nat) {z : Int} (h1 : -1 ≤ z) (h2 : z ≤ 991) : Digs (xs.set j z) := fun x hx => by
  rcases List.mem_or_eq_of_mem_set hx with hx | rfl
  · exact h x hx
  · exact ⟨h1, h2⟩
theorem grown_row' {w a b : World} {R : Nat} {row : Option Nat} (h : w.grownBy a (some R)) (k : a.grownBy b row) (hr : ∀ g, row = some g → w.heap.size ≤ g) : w.grownBy b (some R) :=
  ⟨k.os.trans h.os, k.tape.trans h.tape, k.output.trans h.output, Nat.le_trans h.size k.size, fun i hi hne => (k.block i (Nat.lt_of_lt_of_le hi h.size) (fun e => by have := hr i e.symm; omega)).trans (h.block i hi hne)⟩
theorem below_of_row' {w w' : World} {R B : Nat} (h : w.grownBy w' (some R)) (hR : B ≤ R) (hB : B ≤ w.heap.size) : Below B w w' :=
  ⟨h.os, h.tape, h.output, h.size, fun k hk => h.block k (by omega) (fun e => by injection e with e; omega)⟩
theorem dig4_at (k : Nat) (hk : k < 4) : ∃ z : Int, (#[Value.int .i64 (-1), .int .i64 0, .int .i64 990, .int .i64 991] : Array Value)[k]? = some (.int .i64 z) ∧ -1 ≤ z ∧ z ≤ 991 := by
  match k, hk with
  | 0, _ => exact ⟨-1, rfl, by omega, by omega⟩
  | 1, _ => exact ⟨0, rfl, by omega, by omega⟩
  | 2, _ => exact ⟨990, rfl, by omega, by omega⟩
  | 3, _ => exact ⟨991, rfl, by omega, by omega⟩

theorem drawDigest (R p : Nat) (w : World) (hp : p ≤ 1000000) (hr : Rdr w R p) :
    Calls Tryz.prog 73 #[.pointer (some ⟨R, 0, none⟩)] w fun e w' => ∃ (d : Int) (p' : Nat), e = .returned (.int .i64 d) ∧ -1 ≤ d ∧ d ≤ 991 ∧ Rdr w' R p' ∧ p' ≤ p + 3 ∧ w.grownBy w' (some R) := by
  have Hr := Lib.hid hr; clear hr
  go_enter Tryz.func73, Tryz.ntmps73
  go_wp2_with fail
  refine (pick_any R 16 p _ (by omega) Hr.out (by omega)).mono ?_
  rintro e w1 ⟨x, rfl, hx0, hx1, hr1, hg1⟩
  have Hr1 := Lib.hid (hr1.alloc (.cells #[.int .i64 (-1), .int .i64 0, .int .i64 990, .int .i64 991] 3))
  have Hr1' := Lib.hid hr1; clear hr1
  have Hg1 := Lib.hid hg1; clear hg1
  have hRs := Hr1'.out.lt
  by_cases h0 : x = 0
  · subst h0
    go_wp2_with fail
    refine (pick_any R 4 (p + 1) _ (by omega) Hr1.out (by omega)).mono ?_
    rintro e w2 ⟨u, rfl, hu0, hu1, hr2, hg2⟩
    obtain ⟨u, rfl⟩ := Int.eq_ofNat_of_zero_le hu0
    obtain ⟨z, hz, hz1, hz2⟩ := dig4_at u (by omega)
    have hcell := lit_cell hg2 (by simp; omega) hz
    have Hg2 := Lib.hid (grownBy_trans (grownBy_trans Hg1.out (World.grownBy_alloc _ _ _)) hg2)
    have hu4 : u < 4 := by omega
    have Hr2 := Lib.hid hr2
    clear hg2 hz hu0 hu1 hr2
    go_wp2
    go_ret
    exact ⟨z, _, rfl, hz1, hz2, Hr2.out, by omega, Hg2.out⟩
  · have h0' : (x == 0) = false := by rw [beq_eq_false_iff_ne]; exact h0
    go_wp2_with fail
    refine (pick_any R 99 (p + 1) _ (by omega) Hr1'.out (by omega)).mono ?_
    rintro e w2 ⟨u, rfl, hu0, hu1, hr2, hg2⟩
    have Hr2 := Lib.hid hr2
    have Hg2 := Lib.hid (grownBy_trans Hg1.out hg2)
    clear hr2 hg2
    go_wp2_with fail
    refine (pick_any R 10 (p + 2) _ (by omega) Hr2.out (by omega)).mono ?_
    rintro e w3 ⟨y, rfl, hy0, hy1, hr3, hg3⟩
    have Hr3 := Lib.hid hr3
    have Hg3 := Lib.hid (grownBy_trans Hg2.out hg3)
    clear hr3 hg3
    go_wp2
    go_ret
    exact ⟨_, _, rfl, by omega, by omega, Hr3.out, by omega, Hg3.out⟩

end Go.Proofs.YtjaacdapibokiaaGreatDoor

/- The draws of graphs: what is drawn is a graph in new memory, each by a walk of its text; condition: at most 10^5 picks before. -/
namespace Go.Proofs.YtjaacdapibokiaaGreatDoor
open Go.RowKit

theorem own_litG (E : TypeId) (w : World) {B : Nat} (xs : List Int) (hB : B ≤ w.heap.size) (hm : xs.length ≤ maxLen) :
    Own E (w.alloc (.cells (xs.map (Value.int .i64)).toArray E)) B (.slice (some ⟨w.heap.size, 0, none⟩) xs.length xs.length) xs :=
  ⟨by simp, .inr ⟨w.heap.size, xs.length, _, rfl, hB, heap_alloc_new w _, Nat.le_refl _, hm, by simp, by simp [List.take_of_length_le]⟩⟩

theorem drawGoodV (R p : Nat) (w : World) (hp : p ≤ 1000000) (hr : Rdr w R p) (hR : R < w.heap.size) :
    Calls Tryz.prog 71 #[.pointer (some ⟨R, 0, none⟩)] w fun e w' => ∃ v xs p', e = .returned v ∧ Own 3 w' w.heap.size v xs ∧ validB xs = true ∧ Rdr w' R p' ∧ p' ≤ p + 20 ∧ w.grownBy w' (some R) := by
  go_enter Tryz.func71, Tryz.ntmps71
  go_wp2_with fail
  refine (drawCommittee R p _ hp hr hR).mono ?_
  rintro e w2 ⟨v, c, p', rfl, hown, hcl, hsm, hr2, hp', hg2⟩
  obtain ⟨a, cap, rfl, hi, _⟩ := hown.ints
  have hz := hg2.size
  have hv' := spec_CommitteeValid a cap c w2 (by omega) hi
  have Hr2 := Lib.hid hr2; clear hr2
  have Hg2 := Lib.hid hg2; clear hg2
  cases hv : validB c with
  | true =>
    rw [hv] at hv'
    have Hvv := Lib.hid hv
    have Hv := Lib.hid hv'; clear hv' hv hi
    have Hown := Lib.hid hown; clear hown
    go_wp2_with fail
    refine Hv.out.mono ?_
    rintro e w3 ⟨rfl, rfl⟩
    go_wp2
    go_ret
    exact ⟨_, c, p', rfl, Hown.out, Hvv.out, Hr2.out, hp', Hg2.out⟩
  | false =>
    rw [hv] at hv'
    have Hv := Lib.hid hv'; clear hv' hv hi hown
    go_wp2_with fail
    refine Hv.out.mono ?_
    rintro e w3 ⟨rfl, rfl⟩
    go_wp2
    go_ret
    exact ⟨_, [1, 1, 1, 1], p', rfl, own_litG 3 w2 [1, 1, 1, 1] hz (by unfold maxLen; simp), by decide, Hr2.out.alloc _, hp', grownBy_trans Hg2.out (World.grownBy_alloc _ _ _)⟩

/-- Valid vertices in order. -/
def GOk (c : List Int) (g : List Vx) : Prop := (∀ x ∈ g, vtxB c x = true) ∧ g.Pairwise fun a b => befB a b = true
theorem gOk_nil (c : List Int) : GOk c [] := ⟨by simp, .nil⟩
theorem gOk_push {c : List Int} {g : List Vx} {x : Vx} (h : GOk c g) (hx : vtxB c x = true) (hb : ∀ y ∈ g, y.r < x.r ∨ y.r = x.r ∧ y.a < x.a) : GOk c (g ++ [x]) := by
  refine ⟨fun y hy => ?_, List.pairwise_append.2 ⟨h.2, by simp, fun a ha b hb' => ?_⟩⟩
  · rcases List.mem_append.1 hy with hy | hy
    · exact h.1 y hy
    · simp at hy; subst hy; exact hx
  · simp at hb'; subst hb'
    exact decide_eq_true (hb a ha)
theorem gOk_auth {c : List Int} {g : List Vx} (h : GOk c g) (r : Int) : (authZ g r).Pairwise (· < ·) ∧ ∀ m ∈ authZ g r, 0 ≤ m ∧ m < c.length := by
  refine ⟨?_, fun m hm => ?_⟩
  · unfold authZ
    rw [List.pairwise_map]
    refine List.Pairwise.imp_of_mem (R := fun a b => befB a b = true) (fun {a b} ha hb hab => ?_) (h.2.filter _)
    have ha := of_decide_eq_true (List.mem_filter.1 ha).2
    have hb := of_decide_eq_true (List.mem_filter.1 hb).2
    have := of_decide_eq_true hab
    omega
  · unfold authZ at hm
    obtain ⟨x, hx, rfl⟩ := List.mem_map.1 hm
    exact vtx_author (h.1 x (List.mem_filter.1 hx).1)
theorem members_sub {n : Nat} {H ps : List Int} (h : H.Pairwise (· < ·) ∧ ∀ m ∈ H, 0 ≤ m ∧ m < n) (hs : ps.Sublist H) : membersB n ps = true :=
  members_pairwise (h.1.sublist hs) fun m hm => h.2 m (hs.subset hm)

theorem OwnR.apartI {E E' Ei : TypeId} {sz : Nat} {w : World} {B B' hi : Nat} {v u : Value} {es : List (List Fd)} {xs : List Int} (h : OwnR E Ei sz w B hi v es) (h' : Own E' w B' u xs) (hE : E ≠ E') : u.ownBlock = none ∨ u.ownBlock ≠ v.ownBlock := by
  obtain ⟨cs, h1, _⟩ := h.row
  rcases h'.2 with ⟨rfl, _⟩ | ⟨g, cap, cur, rfl, _, hg, _⟩
  · exact .inl rfl
  · rcases h1.2 with ⟨rfl, _⟩ | ⟨g', cap', cur', rfl, _, hg', _⟩
    · exact .inr (fun e => by cases e)
    · refine .inr fun e => hE ?_
      have e' : g = g' := by cases e; rfl
      subst e'
      rw [hg] at hg'
      cases hg'
      rfl

set_option maxRecDepth 8000 in
set_option maxHeartbeats 4000000 in
theorem drawGraph (R p : Nat) (rounds : Int) (w : World) (ac : Option Addr) (capc : Nat) (c : List Int) (hp : p ≤ 100000) (hn0 : 0 ≤ rounds) (hn1 : rounds ≤ 40) (hv : validB c = true) (hr : Rdr w R p) (hR : R < w.heap.size) (hc : ∀ W, w.grownBy W (some R) → IntsAt W ac c) :
    Calls Tryz.prog 72 #[.pointer (some ⟨R, 0, none⟩), .slice ac c.length capc, .int .i64 rounds] w fun e w' => ∃ v g p', e = .returned v ∧ OwnR 39 3 4 w' w.heap.size w'.heap.size v (g.map Vx.fd) ∧ GOk c g ∧ g.length ≤ 280 ∧ Rdr w' R p' ∧ p' ≤ p + 80000 ∧ w.grownBy w' (some R) := by
  obtain ⟨hc1, hc7⟩ := validB_len hv
  have Hr0 := Lib.hid (hr.alloc (.cells #[] 39)); clear hr
  have Hg0 := Lib.hid (World.grownBy_alloc w (.cells #[] 39) (some R))
  have hv0 : OwnR 39 3 4 (w.alloc (.cells #[] 39)) w.heap.size (w.alloc (.cells #[] 39)).heap.size (.slice (some ⟨w.heap.size, 0, none⟩) 0 0) [] := .nil (World.ownsRow_made w #[] 0 (Nat.le_refl _) (by simp) (by simp)) (fun g e => by cases e; simp)
  have Hv0 := Lib.hid hv0; clear hv0
  have Hc := Lib.hid hc; clear hc
  obtain ⟨rounds, rfl⟩ := Int.eq_ofNat_of_zero_le hn0
  have HWt := Lib.hid (fun ps am cap W (hm : membersB c.length ps = true) (hl : ps.length ≤ 1099511627776) h h' => spec_l1Weight ac capc c am cap ps W hv hm hl h h')
  have HQt := Lib.hid (fun W h => spec_l1Quorum ac capc c W hv h)
  have HVx := Lib.hid (fun r a d pa pc ps W (hl : ps.length ≤ 1099511627776) h h' => spec_l11Vertex ac capc c r a d pa pc ps W hv hl h h')
  go_enter Tryz.func72, Tryz.ntmps72
  go_wp2_with fail
  go_loopw [7, 8] (fun v i wr => ∃ (n : Nat) (g : List Vx) (q : Nat), n ≤ rounds ∧ i = .int .i64 n ∧ OwnR 39 3 4 wr w.heap.size wr.heap.size v (g.map Vx.fd) ∧ GOk c g ∧ (∀ x ∈ g, x.r < n) ∧ g.length ≤ 7 * n ∧ Rdr wr R q ∧ q ≤ p + 2000 * n ∧ w.grownBy wr (some R)) (fun _ i _ => rounds - (intOf i).toNat)
  case atStart => exact ⟨0, [], p, Nat.zero_le _, rfl, Hv0.out, gOk_nil c, by simp, by simp, Hr0.out, by omega, Hg0.out⟩
  case round =>
    obtain ⟨n, g0, q0, hn, rfl, hown, hok, hlt0, hgl, hrd, hq, hgr⟩ := hrel
    have Hown := Lib.hid hown; clear hown
    have Hrd := Lib.hid hrd; clear hrd
    have Hgr := Lib.hid hgr; clear hgr
    have Hok := Lib.hid hok; clear hok
    have Hlt0 := Lib.hid hlt0; clear hlt0
    by_cases hlt : n < rounds
    case neg =>
      have hn40 : n ≤ 40 := by omega
      go_wp2
      go_ret
      exact ⟨_, g0, q0, rfl, Hown.out, Hok.out, by omega, Hrd.out, by omega, Hgr.out⟩
    case pos =>
    obtain ⟨fo, hro⟩ := Hown.out.reads
    have hwn : IntKind.i64.wrap ((n : Int) - 1) = n - 1 := IntWalk.i64_in _ (by omega)
    have Hau := Lib.hid (spec_l11Authors g0 _ fo ((n : Int) - 1) wr (by omega) hro); clear hro
    have Hasc := Lib.hid (gOk_auth Hok.out ((n : Int) - 1))
    have hHl := authZ_len g0 ((n : Int) - 1)
    generalize authZ g0 ((n : Int) - 1) = H at *
    go_wp2_with fail
    refine Hau.out.mono ?_
    rintro e w2 ⟨uh, rfl, hoh, hb2⟩
    have hs2 := hb2.size
    have Hown2 := Lib.hid (Hown.out.below hb2 (Nat.le_refl _))
    have Hrd2 := Lib.hid (Hrd.out.kept (below_grown hb2) (fun g e => by cases e))
    have Hgr2 := Lib.hid (grown_row Hgr.out (below_grown hb2) (fun g e => by cases e))
    have hRw := Hgr.out.size
    have Hoh := Lib.hid (hoh.mono hRw)
    obtain ⟨ah, ch, rfl, hih, hsh, _⟩ := hoh.src
    clear hb2 hoh hih hsh
    go_wp2
    go_loopw [7, 10] (fun v i wr => ∃ (a : Nat) (g : List Vx) (q : Nat), a ≤ c.length ∧ i = .int .i64 a ∧ OwnR 39 3 4 wr w.heap.size wr.heap.size v (g.map Vx.fd) ∧ GOk c g ∧ (∀ x ∈ g, x.r < n ∨ x.r = n ∧ x.a < a) ∧ g.length ≤ 7 * n + a ∧ Rdr wr R q ∧ q ≤ p + 2000 * n + 283 * a ∧ w.grownBy wr (some R) ∧ Own 3 wr w.heap.size (.slice ah H.length ch) H ∧ w2.heap.size ≤ wr.heap.size) (fun _ i _ => c.length - (intOf i).toNat)
    case atStart => exact ⟨0, g0, q0, Nat.zero_le _, rfl, Hown2.out.mono hs2, Hok.out, fun x hx => .inl (Hlt0.out x hx), by omega, Hrd2.out, by omega, Hgr2.out, Hoh.out, Nat.le_refl _⟩
    case round =>
      obtain ⟨a, g, q, ha, rfl, hown, hok, hord, hgl, hrd, hq, hgr, hoh, hsz⟩ := hrel
      have Hown := Lib.hid hown; clear hown
      have Hrd := Lib.hid hrd; clear hrd
      have Hgr := Lib.hid hgr; clear hgr
      have Hok := Lib.hid hok; clear hok
      have Hord := Lib.hid hord; clear hord
      have Hoh := Lib.hid hoh; clear hoh
      by_cases hal : a < c.length
      case neg =>
        have hac : a = c.length := by omega
        subst hac
        go_wp2
        go_roundw
        case rel => exact ⟨n + 1, g, q, by omega, by go_num, Hown.out, Hok.out, fun x hx => by have := Hord.out x hx; omega, by omega, Hrd.out, by omega, Hgr.out⟩
        case measure => simp [intOf]; omega
      case pos =>
      go_wp2_with fail
      refine (pick_any R 6 q _ (by omega) Hrd.out (by omega)).mono ?_
      rintro e w3 ⟨z, rfl, hz0, hz1, hr3, hg3⟩
      have hs3 := hg3.size
      have Hrd3 := Lib.hid hr3; clear hr3
      have Hgr3 := Lib.hid (grownBy_trans Hgr.out hg3)
      have Hown3 := Lib.hid ((Hown.out.same fun b h1 h2 => hg3.block b (by omega) (fun e => by cases e; omega)).mono hs3)
      have Hoh3 := Lib.hid (Hoh.out.kept hg3 (.inr fun e => by have := (Hoh.out.lt R e).1; omega))
      clear hg3
      by_cases hz : z = 0
      · subst hz
        go_wp2
        go_roundw
        case rel => exact ⟨a + 1, g, q + 1, by omega, by go_num, Hown3.out, Hok.out, fun x hx => by have := Hord.out x hx; omega, by omega, Hrd3.out, by omega, Hgr3.out, Hoh3.out, by omega⟩
        case measure => simp [intOf]; omega
      have hz' : (z == 0) = false := by simpa using hz
      clear hz hz0 hz1 Hrd Hgr Hown Hoh
      have hwa : IntKind.i64.wrap (31 * (n : Int)) = 31 * n := IntWalk.i64_in _ (by omega)
      have hwb : IntKind.i64.wrap (7 * (a : Int)) = 7 * a := IntWalk.i64_in _ (by omega)
      have hwc : IntKind.i64.wrap (31 * (n : Int) + 7 * (a : Int)) = 31 * n + 7 * a := IntWalk.i64_in _ (by omega)
      go_wp2_with fail
      refine (pick_any R 90 (q + 1) _ (by omega) (Hrd3.out.alloc _) (by omega)).mono ?_
      rintro e w5 ⟨y, rfl, hy0, hy1, hr5, hg5⟩
      have ho5 := (own_empty 3 w3 (Nat.le_refl _)).kept hg5 (.inr fun e => by have := Hrd3.out.lt; simp [Value.ownBlock] at e; omega)
      have hg5' := grownBy_trans (World.grownBy_alloc w3 (.cells #[] 3) (some R)) hg5
      have hs5 : w3.heap.size + 1 ≤ w5.heap.size := by have := hg5.size; simpa using this
      have Hrd5 := Lib.hid hr5; clear hr5
      have Ho5 := Lib.hid ho5; clear ho5
      have Hg5 := Lib.hid hg5'; clear hg5' hg5
      have hwd : IntKind.i64.wrap (31 * (n : Int) + 7 * (a : Int) + y) = 31 * n + 7 * a + y := IntWalk.i64_in _ (by omega)
      obtain ⟨D, hD⟩ : ∃ D, (31 * (n : Int) + 7 * (a : Int) + y).tmod 991 = D := ⟨_, rfl⟩
      have hDb : -9223372036854775808 ≤ D ∧ D ≤ 9223372036854775807 := by
        rw [← hD, Int.tmod_eq_emod_of_nonneg (by omega)]; omega
      have hs0 := Str.new w5 39 #[.int .i64 n, .int .i64 a, .slice (some ⟨w3.heap.size, 0, none⟩) 0 0, .int .i64 D]
      have hgA := grownBy_trans Hg5.out (World.grownBy_alloc w5 (.cells #[.int .i64 n, .int .i64 a, .slice (some ⟨w3.heap.size, 0, none⟩) 0 0, .int .i64 D] 39) (some R))
      have hoA := Ho5.out.alloc (.cells #[.int .i64 n, .int .i64 a, .slice (some ⟨w3.heap.size, 0, none⟩) 0 0, .int .i64 D] 39)
      have hrA := Hrd5.out.alloc (.cells #[.int .i64 n, .int .i64 a, .slice (some ⟨w3.heap.size, 0, none⟩) 0 0, .int .i64 D] 39)
      have HsA := Lib.hid hs0; clear hs0
      have HgA := Lib.hid hgA; clear hgA
      have HoA := Lib.hid hoA; clear hoA
      have HrA := Lib.hid hrA; clear hrA Hrd5 Ho5 Hg5
      have hw3 := Hgr3.out.size
      go_wp2
      clear hwa hwb hwc hwd hD
      generalize w5.alloc (.cells #[.int .i64 n, .int .i64 a, .slice (some ⟨w3.heap.size, 0, none⟩) 0 0, .int .i64 D] 39) = w6 at *
      generalize w5.heap.size = Bv at *
      go_loopw [12] (fun i wr => ∃ (k : Nat) (ps : List Int) (vp : Value) (q2 : Nat), k ≤ H.length ∧ i = .int .i64 k ∧ ps.Sublist (H.take k) ∧ Str wr Bv 39 #[.int .i64 n, .int .i64 a, vp, .int .i64 D] ∧ Own 3 wr w3.heap.size vp ps ∧ vp.ownBlock ≠ some Bv ∧ Rdr wr R q2 ∧ q2 ≤ q + 2 + k ∧ w3.grownBy wr (some R)) (fun i _ => H.length - (intOf i).toNat)
      case atStart => exact ⟨0, [], _, q + 1 + 1, Nat.zero_le _, rfl, by simp, HsA.out, HoA.out, by simp [Value.ownBlock]; omega, HrA.out, by omega, HgA.out⟩
      case round =>
        obtain ⟨k, ps, vp, q2, hk, rfl, hsub, hst, hop, hne, hrd, hq2, hg3r⟩ := hrel
        have Hst := Lib.hid hst; clear hst
        have Hop := Lib.hid hop; clear hop
        have Hrd := Lib.hid hrd; clear hrd
        have Hg3r := Lib.hid hg3r; clear hg3r
        have Hsub := Lib.hid hsub; clear hsub
        have Hne := Lib.hid hne; clear hne
        have hBw := Hst.out.lt
        have Hohr := Lib.hid (Hoh3.out.kept Hg3r.out (.inr fun e => by have := (Hoh3.out.lt R e).1; omega))
        by_cases hlt2 : k < H.length
        · obtain ⟨bh, ch', e, hbB, hbs, _, hcells, _⟩ := Hohr.out.row (by omega)
          simp only [Value.slice.injEq, true_and] at e
          obtain ⟨rfl, rfl⟩ := e
          have hch := hcells k hlt2
          have hb3 : bh < w3.heap.size := by
            exact (Hoh3.out.lt bh rfl).2
          clear hcells
          by_cases hn0 : n = 0
          · exfalso; omega
          have hnn : decide ((0 : Int) < (n : Int)) = true := decide_eq_true (by omega)
          have hnn' : (0 : Int) < (n : Int) := by omega
          clear hn0
          go_wp2_with fail
          refine (pick_any R 8 q2 _ (by omega) Hrd.out (by omega)).mono ?_
          rintro e w7 ⟨u, rfl, hu0, hu1, hr7, hg7⟩
          have hs7 := hg7.size
          have Hrd7 := Lib.hid hr7; clear hr7
          have Hst7 := Lib.hid (Hst.out.kept hg7 (by simp; omega))
          have Hop7 := Lib.hid (Hop.out.kept hg7 (.inr fun e => by have := (Hop.out.lt R e).1; have := Hgr3.out.size; omega))
          have Hg37 := Lib.hid (grownBy_trans Hg3r.out hg7)
          have hch7 : w7.cell? ⟨bh, k, none⟩ = some (.int .i64 H[k]) := hg7.cell hch (by simp; omega)
          clear hg7 hch
          by_cases hu : 0 < u
          · have hud : decide ((0 : Int) < u) = true := decide_eq_true hu
            have Hsub' := Lib.hid (show (ps ++ [H[k]]).Sublist (H.take (k + 1)) by
              rw [List.take_succ_eq_append_getElem hlt2]
              exact Hsub.out.append (List.Sublist.refl _))
            generalize H[k] = x at *
            have h2 : w7.drew.cell? ⟨Bv, 2, none⟩ = some vp := Hst7.out.cell 2 (v := vp) rfl
            have h3 : w7.drew.cell? ⟨bh, k, none⟩ = some (.int .i64 x) := hch7
            go_wp2_with fail
            refine wp_region_L 9 (fun w' => w'.cell? ⟨Bv, 2, none⟩ = some vp ∧ w'.cell? ⟨bh, k, none⟩ = some (.int .i64 x)) (by kernel_rfl) ⟨h2, h3⟩ (fun hH => ?_)
            refine takeL 0 (v := ?v0) rfl (by kernel_rfl) (by kernel_rfl) (by kernel_rfl) (by kernel_rfl) (by kernel_rfl) (fun _ _ _ h => h) hH rfl ?y0 ?r0
            case y0 => intro W hSw; go_simp; try with_reducible rfl
            try simp only [Act.put, List.setIfInBounds_toArray, List.set_cons_zero, List.set_cons_succ]
            refine takeL 1 (v := ?v1) rfl (by kernel_rfl) (by kernel_rfl) (by kernel_rfl) (by kernel_rfl) (by kernel_rfl) (fun _ _ _ h => h) hH rfl ?y1 ?r1
            case y1 => intro W hSw; go_simp; try with_reducible rfl
            try simp only [Act.put, List.setIfInBounds_toArray, List.set_cons_zero, List.set_cons_succ]
            refine takeL 2 (v := ?v2) rfl (by kernel_rfl) (by kernel_rfl) (by kernel_rfl) (by kernel_rfl) (by kernel_rfl) (fun _ _ _ h => h) hH rfl ?y2 ?r2
            case y2 => intro W hSw; go_simp; try with_reducible rfl
            try simp only [Act.put, List.setIfInBounds_toArray, List.set_cons_zero, List.set_cons_succ]
            refine takeL 3 (v := ?v3) rfl (by kernel_rfl) (by kernel_rfl) (by kernel_rfl) (by kernel_rfl) (by kernel_rfl) (fun _ _ _ h => h) hH rfl ?y3 ?r3
            case y3 => intro W hSw; go_simp; try with_reducible rfl
            try simp only [Act.put, List.setIfInBounds_toArray, List.set_cons_zero, List.set_cons_succ]
            refine takeL 4 (v := ?v4) rfl (by kernel_rfl) (by kernel_rfl) (by kernel_rfl) (by kernel_rfl) (by kernel_rfl) (fun _ _ _ h => h) hH rfl ?y4 ?r4
            case y4 => intro W hSw; go_simp; try with_reducible rfl
            try simp only [Act.put, List.setIfInBounds_toArray, List.set_cons_zero, List.set_cons_succ]
            refine takeL 5 (v := ?v5) rfl (by kernel_rfl) (by kernel_rfl) (by kernel_rfl) (by kernel_rfl) (by kernel_rfl) (fun _ _ _ h => h) hH rfl ?y5 ?r5
            case y5 => intro W hSw; go_simp; try with_reducible rfl
            try simp only [Act.put, List.setIfInBounds_toArray, List.set_cons_zero, List.set_cons_succ]
            refine callL 6 rfl (by kernel_rfl) rfl (fun K hK => ?_)
            go_simp
            refine hK.out _ _ ⟨(World.grownBy_alloc w7.drew _ none).cell h2 (by simp), (World.grownBy_alloc w7.drew _ none).cell h3 (by simp)⟩ (fun hH => ?_)
            clear hK K
            try simp only [Act.put, List.setIfInBounds_toArray, List.set_cons_zero, List.set_cons_succ]
            have hown7 : Own 3 w7.drew w3.heap.size vp ps := Hop7.out
            have hst7 : Str w7.drew Bv 39 #[.int .i64 n, .int .i64 a, vp, .int .i64 D] := Hst7.out
            have hpl : ps.length ≤ 1099511627776 := by have := Hsub.out.length_le; rw [List.length_take] at this; omega
            have hB7 : w3.heap.size ≤ w7.drew.heap.size := Hg37.out.size
            have hg37 : w3.grownBy w7.drew (some R) := grownBy_drewN Hg37.out 1
            have hrd7 : Rdr w7.drew R (q2 + 1) := Hrd7.out.drewN 1
            refine callL 7 rfl (by kernel_rfl) rfl (fun K hK => ?_)
            refine op_push_at TIg w7.drew (.tmp 59) (.tmp 64) rfl w3.heap.size vp ps x rfl hown7 hpl rfl hB7 ?_
            intro v9 w9 hown9 hg9 hat9
            obtain ⟨g9, c9, rfl⟩ := own_succ hown9
            have s9 := hst7.kept hg9 (fun e => Hne.out e.symm)
            have h9 := s9.cell 2 (v := vp) rfl
            have f9 := s9.frozen 2
            have h39 : w9.cell? ⟨bh, k, none⟩ = some (.int .i64 x) := hg9.cell h3 (by intro e; have h' : w3.heap.size ≤ bh := (hown7.lt _ e.symm).1; omega)
            refine hK.out _ _ ⟨h9, h39⟩ (fun hH => ?_)
            clear hK K
            try simp only [Act.put, List.setIfInBounds_toArray, List.set_cons_zero, List.set_cons_succ]
            refine takeL 8 (v := ?v8) rfl (by kernel_rfl) (by kernel_rfl) (by kernel_rfl) (by kernel_rfl) (by kernel_rfl) (fun _ _ _ h => h) hH rfl ?y8 ?r8
            case y8 => intro W hSw; go_simp; try with_reducible rfl
            try simp only [Act.put, List.setIfInBounds_toArray, List.set_cons_zero, List.set_cons_succ]
            refine lastL rfl (by kernel_rfl) (by kernel_rfl) (by kernel_rfl) rfl (fun K hK => ?_)
            go_simp
            refine hK.out _ _ ?_
            clear hK K
            try simp only [Act.put, List.setIfInBounds_toArray, List.set_cons_zero, List.set_cons_succ]
            have hBs : Bv < w7.drew.heap.size := hst7.lt
            have hne9 : (Value.slice (some ⟨g9, 0, none⟩) (ps.length + 1) c9).ownBlock ≠ some Bv := by
              rcases hat9 with h | ⟨g', h, h'⟩
              · rw [h]; exact Hne.out
              · rw [h]; simp; omega
            have hRB : R < Bv := by omega
            go_wp2
            go_roundw
            case rel => exact ⟨k + 1, ps ++ [x], _, q2 + 1, by omega, by go_num, Hsub'.out, (by have := s9.set 2 (.slice (some ⟨g9, 0, none⟩) (ps.length + 1) c9); simpa using this), hown9.set_other hne9 2 _, hne9, (hrd7.kept hg9 (fun g e => by have := (hown7.lt g e).1; omega)).kept (grownBy_set w9 Bv 2 _) (fun g e => by cases e; exact hRB), by omega, grown_row (grown_row hg37 hg9 (fun g e => (hown7.lt g e).1)) (grownBy_set w9 Bv 2 _) (fun g e => by cases e; omega)⟩
            case measure => simp [intOf]; omega
          · have hud : decide ((0 : Int) < u) = false := decide_eq_false hu
            clear hu0 hu1
            go_wp2
            go_roundw
            case rel => exact ⟨k + 1, ps, vp, q2 + 1, by omega, by go_num, Hsub.out.trans (List.take_sublist_take_left (by omega)), Hst7.out, Hop7.out, Hne.out, Hrd7.out, by omega, Hg37.out⟩
            case measure => simp [intOf]; omega
        · have hke : k = H.length := by omega
          subst hke
          rw [List.take_length] at Hsub
          have hpl : ps.length ≤ 1099511627776 := by have := Hsub.out.length_le; omega
          obtain ⟨ap, cp, rfl, hip, _⟩ := Hop.out.ints
          clear hip
          by_cases hn0 : n = 0
          · have hnn : decide ((0 : Int) < (n : Int)) = false := decide_eq_false (by omega)
            have hnn' : ¬ (0 : Int) < (n : Int) := by omega
            clear hn0
            have hgW := grownBy_trans Hgr3.out Hg3r.out
            have hcW := Hc.out _ hgW
            have HgW := Lib.hid hgW; clear hgW
            have st := Hst.out
            have c0 := st.cell 0 (v := .int .i64 n) rfl
            have c1 := st.cell 1 (v := .int .i64 a) rfl
            have c2 := st.cell 2 (v := .slice ap ps.length cp) rfl
            have c3 := st.cell 3 (v := .int .i64 D) rfl
            have Hcall := Lib.hid (HVx.out n a D ap cp ps _ hpl hcW Hop.out.at)
            clear st hcW
            cases hvx : vtxB c ⟨n, a, ps, D⟩ with
            | false =>
              rw [hvx] at Hcall
              clear Hst Hop Hne
              go_wp2_with fail
              refine Hcall.out.mono ?_
              rintro e w8 ⟨rfl, hb8⟩
              have Hg38 := Lib.hid (grown_row (w := w3) Hg3r.out (below_grown hb8) (fun g e => by cases e))
              have Hown8 := Lib.hid (Hown3.out.same fun b h1 h2 => Hg38.out.block b h2 (fun e => by cases e; omega))
              have Hoh8 := Lib.hid (Hoh3.out.kept Hg38.out (.inr fun e => by have := (Hoh3.out.lt R e).1; omega))
              have Hrd8 := Lib.hid (Hrd.out.kept (below_grown hb8) (fun g e => by cases e))
              have hs8 := Hg38.out.size
              have HgW8 := Lib.hid (grownBy_trans Hgr3.out Hg38.out)
              clear hb8 c0 c1 c2 c3
              go_wp2
              go_roundw
              case rel => exact ⟨a + 1, g, q2, by omega, by go_num, Hown8.out.mono hs8, Hok.out, fun x hx => by have := Hord.out x hx; omega, by omega, Hrd8.out, by omega, HgW8.out, Hoh8.out, by omega⟩
              case measure => simp [intOf]; omega
            | true =>
              rw [hvx] at Hcall
              have Hok' := Lib.hid (gOk_push Hok.out hvx Hord.out)
              clear hvx
              go_wp2_with fail
              refine Hcall.out.mono ?_
              rintro e w8 ⟨rfl, hb8⟩
              have Hg38 := Lib.hid (grown_row (w := w3) Hg3r.out (below_grown hb8) (fun g e => by cases e))
              have Hown8 := Lib.hid (Hown3.out.same fun b h1 h2 => Hg38.out.block b h2 (fun e => by cases e; omega))
              have Hoh8 := Lib.hid (Hoh3.out.kept Hg38.out (.inr fun e => by have := (Hoh3.out.lt R e).1; omega))
              have Hrd8 := Lib.hid (Hrd.out.kept (below_grown hb8) (fun g e => by cases e))
              have hs8 := Hg38.out.size
              have HgW8 := Lib.hid (grownBy_trans Hgr3.out Hg38.out)
              have st := (hb8.block _ Hst.out.lt).trans Hst.out
              have hop8 := Hop.out.below hb8
              have c0 := Str.cell st 0 (v := .int .i64 n) rfl
              have c1 := Str.cell st 1 (v := .int .i64 a) rfl
              have c2 := Str.cell st 2 (v := .slice ap ps.length cp) rfl
              have c3 := Str.cell st 3 (v := .int .i64 D) rfl
              obtain ⟨hfd, hap, hnew⟩ := vertex_new (B := w.heap.size) n a D hop8 hw3
              have Hfd := Lib.hid hfd; clear hfd
              have Hap := Lib.hid hap; clear hap
              have Hnew := Lib.hid hnew; clear hnew hop8 st hb8
              have hel : (g.map Vx.fd).length ≤ 1048576 := by rw [List.length_map]; omega
              have Hex := Lib.hid (show (g ++ [(⟨n, a, ps, D⟩ : Vx)]).map Vx.fd = g.map Vx.fd ++ [[.i n, .i a, .l ps, .i D]] by rw [List.map_append]; rfl)
              have hB8 : w.heap.size ≤ w8.heap.size := by omega
              generalize g.map Vx.fd = es at *
              go_wp2_with (at_builtin; refine wpList_push_own (Ei := 3) Tryz.underlying24 vertex_inf rfl (by decide) (by decide) rfl (.tmp 85) (.tmp 87) rfl w.heap.size _ es _ _ _ rfl rfl (by intro u hu; simp at hu; rcases hu with rfl | rfl | rfl | rfl <;> rfl) rfl rfl Hfd.out Hap.out w3.heap.size Hown8.out hs8 Hnew.out hel rfl hB8 ?_; intro v9 w9 hown9 hg9 hat9)
              go_roundw
              case rel => exact ⟨a + 1, g ++ [⟨n, a, ps, D⟩], q2, by omega, by go_num, by rw [Hex.out]; exact hown9, Hok'.out, fun x hx => by
                rcases List.mem_append.1 hx with hx | hx
                · have := Hord.out x hx; omega
                · simp at hx; subst hx; exact .inr ⟨rfl, (show (a : Int) < ((a + 1 : Nat) : Int) by omega)⟩, by have := hgl; rw [List.length_append]; simp only [List.length_singleton]; omega, Hrd8.out.kept hg9 (fun g e => by have := (Hown8.out.lt g e).1; omega), by omega, grown_row HgW8.out hg9 (fun g e => (Hown8.out.lt g e).1), Hoh8.out.kept hg9 (Hown8.out.apartI Hoh8.out (by decide)), by have := hg9.size; omega⟩
              case measure => simp [intOf]; omega
          have hnn : decide ((0 : Int) < (n : Int)) = true := decide_eq_true (by omega)
          have hnn' : (0 : Int) < (n : Int) := by omega
          clear hn0
          have hmb := members_sub Hasc.out Hsub.out
          have hcW0 := Hc.out _ (grownBy_trans Hgr3.out Hg3r.out)
          have k2 := Hst.out.cell 2 (v := .slice ap ps.length cp) rfl
          have HW1 := Lib.hid (HWt.out ps ap cp wr hmb hpl hcW0 Hop.out.at)
          have HQ1 := Lib.hid (HQt.out wr hcW0)
          clear hcW0 hmb
          go_wp2_with fail
          refine HW1.out.mono ?_
          rintro e w7 ⟨rfl, rfl⟩
          go_wp2_with fail
          refine HQ1.out.mono ?_
          rintro e w7 ⟨rfl, rfl⟩
          by_cases hlow : weightZ c ps < 2 * totalZ c / 3 + 1
          · have hld : decide (weightZ c ps < 2 * totalZ c / 3 + 1) = true := decide_eq_true hlow
            have hoE := own_empty 3 wr (Nat.le_refl wr.heap.size)
            have hsrc : SrcAt (wr.alloc (.cells #[] 3)) ah ch H := by
              obtain ⟨_, _, e, _, hs, _⟩ := (Hohr.out.alloc (.cells #[] 3)).src
              cases e
              exact hs
            have stE := Hst.out.alloc (.cells #[] 3)
            have hzE : (wr.alloc (.cells #[] 3)).heap.size = wr.heap.size + 1 := by simp
            have rdE := Hrd.out.alloc (.cells #[] 3)
            have hgE := grownBy_trans Hg3r.out (World.grownBy_alloc wr (.cells #[] 3) (some R))
            have hsr := Hg3r.out.size
            have hHl2 : H.length ≤ 1099511627776 := by omega
            have hRB : R < Bv := by omega
            have HoE := Lib.hid hoE; clear hoE
            have Hsrc := Lib.hid hsrc; clear hsrc
            have HstE := Lib.hid stE; clear stE
            have HrdE := Lib.hid rdE; clear rdE
            have HgE := Lib.hid hgE; clear hgE
            clear k2 hlow Hop Hst Hrd HW1 HQ1
            go_wp2_with (at_builtin; refine wpList_appI TIg rfl (.tmp 78) (.tmp 79) rfl wr.heap.size (.slice (some ⟨wr.heap.size, 0, none⟩) 0 0) [] H _ _ rfl HoE.out rfl Hsrc.out (by simp; omega) (by rw [hzE]; omega) ?_; intro v7 w7 hown7 hg7; (rw [List.nil_append] at hown7); (generalize wr.alloc (.cells #[] 3) = w71 at *); (have st7 := HstE.out.kept hg7 (by simp [Value.ownBlock]; omega)); (have Hrd7 := Lib.hid (HrdE.out.kept hg7 (fun g e => by have := (HoE.out.lt g e).1; omega))); (have Hg7 := Lib.hid (grown_row HgE.out hg7 (fun g e => by have := (HoE.out.lt g e).1; omega))); (have Hown7 := Lib.hid hown7); (obtain ⟨a7, c7, rfl, _, _⟩ := Hown7.out.ints); (have k2 := st7.cell 2 (v := .slice ap ps.length cp) rfl); (have f2 := st7.frozen 2); (have u := st7.set 2 (.slice a7 H.length c7)); (have e0 := u.cell 0 (v := .int .i64 n) rfl); (have e1 := u.cell 1 (v := .int .i64 a) rfl); (have e2 := u.cell 2 (v := .slice a7 H.length c7) rfl); (have e3 := u.cell 3 (v := .int .i64 D) rfl); (have Hu := Lib.hid u); (clear u st7 hown7 hg7))
            have hne7 : (Value.slice a7 H.length c7).ownBlock ≠ some Bv := fun e => by have := (Hown7.out.lt _ e).1; omega
            have Hrd := Lib.hid (Hrd7.out.kept (grownBy_set w7 Bv 2 (.slice a7 H.length c7)) (fun g e => by cases e; exact hRB))
            have Hg3r := Lib.hid (grown_row Hg7.out (grownBy_set w7 Bv 2 (.slice a7 H.length c7)) (fun g e => by cases e; omega))
            have Hop := Lib.hid ((Hown7.out.mono (show w3.heap.size ≤ wr.heap.size from hsr)).set_other hne7 2 (.slice a7 H.length c7))
            have Hst : Hid (Str (w7.setCell ⟨Bv, 2, none⟩ (.slice a7 H.length c7)) Bv 39 #[.int .i64 n, .int .i64 a, .slice a7 H.length c7, .int .i64 D]) := Lib.hid (by simpa using Hu.out)
            clear k2 f2 Hu Hown7 Hrd7 Hg7 hne7
            generalize w7.setCell ⟨Bv, 2, none⟩ (.slice a7 H.length c7) = wz at *
            have hBz := Hst.out.lt
            have hgW := grownBy_trans Hgr3.out Hg3r.out
            have hcW := Hc.out _ hgW
            have HgW := Lib.hid hgW; clear hgW
            have st := Hst.out
            clear e0 e1 e2 e3
            have c0 := st.cell 0 (v := .int .i64 n) rfl
            have c1 := st.cell 1 (v := .int .i64 a) rfl
            have c2 := st.cell 2 (v := .slice a7 H.length c7) rfl
            have c3 := st.cell 3 (v := .int .i64 D) rfl
            have Hcall := Lib.hid (HVx.out n a D a7 c7 H _ hHl2 hcW Hop.out.at)
            clear st hcW
            cases hvx : vtxB c ⟨n, a, H, D⟩ with
            | false =>
              rw [hvx] at Hcall
              clear Hst Hop
              refine Hcall.out.mono ?_
              rintro e w8 ⟨rfl, hb8⟩
              have Hg38 := Lib.hid (grown_row (w := w3) Hg3r.out (below_grown hb8) (fun g e => by cases e))
              have Hown8 := Lib.hid (Hown3.out.same fun b h1 h2 => Hg38.out.block b h2 (fun e => by cases e; omega))
              have Hoh8 := Lib.hid (Hoh3.out.kept Hg38.out (.inr fun e => by have := (Hoh3.out.lt R e).1; omega))
              have Hrd8 := Lib.hid (Hrd.out.kept (below_grown hb8) (fun g e => by cases e))
              have hs8 := Hg38.out.size
              have HgW8 := Lib.hid (grownBy_trans Hgr3.out Hg38.out)
              clear hb8 c0 c1 c2 c3
              go_wp2
              go_roundw
              case rel => exact ⟨a + 1, g, q2, by omega, by go_num, Hown8.out.mono hs8, Hok.out, fun x hx => by have := Hord.out x hx; omega, by omega, Hrd8.out, by omega, HgW8.out, Hoh8.out, by omega⟩
              case measure => simp [intOf]; omega
            | true =>
              rw [hvx] at Hcall
              have Hok' := Lib.hid (gOk_push Hok.out hvx Hord.out)
              clear hvx
              refine Hcall.out.mono ?_
              rintro e w8 ⟨rfl, hb8⟩
              have Hg38 := Lib.hid (grown_row (w := w3) Hg3r.out (below_grown hb8) (fun g e => by cases e))
              have Hown8 := Lib.hid (Hown3.out.same fun b h1 h2 => Hg38.out.block b h2 (fun e => by cases e; omega))
              have Hoh8 := Lib.hid (Hoh3.out.kept Hg38.out (.inr fun e => by have := (Hoh3.out.lt R e).1; omega))
              have Hrd8 := Lib.hid (Hrd.out.kept (below_grown hb8) (fun g e => by cases e))
              have hs8 := Hg38.out.size
              have HgW8 := Lib.hid (grownBy_trans Hgr3.out Hg38.out)
              have st := (hb8.block _ Hst.out.lt).trans Hst.out
              have hop8 := Hop.out.below hb8
              have c0 := Str.cell st 0 (v := .int .i64 n) rfl
              have c1 := Str.cell st 1 (v := .int .i64 a) rfl
              have c2 := Str.cell st 2 (v := .slice a7 H.length c7) rfl
              have c3 := Str.cell st 3 (v := .int .i64 D) rfl
              obtain ⟨hfd, hap, hnew⟩ := vertex_new (B := w.heap.size) n a D hop8 hw3
              have Hfd := Lib.hid hfd; clear hfd
              have Hap := Lib.hid hap; clear hap
              have Hnew := Lib.hid hnew; clear hnew hop8 st hb8
              have hel : (g.map Vx.fd).length ≤ 1048576 := by rw [List.length_map]; omega
              have Hex := Lib.hid (show (g ++ [(⟨n, a, H, D⟩ : Vx)]).map Vx.fd = g.map Vx.fd ++ [[.i n, .i a, .l H, .i D]] by rw [List.map_append]; rfl)
              have hB8 : w.heap.size ≤ w8.heap.size := by omega
              generalize g.map Vx.fd = es at *
              go_wp2_with (at_builtin; refine wpList_push_own (Ei := 3) Tryz.underlying24 vertex_inf rfl (by decide) (by decide) rfl (.tmp 85) (.tmp 87) rfl w.heap.size _ es _ _ _ rfl rfl (by intro u hu; simp at hu; rcases hu with rfl | rfl | rfl | rfl <;> rfl) rfl rfl Hfd.out Hap.out w3.heap.size Hown8.out hs8 Hnew.out hel rfl hB8 ?_; intro v9 w9 hown9 hg9 hat9)
              go_roundw
              case rel => exact ⟨a + 1, g ++ [⟨n, a, H, D⟩], q2, by omega, by go_num, by rw [Hex.out]; exact hown9, Hok'.out, fun x hx => by
                rcases List.mem_append.1 hx with hx | hx
                · have := Hord.out x hx; omega
                · simp at hx; subst hx; exact .inr ⟨rfl, (show (a : Int) < ((a + 1 : Nat) : Int) by omega)⟩, by have := hgl; rw [List.length_append]; simp only [List.length_singleton]; omega, Hrd8.out.kept hg9 (fun g e => by have := (Hown8.out.lt g e).1; omega), by omega, grown_row HgW8.out hg9 (fun g e => (Hown8.out.lt g e).1), Hoh8.out.kept hg9 (Hown8.out.apartI Hoh8.out (by decide)), by have := hg9.size; omega⟩
              case measure => simp [intOf]; omega
          · have hld : decide (weightZ c ps < 2 * totalZ c / 3 + 1) = false := decide_eq_false hlow
            clear k2
            have hgW := grownBy_trans Hgr3.out Hg3r.out
            have hcW := Hc.out _ hgW
            have HgW := Lib.hid hgW; clear hgW
            have st := Hst.out
            have c0 := st.cell 0 (v := .int .i64 n) rfl
            have c1 := st.cell 1 (v := .int .i64 a) rfl
            have c2 := st.cell 2 (v := .slice ap ps.length cp) rfl
            have c3 := st.cell 3 (v := .int .i64 D) rfl
            have Hcall := Lib.hid (HVx.out n a D ap cp ps _ hpl hcW Hop.out.at)
            clear st hcW
            cases hvx : vtxB c ⟨n, a, ps, D⟩ with
            | false =>
              rw [hvx] at Hcall
              clear Hst Hop Hne
              go_wp2_with fail
              refine Hcall.out.mono ?_
              rintro e w8 ⟨rfl, hb8⟩
              have Hg38 := Lib.hid (grown_row (w := w3) Hg3r.out (below_grown hb8) (fun g e => by cases e))
              have Hown8 := Lib.hid (Hown3.out.same fun b h1 h2 => Hg38.out.block b h2 (fun e => by cases e; omega))
              have Hoh8 := Lib.hid (Hoh3.out.kept Hg38.out (.inr fun e => by have := (Hoh3.out.lt R e).1; omega))
              have Hrd8 := Lib.hid (Hrd.out.kept (below_grown hb8) (fun g e => by cases e))
              have hs8 := Hg38.out.size
              have HgW8 := Lib.hid (grownBy_trans Hgr3.out Hg38.out)
              clear hb8 c0 c1 c2 c3
              go_wp2
              go_roundw
              case rel => exact ⟨a + 1, g, q2, by omega, by go_num, Hown8.out.mono hs8, Hok.out, fun x hx => by have := Hord.out x hx; omega, by omega, Hrd8.out, by omega, HgW8.out, Hoh8.out, by omega⟩
              case measure => simp [intOf]; omega
            | true =>
              rw [hvx] at Hcall
              have Hok' := Lib.hid (gOk_push Hok.out hvx Hord.out)
              clear hvx
              go_wp2_with fail
              refine Hcall.out.mono ?_
              rintro e w8 ⟨rfl, hb8⟩
              have Hg38 := Lib.hid (grown_row (w := w3) Hg3r.out (below_grown hb8) (fun g e => by cases e))
              have Hown8 := Lib.hid (Hown3.out.same fun b h1 h2 => Hg38.out.block b h2 (fun e => by cases e; omega))
              have Hoh8 := Lib.hid (Hoh3.out.kept Hg38.out (.inr fun e => by have := (Hoh3.out.lt R e).1; omega))
              have Hrd8 := Lib.hid (Hrd.out.kept (below_grown hb8) (fun g e => by cases e))
              have hs8 := Hg38.out.size
              have HgW8 := Lib.hid (grownBy_trans Hgr3.out Hg38.out)
              have st := (hb8.block _ Hst.out.lt).trans Hst.out
              have hop8 := Hop.out.below hb8
              have c0 := Str.cell st 0 (v := .int .i64 n) rfl
              have c1 := Str.cell st 1 (v := .int .i64 a) rfl
              have c2 := Str.cell st 2 (v := .slice ap ps.length cp) rfl
              have c3 := Str.cell st 3 (v := .int .i64 D) rfl
              obtain ⟨hfd, hap, hnew⟩ := vertex_new (B := w.heap.size) n a D hop8 hw3
              have Hfd := Lib.hid hfd; clear hfd
              have Hap := Lib.hid hap; clear hap
              have Hnew := Lib.hid hnew; clear hnew hop8 st hb8
              have hel : (g.map Vx.fd).length ≤ 1048576 := by rw [List.length_map]; omega
              have Hex := Lib.hid (show (g ++ [(⟨n, a, ps, D⟩ : Vx)]).map Vx.fd = g.map Vx.fd ++ [[.i n, .i a, .l ps, .i D]] by rw [List.map_append]; rfl)
              have hB8 : w.heap.size ≤ w8.heap.size := by omega
              generalize g.map Vx.fd = es at *
              go_wp2_with (at_builtin; refine wpList_push_own (Ei := 3) Tryz.underlying24 vertex_inf rfl (by decide) (by decide) rfl (.tmp 85) (.tmp 87) rfl w.heap.size _ es _ _ _ rfl rfl (by intro u hu; simp at hu; rcases hu with rfl | rfl | rfl | rfl <;> rfl) rfl rfl Hfd.out Hap.out w3.heap.size Hown8.out hs8 Hnew.out hel rfl hB8 ?_; intro v9 w9 hown9 hg9 hat9)
              go_roundw
              case rel => exact ⟨a + 1, g ++ [⟨n, a, ps, D⟩], q2, by omega, by go_num, by rw [Hex.out]; exact hown9, Hok'.out, fun x hx => by
                rcases List.mem_append.1 hx with hx | hx
                · have := Hord.out x hx; omega
                · simp at hx; subst hx; exact .inr ⟨rfl, (show (a : Int) < ((a + 1 : Nat) : Int) by omega)⟩, by have := hgl; rw [List.length_append]; simp only [List.length_singleton]; omega, Hrd8.out.kept hg9 (fun g e => by have := (Hown8.out.lt g e).1; omega), by omega, grown_row HgW8.out hg9 (fun g e => (Hown8.out.lt g e).1), Hoh8.out.kept hg9 (Hown8.out.apartI Hoh8.out (by decide)), by have := hg9.size; omega⟩
              case measure => simp [intOf]; omega

end Go.Proofs.YtjaacdapibokiaaGreatDoor

/- A list that reads as rows is appended to a list that the call builds; a row's cell of such a list is written over; general steps, nothing here speaks of the program. -/
namespace Go.Proofs.YtjaacdapibokiaaGreatDoor
open Go.RowKit

theorem Rd.one {w : World} {d : Dt} {c : Value} {fp : List Nat} (h : Rd w d c fp) : c.oneCell' = true := by
  cases h <;> rfl
/-- The cells of a list of rows, one after the other, and how they read. -/
theorem Rd.rows {w : World} {es : List (List Dt)} {u : Value} {fp : List Nat} (h : Rd w (.l es) u fp) {sz : Nat} (hsz : ∀ e ∈ es, e.length = sz) (hpos : 0 < sz) :
    (u = .slice none 0 0 ∧ es = []) ∨ ∃ (ad : Addr) (c : Nat) (vals : List Value), u = .slice (some ad) es.length c ∧ vals.length = es.length * sz ∧ (∀ j x, vals[j]? = some x → w.cell? (ad.add j) = some x) ∧ (∀ x ∈ vals, x.oneCell' = true) ∧
      ∀ k (hk : k < es.length) j (hj : j < (es[k]).length), ∃ c fp', (vals.drop (k * sz))[j]? = some c ∧ Rd w ((es[k])[j]) c fp' ∧ ∀ r ∈ fp', r ∈ fp := by
  generalize hd : Dt.l es = d at h
  cases h with
  | i n => cases hd
  | b x => cases hd
  | s t => cases hd
  | nil a cap hn =>
    cases hd
    cases a with
    | none => rw [hn rfl]; exact .inl ⟨rfl, rfl⟩
    | some ad => exact .inr ⟨ad, cap, [], rfl, by simp, by simp, by simp, fun k hk => by simp at hk⟩
  | l sz' es' g off cap V F hne hsz' hcap hgl hc hrd =>
    cases hd
    have hss : sz' = sz := by
      have h0 := List.getElem_mem hne
      rw [← hsz' _ h0, hsz _ h0]
    subst hss
    have hlt : ∀ p, p < es.length * sz' → p / sz' < es.length ∧ p % sz' < sz' := fun p hp => ⟨by rw [Nat.div_lt_iff_lt_mul hpos]; exact hp, Nat.mod_lt _ hpos⟩
    have hget : ∀ p, p < es.length * sz' → ((List.range (es.length * sz')).map fun p => V (p / sz') (p % sz'))[p]? = some (V (p / sz') (p % sz')) := by
      intro p hp
      simp [List.getElem?_map, List.getElem?_range hp]
    refine .inr ⟨⟨g, off, none⟩, cap, (List.range (es.length * sz')).map fun p => V (p / sz') (p % sz'), rfl, by simp, fun j x hx => ?_, fun x hx => ?_, fun k hk j hj => ?_⟩
    · have hj : j < es.length * sz' := by
        obtain ⟨h, _⟩ := List.getElem?_eq_some_iff.1 hx
        simpa using h
      rw [hget j hj] at hx
      cases hx
      obtain ⟨h1, h2⟩ := hlt j hj
      have := hc (j / sz') (j % sz') h1 h2
      rw [addr_add', ← this]
      congr 3
      rw [Nat.mul_comm]; exact (Nat.div_add_mod _ _).symm
    · obtain ⟨p, hp, rfl⟩ := List.mem_map.1 hx
      obtain ⟨h1, h2⟩ := hlt p (List.mem_range.1 hp)
      exact (hrd _ _ h1 (by rw [hsz _ (List.getElem_mem h1)]; exact h2)).one
    · have hj' : j < sz' := by rw [← hsz _ (List.getElem_mem hk)]; exact hj
      have hp : k * sz' + j < es.length * sz' := by
        have := Nat.mul_le_mul_right sz' (show k + 1 ≤ es.length by omega)
        rw [Nat.add_mul] at this; omega
      have e1 : (k * sz' + j) / sz' = k := by rw [Nat.add_comm, Nat.add_mul_div_right _ _ hpos, Nat.div_eq_of_lt hj', Nat.zero_add]
      have e2 : (k * sz' + j) % sz' = j := by rw [Nat.add_comm, Nat.add_mul_mod_self_right, Nat.mod_eq_of_lt hj']
      refine ⟨V k j, F k j, ?_, hrd k j hk hj, fun r hr => List.mem_cons_of_mem _ (List.mem_flatMap.2 ⟨k, List.mem_range.2 hk, List.mem_flatMap.2 ⟨j, List.mem_range.2 hj', hr⟩⟩)⟩
      rw [List.getElem?_drop, hget _ hp, e1, e2]
/-- 'append(s, t...)' at an operation: s is being built, t reads as rows in memory that is not the outer row's. -/
theorem op_app_rows {P : Program} {T E : TypeId} {z0 : Value} {sz bytes : Nat} (hsl : P.underlying T = some (.slice E)) (hinf : (P.info? E).map (fun i => (i.zero, i.size, i.bytes)) = some (some z0, sz, bytes)) (hz0 : z0.cells.size = sz) (hpos : 0 < sz) (hby : bytes ≤ 1000)
    (w : World) {o : Oper} {a : Act} {K : Act → World → Prop} {Q : Exit → Act → World → Prop} (s x : Operand) (ho : o.op = .call { callee := .builtin .append, args := #[s, x], argTypes := #[T, T] }) (B : Nat) (v u : Value) (es es2 : List (List Dt)) (fp2 : List Nat)
    (hs : a.eval s = v) (hb : Bld E sz w B v es) (hx : a.eval x = u) (hr : Rd w (.l es2) u fp2) (hsz2 : ∀ e ∈ es2, e.length = sz) (hfp : ∀ r ∈ fp2, B ≤ r ∧ v.ownBlock ≠ some r) (hlen : es.length + es2.length ≤ 1048576) (hB : B ≤ w.heap.size)
    (h : ∀ v' w', Bld E sz w' B v' (es ++ es2) → w.grownBy w' v.ownBlock → (∀ g, v'.ownBlock = some g → v.ownBlock = some g ∨ w.heap.size ≤ g) → K (a.put o.dst v') w') : Oper.wp P o a w K Q := by
  obtain ⟨i, hi, hz, hsz, hbb⟩ := info_parts hinf
  obtain ⟨cs, hown, hc⟩ := hb.row
  have hcl : cs.length = es.length * sz := hown.1
  have run : ∃ v' w' vals, (Builtin.append_ #[T, T] o.type #[v, u]).run P w = .ok v' w' ∧ w'.ownsRow B E sz v' (es.length + es2.length) (cs ++ vals) ∧ w.grownBy w' v.ownBlock ∧ (v'.ownBlock = v.ownBlock ∨ v'.ownBlock = some w.heap.size) ∧
      ∀ k (hk : k < es2.length) j (hj : j < (es2[k]).length), ∃ c fp', (vals.drop (k * sz))[j]? = some c ∧ Rd w ((es2[k])[j]) c fp' ∧ ∀ r ∈ fp', r ∈ fp2 := by
    rcases hr.rows hsz2 hpos with ⟨rfl, rfl⟩ | ⟨ad, c, vals, rfl, hvl, hcells, hone, hrd⟩
    · exact ⟨v, w, [], run_append_owned_none (P := P) (w := w) B T o.type E i sz hsl hi v es.length _ hown, by simpa using hown, ⟨rfl, rfl, rfl, Nat.le_refl _, fun _ _ _ => rfl⟩, .inl rfl, fun k hk => by simp at hk⟩
    · obtain ⟨v', w', h1, h2, h3, _, h4⟩ := run_append_own_at (P := P) w B T o.type E i z0 sz bytes hsl hi hz hsz hbb hz0 hpos v es.length _ hown ad es2.length c vals hvl hcells hone (by unfold maxLen; omega) (by
        have := Nat.mul_le_mul hlen hby; omega) hB
      exact ⟨v', w', vals, h1, h2, h3, h4, hrd⟩
  obtain ⟨v', w', vals, hrun, h1, hg, h4, hrd⟩ := run
  unfold Oper.wp execOp
  simp only [ho, resolve, invoke, builtin, Sem.run_bind, Sem.run_pure, Result.andThen_ok, List.map_toArray, List.map_cons, List.map_nil, hs, hx, hrun]
  have hloc : ∀ g, v'.ownBlock = some g → v.ownBlock = some g ∨ w.heap.size ≤ g := fun g e => by
    rcases h4 with h4 | h4
    · exact .inl (by rw [← h4]; exact e)
    · rw [h4] at e; cases e; exact .inr (Nat.le_refl _)
  refine h v' w' ⟨?_, cs ++ vals, by rw [List.length_append]; exact h1, fun k hk => ?_⟩ hg hloc
  · intro d hd
    rcases List.mem_append.1 hd with hd | hd
    · exact hb.szs d hd
    · exact hsz2 d hd
  · by_cases hke : k < es.length
    · have hkk : (es ++ es2)[k] = es[k] := List.getElem_append_left hke
      rw [hkk]
      have hcr := (hc k hke).step (blk' := v'.ownBlock) hg (fun r e => .inr e) hloc
      intro j hj
      obtain ⟨c, fp, hcc, hrest⟩ := hcr j hj
      refine ⟨c, fp, ?_, hrest⟩
      rw [List.getElem?_drop] at hcc ⊢
      rw [List.getElem?_append_left (by obtain ⟨h, _⟩ := List.getElem?_eq_some_iff.1 hcc; exact h)]
      exact hcc
    · have hk2 : k - es.length < es2.length := by rw [List.length_append] at hk; omega
      have hkk : (es ++ es2)[k] = es2[k - es.length] := List.getElem_append_right (by omega)
      rw [hkk]
      intro j hj
      obtain ⟨c, fp', hcc, hr', hin⟩ := hrd (k - es.length) hk2 j hj
      refine ⟨c, fp', ?_, hr'.grown hg (fun r e hm => (hfp r (hin r hm)).2 e), fun r hm => ⟨(hfp r (hin r hm)).1, fun e => ?_⟩⟩
      · rw [List.getElem?_drop] at hcc ⊢
        have hge : cs.length ≤ k * sz + j := by
          rw [hcl]
          have := Nat.mul_le_mul_right sz (show es.length ≤ k by omega)
          omega
        rw [List.getElem?_append_right hge, hcl]
        have hq : k * sz + j - es.length * sz = (k - es.length) * sz + j := by
          rw [Nat.sub_mul]
          have := Nat.mul_le_mul_right sz (show es.length ≤ k by omega)
          omega
        rw [hq]; exact hcc
      · rcases hloc r e with e' | e'
        · exact (hfp r (hin r hm)).2 e'
        · have := hr'.lt r hm; omega

end Go.Proofs.YtjaacdapibokiaaGreatDoor

/- The draw of a graph that is seldom invalid: what is drawn reads as a graph in new memory; by a walk of its text; condition: at most 10^4 picks before. -/
namespace Go.Proofs.YtjaacdapibokiaaGreatDoor
open Go.RowKit

theorem members_geG {n : Nat} {ms : List Int} (h : membersB n ms = true) : ∀ k (hk : k < ms.length), (k : Int) ≤ ms[k] := by
  intro k
  induction k with
  | zero => intro hk; have := (okAt_bd hk (allB_upto h 0 hk)).1; omega
  | succ k ih =>
    intro hk
    have h1 := ih (by omega)
    have := (okAt_bd hk (allB_upto h (k + 1) hk)).2.2
    rcases this with h0 | h0
    · omega
    · rw [Nat.add_sub_cancel, getD_get (by omega)] at h0; omega
theorem members_lenG {n : Nat} {ms : List Int} (h : membersB n ms = true) : ms.length ≤ n := by
  rcases Nat.eq_zero_or_pos ms.length with h0 | h0
  · omega
  · have h1 := members_geG h (ms.length - 1) (by omega)
    have h2 := (membersB_at h (ms.length - 1) (by omega)).2
    omega
theorem gOk_ps {c : List Int} {g : List Vx} (h : GOk c g) : ∀ x ∈ g, x.ps.length ≤ c.length := fun x hx => by
  have := h.1 x hx
  unfold vtxB at this
  simp only [Bool.and_eq_true] at this
  exact members_lenG this.2.2.1
theorem ownR_gr {E Ei : TypeId} {sz : Nat} {w : World} {B hi : Nat} {v : Value} {g : List Vx} (h : OwnR E Ei sz w B hi v (g.map Vx.fd)) : ∃ fp, Gr w g v fp ∧ ∀ r ∈ fp, B ≤ r := by
  obtain ⟨fp, hr, hf⟩ := h.bld.rd
  exact ⟨fp, hr, hf⟩
theorem set_mem {g : List Vx} {k : Nat} {x : Vx} {m : Nat} (h : ∀ y ∈ g, y.ps.length ≤ m) (hx : x.ps.length ≤ m) : ∀ y ∈ g.set k x, y.ps.length ≤ m := fun y hy => by
  rcases List.mem_or_eq_of_mem_set hy with hy | rfl
  · exact h y hy
  · exact hx
section
variable {E Ei : TypeId} {w : World} {B hi gb n cap : Nat} {g : List Vx} {k : Nat}
theorem vx_cells (h : OwnR E Ei 4 w B hi (.slice (some ⟨gb, 0, none⟩) n cap) (g.map Vx.fd)) (hk : k < g.length) :
    w.cell? ⟨gb, k * 4, none⟩ = some (.int .i64 g[k].r) ∧ w.cell? ⟨gb, k * 4 + 1, none⟩ = some (.int .i64 g[k].a) ∧ (∃ pa pc, w.cell? ⟨gb, k * 4 + 2, none⟩ = some (.slice pa g[k].ps.length pc)) ∧ w.cell? ⟨gb, k * 4 + 3, none⟩ = some (.int .i64 g[k].d) ∧
    w.frozen? ⟨gb, k * 4, none⟩ = false ∧ w.frozen? ⟨gb, k * 4 + 1, none⟩ = false ∧ w.frozen? ⟨gb, k * 4 + 2, none⟩ = false ∧ w.frozen? ⟨gb, k * 4 + 3, none⟩ = false := by
  have hk' : k < (g.map Vx.fd).length := by simpa using hk
  have he : (g.map Vx.fd)[k] = g[k].fd := by simp
  have h0 := h.fieldI (k := k) (j := 0) hk' (by rw [he]; simp [Vx.fd]) (x := g[k].r) (by simp only [he]; rfl)
  have h1 := h.fieldI (k := k) (j := 1) hk' (by rw [he]; simp [Vx.fd]) (x := g[k].a) (by simp only [he]; rfl)
  obtain ⟨pa, pc, h2, _, f2, _⟩ := h.fieldL (k := k) (j := 2) hk' (by rw [he]; simp [Vx.fd]) (xs := g[k].ps) (by simp only [he]; rfl)
  have h3 := h.fieldI (k := k) (j := 3) hk' (by rw [he]; simp [Vx.fd]) (x := g[k].d) (by simp only [he]; rfl)
  exact ⟨h0.1, h1.1, ⟨pa, pc, h2⟩, h3.1, h0.2, h1.2, f2, h3.2⟩
theorem vx_setI (h : OwnR E Ei 4 w B hi (.slice (some ⟨gb, 0, none⟩) n cap) (g.map Vx.fd)) (hn : n = g.length) (hk : k < g.length) (j : Nat) (hj : j < 4) (z : Int) (x : Vx) (hx : (g[k].fd).set j (.i z) = x.fd) :
    OwnR E Ei 4 (w.setCell ⟨gb, k * 4 + j, none⟩ (.int .i64 z)) B hi (.slice (some ⟨gb, 0, none⟩) n cap) ((g.set k x).map Vx.fd) := by
  have := h.setI (by simpa using hn) (k := k) (j := j) (by simpa using hk) hj z
  rwa [List.getElem_map, hx, ← List.map_set] at this
theorem vx_setP {hi' : Nat} {u : Value} {ps : List Int} (h : OwnR E Ei 4 w B hi (.slice (some ⟨gb, 0, none⟩) n cap) (g.map Vx.fd)) (hn : n = g.length) (hk : k < g.length) (ho : Own Ei w B u ps) (hhi : hi ≤ hi') (hu : ∀ b, u.ownBlock = some b → hi ≤ b ∧ b < hi') :
    OwnR E Ei 4 (w.setCell ⟨gb, k * 4 + 2, none⟩ u) B hi' (.slice (some ⟨gb, 0, none⟩) n cap) ((g.set k ⟨g[k].r, g[k].a, ps, g[k].d⟩).map Vx.fd) := by
  have := h.setF (by simpa using hn) (k := k) (j := 2) (by simpa using hk) (by omega) (f := .l ps) (show FdOk Ei w B u (.l ps) from ho) hhi hu
  rwa [List.getElem_map, show (g[k].fd).set 2 (.l ps) = Vx.fd ⟨g[k].r, g[k].a, ps, g[k].d⟩ from rfl, ← List.map_set] at this
end

set_option maxRecDepth 8000 in
set_option maxHeartbeats 4000000 in
theorem drawSpoilt (R p : Nat) (rounds : Int) (w : World) (hp : p ≤ 10000) (hn0 : 0 ≤ rounds) (hn1 : rounds ≤ 40) (hr : Rdr w R p) (hR : R < w.heap.size) :
    Calls Tryz.prog 53 #[.pointer (some ⟨R, 0, none⟩), .int .i64 rounds] w fun e w' => ∃ vc c vg g fp p', e = .returned (.tuple #[vc, vg]) ∧ Own 3 w' w.heap.size vc c ∧ c.length ≤ 11 ∧ Gr w' g vg fp ∧ (∀ r ∈ fp, w.heap.size ≤ r) ∧ g.length ≤ 281 ∧ (∀ x ∈ g, x.ps.length ≤ 100) ∧ Rdr w' R p' ∧ p' ≤ p + 90000 ∧ w.grownBy w' (some R) := by
  go_enter Tryz.func53, Tryz.ntmps53
  go_wp2_with fail
  refine (drawGoodV R p _ (by omega) hr hR).mono ?_
  rintro e w1 ⟨vc, c, p1, rfl, hoc, hv, hr1, hp1, hg1⟩
  obtain ⟨ac, cc, rfl, hic, _⟩ := hoc.ints
  obtain ⟨hc1, hc7⟩ := validB_len hv
  have hs1 := hg1.size
  have hR1 : R < w1.heap.size := by omega
  have Hoc := Lib.hid hoc; clear hoc
  have Hcb := Lib.hid (fun b e => (Hoc.out.lt b e).2)
  have Hdg := Lib.hid (drawGraph R p1 rounds w1 ac cc c (by omega) hn0 hn1 hv hr1 hR1 (fun W hW => (Hoc.out.kept hW (.inr fun e => by have := (Hoc.out.lt R e).1; omega)).at))
  have Hg1 := Lib.hid hg1; clear hg1 hr1 hic
  go_wp2_with fail
  refine Hdg.out.mono ?_
  rintro e w2 ⟨vg, g, p2, rfl, hog, hok, hgl, hr2, hp2, hg2⟩
  have hs2 := hg2.size
  have Hoc2 := Lib.hid (Hoc.out.kept hg2 (.inr fun e => by have := (Hoc.out.lt R e).1; omega))
  have Hr2 := Lib.hid hr2; clear hr2
  have Hg2 := Lib.hid (grownBy_trans Hg1.out hg2); clear hg2
  have Hog2 := Lib.hid hog; clear hog
  have hps := gOk_ps hok
  have Hps := Lib.hid (show ∀ x ∈ g, x.ps.length ≤ 100 from fun x hx => Nat.le_trans (hps x hx) (by omega)); clear hps hok hv Hdg Hoc
  by_cases hg0 : g.length = 0
  · have hgn : g = [] := List.eq_nil_of_length_eq_zero hg0
    subst hgn
    obtain ⟨ag, cg, rfl, _⟩ := Hog2.out.slice
    go_wp2
    go_ret2
    obtain ⟨fp, h1, h2⟩ := ownR_gr Hog2.out
    exact ⟨_, c, _, [], fp, p2, rfl, Hoc2.out, by omega, h1, fun r hr => Nat.le_trans hs1 (h2 r hr), by simp, by simp, Hr2.out, by omega, Hg2.out⟩
  obtain ⟨gb, cg, rfl, hBg, hgh, hgs⟩ := Hog2.out.head (by rw [List.length_map]; omega)
  rw [List.length_map] at *
  have hgne : ((g.length : Int) == 0) = false := by rw [beq_eq_false_iff_ne]; omega
  go_wp2_with fail
  refine (pick_any R (g.length : Int) p2 _ (by omega) Hr2.out (by omega)).mono ?_
  rintro e w3 ⟨k, rfl, hk0, hk1, hr3, hg3⟩
  obtain ⟨k, rfl⟩ := Int.eq_ofNat_of_zero_le hk0
  have hk : k < g.length := by omega
  have hs3 := hg3.size
  have Hoc3 := Lib.hid (Hoc2.out.kept hg3 (.inr fun e => by have := (Hoc2.out.lt R e).1; omega))
  have Hog3 := Lib.hid (Hog2.out.same fun b h1 h2 => hg3.block b (by omega) (fun e => by cases e; omega))
  have Hr3 := Lib.hid hr3; clear hr3
  have Hg3 := Lib.hid (grownBy_trans Hg2.out hg3); clear hg3
  go_wp2_with fail
  refine (pick_any R 20 (p2 + 1) _ (by omega) Hr3.out (by omega)).mono ?_
  rintro e w4 ⟨s, rfl, hs0, hs20, hr4, hg4⟩
  have hs4 := hg4.size
  have Hoc4 := Lib.hid (Hoc3.out.kept hg4 (.inr fun e => by have := (Hoc3.out.lt R e).1; omega))
  have Hog4 := Lib.hid (Hog3.out.same fun b h1 h2 => hg4.block b (by omega) (fun e => by cases e; omega))
  have Hr4 := Lib.hid hr4; clear hr4
  have Hg4 := Lib.hid (grownBy_trans Hg3.out hg4); clear hg4
  clear Hoc2 Hoc3 Hog2 Hog3 Hr2 Hr3 Hg1 Hg2 Hg3 hk0 hk1 hg0 hgne hs20 hs0
  by_cases h0 : s = 0
  · subst h0
    go_wp2_with fail
    refine (drawDigest R (p2 + 1 + 1) _ (by omega) Hr4.out).mono ?_
    rintro e w5 ⟨d, p5, rfl, hd0, hd1, hr5, hp5, hg5⟩
    have hs5 := hg5.size
    have Hoc5 := Lib.hid (Hoc4.out.kept hg5 (.inr fun e => by have := (Hoc4.out.lt R e).1; omega))
    have hog5 := Hog4.out.same fun b h1 h2 => hg5.block b (by omega) (fun e => by cases e; omega)
    obtain ⟨q0, q1, ⟨pa, pc, q2⟩, q3, f0, f1, f2, f3⟩ := vx_cells hog5 hk
    have Hog5 := Lib.hid (show OwnR 39 3 4 (w5.setCell ⟨gb, k * 4 + 3, none⟩ (.int .i64 (d))) _ _ _ _ from vx_setI hog5 rfl hk 3 (by omega) (d) ⟨g[k].r, g[k].a, g[k].ps, d⟩ rfl); clear hog5
    have Hr5 := Lib.hid hr5; clear hr5
    have Hg5 := Lib.hid (grownBy_trans Hg4.out hg5); clear hg5
    have hpk := Hps.out _ (List.getElem_mem hk)
    go_wp2
    go_ret2
    obtain ⟨fp, h1, h2⟩ := ownR_gr Hog5.out
    exact ⟨_, c, _, _, fp, p5, rfl, Hoc5.out.set_other (fun e => by have := Hcb.out gb e; omega) _ _, by omega, h1, fun r hr => Nat.le_trans hs1 (h2 r hr), by rw [List.length_set]; omega, set_mem Hps.out hpk, Hr5.out.kept (grownBy_set w5 gb _ _) (fun g e => by cases e; omega), by omega, grown_row Hg5.out (grownBy_set w5 gb _ _) (fun g e => by cases e; omega)⟩
  have e0 : (s == 0) = false := by rw [beq_eq_false_iff_ne]; exact h0
  clear h0
  by_cases h1 : s = 1
  · subst h1
    go_wp2_with fail
    refine (pick_any R 33 (p2 + 1 + 1) _ (by omega) Hr4.out (by omega)).mono ?_
    rintro e w5 ⟨d, rfl, hd0, hd1, hr5, hg5⟩
    have hs5 := hg5.size
    have Hoc5 := Lib.hid (Hoc4.out.kept hg5 (.inr fun e => by have := (Hoc4.out.lt R e).1; omega))
    have hog5 := Hog4.out.same fun b h1 h2 => hg5.block b (by omega) (fun e => by cases e; omega)
    obtain ⟨q0, q1, ⟨pa, pc, q2⟩, q3, f0, f1, f2, f3⟩ := vx_cells hog5 hk
    have Hog5 := Lib.hid (show OwnR 39 3 4 (w5.setCell ⟨gb, k * 4, none⟩ (.int .i64 (d - 1))) _ _ _ _ from by have := vx_setI hog5 rfl hk 0 (by omega) (d - 1) ⟨d - 1, g[k].a, g[k].ps, g[k].d⟩ rfl; rwa [Nat.add_zero] at this); clear hog5
    have Hr5 := Lib.hid hr5; clear hr5
    have Hg5 := Lib.hid (grownBy_trans Hg4.out hg5); clear hg5
    have hpk := Hps.out _ (List.getElem_mem hk)
    have hwd : IntKind.i64.wrap (d - 1) = d - 1 := IntWalk.i64_in _ (by omega)
    go_wp2
    go_ret2
    obtain ⟨fp, h1, h2⟩ := ownR_gr Hog5.out
    exact ⟨_, c, _, _, fp, p2 + 1 + 1 + 1, rfl, Hoc5.out.set_other (fun e => by have := Hcb.out gb e; omega) _ _, by omega, h1, fun r hr => Nat.le_trans hs1 (h2 r hr), by rw [List.length_set]; omega, set_mem Hps.out hpk, Hr5.out.kept (grownBy_set w5 gb _ _) (fun g e => by cases e; omega), by omega, grown_row Hg5.out (grownBy_set w5 gb _ _) (fun g e => by cases e; omega)⟩
  have e1 : (s == 1) = false := by rw [beq_eq_false_iff_ne]; exact h1
  clear h1
  by_cases h2 : s = 2
  · subst h2
    go_wp2_with fail
    refine (pick_any R 9 (p2 + 1 + 1) _ (by omega) Hr4.out (by omega)).mono ?_
    rintro e w5 ⟨d, rfl, hd0, hd1, hr5, hg5⟩
    have hs5 := hg5.size
    have Hoc5 := Lib.hid (Hoc4.out.kept hg5 (.inr fun e => by have := (Hoc4.out.lt R e).1; omega))
    have hog5 := Hog4.out.same fun b h1 h2 => hg5.block b (by omega) (fun e => by cases e; omega)
    obtain ⟨q0, q1, ⟨pa, pc, q2⟩, q3, f0, f1, f2, f3⟩ := vx_cells hog5 hk
    have Hog5 := Lib.hid (show OwnR 39 3 4 (w5.setCell ⟨gb, k * 4 + 1, none⟩ (.int .i64 (d - 1))) _ _ _ _ from vx_setI hog5 rfl hk 1 (by omega) (d - 1) ⟨g[k].r, d - 1, g[k].ps, g[k].d⟩ rfl); clear hog5
    have Hr5 := Lib.hid hr5; clear hr5
    have Hg5 := Lib.hid (grownBy_trans Hg4.out hg5); clear hg5
    have hpk := Hps.out _ (List.getElem_mem hk)
    have hwd : IntKind.i64.wrap (d - 1) = d - 1 := IntWalk.i64_in _ (by omega)
    go_wp2
    go_ret2
    obtain ⟨fp, h1, h2⟩ := ownR_gr Hog5.out
    exact ⟨_, c, _, _, fp, p2 + 1 + 1 + 1, rfl, Hoc5.out.set_other (fun e => by have := Hcb.out gb e; omega) _ _, by omega, h1, fun r hr => Nat.le_trans hs1 (h2 r hr), by rw [List.length_set]; omega, set_mem Hps.out hpk, Hr5.out.kept (grownBy_set w5 gb _ _) (fun g e => by cases e; omega), by omega, grown_row Hg5.out (grownBy_set w5 gb _ _) (fun g e => by cases e; omega)⟩
  have e2 : (s == 2) = false := by rw [beq_eq_false_iff_ne]; exact h2
  clear h2
  by_cases h3 : s = 3
  · subst h3
    go_wp2_with fail
    refine (drawMembers R (p2 + 1 + 1) c.length _ (by omega) (by omega) Hr4.out (by omega)).mono ?_
    rintro e w5 ⟨u, ps, p5, rfl, hu, hul, hr5, hp5, hg5⟩
    have hs5 := hg5.size
    have Hoc5 := Lib.hid (Hoc4.out.kept hg5 (.inr fun e => by have := (Hoc4.out.lt R e).1; omega))
    have hog5 := Hog4.out.same fun b h1 h2 => hg5.block b (by omega) (fun e => by cases e; omega)
    obtain ⟨q0, q1, ⟨pa, pc, q2⟩, q3, f0, f1, f2, f3⟩ := vx_cells hog5 hk
    have hul2 := hu.lt
    obtain ⟨au, cu, rfl, _, _⟩ := hu.ints
    have Hog5 := Lib.hid (vx_setP (hi' := w5.heap.size) hog5 rfl hk (hu.mono (show w1.heap.size ≤ w4.heap.size by omega)) (by omega) (fun b e => by have := hul2 b e; omega)); clear hog5 hu hul2
    have Hr5 := Lib.hid hr5; clear hr5
    have Hg5 := Lib.hid (grownBy_trans Hg4.out hg5); clear hg5
    go_wp2
    go_ret2
    obtain ⟨fp, h1, h2⟩ := ownR_gr Hog5.out
    exact ⟨_, c, _, _, fp, p5, rfl, Hoc5.out.set_other (fun e => by have := Hcb.out gb e; omega) _ _, by omega, h1, fun r hr => Nat.le_trans hs1 (h2 r hr), by rw [List.length_set]; omega, set_mem Hps.out (by simp only; omega), Hr5.out.kept (grownBy_set w5 gb _ _) (fun g e => by cases e; omega), by omega, grown_row Hg5.out (grownBy_set w5 gb _ _) (fun g e => by cases e; omega)⟩
  have e3 : (s == 3) = false := by rw [beq_eq_false_iff_ne]; exact h3
  clear h3
  by_cases h4 : s = 4
  · subst h4
    obtain ⟨fp, hgr, hfp⟩ := ownR_gr Hog4.out
    have hfl := hgr.lt
    obtain ⟨_, _, e, _, _, h9, hcg, h8⟩ := Rd.at hgr (sz := 4) (by simp; omega) (by intro e he; obtain ⟨e', he', rfl⟩ := List.mem_map.1 he; obtain ⟨y, _, rfl⟩ := List.mem_map.1 he'; rfl)
    clear e h9 h8
    have hsz4 : ∀ e ∈ (g.map Vx.fd).map (fun e => e.map Fd.dt), e.length = 4 := by intro e he; obtain ⟨e', he', rfl⟩ := List.mem_map.1 he; obtain ⟨y, _, rfl⟩ := List.mem_map.1 he'; rfl
    obtain ⟨fpA, hA, hAf⟩ := Rd.cut hgr hsz4 0 k 0 cg (by simp; omega) (fun _ => by simp) (fun _ => by omega)
    obtain ⟨o2, hif, fpB, hB, hBf⟩ := Rd.tail hgr hsz4 (k + 1) (by simp; omega)
    rw [Nat.zero_add] at hif
    rw [List.drop_zero] at hA
    simp only [List.length_map] at hB
    have HA := Lib.hid hA; clear hA
    have HB := Lib.hid hB; clear hB
    have HAf := Lib.hid (show ∀ r ∈ fpA, w1.heap.size ≤ r ∧ r < w4.heap.size from fun r hr => ⟨hfp r (hAf r hr), hfl r (hAf r hr)⟩)
    have HBf := Lib.hid (show ∀ r ∈ fpB, w1.heap.size ≤ r ∧ r < w4.heap.size from fun r hr => ⟨hfp r (hBf r hr), hfl r (hBf r hr)⟩)
    have Hszs := Lib.hid hsz4; clear hsz4 hgr hfp hfl hAf hBf Hog4
    have hwk : IntKind.i64.wrap ((k : Int) + 1) = (k : Int) + 1 := IntWalk.i64_in _ (by omega)
    have e1 : ((k : Int) + 1).toNat = k + 1 := by omega
    have e2 : 0 ≤ (k : Int) + 1 := by omega
    have e3' : (k : Int) + 1 ≤ (g.length : Int) := by omega
    have e4' : (k : Int) ≤ (cg : Int) := by omega
    have e5' : k ≤ cg := by omega
    have e6' : k + 1 ≤ g.length := by omega
    have e7' : (g.length : Int) ≤ (cg : Int) := by omega
    go_wp2_with fail
    refine wp_region_held_drew (S := fun _ => True) (by kernel_rfl) trivial (fun hH => ?_)
    refine takeH 1 (v := ?v1) rfl (by kernel_rfl) (by kernel_rfl) (by kernel_rfl) (fun _ _ _ h => h) hH rfl ?y1 ?r1
    case y1 => intro W hSw; go_simp; try with_reducible rfl
    try simp only [Act.put, List.setIfInBounds_toArray, List.set_cons_zero, List.set_cons_succ]
    refine takeH 2 (v := ?v2) rfl (by kernel_rfl) (by kernel_rfl) (by kernel_rfl) (fun _ _ _ h => h) hH rfl ?y2 ?r2
    case y2 => intro W hSw; go_simp; try with_reducible rfl
    try simp only [Act.put, List.setIfInBounds_toArray, List.set_cons_zero, List.set_cons_succ]
    refine takeH 3 (v := ?v3) rfl (by kernel_rfl) (by kernel_rfl) (by kernel_rfl) (fun _ _ _ h => h) hH rfl ?y3 ?r3
    case y3 => intro W hSw; go_simp; try with_reducible rfl
    try simp only [Act.put, List.setIfInBounds_toArray, List.set_cons_zero, List.set_cons_succ]
    refine takeH 5 (v := ?v5) rfl (by kernel_rfl) (by kernel_rfl) (by kernel_rfl) (fun _ _ _ h => h) hH rfl ?y5 ?r5
    case y5 => intro W hSw; go_simp; try with_reducible rfl
    try simp only [Act.put, List.setIfInBounds_toArray, List.set_cons_zero, List.set_cons_succ]
    refine takeH 6 (v := ?v6) rfl (by kernel_rfl) (by kernel_rfl) (by kernel_rfl) (fun _ _ _ h => h) hH rfl ?y6 ?r6
    case y6 => intro W hSw; go_simp; try with_reducible rfl
    try simp only [Act.put, List.setIfInBounds_toArray, List.set_cons_zero, List.set_cons_succ]
    refine takeH 7 (v := ?v7) rfl (by kernel_rfl) (by kernel_rfl) (by kernel_rfl) (fun _ _ _ h => h) hH rfl ?y7 ?r7
    case y7 => intro W hSw; go_simp; try with_reducible rfl
    try simp only [Act.put, List.setIfInBounds_toArray, List.set_cons_zero, List.set_cons_succ]
    refine takeH 8 (v := ?v8) rfl (by kernel_rfl) (by kernel_rfl) (by kernel_rfl) (fun _ _ _ h => h) hH rfl ?y8 ?r8
    case y8 => intro W hSw; go_simp; try with_reducible rfl
    try simp only [Act.put, List.setIfInBounds_toArray, List.set_cons_zero, List.set_cons_succ]
    refine callH 0 rfl (by kernel_rfl) rfl (fun K hK => ?_)
    go_simp
    refine hK.out _ _ trivial (fun hH => ?_)
    clear hK K
    try simp only [Act.put, List.setIfInBounds_toArray, List.set_cons_zero, List.set_cons_succ]
    have hga : w4.grownBy ((w4.alloc (.cells #[] 39)).drew) none := grownBy_drewN (World.grownBy_alloc w4 (.cells #[] 39) none) 1
    have hbn : Bld 39 4 ((w4.alloc (.cells #[] 39)).drew) w1.heap.size (.slice (some ⟨w4.heap.size, 0, none⟩) 0 0) [] := Bld.nil (World.ownsRow_made w4 #[] 0 (show w1.heap.size ≤ w4.heap.size by omega) (by simp) (by simp))
    have hza : ((w4.alloc (.cells #[] 39)).drew).heap.size = w4.heap.size + 1 := by show (w4.alloc (.cells #[] 39)).heap.size = _; rw [World.size_alloc]
    have hA1 := HA.out.grown hga (fun r e => by cases e)
    have hB1 := HB.out.grown hga (fun r e => by cases e)
    generalize (w4.alloc (.cells #[] 39)).drew = w5 at *
    refine callH 4 rfl (by kernel_rfl) rfl (fun K hK => ?_)
    refine op_app_rows Tryz.underlying24 vertex_inf rfl (by decide) (by decide) w5 (.tmp 64) (.tmp 67) rfl w1.heap.size (.slice (some ⟨w4.heap.size, 0, none⟩) 0 0) (.slice (some ⟨gb, 0, none⟩) k cg) [] _ fpA rfl hbn rfl hA1 (fun e he => Hszs.out e (List.mem_of_mem_take he)) (fun r hr => ⟨(HAf.out r hr).1, fun e => by have := (HAf.out r hr).2; simp [Value.ownBlock] at e; omega⟩) (by simp; omega) (by omega) ?_
    intro v6 w6 hbl6 hg6 hlo6
    rw [List.nil_append] at hbl6
    have hB2 := hB1.grown hg6 (fun r e hm => by have := (HBf.out r hm).2; simp [Value.ownBlock] at e; omega)
    have hs6 := hg6.size
    refine hK.out _ _ trivial (fun hH => ?_)
    clear hK K
    try simp only [Act.put, List.setIfInBounds_toArray, List.set_cons_zero, List.set_cons_succ]
    refine callH 9 rfl (by kernel_rfl) rfl (fun K hK => ?_)
    refine op_app_rows Tryz.underlying24 vertex_inf rfl (by decide) (by decide) w6 (.tmp 68) (.tmp 72) rfl w1.heap.size v6 (.slice (some ⟨gb, o2, none⟩) (g.length - (k + 1)) (cg - (k + 1))) _ _ fpB rfl hbl6 (by first | rfl | (rw [← hif]; rfl)) hB2 (fun e he => Hszs.out e (List.mem_of_mem_drop he)) (fun r hr => ⟨(HBf.out r hr).1, fun e => by
      have := (HBf.out r hr).2
      rcases hlo6 r e with h | h
      · simp [Value.ownBlock] at h; omega
      · omega⟩) (by simp; omega) (by omega) ?_
    intro v7 w7 hbl7 hg7 hlo7
    refine hK.out _ _ trivial (fun hH => ?_)
    clear hK K
    try simp only [Act.put, List.setIfInBounds_toArray, List.set_cons_zero, List.set_cons_succ]
    refine takeH 10 (v := ?v10) rfl (by kernel_rfl) (by kernel_rfl) (by kernel_rfl) (fun _ _ _ h => h) hH rfl ?y10 ?r10
    case y10 => intro W hSw; go_simp; try with_reducible rfl
    try simp only [Act.put, List.setIfInBounds_toArray, List.set_cons_zero, List.set_cons_succ]
    refine wpAnyH_done (by kernel_rfl) ?_ _
    try simp only [Act.put]
    have hv6 : ∀ q, v6.ownBlock = some q → w4.heap.size ≤ q := fun q e => by
      rcases hlo6 q e with h | h
      · simp [Value.ownBlock] at h; omega
      · omega
    have hr5 := (Hr4.out.kept hga (fun q e => by cases e)).kept hg6 (fun q e => by have h : w4.heap.size = q := (by simpa [Value.ownBlock] using e); omega)
    have hoc7 := ((Hoc4.out.kept hga (by cases (Value.slice ac c.length cc).ownBlock <;> simp)).kept hg6 (.inr (fun e => by have h : w4.heap.size < w1.heap.size := Hcb.out _ e; omega))).kept hg7 (by
      cases hvc : (Value.slice ac c.length cc).ownBlock with
      | none => exact .inl rfl
      | some q => exact .inr fun e => by have := Hcb.out q hvc; have := hv6 q e.symm; omega)
    have Hr7 := Lib.hid (hr5.kept hg7 (fun q e => by have := hv6 q e; omega))
    have Hoc7 := Lib.hid hoc7
    have Hg7 := Lib.hid (grown_row (grown_row (grown_row Hg4.out hga (fun q e => by cases e)) hg6 (fun q e => by have h : w4.heap.size = q := (by simpa [Value.ownBlock] using e); omega)) hg7 (fun q e => by have := hv6 q e; omega))
    obtain ⟨fp, h1, h2⟩ := hbl7.rd
    have hgr : Gr w7 (g.take k ++ g.drop (k + 1)) v7 fp := by unfold Gr rowsD; rw [List.map_append, List.map_append, List.map_take, List.map_take, List.map_drop, List.map_drop]; exact h1
    have Hgr := Lib.hid hgr
    have Hfp := Lib.hid h2
    have Hps7 := Lib.hid (show ∀ x ∈ g.take k ++ g.drop (k + 1), x.ps.length ≤ 100 from fun x hx => by
      rcases List.mem_append.1 hx with hx | hx
      · exact Hps.out x (List.mem_of_mem_take hx)
      · exact Hps.out x (List.mem_of_mem_drop hx))
    clear hgr h1 h2 hoc7 hr5 hbl7 hbl6 hB2 hA1 hB1 hg7 hg6 hga
    go_wp2
    go_ret2
    exact ⟨_, c, v7, _, fp, p2 + 1 + 1, rfl, Hoc7.out, by omega, Hgr.out, fun r hr => Nat.le_trans hs1 (Hfp.out r hr), by rw [List.length_append, List.length_take, List.length_drop]; omega, Hps7.out, Hr7.out, by omega, Hg7.out⟩
  have e4 : (s == 4) = false := by rw [beq_eq_false_iff_ne]; exact h4
  clear h4
  by_cases h5 : s = 5
  · subst h5
    have hk' : k < (g.map Vx.fd).length := by simpa using hk
    have he : (g.map Vx.fd)[k] = g[k].fd := by simp
    obtain ⟨q0, q1, _, q3, _⟩ := vx_cells Hog4.out hk
    obtain ⟨pa, pc, q2, ho2, _, hne2, _⟩ := Hog4.out.fieldL (k := k) (j := 2) hk' (by rw [he]; simp [Vx.fd]) (xs := g[k].ps) (by simp only [he]; rfl)
    obtain ⟨fp2, hr2, hf2⟩ := Rd.of_own ho2
    have hcr : CellsRd w4 w1.heap.size (Value.slice (some ⟨gb, 0, none⟩) g.length cg).ownBlock [.int .i64 g[k].r, .int .i64 g[k].a, .slice pa g[k].ps.length pc, .int .i64 g[k].d] [.i g[k].r, .i g[k].a, intsD g[k].ps, .i g[k].d] := by
      intro j hj
      match j, hj with
      | 0, _ => exact ⟨_, [], rfl, .i _, by simp⟩
      | 1, _ => exact ⟨_, [], rfl, .i _, by simp⟩
      | 2, _ => exact ⟨_, fp2, rfl, hr2, fun r hr => ⟨(hf2 r hr).1, fun e => hne2 ((hf2 r hr).2.trans e.symm)⟩⟩
      | 3, _ => exact ⟨_, [], rfl, .i _, by simp⟩
    have Hcr := Lib.hid hcr; clear hcr ho2 hr2 hf2 hne2
    have Hbl := Lib.hid Hog4.out.bld
    have hel : ((g.map Vx.fd).map fun e => e.map Fd.dt).length ≤ 1048576 := by rw [List.length_map, List.length_map]; omega
    have Hex := Lib.hid (show ((g ++ [g[k]]).map Vx.fd).map (fun e => e.map Fd.dt) = (g.map Vx.fd).map (fun e => e.map Fd.dt) ++ [[.i g[k].r, .i g[k].a, intsD g[k].ps, .i g[k].d]] by rw [List.map_append, List.map_append]; rfl)
    have Hlt4 := Lib.hid Hog4.out.lt
    have hB4 : w1.heap.size ≤ w4.heap.size := by omega
    have hpk := Hps.out _ (List.getElem_mem hk)
    have Hap := Lib.hid (Hog4.out.apartI Hoc4.out (by decide))
    clear Hog4 he hk'
    generalize (g.map Vx.fd).map (fun e => e.map Fd.dt) = es at *
    generalize hy : g[k] = y at *
    go_wp2_with (at_builtin; refine wpList_push_row Tryz.underlying24 vertex_inf rfl (by decide) (by decide) rfl (.tmp 76) (.tmp 81) rfl w1.heap.size (.slice (some ⟨gb, 0, none⟩) g.length cg) es _ _ _ rfl rfl (by intro u hu; simp at hu; rcases hu with rfl | rfl | rfl | rfl <;> rfl) rfl Hbl.out rfl Hcr.out hel rfl hB4 ?_; intro v8 w8 hbl8 hg8 hat8)
    go_ret2
    obtain ⟨fp, h1, h2⟩ := hbl8.rd
    have hgr : Gr w8 (g ++ [y]) v8 fp := by unfold Gr rowsD; rw [Hex.out]; exact h1
    exact ⟨_, c, v8, g ++ [y], fp, p2 + 1 + 1, rfl, Hoc4.out.kept hg8 Hap.out, by omega, hgr, fun r hr => Nat.le_trans hs1 (h2 r hr), by rw [List.length_append]; simp; omega, fun x hx => by
      rcases List.mem_append.1 hx with hx | hx
      · exact Hps.out x hx
      · simp at hx; subst hx; exact hpk, Hr4.out.kept hg8 (fun q e => by have := (Hbl.out.lt q e).1; omega), by omega, grown_row Hg4.out hg8 (fun q e => by have := (Hbl.out.lt q e).1; omega)⟩
  have e5 : (s == 5) = false := by rw [beq_eq_false_iff_ne]; exact h5
  clear h5
  by_cases h6 : s = 6
  · subst h6
    go_wp2_with fail
    refine (drawCommittee R (p2 + 1 + 1) _ (by omega) Hr4.out (by omega)).mono ?_
    rintro e w5 ⟨u, c5, p5, rfl, hu, hul, _, hr5, hp5, hg5⟩
    have hs5 := hg5.size
    have Hog5 := Lib.hid (Hog4.out.same fun b h1 h2 => hg5.block b (by omega) (fun e => by cases e; omega))
    obtain ⟨au, cu, rfl, _, _⟩ := hu.ints
    have Hu := Lib.hid (hu.mono (show w.heap.size ≤ w4.heap.size by omega)); clear hu
    have Hr5 := Lib.hid hr5; clear hr5
    have Hg5 := Lib.hid (grownBy_trans Hg4.out hg5); clear hg5
    go_wp2
    go_ret2
    obtain ⟨fp, h1, h2⟩ := ownR_gr Hog5.out
    exact ⟨_, c5, _, g, fp, p5, rfl, Hu.out, hul, h1, fun r hr => Nat.le_trans hs1 (h2 r hr), by omega, Hps.out, Hr5.out, by omega, Hg5.out⟩
  have e6 : (s == 6) = false := by rw [beq_eq_false_iff_ne]; exact h6
  clear h6
  go_wp2
  go_ret2
  obtain ⟨fp, h1, h2⟩ := ownR_gr Hog4.out
  exact ⟨_, c, _, g, fp, p2 + 1 + 1, rfl, Hoc4.out, by omega, h1, fun r hr => Nat.le_trans hs1 (h2 r hr), by omega, Hps.out, Hr4.out, by omega, Hg4.out⟩

end Go.Proofs.YtjaacdapibokiaaGreatDoor

/- append(s, make([]int, n)...) at a list of ints of the call's own; condition: both are shorter than 2^20. -/
namespace Go.Proofs.YtjaacdapibokiaaGreatDoor
open Go.RowKit

theorem zeros_list (n : Nat) : (Builtin.zeroCells (Value.int .i64 0).cells n).toList = (List.replicate n (0 : Int)).map (Value.int .i64) := by
  apply List.ext_getElem
  · simp [Builtin.zeroCells, Value.cells]
  · intro j h1 h2
    simp [Builtin.zeroCells, Value.cells]
    rw [Nat.mod_one]; rfl
theorem own_newZ {E : TypeId} {w : World} {B cap n : Nat} {xs : List Int} (hB : B ≤ w.heap.size) (h1 : xs.length + n ≤ cap) (h2 : cap ≤ maxLen) (c : Array Value) (hc : c.toList = (xs.map (Value.int .i64)) ++ ((List.replicate n (0 : Int)).map (Value.int .i64)) ++ (List.replicate (cap - (xs.length + n)) (0 : Int)).map (Value.int .i64)) :
    Own E (w.drew.alloc (.cells c E)) B (.slice (some ⟨w.heap.size, 0, none⟩) (xs.length + n) cap) (xs ++ List.replicate n 0) := by
  have hl : (xs ++ List.replicate n (0 : Int)).length = xs.length + n := by simp
  refine ⟨by simp, .inr ⟨w.heap.size, cap, c, by rw [hl], hB, heap_alloc_new w.drew _, by rw [hl]; exact h1, h2, ?_, ?_⟩⟩
  · rw [← Array.length_toList, hc]; simp; omega
  · rw [hc, Nat.mul_one, ← List.map_append]
    rw [show (xs ++ List.replicate n (0 : Int)).length = ((xs ++ List.replicate n (0 : Int)).map (Value.int .i64)).length by simp]
    exact List.take_left
theorem run_appZ {P : Program} {T E tn : TypeId} (hT : IntT P T E) (htn : P.underlying tn = some (.int .i64)) (ty : TypeId) {w : World} {B : Nat} {v : Value} {xs : List Int} (n : Nat) (h0 : 0 < n) (hown : Own E w B v xs)
    (hlen : xs.length + n ≤ 1048576) (hB : B ≤ w.heap.size) :
    ∃ v' w', (Builtin.append_ #[T, tn] ty #[v, .int .i64 n]).run P w = .ok v' w' ∧ Own E w' B v' (xs ++ List.replicate n 0) ∧ w.grownBy w' v.ownBlock := by
  obtain ⟨i, hi, hz, hsz, hby⟩ := info_parts hT.info
  have ht := hT.sl
  have hml : (1048576 : Nat) ≤ maxLen := by unfold maxLen; omega
  have hn : n ≠ 0 := by omega
  have hw : IntKind.i64.wrap (n : Int) = n := by rw [IntKind.wrap_i64]; omega
  have hneg : ¬ ((n : Int) < 0) := by omega
  have hns : ¬ (n * i.size = 0) := Nat.mul_ne_zero hn (by omega)
  have h48i : ¬ (281474976710656 < (n : Int) * (i.bytes : Int)) := by rw [hby]; omega
  have hown' := hown
  rcases hown'.2 with ⟨rfl, hx⟩ | ⟨g, cap, cur, rfl, hbg, hg, hnc, hcm, hcs, htake⟩
  · obtain rfl : xs = [] := List.eq_nil_of_length_eq_zero hx
    have hge := grownCap_ge w n 0 E
    have hcm : grownCap w n 0 E ≤ maxLen := grownCap_le_maxLen w n 0 E (by simp at hlen; omega)
    have hr := Go.Lib.run_append_nil_zeros (P := P) w T tn ty E i (.int .i64 0) .i64 .i64 ht htn hi hz n h0 (by omega) (by simp at hlen; omega) (by rw [hby]; simp at hlen; omega)
    refine ⟨_, _, hr, ?_, ⟨rfl, rfl, rfl, by simp, fun k hk _ => by first | exact heap_alloc_old w.drew _ hk | exact heap_alloc_old w.drew _ k hk⟩⟩
    have := own_newZ (E := E) (w := w) (B := B) (cap := grownCap w n 0 E) (n := n) (xs := []) hB (by simpa using hge) hcm (Builtin.zeroCells (Value.int .i64 0).cells n ++ Builtin.zeroCells (Value.int .i64 0).cells (grownCap w n 0 E - n)) (by rw [Array.toList_append, zeros_list, zeros_list]; simp)
    simpa using this
  · by_cases hroom : xs.length + n ≤ cap
    · have hst := run_storeCells_at P g (xs.length * i.size) E (Builtin.zeroCells (Value.int .i64 0).cells n).toList 0 cur w hg (by rw [hsz, zeros_list, hcs]; simp; omega) (by rw [zeros_list]; intro u hu; obtain ⟨_, _, rfl⟩ := List.mem_map.1 hu; rfl)
      simp only [Nat.add_zero] at hst
      have hst2 : (storeCells ⟨g, xs.length * i.size, none⟩ (Builtin.zeroCells (Value.int .i64 0).cells n).toList).run P w = .ok () _ := hst
      refine ⟨.slice (some ⟨g, 0, none⟩) (xs.length + n) cap, w.setRow g (cur.toList.take (xs.length * i.size) ++ (Builtin.zeroCells (Value.int .i64 0).cells n).toList ++ cur.toList.drop (xs.length * i.size + (Builtin.zeroCells (Value.int .i64 0).cells n).toList.length)).toArray, ?_, ?_, ?_⟩
      · simp [Builtin.append_, run_underlying ht, run_underlying htn, sizeOf, typeInfo, zeroValue, hi, hz, asInt, asIntOf, hw, hneg, hns, h48i, hroom, Addr.add_lit, hst2]
      · have hl : (xs ++ List.replicate n (0 : Int)).length = xs.length + n := by simp
        refine ⟨by simp, .inr ⟨g, cap, _, by rw [hl], hbg, setRow_heap w g cur _ E _ hg, by rw [hl]; exact hroom, hcm, ?_, ?_⟩⟩
        · rw [hsz, zeros_list]
          simp only [List.size_toArray, List.length_append, List.length_take, List.length_drop, Array.length_toList, List.length_map, List.length_replicate]
          omega
        · rw [hsz, hl, zeros_list]
          rw [Nat.mul_one] at htake
          rw [Nat.mul_one, Nat.mul_one, htake, ← List.map_append]
          rw [show xs.length + n = ((xs ++ List.replicate n (0 : Int)).map (Value.int .i64)).length by simp]
          exact List.take_left
      · exact ⟨rfl, rfl, rfl, by simp, fun k _ hk => setRow_other w g k _ (fun e => hk (by simp [Value.ownBlock, e]))⟩
    · have holds : ∀ j u, (xs.map (Value.int .i64))[j]? = some u → w.cell? ((⟨g, 0, none⟩ : Addr).add j) = some u := World.ownsRow.cells hown (g := g) rfl
      have hfo := run_firstCells_some (P := P) w.drew i.size xs.length ⟨g, 0, none⟩ xs.length cap (xs.map (Value.int .i64)) (by rw [hsz]; simp) (by simpa using holds)
      have h63' : ¬ (9223372036854775807 < ((xs.length : Int) + (n : Int))) := by omega
      have hgf := growslice_fits (need := xs.length + n) (old := cap) (bytes := i.bytes) (by omega) (by rw [hby]; omega)
      have h48' : ¬ (281474976710656 < Builtin.nextslicecap (xs.length + n) cap * i.bytes) := by omega
      have hge := grownCap_ge w (xs.length + n) cap E
      have hcm' : grownCap w (xs.length + n) cap E ≤ maxLen := grownCap_le_maxLen w (xs.length + n) cap E (by omega)
      refine ⟨.slice (some ⟨w.heap.size, 0, none⟩) (xs.length + n) (grownCap w (xs.length + n) cap E), w.drew.alloc (.cells ((xs.map (Value.int .i64)).toArray ++ Builtin.zeroCells (Value.int .i64 0).cells n ++ Builtin.zeroCells (Value.int .i64 0).cells (grownCap w (xs.length + n) cap E - (xs.length + n))) E), ?_, ?_, ?_⟩
      · simp [Builtin.append_, run_underlying ht, run_underlying htn, sizeOf, typeInfo, zeroValue, hi, hz, asInt, asIntOf, hw, hneg, hns, h48i, hroom, h63', h48', Question.forced, hfo, newRow, grownCap]
      · refine own_newZ hB hge hcm' _ ?_
        rw [Array.toList_append, Array.toList_append, zeros_list, zeros_list]
      · exact ⟨rfl, rfl, rfl, by simp, fun k hk _ => by first | exact heap_alloc_old w.drew _ hk | exact heap_alloc_old w.drew _ k hk⟩
theorem wpList_appZ {P : Program} {T E tn : TypeId} (hT : IntT P T E) (htn : P.underlying tn = some (.int .i64)) {w : World} {ops : Array Oper} {rest : List Oper} {o : Oper} {a : Act} {Q : Exit → Act → World → Prop} (hgd : o.guard = none) (s x : Operand)
    (ho : o.op = .call { callee := .builtin .append, args := #[s, x], argTypes := #[T, tn] }) (B : Nat) (v : Value) (xs : List Int) (n : Nat) (h0 : 0 < n) (hs : a.eval s = v) (hx : a.eval x = .int .i64 n) (hown : Own E w B v xs)
    (hlen : xs.length + n ≤ 1048576) (hB : B ≤ w.heap.size)
    (h : ∀ v' w', Own E w' B v' (xs ++ List.replicate n 0) → w.grownBy w' v.ownBlock → wpList P ops Q rest (a.put o.dst v') w') : wpList P ops Q (o :: rest) a w := by
  obtain ⟨v', w', hr, h1, h2⟩ := run_appZ hT htn o.type n h0 hown hlen hB
  exact Go.Lib.wpList_append_run w hgd s x T tn ho v (.int .i64 n) hs hx v' w' hr (h v' w' h1 h2)

end Go.Proofs.YtjaacdapibokiaaGreatDoor

/- The draws of leaders and of waves: what is drawn reads as lists in new memory; each by a walk of its text; condition: the code is shorter than 2^20. -/
namespace Go.Proofs.YtjaacdapibokiaaGreatDoor
open Go.RowKit

set_option maxHeartbeats 1000000 in
theorem drawLeaders (R p : Nat) (m : Int) (ac : Option Addr) (capc : Nat) (nc : Nat) (w : World) (hp : p ≤ 1000000) (hm0 : 0 ≤ m) (hm1 : m ≤ 100) (hnc : nc ≤ 1000) (hr : Rdr w R p) (hR : R < w.heap.size) :
    Calls Tryz.prog 54 #[.pointer (some ⟨R, 0, none⟩), .slice ac nc capc, .int .i64 m] w fun e w' => ∃ v xs p', e = .returned v ∧ Own 3 w' w.heap.size v xs ∧ xs.length ≤ m.toNat + 15 ∧ Rdr w' R p' ∧ p' ≤ p + 200 ∧ w.grownBy w' (some R) := by
  obtain ⟨n, rfl⟩ := Int.eq_ofNat_of_zero_le hm0
  have hn : n ≤ 100 := by omega
  rw [show ((n : Int)).toNat = n from Int.toNat_natCast n]
  have Hr1 := Lib.hid (hr.alloc (.cells #[] 3)); clear hr
  go_enter Tryz.func54, Tryz.ntmps54
  go_wp2_with fail
  go_loopw [7, 8] (fun v i wr => ∃ (xs : List Int) (k : Nat), k ≤ n ∧ xs.length ≤ k ∧ i = .int .i64 (k : Nat) ∧ Own 3 wr w.heap.size v xs ∧ Rdr wr R (p + k) ∧ w.grownBy wr (some R)) (fun _ i _ => n - (intOf i).toNat)
  case atStart => exact ⟨[], 0, by simp, by simp, rfl, own_empty _ _ (Nat.le_refl _), Hr1.out, World.grownBy_alloc _ _ _⟩
  case round =>
    obtain ⟨xs, k, hkn, hxk, rfl, hown, hrd, hgr⟩ := hrel
    have Hrd := Lib.hid hrd; clear hrd
    have Hown := Lib.hid hown; clear hown
    by_cases hlt : k < n
    · go_wp2_with fail
      all_goals (
        refine (pick_any R _ (p + k) _ (by omega) Hrd.out (by omega)).mono ?_
        rintro e w3 ⟨x, rfl, hx0, hx1, hr3, hg3⟩
        have Hr3 := Lib.hid hr3; clear hr3
        have Hg3 := Lib.hid (grownBy_trans hgr hg3)
        have Ho3 := Lib.hid (Hown.out.kept hg3 (.inr (fun e => by have := (Hown.out.lt R e).1; omega)))
        have hB := Hg3.out.size
        clear hg3
        go_wp2_with (at_builtin; refine wpList_push TI' rfl (.tmp 15) (.tmp 21) rfl w.heap.size _ xs _ rfl Ho3.out (by omega) rfl hB ?_; intro v' w5 hown5 hg5)
        go_roundw
        case rel => exact ⟨_, k + 1, by omega, by simp; omega, by go_num, hown5, Hr3.out.kept hg5 (fun g e => by have := (Ho3.out.lt g e).1; omega), grown_row Hg3.out hg5 (fun g e => (Ho3.out.lt g e).1)⟩
        case measure => simp [intOf]; omega)
    · have hk : k = n := by omega
      have hkn' : (k : Int) = n := by omega
      go_wp2_with fail
      refine (pick_any R 24 (p + k) _ (by omega) Hrd.out (by omega)).mono ?_
      rintro e w3 ⟨x, rfl, hx0, hx1, hr3, hg3⟩
      have Hr3 := Lib.hid hr3; clear hr3
      have Hg3 := Lib.hid (grownBy_trans hgr hg3)
      have Ho3 := Lib.hid (Hown.out.kept hg3 (.inr (fun e => by have := (Hown.out.lt R e).1; omega)))
      have hB := Hg3.out.size
      clear hg3
      have Hk := Lib.hid hk; clear hk hkn'
      by_cases h0 : x = 0
      · subst h0
        go_wp2_with (at_builtin; refine wpList_push TI' rfl (.tmp 27) (.tmp 30) rfl w.heap.size _ xs _ rfl Ho3.out (by omega) rfl hB ?_; intro v' w5 hown5 hg5)
        go_ret
        exact ⟨_, _, _, rfl, hown5, by simp; omega, Hr3.out.kept hg5 (fun g e => by have := (Ho3.out.lt g e).1; omega), by omega, grown_row Hg3.out hg5 (fun g e => (Ho3.out.lt g e).1)⟩
      have h0' : (x == 0) = false := by rw [beq_eq_false_iff_ne]; exact h0
      by_cases h1 : x = 1
      · subst h1
        go_wp2_with (at_builtin; refine wpList_appZ TI' Tryz.underlying3 rfl (.tmp 34) (.const (.int .i64 15)) rfl w.heap.size _ xs 15 (by omega) rfl rfl Ho3.out (by omega) hB ?_; intro v' w5 hown5 hg5)
        go_ret
        exact ⟨_, _, _, rfl, hown5, by simp; omega, Hr3.out.kept hg5 (fun g e => by have := (Ho3.out.lt g e).1; omega), by omega, grown_row Hg3.out hg5 (fun g e => (Ho3.out.lt g e).1)⟩
      have h1' : (x == 1) = false := by rw [beq_eq_false_iff_ne]; exact h1
      go_wp2
      go_ret
      exact ⟨_, _, _, rfl, Ho3.out, by omega, Hr3.out, by omega, Hg3.out⟩

set_option maxHeartbeats 2000000 in
theorem drawWaves (R p : Nat) (w : World) (hp : p ≤ 1000) (hr : Rdr w R p) (hR : R < w.heap.size) :
    Calls Tryz.prog 30 #[.pointer (some ⟨R, 0, none⟩)] w fun e w' => ∃ ac cc c vg g fp al cl ls p', e = .returned (.tuple #[.slice ac c.length cc, vg, .slice al ls.length cl]) ∧ Own 3 w' w.heap.size (.slice ac c.length cc) c ∧ c.length ≤ 11 ∧ Gr w' g vg fp ∧ (∀ r ∈ fp, w.heap.size ≤ r) ∧ g.length ≤ 281 ∧ (∀ x ∈ g, x.ps.length ≤ 100) ∧ Own 3 w' w.heap.size (.slice al ls.length cl) ls ∧ ls.length ≤ 22 ∧ Rdr w' R p' ∧ p' ≤ 200000 ∧ w.grownBy w' (some R) := by
  go_enter Tryz.func30, Tryz.ntmps30
  go_wp2_with fail
  refine (pick_any R 13 p _ (by omega) hr (by omega)).mono ?_
  rintro e w2 ⟨n, rfl, hn0, hn1, hr2, hg2⟩
  have hs2 := hg2.size
  have Hr2 := Lib.hid hr2; clear hr2 hr
  have Hg2 := Lib.hid hg2; clear hg2
  have hwn : IntKind.i64.wrap (1 + n) = 1 + n := IntWalk.i64_in _ (by omega)
  go_wp2_with fail
  refine (drawSpoilt R (p + 1) (1 + n) w2 (by omega) (by omega) (by omega) Hr2.out (by omega)).mono ?_
  rintro e w3 ⟨vc, c, vg, g, fp, p3, rfl, hoc, hcl, hgr, hfp, hgl, hps, hr3, hp3, hg3⟩
  have hs3 := hg3.size
  obtain ⟨ac, cc, rfl, _, _⟩ := hoc.ints
  have Hoc3 := Lib.hid hoc; clear hoc
  have Hgr3 := Lib.hid hgr; clear hgr
  have Hfp := Lib.hid hfp; clear hfp
  have Hr3 := Lib.hid hr3; clear hr3
  have Hg3 := Lib.hid (grownBy_trans Hg2.out hg3); clear hg3
  go_wp2_with fail
  refine (pick_any R 8 p3 _ (by omega) Hr3.out (by omega)).mono ?_
  rintro e w4 ⟨x, rfl, hx0, hx1, hr4, hg4⟩
  have hs4 := hg4.size
  have Hoc4 := Lib.hid (Hoc3.out.kept hg4 (.inr fun e => by have := (Hoc3.out.lt R e).1; omega))
  have Hgr4 := Lib.hid (show Gr w4 g vg fp from Rd.grown hg4 Hgr3.out (fun r e hm => by cases e; have := Hfp.out R hm; omega))
  have Hr4 := Lib.hid hr4; clear hr4
  have Hg4 := Lib.hid (grownBy_trans Hg3.out hg4); clear hg4
  have hx7 : x ≤ 7 := by omega
  go_wp2_with fail
  refine (drawLeaders R (p3 + 1) x ac cc c.length w4 (by omega) hx0 (by omega) (by omega) Hr4.out (by omega)).mono ?_
  rintro e w5 ⟨vl, ls, p5, rfl, hol, hll, hr5, hp5, hg5⟩
  have hs5 := hg5.size
  obtain ⟨al, cl, rfl, _, _⟩ := hol.ints
  have Hoc5 := Lib.hid (Hoc4.out.kept hg5 (.inr fun e => by have := (Hoc4.out.lt R e).1; omega))
  have Hgr5 := Lib.hid (show Gr w5 g vg fp from Rd.grown hg5 Hgr4.out (fun r e hm => by cases e; have := Hfp.out R hm; omega))
  have Hol := Lib.hid hol; clear hol
  have Hr5 := Lib.hid hr5; clear hr5
  have Hg5 := Lib.hid (grownBy_trans Hg4.out hg5); clear hg5
  go_wp2
  refine bodyPost_ret (v := .tuple #[.slice ac c.length cc, vg, .slice al ls.length cl]) (by simp [results, Tryz.f30, go_sem]) rfl ?_
  exact ⟨ac, cc, c, vg, g, fp, al, cl, ls, p5, rfl, Hoc5.out.mono (by omega), hcl, Hgr5.out, fun r hr => Nat.le_trans (by omega) (Hfp.out r hr), hgl, hps, Hol.out.mono (by omega), by omega, Hr5.out, by omega, Hg5.out⟩

end Go.Proofs.YtjaacdapibokiaaGreatDoor

/- The draws of chapter 22: what is drawn reads as lists in new memory; each by a walk of its text; condition: the code is shorter than 2^20. -/
namespace Go.Proofs.YtjaacdapibokiaaGreatDoor
open Go.RowKit

theorem spec_DrawOrderSlots (a : Option Addr) (cap : Nat) (zs : List Int) (w : World) (h : CodeAt w a cap zs) :
    Calls Tryz.prog 10 #[.slice a zs.length cap] w fun e w' => ∃ ac cc c vg g fp al cl ls, e = .returned (.tuple #[.slice ac c.length cc, vg, .slice al ls.length cl]) ∧ Own 3 w' w.heap.size (.slice ac c.length cc) c ∧ c.length ≤ 11 ∧ Gr w' g vg fp ∧ (∀ r ∈ fp, w.heap.size ≤ r) ∧ g.length ≤ 281 ∧ (∀ x ∈ g, x.ps.length ≤ 100) ∧ Own 3 w' w.heap.size (.slice al ls.length cl) ls ∧ ls.length ≤ 22 ∧ Below w.heap.size w w' := by
  go_enter Tryz.func10, Tryz.ntmps10
  go_wp2_with fail
  refine (open_any a cap zs _ h).mono ?_
  rintro e w1 ⟨R, rfl, hR0, hR1, hr1, hb1⟩
  have Hr1 := Lib.hid hr1; clear hr1
  have Hb1 := Lib.hid hb1; clear hb1
  have hsz := Hb1.out.size
  go_wp2_with fail
  refine (drawWaves R 0 _ (by omega) Hr1.out hR1).mono ?_
  rintro e w2 ⟨ac, cc, c, vg, g, fp, al, cl, ls, p2, rfl, hoc, hcl, hgr, hfp, hgl, hps, hol, hll, hr2, hp2, hg2⟩
  have Hoc := Lib.hid hoc; have Hgr := Lib.hid hgr; have Hol := Lib.hid hol; have Hfp := Lib.hid hfp
  have Hb2 := Lib.hid (Hb1.out.grown hg2 Hb1.out.size (fun g e => by cases e; exact hR0))
  clear hoc hgr hol hfp hr2 hg2
  go_wp2
  refine bodyPost_ret (v := .tuple #[.slice ac c.length cc, vg, .slice al ls.length cl]) (by simp [results, Tryz.f10, go_sem]) rfl ?_
  exact ⟨ac, cc, c, vg, g, fp, al, cl, ls, rfl, Hoc.out.mono (by omega), hcl, Hgr.out, fun r hr => Nat.le_trans (by omega) (Hfp.out r hr), hgl, hps, Hol.out.mono (by omega), hll, Hb2.out⟩

theorem spec_DrawOrderDigests (a : Option Addr) (cap : Nat) (zs : List Int) (w : World) (h : CodeAt w a cap zs) :
    Calls Tryz.prog 21 #[.slice a zs.length cap] w fun e w' => ∃ ac cc c vg g fp al cl ls, e = .returned (.tuple #[.slice ac c.length cc, vg, .slice al ls.length cl]) ∧ Own 3 w' w.heap.size (.slice ac c.length cc) c ∧ c.length ≤ 11 ∧ Gr w' g vg fp ∧ (∀ r ∈ fp, w.heap.size ≤ r) ∧ g.length ≤ 281 ∧ (∀ x ∈ g, x.ps.length ≤ 100) ∧ Own 3 w' w.heap.size (.slice al ls.length cl) ls ∧ ls.length ≤ 22 ∧ Below w.heap.size w w' := by
  go_enter Tryz.func21, Tryz.ntmps21
  go_wp2_with fail
  refine (open_any a cap zs _ h).mono ?_
  rintro e w1 ⟨R, rfl, hR0, hR1, hr1, hb1⟩
  have Hr1 := Lib.hid hr1; clear hr1
  have Hb1 := Lib.hid hb1; clear hb1
  have hsz := Hb1.out.size
  go_wp2_with fail
  refine (drawWaves R 0 _ (by omega) Hr1.out hR1).mono ?_
  rintro e w2 ⟨ac, cc, c, vg, g, fp, al, cl, ls, p2, rfl, hoc, hcl, hgr, hfp, hgl, hps, hol, hll, hr2, hp2, hg2⟩
  have Hoc := Lib.hid hoc; have Hgr := Lib.hid hgr; have Hol := Lib.hid hol; have Hfp := Lib.hid hfp
  have Hb2 := Lib.hid (Hb1.out.grown hg2 Hb1.out.size (fun g e => by cases e; exact hR0))
  clear hoc hgr hol hfp hr2 hg2
  go_wp2
  refine bodyPost_ret (v := .tuple #[.slice ac c.length cc, vg, .slice al ls.length cl]) (by simp [results, Tryz.f21, go_sem]) rfl ?_
  exact ⟨ac, cc, c, vg, g, fp, al, cl, ls, rfl, Hoc.out.mono (by omega), hcl, Hgr.out, fun r hr => Nat.le_trans (by omega) (Hfp.out r hr), hgl, hps, Hol.out.mono (by omega), hll, Hb2.out⟩

set_option maxHeartbeats 1000000 in
theorem spec_DrawOrderWave (a : Option Addr) (cap : Nat) (zs : List Int) (w : World) (h : CodeAt w a cap zs) :
    Calls Tryz.prog 25 #[.slice a zs.length cap] w fun e w' => ∃ ac cc c vg g fp al cl ls sr sa, e = .returned (.tuple #[.slice ac c.length cc, vg, .slice al ls.length cl, .agg #[.int .i64 sr, .int .i64 sa]]) ∧ Own 3 w' w.heap.size (.slice ac c.length cc) c ∧ c.length ≤ 11 ∧ Gr w' g vg fp ∧ (∀ r ∈ fp, w.heap.size ≤ r) ∧ g.length ≤ 281 ∧ (∀ x ∈ g, x.ps.length ≤ 100) ∧ Own 3 w' w.heap.size (.slice al ls.length cl) ls ∧ ls.length ≤ 22 ∧ (0 ≤ sr ∧ sr ≤ 13 ∧ 0 ≤ sa ∧ sa ≤ 4) ∧ Below w.heap.size w w' := by
  have hal : Below w.heap.size w (w.alloc (.cells #[.int .i64 0, .int .i64 0] 32)) := (Below.refl _ _).alloc (Nat.le_refl _) _
  have hsl := Str.new w 32 #[.int .i64 0, .int .i64 0]
  have hz0 : (w.alloc (.cells #[.int .i64 0, .int .i64 0] 32)).heap.size = w.heap.size + 1 := by simp
  have H := Lib.hid (open_any a cap zs _ (h.below hal))
  clear h
  go_enter Tryz.func25, Tryz.ntmps25
  go_wp2_with fail
  refine H.out.mono ?_
  rintro e w1 ⟨R, rfl, hR0, hR1, hr1, hb1⟩
  have hs1 : Str w1 w.heap.size 32 #[.int .i64 0, .int .i64 0] := (hb1.block _ (by omega)).trans hsl
  have hb1 := below_step hal hal.size hb1
  have hR0 : w.heap.size + 1 ≤ R := by omega
  have Hr1 := Lib.hid hr1; clear hr1
  have Hb1 := Lib.hid hb1; clear hb1
  have hsz := Hb1.out.size
  go_wp2_with fail
  refine (drawWaves R 0 _ (by omega) Hr1.out hR1).mono ?_
  rintro e w2 ⟨ac, cc, c, vg, g, fp, al, cl, ls, p2, rfl, hoc, hcl, hgr, hfp, hgl, hps, hol, hll, hr2, hp2, hg2⟩
  have hs2 := hg2.size
  have Hfp := Lib.hid hfp
  have Hr2 := Lib.hid hr2
  have Hb2 := Lib.hid (Hb1.out.grown hg2 Hb1.out.size (fun g e => by cases e; omega))
  have Hall := Lib.hid (fun w3 (hg : w2.grownBy w3 (some R)) => (⟨hoc.kept hg (.inr fun e => by have := (hoc.lt R e).1; omega), Rd.grown hg hgr (fun r e hm => by cases e; have := hfp R hm; omega), hol.kept hg (.inr fun e => by have := (hol.lt R e).1; omega), Hb2.out.grown hg Hb2.out.size (fun g e => by cases e; omega)⟩ : Own 3 w3 w1.heap.size (.slice ac c.length cc) c ∧ Gr w3 g vg fp ∧ Own 3 w3 w1.heap.size (.slice al ls.length cl) ls ∧ Below w.heap.size w w3))
  have hs2' : Str w2 w.heap.size 32 #[.int .i64 0, .int .i64 0] := hs1.kept hg2 (fun e => by cases e; omega)
  have Hs2 := Lib.hid hs2'
  clear hoc hgr hol hfp hr2 hg2 hs2' hs1 hsl hal
  go_wp2_with fail
  refine (pick_any R 14 p2 _ (by omega) Hr2.out (by omega)).mono ?_
  rintro e w3 ⟨x, rfl, hx0, hx1, hr3, hg3⟩
  have Hr3 := Lib.hid hr3; clear hr3
  have Hg3 := Lib.hid hg3
  have hs3 := hg3.size
  clear hg3
  go_wp2_with fail
  refine (pick_any R 5 (p2 + 1) _ (by omega) Hr3.out (by omega)).mono ?_
  rintro e w4 ⟨y, rfl, hy0, hy1, hr4, hg4⟩
  have Hg4 := Lib.hid (grownBy_trans Hg3.out hg4)
  have hs4 := hg4.size
  clear hg4 hr4
  obtain ⟨hoc, hgr, hol, hb⟩ := Hall.out w4 Hg4.out
  have Hoc5 := Lib.hid hoc; have Hgr5 := Lib.hid hgr; have Hol5 := Lib.hid hol; have Hb5 := Lib.hid hb
  clear hoc hgr hol hb
  have t4 : Str w4 w.heap.size 32 #[.int .i64 0, .int .i64 0] := Hs2.out.kept Hg4.out (fun e => by cases e; omega)
  have t5 : Str (w4.setCell ⟨w.heap.size, 0, none⟩ (.int .i64 x)) w.heap.size 32 #[.int .i64 x, .int .i64 0] := t4.set 0 _
  have t6 : Str ((w4.setCell ⟨w.heap.size, 0, none⟩ (.int .i64 x)).setCell ⟨w.heap.size, 1, none⟩ (.int .i64 y)) w.heap.size 32 #[.int .i64 x, .int .i64 y] := t5.set 1 _
  have k0 := t4.cell 0 (v := .int .i64 0) rfl
  have k1 := t4.cell 1 (v := .int .i64 0) rfl
  have f0 := t4.frozen 0
  have f1 := t4.frozen 1
  have j0 := t5.cell 0 (v := .int .i64 x) rfl
  have j1 := t5.cell 1 (v := .int .i64 0) rfl
  have g0 := t5.frozen 0
  have g1 := t5.frozen 1
  have e0 := t6.cell 0 (v := .int .i64 x) rfl
  have e1 := t6.cell 1 (v := .int .i64 y) rfl
  have hg56 := grownBy_trans (grownBy_set w4 w.heap.size 0 (.int .i64 x)) (grownBy_set (w4.setCell ⟨w.heap.size, 0, none⟩ (.int .i64 x)) w.heap.size 1 (.int .i64 y))
  have Hoc6 := Lib.hid (Hoc5.out.kept hg56 (.inr (fun e => by have := (Hoc5.out.lt w.heap.size e).1; omega)))
  have Hol6 := Lib.hid (Hol5.out.kept hg56 (.inr (fun e => by have := (Hol5.out.lt w.heap.size e).1; omega)))
  have Hgr6 := Lib.hid (Rd.grown hg56 Hgr5.out (fun r e hm => by cases e; have := Hfp.out _ hm; omega))
  have Hb6 := Lib.hid (Hb5.out.grown hg56 (by omega) (fun g e => by cases e; exact Nat.le_refl _))
  clear t4 t5 t6 hg56 Hoc5 Hol5 Hgr5 Hb5
  go_wp2
  refine bodyPost_ret (v := .tuple #[.slice ac c.length cc, vg, .slice al ls.length cl, .agg #[.int .i64 x, .int .i64 y]]) (by simp [results, Tryz.f25, go_sem, e0, e1]) rfl ?_
  exact ⟨ac, cc, c, vg, g, fp, al, cl, ls, x, y, rfl, Hoc6.out.mono (by omega), hcl, Hgr6.out, fun r hr => Nat.le_trans (by omega) (Hfp.out r hr), hgl, hps, Hol6.out.mono (by omega), hll, ⟨hx0, by omega, hy0, by omega⟩, Hb6.out⟩

end Go.Proofs.YtjaacdapibokiaaGreatDoor

/- The reference's tests of leaders and its leader vertex, by walks of its texts; conditions: lists are shorter than 2^40. -/
namespace Go.Proofs.YtjaacdapibokiaaGreatDoor
open Go.RowKit

theorem sameBelow {P : Program} {f : FuncId} {args : Array Value} {w : World} {v : Value} (h : Calls P f args w fun e w' => e = .returned v ∧ w = w') : Calls P f args w fun e w' => e = .returned v ∧ Below w.heap.size w w' :=
  h.mono (by rintro e w' ⟨rfl, rfl⟩; exact ⟨rfl, Below.refl _ _⟩)
/-- Whether the leader of wave i + 1 is a member. -/
def okLd (n : Nat) (ls : List Int) (i : Nat) : Bool := decide (0 ≤ ls.getD i 0 ∧ ls.getD i 0 ≤ (n : Int) - 1)
def ldsB (n : Nat) (ls : List Int) : Bool := allB (okLd n ls) ls.length && decide (ls.length ≤ 15)
def lvB (c ls : List Int) : Bool := validB c && ldsB c.length ls
def waB (c : List Int) (g : List Vx) (ls : List Int) : Bool := graphB c g && ldsB c.length ls
theorem ldAt {n : Nat} {ls : List Int} (h : ldsB n ls = true) : ls.length ≤ 15 ∧ ∀ j (hj : j < ls.length), 0 ≤ ls[j] ∧ ls[j] < n := by
  unfold ldsB at h
  simp only [Bool.and_eq_true, decide_eq_true_eq] at h
  refine ⟨h.2, fun j hj => ?_⟩
  have := allB_upto h.1 j hj
  unfold okLd at this
  rw [getD_get hj, decide_eq_true_eq] at this
  omega

set_option maxHeartbeats 1000000 in
theorem spec_l21Leaders (ac : Option Addr) (capc : Nat) (n : Nat) (al : Option Addr) (cap : Nat) (ls : List Int) (w : World) (_hn : n ≤ 1099511627776) (hbig : ls.length ≤ 1099511627776) (hc : IntsAt w al ls) :
    Calls Tryz.prog 57 #[.slice ac n capc, .slice al ls.length cap] w fun e w' => e = .returned (.bool (ldsB n ls)) ∧ w = w' := by
  have Hc := Lib.hid hc; clear hc
  go_enter Tryz.func57, Tryz.ntmps57
  go_wp2
  go_loopw [5] (fun i wr => ∃ k : Nat, k ≤ ls.length ∧ i = .int .i64 k ∧ Hid (Upto (okLd n ls) k) ∧ w = wr) (fun i _ => ls.length - (intOf i).toNat)
  case atStart => exact ⟨0, by omega, rfl, Lib.hid (upto_zero _), rfl⟩
  case round =>
    obtain ⟨k, hk, rfl, hup, rfl⟩ := hrel
    by_cases hlt : k < ls.length
    · obtain ⟨b, off, rfl, hb, hat⟩ := Hc.out.cell (by omega)
      have hcell := hat k hlt
      have hgd := getD_get hlt
      have hok : okLd n ls k = decide (0 ≤ ls[k] ∧ ls[k] ≤ (n : Int) - 1) := by unfold okLd; rw [hgd]
      have Hok := Lib.hid hok
      clear hat hgd hok
      generalize ls[k] = x at *
      have HI := Lib.hid (fun W => spec_l6In x 0 ((n : Int) - 1) W)
      go_wp2_with fail
      refine (HI.out _).mono ?_
      rintro e w1 ⟨rfl, rfl⟩
      cases h1 : decide (0 ≤ x ∧ x ≤ (n : Int) - 1) with
      | false =>
        have hres := Lib.hid (show ldsB n ls = false by unfold ldsB; rw [allB_no hlt (Hok.out.trans h1)]; rfl)
        clear h1
        go_wp2
        go_ret
        exact ⟨by rw [hres.out]; rfl, rfl⟩
      | true =>
        have Hs := Lib.hid (upto_step hup.out (Hok.out.trans h1))
        clear h1
        go_wp2
        go_roundw
        case rel => exact ⟨k + 1, by omega, by go_num, Lib.hid Hs.out, trivial⟩
        case measure => simp [intOf]; omega
    · have hres := Lib.hid (show ldsB n ls = decide (ls.length ≤ 15) by unfold ldsB; rw [allB_yes hup.out (by omega)]; rfl)
      go_wp2
      go_ret
      exact ⟨ret_bool (by rw [hres.out, Bool.eq_iff_iff, decide_eq_true_iff, decide_eq_true_iff]; omega), rfl⟩

theorem spec_l21Ok (ac : Option Addr) (capc : Nat) (c : List Int) (g : List Vx) (v : Value) (fp : List Nat) (al : Option Addr) (cap : Nat) (ls : List Int) (w : World) (hn : c.length ≤ 1099511627776) (hbig : g.length ≤ 1099511627776) (hps : ∀ x ∈ g, x.ps.length ≤ 1099511627776) (hl : ls.length ≤ 1099511627776) (hc : IntsAt w ac c) (hg : Gr w g v fp) (hi : IntsAt w al ls) :
    Calls Tryz.prog 33 #[.slice ac c.length capc, v, .slice al ls.length cap] w fun e w' => e = .returned (.bool (waB c g ls)) ∧ Below w.heap.size w w' := by
  have HV := Lib.hid (spec_GraphValid ac capc c g v fp w hn hbig hps hc hg)
  have HL := Lib.hid (fun W h => spec_l21Leaders ac capc c.length al cap ls W hn hl h)
  have Hi := Lib.hid hi
  have Hres := Lib.hid (show waB c g ls = (graphB c g && ldsB c.length ls) from rfl)
  clear hc hg hi hps
  go_enter Tryz.func33, Tryz.ntmps33
  go_wp2_with fail
  refine HV.out.mono ?_
  rintro e w1 ⟨rfl, hb1⟩
  have Hb1 := Lib.hid hb1
  have Hi1 := Lib.hid (Hi.out.below hb1)
  clear hb1
  cases h1 : graphB c g with
  | false =>
    go_wp2
    go_ret
    exact ⟨ret_bool (by rw [Hres.out, h1]; rfl), Hb1.out⟩
  | true =>
  go_wp2_with fail
  refine (HL.out _ Hi1.out).mono ?_
  rintro e w2 ⟨rfl, rfl⟩
  go_wp2
  go_ret
  exact ⟨ret_bool (by rw [Hres.out, h1]; rfl), Hb1.out⟩

/-- The leader vertex of a wave, as an index. -/
def ldZ (g : List Vx) (ls : List Int) (wv : Nat) : Int := findZ g (2 * (wv : Int) - 1) (ls.getD (wv - 1) 0)

theorem spec_l21Leader (g : List Vx) (v : Value) (fp : List Nat) (al : Option Addr) (cap : Nat) (ls : List Int) (wv : Nat) (w : World) (hbig : g.length ≤ 1099511627776) (hw : 1 ≤ wv ∧ wv ≤ ls.length) (hl : ls.length ≤ 15) (hg : Gr w g v fp) (hi : IntsAt w al ls) :
    Calls Tryz.prog 69 #[v, .slice al ls.length cap, .int .i64 wv] w fun e w' => e = .returned (.int .i64 (ldZ g ls wv)) ∧ w = w' := by
  obtain ⟨hw1, hw2⟩ := hw
  obtain ⟨va, vc, rfl⟩ := hg.slice
  obtain ⟨b, off, rfl, hb, hat⟩ := hi.cell (by omega)
  have hcell := hat (wv - 1) (by omega)
  have hgd : ls.getD (wv - 1) 0 = ls[wv - 1] := getD_get (by omega)
  have HF := Lib.hid (spec_l11Find g _ fp (2 * (wv : Int) - 1) (ls[wv - 1]) w hbig hg)
  have Hz := Lib.hid (show ldZ g ls wv = findZ g (2 * (wv : Int) - 1) ls[wv - 1] by unfold ldZ; rw [hgd])
  clear hat hgd hg hi
  generalize ls[wv - 1] = x at *
  have e1 : IntKind.i64.wrap ((wv : Int) - 1) = wv - 1 := IntWalk.i64_in _ (by omega)
  have e2 : ((wv : Int) - 1).toNat = wv - 1 := by omega
  have e3 : 0 ≤ (wv : Int) - 1 := by omega
  have e4 : (wv : Int) - 1 < ls.length := by omega
  have e5 : 1 ≤ (wv : Int) := by omega
  have e6 : (wv : Int) ≤ 15 := by omega
  go_enter Tryz.func69, Tryz.ntmps69
  go_wp2_with fail
  refine HF.out.mono ?_
  rintro e w1 ⟨rfl, rfl⟩
  go_wp2
  go_ret
  exact ⟨by rw [Hz.out]; rfl, rfl⟩

end Go.Proofs.YtjaacdapibokiaaGreatDoor

/- The reference's WaveLeader, by a walk of its text; conditions: lists are shorter than 2^40. -/
namespace Go.Proofs.YtjaacdapibokiaaGreatDoor
open Go.RowKit

def wlB (c : List Int) (g : List Vx) (ls : List Int) (wave : Int) : Bool := waB c g ls && decide (1 ≤ wave ∧ wave ≤ ls.length)
def wlZ (c : List Int) (g : List Vx) (ls : List Int) (wave : Int) : Int := if wlB c g ls wave then ldZ g ls wave.toNat else -1

end Go.Proofs.YtjaacdapibokiaaGreatDoor

/- The reference's l1Has, by a walk of its text; condition: the list is shorter than 2^40. -/
namespace Go.Proofs.YtjaacdapibokiaaGreatDoor
open Go.RowKit

theorem spec_has (a : Option Addr) (cap : Nat) (l : List Int) (n : Int) (w : World) (hbig : l.length ≤ 1099511627776) (hc : IntsAt w a l) :
    Calls Tryz.prog 99 #[.slice a l.length cap, .int .i64 n] w fun e w' => e = .returned (.bool (hasB l n)) ∧ w = w' := by
  rcases hc.len with h0 | ⟨b, off, rfl, hb, hc⟩
  all_goals
    go_enter Tryz.func99, Tryz.ntmps99
    go_wp2
    go_loop [5] (fun i => ∃ k : Nat, k ≤ l.length ∧ i = .int .i64 k ∧ Pre (fun x => x != n) l k) (fun i => l.length - (intOf i).toNat)
    case atStart => exact ⟨0, by omega, rfl, pre_zero _ _⟩
    case round =>
      obtain ⟨k, hk, rfl, hg⟩ := hrel
      by_cases hlt : k < l.length
      · first
        | (exfalso; omega)
        | (have hcell := hc k hlt
           have Hc := Lib.hid hc; clear hc
           by_cases e : l[k] = n
           · have e1 : (l[k] == n) = true := by rw [beq_iff_eq]; exact e
             have hf := hasB_yes hlt
             rw [e] at hf
             have Hf := Lib.hid hf; clear hf e
             go_wp2
             go_ret
             exact ⟨ret_bool Hf.out.symm, rfl⟩
           · have e1 : (l[k] == n) = false := by rw [beq_eq_false_iff_ne]; exact e
             have Hs := Lib.hid (pre_step hg hlt (by simpa using e)); clear hg e
             go_wp2
             go_round
             case rel => exact ⟨k + 1, by omega, by go_num, Hs.out⟩
             case measure => simp [intOf]; omega)
      · have Hf := Lib.hid (hasB_no hg (by omega)); clear hg
        go_wp2
        go_ret
        exact ⟨ret_bool Hf.out.symm, rfl⟩

end Go.Proofs.YtjaacdapibokiaaGreatDoor

/- The reference's votes for a leader vertex, by walks of its texts; conditions: lists are shorter than 2^40. -/
namespace Go.Proofs.YtjaacdapibokiaaGreatDoor
open Go.RowKit

theorem graph_vtx' {c : List Int} {g : List Vx} (h : graphB c g = true) : ∀ x ∈ g, vtxB c x = true := by
  intro x hx
  obtain ⟨k, hk, rfl⟩ := List.mem_iff_getElem.1 hx
  unfold graphB at h
  simp only [Bool.and_eq_true] at h
  have := allB_upto h.2 k hk
  unfold okV at this
  rw [getV hk] at this
  simp only [Bool.and_eq_true] at this
  exact this.1

theorem vtx_author' {c : List Int} {x : Vx} (h : vtxB c x = true) : 0 ≤ x.a ∧ x.a < c.length := by
  unfold vtxB autB at h; simp only [Bool.and_eq_true, decide_eq_true_eq] at h; omega
/-- What one vertex adds to the votes for the vertex of L, in round r. -/
def votC (c : List Int) (L r : Int) (x : Vx) : Int := if x.r = r ∧ hasB x.ps L = true then c.getD x.a.toNat 0 else 0
def votTo (c : List Int) (L r : Int) (g : List Vx) (k : Nat) : Int := ((g.take k).map (votC c L r)).sum
def voZ (c : List Int) (g : List Vx) (ls : List Int) (wv : Nat) : Int := if 0 ≤ ldZ g ls wv then votTo c (ls.getD (wv - 1) 0) (2 * (wv : Int)) g g.length else 0
theorem votTo_succ {c : List Int} {L r : Int} {g : List Vx} {k : Nat} (h : k < g.length) : votTo c L r g (k + 1) = votTo c L r g k + votC c L r g[k] := by
  unfold votTo
  rw [List.take_succ_eq_append_getElem h, List.map_append, List.sum_append]
  simp
theorem votC_bd {c : List Int} {L r : Int} {x : Vx} (hv : validB c = true) : 0 ≤ votC c L r x ∧ votC c L r x ≤ 9 := by
  unfold votC
  split
  · by_cases h : x.a.toNat < c.length
    · rw [getD_get h]
      have := validB_good hv _ h
      omega
    · have : c.getD x.a.toNat 0 = 0 := by simp [List.getD, List.getElem?_eq_none (by omega : c.length ≤ x.a.toNat)]
      omega
  · omega
theorem votTo_bd {c : List Int} {L r : Int} {g : List Vx} (hv : validB c = true) : ∀ k, k ≤ g.length → 0 ≤ votTo c L r g k ∧ votTo c L r g k ≤ 9 * k
  | 0, _ => by simp [votTo]
  | k + 1, h => by
    have ih := votTo_bd (g := g) (L := L) (r := r) hv k (by omega)
    have := votC_bd (L := L) (r := r) (x := g[k]) hv
    rw [votTo_succ (by omega)]
    omega

set_option maxHeartbeats 4000000 in
set_option maxRecDepth 8000 in
theorem spec_l21Votes (ac : Option Addr) (capc : Nat) (c : List Int) (g : List Vx) (v : Value) (fp : List Nat) (al : Option Addr) (cap : Nat) (ls : List Int) (wv : Nat) (w : World) (hgb : graphB c g = true) (hbig : g.length ≤ 1099511627776) (hps : ∀ x ∈ g, x.ps.length ≤ 1099511627776) (hw : 1 ≤ wv ∧ wv ≤ ls.length) (hl : ls.length ≤ 15) (hc : IntsAt w ac c) (hg : Gr w g v fp) (hi : IntsAt w al ls) :
    Calls Tryz.prog 87 #[.slice ac c.length capc, v, .slice al ls.length cap, .int .i64 wv] w fun e w' => e = .returned (.int .i64 (voZ c g ls wv)) ∧ Drawn w w' := by
  obtain ⟨va, vc, rfl⟩ := hg.slice
  obtain ⟨hw1, hw2⟩ := hw
  have hv : validB c = true := by unfold graphB at hgb; simp only [Bool.and_eq_true] at hgb; exact hgb.1
  have HX := Lib.hid (graph_vtx' hgb)
  have HP := Lib.hid hps
  have Hc := Lib.hid hc; have Hg := Lib.hid hg; have Hi := Lib.hid hi
  have HB := Lib.hid (fun k hk => votTo_bd (c := c) (L := ls.getD (wv - 1) 0) (r := 2 * (wv : Int)) (g := g) hv k hk)
  have HL := Lib.hid (fun (W : World) (hd : Drawn w W) => spec_l21Leader g _ fp al cap ls wv W hbig ⟨hw1, hw2⟩ hl (hg.under (hd.below _)) (hi.below (hd.below _)))
  have Hz := Lib.hid (show voZ c g ls wv = if 0 ≤ ldZ g ls wv then votTo c (ls.getD (wv - 1) 0) (2 * (wv : Int)) g g.length else 0 from rfl)
  have hcl := validB_len hv
  have HcG := Lib.hid (validB_good hv)
  have Hgd := Lib.hid (show ls.getD (wv - 1) 0 = ls[wv - 1] from getD_get (by omega))
  clear hc hg hi hps hgb hv
  generalize ldZ g ls wv = z at *
  generalize hLL : ls.getD (wv - 1) 0 = L at *
  go_enter Tryz.func87, Tryz.ntmps87
  go_wp2
  go_loopw [9, 10] (fun n i wr => ∃ k : Nat, k ≤ g.length ∧ i = .int .i64 k ∧ n = .int .i64 (votTo c L (2 * (wv : Int)) g k) ∧ (0 < k → 0 ≤ z) ∧ Drawn w wr) (fun _ i _ => g.length - (intOf i).toNat)
  case atStart => exact ⟨0, by omega, rfl, rfl, fun h => by omega, Drawn.refl _⟩
  case round =>
    obtain ⟨k, hk, rfl, rfl, hkz, hd⟩ := hrel
    have hbd := HB.out k hk
    by_cases hlt : k < g.length
    · have Hd := Lib.hid hd
      clear hd
      go_wp2_with fail
      refine (HL.out _ Hd.out).mono ?_
      rintro e w1 ⟨rfl, rfl⟩
      by_cases hz : 0 ≤ z
      · have hz' : decide (0 ≤ z) = true := decide_eq_true hz
        obtain ⟨b, off, rfl, hb, hat⟩ := Hg.out.at (by omega)
        obtain ⟨c0, c1, ⟨pa, pc, c2, hia, _⟩, _⟩ := hat k hlt
        have hvx := HX.out _ (List.getElem_mem hlt)
        have hpl := HP.out _ (List.getElem_mem hlt)
        have hau := vtx_author' hvx
        have hsu := votTo_succ (c := c) (L := L) (r := 2 * (wv : Int)) hlt
        have hs0 : votC c L (2 * (wv : Int)) g[k] = if g[k].r = 2 * (wv : Int) ∧ hasB g[k].ps L = true then c.getD g[k].a.toNat 0 else 0 := rfl
        have d0 := (Hd.out.cell _).trans c0
        have d1 := (Hd.out.cell _).trans c1
        have d2 := (Hd.out.cell _).trans c2
        have Hia := Lib.hid (hia.below (Hd.out.below _))
        have Hsu := Lib.hid hsu; have Hs0 := Lib.hid hs0
        clear hat c0 c1 c2 hia hsu hs0 hvx
        generalize g[k] = x at *
        obtain ⟨xr, xa, xp, xd⟩ := x
        dsimp only at *
        have HH := Lib.hid (fun W (h : IntsAt W pa xp) => spec_has pa pc xp L W hpl h)
        obtain ⟨bl, ol, rfl, hbl, hal⟩ := Hi.out.cell (by omega)
        have hlc := (Hd.out.cell _).trans (hal (wv - 1) (by omega))
        rw [← Hgd.out] at hlc
        have e1 : IntKind.i64.wrap ((wv : Int) - 1) = wv - 1 := IntWalk.i64_in _ (by omega)
        have e2 : ((wv : Int) - 1).toNat = wv - 1 := by omega
        have e3 : 0 ≤ (wv : Int) - 1 := by omega
        have e4 : (wv : Int) - 1 < ls.length := by omega
        have e5 : 1 ≤ (wv : Int) := by omega
        have e6 : (wv : Int) ≤ 15 := by omega
        obtain ⟨A, rfl⟩ : ∃ A : Nat, xa = A := ⟨xa.toNat, by omega⟩
        obtain ⟨bc, oc, rfl, hbc, hac⟩ := Hc.out.cell (by omega)
        have hcc := (Hd.out.cell _).trans (hac A (by omega))
        have hcg : c.getD A 0 = c[A]'(by omega) := getD_get (by omega)
        rw [← hcg] at hcc
        have hcb : 0 ≤ c.getD A 0 ∧ c.getD A 0 ≤ 9 := by rw [hcg]; have := HcG.out A (by omega); omega
        have hA : (A : Int) < c.length := hau.2
        rw [Int.toNat_natCast] at Hs0
        clear hal hac hcg hau hpl
        generalize c.getD A 0 = cA at *
        generalize votTo c L (2 * (wv : Int)) g k = N at *
        generalize votC c L (2 * (wv : Int)) _ = V at *
        by_cases h1 : xr = 2 * (wv : Int)
        · have h1' : (xr == 2 * (wv : Int)) = true := by rw [beq_iff_eq]; exact h1
          have H1 := Lib.hid h1; clear h1
          cases hh : hasB xp L with
          | true =>
            have Hs := Lib.hid (show votTo c L (2 * (wv : Int)) g (k + 1) = N + cA by rw [Hsu.out, Hs0.out, if_pos ⟨H1.out, hh⟩])
            rw [hh] at HH
            clear hh Hsu Hs0
            go_wp2_with fail
            go_quiet ((go_at_call 99; exact Calls.quiet_of_same (turned (HH.out _ Hia.out))))
            go_wp2
            go_roundw
            case rel => exact ⟨k + 1, by omega, by go_num, by rw [Hs.out], fun _ => hz, Hd.out.drewN _⟩
            case measure => simp [intOf]; omega
          | false =>
            have Hs := Lib.hid (show votTo c L (2 * (wv : Int)) g (k + 1) = N by rw [Hsu.out, Hs0.out, if_neg (fun h => by rw [hh] at h; cases h.2)]; omega)
            rw [hh] at HH
            clear hh Hsu Hs0
            go_wp2_with fail
            go_quiet ((go_at_call 99; exact Calls.quiet_of_same (turned (HH.out _ Hia.out))))
            go_wp2
            go_roundw
            case rel => exact ⟨k + 1, by omega, by go_num, by rw [Hs.out], fun _ => hz, Hd.out.drewN _⟩
            case measure => simp [intOf]; omega
        · have h1' : (xr == 2 * (wv : Int)) = false := by rw [beq_eq_false_iff_ne]; exact h1
          have Hs := Lib.hid (show votTo c L (2 * (wv : Int)) g (k + 1) = N by rw [Hsu.out, Hs0.out, if_neg (fun h => h1 h.1)]; omega)
          clear h1 Hsu Hs0
          go_wp2_with fail
          go_quiet (fail)
          go_wp2
          go_roundw
          case rel => exact ⟨k + 1, by omega, by go_num, by rw [Hs.out], fun _ => hz, Hd.out.drewN _⟩
          case measure => simp [intOf]; omega
      · have hk0 : k = 0 := by omega
        subst hk0
        have hres := Lib.hid (show voZ c g ls wv = 0 by rw [Hz.out, if_neg hz])
        have h0 : votTo c L (2 * (wv : Int)) g 0 = 0 := by simp [votTo]
        have H0 := Lib.hid h0; clear h0
        generalize votTo c L (2 * (wv : Int)) g 0 = N at *
        go_wp2
        go_ret
        exact ⟨by rw [hres.out, H0.out]; rfl, Hd.out⟩
    · have hkl : k = g.length := by omega
      have hres := Lib.hid (show voZ c g ls wv = votTo c L (2 * (wv : Int)) g k by
        rw [Hz.out]
        split
        · rw [hkl]
        · have h0 : k = 0 := by omega
          rw [h0]; simp [votTo])
      clear hkl
      generalize votTo c L (2 * (wv : Int)) g k = N at *
      have Hd := Lib.hid hd
      clear hd
      go_wp2
      go_ret
      exact ⟨by rw [hres.out]; rfl, Hd.out⟩

end Go.Proofs.YtjaacdapibokiaaGreatDoor

/- The reference's WaveVotes and WaveDirect, by walks of their texts; conditions: lists are shorter than 2^40. -/
namespace Go.Proofs.YtjaacdapibokiaaGreatDoor
open Go.RowKit

def wvZ (c : List Int) (g : List Vx) (ls : List Int) (wave : Int) : Int := if wlB c g ls wave then voZ c g ls wave.toNat else -1
def wdB (c : List Int) (g : List Vx) (ls : List Int) (wave : Int) : Bool := wlB c g ls wave && decide (totalZ c / 3 + 1 ≤ voZ c g ls wave.toNat)
theorem voZ_pos {c : List Int} {g : List Vx} {ls : List Int} {k : Nat} (hv : validB c = true) : 0 ≤ voZ c g ls k := by
  unfold voZ
  split
  · exact (votTo_bd hv _ (Nat.le_refl _)).1
  · omega

end Go.Proofs.YtjaacdapibokiaaGreatDoor

/- The committed waves, as lists: plain facts; nothing here speaks of the program. -/
namespace Go.Proofs.YtjaacdapibokiaaGreatDoor
open Go.RowKit

/-- Whether wave x has a leader vertex in this past. -/
def linkB (g : List Vx) (ls : List Int) (at' : Int) (x : Nat) : Bool := decide (0 ≤ ldZ g ls x) && (pastB g at').getD (ldZ g ls x).toNat false
/-- The waves from x down to behind lo that are linked, put ahead of ch. -/
def chZ (g : List Vx) (ls : List Int) (lo : Nat) : Nat → List Int → Int → List Int
  | 0, ch, _ => ch
  | x + 1, ch, at' => if x + 1 ≤ lo then ch else if linkB g ls at' (x + 1) then chZ g ls lo x (((x + 1 : Nat) : Int) :: ch) (ldZ g ls (x + 1)) else chZ g ls lo x ch at'
/-- What the first waves commit, and the last of them. -/
def wvs (c : List Int) (g : List Vx) (ls : List Int) : Nat → List Int × Nat
  | 0 => ([], 0)
  | w + 1 => if voZ c g ls (w + 1) < totalZ c / 3 + 1 then wvs c g ls w else ((wvs c g ls w).1 ++ chZ g ls (wvs c g ls w).2 w [((w + 1 : Nat) : Int)] (ldZ g ls (w + 1)), w + 1)
def cwZ (c : List Int) (g : List Vx) (ls : List Int) : List Int := if waB c g ls then (wvs c g ls ls.length).1 else []
theorem chZ_done {g : List Vx} {ls : List Int} {lo x : Nat} {ch : List Int} {at' : Int} (h : x ≤ lo) : chZ g ls lo x ch at' = ch := by
  cases x with
  | zero => rfl
  | succ x => unfold chZ; rw [if_pos h]
theorem chZ_yes {g : List Vx} {ls : List Int} {lo x : Nat} {ch : List Int} {at' : Int} (h : lo < x) (hl : linkB g ls at' x = true) : chZ g ls lo x ch at' = chZ g ls lo (x - 1) ((x : Int) :: ch) (ldZ g ls x) := by
  obtain ⟨y, rfl⟩ : ∃ y, x = y + 1 := ⟨x - 1, by omega⟩
  rw [chZ, if_neg (by omega), if_pos hl]
  rfl
theorem chZ_no {g : List Vx} {ls : List Int} {lo x : Nat} {ch : List Int} {at' : Int} (h : lo < x) (hl : linkB g ls at' x = false) : chZ g ls lo x ch at' = chZ g ls lo (x - 1) ch at' := by
  obtain ⟨y, rfl⟩ : ∃ y, x = y + 1 := ⟨x - 1, by omega⟩
  rw [chZ, if_neg (by omega), if_neg (by rw [hl]; simp)]
  rfl
theorem chZ_len {g : List Vx} {ls : List Int} {lo : Nat} : ∀ (x : Nat) (ch : List Int) (at' : Int), (chZ g ls lo x ch at').length ≤ ch.length + (x - lo)
  | 0, _, _ => by simp [chZ]
  | x + 1, ch, at' => by
    unfold chZ
    split
    · omega
    · split
      · have := chZ_len (g := g) (ls := ls) (lo := lo) x (((x + 1 : Nat) : Int) :: ch) (ldZ g ls (x + 1))
        rw [List.length_cons] at this
        omega
      · have := chZ_len (g := g) (ls := ls) (lo := lo) x ch at'
        omega
theorem wvs_len {c : List Int} {g : List Vx} {ls : List Int} : ∀ w, (wvs c g ls w).1.length ≤ (wvs c g ls w).2 ∧ (wvs c g ls w).2 ≤ w
  | 0 => by simp [wvs]
  | w + 1 => by
    have ih := wvs_len (c := c) (g := g) (ls := ls) w
    unfold wvs
    split
    · omega
    · have := chZ_len (g := g) (ls := ls) (lo := (wvs c g ls w).2) w [((w + 1 : Nat) : Int)] (ldZ g ls (w + 1))
      simp only [List.length_append, List.length_singleton] at this ⊢
      omega
theorem wvs_no {c : List Int} {g : List Vx} {ls : List Int} {m : Nat} (hm : 1 ≤ m) (h : voZ c g ls m < totalZ c / 3 + 1) : wvs c g ls m = wvs c g ls (m - 1) := by
  obtain ⟨y, rfl⟩ : ∃ y, m = y + 1 := ⟨m - 1, by omega⟩
  rw [wvs, if_pos h]
  rfl
theorem wvs_yes {c : List Int} {g : List Vx} {ls : List Int} {m : Nat} (hm : 1 ≤ m) (h : ¬ voZ c g ls m < totalZ c / 3 + 1) : wvs c g ls m = ((wvs c g ls (m - 1)).1 ++ chZ g ls (wvs c g ls (m - 1)).2 (m - 1) [(m : Int)] (ldZ g ls m), m) := by
  obtain ⟨y, rfl⟩ : ∃ y, m = y + 1 := ⟨m - 1, by omega⟩
  rw [wvs, if_neg h]
  rfl
theorem ldZ_cases (g : List Vx) (ls : List Int) (x : Nat) : ldZ g ls x = -1 ∨ ∃ j : Nat, j < g.length ∧ ldZ g ls x = j := by
  rcases findZ_cases g (2 * (x : Int) - 1) (ls.getD (x - 1) 0) with ⟨e, _⟩ | ⟨k, hk, e, _⟩
  · exact .inl e
  · exact .inr ⟨k, hk, e⟩
theorem own_single (E : TypeId) (w : World) (x : Int) : Own E (w.alloc (.cells #[.int .i64 x] E)) w.heap.size (.slice (some ⟨w.heap.size, 0, none⟩) 1 1) [x] :=
  ⟨rfl, .inr ⟨w.heap.size, 1, #[.int .i64 x], rfl, Nat.le_refl _, Str.new w E #[.int .i64 x], Nat.le_refl _, by unfold maxLen; omega, rfl, rfl⟩⟩

end Go.Proofs.YtjaacdapibokiaaGreatDoor

/- Plain facts of the laws of waves; nothing here is walked. -/
namespace Go.Proofs.YtjaacdapibokiaaGreatDoor
open Go.RowKit

theorem wl_ok {c : List Int} {g : List Vx} {ls : List Int} {wave : Int} (h : wlB c g ls wave = true) : waB c g ls = true ∧ 1 ≤ wave ∧ wave ≤ ls.length := by
  unfold wlB at h; simp only [Bool.and_eq_true, decide_eq_true_eq] at h; exact ⟨h.1, h.2.1, h.2.2⟩
theorem wa_valid {c : List Int} {g : List Vx} {ls : List Int} (h : waB c g ls = true) : validB c = true := by
  unfold waB graphB at h; simp only [Bool.and_eq_true] at h; exact h.1.1
theorem wd_votes (c : List Int) (g : List Vx) (ls : List Int) (wave : Int) : wdB c g ls wave = (decide (0 ≤ wvZ c g ls wave) && decide (orNo c (totalZ c / 3 + 1) ≤ wvZ c g ls wave)) := by
  unfold wdB wvZ
  cases h : wlB c g ls wave with
  | false => simp
  | true =>
    have hv := wa_valid (wl_ok h).1
    have hp := voZ_pos (c := c) (g := g) (ls := ls) (k := wave.toNat) hv
    rw [orNo_yes hv]
    simp [hp]
theorem validB_of_graph {c : List Int} {g : List Vx} (h : graphB c g = true) : validB c = true := by unfold graphB at h; simp only [Bool.and_eq_true] at h; exact h.1

end Go.Proofs.YtjaacdapibokiaaGreatDoor

/- The waves that are committed, as chains of links back from the last one that is committed directly; plain facts on lists, nothing here speaks of the program. -/
namespace Go.Proofs.YtjaacdapibokiaaGreatDoor
open Go.RowKit

/-- The waves from x down to behind lo that are linked, back from cur, in ascending order. -/
def chF (lk : Nat → Nat → Bool) (lo : Nat) : Nat → Nat → List Nat
  | 0, _ => []
  | x + 1, cur => if x + 1 ≤ lo then [] else if lk cur (x + 1) then chF lk lo x (x + 1) ++ [x + 1] else chF lk lo x cur
def fuW (lk : Nat → Nat → Bool) (w : Nat) : List Nat := chF lk 0 (w - 1) w ++ [w]
def lkB (g : List Vx) (ls : List Int) (cur x : Nat) : Bool := linkB g ls (ldZ g ls cur) x
theorem chF_done {lk : Nat → Nat → Bool} {lo x cur : Nat} (h : x ≤ lo) : chF lk lo x cur = [] := by
  cases x with
  | zero => rfl
  | succ x => unfold chF; rw [if_pos h]
theorem chZ_chF (g : List Vx) (ls : List Int) (lo : Nat) : ∀ (x cur : Nat) (ch : List Int), chZ g ls lo x ch (ldZ g ls cur) = (chF (lkB g ls) lo x cur).map Int.ofNat ++ ch
  | 0, cur, ch => by simp [chZ, chF]
  | x + 1, cur, ch => by
    unfold chZ chF
    by_cases h1 : x + 1 ≤ lo
    · rw [if_pos h1, if_pos h1]; rfl
    · rw [if_neg h1, if_neg h1]
      cases h2 : lkB g ls cur (x + 1) with
      | true =>
        have h2' : linkB g ls (ldZ g ls cur) (x + 1) = true := h2
        rw [if_pos h2', if_pos rfl, chZ_chF g ls lo x (x + 1)]
        simp
      | false =>
        have h2' : ¬ linkB g ls (ldZ g ls cur) (x + 1) = true := by
          intro h; have : lkB g ls cur (x + 1) = true := h; rw [h2] at this; cases this
        rw [if_neg h2', if_neg (by simp), chZ_chF g ls lo x cur]
/-- A link leads to a wave with a leader vertex. -/
theorem lk_has {g : List Vx} {ls : List Int} {cur x : Nat} (h : lkB g ls cur x = true) : 0 ≤ ldZ g ls x := by
  unfold lkB linkB at h; simp only [Bool.and_eq_true, decide_eq_true_eq] at h; exact h.1
section
variable {lk : Nat → Nat → Bool} {has : Nat → Prop}
/-- Where every later leader reaches the leader of wave m, the chain goes through m. -/
theorem chF_split (hlk : ∀ u x, lk u x = true → has x) {m : Nat} (hm : 1 ≤ m) (hD : ∀ u, m < u → has u → lk u m = true) : ∀ (x cur : Nat), m ≤ x → x < cur → has cur → chF lk 0 x cur = fuW lk m ++ chF lk m x cur
  | 0, cur, h, _, _ => by omega
  | x + 1, cur, h, hc, hh => by
    by_cases e : x + 1 = m
    · have h1 := hD cur (by omega) hh
      rw [← e] at h1
      rw [show chF lk m (x + 1) cur = [] from chF_done (by omega), List.append_nil]
      rw [chF, if_neg (by omega), if_pos h1]
      unfold fuW
      rw [← e]
      rfl
    · have ih1 := chF_split hlk hm hD x (x + 1) (by omega) (by omega)
      have ih2 := chF_split hlk hm hD x cur (by omega) (by omega) hh
      have e1 : chF lk 0 (x + 1) cur = if lk cur (x + 1) then chF lk 0 x (x + 1) ++ [x + 1] else chF lk 0 x cur := by rw [chF, if_neg (by omega)]
      have e2 : chF lk m (x + 1) cur = if lk cur (x + 1) then chF lk m x (x + 1) ++ [x + 1] else chF lk m x cur := by rw [chF, if_neg (by omega)]
      rw [e1, e2]
      cases h2 : lk cur (x + 1) with
      | true =>
        rw [if_pos rfl, if_pos rfl, ih1 (hlk _ _ h2), List.append_assoc]
      | false => rw [if_neg (by simp), if_neg (by simp), ih2]
theorem fuW_split (hlk : ∀ u x, lk u x = true → has x) {m w : Nat} (hm : 1 ≤ m) (hw : m < w) (hD : ∀ u, m < u → has u → lk u m = true) (hh : has w) : fuW lk w = fuW lk m ++ chF lk m (w - 1) w ++ [w] := by
  rw [show fuW lk w = chF lk 0 (w - 1) w ++ [w] from rfl, chF_split hlk hm hD (w - 1) w (by omega) (by omega) hh]
theorem fuW_pre (hlk : ∀ u x, lk u x = true → has x) {m w : Nat} (hm : 1 ≤ m) (hw : m ≤ w) (hD : ∀ u, m < u → has u → lk u m = true) (hh : has w) : fuW lk m <+: fuW lk w := by
  by_cases e : m = w
  · rw [e]; exact List.prefix_refl _
  · rw [fuW_split hlk hm (by omega) hD hh, List.append_assoc]; exact List.prefix_append _ _
/-- Two relations that agree on what has a leader vertex make the same chains. -/
theorem chF_same {lk' : Nat → Nat → Bool} {has' : Nat → Prop} (hlk' : ∀ u x, lk' u x = true → has' x) (he : ∀ u x, has' u → lk' u x = lk u x) (lo : Nat) : ∀ x cur, has' cur → chF lk' lo x cur = chF lk lo x cur
  | 0, _, _ => rfl
  | x + 1, cur, hh => by
    unfold chF
    rw [← he cur (x + 1) hh]
    by_cases h1 : x + 1 ≤ lo
    · rw [if_pos h1, if_pos h1]
    · rw [if_neg h1, if_neg h1]
      cases h2 : lk' cur (x + 1) with
      | true => rw [if_pos rfl, if_pos rfl, chF_same hlk' he lo x (x + 1) (hlk' _ _ h2)]
      | false => rw [if_neg (by simp), if_neg (by simp), chF_same hlk' he lo x cur hh]
/-- What stands in a chain: in order, below cur, each with a leader vertex; and each is linked to by the next. -/
theorem chF_mem (hlk : ∀ u x, lk u x = true → has x) (lo : Nat) : ∀ x cur, x < cur → ∀ y ∈ chF lk lo x cur, lo < y ∧ y ≤ x ∧ has y
  | 0, _, _, y, hy => by simp [chF] at hy
  | x + 1, cur, hc, y, hy => by
    unfold chF at hy
    by_cases h1 : x + 1 ≤ lo
    · rw [if_pos h1] at hy; cases hy
    · rw [if_neg h1] at hy
      cases h2 : lk cur (x + 1) with
      | true =>
        rw [h2, if_pos rfl] at hy
        rcases List.mem_append.1 hy with h | h
        · have := chF_mem hlk lo x (x + 1) (by omega) y h; exact ⟨this.1, by omega, this.2.2⟩
        · have : y = x + 1 := by simpa using h
          subst this
          exact ⟨by omega, Nat.le_refl _, hlk _ _ h2⟩
      | false =>
        rw [h2, if_neg (by simp)] at hy
        have := chF_mem hlk lo x cur (by omega) y hy; exact ⟨this.1, by omega, this.2.2⟩
theorem chF_asc (hlk : ∀ u x, lk u x = true → has x) (lo : Nat) : ∀ x cur, x < cur → (chF lk lo x cur).Pairwise (· < ·)
  | 0, _, _ => by simp [chF]
  | x + 1, cur, hc => by
    unfold chF
    by_cases h1 : x + 1 ≤ lo
    · rw [if_pos h1]; exact .nil
    · rw [if_neg h1]
      cases h2 : lk cur (x + 1) with
      | true =>
        rw [if_pos rfl]
        refine List.pairwise_append.2 ⟨chF_asc hlk lo x (x + 1) (by omega), by simp, fun a ha b hb => ?_⟩
        have := (chF_mem hlk lo x (x + 1) (by omega) a ha).2.1
        have : b = x + 1 := by simpa using hb
        omega
      | false => rw [if_neg (by simp)]; exact chF_asc hlk lo x cur (by omega)
/-- Each is linked to by the next one. -/
def Lkd (lk : Nat → Nat → Bool) : List Nat → Prop
  | a :: b :: r => lk b a = true ∧ Lkd lk (b :: r)
  | _ => True
theorem lkd_snoc {lk : Nat → Nat → Bool} : ∀ (l : List Nat) (a b : Nat), Lkd lk (l ++ [a]) → lk b a = true → Lkd lk (l ++ [a] ++ [b])
  | [], _, _, _, h => ⟨h, trivial⟩
  | [_], _, _, h1, h => ⟨h1.1, h, trivial⟩
  | _ :: d :: l, a, b, h1, h => ⟨h1.1, lkd_snoc (d :: l) a b h1.2 h⟩
theorem chF_lkd (lo : Nat) : ∀ x cur, Lkd lk (chF lk lo x cur ++ [cur])
  | 0, _ => trivial
  | x + 1, cur => by
    unfold chF
    by_cases h1 : x + 1 ≤ lo
    · rw [if_pos h1]; trivial
    · rw [if_neg h1]
      cases h2 : lk cur (x + 1) with
      | true => rw [if_pos rfl]; exact lkd_snoc _ _ _ (chF_lkd lo x (x + 1)) h2
      | false => rw [if_neg (by simp)]; exact chF_lkd lo x cur
theorem lkd_at {lk : Nat → Nat → Bool} : ∀ (l : List Nat), Lkd lk l → ∀ i (h : i + 1 < l.length), lk l[i + 1] (l[i]'(by omega)) = true
  | [], _, i, h => by simp at h
  | [_], _, i, h => by simp at h
  | a :: b :: r, hl, 0, _ => hl.1
  | a :: b :: r, hl, i + 1, h => lkd_at (b :: r) hl.2 i (by simpa using h)
theorem fuW_asc (hlk : ∀ u x, lk u x = true → has x) {w : Nat} (hw : 1 ≤ w) : (fuW lk w).Pairwise (· < ·) := by
  refine List.pairwise_append.2 ⟨chF_asc hlk 0 (w - 1) w (by omega), by simp, fun a ha b hb => ?_⟩
  have := (chF_mem hlk 0 (w - 1) w (by omega) a ha).2.1
  have : b = w := by simpa using hb
  omega
theorem fuW_mem (hlk : ∀ u x, lk u x = true → has x) {w : Nat} (hw : 1 ≤ w) (hh : has w) : ∀ y ∈ fuW lk w, 1 ≤ y ∧ y ≤ w ∧ has y := by
  intro y hy
  rcases List.mem_append.1 hy with h | h
  · have := chF_mem hlk 0 (w - 1) w (by omega) y h; exact ⟨by omega, by omega, this.2.2⟩
  · have : y = w := by simpa using h
    subst this; exact ⟨hw, Nat.le_refl _, hh⟩
theorem fuW_lkd (w : Nat) : Lkd lk (fuW lk w) := chF_lkd 0 (w - 1) w
end

/-- Whether a wave is committed directly. -/
def dirB (c : List Int) (g : List Vx) (ls : List Int) (w : Nat) : Bool := decide (totalZ c / 3 + 1 ≤ voZ c g ls w)
theorem dir_has {c : List Int} {g : List Vx} {ls : List Int} {w : Nat} (hv : validB c = true) (h : dirB c g ls w = true) : 0 ≤ ldZ g ls w := by
  have h := of_decide_eq_true h
  have hb := totalZ_bd hv
  by_cases h0 : 0 ≤ ldZ g ls w
  · exact h0
  · unfold voZ at h; rw [if_neg h0] at h; omega
theorem wvs_no' {c : List Int} {g : List Vx} {ls : List Int} {m : Nat} (h : dirB c g ls (m + 1) = false) : wvs c g ls (m + 1) = wvs c g ls m := by
  have := of_decide_eq_false h
  exact wvs_no (by omega) (by omega)
theorem wvs_yes' {c : List Int} {g : List Vx} {ls : List Int} {m : Nat} (h : dirB c g ls (m + 1) = true) : wvs c g ls (m + 1) = ((wvs c g ls m).1 ++ chZ g ls (wvs c g ls m).2 m [((m + 1 : Nat) : Int)] (ldZ g ls (m + 1)), m + 1) := by
  have := of_decide_eq_true h
  exact wvs_yes (by omega) (by omega)
/-- The last wave among the first m that is committed directly: 0 if there is none. -/
theorem wvs_last {c : List Int} {g : List Vx} {ls : List Int} : ∀ m, (wvs c g ls m).2 ≤ m ∧ ((wvs c g ls m).2 = 0 ∨ dirB c g ls (wvs c g ls m).2 = true) ∧ ∀ w, 1 ≤ w → w ≤ m → dirB c g ls w = true → w ≤ (wvs c g ls m).2
  | 0 => ⟨Nat.le_refl _, .inl rfl, fun w h1 h2 => by omega⟩
  | m + 1 => by
    obtain ⟨i1, i2, i3⟩ := wvs_last (c := c) (g := g) (ls := ls) m
    cases h : dirB c g ls (m + 1) with
    | false =>
      rw [wvs_no' h]
      refine ⟨by omega, i2, fun w h1 h2 h3 => ?_⟩
      by_cases e : w = m + 1
      · rw [e, h] at h3; cases h3
      · exact i3 w h1 (by omega) h3
    | true =>
      rw [wvs_yes' h]
      exact ⟨Nat.le_refl _, .inr h, fun w _ h2 _ => h2⟩
/-- What is committed is the whole chain back from the last wave that is committed directly. -/
theorem wvs_full {c : List Int} {g : List Vx} {ls : List Int} (hv : validB c = true) (hR : ∀ m u, 1 ≤ m → dirB c g ls m = true → m < u → 0 ≤ ldZ g ls u → lkB g ls u m = true) : ∀ m, (wvs c g ls m).1 = if (wvs c g ls m).2 = 0 then [] else (fuW (lkB g ls) (wvs c g ls m).2).map Int.ofNat
  | 0 => rfl
  | m + 1 => by
    have ih := wvs_full hv hR m
    have hl := wvs_last (c := c) (g := g) (ls := ls) m
    cases h : dirB c g ls (m + 1) with
    | false => rw [wvs_no' h]; exact ih
    | true =>
      have hh := dir_has hv h
      rw [wvs_yes' h]
      show (wvs c g ls m).1 ++ chZ g ls (wvs c g ls m).2 m [((m + 1 : Nat) : Int)] (ldZ g ls (m + 1)) = if m + 1 = 0 then [] else _
      rw [if_neg (by omega), chZ_chF]
      by_cases h0 : (wvs c g ls m).2 = 0
      · rw [if_pos h0] at ih
        rw [ih, h0]; simp [fuW]
      · rw [if_neg h0] at ih
        have hd := hl.2.1.resolve_left h0
        rw [ih, fuW_split (lk := lkB g ls) (has := fun u => 0 ≤ ldZ g ls u) (m := (wvs c g ls m).2) (w := m + 1) (fun u x => lk_has) (by omega) (by omega) (fun u hu hh => hR _ u (by omega) hd hu hh) hh]
        simp

theorem cwZ_len (c : List Int) (g : List Vx) (ls : List Int) : (cwZ c g ls).length ≤ ls.length := by
  unfold cwZ
  split
  · have := wvs_len (c := c) (g := g) (ls := ls) ls.length; omega
  · simp

end Go.Proofs.YtjaacdapibokiaaGreatDoor

/- Places of a graph by round and author, and a graph whose vertices are linked by pointers: how it lies in memory, what stays of it when other memory is made or written; no conditions. -/
namespace Go.Proofs.YtjaacdapibokiaaGreatDoor
open Go.RowKit

/-- The number of the place of a round and an author. -/
def plN (r a : Int) : Nat := 1 + (r.toNat * 7 + a.toNat)
/-- Before the place (r, a). -/
def plB (r a : Nat) (v : Vx) : Bool := decide (v.r < r ∨ v.r = r ∧ v.a < a)
def inPl (v : Vx) : Prop := 0 ≤ v.r ∧ v.r ≤ 30 ∧ 0 ≤ v.a ∧ v.a ≤ 6
theorem plN_inj {r a r' a' : Int} (hr : 0 ≤ r) (ha : 0 ≤ a) (ha' : a ≤ 6) (hr2 : 0 ≤ r') (ha2 : 0 ≤ a') (ha2' : a' ≤ 6) (h : plN r a = plN r' a') : r = r' ∧ a = a' := by
  unfold plN at h; omega
theorem plN_bd {r a : Int} (h : r ≤ 30) (ha : a ≤ 6) : 1 ≤ plN r a ∧ plN r a < 218 := by unfold plN; omega
/-- What stands before a place. -/
def outZ (g : List Vx) (r a : Nat) : List Vx := g.filter (plB r a)
def Srt (g : List Vx) : Prop := g.Pairwise fun a b => befB a b = true
theorem outZ_zero {g : List Vx} (h : ∀ v ∈ g, inPl v) : outZ g 0 0 = [] := by
  unfold outZ
  rw [List.filter_eq_nil_iff]
  intro v hv
  have := h v hv
  unfold inPl at this
  unfold plB
  simp; omega
theorem outZ_row {g : List Vx} (h : ∀ v ∈ g, inPl v) (r : Nat) : outZ g r 7 = outZ g (r + 1) 0 := by
  unfold outZ
  refine List.filter_congr fun v hv => ?_
  have := h v hv
  unfold inPl at this
  unfold plB
  rw [Bool.eq_iff_iff, decide_eq_true_iff, decide_eq_true_iff]; omega
theorem outZ_end {g : List Vx} (h : ∀ v ∈ g, inPl v) : outZ g 31 0 = g := by
  unfold outZ
  rw [List.filter_eq_self]
  intro v hv
  have := h v hv
  unfold inPl at this
  unfold plB
  simp; omega
theorem outZ_len (g : List Vx) (r a : Nat) : (outZ g r a).length ≤ g.length := List.length_filter_le _ _
theorem befB_iff {x y : Vx} : befB x y = true ↔ (x.r < y.r ∨ x.r = y.r ∧ x.a < y.a) := by unfold befB; exact decide_eq_true_iff
theorem outZ_step {g : List Vx} (h : Srt g) (r a : Nat) : outZ g r (a + 1) = outZ g r a ++ g.filter (sameRA r a) := by
  unfold outZ
  induction g with
  | nil => rfl
  | cons x g ih =>
    have hx := (List.pairwise_cons.1 h).1
    have ih := ih (List.pairwise_cons.1 h).2
    by_cases hp : plB r a x = true
    · have h1 : plB r (a + 1) x = true := by unfold plB at hp ⊢; simp at hp ⊢; omega
      have h2 : sameRA r a x = false := by unfold plB at hp; unfold sameRA; simp at hp ⊢; omega
      rw [List.filter_cons, if_pos h1, List.filter_cons, if_pos hp, List.filter_cons (p := sameRA r a), h2, ih]; rfl
    · have hno : g.filter (plB r a) = [] := by
        rw [List.filter_eq_nil_iff]
        intro v hv
        have hb := befB_iff.1 (hx v hv)
        unfold plB at hp ⊢
        simp at hp ⊢
        omega
      rw [hno, List.nil_append] at ih
      rw [List.filter_cons, List.filter_cons (p := plB r a), if_neg hp, hno, List.nil_append, List.filter_cons (p := sameRA r a), ih]
      have e : plB r (a + 1) x = sameRA r a x := by
        unfold plB sameRA at *
        simp at hp
        rw [Bool.eq_iff_iff, decide_eq_true_iff, decide_eq_true_iff]
        omega
      rw [e]
theorem srt_uni {g : List Vx} (h : Srt g) {x y : Vx} (hx : x ∈ g) (hy : y ∈ g) (hr : x.r = y.r) (ha : x.a = y.a) : x = y := by
  induction g with
  | nil => cases hx
  | cons z g ih =>
    have hz := (List.pairwise_cons.1 h).1
    rcases List.mem_cons.1 hx with rfl | hx'
    · rcases List.mem_cons.1 hy with rfl | hy'
      · rfl
      · have := befB_iff.1 (hz y hy'); omega
    · rcases List.mem_cons.1 hy with rfl | hy'
      · have := befB_iff.1 (hz x hx'); omega
      · exact ih (List.pairwise_cons.1 h).2 hx' hy'
theorem filter_uni {g : List Vx} (h : Srt g) {x : Vx} (hx : x ∈ g) : g.filter (sameRA x.r x.a) = [x] := by
  induction g with
  | nil => cases hx
  | cons z g ih =>
    have hz := (List.pairwise_cons.1 h).1
    have hsame : ∀ v, sameRA x.r x.a v = true ↔ v.r = x.r ∧ v.a = x.a := fun v => by unfold sameRA; exact decide_eq_true_iff
    rcases List.mem_cons.1 hx with rfl | hx'
    · rw [List.filter_cons, if_pos ((hsame _).2 ⟨rfl, rfl⟩)]
      congr 1
      rw [List.filter_eq_nil_iff]
      intro v hv e
      have := (hsame v).1 e
      have := befB_iff.1 (hz v hv); omega
    · rw [List.filter_cons, if_neg, ih (List.pairwise_cons.1 h).2 hx']
      intro e
      have := (hsame z).1 e
      have := befB_iff.1 (hz x hx'); omega
theorem filter_none {g : List Vx} {r a : Int} (h : ∀ v ∈ g, ¬ (v.r = r ∧ v.a = a)) : g.filter (sameRA r a) = [] := by
  rw [List.filter_eq_nil_iff]
  intro v hv e
  exact h v hv (of_decide_eq_true e)
theorem outZ_yes {g : List Vx} (h : Srt g) {r a : Nat} {x : Vx} (hx : x ∈ g) (hr : x.r = r) (ha : x.a = a) : outZ g r (a + 1) = outZ g r a ++ [x] := by
  rw [outZ_step h, ← hr, ← ha, filter_uni h hx]
theorem outZ_no {g : List Vx} (h : Srt g) {r a : Nat} (hn : ∀ v ∈ g, ¬ (v.r = r ∧ v.a = a)) : outZ g r (a + 1) = outZ g r a := by
  rw [outZ_step h, filter_none hn, List.append_nil]

/-! finding by a place -/
theorem findZ_mem {g : List Vx} (h : Srt g) {x : Vx} (hx : x ∈ g) : ∃ k : Nat, ∃ hk : k < g.length, findZ g x.r x.a = k ∧ g[k] = x := by
  rcases findZ_cases g x.r x.a with ⟨_, hno⟩ | ⟨k, hk, e, hs, _⟩
  · have := hno x hx; unfold sameRA at this; simp at this
  · refine ⟨k, hk, e, srt_uni h (List.getElem_mem hk) hx ?_ ?_⟩ <;> (unfold sameRA at hs; simp at hs; omega)
theorem findZ_none {g : List Vx} {r a : Int} (h : ∀ v ∈ g, ¬ (v.r = r ∧ v.a = a)) : findZ g r a = -1 := by
  rcases findZ_cases g r a with ⟨e, _⟩ | ⟨k, hk, _, hs, _⟩
  · exact e
  · exact absurd (of_decide_eq_true hs) (h _ (List.getElem_mem hk))

/-! adding by a place -/
theorem bef_total {x y : Vx} (h : ¬ (x.r = y.r ∧ x.a = y.a)) (hb : befB x y = false) : befB y x = true := by
  unfold befB at hb; simp at hb
  refine befB_iff.2 ?_; omega
theorem ins_mem {g : List Vx} {x y : Vx} : y ∈ insG g x ↔ y ∈ g ∨ y = x := by
  unfold insG
  rw [List.mem_append, List.mem_append, List.mem_singleton]
  constructor
  · rintro ((h | h) | h)
    · exact .inl (List.mem_of_mem_take h)
    · exact .inr h
    · exact .inl (List.mem_of_mem_drop h)
  · rintro (h | h)
    · rw [← List.take_append_drop (insN g x) g, List.mem_append] at h
      rcases h with h | h
      · exact .inl (.inl h)
      · exact .inr h
    · exact .inl (.inr h)
theorem ins_srt {g : List Vx} {x : Vx} (h : Srt g) (hn : ∀ v ∈ g, ¬ (v.r = x.r ∧ v.a = x.a)) : Srt (insG g x) := by
  unfold Srt insG insN at *
  induction g with
  | nil => simp
  | cons z g ih =>
    obtain ⟨hz, hg⟩ := List.pairwise_cons.1 h
    rw [List.findIdx_cons]
    by_cases hb : befB z x = true
    · simp only [hb, Bool.not_true, cond_false, List.take_succ_cons, List.drop_succ_cons, List.cons_append]
      refine List.pairwise_cons.2 ⟨fun v hv => ?_, ih hg (fun v hv => hn v (List.mem_cons_of_mem _ hv))⟩
      rcases (ins_mem (g := g) (x := x)).1 hv with hv | rfl
      · exact hz v hv
      · exact hb
    · have hb' : befB z x = false := by simpa using hb
      simp only [hb', Bool.not_false, cond_true, List.take_zero, List.drop_zero, List.nil_append, List.singleton_append]
      have hxz := bef_total (hn z (by simp)) hb'
      refine List.pairwise_cons.2 ⟨fun v hv => ?_, h⟩
      rcases List.mem_cons.1 hv with rfl | hv
      · exact hxz
      · exact bef_trans hxz (hz v hv)
theorem ins_last {g : List Vx} {x : Vx} (h : ∀ v ∈ g, befB v x = true) : insG g x = g ++ [x] := by
  have : insN g x = g.length := by
    unfold insN
    exact List.findIdx_eq_length.2 fun y hy => by simp [h y hy]
  unfold insG; rw [this]; simp
theorem addG_lenP (g : List Vx) (x : Vx) : (addG g x).length ≤ g.length + 1 := by
  unfold addG
  split
  · unfold insG
    rw [List.length_append, List.length_append, List.length_take, List.length_drop]
    simp; omega
  · omega
theorem addG_memP {g : List Vx} {x y : Vx} (h : y ∈ addG g x) : y ∈ g ∨ y = x := by
  unfold addG at h
  split at h
  · exact ins_mem.1 h
  · exact .inl h
def arrP (n : Nat) (f : Nat → Value) : Array Value := ((List.range n).map f).toArray
theorem arrP_size (n : Nat) (f : Nat → Value) : (arrP n f).size = n := by simp [arrP]
theorem arrP_get {n : Nat} {f : Nat → Value} {j : Nat} (h : j < n) : (arrP n f)[j]? = some (f j) := by simp [arrP, h]
theorem arrP_set {n : Nat} {f : Nat → Value} {k : Nat} {v : Value} : (arrP n f).setIfInBounds k v = arrP n fun i => if i = k then v else f i := by
  apply Array.ext
  · simp [arrP]
  · intro j h1 h2
    have hj : j < n := by simpa [arrP] using h2
    rw [Array.getElem_setIfInBounds (by simpa [arrP] using hj)]
    by_cases e : k = j
    · subst e; simp [arrP]
    · have e' : ¬ j = k := fun h => e h.symm
      simp [arrP, e, e']

def ptrV (q : Nat) : Value := .pointer (some ⟨q, 0, none⟩)
theorem ptrV_one (q : Nat) : (ptrV q).oneCell' = true := rfl
theorem ptrV_none (q : Nat) : ptrV q ≠ .pointer none := by intro h; cases h
/-- A list of pointers of the call's own. -/
def OwnP (E : TypeId) (w : World) (B : Nat) (v : Value) (qs : List Nat) : Prop := w.ownsRow B E 1 v qs.length (qs.map ptrV)
section
variable {E : TypeId} {w w' : World} {B : Nat} {v : Value} {qs : List Nat}
theorem OwnP.nil (E : TypeId) (w : World) (B : Nat) : OwnP E w B (.slice none 0 0) [] := World.ownsRow_nil _ _ _ _
theorem OwnP.kept {row : Option Nat} (h : OwnP E w B v qs) (hg : w.grownBy w' row) (hne : v.ownBlock = none ∨ v.ownBlock ≠ row) : OwnP E w' B v qs := World.ownsRow.kept h hg hne
theorem OwnP.lt (h : OwnP E w B v qs) : ∀ k, v.ownBlock = some k → B ≤ k ∧ k < w.heap.size := World.ownsRow.lt h
theorem OwnP.below (h : OwnP E w B v qs) (hg : Below w.heap.size w w') : OwnP E w' B v qs := h.kept (below_grown hg) (by cases hv : v.ownBlock <;> simp)
theorem OwnP.slice (h : OwnP E w B v qs) : ∃ a cap, v = .slice a qs.length cap ∧ qs.length ≤ maxLen := by
  rcases h.2 with ⟨rfl, h0⟩ | ⟨g, cap, cur, rfl, hb, hg, hn, hm, hs, ht⟩
  · exact ⟨none, 0, by rw [h0], by rw [h0]; simp⟩
  · exact ⟨_, cap, rfl, by omega⟩
theorem OwnP.cell (h : OwnP E w B v qs) (j : Nat) (hj : j < qs.length) : ∃ g cap, v = .slice (some ⟨g, 0, none⟩) qs.length cap ∧ B ≤ g ∧ g < w.heap.size ∧ w.cell? ⟨g, j, none⟩ = some (ptrV qs[j]) := by
  rcases h.2 with ⟨rfl, h0⟩ | ⟨g, cap, cur, rfl, hb, hg, hn, hm, hs, ht⟩
  · omega
  · refine ⟨g, cap, rfl, hb, (Array.getElem?_eq_some_iff.1 hg).1, ?_⟩
    have hc := World.ownsRow.cells (w := w) (base := B) (e := E) (size := 1) (v := .slice (some ⟨g, 0, none⟩) qs.length cap) (n := qs.length) (xs := qs.map ptrV) h (g := g) rfl j (ptrV qs[j]) (by simp [hj])
    rwa [addr_add] at hc
end

theorem cells_ptr (w : World) (E : TypeId) (q : Nat) : ∀ j u, [ptrV q][j]? = some u → (w.alloc (.cells #[ptrV q] E)).cell? ((⟨w.heap.size, 0, none⟩ : Addr).add j) = some u := by
  intro j u hu
  match j, hu with
  | 0, hu =>
    simp at hu; subst hu
    rw [addr_add, World.cell?_alloc_at _ _ _ _ rfl]; rfl

/-- A vertex with pointers to its parents: its numbers and list as they were at first, the pointers of the call's own. -/
structure Nd (w0 w : World) (hi G : Nat) (h : Nat → Value) (q : Nat) (y : Vx) : Prop where
  lo : w0.heap.size ≤ q
  lt : q < hi
  ne : q ≠ G
  ex : ∃ pa pc pv qs, Str w q 63 #[.int .i64 y.r, .int .i64 y.a, .slice pa y.ps.length pc, .int .i64 y.d, pv] ∧ IntsAt w0 pa y.ps ∧ SrcAt w0 pa pc y.ps ∧ OwnP 61 w w0.heap.size pv qs ∧
    (∀ b, pv.ownBlock = some b → b ≠ G ∧ b < hi) ∧ qs.length = y.ps.length ∧ ∀ j (hj : j < qs.length) (hj' : j < y.ps.length), h (plN (y.r - 1) y.ps[j]) = ptrV qs[j]
theorem Nd.kept {w0 w w' : World} {hi G q : Nat} {h : Nat → Value} {y : Vx} {row : Option Nat} (n : Nd w0 w hi G h q y) (hg : w.grownBy w' row) (hrow : ∀ m, row = some m → hi ≤ m ∨ m = G) : Nd w0 w' hi G h q y := by
  obtain ⟨pa, pc, pv, qs, s, i, c, o, ob, l, p⟩ := n.ex
  refine ⟨n.lo, n.lt, n.ne, pa, pc, pv, qs, s.kept hg fun e => ?_, i, c, o.kept hg ?_, ob, l, p⟩
  · have := n.lt; have := n.ne; rcases hrow q e.symm with h | h <;> omega
  · cases hv : pv.ownBlock with
    | none => exact .inl rfl
    | some b =>
      refine .inr fun e => ?_
      have := ob b hv
      rcases hrow b e.symm with h | h <;> omega
/-- A graph: the places of its block point to its vertices. -/
structure Lk (w0 w : World) (hi G : Nat) (mv : Value) (h : Nat → Value) (g : List Vx) : Prop where
  lo : w0.heap.size ≤ G
  lt : G < hi
  le : hi ≤ w.heap.size
  str : Str w G 84 (arrP 218 h)
  mem : h 0 = mv
  has : ∀ y ∈ g, ∃ q, h (plN y.r y.a) = ptrV q ∧ Nd w0 w hi G h q y
  non : ∀ r a : Int, 0 ≤ r → r ≤ 30 → 0 ≤ a → a ≤ 6 → (∀ y ∈ g, ¬ (y.r = r ∧ y.a = a)) → h (plN r a) = .pointer none
theorem Lk.kept {w0 w w' : World} {hi G : Nat} {mv : Value} {h : Nat → Value} {g : List Vx} {row : Option Nat} (l : Lk w0 w hi G mv h g) (hg : w.grownBy w' row) (hrow : ∀ m, row = some m → hi ≤ m) : Lk w0 w' hi G mv h g := by
  refine ⟨l.lo, l.lt, Nat.le_trans l.le hg.size, l.str.kept hg fun e => ?_, l.mem, fun y hy => ?_, l.non⟩
  · have := hrow G e.symm; have := l.lt; omega
  · obtain ⟨q, e, n⟩ := l.has y hy
    exact ⟨q, e, n.kept hg fun m e => .inl (hrow m e)⟩
theorem Lk.under {w0 w w' : World} {hi G : Nat} {mv : Value} {h : Nat → Value} {g : List Vx} (l : Lk w0 w hi G mv h g) (hb : Below w.heap.size w w') : Lk w0 w' hi G mv h g := l.kept (below_grown hb) fun _ e => by cases e
theorem Lk.cell {w0 w : World} {hi G : Nat} {mv : Value} {h : Nat → Value} {g : List Vx} (l : Lk w0 w hi G mv h g) {k : Nat} (hk : k < 218) : w.cell? ⟨G, k, none⟩ = some (h k) := l.str.cell k (arrP_get hk)
theorem Lk.same {w0 w : World} {hi G : Nat} {mv : Value} {h : Nat → Value} {g g' : List Vx} (l : Lk w0 w hi G mv h g) (hs : ∀ y, y ∈ g' ↔ y ∈ g) : Lk w0 w hi G mv h g' :=
  ⟨l.lo, l.lt, l.le, l.str, l.mem, fun y hy => l.has y ((hs y).1 hy), fun r a h1 h2 h3 h4 hn => l.non r a h1 h2 h3 h4 fun y hy => hn y ((hs y).2 hy)⟩
/-- An empty graph. -/
theorem Lk.new {w0 w' : World} {G hi : Nat} {mv : Value} (hs : Str w' G 84 (arrP 218 fun i => if i = 0 then mv else .pointer none)) (hG : w0.heap.size ≤ G) (hhi : G < hi) (hle : hi ≤ w'.heap.size) :
    Lk w0 w' hi G mv (fun i => if i = 0 then mv else .pointer none) [] :=
  ⟨hG, hhi, hle, hs, by simp, (fun y hy => by cases hy), fun r a h1 h2 h3 h4 _ => by rw [if_neg]; unfold plN; omega⟩
/-- A vertex is put into its place. -/
theorem Lk.put {w0 w w1 : World} {hi G q : Nat} {mv : Value} {h : Nat → Value} {g g' : List Vx} {x : Vx} (l : Lk w0 w hi G mv h g) (hg : w.grownBy w1 none) (hx : inPl x) (hno : ∀ y ∈ g, ¬ (y.r = x.r ∧ y.a = x.a))
    (hq : hi ≤ q) {hi2 : Nat} (hq2 : q < hi2) (hh : hi ≤ hi2) (hz : hi2 ≤ w1.heap.size) {pa : Option Addr} {pc : Nat} {pv : Value} {qs : List Nat} (hs : Str w1 q 63 #[.int .i64 x.r, .int .i64 x.a, .slice pa x.ps.length pc, .int .i64 x.d, pv]) (hi' : IntsAt w0 pa x.ps) (hsr : SrcAt w0 pa pc x.ps)
    (ho : OwnP 61 w1 w0.heap.size pv qs) (hob : ∀ b, pv.ownBlock = some b → b ≠ G ∧ b < hi2) (hl : qs.length = x.ps.length) (hp : ∀ j (hj : j < qs.length) (hj' : j < x.ps.length), h (plN (x.r - 1) x.ps[j]) = ptrV qs[j]) (hg' : ∀ y, y ∈ g' ↔ y ∈ g ∨ y = x) :
    Lk w0 (w1.setCell ⟨G, plN x.r x.a, none⟩ (ptrV q)) hi2 G mv (fun i => if i = plN x.r x.a then ptrV q else h i) g' := by
  have hb := plN_bd hx.2.1 hx.2.2.2
  have hnil : h (plN x.r x.a) = .pointer none := l.non x.r x.a hx.1 hx.2.1 hx.2.2.1 hx.2.2.2 hno
  have hsafe : ∀ k p, h k = ptrV p → k ≠ plN x.r x.a := fun k p e e2 => by rw [e2, hnil] at e; cases e
  have hgs := grownBy_set w1 G (plN x.r x.a) (ptrV q)
  have hgG : q ≠ G := by have := l.lt; omega
  refine ⟨l.lo, Nat.lt_of_lt_of_le l.lt hh, by rw [World.size_setCell]; exact hz, ?_, ?_, fun y hy => ?_, fun r a h1 h2 h3 h4 hn => ?_⟩
  · have := (l.str.kept hg (by simp)).set (plN x.r x.a) (ptrV q)
    rwa [arrP_set] at this
  · rw [if_neg (by omega)]; exact l.mem
  · rcases (hg' y).1 hy with hy | rfl
    · obtain ⟨p, e, n⟩ := l.has y hy
      have n1 := (n.kept hg fun m e => by cases e).kept hgs fun m e => by cases e; exact .inr rfl
      refine ⟨p, by rw [if_neg (hsafe _ _ e)]; exact e, n1.lo, Nat.lt_of_lt_of_le n1.lt hh, n1.ne, ?_⟩
      obtain ⟨pa', pc', pv', qs', s, i, c, o, ob, l', p'⟩ := n1.ex
      refine ⟨pa', pc', pv', qs', s, i, c, o, fun b hb => ⟨(ob b hb).1, Nat.lt_of_lt_of_le (ob b hb).2 hh⟩, l', fun j hj hj' => ?_⟩
      have := p' j hj hj'
      rw [if_neg (hsafe _ _ this)]; exact this
    · refine ⟨q, by simp, Nat.le_trans l.lo (Nat.le_trans (Nat.le_of_lt l.lt) hq), hq2, hgG, pa, pc, pv, qs, hs.kept hgs (by simpa using hgG), hi', hsr, ho.kept hgs ?_, hob, hl, fun j hj hj' => ?_⟩
      · cases hv : pv.ownBlock with
        | none => exact .inl rfl
        | some b => refine .inr fun e => (hob b hv).1 ?_; cases e; rfl
      · have := hp j hj hj'
        rw [if_neg (hsafe _ _ this)]; exact this
  · skip
    rw [if_neg, l.non r a h1 h2 h3 h4 fun y hy => hn y ((hg' y).2 (.inl hy))]
    intro e
    obtain ⟨e1, e2⟩ := plN_inj h1 h3 h4 hx.1 hx.2.2.1 hx.2.2.2 e
    exact hn x ((hg' x).2 (.inr rfl)) ⟨e1.symm, e2.symm⟩
end Go.Proofs.YtjaacdapibokiaaGreatDoor

/- What impl's functions of digests and hash trees answer, each by a walk of its text: the answers are those of plain functions on lists; conditions: a list that is read has fewer than 2^40 elements and fits its capacity, the numbers are ints. -/
namespace Go.Proofs.YtjaacdapibokiaaGreatDoor
open Go.RowKit

theorem impl_isDigest (n : Int) (w : World) : Calls Tryz.prog 96 #[.int .i64 n] w fun e w' => e = .returned (.bool (digB n)) ∧ w = w' := by
  by_cases h : 0 ≤ n
  · have Hf := Lib.hid (show digB n = decide (n < 991) by unfold digB; rw [Bool.eq_iff_iff]; simp only [decide_eq_true_eq]; omega)
    go_enter Tryz.func96, Tryz.ntmps96
    go_wp2
    go_ret
    exact ⟨ret_bool Hf.out.symm, rfl⟩
  · have Hf := Lib.hid (show digB n = false by unfold digB; exact decide_eq_false (by omega))
    go_enter Tryz.func96, Tryz.ntmps96
    go_wp2
    go_ret
    exact ⟨ret_bool Hf.out.symm, rfl⟩

end Go.Proofs.YtjaacdapibokiaaGreatDoor

/- The library's test whether two lists of ints are the same, and its copy of a list of ints, by walks of their texts; conditions: the lists have fewer than 2^40 elements. -/
namespace Go.Proofs.YtjaacdapibokiaaGreatDoor
open Go.RowKit

def EqTo (xs ys : List Int) (k : Nat) : Prop := ∀ j (h : j < xs.length) (h' : j < ys.length), j < k → xs[j] = ys[j]
theorem eqTo_step {xs ys : List Int} {k : Nat} (h : EqTo xs ys k) (hk : k < xs.length) (hk' : k < ys.length) (e : xs[k] = ys[k]) : EqTo xs ys (k + 1) := by
  intro j hj hj' hjk
  by_cases ej : j = k
  · subst ej; exact e
  · exact h j hj hj' (by omega)
theorem eqTo_all {xs ys : List Int} {k : Nat} (h : EqTo xs ys k) (hk : xs.length ≤ k) (hl : xs.length = ys.length) : xs = ys :=
  List.ext_getElem hl fun j h1 h2 => h j h1 h2 (by omega)

theorem lib_Equal (a a' : Option Addr) (c c' : Nat) (xs ys : List Int) (w : World) (hbig : xs.length ≤ 1099511627776) (hbig' : ys.length ≤ 1099511627776) (hc : IntsAt w a xs) (hc' : IntsAt w a' ys) :
    Calls Tryz.prog 98 #[.slice a xs.length c, .slice a' ys.length c'] w fun e w' => e = .returned (.bool (decide (xs = ys))) ∧ Drawn w w' := by
  by_cases hl : xs.length = ys.length
  · rcases hc.len with h0 | ⟨b, off, rfl, hb, hc⟩
    · have Hf := Lib.hid (show decide (xs = ys) = true from decide_eq_true (List.ext_getElem hl fun j h1 h2 => by omega))
      have hl0 : xs.length = 0 := by omega
      rw [← hl, hl0]
      go_enter Tryz.func98, Tryz.ntmps98
      go_wp2
      go_loopw [13] (fun i wr => i = .int .i64 0 ∧ Drawn w wr) (fun _ _ => 0)
      case atStart => exact ⟨rfl, Drawn.refl _⟩
      case round =>
        obtain ⟨rfl, hdr⟩ := hrel
        go_wp2
        go_ret
        exact ⟨ret_bool Hf.out.symm, hdr⟩
    · rcases hc'.len with h0 | ⟨b', off', rfl, hb', hc'⟩
      · have Hf := Lib.hid (show decide (xs = ys) = true from decide_eq_true (List.ext_getElem hl fun j h1 h2 => by omega))
        have hl0 : xs.length = 0 := by omega
        rw [← hl, hl0]
        go_enter Tryz.func98, Tryz.ntmps98
        go_wp2
        go_loopw [13] (fun i wr => i = .int .i64 0 ∧ Drawn w wr) (fun _ _ => 0)
        case atStart => exact ⟨rfl, Drawn.refl _⟩
        case round =>
          obtain ⟨rfl, hdr⟩ := hrel
          go_wp2
          go_ret
          exact ⟨ret_bool Hf.out.symm, hdr⟩
      have Hl := Lib.hid hl
      rw [← hl]
      clear hl
      have Hc := Lib.hid hc; clear hc
      have Hc' := Lib.hid hc'; clear hc'
      go_enter Tryz.func98, Tryz.ntmps98
      go_wp2
      go_loopw [13] (fun i wr => ∃ k : Nat, k ≤ xs.length ∧ i = .int .i64 k ∧ EqTo xs ys k ∧ Drawn w wr) (fun i _ => xs.length - (intOf i).toNat)
      case atStart => exact ⟨0, by omega, rfl, fun j _ _ h => by omega, Drawn.refl _⟩
      case round =>
        obtain ⟨k, hk, rfl, heq, hdr⟩ := hrel
        have Heq := Lib.hid heq; clear heq
        by_cases hlt : k < xs.length
        · have hlt' : k < ys.length := by have := Hl.out; omega
          have c1 := (hdr.cell _).trans (Hc.out k hlt)
          have c2 := (hdr.cell _).trans (Hc'.out k hlt')
          by_cases he : xs[k] = ys[k]
          · have Hs := Lib.hid (eqTo_step Heq.out hlt hlt' he)
            rw [← he] at c2
            clear he
            generalize xs[k] = x at *
            go_wp2_with fail
            go_quiet (fail)
            go_wp2
            go_roundw
            case rel => exact ⟨k + 1, by omega, by go_num, Hs.out, hdr.drewN _⟩
            case measure => simp [intOf]; omega
          · have Hf := Lib.hid (show decide (xs = ys) = false from decide_eq_false fun e => he (by subst e; rfl))
            have hq : (xs[k] != ys[k]) = true := by simpa using he
            clear he
            generalize xs[k] = x at *
            generalize ys[k] = y at *
            go_wp2_with fail
            go_quiet (fail)
            go_wp2
            go_ret
            exact ⟨ret_bool Hf.out.symm, hdr.drewN _⟩
        · have Hf := Lib.hid (show decide (xs = ys) = true from decide_eq_true (eqTo_all Heq.out (by omega) Hl.out))
          go_wp2
          go_ret
          exact ⟨ret_bool Hf.out.symm, hdr⟩
  · have Hf := Lib.hid (show decide (xs = ys) = false from decide_eq_false fun e => hl (by rw [e]))
    have hq : ((xs.length : Int) != (ys.length : Int)) = true := by simp; omega
    clear hc hc'
    go_enter Tryz.func98, Tryz.ntmps98
    go_wp2
    go_ret
    exact ⟨ret_bool Hf.out.symm, Drawn.refl _⟩

end Go.Proofs.YtjaacdapibokiaaGreatDoor

/- impl's small functions of vertices, each by a walk of its text; conditions: lists are shorter than 2^40, and where the text asks it, the committee is valid. -/
namespace Go.Proofs.YtjaacdapibokiaaGreatDoor
open Go.RowKit

theorem impl_isRound (n : Int) (w : World) : Calls Tryz.prog 46 #[.int .i64 n] w fun e w' => e = .returned (.bool (rngB n)) ∧ w = w' := by
  by_cases h : 0 ≤ n
  · have Hf := Lib.hid (show rngB n = decide (n ≤ 30) by unfold rngB; rw [Bool.eq_iff_iff]; simp only [decide_eq_true_eq]; omega)
    go_enter Tryz.func46, Tryz.ntmps46
    go_wp2
    go_ret
    exact ⟨ret_bool Hf.out.symm, rfl⟩
  · have Hf := Lib.hid (show rngB n = false by unfold rngB; exact decide_eq_false (by omega))
    go_enter Tryz.func46, Tryz.ntmps46
    go_wp2
    go_ret
    exact ⟨ret_bool Hf.out.symm, rfl⟩

def qmB (c ps : List Int) : Bool := membersB c.length ps && decide (quorumZ c ≤ weightZ c ps)
theorem committee_isQuorum (ac : Option Addr) (capc : Nat) (c : List Int) (pa : Option Addr) (pc : Nat) (ps : List Int) (w : World) (hv : validB c = true) (hbig : ps.length ≤ 1099511627776) (hc : IntsAt w ac c) (hp : IntsAt w pa ps) :
    Calls Tryz.prog 97 #[.slice ac c.length capc, .slice pa ps.length pc] w fun e w' => e = .returned (.bool (qmB c ps)) ∧ w = w' := by
  obtain ⟨hn1, hn7⟩ := validB_len hv
  have H1 := Lib.hid (committee_hasMembers ac capc c.length pa pc ps w (by omega) hbig hp)
  have H2 := Lib.hid (fun (hm : membersB c.length ps = true) => committee_weight ac capc c pa pc ps w hv hm hbig hc hp)
  have H3 := Lib.hid (committee_quorum ac capc c w hv hc)
  clear hc hp
  have Hq := Lib.hid (show qmB c ps = (membersB c.length ps && decide (quorumZ c ≤ weightZ c ps)) from rfl)
  go_enter Tryz.func97, Tryz.ntmps97
  go_wp2_with fail
  refine H1.out.mono ?_
  rintro e w1 ⟨rfl, rfl⟩
  cases hm : membersB c.length ps with
  | false =>
    go_wp2
    go_ret
    exact ⟨ret_bool (by rw [Hq.out, hm]; rfl), rfl⟩
  | true =>
    have H2 := Lib.hid (H2.out hm)
    go_wp2_with fail
    refine H2.out.mono ?_
    rintro e w1 ⟨rfl, rfl⟩
    go_wp2_with fail
    refine H3.out.mono ?_
    rintro e w1 ⟨rfl, rfl⟩
    go_wp2
    go_ret
    exact ⟨ret_bool (by rw [Hq.out, hm]; rfl), rfl⟩

theorem vertex_isBefore (x y : Vx) (pa pa' : Option Addr) (pc pc' : Nat) (w : World) :
    Calls Tryz.prog 65 #[.agg #[.int .i64 x.r, .int .i64 x.a, .slice pa x.ps.length pc, .int .i64 x.d], .agg #[.int .i64 y.r, .int .i64 y.a, .slice pa' y.ps.length pc', .int .i64 y.d]] w fun e w' => e = .returned (.bool (befB x y)) ∧ Below w.heap.size w w' := by
  have hb : Below w.heap.size w ((w.alloc (.cells #[.int .i64 x.r, .int .i64 x.a, .slice pa x.ps.length pc, .int .i64 x.d] 39)).alloc (.cells #[.int .i64 y.r, .int .i64 y.a, .slice pa' y.ps.length pc', .int .i64 y.d] 39)) := ((Below.refl _ w).alloc (Nat.le_refl _) _).alloc (by simp) _
  by_cases h1 : x.r < y.r
  · have hz : befB x y = true := decide_eq_true (.inl h1)
    go_enter Tryz.func65, Tryz.ntmps65
    go_wp2
    go_ret
    exact ⟨by first | rfl | exact ret_bool (by first | rfl | rw [hz]), hb⟩
  · have h1' : decide (x.r < y.r) = false := decide_eq_false h1
    by_cases h2 : x.r = y.r
    · have hz : befB x y = decide (x.a < y.a) := by unfold befB; rw [Bool.eq_iff_iff, decide_eq_true_iff, decide_eq_true_iff]; omega
      have h2' : (x.r == y.r) = true := by simpa using h2
      clear h1 h2
      go_enter Tryz.func65, Tryz.ntmps65
      go_wp2
      go_ret
      exact ⟨by first | rfl | exact ret_bool (by first | rfl | rw [hz]), hb⟩
    · have hz : befB x y = false := decide_eq_false (by omega)
      have h2' : (x.r == y.r) = false := by simpa using h2
      go_enter Tryz.func65, Tryz.ntmps65
      go_wp2
      go_ret
      exact ⟨by first | rfl | exact ret_bool (by first | rfl | rw [hz]), hb⟩

theorem vtx_no1 {c : List Int} {x : Vx} (h : rngB x.r = false) : vtxB c x = false := by unfold vtxB; rw [h]; rfl
theorem vtx_no2 {c : List Int} {x : Vx} (h : ¬ (0 ≤ x.a ∧ x.a < (c.length : Int))) : vtxB c x = false := by
  unfold vtxB; rw [show autB c.length x.a = false from decide_eq_false (by omega)]; simp
theorem vtx_no3 {c : List Int} {x : Vx} (h : digB x.d = false) : vtxB c x = false := by unfold vtxB; rw [h]; simp
theorem vtx_0 {c : List Int} {x : Vx} (h1 : rngB x.r = true) (h2 : 0 ≤ x.a ∧ x.a < (c.length : Int)) (h3 : digB x.d = true) (h0 : x.r = 0) : vtxB c x = decide (x.ps.length = 0) := by
  unfold vtxB quoB
  rw [h1, h3, show autB c.length x.a = true from decide_eq_true (by omega), if_pos h0]
  by_cases hp : x.ps.length = 0
  · have : x.ps = [] := List.eq_nil_of_length_eq_zero hp
    rw [this]; rfl
  · rw [decide_eq_false hp]; simp
theorem vtx_1 {c : List Int} {x : Vx} (h1 : rngB x.r = true) (h2 : 0 ≤ x.a ∧ x.a < (c.length : Int)) (h3 : digB x.d = true) (h0 : ¬ x.r = 0) : vtxB c x = qmB c x.ps := by
  unfold vtxB quoB qmB
  rw [h1, h3, show autB c.length x.a = true from decide_eq_true (by omega), if_neg h0]
  simp
set_option maxHeartbeats 1000000 in
theorem vertex_fits (ac : Option Addr) (capc : Nat) (c : List Int) (x : Vx) (pa : Option Addr) (pc : Nat) (w : World) (hv : validB c = true) (hbig : x.ps.length ≤ 1099511627776) (hc : IntsAt w ac c) (hp : IntsAt w pa x.ps) :
    Calls Tryz.prog 85 #[.agg #[.int .i64 x.r, .int .i64 x.a, .slice pa x.ps.length pc, .int .i64 x.d], .slice ac c.length capc] w fun e w' => e = .returned (.bool (vtxB c x)) ∧ Below w.heap.size w w' := by
  obtain ⟨hn1, hn7⟩ := validB_len hv
  have hb0 : Below w.heap.size w (w.alloc (.cells #[.int .i64 x.r, .int .i64 x.a, .slice pa x.ps.length pc, .int .i64 x.d] 39)) := (Below.refl _ _).alloc (Nat.le_refl _) _
  have s0 := Str.new w 39 #[.int .i64 x.r, .int .i64 x.a, .slice pa x.ps.length pc, .int .i64 x.d]
  have k0 := s0.cell 0 (v := .int .i64 x.r) rfl
  have k1 := s0.cell 1 (v := .int .i64 x.a) rfl
  have k2 := s0.cell 2 (v := .slice pa x.ps.length pc) rfl
  have k3 := s0.cell 3 (v := .int .i64 x.d) rfl
  have H4 := Lib.hid (committee_isQuorum ac capc c pa pc x.ps _ hv hbig (hc.below hb0) (hp.below hb0))
  have Hb0 := Lib.hid hb0
  have N1 := Lib.hid (vtx_no1 (c := c) (x := x))
  have N2 := Lib.hid (vtx_no2 (c := c) (x := x))
  have N3 := Lib.hid (vtx_no3 (c := c) (x := x))
  have Y0 := Lib.hid (vtx_0 (c := c) (x := x))
  have Y1 := Lib.hid (vtx_1 (c := c) (x := x))
  clear hb0 s0 hc hp
  go_enter Tryz.func85, Tryz.ntmps85
  go_wp2_with fail
  generalize w.alloc (.cells #[.int .i64 x.r, .int .i64 x.a, .slice pa x.ps.length pc, .int .i64 x.d] 39) = W0 at *
  refine (impl_isRound x.r W0).mono ?_
  rintro e w1 ⟨rfl, rfl⟩
  cases h1 : rngB x.r with
  | false =>
    have hz := N1.out h1
    go_wp2
    go_ret
    exact ⟨ret_bool (by rw [hz]), Hb0.out⟩
  | true =>
  by_cases h2 : 0 ≤ x.a
  case neg =>
    have Hz := Lib.hid (N2.out (by omega))
    have h2' : x.a < 0 := by omega
    go_wp2
    go_ret
    exact ⟨ret_bool (by rw [Hz.out]), Hb0.out⟩
  by_cases h3 : x.a < (c.length : Int)
  case neg =>
    have Hz := Lib.hid (N2.out (by omega))
    have h3' : (c.length : Int) ≤ x.a := by omega
    go_wp2
    go_ret
    exact ⟨ret_bool (by rw [Hz.out]), Hb0.out⟩
  have h3' : ¬ (c.length : Int) ≤ x.a := by omega
  go_wp2_with fail
  refine (impl_isDigest x.d W0).mono ?_
  rintro e w1 ⟨rfl, rfl⟩
  cases h4 : digB x.d with
  | false =>
    have Hz := Lib.hid (N3.out h4)
    go_wp2
    go_ret
    exact ⟨ret_bool (by rw [Hz.out]), Hb0.out⟩
  | true =>
  by_cases h0 : x.r = 0
  · have Hz := Lib.hid (Y0.out h1 ⟨h2, h3⟩ h4 h0)
    have h0' : (x.r == 0) = true := by simpa using h0
    clear h0 N1 N2 N3 Y0 Y1
    go_wp2
    go_ret
    exact ⟨ret_bool (by rw [Hz.out, Bool.eq_iff_iff, beq_iff_eq, decide_eq_true_iff]; omega), Hb0.out⟩
  · have Hz := Lib.hid (Y1.out h1 ⟨h2, h3⟩ h4 h0)
    have h0' : (x.r == 0) = false := by simpa using h0
    clear N1 N2 N3 Y0 Y1
    go_wp2_with fail
    refine H4.out.mono ?_
    rintro e w1 ⟨rfl, rfl⟩
    go_wp2
    go_ret
    exact ⟨ret_bool (by rw [Hz.out]), Hb0.out⟩

theorem same_yes {x y : Vx} (h1 : x.r = y.r) (h2 : x.a = y.a) (h4 : x.d = y.d) : sameB x y = decide (x.ps = y.ps) := by
  by_cases h : x.ps = y.ps
  · rw [decide_eq_true h]; exact decide_eq_true (vx_ext h1 h2 h h4)
  · rw [decide_eq_false h]; exact decide_eq_false fun e => h (by rw [e])
set_option maxHeartbeats 1000000 in
theorem impl_sameVertex (x y : Vx) (pa pa' : Option Addr) (pc pc' : Nat) (w : World) (hx : x.ps.length ≤ 1099511627776) (hy : y.ps.length ≤ 1099511627776) (hp : IntsAt w pa x.ps) (hp' : IntsAt w pa' y.ps) :
    Calls Tryz.prog 86 #[.agg #[.int .i64 x.r, .int .i64 x.a, .slice pa x.ps.length pc, .int .i64 x.d], .agg #[.int .i64 y.r, .int .i64 y.a, .slice pa' y.ps.length pc', .int .i64 y.d]] w fun e w' => e = .returned (.bool (sameB x y)) ∧ Below w.heap.size w w' := by
  have hb : Below w.heap.size w ((w.alloc (.cells #[.int .i64 x.r, .int .i64 x.a, .slice pa x.ps.length pc, .int .i64 x.d] 39)).alloc (.cells #[.int .i64 y.r, .int .i64 y.a, .slice pa' y.ps.length pc', .int .i64 y.d] 39)) := ((Below.refl _ w).alloc (Nat.le_refl _) _).alloc (by simp) _
  have H4 := Lib.hid (lib_Equal pa pa' pc pc' x.ps y.ps _ hx hy (hp.below hb) (hp'.below hb))
  have Hb := Lib.hid hb; clear hb hp hp'
  by_cases h1 : x.r = y.r
  case neg =>
    have Hz := Lib.hid (sameB_no (x := x) (y := y) (fun e => h1 (by rw [e])))
    have e1 : (x.r == y.r) = false := by simpa using h1
    clear h1
    go_enter Tryz.func86, Tryz.ntmps86
    go_wp2
    go_ret
    exact ⟨by first | rfl | exact ret_bool (by rw [Hz.out]), Hb.out⟩
  have e1 : (x.r == y.r) = true := by simpa using h1
  by_cases h2 : x.a = y.a
  case neg =>
    have Hz := Lib.hid (sameB_no (x := x) (y := y) (fun e => h2 (by rw [e])))
    have e2 : (x.a == y.a) = false := by simpa using h2
    clear h1 h2
    go_enter Tryz.func86, Tryz.ntmps86
    go_wp2
    go_ret
    exact ⟨by first | rfl | exact ret_bool (by rw [Hz.out]), Hb.out⟩
  have e2 : (x.a == y.a) = true := by simpa using h2
  by_cases h4 : x.d = y.d
  case neg =>
    have Hz := Lib.hid (sameB_no (x := x) (y := y) (fun e => h4 (by rw [e])))
    have e4 : (x.d == y.d) = false := by simpa using h4
    clear h1 h2 h4
    go_enter Tryz.func86, Tryz.ntmps86
    go_wp2
    go_ret
    exact ⟨by first | rfl | exact ret_bool (by rw [Hz.out]), Hb.out⟩
  have e4 : (x.d == y.d) = true := by simpa using h4
  have Hz := Lib.hid (same_yes h1 h2 h4)
  clear h1 h2 h4
  go_enter Tryz.func86, Tryz.ntmps86
  go_wp2_with fail
  refine H4.out.mono ?_
  rintro e w1 ⟨rfl, hd⟩
  have Hb1 := Lib.hid (below_step Hb.out Hb.out.size (hd.below _))
  clear hd
  go_wp2
  go_ret
  exact ⟨ret_bool (by rw [Hz.out]), Hb1.out⟩

end Go.Proofs.YtjaacdapibokiaaGreatDoor
