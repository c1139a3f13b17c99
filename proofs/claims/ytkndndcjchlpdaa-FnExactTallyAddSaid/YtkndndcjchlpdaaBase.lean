/- Words of this proof's own on lists of integers in memory and their arithmetic, without conditions; nothing here speaks of the program. -/
import Derived.ProofKit
import Derived.WalkKit
import Derived.WalkSmall
import Derived.Lib.Hide
import Derived.Deep.Draws
import Derived.Deep.OwnRows
namespace Go.Proofs.Ytkndndcjchlpdaa
open Go.RowKit

theorem ret_bool {a b : Bool} (h : a = b) : Ending.returned (.bool a) = .returned (.bool b) := by rw [h]
theorem ret_int {k : IntKind} {a b : Int} (h : a = b) : Ending.returned (.int k a) = .returned (.int k b) := by rw [h]
theorem int_eq {k : IntKind} {a b : Int} (h : a = b) : Value.int k a = Value.int k b := by rw [h]

/-- The slice at address a reads as xs. -/
def IntsAt (w : World) (a : Option Addr) (xs : List Int) : Prop :=
  xs = [] ∨ ∃ b off, a = some ⟨b, off, none⟩ ∧ b < w.heap.size ∧ ∀ j (h : j < xs.length), w.cell? ⟨b, off + j, none⟩ = some (.int .i64 xs[j])

theorem IntsAt.cell {w : World} {a : Option Addr} {xs : List Int} (h : IntsAt w a xs) (hx : 0 < xs.length) : ∃ b off, a = some ⟨b, off, none⟩ ∧ b < w.heap.size ∧ ∀ j (h : j < xs.length), w.cell? ⟨b, off + j, none⟩ = some (.int .i64 xs[j]) := by
  rcases h with rfl | h
  · simp at hx
  · exact h

theorem IntsAt.len {w : World} {a : Option Addr} {xs : List Int} (h : IntsAt w a xs) : xs.length < 1 ∨ ∃ b off, a = some ⟨b, off, none⟩ ∧ b < w.heap.size ∧ ∀ j (h : j < xs.length), w.cell? ⟨b, off + j, none⟩ = some (.int .i64 xs[j]) := by
  rcases h with rfl | h
  · exact .inl (by simp)
  · exact .inr h

/-- Nothing but draws lies between the two worlds. -/
def Drawn (w w' : World) : Prop := ∃ q, w' = w.drewN q
theorem Drawn.refl (w : World) : Drawn w w := ⟨0, rfl⟩
theorem Drawn.drewN {a w : World} (h : Drawn a w) (n : Nat) : Drawn a (w.drewN n) := by
  obtain ⟨q, rfl⟩ := h; exact ⟨q + n, World.drewN_drewN ..⟩
theorem Drawn.trans {a b c : World} (h : Drawn a b) (k : Drawn b c) : Drawn a c := by
  obtain ⟨q, rfl⟩ := k; exact h.drewN q
theorem Drawn.cell {a w : World} (h : Drawn a w) (p : Addr) : w.cell? p = a.cell? p := by obtain ⟨q, rfl⟩ := h; rfl
theorem Drawn.size {a w : World} (h : Drawn a w) : w.heap.size = a.heap.size := by obtain ⟨q, rfl⟩ := h; rfl
theorem Drawn.ints {a w : World} (h : Drawn a w) {p : Option Addr} {xs : List Int} (hx : IntsAt a p xs) : IntsAt w p xs := by obtain ⟨q, rfl⟩ := h; exact hx
theorem turned {P : Program} {f : FuncId} {args : Array Value} {w : World} {v : Value} (h : Calls P f args w fun e w' => e = .returned v ∧ w = w') : Calls P f args w fun e w' => e = .returned v ∧ w' = w :=
  h.mono fun _ _ ⟨a, b⟩ => ⟨a, b.symm⟩

/-- The first k elements have p. -/
def Pre (p : Int → Bool) (xs : List Int) (k : Nat) : Prop := ∀ j (h : j < xs.length), j < k → p xs[j] = true
theorem pre_zero (p : Int → Bool) (xs : List Int) : Pre p xs 0 := fun _ _ h => by omega
theorem pre_step {p : Int → Bool} {xs : List Int} {k : Nat} (hp : Pre p xs k) (hk : k < xs.length) (h : p xs[k] = true) : Pre p xs (k + 1) := by
  intro j hj hjk
  by_cases e : j = k
  · subst e; exact h
  · exact hp j hj (by omega)
theorem pre_all {p : Int → Bool} {xs : List Int} {k : Nat} (hp : Pre p xs k) (hk : xs.length ≤ k) : xs.all p = true := by
  rw [List.all_eq_true]
  intro x hx
  obtain ⟨j, hj, rfl⟩ := List.mem_iff_getElem.1 hx
  exact hp j hj (by omega)
theorem pre_not {p : Int → Bool} {xs : List Int} {k : Nat} (hk : k < xs.length) (h : p xs[k] = false) : xs.all p = false := by
  rw [List.all_eq_false]
  exact ⟨xs[k], List.getElem_mem hk, by simp [h]⟩
theorem pre_of_all {p : Int → Bool} {xs : List Int} (h : xs.all p = true) (k : Nat) : Pre p xs k := fun j hj _ => by
  rw [List.all_eq_true] at h; exact h _ (List.getElem_mem hj)

/-! committees -/
def goodB (x : Int) : Bool := decide (1 ≤ x ∧ x ≤ 9)
theorem goodB_yes {x : Int} (h1 : 1 ≤ x) (h2 : x ≤ 9) : goodB x = true := by unfold goodB; simp; omega
theorem goodB_no {x : Int} (h : x < 1 ∨ 9 < x) : goodB x = false := by unfold goodB; simp; omega
theorem goodB_bd {x : Int} (h : goodB x = true) : 1 ≤ x ∧ x ≤ 9 := by unfold goodB at h; simpa using h
def validB (c : List Int) : Bool := decide (1 ≤ c.length ∧ c.length ≤ 7) && c.all goodB
theorem validB_no {c : List Int} (h : ¬ (1 ≤ c.length ∧ c.length ≤ 7)) : validB c = false := by
  unfold validB; rw [decide_eq_false h, Bool.false_and]
theorem validB_bad {c : List Int} {j : Nat} (hj : j < c.length) (h : goodB c[j] = false) : validB c = false := by
  unfold validB; rw [pre_not hj h, Bool.and_false]
theorem validB_yes {c : List Int} {k : Nat} (h1 : 1 ≤ c.length) (h2 : c.length ≤ 7) (h : Pre goodB c k) (hk : c.length ≤ k) : validB c = true := by
  unfold validB; rw [pre_all h hk, decide_eq_true ⟨h1, h2⟩]; rfl
theorem validB_len {c : List Int} (h : validB c = true) : 1 ≤ c.length ∧ c.length ≤ 7 := by
  unfold validB at h; simp at h; omega
theorem validB_good {c : List Int} (h : validB c = true) : ∀ j (hj : j < c.length), 1 ≤ c[j] ∧ c[j] ≤ 9 := fun j hj => by
  unfold validB at h
  rw [Bool.and_eq_true] at h
  exact goodB_bd (pre_of_all h.2 c.length j hj hj)

/-- The sum of the first k weights. -/
def sumTo (c : List Int) (k : Nat) : Int := (c.take k).sum
theorem sumTo_zero (c : List Int) : sumTo c 0 = 0 := rfl
theorem sumTo_succ {c : List Int} {k : Nat} (hk : k < c.length) : sumTo c (k + 1) = sumTo c k + c[k] := by
  unfold sumTo
  rw [List.take_succ_eq_append_getElem hk, List.sum_append]
  simp
theorem sumTo_bd {c : List Int} (h : validB c = true) (k : Nat) (hk : k ≤ c.length) : (k : Int) ≤ sumTo c k ∧ sumTo c k ≤ 9 * k := by
  induction k with
  | zero => simp [sumTo]
  | succ k ih =>
    have := ih (by omega)
    have g := validB_good h k (by omega)
    rw [sumTo_succ (by omega)]
    omega
def totalZ (c : List Int) : Int := sumTo c c.length
theorem totalZ_bd {c : List Int} (h : validB c = true) : 1 ≤ totalZ c ∧ totalZ c ≤ 63 := by
  have := sumTo_bd h c.length (Nat.le_refl _)
  have := validB_len h
  unfold totalZ; omega

/-! sets of members -/
def okAt (n : Nat) (ms : List Int) (j : Nat) : Bool := decide (0 ≤ ms.getD j 0 ∧ ms.getD j 0 < n ∧ (j = 0 ∨ ms.getD (j - 1) 0 < ms.getD j 0))
theorem getD_get {ms : List Int} {k : Nat} (hk : k < ms.length) : ms.getD k 0 = ms[k] := by simp [List.getD, List.getElem?_eq_getElem hk]
theorem okAt_yes {n : Nat} {ms : List Int} {k : Nat} (hk : k < ms.length) (h0 : 0 ≤ ms[k]) (h1 : ms[k] < n) (h2 : k = 0 ∨ ms.getD (k - 1) 0 < ms[k]) : okAt n ms k = true := by
  unfold okAt; rw [getD_get hk]; exact decide_eq_true ⟨h0, h1, h2⟩
theorem okAt_no {n : Nat} {ms : List Int} {k : Nat} (hk : k < ms.length) (h : ¬ (0 ≤ ms[k] ∧ ms[k] < n ∧ (k = 0 ∨ ms.getD (k - 1) 0 < ms[k]))) : okAt n ms k = false := by
  unfold okAt; rw [getD_get hk]; exact decide_eq_false h
theorem okAt_bd {n : Nat} {ms : List Int} {k : Nat} (hk : k < ms.length) (h : okAt n ms k = true) : 0 ≤ ms[k] ∧ ms[k] < n ∧ (k = 0 ∨ ms.getD (k - 1) 0 < ms[k]) := by
  unfold okAt at h; rw [getD_get hk] at h; exact of_decide_eq_true h
/-- All numbers below k have p. -/
def Upto (p : Nat → Bool) (k : Nat) : Prop := ∀ j, j < k → p j = true
theorem upto_zero (p : Nat → Bool) : Upto p 0 := fun _ h => by omega
theorem upto_step {p : Nat → Bool} {k : Nat} (hp : Upto p k) (h : p k = true) : Upto p (k + 1) := by
  intro j hj
  by_cases e : j = k
  · subst e; exact h
  · exact hp j (by omega)
def allB (p : Nat → Bool) (n : Nat) : Bool := (List.range n).all p
theorem allB_yes {p : Nat → Bool} {n k : Nat} (h : Upto p k) (hk : n ≤ k) : allB p n = true := by
  unfold allB; rw [List.all_eq_true]; intro x hx; exact h x (by have := List.mem_range.1 hx; omega)
theorem allB_no {p : Nat → Bool} {n k : Nat} (hk : k < n) (h : p k = false) : allB p n = false := by
  unfold allB; rw [List.all_eq_false]; exact ⟨k, List.mem_range.2 hk, by simp [h]⟩
theorem allB_upto {p : Nat → Bool} {n : Nat} (h : allB p n = true) : Upto p n := by
  unfold allB at h; rw [List.all_eq_true] at h; intro j hj; exact h j (List.mem_range.2 hj)
def membersB (n : Nat) (ms : List Int) : Bool := allB (okAt n ms) ms.length
theorem membersB_at {n : Nat} {ms : List Int} (h : membersB n ms = true) : ∀ j (hj : j < ms.length), 0 ≤ ms[j] ∧ ms[j] < n := fun j hj => by
  have := okAt_bd hj (allB_upto h j hj); exact ⟨this.1, this.2.1⟩
/-- What stands before place k, or -1. -/
def prevZ (ms : List Int) (k : Nat) : Int := if k = 0 then -1 else ms.getD (k - 1) 0
theorem prevZ_zero (ms : List Int) : prevZ ms 0 = -1 := rfl
theorem prevZ_succ {ms : List Int} {k : Nat} (hk : k < ms.length) : prevZ ms (k + 1) = ms[k] := by
  unfold prevZ; rw [if_neg (by omega), Nat.add_sub_cancel, getD_get hk]
theorem prevZ_lo {n : Nat} {ms : List Int} {k : Nat} (h : Upto (okAt n ms) k) (hk : k ≤ ms.length) : -1 ≤ prevZ ms k := by
  cases k with
  | zero => simp [prevZ]
  | succ k => rw [prevZ_succ (by omega)]; have := okAt_bd (by omega) (h k (by omega)); omega
theorem prevZ_hi {n : Nat} {ms : List Int} {k : Nat} (h : Upto (okAt n ms) k) (hk : k ≤ ms.length) : prevZ ms k < n ∨ prevZ ms k = -1 := by
  cases k with
  | zero => simp [prevZ]
  | succ k => rw [prevZ_succ (by omega)]; have := okAt_bd (by omega) (h k (by omega)); omega
theorem okAt_prev {n : Nat} {ms : List Int} {k : Nat} (hk : k < ms.length) (hl : -1 ≤ prevZ ms k) (h1 : prevZ ms k < ms[k]) (h2 : ms[k] < n) : okAt n ms k = true := by
  refine okAt_yes hk (by omega) h2 ?_
  by_cases e : k = 0
  · exact .inl e
  · refine .inr ?_
    unfold prevZ at h1; rw [if_neg e] at h1; exact h1
theorem okAt_prev_no {n : Nat} {ms : List Int} {k : Nat} (hk : k < ms.length) (h : ¬ (prevZ ms k < ms[k] ∧ ms[k] < n)) : okAt n ms k = false := by
  refine okAt_no hk ?_
  rintro ⟨h0, h1, h2⟩
  refine h ⟨?_, h1⟩
  unfold prevZ
  by_cases e : k = 0
  · rw [if_pos e]; omega
  · rw [if_neg e]; exact h2.resolve_left e

/-- The weight of the first k of some members. -/
def weightTo (c ms : List Int) (k : Nat) : Int := ((ms.take k).map fun m => c.getD m.toNat 0).sum
theorem weightTo_zero (c ms : List Int) : weightTo c ms 0 = 0 := rfl
theorem weightTo_succ {c ms : List Int} {k : Nat} (hk : k < ms.length) : weightTo c ms (k + 1) = weightTo c ms k + c.getD ms[k].toNat 0 := by
  unfold weightTo
  rw [List.take_succ_eq_append_getElem hk, List.map_append, List.sum_append]
  simp
theorem good_getD {c : List Int} (h : validB c = true) {i : Nat} (hi : i < c.length) : 1 ≤ c.getD i 0 ∧ c.getD i 0 ≤ 9 := by
  rw [getD_get hi]; exact validB_good h i hi
theorem weightTo_bd {c ms : List Int} (h : validB c = true) (hm : membersB c.length ms = true) (k : Nat) (hk : k ≤ ms.length) : 0 ≤ weightTo c ms k ∧ weightTo c ms k ≤ 9 * k := by
  induction k with
  | zero => simp [weightTo]
  | succ k ih =>
    have := ih (by omega)
    have g := membersB_at hm k (by omega)
    have := good_getD h (i := ms[k].toNat) (by omega)
    rw [weightTo_succ (by omega)]
    omega
def weightZ (c ms : List Int) : Int := weightTo c ms ms.length

/-- The answer x where c is a committee, else -1. -/
def orNo (c : List Int) (x : Int) : Int := if validB c = true then x else -1
theorem orNo_yes {c : List Int} (h : validB c = true) (x : Int) : orNo c x = x := by unfold orNo; rw [if_pos h]
theorem orNo_no {c : List Int} (h : validB c = false) (x : Int) : orNo c x = -1 := by unfold orNo; rw [if_neg (by simp [h])]

def mvB (c ms : List Int) : Bool := validB c && membersB c.length ms
theorem mvB_yes {c : List Int} (h : validB c = true) (ms : List Int) : mvB c ms = membersB c.length ms := by unfold mvB; rw [h, Bool.true_and]
theorem mvB_no {c : List Int} (h : validB c = false) (ms : List Int) : mvB c ms = false := by unfold mvB; rw [h, Bool.false_and]
theorem mvB_valid {c ms : List Int} (h : mvB c ms = true) : validB c = true := by unfold mvB at h; rw [Bool.and_eq_true] at h; exact h.1
theorem mvB_members {c ms : List Int} (h : mvB c ms = true) : membersB c.length ms = true := by unfold mvB at h; rw [Bool.and_eq_true] at h; exact h.2
def mwZ (c ms : List Int) : Int := if mvB c ms = true then weightZ c ms else -1
theorem mwZ_yes {c ms : List Int} (h : mvB c ms = true) : mwZ c ms = weightZ c ms := by unfold mwZ; rw [if_pos h]
theorem mwZ_no {c ms : List Int} (h : mvB c ms = false) : mwZ c ms = -1 := by unfold mwZ; rw [if_neg (by simp [h])]

/-! slices of the call's own -/
/-- T is the type of slices of ints, E the type of ints. -/
structure IntT (P : Program) (T E : TypeId) : Prop where
  sl : P.underlying T = some (.slice E)
  info : (P.info? E).map (fun i => (i.zero, i.size, i.bytes)) = some (some (.int .i64 0), 1, 8)

/-- The slice value v owns the numbers xs in memory made from block B on. -/
def Own (E : TypeId) (w : World) (B : Nat) (v : Value) (xs : List Int) : Prop := w.ownsRow B E 1 v xs.length (xs.map (Value.int .i64))

theorem addr_add (g j : Nat) : (⟨g, 0, none⟩ : Addr).add j = ⟨g, j, none⟩ := by unfold Addr.add; split <;> simp_all
theorem addr_add' (g o j : Nat) : (⟨g, o, none⟩ : Addr).add j = ⟨g, o + j, none⟩ := by unfold Addr.add; split <;> simp_all

theorem Own.nil (E : TypeId) (w : World) (B : Nat) : Own E w B (.slice none 0 0) [] := World.ownsRow_nil _ _ _ _
/-- An owned slice as a value, and how it reads. -/
theorem Own.ints {E : TypeId} {w : World} {B : Nat} {v : Value} {xs : List Int} (h : Own E w B v xs) : ∃ a cap, v = .slice a xs.length cap ∧ IntsAt w a xs ∧ xs.length ≤ maxLen := by
  rcases h.2 with ⟨rfl, h0⟩ | ⟨g, cap, cur, rfl, hb, hg, hn, hm, hs, ht⟩
  · have : xs = [] := List.eq_nil_of_length_eq_zero h0
    subst this
    exact ⟨none, 0, rfl, .inl rfl, by simp⟩
  · refine ⟨_, cap, rfl, .inr ⟨g, 0, rfl, (Array.getElem?_eq_some_iff.1 hg).1, fun j hj => ?_⟩, by omega⟩
    have hc := World.ownsRow.cells (w := w) (base := B) (e := E) (size := 1) (v := .slice (some ⟨g, 0, none⟩) xs.length cap) (n := xs.length) (xs := xs.map (Value.int .i64)) h (g := g) rfl j (.int .i64 xs[j]) (by simp [hj])
    rw [addr_add] at hc
    simpa using hc
theorem Own.kept {E : TypeId} {w w' : World} {B : Nat} {v : Value} {xs : List Int} {row : Option Nat} (h : Own E w B v xs) (hg : w.grownBy w' row) (hne : v.ownBlock = none ∨ v.ownBlock ≠ row) : Own E w' B v xs := World.ownsRow.kept h hg hne
theorem below_grown {w w' : World} (h : Below w.heap.size w w') : w.grownBy w' none := ⟨h.os, h.tape, h.output, h.size, fun k hk _ => h.block k hk⟩
theorem Own.below {E : TypeId} {w w' : World} {B : Nat} {v : Value} {xs : List Int} (h : Own E w B v xs) (hg : Below w.heap.size w w') : Own E w' B v xs :=
  h.kept (below_grown hg) (by cases hv : v.ownBlock <;> simp)
theorem Own.alloc {E : TypeId} {w : World} {B : Nat} {v : Value} {xs : List Int} (h : Own E w B v xs) (o : Obj) : Own E (w.alloc o) B v xs := World.ownsRow.alloc h o
theorem Own.mono {E : TypeId} {w : World} {B B' : Nat} {v : Value} {xs : List Int} (h : Own E w B v xs) (hB : B' ≤ B) : Own E w B' v xs := by
  refine ⟨h.1, ?_⟩
  rcases h.2 with h0 | ⟨g, cap, cur, e, hb, rest⟩
  · exact .inl h0
  · exact .inr ⟨g, cap, cur, e, by omega, rest⟩
theorem Own.lt {E : TypeId} {w : World} {B : Nat} {v : Value} {xs : List Int} (h : Own E w B v xs) : ∀ k, v.ownBlock = some k → B ≤ k ∧ k < w.heap.size := World.ownsRow.lt h
theorem Own.drewN {E : TypeId} {w : World} {B : Nat} {v : Value} {xs : List Int} (h : Own E w B v xs) (n : Nat) : Own E (w.drewN n) B v xs := h
theorem IntsAt.below {w w' : World} {a : Option Addr} {xs : List Int} (h : IntsAt w a xs) (hb : Below w.heap.size w w') : IntsAt w' a xs := by
  rcases h with rfl | ⟨b, off, rfl, hlt, hc⟩
  · exact .inl rfl
  · exact .inr ⟨b, off, rfl, Nat.lt_of_lt_of_le hlt hb.size, fun j hj => (hb.cell (p := ⟨b, off + j, none⟩) hlt).trans (hc j hj)⟩
theorem IntsAt.belowB {B : Nat} {w w' : World} {a : Option Addr} {xs : List Int} (h : IntsAt w a xs) (hlt : ∀ p, a = some p → p.block < B) (hb : Below B w w') : IntsAt w' a xs := by
  rcases h with rfl | ⟨b, off, rfl, h0, hc⟩
  · exact .inl rfl
  · exact .inr ⟨b, off, rfl, Nat.lt_of_lt_of_le h0 hb.size, fun j hj => (hb.cell (p := ⟨b, off + j, none⟩) (hlt ⟨b, off, none⟩ rfl)).trans (hc j hj)⟩
theorem Drawn.below {w w' : World} (h : Drawn w w') (B : Nat) : Below B w w' := by obtain ⟨q, rfl⟩ := h; exact below_drewN (Below.refl _ _) q
theorem below_step {B : Nat} {a w w' : World} (h : Below B a w) (hB : B ≤ w.heap.size) (k : Below w.heap.size w w') : Below B a w' := h.trans (k.mono hB)

theorem own_of_row {E : TypeId} {w : World} {b B : Nat} {xs : List Int} (h : w.rowIs b E xs.length (fun j => .int .i64 (xs.getD j 0))) (hB : B ≤ b) (hm : xs.length ≤ maxLen) : Own E w B (.slice (some ⟨b, 0, none⟩) xs.length xs.length) xs := by
  obtain ⟨c, hb, hn, hc⟩ := h
  refine ⟨by simp, .inr ⟨b, xs.length, c, rfl, hB, hb, Nat.le_refl _, hm, by omega, ?_⟩⟩
  apply List.ext_getElem?
  intro j
  rw [List.getElem?_take]
  by_cases hj : j < xs.length
  · rw [if_pos (by omega)]
    have := hc j hj
    rw [Array.getElem?_toList, this]
    simp [hj]
  · rw [if_neg (by omega), List.getElem?_eq_none (by simp; omega)]

theorem cells_one (w : World) (E : TypeId) (z : Int) : ∀ j u, [Value.int .i64 z][j]? = some u → (w.alloc (.cells #[.int .i64 z] E)).cell? ((⟨w.heap.size, 0, none⟩ : Addr).add j) = some u := by
  intro j u hu
  match j, hu with
  | 0, hu =>
    simp at hu; subst hu
    rw [addr_add, World.cell?_alloc_at _ _ _ _ rfl]; rfl
theorem grownBy_trans {w a b : World} {row : Option Nat} (h : w.grownBy a row) (k : a.grownBy b row) : w.grownBy b row :=
  ⟨k.os.trans h.os, k.tape.trans h.tape, k.output.trans h.output, Nat.le_trans h.size k.size, fun i hi hr => (k.block i (Nat.lt_of_lt_of_le hi h.size) hr).trans (h.block i hi hr)⟩

/-- 'append(s, z)' onto a slice of the call's own. -/
theorem wpList_push {P : Program} {T E : TypeId} (hT : IntT P T E) {w : World} {ops : Array Oper} {rest : List Oper} {o : Oper} {a : Act} {Q : Exit → Act → World → Prop} (hgd : o.guard = none) (s x : Operand)
    (ho : o.op = .call { callee := .builtin .append, args := #[s, x], argTypes := #[T, T] }) (B : Nat) (v : Value) (xs : List Int) (z : Int) (hs : a.eval s = v) (hown : Own E w B v xs)
    (hlen : xs.length ≤ 1099511627776) (hx : a.eval x = .slice (some ⟨w.heap.size, 0, none⟩) 1 1) (hB : B ≤ w.heap.size)
    (h : ∀ v' w', Own E w' B v' (xs ++ [z]) → w.grownBy w' v.ownBlock → wpList P ops Q rest (a.put o.dst v') w') : wpList P ops Q (o :: rest) a (w.alloc (.cells #[.int .i64 z] E)) := by
  obtain ⟨i, hi, hz, hsz, hby⟩ := info_parts hT.info
  refine wpList_append_own _ hgd s x T ho B E i (.int .i64 0) 1 8 hT.sl hi hz hsz hby rfl (by decide) v xs.length _ hs (World.ownsRow.alloc hown _) ⟨w.heap.size, 0, none⟩ 1 1 [.int .i64 z] hx rfl (cells_one _ _ _) (by intro u hu; simp at hu; subst hu; rfl) (by unfold maxLen; omega) (by omega) (by simp; omega) ?_
  intro v' w' h1 h2 _
  refine h v' w' ?_ (grownBy_trans (World.grownBy_alloc _ _ _) h2)
  unfold Own; simpa using h1

/-- A new row of n zeros whose first k places have been filled from xs. -/
def filled (xs : List Int) (k : Nat) (j : Nat) : Value := if j < k then .int .i64 (xs.getD j 0) else .int .i64 0
theorem filled_zero (E : TypeId) (w : World) (xs : List Int) : (w.alloc (.cells (madeCells #[.int .i64 0] xs.length) E)).rowIs w.heap.size E xs.length (filled xs 0) :=
  (World.rowIs_made w (.int .i64 0) xs.length E).congr fun i _ => by unfold filled; rw [if_neg (by omega)]
theorem filled_step {E : TypeId} {w : World} {b : Nat} {xs : List Int} {k : Nat} (h : w.rowIs b E xs.length (filled xs k)) (hk : k < xs.length) : (w.setCell ⟨b, k, none⟩ (.int .i64 xs[k])).rowIs b E xs.length (filled xs (k + 1)) :=
  (h.set k _).congr fun i _ => by
    unfold filled
    by_cases e : i = k
    · subst e; rw [if_pos rfl, if_pos (by omega), getD_get hk]
    · rw [if_neg e]; by_cases l : i < k
      · rw [if_pos l, if_pos (by omega)]
      · rw [if_neg l, if_neg (by omega)]
theorem filled_own {E : TypeId} {w : World} {b B : Nat} {xs : List Int} {k : Nat} (h : w.rowIs b E xs.length (filled xs k)) (hk : xs.length ≤ k) (hB : B ≤ b) (hm : xs.length ≤ 1099511627776) : Own E w B (.slice (some ⟨b, 0, none⟩) xs.length xs.length) xs :=
  own_of_row (h.congr fun i hi => by unfold filled; rw [if_pos (by omega)]) hB (by unfold maxLen; omega)

/-- A literal's cells, still there when only others have been written. -/
theorem lit_cell {w w' : World} {E : TypeId} {c : Array Value} {row : Option Nat} (hg : (w.alloc (.cells c E)).grownBy w' row) (hne : some w.heap.size ≠ row) {j : Nat} {v : Value} (hv : c[j]? = some v) : w'.cell? ⟨w.heap.size, j, none⟩ = some v := by
  refine hg.cell ?_ hne
  rw [World.cell?_alloc_at _ _ _ _ rfl]
  simpa using hv
/-- An empty literal. -/
theorem own_empty (E : TypeId) (w : World) {B : Nat} (hB : B ≤ w.heap.size) : Own E (w.alloc (.cells #[] E)) B (.slice (some ⟨w.heap.size, 0, none⟩) 0 0) [] :=
  World.ownsRow_made w #[] 0 hB (by simp) (by simp)

theorem cells_many (w : World) (E : TypeId) (zs : List Int) : ∀ j u, (zs.map (Value.int .i64))[j]? = some u → (w.alloc (.cells (zs.map (Value.int .i64)).toArray E)).cell? ((⟨w.heap.size, 0, none⟩ : Addr).add j) = some u := by
  intro j u hu
  rw [addr_add, World.cell?_alloc_at _ _ _ _ rfl]
  simpa using hu
/-- 'append(s, z0, z1, ..)' onto a slice of the call's own. -/
theorem wpList_pushes {P : Program} {T E : TypeId} (hT : IntT P T E) {w : World} {ops : Array Oper} {rest : List Oper} {o : Oper} {a : Act} {Q : Exit → Act → World → Prop} (hgd : o.guard = none) (s x : Operand)
    (ho : o.op = .call { callee := .builtin .append, args := #[s, x], argTypes := #[T, T] }) (B : Nat) (v : Value) (xs zs : List Int) (n : Nat) (c : Array Value) (hn : n = zs.length) (hcs : c = (zs.map (Value.int .i64)).toArray) (hs : a.eval s = v) (hown : Own E w B v xs)
    (hlen : xs.length + zs.length ≤ 1099511627776) (hx : a.eval x = .slice (some ⟨w.heap.size, 0, none⟩) n n) (hB : B ≤ w.heap.size)
    (h : ∀ v' w', Own E w' B v' (xs ++ zs) → w.grownBy w' v.ownBlock → wpList P ops Q rest (a.put o.dst v') w') : wpList P ops Q (o :: rest) a (w.alloc (.cells c E)) := by
  subst hn; subst hcs
  obtain ⟨i, hi, hz, hsz, hby⟩ := info_parts hT.info
  refine wpList_append_own _ hgd s x T ho B E i (.int .i64 0) 1 8 hT.sl hi hz hsz hby rfl (by decide) v xs.length _ hs (World.ownsRow.alloc hown _) ⟨w.heap.size, 0, none⟩ zs.length zs.length (zs.map (Value.int .i64)) hx (by simp) (cells_many _ _ _) (by intro u hu; simp at hu; obtain ⟨_, _, rfl⟩ := hu; rfl) (by unfold maxLen; omega) (by omega) (by simp; omega) ?_
  intro v' w' h1 h2 _
  refine h v' w' ?_ (grownBy_trans (World.grownBy_alloc _ _ _) h2)
  unfold Own; simpa using h1
/-- An owned slice that is not empty, its cells and that none is frozen. -/
theorem Own.row {E : TypeId} {w : World} {B : Nat} {v : Value} {xs : List Int} (h : Own E w B v xs) (hx : 0 < xs.length) : ∃ g cap, v = .slice (some ⟨g, 0, none⟩) xs.length cap ∧ B ≤ g ∧ g < w.heap.size ∧ xs.length ≤ cap ∧
    (∀ j (h : j < xs.length), w.cell? ⟨g, j, none⟩ = some (.int .i64 xs[j])) ∧ ∀ j, w.frozen? ⟨g, j, none⟩ = false := by
  rcases h.2 with ⟨rfl, h0⟩ | ⟨g, cap, cur, rfl, hb, hg, hn, hm, hs, ht⟩
  · omega
  · refine ⟨g, cap, rfl, hb, (Array.getElem?_eq_some_iff.1 hg).1, hn, fun j hj => ?_, fun j => frozen_of_row w g j cur E hg⟩
    have hc := World.ownsRow.cells (w := w) (base := B) (e := E) (size := 1) (v := .slice (some ⟨g, 0, none⟩) xs.length cap) (n := xs.length) (xs := xs.map (Value.int .i64)) h (g := g) rfl j (.int .i64 xs[j]) (by simp [hj])
    rwa [addr_add] at hc
theorem Own.store {E : TypeId} {w : World} {B g cap n : Nat} {xs : List Int} (h : Own E w B (.slice (some ⟨g, 0, none⟩) n cap) xs) (hn : n = xs.length) (j : Nat) (z : Int) :
    Own E (w.setCell ⟨g, j, none⟩ (.int .i64 z)) B (.slice (some ⟨g, 0, none⟩) n cap) (xs.set j z) ∧ w.grownBy (w.setCell ⟨g, j, none⟩ (.int .i64 z)) (some g) := by
  subst hn
  have := World.ownsRow.stored (w := w) (base := B) (e := E) (size := 1) (g := g) (n := xs.length) (cap := cap) h j (.int .i64 z)
  refine ⟨?_, this.2⟩
  unfold Own
  rw [List.map_set, List.length_set]
  exact this.1
theorem Own.front {E : TypeId} {w : World} {B g cap n : Nat} {xs : List Int} (h : Own E w B (.slice (some ⟨g, 0, none⟩) n cap) xs) (k : Nat) (hk : k ≤ xs.length) : Own E w B (.slice (some ⟨g, 0, none⟩) k cap) (xs.take k) := by
  rcases h.2 with ⟨h', _⟩ | ⟨g', cap', cur, h', hb, hg, hn, hm, hs, ht⟩
  · simp at h'
  · simp only [Value.slice.injEq, Option.some.injEq, Addr.mk.injEq, and_true] at h'
    obtain ⟨rfl, rfl, rfl⟩ := h'
    have hl : (xs.take k).length = k := by rw [List.length_take]; omega
    refine ⟨by simp, .inr ⟨g, cap, cur, by rw [hl], hb, hg, by omega, hm, hs, ?_⟩⟩
    rw [hl, Nat.mul_one, List.map_take, ← ht, Nat.mul_one, List.take_take, Nat.min_eq_left hk]

end Go.Proofs.Ytkndndcjchlpdaa
