/- Texts that the laws of this folder share, one behind another; no conditions. -/
import Derived.ProofKit
import Derived.WalkKit
import Derived.WalkSmall
import Derived.Lib.Hide
import Derived.Deep.Draws
import Derived.Deep.OwnRows
import Derived.OpenShut
import Derived.ChangeOld
import Derived.Below
import Derived.Carry
import Derived.Deep.RegionLaw
import Derived.Maps.AppendAt
import Derived.Test.YtnaeeemgehgdfabRows
import Derived.Deep.QuietTactic
import Derived.BigQuiet
import Derived.Laws.OwnMore
import Derived.Deep.RegionHeld3

/- Words of this proof's own on lists of integers in memory and their arithmetic, without conditions; nothing here speaks of the program. -/
namespace Go.Proofs.Ytnaeeemgehgdfab
open Go.RowKit

theorem ret_bool {a b : Bool} (h : a = b) : Ending.returned (.bool a) = .returned (.bool b) := by rw [h]
theorem ret_int {k : IntKind} {a b : Int} (h : a = b) : Ending.returned (.int k a) = .returned (.int k b) := by rw [h]
theorem int_eq {k : IntKind} {a b : Int} (h : a = b) : Value.int k a = Value.int k b := by rw [h]

/-- The slice at address a reads as xs. -/
def IntsAt (w : World) (a : Option Addr) (xs : List Int) : Prop :=
  xs = [] ∨ ∃ b off, a = some ⟨b, off, none⟩ ∧ b < w.heap.size ∧ ∀ j (h : j < xs.length), w.cell? ⟨b, off + j, none⟩ = some (.int .i64 xs[j])

theorem IntsAt.cell {w : World} {a : Option Addr} {xs : List Int} (h : IntsAt w a xs) (hx : 0 < xs.length) : ∃ b off, a = some ⟨b, off, none⟩ ∧ b < w.heap.size ∧ ∀ j (h : j < xs.length), w.cell? ⟨b, off + j, none⟩ = some (.int .i64 xs[j]) := by
  rcases h with rfl | h
  · simp at hx
  · exact h

theorem IntsAt.len {w : World} {a : Option Addr} {xs : List Int} (h : IntsAt w a xs) : xs.length < 1 ∨ ∃ b off, a = some ⟨b, off, none⟩ ∧ b < w.heap.size ∧ ∀ j (h : j < xs.length), w.cell? ⟨b, off + j, none⟩ = some (.int .i64 xs[j]) := by
  rcases h with rfl | h
  · exact .inl (by simp)
  · exact .inr h

/-- Nothing but draws lies between the two worlds. -/
def Drawn (w w' : World) : Prop := ∃ q, w' = w.drewN q
theorem Drawn.refl (w : World) : Drawn w w := ⟨0, rfl⟩
theorem Drawn.drewN {a w : World} (h : Drawn a w) (n : Nat) : Drawn a (w.drewN n) := by
  obtain ⟨q, rfl⟩ := h; exact ⟨q + n, World.drewN_drewN ..⟩
theorem Drawn.trans {a b c : World} (h : Drawn a b) (k : Drawn b c) : Drawn a c := by
  obtain ⟨q, rfl⟩ := k; exact h.drewN q
theorem Drawn.cell {a w : World} (h : Drawn a w) (p : Addr) : w.cell? p = a.cell? p := by obtain ⟨q, rfl⟩ := h; rfl
theorem Drawn.size {a w : World} (h : Drawn a w) : w.heap.size = a.heap.size := by obtain ⟨q, rfl⟩ := h; rfl
theorem Drawn.ints {a w : World} (h : Drawn a w) {p : Option Addr} {xs : List Int} (hx : IntsAt a p xs) : IntsAt w p xs := by obtain ⟨q, rfl⟩ := h; exact hx
theorem turned {P : Program} {f : FuncId} {args : Array Value} {w : World} {v : Value} (h : Calls P f args w fun e w' => e = .returned v ∧ w = w') : Calls P f args w fun e w' => e = .returned v ∧ w' = w :=
  h.mono fun _ _ ⟨a, b⟩ => ⟨a, b.symm⟩

/-- The first k elements have p. -/
def Pre (p : Int → Bool) (xs : List Int) (k : Nat) : Prop := ∀ j (h : j < xs.length), j < k → p xs[j] = true
theorem pre_zero (p : Int → Bool) (xs : List Int) : Pre p xs 0 := fun _ _ h => by omega
theorem pre_step {p : Int → Bool} {xs : List Int} {k : Nat} (hp : Pre p xs k) (hk : k < xs.length) (h : p xs[k] = true) : Pre p xs (k + 1) := by
  intro j hj hjk
  by_cases e : j = k
  · subst e; exact h
  · exact hp j hj (by omega)
theorem pre_all {p : Int → Bool} {xs : List Int} {k : Nat} (hp : Pre p xs k) (hk : xs.length ≤ k) : xs.all p = true := by
  rw [List.all_eq_true]
  intro x hx
  obtain ⟨j, hj, rfl⟩ := List.mem_iff_getElem.1 hx
  exact hp j hj (by omega)
theorem pre_not {p : Int → Bool} {xs : List Int} {k : Nat} (hk : k < xs.length) (h : p xs[k] = false) : xs.all p = false := by
  rw [List.all_eq_false]
  exact ⟨xs[k], List.getElem_mem hk, by simp [h]⟩
theorem pre_of_all {p : Int → Bool} {xs : List Int} (h : xs.all p = true) (k : Nat) : Pre p xs k := fun j hj _ => by
  rw [List.all_eq_true] at h; exact h _ (List.getElem_mem hj)

/-! committees -/
def goodB (x : Int) : Bool := decide (1 ≤ x ∧ x ≤ 9)
theorem goodB_yes {x : Int} (h1 : 1 ≤ x) (h2 : x ≤ 9) : goodB x = true := by unfold goodB; simp; omega
theorem goodB_no {x : Int} (h : x < 1 ∨ 9 < x) : goodB x = false := by unfold goodB; simp; omega
theorem goodB_bd {x : Int} (h : goodB x = true) : 1 ≤ x ∧ x ≤ 9 := by unfold goodB at h; simpa using h
def validB (c : List Int) : Bool := decide (1 ≤ c.length ∧ c.length ≤ 7) && c.all goodB
theorem validB_no {c : List Int} (h : ¬ (1 ≤ c.length ∧ c.length ≤ 7)) : validB c = false := by
  unfold validB; rw [decide_eq_false h, Bool.false_and]
theorem validB_bad {c : List Int} {j : Nat} (hj : j < c.length) (h : goodB c[j] = false) : validB c = false := by
  unfold validB; rw [pre_not hj h, Bool.and_false]
theorem validB_yes {c : List Int} {k : Nat} (h1 : 1 ≤ c.length) (h2 : c.length ≤ 7) (h : Pre goodB c k) (hk : c.length ≤ k) : validB c = true := by
  unfold validB; rw [pre_all h hk, decide_eq_true ⟨h1, h2⟩]; rfl
theorem validB_len {c : List Int} (h : validB c = true) : 1 ≤ c.length ∧ c.length ≤ 7 := by
  unfold validB at h; simp at h; omega
theorem validB_good {c : List Int} (h : validB c = true) : ∀ j (hj : j < c.length), 1 ≤ c[j] ∧ c[j] ≤ 9 := fun j hj => by
  unfold validB at h
  rw [Bool.and_eq_true] at h
  exact goodB_bd (pre_of_all h.2 c.length j hj hj)

/-- The sum of the first k weights. -/
def sumTo (c : List Int) (k : Nat) : Int := (c.take k).sum
theorem sumTo_zero (c : List Int) : sumTo c 0 = 0 := rfl
theorem sumTo_succ {c : List Int} {k : Nat} (hk : k < c.length) : sumTo c (k + 1) = sumTo c k + c[k] := by
  unfold sumTo
  rw [List.take_succ_eq_append_getElem hk, List.sum_append]
  simp
theorem sumTo_bd {c : List Int} (h : validB c = true) (k : Nat) (hk : k ≤ c.length) : (k : Int) ≤ sumTo c k ∧ sumTo c k ≤ 9 * k := by
  induction k with
  | zero => simp [sumTo]
  | succ k ih =>
    have := ih (by omega)
    have g := validB_good h k (by omega)
    rw [sumTo_succ (by omega)]
    omega
def totalZ (c : List Int) : Int := sumTo c c.length
theorem totalZ_bd {c : List Int} (h : validB c = true) : 1 ≤ totalZ c ∧ totalZ c ≤ 63 := by
  have := sumTo_bd h c.length (Nat.le_refl _)
  have := validB_len h
  unfold totalZ; omega

/-! sets of members -/
def okAt (n : Nat) (ms : List Int) (j : Nat) : Bool := decide (0 ≤ ms.getD j 0 ∧ ms.getD j 0 < n ∧ (j = 0 ∨ ms.getD (j - 1) 0 < ms.getD j 0))
theorem getD_get {ms : List Int} {k : Nat} (hk : k < ms.length) : ms.getD k 0 = ms[k] := by simp [List.getD, List.getElem?_eq_getElem hk]
theorem okAt_yes {n : Nat} {ms : List Int} {k : Nat} (hk : k < ms.length) (h0 : 0 ≤ ms[k]) (h1 : ms[k] < n) (h2 : k = 0 ∨ ms.getD (k - 1) 0 < ms[k]) : okAt n ms k = true := by
  unfold okAt; rw [getD_get hk]; exact decide_eq_true ⟨h0, h1, h2⟩
theorem okAt_no {n : Nat} {ms : List Int} {k : Nat} (hk : k < ms.length) (h : ¬ (0 ≤ ms[k] ∧ ms[k] < n ∧ (k = 0 ∨ ms.getD (k - 1) 0 < ms[k]))) : okAt n ms k = false := by
  unfold okAt; rw [getD_get hk]; exact decide_eq_false h
theorem okAt_bd {n : Nat} {ms : List Int} {k : Nat} (hk : k < ms.length) (h : okAt n ms k = true) : 0 ≤ ms[k] ∧ ms[k] < n ∧ (k = 0 ∨ ms.getD (k - 1) 0 < ms[k]) := by
  unfold okAt at h; rw [getD_get hk] at h; exact of_decide_eq_true h
/-- All numbers below k have p. -/
def Upto (p : Nat → Bool) (k : Nat) : Prop := ∀ j, j < k → p j = true
theorem upto_zero (p : Nat → Bool) : Upto p 0 := fun _ h => by omega
theorem upto_step {p : Nat → Bool} {k : Nat} (hp : Upto p k) (h : p k = true) : Upto p (k + 1) := by
  intro j hj
  by_cases e : j = k
  · subst e; exact h
  · exact hp j (by omega)
def allB (p : Nat → Bool) (n : Nat) : Bool := (List.range n).all p
theorem allB_yes {p : Nat → Bool} {n k : Nat} (h : Upto p k) (hk : n ≤ k) : allB p n = true := by
  unfold allB; rw [List.all_eq_true]; intro x hx; exact h x (by have := List.mem_range.1 hx; omega)
theorem allB_no {p : Nat → Bool} {n k : Nat} (hk : k < n) (h : p k = false) : allB p n = false := by
  unfold allB; rw [List.all_eq_false]; exact ⟨k, List.mem_range.2 hk, by simp [h]⟩
theorem allB_upto {p : Nat → Bool} {n : Nat} (h : allB p n = true) : Upto p n := by
  unfold allB at h; rw [List.all_eq_true] at h; intro j hj; exact h j (List.mem_range.2 hj)
def membersB (n : Nat) (ms : List Int) : Bool := allB (okAt n ms) ms.length
theorem membersB_at {n : Nat} {ms : List Int} (h : membersB n ms = true) : ∀ j (hj : j < ms.length), 0 ≤ ms[j] ∧ ms[j] < n := fun j hj => by
  have := okAt_bd hj (allB_upto h j hj); exact ⟨this.1, this.2.1⟩
/-- What stands before place k, or -1. -/
def prevZ (ms : List Int) (k : Nat) : Int := if k = 0 then -1 else ms.getD (k - 1) 0
theorem prevZ_zero (ms : List Int) : prevZ ms 0 = -1 := rfl
theorem prevZ_succ {ms : List Int} {k : Nat} (hk : k < ms.length) : prevZ ms (k + 1) = ms[k] := by
  unfold prevZ; rw [if_neg (by omega), Nat.add_sub_cancel, getD_get hk]
theorem prevZ_lo {n : Nat} {ms : List Int} {k : Nat} (h : Upto (okAt n ms) k) (hk : k ≤ ms.length) : -1 ≤ prevZ ms k := by
  cases k with
  | zero => simp [prevZ]
  | succ k => rw [prevZ_succ (by omega)]; have := okAt_bd (by omega) (h k (by omega)); omega
theorem prevZ_hi {n : Nat} {ms : List Int} {k : Nat} (h : Upto (okAt n ms) k) (hk : k ≤ ms.length) : prevZ ms k < n ∨ prevZ ms k = -1 := by
  cases k with
  | zero => simp [prevZ]
  | succ k => rw [prevZ_succ (by omega)]; have := okAt_bd (by omega) (h k (by omega)); omega
theorem okAt_prev {n : Nat} {ms : List Int} {k : Nat} (hk : k < ms.length) (hl : -1 ≤ prevZ ms k) (h1 : prevZ ms k < ms[k]) (h2 : ms[k] < n) : okAt n ms k = true := by
  refine okAt_yes hk (by omega) h2 ?_
  by_cases e : k = 0
  · exact .inl e
  · refine .inr ?_
    unfold prevZ at h1; rw [if_neg e] at h1; exact h1
theorem okAt_prev_no {n : Nat} {ms : List Int} {k : Nat} (hk : k < ms.length) (h : ¬ (prevZ ms k < ms[k] ∧ ms[k] < n)) : okAt n ms k = false := by
  refine okAt_no hk ?_
  rintro ⟨h0, h1, h2⟩
  refine h ⟨?_, h1⟩
  unfold prevZ
  by_cases e : k = 0
  · rw [if_pos e]; omega
  · rw [if_neg e]; exact h2.resolve_left e

/-- The weight of the first k of some members. -/
def weightTo (c ms : List Int) (k : Nat) : Int := ((ms.take k).map fun m => c.getD m.toNat 0).sum
theorem weightTo_zero (c ms : List Int) : weightTo c ms 0 = 0 := rfl
theorem weightTo_succ {c ms : List Int} {k : Nat} (hk : k < ms.length) : weightTo c ms (k + 1) = weightTo c ms k + c.getD ms[k].toNat 0 := by
  unfold weightTo
  rw [List.take_succ_eq_append_getElem hk, List.map_append, List.sum_append]
  simp
theorem good_getD {c : List Int} (h : validB c = true) {i : Nat} (hi : i < c.length) : 1 ≤ c.getD i 0 ∧ c.getD i 0 ≤ 9 := by
  rw [getD_get hi]; exact validB_good h i hi
theorem weightTo_bd {c ms : List Int} (h : validB c = true) (hm : membersB c.length ms = true) (k : Nat) (hk : k ≤ ms.length) : 0 ≤ weightTo c ms k ∧ weightTo c ms k ≤ 9 * k := by
  induction k with
  | zero => simp [weightTo]
  | succ k ih =>
    have := ih (by omega)
    have g := membersB_at hm k (by omega)
    have := good_getD h (i := ms[k].toNat) (by omega)
    rw [weightTo_succ (by omega)]
    omega
def weightZ (c ms : List Int) : Int := weightTo c ms ms.length

/-- The answer x where c is a committee, else -1. -/
def orNo (c : List Int) (x : Int) : Int := if validB c = true then x else -1
theorem orNo_yes {c : List Int} (h : validB c = true) (x : Int) : orNo c x = x := by unfold orNo; rw [if_pos h]
theorem orNo_no {c : List Int} (h : validB c = false) (x : Int) : orNo c x = -1 := by unfold orNo; rw [if_neg (by simp [h])]

def mvB (c ms : List Int) : Bool := validB c && membersB c.length ms
theorem mvB_yes {c : List Int} (h : validB c = true) (ms : List Int) : mvB c ms = membersB c.length ms := by unfold mvB; rw [h, Bool.true_and]
theorem mvB_no {c : List Int} (h : validB c = false) (ms : List Int) : mvB c ms = false := by unfold mvB; rw [h, Bool.false_and]
theorem mvB_valid {c ms : List Int} (h : mvB c ms = true) : validB c = true := by unfold mvB at h; rw [Bool.and_eq_true] at h; exact h.1
theorem mvB_members {c ms : List Int} (h : mvB c ms = true) : membersB c.length ms = true := by unfold mvB at h; rw [Bool.and_eq_true] at h; exact h.2
def mwZ (c ms : List Int) : Int := if mvB c ms = true then weightZ c ms else -1
theorem mwZ_yes {c ms : List Int} (h : mvB c ms = true) : mwZ c ms = weightZ c ms := by unfold mwZ; rw [if_pos h]
theorem mwZ_no {c ms : List Int} (h : mvB c ms = false) : mwZ c ms = -1 := by unfold mwZ; rw [if_neg (by simp [h])]

/-! slices of the call's own -/
/-- T is the type of slices of ints, E the type of ints. -/
structure IntT (P : Program) (T E : TypeId) : Prop where
  sl : P.underlying T = some (.slice E)
  info : (P.info? E).map (fun i => (i.zero, i.size, i.bytes)) = some (some (.int .i64 0), 1, 8)

/-- The slice value v owns the numbers xs in memory made from block B on. -/
def Own (E : TypeId) (w : World) (B : Nat) (v : Value) (xs : List Int) : Prop := w.ownsRow B E 1 v xs.length (xs.map (Value.int .i64))

theorem addr_add (g j : Nat) : (⟨g, 0, none⟩ : Addr).add j = ⟨g, j, none⟩ := by unfold Addr.add; split <;> simp_all
theorem addr_add' (g o j : Nat) : (⟨g, o, none⟩ : Addr).add j = ⟨g, o + j, none⟩ := by unfold Addr.add; split <;> simp_all

theorem Own.nil (E : TypeId) (w : World) (B : Nat) : Own E w B (.slice none 0 0) [] := World.ownsRow_nil _ _ _ _
/-- An owned slice as a value, and how it reads. -/
theorem Own.ints {E : TypeId} {w : World} {B : Nat} {v : Value} {xs : List Int} (h : Own E w B v xs) : ∃ a cap, v = .slice a xs.length cap ∧ IntsAt w a xs ∧ xs.length ≤ maxLen := by
  rcases h.2 with ⟨rfl, h0⟩ | ⟨g, cap, cur, rfl, hb, hg, hn, hm, hs, ht⟩
  · have : xs = [] := List.eq_nil_of_length_eq_zero h0
    subst this
    exact ⟨none, 0, rfl, .inl rfl, by simp⟩
  · refine ⟨_, cap, rfl, .inr ⟨g, 0, rfl, (Array.getElem?_eq_some_iff.1 hg).1, fun j hj => ?_⟩, by omega⟩
    have hc := World.ownsRow.cells (w := w) (base := B) (e := E) (size := 1) (v := .slice (some ⟨g, 0, none⟩) xs.length cap) (n := xs.length) (xs := xs.map (Value.int .i64)) h (g := g) rfl j (.int .i64 xs[j]) (by simp [hj])
    rw [addr_add] at hc
    simpa using hc
theorem Own.kept {E : TypeId} {w w' : World} {B : Nat} {v : Value} {xs : List Int} {row : Option Nat} (h : Own E w B v xs) (hg : w.grownBy w' row) (hne : v.ownBlock = none ∨ v.ownBlock ≠ row) : Own E w' B v xs := World.ownsRow.kept h hg hne
theorem below_grown {w w' : World} (h : Below w.heap.size w w') : w.grownBy w' none := ⟨h.os, h.tape, h.output, h.size, fun k hk _ => h.block k hk⟩
theorem Own.below {E : TypeId} {w w' : World} {B : Nat} {v : Value} {xs : List Int} (h : Own E w B v xs) (hg : Below w.heap.size w w') : Own E w' B v xs :=
  h.kept (below_grown hg) (by cases hv : v.ownBlock <;> simp)
theorem Own.alloc {E : TypeId} {w : World} {B : Nat} {v : Value} {xs : List Int} (h : Own E w B v xs) (o : Obj) : Own E (w.alloc o) B v xs := World.ownsRow.alloc h o
theorem Own.mono {E : TypeId} {w : World} {B B' : Nat} {v : Value} {xs : List Int} (h : Own E w B v xs) (hB : B' ≤ B) : Own E w B' v xs := by
  refine ⟨h.1, ?_⟩
  rcases h.2 with h0 | ⟨g, cap, cur, e, hb, rest⟩
  · exact .inl h0
  · exact .inr ⟨g, cap, cur, e, by omega, rest⟩
theorem Own.lt {E : TypeId} {w : World} {B : Nat} {v : Value} {xs : List Int} (h : Own E w B v xs) : ∀ k, v.ownBlock = some k → B ≤ k ∧ k < w.heap.size := World.ownsRow.lt h
theorem Own.drewN {E : TypeId} {w : World} {B : Nat} {v : Value} {xs : List Int} (h : Own E w B v xs) (n : Nat) : Own E (w.drewN n) B v xs := h
theorem IntsAt.below {w w' : World} {a : Option Addr} {xs : List Int} (h : IntsAt w a xs) (hb : Below w.heap.size w w') : IntsAt w' a xs := by
  rcases h with rfl | ⟨b, off, rfl, hlt, hc⟩
  · exact .inl rfl
  · exact .inr ⟨b, off, rfl, Nat.lt_of_lt_of_le hlt hb.size, fun j hj => (hb.cell (p := ⟨b, off + j, none⟩) hlt).trans (hc j hj)⟩
theorem IntsAt.belowB {B : Nat} {w w' : World} {a : Option Addr} {xs : List Int} (h : IntsAt w a xs) (hlt : ∀ p, a = some p → p.block < B) (hb : Below B w w') : IntsAt w' a xs := by
  rcases h with rfl | ⟨b, off, rfl, h0, hc⟩
  · exact .inl rfl
  · exact .inr ⟨b, off, rfl, Nat.lt_of_lt_of_le h0 hb.size, fun j hj => (hb.cell (p := ⟨b, off + j, none⟩) (hlt ⟨b, off, none⟩ rfl)).trans (hc j hj)⟩
theorem Drawn.below {w w' : World} (h : Drawn w w') (B : Nat) : Below B w w' := by obtain ⟨q, rfl⟩ := h; exact below_drewN (Below.refl _ _) q
theorem below_step {B : Nat} {a w w' : World} (h : Below B a w) (hB : B ≤ w.heap.size) (k : Below w.heap.size w w') : Below B a w' := h.trans (k.mono hB)

theorem own_of_row {E : TypeId} {w : World} {b B : Nat} {xs : List Int} (h : w.rowIs b E xs.length (fun j => .int .i64 (xs.getD j 0))) (hB : B ≤ b) (hm : xs.length ≤ maxLen) : Own E w B (.slice (some ⟨b, 0, none⟩) xs.length xs.length) xs := by
  obtain ⟨c, hb, hn, hc⟩ := h
  refine ⟨by simp, .inr ⟨b, xs.length, c, rfl, hB, hb, Nat.le_refl _, hm, by omega, ?_⟩⟩
  apply List.ext_getElem?
  intro j
  rw [List.getElem?_take]
  by_cases hj : j < xs.length
  · rw [if_pos (by omega)]
    have := hc j hj
    rw [Array.getElem?_toList, this]
    simp [hj]
  · rw [if_neg (by omega), List.getElem?_eq_none (by simp; omega)]

theorem cells_one (w : World) (E : TypeId) (z : Int) : ∀ j u, [Value.int .i64 z][j]? = some u → (w.alloc (.cells #[.int .i64 z] E)).cell? ((⟨w.heap.size, 0, none⟩ : Addr).add j) = some u := by
  intro j u hu
  match j, hu with
  | 0, hu =>
    simp at hu; subst hu
    rw [addr_add, World.cell?_alloc_at _ _ _ _ rfl]; rfl
theorem grownBy_trans {w a b : World} {row : Option Nat} (h : w.grownBy a row) (k : a.grownBy b row) : w.grownBy b row :=
  ⟨k.os.trans h.os, k.tape.trans h.tape, k.output.trans h.output, Nat.le_trans h.size k.size, fun i hi hr => (k.block i (Nat.lt_of_lt_of_le hi h.size) hr).trans (h.block i hi hr)⟩

/-- 'append(s, z)' onto a slice of the call's own. -/
theorem wpList_push {P : Program} {T E : TypeId} (hT : IntT P T E) {w : World} {ops : Array Oper} {rest : List Oper} {o : Oper} {a : Act} {Q : Exit → Act → World → Prop} (hgd : o.guard = none) (s x : Operand)
    (ho : o.op = .call { callee := .builtin .append, args := #[s, x], argTypes := #[T, T] }) (B : Nat) (v : Value) (xs : List Int) (z : Int) (hs : a.eval s = v) (hown : Own E w B v xs)
    (hlen : xs.length ≤ 1099511627776) (hx : a.eval x = .slice (some ⟨w.heap.size, 0, none⟩) 1 1) (hB : B ≤ w.heap.size)
    (h : ∀ v' w', Own E w' B v' (xs ++ [z]) → w.grownBy w' v.ownBlock → wpList P ops Q rest (a.put o.dst v') w') : wpList P ops Q (o :: rest) a (w.alloc (.cells #[.int .i64 z] E)) := by
  obtain ⟨i, hi, hz, hsz, hby⟩ := info_parts hT.info
  refine wpList_append_own _ hgd s x T ho B E i (.int .i64 0) 1 8 hT.sl hi hz hsz hby rfl (by decide) v xs.length _ hs (World.ownsRow.alloc hown _) ⟨w.heap.size, 0, none⟩ 1 1 [.int .i64 z] hx rfl (cells_one _ _ _) (by intro u hu; simp at hu; subst hu; rfl) (by unfold maxLen; omega) (by omega) (by simp; omega) ?_
  intro v' w' h1 h2 _
  refine h v' w' ?_ (grownBy_trans (World.grownBy_alloc _ _ _) h2)
  unfold Own; simpa using h1

/-- A new row of n zeros whose first k places have been filled from xs. -/
def filled (xs : List Int) (k : Nat) (j : Nat) : Value := if j < k then .int .i64 (xs.getD j 0) else .int .i64 0
theorem filled_zero (E : TypeId) (w : World) (xs : List Int) : (w.alloc (.cells (madeCells #[.int .i64 0] xs.length) E)).rowIs w.heap.size E xs.length (filled xs 0) :=
  (World.rowIs_made w (.int .i64 0) xs.length E).congr fun i _ => by unfold filled; rw [if_neg (by omega)]
theorem filled_step {E : TypeId} {w : World} {b : Nat} {xs : List Int} {k : Nat} (h : w.rowIs b E xs.length (filled xs k)) (hk : k < xs.length) : (w.setCell ⟨b, k, none⟩ (.int .i64 xs[k])).rowIs b E xs.length (filled xs (k + 1)) :=
  (h.set k _).congr fun i _ => by
    unfold filled
    by_cases e : i = k
    · subst e; rw [if_pos rfl, if_pos (by omega), getD_get hk]
    · rw [if_neg e]; by_cases l : i < k
      · rw [if_pos l, if_pos (by omega)]
      · rw [if_neg l, if_neg (by omega)]
theorem filled_own {E : TypeId} {w : World} {b B : Nat} {xs : List Int} {k : Nat} (h : w.rowIs b E xs.length (filled xs k)) (hk : xs.length ≤ k) (hB : B ≤ b) (hm : xs.length ≤ 1099511627776) : Own E w B (.slice (some ⟨b, 0, none⟩) xs.length xs.length) xs :=
  own_of_row (h.congr fun i hi => by unfold filled; rw [if_pos (by omega)]) hB (by unfold maxLen; omega)

/-- A literal's cells, still there when only others have been written. -/
theorem lit_cell {w w' : World} {E : TypeId} {c : Array Value} {row : Option Nat} (hg : (w.alloc (.cells c E)).grownBy w' row) (hne : some w.heap.size ≠ row) {j : Nat} {v : Value} (hv : c[j]? = some v) : w'.cell? ⟨w.heap.size, j, none⟩ = some v := by
  refine hg.cell ?_ hne
  rw [World.cell?_alloc_at _ _ _ _ rfl]
  simpa using hv
/-- An empty literal. -/
theorem own_empty (E : TypeId) (w : World) {B : Nat} (hB : B ≤ w.heap.size) : Own E (w.alloc (.cells #[] E)) B (.slice (some ⟨w.heap.size, 0, none⟩) 0 0) [] :=
  World.ownsRow_made w #[] 0 hB (by simp) (by simp)

theorem cells_many (w : World) (E : TypeId) (zs : List Int) : ∀ j u, (zs.map (Value.int .i64))[j]? = some u → (w.alloc (.cells (zs.map (Value.int .i64)).toArray E)).cell? ((⟨w.heap.size, 0, none⟩ : Addr).add j) = some u := by
  intro j u hu
  rw [addr_add, World.cell?_alloc_at _ _ _ _ rfl]
  simpa using hu
/-- 'append(s, z0, z1, ..)' onto a slice of the call's own. -/
theorem wpList_pushes {P : Program} {T E : TypeId} (hT : IntT P T E) {w : World} {ops : Array Oper} {rest : List Oper} {o : Oper} {a : Act} {Q : Exit → Act → World → Prop} (hgd : o.guard = none) (s x : Operand)
    (ho : o.op = .call { callee := .builtin .append, args := #[s, x], argTypes := #[T, T] }) (B : Nat) (v : Value) (xs zs : List Int) (n : Nat) (c : Array Value) (hn : n = zs.length) (hcs : c = (zs.map (Value.int .i64)).toArray) (hs : a.eval s = v) (hown : Own E w B v xs)
    (hlen : xs.length + zs.length ≤ 1099511627776) (hx : a.eval x = .slice (some ⟨w.heap.size, 0, none⟩) n n) (hB : B ≤ w.heap.size)
    (h : ∀ v' w', Own E w' B v' (xs ++ zs) → w.grownBy w' v.ownBlock → wpList P ops Q rest (a.put o.dst v') w') : wpList P ops Q (o :: rest) a (w.alloc (.cells c E)) := by
  subst hn; subst hcs
  obtain ⟨i, hi, hz, hsz, hby⟩ := info_parts hT.info
  refine wpList_append_own _ hgd s x T ho B E i (.int .i64 0) 1 8 hT.sl hi hz hsz hby rfl (by decide) v xs.length _ hs (World.ownsRow.alloc hown _) ⟨w.heap.size, 0, none⟩ zs.length zs.length (zs.map (Value.int .i64)) hx (by simp) (cells_many _ _ _) (by intro u hu; simp at hu; obtain ⟨_, _, rfl⟩ := hu; rfl) (by unfold maxLen; omega) (by omega) (by simp; omega) ?_
  intro v' w' h1 h2 _
  refine h v' w' ?_ (grownBy_trans (World.grownBy_alloc _ _ _) h2)
  unfold Own; simpa using h1
/-- An owned slice that is not empty, its cells and that none is frozen. -/
theorem Own.row {E : TypeId} {w : World} {B : Nat} {v : Value} {xs : List Int} (h : Own E w B v xs) (hx : 0 < xs.length) : ∃ g cap, v = .slice (some ⟨g, 0, none⟩) xs.length cap ∧ B ≤ g ∧ g < w.heap.size ∧ xs.length ≤ cap ∧
    (∀ j (h : j < xs.length), w.cell? ⟨g, j, none⟩ = some (.int .i64 xs[j])) ∧ ∀ j, w.frozen? ⟨g, j, none⟩ = false := by
  rcases h.2 with ⟨rfl, h0⟩ | ⟨g, cap, cur, rfl, hb, hg, hn, hm, hs, ht⟩
  · omega
  · refine ⟨g, cap, rfl, hb, (Array.getElem?_eq_some_iff.1 hg).1, hn, fun j hj => ?_, fun j => frozen_of_row w g j cur E hg⟩
    have hc := World.ownsRow.cells (w := w) (base := B) (e := E) (size := 1) (v := .slice (some ⟨g, 0, none⟩) xs.length cap) (n := xs.length) (xs := xs.map (Value.int .i64)) h (g := g) rfl j (.int .i64 xs[j]) (by simp [hj])
    rwa [addr_add] at hc
theorem Own.store {E : TypeId} {w : World} {B g cap n : Nat} {xs : List Int} (h : Own E w B (.slice (some ⟨g, 0, none⟩) n cap) xs) (hn : n = xs.length) (j : Nat) (z : Int) :
    Own E (w.setCell ⟨g, j, none⟩ (.int .i64 z)) B (.slice (some ⟨g, 0, none⟩) n cap) (xs.set j z) ∧ w.grownBy (w.setCell ⟨g, j, none⟩ (.int .i64 z)) (some g) := by
  subst hn
  have := World.ownsRow.stored (w := w) (base := B) (e := E) (size := 1) (g := g) (n := xs.length) (cap := cap) h j (.int .i64 z)
  refine ⟨?_, this.2⟩
  unfold Own
  rw [List.map_set, List.length_set]
  exact this.1
theorem Own.front {E : TypeId} {w : World} {B g cap n : Nat} {xs : List Int} (h : Own E w B (.slice (some ⟨g, 0, none⟩) n cap) xs) (k : Nat) (hk : k ≤ xs.length) : Own E w B (.slice (some ⟨g, 0, none⟩) k cap) (xs.take k) := by
  rcases h.2 with ⟨h', _⟩ | ⟨g', cap', cur, h', hb, hg, hn, hm, hs, ht⟩
  · simp at h'
  · simp only [Value.slice.injEq, Option.some.injEq, Addr.mk.injEq, and_true] at h'
    obtain ⟨rfl, rfl, rfl⟩ := h'
    have hl : (xs.take k).length = k := by rw [List.length_take]; omega
    refine ⟨by simp, .inr ⟨g, cap, cur, by rw [hl], hb, hg, by omega, hm, hs, ?_⟩⟩
    rw [hl, Nat.mul_one, List.map_take, ← ht, Nat.mul_one, List.take_take, Nat.min_eq_left hk]

end Go.Proofs.Ytnaeeemgehgdfab

/- From a walk that returns true and writes nothing that was there to the given statement of a law: general steps, without conditions; nothing here speaks of the program. -/
namespace Go.Proofs.Ytnaeeemgehgdfab
open Go.ChangeShapes Go.WideShapes Go.ChangeAt Go.RowKit

section
variable {H : Type} {enc : TypeId × Value → H} {P : Program}

theorem trodAll_below (hl : laidOutB P = true) {W W' : World} (hb : Below W.heap.size W W') : ∀ (ts : List TypeId) (vs : List Value) (ds : List (DataW H)) (ps : List MemPlace),
    (∀ t ∈ ts, P.readableRec t = true ∧ t < P.types.size) → DataW.TrodAll enc P W 0 (fun _ => true) true ts vs ds ps → DataW.TrodAll enc P W' 0 (fun b => decide (b < W.heap.size)) true ts vs ds ps
  | [], vs, ds, ps, _, h => by
    obtain ⟨rfl, rfl, rfl⟩ := trodAll_nil h
    exact trodAll_mk0
  | t :: ts, vs, ds, ps, hr, h => by
    obtain ⟨v, vs', d, ds', p, q, rfl, rfl, rfl, h1, h2⟩ := trodAll_cons h
    have k := h1
    have lt : ∀ x ∈ p, x.block < W.heap.size := by obtain ⟨m, hm⟩ := k; exact DataW.trod_lt m _ _ _ hm
    have ht := hr t (by simp)
    exact trodAll_cons_mk (Below.trod hl ht.1 ht.2 h1 hb lt) (trodAll_below hl hb ts vs' ds' q (fun t' m => hr t' (by simp [m])) h2)
theorem trodAll_len {w : World} {base : Nat} {spare : Nat → Bool} {held : Bool} : ∀ (ts : List TypeId) (vs : List Value) (ds : List (DataW H)) (ps : List MemPlace), DataW.TrodAll enc P w base spare held ts vs ds ps → ds.length = ts.length
  | [], vs, ds, ps, h => by obtain ⟨rfl, rfl, rfl⟩ := trodAll_nil h; rfl
  | t :: ts, vs, ds, ps, h => by
    obtain ⟨v, vs', d, ds', p, q, rfl, rfl, rfl, _, h2⟩ := trodAll_cons h
    simp [trodAll_len ts vs' ds' q h2]
end

theorem law_lifted {C : Checked} {os : Os} {f : FuncId} {fn : Func} {s : ChangeSpec} {tb : TypeId} {H : Type} {enc : TypeId × Value → H} (own : ownKnob C.prog.godebug = none) (laid : laidOutB C.prog = true) (started : os.Started)
    (noInit : C.prog.inits.idxOf? f = none) (hfn : C.prog.funcs[f]? = some fn) (hrt : fn.resultTypes = #[tb]) (hub : C.prog.underlying tb = some .bool) (hvars : s.vars = [])
    (hread : ∀ t ∈ fn.params.toList, C.prog.readableRec t = true ∧ t < C.prog.types.size)
    (hs : ∀ ds : List (DataW H), ds.length = fn.params.toList.length → s.fn H (ds ++ []) = { results := [.lit (.bool true)], args := ds })
    (wit : ∃ (w : World) (tape : Tape) (i : Input), w.os = os ∧ (w.forCall tape i).Shaped C.prog ∧ i.vars = [] ∧ Input.okWide C.prog (w.forCall tape i) .any w.heap.size f i ∧
      s.pre6 enc C.prog fn [] false (w.forCall tape i).memory i.args ∧ ({} : Assume).holds C.prog (lone (Frame.enter C.prog f i.args .normal) [] (w.forCall tape i)))
    (walk : ∀ (W : World) (base : Nat) (args : Array Value) (ds : List (DataW H)) (p : List MemPlace), (∀ (j : Nat) t v, fn.params[j]? = some t → args[j]? = some v → Value.okWide C.prog W .any base t v) →
      DataW.TrodAll enc C.prog W 0 (fun _ => true) true fn.params.toList args.toList ds p → Calls C.prog f args W fun e W' => e = .returned (.bool true) ∧ Below W.heap.size W W') :
    ReturnsInHanded {} C os f .any (s.pre6 enc C.prog fn [] false) (s.post enc C.prog fn false true false false) := by
  refine returnsInHanded_of_change own started noInit hfn wit ?_
  intro W base args ds gs before hval hW _ _
  have hW' := hW
  obtain ⟨p, q, hA, hV, rfl, hfz, hnd⟩ := hW
  rw [hvars] at hV
  obtain ⟨rfl, rfl⟩ := trodVars_none hV
  refine (walk W base args ds p hval hA).mono fun e W' ⟨he, bel⟩ => ?_
  subst he
  have hfn' := hs ds (trodAll_len _ _ _ _ hA)
  refine ⟨_, rfl, ds, [], _, [], p, [], hW', ?_, ?_, ?_, bel.frame _, fun h => by cases h⟩
  · rw [hfn', hrt]; exact trodAll_mk1 (shut_bool hub _)
  · rw [hfn']; exact trodAll_below laid bel _ _ _ _ hread hA
  · rw [hfn', hvars]; rfl

theorem wf_i64 {n : Int} (h : (Lit.int .i64 n).wf = true) : -9223372036854775808 ≤ n ∧ n ≤ 9223372036854775807 := by
  have h1 : (-9223372036854775808 : Int) = IntKind.i64.min := by decide
  have h2 : (9223372036854775807 : Int) = IntKind.i64.max := by decide
  simp [Lit.wf] at h
  omega

/-- A slice of integers of kind k that came in. -/
theorem open_slice_ints {H : Type} {enc : TypeId × Value → H} {P : Program} {W : World} {base : Nat} {T E : TypeId} {k : IntKind} {v : Value} {d : DataW H} {p : List MemPlace} (hT : P.underlying T = some (.slice E)) (hE : P.underlying E = some (.int k)) (hc : P.cellsOf E = 1)
    (hv : Value.okWide P W .any base T v) (h : DataW.Trod enc P W 0 (fun _ => true) true T v d p) :
    ∃ a cap zs, v = .slice a zs.length cap ∧ zs.length ≤ cap ∧ zs.length ≤ maxLen ∧ (zs = [] ∨ ∃ b off, a = some ⟨b, off, none⟩ ∧ b < W.heap.size ∧ ∀ j (h : j < zs.length), W.cell? ⟨b, off + j, none⟩ = some (.int k zs[j])) ∧ ∀ z ∈ zs, (Lit.int k z).wf = true := by
  obtain ⟨a0, len0, cap0, rfl⟩ := okWide_slice hT hv
  obtain ⟨fuel, hf⟩ := h
  rcases open_ints hT hE hc hf with ⟨hcs, _⟩ | ⟨x, l, c, zs, hcs, _, hl, hm, hz, _, hcell, hwz⟩
  · simp [Value.cells] at hcs
    obtain ⟨rfl, rfl, rfl⟩ := hcs
    exact ⟨none, 0, [], rfl, by simp, by simp, .inl rfl, by simp⟩
  · simp [Value.cells] at hcs
    obtain ⟨rfl, rfl, rfl⟩ := hcs
    have hz' : zs.length = cap0 := by simpa using hz
    have hlen : (zs.take len0).length = len0 := by rw [List.length_take]; omega
    refine ⟨_, cap0, zs.take len0, by rw [hlen], by omega, by omega, ?_, fun z hzm => hwz z (List.mem_of_mem_take hzm)⟩
    by_cases h0 : len0 = 0
    · exact .inl (by rw [h0]; rfl)
    · obtain ⟨b, off, rfl, hcc⟩ := ints_at hcell (by omega)
      refine .inr ⟨b, off, rfl, ?_, fun j hj => ?_⟩
      · have := World.block_lt_of_cell? W _ (hcc 0 (by omega)); exact this
      · rw [hlen] at hj
        rw [hcc j (by omega), List.getElem_take, getD_get (by omega)]

end Go.Proofs.Ytnaeeemgehgdfab

/- Appending one slice to another of the call's own, in an open order too: general steps; nothing here speaks of the program. -/
namespace Go.Proofs.Ytnaeeemgehgdfab
open Go.RowKit

/-- An operation that is carried out: unguarded, or its guard holds. -/
theorem wpList_want {P : Program} {w : World} {ops : Array Oper} {rest : List Oper} {o : Oper} {a : Act} {Q : Exit → Act → World → Prop} (hgd : Region.wanted o (yielded ops a.tmps) = true)
    (h : ∀ K : Act → World → Prop, (∀ a w, wpList P ops Q rest a w → K a w) → o.wp P a w K Q) : wpList P ops Q (o :: rest) a w :=
  wpList_step fun K hK => by rw [if_pos hgd]; exact h K hK

/-- 'append(s, t...)' onto a slice of the call's own, t in memory: what it comes to. -/
theorem run_app {P : Program} {T E : TypeId} (hT : IntT P T E) (ty : TypeId) {w : World} {B : Nat} {v : Value} {xs zs : List Int} (ad : Addr) (n c : Nat) (hn : n = zs.length) (hown : Own E w B v xs) (hz : ∀ j (h : j < zs.length), w.cell? (ad.add j) = some (.int .i64 zs[j]))
    (hlen : xs.length + zs.length ≤ 1099511627776) (hB : B ≤ w.heap.size) :
    ∃ v' w', (Builtin.append_ #[T, T] ty #[v, .slice (some ad) n c]).run P w = .ok v' w' ∧ Own E w' B v' (xs ++ zs) ∧ w.grownBy w' v.ownBlock := by
  subst hn
  obtain ⟨i, hi, hzz, hsz, hby⟩ := info_parts hT.info
  obtain ⟨v', w', hr, h1, h2, _⟩ := run_append_own (P := P) w B T ty E i (.int .i64 0) 1 8 hT.sl hi hzz hsz hby rfl (by decide) v xs.length _ hown ad zs.length c (zs.map (Value.int .i64)) (by simp) (by
    intro j u hu
    by_cases hj : j < zs.length
    · simp [hj] at hu; subst hu; exact hz j hj
    · simp [hj] at hu) (by intro u hu; simp at hu; obtain ⟨_, _, rfl⟩ := hu; rfl) (by unfold maxLen; omega) (by omega) hB
  refine ⟨v', w', hr, ?_, h2⟩
  unfold Own; simpa using h1
/-- .. at the list of a region's operations. -/
theorem wpList_app {P : Program} {T E : TypeId} (hT : IntT P T E) {w : World} {ops : Array Oper} {rest : List Oper} {o : Oper} {a : Act} {Q : Exit → Act → World → Prop} (hgd : Region.wanted o (yielded ops a.tmps) = true) (s x : Operand)
    (ho : o.op = .call { callee := .builtin .append, args := #[s, x], argTypes := #[T, T] }) (B : Nat) (v : Value) (xs zs : List Int) (ad : Addr) (n c : Nat) (hn : n = zs.length) (hs : a.eval s = v) (hown : Own E w B v xs)
    (hx : a.eval x = .slice (some ad) n c) (hz : ∀ j (h : j < zs.length), w.cell? (ad.add j) = some (.int .i64 zs[j]))
    (hlen : xs.length + zs.length ≤ 1099511627776) (hB : B ≤ w.heap.size)
    (h : ∀ v' w', Own E w' B v' (xs ++ zs) → w.grownBy w' v.ownBlock → wpList P ops Q rest (a.put o.dst v') w') : wpList P ops Q (o :: rest) a w := by
  refine wpList_want hgd fun K hK => ?_
  obtain ⟨v', w', hr, h1, h2⟩ := run_app hT o.type ad n c hn hown hz hlen hB
  unfold Oper.wp execOp
  simp only [ho, resolve, invoke, builtin, Sem.run_bind, Sem.run_pure, Result.andThen_ok, List.map_toArray, List.map_cons, List.map_nil, hs, hx, hr]
  exact hK _ _ (h v' w' h1 h2)
/-- .. as one step of a region that draws its order. -/
theorem step_app {P : Program} {T E : TypeId} (hT : IntT P T E) {w : World} {ops : Array Oper} {o : Oper} {a : Act} {K : Act → World → Prop} {Q : Exit → Act → World → Prop} {F : Prop} (hgd : Region.wanted o (yielded ops a.tmps) = true) (s x : Operand)
    (ho : o.op = .call { callee := .builtin .append, args := #[s, x], argTypes := #[T, T] }) (B : Nat) (v : Value) (xs zs : List Int) (ad : Addr) (n c : Nat) (hn : n = zs.length) (hs : a.eval s = v) (hown : Own E w B v xs)
    (hx : a.eval x = .slice (some ad) n c) (hz : ∀ j (h : j < zs.length), w.cell? (ad.add j) = some (.int .i64 zs[j]))
    (hlen : xs.length + zs.length ≤ 1099511627776) (hB : B ≤ w.heap.size)
    (h : ∀ v' w', Own E w' B v' (xs ++ zs) → w.grownBy w' v.ownBlock → K (a.put o.dst v') w') : if Region.wanted o (yielded ops a.tmps) = true then Oper.wp P o a w K Q else F := by
  rw [if_pos hgd]
  obtain ⟨v', w', hr, h1, h2⟩ := run_app hT o.type ad n c hn hown hz hlen hB
  unfold Oper.wp execOp
  simp only [ho, resolve, invoke, builtin, Sem.run_bind, Sem.run_pure, Result.andThen_ok, List.map_toArray, List.map_cons, List.map_nil, hs, hx, hr]
  exact h v' w' h1 h2

theorem cells_one' (w : World) (E : TypeId) (z : Int) : ∀ j (h : j < [z].length), (w.alloc (.cells #[.int .i64 z] E)).drew.cell? ((⟨w.heap.size, 0, none⟩ : Addr).add j) = some (.int .i64 [z][j]) := by
  intro j hj
  have : j = 0 := by simpa using hj
  subst this
  rw [addr_add]
  exact (World.cell?_alloc_at _ _ _ _ rfl).trans rfl

theorem below_app {w w' : World} {B : Nat} {o : Obj} {row : Option Nat} (h : (w.alloc o).drew.grownBy w' row) (hB : B ≤ w.heap.size) (hr : ∀ g, row = some g → B ≤ g) : Below B w w' :=
  ((((Below.refl B w).alloc hB o).drew).grown h (Nat.le_trans hB (by simp)) hr)

/-- The length in a slot. -/
def lenOf : Value → Nat | .slice _ n _ => n | _ => 0

/-- 'append(s, z)', and where the new slice lies. -/
theorem wpList_push_at {P : Program} {T E : TypeId} (hT : IntT P T E) {w : World} {ops : Array Oper} {rest : List Oper} {o : Oper} {a : Act} {Q : Exit → Act → World → Prop} (hgd : Region.wanted o (yielded ops a.tmps) = true) (s x : Operand)
    (ho : o.op = .call { callee := .builtin .append, args := #[s, x], argTypes := #[T, T] }) (B : Nat) (v : Value) (xs : List Int) (z : Int) (hs : a.eval s = v) (hown : Own E w B v xs)
    (hlen : xs.length ≤ 1099511627776) (hx : a.eval x = .slice (some ⟨w.heap.size, 0, none⟩) 1 1) (hB : B ≤ w.heap.size)
    (h : ∀ v' w', Own E w' B v' (xs ++ [z]) → w.grownBy w' v.ownBlock → (v'.ownBlock = v.ownBlock ∨ ∃ g, v'.ownBlock = some g ∧ w.heap.size ≤ g) → wpList P ops Q rest (a.put o.dst v') w') : wpList P ops Q (o :: rest) a (w.alloc (.cells #[.int .i64 z] E)) := by
  refine wpList_want hgd fun K hK => ?_
  obtain ⟨i, hi, hz, hsz, hby⟩ := info_parts hT.info
  obtain ⟨v', w', hr, h1, h2, _, h4⟩ := run_append_own_at (P := P) (w.alloc (.cells #[.int .i64 z] E)) B T o.type E i (.int .i64 0) 1 8 hT.sl hi hz hsz hby rfl (by decide) v xs.length _ (World.ownsRow.alloc hown _) ⟨w.heap.size, 0, none⟩ 1 1 [.int .i64 z] rfl (cells_one _ _ _) (by intro u hu; simp at hu; subst hu; rfl) (by unfold maxLen; omega) (by omega) (by simp; omega)
  unfold Oper.wp execOp
  simp only [ho, resolve, invoke, builtin, Sem.run_bind, Sem.run_pure, Result.andThen_ok, List.map_toArray, List.map_cons, List.map_nil, hs, hx, hr]
  refine hK _ _ (h v' w' ?_ (grownBy_trans (World.grownBy_alloc _ _ _) h2) ?_)
  · unfold Own; simpa using h1
  · rcases h4 with h4 | h4
    · exact .inl h4
    · exact .inr ⟨_, h4, by simp⟩
theorem IntsAt.grown {w w' : World} {a : Option Addr} {xs : List Int} {row : Option Nat} (h : IntsAt w a xs) (hg : w.grownBy w' row) (hne : ∀ b, a = some b → row ≠ some b.block) : IntsAt w' a xs := by
  rcases h with rfl | ⟨b, off, rfl, hlt, hc⟩
  · exact .inl rfl
  · exact .inr ⟨b, off, rfl, Nat.lt_of_lt_of_le hlt hg.size, fun j hj => hg.cell (hc j hj) (fun e => hne _ rfl e.symm)⟩
theorem IntsAt.block {w : World} {a : Option Addr} {xs : List Int} (h : IntsAt w a xs) (hx : 0 < xs.length) : ∃ b, a = some b ∧ b.block < w.heap.size := by
  obtain ⟨b, off, rfl, hlt, _⟩ := h.cell hx
  exact ⟨_, rfl, hlt⟩
/-- The block of an owned slice, as its address says it. -/
theorem ownBlock_slice {a : Option Addr} {n c : Nat} : ∀ b, a = some b → (Value.slice a n c).ownBlock = some b.block := by rintro b rfl; rfl

/-- s[1:], the address as the walk writes it. -/
theorem IntsAt.tail {w : World} {b off c : Nat} {q : Int} {r : List Int} (h : ∀ j (h : j < (q :: r).length), w.cell? ⟨b, off + j, none⟩ = some (.int .i64 (q :: r)[j])) (hb : b < w.heap.size) (hc : r.length + 1 ≤ c) :
    ∃ o2, (if c = 1 then some (⟨b, off, none⟩ : Addr) else some ⟨b, off + 1, none⟩) = some ⟨b, o2, none⟩ ∧ IntsAt w (some ⟨b, o2, none⟩) r := by
  by_cases h1 : c = 1
  · refine ⟨off, by rw [if_pos h1], .inl (List.eq_nil_of_length_eq_zero (by omega))⟩
  · refine ⟨off + 1, by rw [if_neg h1], .inr ⟨b, off + 1, rfl, hb, fun j hj => ?_⟩⟩
    have := h (j + 1) (by simp; omega)
    rw [show off + 1 + j = off + (j + 1) by omega, this]
    simp

/-- A source of an append: nil, or cells in memory that read as zs. -/
def SrcAt (w : World) (a : Option Addr) (c : Nat) (zs : List Int) : Prop :=
  (a = none ∧ zs = [] ∧ c = 0) ∨ ∃ ad, a = some ad ∧ ∀ j (h : j < zs.length), w.cell? (ad.add j) = some (.int .i64 zs[j])
theorem Own.src {E : TypeId} {w : World} {B : Nat} {v : Value} {xs : List Int} (h : Own E w B v xs) : ∃ a cap, v = .slice a xs.length cap ∧ IntsAt w a xs ∧ SrcAt w a cap xs ∧ xs.length ≤ cap := by
  rcases Nat.eq_zero_or_pos xs.length with h0 | h0
  · have hx : xs = [] := List.eq_nil_of_length_eq_zero h0
    subst hx
    rcases h.2 with ⟨rfl, _⟩ | ⟨g, cap, cur, rfl, _, _, _, _⟩
    · exact ⟨none, 0, rfl, .inl rfl, .inl ⟨rfl, rfl, rfl⟩, by simp⟩
    · exact ⟨_, cap, rfl, .inl rfl, .inr ⟨_, rfl, fun j hj => by simp at hj⟩, by simp⟩
  · obtain ⟨g, cap, rfl, hB, hlt, hc, hcells, _⟩ := h.row h0
    exact ⟨_, cap, rfl, .inr ⟨g, 0, rfl, hlt, fun j hj => by rw [Nat.zero_add]; exact hcells j hj⟩, .inr ⟨_, rfl, fun j hj => by rw [addr_add]; exact hcells j hj⟩, hc⟩
theorem SrcAt.grown {w w' : World} {a : Option Addr} {c : Nat} {xs : List Int} {row : Option Nat} (h : SrcAt w a c xs) (hi : IntsAt w a xs) (hg : w.grownBy w' row) (hne : ∀ b, a = some b → row ≠ some b.block) : SrcAt w' a c xs := by
  rcases h with h | ⟨ad, rfl, hc⟩
  · exact .inl h
  · refine .inr ⟨ad, rfl, fun j hj => ?_⟩
    obtain ⟨b, off, e, _, _⟩ := hi.cell (by omega)
    cases e
    have := hc j hj
    rw [addr_add'] at this ⊢
    exact hg.cell this (fun e => hne _ rfl e.symm)
theorem run_appI {P : Program} {T E : TypeId} (hT : IntT P T E) (ty : TypeId) {w : World} {B : Nat} {v : Value} {xs zs : List Int} {a : Option Addr} {c : Nat} (hown : Own E w B v xs) (hz : SrcAt w a c zs)
    (hlen : xs.length + zs.length ≤ 1099511627776) (hB : B ≤ w.heap.size) :
    ∃ v' w', (Builtin.append_ #[T, T] ty #[v, .slice a zs.length c]).run P w = .ok v' w' ∧ Own E w' B v' (xs ++ zs) ∧ w.grownBy w' v.ownBlock := by
  rcases hz with ⟨rfl, rfl, rfl⟩ | ⟨ad, rfl, hc⟩
  · obtain ⟨i, hi, _⟩ := info_parts hT.info
    have := run_append_owned_none (P := P) (w := w) B T ty E i 1 hT.sl hi v xs.length _ hown
    exact ⟨v, w, this, by rw [List.append_nil]; exact hown, ⟨rfl, rfl, rfl, Nat.le_refl _, fun _ _ _ => rfl⟩⟩
  · exact run_app hT ty ad _ c rfl hown hc hlen hB
/-- 'append(s, t...)' at the list of a region's operations, t nil or not. -/
theorem wpList_appI {P : Program} {T E : TypeId} (hT : IntT P T E) {w : World} {ops : Array Oper} {rest : List Oper} {o : Oper} {a : Act} {Q : Exit → Act → World → Prop} (hgd : Region.wanted o (yielded ops a.tmps) = true) (s x : Operand)
    (ho : o.op = .call { callee := .builtin .append, args := #[s, x], argTypes := #[T, T] }) (B : Nat) (v : Value) (xs zs : List Int) (ax : Option Addr) (c : Nat) (hs : a.eval s = v) (hown : Own E w B v xs)
    (hx : a.eval x = .slice ax zs.length c) (hz : SrcAt w ax c zs)
    (hlen : xs.length + zs.length ≤ 1099511627776) (hB : B ≤ w.heap.size)
    (h : ∀ v' w', Own E w' B v' (xs ++ zs) → w.grownBy w' v.ownBlock → wpList P ops Q rest (a.put o.dst v') w') : wpList P ops Q (o :: rest) a w := by
  refine wpList_want hgd fun K hK => ?_
  obtain ⟨v', w', hr, h1, h2⟩ := run_appI hT o.type hown hz hlen hB
  unfold Oper.wp execOp
  simp only [ho, resolve, invoke, builtin, Sem.run_bind, Sem.run_pure, Result.andThen_ok, List.map_toArray, List.map_cons, List.map_nil, hs, hx, hr]
  exact hK _ _ (h v' w' h1 h2)
theorem results_tmp3 {fn : Func} {t u v : Tmp} (h : fn.results = #[.tmp t, .tmp u, .tmp v]) (tmps : Array Value) (P : Program) (w : World) :
    (results fn tmps).run P w = .ok (.tuple #[tmps.getD t undef, tmps.getD u undef, tmps.getD v undef]) w := by simp [results, h]
theorem results_tmp4 {fn : Func} {t u v x : Tmp} (h : fn.results = #[.tmp t, .tmp u, .tmp v, .tmp x]) (tmps : Array Value) (P : Program) (w : World) :
    (results fn tmps).run P w = .ok (.tuple #[tmps.getD t undef, tmps.getD u undef, tmps.getD v undef, tmps.getD x undef]) w := by simp [results, h]
theorem results_tmp5 {fn : Func} {t u v x y : Tmp} (h : fn.results = #[.tmp t, .tmp u, .tmp v, .tmp x, .tmp y]) (tmps : Array Value) (P : Program) (w : World) :
    (results fn tmps).run P w = .ok (.tuple #[tmps.getD t undef, tmps.getD u undef, tmps.getD v undef, tmps.getD x undef, tmps.getD y undef]) w := by simp [results, h]

/-- 'append(s, z)' where the operation may be guarded. -/
theorem wpList_pushG {P : Program} {T E : TypeId} (hT : IntT P T E) {w : World} {ops : Array Oper} {rest : List Oper} {o : Oper} {a : Act} {Q : Exit → Act → World → Prop} (hgd : Region.wanted o (yielded ops a.tmps) = true) (s x : Operand)
    (ho : o.op = .call { callee := .builtin .append, args := #[s, x], argTypes := #[T, T] }) (B : Nat) (v : Value) (xs : List Int) (z : Int) (hs : a.eval s = v) (hown : Own E w B v xs)
    (hlen : xs.length ≤ 1099511627776) (hx : a.eval x = .slice (some ⟨w.heap.size, 0, none⟩) 1 1) (hB : B ≤ w.heap.size)
    (h : ∀ v' w', Own E w' B v' (xs ++ [z]) → w.grownBy w' v.ownBlock → wpList P ops Q rest (a.put o.dst v') w') : wpList P ops Q (o :: rest) a (w.alloc (.cells #[.int .i64 z] E)) :=
  wpList_push_at hT hgd s x ho B v xs z hs hown hlen hx hB (fun v' w' h1 h2 _ => h v' w' h1 h2)

theorem own_succ {E : TypeId} {W : World} {B : Nat} {v : Value} {xs : List Int} {z : Int} (h : Own E W B v (xs ++ [z])) : ∃ g c, v = .slice (some ⟨g, 0, none⟩) (xs.length + 1) c := by
  obtain ⟨g, c, e, _⟩ := h.row (by simp)
  exact ⟨g, c, by rw [e]; simp⟩

end Go.Proofs.Ytnaeeemgehgdfab

/- Data in memory: what a value reads as (numbers, truth values, texts, lists of rows of these), with the blocks that the reading passes through; general steps, nothing here speaks of the program. -/
namespace Go.Proofs.Ytnaeeemgehgdfab
open Go.RowKit

/-- A number, a truth value, a text, a list whose elements are rows of one-cell data. -/
inductive Dt where
  | i (n : Int)
  | b (x : Bool)
  | s (t : ByteArray)
  | l (es : List (List Dt))

/-- The value reads as the datum; the reading passes through these blocks. -/
inductive Rd (w : World) : Dt → Value → List Nat → Prop
  | i (n : Int) : Rd w (.i n) (.int .i64 n) []
  | b (x : Bool) : Rd w (.b x) (.bool x) []
  | s (t : ByteArray) : Rd w (.s t) (.string t) []
  | nil (a : Option Addr) (cap : Nat) (hn : a = none → cap = 0) : Rd w (.l []) (.slice a 0 cap) []
  | l (sz : Nat) (es : List (List Dt)) (g off cap : Nat) (V : Nat → Nat → Value) (F : Nat → Nat → List Nat) (hne : 0 < es.length) (hsz : ∀ e ∈ es, e.length = sz) (hcap : es.length ≤ cap) (hg : g < w.heap.size)
      (hc : ∀ k j, k < es.length → j < sz → w.cell? ⟨g, off + (k * sz + j), none⟩ = some (V k j))
      (hr : ∀ k j (hk : k < es.length) (hj : j < (es[k]).length), Rd w ((es[k])[j]) (V k j) (F k j)) :
      Rd w (.l es) (.slice (some ⟨g, off, none⟩) es.length cap) (g :: (List.range es.length).flatMap fun k => (List.range sz).flatMap (F k))

theorem Rd.grown {w w' : World} {row : Option Nat} (hg : w.grownBy w' row) {d : Dt} {v : Value} {fp : List Nat} (h : Rd w d v fp) (hr : ∀ r, row = some r → r ∉ fp) : Rd w' d v fp := by
  induction h with
  | i n => exact .i n
  | b x => exact .b x
  | s t => exact .s t
  | nil a cap hn => exact .nil a cap hn
  | l sz es g off cap V F hne hsz hcap hgl hc hrd ih =>
    refine .l sz es g off cap V F hne hsz hcap (Nat.lt_of_lt_of_le hgl hg.size) (fun k j hk hj => hg.cell (hc k j hk hj) fun e => ?_) (fun k j hk hj => ih k j hk hj fun r e hm => ?_)
    · exact hr g e.symm (by simp)
    · refine hr r e (List.mem_cons_of_mem _ (List.mem_flatMap.2 ⟨k, List.mem_range.2 hk, List.mem_flatMap.2 ⟨j, List.mem_range.2 ?_, hm⟩⟩))
      rw [← hsz _ (List.getElem_mem hk)]; exact hj
theorem Rd.lt {w : World} {d : Dt} {v : Value} {fp : List Nat} (h : Rd w d v fp) : ∀ g ∈ fp, g < w.heap.size := by
  induction h with
  | i n => intro g hg; cases hg
  | b x => intro g hg; cases hg
  | s t => intro g hg; cases hg
  | nil a cap hn => intro g hg; cases hg
  | l sz es g off cap V F hne hsz hcap hgl hc hrd ih =>
    intro r hr
    rcases List.mem_cons.1 hr with rfl | hr
    · exact hgl
    · obtain ⟨k, hk, hr⟩ := List.mem_flatMap.1 hr
      obtain ⟨j, hj, hr⟩ := List.mem_flatMap.1 hr
      rw [List.mem_range] at hk hj
      exact ih k j hk (by rw [hsz _ (List.getElem_mem hk)]; exact hj) r hr
theorem Rd.under {w w' : World} {d : Dt} {v : Value} {fp : List Nat} (h : Rd w d v fp) (hb : Below w.heap.size w w') : Rd w' d v fp := h.grown (below_grown hb) fun _ e => by cases e
theorem Rd.underB {B : Nat} {w w' : World} {d : Dt} {v : Value} {fp : List Nat} (hb : Below B w w') (h : Rd w d v fp) (hf : ∀ g ∈ fp, g < B) : Rd w' d v fp := by
  induction h with
  | i n => exact .i n
  | b x => exact .b x
  | s t => exact .s t
  | nil a cap hn => exact .nil a cap hn
  | l sz es g off cap V F hne hsz hcap hgl hc hrd ih =>
    refine .l sz es g off cap V F hne hsz hcap (Nat.lt_of_lt_of_le hgl hb.size) (fun k j hk hj => (hb.cell (p := ⟨g, off + (k * sz + j), none⟩) (hf g (by simp))).trans (hc k j hk hj)) (fun k j hk hj => ih k j hk hj fun r hm => ?_)
    refine hf r (List.mem_cons_of_mem _ (List.mem_flatMap.2 ⟨k, List.mem_range.2 hk, List.mem_flatMap.2 ⟨j, List.mem_range.2 ?_, hm⟩⟩))
    rw [← hsz _ (List.getElem_mem hk)]; exact hj

/-- A list in memory: its slice, and each element's row. -/
theorem Rd.list {w : World} {es : List (List Dt)} {v : Value} {fp : List Nat} (h : Rd w (.l es) v fp) : ∃ a cap, v = .slice a es.length cap ∧ es.length ≤ cap ∨ es = [] ∧ ∃ a cap, v = .slice a 0 cap := by
  generalize hd : Dt.l es = d at h
  cases h with
  | i n => cases hd
  | b x => cases hd
  | s t => cases hd
  | nil a cap hn => cases hd; exact ⟨a, cap, .inr ⟨rfl, a, cap, rfl⟩⟩
  | l sz es' g off cap V F hne hsz hcap hgl hc hrd => cases hd; exact ⟨_, cap, .inl ⟨rfl, hcap⟩⟩
theorem Rd.slice {w : World} {es : List (List Dt)} {v : Value} {fp : List Nat} (h : Rd w (.l es) v fp) : ∃ a cap, v = .slice a es.length cap := by
  obtain ⟨a, cap, ⟨rfl, _⟩ | ⟨rfl, a, cap, rfl⟩⟩ := h.list
  · exact ⟨a, cap, rfl⟩
  · exact ⟨a, cap, rfl⟩
theorem Rd.at {w : World} {es : List (List Dt)} {a : Option Addr} {n cap : Nat} {fp : List Nat} (h : Rd w (.l es) (.slice a n cap) fp) (hne : 0 < es.length) {sz : Nat} (hsz : ∀ e ∈ es, e.length = sz) :
    ∃ g off, a = some ⟨g, off, none⟩ ∧ g < w.heap.size ∧ g ∈ fp ∧ n = es.length ∧ n ≤ cap ∧ ∀ k j (hk : k < es.length) (hj : j < (es[k]).length), ∃ v fp', w.cell? ⟨g, off + (k * sz + j), none⟩ = some v ∧ Rd w ((es[k])[j]) v fp' ∧ ∀ r ∈ fp', r ∈ fp := by
  generalize hd : Dt.l es = d at h
  generalize hv : Value.slice a n cap = v at h
  cases h with
  | i n => cases hd
  | b x => cases hd
  | s t => cases hd
  | nil a cap hn => cases hd; simp at hne
  | l sz' es' g off cap' V F hne' hsz' hcap hgl hc hrd =>
    cases hd
    cases hv
    have hss : sz' = sz := by
      have h0 := List.getElem_mem hne
      rw [← hsz' _ h0, hsz _ h0]
    subst hss
    refine ⟨g, off, rfl, hgl, by simp, rfl, hcap, fun k j hk hj => ⟨V k j, F k j, hc k j hk (by rw [← hsz _ (List.getElem_mem hk)]; exact hj), hrd k j hk hj, fun r hr => ?_⟩⟩
    refine List.mem_cons_of_mem _ (List.mem_flatMap.2 ⟨k, List.mem_range.2 hk, List.mem_flatMap.2 ⟨j, List.mem_range.2 ?_, hr⟩⟩)
    rw [← hsz _ (List.getElem_mem hk)]; exact hj

theorem Rd.nilcap {w : World} {es : List (List Dt)} {n cap : Nat} {fp : List Nat} (h : Rd w (.l es) (.slice none n cap) fp) : cap = 0 := by
  generalize hd : Dt.l es = d at h
  generalize hv : Value.slice none n cap = v at h
  cases h with
  | i n => cases hd
  | b x => cases hd
  | s t => cases hd
  | nil a cap hn => cases hv; exact hn rfl
  | l sz' es' g off cap' V F hne' hsz' hcap hgl hc hrd => cases hv

/-! lists of numbers -/
def intsD (xs : List Int) : Dt := .l (xs.map fun x => [.i x])
theorem Rd.int {w : World} {n : Int} {v : Value} {fp : List Nat} (h : Rd w (.i n) v fp) : v = .int .i64 n ∧ fp = [] := by cases h; exact ⟨rfl, rfl⟩
theorem Rd.bool {w : World} {x : Bool} {v : Value} {fp : List Nat} (h : Rd w (.b x) v fp) : v = .bool x ∧ fp = [] := by cases h; exact ⟨rfl, rfl⟩
theorem Rd.ints {w : World} {xs : List Int} {v : Value} {fp : List Nat} (h : Rd w (intsD xs) v fp) : ∃ a cap, v = .slice a xs.length cap ∧ (xs.length ≤ cap ∨ xs = []) ∧ IntsAt w a xs := by
  obtain ⟨a, cap, rfl⟩ := Rd.slice h
  rw [List.length_map] at h ⊢
  rcases Nat.eq_zero_or_pos xs.length with h0 | h0
  · have : xs = [] := List.eq_nil_of_length_eq_zero h0
    subst this
    exact ⟨a, cap, rfl, .inr rfl, .inl rfl⟩
  · obtain ⟨g, off, rfl, hg, _, hn, hcap, hc⟩ := Rd.at h (by simpa using h0) (sz := 1) (by intro e he; simp at he; obtain ⟨x, _, rfl⟩ := he; rfl)
    refine ⟨_, cap, rfl, .inl hcap, .inr ⟨g, off, rfl, hg, fun j hj => ?_⟩⟩
    obtain ⟨v, fp', hcell, hr, _⟩ := hc j 0 (by simpa using hj) (by simp)
    have hr' : Rd w (.i xs[j]) v fp' := by simpa using hr
    obtain ⟨rfl, _⟩ := hr'.int
    simpa using hcell
theorem Rd.of_ints {w : World} {xs : List Int} {g off cap : Nat} (hne : 0 < xs.length) (hcap : xs.length ≤ cap) (hg : g < w.heap.size) (hc : ∀ j (h : j < xs.length), w.cell? ⟨g, off + j, none⟩ = some (.int .i64 xs[j])) :
    Rd w (intsD xs) (.slice (some ⟨g, off, none⟩) xs.length cap) [g] := by
  have := Rd.l (w := w) 1 (xs.map fun x => [Dt.i x]) g off cap (fun k _ => .int .i64 (xs.getD k 0)) (fun _ _ => []) (by simpa using hne) (by intro e he; simp at he; obtain ⟨x, _, rfl⟩ := he; rfl) (by simpa using hcap) hg
    (fun k j hk hj => by
      have hk' : k < xs.length := by simpa using hk
      have : j = 0 := by omega
      subst this
      rw [getD_get hk']
      simpa using hc k hk')
    (fun k j hk hj => by
      have hk' : k < xs.length := by simpa using hk
      have hj0 : j = 0 := by simp at hj; exact hj
      subst hj0
      rw [getD_get hk']
      simpa using Rd.i (w := w) xs[k])
  have e : (List.range (xs.map fun x => [Dt.i x]).length).flatMap (fun k => (List.range 1).flatMap ((fun _ _ => ([] : List Nat)) k)) = [] := by simp
  rw [e, List.length_map] at this
  exact this
theorem Rd.of_own {E : TypeId} {w : World} {B : Nat} {v : Value} {xs : List Int} (h : Own E w B v xs) : ∃ fp, Rd w (intsD xs) v fp ∧ ∀ g ∈ fp, B ≤ g ∧ v.ownBlock = some g := by
  rcases Nat.eq_zero_or_pos xs.length with h0 | h0
  · have : xs = [] := List.eq_nil_of_length_eq_zero h0
    subst this
    rcases h.2 with ⟨rfl, _⟩ | ⟨g, cap, cur, rfl, _, _, _, _⟩
    · exact ⟨[], .nil _ _ (fun _ => rfl), fun g hg => by cases hg⟩
    · exact ⟨[], .nil _ _ (fun e => by cases e), fun g hg => by cases hg⟩
  · obtain ⟨g, cap, rfl, hB, hg, hcap, hc, _⟩ := h.row h0
    exact ⟨[g], Rd.of_ints h0 hcap hg (fun j hj => by rw [Nat.zero_add]; exact hc j hj), fun r hr => by simp at hr; subst hr; exact ⟨hB, rfl⟩⟩

/-! a variable of a struct type, or of one cell -/
/-- Block B is a variable of type t that holds these cells. -/
def Str (W : World) (B : Nat) (t : TypeId) (vs : Array Value) : Prop := W.heap[B]? = some (.cells vs t (0, 0))
theorem Str.lt {W : World} {B : Nat} {t : TypeId} {vs : Array Value} (h : Str W B t vs) : B < W.heap.size := (Array.getElem?_eq_some_iff.1 h).1
theorem Str.new (W : World) (t : TypeId) (vs : Array Value) : Str (W.alloc (.cells vs t)) W.heap.size t vs := by
  show (W.heap.push _)[W.heap.size]? = _
  simp
theorem Str.cell {W : World} {B : Nat} {t : TypeId} {vs : Array Value} (h : Str W B t vs) (j : Nat) {v : Value} (hv : vs[j]? = some v) : W.cell? ⟨B, j, none⟩ = some v := by
  simp [World.cell?, show W.heap[B]? = _ from h, hv]
theorem Str.frozen {W : World} {B : Nat} {t : TypeId} {vs : Array Value} (h : Str W B t vs) (j : Nat) : W.frozen? ⟨B, j, none⟩ = false := by simp [World.frozen?, show W.heap[B]? = _ from h]
theorem Str.kept {W W' : World} {row : Option Nat} {B : Nat} {t : TypeId} {vs : Array Value} (h : Str W B t vs) (hg : W.grownBy W' row) (hne : some B ≠ row) : Str W' B t vs := (hg.block B h.lt hne).trans h
theorem Str.alloc {W : World} {B : Nat} {t : TypeId} {vs : Array Value} (h : Str W B t vs) (o : Obj) : Str (W.alloc o) B t vs := h.kept (World.grownBy_alloc W o none) (by simp)
theorem Str.set {W : World} {B : Nat} {t : TypeId} {vs : Array Value} (h : Str W B t vs) (j : Nat) (v : Value) : Str (W.setCell ⟨B, j, none⟩ v) B t (vs.setIfInBounds j v) := by
  obtain ⟨hlt, hk⟩ := Array.getElem?_eq_some_iff.1 h
  show (W.heap.modify B _)[B]? = _
  rw [Array.getElem?_eq_getElem (by rw [Array.size_modify]; exact hlt), Array.getElem_modify_self, hk]
  rfl
theorem grownBy_set (W : World) (b j : Nat) (v : Value) : W.grownBy (W.setCell ⟨b, j, none⟩ v) (some b) :=
  ⟨rfl, rfl, rfl, by simp [World.setCell], fun k _ hk => Below.heap_setCell _ _ _ k (fun e => hk (by rw [e]))⟩
theorem Str.other {W : World} {B : Nat} {t : TypeId} {vs : Array Value} (h : Str W B t vs) {B' : Nat} (hne : B ≠ B') (j : Nat) (v : Value) : Str (W.setCell ⟨B', j, none⟩ v) B t vs := h.kept (grownBy_set W B' j v) (by simpa using hne)
theorem Own.set_other {E : TypeId} {W : World} {B : Nat} {v : Value} {xs : List Int} (h : Own E W B v xs) {B' : Nat} (hne : v.ownBlock ≠ some B') (j : Nat) (u : Value) : Own E (W.setCell ⟨B', j, none⟩ u) B v xs := h.kept (grownBy_set W B' j u) (.inr hne)

theorem IntsAt_own {E : TypeId} {w : World} {B n c : Nat} {a : Option Addr} {xs : List Int} (h : Own E w B (.slice a n c) xs) : IntsAt w a xs := by
  obtain ⟨a', c', e, hi, _⟩ := h.ints
  simp only [Value.slice.injEq] at e
  obtain ⟨rfl, _, _⟩ := e
  exact hi

end Go.Proofs.Ytnaeeemgehgdfab

/- A list of rows that the call builds by append: its own outer row, and elements that read as data in memory of the call's own; general steps, nothing here speaks of the program. -/
namespace Go.Proofs.Ytnaeeemgehgdfab
open Go.RowKit

/-- Each cell of an element reads as its datum, in memory from B on that is not the outer row's. -/
def CellsRd (w : World) (B : Nat) (blk : Option Nat) (cs : List Value) (e : List Dt) : Prop :=
  ∀ j (hj : j < e.length), ∃ c fp, cs[j]? = some c ∧ Rd w e[j] c fp ∧ ∀ r ∈ fp, B ≤ r ∧ blk ≠ some r
theorem CellsRd.step {w w' : World} {B : Nat} {blk blk' row : Option Nat} {cs : List Value} {e : List Dt} (h : CellsRd w B blk cs e) (hg : w.grownBy w' row) (hrow : ∀ r, row = some r → r < B ∨ blk = some r) (hb : ∀ g, blk' = some g → blk = some g ∨ w.heap.size ≤ g) :
    CellsRd w' B blk' cs e := by
  intro j hj
  obtain ⟨c, fp, hc, hr, hf⟩ := h j hj
  refine ⟨c, fp, hc, hr.grown hg fun r e hm => ?_, fun r hm => ⟨(hf r hm).1, fun e => ?_⟩⟩
  · rcases hrow r e with h | h
    · have := (hf r hm).1; omega
    · exact (hf r hm).2 h
  · rcases hb r e with h | h
    · exact (hf r hm).2 h
    · have := hr.lt r hm; omega
structure Bld (E : TypeId) (sz : Nat) (w : World) (B : Nat) (v : Value) (es : List (List Dt)) : Prop where
  szs : ∀ e ∈ es, e.length = sz
  row : ∃ cs : List Value, w.ownsRow B E sz v es.length cs ∧ ∀ k (hk : k < es.length), CellsRd w B v.ownBlock (cs.drop (k * sz)) es[k]
theorem Bld.nil {E : TypeId} {sz : Nat} {w : World} {B : Nat} {v : Value} (h : w.ownsRow B E sz v 0 []) : Bld E sz w B v [] := ⟨by simp, [], h, fun k hk => by simp at hk⟩
theorem Bld.step {E : TypeId} {sz : Nat} {w w' : World} {B : Nat} {v : Value} {es : List (List Dt)} {row : Option Nat} (h : Bld E sz w B v es) (hg : w.grownBy w' row) (hrow : ∀ r, row = some r → r < B) : Bld E sz w' B v es := by
  obtain ⟨cs, ho, hc⟩ := h.row
  refine ⟨h.szs, cs, ho.kept hg ?_, fun k hk => (hc k hk).step hg (fun r e => .inl (hrow r e)) (fun g e => .inl e)⟩
  cases hv : v.ownBlock with
  | none => exact .inl rfl
  | some g => exact .inr fun e => by have := hrow g e.symm; have := (ho.lt g hv).1; omega
theorem Bld.under {E : TypeId} {sz : Nat} {w w' : World} {B : Nat} {v : Value} {es : List (List Dt)} (h : Bld E sz w B v es) (hb : Below w.heap.size w w') : Bld E sz w' B v es := h.step (below_grown hb) fun _ e => by cases e
theorem Bld.lt {E : TypeId} {sz : Nat} {w : World} {B : Nat} {v : Value} {es : List (List Dt)} (h : Bld E sz w B v es) : ∀ g, v.ownBlock = some g → B ≤ g ∧ g < w.heap.size := by
  obtain ⟨cs, ho, _⟩ := h.row; exact ho.lt
theorem Bld.slice {E : TypeId} {sz : Nat} {w : World} {B : Nat} {v : Value} {es : List (List Dt)} (h : Bld E sz w B v es) : ∃ a cap, v = .slice a es.length cap ∧ es.length ≤ maxLen := by
  obtain ⟨cs, ho, _⟩ := h.row
  rcases ho.2 with ⟨rfl, h0⟩ | ⟨g, cap, cur, rfl, hb, hg, hn, hm, hs, ht⟩
  · exact ⟨none, 0, by rw [h0], by rw [h0]; simp⟩
  · exact ⟨_, cap, rfl, by omega⟩

/-- 'append(s, x)', x an element of a struct type. -/
theorem wpList_push_row {P : Program} {T E : TypeId} {z0 : Value} {sz bytes : Nat} (hsl : P.underlying T = some (.slice E)) (hinf : (P.info? E).map (fun i => (i.zero, i.size, i.bytes)) = some (some z0, sz, bytes)) (hz0 : z0.cells.size = sz) (hpos : 0 < sz) (hby : bytes ≤ 1000)
    {w : World} {ops : Array Oper} {rest : List Oper} {o : Oper} {a : Act} {Q : Exit → Act → World → Prop} (hgd : o.guard = none) (s x : Operand) (ho : o.op = .call { callee := .builtin .append, args := #[s, x], argTypes := #[T, T] }) (B : Nat) (v : Value) (es : List (List Dt)) (e : List Dt)
    (vals : List Value) (cells : Array Value) (hcells : cells = vals.toArray) (hvl : vals.length = sz) (h1c : ∀ u ∈ vals, u.oneCell' = true) (hs : a.eval s = v) (hb : Bld E sz w B v es) (he : e.length = sz) (hr : CellsRd w B v.ownBlock vals e) (hlen : es.length ≤ 1048576)
    (hx : a.eval x = .slice (some ⟨w.heap.size, 0, none⟩) 1 1) (hB : B ≤ w.heap.size)
    (h : ∀ v' w', Bld E sz w' B v' (es ++ [e]) → w.grownBy w' v.ownBlock → (∀ g, v'.ownBlock = some g → v.ownBlock = some g ∨ w.heap.size ≤ g) → wpList P ops Q rest (a.put o.dst v') w') : wpList P ops Q (o :: rest) a (w.alloc (.cells cells E)) := by
  subst hcells
  refine wpList_want (by unfold Region.wanted; rw [hgd]) fun K hK => ?_
  obtain ⟨i, hi, hz, hsz, hbb⟩ := info_parts hinf
  obtain ⟨cs, hown, hc⟩ := hb.row
  have hcl : cs.length = es.length * sz := hown.1
  obtain ⟨v', w', hrun, h1, h2, _, h4⟩ := run_append_own_at (P := P) (w.alloc (.cells vals.toArray E)) B T o.type E i z0 sz bytes hsl hi hz hsz hbb hz0 hpos v es.length _ (World.ownsRow.alloc hown _) ⟨w.heap.size, 0, none⟩ 1 1 vals (by rw [hvl]; simp)
    (fun j u hu => by
      rw [addr_add, World.cell?_alloc_at _ _ _ _ rfl]; simpa using hu) h1c (by unfold maxLen; omega) (by
      have := Nat.mul_le_mul (show es.length + 1 ≤ 1048577 by omega) hby; omega) (by simp; omega)
  unfold Oper.wp execOp
  simp only [ho, resolve, invoke, builtin, Sem.run_bind, Sem.run_pure, Result.andThen_ok, List.map_toArray, List.map_cons, List.map_nil, hs, hx, hrun]
  have hg : w.grownBy w' v.ownBlock := grownBy_trans (World.grownBy_alloc _ _ _) h2
  have hloc : ∀ g, v'.ownBlock = some g → v.ownBlock = some g ∨ w.heap.size ≤ g := fun g e => by
    rcases h4 with h4 | h4
    · exact .inl (by rw [← h4]; exact e)
    · rw [h4] at e; cases e; exact .inr (by simp)
  refine hK _ _ (h v' w' ⟨?_, cs ++ vals, by rw [List.length_append]; exact h1, fun k hk => ?_⟩ hg hloc)
  · intro d hd
    rcases List.mem_append.1 hd with hd | hd
    · exact hb.szs d hd
    · simp at hd; subst hd; exact he
  · by_cases hke : k < es.length
    · have hkk : (es ++ [e])[k] = es[k] := List.getElem_append_left hke
      rw [hkk]
      have hcr := (hc k hke).step (blk' := v'.ownBlock) hg (fun r e => .inr e) hloc
      intro j hj
      obtain ⟨c, fp, hcc, hrest⟩ := hcr j hj
      refine ⟨c, fp, ?_, hrest⟩
      rw [List.getElem?_drop] at hcc ⊢
      have hjs : j < sz := by rw [← hb.szs _ (List.getElem_mem hke)]; exact hj
      have : k * sz + j < cs.length := by
        rw [hcl]
        have := Nat.mul_le_mul_right sz (show k + 1 ≤ es.length by omega)
        rw [Nat.add_mul] at this; omega
      rw [List.getElem?_append_left this]; exact hcc
    · have hkl : k = es.length := by simp at hk; omega
      subst hkl
      have hkk : (es ++ [e])[es.length] = e := by simp
      rw [hkk]
      have : (cs ++ vals).drop (es.length * sz) = vals := by rw [← hcl]; simp
      rw [this]
      exact hr.step hg (fun r e => .inr e) hloc
/-- What has been built reads as its data. -/
theorem Bld.rd {E : TypeId} {sz : Nat} {w : World} {B : Nat} {v : Value} {es : List (List Dt)} (h : Bld E sz w B v es) : ∃ fp, Rd w (.l es) v fp ∧ ∀ r ∈ fp, B ≤ r := by
  obtain ⟨cs, ho, hc⟩ := h.row
  rcases Nat.eq_zero_or_pos es.length with h0 | h0
  · have : es = [] := List.eq_nil_of_length_eq_zero h0
    subst this
    rcases ho.2 with ⟨rfl, _⟩ | ⟨g, cap, cur, rfl, _, _, _, _⟩
    · exact ⟨[], .nil _ _ (fun _ => rfl), by simp⟩
    · exact ⟨[], .nil _ _ (fun e => by cases e), by simp⟩
  · rcases ho.2 with ⟨rfl, hz⟩ | ⟨g, cap, cur, rfl, hb, hg, hn, hm, hs, ht⟩
    · omega
    · have hgl := (ho.lt g rfl)
      have hjs : ∀ k (hk : k < es.length) j, j < sz → j < (es[k]).length := fun k hk j hj => by rw [h.szs _ (List.getElem_mem hk)]; exact hj
      have hex : ∀ k j, ∃ (p : Value × List Nat), ∀ (hk : k < es.length) (hj : j < (es[k]).length), (cs.drop (k * sz))[j]? = some p.1 ∧ Rd w (es[k][j]) p.1 p.2 ∧ ∀ r ∈ p.2, B ≤ r := by
        intro k j
        by_cases hk : k < es.length
        · by_cases hj : j < (es[k]).length
          · obtain ⟨c, fp, hcc, hr, hf⟩ := hc k hk j hj
            exact ⟨(c, fp), fun _ _ => ⟨hcc, hr, fun r hr => (hf r hr).1⟩⟩
          · exact ⟨(undef, []), fun _ h => absurd h hj⟩
        · exact ⟨(undef, []), fun h => absurd h hk⟩
      obtain ⟨F, hF⟩ : ∃ F : Nat → Nat → Value × List Nat, ∀ k j (hk : k < es.length) (hj : j < (es[k]).length), (cs.drop (k * sz))[j]? = some (F k j).1 ∧ Rd w (es[k][j]) (F k j).1 (F k j).2 ∧ ∀ r ∈ (F k j).2, B ≤ r :=
        ⟨fun k j => Classical.choose (hex k j), fun k j => Classical.choose_spec (hex k j)⟩
      refine ⟨_, Rd.l sz es g 0 cap (fun k j => (F k j).1) (fun k j => (F k j).2) h0 h.szs hn hgl.2 (fun k j hk hj => ?_) (fun k j hk hj => (hF k j hk hj).2.1), fun r hr => ?_⟩
      · have h1 := (hF k j hk (hjs k hk j hj)).1
        rw [List.getElem?_drop] at h1
        have h2 := World.ownsRow.cells ho (g := g) rfl (k * sz + j) _ h1
        rw [addr_add] at h2
        rw [Nat.zero_add]; exact h2
      · rcases List.mem_cons.1 hr with rfl | hr
        · exact hgl.1
        · obtain ⟨k, hk, hr⟩ := List.mem_flatMap.1 hr
          obtain ⟨j, hj, hr⟩ := List.mem_flatMap.1 hr
          rw [List.mem_range] at hk hj
          exact (hF k j hk (hjs k hk j hj)).2.2 r hr

end Go.Proofs.Ytnaeeemgehgdfab

/- What the functions of committees answer, each by a walk of its text: the answers are those of plain functions on lists; conditions: a list that is read has fewer than 2^40 elements. -/
namespace Go.Proofs.Ytnaeeemgehgdfab
open Go.RowKit

theorem spec_l6In (n lo hi : Int) (w : World) : Calls Try.prog 16 #[.int .i64 n, .int .i64 lo, .int .i64 hi] w fun e w' => e = .returned (.bool (decide (lo ≤ n ∧ n ≤ hi))) ∧ w = w' := by
  by_cases h1 : lo ≤ n
  · go_enter Try.func16, Try.ntmps16
    go_wp2
    go_ret
    exact ⟨ret_bool (by simp [h1]), rfl⟩
  · go_enter Try.func16, Try.ntmps16
    go_wp2
    go_ret
    exact ⟨ret_bool (by simp; omega), rfl⟩
theorem spec_l6In_yes {n lo hi : Int} (h : lo ≤ n ∧ n ≤ hi) (w : World) : Calls Try.prog 16 #[.int .i64 n, .int .i64 lo, .int .i64 hi] w fun e w' => e = .returned (.bool true) ∧ w = w' := by
  have := spec_l6In n lo hi w
  rwa [decide_eq_true h] at this
theorem spec_l6In_no {n lo hi : Int} (h : ¬ (lo ≤ n ∧ n ≤ hi)) (w : World) : Calls Try.prog 16 #[.int .i64 n, .int .i64 lo, .int .i64 hi] w fun e w' => e = .returned (.bool false) ∧ w = w' := by
  have := spec_l6In n lo hi w
  rwa [decide_eq_false h] at this

end Go.Proofs.Ytnaeeemgehgdfab

/- Shards reckoned on lists; plain arithmetic, no walk and no condition of our own. -/
namespace Go.Proofs.Ytnaeeemgehgdfab

def powF (b : Int) : Nat → Int
  | 0 => 1
  | n + 1 => powF b n * b % 251
theorem powF_bd (b : Int) : ∀ n, 0 ≤ powF b n ∧ powF b n ≤ 250 := by
  intro n
  cases n with
  | zero => simp [powF]
  | succ n => rw [powF]; omega
theorem mul_bd {x y B C : Int} (h0 : 0 ≤ x) (h1 : x ≤ B) (h2 : 0 ≤ y) (h3 : y ≤ C) : 0 ≤ x * y ∧ x * y ≤ B * C :=
  ⟨Int.mul_nonneg h0 h2, Int.mul_le_mul h1 h3 h2 (by omega)⟩
def symB (n : Int) : Bool := decide (0 ≤ n ∧ n ≤ 250)
theorem symB_bd {n : Int} (h : symB n = true) : 0 ≤ n ∧ n ≤ 250 := of_decide_eq_true h
theorem symB_yes {n : Int} (h : 0 ≤ n ∧ n ≤ 250) : symB n = true := decide_eq_true h
theorem symB_no {n : Int} (h : ¬ (0 ≤ n ∧ n ≤ 250)) : symB n = false := decide_eq_false h
/-- The value of the first k symbols of a column at a number. -/
def valTo (d : List Int) (need col : Nat) (x : Int) : Nat → Int
  | 0 => 0
  | k + 1 => if col * need + k < d.length then (valTo d need col x k + d.getD (col * need + k) 0 * powF x k) % 251 else valTo d need col x k
theorem valTo_bd (d : List Int) (need col : Nat) (x : Int) : ∀ k, 0 ≤ valTo d need col x k ∧ valTo d need col x k ≤ 250 := by
  intro k
  induction k with
  | zero => simp [valTo]
  | succ k ih => rw [valTo]; split <;> omega
def valZ (d : List Int) (need col : Nat) (x : Int) : Int := valTo d need col x need
def colsN (d : List Int) (need : Nat) : Nat := (d.length + need - 1) / need
def shardV (d : List Int) (need : Nat) (x : Int) : List Int := (List.range (colsN d need)).map fun c => valZ d need c x
theorem shardV_len (d : List Int) (need : Nat) (x : Int) : (shardV d need x).length = colsN d need := by simp [shardV]
theorem cols_lt {d : List Int} {need c : Nat} (hn : 1 ≤ need) : c < colsN d need ↔ c * need < d.length := by
  unfold colsN
  rw [Nat.lt_div_iff_mul_lt (by omega)]
  have e := Nat.mul_comm c need
  constructor <;> intro h <;> omega
theorem cols_le {d : List Int} {need : Nat} (hn : 1 ≤ need) (h : d.length ≤ 12) : colsN d need ≤ 12 := by
  rcases Nat.lt_or_ge 12 (colsN d need) with h' | h'
  · have := (cols_lt (d := d) (c := 12) hn).1 h'
    have := Nat.mul_le_mul_left 12 hn
    omega
  · exact h'
def dataB (d : List Int) (need : Int) : Bool := d.all symB && decide (1 ≤ d.length ∧ d.length ≤ 12) && decide (1 ≤ need ∧ need ≤ 8)
theorem dataB_iff {d : List Int} {need : Int} (h : dataB d need = true) : (∀ x ∈ d, 0 ≤ x ∧ x ≤ 250) ∧ (1 ≤ d.length ∧ d.length ≤ 12) ∧ 1 ≤ need ∧ need ≤ 8 := by
  unfold dataB at h
  simp only [Bool.and_eq_true, List.all_eq_true, decide_eq_true_eq] at h
  exact ⟨fun x hx => symB_bd (h.1.1 x hx), h.1.2, h.2⟩
theorem dataB_bad {d : List Int} {k : Nat} (need : Int) (hk : k < d.length) (h : symB d[k] = false) : dataB d need = false := by unfold dataB; rw [pre_not hk h]; rfl
def makeB (d : List Int) (need many : Int) : Bool := dataB d need && decide (need ≤ many ∧ many ≤ 8)
def shardZ (d : List Int) (need : Nat) (k : Nat) : Int × List Int := ((k : Int) + 1, shardV d need ((k : Int) + 1))
def makeZ (d : List Int) (need many : Int) : List (Int × List Int) := if makeB d need many = true then (List.range many.toNat).map (shardZ d need.toNat) else []
theorem makeZ_yes {d : List Int} {need many : Nat} (h : makeB d need many = true) : makeZ d need many = (List.range many).map (shardZ d need) := by unfold makeZ; rw [if_pos h]; rfl
theorem makeZ_no {d : List Int} {need many : Int} (h : makeB d need many = false) : makeZ d need many = [] := by unfold makeZ; rw [if_neg (by simp [h])]

theorem makeB_iff {d : List Int} {need many : Int} (h : makeB d need many = true) : dataB d need = true ∧ need ≤ many ∧ many ≤ 8 := by
  unfold makeB at h; simp only [Bool.and_eq_true, decide_eq_true_eq] at h; exact h
theorem makeZ_len {d : List Int} {need many : Int} : (makeZ d need many).length ≤ 8 := by
  cases h : makeB d need many with
  | true =>
    have := makeB_iff h
    unfold makeZ; rw [if_pos h]; simp; omega
  | false => rw [makeZ_no h]; simp
theorem makeZ_in {d : List Int} {need many : Int} : ∀ s ∈ makeZ d need many, s.2.length ≤ 12 := by
  cases h : makeB d need many with
  | true =>
    have h1 := makeB_iff h
    have h2 := dataB_iff h1.1
    intro s hs
    unfold makeZ at hs; rw [if_pos h] at hs
    obtain ⟨k, _, rfl⟩ := List.mem_map.1 hs
    show (shardV _ _ _).length ≤ 12
    rw [shardV_len]
    exact cols_le (by omega) h2.2.1.2
  | false => rw [makeZ_no h]; simp
theorem cols_int {d : List Int} {need : Nat} (hn : 1 ≤ need) : ((colsN d need : Nat) : Int) = ((d.length : Int) + (need : Int) - 1) / (need : Int) := by
  unfold colsN
  rw [Int.natCast_ediv]
  congr 1
  omega

/-! shards are linear -/
def dblZ (x : Int) : Int := 2 * x % 251
theorem dbl_prod (x p : Int) : (dblZ x * p) % 251 = 2 * (x * p) % 251 := by
  unfold dblZ
  rw [Int.mul_emod, Int.emod_emod, ← Int.mul_emod, Int.mul_assoc]
theorem valTo_dbl (d : List Int) (need col : Nat) (x : Int) : ∀ k, valTo (d.map dblZ) need col x k = 2 * valTo d need col x k % 251 := by
  intro k
  induction k with
  | zero => simp [valTo]
  | succ k ih =>
    rw [valTo, valTo, List.length_map]
    by_cases h : col * need + k < d.length
    · rw [if_pos h, if_pos h, ih]
      have hg : (d.map dblZ).getD (col * need + k) 0 = dblZ (d.getD (col * need + k) 0) := by
        rw [getD_get (by simpa using h), getD_get h]; simp
      rw [hg]
      have := dbl_prod (d.getD (col * need + k) 0) (powF x k)
      generalize dblZ (d.getD (col * need + k) 0) * powF x k = q at *
      generalize d.getD (col * need + k) 0 * powF x k = r at *
      omega
    · rw [if_neg h, if_neg h, ih]
theorem valZ_dbl (d : List Int) (need col : Nat) (x : Int) : valZ (d.map dblZ) need col x = 2 * valZ d need col x % 251 := valTo_dbl d need col x need
theorem colsN_map (d : List Int) (f : Int → Int) (need : Nat) : colsN (d.map f) need = colsN d need := by unfold colsN; rw [List.length_map]
theorem dbl_data {d : List Int} {need : Int} (h : dataB d need = true) : dataB (d.map dblZ) need = true := by
  unfold dataB at *
  simp only [Bool.and_eq_true, List.all_eq_true, decide_eq_true_eq, List.length_map] at *
  refine ⟨⟨fun x hx => ?_, h.1.2⟩, h.2⟩
  obtain ⟨y, _, rfl⟩ := List.mem_map.1 hx
  exact symB_yes (by unfold dblZ; omega)
theorem shardV_get {d : List Int} {need : Nat} {x : Int} {c : Nat} (h : c < (shardV d need x).length) : (shardV d need x)[c] = valZ d need c x := by simp [shardV]

end Go.Proofs.Ytnaeeemgehgdfab

/- A list of rows of numbers, truth values, texts and lists of numbers that lies in memory of its own, no two parts in one block; general steps, nothing here speaks of the program. -/
namespace Go.Proofs.Ytnaeeemgehgdfab
open Go.RowKit

/-- A field of a row. -/
inductive Fd where
  | i (n : Int)
  | b (x : Bool)
  | s (t : ByteArray)
  | l (xs : List Int)
def Fd.dt : Fd → Dt
  | .i n => .i n
  | .b x => .b x
  | .s t => .s t
  | .l xs => intsD xs
/-- The value is the field; a list lies in a row of its own from block B on. -/
def FdOk (Ei : TypeId) (w : World) (B : Nat) (c : Value) : Fd → Prop
  | .i n => c = .int .i64 n
  | .b x => c = .bool x
  | .s t => c = .string t
  | .l xs => Own Ei w B c xs
def Apart (c d : Value) : Prop := ∀ g, c.ownBlock = some g → d.ownBlock ≠ some g
theorem Apart.symm {c d : Value} (h : Apart c d) : Apart d c := fun g hd hc => h g hc hd
theorem Own.same {E : TypeId} {w w' : World} {B : Nat} {v : Value} {xs : List Int} (h : Own E w B v xs) (hb : ∀ g, v.ownBlock = some g → w'.heap[g]? = w.heap[g]?) : Own E w' B v xs := by
  refine ⟨h.1, ?_⟩
  rcases h.2 with h0 | ⟨g, cap, cur, e, hg, hh, rest⟩
  · exact .inl h0
  · exact .inr ⟨g, cap, cur, e, hg, by rw [hb g (by rw [e]; rfl)]; exact hh, rest⟩
theorem row_same {E : TypeId} {sz : Nat} {w w' : World} {B n : Nat} {v : Value} {cs : List Value} (h : w.ownsRow B E sz v n cs) (hb : ∀ g, v.ownBlock = some g → w'.heap[g]? = w.heap[g]?) : w'.ownsRow B E sz v n cs := by
  refine ⟨h.1, ?_⟩
  rcases h.2 with h0 | ⟨g, cap, cur, e, hg, hh, rest⟩
  · exact .inl h0
  · exact .inr ⟨g, cap, cur, e, hg, by rw [hb g (by rw [e]; rfl)]; exact hh, rest⟩
theorem FdOk.same {Ei : TypeId} {w w' : World} {B : Nat} {c : Value} {f : Fd} (h : FdOk Ei w B c f) (hb : ∀ g, c.ownBlock = some g → w'.heap[g]? = w.heap[g]?) : FdOk Ei w' B c f := by
  cases f with
  | l xs => exact Own.same h hb
  | _ => exact h
theorem FdOk.lt {Ei : TypeId} {w : World} {B : Nat} {c : Value} {f : Fd} (h : FdOk Ei w B c f) : ∀ g, c.ownBlock = some g → B ≤ g ∧ g < w.heap.size := by
  cases f with
  | l xs => exact Own.lt h
  | i n => rw [show c = _ from h]; intro g e; cases e
  | b n => rw [show c = _ from h]; intro g e; cases e
  | s n => rw [show c = _ from h]; intro g e; cases e
theorem FdOk.rd {Ei : TypeId} {w : World} {B : Nat} {c : Value} {f : Fd} (h : FdOk Ei w B c f) : ∃ fp, Rd w f.dt c fp ∧ ∀ g ∈ fp, B ≤ g ∧ c.ownBlock = some g := by
  cases f with
  | l xs => exact Rd.of_own h
  | i n => rw [show c = _ from h]; exact ⟨[], .i n, by simp⟩
  | b n => rw [show c = _ from h]; exact ⟨[], .b n, by simp⟩
  | s n => rw [show c = _ from h]; exact ⟨[], .s n, by simp⟩

/-- v owns the rows es, in blocks from B on below hi, each part in a block of its own. -/
structure OwnR (E Ei : TypeId) (sz : Nat) (w : World) (B hi : Nat) (v : Value) (es : List (List Fd)) : Prop where
  szs : ∀ e ∈ es, e.length = sz
  row : ∃ cs : List Value, w.ownsRow B E sz v es.length cs ∧ (∀ k j (hk : k < es.length) (hj : j < (es[k]).length), ∃ c, cs[k * sz + j]? = some c ∧ FdOk Ei w B c (es[k])[j]) ∧
    (∀ (p q : Nat) c d, cs[p]? = some c → cs[q]? = some d → p ≠ q → Apart c d) ∧ (∀ (p : Nat) c, cs[p]? = some c → Apart c v) ∧
    (∀ (p : Nat) c g, cs[p]? = some c → c.ownBlock = some g → B ≤ g ∧ g < hi) ∧ ∀ g, v.ownBlock = some g → g < hi
theorem OwnR.nil {E Ei : TypeId} {sz : Nat} {w : World} {B hi : Nat} {v : Value} (h : w.ownsRow B E sz v 0 []) (hh : ∀ g, v.ownBlock = some g → g < hi) : OwnR E Ei sz w B hi v [] := ⟨by simp, [], h, fun k j hk => by simp at hk, fun p q c d h => by simp at h, fun p c h => by simp at h, fun p c g h => by simp at h, hh⟩
theorem OwnR.mono {E Ei : TypeId} {sz : Nat} {w : World} {B hi hi' : Nat} {v : Value} {es : List (List Fd)} (h : OwnR E Ei sz w B hi v es) (hh : hi ≤ hi') : OwnR E Ei sz w B hi' v es := by
  obtain ⟨cs, h1, h2, h3, h4, h5, h6⟩ := h.row
  exact ⟨h.szs, cs, h1, h2, h3, h4, fun p c g a b => ⟨(h5 p c g a b).1, Nat.lt_of_lt_of_le (h5 p c g a b).2 hh⟩, fun g a => Nat.lt_of_lt_of_le (h6 g a) hh⟩
theorem OwnR.same {E Ei : TypeId} {sz : Nat} {w w' : World} {B hi : Nat} {v : Value} {es : List (List Fd)} (h : OwnR E Ei sz w B hi v es) (hb : ∀ g, B ≤ g → g < hi → w'.heap[g]? = w.heap[g]?) : OwnR E Ei sz w' B hi v es := by
  obtain ⟨cs, h1, h2, h3, h4, h5, h6⟩ := h.row
  refine ⟨h.szs, cs, row_same h1 (fun g e => hb g (h1.lt g e).1 (h6 g e)), fun k j hk hj => ?_, h3, h4, h5, h6⟩
  obtain ⟨c, hc, hf⟩ := h2 k j hk hj
  exact ⟨c, hc, hf.same fun g e => hb g (hf.lt g e).1 (h5 _ c g hc e).2⟩
theorem OwnR.below {E Ei : TypeId} {sz : Nat} {w w' : World} {B hi : Nat} {v : Value} {es : List (List Fd)} (h : OwnR E Ei sz w B hi v es) (hb : Below w.heap.size w w') (hh : hi ≤ w.heap.size) : OwnR E Ei sz w' B hi v es := h.same fun g _ h2 => hb.block g (by omega)
theorem OwnR.bld {E Ei : TypeId} {sz : Nat} {w : World} {B hi : Nat} {v : Value} {es : List (List Fd)} (h : OwnR E Ei sz w B hi v es) : Bld E sz w B v (es.map fun e => e.map Fd.dt) := by
  obtain ⟨cs, h1, h2, h3, h4, h5, h6⟩ := h.row
  refine ⟨fun e he => ?_, cs, by rw [List.length_map]; exact h1, fun k hk => ?_⟩
  · obtain ⟨e', he', rfl⟩ := List.mem_map.1 he
    rw [List.length_map]; exact h.szs e' he'
  · rw [List.length_map] at hk
    intro j hj
    rw [List.getElem_map, List.length_map] at hj
    obtain ⟨c, hc, hf⟩ := h2 k j hk hj
    obtain ⟨fp, hr, hfp⟩ := hf.rd
    refine ⟨c, fp, by rw [List.getElem?_drop]; exact hc, by simp only [List.getElem_map]; exact hr, fun r hr => ⟨(hfp r hr).1, fun e => h4 _ c hc r (hfp r hr).2 e⟩⟩
theorem OwnR.lt {E Ei : TypeId} {sz : Nat} {w : World} {B hi : Nat} {v : Value} {es : List (List Fd)} (h : OwnR E Ei sz w B hi v es) : ∀ g, v.ownBlock = some g → B ≤ g ∧ g < w.heap.size := by
  obtain ⟨cs, ho, _⟩ := h.row; exact ho.lt
theorem OwnR.slice {E Ei : TypeId} {sz : Nat} {w : World} {B hi : Nat} {v : Value} {es : List (List Fd)} (h : OwnR E Ei sz w B hi v es) : ∃ a cap, v = .slice a es.length cap ∧ es.length ≤ maxLen := by
  have := h.bld.slice
  rwa [List.length_map] at this
theorem OwnR.head {E Ei : TypeId} {sz : Nat} {w : World} {B hi : Nat} {v : Value} {es : List (List Fd)} (h : OwnR E Ei sz w B hi v es) (hne : 0 < es.length) : ∃ g cap, v = .slice (some ⟨g, 0, none⟩) es.length cap ∧ B ≤ g ∧ g < hi ∧ g < w.heap.size := by
  obtain ⟨cs, h1, _, _, _, _, h6⟩ := h.row
  rcases h1.2 with ⟨_, h0⟩ | ⟨g, cap, cur, rfl, hb, hg, _⟩
  · omega
  · exact ⟨g, cap, rfl, hb, h6 g rfl, (h1.lt g rfl).2⟩
/-- A field's cell. -/
theorem OwnR.cell {E Ei : TypeId} {sz : Nat} {w : World} {B hi g n cap : Nat} {es : List (List Fd)} (h : OwnR E Ei sz w B hi (.slice (some ⟨g, 0, none⟩) n cap) es) {k j : Nat} (hk : k < es.length) (hj : j < (es[k]).length) :
    ∃ c, w.cell? ⟨g, k * sz + j, none⟩ = some c ∧ FdOk Ei w B c (es[k])[j] ∧ w.frozen? ⟨g, k * sz + j, none⟩ = false ∧ c.ownBlock ≠ some g := by
  obtain ⟨cs, h1, h2, _, h4, _, _⟩ := h.row
  obtain ⟨c, hc, hf⟩ := h2 k j hk hj
  have h0 := World.ownsRow.cells h1 (g := g) rfl _ _ hc
  rw [addr_add] at h0
  refine ⟨c, h0, hf, ?_, fun e => h4 _ c hc g e rfl⟩
  rcases h1.2 with ⟨e, _⟩ | ⟨g', cap', cur, e, _, hg, _⟩
  · cases e
  · simp only [Value.slice.injEq, Option.some.injEq, Addr.mk.injEq] at e
    rw [show g = g' from e.1.1]
    simp [World.frozen?, hg]
theorem set_get {es : List (List Fd)} {k j : Nat} {e : List Fd} (hk : k < es.length) (k' j' : Nat) (hk' : k' < (es.set k e).length) (hj' : j' < ((es.set k e)[k']).length) (he : e.length = (es[k]).length) (hne : ¬ (k' = k ∧ j' = j)) (hs : ∀ i (h : i < e.length) (h' : i < (es[k]).length), i ≠ j → e[i] = (es[k])[i]) :
    ∃ (h1 : k' < es.length) (h2 : j' < (es[k']).length), ((es.set k e)[k'])[j'] = (es[k'])[j'] := by
  have h1 : k' < es.length := by simpa using hk'
  by_cases ek : k' = k
  · subst ek
    have hb : (es.set k' e)[k'] = e := by simp
    have h2 : j' < (es[k']).length := by rw [← he]; simpa using hj'
    refine ⟨h1, h2, ?_⟩
    simp only [List.getElem_set_self]
    exact hs j' (by omega) h2 (fun e => hne ⟨rfl, e⟩)
  · have hb : (es.set k e)[k'] = es[k'] := by rw [List.getElem_set_ne (fun h => ek h.symm)]
    refine ⟨h1, by rw [hb] at hj'; exact hj', ?_⟩
    simp only [List.getElem_set_ne (fun h => ek (Eq.symm h))]
/-- Blocks lie as they lay, but for those from lo on below hi. -/
structure Btw (lo hi : Nat) (w w' : World) : Prop where
  os : w'.os = w.os
  tape : w'.tape = w.tape
  output : w'.output = w.output
  size : w.heap.size ≤ w'.heap.size
  block : ∀ b, b < w.heap.size → ¬ (lo ≤ b ∧ b < hi) → w'.heap[b]? = w.heap[b]?
theorem Btw.refl (lo hi : Nat) (w : World) : Btw lo hi w w := ⟨rfl, rfl, rfl, Nat.le_refl _, fun _ _ _ => rfl⟩
theorem Btw.trans {lo hi : Nat} {a b c : World} (h : Btw lo hi a b) (k : Btw lo hi b c) : Btw lo hi a c := ⟨k.os.trans h.os, k.tape.trans h.tape, k.output.trans h.output, Nat.le_trans h.size k.size, fun x hs hx => (k.block x (Nat.lt_of_lt_of_le hs h.size) hx).trans (h.block x hs hx)⟩
theorem Btw.grown {lo hi : Nat} {w w' : World} {row : Option Nat} (h : w.grownBy w' row) (hr : ∀ g, row = some g → lo ≤ g ∧ g < hi) : Btw lo hi w w' := ⟨h.os, h.tape, h.output, h.size, fun b hs hb => h.block b hs fun e => hb (hr b e.symm)⟩
theorem Btw.set {lo hi : Nat} (w : World) {g : Nat} (hlo : lo ≤ g) (hhi : g < hi) (j : Nat) (v : Value) : Btw lo hi w (w.setCell ⟨g, j, none⟩ v) := .grown (grownBy_set w g j v) fun b e => by cases e; exact ⟨hlo, hhi⟩
theorem Btw.below {lo hi : Nat} {a w w' : World} {B : Nat} (h : Btw lo hi w w') (hb : Below B a w) (hBw : B ≤ w.heap.size) (hB : B ≤ lo) : Below B a w' :=
  hb.trans ⟨h.os, h.tape, h.output, h.size, fun k hk => h.block k (by omega) (by omega)⟩
theorem Btw.own {lo hi : Nat} {w w' : World} (h : Btw lo hi w w') {E : TypeId} {B : Nat} {v : Value} {xs : List Int} (ho : Own E w B v xs) (hd : ∀ g, v.ownBlock = some g → g < lo ∨ hi ≤ g) : Own E w' B v xs := ho.same fun g e => h.block g (ho.lt g e).2 (by have := hd g e; omega)
theorem Btw.ownR {lo hi : Nat} {w w' : World} (h : Btw lo hi w w') {E Ei : TypeId} {sz B hi' : Nat} {v : Value} {es : List (List Fd)} (ho : OwnR E Ei sz w B hi' v es) (hs : hi' ≤ w.heap.size) (hd : hi' ≤ lo ∨ hi ≤ B) : OwnR E Ei sz w' B hi' v es := ho.same fun g h1 h2 => h.block g (by omega) (by omega)
/-- A number is stored. -/
theorem OwnR.setI {E Ei : TypeId} {sz : Nat} {w : World} {B hi g n cap : Nat} {es : List (List Fd)} (h : OwnR E Ei sz w B hi (.slice (some ⟨g, 0, none⟩) n cap) es) (hn : n = es.length) {k j : Nat} (hk : k < es.length) (hj : j < sz) (z : Int) :
    OwnR E Ei sz (w.setCell ⟨g, k * sz + j, none⟩ (.int .i64 z)) B hi (.slice (some ⟨g, 0, none⟩) n cap) (es.set k ((es[k]).set j (.i z))) := by
  subst hn
  obtain ⟨cs, h1, h2, h3, h4, h5, h6⟩ := h.row
  have hsz := h.szs _ (List.getElem_mem hk)
  have hlt : k * sz + j < cs.length := by
    rw [h1.1]
    have := Nat.mul_le_mul_right sz (show k + 1 ≤ es.length by omega)
    rw [Nat.add_mul] at this; omega
  have hst := (World.ownsRow.stored (w := w) (base := B) (e := E) (size := sz) (g := g) (n := es.length) (cap := cap) h1 (k * sz + j) (.int .i64 z)).1
  have hbl : ∀ b, b ≠ g → (w.setCell ⟨g, k * sz + j, none⟩ (.int .i64 z)).heap[b]? = w.heap[b]? := fun b hb => Below.heap_setCell _ _ _ b hb
  have hset : ∀ (p : Nat) c, (cs.set (k * sz + j) (.int .i64 z))[p]? = some c → (p ≠ k * sz + j ∧ cs[p]? = some c) ∨ (p = k * sz + j ∧ c = .int .i64 z) := by
    intro p c hp
    by_cases e : k * sz + j = p
    · subst e
      rw [List.getElem?_set_self hlt] at hp
      exact .inr ⟨rfl, by cases hp; rfl⟩
    · rw [List.getElem?_set_ne e] at hp
      exact .inl ⟨fun h => e h.symm, hp⟩
  refine ⟨fun e he => ?_, cs.set (k * sz + j) (.int .i64 z), by rw [List.length_set]; exact hst, fun k' j' hk' hj' => ?_, fun p q c d hp hq hne => ?_, fun p c hp => ?_, fun p c b hp hb => ?_, h6⟩
  · rcases List.mem_or_eq_of_mem_set he with he | rfl
    · exact h.szs e he
    · rw [List.length_set]; exact hsz
  · by_cases e : k' = k ∧ j' = j
    · obtain ⟨rfl, rfl⟩ := e
      refine ⟨_, List.getElem?_set_self hlt, ?_⟩
      simp only [List.getElem_set_self]
      rfl
    · obtain ⟨a1, a2, a3⟩ := set_get (j := j) hk k' j' hk' hj' (by rw [List.length_set]) e (fun i _ _ hi => by rw [List.getElem_set_ne (fun h => hi h.symm)])
      obtain ⟨c, hc, hf⟩ := h2 k' j' a1 a2
      rw [a3]
      have hp : k * sz + j ≠ k' * sz + j' := by
        intro hh
        have hj2 : j' < sz := by rw [← h.szs _ (List.getElem_mem a1)]; exact a2
        have e1 : (k * sz + j) / sz = k := by rw [Nat.add_comm, Nat.add_mul_div_right _ _ (by omega), Nat.div_eq_of_lt hj, Nat.zero_add]
        have e2 : (k' * sz + j') / sz = k' := by rw [Nat.add_comm, Nat.add_mul_div_right _ _ (by omega), Nat.div_eq_of_lt hj2, Nat.zero_add]
        have : k' = k := by rw [← e1, ← e2, hh]
        subst this
        exact e ⟨rfl, by omega⟩
      exact ⟨c, by rw [List.getElem?_set_ne hp]; exact hc, hf.same fun b hb => hbl b fun hg => h4 _ c hc b hb (by rw [hg]; rfl)⟩
  · rcases hset p c hp with ⟨_, hp⟩ | ⟨rfl, rfl⟩
    · rcases hset q d hq with ⟨_, hq⟩ | ⟨rfl, rfl⟩
      · exact h3 p q c d hp hq hne
      · intro g _ e; cases e
    · intro g e; cases e
  · rcases hset p c hp with ⟨_, hp⟩ | ⟨rfl, rfl⟩
    · exact h4 p c hp
    · intro g e; cases e
  · rcases hset p c hp with ⟨_, hp⟩ | ⟨rfl, rfl⟩
    · exact h5 p c b hp hb
    · cases hb
/-- A list's numbers are written over. -/
theorem OwnR.setL {E Ei : TypeId} {sz : Nat} {w w' : World} {B hi g n cap : Nat} {es : List (List Fd)} (h : OwnR E Ei sz w B hi (.slice (some ⟨g, 0, none⟩) n cap) es) {k j : Nat} (hk : k < es.length) (hj : j < sz) {c : Value} (hc : w.cell? ⟨g, k * sz + j, none⟩ = some c) {ys : List Int} (hown : Own Ei w' B c ys)
    (hb : ∀ b, b < w.heap.size → c.ownBlock ≠ some b → w'.heap[b]? = w.heap[b]?) : OwnR E Ei sz w' B hi (.slice (some ⟨g, 0, none⟩) n cap) (es.set k ((es[k]).set j (.l ys))) := by
  obtain ⟨cs, h1, h2, h3, h4, h5, h6⟩ := h.row
  have hsz := h.szs _ (List.getElem_mem hk)
  obtain ⟨c0, hc0, hf0⟩ := h2 k j hk (by omega)
  have hcc := World.ownsRow.cells h1 (g := g) rfl _ _ hc0
  rw [addr_add, hc] at hcc
  obtain rfl : c = c0 := Option.some.inj hcc
  refine ⟨fun e he => ?_, cs, by rw [List.length_set]; exact row_same h1 (fun b e => hb b (h1.lt b e).2 fun e' => h4 _ c hc0 b e' e), fun k' j' hk' hj' => ?_, h3, h4, h5, h6⟩
  · rcases List.mem_or_eq_of_mem_set he with he | rfl
    · exact h.szs e he
    · rw [List.length_set]; exact hsz
  · by_cases e : k' = k ∧ j' = j
    · obtain ⟨rfl, rfl⟩ := e
      refine ⟨_, hc0, ?_⟩
      simp only [List.getElem_set_self]
      exact hown
    · obtain ⟨a1, a2, a3⟩ := set_get (j := j) hk k' j' hk' hj' (by rw [List.length_set]) e (fun i _ _ hi => by rw [List.getElem_set_ne (fun h => hi h.symm)])
      obtain ⟨d, hd, hf⟩ := h2 k' j' a1 a2
      rw [a3]
      have hp : k * sz + j ≠ k' * sz + j' := by
        intro hh
        have hj2 : j' < sz := by rw [← h.szs _ (List.getElem_mem a1)]; exact a2
        have e1 : (k * sz + j) / sz = k := by rw [Nat.add_comm, Nat.add_mul_div_right _ _ (by omega), Nat.div_eq_of_lt hj, Nat.zero_add]
        have e2 : (k' * sz + j') / sz = k' := by rw [Nat.add_comm, Nat.add_mul_div_right _ _ (by omega), Nat.div_eq_of_lt hj2, Nat.zero_add]
        have : k' = k := by rw [← e1, ← e2, hh]
        subst this
        exact e ⟨rfl, by omega⟩
      exact ⟨d, hd, hf.same fun b hb' => hb b (hf.lt b hb').2 fun hg => h3 _ _ c d hc0 hd hp b hg hb'⟩

/-- 'append(s, x)', x an element of a struct type whose lists lie in rows of their own. -/
theorem wpList_push_own {P : Program} {T E Ei : TypeId} {z0 : Value} {sz bytes : Nat} (hsl : P.underlying T = some (.slice E)) (hinf : (P.info? E).map (fun i => (i.zero, i.size, i.bytes)) = some (some z0, sz, bytes)) (hz0 : z0.cells.size = sz) (hpos : 0 < sz) (hby : bytes ≤ 1000)
    {w : World} {ops : Array Oper} {rest : List Oper} {o : Oper} {a : Act} {Q : Exit → Act → World → Prop} (hgd : o.guard = none) (s x : Operand) (ho : o.op = .call { callee := .builtin .append, args := #[s, x], argTypes := #[T, T] }) (B : Nat) (v : Value) (es : List (List Fd)) (e : List Fd)
    (vals : List Value) (cells : Array Value) (hcells : cells = vals.toArray) (hvl : vals.length = sz) (h1c : ∀ u ∈ vals, u.oneCell' = true) (hs : a.eval s = v) (he : e.length = sz)
    (hr : ∀ j (hj : j < e.length), ∃ c, vals[j]? = some c ∧ FdOk Ei w B c e[j]) (hrr : ∀ (p q : Nat) c d, vals[p]? = some c → vals[q]? = some d → p ≠ q → Apart c d) (hi0 : Nat) (hb : OwnR E Ei sz w B hi0 v es) (hh0 : hi0 ≤ w.heap.size) (hrv : ∀ c ∈ vals, ∀ g, c.ownBlock = some g → hi0 ≤ g)
    (hlen : es.length ≤ 1048576)
    (hx : a.eval x = .slice (some ⟨w.heap.size, 0, none⟩) 1 1) (hB : B ≤ w.heap.size)
    (h : ∀ v' w', OwnR E Ei sz w' B w'.heap.size v' (es ++ [e]) → w.grownBy w' v.ownBlock → (∀ g, v'.ownBlock = some g → v.ownBlock = some g ∨ w.heap.size ≤ g) → wpList P ops Q rest (a.put o.dst v') w') : wpList P ops Q (o :: rest) a (w.alloc (.cells cells E)) := by
  subst hcells
  refine wpList_want (by unfold Region.wanted; rw [hgd]) fun K hK => ?_
  obtain ⟨i, hi, hz, hsz, hbb⟩ := info_parts hinf
  obtain ⟨cs, hown, hc, hcc, hcv, hch, hvh⟩ := hb.row
  have hcl : cs.length = es.length * sz := hown.1
  obtain ⟨v', w', hrun, h1, h2, _, h4⟩ := run_append_own_at (P := P) (w.alloc (.cells vals.toArray E)) B T o.type E i z0 sz bytes hsl hi hz hsz hbb hz0 hpos v es.length _ (World.ownsRow.alloc hown _) ⟨w.heap.size, 0, none⟩ 1 1 vals (by rw [hvl]; simp)
    (fun j u hu => by
      rw [addr_add, World.cell?_alloc_at _ _ _ _ rfl]; simpa using hu) h1c (by unfold maxLen; omega) (by
      have := Nat.mul_le_mul (show es.length + 1 ≤ 1048577 by omega) hby; omega) (by simp; omega)
  unfold Oper.wp execOp
  simp only [ho, resolve, invoke, builtin, Sem.run_bind, Sem.run_pure, Result.andThen_ok, List.map_toArray, List.map_cons, List.map_nil, hs, hx, hrun]
  have hg : w.grownBy w' v.ownBlock := grownBy_trans (World.grownBy_alloc _ _ _) h2
  have hloc : ∀ g, v'.ownBlock = some g → v.ownBlock = some g ∨ w.heap.size ≤ g := fun g e => by
    rcases h4 with h4 | h4
    · exact .inl (by rw [← h4]; exact e)
    · rw [h4] at e; cases e; exact .inr (by simp)
  have hva : ∀ (p : Nat) (c : Value), vals[p]? = some c → Apart c v := fun p c hp g e e' => by
    have := hrv c (List.mem_of_getElem? hp) g e
    have := hvh g e'
    omega
  have hvlt : ∀ (p : Nat) (c : Value) (g : Nat), vals[p]? = some c → c.ownBlock = some g → B ≤ g ∧ g < w.heap.size := fun p c g hp hg' => by
    obtain ⟨hpl, _⟩ := List.getElem?_eq_some_iff.1 hp
    obtain ⟨c', hc', hf⟩ := hr p (by omega)
    rw [hp] at hc'; cases hc'
    exact hf.lt g hg'
  have hmix : ∀ (p q : Nat) (c d : Value), vals[p]? = some c → cs[q]? = some d → Apart c d := fun p q c d hp hq g e e' => by
    have := hrv c (List.mem_of_getElem? hp) g e
    have := hch q d g hq e'
    omega
  have hsame : ∀ (c : Value) (fd : Fd), FdOk Ei w B c fd → Apart c v → FdOk Ei w' B c fd := fun c fd hf ha => hf.same fun g e => hg.block g (hf.lt g e).2 fun e' => ha g e e'.symm
  have hall : ∀ (p : Nat) (c : Value), (cs ++ vals)[p]? = some c → (cs[p]? = some c ∧ p < cs.length) ∨ (cs.length ≤ p ∧ vals[p - cs.length]? = some c) := fun p c hp => by
    by_cases e : p < cs.length
    · rw [List.getElem?_append_left e] at hp; exact .inl ⟨hp, e⟩
    · rw [List.getElem?_append_right (by omega)] at hp; exact .inr ⟨by omega, hp⟩
  have hwv : ∀ c : Value, (∀ g, c.ownBlock = some g → g < w.heap.size) → Apart c v → Apart c v' := fun c hlt ha g hc' hv' => by
    rcases hloc g hv' with h | h
    · exact ha g hc' h
    · have := hlt g hc'; omega
  refine hK _ _ (h v' w' ⟨?_, cs ++ vals, by rw [List.length_append]; exact h1, fun k j hk hj => ?_, fun p q c d hp hq hne => ?_, fun p c hp => ?_, fun p c g hp hg' => ?_, fun g e => (World.ownsRow.lt h1 g e).2⟩ hg hloc)
  · intro d hd
    rcases List.mem_append.1 hd with hd | hd
    · exact hb.szs d hd
    · simp at hd; subst hd; exact he
  · by_cases hke : k < es.length
    · have hkk : (es ++ [e])[k] = es[k] := List.getElem_append_left hke
      simp only [hkk] at hj ⊢
      obtain ⟨c, hc1, hf⟩ := hc k j hke hj
      obtain ⟨hpl, _⟩ := List.getElem?_eq_some_iff.1 hc1
      exact ⟨c, by rw [List.getElem?_append_left hpl]; exact hc1, hsame c _ hf (hcv _ c hc1)⟩
    · have hkl : k = es.length := by simp at hk; omega
      subst hkl
      have hkk : (es ++ [e])[es.length] = e := by simp
      simp only [hkk] at hj ⊢
      obtain ⟨c, hc1, hf⟩ := hr j hj
      exact ⟨c, by rw [List.getElem?_append_right (by omega), hcl, Nat.add_sub_cancel_left]; exact hc1, hsame c _ hf (hva j c hc1)⟩
  · rcases hall p c hp with ⟨hp, _⟩ | ⟨hpl, hp⟩
    · rcases hall q d hq with ⟨hq, _⟩ | ⟨_, hq⟩
      · exact hcc p q c d hp hq hne
      · exact (hmix _ p d c hq hp).symm
    · rcases hall q d hq with ⟨hq, _⟩ | ⟨hql, hq⟩
      · exact hmix _ q c d hp hq
      · exact hrr _ _ c d hp hq (by omega)
  · rcases hall p c hp with ⟨hp, _⟩ | ⟨_, hp⟩
    · exact hwv c (fun g e => Nat.lt_of_lt_of_le (hch p c g hp e).2 hh0) (hcv p c hp)
    · exact hwv c (fun g e => (hvlt _ c g hp e).2) (hva _ c hp)
  · have hsz' := hg.size
    rcases hall p c hp with ⟨hp, _⟩ | ⟨_, hp⟩
    · have := hch p c g hp hg'; omega
    · have := hvlt _ c g hp hg'; omega

end Go.Proofs.Ytnaeeemgehgdfab

/- A region that draws its order, operation by operation: an operation that yields its value in every world that meets S, or is left out by its guard, is taken first; a call is met where it alone may come up. General steps; nothing here speaks of the program. -/
namespace Go.Proofs.Ytnaeeemgehgdfab
open Go.RowKit

section
variable {P : Program} {md : Region.Mode} {l : List Oper} {Q : Exit → Act → World → Prop} {S : World → Prop} {oi : Oper} {rest : List Oper} {fuel : Nat} {listed : Array Bool} {a : Act} {w : World}

theorem drop_at {i : Nat} (hi : l.drop i = oi :: rest) : l.toArray[i]? = some oi := by
  have h : (l.drop i)[0]? = some oi := by rw [hi]; rfl
  rw [List.getElem?_drop] at h
  simpa using h
/-- Take number i first: it is carried out and yields v in every world that meets S. -/
theorem takeH (i : Nat) {v : Value} (hi : l.drop i = oi :: rest) (hs : Region.noSelect l.toArray = true) (hf : Region.free md l.toArray listed i = true) (hr : (Region.ready md l.toArray listed).contains i = true)
    (hQ : ∀ c a w, Q (.panic c) (a.put oi.dst v) w → Q (.panic c) a w) (hS : S w) (hw : Region.wanted oi (yielded l.toArray a.tmps) = true)
    (hy : ∀ w, S w → (execOp a.eval oi).run P w = .ok (.value v) w)
    (h : wpAnyH P md l.toArray Q S fuel (listed.setIfInBounds i true) (a.put oi.dst v) w) : wpAnyH P md l.toArray Q S (fuel + 1) listed a w :=
  wpAnyH_take (drop_at hi) hs hf hr hQ (.inl ⟨hw, hy⟩) hS h
/-- Number i is left out by its guard. -/
theorem skipH (i : Nat) (hi : l.drop i = oi :: rest) (hs : Region.noSelect l.toArray = true) (hf : Region.free md l.toArray listed i = true) (hr : (Region.ready md l.toArray listed).contains i = true)
    (hQ : ∀ c a w, Q (.panic c) (a.put oi.dst undef) w → Q (.panic c) a w) (hS : S w) (hw : Region.wanted oi (yielded l.toArray a.tmps) = false)
    (h : wpAnyH P md l.toArray Q S fuel (listed.setIfInBounds i true) (a.put oi.dst undef) w) : wpAnyH P md l.toArray Q S (fuel + 1) listed a w :=
  wpAnyH_take (drop_at hi) hs hf hr hQ (.inr ⟨hw, rfl⟩) hS h
/-- Number i alone may come up: it is carried out, and S is shown behind it. -/
theorem callH (i : Nat) (hi : l.drop i = oi :: rest) (hr : Region.ready md l.toArray listed = [i]) (hw : Region.wanted oi (yielded l.toArray a.tmps) = true)
    (h : ∀ K' : Act → World → Prop, Shut (∀ a w, S w → (S w → wpAnyH P md l.toArray Q S fuel (listed.setIfInBounds i true) a w) → K' a w) → Oper.wp P oi a w K' Q) : wpAnyH P md l.toArray Q S (fuel + 1) listed a w :=
  wpAnyH_ready hr (by simp) (AllReadyH.cons (drop_at hi) (fun K' hK => by rw [if_pos hw]; exact h K' hK) AllReadyH.nil)
/-- Either of two may come up next. -/
theorem twoH {oj : Oper} {rest2 : List Oper} (i j : Nat) (hi : l.drop i = oi :: rest) (hj : l.drop j = oj :: rest2) (hr : Region.ready md l.toArray listed = [i, j]) (hw : Region.wanted oi (yielded l.toArray a.tmps) = true) (hw' : Region.wanted oj (yielded l.toArray a.tmps) = true)
    (h : ∀ K' : Act → World → Prop, Shut (∀ a w, S w → (S w → wpAnyH P md l.toArray Q S fuel (listed.setIfInBounds i true) a w) → K' a w) → Oper.wp P oi a w K' Q)
    (h' : ∀ K' : Act → World → Prop, Shut (∀ a w, S w → (S w → wpAnyH P md l.toArray Q S fuel (listed.setIfInBounds j true) a w) → K' a w) → Oper.wp P oj a w K' Q) : wpAnyH P md l.toArray Q S (fuel + 1) listed a w :=
  wpAnyH_ready hr (by simp) (AllReadyH.cons (drop_at hi) (fun K' hK => by rw [if_pos hw]; exact h K' hK) (AllReadyH.cons (drop_at hj) (fun K' hK => by rw [if_pos hw']; exact h' K' hK) AllReadyH.nil))
end

end Go.Proofs.Ytnaeeemgehgdfab

/- A region that draws its order, operation by operation, where the condition on the world is kept up to a last operation alone (a store into what was loaded): general steps, nothing here speaks of the program. -/
namespace Go.Proofs.Ytnaeeemgehgdfab
open Go.RowKit

/-- Whatever order is picked from here on; S holds behind every operation until number m has come up. -/
def wpAnyL (P : Program) (md : Region.Mode) (ops : Array Oper) (Q : Exit → Act → World → Prop) (m : Nat) (S : World → Prop) : Nat → Array Bool → Act → World → Prop
  | 0, listed, a, w => Region.ready md ops listed = [] ∧ Q .normal a w
  | fuel + 1, listed, a, w =>
    (Region.ready md ops listed = [] → Q .normal a w) ∧
    ∀ i ∈ Region.ready md ops listed, wpOp P ops Q i (fun a' w' => ((listed.setIfInBounds i true).getD m true = false → S w') ∧ wpAnyL P md ops Q m S fuel (listed.setIfInBounds i true) a' w') a w

section
variable {P : Program} {md : Region.Mode} {ops : Array Oper} {Q : Exit → Act → World → Prop} {S : World → Prop} {m : Nat}

theorem any_of_L : ∀ (fuel : Nat) (listed : Array Bool) (a : Act) (w : World), wpAnyL P md ops Q m S fuel listed a w → wpAny P md ops Q fuel listed a w
  | 0, _, _, _, h => h
  | fuel + 1, _, _, _, h => ⟨h.1, fun i hi => wpOp_mono (fun a' w' h' => any_of_L fuel _ a' w' h'.2) (h.2 i hi)⟩

/-- Of two that may come up, neither waits for the other. -/
theorem ready_pair {listed : Array Bool} {i j : Nat} (hi : i ∈ Region.ready md ops listed) (hj : j ∈ Region.ready md ops listed) :
    listed.getD j true = false ∧ ∃ o, ops[j]? = some o ∧ ∀ e ∈ o.after, Region.binds md e = true → e.on ≠ i := by
  obtain ⟨hun, o, ho, hall⟩ := mem_ready.1 hj
  refine ⟨hun, o, ho, fun e he hb heq => ?_⟩
  have h1 := hall e he hb
  have h0 := (mem_ready.1 hi).1
  rw [heq] at h1
  by_cases hlt : i < listed.size <;> simp [hlt] at h0 h1
  rw [h0] at h1; cases h1
/-- Number m waits for number i. -/
def waits (md : Region.Mode) (ops : Array Oper) (m i : Nat) : Bool := (ops[m]?.map fun o => o.after.any fun e => Region.binds md e && e.on == i).getD false
theorem waits_not {listed : Array Bool} {i : Nat} (hw : waits md ops m i = true) (hi : i ∈ Region.ready md ops listed) : m ∉ Region.ready md ops listed := by
  intro hm
  obtain ⟨_, o, ho, hno⟩ := ready_pair hi hm
  unfold waits at hw
  rw [ho, Option.map_some, Option.getD_some, Array.any_eq_true'] at hw
  obtain ⟨e, he, hb⟩ := hw
  rw [Bool.and_eq_true, beq_iff_eq] at hb
  exact hno e he hb.1 hb.2

/-- Whoever may come up ahead of number i leaves its temporaries alone. -/
def FreeAt (md : Region.Mode) (ops : Array Oper) (oi : Oper) (i : Nat) (listed : Array Bool) : Prop :=
  ∀ j oj, ops[j]? = some oj → j ≠ i → listed.getD j true = false → (∀ e ∈ oj.after, Region.binds md e = true → e.on ≠ i) → oi.apart ops oj = true
theorem FreeAt.set {oi : Oper} {i j : Nat} {listed : Array Bool} (h : FreeAt md ops oi i listed) (hj : listed.getD j true = false) : FreeAt md ops oi i (listed.setIfInBounds j true) := by
  intro k ok hk hki hun hno
  refine h k ok hk hki ?_ hno
  rcases Nat.decEq j k with hjk | hjk
  · rwa [getD_set_ne true hjk] at hun
  · exact hjk ▸ hj
theorem firstL {i : Nat} {oi : Oper} {v : Value} (hi : ops[i]? = some oi) (hsel : ∀ (j : Nat) (o : Oper) cs b, ops[j]? = some o → o.op ≠ .select cs b)
    (hQ : ∀ c a w, Q (.panic c) (a.put oi.dst v) w → Q (.panic c) a w) (hw : waits md ops m i = true) (fuel : Nat) :
    ∀ (listed : Array Bool) (a : Act) (w : World), FreeAt md ops oi i listed → listed.getD m true = false → i ∈ Region.ready md ops listed → YieldsIf P ops S oi v a → S w →
      wpAnyL P md ops Q m S fuel (listed.setIfInBounds i true) (a.put oi.dst v) w → wpAnyL P md ops Q m S (fuel + 1) listed a w := by
  have im : ∀ {listed}, i ∈ Region.ready md ops listed → i ≠ m := fun hr e => waits_not hw hr (e ▸ hr)
  induction fuel with
  | zero =>
    intro listed a w _ _ hr hy hS H
    refine ⟨fun h => absurd hr (by rw [h]; simp), fun j hj => ?_⟩
    rcases Nat.decEq j i with hji | rfl
    · exact absurd (ready_mono hj hji) (by rw [H.1]; simp)
    · exact hy.wpOp hi hS ⟨fun _ => hS, H⟩
  | succ fuel ih =>
    intro listed a w hfree hmf hr hy hS H
    refine ⟨fun h => absurd hr (by rw [h]; simp), fun j hj => ?_⟩
    rcases Nat.decEq j i with hji | rfl
    · have hjm : j ≠ m := fun e => waits_not hw hr (e ▸ hj)
      obtain ⟨hjun, oj, hoj, hno⟩ := ready_pair hr hj
      refine wpOp_mono (fun a' w' h3 => ?_) (wpOp_putIf hoj (hfree j oj hoj hji hjun hno) (fun cs b => hsel i oi cs b hi) (fun cs b => hsel j oj cs b hoj) hQ hy (H.2 j (ready_mono hj hji)))
      have hS' : S w' := h3.2.1 (by rw [getD_set_ne true hjm, getD_set_ne true (im hr)]; exact hmf)
      exact ⟨fun _ => hS', ih _ a' w' (hfree.set hjun) (by rw [getD_set_ne true hjm]; exact hmf) (ready_mono hr (Ne.symm hji)) h3.1 hS' (by rw [Array.setIfInBounds_comm _ _ hji]; exact h3.2.2)⟩
    · exact hy.wpOp hi hS ⟨fun _ => hS, H⟩
end

section
variable {P : Program} {md : Region.Mode} {l : List Oper} {Q : Exit → Act → World → Prop} {S : World → Prop} {oi : Oper} {rest : List Oper} {fuel m : Nat} {listed : Array Bool} {a : Act} {w : World}

/-- Take number i first: it is carried out and yields v in every world that meets S. -/
theorem takeL (i : Nat) {v : Value} (hi : l.drop i = oi :: rest) (hs : Region.noSelect l.toArray = true) (hf : Region.free md l.toArray listed i = true) (hr : (Region.ready md l.toArray listed).contains i = true) (hm : waits md l.toArray m i = true) (hm' : listed.getD m true = false)
    (hQ : ∀ c a w, Q (.panic c) (a.put oi.dst v) w → Q (.panic c) a w) (hS : S w) (hw : Region.wanted oi (yielded l.toArray a.tmps) = true)
    (hy : ∀ w, S w → (execOp a.eval oi).run P w = .ok (.value v) w)
    (h : wpAnyL P md l.toArray Q m S fuel (listed.setIfInBounds i true) (a.put oi.dst v) w) : wpAnyL P md l.toArray Q m S (fuel + 1) listed a w :=
  firstL (drop_at hi) (Region.noSelect_spec hs) hQ hm fuel listed a w (Region.free_spec (drop_at hi) hf) hm' (by simpa using hr) (.inl ⟨hw, hy⟩) hS h
/-- Number i is left out by its guard. -/
theorem skipL (i : Nat) (hi : l.drop i = oi :: rest) (hs : Region.noSelect l.toArray = true) (hf : Region.free md l.toArray listed i = true) (hr : (Region.ready md l.toArray listed).contains i = true) (hm : waits md l.toArray m i = true) (hm' : listed.getD m true = false)
    (hQ : ∀ c a w, Q (.panic c) (a.put oi.dst undef) w → Q (.panic c) a w) (hS : S w) (hw : Region.wanted oi (yielded l.toArray a.tmps) = false)
    (h : wpAnyL P md l.toArray Q m S fuel (listed.setIfInBounds i true) (a.put oi.dst undef) w) : wpAnyL P md l.toArray Q m S (fuel + 1) listed a w :=
  firstL (drop_at hi) (Region.noSelect_spec hs) hQ hm fuel listed a w (Region.free_spec (drop_at hi) hf) hm' (by simpa using hr) (.inr ⟨hw, rfl⟩) hS h
/-- Number i alone may come up, and is not the last: it is carried out, and S is shown behind it. -/
theorem callL (i : Nat) (hi : l.drop i = oi :: rest) (hr : Region.ready md l.toArray listed = [i]) (hw : Region.wanted oi (yielded l.toArray a.tmps) = true)
    (h : ∀ K' : Act → World → Prop, Shut (∀ a w, S w → (S w → wpAnyL P md l.toArray Q m S fuel (listed.setIfInBounds i true) a w) → K' a w) → Oper.wp P oi a w K' Q) : wpAnyL P md l.toArray Q m S (fuel + 1) listed a w := by
  refine ⟨fun h0 => absurd (hr ▸ h0) (by simp), fun j hj => ?_⟩
  rw [hr] at hj
  have : j = i := by simpa using hj
  subst this
  exact wpOp_step (drop_at hi) fun K' hK => by rw [if_pos hw]; exact h K' fun a w hS hW => hK a w ⟨fun _ => hS, hW hS⟩
/-- The last one. -/
theorem lastL (hi : l.drop m = oi :: rest) (hr : Region.ready md l.toArray listed = [m]) (hend : Region.ready md l.toArray (listed.setIfInBounds m true) = []) (hm : (listed.setIfInBounds m true).getD m true = true) (hw : Region.wanted oi (yielded l.toArray a.tmps) = true)
    (h : ∀ K' : Act → World → Prop, Shut (∀ a w, Q .normal a w → K' a w) → Oper.wp P oi a w K' Q) : wpAnyL P md l.toArray Q m S (fuel + 1) listed a w := by
  refine ⟨fun h0 => absurd (hr ▸ h0) (by simp), fun j hj => ?_⟩
  rw [hr] at hj
  have : j = m := by simpa using hj
  subst this
  refine wpOp_step (drop_at hi) fun K' hK => by
    rw [if_pos hw]
    refine h K' fun a w hq => hK a w ⟨fun e => absurd (hm.symm.trans e) (by simp), ?_⟩
    cases fuel with
    | zero => exact ⟨hend, hq⟩
    | succ f => exact ⟨fun _ => hq, by rw [hend]; simp⟩
theorem wp_region_L (m : Nat) (S : World → Prop) {id : Nat} {ops : Array Oper} {a : Act} {w : World} (hm : P.follows .mixedOrders = true) (hS : S w.drew)
    (h : S w.drew → wpAnyL P .any ops Q m S ops.size (Array.replicate ops.size false) a w.drew) : (Code.region id ops true).wp P Q a w :=
  wp_region_any hm (any_of_L _ _ _ _ (h hS))
end

end Go.Proofs.Ytnaeeemgehgdfab

/- Appending one number as an operation of a region, and where the new slice lies; nothing here speaks of the program. -/
namespace Go.Proofs.Ytnaeeemgehgdfab
open Go.RowKit

/-- 'append(s, z)' as an operation of a region, and where the new slice lies. -/
theorem op_push_at {P : Program} {T E : TypeId} (hT : IntT P T E) (w : World) {o : Oper} {a : Act} {K : Act → World → Prop} {Q : Exit → Act → World → Prop} (s x : Operand)
    (ho : o.op = .call { callee := .builtin .append, args := #[s, x], argTypes := #[T, T] }) (B : Nat) (v : Value) (xs : List Int) (z : Int) (hs : a.eval s = v) (hown : Own E w B v xs)
    (hlen : xs.length ≤ 1099511627776) (hx : a.eval x = .slice (some ⟨w.heap.size, 0, none⟩) 1 1) (hB : B ≤ w.heap.size)
    (h : ∀ v' w', Own E w' B v' (xs ++ [z]) → w.grownBy w' v.ownBlock → (v'.ownBlock = v.ownBlock ∨ ∃ g, v'.ownBlock = some g ∧ w.heap.size ≤ g) → K (a.put o.dst v') w') : Oper.wp P o a (w.alloc (.cells #[.int .i64 z] E)) K Q := by
  obtain ⟨i, hi, hz, hsz, hby⟩ := info_parts hT.info
  obtain ⟨v', w', hr, h1, h2, _, h4⟩ := run_append_own_at (P := P) (w.alloc (.cells #[.int .i64 z] E)) B T o.type E i (.int .i64 0) 1 8 hT.sl hi hz hsz hby rfl (by decide) v xs.length _ (World.ownsRow.alloc hown _) ⟨w.heap.size, 0, none⟩ 1 1 [.int .i64 z] rfl (cells_one _ _ _) (by intro u hu; simp at hu; subst hu; rfl) (by unfold maxLen; omega) (by omega) (by simp; omega)
  unfold Oper.wp execOp
  simp only [ho, resolve, invoke, builtin, Sem.run_bind, Sem.run_pure, Result.andThen_ok, List.map_toArray, List.map_cons, List.map_nil, hs, hx, hr]
  refine h v' w' ?_ (grownBy_trans (World.grownBy_alloc _ _ _) h2) ?_
  · unfold Own; simpa using h1
  · rcases h4 with h4 | h4
    · exact .inl h4
    · exact .inr ⟨_, h4, by simp⟩

end Go.Proofs.Ytnaeeemgehgdfab

/- What spec's functions of shards answer, each by a walk of its text; conditions: a list that is read has fewer than 2^40 elements, what is reckoned with is in the field. -/
namespace Go.Proofs.Ytnaeeemgehgdfab
open Go.RowKit

theorem TI3 : IntT Try.prog 26 3 := ⟨Try.underlying26, by kernel_rfl⟩

theorem spec_l3Power (b : Int) (n : Nat) (w : World) (hb0 : 0 ≤ b) (hb1 : b ≤ 250) (hn : n ≤ 1000) : Calls Try.prog 42 #[.int .i64 b, .int .i64 n] w fun e w' => e = .returned (.int .i64 (powF b n)) ∧ w' = w := by
  go_enter Try.func42, Try.ntmps42
  go_wp2
  go_loop [5, 6] (fun p i => ∃ k : Nat, k ≤ n ∧ i = .int .i64 k ∧ p = .int .i64 (powF b k)) (fun _ i => n - (intOf i).toNat)
  case atStart => exact ⟨0, Nat.zero_le _, rfl, rfl⟩
  case round =>
    obtain ⟨k, hk, rfl, rfl⟩ := hrel
    have hbd := powF_bd b k
    have hm := mul_bd hbd.1 hbd.2 hb0 hb1
    have hs := Lib.hid (show powF b (k + 1) = powF b k * b % 251 from rfl)
    by_cases hlt : k < n
    · generalize powF b k = p at *
      obtain ⟨q, hq⟩ : ∃ q, p * b = q := ⟨_, rfl⟩
      rw [hq] at hm
      have hs' := Lib.hid (hs.out.trans (by rw [hq]))
      clear hs
      go_wp2
      go_round
      case rel => exact ⟨k + 1, by omega, by go_num, int_eq (by rw [hs'.out])⟩
      case measure => simp [intOf]; omega
    · have : k = n := by omega
      subst this
      go_wp2
      go_ret
      exact ⟨rfl, rfl⟩

theorem spec_l3Value (a : Option Addr) (cap : Nat) (d : List Int) (need col x : Nat) (w : World) (hd : ∀ y ∈ d, 0 ≤ y ∧ y ≤ 250) (hlen : d.length ≤ 12) (hneed : need ≤ 8) (hcol : col ≤ 12) (hx : x ≤ 8) (hc : IntsAt w a d) :
    Calls Try.prog 30 #[.slice a d.length cap, .int .i64 need, .int .i64 col, .int .i64 x] w fun e w' => e = .returned (.int .i64 (valZ d need col x)) ∧ Drawn w w' := by
  have Hd := Lib.hid hd; clear hd
  have hm := Nat.mul_le_mul hcol hneed
  obtain ⟨m, hmm⟩ : ∃ m : Nat, col * need = m := ⟨_, rfl⟩
  have hcn : (col : Int) * (need : Int) = (m : Int) := by rw [← hmm]; exact (Int.natCast_mul _ _).symm
  rw [hmm] at hm
  have Hmm := Lib.hid hmm; clear hmm
  rcases hc.len with h0 | ⟨b, off, rfl, hb, hc⟩
  all_goals
    go_enter Try.func30, Try.ntmps30
    go_wp2
    go_loopw [9, 10] (fun n i wr => ∃ k : Nat, k ≤ need ∧ i = .int .i64 k ∧ n = .int .i64 (valTo d need col x k) ∧ Drawn w wr) (fun _ i _ => need - (intOf i).toNat)
    case atStart => exact ⟨0, Nat.zero_le _, rfl, rfl, Drawn.refl _⟩
    case round =>
      obtain ⟨k, hk, rfl, rfl, hdr⟩ := hrel
      have hbd := valTo_bd d need col x k
      by_cases hlt : k < need
      · by_cases hin : m + k < d.length
        · first
          | (exfalso; omega)
          | (have hv := Lib.hid (show valTo d need col x (k + 1) = (valTo d need col x k + d.getD (col * need + k) 0 * powF x k) % 251 by rw [valTo, if_pos (by rw [Hmm.out]; exact hin)])
             rw [Hmm.out, getD_get hin] at hv
             have hcell := (hdr.cell ⟨b, off + (m + k), none⟩).trans (hc (m + k) hin)
             have hy := Hd.out _ (List.getElem_mem hin)
             have hpb := powF_bd (x : Int) k
             have hp := spec_l3Power (x : Int) k
             generalize d[m + k] = y at *
             have hm2 := mul_bd hy.1 hy.2 hpb.1 hpb.2
             generalize powF (x : Int) k = pw at *
             obtain ⟨q, hq⟩ : ∃ q, y * pw = q := ⟨_, rfl⟩
             rw [hq] at hm2
             rw [hq] at hv
             have Hp := Lib.hid hp; clear hp
             have Hc := Lib.hid hc; clear hc
             generalize valTo d need col x k = n at *
             have hin' : (m : Int) + (k : Int) < d.length := by omega
             have h0' : 0 ≤ (m : Int) + (k : Int) := by omega
             have htn : ((m : Int) + (k : Int)).toNat = m + k := by omega
             go_wp2_with fail
             go_quiet ((go_at_call 42; exact Calls.quiet_of_same (Hp.out _ (by omega) (by omega) (by omega))))
             go_wp2
             go_roundw
             case rel => exact ⟨k + 1, by omega, by go_num, int_eq (by rw [hv.out]), (hdr.drewN _)⟩
             case measure => simp [intOf]; omega)
        · have hv := Lib.hid (show valTo d need col x (k + 1) = valTo d need col x k by rw [valTo, if_neg (by rw [Hmm.out]; exact hin)])
          have hin' : ¬ (m : Int) + (k : Int) < d.length := by omega
          generalize valTo d need col x k = n at *
          go_wp2
          go_roundw
          case rel => exact ⟨k + 1, by omega, by go_num, int_eq (by rw [hv.out]), hdr⟩
          case measure => simp [intOf]; omega
      · have : k = need := by omega
        subst this
        go_wp2
        go_ret
        exact ⟨rfl, hdr⟩

theorem spec_l3Data (a : Option Addr) (cap : Nat) (d : List Int) (need : Int) (w : World) (hbig : d.length ≤ 1099511627776) (hc : IntsAt w a d) :
    Calls Try.prog 37 #[.slice a d.length cap, .int .i64 need] w fun e w' => e = .returned (.bool (dataB d need)) ∧ w = w' := by
  rcases hc.len with h0 | ⟨b, off, rfl, hb, hc⟩
  all_goals
    go_enter Try.func37, Try.ntmps37
    go_wp2
    go_loop [5] (fun i => ∃ k : Nat, k ≤ d.length ∧ i = .int .i64 k ∧ Pre symB d k) (fun i => d.length - (intOf i).toNat)
    case atStart => exact ⟨0, by omega, rfl, pre_zero _ _⟩
    case round =>
      obtain ⟨k, hk, rfl, hg⟩ := hrel
      by_cases hlt : k < d.length
      · first
        | (exfalso; omega)
        | (have hcell := hc k hlt
           have Hc := Lib.hid hc; clear hc
           by_cases h : 0 ≤ d[k] ∧ d[k] ≤ 250
           · have Hin := Lib.hid (fun w => spec_l6In_yes h w)
             have Hs := Lib.hid (pre_step hg hlt (symB_yes h)); clear hg h
             go_wp2_with fail
             refine (Hin.out _).mono ?_
             rintro e w' ⟨rfl, rfl⟩
             go_wp2
             go_round
             case rel => exact ⟨k + 1, by omega, by go_num, Hs.out⟩
             case measure => simp [intOf]; omega
           · have Hin := Lib.hid (fun w => spec_l6In_no h w)
             have Hs := Lib.hid (dataB_bad need hlt (symB_no h)); clear hg h
             go_wp2_with fail
             refine (Hin.out _).mono ?_
             rintro e w' ⟨rfl, rfl⟩
             go_wp2
             go_ret
             exact ⟨ret_bool Hs.out.symm, rfl⟩)
      · have Hs := Lib.hid (pre_all hg (by omega)); clear hg
        by_cases hz : 1 ≤ (d.length : Int) ∧ (d.length : Int) ≤ 12
        · have Hf := Lib.hid (show dataB d need = decide (1 ≤ need ∧ need ≤ 8) by unfold dataB; rw [Hs.out, decide_eq_true (by omega)]; simp)
          have Hz := Lib.hid (fun w => spec_l6In_yes hz w)
          by_cases hn : 1 ≤ need ∧ need ≤ 8
          · have Hn := Lib.hid (fun w => spec_l6In_yes hn w)
            have Hr := Lib.hid (decide_eq_true hn)
            clear hz hn
            go_wp2_with fail
            refine (Hz.out _).mono ?_
            rintro e w' ⟨rfl, rfl⟩
            go_wp2_with fail
            refine (Hn.out _).mono ?_
            rintro e w' ⟨rfl, rfl⟩
            go_wp2
            go_ret
            exact ⟨ret_bool (by rw [Hf.out, Hr.out]), rfl⟩
          · have Hn := Lib.hid (fun w => spec_l6In_no hn w)
            have Hr := Lib.hid (decide_eq_false hn)
            clear hz hn
            go_wp2_with fail
            refine (Hz.out _).mono ?_
            rintro e w' ⟨rfl, rfl⟩
            go_wp2_with fail
            refine (Hn.out _).mono ?_
            rintro e w' ⟨rfl, rfl⟩
            go_wp2
            go_ret
            exact ⟨ret_bool (by rw [Hf.out, Hr.out]), rfl⟩
        · have Hf := Lib.hid (show dataB d need = false by unfold dataB; rw [decide_eq_false (show ¬ (1 ≤ d.length ∧ d.length ≤ 12) by omega)]; simp)
          have Hz := Lib.hid (fun w => spec_l6In_no hz w)
          clear hz
          go_wp2_with fail
          refine (Hz.out _).mono ?_
          rintro e w' ⟨rfl, rfl⟩
          go_wp2
          go_ret
          exact ⟨ret_bool Hf.out.symm, rfl⟩

theorem spec_l3Shard (a : Option Addr) (cap : Nat) (d : List Int) (need x : Nat) (w : World) (hd : ∀ y ∈ d, 0 ≤ y ∧ y ≤ 250) (hlen : d.length ≤ 12) (hneed : need ≤ 8) (hneed1 : 1 ≤ need) (hx : x ≤ 8) (hc : IntsAt w a d) :
    Calls Try.prog 17 #[.slice a d.length cap, .int .i64 need, .int .i64 x] w fun e w' => ∃ v, e = .returned (.agg #[.int .i64 x, v]) ∧ Own 3 w' w.heap.size v (shardV d need x) ∧ Below w.heap.size w w' := by
  have Hd := Lib.hid hd; clear hd
  have Hc := Lib.hid hc; clear hc
  have hcol := cols_le (d := d) (need := need) hneed1 hlen
  have hsv := shardV_len d need x
  go_enter Try.func17, Try.ntmps17
  go_wp2_with fail
  go_loopw [8] (fun i wr => ∃ (c : Nat) (v : Value), c ≤ colsN d need ∧ i = .int .i64 c ∧ Str wr w.heap.size 28 #[.int .i64 0, .slice none 0 0] ∧ Str wr (w.heap.size + 1 + 1) 28 #[.int .i64 x, v] ∧ Own 3 wr (w.heap.size + 1) v ((shardV d need x).take c) ∧ v.ownBlock ≠ some (w.heap.size + 1 + 1) ∧ Below w.heap.size w wr) (fun i _ => colsN d need - (intOf i).toNat)
  case atStart =>
    have h2 := Str.new ((w.alloc (.cells #[.int .i64 0, .slice none 0 0] 28)).alloc (.cells #[] 3)) 28 #[.int .i64 x, .slice (some ⟨w.heap.size + 1, 0, none⟩) 0 0]
    have ho := (own_empty 3 (w.alloc (.cells #[.int .i64 0, .slice none 0 0] 28)) (B := w.heap.size + 1) (by simp)).alloc (.cells #[.int .i64 x, .slice (some ⟨w.heap.size + 1, 0, none⟩) 0 0] 28)
    simp only [World.size_alloc] at h2 ho
    exact ⟨0, _, Nat.zero_le _, rfl, ((Str.new _ _ _).alloc _).alloc _, h2, ho, by simp [Value.ownBlock], (((Below.refl _ w).alloc (Nat.le_refl _) _).alloc (by simp) _).alloc (by simp; omega) _⟩
  case round =>
    obtain ⟨c, v, hcn, rfl, s0, s2, hown, hv2, hbel⟩ := hrel
    obtain ⟨m, hm⟩ : ∃ m : Nat, c * need = m := ⟨_, rfl⟩
    have hcm : (c : Int) * (need : Int) = (m : Int) := by rw [← hm]; exact (Int.natCast_mul _ _).symm
    have hm96 : m ≤ 12 * 8 := by rw [← hm]; exact Nat.mul_le_mul (by omega) hneed
    have hsz := s2.lt
    have hlc := cols_lt (d := d) (c := c) hneed1
    rw [hm] at hlc
    by_cases hlt : c < colsN d need
    · have hmd : m < d.length := hlc.1 hlt
      have hz : (shardV d need x).take (c + 1) = (shardV d need x).take c ++ [valZ d need c x] := by
        rw [List.take_succ_eq_append_getElem (by omega)]
        simp [shardV]
      have Hz := Lib.hid hz; clear hz hlc
      have hcall := fun w h => spec_l3Value a cap d need c x w Hd.out hlen hneed (by omega) hx h
      have Hcall := Lib.hid hcall; clear hcall
      have hzl := Lib.hid (show ((shardV d need x).take c).length ≤ 1099511627776 by rw [List.length_take]; omega)
      generalize valZ d need c x = z at *
      generalize (shardV d need x).take c = zs at hown Hz hzl
      have h1 := s2.cell 1 (v := v) rfl
      have Hb := Lib.hid hbel; clear hbel
      have hsw := Hb.out.size
      go_wp2_with fail
      refine wp_region_L 10 (fun w' => w'.cell? ⟨w.heap.size + 1 + 1, 1, none⟩ = some v) (by kernel_rfl) h1 (fun hH => ?_)
      refine takeL 0 (v := ?v0) rfl (by kernel_rfl) (by kernel_rfl) (by kernel_rfl) (by kernel_rfl) (by kernel_rfl) (fun _ _ _ h => h) hH rfl ?y0 ?r0
      case y0 => intro w hSw; go_simp; try with_reducible rfl
      try simp only [Act.put, List.setIfInBounds_toArray, List.set_cons_zero, List.set_cons_succ]
      refine takeL 1 (v := ?v1) rfl (by kernel_rfl) (by kernel_rfl) (by kernel_rfl) (by kernel_rfl) (by kernel_rfl) (fun _ _ _ h => h) hH rfl ?y1 ?r1
      case y1 => intro w hSw; go_simp; try with_reducible rfl
      try simp only [Act.put, List.setIfInBounds_toArray, List.set_cons_zero, List.set_cons_succ]
      refine takeL 2 (v := ?v2) rfl (by kernel_rfl) (by kernel_rfl) (by kernel_rfl) (by kernel_rfl) (by kernel_rfl) (fun _ _ _ h => h) hH rfl ?y2 ?r2
      case y2 => intro w hSw; go_simp; try with_reducible rfl
      try simp only [Act.put, List.setIfInBounds_toArray, List.set_cons_zero, List.set_cons_succ]
      refine takeL 3 (v := ?v3) rfl (by kernel_rfl) (by kernel_rfl) (by kernel_rfl) (by kernel_rfl) (by kernel_rfl) (fun _ _ _ h => h) hH rfl ?y3 ?r3
      case y3 => intro w hSw; go_simp; try with_reducible rfl
      try simp only [Act.put, List.setIfInBounds_toArray, List.set_cons_zero, List.set_cons_succ]
      refine takeL 4 (v := ?v4) rfl (by kernel_rfl) (by kernel_rfl) (by kernel_rfl) (by kernel_rfl) (by kernel_rfl) (fun _ _ _ h => h) hH rfl ?y4 ?r4
      case y4 => intro w hSw; go_simp; try with_reducible rfl
      try simp only [Act.put, List.setIfInBounds_toArray, List.set_cons_zero, List.set_cons_succ]
      refine takeL 5 (v := ?v5) rfl (by kernel_rfl) (by kernel_rfl) (by kernel_rfl) (by kernel_rfl) (by kernel_rfl) (fun _ _ _ h => h) hH rfl ?y5 ?r5
      case y5 => intro w hSw; go_simp; try with_reducible rfl
      try simp only [Act.put, List.setIfInBounds_toArray, List.set_cons_zero, List.set_cons_succ]
      refine callL 6 rfl (by kernel_rfl) rfl (fun K hK => ?_)
      go_simp
      refine (Hcall.out _ (Hc.out.below (Hb.out.drew))).mono ?_
      rintro e w6 ⟨rfl, hdr⟩
      have h6 : w6.cell? ⟨w.heap.size + 1 + 1, 1, none⟩ = some v := (hdr.cell _).trans h1
      refine hK.out _ _ h6 (fun hH => ?_)
      clear hK K
      try simp only [Act.put, List.setIfInBounds_toArray, List.set_cons_zero, List.set_cons_succ]
      refine callL 7 rfl (by kernel_rfl) rfl (fun K hK => ?_)
      go_simp
      refine hK.out _ _ ((World.grownBy_alloc w6 _ none).cell h6 (by simp)) (fun hH => ?_)
      clear hK K
      try simp only [Act.put, List.setIfInBounds_toArray, List.set_cons_zero, List.set_cons_succ]
      have hown6 : Own 3 w6 (w.heap.size + 1) v zs := by obtain ⟨q, rfl⟩ := hdr; exact hown
      have hs6 : w6.heap.size = wr.heap.size := hdr.size
      have s26 : Str w6 (w.heap.size + 1 + 1) 28 #[.int .i64 x, v] := by obtain ⟨q, rfl⟩ := hdr; exact s2
      have s06 : Str w6 w.heap.size 28 #[.int .i64 0, .slice none 0 0] := by obtain ⟨q, rfl⟩ := hdr; exact s0
      have hb6 : Below w.heap.size w w6 := by obtain ⟨q, rfl⟩ := hdr; exact below_drewN Hb.out.drew q
      have Hs6 := Lib.hid hs6; clear hs6
      have hB6 : w.heap.size + 1 ≤ w6.heap.size := by have := Hs6.out; omega
      refine callL 8 rfl (by kernel_rfl) rfl (fun K hK => ?_)
      refine op_push_at TI3 w6 (.tmp 21) (.tmp 27) rfl (w.heap.size + 1) v zs z rfl hown6 hzl.out rfl hB6 ?_
      intro v8 w8 hown8 hg8 hat8
      obtain ⟨g8, c8, rfl⟩ := own_succ hown8
      have s28 := s26.kept hg8 (fun e => hv2 e.symm)
      have s08 := s06.kept hg8 (fun e => by have := (hown.lt _ e.symm).1; omega)
      have h8 := s28.cell 1 (v := v) rfl
      have f8 := s28.frozen 1
      refine hK.out _ _ h8 (fun hH => ?_)
      clear hK K
      try simp only [Act.put, List.setIfInBounds_toArray, List.set_cons_zero, List.set_cons_succ]
      refine takeL 9 (v := ?v9) rfl (by kernel_rfl) (by kernel_rfl) (by kernel_rfl) (by kernel_rfl) (by kernel_rfl) (fun _ _ _ h => h) hH rfl ?y9 ?r9
      case y9 => intro w hSw; go_simp; try with_reducible rfl
      try simp only [Act.put, List.setIfInBounds_toArray, List.set_cons_zero, List.set_cons_succ]
      refine lastL rfl (by kernel_rfl) (by kernel_rfl) (by kernel_rfl) rfl (fun K hK => ?_)
      go_simp
      refine hK.out _ _ ?_
      clear hK K
      try simp only [Act.put, List.setIfInBounds_toArray, List.set_cons_zero, List.set_cons_succ]
      go_wp2
      go_roundw
      case rel =>
        have hat : ∀ g, some g8 = some g → g ≠ w.heap.size + 1 + 1 := by
          intro g e e'
          subst e'
          have hs6 := Hs6.out
          rcases hat8 with h | ⟨g', h, h'⟩
          · exact hv2 (h.symm.trans e)
          · have e1 : some g8 = some g' := h
            have := Option.some.inj (e.symm.trans e1)
            omega
        refine ⟨c + 1, _, by omega, by go_num, s08.other (by omega) 1 _, s28.set 1 _, ?_, fun e => hat _ e rfl, ((hb6.grown hg8 (by omega) (fun g e => by have := (hown.lt g e).1; omega)).setCell (p := ⟨w.heap.size + 1 + 1, 1, none⟩) (by simp; omega) _)⟩
        rw [Hz.out]
        exact hown8.set_other (fun e => hat _ e rfl) 1 _
      case measure => simp [intOf]; omega
    · have hce : c = colsN d need := by omega
      subst hce
      rw [List.take_of_length_le (by omega)] at hown
      obtain ⟨av, cv, rfl, _, _⟩ := hown.ints
      have k0 := s2.cell 0 rfl
      have k1 := s2.cell 1 rfl
      have j0 := s0.cell 0 rfl
      have j1 := s0.cell 1 rfl
      have f0 := s0.frozen 0
      have f1 := s0.frozen 1
      have Hown := Lib.hid hown; clear hown
      clear hsv
      go_wp2
      have sF := (s0.set 0 (.int .i64 x)).set 1 (.slice av (shardV d need x).length cv)
      have e0 := sF.cell 0 (v := .int .i64 x) rfl
      have e1 := sF.cell 1 (v := .slice av (shardV d need x).length cv) rfl
      refine bodyPost_ret (v := .agg #[.int .i64 x, .slice av (shardV d need x).length cv]) (by simp [results, Try.f17, go_sem, e0, e1]) rfl ⟨_, rfl, ?_, ?_⟩
      · have hne : (Value.slice av (shardV d need x).length cv).ownBlock ≠ some w.heap.size := fun e => by have := (Hown.out.lt _ e).1; omega
        exact ((Hown.out.mono (by omega)).set_other hne 0 _).set_other hne 1 _
      · exact (hbel.setCell (p := ⟨w.heap.size, 0, none⟩) (Nat.le_refl _) _).setCell (p := ⟨w.heap.size, 1, none⟩) (Nat.le_refl _) _

/-- A shard as a row of data. -/
def shardD (s : Int × List Int) : List Dt := [.i s.1, intsD s.2]
def shardF (s : Int × List Int) : List Fd := [.i s.1, .l s.2]
theorem shardD_len (s : Int × List Int) : (shardD s).length = 2 := rfl

theorem sh_info : (Try.prog.info? 28).map (fun i => (i.zero, i.size, i.bytes)) = some (some (.agg #[.int .i64 0, .slice none 0 0]), 2, 32) := by kernel_rfl

theorem spec_ShardMakeO (a : Option Addr) (cap : Nat) (d : List Int) (need many : Int) (w : World) (hbig : d.length ≤ 1099511627776) (hc : IntsAt w a d) :
    Calls Try.prog 25 #[.slice a d.length cap, .int .i64 need, .int .i64 many] w fun e w' => ∃ v, e = .returned v ∧ OwnR 28 3 2 w' w.heap.size w'.heap.size v ((makeZ d need many).map shardF) ∧ Below w.heap.size w w' := by
  have hb0 : Below w.heap.size w (w.alloc (.cells #[] 28)) := (Below.refl _ _).alloc (Nat.le_refl _) _
  have hv0 : OwnR 28 3 2 (w.alloc (.cells #[] 28)) w.heap.size (w.alloc (.cells #[] 28)).heap.size (.slice (some ⟨w.heap.size, 0, none⟩) 0 0) [] := .nil (World.ownsRow_made w #[] 0 (Nat.le_refl _) (by simp) (by simp)) (fun g e => by cases e; simp)
  have Hv0 := Lib.hid hv0; clear hv0
  have hdt := spec_l3Data a cap d need _ hbig (hc.below hb0)
  cases hv : dataB d need with
  | true =>
    rw [hv] at hdt
    obtain ⟨hsym, ⟨hd1, hd2⟩, hn1, hn2⟩ := dataB_iff hv
    have Hdt := Lib.hid hdt; clear hdt
    have Hsym := Lib.hid hsym; clear hsym
    have Hc := Lib.hid hc; clear hc
    by_cases hm : need ≤ many ∧ many ≤ 8
    · have Hin := Lib.hid (fun w => spec_l6In_yes hm w)
      obtain ⟨need, rfl⟩ := Int.eq_ofNat_of_zero_le (show 0 ≤ need by omega)
      obtain ⟨many, rfl⟩ := Int.eq_ofNat_of_zero_le (show 0 ≤ many by omega)
      have Hf := Lib.hid (makeZ_yes (d := d) (need := need) (many := many) (by unfold makeB; rw [hv, decide_eq_true hm]; rfl))
      have hcol := cols_le (d := d) (need := need) (by omega) hd2
      clear hv
      go_enter Try.func25, Try.ntmps25
      go_wp2_with fail
      refine Hdt.out.mono ?_
      rintro e w' ⟨rfl, rfl⟩
      go_wp2_with fail
      refine (Hin.out _).mono ?_
      rintro e w' ⟨rfl, rfl⟩
      go_wp2_with fail
      go_loopw [7, 8] (fun v i wr => ∃ k : Nat, k ≤ many ∧ i = .int .i64 ((k : Int) + 1) ∧ OwnR 28 3 2 wr w.heap.size wr.heap.size v (((List.range k).map (shardZ d need)).map shardF) ∧ Below w.heap.size w wr) (fun _ i _ => many + 1 - (intOf i).toNat)
      case atStart => exact ⟨0, Nat.zero_le _, rfl, Hv0.out, hb0⟩
      case round =>
        obtain ⟨k, hk, rfl, hbld, hbel⟩ := hrel
        have Hbld := Lib.hid hbld; clear hbld
        have Hbel := Lib.hid hbel; clear hbel
        by_cases hlt : k < many
        · have hcall := spec_l3Shard a cap d need (k + 1) wr Hsym.out hd2 (by omega) (by omega) (by omega) (Hc.out.below Hbel.out)
          rw [show ((k + 1 : Nat) : Int) = (k : Int) + 1 from by omega] at hcall
          have Hcall := Lib.hid hcall; clear hcall
          have Hex := Lib.hid (show ((List.range (k + 1)).map (shardZ d need)).map shardF = (((List.range k).map (shardZ d need)).map shardF) ++ [[.i ((k : Int) + 1), .l (shardV d need ((k : Int) + 1))]] by rw [List.range_succ, List.map_append, List.map_append]; rfl)
          have hel : (((List.range k).map (shardZ d need)).map shardF).length ≤ 1048576 := by simp; omega
          generalize ((List.range k).map (shardZ d need)).map shardF = es at *
          generalize shardV d need ((k : Int) + 1) = vs at *
          go_wp2_with fail
          refine Hcall.out.mono ?_
          rintro e w6 ⟨v2, rfl, hown2, hb6⟩
          obtain ⟨a2, c2, rfl, _, _⟩ := hown2.ints
          have hbw6 := below_step Hbel.out Hbel.out.size hb6
          have hB6 := hbw6.size
          have hs6 := hb6.size
          have Hbld6 := Lib.hid (Hbld.out.below hb6 (Nat.le_refl _))
          have hfd : ∀ j (hj : j < [Fd.i ((k : Int) + 1), .l vs].length), ∃ c, [Value.int .i64 ((k : Int) + 1), .slice a2 vs.length c2][j]? = some c ∧ FdOk 3 w6 w.heap.size c ([Fd.i ((k : Int) + 1), .l vs])[j] := by
            intro j hj
            match j, hj with
            | 0, _ => exact ⟨_, rfl, rfl⟩
            | 1, _ => exact ⟨_, rfl, hown2.mono Hbel.out.size⟩
          have hap : ∀ (p q : Nat) c d, [Value.int .i64 ((k : Int) + 1), .slice a2 vs.length c2][p]? = some c → [Value.int .i64 ((k : Int) + 1), .slice a2 vs.length c2][q]? = some d → p ≠ q → Apart c d := by
            intro p q c d hp hq hne g hc hd
            match p, q with
            | 0, _ => cases hp; cases hc
            | 1, 0 => cases hq; cases hd
            | 1, 1 => exact hne rfl
            | 1, q + 2 => simp at hq
            | p + 2, _ => simp at hp
          have hnew : ∀ c ∈ [Value.int .i64 ((k : Int) + 1), .slice a2 vs.length c2], ∀ g, c.ownBlock = some g → wr.heap.size ≤ g := by
            intro c hc g hg
            simp only [List.mem_cons, List.not_mem_nil, or_false] at hc
            rcases hc with rfl | rfl
            · cases hg
            · exact (hown2.lt g hg).1
          have Hfd := Lib.hid hfd; clear hfd
          have Hap := Lib.hid hap; clear hap
          have Hnew := Lib.hid hnew; clear hnew hown2
          go_wp2_with (at_builtin; refine wpList_push_own (Ei := 3) Try.underlying23 sh_info rfl (by decide) (by decide) rfl (.tmp 26) (.tmp 31) rfl w.heap.size _ es _ _ _ rfl rfl (by intro u hu; simp at hu; rcases hu with rfl | rfl <;> rfl) rfl rfl Hfd.out Hap.out wr.heap.size Hbld6.out hs6 Hnew.out hel rfl hB6 ?_; intro v8 w8 hbld8 hg8 hat8)
          go_roundw
          case rel => exact ⟨k + 1, by omega, int_eq (by omega), by rw [Hex.out]; exact hbld8, hbw6.grown hg8 hB6 (fun g e => (Hbld.out.lt g e).1)⟩
          case measure => simp [intOf]; omega
        · have hke : k = many := by omega
          subst hke
          go_wp2
          go_ret
          exact ⟨_, rfl, by rw [Hf.out]; exact Hbld.out, Hbel.out⟩
    · have Hin := Lib.hid (fun w => spec_l6In_no hm w)
      have Hf := Lib.hid (makeZ_no (d := d) (need := need) (many := many) (by unfold makeB; rw [hv, decide_eq_false hm]; rfl))
      clear hv
      go_enter Try.func25, Try.ntmps25
      go_wp2_with fail
      refine Hdt.out.mono ?_
      rintro e w' ⟨rfl, rfl⟩
      go_wp2_with fail
      refine (Hin.out _).mono ?_
      rintro e w' ⟨rfl, rfl⟩
      go_wp2
      go_ret
      exact ⟨_, rfl, by rw [Hf.out]; exact Hv0.out, hb0⟩
  | false =>
    rw [hv] at hdt
    have Hdt := Lib.hid hdt; clear hdt
    have Hf := Lib.hid (makeZ_no (d := d) (need := need) (many := many) (by unfold makeB; rw [hv]; rfl))
    clear hv hc
    go_enter Try.func25, Try.ntmps25
    go_wp2_with fail
    refine Hdt.out.mono ?_
    rintro e w' ⟨rfl, rfl⟩
    go_wp2
    go_ret
    exact ⟨_, rfl, by rw [Hf.out]; exact Hv0.out, hb0⟩

theorem spec_ShardMake (a : Option Addr) (cap : Nat) (d : List Int) (need many : Int) (w : World) (hbig : d.length ≤ 1099511627776) (hc : IntsAt w a d) :
    Calls Try.prog 25 #[.slice a d.length cap, .int .i64 need, .int .i64 many] w fun e w' => ∃ v, e = .returned v ∧ Bld 28 2 w' w.heap.size v ((makeZ d need many).map shardD) ∧ Below w.heap.size w w' := by
  refine (spec_ShardMakeO a cap d need many w hbig hc).mono ?_
  rintro e w' ⟨v, rfl, ho, hb⟩
  refine ⟨v, rfl, ?_, hb⟩
  have := ho.bld
  rwa [List.map_map, show (fun e => List.map Fd.dt e) ∘ shardF = shardD from rfl] at this

end Go.Proofs.Ytnaeeemgehgdfab

/- Lists of shards in memory that are written over: a number in place of a number, a list in place of a list, and a head of the list; general steps, nothing here speaks of the program. -/
namespace Go.Proofs.Ytnaeeemgehgdfab
open Go.RowKit

/-- Data of one shape. -/
inductive Same : Dt → Dt → Prop
  | i (n m : Int) : Same (.i n) (.i m)
  | b (x y : Bool) : Same (.b x) (.b y)
  | s (t : ByteArray) : Same (.s t) (.s t)
  | l (es es' : List (List Dt)) (hl : es.length = es'.length) (he : ∀ k (h : k < es.length) (h' : k < es'.length), es[k].length = es'[k].length)
      (hs : ∀ k (h : k < es.length) (h' : k < es'.length) j (hj : j < es[k].length) (hj' : j < es'[k].length), Same es[k][j] es'[k][j]) : Same (.l es) (.l es')
theorem Same.refl (d : Dt) {w : World} {v : Value} {fp : List Nat} (h : Rd w d v fp) : Same d d := by
  induction h with
  | i n => exact .i n n
  | b x => exact .b x x
  | s t => exact .s t
  | nil a cap hn => exact .l [] [] rfl (fun k h => by simp at h) (fun k h => by simp at h)
  | l sz es g off cap V F hne hsz hcap hgl hc hrd ih => exact .l es es rfl (fun _ _ _ => rfl) (fun k hk _ j hj _ => ih k j hk hj)
/-- A number is stored where a number was: what read as data reads as data of the same shape. -/
theorem Rd.poke {w : World} {p : Addr} {x0 y : Int} (hp : w.cell? p = some (.int .i64 x0)) {d : Dt} {v : Value} {fp : List Nat} (h : Rd w d v fp) : ∃ d', Same d d' ∧ Rd (w.setCell p (.int .i64 y)) d' v fp := by
  induction h with
  | i n => exact ⟨_, .i n n, .i n⟩
  | b x => exact ⟨_, .b x x, .b x⟩
  | s t => exact ⟨_, .s t, .s t⟩
  | nil a cap hn => exact ⟨.l [], .l [] [] rfl (fun k h => by simp at h) (fun k h => by simp at h), .nil a cap hn⟩
  | l sz es g off cap V F hne hsz hcap hgl hc hrd ih =>
    have hex : ∀ k j, ∃ (q : Dt × Value), ∀ (hk : k < es.length) (hj : j < (es[k]).length), Same (es[k][j]) q.1 ∧ Rd (w.setCell p (.int .i64 y)) q.1 q.2 (F k j) ∧ (w.setCell p (.int .i64 y)).cell? ⟨g, off + (k * sz + j), none⟩ = some q.2 := by
      intro k j
      by_cases hk : k < es.length
      · by_cases hj : j < (es[k]).length
        · have hcj := hc k j hk (by rw [← hsz _ (List.getElem_mem hk)]; exact hj)
          by_cases e : p = ⟨g, off + (k * sz + j), none⟩
          · have hv : V k j = .int .i64 x0 := by rw [e, hcj] at hp; exact Option.some.inj hp
            have hr := hrd k j hk hj
            rw [hv] at hr
            have hd : ∃ n, es[k][j] = .i n ∧ F k j = [] := by
              generalize es[k][j] = dd at hr
              generalize F k j = ff at hr
              cases hr with
              | i n => exact ⟨_, rfl, rfl⟩
            obtain ⟨n, hn, hf⟩ := hd
            refine ⟨(.i y, .int .i64 y), fun _ _ => ⟨by rw [hn]; exact .i _ _, by rw [hf]; exact .i y, ?_⟩⟩
            rw [← e]
            exact World.cell?_setCell_same' _ _ _ (by rw [hp]; rfl)
          · obtain ⟨d', hs, hr'⟩ := ih k j hk hj
            exact ⟨(d', V k j), fun _ _ => ⟨hs, hr', (World.cell?_setCell_other _ _ _ _ e).trans hcj⟩⟩
        · exact ⟨(.i 0, undef), fun _ h => absurd h hj⟩
      · exact ⟨(.i 0, undef), fun h => absurd h hk⟩
    let D : Nat → Nat → Dt × Value := fun k j => (hex k j).choose
    have hD : ∀ k j (hk : k < es.length) (hj : j < (es[k]).length), Same (es[k][j]) (D k j).1 ∧ Rd (w.setCell p (.int .i64 y)) (D k j).1 (D k j).2 (F k j) ∧ (w.setCell p (.int .i64 y)).cell? ⟨g, off + (k * sz + j), none⟩ = some (D k j).2 := fun k j => (hex k j).choose_spec
    have hes : ∀ (es2 : List (List Dt)), es2 = (List.range es.length).map (fun k => (List.range sz).map fun j => (D k j).1) → Rd (w.setCell p (.int .i64 y)) (.l es2) (.slice (some ⟨g, off, none⟩) es2.length cap) (g :: (List.range es2.length).flatMap fun k => (List.range sz).flatMap (F k)) := by
      intro es2 h2
      have hl2 : es2.length = es.length := by rw [h2]; simp
      refine .l sz es2 g off cap (fun k j => (D k j).2) F (by omega) (fun e he => ?_) (by omega) (by rw [World.size_setCell]; exact hgl) (fun k j hk hj => ?_) (fun k j hk hj => ?_)
      · rw [h2] at he
        obtain ⟨k, _, rfl⟩ := List.mem_map.1 he
        simp
      · have hk' : k < es.length := by omega
        exact (hD k j hk' (by rw [hsz _ (List.getElem_mem hk')]; exact hj)).2.2
      · have hk' : k < es.length := by omega
        subst h2
        have hj' : j < sz := by simpa using hj
        have := (hD k j hk' (by rw [hsz _ (List.getElem_mem hk')]; exact hj')).2.1
        simpa using this
    have hfin := hes _ rfl
    simp only [List.length_map, List.length_range] at hfin
    refine ⟨_, .l es _ (by simp) (fun k h h' => by simp [hsz _ (List.getElem_mem h)]) (fun k h h' j hj hj' => ?_), hfin⟩
    have := (hD k j h hj).1
    simpa using this
theorem same_i {n : Int} {d : Dt} (h : Same (.i n) d) : ∃ m, d = .i m := by cases h; exact ⟨_, rfl⟩
theorem same_ints {xs : List Int} {d : Dt} (h : Same (intsD xs) d) : ∃ ys : List Int, d = intsD ys ∧ ys.length = xs.length := by
  unfold intsD at h
  cases h with
  | l _ es' hl he hs =>
    rw [List.length_map] at hl
    have hall : ∀ k (hk : k < es'.length), ∃ m, es'[k] = [.i m] := fun k hk => by
      have hk' : k < (xs.map fun x => [Dt.i x]).length := by simp; omega
      have h1 := he k hk' hk
      rw [List.getElem_map] at h1
      simp at h1
      have h2 := hs k hk' hk 0 (by simp) (by omega)
      simp only [List.getElem_map, List.getElem_cons_zero] at h2
      obtain ⟨m, hm⟩ := same_i h2
      match he' : es'[k], h1 with
      | [e0], _ => simp only [he', List.getElem_cons_zero] at hm; exact ⟨m, by rw [hm]⟩
    have hex : ∀ l : List (List Dt), (∀ k (hk : k < l.length), ∃ m, l[k] = [.i m]) → ∃ ys : List Int, l = ys.map fun x => [.i x] := by
      intro l
      induction l with
      | nil => intro _; exact ⟨[], rfl⟩
      | cons e l ih =>
        intro h
        obtain ⟨m, hm⟩ := h 0 (by simp)
        obtain ⟨ys, rfl⟩ := ih fun k hk => by have := h (k + 1) (by simp; omega); simpa using this
        simp at hm
        subst hm
        exact ⟨m :: ys, rfl⟩
    obtain ⟨ys, rfl⟩ := hex es' hall
    refine ⟨ys, rfl, ?_⟩
    rw [List.length_map] at hl
    omega
theorem same_shards {m : Nat} : ∀ {L : List (Int × List Int)} {es : List (List Dt)}, Same (.l (L.map shardD)) (.l es) → (∀ s ∈ L, s.2.length ≤ m) → ∃ L' : List (Int × List Int), es = L'.map shardD ∧ L'.length = L.length ∧ ∀ s ∈ L', s.2.length ≤ m := by
  intro L es h hm
  cases h with
  | l _ _ hl he hs =>
    rw [List.length_map] at hl
    have hall : ∀ k (hk : k < es.length), ∃ s : Int × List Int, es[k] = shardD s ∧ s.2.length ≤ m := fun k hk => by
      have hkL : k < L.length := by omega
      have hk' : k < (L.map shardD).length := by simp; omega
      have h1 := he k hk' hk
      rw [List.getElem_map] at h1
      have h0 := hs k hk' hk 0 (by simp [shardD]) (by rw [← h1]; simp [shardD])
      have h2 := hs k hk' hk 1 (by simp [shardD]) (by rw [← h1]; simp [shardD])
      simp only [List.getElem_map, shardD, List.getElem_cons_zero, List.getElem_cons_succ] at h0 h2
      obtain ⟨n, hn⟩ := same_i h0
      obtain ⟨ys, hy, hyl⟩ := same_ints h2
      refine ⟨(n, ys), ?_, by have := hm _ (List.getElem_mem hkL); simp only; omega⟩
      have hl2 : es[k].length = 2 := by rw [← h1]; rfl
      match he' : es[k], hl2 with
      | [e0, e1], _ =>
        simp only [he', List.getElem_cons_zero, List.getElem_cons_succ] at hn hy
        rw [hn, hy]; rfl
    have hex : ∀ l : List (List Dt), (∀ k (hk : k < l.length), ∃ s : Int × List Int, l[k] = shardD s ∧ s.2.length ≤ m) → ∃ L' : List (Int × List Int), l = L'.map shardD ∧ ∀ s ∈ L', s.2.length ≤ m := by
      intro l
      induction l with
      | nil => intro _; exact ⟨[], rfl, by simp⟩
      | cons e l ih =>
        intro h
        obtain ⟨s, hs, hsm⟩ := h 0 (by simp)
        obtain ⟨L', rfl, hL⟩ := ih fun k hk => by have := h (k + 1) (by simp; omega); simpa using this
        simp at hs
        subst hs
        refine ⟨s :: L', rfl, fun x hx => ?_⟩
        rcases List.mem_cons.1 hx with rfl | hx
        · exact hsm
        · exact hL x hx
    obtain ⟨L', rfl, hL⟩ := hex es hall
    exact ⟨L', rfl, by rw [List.length_map] at hl; omega, hL⟩
theorem shards_poke {w : World} {p : Addr} {x0 : Int} (y : Int) (hp : w.cell? p = some (.int .i64 x0)) {L : List (Int × List Int)} {v : Value} {fp : List Nat} {m : Nat} (h : Rd w (.l (L.map shardD)) v fp) (hm : ∀ s ∈ L, s.2.length ≤ m) :
    ∃ L' : List (Int × List Int), L'.length = L.length ∧ (∀ s ∈ L', s.2.length ≤ m) ∧ Rd (w.setCell p (.int .i64 y)) (.l (L'.map shardD)) v fp := by
  obtain ⟨d', hs, hr⟩ := h.poke hp (y := y)
  have hd : ∃ es, d' = .l es := by cases hs with | l _ es' _ _ _ => exact ⟨es', rfl⟩
  obtain ⟨es, rfl⟩ := hd
  obtain ⟨L', rfl, hl, hm'⟩ := same_shards hs hm
  exact ⟨L', hl, hm', hr⟩
/-- A list is stored in place of a row's list. -/
theorem Bld.setL {E Ei : TypeId} {w : World} {B g n cap : Nat} {L : List (Int × List Int)} (h : Bld E 2 w B (.slice (some ⟨g, 0, none⟩) n cap) (L.map shardD)) (hn : n = L.length) {k : Nat} (hk : k < L.length) {u : Value} {xs : List Int} {lo : Nat} (hu : Own Ei w lo u xs) (hlo : B ≤ lo) (hgu : u.ownBlock ≠ some g) :
    Bld E 2 (w.setCell ⟨g, k * 2 + 1, none⟩ u) B (.slice (some ⟨g, 0, none⟩) n cap) ((L.set k (L[k].1, xs)).map shardD) := by
  subst hn
  obtain ⟨cs, ho, hc⟩ := h.row
  have hlen : (L.map shardD).length = L.length := by simp
  rw [hlen] at ho
  have hst := World.ownsRow.stored ho (k * 2 + 1) u
  have hcl : cs.length = L.length * 2 := ho.1
  obtain ⟨fu, hru, hfu⟩ := Rd.of_own hu
  refine ⟨fun e he => ?_, cs.set (k * 2 + 1) u, ?_, fun k' hk' => ?_⟩
  · obtain ⟨s, _, rfl⟩ := List.mem_map.1 he; rfl
  · have : ((L.set k (L[k].1, xs)).map shardD).length = L.length := by simp
    rw [this]; exact hst.1
  · have hkL : k' < L.length := by simpa using hk'
    have hk0 : k' < (L.map shardD).length := by simpa using hkL
    intro j hj
    have h22 : (((L.set k (L[k].1, xs)).map shardD)[k']).length = 2 := by rw [List.getElem_map]; rfl
    have hj2 : j < 2 := by omega
    by_cases e : k' = k ∧ j = 1
    · obtain ⟨rfl, rfl⟩ := e
      refine ⟨u, fu, ?_, ?_, fun r hr => ?_⟩
      · rw [List.getElem?_drop, List.getElem?_set_self (by rw [hcl]; omega)]
      · have : ((L.set k' (L[k'].1, xs)).map shardD)[k'][1] = intsD xs := by simp [shardD]
        rw [this]
        exact hru.grown (grownBy_set w g _ u) fun r e hm => by cases e; exact hgu (hfu g hm).2
      · have := hfu r hr
        exact ⟨by omega, fun e => by cases e; exact hgu this.2⟩
    · have hj0 : j < ((L.map shardD)[k']).length := by simp [shardD]; exact hj2
      obtain ⟨c, fp, hcc, hr, hf⟩ := hc k' hk0 j hj0
      refine ⟨c, fp, ?_, ?_, hf⟩
      · rw [List.getElem?_drop] at hcc ⊢
        rw [List.getElem?_set_ne (by intro h1; apply e; omega)]
        exact hcc
      · have he : ((L.set k (L[k].1, xs)).map shardD)[k'][j] = (L.map shardD)[k'][j] := by
          by_cases ek : k' = k
          · subst ek
            have : j = 0 := by have : ¬ j = 1 := fun h => e ⟨rfl, h⟩; omega
            subst this
            simp [shardD]
          · simp only [List.getElem_map, List.getElem_set_ne (fun h => ek h.symm)]
        rw [he]
        exact hr.grown (grownBy_set w g _ u) fun r e hm => by cases e; exact (hf g hm).2 rfl

end Go.Proofs.Ytnaeeemgehgdfab

/- A field of a row that lies in memory of its own is written over by a value with a new block; general steps, nothing here speaks of the program. -/
namespace Go.Proofs.Ytnaeeemgehgdfab
open Go.RowKit

/-- A field is written over by a value whose block, if it has one, is new. -/
theorem OwnR.setF {E Ei : TypeId} {sz : Nat} {w : World} {B hi hi' g n cap : Nat} {es : List (List Fd)} (h : OwnR E Ei sz w B hi (.slice (some ⟨g, 0, none⟩) n cap) es) (hn : n = es.length) {k j : Nat} (hk : k < es.length) (hj : j < sz) {u : Value} {f : Fd}
    (hf : FdOk Ei w B u f) (hhi : hi ≤ hi') (hu : ∀ b, u.ownBlock = some b → hi ≤ b ∧ b < hi') :
    OwnR E Ei sz (w.setCell ⟨g, k * sz + j, none⟩ u) B hi' (.slice (some ⟨g, 0, none⟩) n cap) (es.set k ((es[k]).set j f)) := by
  subst hn
  obtain ⟨cs, h1, h2, h3, h4, h5, h6⟩ := h.row
  have hsz := h.szs _ (List.getElem_mem hk)
  have hlt : k * sz + j < cs.length := by
    rw [h1.1]
    have := Nat.mul_le_mul_right sz (show k + 1 ≤ es.length by omega)
    rw [Nat.add_mul] at this; omega
  have hgB := (h1.lt g rfl).1
  have hgh := h6 g rfl
  have hst := (World.ownsRow.stored (w := w) (base := B) (e := E) (size := sz) (g := g) (n := es.length) (cap := cap) h1 (k * sz + j) u).1
  have hbl : ∀ b, b ≠ g → (w.setCell ⟨g, k * sz + j, none⟩ u).heap[b]? = w.heap[b]? := fun b hb => Below.heap_setCell _ _ _ b hb
  have hset : ∀ (p : Nat) c, (cs.set (k * sz + j) u)[p]? = some c → (p ≠ k * sz + j ∧ cs[p]? = some c) ∨ (p = k * sz + j ∧ c = u) := by
    intro p c hp
    by_cases e : k * sz + j = p
    · subst e
      rw [List.getElem?_set_self hlt] at hp
      exact .inr ⟨rfl, by cases hp; rfl⟩
    · rw [List.getElem?_set_ne e] at hp
      exact .inl ⟨fun h => e h.symm, hp⟩
  refine ⟨fun e he => ?_, cs.set (k * sz + j) u, by rw [List.length_set]; exact hst, fun k' j' hk' hj' => ?_, fun p q c d hp hq hne => ?_, fun p c hp => ?_, fun p c b hp hb => ?_, fun b hb => Nat.lt_of_lt_of_le (h6 b hb) hhi⟩
  · rcases List.mem_or_eq_of_mem_set he with he | rfl
    · exact h.szs e he
    · rw [List.length_set]; exact hsz
  · by_cases e : k' = k ∧ j' = j
    · obtain ⟨rfl, rfl⟩ := e
      refine ⟨_, List.getElem?_set_self hlt, ?_⟩
      simp only [List.getElem_set_self]
      exact hf.same fun b hb => hbl b fun hg => by have := (hu b hb).1; omega
    · obtain ⟨a1, a2, a3⟩ := set_get (j := j) hk k' j' hk' hj' (by rw [List.length_set]) e (fun i _ _ hi => by rw [List.getElem_set_ne (fun h => hi h.symm)])
      obtain ⟨c, hc, hf⟩ := h2 k' j' a1 a2
      rw [a3]
      have hp : k * sz + j ≠ k' * sz + j' := by
        intro hh
        have hj2 : j' < sz := by rw [← h.szs _ (List.getElem_mem a1)]; exact a2
        have e1 : (k * sz + j) / sz = k := by rw [Nat.add_comm, Nat.add_mul_div_right _ _ (by omega), Nat.div_eq_of_lt hj, Nat.zero_add]
        have e2 : (k' * sz + j') / sz = k' := by rw [Nat.add_comm, Nat.add_mul_div_right _ _ (by omega), Nat.div_eq_of_lt hj2, Nat.zero_add]
        have : k' = k := by rw [← e1, ← e2, hh]
        subst this
        exact e ⟨rfl, by omega⟩
      exact ⟨c, by rw [List.getElem?_set_ne hp]; exact hc, hf.same fun b hb => hbl b fun hg => h4 _ c hc b hb (by rw [hg]; rfl)⟩
  · rcases hset p c hp with ⟨_, hp1⟩ | ⟨ep, ec⟩
    · rcases hset q d hq with ⟨_, hq1⟩ | ⟨eq, ed⟩
      · exact h3 p q c d hp1 hq1 hne
      · intro b e e'
        rw [ed] at e'
        have := (h5 p c b hp1 e).2; have := (hu b e').1; omega
    · rcases hset q d hq with ⟨_, hq1⟩ | ⟨eq, ed⟩
      · intro b e e'
        rw [ec] at e
        have := (h5 q d b hq1 e').2; have := (hu b e).1; omega
      · exact absurd (ep.trans eq.symm) hne
  · rcases hset p c hp with ⟨_, hp1⟩ | ⟨ep, ec⟩
    · exact h4 p c hp1
    · intro b e e'
      cases e'
      rw [ec] at e
      have h9 : hi ≤ g := (hu _ e).1
      omega
  · rcases hset p c hp with ⟨_, hp1⟩ | ⟨ep, ec⟩
    · have := h5 p c b hp1 hb; exact ⟨this.1, by omega⟩
    · rw [ec] at hb
      have := hu b hb; exact ⟨by omega, this.2⟩

end Go.Proofs.Ytnaeeemgehgdfab

/- What the laws' helpers that mark a list of integers and look the marks up answer, each by a walk of its text; condition: a list has at most 2^40 elements. -/
namespace Go.Proofs.Ytnaeeemgehgdfab
open Go.RowKit

/-- The marks k, k+1, .. -/
def markL (k n : Nat) : List Int := (List.range n).map (fun j => ((k + j : Nat) : Int))
theorem markL_len (k n : Nat) : (markL k n).length = n := by simp [markL]
theorem markL_get (k n j : Nat) (h : j < (markL k n).length) : (markL k n)[j] = ((k + j : Nat) : Int) := by simp [markL]
theorem markL_snoc (k n : Nat) : markL k (n + 1) = markL k n ++ [((k + n : Nat) : Int)] := by simp [markL, List.range_succ]
/-- i elements are marked. -/
def markU (xs : List Int) (k i : Nat) : List Int := markL k i ++ xs.drop i
theorem markU_len {xs : List Int} {k i : Nat} (h : i ≤ xs.length) : (markU xs k i).length = xs.length := by simp [markU, markL_len]; omega
theorem markU_zero (xs : List Int) (k : Nat) : markU xs k 0 = xs := by simp [markU, markL]
theorem markU_all (xs : List Int) (k : Nat) : markU xs k xs.length = markL k xs.length := by simp [markU]
theorem markU_step {xs : List Int} {k i : Nat} (h : i < xs.length) : (markU xs k i).set i ((k : Int) + (i : Int)) = markU xs k (i + 1) := by
  unfold markU
  rw [← Int.natCast_add, List.set_append, if_neg (by rw [markL_len]; omega), markL_len, Nat.sub_self, markL_snoc, List.append_assoc, List.drop_eq_getElem_cons h]
  rfl

/-- What is made later lies apart. -/
theorem own_apart {E E' : TypeId} {w w' : World} {B B' : Nat} {v v' : Value} {xs ys : List Int} (h : Own E w B v xs) (h' : Own E' w' B' v' ys) (hB : w.heap.size ≤ B') : (v.ownBlock = none ∨ v.ownBlock ≠ v'.ownBlock) ∧ (v'.ownBlock = none ∨ v'.ownBlock ≠ v.ownBlock) := by
  cases e : v.ownBlock with
  | none => exact ⟨.inl rfl, by cases e' : v'.ownBlock <;> simp⟩
  | some g =>
    have h1 := (h.lt g e).2
    cases e' : v'.ownBlock with
    | none => exact ⟨.inr (by simp), .inl rfl⟩
    | some g' =>
      have h2 := (h'.lt g' e').1
      exact ⟨.inr (by simp; omega), .inr (by simp; omega)⟩
theorem Own.at {E : TypeId} {w : World} {B n c : Nat} {a : Option Addr} {xs : List Int} (h : Own E w B (.slice a n c) xs) : IntsAt w a xs := by
  obtain ⟨a', c', e, hi, _⟩ := h.ints
  simp only [Value.slice.injEq] at e
  obtain ⟨rfl, _, _⟩ := e
  exact hi
theorem Own.cap {E : TypeId} {w : World} {B n c : Nat} {a : Option Addr} {xs : List Int} (h : Own E w B (.slice a n c) xs) : xs.length ≤ c := by
  rcases Nat.eq_zero_or_pos xs.length with h0 | h0
  · omega
  · obtain ⟨g, cap, e, _, _, hc, _⟩ := h.row h0
    simp only [Value.slice.injEq] at e
    omega
theorem below_row {a w w' : World} {B B' : Nat} {E : TypeId} {v : Value} {xs : List Int} (h : Below B a w) (hB : B ≤ w.heap.size) (hg : w.grownBy w' v.ownBlock) (ho : Own E w B' v xs) (hB' : B ≤ B') : Below B a w' :=
  h.grown hg hB (fun g e => Nat.le_trans hB' (ho.lt g e).1)
theorem ret_num {a b : Int} (h : a = b) : Value.int .i64 a = .int .i64 b := by rw [h]

end Go.Proofs.Ytnaeeemgehgdfab

/- Rows of fields: the numbers that mark them, their sizes, their copies; general steps, nothing here speaks of the program. -/
namespace Go.Proofs.Ytnaeeemgehgdfab
open Go.RowKit

/-! marks -/
/-- A field's mark, and the next number. -/
def Fd.mk' (k : Nat) : Fd → Fd
  | .i _ => .i k
  | .b _ => .b (k % 3 == 0)
  | .s t => .s t
  | .l xs => .l (markL k xs.length)
def Fd.nx (k : Nat) : Fd → Nat
  | .i _ => k + 1
  | .b _ => k + 1
  | .s _ => k
  | .l xs => k + xs.length
def mkE : Nat → List Fd → List Fd
  | _, [] => []
  | k, f :: e => f.mk' k :: mkE (f.nx k) e
def nxE : Nat → List Fd → Nat
  | k, [] => k
  | k, f :: e => nxE (f.nx k) e
theorem mkE_len : ∀ (k : Nat) (e : List Fd), (mkE k e).length = e.length
  | _, [] => rfl
  | k, f :: e => by simp [mkE, mkE_len (f.nx k) e]
/-- How many numbers a field takes. -/
def Fd.sz : Fd → Nat
  | .i _ => 1
  | .b _ => 1
  | .s _ => 0
  | .l xs => xs.length
theorem nx_sz (k : Nat) (f : Fd) : f.nx k = k + f.sz := by cases f <;> rfl
def szE (e : List Fd) : Nat := (e.map Fd.sz).sum
theorem nxE_sz : ∀ (e : List Fd) (k : Nat), nxE k e = k + szE e
  | [], k => by simp [nxE, szE]
  | f :: e, k => by rw [nxE, nxE_sz e, nx_sz]; simp [szE]; omega
/-- The number with which row i begins. -/
def kTo (es : List (List Fd)) (k i : Nat) : Nat := k + ((es.take i).map szE).sum
theorem kTo_zero (es : List (List Fd)) (k : Nat) : kTo es k 0 = k := by simp [kTo]
theorem kTo_succ {es : List (List Fd)} {k i : Nat} (h : i < es.length) : kTo es k (i + 1) = nxE (kTo es k i) es[i] := by
  unfold kTo
  rw [nxE_sz, List.take_succ_eq_append_getElem h, List.map_append, List.sum_append]
  simp; omega
theorem kTo_le {es : List (List Fd)} {k i n : Nat} (h : i ≤ n) : kTo es k i ≤ kTo es k n := by
  induction n with
  | zero => have : i = 0 := by omega
            subst this; exact Nat.le_refl _
  | succ n ih =>
    by_cases e : i = n + 1
    · subst e; exact Nat.le_refl _
    · refine Nat.le_trans (ih (by omega)) ?_
      by_cases hn : n < es.length
      · rw [kTo_succ hn, nxE_sz]; omega
      · unfold kTo
        rw [List.take_of_length_le (by omega), List.take_of_length_le (by omega)]
        exact Nat.le_refl _
/-- The rows when the first i are marked. -/
def mkTo (es : List (List Fd)) (k i : Nat) : List (List Fd) := (List.range es.length).map fun j => if j < i then mkE (kTo es k j) (es.getD j []) else es.getD j []
theorem mkTo_len (es : List (List Fd)) (k i : Nat) : (mkTo es k i).length = es.length := by simp [mkTo]
theorem getE {es : List (List Fd)} {j : Nat} (h : j < es.length) : es.getD j [] = es[j] := by simp [List.getD, List.getElem?_eq_getElem h]
theorem mkTo_get {es : List (List Fd)} {k i j : Nat} (h : j < (mkTo es k i).length) : (mkTo es k i)[j] = if j < i then mkE (kTo es k j) (es.getD j []) else es.getD j [] := by simp [mkTo]
theorem mkTo_zero (es : List (List Fd)) (k : Nat) : mkTo es k 0 = es := by
  apply List.ext_getElem
  · simp [mkTo]
  · intro j h1 h2
    rw [mkTo_get, if_neg (by omega), getE h2]
theorem mkTo_at {es : List (List Fd)} {k i : Nat} (h : i < es.length) (h' : i < (mkTo es k i).length) : (mkTo es k i)[i] = es[i] := by rw [mkTo_get, if_neg (by omega), getE h]
theorem mkTo_all {es : List (List Fd)} {k i : Nat} (h : i < es.length) (h' : i < (mkTo es k es.length).length) : (mkTo es k es.length)[i] = mkE (kTo es k i) es[i] := by rw [mkTo_get, if_pos h, getE h]
theorem mkTo_set {es : List (List Fd)} {k i : Nat} (h : i < es.length) : (mkTo es k i).set i (mkE (kTo es k i) es[i]) = mkTo es k (i + 1) := by
  apply List.ext_getElem
  · simp [mkTo]
  · intro j h1 h2
    by_cases e : j = i
    · subst e; simp only [List.getElem_set_self]; rw [mkTo_get, if_pos (by omega), getE h]
    · rw [List.getElem_set_ne (fun h => e h.symm), mkTo_get, mkTo_get]
      by_cases e2 : j < i
      · rw [if_pos e2, if_pos (by omega)]
      · rw [if_neg e2, if_neg (by omega)]

/-! sizes -/
def Fd.ln : Fd → Nat
  | .l xs => xs.length
  | _ => 0
def lnE (e : List Fd) : Nat := (e.map Fd.ln).sum
/-- How many numbers lie in the lists of the first k rows. -/
def lnTo (es : List (List Fd)) (k : Nat) : Nat := ((es.take k).map lnE).sum
theorem lnTo_zero (es : List (List Fd)) : lnTo es 0 = 0 := by simp [lnTo]
theorem lnTo_succ {es : List (List Fd)} {k : Nat} (h : k < es.length) : lnTo es (k + 1) = lnTo es k + lnE es[k] := by
  unfold lnTo
  rw [List.take_succ_eq_append_getElem h, List.map_append, List.sum_append]
  simp
theorem lnTo_le {es : List (List Fd)} {k n : Nat} (h : k ≤ n) : lnTo es k ≤ lnTo es n := by
  induction n with
  | zero => have : k = 0 := by omega
            subst this; exact Nat.le_refl _
  | succ n ih =>
    by_cases e : k = n + 1
    · subst e; exact Nat.le_refl _
    · refine Nat.le_trans (ih (by omega)) ?_
      by_cases hn : n < es.length
      · rw [lnTo_succ hn]; omega
      · unfold lnTo
        rw [List.take_of_length_le (by omega), List.take_of_length_le (by omega)]
        exact Nat.le_refl _
theorem lnTo_none {es : List (List Fd)} (h : ∀ e ∈ es, lnE e = 0) (k : Nat) : lnTo es k = 0 := by
  unfold lnTo
  rw [List.sum_eq_zero_iff_forall_eq_nat]
  intro n hn
  obtain ⟨e, he, rfl⟩ := List.mem_map.1 hn
  exact h e (List.mem_of_mem_take he)
theorem lnTo_in {es : List (List Fd)} {m : Nat} (h : lnTo es es.length ≤ m) : ∀ e ∈ es, lnE e ≤ m := by
  intro e he
  obtain ⟨k, hk, rfl⟩ := List.mem_iff_getElem.1 he
  have := lnTo_le (es := es) (show k + 1 ≤ es.length from hk)
  rw [lnTo_succ hk] at this
  omega
theorem ln_in {e : List Fd} {xs : List Int} {m : Nat} (h : lnE e ≤ m) (hx : Fd.l xs ∈ e) : xs.length ≤ m := by
  unfold lnE at h
  induction e with
  | nil => cases hx
  | cons f e ih =>
    rw [List.map_cons, List.sum_cons] at h
    rcases List.mem_cons.1 hx with rfl | hx
    · have : (Fd.l xs).ln = xs.length := rfl
      omega
    · exact ih (by omega) hx
theorem sz_ln (f : Fd) : f.sz ≤ 1 + f.ln := by cases f <;> simp [Fd.sz, Fd.ln]
theorem szE_ln : ∀ e : List Fd, szE e ≤ e.length + lnE e
  | [] => by simp [szE, lnE]
  | f :: e => by have := szE_ln e; have := sz_ln f; simp [szE, lnE] at *; omega
/-- The marks of rows of m fields are few. -/
theorem kTo_bd {es : List (List Fd)} {m : Nat} (hm : ∀ e ∈ es, e.length = m) (k : Nat) : ∀ i, i ≤ es.length → kTo es k i ≤ k + (i * m + lnTo es i)
  | 0, _ => by simp [kTo, lnTo]
  | i + 1, h => by
    have h1 := kTo_bd hm k i (by omega)
    have h2 := szE_ln es[i]
    rw [hm _ (List.getElem_mem _)] at h2
    rw [kTo_succ (by omega), nxE_sz, lnTo_succ (by omega), Nat.add_mul]
    omega

/-! copies -/
/-- Of these rows the first k have been copied, the others are the row z. -/
def cpTo (es : List (List Fd)) (z : List Fd) (k : Nat) : List (List Fd) := (List.range es.length).map fun i => if i < k then es.getD i [] else z
theorem cpTo_len (es : List (List Fd)) (z : List Fd) (k : Nat) : (cpTo es z k).length = es.length := by simp [cpTo]
theorem cpTo_get {es : List (List Fd)} {z : List Fd} {k i : Nat} (h : i < (cpTo es z k).length) : (cpTo es z k)[i] = if i < k then es.getD i [] else z := by simp [cpTo]
theorem cpTo_all (es : List (List Fd)) (z : List Fd) : cpTo es z es.length = es := by
  refine List.ext_getElem (by simp [cpTo]) fun i h1 h2 => ?_
  rw [cpTo_get, if_pos h2, getE h2]
theorem cpTo_step {es : List (List Fd)} {z : List Fd} {k : Nat} (hk : k < es.length) : (cpTo es z k).set k es[k] = cpTo es z (k + 1) := by
  refine List.ext_getElem (by simp [cpTo]) fun i h1 h2 => ?_
  by_cases hik : k = i
  · subst hik
    rw [List.getElem_set_self, cpTo_get, if_pos (by omega), getE hk]
  · rw [List.getElem_set_ne hik, cpTo_get, cpTo_get]
    by_cases h : i < k
    · rw [if_pos h, if_pos (by omega)]
    · rw [if_neg h, if_neg (by omega)]

/-! fields -/
/-- A truth value is stored. -/
theorem OwnR.setB {E Ei : TypeId} {sz : Nat} {w : World} {B hi g n cap : Nat} {es : List (List Fd)} (h : OwnR E Ei sz w B hi (.slice (some ⟨g, 0, none⟩) n cap) es) (hn : n = es.length) {k j : Nat} (hk : k < es.length) (hj : j < sz) (x : Bool) :
    OwnR E Ei sz (w.setCell ⟨g, k * sz + j, none⟩ (.bool x)) B hi (.slice (some ⟨g, 0, none⟩) n cap) (es.set k ((es[k]).set j (.b x))) :=
  h.setF hn hk hj (f := .b x) rfl (Nat.le_refl _) (fun b e => by cases e)
/-- The block of a field's list lies among the rows' own. -/
theorem OwnR.range {E Ei : TypeId} {sz : Nat} {w : World} {B hi g n cap : Nat} {es : List (List Fd)} (h : OwnR E Ei sz w B hi (.slice (some ⟨g, 0, none⟩) n cap) es) {k j : Nat} (hk : k < es.length) (hj : j < (es[k]).length) {c : Value} (hc : w.cell? ⟨g, k * sz + j, none⟩ = some c) :
    ∀ b, c.ownBlock = some b → B ≤ b ∧ b < hi := by
  obtain ⟨cs, o1, o2, _, _, o5, _⟩ := h.row
  obtain ⟨c', hc', _⟩ := o2 k j hk hj
  have hcc := World.ownsRow.cells o1 (g := g) rfl _ _ hc'
  rw [addr_add, hc] at hcc
  obtain rfl := Option.some.inj hcc
  exact fun b hb => o5 _ c b hc' hb
/-- A field's value by its kind. -/
theorem OwnR.fieldI {E Ei : TypeId} {sz : Nat} {w : World} {B hi g n cap : Nat} {es : List (List Fd)} (h : OwnR E Ei sz w B hi (.slice (some ⟨g, 0, none⟩) n cap) es) {k j : Nat} (hk : k < es.length) (hj : j < (es[k]).length) {x : Int} (hx : (es[k])[j] = .i x) :
    w.cell? ⟨g, k * sz + j, none⟩ = some (.int .i64 x) ∧ w.frozen? ⟨g, k * sz + j, none⟩ = false := by
  obtain ⟨c, h1, h2, h3, _⟩ := h.cell hk hj
  rw [hx] at h2
  obtain rfl : c = .int .i64 x := h2
  exact ⟨h1, h3⟩
theorem OwnR.fieldB {E Ei : TypeId} {sz : Nat} {w : World} {B hi g n cap : Nat} {es : List (List Fd)} (h : OwnR E Ei sz w B hi (.slice (some ⟨g, 0, none⟩) n cap) es) {k j : Nat} (hk : k < es.length) (hj : j < (es[k]).length) {x : Bool} (hx : (es[k])[j] = .b x) :
    w.cell? ⟨g, k * sz + j, none⟩ = some (.bool x) ∧ w.frozen? ⟨g, k * sz + j, none⟩ = false := by
  obtain ⟨c, h1, h2, h3, _⟩ := h.cell hk hj
  rw [hx] at h2
  obtain rfl : c = .bool x := h2
  exact ⟨h1, h3⟩
theorem OwnR.fieldL {E Ei : TypeId} {sz : Nat} {w : World} {B hi g n cap : Nat} {es : List (List Fd)} (h : OwnR E Ei sz w B hi (.slice (some ⟨g, 0, none⟩) n cap) es) {k j : Nat} (hk : k < es.length) (hj : j < (es[k]).length) {xs : List Int} (hx : (es[k])[j] = .l xs) :
    ∃ a c, w.cell? ⟨g, k * sz + j, none⟩ = some (.slice a xs.length c) ∧ Own Ei w B (.slice a xs.length c) xs ∧ w.frozen? ⟨g, k * sz + j, none⟩ = false ∧ (Value.slice a xs.length c).ownBlock ≠ some g ∧ ∀ b, (Value.slice a xs.length c).ownBlock = some b → B ≤ b ∧ b < hi := by
  obtain ⟨c, h1, h2, h3, h4⟩ := h.cell hk hj
  rw [hx] at h2
  have h2' : Own Ei w B c xs := h2
  obtain ⟨a, cap', rfl, _, _⟩ := h2'.ints
  exact ⟨a, cap', h1, h2', h3, h4, h.range hk hj h1⟩

/-! rows that are read -/
def rowsD (es : List (List Fd)) : Dt := .l (es.map fun e => e.map Fd.dt)
/-- A list of rows in memory: each field's cell and how it reads. -/
theorem rows_at {w : World} {es : List (List Fd)} {a : Option Addr} {n cap : Nat} {fp : List Nat} (h : Rd w (rowsD es) (.slice a n cap) fp) (hne : 0 < es.length) {m : Nat} (hm : ∀ e ∈ es, e.length = m) :
    ∃ g off, a = some ⟨g, off, none⟩ ∧ g < w.heap.size ∧ ∀ k (hk : k < es.length) j (hj : j < (es[k]).length), ∃ c fp', w.cell? ⟨g, off + k * m + j, none⟩ = some c ∧ Rd w (((es[k])[j]).dt) c fp' := by
  obtain ⟨g, off, rfl, hg, _, _, _, hc⟩ := Rd.at h (by simpa using hne) (sz := m) (by intro e he; obtain ⟨e', he', rfl⟩ := List.mem_map.1 he; rw [List.length_map]; exact hm e' he')
  refine ⟨g, off, rfl, hg, fun k hk j hj => ?_⟩
  obtain ⟨v, fp', h1, h2, _⟩ := hc k j (by simpa using hk) (by simpa using hj)
  refine ⟨v, fp', by rw [Nat.add_assoc]; exact h1, by simpa using h2⟩
theorem rd_i {w : World} {c : Value} {fp : List Nat} {f : Fd} {x : Int} (h : Rd w f.dt c fp) (hf : f = .i x) : c = .int .i64 x := by subst hf; exact (Rd.int h).1
theorem rd_b {w : World} {c : Value} {fp : List Nat} {f : Fd} {x : Bool} (h : Rd w f.dt c fp) (hf : f = .b x) : c = .bool x := by subst hf; exact (Rd.bool h).1
theorem rd_l {w : World} {c : Value} {fp : List Nat} {f : Fd} {xs : List Int} (h : Rd w f.dt c fp) (hf : f = .l xs) : ∃ a cap, c = .slice a xs.length cap ∧ IntsAt w a xs := by
  subst hf
  obtain ⟨a, cap, rfl, _, hi⟩ := Rd.ints (show Rd w (intsD xs) c fp from h)
  exact ⟨a, cap, rfl, hi⟩
theorem rd_ls {w : World} {c : Value} {fp : List Nat} {f : Fd} {xs : List Int} (h : Rd w f.dt c fp) (hf : f = .l xs) : ∃ a cap, c = .slice a xs.length cap ∧ IntsAt w a xs ∧ SrcAt w a cap xs := by
  subst hf
  have h' : Rd w (intsD xs) c fp := h
  obtain ⟨a, cap, rfl, _, hi⟩ := Rd.ints h'
  refine ⟨a, cap, rfl, hi, ?_⟩
  rcases hi with rfl | ⟨b, off, rfl, _, hc⟩
  · cases a with
    | none => exact .inl ⟨rfl, rfl, Rd.nilcap h'⟩
    | some ad => exact .inr ⟨ad, rfl, fun j hj => by simp at hj⟩
  · exact .inr ⟨_, rfl, fun j hj => by rw [addr_add']; exact hc j hj⟩
theorem OwnR.reads {E Ei : TypeId} {sz : Nat} {w : World} {B hi : Nat} {v : Value} {es : List (List Fd)} (h : OwnR E Ei sz w B hi v es) : ∃ fp, Rd w (rowsD es) v fp := by
  obtain ⟨fp, hr, _⟩ := h.bld.rd
  exact ⟨fp, hr⟩

/-! one row among rows -/
theorem set_self' {es : List (List Fd)} {j : Nat} {e : List Fd} (h : j < es.length) (he : es[j] = e) : es.set j e = es := by subst he; exact List.set_getElem_self h
section
variable {E Ei : TypeId} {sz : Nat} {w : World} {B hi g n cap : Nat} {es : List (List Fd)} {j : Nat} {row : List Fd}
theorem OwnR.rowI (h : OwnR E Ei sz w B hi (.slice (some ⟨g, 0, none⟩) n cap) (es.set j row)) (hn : n = es.length) (hj : j < es.length) (q : Nat) (hq : q < sz) (z : Int) :
    OwnR E Ei sz (w.setCell ⟨g, j * sz + q, none⟩ (.int .i64 z)) B hi (.slice (some ⟨g, 0, none⟩) n cap) (es.set j (row.set q (.i z))) := by
  have := h.setI (by rw [List.length_set]; exact hn) (k := j) (by rw [List.length_set]; exact hj) hq z
  rwa [List.getElem_set_self, List.set_set] at this
theorem OwnR.rowB (h : OwnR E Ei sz w B hi (.slice (some ⟨g, 0, none⟩) n cap) (es.set j row)) (hn : n = es.length) (hj : j < es.length) (q : Nat) (hq : q < sz) (z : Bool) :
    OwnR E Ei sz (w.setCell ⟨g, j * sz + q, none⟩ (.bool z)) B hi (.slice (some ⟨g, 0, none⟩) n cap) (es.set j (row.set q (.b z))) := by
  have := h.setB (by rw [List.length_set]; exact hn) (k := j) (by rw [List.length_set]; exact hj) hq z
  rwa [List.getElem_set_self, List.set_set] at this
theorem OwnR.rowF (h : OwnR E Ei sz w B hi (.slice (some ⟨g, 0, none⟩) n cap) (es.set j row)) (hn : n = es.length) (hj : j < es.length) (q : Nat) (hq : q < sz) {u : Value} {f : Fd} {hi' : Nat} (hf : FdOk Ei w B u f) (hhi : hi ≤ hi') (hu : ∀ b, u.ownBlock = some b → hi ≤ b ∧ b < hi') :
    OwnR E Ei sz (w.setCell ⟨g, j * sz + q, none⟩ u) B hi' (.slice (some ⟨g, 0, none⟩) n cap) (es.set j (row.set q f)) := by
  have := h.setF (by rw [List.length_set]; exact hn) (k := j) (by rw [List.length_set]; exact hj) hq hf hhi hu
  rwa [List.getElem_set_self, List.set_set] at this
theorem OwnR.rowL {w' : World} (h : OwnR E Ei sz w B hi (.slice (some ⟨g, 0, none⟩) n cap) (es.set j row)) (hj : j < es.length) (q : Nat) (hq : q < sz) {c : Value} (hc : w.cell? ⟨g, j * sz + q, none⟩ = some c) {ys : List Int} (hown : Own Ei w' B c ys) (hg : w.grownBy w' c.ownBlock) :
    OwnR E Ei sz w' B hi (.slice (some ⟨g, 0, none⟩) n cap) (es.set j (row.set q (.l ys))) := by
  have := h.setL (k := j) (by rw [List.length_set]; exact hj) hq hc hown (fun b hb hne => hg.block b hb fun e => hne e.symm)
  rwa [List.getElem_set_self, List.set_set] at this
theorem OwnR.rcI (h : OwnR E Ei sz w B hi (.slice (some ⟨g, 0, none⟩) n cap) (es.set j row)) (hj : j < es.length) (q : Nat) {x : Int} (hx : row[q]? = some (.i x)) :
    w.cell? ⟨g, j * sz + q, none⟩ = some (.int .i64 x) ∧ w.frozen? ⟨g, j * sz + q, none⟩ = false := by
  obtain ⟨hq, hx⟩ := List.getElem?_eq_some_iff.1 hx
  exact h.fieldI (k := j) (j := q) (by rw [List.length_set]; exact hj) (by rw [List.getElem_set_self]; exact hq) (by simp only [List.getElem_set_self]; exact hx)
theorem OwnR.rcB (h : OwnR E Ei sz w B hi (.slice (some ⟨g, 0, none⟩) n cap) (es.set j row)) (hj : j < es.length) (q : Nat) {x : Bool} (hx : row[q]? = some (.b x)) :
    w.cell? ⟨g, j * sz + q, none⟩ = some (.bool x) ∧ w.frozen? ⟨g, j * sz + q, none⟩ = false := by
  obtain ⟨hq, hx⟩ := List.getElem?_eq_some_iff.1 hx
  exact h.fieldB (k := j) (j := q) (by rw [List.length_set]; exact hj) (by rw [List.getElem_set_self]; exact hq) (by simp only [List.getElem_set_self]; exact hx)
theorem OwnR.rcL (h : OwnR E Ei sz w B hi (.slice (some ⟨g, 0, none⟩) n cap) (es.set j row)) (hj : j < es.length) (q : Nat) {xs : List Int} (hx : row[q]? = some (.l xs)) :
    ∃ a c, w.cell? ⟨g, j * sz + q, none⟩ = some (.slice a xs.length c) ∧ Own Ei w B (.slice a xs.length c) xs ∧ w.frozen? ⟨g, j * sz + q, none⟩ = false ∧ (Value.slice a xs.length c).ownBlock ≠ some g ∧ ∀ b, (Value.slice a xs.length c).ownBlock = some b → B ≤ b ∧ b < hi := by
  obtain ⟨hq, hx⟩ := List.getElem?_eq_some_iff.1 hx
  exact h.fieldL (k := j) (j := q) (by rw [List.length_set]; exact hj) (by rw [List.getElem_set_self]; exact hq) (by simp only [List.getElem_set_self]; exact hx)
end
/-- New rows are rows of zeros. -/
theorem made_at' (z : Array Value) {n p : Nat} (h : p < n) : (madeCells z n).toList[p]? = some z[p % z.size]! := by
  unfold madeCells; rw [Array.getElem?_toList, Array.getElem?_map, Array.getElem?_range]; simp [h]
theorem ownR_new {E Ei : TypeId} {m : Nat} (w : World) (es : List (List Fd)) (zv : List Value) (z : List Fd) (hm : es.length ≤ maxLen) (hl : zv.length = m) (hz : z.length = m) (hpos : 0 < m) (hn : ∀ c ∈ zv, c.ownBlock = none) (hok : ∀ W B j (h : j < zv.length) (h' : j < z.length), FdOk Ei W B zv[j] z[j]) :
    OwnR E Ei m (w.alloc (.cells (madeCells zv.toArray (es.length * m)) E)) w.heap.size (w.heap.size + 1) (.slice (some ⟨w.heap.size, 0, none⟩) es.length es.length) (cpTo es z 0) := by
  have hc : ∀ (p : Nat) (c : Value), (madeCells zv.toArray (es.length * m)).toList[p]? = some c → c ∈ zv := by
    intro p c h
    have hp : p < es.length * m := by
      obtain ⟨h1, _⟩ := List.getElem?_eq_some_iff.1 h
      simpa [madeCells] using h1
    rw [made_at' _ hp] at h
    have hq : p % zv.toArray.size < zv.length := by simp; exact Nat.mod_lt _ (by omega)
    have : c = zv[p % zv.toArray.size] := by
      have := Option.some.inj h
      rw [← this]
      have hq' : p % zv.length < zv.length := by simpa using hq
      simp [List.getElem?_eq_getElem hq']
    rw [this]; exact List.getElem_mem hq
  have hno : ∀ (p : Nat) (c : Value), (madeCells zv.toArray (es.length * m)).toList[p]? = some c → c.ownBlock = none := fun p c h => hn c (hc p c h)
  refine ⟨fun e he => ?_, (madeCells zv.toArray (es.length * m)).toList, ⟨by rw [cpTo_len]; simp [madeCells], .inr ⟨w.heap.size, es.length, _, by rw [cpTo_len], Nat.le_refl _, heap_alloc_new w _, by rw [cpTo_len]; exact Nat.le_refl _, hm, by simp [madeCells], by rw [cpTo_len]; exact List.take_of_length_le (by simp [madeCells])⟩⟩, fun k j hk hj => ?_, ?_, ?_, ?_, ?_⟩
  · unfold cpTo at he
    obtain ⟨i, _, rfl⟩ := List.mem_map.1 he
    rw [if_neg (by omega)]; exact hz
  · have hkL : k < es.length := by rw [cpTo_len] at hk; exact hk
    have hg : (cpTo es z 0)[k] = z := by rw [cpTo_get, if_neg (by omega)]
    simp only [hg] at hj ⊢
    have hlt : k * m + j < es.length * m := by
      have := Nat.mul_le_mul_right m (show k + 1 ≤ es.length by omega)
      rw [Nat.add_mul] at this; omega
    refine ⟨zv[j], ?_, hok _ _ j (by omega) hj⟩
    rw [made_at' _ hlt]
    have : (k * m + j) % zv.toArray.size = j := by
      rw [List.size_toArray, hl, Nat.add_comm, Nat.add_mul_mod_self_right, Nat.mod_eq_of_lt (by omega)]
    rw [this]
    simp [show j < zv.length by omega]
  · intro p q c d h1 h2 _ g e
    rw [hno p c h1] at e; cases e
  · intro p c h g e
    rw [hno p c h] at e; cases e
  · intro p c g h e
    rw [hno p c h] at e; cases e
  · intro g e
    cases e; exact Nat.lt_succ_self _

end Go.Proofs.Ytnaeeemgehgdfab

/- A list of rows that the call builds by append, whose elements lie in memory that is known not to be frozen; general steps, nothing here speaks of the program. -/
namespace Go.Proofs.Ytnaeeemgehgdfab
open Go.RowKit

/-- Each cell of an element reads as its datum, in memory from B on that is not the outer row's. -/
def CellsN (w : World) (B : Nat) (N : Nat → Prop) (blk : Option Nat) (cs : List Value) (e : List Dt) : Prop :=
  ∀ j (hj : j < e.length), ∃ c fp, cs[j]? = some c ∧ Rd w e[j] c fp ∧ ∀ r ∈ fp, B ≤ r ∧ blk ≠ some r ∧ N r
theorem CellsN.step {w w' : World} {B : Nat} {N : Nat → Prop} {blk blk' row : Option Nat} {cs : List Value} {e : List Dt} (h : CellsN w B N blk cs e) (hg : w.grownBy w' row) (hrow : ∀ r, row = some r → r < B ∨ blk = some r) (hb : ∀ g, blk' = some g → blk = some g ∨ w.heap.size ≤ g) :
    CellsN w' B N blk' cs e := by
  intro j hj
  obtain ⟨c, fp, hc, hr, hf⟩ := h j hj
  refine ⟨c, fp, hc, hr.grown hg fun r e hm => ?_, fun r hm => ⟨(hf r hm).1, fun e => ?_, (hf r hm).2.2⟩⟩
  · rcases hrow r e with h | h
    · have := (hf r hm).1; omega
    · exact (hf r hm).2.1 h
  · rcases hb r e with h | h
    · exact (hf r hm).2.1 h
    · have := hr.lt r hm; omega
structure BldN (E : TypeId) (sz : Nat) (w : World) (B : Nat) (N : Nat → Prop) (v : Value) (es : List (List Dt)) : Prop where
  szs : ∀ e ∈ es, e.length = sz
  row : ∃ cs : List Value, w.ownsRow B E sz v es.length cs ∧ ∀ k (hk : k < es.length), CellsN w B N v.ownBlock (cs.drop (k * sz)) es[k]
theorem BldN.nil {E : TypeId} {sz : Nat} {w : World} {B : Nat} {N : Nat → Prop} {v : Value} (h : w.ownsRow B E sz v 0 []) : BldN E sz w B N v [] := ⟨by simp, [], h, fun k hk => by simp at hk⟩
theorem BldN.step {E : TypeId} {sz : Nat} {w w' : World} {B : Nat} {N : Nat → Prop} {v : Value} {es : List (List Dt)} {row : Option Nat} (h : BldN E sz w B N v es) (hg : w.grownBy w' row) (hrow : ∀ r, row = some r → r < B) : BldN E sz w' B N v es := by
  obtain ⟨cs, ho, hc⟩ := h.row
  refine ⟨h.szs, cs, ho.kept hg ?_, fun k hk => (hc k hk).step hg (fun r e => .inl (hrow r e)) (fun g e => .inl e)⟩
  cases hv : v.ownBlock with
  | none => exact .inl rfl
  | some g => exact .inr fun e => by have := hrow g e.symm; have := (ho.lt g hv).1; omega
theorem BldN.under {E : TypeId} {sz : Nat} {w w' : World} {B : Nat} {N : Nat → Prop} {v : Value} {es : List (List Dt)} (h : BldN E sz w B N v es) (hb : Below w.heap.size w w') : BldN E sz w' B N v es := h.step (below_grown hb) fun _ e => by cases e
theorem BldN.lt {E : TypeId} {sz : Nat} {w : World} {B : Nat} {N : Nat → Prop} {v : Value} {es : List (List Dt)} (h : BldN E sz w B N v es) : ∀ g, v.ownBlock = some g → B ≤ g ∧ g < w.heap.size := by
  obtain ⟨cs, ho, _⟩ := h.row; exact ho.lt
theorem BldN.slice {E : TypeId} {sz : Nat} {w : World} {B : Nat} {N : Nat → Prop} {v : Value} {es : List (List Dt)} (h : BldN E sz w B N v es) : ∃ a cap, v = .slice a es.length cap ∧ es.length ≤ maxLen := by
  obtain ⟨cs, ho, _⟩ := h.row
  rcases ho.2 with ⟨rfl, h0⟩ | ⟨g, cap, cur, rfl, hb, hg, hn, hm, hs, ht⟩
  · exact ⟨none, 0, by rw [h0], by rw [h0]; simp⟩
  · exact ⟨_, cap, rfl, by omega⟩

/-- 'append(s, x)', x an element of a struct type. -/
theorem wpList_push_rowN {P : Program} {T E : TypeId} {z0 : Value} {sz bytes : Nat} (hsl : P.underlying T = some (.slice E)) (hinf : (P.info? E).map (fun i => (i.zero, i.size, i.bytes)) = some (some z0, sz, bytes)) (hz0 : z0.cells.size = sz) (hpos : 0 < sz) (hby : bytes ≤ 1000)
    {w : World} {ops : Array Oper} {rest : List Oper} {o : Oper} {a : Act} {Q : Exit → Act → World → Prop} (hgd : o.guard = none) (s x : Operand) (ho : o.op = .call { callee := .builtin .append, args := #[s, x], argTypes := #[T, T] }) (B : Nat) (N : Nat → Prop) (v : Value) (es : List (List Dt)) (e : List Dt)
    (vals : List Value) (cells : Array Value) (hcells : cells = vals.toArray) (hvl : vals.length = sz) (h1c : ∀ u ∈ vals, u.oneCell' = true) (hs : a.eval s = v) (hb : BldN E sz w B N v es) (he : e.length = sz) (hr : CellsN w B N v.ownBlock vals e) (hlen : es.length ≤ 1048576)
    (hx : a.eval x = .slice (some ⟨w.heap.size, 0, none⟩) 1 1) (hB : B ≤ w.heap.size)
    (h : ∀ v' w', BldN E sz w' B N v' (es ++ [e]) → w.grownBy w' v.ownBlock → (∀ g, v'.ownBlock = some g → v.ownBlock = some g ∨ w.heap.size ≤ g) → wpList P ops Q rest (a.put o.dst v') w') : wpList P ops Q (o :: rest) a (w.alloc (.cells cells E)) := by
  subst hcells
  refine wpList_want (by unfold Region.wanted; rw [hgd]) fun K hK => ?_
  obtain ⟨i, hi, hz, hsz, hbb⟩ := info_parts hinf
  obtain ⟨cs, hown, hc⟩ := hb.row
  have hcl : cs.length = es.length * sz := hown.1
  obtain ⟨v', w', hrun, h1, h2, _, h4⟩ := run_append_own_at (P := P) (w.alloc (.cells vals.toArray E)) B T o.type E i z0 sz bytes hsl hi hz hsz hbb hz0 hpos v es.length _ (World.ownsRow.alloc hown _) ⟨w.heap.size, 0, none⟩ 1 1 vals (by rw [hvl]; simp)
    (fun j u hu => by
      rw [addr_add, World.cell?_alloc_at _ _ _ _ rfl]; simpa using hu) h1c (by unfold maxLen; omega) (by
      have := Nat.mul_le_mul (show es.length + 1 ≤ 1048577 by omega) hby; omega) (by simp; omega)
  unfold Oper.wp execOp
  simp only [ho, resolve, invoke, builtin, Sem.run_bind, Sem.run_pure, Result.andThen_ok, List.map_toArray, List.map_cons, List.map_nil, hs, hx, hrun]
  have hg : w.grownBy w' v.ownBlock := grownBy_trans (World.grownBy_alloc _ _ _) h2
  have hloc : ∀ g, v'.ownBlock = some g → v.ownBlock = some g ∨ w.heap.size ≤ g := fun g e => by
    rcases h4 with h4 | h4
    · exact .inl (by rw [← h4]; exact e)
    · rw [h4] at e; cases e; exact .inr (by simp)
  refine hK _ _ (h v' w' ⟨?_, cs ++ vals, by rw [List.length_append]; exact h1, fun k hk => ?_⟩ hg hloc)
  · intro d hd
    rcases List.mem_append.1 hd with hd | hd
    · exact hb.szs d hd
    · simp at hd; subst hd; exact he
  · by_cases hke : k < es.length
    · have hkk : (es ++ [e])[k] = es[k] := List.getElem_append_left hke
      rw [hkk]
      have hcr := (hc k hke).step (blk' := v'.ownBlock) hg (fun r e => .inr e) hloc
      intro j hj
      obtain ⟨c, fp, hcc, hrest⟩ := hcr j hj
      refine ⟨c, fp, ?_, hrest⟩
      rw [List.getElem?_drop] at hcc ⊢
      have hjs : j < sz := by rw [← hb.szs _ (List.getElem_mem hke)]; exact hj
      have : k * sz + j < cs.length := by
        rw [hcl]
        have := Nat.mul_le_mul_right sz (show k + 1 ≤ es.length by omega)
        rw [Nat.add_mul] at this; omega
      rw [List.getElem?_append_left this]; exact hcc
    · have hkl : k = es.length := by simp at hk; omega
      subst hkl
      have hkk : (es ++ [e])[es.length] = e := by simp
      rw [hkk]
      have : (cs ++ vals).drop (es.length * sz) = vals := by rw [← hcl]; simp
      rw [this]
      exact hr.step hg (fun r e => .inr e) hloc

theorem BldN.bld {E : TypeId} {sz : Nat} {w : World} {B : Nat} {N : Nat → Prop} {v : Value} {es : List (List Dt)} (h : BldN E sz w B N v es) : Bld E sz w B v es := by
  obtain ⟨cs, ho, hc⟩ := h.row
  exact ⟨h.szs, cs, ho, fun k hk j hj => by
    obtain ⟨c, fp, h1, h2, h3⟩ := hc k hk j hj
    exact ⟨c, fp, h1, h2, fun r hr => ⟨(h3 r hr).1, (h3 r hr).2.1⟩⟩⟩
theorem BldN.frz {E : TypeId} {sz : Nat} {w : World} {B : Nat} {N : Nat → Prop} {g off n cap : Nat} {es : List (List Dt)} (h : BldN E sz w B N (.slice (some ⟨g, off, none⟩) n cap) es) : off = 0 ∧ ∀ j, w.frozen? ⟨g, j, none⟩ = false := by
  obtain ⟨cs, ho, _⟩ := h.row
  rcases ho.2 with ⟨e, _⟩ | ⟨g', cap', cur, e, hb, hg, _⟩
  · cases e
  · simp only [Value.slice.injEq, Option.some.injEq, Addr.mk.injEq, and_true] at e
    obtain ⟨⟨rfl, rfl⟩, _, _⟩ := e
    exact ⟨rfl, fun j => frozen_of_row w g j cur E hg⟩
theorem BldN.list {E : TypeId} {w : World} {B : Nat} {N : Nat → Prop} {g n cap : Nat} {L : List (Int × List Int)} (h : BldN E 2 w B N (.slice (some ⟨g, 0, none⟩) n cap) (L.map shardD)) {k : Nat} (hk : k < L.length) (hne : 0 < L[k].2.length) :
    ∃ bv ov cv, w.cell? ⟨g, k * 2 + 1, none⟩ = some (.slice (some ⟨bv, ov, none⟩) L[k].2.length cv) ∧ N bv ∧ bv < w.heap.size ∧ ∀ i (hi : i < L[k].2.length), w.cell? ⟨bv, ov + i, none⟩ = some (.int .i64 L[k].2[i]) := by
  obtain ⟨cs, ho, hc⟩ := h.row
  have hk' : k < (L.map shardD).length := by simpa using hk
  have he : (L.map shardD)[k] = shardD L[k] := by simp
  obtain ⟨c, fp, h1, h2, h3⟩ := hc k hk' 1 (by rw [he]; simp [shardD])
  have h2' : Rd w (intsD L[k].2) c fp := by simpa [shardD] using h2
  obtain ⟨a, cap', rfl⟩ := Rd.slice h2'
  rw [List.length_map] at h2' h1
  obtain ⟨bv, ov, rfl, hlt, hin, _, _, hcs⟩ := Rd.at h2' (by simpa using hne) (sz := 1) (by intro e he; simp at he; obtain ⟨x, _, rfl⟩ := he; rfl)
  refine ⟨bv, ov, cap', ?_, (h3 bv hin).2.2, hlt, fun i hi => ?_⟩
  · rw [List.getElem?_drop] at h1
    have := World.ownsRow.cells ho (g := g) rfl (k * 2 + 1) _ h1
    rw [addr_add] at this
    exact this
  · obtain ⟨v, fp', hcell, hr, _⟩ := hcs i 0 (by simpa using hi) (by simp)
    have hr' : Rd w (.i L[k].2[i]) v fp' := by simpa using hr
    obtain ⟨rfl, _⟩ := hr'.int
    simpa using hcell
/-- What has just been made by a call, row by row. -/
theorem made_rows {E Ei : TypeId} {w : World} {B hi : Nat} {a : Option Addr} {n cap : Nat} {A : List (Int × List Int)} (h : OwnR E Ei 2 w B hi (.slice a n cap) (A.map shardF)) (N : Nat → Prop) (hN : ∀ r, B ≤ r → r < w.heap.size → (∀ j, w.frozen? ⟨r, j, none⟩ = false) → N r) {k : Nat} (hk : k < A.length) :
    ∃ gA av cv, a = some ⟨gA, 0, none⟩ ∧ B ≤ gA ∧ gA < w.heap.size ∧ w.cell? ⟨gA, k * 2, none⟩ = some (.int .i64 A[k].1) ∧ w.cell? ⟨gA, k * 2 + 1, none⟩ = some (.slice av A[k].2.length cv) ∧ CellsN w B N none [.int .i64 A[k].1, .slice av A[k].2.length cv] (shardD A[k]) := by
  obtain ⟨gA, cap', e, hB, _, hlt⟩ := h.head (by simp; omega)
  simp only [Value.slice.injEq] at e
  obtain ⟨rfl, rfl, rfl⟩ := e
  have hk' : k < (A.map shardF).length := by simpa using hk
  have he : (A.map shardF)[k] = shardF A[k] := by simp
  have h0 := h.fieldI (k := k) (j := 0) hk' (by rw [he]; simp [shardF]) (x := A[k].1) (by simp only [he]; rfl)
  obtain ⟨c, hc, hf⟩ := h.cell (k := k) (j := 1) hk' (by rw [he]; simp [shardF])
  have hf' : Own Ei w B c A[k].2 := by
    have h9 := hf.1
    simp only [List.getElem_map, shardF, List.getElem_cons_zero, List.getElem_cons_succ] at h9
    exact h9
  obtain ⟨av, cv, rfl, _, _⟩ := hf'.ints
  refine ⟨gA, av, cv, rfl, hB, hlt, by simpa using h0.1, hc, fun j hj => ?_⟩
  match j, hj with
  | 0, _ => exact ⟨_, [], rfl, .i _, by simp⟩
  | 1, _ =>
    obtain ⟨fp, hr, hfp⟩ := Rd.of_own hf'
    refine ⟨_, fp, rfl, hr, fun r hr => ?_⟩
    obtain ⟨h1, h2⟩ := hfp r hr
    refine ⟨h1, by simp, hN r h1 (hf'.lt r h2).2 fun j => ?_⟩
    rcases hf'.2 with ⟨e, _⟩ | ⟨g', cap', cur, e, _, hg, _⟩
    · rw [e] at h2; cases h2
    · rw [e] at h2; cases h2; exact frozen_of_row w g' j cur Ei hg
theorem grown_frozen {w w' : World} {row : Option Nat} (h : w.grownBy w' row) {b : Nat} (hb : b < w.heap.size) (hne : some b ≠ row) (j : Nat) : w'.frozen? ⟨b, j, none⟩ = w.frozen? ⟨b, j, none⟩ := by
  unfold World.frozen?
  rw [h.block b hb hne]

end Go.Proofs.Ytnaeeemgehgdfab
