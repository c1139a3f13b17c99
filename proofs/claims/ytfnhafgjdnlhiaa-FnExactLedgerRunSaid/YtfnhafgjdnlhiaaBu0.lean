/- Texts that the laws of this folder share, one behind another; no conditions. -/
import Derived.ProofKit
import Derived.WalkKit
import Derived.WalkSmall
import Derived.Lib.Hide
import Derived.Deep.Draws
import Derived.Deep.OwnRows
import Derived.OpenShut
import Derived.ChangeOld
import Derived.Below
import Derived.Carry
import Derived.Deep.RegionLaw
import Derived.Maps.AppendAt
import Derived.Laws.OwnMore
import Derived.Test.YtfnhafgjdnlhiaaRows
import Derived.Deep.QuietTactic
import Derived.BigQuiet
import Derived.Deep.Slices
import Derived.ChangeArms
import Derived.ChangeSame
import Derived.Laws.Strings
import Derived.Deep.RegionHeld3

/- Words of this proof's own on lists of integers in memory and their arithmetic, without conditions; nothing here speaks of the program. -/
namespace Go.Proofs.Ytfnhafgjdnlhiaa
open Go.RowKit

theorem ret_bool {a b : Bool} (h : a = b) : Ending.returned (.bool a) = .returned (.bool b) := by rw [h]
theorem ret_int {k : IntKind} {a b : Int} (h : a = b) : Ending.returned (.int k a) = .returned (.int k b) := by rw [h]
theorem int_eq {k : IntKind} {a b : Int} (h : a = b) : Value.int k a = Value.int k b := by rw [h]

/-- The slice at address a reads as xs. -/
def IntsAt (w : World) (a : Option Addr) (xs : List Int) : Prop :=
  xs = [] ∨ ∃ b off, a = some ⟨b, off, none⟩ ∧ b < w.heap.size ∧ ∀ j (h : j < xs.length), w.cell? ⟨b, off + j, none⟩ = some (.int .i64 xs[j])

theorem IntsAt.cell {w : World} {a : Option Addr} {xs : List Int} (h : IntsAt w a xs) (hx : 0 < xs.length) : ∃ b off, a = some ⟨b, off, none⟩ ∧ b < w.heap.size ∧ ∀ j (h : j < xs.length), w.cell? ⟨b, off + j, none⟩ = some (.int .i64 xs[j]) := by
  rcases h with rfl | h
  · simp at hx
  · exact h

theorem IntsAt.len {w : World} {a : Option Addr} {xs : List Int} (h : IntsAt w a xs) : xs.length < 1 ∨ ∃ b off, a = some ⟨b, off, none⟩ ∧ b < w.heap.size ∧ ∀ j (h : j < xs.length), w.cell? ⟨b, off + j, none⟩ = some (.int .i64 xs[j]) := by
  rcases h with rfl | h
  · exact .inl (by simp)
  · exact .inr h

/-- Nothing but draws lies between the two worlds. -/
def Drawn (w w' : World) : Prop := ∃ q, w' = w.drewN q
theorem Drawn.refl (w : World) : Drawn w w := ⟨0, rfl⟩
theorem Drawn.drewN {a w : World} (h : Drawn a w) (n : Nat) : Drawn a (w.drewN n) := by
  obtain ⟨q, rfl⟩ := h; exact ⟨q + n, World.drewN_drewN ..⟩
theorem Drawn.trans {a b c : World} (h : Drawn a b) (k : Drawn b c) : Drawn a c := by
  obtain ⟨q, rfl⟩ := k; exact h.drewN q
theorem Drawn.cell {a w : World} (h : Drawn a w) (p : Addr) : w.cell? p = a.cell? p := by obtain ⟨q, rfl⟩ := h; rfl
theorem Drawn.size {a w : World} (h : Drawn a w) : w.heap.size = a.heap.size := by obtain ⟨q, rfl⟩ := h; rfl
theorem Drawn.ints {a w : World} (h : Drawn a w) {p : Option Addr} {xs : List Int} (hx : IntsAt a p xs) : IntsAt w p xs := by obtain ⟨q, rfl⟩ := h; exact hx
theorem turned {P : Program} {f : FuncId} {args : Array Value} {w : World} {v : Value} (h : Calls P f args w fun e w' => e = .returned v ∧ w = w') : Calls P f args w fun e w' => e = .returned v ∧ w' = w :=
  h.mono fun _ _ ⟨a, b⟩ => ⟨a, b.symm⟩

/-- The first k elements have p. -/
def Pre (p : Int → Bool) (xs : List Int) (k : Nat) : Prop := ∀ j (h : j < xs.length), j < k → p xs[j] = true
theorem pre_zero (p : Int → Bool) (xs : List Int) : Pre p xs 0 := fun _ _ h => by omega
theorem pre_step {p : Int → Bool} {xs : List Int} {k : Nat} (hp : Pre p xs k) (hk : k < xs.length) (h : p xs[k] = true) : Pre p xs (k + 1) := by
  intro j hj hjk
  by_cases e : j = k
  · subst e; exact h
  · exact hp j hj (by omega)
theorem pre_all {p : Int → Bool} {xs : List Int} {k : Nat} (hp : Pre p xs k) (hk : xs.length ≤ k) : xs.all p = true := by
  rw [List.all_eq_true]
  intro x hx
  obtain ⟨j, hj, rfl⟩ := List.mem_iff_getElem.1 hx
  exact hp j hj (by omega)
theorem pre_not {p : Int → Bool} {xs : List Int} {k : Nat} (hk : k < xs.length) (h : p xs[k] = false) : xs.all p = false := by
  rw [List.all_eq_false]
  exact ⟨xs[k], List.getElem_mem hk, by simp [h]⟩
theorem pre_of_all {p : Int → Bool} {xs : List Int} (h : xs.all p = true) (k : Nat) : Pre p xs k := fun j hj _ => by
  rw [List.all_eq_true] at h; exact h _ (List.getElem_mem hj)

/-! committees -/
def goodB (x : Int) : Bool := decide (1 ≤ x ∧ x ≤ 9)
theorem goodB_yes {x : Int} (h1 : 1 ≤ x) (h2 : x ≤ 9) : goodB x = true := by unfold goodB; simp; omega
theorem goodB_no {x : Int} (h : x < 1 ∨ 9 < x) : goodB x = false := by unfold goodB; simp; omega
theorem goodB_bd {x : Int} (h : goodB x = true) : 1 ≤ x ∧ x ≤ 9 := by unfold goodB at h; simpa using h
def validB (c : List Int) : Bool := decide (1 ≤ c.length ∧ c.length ≤ 7) && c.all goodB
theorem validB_no {c : List Int} (h : ¬ (1 ≤ c.length ∧ c.length ≤ 7)) : validB c = false := by
  unfold validB; rw [decide_eq_false h, Bool.false_and]
theorem validB_bad {c : List Int} {j : Nat} (hj : j < c.length) (h : goodB c[j] = false) : validB c = false := by
  unfold validB; rw [pre_not hj h, Bool.and_false]
theorem validB_yes {c : List Int} {k : Nat} (h1 : 1 ≤ c.length) (h2 : c.length ≤ 7) (h : Pre goodB c k) (hk : c.length ≤ k) : validB c = true := by
  unfold validB; rw [pre_all h hk, decide_eq_true ⟨h1, h2⟩]; rfl
theorem validB_len {c : List Int} (h : validB c = true) : 1 ≤ c.length ∧ c.length ≤ 7 := by
  unfold validB at h; simp at h; omega
theorem validB_good {c : List Int} (h : validB c = true) : ∀ j (hj : j < c.length), 1 ≤ c[j] ∧ c[j] ≤ 9 := fun j hj => by
  unfold validB at h
  rw [Bool.and_eq_true] at h
  exact goodB_bd (pre_of_all h.2 c.length j hj hj)

/-- The sum of the first k weights. -/
def sumTo (c : List Int) (k : Nat) : Int := (c.take k).sum
theorem sumTo_zero (c : List Int) : sumTo c 0 = 0 := rfl
theorem sumTo_succ {c : List Int} {k : Nat} (hk : k < c.length) : sumTo c (k + 1) = sumTo c k + c[k] := by
  unfold sumTo
  rw [List.take_succ_eq_append_getElem hk, List.sum_append]
  simp
theorem sumTo_bd {c : List Int} (h : validB c = true) (k : Nat) (hk : k ≤ c.length) : (k : Int) ≤ sumTo c k ∧ sumTo c k ≤ 9 * k := by
  induction k with
  | zero => simp [sumTo]
  | succ k ih =>
    have := ih (by omega)
    have g := validB_good h k (by omega)
    rw [sumTo_succ (by omega)]
    omega
def totalZ (c : List Int) : Int := sumTo c c.length
theorem totalZ_bd {c : List Int} (h : validB c = true) : 1 ≤ totalZ c ∧ totalZ c ≤ 63 := by
  have := sumTo_bd h c.length (Nat.le_refl _)
  have := validB_len h
  unfold totalZ; omega

/-! sets of members -/
def okAt (n : Nat) (ms : List Int) (j : Nat) : Bool := decide (0 ≤ ms.getD j 0 ∧ ms.getD j 0 < n ∧ (j = 0 ∨ ms.getD (j - 1) 0 < ms.getD j 0))
theorem getD_get {ms : List Int} {k : Nat} (hk : k < ms.length) : ms.getD k 0 = ms[k] := by simp [List.getD, List.getElem?_eq_getElem hk]
theorem okAt_yes {n : Nat} {ms : List Int} {k : Nat} (hk : k < ms.length) (h0 : 0 ≤ ms[k]) (h1 : ms[k] < n) (h2 : k = 0 ∨ ms.getD (k - 1) 0 < ms[k]) : okAt n ms k = true := by
  unfold okAt; rw [getD_get hk]; exact decide_eq_true ⟨h0, h1, h2⟩
theorem okAt_no {n : Nat} {ms : List Int} {k : Nat} (hk : k < ms.length) (h : ¬ (0 ≤ ms[k] ∧ ms[k] < n ∧ (k = 0 ∨ ms.getD (k - 1) 0 < ms[k]))) : okAt n ms k = false := by
  unfold okAt; rw [getD_get hk]; exact decide_eq_false h
theorem okAt_bd {n : Nat} {ms : List Int} {k : Nat} (hk : k < ms.length) (h : okAt n ms k = true) : 0 ≤ ms[k] ∧ ms[k] < n ∧ (k = 0 ∨ ms.getD (k - 1) 0 < ms[k]) := by
  unfold okAt at h; rw [getD_get hk] at h; exact of_decide_eq_true h
/-- All numbers below k have p. -/
def Upto (p : Nat → Bool) (k : Nat) : Prop := ∀ j, j < k → p j = true
theorem upto_zero (p : Nat → Bool) : Upto p 0 := fun _ h => by omega
theorem upto_step {p : Nat → Bool} {k : Nat} (hp : Upto p k) (h : p k = true) : Upto p (k + 1) := by
  intro j hj
  by_cases e : j = k
  · subst e; exact h
  · exact hp j (by omega)
def allB (p : Nat → Bool) (n : Nat) : Bool := (List.range n).all p
theorem allB_yes {p : Nat → Bool} {n k : Nat} (h : Upto p k) (hk : n ≤ k) : allB p n = true := by
  unfold allB; rw [List.all_eq_true]; intro x hx; exact h x (by have := List.mem_range.1 hx; omega)
theorem allB_no {p : Nat → Bool} {n k : Nat} (hk : k < n) (h : p k = false) : allB p n = false := by
  unfold allB; rw [List.all_eq_false]; exact ⟨k, List.mem_range.2 hk, by simp [h]⟩
theorem allB_upto {p : Nat → Bool} {n : Nat} (h : allB p n = true) : Upto p n := by
  unfold allB at h; rw [List.all_eq_true] at h; intro j hj; exact h j (List.mem_range.2 hj)
def membersB (n : Nat) (ms : List Int) : Bool := allB (okAt n ms) ms.length
theorem membersB_at {n : Nat} {ms : List Int} (h : membersB n ms = true) : ∀ j (hj : j < ms.length), 0 ≤ ms[j] ∧ ms[j] < n := fun j hj => by
  have := okAt_bd hj (allB_upto h j hj); exact ⟨this.1, this.2.1⟩
/-- What stands before place k, or -1. -/
def prevZ (ms : List Int) (k : Nat) : Int := if k = 0 then -1 else ms.getD (k - 1) 0
theorem prevZ_zero (ms : List Int) : prevZ ms 0 = -1 := rfl
theorem prevZ_succ {ms : List Int} {k : Nat} (hk : k < ms.length) : prevZ ms (k + 1) = ms[k] := by
  unfold prevZ; rw [if_neg (by omega), Nat.add_sub_cancel, getD_get hk]
theorem prevZ_lo {n : Nat} {ms : List Int} {k : Nat} (h : Upto (okAt n ms) k) (hk : k ≤ ms.length) : -1 ≤ prevZ ms k := by
  cases k with
  | zero => simp [prevZ]
  | succ k => rw [prevZ_succ (by omega)]; have := okAt_bd (by omega) (h k (by omega)); omega
theorem prevZ_hi {n : Nat} {ms : List Int} {k : Nat} (h : Upto (okAt n ms) k) (hk : k ≤ ms.length) : prevZ ms k < n ∨ prevZ ms k = -1 := by
  cases k with
  | zero => simp [prevZ]
  | succ k => rw [prevZ_succ (by omega)]; have := okAt_bd (by omega) (h k (by omega)); omega
theorem okAt_prev {n : Nat} {ms : List Int} {k : Nat} (hk : k < ms.length) (hl : -1 ≤ prevZ ms k) (h1 : prevZ ms k < ms[k]) (h2 : ms[k] < n) : okAt n ms k = true := by
  refine okAt_yes hk (by omega) h2 ?_
  by_cases e : k = 0
  · exact .inl e
  · refine .inr ?_
    unfold prevZ at h1; rw [if_neg e] at h1; exact h1
theorem okAt_prev_no {n : Nat} {ms : List Int} {k : Nat} (hk : k < ms.length) (h : ¬ (prevZ ms k < ms[k] ∧ ms[k] < n)) : okAt n ms k = false := by
  refine okAt_no hk ?_
  rintro ⟨h0, h1, h2⟩
  refine h ⟨?_, h1⟩
  unfold prevZ
  by_cases e : k = 0
  · rw [if_pos e]; omega
  · rw [if_neg e]; exact h2.resolve_left e

/-- The weight of the first k of some members. -/
def weightTo (c ms : List Int) (k : Nat) : Int := ((ms.take k).map fun m => c.getD m.toNat 0).sum
theorem weightTo_zero (c ms : List Int) : weightTo c ms 0 = 0 := rfl
theorem weightTo_succ {c ms : List Int} {k : Nat} (hk : k < ms.length) : weightTo c ms (k + 1) = weightTo c ms k + c.getD ms[k].toNat 0 := by
  unfold weightTo
  rw [List.take_succ_eq_append_getElem hk, List.map_append, List.sum_append]
  simp
theorem good_getD {c : List Int} (h : validB c = true) {i : Nat} (hi : i < c.length) : 1 ≤ c.getD i 0 ∧ c.getD i 0 ≤ 9 := by
  rw [getD_get hi]; exact validB_good h i hi
theorem weightTo_bd {c ms : List Int} (h : validB c = true) (hm : membersB c.length ms = true) (k : Nat) (hk : k ≤ ms.length) : 0 ≤ weightTo c ms k ∧ weightTo c ms k ≤ 9 * k := by
  induction k with
  | zero => simp [weightTo]
  | succ k ih =>
    have := ih (by omega)
    have g := membersB_at hm k (by omega)
    have := good_getD h (i := ms[k].toNat) (by omega)
    rw [weightTo_succ (by omega)]
    omega
def weightZ (c ms : List Int) : Int := weightTo c ms ms.length

/-- The answer x where c is a committee, else -1. -/
def orNo (c : List Int) (x : Int) : Int := if validB c = true then x else -1
theorem orNo_yes {c : List Int} (h : validB c = true) (x : Int) : orNo c x = x := by unfold orNo; rw [if_pos h]
theorem orNo_no {c : List Int} (h : validB c = false) (x : Int) : orNo c x = -1 := by unfold orNo; rw [if_neg (by simp [h])]

def mvB (c ms : List Int) : Bool := validB c && membersB c.length ms
theorem mvB_yes {c : List Int} (h : validB c = true) (ms : List Int) : mvB c ms = membersB c.length ms := by unfold mvB; rw [h, Bool.true_and]
theorem mvB_no {c : List Int} (h : validB c = false) (ms : List Int) : mvB c ms = false := by unfold mvB; rw [h, Bool.false_and]
theorem mvB_valid {c ms : List Int} (h : mvB c ms = true) : validB c = true := by unfold mvB at h; rw [Bool.and_eq_true] at h; exact h.1
theorem mvB_members {c ms : List Int} (h : mvB c ms = true) : membersB c.length ms = true := by unfold mvB at h; rw [Bool.and_eq_true] at h; exact h.2
def mwZ (c ms : List Int) : Int := if mvB c ms = true then weightZ c ms else -1
theorem mwZ_yes {c ms : List Int} (h : mvB c ms = true) : mwZ c ms = weightZ c ms := by unfold mwZ; rw [if_pos h]
theorem mwZ_no {c ms : List Int} (h : mvB c ms = false) : mwZ c ms = -1 := by unfold mwZ; rw [if_neg (by simp [h])]

/-! slices of the call's own -/
/-- T is the type of slices of ints, E the type of ints. -/
structure IntT (P : Program) (T E : TypeId) : Prop where
  sl : P.underlying T = some (.slice E)
  info : (P.info? E).map (fun i => (i.zero, i.size, i.bytes)) = some (some (.int .i64 0), 1, 8)

/-- The slice value v owns the numbers xs in memory made from block B on. -/
def Own (E : TypeId) (w : World) (B : Nat) (v : Value) (xs : List Int) : Prop := w.ownsRow B E 1 v xs.length (xs.map (Value.int .i64))

theorem addr_add (g j : Nat) : (⟨g, 0, none⟩ : Addr).add j = ⟨g, j, none⟩ := by unfold Addr.add; split <;> simp_all
theorem addr_add' (g o j : Nat) : (⟨g, o, none⟩ : Addr).add j = ⟨g, o + j, none⟩ := by unfold Addr.add; split <;> simp_all

theorem Own.nil (E : TypeId) (w : World) (B : Nat) : Own E w B (.slice none 0 0) [] := World.ownsRow_nil _ _ _ _
/-- An owned slice as a value, and how it reads. -/
theorem Own.ints {E : TypeId} {w : World} {B : Nat} {v : Value} {xs : List Int} (h : Own E w B v xs) : ∃ a cap, v = .slice a xs.length cap ∧ IntsAt w a xs ∧ xs.length ≤ maxLen := by
  rcases h.2 with ⟨rfl, h0⟩ | ⟨g, cap, cur, rfl, hb, hg, hn, hm, hs, ht⟩
  · have : xs = [] := List.eq_nil_of_length_eq_zero h0
    subst this
    exact ⟨none, 0, rfl, .inl rfl, by simp⟩
  · refine ⟨_, cap, rfl, .inr ⟨g, 0, rfl, (Array.getElem?_eq_some_iff.1 hg).1, fun j hj => ?_⟩, by omega⟩
    have hc := World.ownsRow.cells (w := w) (base := B) (e := E) (size := 1) (v := .slice (some ⟨g, 0, none⟩) xs.length cap) (n := xs.length) (xs := xs.map (Value.int .i64)) h (g := g) rfl j (.int .i64 xs[j]) (by simp [hj])
    rw [addr_add] at hc
    simpa using hc
theorem Own.kept {E : TypeId} {w w' : World} {B : Nat} {v : Value} {xs : List Int} {row : Option Nat} (h : Own E w B v xs) (hg : w.grownBy w' row) (hne : v.ownBlock = none ∨ v.ownBlock ≠ row) : Own E w' B v xs := World.ownsRow.kept h hg hne
theorem below_grown {w w' : World} (h : Below w.heap.size w w') : w.grownBy w' none := ⟨h.os, h.tape, h.output, h.size, fun k hk _ => h.block k hk⟩
theorem Own.below {E : TypeId} {w w' : World} {B : Nat} {v : Value} {xs : List Int} (h : Own E w B v xs) (hg : Below w.heap.size w w') : Own E w' B v xs :=
  h.kept (below_grown hg) (by cases hv : v.ownBlock <;> simp)
theorem Own.alloc {E : TypeId} {w : World} {B : Nat} {v : Value} {xs : List Int} (h : Own E w B v xs) (o : Obj) : Own E (w.alloc o) B v xs := World.ownsRow.alloc h o
theorem Own.mono {E : TypeId} {w : World} {B B' : Nat} {v : Value} {xs : List Int} (h : Own E w B v xs) (hB : B' ≤ B) : Own E w B' v xs := by
  refine ⟨h.1, ?_⟩
  rcases h.2 with h0 | ⟨g, cap, cur, e, hb, rest⟩
  · exact .inl h0
  · exact .inr ⟨g, cap, cur, e, by omega, rest⟩
theorem Own.lt {E : TypeId} {w : World} {B : Nat} {v : Value} {xs : List Int} (h : Own E w B v xs) : ∀ k, v.ownBlock = some k → B ≤ k ∧ k < w.heap.size := World.ownsRow.lt h
theorem Own.drewN {E : TypeId} {w : World} {B : Nat} {v : Value} {xs : List Int} (h : Own E w B v xs) (n : Nat) : Own E (w.drewN n) B v xs := h
theorem IntsAt.below {w w' : World} {a : Option Addr} {xs : List Int} (h : IntsAt w a xs) (hb : Below w.heap.size w w') : IntsAt w' a xs := by
  rcases h with rfl | ⟨b, off, rfl, hlt, hc⟩
  · exact .inl rfl
  · exact .inr ⟨b, off, rfl, Nat.lt_of_lt_of_le hlt hb.size, fun j hj => (hb.cell (p := ⟨b, off + j, none⟩) hlt).trans (hc j hj)⟩
theorem IntsAt.belowB {B : Nat} {w w' : World} {a : Option Addr} {xs : List Int} (h : IntsAt w a xs) (hlt : ∀ p, a = some p → p.block < B) (hb : Below B w w') : IntsAt w' a xs := by
  rcases h with rfl | ⟨b, off, rfl, h0, hc⟩
  · exact .inl rfl
  · exact .inr ⟨b, off, rfl, Nat.lt_of_lt_of_le h0 hb.size, fun j hj => (hb.cell (p := ⟨b, off + j, none⟩) (hlt ⟨b, off, none⟩ rfl)).trans (hc j hj)⟩
theorem Drawn.below {w w' : World} (h : Drawn w w') (B : Nat) : Below B w w' := by obtain ⟨q, rfl⟩ := h; exact below_drewN (Below.refl _ _) q
theorem below_step {B : Nat} {a w w' : World} (h : Below B a w) (hB : B ≤ w.heap.size) (k : Below w.heap.size w w') : Below B a w' := h.trans (k.mono hB)

theorem own_of_row {E : TypeId} {w : World} {b B : Nat} {xs : List Int} (h : w.rowIs b E xs.length (fun j => .int .i64 (xs.getD j 0))) (hB : B ≤ b) (hm : xs.length ≤ maxLen) : Own E w B (.slice (some ⟨b, 0, none⟩) xs.length xs.length) xs := by
  obtain ⟨c, hb, hn, hc⟩ := h
  refine ⟨by simp, .inr ⟨b, xs.length, c, rfl, hB, hb, Nat.le_refl _, hm, by omega, ?_⟩⟩
  apply List.ext_getElem?
  intro j
  rw [List.getElem?_take]
  by_cases hj : j < xs.length
  · rw [if_pos (by omega)]
    have := hc j hj
    rw [Array.getElem?_toList, this]
    simp [hj]
  · rw [if_neg (by omega), List.getElem?_eq_none (by simp; omega)]

theorem cells_one (w : World) (E : TypeId) (z : Int) : ∀ j u, [Value.int .i64 z][j]? = some u → (w.alloc (.cells #[.int .i64 z] E)).cell? ((⟨w.heap.size, 0, none⟩ : Addr).add j) = some u := by
  intro j u hu
  match j, hu with
  | 0, hu =>
    simp at hu; subst hu
    rw [addr_add, World.cell?_alloc_at _ _ _ _ rfl]; rfl
theorem grownBy_trans {w a b : World} {row : Option Nat} (h : w.grownBy a row) (k : a.grownBy b row) : w.grownBy b row :=
  ⟨k.os.trans h.os, k.tape.trans h.tape, k.output.trans h.output, Nat.le_trans h.size k.size, fun i hi hr => (k.block i (Nat.lt_of_lt_of_le hi h.size) hr).trans (h.block i hi hr)⟩

/-- 'append(s, z)' onto a slice of the call's own. -/
theorem wpList_push {P : Program} {T E : TypeId} (hT : IntT P T E) {w : World} {ops : Array Oper} {rest : List Oper} {o : Oper} {a : Act} {Q : Exit → Act → World → Prop} (hgd : o.guard = none) (s x : Operand)
    (ho : o.op = .call { callee := .builtin .append, args := #[s, x], argTypes := #[T, T] }) (B : Nat) (v : Value) (xs : List Int) (z : Int) (hs : a.eval s = v) (hown : Own E w B v xs)
    (hlen : xs.length ≤ 1099511627776) (hx : a.eval x = .slice (some ⟨w.heap.size, 0, none⟩) 1 1) (hB : B ≤ w.heap.size)
    (h : ∀ v' w', Own E w' B v' (xs ++ [z]) → w.grownBy w' v.ownBlock → wpList P ops Q rest (a.put o.dst v') w') : wpList P ops Q (o :: rest) a (w.alloc (.cells #[.int .i64 z] E)) := by
  obtain ⟨i, hi, hz, hsz, hby⟩ := info_parts hT.info
  refine wpList_append_own _ hgd s x T ho B E i (.int .i64 0) 1 8 hT.sl hi hz hsz hby rfl (by decide) v xs.length _ hs (World.ownsRow.alloc hown _) ⟨w.heap.size, 0, none⟩ 1 1 [.int .i64 z] hx rfl (cells_one _ _ _) (by intro u hu; simp at hu; subst hu; rfl) (by unfold maxLen; omega) (by omega) (by simp; omega) ?_
  intro v' w' h1 h2 _
  refine h v' w' ?_ (grownBy_trans (World.grownBy_alloc _ _ _) h2)
  unfold Own; simpa using h1

/-- A new row of n zeros whose first k places have been filled from xs. -/
def filled (xs : List Int) (k : Nat) (j : Nat) : Value := if j < k then .int .i64 (xs.getD j 0) else .int .i64 0
theorem filled_zero (E : TypeId) (w : World) (xs : List Int) : (w.alloc (.cells (madeCells #[.int .i64 0] xs.length) E)).rowIs w.heap.size E xs.length (filled xs 0) :=
  (World.rowIs_made w (.int .i64 0) xs.length E).congr fun i _ => by unfold filled; rw [if_neg (by omega)]
theorem filled_step {E : TypeId} {w : World} {b : Nat} {xs : List Int} {k : Nat} (h : w.rowIs b E xs.length (filled xs k)) (hk : k < xs.length) : (w.setCell ⟨b, k, none⟩ (.int .i64 xs[k])).rowIs b E xs.length (filled xs (k + 1)) :=
  (h.set k _).congr fun i _ => by
    unfold filled
    by_cases e : i = k
    · subst e; rw [if_pos rfl, if_pos (by omega), getD_get hk]
    · rw [if_neg e]; by_cases l : i < k
      · rw [if_pos l, if_pos (by omega)]
      · rw [if_neg l, if_neg (by omega)]
theorem filled_own {E : TypeId} {w : World} {b B : Nat} {xs : List Int} {k : Nat} (h : w.rowIs b E xs.length (filled xs k)) (hk : xs.length ≤ k) (hB : B ≤ b) (hm : xs.length ≤ 1099511627776) : Own E w B (.slice (some ⟨b, 0, none⟩) xs.length xs.length) xs :=
  own_of_row (h.congr fun i hi => by unfold filled; rw [if_pos (by omega)]) hB (by unfold maxLen; omega)

/-- A literal's cells, still there when only others have been written. -/
theorem lit_cell {w w' : World} {E : TypeId} {c : Array Value} {row : Option Nat} (hg : (w.alloc (.cells c E)).grownBy w' row) (hne : some w.heap.size ≠ row) {j : Nat} {v : Value} (hv : c[j]? = some v) : w'.cell? ⟨w.heap.size, j, none⟩ = some v := by
  refine hg.cell ?_ hne
  rw [World.cell?_alloc_at _ _ _ _ rfl]
  simpa using hv
/-- An empty literal. -/
theorem own_empty (E : TypeId) (w : World) {B : Nat} (hB : B ≤ w.heap.size) : Own E (w.alloc (.cells #[] E)) B (.slice (some ⟨w.heap.size, 0, none⟩) 0 0) [] :=
  World.ownsRow_made w #[] 0 hB (by simp) (by simp)

theorem cells_many (w : World) (E : TypeId) (zs : List Int) : ∀ j u, (zs.map (Value.int .i64))[j]? = some u → (w.alloc (.cells (zs.map (Value.int .i64)).toArray E)).cell? ((⟨w.heap.size, 0, none⟩ : Addr).add j) = some u := by
  intro j u hu
  rw [addr_add, World.cell?_alloc_at _ _ _ _ rfl]
  simpa using hu
/-- 'append(s, z0, z1, ..)' onto a slice of the call's own. -/
theorem wpList_pushes {P : Program} {T E : TypeId} (hT : IntT P T E) {w : World} {ops : Array Oper} {rest : List Oper} {o : Oper} {a : Act} {Q : Exit → Act → World → Prop} (hgd : o.guard = none) (s x : Operand)
    (ho : o.op = .call { callee := .builtin .append, args := #[s, x], argTypes := #[T, T] }) (B : Nat) (v : Value) (xs zs : List Int) (n : Nat) (c : Array Value) (hn : n = zs.length) (hcs : c = (zs.map (Value.int .i64)).toArray) (hs : a.eval s = v) (hown : Own E w B v xs)
    (hlen : xs.length + zs.length ≤ 1099511627776) (hx : a.eval x = .slice (some ⟨w.heap.size, 0, none⟩) n n) (hB : B ≤ w.heap.size)
    (h : ∀ v' w', Own E w' B v' (xs ++ zs) → w.grownBy w' v.ownBlock → wpList P ops Q rest (a.put o.dst v') w') : wpList P ops Q (o :: rest) a (w.alloc (.cells c E)) := by
  subst hn; subst hcs
  obtain ⟨i, hi, hz, hsz, hby⟩ := info_parts hT.info
  refine wpList_append_own _ hgd s x T ho B E i (.int .i64 0) 1 8 hT.sl hi hz hsz hby rfl (by decide) v xs.length _ hs (World.ownsRow.alloc hown _) ⟨w.heap.size, 0, none⟩ zs.length zs.length (zs.map (Value.int .i64)) hx (by simp) (cells_many _ _ _) (by intro u hu; simp at hu; obtain ⟨_, _, rfl⟩ := hu; rfl) (by unfold maxLen; omega) (by omega) (by simp; omega) ?_
  intro v' w' h1 h2 _
  refine h v' w' ?_ (grownBy_trans (World.grownBy_alloc _ _ _) h2)
  unfold Own; simpa using h1
/-- An owned slice that is not empty, its cells and that none is frozen. -/
theorem Own.row {E : TypeId} {w : World} {B : Nat} {v : Value} {xs : List Int} (h : Own E w B v xs) (hx : 0 < xs.length) : ∃ g cap, v = .slice (some ⟨g, 0, none⟩) xs.length cap ∧ B ≤ g ∧ g < w.heap.size ∧ xs.length ≤ cap ∧
    (∀ j (h : j < xs.length), w.cell? ⟨g, j, none⟩ = some (.int .i64 xs[j])) ∧ ∀ j, w.frozen? ⟨g, j, none⟩ = false := by
  rcases h.2 with ⟨rfl, h0⟩ | ⟨g, cap, cur, rfl, hb, hg, hn, hm, hs, ht⟩
  · omega
  · refine ⟨g, cap, rfl, hb, (Array.getElem?_eq_some_iff.1 hg).1, hn, fun j hj => ?_, fun j => frozen_of_row w g j cur E hg⟩
    have hc := World.ownsRow.cells (w := w) (base := B) (e := E) (size := 1) (v := .slice (some ⟨g, 0, none⟩) xs.length cap) (n := xs.length) (xs := xs.map (Value.int .i64)) h (g := g) rfl j (.int .i64 xs[j]) (by simp [hj])
    rwa [addr_add] at hc
theorem Own.store {E : TypeId} {w : World} {B g cap n : Nat} {xs : List Int} (h : Own E w B (.slice (some ⟨g, 0, none⟩) n cap) xs) (hn : n = xs.length) (j : Nat) (z : Int) :
    Own E (w.setCell ⟨g, j, none⟩ (.int .i64 z)) B (.slice (some ⟨g, 0, none⟩) n cap) (xs.set j z) ∧ w.grownBy (w.setCell ⟨g, j, none⟩ (.int .i64 z)) (some g) := by
  subst hn
  have := World.ownsRow.stored (w := w) (base := B) (e := E) (size := 1) (g := g) (n := xs.length) (cap := cap) h j (.int .i64 z)
  refine ⟨?_, this.2⟩
  unfold Own
  rw [List.map_set, List.length_set]
  exact this.1
theorem Own.front {E : TypeId} {w : World} {B g cap n : Nat} {xs : List Int} (h : Own E w B (.slice (some ⟨g, 0, none⟩) n cap) xs) (k : Nat) (hk : k ≤ xs.length) : Own E w B (.slice (some ⟨g, 0, none⟩) k cap) (xs.take k) := by
  rcases h.2 with ⟨h', _⟩ | ⟨g', cap', cur, h', hb, hg, hn, hm, hs, ht⟩
  · simp at h'
  · simp only [Value.slice.injEq, Option.some.injEq, Addr.mk.injEq, and_true] at h'
    obtain ⟨rfl, rfl, rfl⟩ := h'
    have hl : (xs.take k).length = k := by rw [List.length_take]; omega
    refine ⟨by simp, .inr ⟨g, cap, cur, by rw [hl], hb, hg, by omega, hm, hs, ?_⟩⟩
    rw [hl, Nat.mul_one, List.map_take, ← ht, Nat.mul_one, List.take_take, Nat.min_eq_left hk]

end Go.Proofs.Ytfnhafgjdnlhiaa

/- From a walk that returns true and writes nothing that was there to the given statement of a law: general steps, without conditions; nothing here speaks of the program. -/
namespace Go.Proofs.Ytfnhafgjdnlhiaa
open Go.ChangeShapes Go.WideShapes Go.ChangeAt Go.RowKit

section
variable {H : Type} {enc : TypeId × Value → H} {P : Program}

theorem trodAll_below (hl : laidOutB P = true) {W W' : World} (hb : Below W.heap.size W W') : ∀ (ts : List TypeId) (vs : List Value) (ds : List (DataW H)) (ps : List MemPlace),
    (∀ t ∈ ts, P.readableRec t = true ∧ t < P.types.size) → DataW.TrodAll enc P W 0 (fun _ => true) true ts vs ds ps → DataW.TrodAll enc P W' 0 (fun b => decide (b < W.heap.size)) true ts vs ds ps
  | [], vs, ds, ps, _, h => by
    obtain ⟨rfl, rfl, rfl⟩ := trodAll_nil h
    exact trodAll_mk0
  | t :: ts, vs, ds, ps, hr, h => by
    obtain ⟨v, vs', d, ds', p, q, rfl, rfl, rfl, h1, h2⟩ := trodAll_cons h
    have k := h1
    have lt : ∀ x ∈ p, x.block < W.heap.size := by obtain ⟨m, hm⟩ := k; exact DataW.trod_lt m _ _ _ hm
    have ht := hr t (by simp)
    exact trodAll_cons_mk (Below.trod hl ht.1 ht.2 h1 hb lt) (trodAll_below hl hb ts vs' ds' q (fun t' m => hr t' (by simp [m])) h2)
theorem trodAll_len {w : World} {base : Nat} {spare : Nat → Bool} {held : Bool} : ∀ (ts : List TypeId) (vs : List Value) (ds : List (DataW H)) (ps : List MemPlace), DataW.TrodAll enc P w base spare held ts vs ds ps → ds.length = ts.length
  | [], vs, ds, ps, h => by obtain ⟨rfl, rfl, rfl⟩ := trodAll_nil h; rfl
  | t :: ts, vs, ds, ps, h => by
    obtain ⟨v, vs', d, ds', p, q, rfl, rfl, rfl, _, h2⟩ := trodAll_cons h
    simp [trodAll_len ts vs' ds' q h2]
end

theorem law_lifted {C : Checked} {os : Os} {f : FuncId} {fn : Func} {s : ChangeSpec} {tb : TypeId} {H : Type} {enc : TypeId × Value → H} (own : ownKnob C.prog.godebug = none) (laid : laidOutB C.prog = true) (started : os.Started)
    (noInit : C.prog.inits.idxOf? f = none) (hfn : C.prog.funcs[f]? = some fn) (hrt : fn.resultTypes = #[tb]) (hub : C.prog.underlying tb = some .bool) (hvars : s.vars = [])
    (hread : ∀ t ∈ fn.params.toList, C.prog.readableRec t = true ∧ t < C.prog.types.size)
    (hs : ∀ ds : List (DataW H), ds.length = fn.params.toList.length → s.fn H (ds ++ []) = { results := [.lit (.bool true)], args := ds })
    (wit : ∃ (w : World) (tape : Tape) (i : Input), w.os = os ∧ (w.forCall tape i).Shaped C.prog ∧ i.vars = [] ∧ Input.okWide C.prog (w.forCall tape i) .any w.heap.size f i ∧
      s.pre6 enc C.prog fn [] false (w.forCall tape i).memory i.args ∧ ({} : Assume).holds C.prog (lone (Frame.enter C.prog f i.args .normal) [] (w.forCall tape i)))
    (walk : ∀ (W : World) (base : Nat) (args : Array Value) (ds : List (DataW H)) (p : List MemPlace), (∀ (j : Nat) t v, fn.params[j]? = some t → args[j]? = some v → Value.okWide C.prog W .any base t v) →
      DataW.TrodAll enc C.prog W 0 (fun _ => true) true fn.params.toList args.toList ds p → Calls C.prog f args W fun e W' => e = .returned (.bool true) ∧ Below W.heap.size W W') :
    ReturnsInHanded {} C os f .any (s.pre6 enc C.prog fn [] false) (s.post enc C.prog fn false true false false) := by
  refine returnsInHanded_of_change own started noInit hfn wit ?_
  intro W base args ds gs before hval hW _ _
  have hW' := hW
  obtain ⟨p, q, hA, hV, rfl, hfz, hnd⟩ := hW
  rw [hvars] at hV
  obtain ⟨rfl, rfl⟩ := trodVars_none hV
  refine (walk W base args ds p hval hA).mono fun e W' ⟨he, bel⟩ => ?_
  subst he
  have hfn' := hs ds (trodAll_len _ _ _ _ hA)
  refine ⟨_, rfl, ds, [], _, [], p, [], hW', ?_, ?_, ?_, bel.frame _, fun h => by cases h⟩
  · rw [hfn', hrt]; exact trodAll_mk1 (shut_bool hub _)
  · rw [hfn']; exact trodAll_below laid bel _ _ _ _ hread hA
  · rw [hfn', hvars]; rfl

theorem wf_i64 {n : Int} (h : (Lit.int .i64 n).wf = true) : -9223372036854775808 ≤ n ∧ n ≤ 9223372036854775807 := by
  have h1 : (-9223372036854775808 : Int) = IntKind.i64.min := by decide
  have h2 : (9223372036854775807 : Int) = IntKind.i64.max := by decide
  simp [Lit.wf] at h
  omega

/-- A slice of integers of kind k that came in. -/
theorem open_slice_ints {H : Type} {enc : TypeId × Value → H} {P : Program} {W : World} {base : Nat} {T E : TypeId} {k : IntKind} {v : Value} {d : DataW H} {p : List MemPlace} (hT : P.underlying T = some (.slice E)) (hE : P.underlying E = some (.int k)) (hc : P.cellsOf E = 1)
    (hv : Value.okWide P W .any base T v) (h : DataW.Trod enc P W 0 (fun _ => true) true T v d p) :
    ∃ a cap zs, v = .slice a zs.length cap ∧ zs.length ≤ cap ∧ zs.length ≤ maxLen ∧ (zs = [] ∨ ∃ b off, a = some ⟨b, off, none⟩ ∧ b < W.heap.size ∧ ∀ j (h : j < zs.length), W.cell? ⟨b, off + j, none⟩ = some (.int k zs[j])) ∧ ∀ z ∈ zs, (Lit.int k z).wf = true := by
  obtain ⟨a0, len0, cap0, rfl⟩ := okWide_slice hT hv
  obtain ⟨fuel, hf⟩ := h
  rcases open_ints hT hE hc hf with ⟨hcs, _⟩ | ⟨x, l, c, zs, hcs, _, hl, hm, hz, _, hcell, hwz⟩
  · simp [Value.cells] at hcs
    obtain ⟨rfl, rfl, rfl⟩ := hcs
    exact ⟨none, 0, [], rfl, by simp, by simp, .inl rfl, by simp⟩
  · simp [Value.cells] at hcs
    obtain ⟨rfl, rfl, rfl⟩ := hcs
    have hz' : zs.length = cap0 := by simpa using hz
    have hlen : (zs.take len0).length = len0 := by rw [List.length_take]; omega
    refine ⟨_, cap0, zs.take len0, by rw [hlen], by omega, by omega, ?_, fun z hzm => hwz z (List.mem_of_mem_take hzm)⟩
    by_cases h0 : len0 = 0
    · exact .inl (by rw [h0]; rfl)
    · obtain ⟨b, off, rfl, hcc⟩ := ints_at hcell (by omega)
      refine .inr ⟨b, off, rfl, ?_, fun j hj => ?_⟩
      · have := World.block_lt_of_cell? W _ (hcc 0 (by omega)); exact this
      · rw [hlen] at hj
        rw [hcc j (by omega), List.getElem_take, getD_get (by omega)]

end Go.Proofs.Ytfnhafgjdnlhiaa

/- Appending one slice to another of the call's own, in an open order too: general steps; nothing here speaks of the program. -/
namespace Go.Proofs.Ytfnhafgjdnlhiaa
open Go.RowKit

/-- An operation that is carried out: unguarded, or its guard holds. -/
theorem wpList_want {P : Program} {w : World} {ops : Array Oper} {rest : List Oper} {o : Oper} {a : Act} {Q : Exit → Act → World → Prop} (hgd : Region.wanted o (yielded ops a.tmps) = true)
    (h : ∀ K : Act → World → Prop, (∀ a w, wpList P ops Q rest a w → K a w) → o.wp P a w K Q) : wpList P ops Q (o :: rest) a w :=
  wpList_step fun K hK => by rw [if_pos hgd]; exact h K hK

/-- 'append(s, t...)' onto a slice of the call's own, t in memory: what it comes to. -/
theorem run_app {P : Program} {T E : TypeId} (hT : IntT P T E) (ty : TypeId) {w : World} {B : Nat} {v : Value} {xs zs : List Int} (ad : Addr) (n c : Nat) (hn : n = zs.length) (hown : Own E w B v xs) (hz : ∀ j (h : j < zs.length), w.cell? (ad.add j) = some (.int .i64 zs[j]))
    (hlen : xs.length + zs.length ≤ 1099511627776) (hB : B ≤ w.heap.size) :
    ∃ v' w', (Builtin.append_ #[T, T] ty #[v, .slice (some ad) n c]).run P w = .ok v' w' ∧ Own E w' B v' (xs ++ zs) ∧ w.grownBy w' v.ownBlock := by
  subst hn
  obtain ⟨i, hi, hzz, hsz, hby⟩ := info_parts hT.info
  obtain ⟨v', w', hr, h1, h2, _⟩ := run_append_own (P := P) w B T ty E i (.int .i64 0) 1 8 hT.sl hi hzz hsz hby rfl (by decide) v xs.length _ hown ad zs.length c (zs.map (Value.int .i64)) (by simp) (by
    intro j u hu
    by_cases hj : j < zs.length
    · simp [hj] at hu; subst hu; exact hz j hj
    · simp [hj] at hu) (by intro u hu; simp at hu; obtain ⟨_, _, rfl⟩ := hu; rfl) (by unfold maxLen; omega) (by omega) hB
  refine ⟨v', w', hr, ?_, h2⟩
  unfold Own; simpa using h1
/-- .. at the list of a region's operations. -/
theorem wpList_app {P : Program} {T E : TypeId} (hT : IntT P T E) {w : World} {ops : Array Oper} {rest : List Oper} {o : Oper} {a : Act} {Q : Exit → Act → World → Prop} (hgd : Region.wanted o (yielded ops a.tmps) = true) (s x : Operand)
    (ho : o.op = .call { callee := .builtin .append, args := #[s, x], argTypes := #[T, T] }) (B : Nat) (v : Value) (xs zs : List Int) (ad : Addr) (n c : Nat) (hn : n = zs.length) (hs : a.eval s = v) (hown : Own E w B v xs)
    (hx : a.eval x = .slice (some ad) n c) (hz : ∀ j (h : j < zs.length), w.cell? (ad.add j) = some (.int .i64 zs[j]))
    (hlen : xs.length + zs.length ≤ 1099511627776) (hB : B ≤ w.heap.size)
    (h : ∀ v' w', Own E w' B v' (xs ++ zs) → w.grownBy w' v.ownBlock → wpList P ops Q rest (a.put o.dst v') w') : wpList P ops Q (o :: rest) a w := by
  refine wpList_want hgd fun K hK => ?_
  obtain ⟨v', w', hr, h1, h2⟩ := run_app hT o.type ad n c hn hown hz hlen hB
  unfold Oper.wp execOp
  simp only [ho, resolve, invoke, builtin, Sem.run_bind, Sem.run_pure, Result.andThen_ok, List.map_toArray, List.map_cons, List.map_nil, hs, hx, hr]
  exact hK _ _ (h v' w' h1 h2)
/-- .. as one step of a region that draws its order. -/
theorem step_app {P : Program} {T E : TypeId} (hT : IntT P T E) {w : World} {ops : Array Oper} {o : Oper} {a : Act} {K : Act → World → Prop} {Q : Exit → Act → World → Prop} {F : Prop} (hgd : Region.wanted o (yielded ops a.tmps) = true) (s x : Operand)
    (ho : o.op = .call { callee := .builtin .append, args := #[s, x], argTypes := #[T, T] }) (B : Nat) (v : Value) (xs zs : List Int) (ad : Addr) (n c : Nat) (hn : n = zs.length) (hs : a.eval s = v) (hown : Own E w B v xs)
    (hx : a.eval x = .slice (some ad) n c) (hz : ∀ j (h : j < zs.length), w.cell? (ad.add j) = some (.int .i64 zs[j]))
    (hlen : xs.length + zs.length ≤ 1099511627776) (hB : B ≤ w.heap.size)
    (h : ∀ v' w', Own E w' B v' (xs ++ zs) → w.grownBy w' v.ownBlock → K (a.put o.dst v') w') : if Region.wanted o (yielded ops a.tmps) = true then Oper.wp P o a w K Q else F := by
  rw [if_pos hgd]
  obtain ⟨v', w', hr, h1, h2⟩ := run_app hT o.type ad n c hn hown hz hlen hB
  unfold Oper.wp execOp
  simp only [ho, resolve, invoke, builtin, Sem.run_bind, Sem.run_pure, Result.andThen_ok, List.map_toArray, List.map_cons, List.map_nil, hs, hx, hr]
  exact h v' w' h1 h2

theorem cells_one' (w : World) (E : TypeId) (z : Int) : ∀ j (h : j < [z].length), (w.alloc (.cells #[.int .i64 z] E)).drew.cell? ((⟨w.heap.size, 0, none⟩ : Addr).add j) = some (.int .i64 [z][j]) := by
  intro j hj
  have : j = 0 := by simpa using hj
  subst this
  rw [addr_add]
  exact (World.cell?_alloc_at _ _ _ _ rfl).trans rfl

theorem below_app {w w' : World} {B : Nat} {o : Obj} {row : Option Nat} (h : (w.alloc o).drew.grownBy w' row) (hB : B ≤ w.heap.size) (hr : ∀ g, row = some g → B ≤ g) : Below B w w' :=
  ((((Below.refl B w).alloc hB o).drew).grown h (Nat.le_trans hB (by simp)) hr)

/-- The length in a slot. -/
def lenOf : Value → Nat | .slice _ n _ => n | _ => 0

/-- 'append(s, z)', and where the new slice lies. -/
theorem wpList_push_at {P : Program} {T E : TypeId} (hT : IntT P T E) {w : World} {ops : Array Oper} {rest : List Oper} {o : Oper} {a : Act} {Q : Exit → Act → World → Prop} (hgd : Region.wanted o (yielded ops a.tmps) = true) (s x : Operand)
    (ho : o.op = .call { callee := .builtin .append, args := #[s, x], argTypes := #[T, T] }) (B : Nat) (v : Value) (xs : List Int) (z : Int) (hs : a.eval s = v) (hown : Own E w B v xs)
    (hlen : xs.length ≤ 1099511627776) (hx : a.eval x = .slice (some ⟨w.heap.size, 0, none⟩) 1 1) (hB : B ≤ w.heap.size)
    (h : ∀ v' w', Own E w' B v' (xs ++ [z]) → w.grownBy w' v.ownBlock → (v'.ownBlock = v.ownBlock ∨ ∃ g, v'.ownBlock = some g ∧ w.heap.size ≤ g) → wpList P ops Q rest (a.put o.dst v') w') : wpList P ops Q (o :: rest) a (w.alloc (.cells #[.int .i64 z] E)) := by
  refine wpList_want hgd fun K hK => ?_
  obtain ⟨i, hi, hz, hsz, hby⟩ := info_parts hT.info
  obtain ⟨v', w', hr, h1, h2, _, h4⟩ := run_append_own_at (P := P) (w.alloc (.cells #[.int .i64 z] E)) B T o.type E i (.int .i64 0) 1 8 hT.sl hi hz hsz hby rfl (by decide) v xs.length _ (World.ownsRow.alloc hown _) ⟨w.heap.size, 0, none⟩ 1 1 [.int .i64 z] rfl (cells_one _ _ _) (by intro u hu; simp at hu; subst hu; rfl) (by unfold maxLen; omega) (by omega) (by simp; omega)
  unfold Oper.wp execOp
  simp only [ho, resolve, invoke, builtin, Sem.run_bind, Sem.run_pure, Result.andThen_ok, List.map_toArray, List.map_cons, List.map_nil, hs, hx, hr]
  refine hK _ _ (h v' w' ?_ (grownBy_trans (World.grownBy_alloc _ _ _) h2) ?_)
  · unfold Own; simpa using h1
  · rcases h4 with h4 | h4
    · exact .inl h4
    · exact .inr ⟨_, h4, by simp⟩
theorem IntsAt.grown {w w' : World} {a : Option Addr} {xs : List Int} {row : Option Nat} (h : IntsAt w a xs) (hg : w.grownBy w' row) (hne : ∀ b, a = some b → row ≠ some b.block) : IntsAt w' a xs := by
  rcases h with rfl | ⟨b, off, rfl, hlt, hc⟩
  · exact .inl rfl
  · exact .inr ⟨b, off, rfl, Nat.lt_of_lt_of_le hlt hg.size, fun j hj => hg.cell (hc j hj) (fun e => hne _ rfl e.symm)⟩
theorem IntsAt.block {w : World} {a : Option Addr} {xs : List Int} (h : IntsAt w a xs) (hx : 0 < xs.length) : ∃ b, a = some b ∧ b.block < w.heap.size := by
  obtain ⟨b, off, rfl, hlt, _⟩ := h.cell hx
  exact ⟨_, rfl, hlt⟩
/-- The block of an owned slice, as its address says it. -/
theorem ownBlock_slice {a : Option Addr} {n c : Nat} : ∀ b, a = some b → (Value.slice a n c).ownBlock = some b.block := by rintro b rfl; rfl

/-- s[1:], the address as the walk writes it. -/
theorem IntsAt.tail {w : World} {b off c : Nat} {q : Int} {r : List Int} (h : ∀ j (h : j < (q :: r).length), w.cell? ⟨b, off + j, none⟩ = some (.int .i64 (q :: r)[j])) (hb : b < w.heap.size) (hc : r.length + 1 ≤ c) :
    ∃ o2, (if c = 1 then some (⟨b, off, none⟩ : Addr) else some ⟨b, off + 1, none⟩) = some ⟨b, o2, none⟩ ∧ IntsAt w (some ⟨b, o2, none⟩) r := by
  by_cases h1 : c = 1
  · refine ⟨off, by rw [if_pos h1], .inl (List.eq_nil_of_length_eq_zero (by omega))⟩
  · refine ⟨off + 1, by rw [if_neg h1], .inr ⟨b, off + 1, rfl, hb, fun j hj => ?_⟩⟩
    have := h (j + 1) (by simp; omega)
    rw [show off + 1 + j = off + (j + 1) by omega, this]
    simp

/-- A source of an append: nil, or cells in memory that read as zs. -/
def SrcAt (w : World) (a : Option Addr) (c : Nat) (zs : List Int) : Prop :=
  (a = none ∧ zs = [] ∧ c = 0) ∨ ∃ ad, a = some ad ∧ ∀ j (h : j < zs.length), w.cell? (ad.add j) = some (.int .i64 zs[j])
theorem Own.src {E : TypeId} {w : World} {B : Nat} {v : Value} {xs : List Int} (h : Own E w B v xs) : ∃ a cap, v = .slice a xs.length cap ∧ IntsAt w a xs ∧ SrcAt w a cap xs ∧ xs.length ≤ cap := by
  rcases Nat.eq_zero_or_pos xs.length with h0 | h0
  · have hx : xs = [] := List.eq_nil_of_length_eq_zero h0
    subst hx
    rcases h.2 with ⟨rfl, _⟩ | ⟨g, cap, cur, rfl, _, _, _, _⟩
    · exact ⟨none, 0, rfl, .inl rfl, .inl ⟨rfl, rfl, rfl⟩, by simp⟩
    · exact ⟨_, cap, rfl, .inl rfl, .inr ⟨_, rfl, fun j hj => by simp at hj⟩, by simp⟩
  · obtain ⟨g, cap, rfl, hB, hlt, hc, hcells, _⟩ := h.row h0
    exact ⟨_, cap, rfl, .inr ⟨g, 0, rfl, hlt, fun j hj => by rw [Nat.zero_add]; exact hcells j hj⟩, .inr ⟨_, rfl, fun j hj => by rw [addr_add]; exact hcells j hj⟩, hc⟩
theorem SrcAt.grown {w w' : World} {a : Option Addr} {c : Nat} {xs : List Int} {row : Option Nat} (h : SrcAt w a c xs) (hi : IntsAt w a xs) (hg : w.grownBy w' row) (hne : ∀ b, a = some b → row ≠ some b.block) : SrcAt w' a c xs := by
  rcases h with h | ⟨ad, rfl, hc⟩
  · exact .inl h
  · refine .inr ⟨ad, rfl, fun j hj => ?_⟩
    obtain ⟨b, off, e, _, _⟩ := hi.cell (by omega)
    cases e
    have := hc j hj
    rw [addr_add'] at this ⊢
    exact hg.cell this (fun e => hne _ rfl e.symm)
theorem run_appI {P : Program} {T E : TypeId} (hT : IntT P T E) (ty : TypeId) {w : World} {B : Nat} {v : Value} {xs zs : List Int} {a : Option Addr} {c : Nat} (hown : Own E w B v xs) (hz : SrcAt w a c zs)
    (hlen : xs.length + zs.length ≤ 1099511627776) (hB : B ≤ w.heap.size) :
    ∃ v' w', (Builtin.append_ #[T, T] ty #[v, .slice a zs.length c]).run P w = .ok v' w' ∧ Own E w' B v' (xs ++ zs) ∧ w.grownBy w' v.ownBlock := by
  rcases hz with ⟨rfl, rfl, rfl⟩ | ⟨ad, rfl, hc⟩
  · obtain ⟨i, hi, _⟩ := info_parts hT.info
    have := run_append_owned_none (P := P) (w := w) B T ty E i 1 hT.sl hi v xs.length _ hown
    exact ⟨v, w, this, by rw [List.append_nil]; exact hown, ⟨rfl, rfl, rfl, Nat.le_refl _, fun _ _ _ => rfl⟩⟩
  · exact run_app hT ty ad _ c rfl hown hc hlen hB
/-- 'append(s, t...)' at the list of a region's operations, t nil or not. -/
theorem wpList_appI {P : Program} {T E : TypeId} (hT : IntT P T E) {w : World} {ops : Array Oper} {rest : List Oper} {o : Oper} {a : Act} {Q : Exit → Act → World → Prop} (hgd : Region.wanted o (yielded ops a.tmps) = true) (s x : Operand)
    (ho : o.op = .call { callee := .builtin .append, args := #[s, x], argTypes := #[T, T] }) (B : Nat) (v : Value) (xs zs : List Int) (ax : Option Addr) (c : Nat) (hs : a.eval s = v) (hown : Own E w B v xs)
    (hx : a.eval x = .slice ax zs.length c) (hz : SrcAt w ax c zs)
    (hlen : xs.length + zs.length ≤ 1099511627776) (hB : B ≤ w.heap.size)
    (h : ∀ v' w', Own E w' B v' (xs ++ zs) → w.grownBy w' v.ownBlock → wpList P ops Q rest (a.put o.dst v') w') : wpList P ops Q (o :: rest) a w := by
  refine wpList_want hgd fun K hK => ?_
  obtain ⟨v', w', hr, h1, h2⟩ := run_appI hT o.type hown hz hlen hB
  unfold Oper.wp execOp
  simp only [ho, resolve, invoke, builtin, Sem.run_bind, Sem.run_pure, Result.andThen_ok, List.map_toArray, List.map_cons, List.map_nil, hs, hx, hr]
  exact hK _ _ (h v' w' h1 h2)
theorem results_tmp3 {fn : Func} {t u v : Tmp} (h : fn.results = #[.tmp t, .tmp u, .tmp v]) (tmps : Array Value) (P : Program) (w : World) :
    (results fn tmps).run P w = .ok (.tuple #[tmps.getD t undef, tmps.getD u undef, tmps.getD v undef]) w := by simp [results, h]
theorem results_tmp4 {fn : Func} {t u v x : Tmp} (h : fn.results = #[.tmp t, .tmp u, .tmp v, .tmp x]) (tmps : Array Value) (P : Program) (w : World) :
    (results fn tmps).run P w = .ok (.tuple #[tmps.getD t undef, tmps.getD u undef, tmps.getD v undef, tmps.getD x undef]) w := by simp [results, h]
theorem results_tmp5 {fn : Func} {t u v x y : Tmp} (h : fn.results = #[.tmp t, .tmp u, .tmp v, .tmp x, .tmp y]) (tmps : Array Value) (P : Program) (w : World) :
    (results fn tmps).run P w = .ok (.tuple #[tmps.getD t undef, tmps.getD u undef, tmps.getD v undef, tmps.getD x undef, tmps.getD y undef]) w := by simp [results, h]

/-- 'append(s, z)' where the operation may be guarded. -/
theorem wpList_pushG {P : Program} {T E : TypeId} (hT : IntT P T E) {w : World} {ops : Array Oper} {rest : List Oper} {o : Oper} {a : Act} {Q : Exit → Act → World → Prop} (hgd : Region.wanted o (yielded ops a.tmps) = true) (s x : Operand)
    (ho : o.op = .call { callee := .builtin .append, args := #[s, x], argTypes := #[T, T] }) (B : Nat) (v : Value) (xs : List Int) (z : Int) (hs : a.eval s = v) (hown : Own E w B v xs)
    (hlen : xs.length ≤ 1099511627776) (hx : a.eval x = .slice (some ⟨w.heap.size, 0, none⟩) 1 1) (hB : B ≤ w.heap.size)
    (h : ∀ v' w', Own E w' B v' (xs ++ [z]) → w.grownBy w' v.ownBlock → wpList P ops Q rest (a.put o.dst v') w') : wpList P ops Q (o :: rest) a (w.alloc (.cells #[.int .i64 z] E)) :=
  wpList_push_at hT hgd s x ho B v xs z hs hown hlen hx hB (fun v' w' h1 h2 _ => h v' w' h1 h2)

theorem own_succ {E : TypeId} {W : World} {B : Nat} {v : Value} {xs : List Int} {z : Int} (h : Own E W B v (xs ++ [z])) : ∃ g c, v = .slice (some ⟨g, 0, none⟩) (xs.length + 1) c := by
  obtain ⟨g, c, e, _⟩ := h.row (by simp)
  exact ⟨g, c, by rw [e]; simp⟩

end Go.Proofs.Ytfnhafgjdnlhiaa

/- Data in memory: what a value reads as (numbers, truth values, texts, lists of rows of these), with the blocks that the reading passes through; general steps, nothing here speaks of the program. -/
namespace Go.Proofs.Ytfnhafgjdnlhiaa
open Go.RowKit

/-- A number, a truth value, a text, a list whose elements are rows of one-cell data. -/
inductive Dt where
  | i (n : Int)
  | b (x : Bool)
  | s (t : ByteArray)
  | l (es : List (List Dt))

/-- The value reads as the datum; the reading passes through these blocks. -/
inductive Rd (w : World) : Dt → Value → List Nat → Prop
  | i (n : Int) : Rd w (.i n) (.int .i64 n) []
  | b (x : Bool) : Rd w (.b x) (.bool x) []
  | s (t : ByteArray) : Rd w (.s t) (.string t) []
  | nil (a : Option Addr) (cap : Nat) (hn : a = none → cap = 0) : Rd w (.l []) (.slice a 0 cap) []
  | l (sz : Nat) (es : List (List Dt)) (g off cap : Nat) (V : Nat → Nat → Value) (F : Nat → Nat → List Nat) (hne : 0 < es.length) (hsz : ∀ e ∈ es, e.length = sz) (hcap : es.length ≤ cap) (hg : g < w.heap.size)
      (hc : ∀ k j, k < es.length → j < sz → w.cell? ⟨g, off + (k * sz + j), none⟩ = some (V k j))
      (hr : ∀ k j (hk : k < es.length) (hj : j < (es[k]).length), Rd w ((es[k])[j]) (V k j) (F k j)) :
      Rd w (.l es) (.slice (some ⟨g, off, none⟩) es.length cap) (g :: (List.range es.length).flatMap fun k => (List.range sz).flatMap (F k))

theorem Rd.grown {w w' : World} {row : Option Nat} (hg : w.grownBy w' row) {d : Dt} {v : Value} {fp : List Nat} (h : Rd w d v fp) (hr : ∀ r, row = some r → r ∉ fp) : Rd w' d v fp := by
  induction h with
  | i n => exact .i n
  | b x => exact .b x
  | s t => exact .s t
  | nil a cap hn => exact .nil a cap hn
  | l sz es g off cap V F hne hsz hcap hgl hc hrd ih =>
    refine .l sz es g off cap V F hne hsz hcap (Nat.lt_of_lt_of_le hgl hg.size) (fun k j hk hj => hg.cell (hc k j hk hj) fun e => ?_) (fun k j hk hj => ih k j hk hj fun r e hm => ?_)
    · exact hr g e.symm (by simp)
    · refine hr r e (List.mem_cons_of_mem _ (List.mem_flatMap.2 ⟨k, List.mem_range.2 hk, List.mem_flatMap.2 ⟨j, List.mem_range.2 ?_, hm⟩⟩))
      rw [← hsz _ (List.getElem_mem hk)]; exact hj
theorem Rd.lt {w : World} {d : Dt} {v : Value} {fp : List Nat} (h : Rd w d v fp) : ∀ g ∈ fp, g < w.heap.size := by
  induction h with
  | i n => intro g hg; cases hg
  | b x => intro g hg; cases hg
  | s t => intro g hg; cases hg
  | nil a cap hn => intro g hg; cases hg
  | l sz es g off cap V F hne hsz hcap hgl hc hrd ih =>
    intro r hr
    rcases List.mem_cons.1 hr with rfl | hr
    · exact hgl
    · obtain ⟨k, hk, hr⟩ := List.mem_flatMap.1 hr
      obtain ⟨j, hj, hr⟩ := List.mem_flatMap.1 hr
      rw [List.mem_range] at hk hj
      exact ih k j hk (by rw [hsz _ (List.getElem_mem hk)]; exact hj) r hr
theorem Rd.under {w w' : World} {d : Dt} {v : Value} {fp : List Nat} (h : Rd w d v fp) (hb : Below w.heap.size w w') : Rd w' d v fp := h.grown (below_grown hb) fun _ e => by cases e
theorem Rd.underB {B : Nat} {w w' : World} {d : Dt} {v : Value} {fp : List Nat} (hb : Below B w w') (h : Rd w d v fp) (hf : ∀ g ∈ fp, g < B) : Rd w' d v fp := by
  induction h with
  | i n => exact .i n
  | b x => exact .b x
  | s t => exact .s t
  | nil a cap hn => exact .nil a cap hn
  | l sz es g off cap V F hne hsz hcap hgl hc hrd ih =>
    refine .l sz es g off cap V F hne hsz hcap (Nat.lt_of_lt_of_le hgl hb.size) (fun k j hk hj => (hb.cell (p := ⟨g, off + (k * sz + j), none⟩) (hf g (by simp))).trans (hc k j hk hj)) (fun k j hk hj => ih k j hk hj fun r hm => ?_)
    refine hf r (List.mem_cons_of_mem _ (List.mem_flatMap.2 ⟨k, List.mem_range.2 hk, List.mem_flatMap.2 ⟨j, List.mem_range.2 ?_, hm⟩⟩))
    rw [← hsz _ (List.getElem_mem hk)]; exact hj

/-- A list in memory: its slice, and each element's row. -/
theorem Rd.list {w : World} {es : List (List Dt)} {v : Value} {fp : List Nat} (h : Rd w (.l es) v fp) : ∃ a cap, v = .slice a es.length cap ∧ es.length ≤ cap ∨ es = [] ∧ ∃ a cap, v = .slice a 0 cap := by
  generalize hd : Dt.l es = d at h
  cases h with
  | i n => cases hd
  | b x => cases hd
  | s t => cases hd
  | nil a cap hn => cases hd; exact ⟨a, cap, .inr ⟨rfl, a, cap, rfl⟩⟩
  | l sz es' g off cap V F hne hsz hcap hgl hc hrd => cases hd; exact ⟨_, cap, .inl ⟨rfl, hcap⟩⟩
theorem Rd.slice {w : World} {es : List (List Dt)} {v : Value} {fp : List Nat} (h : Rd w (.l es) v fp) : ∃ a cap, v = .slice a es.length cap := by
  obtain ⟨a, cap, ⟨rfl, _⟩ | ⟨rfl, a, cap, rfl⟩⟩ := h.list
  · exact ⟨a, cap, rfl⟩
  · exact ⟨a, cap, rfl⟩
theorem Rd.at {w : World} {es : List (List Dt)} {a : Option Addr} {n cap : Nat} {fp : List Nat} (h : Rd w (.l es) (.slice a n cap) fp) (hne : 0 < es.length) {sz : Nat} (hsz : ∀ e ∈ es, e.length = sz) :
    ∃ g off, a = some ⟨g, off, none⟩ ∧ g < w.heap.size ∧ g ∈ fp ∧ n = es.length ∧ n ≤ cap ∧ ∀ k j (hk : k < es.length) (hj : j < (es[k]).length), ∃ v fp', w.cell? ⟨g, off + (k * sz + j), none⟩ = some v ∧ Rd w ((es[k])[j]) v fp' ∧ ∀ r ∈ fp', r ∈ fp := by
  generalize hd : Dt.l es = d at h
  generalize hv : Value.slice a n cap = v at h
  cases h with
  | i n => cases hd
  | b x => cases hd
  | s t => cases hd
  | nil a cap hn => cases hd; simp at hne
  | l sz' es' g off cap' V F hne' hsz' hcap hgl hc hrd =>
    cases hd
    cases hv
    have hss : sz' = sz := by
      have h0 := List.getElem_mem hne
      rw [← hsz' _ h0, hsz _ h0]
    subst hss
    refine ⟨g, off, rfl, hgl, by simp, rfl, hcap, fun k j hk hj => ⟨V k j, F k j, hc k j hk (by rw [← hsz _ (List.getElem_mem hk)]; exact hj), hrd k j hk hj, fun r hr => ?_⟩⟩
    refine List.mem_cons_of_mem _ (List.mem_flatMap.2 ⟨k, List.mem_range.2 hk, List.mem_flatMap.2 ⟨j, List.mem_range.2 ?_, hr⟩⟩)
    rw [← hsz _ (List.getElem_mem hk)]; exact hj

theorem Rd.nilcap {w : World} {es : List (List Dt)} {n cap : Nat} {fp : List Nat} (h : Rd w (.l es) (.slice none n cap) fp) : cap = 0 := by
  generalize hd : Dt.l es = d at h
  generalize hv : Value.slice none n cap = v at h
  cases h with
  | i n => cases hd
  | b x => cases hd
  | s t => cases hd
  | nil a cap hn => cases hv; exact hn rfl
  | l sz' es' g off cap' V F hne' hsz' hcap hgl hc hrd => cases hv

/-! lists of numbers -/
def intsD (xs : List Int) : Dt := .l (xs.map fun x => [.i x])
theorem Rd.int {w : World} {n : Int} {v : Value} {fp : List Nat} (h : Rd w (.i n) v fp) : v = .int .i64 n ∧ fp = [] := by cases h; exact ⟨rfl, rfl⟩
theorem Rd.bool {w : World} {x : Bool} {v : Value} {fp : List Nat} (h : Rd w (.b x) v fp) : v = .bool x ∧ fp = [] := by cases h; exact ⟨rfl, rfl⟩
theorem Rd.ints {w : World} {xs : List Int} {v : Value} {fp : List Nat} (h : Rd w (intsD xs) v fp) : ∃ a cap, v = .slice a xs.length cap ∧ (xs.length ≤ cap ∨ xs = []) ∧ IntsAt w a xs := by
  obtain ⟨a, cap, rfl⟩ := Rd.slice h
  rw [List.length_map] at h ⊢
  rcases Nat.eq_zero_or_pos xs.length with h0 | h0
  · have : xs = [] := List.eq_nil_of_length_eq_zero h0
    subst this
    exact ⟨a, cap, rfl, .inr rfl, .inl rfl⟩
  · obtain ⟨g, off, rfl, hg, _, hn, hcap, hc⟩ := Rd.at h (by simpa using h0) (sz := 1) (by intro e he; simp at he; obtain ⟨x, _, rfl⟩ := he; rfl)
    refine ⟨_, cap, rfl, .inl hcap, .inr ⟨g, off, rfl, hg, fun j hj => ?_⟩⟩
    obtain ⟨v, fp', hcell, hr, _⟩ := hc j 0 (by simpa using hj) (by simp)
    have hr' : Rd w (.i xs[j]) v fp' := by simpa using hr
    obtain ⟨rfl, _⟩ := hr'.int
    simpa using hcell
theorem Rd.of_ints {w : World} {xs : List Int} {g off cap : Nat} (hne : 0 < xs.length) (hcap : xs.length ≤ cap) (hg : g < w.heap.size) (hc : ∀ j (h : j < xs.length), w.cell? ⟨g, off + j, none⟩ = some (.int .i64 xs[j])) :
    Rd w (intsD xs) (.slice (some ⟨g, off, none⟩) xs.length cap) [g] := by
  have := Rd.l (w := w) 1 (xs.map fun x => [Dt.i x]) g off cap (fun k _ => .int .i64 (xs.getD k 0)) (fun _ _ => []) (by simpa using hne) (by intro e he; simp at he; obtain ⟨x, _, rfl⟩ := he; rfl) (by simpa using hcap) hg
    (fun k j hk hj => by
      have hk' : k < xs.length := by simpa using hk
      have : j = 0 := by omega
      subst this
      rw [getD_get hk']
      simpa using hc k hk')
    (fun k j hk hj => by
      have hk' : k < xs.length := by simpa using hk
      have hj0 : j = 0 := by simp at hj; exact hj
      subst hj0
      rw [getD_get hk']
      simpa using Rd.i (w := w) xs[k])
  have e : (List.range (xs.map fun x => [Dt.i x]).length).flatMap (fun k => (List.range 1).flatMap ((fun _ _ => ([] : List Nat)) k)) = [] := by simp
  rw [e, List.length_map] at this
  exact this
theorem Rd.of_own {E : TypeId} {w : World} {B : Nat} {v : Value} {xs : List Int} (h : Own E w B v xs) : ∃ fp, Rd w (intsD xs) v fp ∧ ∀ g ∈ fp, B ≤ g ∧ v.ownBlock = some g := by
  rcases Nat.eq_zero_or_pos xs.length with h0 | h0
  · have : xs = [] := List.eq_nil_of_length_eq_zero h0
    subst this
    rcases h.2 with ⟨rfl, _⟩ | ⟨g, cap, cur, rfl, _, _, _, _⟩
    · exact ⟨[], .nil _ _ (fun _ => rfl), fun g hg => by cases hg⟩
    · exact ⟨[], .nil _ _ (fun e => by cases e), fun g hg => by cases hg⟩
  · obtain ⟨g, cap, rfl, hB, hg, hcap, hc, _⟩ := h.row h0
    exact ⟨[g], Rd.of_ints h0 hcap hg (fun j hj => by rw [Nat.zero_add]; exact hc j hj), fun r hr => by simp at hr; subst hr; exact ⟨hB, rfl⟩⟩

/-! a variable of a struct type, or of one cell -/
/-- Block B is a variable of type t that holds these cells. -/
def Str (W : World) (B : Nat) (t : TypeId) (vs : Array Value) : Prop := W.heap[B]? = some (.cells vs t (0, 0))
theorem Str.lt {W : World} {B : Nat} {t : TypeId} {vs : Array Value} (h : Str W B t vs) : B < W.heap.size := (Array.getElem?_eq_some_iff.1 h).1
theorem Str.new (W : World) (t : TypeId) (vs : Array Value) : Str (W.alloc (.cells vs t)) W.heap.size t vs := by
  show (W.heap.push _)[W.heap.size]? = _
  simp
theorem Str.cell {W : World} {B : Nat} {t : TypeId} {vs : Array Value} (h : Str W B t vs) (j : Nat) {v : Value} (hv : vs[j]? = some v) : W.cell? ⟨B, j, none⟩ = some v := by
  simp [World.cell?, show W.heap[B]? = _ from h, hv]
theorem Str.frozen {W : World} {B : Nat} {t : TypeId} {vs : Array Value} (h : Str W B t vs) (j : Nat) : W.frozen? ⟨B, j, none⟩ = false := by simp [World.frozen?, show W.heap[B]? = _ from h]
theorem Str.kept {W W' : World} {row : Option Nat} {B : Nat} {t : TypeId} {vs : Array Value} (h : Str W B t vs) (hg : W.grownBy W' row) (hne : some B ≠ row) : Str W' B t vs := (hg.block B h.lt hne).trans h
theorem Str.alloc {W : World} {B : Nat} {t : TypeId} {vs : Array Value} (h : Str W B t vs) (o : Obj) : Str (W.alloc o) B t vs := h.kept (World.grownBy_alloc W o none) (by simp)
theorem Str.set {W : World} {B : Nat} {t : TypeId} {vs : Array Value} (h : Str W B t vs) (j : Nat) (v : Value) : Str (W.setCell ⟨B, j, none⟩ v) B t (vs.setIfInBounds j v) := by
  obtain ⟨hlt, hk⟩ := Array.getElem?_eq_some_iff.1 h
  show (W.heap.modify B _)[B]? = _
  rw [Array.getElem?_eq_getElem (by rw [Array.size_modify]; exact hlt), Array.getElem_modify_self, hk]
  rfl
theorem grownBy_set (W : World) (b j : Nat) (v : Value) : W.grownBy (W.setCell ⟨b, j, none⟩ v) (some b) :=
  ⟨rfl, rfl, rfl, by simp [World.setCell], fun k _ hk => Below.heap_setCell _ _ _ k (fun e => hk (by rw [e]))⟩
theorem Str.other {W : World} {B : Nat} {t : TypeId} {vs : Array Value} (h : Str W B t vs) {B' : Nat} (hne : B ≠ B') (j : Nat) (v : Value) : Str (W.setCell ⟨B', j, none⟩ v) B t vs := h.kept (grownBy_set W B' j v) (by simpa using hne)
theorem Own.set_other {E : TypeId} {W : World} {B : Nat} {v : Value} {xs : List Int} (h : Own E W B v xs) {B' : Nat} (hne : v.ownBlock ≠ some B') (j : Nat) (u : Value) : Own E (W.setCell ⟨B', j, none⟩ u) B v xs := h.kept (grownBy_set W B' j u) (.inr hne)

theorem IntsAt_own {E : TypeId} {w : World} {B n c : Nat} {a : Option Addr} {xs : List Int} (h : Own E w B (.slice a n c) xs) : IntsAt w a xs := by
  obtain ⟨a', c', e, hi, _⟩ := h.ints
  simp only [Value.slice.injEq] at e
  obtain ⟨rfl, _, _⟩ := e
  exact hi

end Go.Proofs.Ytfnhafgjdnlhiaa

/- A list of rows that the call builds by append: its own outer row, and elements that read as data in memory of the call's own; general steps, nothing here speaks of the program. -/
namespace Go.Proofs.Ytfnhafgjdnlhiaa
open Go.RowKit

/-- Each cell of an element reads as its datum, in memory from B on that is not the outer row's. -/
def CellsRd (w : World) (B : Nat) (blk : Option Nat) (cs : List Value) (e : List Dt) : Prop :=
  ∀ j (hj : j < e.length), ∃ c fp, cs[j]? = some c ∧ Rd w e[j] c fp ∧ ∀ r ∈ fp, B ≤ r ∧ blk ≠ some r
theorem CellsRd.step {w w' : World} {B : Nat} {blk blk' row : Option Nat} {cs : List Value} {e : List Dt} (h : CellsRd w B blk cs e) (hg : w.grownBy w' row) (hrow : ∀ r, row = some r → r < B ∨ blk = some r) (hb : ∀ g, blk' = some g → blk = some g ∨ w.heap.size ≤ g) :
    CellsRd w' B blk' cs e := by
  intro j hj
  obtain ⟨c, fp, hc, hr, hf⟩ := h j hj
  refine ⟨c, fp, hc, hr.grown hg fun r e hm => ?_, fun r hm => ⟨(hf r hm).1, fun e => ?_⟩⟩
  · rcases hrow r e with h | h
    · have := (hf r hm).1; omega
    · exact (hf r hm).2 h
  · rcases hb r e with h | h
    · exact (hf r hm).2 h
    · have := hr.lt r hm; omega
structure Bld (E : TypeId) (sz : Nat) (w : World) (B : Nat) (v : Value) (es : List (List Dt)) : Prop where
  szs : ∀ e ∈ es, e.length = sz
  row : ∃ cs : List Value, w.ownsRow B E sz v es.length cs ∧ ∀ k (hk : k < es.length), CellsRd w B v.ownBlock (cs.drop (k * sz)) es[k]
theorem Bld.nil {E : TypeId} {sz : Nat} {w : World} {B : Nat} {v : Value} (h : w.ownsRow B E sz v 0 []) : Bld E sz w B v [] := ⟨by simp, [], h, fun k hk => by simp at hk⟩
theorem Bld.step {E : TypeId} {sz : Nat} {w w' : World} {B : Nat} {v : Value} {es : List (List Dt)} {row : Option Nat} (h : Bld E sz w B v es) (hg : w.grownBy w' row) (hrow : ∀ r, row = some r → r < B) : Bld E sz w' B v es := by
  obtain ⟨cs, ho, hc⟩ := h.row
  refine ⟨h.szs, cs, ho.kept hg ?_, fun k hk => (hc k hk).step hg (fun r e => .inl (hrow r e)) (fun g e => .inl e)⟩
  cases hv : v.ownBlock with
  | none => exact .inl rfl
  | some g => exact .inr fun e => by have := hrow g e.symm; have := (ho.lt g hv).1; omega
theorem Bld.under {E : TypeId} {sz : Nat} {w w' : World} {B : Nat} {v : Value} {es : List (List Dt)} (h : Bld E sz w B v es) (hb : Below w.heap.size w w') : Bld E sz w' B v es := h.step (below_grown hb) fun _ e => by cases e
theorem Bld.lt {E : TypeId} {sz : Nat} {w : World} {B : Nat} {v : Value} {es : List (List Dt)} (h : Bld E sz w B v es) : ∀ g, v.ownBlock = some g → B ≤ g ∧ g < w.heap.size := by
  obtain ⟨cs, ho, _⟩ := h.row; exact ho.lt
theorem Bld.slice {E : TypeId} {sz : Nat} {w : World} {B : Nat} {v : Value} {es : List (List Dt)} (h : Bld E sz w B v es) : ∃ a cap, v = .slice a es.length cap ∧ es.length ≤ maxLen := by
  obtain ⟨cs, ho, _⟩ := h.row
  rcases ho.2 with ⟨rfl, h0⟩ | ⟨g, cap, cur, rfl, hb, hg, hn, hm, hs, ht⟩
  · exact ⟨none, 0, by rw [h0], by rw [h0]; simp⟩
  · exact ⟨_, cap, rfl, by omega⟩

/-- 'append(s, x)', x an element of a struct type. -/
theorem wpList_push_row {P : Program} {T E : TypeId} {z0 : Value} {sz bytes : Nat} (hsl : P.underlying T = some (.slice E)) (hinf : (P.info? E).map (fun i => (i.zero, i.size, i.bytes)) = some (some z0, sz, bytes)) (hz0 : z0.cells.size = sz) (hpos : 0 < sz) (hby : bytes ≤ 1000)
    {w : World} {ops : Array Oper} {rest : List Oper} {o : Oper} {a : Act} {Q : Exit → Act → World → Prop} (hgd : o.guard = none) (s x : Operand) (ho : o.op = .call { callee := .builtin .append, args := #[s, x], argTypes := #[T, T] }) (B : Nat) (v : Value) (es : List (List Dt)) (e : List Dt)
    (vals : List Value) (cells : Array Value) (hcells : cells = vals.toArray) (hvl : vals.length = sz) (h1c : ∀ u ∈ vals, u.oneCell' = true) (hs : a.eval s = v) (hb : Bld E sz w B v es) (he : e.length = sz) (hr : CellsRd w B v.ownBlock vals e) (hlen : es.length ≤ 1048576)
    (hx : a.eval x = .slice (some ⟨w.heap.size, 0, none⟩) 1 1) (hB : B ≤ w.heap.size)
    (h : ∀ v' w', Bld E sz w' B v' (es ++ [e]) → w.grownBy w' v.ownBlock → (∀ g, v'.ownBlock = some g → v.ownBlock = some g ∨ w.heap.size ≤ g) → wpList P ops Q rest (a.put o.dst v') w') : wpList P ops Q (o :: rest) a (w.alloc (.cells cells E)) := by
  subst hcells
  refine wpList_want (by unfold Region.wanted; rw [hgd]) fun K hK => ?_
  obtain ⟨i, hi, hz, hsz, hbb⟩ := info_parts hinf
  obtain ⟨cs, hown, hc⟩ := hb.row
  have hcl : cs.length = es.length * sz := hown.1
  obtain ⟨v', w', hrun, h1, h2, _, h4⟩ := run_append_own_at (P := P) (w.alloc (.cells vals.toArray E)) B T o.type E i z0 sz bytes hsl hi hz hsz hbb hz0 hpos v es.length _ (World.ownsRow.alloc hown _) ⟨w.heap.size, 0, none⟩ 1 1 vals (by rw [hvl]; simp)
    (fun j u hu => by
      rw [addr_add, World.cell?_alloc_at _ _ _ _ rfl]; simpa using hu) h1c (by unfold maxLen; omega) (by
      have := Nat.mul_le_mul (show es.length + 1 ≤ 1048577 by omega) hby; omega) (by simp; omega)
  unfold Oper.wp execOp
  simp only [ho, resolve, invoke, builtin, Sem.run_bind, Sem.run_pure, Result.andThen_ok, List.map_toArray, List.map_cons, List.map_nil, hs, hx, hrun]
  have hg : w.grownBy w' v.ownBlock := grownBy_trans (World.grownBy_alloc _ _ _) h2
  have hloc : ∀ g, v'.ownBlock = some g → v.ownBlock = some g ∨ w.heap.size ≤ g := fun g e => by
    rcases h4 with h4 | h4
    · exact .inl (by rw [← h4]; exact e)
    · rw [h4] at e; cases e; exact .inr (by simp)
  refine hK _ _ (h v' w' ⟨?_, cs ++ vals, by rw [List.length_append]; exact h1, fun k hk => ?_⟩ hg hloc)
  · intro d hd
    rcases List.mem_append.1 hd with hd | hd
    · exact hb.szs d hd
    · simp at hd; subst hd; exact he
  · by_cases hke : k < es.length
    · have hkk : (es ++ [e])[k] = es[k] := List.getElem_append_left hke
      rw [hkk]
      have hcr := (hc k hke).step (blk' := v'.ownBlock) hg (fun r e => .inr e) hloc
      intro j hj
      obtain ⟨c, fp, hcc, hrest⟩ := hcr j hj
      refine ⟨c, fp, ?_, hrest⟩
      rw [List.getElem?_drop] at hcc ⊢
      have hjs : j < sz := by rw [← hb.szs _ (List.getElem_mem hke)]; exact hj
      have : k * sz + j < cs.length := by
        rw [hcl]
        have := Nat.mul_le_mul_right sz (show k + 1 ≤ es.length by omega)
        rw [Nat.add_mul] at this; omega
      rw [List.getElem?_append_left this]; exact hcc
    · have hkl : k = es.length := by simp at hk; omega
      subst hkl
      have hkk : (es ++ [e])[es.length] = e := by simp
      rw [hkk]
      have : (cs ++ vals).drop (es.length * sz) = vals := by rw [← hcl]; simp
      rw [this]
      exact hr.step hg (fun r e => .inr e) hloc
/-- What has been built reads as its data. -/
theorem Bld.rd {E : TypeId} {sz : Nat} {w : World} {B : Nat} {v : Value} {es : List (List Dt)} (h : Bld E sz w B v es) : ∃ fp, Rd w (.l es) v fp ∧ ∀ r ∈ fp, B ≤ r := by
  obtain ⟨cs, ho, hc⟩ := h.row
  rcases Nat.eq_zero_or_pos es.length with h0 | h0
  · have : es = [] := List.eq_nil_of_length_eq_zero h0
    subst this
    rcases ho.2 with ⟨rfl, _⟩ | ⟨g, cap, cur, rfl, _, _, _, _⟩
    · exact ⟨[], .nil _ _ (fun _ => rfl), by simp⟩
    · exact ⟨[], .nil _ _ (fun e => by cases e), by simp⟩
  · rcases ho.2 with ⟨rfl, hz⟩ | ⟨g, cap, cur, rfl, hb, hg, hn, hm, hs, ht⟩
    · omega
    · have hgl := (ho.lt g rfl)
      have hjs : ∀ k (hk : k < es.length) j, j < sz → j < (es[k]).length := fun k hk j hj => by rw [h.szs _ (List.getElem_mem hk)]; exact hj
      have hex : ∀ k j, ∃ (p : Value × List Nat), ∀ (hk : k < es.length) (hj : j < (es[k]).length), (cs.drop (k * sz))[j]? = some p.1 ∧ Rd w (es[k][j]) p.1 p.2 ∧ ∀ r ∈ p.2, B ≤ r := by
        intro k j
        by_cases hk : k < es.length
        · by_cases hj : j < (es[k]).length
          · obtain ⟨c, fp, hcc, hr, hf⟩ := hc k hk j hj
            exact ⟨(c, fp), fun _ _ => ⟨hcc, hr, fun r hr => (hf r hr).1⟩⟩
          · exact ⟨(undef, []), fun _ h => absurd h hj⟩
        · exact ⟨(undef, []), fun h => absurd h hk⟩
      obtain ⟨F, hF⟩ : ∃ F : Nat → Nat → Value × List Nat, ∀ k j (hk : k < es.length) (hj : j < (es[k]).length), (cs.drop (k * sz))[j]? = some (F k j).1 ∧ Rd w (es[k][j]) (F k j).1 (F k j).2 ∧ ∀ r ∈ (F k j).2, B ≤ r :=
        ⟨fun k j => Classical.choose (hex k j), fun k j => Classical.choose_spec (hex k j)⟩
      refine ⟨_, Rd.l sz es g 0 cap (fun k j => (F k j).1) (fun k j => (F k j).2) h0 h.szs hn hgl.2 (fun k j hk hj => ?_) (fun k j hk hj => (hF k j hk hj).2.1), fun r hr => ?_⟩
      · have h1 := (hF k j hk (hjs k hk j hj)).1
        rw [List.getElem?_drop] at h1
        have h2 := World.ownsRow.cells ho (g := g) rfl (k * sz + j) _ h1
        rw [addr_add] at h2
        rw [Nat.zero_add]; exact h2
      · rcases List.mem_cons.1 hr with rfl | hr
        · exact hgl.1
        · obtain ⟨k, hk, hr⟩ := List.mem_flatMap.1 hr
          obtain ⟨j, hj, hr⟩ := List.mem_flatMap.1 hr
          rw [List.mem_range] at hk hj
          exact (hF k j hk (hjs k hk j hj)).2.2 r hr

end Go.Proofs.Ytfnhafgjdnlhiaa

/- A list of rows of numbers, truth values, texts and lists of numbers that lies in memory of its own, no two parts in one block; general steps, nothing here speaks of the program. -/
namespace Go.Proofs.Ytfnhafgjdnlhiaa
open Go.RowKit

/-- A field of a row. -/
inductive Fd where
  | i (n : Int)
  | b (x : Bool)
  | s (t : ByteArray)
  | l (xs : List Int)
def Fd.dt : Fd → Dt
  | .i n => .i n
  | .b x => .b x
  | .s t => .s t
  | .l xs => intsD xs
/-- The value is the field; a list lies in a row of its own from block B on. -/
def FdOk (Ei : TypeId) (w : World) (B : Nat) (c : Value) : Fd → Prop
  | .i n => c = .int .i64 n
  | .b x => c = .bool x
  | .s t => c = .string t
  | .l xs => Own Ei w B c xs
def Apart (c d : Value) : Prop := ∀ g, c.ownBlock = some g → d.ownBlock ≠ some g
theorem Apart.symm {c d : Value} (h : Apart c d) : Apart d c := fun g hd hc => h g hc hd
theorem Own.same {E : TypeId} {w w' : World} {B : Nat} {v : Value} {xs : List Int} (h : Own E w B v xs) (hb : ∀ g, v.ownBlock = some g → w'.heap[g]? = w.heap[g]?) : Own E w' B v xs := by
  refine ⟨h.1, ?_⟩
  rcases h.2 with h0 | ⟨g, cap, cur, e, hg, hh, rest⟩
  · exact .inl h0
  · exact .inr ⟨g, cap, cur, e, hg, by rw [hb g (by rw [e]; rfl)]; exact hh, rest⟩
theorem row_same {E : TypeId} {sz : Nat} {w w' : World} {B n : Nat} {v : Value} {cs : List Value} (h : w.ownsRow B E sz v n cs) (hb : ∀ g, v.ownBlock = some g → w'.heap[g]? = w.heap[g]?) : w'.ownsRow B E sz v n cs := by
  refine ⟨h.1, ?_⟩
  rcases h.2 with h0 | ⟨g, cap, cur, e, hg, hh, rest⟩
  · exact .inl h0
  · exact .inr ⟨g, cap, cur, e, hg, by rw [hb g (by rw [e]; rfl)]; exact hh, rest⟩
theorem FdOk.same {Ei : TypeId} {w w' : World} {B : Nat} {c : Value} {f : Fd} (h : FdOk Ei w B c f) (hb : ∀ g, c.ownBlock = some g → w'.heap[g]? = w.heap[g]?) : FdOk Ei w' B c f := by
  cases f with
  | l xs => exact Own.same h hb
  | _ => exact h
theorem FdOk.lt {Ei : TypeId} {w : World} {B : Nat} {c : Value} {f : Fd} (h : FdOk Ei w B c f) : ∀ g, c.ownBlock = some g → B ≤ g ∧ g < w.heap.size := by
  cases f with
  | l xs => exact Own.lt h
  | i n => rw [show c = _ from h]; intro g e; cases e
  | b n => rw [show c = _ from h]; intro g e; cases e
  | s n => rw [show c = _ from h]; intro g e; cases e
theorem FdOk.rd {Ei : TypeId} {w : World} {B : Nat} {c : Value} {f : Fd} (h : FdOk Ei w B c f) : ∃ fp, Rd w f.dt c fp ∧ ∀ g ∈ fp, B ≤ g ∧ c.ownBlock = some g := by
  cases f with
  | l xs => exact Rd.of_own h
  | i n => rw [show c = _ from h]; exact ⟨[], .i n, by simp⟩
  | b n => rw [show c = _ from h]; exact ⟨[], .b n, by simp⟩
  | s n => rw [show c = _ from h]; exact ⟨[], .s n, by simp⟩

/-- v owns the rows es, in blocks from B on below hi, each part in a block of its own. -/
structure OwnR (E Ei : TypeId) (sz : Nat) (w : World) (B hi : Nat) (v : Value) (es : List (List Fd)) : Prop where
  szs : ∀ e ∈ es, e.length = sz
  row : ∃ cs : List Value, w.ownsRow B E sz v es.length cs ∧ (∀ k j (hk : k < es.length) (hj : j < (es[k]).length), ∃ c, cs[k * sz + j]? = some c ∧ FdOk Ei w B c (es[k])[j]) ∧
    (∀ (p q : Nat) c d, cs[p]? = some c → cs[q]? = some d → p ≠ q → Apart c d) ∧ (∀ (p : Nat) c, cs[p]? = some c → Apart c v) ∧
    (∀ (p : Nat) c g, cs[p]? = some c → c.ownBlock = some g → B ≤ g ∧ g < hi) ∧ ∀ g, v.ownBlock = some g → g < hi
theorem OwnR.nil {E Ei : TypeId} {sz : Nat} {w : World} {B hi : Nat} {v : Value} (h : w.ownsRow B E sz v 0 []) (hh : ∀ g, v.ownBlock = some g → g < hi) : OwnR E Ei sz w B hi v [] := ⟨by simp, [], h, fun k j hk => by simp at hk, fun p q c d h => by simp at h, fun p c h => by simp at h, fun p c g h => by simp at h, hh⟩
theorem OwnR.mono {E Ei : TypeId} {sz : Nat} {w : World} {B hi hi' : Nat} {v : Value} {es : List (List Fd)} (h : OwnR E Ei sz w B hi v es) (hh : hi ≤ hi') : OwnR E Ei sz w B hi' v es := by
  obtain ⟨cs, h1, h2, h3, h4, h5, h6⟩ := h.row
  exact ⟨h.szs, cs, h1, h2, h3, h4, fun p c g a b => ⟨(h5 p c g a b).1, Nat.lt_of_lt_of_le (h5 p c g a b).2 hh⟩, fun g a => Nat.lt_of_lt_of_le (h6 g a) hh⟩
theorem OwnR.same {E Ei : TypeId} {sz : Nat} {w w' : World} {B hi : Nat} {v : Value} {es : List (List Fd)} (h : OwnR E Ei sz w B hi v es) (hb : ∀ g, B ≤ g → g < hi → w'.heap[g]? = w.heap[g]?) : OwnR E Ei sz w' B hi v es := by
  obtain ⟨cs, h1, h2, h3, h4, h5, h6⟩ := h.row
  refine ⟨h.szs, cs, row_same h1 (fun g e => hb g (h1.lt g e).1 (h6 g e)), fun k j hk hj => ?_, h3, h4, h5, h6⟩
  obtain ⟨c, hc, hf⟩ := h2 k j hk hj
  exact ⟨c, hc, hf.same fun g e => hb g (hf.lt g e).1 (h5 _ c g hc e).2⟩
theorem OwnR.below {E Ei : TypeId} {sz : Nat} {w w' : World} {B hi : Nat} {v : Value} {es : List (List Fd)} (h : OwnR E Ei sz w B hi v es) (hb : Below w.heap.size w w') (hh : hi ≤ w.heap.size) : OwnR E Ei sz w' B hi v es := h.same fun g _ h2 => hb.block g (by omega)
theorem OwnR.bld {E Ei : TypeId} {sz : Nat} {w : World} {B hi : Nat} {v : Value} {es : List (List Fd)} (h : OwnR E Ei sz w B hi v es) : Bld E sz w B v (es.map fun e => e.map Fd.dt) := by
  obtain ⟨cs, h1, h2, h3, h4, h5, h6⟩ := h.row
  refine ⟨fun e he => ?_, cs, by rw [List.length_map]; exact h1, fun k hk => ?_⟩
  · obtain ⟨e', he', rfl⟩ := List.mem_map.1 he
    rw [List.length_map]; exact h.szs e' he'
  · rw [List.length_map] at hk
    intro j hj
    rw [List.getElem_map, List.length_map] at hj
    obtain ⟨c, hc, hf⟩ := h2 k j hk hj
    obtain ⟨fp, hr, hfp⟩ := hf.rd
    refine ⟨c, fp, by rw [List.getElem?_drop]; exact hc, by simp only [List.getElem_map]; exact hr, fun r hr => ⟨(hfp r hr).1, fun e => h4 _ c hc r (hfp r hr).2 e⟩⟩
theorem OwnR.lt {E Ei : TypeId} {sz : Nat} {w : World} {B hi : Nat} {v : Value} {es : List (List Fd)} (h : OwnR E Ei sz w B hi v es) : ∀ g, v.ownBlock = some g → B ≤ g ∧ g < w.heap.size := by
  obtain ⟨cs, ho, _⟩ := h.row; exact ho.lt
theorem OwnR.slice {E Ei : TypeId} {sz : Nat} {w : World} {B hi : Nat} {v : Value} {es : List (List Fd)} (h : OwnR E Ei sz w B hi v es) : ∃ a cap, v = .slice a es.length cap ∧ es.length ≤ maxLen := by
  have := h.bld.slice
  rwa [List.length_map] at this
theorem OwnR.head {E Ei : TypeId} {sz : Nat} {w : World} {B hi : Nat} {v : Value} {es : List (List Fd)} (h : OwnR E Ei sz w B hi v es) (hne : 0 < es.length) : ∃ g cap, v = .slice (some ⟨g, 0, none⟩) es.length cap ∧ B ≤ g ∧ g < hi ∧ g < w.heap.size := by
  obtain ⟨cs, h1, _, _, _, _, h6⟩ := h.row
  rcases h1.2 with ⟨_, h0⟩ | ⟨g, cap, cur, rfl, hb, hg, _⟩
  · omega
  · exact ⟨g, cap, rfl, hb, h6 g rfl, (h1.lt g rfl).2⟩
/-- A field's cell. -/
theorem OwnR.cell {E Ei : TypeId} {sz : Nat} {w : World} {B hi g n cap : Nat} {es : List (List Fd)} (h : OwnR E Ei sz w B hi (.slice (some ⟨g, 0, none⟩) n cap) es) {k j : Nat} (hk : k < es.length) (hj : j < (es[k]).length) :
    ∃ c, w.cell? ⟨g, k * sz + j, none⟩ = some c ∧ FdOk Ei w B c (es[k])[j] ∧ w.frozen? ⟨g, k * sz + j, none⟩ = false ∧ c.ownBlock ≠ some g := by
  obtain ⟨cs, h1, h2, _, h4, _, _⟩ := h.row
  obtain ⟨c, hc, hf⟩ := h2 k j hk hj
  have h0 := World.ownsRow.cells h1 (g := g) rfl _ _ hc
  rw [addr_add] at h0
  refine ⟨c, h0, hf, ?_, fun e => h4 _ c hc g e rfl⟩
  rcases h1.2 with ⟨e, _⟩ | ⟨g', cap', cur, e, _, hg, _⟩
  · cases e
  · simp only [Value.slice.injEq, Option.some.injEq, Addr.mk.injEq] at e
    rw [show g = g' from e.1.1]
    simp [World.frozen?, hg]
theorem set_get {es : List (List Fd)} {k j : Nat} {e : List Fd} (hk : k < es.length) (k' j' : Nat) (hk' : k' < (es.set k e).length) (hj' : j' < ((es.set k e)[k']).length) (he : e.length = (es[k]).length) (hne : ¬ (k' = k ∧ j' = j)) (hs : ∀ i (h : i < e.length) (h' : i < (es[k]).length), i ≠ j → e[i] = (es[k])[i]) :
    ∃ (h1 : k' < es.length) (h2 : j' < (es[k']).length), ((es.set k e)[k'])[j'] = (es[k'])[j'] := by
  have h1 : k' < es.length := by simpa using hk'
  by_cases ek : k' = k
  · subst ek
    have hb : (es.set k' e)[k'] = e := by simp
    have h2 : j' < (es[k']).length := by rw [← he]; simpa using hj'
    refine ⟨h1, h2, ?_⟩
    simp only [List.getElem_set_self]
    exact hs j' (by omega) h2 (fun e => hne ⟨rfl, e⟩)
  · have hb : (es.set k e)[k'] = es[k'] := by rw [List.getElem_set_ne (fun h => ek h.symm)]
    refine ⟨h1, by rw [hb] at hj'; exact hj', ?_⟩
    simp only [List.getElem_set_ne (fun h => ek (Eq.symm h))]
/-- Blocks lie as they lay, but for those from lo on below hi. -/
structure Btw (lo hi : Nat) (w w' : World) : Prop where
  os : w'.os = w.os
  tape : w'.tape = w.tape
  output : w'.output = w.output
  size : w.heap.size ≤ w'.heap.size
  block : ∀ b, b < w.heap.size → ¬ (lo ≤ b ∧ b < hi) → w'.heap[b]? = w.heap[b]?
theorem Btw.refl (lo hi : Nat) (w : World) : Btw lo hi w w := ⟨rfl, rfl, rfl, Nat.le_refl _, fun _ _ _ => rfl⟩
theorem Btw.trans {lo hi : Nat} {a b c : World} (h : Btw lo hi a b) (k : Btw lo hi b c) : Btw lo hi a c := ⟨k.os.trans h.os, k.tape.trans h.tape, k.output.trans h.output, Nat.le_trans h.size k.size, fun x hs hx => (k.block x (Nat.lt_of_lt_of_le hs h.size) hx).trans (h.block x hs hx)⟩
theorem Btw.grown {lo hi : Nat} {w w' : World} {row : Option Nat} (h : w.grownBy w' row) (hr : ∀ g, row = some g → lo ≤ g ∧ g < hi) : Btw lo hi w w' := ⟨h.os, h.tape, h.output, h.size, fun b hs hb => h.block b hs fun e => hb (hr b e.symm)⟩
theorem Btw.set {lo hi : Nat} (w : World) {g : Nat} (hlo : lo ≤ g) (hhi : g < hi) (j : Nat) (v : Value) : Btw lo hi w (w.setCell ⟨g, j, none⟩ v) := .grown (grownBy_set w g j v) fun b e => by cases e; exact ⟨hlo, hhi⟩
theorem Btw.below {lo hi : Nat} {a w w' : World} {B : Nat} (h : Btw lo hi w w') (hb : Below B a w) (hBw : B ≤ w.heap.size) (hB : B ≤ lo) : Below B a w' :=
  hb.trans ⟨h.os, h.tape, h.output, h.size, fun k hk => h.block k (by omega) (by omega)⟩
theorem Btw.own {lo hi : Nat} {w w' : World} (h : Btw lo hi w w') {E : TypeId} {B : Nat} {v : Value} {xs : List Int} (ho : Own E w B v xs) (hd : ∀ g, v.ownBlock = some g → g < lo ∨ hi ≤ g) : Own E w' B v xs := ho.same fun g e => h.block g (ho.lt g e).2 (by have := hd g e; omega)
theorem Btw.ownR {lo hi : Nat} {w w' : World} (h : Btw lo hi w w') {E Ei : TypeId} {sz B hi' : Nat} {v : Value} {es : List (List Fd)} (ho : OwnR E Ei sz w B hi' v es) (hs : hi' ≤ w.heap.size) (hd : hi' ≤ lo ∨ hi ≤ B) : OwnR E Ei sz w' B hi' v es := ho.same fun g h1 h2 => h.block g (by omega) (by omega)
/-- A number is stored. -/
theorem OwnR.setI {E Ei : TypeId} {sz : Nat} {w : World} {B hi g n cap : Nat} {es : List (List Fd)} (h : OwnR E Ei sz w B hi (.slice (some ⟨g, 0, none⟩) n cap) es) (hn : n = es.length) {k j : Nat} (hk : k < es.length) (hj : j < sz) (z : Int) :
    OwnR E Ei sz (w.setCell ⟨g, k * sz + j, none⟩ (.int .i64 z)) B hi (.slice (some ⟨g, 0, none⟩) n cap) (es.set k ((es[k]).set j (.i z))) := by
  subst hn
  obtain ⟨cs, h1, h2, h3, h4, h5, h6⟩ := h.row
  have hsz := h.szs _ (List.getElem_mem hk)
  have hlt : k * sz + j < cs.length := by
    rw [h1.1]
    have := Nat.mul_le_mul_right sz (show k + 1 ≤ es.length by omega)
    rw [Nat.add_mul] at this; omega
  have hst := (World.ownsRow.stored (w := w) (base := B) (e := E) (size := sz) (g := g) (n := es.length) (cap := cap) h1 (k * sz + j) (.int .i64 z)).1
  have hbl : ∀ b, b ≠ g → (w.setCell ⟨g, k * sz + j, none⟩ (.int .i64 z)).heap[b]? = w.heap[b]? := fun b hb => Below.heap_setCell _ _ _ b hb
  have hset : ∀ (p : Nat) c, (cs.set (k * sz + j) (.int .i64 z))[p]? = some c → (p ≠ k * sz + j ∧ cs[p]? = some c) ∨ (p = k * sz + j ∧ c = .int .i64 z) := by
    intro p c hp
    by_cases e : k * sz + j = p
    · subst e
      rw [List.getElem?_set_self hlt] at hp
      exact .inr ⟨rfl, by cases hp; rfl⟩
    · rw [List.getElem?_set_ne e] at hp
      exact .inl ⟨fun h => e h.symm, hp⟩
  refine ⟨fun e he => ?_, cs.set (k * sz + j) (.int .i64 z), by rw [List.length_set]; exact hst, fun k' j' hk' hj' => ?_, fun p q c d hp hq hne => ?_, fun p c hp => ?_, fun p c b hp hb => ?_, h6⟩
  · rcases List.mem_or_eq_of_mem_set he with he | rfl
    · exact h.szs e he
    · rw [List.length_set]; exact hsz
  · by_cases e : k' = k ∧ j' = j
    · obtain ⟨rfl, rfl⟩ := e
      refine ⟨_, List.getElem?_set_self hlt, ?_⟩
      simp only [List.getElem_set_self]
      rfl
    · obtain ⟨a1, a2, a3⟩ := set_get (j := j) hk k' j' hk' hj' (by rw [List.length_set]) e (fun i _ _ hi => by rw [List.getElem_set_ne (fun h => hi h.symm)])
      obtain ⟨c, hc, hf⟩ := h2 k' j' a1 a2
      rw [a3]
      have hp : k * sz + j ≠ k' * sz + j' := by
        intro hh
        have hj2 : j' < sz := by rw [← h.szs _ (List.getElem_mem a1)]; exact a2
        have e1 : (k * sz + j) / sz = k := by rw [Nat.add_comm, Nat.add_mul_div_right _ _ (by omega), Nat.div_eq_of_lt hj, Nat.zero_add]
        have e2 : (k' * sz + j') / sz = k' := by rw [Nat.add_comm, Nat.add_mul_div_right _ _ (by omega), Nat.div_eq_of_lt hj2, Nat.zero_add]
        have : k' = k := by rw [← e1, ← e2, hh]
        subst this
        exact e ⟨rfl, by omega⟩
      exact ⟨c, by rw [List.getElem?_set_ne hp]; exact hc, hf.same fun b hb => hbl b fun hg => h4 _ c hc b hb (by rw [hg]; rfl)⟩
  · rcases hset p c hp with ⟨_, hp⟩ | ⟨rfl, rfl⟩
    · rcases hset q d hq with ⟨_, hq⟩ | ⟨rfl, rfl⟩
      · exact h3 p q c d hp hq hne
      · intro g _ e; cases e
    · intro g e; cases e
  · rcases hset p c hp with ⟨_, hp⟩ | ⟨rfl, rfl⟩
    · exact h4 p c hp
    · intro g e; cases e
  · rcases hset p c hp with ⟨_, hp⟩ | ⟨rfl, rfl⟩
    · exact h5 p c b hp hb
    · cases hb
/-- A list's numbers are written over. -/
theorem OwnR.setL {E Ei : TypeId} {sz : Nat} {w w' : World} {B hi g n cap : Nat} {es : List (List Fd)} (h : OwnR E Ei sz w B hi (.slice (some ⟨g, 0, none⟩) n cap) es) {k j : Nat} (hk : k < es.length) (hj : j < sz) {c : Value} (hc : w.cell? ⟨g, k * sz + j, none⟩ = some c) {ys : List Int} (hown : Own Ei w' B c ys)
    (hb : ∀ b, b < w.heap.size → c.ownBlock ≠ some b → w'.heap[b]? = w.heap[b]?) : OwnR E Ei sz w' B hi (.slice (some ⟨g, 0, none⟩) n cap) (es.set k ((es[k]).set j (.l ys))) := by
  obtain ⟨cs, h1, h2, h3, h4, h5, h6⟩ := h.row
  have hsz := h.szs _ (List.getElem_mem hk)
  obtain ⟨c0, hc0, hf0⟩ := h2 k j hk (by omega)
  have hcc := World.ownsRow.cells h1 (g := g) rfl _ _ hc0
  rw [addr_add, hc] at hcc
  obtain rfl : c = c0 := Option.some.inj hcc
  refine ⟨fun e he => ?_, cs, by rw [List.length_set]; exact row_same h1 (fun b e => hb b (h1.lt b e).2 fun e' => h4 _ c hc0 b e' e), fun k' j' hk' hj' => ?_, h3, h4, h5, h6⟩
  · rcases List.mem_or_eq_of_mem_set he with he | rfl
    · exact h.szs e he
    · rw [List.length_set]; exact hsz
  · by_cases e : k' = k ∧ j' = j
    · obtain ⟨rfl, rfl⟩ := e
      refine ⟨_, hc0, ?_⟩
      simp only [List.getElem_set_self]
      exact hown
    · obtain ⟨a1, a2, a3⟩ := set_get (j := j) hk k' j' hk' hj' (by rw [List.length_set]) e (fun i _ _ hi => by rw [List.getElem_set_ne (fun h => hi h.symm)])
      obtain ⟨d, hd, hf⟩ := h2 k' j' a1 a2
      rw [a3]
      have hp : k * sz + j ≠ k' * sz + j' := by
        intro hh
        have hj2 : j' < sz := by rw [← h.szs _ (List.getElem_mem a1)]; exact a2
        have e1 : (k * sz + j) / sz = k := by rw [Nat.add_comm, Nat.add_mul_div_right _ _ (by omega), Nat.div_eq_of_lt hj, Nat.zero_add]
        have e2 : (k' * sz + j') / sz = k' := by rw [Nat.add_comm, Nat.add_mul_div_right _ _ (by omega), Nat.div_eq_of_lt hj2, Nat.zero_add]
        have : k' = k := by rw [← e1, ← e2, hh]
        subst this
        exact e ⟨rfl, by omega⟩
      exact ⟨d, hd, hf.same fun b hb' => hb b (hf.lt b hb').2 fun hg => h3 _ _ c d hc0 hd hp b hg hb'⟩

/-- 'append(s, x)', x an element of a struct type whose lists lie in rows of their own. -/
theorem wpList_push_own {P : Program} {T E Ei : TypeId} {z0 : Value} {sz bytes : Nat} (hsl : P.underlying T = some (.slice E)) (hinf : (P.info? E).map (fun i => (i.zero, i.size, i.bytes)) = some (some z0, sz, bytes)) (hz0 : z0.cells.size = sz) (hpos : 0 < sz) (hby : bytes ≤ 1000)
    {w : World} {ops : Array Oper} {rest : List Oper} {o : Oper} {a : Act} {Q : Exit → Act → World → Prop} (hgd : o.guard = none) (s x : Operand) (ho : o.op = .call { callee := .builtin .append, args := #[s, x], argTypes := #[T, T] }) (B : Nat) (v : Value) (es : List (List Fd)) (e : List Fd)
    (vals : List Value) (cells : Array Value) (hcells : cells = vals.toArray) (hvl : vals.length = sz) (h1c : ∀ u ∈ vals, u.oneCell' = true) (hs : a.eval s = v) (he : e.length = sz)
    (hr : ∀ j (hj : j < e.length), ∃ c, vals[j]? = some c ∧ FdOk Ei w B c e[j]) (hrr : ∀ (p q : Nat) c d, vals[p]? = some c → vals[q]? = some d → p ≠ q → Apart c d) (hi0 : Nat) (hb : OwnR E Ei sz w B hi0 v es) (hh0 : hi0 ≤ w.heap.size) (hrv : ∀ c ∈ vals, ∀ g, c.ownBlock = some g → hi0 ≤ g)
    (hlen : es.length ≤ 1048576)
    (hx : a.eval x = .slice (some ⟨w.heap.size, 0, none⟩) 1 1) (hB : B ≤ w.heap.size)
    (h : ∀ v' w', OwnR E Ei sz w' B w'.heap.size v' (es ++ [e]) → w.grownBy w' v.ownBlock → (∀ g, v'.ownBlock = some g → v.ownBlock = some g ∨ w.heap.size ≤ g) → wpList P ops Q rest (a.put o.dst v') w') : wpList P ops Q (o :: rest) a (w.alloc (.cells cells E)) := by
  subst hcells
  refine wpList_want (by unfold Region.wanted; rw [hgd]) fun K hK => ?_
  obtain ⟨i, hi, hz, hsz, hbb⟩ := info_parts hinf
  obtain ⟨cs, hown, hc, hcc, hcv, hch, hvh⟩ := hb.row
  have hcl : cs.length = es.length * sz := hown.1
  obtain ⟨v', w', hrun, h1, h2, _, h4⟩ := run_append_own_at (P := P) (w.alloc (.cells vals.toArray E)) B T o.type E i z0 sz bytes hsl hi hz hsz hbb hz0 hpos v es.length _ (World.ownsRow.alloc hown _) ⟨w.heap.size, 0, none⟩ 1 1 vals (by rw [hvl]; simp)
    (fun j u hu => by
      rw [addr_add, World.cell?_alloc_at _ _ _ _ rfl]; simpa using hu) h1c (by unfold maxLen; omega) (by
      have := Nat.mul_le_mul (show es.length + 1 ≤ 1048577 by omega) hby; omega) (by simp; omega)
  unfold Oper.wp execOp
  simp only [ho, resolve, invoke, builtin, Sem.run_bind, Sem.run_pure, Result.andThen_ok, List.map_toArray, List.map_cons, List.map_nil, hs, hx, hrun]
  have hg : w.grownBy w' v.ownBlock := grownBy_trans (World.grownBy_alloc _ _ _) h2
  have hloc : ∀ g, v'.ownBlock = some g → v.ownBlock = some g ∨ w.heap.size ≤ g := fun g e => by
    rcases h4 with h4 | h4
    · exact .inl (by rw [← h4]; exact e)
    · rw [h4] at e; cases e; exact .inr (by simp)
  have hva : ∀ (p : Nat) (c : Value), vals[p]? = some c → Apart c v := fun p c hp g e e' => by
    have := hrv c (List.mem_of_getElem? hp) g e
    have := hvh g e'
    omega
  have hvlt : ∀ (p : Nat) (c : Value) (g : Nat), vals[p]? = some c → c.ownBlock = some g → B ≤ g ∧ g < w.heap.size := fun p c g hp hg' => by
    obtain ⟨hpl, _⟩ := List.getElem?_eq_some_iff.1 hp
    obtain ⟨c', hc', hf⟩ := hr p (by omega)
    rw [hp] at hc'; cases hc'
    exact hf.lt g hg'
  have hmix : ∀ (p q : Nat) (c d : Value), vals[p]? = some c → cs[q]? = some d → Apart c d := fun p q c d hp hq g e e' => by
    have := hrv c (List.mem_of_getElem? hp) g e
    have := hch q d g hq e'
    omega
  have hsame : ∀ (c : Value) (fd : Fd), FdOk Ei w B c fd → Apart c v → FdOk Ei w' B c fd := fun c fd hf ha => hf.same fun g e => hg.block g (hf.lt g e).2 fun e' => ha g e e'.symm
  have hall : ∀ (p : Nat) (c : Value), (cs ++ vals)[p]? = some c → (cs[p]? = some c ∧ p < cs.length) ∨ (cs.length ≤ p ∧ vals[p - cs.length]? = some c) := fun p c hp => by
    by_cases e : p < cs.length
    · rw [List.getElem?_append_left e] at hp; exact .inl ⟨hp, e⟩
    · rw [List.getElem?_append_right (by omega)] at hp; exact .inr ⟨by omega, hp⟩
  have hwv : ∀ c : Value, (∀ g, c.ownBlock = some g → g < w.heap.size) → Apart c v → Apart c v' := fun c hlt ha g hc' hv' => by
    rcases hloc g hv' with h | h
    · exact ha g hc' h
    · have := hlt g hc'; omega
  refine hK _ _ (h v' w' ⟨?_, cs ++ vals, by rw [List.length_append]; exact h1, fun k j hk hj => ?_, fun p q c d hp hq hne => ?_, fun p c hp => ?_, fun p c g hp hg' => ?_, fun g e => (World.ownsRow.lt h1 g e).2⟩ hg hloc)
  · intro d hd
    rcases List.mem_append.1 hd with hd | hd
    · exact hb.szs d hd
    · simp at hd; subst hd; exact he
  · by_cases hke : k < es.length
    · have hkk : (es ++ [e])[k] = es[k] := List.getElem_append_left hke
      simp only [hkk] at hj ⊢
      obtain ⟨c, hc1, hf⟩ := hc k j hke hj
      obtain ⟨hpl, _⟩ := List.getElem?_eq_some_iff.1 hc1
      exact ⟨c, by rw [List.getElem?_append_left hpl]; exact hc1, hsame c _ hf (hcv _ c hc1)⟩
    · have hkl : k = es.length := by simp at hk; omega
      subst hkl
      have hkk : (es ++ [e])[es.length] = e := by simp
      simp only [hkk] at hj ⊢
      obtain ⟨c, hc1, hf⟩ := hr j hj
      exact ⟨c, by rw [List.getElem?_append_right (by omega), hcl, Nat.add_sub_cancel_left]; exact hc1, hsame c _ hf (hva j c hc1)⟩
  · rcases hall p c hp with ⟨hp, _⟩ | ⟨hpl, hp⟩
    · rcases hall q d hq with ⟨hq, _⟩ | ⟨_, hq⟩
      · exact hcc p q c d hp hq hne
      · exact (hmix _ p d c hq hp).symm
    · rcases hall q d hq with ⟨hq, _⟩ | ⟨hql, hq⟩
      · exact hmix _ q c d hp hq
      · exact hrr _ _ c d hp hq (by omega)
  · rcases hall p c hp with ⟨hp, _⟩ | ⟨_, hp⟩
    · exact hwv c (fun g e => Nat.lt_of_lt_of_le (hch p c g hp e).2 hh0) (hcv p c hp)
    · exact hwv c (fun g e => (hvlt _ c g hp e).2) (hva _ c hp)
  · have hsz' := hg.size
    rcases hall p c hp with ⟨hp, _⟩ | ⟨_, hp⟩
    · have := hch p c g hp hg'; omega
    · have := hvlt _ c g hp hg'; omega

end Go.Proofs.Ytfnhafgjdnlhiaa

/- A field of a row that lies in memory of its own is written over by a value with a new block; general steps, nothing here speaks of the program. -/
namespace Go.Proofs.Ytfnhafgjdnlhiaa
open Go.RowKit

/-- A field is written over by a value whose block, if it has one, is new. -/
theorem OwnR.setF {E Ei : TypeId} {sz : Nat} {w : World} {B hi hi' g n cap : Nat} {es : List (List Fd)} (h : OwnR E Ei sz w B hi (.slice (some ⟨g, 0, none⟩) n cap) es) (hn : n = es.length) {k j : Nat} (hk : k < es.length) (hj : j < sz) {u : Value} {f : Fd}
    (hf : FdOk Ei w B u f) (hhi : hi ≤ hi') (hu : ∀ b, u.ownBlock = some b → hi ≤ b ∧ b < hi') :
    OwnR E Ei sz (w.setCell ⟨g, k * sz + j, none⟩ u) B hi' (.slice (some ⟨g, 0, none⟩) n cap) (es.set k ((es[k]).set j f)) := by
  subst hn
  obtain ⟨cs, h1, h2, h3, h4, h5, h6⟩ := h.row
  have hsz := h.szs _ (List.getElem_mem hk)
  have hlt : k * sz + j < cs.length := by
    rw [h1.1]
    have := Nat.mul_le_mul_right sz (show k + 1 ≤ es.length by omega)
    rw [Nat.add_mul] at this; omega
  have hgB := (h1.lt g rfl).1
  have hgh := h6 g rfl
  have hst := (World.ownsRow.stored (w := w) (base := B) (e := E) (size := sz) (g := g) (n := es.length) (cap := cap) h1 (k * sz + j) u).1
  have hbl : ∀ b, b ≠ g → (w.setCell ⟨g, k * sz + j, none⟩ u).heap[b]? = w.heap[b]? := fun b hb => Below.heap_setCell _ _ _ b hb
  have hset : ∀ (p : Nat) c, (cs.set (k * sz + j) u)[p]? = some c → (p ≠ k * sz + j ∧ cs[p]? = some c) ∨ (p = k * sz + j ∧ c = u) := by
    intro p c hp
    by_cases e : k * sz + j = p
    · subst e
      rw [List.getElem?_set_self hlt] at hp
      exact .inr ⟨rfl, by cases hp; rfl⟩
    · rw [List.getElem?_set_ne e] at hp
      exact .inl ⟨fun h => e h.symm, hp⟩
  refine ⟨fun e he => ?_, cs.set (k * sz + j) u, by rw [List.length_set]; exact hst, fun k' j' hk' hj' => ?_, fun p q c d hp hq hne => ?_, fun p c hp => ?_, fun p c b hp hb => ?_, fun b hb => Nat.lt_of_lt_of_le (h6 b hb) hhi⟩
  · rcases List.mem_or_eq_of_mem_set he with he | rfl
    · exact h.szs e he
    · rw [List.length_set]; exact hsz
  · by_cases e : k' = k ∧ j' = j
    · obtain ⟨rfl, rfl⟩ := e
      refine ⟨_, List.getElem?_set_self hlt, ?_⟩
      simp only [List.getElem_set_self]
      exact hf.same fun b hb => hbl b fun hg => by have := (hu b hb).1; omega
    · obtain ⟨a1, a2, a3⟩ := set_get (j := j) hk k' j' hk' hj' (by rw [List.length_set]) e (fun i _ _ hi => by rw [List.getElem_set_ne (fun h => hi h.symm)])
      obtain ⟨c, hc, hf⟩ := h2 k' j' a1 a2
      rw [a3]
      have hp : k * sz + j ≠ k' * sz + j' := by
        intro hh
        have hj2 : j' < sz := by rw [← h.szs _ (List.getElem_mem a1)]; exact a2
        have e1 : (k * sz + j) / sz = k := by rw [Nat.add_comm, Nat.add_mul_div_right _ _ (by omega), Nat.div_eq_of_lt hj, Nat.zero_add]
        have e2 : (k' * sz + j') / sz = k' := by rw [Nat.add_comm, Nat.add_mul_div_right _ _ (by omega), Nat.div_eq_of_lt hj2, Nat.zero_add]
        have : k' = k := by rw [← e1, ← e2, hh]
        subst this
        exact e ⟨rfl, by omega⟩
      exact ⟨c, by rw [List.getElem?_set_ne hp]; exact hc, hf.same fun b hb => hbl b fun hg => h4 _ c hc b hb (by rw [hg]; rfl)⟩
  · rcases hset p c hp with ⟨_, hp1⟩ | ⟨ep, ec⟩
    · rcases hset q d hq with ⟨_, hq1⟩ | ⟨eq, ed⟩
      · exact h3 p q c d hp1 hq1 hne
      · intro b e e'
        rw [ed] at e'
        have := (h5 p c b hp1 e).2; have := (hu b e').1; omega
    · rcases hset q d hq with ⟨_, hq1⟩ | ⟨eq, ed⟩
      · intro b e e'
        rw [ec] at e
        have := (h5 q d b hq1 e').2; have := (hu b e).1; omega
      · exact absurd (ep.trans eq.symm) hne
  · rcases hset p c hp with ⟨_, hp1⟩ | ⟨ep, ec⟩
    · exact h4 p c hp1
    · intro b e e'
      cases e'
      rw [ec] at e
      have h9 : hi ≤ g := (hu _ e).1
      omega
  · rcases hset p c hp with ⟨_, hp1⟩ | ⟨ep, ec⟩
    · have := h5 p c b hp1 hb; exact ⟨this.1, by omega⟩
    · rw [ec] at hb
      have := hu b hb; exact ⟨by omega, this.2⟩

end Go.Proofs.Ytfnhafgjdnlhiaa

/- What the laws' helpers that mark a list of integers and look the marks up answer, each by a walk of its text; condition: a list has at most 2^40 elements. -/
namespace Go.Proofs.Ytfnhafgjdnlhiaa
open Go.RowKit

/-- The marks k, k+1, .. -/
def markL (k n : Nat) : List Int := (List.range n).map (fun j => ((k + j : Nat) : Int))
theorem markL_len (k n : Nat) : (markL k n).length = n := by simp [markL]
theorem markL_get (k n j : Nat) (h : j < (markL k n).length) : (markL k n)[j] = ((k + j : Nat) : Int) := by simp [markL]
theorem markL_snoc (k n : Nat) : markL k (n + 1) = markL k n ++ [((k + n : Nat) : Int)] := by simp [markL, List.range_succ]
/-- i elements are marked. -/
def markU (xs : List Int) (k i : Nat) : List Int := markL k i ++ xs.drop i
theorem markU_len {xs : List Int} {k i : Nat} (h : i ≤ xs.length) : (markU xs k i).length = xs.length := by simp [markU, markL_len]; omega
theorem markU_zero (xs : List Int) (k : Nat) : markU xs k 0 = xs := by simp [markU, markL]
theorem markU_all (xs : List Int) (k : Nat) : markU xs k xs.length = markL k xs.length := by simp [markU]
theorem markU_step {xs : List Int} {k i : Nat} (h : i < xs.length) : (markU xs k i).set i ((k : Int) + (i : Int)) = markU xs k (i + 1) := by
  unfold markU
  rw [← Int.natCast_add, List.set_append, if_neg (by rw [markL_len]; omega), markL_len, Nat.sub_self, markL_snoc, List.append_assoc, List.drop_eq_getElem_cons h]
  rfl

/-- What is made later lies apart. -/
theorem own_apart {E E' : TypeId} {w w' : World} {B B' : Nat} {v v' : Value} {xs ys : List Int} (h : Own E w B v xs) (h' : Own E' w' B' v' ys) (hB : w.heap.size ≤ B') : (v.ownBlock = none ∨ v.ownBlock ≠ v'.ownBlock) ∧ (v'.ownBlock = none ∨ v'.ownBlock ≠ v.ownBlock) := by
  cases e : v.ownBlock with
  | none => exact ⟨.inl rfl, by cases e' : v'.ownBlock <;> simp⟩
  | some g =>
    have h1 := (h.lt g e).2
    cases e' : v'.ownBlock with
    | none => exact ⟨.inr (by simp), .inl rfl⟩
    | some g' =>
      have h2 := (h'.lt g' e').1
      exact ⟨.inr (by simp; omega), .inr (by simp; omega)⟩
theorem Own.at {E : TypeId} {w : World} {B n c : Nat} {a : Option Addr} {xs : List Int} (h : Own E w B (.slice a n c) xs) : IntsAt w a xs := by
  obtain ⟨a', c', e, hi, _⟩ := h.ints
  simp only [Value.slice.injEq] at e
  obtain ⟨rfl, _, _⟩ := e
  exact hi
theorem Own.cap {E : TypeId} {w : World} {B n c : Nat} {a : Option Addr} {xs : List Int} (h : Own E w B (.slice a n c) xs) : xs.length ≤ c := by
  rcases Nat.eq_zero_or_pos xs.length with h0 | h0
  · omega
  · obtain ⟨g, cap, e, _, _, hc, _⟩ := h.row h0
    simp only [Value.slice.injEq] at e
    omega
theorem below_row {a w w' : World} {B B' : Nat} {E : TypeId} {v : Value} {xs : List Int} (h : Below B a w) (hB : B ≤ w.heap.size) (hg : w.grownBy w' v.ownBlock) (ho : Own E w B' v xs) (hB' : B ≤ B') : Below B a w' :=
  h.grown hg hB (fun g e => Nat.le_trans hB' (ho.lt g e).1)
theorem ret_num {a b : Int} (h : a = b) : Value.int .i64 a = .int .i64 b := by rw [h]

theorem laws_markIntS (v : Value) (xs : List Int) (k B : Nat) (w : World) (hlen : xs.length ≤ 1099511627776) (hk : k ≤ 1099511627776) (hown : Own 3 w B v xs) :
    Calls Try.prog 45 #[v, .int .i64 k] w fun e w' => e = .returned (.int .i64 ((k + xs.length : Nat) : Int)) ∧ Own 3 w' B v (markL k xs.length) ∧ w.grownBy w' v.ownBlock := by
  obtain ⟨a, cap, rfl, _, _⟩ := hown.ints
  have Hown := Lib.hid hown; clear hown
  go_enter Try.func45, Try.ntmps45
  go_wp2
  go_loopw [1, 5] (fun vk vi wr => ∃ i : Nat, i ≤ xs.length ∧ vk = .int .i64 ((k + i : Nat) : Int) ∧ vi = .int .i64 i ∧ Own 3 wr B (.slice a xs.length cap) (markU xs k i) ∧ w.grownBy wr (Value.slice a xs.length cap).ownBlock) (fun _ vi _ => xs.length - (intOf vi).toNat)
  case atStart => exact ⟨0, by omega, rfl, rfl, by rw [markU_zero]; exact Hown.out, World.grownBy.refl _ _⟩
  case round =>
    obtain ⟨i, hi, rfl, rfl, how, hgr⟩ := hrel
    have hul := markU_len (k := k) hi
    by_cases hlt : (i : Int) < xs.length
    · obtain ⟨g, cap', hv', hgB, hgs, hcap, hcells, hfz⟩ := how.row (by omega)
      simp only [Value.slice.injEq] at hv'
      obtain ⟨rfl, hl', rfl⟩ := hv'
      have hix : i < xs.length := by omega
      have hold := hcells i (by omega)
      have hfr := hfz i
      have hst := Lib.hid (how.store (by omega) i ((k : Int) + (i : Int)))
      have Hgr := Lib.hid hgr; clear hgr hcells hfz how hl'
      go_wp2
      go_roundw
      case rel =>
        obtain ⟨hs1, hs2⟩ := hst.out
        rw [markU_step hix] at hs1
        exact ⟨i + 1, by omega, ret_num (by omega), ret_num (by omega), hs1, grownBy_trans Hgr.out hs2⟩
      case measure => simp [intOf]; omega
    · have hxi : i = xs.length := by omega
      subst hxi
      have How := Lib.hid how; clear how
      have Hgr := Lib.hid hgr; clear hgr
      go_wp2
      go_ret
      exact ⟨rfl, by rw [← markU_all]; exact How.out, Hgr.out⟩

theorem laws_heldIntS (a : Option Addr) (cap k n : Nat) (w : World) (hlen : n ≤ 1099511627776) (hk : k ≤ 1099511627776) (hc : IntsAt w a (markL k n)) :
    Calls Try.prog 46 #[.slice a n cap, .int .i64 k] w fun e w' => e = .returned (.int .i64 ((k + n : Nat) : Int)) ∧ Drawn w w' := by
  have hl := markL_len k n
  have hg := markL_get k n
  generalize markL k n = xs at hc hl hg
  subst hl
  rcases hc.len with h0 | ⟨b, off, rfl, hb, hc⟩
  all_goals
    go_enter Try.func46, Try.ntmps46
    go_wp2
    go_loopw [1, 5] (fun vk vi wr => ∃ i : Nat, i ≤ xs.length ∧ vk = .int .i64 ((k + i : Nat) : Int) ∧ vi = .int .i64 i ∧ Drawn w wr) (fun _ vi _ => xs.length - (intOf vi).toNat)
    case atStart => exact ⟨0, by omega, rfl, rfl, Drawn.refl _⟩
    case round =>
      obtain ⟨i, hi, rfl, rfl, hwr⟩ := hrel
      by_cases hlt : i < xs.length
      · first
        | (exfalso; omega)
        | (have hcell := (hwr.cell ⟨b, off + i, none⟩).trans (hc i hlt)
           rw [hg i hlt] at hcell
           have Hc := Lib.hid hc; clear hc
           have Hg := Lib.hid hg; clear hg
           have e2 : (((k + i : Nat) : Int) != ((k + i : Nat) : Int)) = false := by rw [bne_eq_false_iff_eq]
           go_wp2
           go_roundw
           case rel => exact ⟨i + 1, by omega, ret_num (by omega), ret_num (by omega), hwr⟩
           case measure => simp [intOf]; omega)
      · go_wp2
        go_ret
        exact ⟨ret_int (by omega), hwr⟩

end Go.Proofs.Ytfnhafgjdnlhiaa

/- Rows of fields: the numbers that mark them, their sizes, their copies; general steps, nothing here speaks of the program. -/
namespace Go.Proofs.Ytfnhafgjdnlhiaa
open Go.RowKit

/-! marks -/
/-- A field's mark, and the next number. -/
def Fd.mk' (k : Nat) : Fd → Fd
  | .i _ => .i k
  | .b _ => .b (k % 3 == 0)
  | .s t => .s t
  | .l xs => .l (markL k xs.length)
def Fd.nx (k : Nat) : Fd → Nat
  | .i _ => k + 1
  | .b _ => k + 1
  | .s _ => k
  | .l xs => k + xs.length
def mkE : Nat → List Fd → List Fd
  | _, [] => []
  | k, f :: e => f.mk' k :: mkE (f.nx k) e
def nxE : Nat → List Fd → Nat
  | k, [] => k
  | k, f :: e => nxE (f.nx k) e
theorem mkE_len : ∀ (k : Nat) (e : List Fd), (mkE k e).length = e.length
  | _, [] => rfl
  | k, f :: e => by simp [mkE, mkE_len (f.nx k) e]
/-- How many numbers a field takes. -/
def Fd.sz : Fd → Nat
  | .i _ => 1
  | .b _ => 1
  | .s _ => 0
  | .l xs => xs.length
theorem nx_sz (k : Nat) (f : Fd) : f.nx k = k + f.sz := by cases f <;> rfl
def szE (e : List Fd) : Nat := (e.map Fd.sz).sum
theorem nxE_sz : ∀ (e : List Fd) (k : Nat), nxE k e = k + szE e
  | [], k => by simp [nxE, szE]
  | f :: e, k => by rw [nxE, nxE_sz e, nx_sz]; simp [szE]; omega
/-- The number with which row i begins. -/
def kTo (es : List (List Fd)) (k i : Nat) : Nat := k + ((es.take i).map szE).sum
theorem kTo_zero (es : List (List Fd)) (k : Nat) : kTo es k 0 = k := by simp [kTo]
theorem kTo_succ {es : List (List Fd)} {k i : Nat} (h : i < es.length) : kTo es k (i + 1) = nxE (kTo es k i) es[i] := by
  unfold kTo
  rw [nxE_sz, List.take_succ_eq_append_getElem h, List.map_append, List.sum_append]
  simp; omega
theorem kTo_le {es : List (List Fd)} {k i n : Nat} (h : i ≤ n) : kTo es k i ≤ kTo es k n := by
  induction n with
  | zero => have : i = 0 := by omega
            subst this; exact Nat.le_refl _
  | succ n ih =>
    by_cases e : i = n + 1
    · subst e; exact Nat.le_refl _
    · refine Nat.le_trans (ih (by omega)) ?_
      by_cases hn : n < es.length
      · rw [kTo_succ hn, nxE_sz]; omega
      · unfold kTo
        rw [List.take_of_length_le (by omega), List.take_of_length_le (by omega)]
        exact Nat.le_refl _
/-- The rows when the first i are marked. -/
def mkTo (es : List (List Fd)) (k i : Nat) : List (List Fd) := (List.range es.length).map fun j => if j < i then mkE (kTo es k j) (es.getD j []) else es.getD j []
theorem mkTo_len (es : List (List Fd)) (k i : Nat) : (mkTo es k i).length = es.length := by simp [mkTo]
theorem getE {es : List (List Fd)} {j : Nat} (h : j < es.length) : es.getD j [] = es[j] := by simp [List.getD, List.getElem?_eq_getElem h]
theorem mkTo_get {es : List (List Fd)} {k i j : Nat} (h : j < (mkTo es k i).length) : (mkTo es k i)[j] = if j < i then mkE (kTo es k j) (es.getD j []) else es.getD j [] := by simp [mkTo]
theorem mkTo_zero (es : List (List Fd)) (k : Nat) : mkTo es k 0 = es := by
  apply List.ext_getElem
  · simp [mkTo]
  · intro j h1 h2
    rw [mkTo_get, if_neg (by omega), getE h2]
theorem mkTo_at {es : List (List Fd)} {k i : Nat} (h : i < es.length) (h' : i < (mkTo es k i).length) : (mkTo es k i)[i] = es[i] := by rw [mkTo_get, if_neg (by omega), getE h]
theorem mkTo_all {es : List (List Fd)} {k i : Nat} (h : i < es.length) (h' : i < (mkTo es k es.length).length) : (mkTo es k es.length)[i] = mkE (kTo es k i) es[i] := by rw [mkTo_get, if_pos h, getE h]
theorem mkTo_set {es : List (List Fd)} {k i : Nat} (h : i < es.length) : (mkTo es k i).set i (mkE (kTo es k i) es[i]) = mkTo es k (i + 1) := by
  apply List.ext_getElem
  · simp [mkTo]
  · intro j h1 h2
    by_cases e : j = i
    · subst e; simp only [List.getElem_set_self]; rw [mkTo_get, if_pos (by omega), getE h]
    · rw [List.getElem_set_ne (fun h => e h.symm), mkTo_get, mkTo_get]
      by_cases e2 : j < i
      · rw [if_pos e2, if_pos (by omega)]
      · rw [if_neg e2, if_neg (by omega)]

/-! sizes -/
def Fd.ln : Fd → Nat
  | .l xs => xs.length
  | _ => 0
def lnE (e : List Fd) : Nat := (e.map Fd.ln).sum
/-- How many numbers lie in the lists of the first k rows. -/
def lnTo (es : List (List Fd)) (k : Nat) : Nat := ((es.take k).map lnE).sum
theorem lnTo_zero (es : List (List Fd)) : lnTo es 0 = 0 := by simp [lnTo]
theorem lnTo_succ {es : List (List Fd)} {k : Nat} (h : k < es.length) : lnTo es (k + 1) = lnTo es k + lnE es[k] := by
  unfold lnTo
  rw [List.take_succ_eq_append_getElem h, List.map_append, List.sum_append]
  simp
theorem lnTo_le {es : List (List Fd)} {k n : Nat} (h : k ≤ n) : lnTo es k ≤ lnTo es n := by
  induction n with
  | zero => have : k = 0 := by omega
            subst this; exact Nat.le_refl _
  | succ n ih =>
    by_cases e : k = n + 1
    · subst e; exact Nat.le_refl _
    · refine Nat.le_trans (ih (by omega)) ?_
      by_cases hn : n < es.length
      · rw [lnTo_succ hn]; omega
      · unfold lnTo
        rw [List.take_of_length_le (by omega), List.take_of_length_le (by omega)]
        exact Nat.le_refl _
theorem lnTo_none {es : List (List Fd)} (h : ∀ e ∈ es, lnE e = 0) (k : Nat) : lnTo es k = 0 := by
  unfold lnTo
  rw [List.sum_eq_zero_iff_forall_eq_nat]
  intro n hn
  obtain ⟨e, he, rfl⟩ := List.mem_map.1 hn
  exact h e (List.mem_of_mem_take he)
theorem lnTo_in {es : List (List Fd)} {m : Nat} (h : lnTo es es.length ≤ m) : ∀ e ∈ es, lnE e ≤ m := by
  intro e he
  obtain ⟨k, hk, rfl⟩ := List.mem_iff_getElem.1 he
  have := lnTo_le (es := es) (show k + 1 ≤ es.length from hk)
  rw [lnTo_succ hk] at this
  omega
theorem ln_in {e : List Fd} {xs : List Int} {m : Nat} (h : lnE e ≤ m) (hx : Fd.l xs ∈ e) : xs.length ≤ m := by
  unfold lnE at h
  induction e with
  | nil => cases hx
  | cons f e ih =>
    rw [List.map_cons, List.sum_cons] at h
    rcases List.mem_cons.1 hx with rfl | hx
    · have : (Fd.l xs).ln = xs.length := rfl
      omega
    · exact ih (by omega) hx
theorem sz_ln (f : Fd) : f.sz ≤ 1 + f.ln := by cases f <;> simp [Fd.sz, Fd.ln]
theorem szE_ln : ∀ e : List Fd, szE e ≤ e.length + lnE e
  | [] => by simp [szE, lnE]
  | f :: e => by have := szE_ln e; have := sz_ln f; simp [szE, lnE] at *; omega
/-- The marks of rows of m fields are few. -/
theorem kTo_bd {es : List (List Fd)} {m : Nat} (hm : ∀ e ∈ es, e.length = m) (k : Nat) : ∀ i, i ≤ es.length → kTo es k i ≤ k + (i * m + lnTo es i)
  | 0, _ => by simp [kTo, lnTo]
  | i + 1, h => by
    have h1 := kTo_bd hm k i (by omega)
    have h2 := szE_ln es[i]
    rw [hm _ (List.getElem_mem _)] at h2
    rw [kTo_succ (by omega), nxE_sz, lnTo_succ (by omega), Nat.add_mul]
    omega

/-! copies -/
/-- Of these rows the first k have been copied, the others are the row z. -/
def cpTo (es : List (List Fd)) (z : List Fd) (k : Nat) : List (List Fd) := (List.range es.length).map fun i => if i < k then es.getD i [] else z
theorem cpTo_len (es : List (List Fd)) (z : List Fd) (k : Nat) : (cpTo es z k).length = es.length := by simp [cpTo]
theorem cpTo_get {es : List (List Fd)} {z : List Fd} {k i : Nat} (h : i < (cpTo es z k).length) : (cpTo es z k)[i] = if i < k then es.getD i [] else z := by simp [cpTo]
theorem cpTo_all (es : List (List Fd)) (z : List Fd) : cpTo es z es.length = es := by
  refine List.ext_getElem (by simp [cpTo]) fun i h1 h2 => ?_
  rw [cpTo_get, if_pos h2, getE h2]
theorem cpTo_step {es : List (List Fd)} {z : List Fd} {k : Nat} (hk : k < es.length) : (cpTo es z k).set k es[k] = cpTo es z (k + 1) := by
  refine List.ext_getElem (by simp [cpTo]) fun i h1 h2 => ?_
  by_cases hik : k = i
  · subst hik
    rw [List.getElem_set_self, cpTo_get, if_pos (by omega), getE hk]
  · rw [List.getElem_set_ne hik, cpTo_get, cpTo_get]
    by_cases h : i < k
    · rw [if_pos h, if_pos (by omega)]
    · rw [if_neg h, if_neg (by omega)]

/-! fields -/
/-- A truth value is stored. -/
theorem OwnR.setB {E Ei : TypeId} {sz : Nat} {w : World} {B hi g n cap : Nat} {es : List (List Fd)} (h : OwnR E Ei sz w B hi (.slice (some ⟨g, 0, none⟩) n cap) es) (hn : n = es.length) {k j : Nat} (hk : k < es.length) (hj : j < sz) (x : Bool) :
    OwnR E Ei sz (w.setCell ⟨g, k * sz + j, none⟩ (.bool x)) B hi (.slice (some ⟨g, 0, none⟩) n cap) (es.set k ((es[k]).set j (.b x))) :=
  h.setF hn hk hj (f := .b x) rfl (Nat.le_refl _) (fun b e => by cases e)
/-- The block of a field's list lies among the rows' own. -/
theorem OwnR.range {E Ei : TypeId} {sz : Nat} {w : World} {B hi g n cap : Nat} {es : List (List Fd)} (h : OwnR E Ei sz w B hi (.slice (some ⟨g, 0, none⟩) n cap) es) {k j : Nat} (hk : k < es.length) (hj : j < (es[k]).length) {c : Value} (hc : w.cell? ⟨g, k * sz + j, none⟩ = some c) :
    ∀ b, c.ownBlock = some b → B ≤ b ∧ b < hi := by
  obtain ⟨cs, o1, o2, _, _, o5, _⟩ := h.row
  obtain ⟨c', hc', _⟩ := o2 k j hk hj
  have hcc := World.ownsRow.cells o1 (g := g) rfl _ _ hc'
  rw [addr_add, hc] at hcc
  obtain rfl := Option.some.inj hcc
  exact fun b hb => o5 _ c b hc' hb
/-- A field's value by its kind. -/
theorem OwnR.fieldI {E Ei : TypeId} {sz : Nat} {w : World} {B hi g n cap : Nat} {es : List (List Fd)} (h : OwnR E Ei sz w B hi (.slice (some ⟨g, 0, none⟩) n cap) es) {k j : Nat} (hk : k < es.length) (hj : j < (es[k]).length) {x : Int} (hx : (es[k])[j] = .i x) :
    w.cell? ⟨g, k * sz + j, none⟩ = some (.int .i64 x) ∧ w.frozen? ⟨g, k * sz + j, none⟩ = false := by
  obtain ⟨c, h1, h2, h3, _⟩ := h.cell hk hj
  rw [hx] at h2
  obtain rfl : c = .int .i64 x := h2
  exact ⟨h1, h3⟩
theorem OwnR.fieldB {E Ei : TypeId} {sz : Nat} {w : World} {B hi g n cap : Nat} {es : List (List Fd)} (h : OwnR E Ei sz w B hi (.slice (some ⟨g, 0, none⟩) n cap) es) {k j : Nat} (hk : k < es.length) (hj : j < (es[k]).length) {x : Bool} (hx : (es[k])[j] = .b x) :
    w.cell? ⟨g, k * sz + j, none⟩ = some (.bool x) ∧ w.frozen? ⟨g, k * sz + j, none⟩ = false := by
  obtain ⟨c, h1, h2, h3, _⟩ := h.cell hk hj
  rw [hx] at h2
  obtain rfl : c = .bool x := h2
  exact ⟨h1, h3⟩
theorem OwnR.fieldL {E Ei : TypeId} {sz : Nat} {w : World} {B hi g n cap : Nat} {es : List (List Fd)} (h : OwnR E Ei sz w B hi (.slice (some ⟨g, 0, none⟩) n cap) es) {k j : Nat} (hk : k < es.length) (hj : j < (es[k]).length) {xs : List Int} (hx : (es[k])[j] = .l xs) :
    ∃ a c, w.cell? ⟨g, k * sz + j, none⟩ = some (.slice a xs.length c) ∧ Own Ei w B (.slice a xs.length c) xs ∧ w.frozen? ⟨g, k * sz + j, none⟩ = false ∧ (Value.slice a xs.length c).ownBlock ≠ some g ∧ ∀ b, (Value.slice a xs.length c).ownBlock = some b → B ≤ b ∧ b < hi := by
  obtain ⟨c, h1, h2, h3, h4⟩ := h.cell hk hj
  rw [hx] at h2
  have h2' : Own Ei w B c xs := h2
  obtain ⟨a, cap', rfl, _, _⟩ := h2'.ints
  exact ⟨a, cap', h1, h2', h3, h4, h.range hk hj h1⟩

/-! rows that are read -/
def rowsD (es : List (List Fd)) : Dt := .l (es.map fun e => e.map Fd.dt)
/-- A list of rows in memory: each field's cell and how it reads. -/
theorem rows_at {w : World} {es : List (List Fd)} {a : Option Addr} {n cap : Nat} {fp : List Nat} (h : Rd w (rowsD es) (.slice a n cap) fp) (hne : 0 < es.length) {m : Nat} (hm : ∀ e ∈ es, e.length = m) :
    ∃ g off, a = some ⟨g, off, none⟩ ∧ g < w.heap.size ∧ ∀ k (hk : k < es.length) j (hj : j < (es[k]).length), ∃ c fp', w.cell? ⟨g, off + k * m + j, none⟩ = some c ∧ Rd w (((es[k])[j]).dt) c fp' := by
  obtain ⟨g, off, rfl, hg, _, _, _, hc⟩ := Rd.at h (by simpa using hne) (sz := m) (by intro e he; obtain ⟨e', he', rfl⟩ := List.mem_map.1 he; rw [List.length_map]; exact hm e' he')
  refine ⟨g, off, rfl, hg, fun k hk j hj => ?_⟩
  obtain ⟨v, fp', h1, h2, _⟩ := hc k j (by simpa using hk) (by simpa using hj)
  refine ⟨v, fp', by rw [Nat.add_assoc]; exact h1, by simpa using h2⟩
theorem rd_i {w : World} {c : Value} {fp : List Nat} {f : Fd} {x : Int} (h : Rd w f.dt c fp) (hf : f = .i x) : c = .int .i64 x := by subst hf; exact (Rd.int h).1
theorem rd_b {w : World} {c : Value} {fp : List Nat} {f : Fd} {x : Bool} (h : Rd w f.dt c fp) (hf : f = .b x) : c = .bool x := by subst hf; exact (Rd.bool h).1
theorem rd_l {w : World} {c : Value} {fp : List Nat} {f : Fd} {xs : List Int} (h : Rd w f.dt c fp) (hf : f = .l xs) : ∃ a cap, c = .slice a xs.length cap ∧ IntsAt w a xs := by
  subst hf
  obtain ⟨a, cap, rfl, _, hi⟩ := Rd.ints (show Rd w (intsD xs) c fp from h)
  exact ⟨a, cap, rfl, hi⟩
theorem rd_ls {w : World} {c : Value} {fp : List Nat} {f : Fd} {xs : List Int} (h : Rd w f.dt c fp) (hf : f = .l xs) : ∃ a cap, c = .slice a xs.length cap ∧ IntsAt w a xs ∧ SrcAt w a cap xs := by
  subst hf
  have h' : Rd w (intsD xs) c fp := h
  obtain ⟨a, cap, rfl, _, hi⟩ := Rd.ints h'
  refine ⟨a, cap, rfl, hi, ?_⟩
  rcases hi with rfl | ⟨b, off, rfl, _, hc⟩
  · cases a with
    | none => exact .inl ⟨rfl, rfl, Rd.nilcap h'⟩
    | some ad => exact .inr ⟨ad, rfl, fun j hj => by simp at hj⟩
  · exact .inr ⟨_, rfl, fun j hj => by rw [addr_add']; exact hc j hj⟩
theorem OwnR.reads {E Ei : TypeId} {sz : Nat} {w : World} {B hi : Nat} {v : Value} {es : List (List Fd)} (h : OwnR E Ei sz w B hi v es) : ∃ fp, Rd w (rowsD es) v fp := by
  obtain ⟨fp, hr, _⟩ := h.bld.rd
  exact ⟨fp, hr⟩

/-! one row among rows -/
theorem set_self' {es : List (List Fd)} {j : Nat} {e : List Fd} (h : j < es.length) (he : es[j] = e) : es.set j e = es := by subst he; exact List.set_getElem_self h
section
variable {E Ei : TypeId} {sz : Nat} {w : World} {B hi g n cap : Nat} {es : List (List Fd)} {j : Nat} {row : List Fd}
theorem OwnR.rowI (h : OwnR E Ei sz w B hi (.slice (some ⟨g, 0, none⟩) n cap) (es.set j row)) (hn : n = es.length) (hj : j < es.length) (q : Nat) (hq : q < sz) (z : Int) :
    OwnR E Ei sz (w.setCell ⟨g, j * sz + q, none⟩ (.int .i64 z)) B hi (.slice (some ⟨g, 0, none⟩) n cap) (es.set j (row.set q (.i z))) := by
  have := h.setI (by rw [List.length_set]; exact hn) (k := j) (by rw [List.length_set]; exact hj) hq z
  rwa [List.getElem_set_self, List.set_set] at this
theorem OwnR.rowB (h : OwnR E Ei sz w B hi (.slice (some ⟨g, 0, none⟩) n cap) (es.set j row)) (hn : n = es.length) (hj : j < es.length) (q : Nat) (hq : q < sz) (z : Bool) :
    OwnR E Ei sz (w.setCell ⟨g, j * sz + q, none⟩ (.bool z)) B hi (.slice (some ⟨g, 0, none⟩) n cap) (es.set j (row.set q (.b z))) := by
  have := h.setB (by rw [List.length_set]; exact hn) (k := j) (by rw [List.length_set]; exact hj) hq z
  rwa [List.getElem_set_self, List.set_set] at this
theorem OwnR.rowF (h : OwnR E Ei sz w B hi (.slice (some ⟨g, 0, none⟩) n cap) (es.set j row)) (hn : n = es.length) (hj : j < es.length) (q : Nat) (hq : q < sz) {u : Value} {f : Fd} {hi' : Nat} (hf : FdOk Ei w B u f) (hhi : hi ≤ hi') (hu : ∀ b, u.ownBlock = some b → hi ≤ b ∧ b < hi') :
    OwnR E Ei sz (w.setCell ⟨g, j * sz + q, none⟩ u) B hi' (.slice (some ⟨g, 0, none⟩) n cap) (es.set j (row.set q f)) := by
  have := h.setF (by rw [List.length_set]; exact hn) (k := j) (by rw [List.length_set]; exact hj) hq hf hhi hu
  rwa [List.getElem_set_self, List.set_set] at this
theorem OwnR.rowL {w' : World} (h : OwnR E Ei sz w B hi (.slice (some ⟨g, 0, none⟩) n cap) (es.set j row)) (hj : j < es.length) (q : Nat) (hq : q < sz) {c : Value} (hc : w.cell? ⟨g, j * sz + q, none⟩ = some c) {ys : List Int} (hown : Own Ei w' B c ys) (hg : w.grownBy w' c.ownBlock) :
    OwnR E Ei sz w' B hi (.slice (some ⟨g, 0, none⟩) n cap) (es.set j (row.set q (.l ys))) := by
  have := h.setL (k := j) (by rw [List.length_set]; exact hj) hq hc hown (fun b hb hne => hg.block b hb fun e => hne e.symm)
  rwa [List.getElem_set_self, List.set_set] at this
theorem OwnR.rcI (h : OwnR E Ei sz w B hi (.slice (some ⟨g, 0, none⟩) n cap) (es.set j row)) (hj : j < es.length) (q : Nat) {x : Int} (hx : row[q]? = some (.i x)) :
    w.cell? ⟨g, j * sz + q, none⟩ = some (.int .i64 x) ∧ w.frozen? ⟨g, j * sz + q, none⟩ = false := by
  obtain ⟨hq, hx⟩ := List.getElem?_eq_some_iff.1 hx
  exact h.fieldI (k := j) (j := q) (by rw [List.length_set]; exact hj) (by rw [List.getElem_set_self]; exact hq) (by simp only [List.getElem_set_self]; exact hx)
theorem OwnR.rcB (h : OwnR E Ei sz w B hi (.slice (some ⟨g, 0, none⟩) n cap) (es.set j row)) (hj : j < es.length) (q : Nat) {x : Bool} (hx : row[q]? = some (.b x)) :
    w.cell? ⟨g, j * sz + q, none⟩ = some (.bool x) ∧ w.frozen? ⟨g, j * sz + q, none⟩ = false := by
  obtain ⟨hq, hx⟩ := List.getElem?_eq_some_iff.1 hx
  exact h.fieldB (k := j) (j := q) (by rw [List.length_set]; exact hj) (by rw [List.getElem_set_self]; exact hq) (by simp only [List.getElem_set_self]; exact hx)
theorem OwnR.rcL (h : OwnR E Ei sz w B hi (.slice (some ⟨g, 0, none⟩) n cap) (es.set j row)) (hj : j < es.length) (q : Nat) {xs : List Int} (hx : row[q]? = some (.l xs)) :
    ∃ a c, w.cell? ⟨g, j * sz + q, none⟩ = some (.slice a xs.length c) ∧ Own Ei w B (.slice a xs.length c) xs ∧ w.frozen? ⟨g, j * sz + q, none⟩ = false ∧ (Value.slice a xs.length c).ownBlock ≠ some g ∧ ∀ b, (Value.slice a xs.length c).ownBlock = some b → B ≤ b ∧ b < hi := by
  obtain ⟨hq, hx⟩ := List.getElem?_eq_some_iff.1 hx
  exact h.fieldL (k := j) (j := q) (by rw [List.length_set]; exact hj) (by rw [List.getElem_set_self]; exact hq) (by simp only [List.getElem_set_self]; exact hx)
end
/-- New rows are rows of zeros. -/
theorem made_at' (z : Array Value) {n p : Nat} (h : p < n) : (madeCells z n).toList[p]? = some z[p % z.size]! := by
  unfold madeCells; rw [Array.getElem?_toList, Array.getElem?_map, Array.getElem?_range]; simp [h]
theorem ownR_new {E Ei : TypeId} {m : Nat} (w : World) (es : List (List Fd)) (zv : List Value) (z : List Fd) (hm : es.length ≤ maxLen) (hl : zv.length = m) (hz : z.length = m) (hpos : 0 < m) (hn : ∀ c ∈ zv, c.ownBlock = none) (hok : ∀ W B j (h : j < zv.length) (h' : j < z.length), FdOk Ei W B zv[j] z[j]) :
    OwnR E Ei m (w.alloc (.cells (madeCells zv.toArray (es.length * m)) E)) w.heap.size (w.heap.size + 1) (.slice (some ⟨w.heap.size, 0, none⟩) es.length es.length) (cpTo es z 0) := by
  have hc : ∀ (p : Nat) (c : Value), (madeCells zv.toArray (es.length * m)).toList[p]? = some c → c ∈ zv := by
    intro p c h
    have hp : p < es.length * m := by
      obtain ⟨h1, _⟩ := List.getElem?_eq_some_iff.1 h
      simpa [madeCells] using h1
    rw [made_at' _ hp] at h
    have hq : p % zv.toArray.size < zv.length := by simp; exact Nat.mod_lt _ (by omega)
    have : c = zv[p % zv.toArray.size] := by
      have := Option.some.inj h
      rw [← this]
      have hq' : p % zv.length < zv.length := by simpa using hq
      simp [List.getElem?_eq_getElem hq']
    rw [this]; exact List.getElem_mem hq
  have hno : ∀ (p : Nat) (c : Value), (madeCells zv.toArray (es.length * m)).toList[p]? = some c → c.ownBlock = none := fun p c h => hn c (hc p c h)
  refine ⟨fun e he => ?_, (madeCells zv.toArray (es.length * m)).toList, ⟨by rw [cpTo_len]; simp [madeCells], .inr ⟨w.heap.size, es.length, _, by rw [cpTo_len], Nat.le_refl _, heap_alloc_new w _, by rw [cpTo_len]; exact Nat.le_refl _, hm, by simp [madeCells], by rw [cpTo_len]; exact List.take_of_length_le (by simp [madeCells])⟩⟩, fun k j hk hj => ?_, ?_, ?_, ?_, ?_⟩
  · unfold cpTo at he
    obtain ⟨i, _, rfl⟩ := List.mem_map.1 he
    rw [if_neg (by omega)]; exact hz
  · have hkL : k < es.length := by rw [cpTo_len] at hk; exact hk
    have hg : (cpTo es z 0)[k] = z := by rw [cpTo_get, if_neg (by omega)]
    simp only [hg] at hj ⊢
    have hlt : k * m + j < es.length * m := by
      have := Nat.mul_le_mul_right m (show k + 1 ≤ es.length by omega)
      rw [Nat.add_mul] at this; omega
    refine ⟨zv[j], ?_, hok _ _ j (by omega) hj⟩
    rw [made_at' _ hlt]
    have : (k * m + j) % zv.toArray.size = j := by
      rw [List.size_toArray, hl, Nat.add_comm, Nat.add_mul_mod_self_right, Nat.mod_eq_of_lt (by omega)]
    rw [this]
    simp [show j < zv.length by omega]
  · intro p q c d h1 h2 _ g e
    rw [hno p c h1] at e; cases e
  · intro p c h g e
    rw [hno p c h] at e; cases e
  · intro p c g h e
    rw [hno p c h] at e; cases e
  · intro g e
    cases e; exact Nat.lt_succ_self _

end Go.Proofs.Ytfnhafgjdnlhiaa

/- Arguments that came in, read as data: numbers, truth values, texts, slices of these and of structs of these; general steps, nothing here speaks of the program. -/
namespace Go.Proofs.Ytfnhafgjdnlhiaa
open Go.ChangeShapes Go.WideShapes Go.ChangeAt Go.RowKit

section
variable {H : Type} {enc : TypeId × Value → H} {P : Program} {W : World}

/-- A one-cell value of type t that came in reads as a datum with G. -/
def Opens (H : Type) (enc : TypeId × Value → H) (P : Program) (W : World) (t : TypeId) (G : Dt → Prop) : Prop :=
  P.cellsOf t = 1 ∧ ∀ fuel c x, DataW.trod enc P W 0 (fun _ => true) true fuel t [c] = some x → ∃ d fp, Rd W d c fp ∧ G d
def IntG (d : Dt) : Prop := ∃ n, d = .i n ∧ (-9223372036854775808 ≤ n ∧ n ≤ 9223372036854775807)
def BoolG (d : Dt) : Prop := ∃ x, d = .b x
def StrG (d : Dt) : Prop := ∃ s : ByteArray, d = .s s ∧ s.size ≤ maxLen
/-- A list whose elements are rows of these. -/
def RowsG (Gs : List (Dt → Prop)) (d : Dt) : Prop := ∃ es : List (List Dt), d = .l es ∧ es.length ≤ maxLen ∧ ∀ e ∈ es, e.length = Gs.length ∧ ∀ j (h : j < e.length) (h' : j < Gs.length), Gs[j] e[j]
theorem opens_int {t : TypeId} (ht : P.underlying t = some (.int .i64)) (hc : P.cellsOf t = 1) : Opens H enc P W t IntG := ⟨hc, fun fuel c x h => by
  obtain ⟨n, e, _, hw⟩ := DataW.trod_int ht h
  obtain rfl : c = .int .i64 n := by simpa using e
  exact ⟨.i n, [], .i n, n, rfl, wf_i64 hw⟩⟩
theorem opens_bool {t : TypeId} (ht : P.underlying t = some .bool) (hc : P.cellsOf t = 1) : Opens H enc P W t BoolG := ⟨hc, fun fuel c x h => by
  obtain ⟨n, e, _⟩ := DataW.trod_bool ht h
  obtain rfl : c = .bool n := by simpa using e
  exact ⟨.b n, [], .b n, n, rfl⟩⟩
theorem opens_str {t : TypeId} (ht : P.underlying t = some .string) (hc : P.cellsOf t = 1) : Opens H enc P W t StrG := ⟨hc, fun fuel c x h => by
  obtain ⟨n, e, _, hs⟩ := DataW.trod_string ht h
  obtain rfl : c = .string n := by simpa using e
  exact ⟨.s n, [], .s n, n, rfl, hs⟩⟩
theorem mapM_some {α β : Type} {f : α → Option β} : ∀ {l : List α} {r : List β}, l.mapM f = some r → r.length = l.length ∧ ∀ i (h : i < l.length) (h' : i < r.length), f l[i] = some r[i]
  | [], r, h => by
    have : r = [] := by simpa using h.symm
    subst this
    exact ⟨rfl, fun i h => by simp at h⟩
  | x :: l, r, h => by
    rw [List.mapM_cons] at h
    simp only [Option.bind_eq_bind, Option.bind_eq_some_iff, Option.pure_def, Option.some.injEq] at h
    obtain ⟨y, hy, ys, hys, rfl⟩ := h
    obtain ⟨h1, h2⟩ := mapM_some hys
    refine ⟨by simp [h1], fun i hi hi' => ?_⟩
    cases i with
    | zero => simpa using hy
    | succ i => simpa using h2 i (by simpa using hi) (by simpa using hi')
/-- A slice's elements, whatever reads each of them. -/
theorem opens_slice_by {T e : TypeId} {sz : Nat} {Gs : List (Dt → Prop)} (hT : P.underlying T = some (.slice e)) (hc : P.cellsOf T = 1) (hsz : P.cellsOf e = sz) (hpos : 0 < sz) (hg : Gs.length = sz)
    (hE : ∀ fuel cs x, cs.length = sz → DataW.trod enc P W 0 (fun _ => true) true fuel e cs = some x → ∀ j (h : j < cs.length) (h' : j < Gs.length), ∃ d fp, Rd W d cs[j] fp ∧ Gs[j] d) : Opens H enc P W T (RowsG Gs) := by
  refine ⟨hc, fun fuel c x h => ?_⟩
  rcases Go.Deep.open_slice hT h with ⟨e1, _⟩ | ⟨a, len, cap, m, n, D, Pl, e1, _, hlc, hcm, hm, _, hel⟩
  · obtain rfl : c = .slice none 0 0 := by simpa using e1
    exact ⟨.l [], [], .nil _ _ (fun _ => rfl), [], rfl, by simp, by simp⟩
  · obtain rfl : c = .slice (some a) len cap := by simpa using e1
    rw [if_pos rfl] at hm
    have hm' := hm.symm
    subst hm'
    rcases Nat.eq_zero_or_pos len with h0 | h0
    · subst h0; exact ⟨.l [], [], .nil _ _ (fun e => by cases e), [], rfl, by simp, by simp⟩
    · have hrow : ∀ i, i < len → ∃ cs : List Value, cs.length = sz ∧ (∀ j (h : j < cs.length), W.cell? ((a.add (i * sz)).add j) = some cs[j]) ∧ ∀ j (h : j < cs.length) (h' : j < Gs.length), ∃ d fp, Rd W d cs[j] fp ∧ Gs[j] d := by
        intro i hi
        obtain ⟨cs, h1, h2⟩ := hel i (by omega)
        rw [hsz] at h1
        unfold World.cells? at h1
        rw [if_pos (Nat.zero_le _)] at h1
        obtain ⟨hl, hcell⟩ := mapM_some h1
        rw [List.length_range] at hl
        exact ⟨cs, hl, fun j hj => by have := hcell j (by rw [List.length_range]; omega) hj; rwa [List.getElem_range] at this, hE n cs _ hl h2⟩
      obtain ⟨cs0, hl0, hc0, _⟩ := hrow 0 h0
      obtain ⟨b, off, spot⟩ := a
      have hspot : spot = none := by
        have := hc0 0 (by omega)
        simpa [Addr.add] using World.cell?_spot this
      subst hspot
      have hblt : b < W.heap.size := by
        have := hc0 0 (by omega)
        rw [show ((⟨b, off, none⟩ : Addr).add (0 * sz)).add 0 = ⟨b, off, none⟩ by simp [Addr.add]] at this
        exact World.block_lt_of_cell? W _ this
      have hex : ∀ k j, ∃ p : Value × Dt × List Nat, ∀ (_ : k < len) (_ : j < sz), W.cell? ⟨b, off + (k * sz + j), none⟩ = some p.1 ∧ Rd W p.2.1 p.1 p.2.2 ∧ ∀ (h' : j < Gs.length), Gs[j] p.2.1 := by
        intro k j
        by_cases hk : k < len
        · by_cases hj : j < sz
          · obtain ⟨cs, hl, hcc, hr⟩ := hrow k hk
            obtain ⟨d, fp, h1, h2⟩ := hr j (by omega) (by omega)
            refine ⟨(cs[j]'(by omega), d, fp), fun _ _ => ⟨?_, h1, fun _ => h2⟩⟩
            have := hcc j (by omega)
            rwa [addr_add', addr_add', Nat.add_assoc] at this
          · exact ⟨(undef, .i 0, []), fun _ h => absurd h hj⟩
        · exact ⟨(undef, .i 0, []), fun h => absurd h hk⟩
      obtain ⟨F, hF⟩ : ∃ F : Nat → Nat → Value × Dt × List Nat, ∀ k j (_ : k < len) (_ : j < sz), W.cell? ⟨b, off + (k * sz + j), none⟩ = some (F k j).1 ∧ Rd W (F k j).2.1 (F k j).1 (F k j).2.2 ∧ ∀ (h' : j < Gs.length), Gs[j] (F k j).2.1 :=
        ⟨fun k j => Classical.choose (hex k j), fun k j => Classical.choose_spec (hex k j)⟩
      obtain ⟨es, hes⟩ : ∃ es : List (List Dt), es = (List.range len).map fun k => (List.range sz).map fun j => (F k j).2.1 := ⟨_, rfl⟩
      have hel' : es.length = len := by rw [hes]; simp
      have hget : ∀ k j (hk : k < es.length) (hj : j < (es[k]).length), (es[k])[j] = (F k j).2.1 := fun k j hk hj => by subst hes; simp
      have hrl : ∀ e ∈ es, e.length = sz := by intro e he; rw [hes] at he; obtain ⟨k, _, rfl⟩ := List.mem_map.1 he; simp
      have hrd := Rd.l (w := W) sz es b off cap (fun k j => (F k j).1) (fun k j => (F k j).2.2) (by omega) hrl (by omega) hblt (fun k j hk hj => (hF k j (by omega) hj).1)
        (fun k j hk hj => by rw [hget k j hk hj]; exact (hF k j (by omega) (by rw [← hrl _ (List.getElem_mem hk)]; exact hj)).2.1)
      rw [hel'] at hrd
      refine ⟨.l es, _, hrd, es, rfl, by omega, fun e he => ⟨by rw [hrl e he, hg], fun j hj hj' => ?_⟩⟩
      obtain ⟨k, hk, rfl⟩ := List.mem_iff_getElem.1 he
      rw [hget k j hk hj]
      exact (hF k j (by omega) (by omega)).2.2 hj'
/-- A slice of one-cell elements. -/
theorem opens_slice {T e : TypeId} {G : Dt → Prop} (hT : P.underlying T = some (.slice e)) (hc : P.cellsOf T = 1) (hE : Opens H enc P W e G) : Opens H enc P W T (RowsG [G]) :=
  opens_slice_by (sz := 1) hT hc hE.1 (by omega) rfl fun fuel cs x hl h j hj hj' => by
    have : j = 0 := by omega
    subst this
    match cs, hl with
    | [c], _ => exact hE.2 fuel c x h
/-- The fields of a struct, each in one cell. -/
theorem fields_open {t : TypeId} {fs : Array Field} {Gs : List (Dt → Prop)} (ht : P.underlying t = some (.struct fs)) (_hg : Gs.length = fs.size) (hf : ∀ j (h : j < fs.size) (h' : j < Gs.length), (fs[j]).offset = j ∧ Opens H enc P W (fs[j]).type Gs[j])
    (fuel : Nat) (cs : List Value) (x : DataW H × List MemPlace) (hl : cs.length = fs.size) (h : DataW.trod enc P W 0 (fun _ => true) true fuel t cs = some x) : ∀ j (h : j < cs.length) (h' : j < Gs.length), ∃ d fp, Rd W d cs[j] fp ∧ Gs[j] d := by
  obtain ⟨xs, n, _, rfl, hl', hlen, hff⟩ := DataW.trod_struct ht h
  intro j hj hj'
  have hjf : j < fs.size := by omega
  obtain ⟨ho, hO⟩ := hf j hjf hj'
  have := hff j (fs[j]) (by simp [hjf])
  rw [ho, hO.1] at this
  have hd : (cs.drop j).take 1 = [cs[j]] := by
    rw [List.drop_eq_getElem_cons hj]; rfl
  rw [hd, List.getElem?_eq_getElem (show j < xs.length by omega)] at this
  exact hO.2 n _ _ this
/-- A slice of structs. -/
theorem opens_slice_struct {T e : TypeId} {fs : Array Field} {Gs : List (Dt → Prop)} (hT : P.underlying T = some (.slice e)) (hc : P.cellsOf T = 1) (he : P.underlying e = some (.struct fs)) (hsz : P.cellsOf e = fs.size) (hpos : 0 < fs.size) (hg : Gs.length = fs.size)
    (hf : ∀ j (h : j < fs.size) (h' : j < Gs.length), (fs[j]).offset = j ∧ Opens H enc P W (fs[j]).type Gs[j]) : Opens H enc P W T (RowsG Gs) :=
  opens_slice_by hT hc hsz hpos hg fun fuel cs x hl h => fields_open he hg hf fuel cs x hl h
/-- A struct by value. -/
theorem open_struct {t : TypeId} {fs : Array Field} {Gs : List (Dt → Prop)} {base : Nat} {v : Value} {d : DataW H} {p : List MemPlace} (ht : P.underlying t = some (.struct fs)) (hsz : P.cellsOf t = fs.size) (hg : Gs.length = fs.size) (hf : ∀ j (h : j < fs.size) (h' : j < Gs.length), (fs[j]).offset = j ∧ Opens H enc P W (fs[j]).type Gs[j])
    (hv : Value.okWide P W .any base t v) (h : DataW.Trod enc P W 0 (fun _ => true) true t v d p) : ∃ cs : List Value, v = .agg cs.toArray ∧ cs.length = fs.size ∧ ∀ j (h : j < cs.length) (h' : j < Gs.length), ∃ d fp, Rd W d cs[j] fp ∧ Gs[j] d := by
  unfold Value.okWide at hv
  rw [ht] at hv
  obtain ⟨cs, rfl, hs, _⟩ := hv
  obtain ⟨fuel, hf'⟩ := h
  refine ⟨cs.toList, by simp, by rw [Array.length_toList, hs, hsz], ?_⟩
  exact fields_open ht hg hf fuel cs.toList _ (by rw [Array.length_toList, hs, hsz]) hf'
/-- A one-cell value. -/
theorem open_cell {t : TypeId} {G : Dt → Prop} {v : Value} {d : DataW H} {p : List MemPlace} (hO : Opens H enc P W t G) (hna : v.cells = #[v]) (h : DataW.Trod enc P W 0 (fun _ => true) true t v d p) : ∃ d fp, Rd W d v fp ∧ G d := by
  obtain ⟨fuel, hf⟩ := h
  rw [hna] at hf
  exact hO.2 fuel v _ hf
end
/-- A list of numbers. -/
theorem ints_of {d : Dt} (h : RowsG [IntG] d) : ∃ xs, d = intsD xs ∧ xs.length ≤ maxLen ∧ ∀ x ∈ xs, -9223372036854775808 ≤ x ∧ x ≤ 9223372036854775807 := by
  obtain ⟨es, rfl, hl, he⟩ := h
  refine ⟨es.map fun e => match e with | [.i n] => n | _ => 0, ?_, by simpa using hl, ?_⟩
  · unfold intsD
    congr 1
    rw [List.map_map]
    conv => lhs; rw [← List.map_id es]
    refine List.map_congr_left fun e hm => ?_
    obtain ⟨h1, h2⟩ := he e hm
    match e, h1, h2 with
    | [d], _, h2 =>
      obtain ⟨n, hn, _⟩ := h2 0 (by simp) (by simp)
      simp only [List.getElem_cons_zero] at hn
      subst hn; rfl
  · intro x hx
    obtain ⟨e, hm, rfl⟩ := List.mem_map.1 hx
    obtain ⟨h1, h2⟩ := he e hm
    match e, h1, h2 with
    | [d], _, h2 =>
      obtain ⟨n, hn, hr⟩ := h2 0 (by simp) (by simp)
      simp only [List.getElem_cons_zero] at hn
      subst hn; exact hr

end Go.Proofs.Ytfnhafgjdnlhiaa

/- What the exact laws keep at hand: lists of numbers in blocks of their own within bounds, rows that came in as arguments; general steps, nothing here speaks of the program. -/
namespace Go.Proofs.Ytfnhafgjdnlhiaa
open Go.RowKit

/-- A list of numbers in a block of its own, which lies from lo to before hi. -/
structure OwnI (E : TypeId) (w : World) (lo hi : Nat) (v : Value) (xs : List Int) : Prop where
  own : Own E w lo v xs
  lt : ∀ g, v.ownBlock = some g → g < hi
section
variable {E : TypeId} {w w' : World} {lo hi lo' hi' : Nat} {v : Value} {xs ys : List Int}
theorem OwnI.of (h : Own E w lo v xs) : OwnI E w lo w.heap.size v xs := ⟨h, fun g e => (h.lt g e).2⟩
theorem OwnI.below (h : OwnI E w lo hi v xs) (hb : Below w.heap.size w w') : OwnI E w' lo hi v xs := ⟨h.own.below hb, h.lt⟩
theorem OwnI.btw (h : OwnI E w lo hi v xs) (hb : Btw lo' hi' w w') (hd : hi ≤ lo' ∨ hi' ≤ lo) : OwnI E w' lo hi v xs :=
  ⟨hb.own h.own fun g e => by have := h.own.lt g e; have := h.lt g e; omega, h.lt⟩
theorem OwnI.mark (h : OwnI E w lo hi v xs) (ho : Own E w' lo v ys) : OwnI E w' lo hi v ys := ⟨ho, h.lt⟩
theorem OwnI.marks (h : OwnI E w lo hi v xs) (hg : w.grownBy w' v.ownBlock) : Btw lo hi w w' := .grown hg fun g e => ⟨(h.own.lt g e).1, h.lt g e⟩
theorem OwnI.at {a : Option Addr} {n c : Nat} (h : OwnI E w lo hi (.slice a n c) xs) : IntsAt w a xs := h.own.at
theorem OwnI.ints (h : OwnI E w lo hi v xs) : ∃ a cap, v = .slice a xs.length cap ∧ IntsAt w a xs ∧ xs.length ≤ maxLen := h.own.ints
theorem OwnI.cap {a : Option Addr} {n c : Nat} (h : OwnI E w lo hi (.slice a n c) xs) : xs.length ≤ c := h.own.cap
theorem Str.btw {B : Nat} {t : TypeId} {vs : Array Value} (h : Str w B t vs) (hb : Btw lo hi w w') (hd : B < lo ∨ hi ≤ B) : Str w' B t vs := (hb.block B h.lt (by omega)).trans h
theorem Btw.alloc (w : World) (o : Obj) : Btw lo hi w (w.alloc o) := .grown (World.grownBy_alloc w o none) (by simp)
end

theorem OwnR.from {E Ei : TypeId} {sz : Nat} {w : World} {B B' hi : Nat} {v : Value} {es : List (List Fd)} (h : OwnR E Ei sz w B hi v es) (hB : B' ≤ B) : OwnR E Ei sz w B' hi v es := by
  obtain ⟨cs, h1, h2, h3, h4, h5, h6⟩ := h.row
  refine ⟨h.szs, cs, ⟨h1.1, ?_⟩, fun k j hk hj => ?_, h3, h4, fun p c g a b => ⟨Nat.le_trans hB (h5 p c g a b).1, (h5 p c g a b).2⟩, h6⟩
  · rcases h1.2 with h | ⟨g, cap, cur, e, hb, hrest⟩
    · exact .inl h
    · exact .inr ⟨g, cap, cur, e, Nat.le_trans hB hb, hrest⟩
  obtain ⟨c, hc, hf⟩ := h2 k j hk hj
  refine ⟨c, hc, ?_⟩
  revert hf
  generalize (es[k])[j] = f
  intro hf
  cases f with
  | l xs => exact Own.mono (show Own Ei w B c xs from hf) hB
  | i n => exact hf
  | b n => exact hf
  | s n => exact hf

/-! rows that came in -/
def fitE (e : List Fd) : Prop := (∀ x, Fd.i x ∈ e → -9223372036854775808 ≤ x ∧ x ≤ 9223372036854775807) ∧ ∀ xs, Fd.l xs ∈ e → xs.length ≤ maxLen ∧ ∀ x ∈ xs, -9223372036854775808 ≤ x ∧ x ≤ 9223372036854775807
theorem rows_all {P : List Fd → Prop} : ∀ l : List (List Dt), (∀ e ∈ l, ∃ f : List Fd, e = f.map Fd.dt ∧ P f) → ∃ es : List (List Fd), l = es.map (fun e => e.map Fd.dt) ∧ ∀ e ∈ es, P e
  | [], _ => ⟨[], rfl, by simp⟩
  | e :: l, h => by
    obtain ⟨f, rfl, hf⟩ := h e (by simp)
    obtain ⟨es, rfl, hes⟩ := rows_all l fun e he => h e (List.mem_cons_of_mem _ he)
    refine ⟨f :: es, rfl, fun e he => ?_⟩
    rcases List.mem_cons.1 he with rfl | he
    · exact hf
    · exact hes e he
theorem rows_of {Gs : List (Dt → Prop)} {d : Dt} (h : RowsG Gs d) {P : List Fd → Prop} (hP : ∀ e : List Dt, e.length = Gs.length → (∀ j (h : j < e.length) (h' : j < Gs.length), Gs[j] e[j]) → ∃ f : List Fd, e = f.map Fd.dt ∧ P f) :
    ∃ es, d = rowsD es ∧ es.length ≤ maxLen ∧ ∀ e ∈ es, P e := by
  obtain ⟨l, rfl, hl, he⟩ := h
  obtain ⟨es, rfl, hes⟩ := rows_all l fun e h => hP e (he e h).1 (he e h).2
  exact ⟨es, rfl, by simpa using hl, hes⟩

end Go.Proofs.Ytfnhafgjdnlhiaa

/- What the helpers of the laws answer (copies, comparisons, subsets of numbers), each by a walk of its text; conditions: a list that is read has fewer than 2^40 elements. -/
namespace Go.Proofs.Ytfnhafgjdnlhiaa
open Go.RowKit

theorem TI : IntT Try.prog 23 3 := ⟨Try.underlying23, by kernel_rfl⟩

theorem laws_toIntS (a : Option Addr) (cap : Nat) (xs : List Int) (w : World) (hbig : xs.length ≤ 1099511627776) (hc : IntsAt w a xs) :
    Calls Try.prog 41 #[.slice a xs.length cap] w fun e w' => ∃ v, e = .returned v ∧ Own 3 w' w.heap.size v xs ∧ Below w.heap.size w w' := by
  have hmk : ∀ w, (Instr.makeSlice 23 (.int .i64 (xs.length : Int)) (.int .i64 (xs.length : Int))).run Try.prog w = .ok (.slice (some ⟨w.heap.size, 0, none⟩) xs.length xs.length) (w.alloc (.cells (madeCells #[.int .i64 0] xs.length) 3)) :=
    fun w => run_make_row' 23 3 (.int .i64 0) 8 TI.sl TI.info rfl .i64 .i64 xs.length (by omega) (by omega) w
  rcases hc.len with h0 | ⟨b, off, rfl, hb, hc⟩
  all_goals
    go_enter Try.func41, Try.ntmps41
    go_wp2
    go_loopw [4] (fun i wr => ∃ k : Nat, k ≤ xs.length ∧ i = .int .i64 k ∧ wr.rowIs w.heap.size 3 xs.length (filled xs k) ∧ Below w.heap.size w wr) (fun i _ => xs.length - (intOf i).toNat)
    case atStart => exact ⟨0, by omega, rfl, filled_zero _ _ _, (Below.refl _ _).alloc (Nat.le_refl _) _⟩
    case round =>
      obtain ⟨k, hk, rfl, hrow, hbel⟩ := hrel
      have Hmk := Lib.hid hmk; clear hmk
      by_cases hlt : k < xs.length
      · first
        | (exfalso; omega)
        | (have hcell := (hbel.cell (p := ⟨b, off + k, none⟩) hb).trans (hc k hlt)
           have hold := hrow.cell hlt
           have hfr := hrow.frozen k
           have Hc := Lib.hid hc; clear hc
           go_wp2
           go_roundw
           case rel => exact ⟨k + 1, by omega, by go_num, filled_step hrow hlt, hbel.setCell (Nat.le_refl _) _⟩
           case measure => simp [intOf]; omega)
      · go_wp2
        go_ret
        exact ⟨_, rfl, filled_own hrow (by omega) (Nat.le_refl _) hbig, hbel⟩

def eqUpto (xs ys : List Int) (k : Nat) : Prop := ∀ j, j < k → xs.getD j 0 = ys.getD j 0
theorem eqUpto_zero (xs ys : List Int) : eqUpto xs ys 0 := fun _ h => by omega
theorem eqUpto_step {xs ys : List Int} {k : Nat} (h : eqUpto xs ys k) (h1 : k < xs.length) (h2 : k < ys.length) (e : xs[k] = ys[k]) : eqUpto xs ys (k + 1) := by
  intro j hj
  by_cases ej : j = k
  · subst ej; rw [getD_get h1, getD_get h2, e]
  · exact h j (by omega)
def eqB (xs ys : List Int) : Bool := decide (xs = ys)
theorem eqB_yes {xs ys : List Int} {k : Nat} (h : eqUpto xs ys k) (hl : xs.length = ys.length) (hk : xs.length ≤ k) : eqB xs ys = true := by
  refine decide_eq_true (List.ext_getElem hl fun j h1 h2 => ?_)
  have := h j (by omega)
  rwa [getD_get h1, getD_get h2] at this
theorem eqB_no {xs ys : List Int} {k : Nat} (h1 : k < xs.length) (h2 : k < ys.length) (e : ¬ xs[k] = ys[k]) : eqB xs ys = false := by
  refine decide_eq_false fun h => e ?_
  subst h; rfl
theorem eqB_len {xs ys : List Int} (hl : ¬ xs.length = ys.length) : eqB xs ys = false := decide_eq_false fun h => hl (by rw [h])

theorem laws_eqIntS (a a' : Option Addr) (cap cap' : Nat) (xs ys : List Int) (w : World) (hbig : xs.length ≤ 1099511627776) (_hbig' : ys.length ≤ 1099511627776) (hc : IntsAt w a xs) (hc' : IntsAt w a' ys) :
    Calls Try.prog 43 #[.slice a xs.length cap, .slice a' ys.length cap'] w fun e w' => e = .returned (.bool (eqB xs ys)) ∧ Drawn w w' := by
  by_cases hl : xs.length = ys.length
  · have hn1 : ((xs.length : Int) == (ys.length : Int)) = true := by rw [beq_iff_eq]; omega
    have hn2 : ((xs.length : Int) != (ys.length : Int)) = false := by rw [bne_eq_false_iff_eq]; omega
    have hle : ys.length ≤ xs.length := by omega
    have hge : xs.length ≤ ys.length := by omega
    have Hl := Lib.hid hl; clear hl
    rcases hc.len with h0 | ⟨b, off, rfl, hb, hc⟩ <;> rcases hc'.len with h0' | ⟨b', off', rfl, hb', hc'⟩
    all_goals
      go_enter Try.func43, Try.ntmps43
      go_wp2
      go_loopw [5] (fun i wr => ∃ k : Nat, k ≤ xs.length ∧ i = .int .i64 k ∧ eqUpto xs ys k ∧ Drawn w wr) (fun i _ => xs.length - (intOf i).toNat)
      case atStart => exact ⟨0, by omega, rfl, eqUpto_zero _ _, Drawn.refl _⟩
      case round =>
        obtain ⟨k, hk, rfl, hg, hwr⟩ := hrel
        by_cases hlt : k < xs.length
        · first
          | (exfalso; omega)
          | (have hlt' : k < ys.length := by omega
             have hcell := (hwr.cell ⟨b, off + k, none⟩).trans (hc k hlt)
             have hcell' := (hwr.cell ⟨b', off' + k, none⟩).trans (hc' k hlt')
             have Hc := Lib.hid hc; clear hc
             have Hc' := Lib.hid hc'; clear hc'
             by_cases e : xs[k] = ys[k]
             · have e1 : (xs[k] == ys[k]) = true := by rw [beq_iff_eq]; exact e
               have e2 : (xs[k] != ys[k]) = false := by rw [bne_eq_false_iff_eq]; exact e
               have He := Lib.hid e; clear e
               go_wp2
               go_quiet (fail)
               go_wp2
               go_roundw
               case rel => exact ⟨k + 1, by omega, by go_num, eqUpto_step hg hlt hlt' He.out, hwr.drewN _⟩
               case measure => simp [intOf]; omega
             · have e1 : (xs[k] == ys[k]) = false := by rw [beq_eq_false_iff_ne]; exact e
               have e2 : (xs[k] != ys[k]) = true := by rw [bne_iff_ne]; exact e
               have He := Lib.hid e; clear e
               go_wp2
               go_quiet (fail)
               go_wp2
               go_ret
               exact ⟨ret_bool (eqB_no hlt hlt' He.out).symm, hwr.drewN _⟩)
        · go_wp2
          go_ret
          exact ⟨ret_bool (eqB_yes hg Hl.out (by omega)).symm, hwr⟩
  · have hn1 : ((xs.length : Int) == (ys.length : Int)) = false := by rw [beq_eq_false_iff_ne]; omega
    have hn2 : ((xs.length : Int) != (ys.length : Int)) = true := by rw [bne_iff_ne]; omega
    go_enter Try.func43, Try.ntmps43
    go_wp2
    go_ret
    exact ⟨ret_bool (eqB_len hl).symm, Drawn.refl _⟩

theorem laws_eqIntS' (a a' : Option Addr) (cap cap' : Nat) (xs : List Int) (w : World) (hbig : xs.length ≤ 1099511627776) (hc : IntsAt w a xs) (hc' : IntsAt w a' xs) :
    Calls Try.prog 43 #[.slice a xs.length cap, .slice a' xs.length cap'] w fun e w' => e = .returned (.bool true) ∧ Drawn w w' := by
  have h := laws_eqIntS a a' cap cap' xs xs w hbig hbig hc hc'
  rw [show eqB xs xs = true from decide_eq_true rfl] at h
  exact h

theorem laws_sameInts (a a' : Option Addr) (cap cap' : Nat) (xs ys : List Int) (w : World) (hbig : xs.length ≤ 1099511627776) (_hbig' : ys.length ≤ 1099511627776) (hc : IntsAt w a xs) (hc' : IntsAt w a' ys) :
    Calls Try.prog 36 #[.slice a xs.length cap, .slice a' ys.length cap'] w fun e w' => e = .returned (.bool (eqB xs ys)) ∧ Drawn w w' := by
  by_cases hl : xs.length = ys.length
  · have hn1 : ((xs.length : Int) == (ys.length : Int)) = true := by rw [beq_iff_eq]; omega
    have hn2 : ((xs.length : Int) != (ys.length : Int)) = false := by rw [bne_eq_false_iff_eq]; omega
    have hle : ys.length ≤ xs.length := by omega
    have hge : xs.length ≤ ys.length := by omega
    have Hl := Lib.hid hl; clear hl
    rcases hc.len with h0 | ⟨b, off, rfl, hb, hc⟩ <;> rcases hc'.len with h0' | ⟨b', off', rfl, hb', hc'⟩
    all_goals
      go_enter Try.func36, Try.ntmps36
      go_wp2
      go_loopw [5] (fun i wr => ∃ k : Nat, k ≤ xs.length ∧ i = .int .i64 k ∧ eqUpto xs ys k ∧ Drawn w wr) (fun i _ => xs.length - (intOf i).toNat)
      case atStart => exact ⟨0, by omega, rfl, eqUpto_zero _ _, Drawn.refl _⟩
      case round =>
        obtain ⟨k, hk, rfl, hg, hwr⟩ := hrel
        by_cases hlt : k < xs.length
        · first
          | (exfalso; omega)
          | (have hlt' : k < ys.length := by omega
             have hcell := (hwr.cell ⟨b, off + k, none⟩).trans (hc k hlt)
             have hcell' := (hwr.cell ⟨b', off' + k, none⟩).trans (hc' k hlt')
             have Hc := Lib.hid hc; clear hc
             have Hc' := Lib.hid hc'; clear hc'
             by_cases e : xs[k] = ys[k]
             · have e1 : (xs[k] == ys[k]) = true := by rw [beq_iff_eq]; exact e
               have e2 : (xs[k] != ys[k]) = false := by rw [bne_eq_false_iff_eq]; exact e
               have He := Lib.hid e; clear e
               go_wp2
               go_quiet (fail)
               go_wp2
               go_roundw
               case rel => exact ⟨k + 1, by omega, by go_num, eqUpto_step hg hlt hlt' He.out, hwr.drewN _⟩
               case measure => simp [intOf]; omega
             · have e1 : (xs[k] == ys[k]) = false := by rw [beq_eq_false_iff_ne]; exact e
               have e2 : (xs[k] != ys[k]) = true := by rw [bne_iff_ne]; exact e
               have He := Lib.hid e; clear e
               go_wp2
               go_quiet (fail)
               go_wp2
               go_ret
               exact ⟨ret_bool (eqB_no hlt hlt' He.out).symm, hwr.drewN _⟩)
        · go_wp2
          go_ret
          exact ⟨ret_bool (eqB_yes hg Hl.out (by omega)).symm, hwr⟩
  · have hn1 : ((xs.length : Int) == (ys.length : Int)) = false := by rw [beq_eq_false_iff_ne]; omega
    have hn2 : ((xs.length : Int) != (ys.length : Int)) = true := by rw [bne_iff_ne]; omega
    go_enter Try.func36, Try.ntmps36
    go_wp2
    go_ret
    exact ⟨ret_bool (eqB_len hl).symm, Drawn.refl _⟩

def hasB (l : List Int) (n : Int) : Bool := decide (n ∈ l)
theorem hasB_yes {l : List Int} {k : Nat} (hk : k < l.length) : hasB l l[k] = true := decide_eq_true (List.getElem_mem hk)
theorem hasB_no {l : List Int} {n : Int} {k : Nat} (h : Pre (fun x => x != n) l k) (hk : l.length ≤ k) : hasB l n = false := by
  refine decide_eq_false fun hm => ?_
  obtain ⟨j, hj, e⟩ := List.mem_iff_getElem.1 hm
  have := h j hj (by omega)
  rw [e] at this; simp at this

theorem laws_sameInts' (a a' : Option Addr) (cap cap' : Nat) (xs : List Int) (w : World) (hbig : xs.length ≤ 1099511627776) (hc : IntsAt w a xs) (hc' : IntsAt w a' xs) :
    Calls Try.prog 36 #[.slice a xs.length cap, .slice a' xs.length cap'] w fun e w' => e = .returned (.bool true) ∧ Drawn w w' := by
  have h := laws_sameInts a a' cap cap' xs xs w hbig hbig hc hc'
  rw [show eqB xs xs = true from decide_eq_true rfl] at h
  exact h

def rangeF (p : Nat → Bool) (n : Nat) : List Int := ((List.range n).filter p).map (fun (i : Nat) => (i : Int))
theorem rangeF_zero (p : Nat → Bool) : rangeF p 0 = [] := rfl
theorem rangeF_yes {p : Nat → Bool} {n : Nat} (h : p n = true) : rangeF p (n + 1) = rangeF p n ++ [(n : Int)] := by simp [rangeF, List.range_succ, List.filter_append, h]
theorem rangeF_no {p : Nat → Bool} {n : Nat} (h : p n = false) : rangeF p (n + 1) = rangeF p n := by simp [rangeF, List.range_succ, List.filter_append, h]
theorem rangeF_len (p : Nat → Bool) (n : Nat) : (rangeF p n).length ≤ n := by
  unfold rangeF; rw [List.length_map]; exact Nat.le_trans (List.length_filter_le _ _) (by simp)
def bitB (b : Nat) (i : Nat) : Bool := b / 2 ^ i % 2 == 1
def halved (b k : Nat) : Nat := b / 2 ^ k
theorem halved_zero (b : Nat) : halved b 0 = b := by unfold halved; rw [Nat.pow_zero, Nat.div_one]
theorem halved_succ (b k : Nat) : halved b (k + 1) = halved b k / 2 := by unfold halved; rw [Nat.pow_succ, Nat.div_div_eq_div_mul]
theorem halved_le (b k : Nat) : halved b k ≤ b := Nat.div_le_self _ _

def commonTo (a b : List Int) (k : Nat) : List Int := (a.take k).filter (hasB b)
theorem commonTo_yes {a b : List Int} {k : Nat} (hk : k < a.length) (h : hasB b a[k] = true) : commonTo a b (k + 1) = commonTo a b k ++ [a[k]] := by
  unfold commonTo; rw [List.take_succ_eq_append_getElem hk, List.filter_append]; simp [h]
theorem commonTo_no {a b : List Int} {k : Nat} (hk : k < a.length) (h : hasB b a[k] = false) : commonTo a b (k + 1) = commonTo a b k := by
  unfold commonTo; rw [List.take_succ_eq_append_getElem hk, List.filter_append]; simp [h]
theorem commonTo_len (a b : List Int) (k : Nat) : (commonTo a b k).length ≤ k := Nat.le_trans (List.length_filter_le _ _) (List.length_take_le _ _)
def commonZ (a b : List Int) : List Int := commonTo a b a.length
theorem commonZ_eq (a b : List Int) : commonZ a b = a.filter (hasB b) := by unfold commonZ commonTo; rw [List.take_length]

end Go.Proofs.Ytfnhafgjdnlhiaa

/- What the functions of committees answer, each by a walk of its text: the answers are those of plain functions on lists; conditions: a list that is read has fewer than 2^40 elements. -/
namespace Go.Proofs.Ytfnhafgjdnlhiaa
open Go.RowKit

theorem spec_l6In (n lo hi : Int) (w : World) : Calls Try.prog 58 #[.int .i64 n, .int .i64 lo, .int .i64 hi] w fun e w' => e = .returned (.bool (decide (lo ≤ n ∧ n ≤ hi))) ∧ w = w' := by
  by_cases h1 : lo ≤ n
  · go_enter Try.func58, Try.ntmps58
    go_wp2
    go_ret
    exact ⟨ret_bool (by simp [h1]), rfl⟩
  · go_enter Try.func58, Try.ntmps58
    go_wp2
    go_ret
    exact ⟨ret_bool (by simp; omega), rfl⟩
theorem spec_l6In_yes {n lo hi : Int} (h : lo ≤ n ∧ n ≤ hi) (w : World) : Calls Try.prog 58 #[.int .i64 n, .int .i64 lo, .int .i64 hi] w fun e w' => e = .returned (.bool true) ∧ w = w' := by
  have := spec_l6In n lo hi w
  rwa [decide_eq_true h] at this
theorem spec_l6In_no {n lo hi : Int} (h : ¬ (lo ≤ n ∧ n ≤ hi)) (w : World) : Calls Try.prog 58 #[.int .i64 n, .int .i64 lo, .int .i64 hi] w fun e w' => e = .returned (.bool false) ∧ w = w' := by
  have := spec_l6In n lo hi w
  rwa [decide_eq_false h] at this

end Go.Proofs.Ytfnhafgjdnlhiaa

/- Plain arithmetic of digests and of hash trees; no walk and no condition of our own. -/
namespace Go.Proofs.Ytfnhafgjdnlhiaa

def digB (n : Int) : Bool := decide (0 ≤ n ∧ n ≤ 990)
theorem digB_bd {n : Int} (h : digB n = true) : 0 ≤ n ∧ n ≤ 990 := of_decide_eq_true h
theorem digB_yes {n : Int} (h0 : 0 ≤ n) (h1 : n ≤ 990) : digB n = true := decide_eq_true ⟨h0, h1⟩
theorem digB_no {n : Int} (h : ¬ (0 ≤ n ∧ n ≤ 990)) : digB n = false := decide_eq_false h
def pairZ (a b : Int) : Int := (31 * a + 17 * b + 5) % 991
theorem pairZ_bd (a b : Int) : 0 ≤ pairZ a b ∧ pairZ a b ≤ 990 := by unfold pairZ; omega
theorem pairZ_dig (a b : Int) : digB (pairZ a b) = true := decide_eq_true (pairZ_bd a b)
theorem pairZ_left {a a' b : Int} (h : digB a = true) (h' : digB a' = true) (e : pairZ a b = pairZ a' b) : a = a' := by
  have := digB_bd h; have := digB_bd h'; unfold pairZ at e; omega
theorem pairZ_right {a b b' : Int} (h : digB b = true) (h' : digB b' = true) (e : pairZ a b = pairZ a b') : b = b' := by
  have := digB_bd h; have := digB_bd h'; unfold pairZ at e; omega

/-- The next level. -/
def upZ : List Int → List Int
  | a :: b :: r => pairZ a b :: upZ r
  | l => l
theorem upZ_nil : upZ [] = [] := rfl
theorem upZ_one (a : Int) : upZ [a] = [a] := rfl
theorem upZ_two (a b : Int) (r : List Int) : upZ (a :: b :: r) = pairZ a b :: upZ r := by rw [upZ]
/-- The other node of the pair of node i. -/
def sib (i : Nat) : Nat := if i % 2 = 0 then i + 1 else i - 1
theorem pairs_ind {p : List Int → Prop} (h0 : p []) (h1 : ∀ a, p [a]) (h2 : ∀ a b r, p r → p (a :: b :: r)) : ∀ n l, l.length ≤ n → p l := by
  intro n
  induction n with
  | zero =>
    intro l hl
    have : l = [] := List.eq_nil_of_length_eq_zero (by omega)
    subst this; exact h0
  | succ n ih =>
    intro l hl
    match l, hl with
    | [], _ => exact h0
    | [a], _ => exact h1 a
    | a :: b :: r, hl => exact h2 a b r (ih r (by simp at hl; omega))
theorem upZ_len (l : List Int) : (upZ l).length = (l.length + 1) / 2 :=
  pairs_ind (p := fun l => (upZ l).length = (l.length + 1) / 2) rfl (fun a => by simp [upZ]) (fun a b r ih => by rw [upZ_two]; simp only [List.length_cons]; rw [ih]; omega) l.length l (Nat.le_refl _)
theorem upZ_dig (l : List Int) (h : ∀ x ∈ l, digB x = true) : ∀ x ∈ upZ l, digB x = true := by
  refine pairs_ind (p := fun l => (∀ x ∈ l, digB x = true) → ∀ x ∈ upZ l, digB x = true) (fun _ => by simp [upZ]) (fun a h => by simpa [upZ] using h) (fun a b r ih h => ?_) l.length l (Nat.le_refl _) h
  rw [upZ_two]
  intro x hx
  rcases List.mem_cons.1 hx with rfl | hx
  · exact pairZ_dig _ _
  · exact ih (fun y hy => h y (by simp [hy])) x hx
/-- A node of the next level. -/
theorem upZ_get (l : List Int) : ∀ i, i < l.length → (upZ l).getD (i / 2) 0 = if sib i < l.length then (if i < sib i then pairZ (l.getD i 0) (l.getD (sib i) 0) else pairZ (l.getD (sib i) 0) (l.getD i 0)) else l.getD i 0 := by
  refine pairs_ind (p := fun l => ∀ i, i < l.length → (upZ l).getD (i / 2) 0 = if sib i < l.length then (if i < sib i then pairZ (l.getD i 0) (l.getD (sib i) 0) else pairZ (l.getD (sib i) 0) (l.getD i 0)) else l.getD i 0)
    (fun i h => by simp at h) (fun a i h => ?_) (fun a b r ih i h => ?_) l.length l (Nat.le_refl _)
  · have : i = 0 := by simpa using h
    subst this; rfl
  · rw [upZ_two]
    match i, h with
    | 0, _ => simp [sib]
    | 1, _ => simp [sib]
    | i + 2, h =>
      have hi := ih i (by simpa using h)
      have e1 : (i + 2) / 2 = i / 2 + 1 := by omega
      have e2 : sib (i + 2) = sib i + 2 := by unfold sib; split <;> split <;> omega
      rw [e1, e2]
      simp only [List.getD_cons_succ, List.length_cons]
      rw [hi]
      by_cases hs : sib i < r.length
      · rw [if_pos hs, if_pos (show sib i + 2 < r.length + 1 + 1 by omega)]
        by_cases hl : i < sib i
        · rw [if_pos hl, if_pos (show i + 2 < sib i + 2 by omega)]
        · rw [if_neg hl, if_neg (show ¬ i + 2 < sib i + 2 by omega)]
      · rw [if_neg hs, if_neg (show ¬ sib i + 2 < r.length + 1 + 1 by omega)]

def rootF : Nat → List Int → Int
  | 0, l => l.getD 0 0
  | n + 1, l => if 1 < l.length then rootF n (upZ l) else l.getD 0 0
def proofF : Nat → List Int → Nat → List Int
  | 0, _, _ => []
  | n + 1, l, i => if 1 < l.length then (if sib i < l.length then [l.getD (sib i) 0] else []) ++ proofF n (upZ l) (i / 2) else []
/-- Where a leaf x at place i and a proof lead in a tree of this size. -/
def checkF : Nat → Nat → Nat → Int → List Int → Option Int
  | 0, _, _, x, p => if p = [] then some x else none
  | n + 1, size, i, x, p =>
    if 1 < size then
      if sib i < size then
        match p with
        | [] => none
        | q :: r => if digB q = true then checkF n ((size + 1) / 2) (i / 2) (if i < sib i then pairZ x q else pairZ q x) r else none
      else checkF n ((size + 1) / 2) (i / 2) x p
    else if p = [] then some x else none

theorem dig_getD {l : List Int} (h : ∀ x ∈ l, digB x = true) {i : Nat} (hi : i < l.length) : digB (l.getD i 0) = true := by
  rw [getD_get hi]; exact h _ (List.getElem_mem hi)

/-- Each leaf has a proof. -/
theorem check_proof : ∀ (n : Nat) (l : List Int) (i : Nat), (∀ x ∈ l, digB x = true) → i < l.length → l.length ≤ 2 ^ n → checkF n l.length i (l.getD i 0) (proofF n l i) = some (rootF n l) := by
  intro n
  induction n with
  | zero => intro l i _ hi hl; have : i = 0 := by omega
            subst this; simp [checkF, proofF, rootF]
  | succ n ih =>
    intro l i hd hi hl
    simp only [checkF, proofF, rootF]
    by_cases h1 : 1 < l.length
    · rw [if_pos h1, if_pos h1, if_pos h1]
      have hu := ih (upZ l) (i / 2) (upZ_dig l hd) (by rw [upZ_len]; omega) (by rw [upZ_len, Nat.pow_succ] at *; omega)
      rw [upZ_len, upZ_get l i hi] at hu
      by_cases hs : sib i < l.length
      · rw [if_pos hs] at hu ⊢
        rw [if_pos hs]
        simp only [List.cons_append, List.nil_append]
        rw [if_pos (dig_getD hd hs)]
        exact hu
      · rw [if_neg hs] at hu ⊢
        rw [if_neg hs, List.nil_append]
        exact hu
    · have : i = 0 := by omega
      subst this; simp [h1]

/-- No other leaf has the proof. -/
theorem check_leaf : ∀ (n size i : Nat) (x y : Int) (p : List Int) (R : Int), digB x = true → digB y = true → checkF n size i x p = some R → checkF n size i y p = some R → x = y := by
  intro n
  induction n with
  | zero =>
    intro size i x y p R _ _ h1 h2
    simp only [checkF] at h1 h2
    split at h1
    · rename_i h; rw [if_pos h] at h2; cases h1; cases h2; rfl
    · cases h1
  | succ n ih =>
    intro size i x y p R hx hy h1 h2
    simp only [checkF] at h1 h2
    by_cases hz : 1 < size
    · rw [if_pos hz] at h1 h2
      by_cases hs : sib i < size
      · rw [if_pos hs] at h1 h2
        match p, h1, h2 with
        | q :: r, h1, h2 =>
          simp only at h1 h2
          by_cases hq : digB q = true
          · rw [if_pos hq] at h1 h2
            by_cases hl : i < sib i
            · rw [if_pos hl] at h1 h2
              exact pairZ_left hx hy (ih _ _ _ _ _ _ (pairZ_dig _ _) (pairZ_dig _ _) h1 h2)
            · rw [if_neg hl] at h1 h2
              exact pairZ_right hx hy (ih _ _ _ _ _ _ (pairZ_dig _ _) (pairZ_dig _ _) h1 h2)
          · rw [if_neg hq] at h1; cases h1
      · rw [if_neg hs] at h1 h2
        exact ih _ _ _ _ _ _ hx hy h1 h2
    · rw [if_neg hz] at h1 h2
      split at h1
      · rename_i h; rw [if_pos h] at h2; cases h1; cases h2; rfl
      · cases h1

/-- How long a proof is. -/
def plen : Nat → Nat → Nat → Nat
  | 0, _, _ => 0
  | n + 1, size, i => if 1 < size then (if sib i < size then 1 else 0) + plen n ((size + 1) / 2) (i / 2) else 0
theorem plen_le : ∀ (n size i : Nat), plen n size i ≤ n := by
  intro n
  induction n with
  | zero => intro _ _; exact Nat.le_refl _
  | succ n ih =>
    intro size i
    simp only [plen]
    have := ih ((size + 1) / 2) (i / 2)
    split
    · split <;> omega
    · omega
theorem check_len : ∀ (n size i : Nat) (x : Int) (p : List Int) (R : Int), checkF n size i x p = some R → p.length = plen n size i := by
  intro n
  induction n with
  | zero =>
    intro size i x p R h
    simp only [checkF] at h
    split at h
    · rename_i hp; rw [hp]; rfl
    · cases h
  | succ n ih =>
    intro size i x p R h
    simp only [checkF] at h
    simp only [plen]
    by_cases hz : 1 < size
    · rw [if_pos hz] at h ⊢
      by_cases hs : sib i < size
      · rw [if_pos hs] at h ⊢
        match p, h with
        | q :: r, h =>
          simp only at h
          by_cases hq : digB q = true
          · rw [if_pos hq] at h
            have := ih _ _ _ _ _ h
            simp only [List.length_cons]; omega
          · rw [if_neg hq] at h; cases h
      · rw [if_neg hs] at h ⊢
        have := ih _ _ _ _ _ h; omega
    · rw [if_neg hz] at h ⊢
      split at h
      · rename_i hp; rw [hp]; rfl
      · cases h

/-- A changed leaf on the next level. -/
theorem upZ_set (l : List Int) : ∀ i y, i < l.length → upZ (l.set i y) = (upZ l).set (i / 2) ((upZ (l.set i y)).getD (i / 2) 0) := by
  refine pairs_ind (p := fun l => ∀ i y, i < l.length → upZ (l.set i y) = (upZ l).set (i / 2) ((upZ (l.set i y)).getD (i / 2) 0)) (fun i y h => by simp at h) (fun a i y h => ?_) (fun a b r ih i y h => ?_) l.length l (Nat.le_refl _)
  · have : i = 0 := by simpa using h
    subst this; rfl
  · match i, h with
    | 0, _ => simp [upZ_two]
    | 1, _ => simp [upZ_two]
    | i + 2, h =>
      have hi := ih i y (by simpa using h)
      have e1 : (i + 2) / 2 = i / 2 + 1 := by omega
      rw [e1]
      simp only [List.set_cons_succ, upZ_two, List.getD_cons_succ]
      rw [← hi]
theorem proof_set : ∀ (n : Nat) (l : List Int) (i : Nat) (y : Int), i < l.length → proofF n (l.set i y) i = proofF n l i := by
  intro n
  induction n with
  | zero => intros; rfl
  | succ n ih =>
    intro l i y hi
    simp only [proofF, List.length_set]
    have hne : sib i ≠ i := by unfold sib; split <;> omega
    have e : (l.set i y).getD (sib i) 0 = l.getD (sib i) 0 := by
      simp only [List.getD]
      rw [List.getElem?_set_ne (fun h => hne h.symm)]
    rw [e, upZ_set l i y hi, ih (upZ l) (i / 2) _ (by rw [upZ_len]; omega)]
/-- A changed leaf changes the root. -/
theorem root_set {n : Nat} {l : List Int} {i : Nat} {y : Int} (hd : ∀ x ∈ l, digB x = true) (hi : i < l.length) (hl : l.length ≤ 2 ^ n) (hy : digB y = true) (e : rootF n (l.set i y) = rootF n l) : y = l.getD i 0 := by
  have h1 := check_proof n l i hd hi hl
  have h2 := check_proof n (l.set i y) i (fun x hx => by rcases List.mem_or_eq_of_mem_set hx with h | rfl; exact hd x h; exact hy) (by simpa using hi) (by simpa using hl)
  rw [List.length_set, proof_set n l i y hi, e] at h2
  have e2 : (l.set i y).getD i 0 = y := by simp [List.getD, hi]
  rw [e2] at h2
  exact check_leaf _ _ _ _ _ _ _ hy (dig_getD hd hi) h2 h1
theorem rootF_bd : ∀ (n : Nat) (l : List Int), (∀ x ∈ l, digB x = true) → 0 < l.length → digB (rootF n l) = true := by
  intro n
  induction n with
  | zero => intro l hd hl; exact dig_getD hd hl
  | succ n ih =>
    intro l hd hl
    simp only [rootF]
    split
    · exact ih _ (upZ_dig l hd) (by rw [upZ_len]; omega)
    · exact dig_getD hd hl

/-! texts -/
def txtS (n : Int) (c : UInt8) : Int := (257 * n + c.toNat + 1) % 991
def txtF (n : Int) (l : List UInt8) : Int := l.foldl txtS n
def txtZ (l : List UInt8) : Int := txtF 7 l
theorem txtS_bd (n : Int) (c : UInt8) : 0 ≤ txtS n c ∧ txtS n c ≤ 990 := by unfold txtS; omega
theorem txtF_bd (l : List UInt8) : ∀ n, 0 ≤ n → n ≤ 990 → 0 ≤ txtF n l ∧ txtF n l ≤ 990 := by
  induction l with
  | nil => intro n h0 h1; exact ⟨h0, h1⟩
  | cons c l ih => intro n _ _; exact ih _ (txtS_bd n c).1 (txtS_bd n c).2
theorem txtZ_bd (l : List UInt8) : 0 ≤ txtZ l ∧ txtZ l ≤ 990 := txtF_bd l 7 (by omega) (by omega)
theorem txtZ_snoc (l : List UInt8) (c : UInt8) : txtZ (l ++ [c]) = txtS (txtZ l) c := by unfold txtZ txtF; rw [List.foldl_append]; rfl
theorem txtF_ne (l : List UInt8) : ∀ n m, 0 ≤ n → n ≤ 990 → 0 ≤ m → m ≤ 990 → n ≠ m → txtF n l ≠ txtF m l := by
  induction l with
  | nil => intro n m _ _ _ _ h; exact h
  | cons c l ih =>
    intro n m h0 h1 h2 h3 h
    refine ih _ _ (txtS_bd n c).1 (txtS_bd n c).2 (txtS_bd m c).1 (txtS_bd m c).2 ?_
    unfold txtS; omega
theorem txtZ_byte (l r : List UInt8) {b c : UInt8} (h : b ≠ c) : txtZ (l ++ [b] ++ r) ≠ txtZ (l ++ [c] ++ r) := by
  have e : ∀ x, txtZ (l ++ [x] ++ r) = txtF (txtS (txtZ l) x) r := fun x => by unfold txtZ txtF; rw [List.foldl_append, List.foldl_append]; rfl
  rw [e, e]
  refine txtF_ne r _ _ (txtS_bd _ _).1 (txtS_bd _ _).2 (txtS_bd _ _).1 (txtS_bd _ _).2 ?_
  have hb := b.toNat_lt
  have hc := c.toNat_lt
  have hn : b.toNat ≠ c.toNat := fun e => h (UInt8.toNat_inj.1 e)
  have := txtZ_bd l
  unfold txtS; omega

theorem txt_step (s : ByteArray) (k : Nat) (hk : k < s.size) : txtZ (s.data.toList.take (k + 1)) = txtS (txtZ (s.data.toList.take k)) s[k] := by
  rw [← txtZ_snoc, List.take_succ_eq_append_getElem (by simpa using hk)]; rfl
def htZ (s : ByteArray) : Int := if s.size ≤ 60 then txtZ s.data.toList else -1
def hpZ (a b : Int) : Int := if digB a = true ∧ digB b = true then pairZ a b else -1
def leavesB (l : List Int) : Bool := decide (1 ≤ l.length ∧ l.length ≤ 16) && l.all digB
theorem leavesB_bad {l : List Int} {k : Nat} (hk : k < l.length) (h : digB l[k] = false) : leavesB l = false := by unfold leavesB; rw [pre_not hk h, Bool.and_false]
theorem leavesB_len {l : List Int} {k : Nat} (h : Pre digB l k) (hk : l.length ≤ k) : leavesB l = decide (1 ≤ l.length ∧ l.length ≤ 16) := by unfold leavesB; rw [pre_all h hk, Bool.and_true]
theorem leavesB_iff {l : List Int} (h : leavesB l = true) : (1 ≤ l.length ∧ l.length ≤ 16) ∧ ∀ x ∈ l, digB x = true := by
  unfold leavesB at h; rw [Bool.and_eq_true, decide_eq_true_eq, List.all_eq_true] at h; exact h
def mrZ (l : List Int) : Int := if leavesB l = true then rootF 4 l else -1
def mpZ (l : List Int) (i : Int) : List Int := if leavesB l = true ∧ 0 ≤ i ∧ i < l.length then proofF 4 l i.toNat else []
def mcB (root size i leaf : Int) (p : List Int) : Bool := decide (1 ≤ size ∧ size ≤ 16 ∧ 0 ≤ i ∧ i < size ∧ digB leaf = true ∧ checkF 4 size.toNat i.toNat leaf p = some root)

theorem mrZ_yes {l : List Int} (h : leavesB l = true) : mrZ l = rootF 4 l := by unfold mrZ; rw [if_pos h]
theorem mrZ_no {l : List Int} (h : leavesB l = false) : mrZ l = -1 := by unfold mrZ; rw [if_neg (by simp [h])]
theorem mpZ_yes {l : List Int} {i : Nat} (h : leavesB l = true) (hi : i < l.length) : mpZ l i = proofF 4 l i := by unfold mpZ; rw [if_pos ⟨h, by omega, by omega⟩]; rfl
theorem mpZ_no {l : List Int} {i : Int} (h : ¬ (leavesB l = true ∧ 0 ≤ i ∧ i < l.length)) : mpZ l i = [] := by unfold mpZ; rw [if_neg h]
theorem sib_int (j : Nat) : (j : Int) + 1 - (j : Int) % 2 * 2 = (sib j : Nat) := by unfold sib; split <;> omega
theorem sib_ne (j : Nat) : sib j ≠ j := by unfold sib; split <;> omega
theorem rootF_up {n : Nat} {l : List Int} (h : 1 < l.length) : rootF (n + 1) l = rootF n (upZ l) := by rw [rootF, if_pos h]
theorem rootF_end {n : Nat} {l : List Int} (h : l.length = 1) : rootF n l = l.getD 0 0 := by
  cases n with
  | zero => rfl
  | succ n => rw [rootF, if_neg (by omega)]
theorem proofF_sib {n : Nat} {l : List Int} {i : Nat} (h : 1 < l.length) (hs : sib i < l.length) : proofF (n + 1) l i = l.getD (sib i) 0 :: proofF n (upZ l) (i / 2) := by rw [proofF, if_pos h, if_pos hs]; rfl
theorem proofF_lone {n : Nat} {l : List Int} {i : Nat} (h : 1 < l.length) (hs : ¬ sib i < l.length) : proofF (n + 1) l i = proofF n (upZ l) (i / 2) := by rw [proofF, if_pos h, if_neg hs]; rfl
theorem proofF_end {n : Nat} {l : List Int} {i : Nat} (h : ¬ 1 < l.length) : proofF n l i = [] := by
  cases n with
  | zero => rfl
  | succ n => rw [proofF, if_neg h]
theorem proofF_len : ∀ (n : Nat) (l : List Int) (i : Nat), (proofF n l i).length ≤ n := by
  intro n
  induction n with
  | zero => intro _ _; exact Nat.le_refl _
  | succ n ih =>
    intro l i
    by_cases h : 1 < l.length
    · have := ih (upZ l) (i / 2)
      by_cases hs : sib i < l.length
      · rw [proofF_sib h hs, List.length_cons]; omega
      · rw [proofF_lone h hs]; omega
    · rw [proofF_end h]; simp
theorem pow_half {n k : Nat} (h : k ≤ 2 ^ (n + 1)) : (k + 1) / 2 ≤ 2 ^ n := by rw [Nat.pow_succ] at h; omega
theorem pow_pos' {n k : Nat} (h : k ≤ 2 ^ n) (h1 : 1 < k) : ∃ m, n = m + 1 := by
  cases n with
  | zero => simp at h; omega
  | succ n => exact ⟨n, rfl⟩

theorem checkF_end {n size i : Nat} {x : Int} {p : List Int} (h : ¬ 1 < size) : checkF n size i x p = if p = [] then some x else none := by
  cases n with
  | zero => rfl
  | succ n => simp only [checkF]; rw [if_neg h]
theorem checkF_lone {n size i : Nat} {x : Int} {p : List Int} (h : 1 < size) (hs : ¬ sib i < size) : checkF (n + 1) size i x p = checkF n ((size + 1) / 2) (i / 2) x p := by simp only [checkF]; rw [if_pos h, if_neg hs]
theorem checkF_none {n size i : Nat} {x : Int} (h : 1 < size) (hs : sib i < size) : checkF (n + 1) size i x [] = none := by simp only [checkF]; rw [if_pos h, if_pos hs]
theorem checkF_sib {n size i : Nat} {x q : Int} {r : List Int} (h : 1 < size) (hs : sib i < size) (hq : digB q = true) : checkF (n + 1) size i x (q :: r) = checkF n ((size + 1) / 2) (i / 2) (if i < sib i then pairZ x q else pairZ q x) r := by simp only [checkF]; rw [if_pos h, if_pos hs, if_pos hq]
theorem checkF_bad {n size i : Nat} {x q : Int} {r : List Int} (h : 1 < size) (hs : sib i < size) (hq : digB q = false) : checkF (n + 1) size i x (q :: r) = none := by simp only [checkF]; rw [if_pos h, if_pos hs, if_neg (by simp [hq])]
theorem mcB_yes {root leaf : Int} {size i : Nat} {p : List Int} (h1 : 1 ≤ size) (h2 : size ≤ 16) (h3 : i < size) (h4 : digB leaf = true) : mcB root size i leaf p = decide (checkF 4 size i leaf p = some root) := by
  unfold mcB
  refine decide_eq_decide.2 ⟨fun h => h.2.2.2.2.2, fun h => ⟨by omega, by omega, by omega, by omega, h4, h⟩⟩
theorem mcB_no {root size i leaf : Int} {p : List Int} (h : ¬ (1 ≤ size ∧ size ≤ 16 ∧ 0 ≤ i ∧ i < size ∧ digB leaf = true)) : mcB root size i leaf p = false :=
  decide_eq_false fun h' => h ⟨h'.1, h'.2.1, h'.2.2.1, h'.2.2.2.1, h'.2.2.2.2.1⟩

theorem mrZ_bd (l : List Int) : -1 ≤ mrZ l ∧ mrZ l ≤ 990 := by
  by_cases h : leavesB l = true
  · rw [mrZ_yes h]
    have := digB_bd (rootF_bd 4 l (leavesB_iff h).2 (by have := (leavesB_iff h).1; omega))
    omega
  · rw [mrZ_no (by simpa using h)]; omega
theorem mpZ_len (l : List Int) (i : Int) : (mpZ l i).length ≤ 4 := by
  unfold mpZ; split
  · exact proofF_len _ _ _
  · simp

theorem htZ_yes (s : ByteArray) (h : s.size ≤ 60) : 0 ≤ htZ s ∧ htZ s ≤ 990 := by unfold htZ; rw [if_pos h]; exact txtZ_bd _
theorem htZ_no (s : ByteArray) (h : 60 < s.size) : htZ s = -1 := by unfold htZ; rw [if_neg (by omega)]
theorem htZ_empty : htZ ⟨#[]⟩ = 7 := rfl
theorem hpZ_yes {a b : Int} (h : digB a = true) (h' : digB b = true) : hpZ a b = pairZ a b := by unfold hpZ; rw [if_pos ⟨h, h'⟩]
theorem hpZ_no {a b : Int} (h : ¬ (digB a = true ∧ digB b = true)) : hpZ a b = -1 := by unfold hpZ; rw [if_neg h]

theorem str_ne {s : ByteArray} (h : ¬ s.size = 0) : s.toList.isEmpty = false := by
  rw [ByteArray.toList_eq]
  cases e : s.data.toList with
  | nil => exact absurd (by have := congrArg List.length e; simpa using this) h
  | cons _ _ => rfl
theorem str_nil {s : ByteArray} (h : s.size = 0) : s.toList.isEmpty = true := by
  have e : s.data.toList = [] := List.eq_nil_of_length_eq_zero (by simpa using h)
  rw [ByteArray.toList_eq, e]
  rfl

/-- A text with one byte changed. -/
theorem txt_change (s : ByteArray) (k : Nat) (hk : k < s.size) (c : UInt8) (hc : c ≠ s[k]) (h60 : s.size ≤ 60) (t : ByteArray) (ht : t = s.extract 0 k ++ ⟨#[c]⟩ ++ s.extract (k + 1) s.size) : t.size = s.size ∧ 0 ≤ htZ t ∧ htZ t ≤ 990 ∧ htZ t ≠ htZ s := by
  have hd : t.data.toList = s.data.toList.take k ++ [c] ++ s.data.toList.drop (k + 1) := by
    subst ht
    simp
    exact List.take_of_length_le (by simp)
  have hsd : s.data.toList = s.data.toList.take k ++ [s[k]] ++ s.data.toList.drop (k + 1) := by
    have hk' : k < s.data.toList.length := by simpa using hk
    have h := List.take_append_drop (k + 1) s.data.toList
    rw [List.take_succ_eq_append_getElem hk'] at h
    exact h.symm
  have hsz : t.size = s.size := by
    have h1 := congrArg List.length hd
    simp at h1
    have e1 : s.data.size = s.size := rfl
    have e2 : t.data.size = t.size := rfl
    omega
  have hn := txtZ_byte (s.data.toList.take k) (s.data.toList.drop (k + 1)) hc
  rw [← hd, ← hsd] at hn
  have hb := htZ_yes t (by omega)
  refine ⟨hsz, hb.1, hb.2, ?_⟩
  unfold htZ
  rw [if_pos (show t.size ≤ 60 by omega), if_pos h60]
  exact hn

/-- A byte xor 1, 2 or 3. -/
theorem xor_byte (b : UInt8) (m : Int) (h1 : 1 ≤ m) (h3 : m ≤ 3) : ∃ c : UInt8, bits .xor .u8 (b.toNat : Int) m = (c.toNat : Int) ∧ c ≠ b := by
  have key : ∀ x : Fin 256, ∀ y : Fin 3, bits .xor .u8 (x.val : Int) ((y.val : Int) + 1) = ((x.val ^^^ (y.val + 1) : Nat) : Int) ∧ x.val ^^^ (y.val + 1) ≠ x.val ∧ x.val ^^^ (y.val + 1) < 256 := by decide +kernel
  obtain ⟨hz, hne, hlt⟩ := key ⟨b.toNat, UInt8.toNat_lt b⟩ ⟨(m - 1).toNat, by omega⟩
  simp only at hz hne hlt
  rw [show (((m - 1).toNat : Nat) : Int) + 1 = m by omega] at hz
  generalize b.toNat ^^^ ((m - 1).toNat + 1) = z at hz hne hlt
  refine ⟨UInt8.ofNat z, ?_, ?_⟩
  · rw [UInt8.toNat_ofNat', Nat.mod_eq_of_lt (show z < 2 ^ 8 from hlt), hz]
  · intro e
    apply hne
    rw [← e, UInt8.toNat_ofNat', Nat.mod_eq_of_lt (show z < 2 ^ 8 from hlt)]

theorem wrap_tmod3 (n : Nat) : ∃ m : Int, 1 ≤ m ∧ m ≤ 3 ∧ IntKind.u8.wrap (IntKind.i64.wrap (1 + ((n : Int)).tmod 3)) = m := by
  have e : ((n : Int)).tmod 3 = (n : Int) % 3 := Int.tmod_eq_emod_of_nonneg (by omega)
  refine ⟨1 + (n : Int) % 3, by omega, by omega, ?_⟩
  rw [e, IntWalk.i64_in _ (by omega), IntWalk.u8_in _ (by omega)]

theorem mcB_root {root root' size i leaf : Int} {p : List Int} (h : mcB root size i leaf p = true) (hne : root' ≠ root) : mcB root' size i leaf p = false := by
  have h1 := of_decide_eq_true h
  exact decide_eq_false fun h2 => hne (by
    have := h2.2.2.2.2.2.symm.trans h1.2.2.2.2.2
    simpa using this)
theorem mcB_len {root size i leaf : Int} {p q : List Int} (h : mcB root size i leaf p = true) (hne : q.length ≠ p.length) : mcB root size i leaf q = false := by
  have h1 := of_decide_eq_true h
  exact decide_eq_false fun h2 => hne ((check_len _ _ _ _ _ _ h2.2.2.2.2.2).trans (check_len _ _ _ _ _ _ h1.2.2.2.2.2).symm)
theorem mcB_short {root size i leaf : Int} {p : List Int} (h : mcB root size i leaf p = true) : p.length ≤ 4 := by
  have h1 := of_decide_eq_true h
  rw [check_len _ _ _ _ _ _ h1.2.2.2.2.2]
  exact plen_le _ _ _
theorem leaves_get {l : List Int} (h : leavesB l = true) {i : Nat} (hi : i < l.length) : digB l[i] = true := (leavesB_iff h).2 _ (List.getElem_mem hi)
theorem getD_at {l : List Int} {i : Nat} (hi : i < l.length) : l.getD i 0 = l[i] := by simp [hi]
theorem mc_proof {l : List Int} {i : Nat} (h : leavesB l = true) (hi : i < l.length) : mcB (mrZ l) l.length i l[i] (mpZ l i) = true := by
  obtain ⟨hl, hd⟩ := leavesB_iff h
  rw [mcB_yes (by omega) (by omega) hi (leaves_get h hi), mrZ_yes h, mpZ_yes h hi, ← getD_at hi]
  exact decide_eq_true (check_proof 4 l i hd hi (by omega))
theorem mc_leaf {l : List Int} {i : Nat} {x : Int} (h : leavesB l = true) (hi : i < l.length) (hx : x ≠ l[i]) : mcB (mrZ l) l.length i x (mpZ l i) = false := by
  obtain ⟨hl, hd⟩ := leavesB_iff h
  cases hm : mcB (mrZ l) l.length i x (mpZ l i) with
  | false => rfl
  | true =>
    have h1 := (of_decide_eq_true (mc_proof h hi)).2.2.2.2.2
    have h2 := of_decide_eq_true hm
    exact absurd (check_leaf _ _ _ _ _ _ _ h2.2.2.2.2.1 (leaves_get h hi) h2.2.2.2.2.2 h1) hx

theorem mrZ_pos {l : List Int} (h : leavesB l = true) : 0 ≤ mrZ l ∧ mrZ l ≤ 990 := by
  rw [mrZ_yes h]
  obtain ⟨hl, hd⟩ := leavesB_iff h
  exact digB_bd (rootF_bd 4 l hd (by omega))

theorem mc_leaf' {l : List Int} {i : Int} {x : Int} (h : leavesB l = true) (h0 : 0 ≤ i) (hi : i < l.length) (hx : x ≠ l.getD i.toNat 0) : mcB (mrZ l) l.length i x (mpZ l i) = false := by
  obtain ⟨i, rfl⟩ := Int.eq_ofNat_of_zero_le h0
  have hi' : i < l.length := by omega
  exact mc_leaf h hi' (by rw [← getD_at hi']; exact hx)

end Go.Proofs.Ytfnhafgjdnlhiaa

/- What spec's functions of digests and hash trees answer, each by a walk of its text: the answers are those of plain functions on lists; conditions: a list that is read has fewer than 2^40 elements, numbers that are paired are digests. -/
namespace Go.Proofs.Ytfnhafgjdnlhiaa
open Go.RowKit

theorem TI2 : IntT Try.prog 23 3 := ⟨Try.underlying23, by kernel_rfl⟩

end Go.Proofs.Ytfnhafgjdnlhiaa

/- A region that draws its order, operation by operation: an operation that yields its value in every world that meets S, or is left out by its guard, is taken first; a call is met where it alone may come up. General steps; nothing here speaks of the program. -/
namespace Go.Proofs.Ytfnhafgjdnlhiaa
open Go.RowKit

section
variable {P : Program} {md : Region.Mode} {l : List Oper} {Q : Exit → Act → World → Prop} {S : World → Prop} {oi : Oper} {rest : List Oper} {fuel : Nat} {listed : Array Bool} {a : Act} {w : World}

theorem drop_at {i : Nat} (hi : l.drop i = oi :: rest) : l.toArray[i]? = some oi := by
  have h : (l.drop i)[0]? = some oi := by rw [hi]; rfl
  rw [List.getElem?_drop] at h
  simpa using h
/-- Take number i first: it is carried out and yields v in every world that meets S. -/
theorem takeH (i : Nat) {v : Value} (hi : l.drop i = oi :: rest) (hs : Region.noSelect l.toArray = true) (hf : Region.free md l.toArray listed i = true) (hr : (Region.ready md l.toArray listed).contains i = true)
    (hQ : ∀ c a w, Q (.panic c) (a.put oi.dst v) w → Q (.panic c) a w) (hS : S w) (hw : Region.wanted oi (yielded l.toArray a.tmps) = true)
    (hy : ∀ w, S w → (execOp a.eval oi).run P w = .ok (.value v) w)
    (h : wpAnyH P md l.toArray Q S fuel (listed.setIfInBounds i true) (a.put oi.dst v) w) : wpAnyH P md l.toArray Q S (fuel + 1) listed a w :=
  wpAnyH_take (drop_at hi) hs hf hr hQ (.inl ⟨hw, hy⟩) hS h
/-- Number i is left out by its guard. -/
theorem skipH (i : Nat) (hi : l.drop i = oi :: rest) (hs : Region.noSelect l.toArray = true) (hf : Region.free md l.toArray listed i = true) (hr : (Region.ready md l.toArray listed).contains i = true)
    (hQ : ∀ c a w, Q (.panic c) (a.put oi.dst undef) w → Q (.panic c) a w) (hS : S w) (hw : Region.wanted oi (yielded l.toArray a.tmps) = false)
    (h : wpAnyH P md l.toArray Q S fuel (listed.setIfInBounds i true) (a.put oi.dst undef) w) : wpAnyH P md l.toArray Q S (fuel + 1) listed a w :=
  wpAnyH_take (drop_at hi) hs hf hr hQ (.inr ⟨hw, rfl⟩) hS h
/-- Number i alone may come up: it is carried out, and S is shown behind it. -/
theorem callH (i : Nat) (hi : l.drop i = oi :: rest) (hr : Region.ready md l.toArray listed = [i]) (hw : Region.wanted oi (yielded l.toArray a.tmps) = true)
    (h : ∀ K' : Act → World → Prop, Shut (∀ a w, S w → (S w → wpAnyH P md l.toArray Q S fuel (listed.setIfInBounds i true) a w) → K' a w) → Oper.wp P oi a w K' Q) : wpAnyH P md l.toArray Q S (fuel + 1) listed a w :=
  wpAnyH_ready hr (by simp) (AllReadyH.cons (drop_at hi) (fun K' hK => by rw [if_pos hw]; exact h K' hK) AllReadyH.nil)
/-- Either of two may come up next. -/
theorem twoH {oj : Oper} {rest2 : List Oper} (i j : Nat) (hi : l.drop i = oi :: rest) (hj : l.drop j = oj :: rest2) (hr : Region.ready md l.toArray listed = [i, j]) (hw : Region.wanted oi (yielded l.toArray a.tmps) = true) (hw' : Region.wanted oj (yielded l.toArray a.tmps) = true)
    (h : ∀ K' : Act → World → Prop, Shut (∀ a w, S w → (S w → wpAnyH P md l.toArray Q S fuel (listed.setIfInBounds i true) a w) → K' a w) → Oper.wp P oi a w K' Q)
    (h' : ∀ K' : Act → World → Prop, Shut (∀ a w, S w → (S w → wpAnyH P md l.toArray Q S fuel (listed.setIfInBounds j true) a w) → K' a w) → Oper.wp P oj a w K' Q) : wpAnyH P md l.toArray Q S (fuel + 1) listed a w :=
  wpAnyH_ready hr (by simp) (AllReadyH.cons (drop_at hi) (fun K' hK => by rw [if_pos hw]; exact h K' hK) (AllReadyH.cons (drop_at hj) (fun K' hK => by rw [if_pos hw']; exact h' K' hK) AllReadyH.nil))
end

end Go.Proofs.Ytfnhafgjdnlhiaa

/- The exact laws' functions on values and lists of Ledger: sameness, copies, sizes, marks, each by a walk of its text; conditions: the lists are no longer than the laws' bound. -/
namespace Go.Proofs.Ytfnhafgjdnlhiaa
open Go.RowKit

def ledgerP (e : List Fd) : Prop := ∃ (x0 : List Int) (x1 : Int), e = [.l x0, .i x1]
theorem ledgerP_len {es : List (List Fd)} (h : ∀ e ∈ es, ledgerP e) : ∀ e ∈ es, e.length = 2 := by
  intro e he
  obtain ⟨_, _, rfl⟩ := h e he
  rfl

theorem ledger_inf : (Try.prog.info? 25).map (fun i => (i.zero, i.size, i.bytes)) = some (some (.agg #[.slice none 0 0, .int .i64 0]), 2, 32) := by kernel_rfl
theorem ledger_new {B hi : Nat} {w : World} (x1 : Int) {a0 : Option Addr} {c0 : Nat} {x0 : List Int} (h : Own 3 w hi (.slice a0 x0.length c0) x0) (hB : B ≤ hi) :
    (∀ j (hj : j < [.l x0, Fd.i x1].length), ∃ c, [Value.slice a0 x0.length c0, Value.int .i64 x1][j]? = some c ∧ FdOk 3 w B c ([.l x0, Fd.i x1])[j]) ∧ (∀ (p q : Nat) c d, [Value.slice a0 x0.length c0, Value.int .i64 x1][p]? = some c → [Value.slice a0 x0.length c0, Value.int .i64 x1][q]? = some d → p ≠ q → Apart c d) ∧ ∀ c ∈ [Value.slice a0 x0.length c0, Value.int .i64 x1], ∀ g, c.ownBlock = some g → hi ≤ g := by
  refine ⟨fun j hj => ?_, fun p q c d hp hq hne g hc hd => ?_, fun c hc g hg => ?_⟩
  · match j, hj with
    | 0, _ => exact ⟨_, rfl, h.mono hB⟩
    | 1, _ => exact ⟨_, rfl, rfl⟩
  · have no : ∀ (p : Nat) c, p ≠ 0 → [Value.slice a0 x0.length c0, Value.int .i64 x1][p]? = some c → c.ownBlock = none := by
      intro p c hp hc
      match p, hc with
      | 0, hc => exact absurd rfl hp
      | 1, hc => cases hc; rfl
      | p + 2, hc => simp at hc
    by_cases e : p = 0
    · have := no q d (fun h => hne (e.trans h.symm)) hq
      rw [this] at hd; cases hd
    · have := no p c e hp
      rw [this] at hc; cases hc
  · simp only [List.mem_cons, List.not_mem_nil, or_false] at hc
    rcases hc with rfl | rfl
    · exact (h.lt g hg).1
    · cases hg

set_option maxRecDepth 8000 in
/-- A Ledger that came in by value. -/
theorem open_Ledger {H : Type} {enc : TypeId × Value → H} {W : World} {base : Nat} {v : Value} {d : DataW H} {p : List MemPlace} (hv : Value.okWide Try.prog W .any base 42 v) (h : DataW.Trod enc Try.prog W 0 (fun _ => true) true 42 v d p) :
    ∃ a0 c0 x0 x1, v = .agg #[.slice a0 x0.length c0, .int .i64 x1] ∧ (x0.length ≤ maxLen ∧ ∀ x ∈ x0, -9223372036854775808 ≤ x ∧ x ≤ 9223372036854775807) ∧ IntsAt W a0 x0 ∧ (-9223372036854775808 ≤ x1 ∧ x1 ≤ 9223372036854775807) := by
  obtain ⟨cs, rfl, hl, hf⟩ := open_struct (Gs := [RowsG [IntG], IntG]) Try.underlying42 (by kernel_rfl) rfl (fun j h h' => by
    match j, h, h' with
    | 0, _, _ => exact ⟨rfl, opens_slice Try.underlying23 (by kernel_rfl) (opens_int Try.underlying3 (by kernel_rfl))⟩
    | 1, _, _ => exact ⟨rfl, opens_int Try.underlying3 (by kernel_rfl)⟩) hv h
  match cs, hl with
  | [u0, u1], _ =>
    obtain ⟨d0, f0, r0, g0⟩ := hf 0 (by simp) (by simp)
    obtain ⟨x0, rfl, b0⟩ := ints_of g0
    obtain ⟨a0, c0, rfl, _, i0⟩ := Rd.ints (show Rd W (intsD x0) u0 f0 from r0)
    obtain ⟨d1, f1, r1, x1, rfl, b1⟩ := hf 1 (by simp) (by simp)
    obtain ⟨rfl, _⟩ := Rd.int (show Rd W (.i x1) u1 f1 from r1)
    exact ⟨a0, c0, x0, x1, rfl, b0, i0, b1⟩

theorem laws_eqLedgerR (a0 a0' : Option Addr) (c0 c0' : Nat) (x0 : List Int) (x1 : Int) (w : World) (n0 : x0.length ≤ 1099511627776) (h0 : IntsAt w a0 x0) (h0' : IntsAt w a0' x0) :
    Calls Try.prog 20 #[.agg #[.slice a0 x0.length c0, .int .i64 x1], .agg #[.slice a0' x0.length c0', .int .i64 x1]] w fun e w' => e = .returned (.bool true) ∧ Below w.heap.size w w' := by
  have hb : Below w.heap.size w ((w.alloc (.cells #[.slice a0 x0.length c0, .int .i64 x1] 25)).alloc (.cells #[.slice a0' x0.length c0', .int .i64 x1] 25)) := ((Below.refl _ w).alloc (Nat.le_refl _) _).alloc (by simp) _
  have s0 := (Str.new w 25 #[.slice a0 x0.length c0, .int .i64 x1]).alloc (.cells #[.slice a0' x0.length c0', .int .i64 x1] 25)
  have s1 : Str ((w.alloc (.cells #[.slice a0 x0.length c0, .int .i64 x1] 25)).alloc (.cells #[.slice a0' x0.length c0', .int .i64 x1] 25)) (w.heap.size + 1) 25 #[.slice a0' x0.length c0', .int .i64 x1] := by
    rw [← (by simp : (w.alloc (.cells #[.slice a0 x0.length c0, .int .i64 x1] 25)).heap.size = w.heap.size + 1)]
    exact Str.new _ _ _
  have k0 := s0.cell 0 (v := .slice a0 x0.length c0) rfl
  have k1 := s0.cell 1 (v := .int .i64 x1) rfl
  have j0 := s1.cell 0 (v := .slice a0' x0.length c0') rfl
  have j1 := s1.cell 1 (v := .int .i64 x1) rfl
  have H0 := Lib.hid (fun W (h : Below w.heap.size w W) => laws_eqIntS' a0 a0' c0 c0' x0 W n0 (h0.below h) (h0'.below h))
  have Hb0 := Lib.hid hb; clear hb s0 s1 h0 h0'
  go_enter Try.func20, Try.ntmps20
  go_wp2_with fail
  generalize ((w.alloc (.cells #[.slice a0 x0.length c0, .int .i64 x1] 25)).alloc (.cells #[.slice a0' x0.length c0', .int .i64 x1] 25)) = W0 at *
  refine (H0.out _ Hb0.out).mono ?_
  rintro e W1 ⟨rfl, hd⟩
  have Hb1 := Lib.hid (Hb0.out.trans (hd.below _))
  have k0 := (hd.cell _).trans k0
  have k1 := (hd.cell _).trans k1
  have j0 := (hd.cell _).trans j0
  have j1 := (hd.cell _).trans j1
  clear hd
  go_wp2
  go_ret
  exact ⟨rfl, Hb1.out⟩

theorem laws_szIntSLedger (a : Option Addr) (cap : Nat) (xs : List Int) (left : Nat) (w : World) (hl : left ≤ 1048576) (hbig : xs.length ≤ 9223372036854775807) :
    Calls Try.prog 40 #[.slice a xs.length cap, .int .i64 (left : Int)] w fun e w' => e = .returned (.int .i64 (if xs.length ≤ left then ((left - xs.length : Nat) : Int) else -1)) ∧ w = w' := by
  by_cases h : xs.length ≤ left
  · have h' : ¬ ((left : Int) - (xs.length : Int) < 0) := by omega
    rw [if_pos h]
    go_enter Try.func40, Try.ntmps40
    go_wp2
    go_ret
    exact ⟨ret_int (by omega), rfl⟩
  · have h' : (left : Int) - (xs.length : Int) < 0 := by omega
    rw [if_neg h]
    go_enter Try.func40, Try.ntmps40
    go_wp2
    go_ret
    exact ⟨rfl, rfl⟩

theorem laws_szLedgerR (a0 : Option Addr) (c0 : Nat) (x0 : List Int) (x1 : Int) (left : Nat) (w : World) (hl : left ≤ 1048576) (n0 : x0.length ≤ 9223372036854775807) :
    Calls Try.prog 16 #[.agg #[.slice a0 x0.length c0, .int .i64 x1], .int .i64 (left : Int)] w fun e w' => e = .returned (.int .i64 (if x0.length ≤ left then ((left - (x0.length) : Nat) : Int) else -1)) ∧ Below w.heap.size w w' := by
  have hb : Below w.heap.size w (w.alloc (.cells #[.slice a0 x0.length c0, .int .i64 x1] 42)) := (Below.refl _ w).alloc (Nat.le_refl _) _
  have s0 := Str.new w 42 #[.slice a0 x0.length c0, .int .i64 x1]
  have k0 := s0.cell 0 (v := .slice a0 x0.length c0) rfl
  have k1 := s0.cell 1 (v := .int .i64 x1) rfl
  have Hb := Lib.hid hb; clear hb s0
  by_cases h0 : x0.length ≤ left
  · have H0 := fun W => laws_szIntSLedger a0 c0 x0 left W (by omega) n0
    rw [if_pos h0] at H0
    obtain ⟨l0, hl0⟩ : ∃ l : Nat, left - x0.length = l := ⟨_, rfl⟩
    rw [hl0] at H0
    have H0 := Lib.hid H0
    have L0 := Lib.hid hl0; clear hl0
    have g0 : decide ((l0 : Int) < 0) = false := decide_eq_false (by omega)
    have b0 : l0 ≤ 1048576 := by have := L0.out; omega
    go_enter Try.func16, Try.ntmps16
    go_wp2_with fail
    refine (H0.out _).mono ?_
    rintro e w' ⟨rfl, rfl⟩
    go_wp2
    go_ret
    exact ⟨ret_int (by have := L0.out; first | omega | (rw [if_pos (by omega)]; omega)), Hb.out⟩
  · have H0 := fun W => laws_szIntSLedger a0 c0 x0 left W (by omega) n0
    rw [if_neg h0] at H0
    have H0 := Lib.hid H0
    go_enter Try.func16, Try.ntmps16
    go_wp2_with fail
    refine (H0.out _).mono ?_
    rintro e w' ⟨rfl, rfl⟩
    go_wp2
    go_ret
    exact ⟨ret_int (by first | rfl | (rw [if_neg (by omega)])), Hb.out⟩

theorem laws_toLedgerR (a0 : Option Addr) (c0 : Nat) (x0 : List Int) (x1 : Int) (w : World) (hbig : x0.length ≤ 1099511627776) (hc : IntsAt w a0 x0) :
    Calls Try.prog 18 #[.agg #[.slice a0 x0.length c0, .int .i64 x1]] w fun e w' => ∃ v, e = .returned (.agg #[v, .int .i64 x1]) ∧ Own 3 w' w.heap.size v x0 ∧ Below w.heap.size w w' := by
  have hbW : Below w.heap.size w (((w.alloc (.cells #[.slice a0 x0.length c0, .int .i64 x1] 42)).alloc (.cells #[.slice none 0 0, .int .i64 0] 25)).alloc (.cells #[.slice none 0 0, .int .i64 0] 25)) := (((Below.refl _ w).alloc (Nat.le_refl _) _).alloc (by simp) _).alloc (by simp; omega) _
  have s0 := ((Str.new w 42 #[.slice a0 x0.length c0, .int .i64 x1]).alloc (.cells #[.slice none 0 0, .int .i64 0] 25)).alloc (.cells #[.slice none 0 0, .int .i64 0] 25)
  have s1 := (Str.new (w.alloc (.cells #[.slice a0 x0.length c0, .int .i64 x1] 42)) 25 #[.slice none 0 0, .int .i64 0]).alloc (.cells #[.slice none 0 0, .int .i64 0] 25)
  have s2 := Str.new ((w.alloc (.cells #[.slice a0 x0.length c0, .int .i64 x1] 42)).alloc (.cells #[.slice none 0 0, .int .i64 0] 25)) 25 #[.slice none 0 0, .int .i64 0]
  have hzW : (((w.alloc (.cells #[.slice a0 x0.length c0, .int .i64 x1] 42)).alloc (.cells #[.slice none 0 0, .int .i64 0] 25)).alloc (.cells #[.slice none 0 0, .int .i64 0] 25)).heap.size = w.heap.size + 3 := by simp
  simp only [World.size_alloc] at s1 s2
  have Hc := Lib.hid (hc.below hbW)
  have Hb := Lib.hid hbW
  have Hs0 := Lib.hid s0
  have Hs1 := Lib.hid s1
  have Hs2 := Lib.hid s2
  have Hz := Lib.hid hzW
  clear hc hbW s0 s1 s2 hzW
  go_enter Try.func18, Try.ntmps18
  go_wp2_with fail
  generalize ((w.alloc (.cells #[.slice a0 x0.length c0, .int .i64 x1] 42)).alloc (.cells #[.slice none 0 0, .int .i64 0] 25)).alloc (.cells #[.slice none 0 0, .int .i64 0] 25) = W1 at *
  refine (laws_toIntS a0 c0 x0 W1 hbig Hc.out).mono ?_
  rintro e w6 ⟨v, rfl, hown, hb6⟩
  have hz := Hz.out
  have t0 : Str w6 w.heap.size 42 #[.slice a0 x0.length c0, .int .i64 x1] := (hb6.block _ (by omega)).trans Hs0.out
  have t1 : Str w6 (w.heap.size + 1) 25 #[.slice none 0 0, .int .i64 0] := (hb6.block _ (by omega)).trans Hs1.out
  have t2 : Str w6 (w.heap.size + 1 + 1) 25 #[.slice none 0 0, .int .i64 0] := (hb6.block _ (by omega)).trans Hs2.out
  have Hlt := Lib.hid (show ∀ g, v.ownBlock = some g → w.heap.size + 3 ≤ g from fun g e => by have := (hown.lt g e).1; omega)
  have HbF := Lib.hid (below_step Hb.out (by omega) hb6)
  obtain ⟨a6, c6, rfl, _, _⟩ := hown.ints
  have HwW := Lib.hid (show w.heap.size ≤ W1.heap.size by omega)
  have Hown := Lib.hid hown
  clear hown hb6 hz Hz Hs0 Hs1 Hs2 Hc Hb
  have l1 := t0.cell 1 (v := .int .i64 x1) rfl
  have k0 := t1.cell 0 (v := .slice none 0 0) rfl
  have k1 := t1.cell 1 (v := .int .i64 0) rfl
  have f0 := t1.frozen 0
  have f1 := t1.frozen 1
  have j0 := t2.cell 0 (v := .slice none 0 0) rfl
  have j1 := t2.cell 1 (v := .int .i64 0) rfl
  have g0 := t2.frozen 0
  have g1 := t2.frozen 1
  have hne : w.heap.size + 1 ≠ w.heap.size + 1 + 1 := by omega
  have u := ((((t1.other hne 0 (.slice a6 x0.length c6)).other hne 1 (.int .i64 x1)).set 0 (.slice a6 x0.length c6)).set 1 (.int .i64 x1))
  have e0 := u.cell 0 (v := .slice a6 x0.length c6) rfl
  have e1 := u.cell 1 (v := .int .i64 x1) rfl
  clear u t0 t1 t2
  go_wp2
  refine bodyPost_ret (v := .agg #[.slice a6 x0.length c6, .int .i64 x1]) (by simp [results, Try.f18, go_sem, e0, e1]) rfl ?_
  have n1 : (Value.slice a6 x0.length c6).ownBlock ≠ some (w.heap.size + 1) := fun e => by have := Hlt.out _ e; omega
  have n2 : (Value.slice a6 x0.length c6).ownBlock ≠ some (w.heap.size + 1 + 1) := fun e => by have := Hlt.out _ e; omega
  exact ⟨_, rfl, (((((Hown.out.mono HwW.out).set_other n2 0 _).set_other n2 1 _).set_other n1 0 _).set_other n1 1 _), ((((HbF.out.setCell (p := ⟨w.heap.size + 1 + 1, 0, none⟩) (by simp only; omega) _).setCell (p := ⟨w.heap.size + 1 + 1, 1, none⟩) (by simp only; omega) _).setCell (p := ⟨w.heap.size + 1, 0, none⟩) (by simp only; omega) _).setCell (p := ⟨w.heap.size + 1, 1, none⟩) (by simp only; omega) _)⟩

theorem ledger_info : (Try.prog.info? 25).map (fun i => (i.zero, i.size, i.bytes)) = some (some (.agg #[.slice none 0 0, .int .i64 0]), 2, 32) := by kernel_rfl

theorem laws_markLedgerR (x1 : Int) (v : Value) (xs : List Int) (k B : Nat) (w : World) (hlen : xs.length ≤ 1099511627776) (hk : k ≤ 1099511627776) (hown : Own 3 w B v xs) :
    Calls Try.prog 23 #[.agg #[v, .int .i64 x1], .int .i64 k] w fun e w' => e = .returned (.int .i64 ((k + xs.length : Nat) : Int)) ∧ Own 3 w' B v (markL k xs.length) ∧ (w.alloc (.cells #[v, .int .i64 x1] 25)).grownBy w' v.ownBlock := by
  have H := Lib.hid (laws_markIntS v xs k B _ hlen hk (hown.alloc (.cells #[v, .int .i64 x1] 25)))
  obtain ⟨a, cap, rfl, _, _⟩ := hown.ints
  clear hown
  go_enter Try.func23, Try.ntmps23
  go_wp2_with fail
  refine H.out.mono ?_
  rintro e w1 ⟨rfl, ho, hg⟩
  go_wp2
  go_ret
  exact ⟨rfl, ho, hg⟩

theorem laws_heldLedgerR (x1 : Int) (a : Option Addr) (cap k n : Nat) (w : World) (hlen : n ≤ 1099511627776) (hk : k ≤ 1099511627776) (hc : IntsAt w a (markL k n)) :
    Calls Try.prog 26 #[.agg #[.slice a n cap, .int .i64 x1], .int .i64 k] w fun e w' => e = .returned (.int .i64 ((k + n : Nat) : Int)) ∧ Below w.heap.size w w' := by
  have hb : Below w.heap.size w (w.alloc (.cells #[.slice a n cap, .int .i64 x1] 25)) := (Below.refl _ w).alloc (Nat.le_refl _) _
  have H := Lib.hid (laws_heldIntS a cap k n _ hlen hk (hc.below hb))
  have Hb := Lib.hid hb; clear hb hc
  have hneg : decide (((k + n : Nat) : Int) < 0) = false := decide_eq_false (by omega)
  go_enter Try.func26, Try.ntmps26
  go_wp2_with fail
  refine H.out.mono ?_
  rintro e w1 ⟨rfl, hd⟩
  have Hb1 := Lib.hid (Hb.out.trans (hd.below _))
  go_wp2
  go_ret
  exact ⟨rfl, Hb1.out⟩

end Go.Proofs.Ytfnhafgjdnlhiaa
