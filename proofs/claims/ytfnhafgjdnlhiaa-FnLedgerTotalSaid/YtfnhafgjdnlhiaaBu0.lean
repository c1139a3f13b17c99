/- Texts that the laws of this folder share, one behind another; no conditions. -/
import Derived.ProofKit
import Derived.WalkKit
import Derived.WalkSmall
import Derived.Lib.Hide
import Derived.Deep.Draws
import Derived.Deep.OwnRows
import Derived.OpenShut
import Derived.ChangeOld
import Derived.Below
import Derived.Carry
import Derived.Test.YtfnhafgjdnlhiaaRows
import Derived.Deep.QuietTactic
import Derived.BigQuiet
import Derived.Deep.RegionLaw
import Derived.Maps.AppendAt
import Derived.Laws.Strings

/- Words of this proof's own on lists of integers in memory and their arithmetic, without conditions; nothing here speaks of the program. -/
namespace Go.Proofs.Ytfnhafgjdnlhiaa
open Go.RowKit

theorem ret_bool {a b : Bool} (h : a = b) : Ending.returned (.bool a) = .returned (.bool b) := by rw [h]
theorem ret_int {k : IntKind} {a b : Int} (h : a = b) : Ending.returned (.int k a) = .returned (.int k b) := by rw [h]
theorem int_eq {k : IntKind} {a b : Int} (h : a = b) : Value.int k a = Value.int k b := by rw [h]

/-- The slice at address a reads as xs. -/
def IntsAt (w : World) (a : Option Addr) (xs : List Int) : Prop :=
  xs = [] ∨ ∃ b off, a = some ⟨b, off, none⟩ ∧ b < w.heap.size ∧ ∀ j (h : j < xs.length), w.cell? ⟨b, off + j, none⟩ = some (.int .i64 xs[j])

theorem IntsAt.cell {w : World} {a : Option Addr} {xs : List Int} (h : IntsAt w a xs) (hx : 0 < xs.length) : ∃ b off, a = some ⟨b, off, none⟩ ∧ b < w.heap.size ∧ ∀ j (h : j < xs.length), w.cell? ⟨b, off + j, none⟩ = some (.int .i64 xs[j]) := by
  rcases h with rfl | h
  · simp at hx
  · exact h

theorem IntsAt.len {w : World} {a : Option Addr} {xs : List Int} (h : IntsAt w a xs) : xs.length < 1 ∨ ∃ b off, a = some ⟨b, off, none⟩ ∧ b < w.heap.size ∧ ∀ j (h : j < xs.length), w.cell? ⟨b, off + j, none⟩ = some (.int .i64 xs[j]) := by
  rcases h with rfl | h
  · exact .inl (by simp)
  · exact .inr h

/-- Nothing but draws lies between the two worlds. -/
def Drawn (w w' : World) : Prop := ∃ q, w' = w.drewN q
theorem Drawn.refl (w : World) : Drawn w w := ⟨0, rfl⟩
theorem Drawn.drewN {a w : World} (h : Drawn a w) (n : Nat) : Drawn a (w.drewN n) := by
  obtain ⟨q, rfl⟩ := h; exact ⟨q + n, World.drewN_drewN ..⟩
theorem Drawn.trans {a b c : World} (h : Drawn a b) (k : Drawn b c) : Drawn a c := by
  obtain ⟨q, rfl⟩ := k; exact h.drewN q
theorem Drawn.cell {a w : World} (h : Drawn a w) (p : Addr) : w.cell? p = a.cell? p := by obtain ⟨q, rfl⟩ := h; rfl
theorem Drawn.size {a w : World} (h : Drawn a w) : w.heap.size = a.heap.size := by obtain ⟨q, rfl⟩ := h; rfl
theorem Drawn.ints {a w : World} (h : Drawn a w) {p : Option Addr} {xs : List Int} (hx : IntsAt a p xs) : IntsAt w p xs := by obtain ⟨q, rfl⟩ := h; exact hx
theorem turned {P : Program} {f : FuncId} {args : Array Value} {w : World} {v : Value} (h : Calls P f args w fun e w' => e = .returned v ∧ w = w') : Calls P f args w fun e w' => e = .returned v ∧ w' = w :=
  h.mono fun _ _ ⟨a, b⟩ => ⟨a, b.symm⟩

/-- The first k elements have p. -/
def Pre (p : Int → Bool) (xs : List Int) (k : Nat) : Prop := ∀ j (h : j < xs.length), j < k → p xs[j] = true
theorem pre_zero (p : Int → Bool) (xs : List Int) : Pre p xs 0 := fun _ _ h => by omega
theorem pre_step {p : Int → Bool} {xs : List Int} {k : Nat} (hp : Pre p xs k) (hk : k < xs.length) (h : p xs[k] = true) : Pre p xs (k + 1) := by
  intro j hj hjk
  by_cases e : j = k
  · subst e; exact h
  · exact hp j hj (by omega)
theorem pre_all {p : Int → Bool} {xs : List Int} {k : Nat} (hp : Pre p xs k) (hk : xs.length ≤ k) : xs.all p = true := by
  rw [List.all_eq_true]
  intro x hx
  obtain ⟨j, hj, rfl⟩ := List.mem_iff_getElem.1 hx
  exact hp j hj (by omega)
theorem pre_not {p : Int → Bool} {xs : List Int} {k : Nat} (hk : k < xs.length) (h : p xs[k] = false) : xs.all p = false := by
  rw [List.all_eq_false]
  exact ⟨xs[k], List.getElem_mem hk, by simp [h]⟩
theorem pre_of_all {p : Int → Bool} {xs : List Int} (h : xs.all p = true) (k : Nat) : Pre p xs k := fun j hj _ => by
  rw [List.all_eq_true] at h; exact h _ (List.getElem_mem hj)

/-! committees -/
def goodB (x : Int) : Bool := decide (1 ≤ x ∧ x ≤ 9)
theorem goodB_yes {x : Int} (h1 : 1 ≤ x) (h2 : x ≤ 9) : goodB x = true := by unfold goodB; simp; omega
theorem goodB_no {x : Int} (h : x < 1 ∨ 9 < x) : goodB x = false := by unfold goodB; simp; omega
theorem goodB_bd {x : Int} (h : goodB x = true) : 1 ≤ x ∧ x ≤ 9 := by unfold goodB at h; simpa using h
def validB (c : List Int) : Bool := decide (1 ≤ c.length ∧ c.length ≤ 7) && c.all goodB
theorem validB_no {c : List Int} (h : ¬ (1 ≤ c.length ∧ c.length ≤ 7)) : validB c = false := by
  unfold validB; rw [decide_eq_false h, Bool.false_and]
theorem validB_bad {c : List Int} {j : Nat} (hj : j < c.length) (h : goodB c[j] = false) : validB c = false := by
  unfold validB; rw [pre_not hj h, Bool.and_false]
theorem validB_yes {c : List Int} {k : Nat} (h1 : 1 ≤ c.length) (h2 : c.length ≤ 7) (h : Pre goodB c k) (hk : c.length ≤ k) : validB c = true := by
  unfold validB; rw [pre_all h hk, decide_eq_true ⟨h1, h2⟩]; rfl
theorem validB_len {c : List Int} (h : validB c = true) : 1 ≤ c.length ∧ c.length ≤ 7 := by
  unfold validB at h; simp at h; omega
theorem validB_good {c : List Int} (h : validB c = true) : ∀ j (hj : j < c.length), 1 ≤ c[j] ∧ c[j] ≤ 9 := fun j hj => by
  unfold validB at h
  rw [Bool.and_eq_true] at h
  exact goodB_bd (pre_of_all h.2 c.length j hj hj)

/-- The sum of the first k weights. -/
def sumTo (c : List Int) (k : Nat) : Int := (c.take k).sum
theorem sumTo_zero (c : List Int) : sumTo c 0 = 0 := rfl
theorem sumTo_succ {c : List Int} {k : Nat} (hk : k < c.length) : sumTo c (k + 1) = sumTo c k + c[k] := by
  unfold sumTo
  rw [List.take_succ_eq_append_getElem hk, List.sum_append]
  simp
theorem sumTo_bd {c : List Int} (h : validB c = true) (k : Nat) (hk : k ≤ c.length) : (k : Int) ≤ sumTo c k ∧ sumTo c k ≤ 9 * k := by
  induction k with
  | zero => simp [sumTo]
  | succ k ih =>
    have := ih (by omega)
    have g := validB_good h k (by omega)
    rw [sumTo_succ (by omega)]
    omega
def totalZ (c : List Int) : Int := sumTo c c.length
theorem totalZ_bd {c : List Int} (h : validB c = true) : 1 ≤ totalZ c ∧ totalZ c ≤ 63 := by
  have := sumTo_bd h c.length (Nat.le_refl _)
  have := validB_len h
  unfold totalZ; omega

/-! sets of members -/
def okAt (n : Nat) (ms : List Int) (j : Nat) : Bool := decide (0 ≤ ms.getD j 0 ∧ ms.getD j 0 < n ∧ (j = 0 ∨ ms.getD (j - 1) 0 < ms.getD j 0))
theorem getD_get {ms : List Int} {k : Nat} (hk : k < ms.length) : ms.getD k 0 = ms[k] := by simp [List.getD, List.getElem?_eq_getElem hk]
theorem okAt_yes {n : Nat} {ms : List Int} {k : Nat} (hk : k < ms.length) (h0 : 0 ≤ ms[k]) (h1 : ms[k] < n) (h2 : k = 0 ∨ ms.getD (k - 1) 0 < ms[k]) : okAt n ms k = true := by
  unfold okAt; rw [getD_get hk]; exact decide_eq_true ⟨h0, h1, h2⟩
theorem okAt_no {n : Nat} {ms : List Int} {k : Nat} (hk : k < ms.length) (h : ¬ (0 ≤ ms[k] ∧ ms[k] < n ∧ (k = 0 ∨ ms.getD (k - 1) 0 < ms[k]))) : okAt n ms k = false := by
  unfold okAt; rw [getD_get hk]; exact decide_eq_false h
theorem okAt_bd {n : Nat} {ms : List Int} {k : Nat} (hk : k < ms.length) (h : okAt n ms k = true) : 0 ≤ ms[k] ∧ ms[k] < n ∧ (k = 0 ∨ ms.getD (k - 1) 0 < ms[k]) := by
  unfold okAt at h; rw [getD_get hk] at h; exact of_decide_eq_true h
/-- All numbers below k have p. -/
def Upto (p : Nat → Bool) (k : Nat) : Prop := ∀ j, j < k → p j = true
theorem upto_zero (p : Nat → Bool) : Upto p 0 := fun _ h => by omega
theorem upto_step {p : Nat → Bool} {k : Nat} (hp : Upto p k) (h : p k = true) : Upto p (k + 1) := by
  intro j hj
  by_cases e : j = k
  · subst e; exact h
  · exact hp j (by omega)
def allB (p : Nat → Bool) (n : Nat) : Bool := (List.range n).all p
theorem allB_yes {p : Nat → Bool} {n k : Nat} (h : Upto p k) (hk : n ≤ k) : allB p n = true := by
  unfold allB; rw [List.all_eq_true]; intro x hx; exact h x (by have := List.mem_range.1 hx; omega)
theorem allB_no {p : Nat → Bool} {n k : Nat} (hk : k < n) (h : p k = false) : allB p n = false := by
  unfold allB; rw [List.all_eq_false]; exact ⟨k, List.mem_range.2 hk, by simp [h]⟩
theorem allB_upto {p : Nat → Bool} {n : Nat} (h : allB p n = true) : Upto p n := by
  unfold allB at h; rw [List.all_eq_true] at h; intro j hj; exact h j (List.mem_range.2 hj)
def membersB (n : Nat) (ms : List Int) : Bool := allB (okAt n ms) ms.length
theorem membersB_at {n : Nat} {ms : List Int} (h : membersB n ms = true) : ∀ j (hj : j < ms.length), 0 ≤ ms[j] ∧ ms[j] < n := fun j hj => by
  have := okAt_bd hj (allB_upto h j hj); exact ⟨this.1, this.2.1⟩
/-- What stands before place k, or -1. -/
def prevZ (ms : List Int) (k : Nat) : Int := if k = 0 then -1 else ms.getD (k - 1) 0
theorem prevZ_zero (ms : List Int) : prevZ ms 0 = -1 := rfl
theorem prevZ_succ {ms : List Int} {k : Nat} (hk : k < ms.length) : prevZ ms (k + 1) = ms[k] := by
  unfold prevZ; rw [if_neg (by omega), Nat.add_sub_cancel, getD_get hk]
theorem prevZ_lo {n : Nat} {ms : List Int} {k : Nat} (h : Upto (okAt n ms) k) (hk : k ≤ ms.length) : -1 ≤ prevZ ms k := by
  cases k with
  | zero => simp [prevZ]
  | succ k => rw [prevZ_succ (by omega)]; have := okAt_bd (by omega) (h k (by omega)); omega
theorem prevZ_hi {n : Nat} {ms : List Int} {k : Nat} (h : Upto (okAt n ms) k) (hk : k ≤ ms.length) : prevZ ms k < n ∨ prevZ ms k = -1 := by
  cases k with
  | zero => simp [prevZ]
  | succ k => rw [prevZ_succ (by omega)]; have := okAt_bd (by omega) (h k (by omega)); omega
theorem okAt_prev {n : Nat} {ms : List Int} {k : Nat} (hk : k < ms.length) (hl : -1 ≤ prevZ ms k) (h1 : prevZ ms k < ms[k]) (h2 : ms[k] < n) : okAt n ms k = true := by
  refine okAt_yes hk (by omega) h2 ?_
  by_cases e : k = 0
  · exact .inl e
  · refine .inr ?_
    unfold prevZ at h1; rw [if_neg e] at h1; exact h1
theorem okAt_prev_no {n : Nat} {ms : List Int} {k : Nat} (hk : k < ms.length) (h : ¬ (prevZ ms k < ms[k] ∧ ms[k] < n)) : okAt n ms k = false := by
  refine okAt_no hk ?_
  rintro ⟨h0, h1, h2⟩
  refine h ⟨?_, h1⟩
  unfold prevZ
  by_cases e : k = 0
  · rw [if_pos e]; omega
  · rw [if_neg e]; exact h2.resolve_left e

/-- The weight of the first k of some members. -/
def weightTo (c ms : List Int) (k : Nat) : Int := ((ms.take k).map fun m => c.getD m.toNat 0).sum
theorem weightTo_zero (c ms : List Int) : weightTo c ms 0 = 0 := rfl
theorem weightTo_succ {c ms : List Int} {k : Nat} (hk : k < ms.length) : weightTo c ms (k + 1) = weightTo c ms k + c.getD ms[k].toNat 0 := by
  unfold weightTo
  rw [List.take_succ_eq_append_getElem hk, List.map_append, List.sum_append]
  simp
theorem good_getD {c : List Int} (h : validB c = true) {i : Nat} (hi : i < c.length) : 1 ≤ c.getD i 0 ∧ c.getD i 0 ≤ 9 := by
  rw [getD_get hi]; exact validB_good h i hi
theorem weightTo_bd {c ms : List Int} (h : validB c = true) (hm : membersB c.length ms = true) (k : Nat) (hk : k ≤ ms.length) : 0 ≤ weightTo c ms k ∧ weightTo c ms k ≤ 9 * k := by
  induction k with
  | zero => simp [weightTo]
  | succ k ih =>
    have := ih (by omega)
    have g := membersB_at hm k (by omega)
    have := good_getD h (i := ms[k].toNat) (by omega)
    rw [weightTo_succ (by omega)]
    omega
def weightZ (c ms : List Int) : Int := weightTo c ms ms.length

/-- The answer x where c is a committee, else -1. -/
def orNo (c : List Int) (x : Int) : Int := if validB c = true then x else -1
theorem orNo_yes {c : List Int} (h : validB c = true) (x : Int) : orNo c x = x := by unfold orNo; rw [if_pos h]
theorem orNo_no {c : List Int} (h : validB c = false) (x : Int) : orNo c x = -1 := by unfold orNo; rw [if_neg (by simp [h])]

def mvB (c ms : List Int) : Bool := validB c && membersB c.length ms
theorem mvB_yes {c : List Int} (h : validB c = true) (ms : List Int) : mvB c ms = membersB c.length ms := by unfold mvB; rw [h, Bool.true_and]
theorem mvB_no {c : List Int} (h : validB c = false) (ms : List Int) : mvB c ms = false := by unfold mvB; rw [h, Bool.false_and]
theorem mvB_valid {c ms : List Int} (h : mvB c ms = true) : validB c = true := by unfold mvB at h; rw [Bool.and_eq_true] at h; exact h.1
theorem mvB_members {c ms : List Int} (h : mvB c ms = true) : membersB c.length ms = true := by unfold mvB at h; rw [Bool.and_eq_true] at h; exact h.2
def mwZ (c ms : List Int) : Int := if mvB c ms = true then weightZ c ms else -1
theorem mwZ_yes {c ms : List Int} (h : mvB c ms = true) : mwZ c ms = weightZ c ms := by unfold mwZ; rw [if_pos h]
theorem mwZ_no {c ms : List Int} (h : mvB c ms = false) : mwZ c ms = -1 := by unfold mwZ; rw [if_neg (by simp [h])]

/-! slices of the call's own -/
/-- T is the type of slices of ints, E the type of ints. -/
structure IntT (P : Program) (T E : TypeId) : Prop where
  sl : P.underlying T = some (.slice E)
  info : (P.info? E).map (fun i => (i.zero, i.size, i.bytes)) = some (some (.int .i64 0), 1, 8)

/-- The slice value v owns the numbers xs in memory made from block B on. -/
def Own (E : TypeId) (w : World) (B : Nat) (v : Value) (xs : List Int) : Prop := w.ownsRow B E 1 v xs.length (xs.map (Value.int .i64))

theorem addr_add (g j : Nat) : (⟨g, 0, none⟩ : Addr).add j = ⟨g, j, none⟩ := by unfold Addr.add; split <;> simp_all
theorem addr_add' (g o j : Nat) : (⟨g, o, none⟩ : Addr).add j = ⟨g, o + j, none⟩ := by unfold Addr.add; split <;> simp_all

theorem Own.nil (E : TypeId) (w : World) (B : Nat) : Own E w B (.slice none 0 0) [] := World.ownsRow_nil _ _ _ _
/-- An owned slice as a value, and how it reads. -/
theorem Own.ints {E : TypeId} {w : World} {B : Nat} {v : Value} {xs : List Int} (h : Own E w B v xs) : ∃ a cap, v = .slice a xs.length cap ∧ IntsAt w a xs ∧ xs.length ≤ maxLen := by
  rcases h.2 with ⟨rfl, h0⟩ | ⟨g, cap, cur, rfl, hb, hg, hn, hm, hs, ht⟩
  · have : xs = [] := List.eq_nil_of_length_eq_zero h0
    subst this
    exact ⟨none, 0, rfl, .inl rfl, by simp⟩
  · refine ⟨_, cap, rfl, .inr ⟨g, 0, rfl, (Array.getElem?_eq_some_iff.1 hg).1, fun j hj => ?_⟩, by omega⟩
    have hc := World.ownsRow.cells (w := w) (base := B) (e := E) (size := 1) (v := .slice (some ⟨g, 0, none⟩) xs.length cap) (n := xs.length) (xs := xs.map (Value.int .i64)) h (g := g) rfl j (.int .i64 xs[j]) (by simp [hj])
    rw [addr_add] at hc
    simpa using hc
theorem Own.kept {E : TypeId} {w w' : World} {B : Nat} {v : Value} {xs : List Int} {row : Option Nat} (h : Own E w B v xs) (hg : w.grownBy w' row) (hne : v.ownBlock = none ∨ v.ownBlock ≠ row) : Own E w' B v xs := World.ownsRow.kept h hg hne
theorem below_grown {w w' : World} (h : Below w.heap.size w w') : w.grownBy w' none := ⟨h.os, h.tape, h.output, h.size, fun k hk _ => h.block k hk⟩
theorem Own.below {E : TypeId} {w w' : World} {B : Nat} {v : Value} {xs : List Int} (h : Own E w B v xs) (hg : Below w.heap.size w w') : Own E w' B v xs :=
  h.kept (below_grown hg) (by cases hv : v.ownBlock <;> simp)
theorem Own.alloc {E : TypeId} {w : World} {B : Nat} {v : Value} {xs : List Int} (h : Own E w B v xs) (o : Obj) : Own E (w.alloc o) B v xs := World.ownsRow.alloc h o
theorem Own.mono {E : TypeId} {w : World} {B B' : Nat} {v : Value} {xs : List Int} (h : Own E w B v xs) (hB : B' ≤ B) : Own E w B' v xs := by
  refine ⟨h.1, ?_⟩
  rcases h.2 with h0 | ⟨g, cap, cur, e, hb, rest⟩
  · exact .inl h0
  · exact .inr ⟨g, cap, cur, e, by omega, rest⟩
theorem Own.lt {E : TypeId} {w : World} {B : Nat} {v : Value} {xs : List Int} (h : Own E w B v xs) : ∀ k, v.ownBlock = some k → B ≤ k ∧ k < w.heap.size := World.ownsRow.lt h
theorem Own.drewN {E : TypeId} {w : World} {B : Nat} {v : Value} {xs : List Int} (h : Own E w B v xs) (n : Nat) : Own E (w.drewN n) B v xs := h
theorem IntsAt.below {w w' : World} {a : Option Addr} {xs : List Int} (h : IntsAt w a xs) (hb : Below w.heap.size w w') : IntsAt w' a xs := by
  rcases h with rfl | ⟨b, off, rfl, hlt, hc⟩
  · exact .inl rfl
  · exact .inr ⟨b, off, rfl, Nat.lt_of_lt_of_le hlt hb.size, fun j hj => (hb.cell (p := ⟨b, off + j, none⟩) hlt).trans (hc j hj)⟩
theorem IntsAt.belowB {B : Nat} {w w' : World} {a : Option Addr} {xs : List Int} (h : IntsAt w a xs) (hlt : ∀ p, a = some p → p.block < B) (hb : Below B w w') : IntsAt w' a xs := by
  rcases h with rfl | ⟨b, off, rfl, h0, hc⟩
  · exact .inl rfl
  · exact .inr ⟨b, off, rfl, Nat.lt_of_lt_of_le h0 hb.size, fun j hj => (hb.cell (p := ⟨b, off + j, none⟩) (hlt ⟨b, off, none⟩ rfl)).trans (hc j hj)⟩
theorem Drawn.below {w w' : World} (h : Drawn w w') (B : Nat) : Below B w w' := by obtain ⟨q, rfl⟩ := h; exact below_drewN (Below.refl _ _) q
theorem below_step {B : Nat} {a w w' : World} (h : Below B a w) (hB : B ≤ w.heap.size) (k : Below w.heap.size w w') : Below B a w' := h.trans (k.mono hB)

theorem own_of_row {E : TypeId} {w : World} {b B : Nat} {xs : List Int} (h : w.rowIs b E xs.length (fun j => .int .i64 (xs.getD j 0))) (hB : B ≤ b) (hm : xs.length ≤ maxLen) : Own E w B (.slice (some ⟨b, 0, none⟩) xs.length xs.length) xs := by
  obtain ⟨c, hb, hn, hc⟩ := h
  refine ⟨by simp, .inr ⟨b, xs.length, c, rfl, hB, hb, Nat.le_refl _, hm, by omega, ?_⟩⟩
  apply List.ext_getElem?
  intro j
  rw [List.getElem?_take]
  by_cases hj : j < xs.length
  · rw [if_pos (by omega)]
    have := hc j hj
    rw [Array.getElem?_toList, this]
    simp [hj]
  · rw [if_neg (by omega), List.getElem?_eq_none (by simp; omega)]

theorem cells_one (w : World) (E : TypeId) (z : Int) : ∀ j u, [Value.int .i64 z][j]? = some u → (w.alloc (.cells #[.int .i64 z] E)).cell? ((⟨w.heap.size, 0, none⟩ : Addr).add j) = some u := by
  intro j u hu
  match j, hu with
  | 0, hu =>
    simp at hu; subst hu
    rw [addr_add, World.cell?_alloc_at _ _ _ _ rfl]; rfl
theorem grownBy_trans {w a b : World} {row : Option Nat} (h : w.grownBy a row) (k : a.grownBy b row) : w.grownBy b row :=
  ⟨k.os.trans h.os, k.tape.trans h.tape, k.output.trans h.output, Nat.le_trans h.size k.size, fun i hi hr => (k.block i (Nat.lt_of_lt_of_le hi h.size) hr).trans (h.block i hi hr)⟩

/-- 'append(s, z)' onto a slice of the call's own. -/
theorem wpList_push {P : Program} {T E : TypeId} (hT : IntT P T E) {w : World} {ops : Array Oper} {rest : List Oper} {o : Oper} {a : Act} {Q : Exit → Act → World → Prop} (hgd : o.guard = none) (s x : Operand)
    (ho : o.op = .call { callee := .builtin .append, args := #[s, x], argTypes := #[T, T] }) (B : Nat) (v : Value) (xs : List Int) (z : Int) (hs : a.eval s = v) (hown : Own E w B v xs)
    (hlen : xs.length ≤ 1099511627776) (hx : a.eval x = .slice (some ⟨w.heap.size, 0, none⟩) 1 1) (hB : B ≤ w.heap.size)
    (h : ∀ v' w', Own E w' B v' (xs ++ [z]) → w.grownBy w' v.ownBlock → wpList P ops Q rest (a.put o.dst v') w') : wpList P ops Q (o :: rest) a (w.alloc (.cells #[.int .i64 z] E)) := by
  obtain ⟨i, hi, hz, hsz, hby⟩ := info_parts hT.info
  refine wpList_append_own _ hgd s x T ho B E i (.int .i64 0) 1 8 hT.sl hi hz hsz hby rfl (by decide) v xs.length _ hs (World.ownsRow.alloc hown _) ⟨w.heap.size, 0, none⟩ 1 1 [.int .i64 z] hx rfl (cells_one _ _ _) (by intro u hu; simp at hu; subst hu; rfl) (by unfold maxLen; omega) (by omega) (by simp; omega) ?_
  intro v' w' h1 h2 _
  refine h v' w' ?_ (grownBy_trans (World.grownBy_alloc _ _ _) h2)
  unfold Own; simpa using h1

/-- A new row of n zeros whose first k places have been filled from xs. -/
def filled (xs : List Int) (k : Nat) (j : Nat) : Value := if j < k then .int .i64 (xs.getD j 0) else .int .i64 0
theorem filled_zero (E : TypeId) (w : World) (xs : List Int) : (w.alloc (.cells (madeCells #[.int .i64 0] xs.length) E)).rowIs w.heap.size E xs.length (filled xs 0) :=
  (World.rowIs_made w (.int .i64 0) xs.length E).congr fun i _ => by unfold filled; rw [if_neg (by omega)]
theorem filled_step {E : TypeId} {w : World} {b : Nat} {xs : List Int} {k : Nat} (h : w.rowIs b E xs.length (filled xs k)) (hk : k < xs.length) : (w.setCell ⟨b, k, none⟩ (.int .i64 xs[k])).rowIs b E xs.length (filled xs (k + 1)) :=
  (h.set k _).congr fun i _ => by
    unfold filled
    by_cases e : i = k
    · subst e; rw [if_pos rfl, if_pos (by omega), getD_get hk]
    · rw [if_neg e]; by_cases l : i < k
      · rw [if_pos l, if_pos (by omega)]
      · rw [if_neg l, if_neg (by omega)]
theorem filled_own {E : TypeId} {w : World} {b B : Nat} {xs : List Int} {k : Nat} (h : w.rowIs b E xs.length (filled xs k)) (hk : xs.length ≤ k) (hB : B ≤ b) (hm : xs.length ≤ 1099511627776) : Own E w B (.slice (some ⟨b, 0, none⟩) xs.length xs.length) xs :=
  own_of_row (h.congr fun i hi => by unfold filled; rw [if_pos (by omega)]) hB (by unfold maxLen; omega)

/-- A literal's cells, still there when only others have been written. -/
theorem lit_cell {w w' : World} {E : TypeId} {c : Array Value} {row : Option Nat} (hg : (w.alloc (.cells c E)).grownBy w' row) (hne : some w.heap.size ≠ row) {j : Nat} {v : Value} (hv : c[j]? = some v) : w'.cell? ⟨w.heap.size, j, none⟩ = some v := by
  refine hg.cell ?_ hne
  rw [World.cell?_alloc_at _ _ _ _ rfl]
  simpa using hv
/-- An empty literal. -/
theorem own_empty (E : TypeId) (w : World) {B : Nat} (hB : B ≤ w.heap.size) : Own E (w.alloc (.cells #[] E)) B (.slice (some ⟨w.heap.size, 0, none⟩) 0 0) [] :=
  World.ownsRow_made w #[] 0 hB (by simp) (by simp)

theorem cells_many (w : World) (E : TypeId) (zs : List Int) : ∀ j u, (zs.map (Value.int .i64))[j]? = some u → (w.alloc (.cells (zs.map (Value.int .i64)).toArray E)).cell? ((⟨w.heap.size, 0, none⟩ : Addr).add j) = some u := by
  intro j u hu
  rw [addr_add, World.cell?_alloc_at _ _ _ _ rfl]
  simpa using hu
/-- 'append(s, z0, z1, ..)' onto a slice of the call's own. -/
theorem wpList_pushes {P : Program} {T E : TypeId} (hT : IntT P T E) {w : World} {ops : Array Oper} {rest : List Oper} {o : Oper} {a : Act} {Q : Exit → Act → World → Prop} (hgd : o.guard = none) (s x : Operand)
    (ho : o.op = .call { callee := .builtin .append, args := #[s, x], argTypes := #[T, T] }) (B : Nat) (v : Value) (xs zs : List Int) (n : Nat) (c : Array Value) (hn : n = zs.length) (hcs : c = (zs.map (Value.int .i64)).toArray) (hs : a.eval s = v) (hown : Own E w B v xs)
    (hlen : xs.length + zs.length ≤ 1099511627776) (hx : a.eval x = .slice (some ⟨w.heap.size, 0, none⟩) n n) (hB : B ≤ w.heap.size)
    (h : ∀ v' w', Own E w' B v' (xs ++ zs) → w.grownBy w' v.ownBlock → wpList P ops Q rest (a.put o.dst v') w') : wpList P ops Q (o :: rest) a (w.alloc (.cells c E)) := by
  subst hn; subst hcs
  obtain ⟨i, hi, hz, hsz, hby⟩ := info_parts hT.info
  refine wpList_append_own _ hgd s x T ho B E i (.int .i64 0) 1 8 hT.sl hi hz hsz hby rfl (by decide) v xs.length _ hs (World.ownsRow.alloc hown _) ⟨w.heap.size, 0, none⟩ zs.length zs.length (zs.map (Value.int .i64)) hx (by simp) (cells_many _ _ _) (by intro u hu; simp at hu; obtain ⟨_, _, rfl⟩ := hu; rfl) (by unfold maxLen; omega) (by omega) (by simp; omega) ?_
  intro v' w' h1 h2 _
  refine h v' w' ?_ (grownBy_trans (World.grownBy_alloc _ _ _) h2)
  unfold Own; simpa using h1
/-- An owned slice that is not empty, its cells and that none is frozen. -/
theorem Own.row {E : TypeId} {w : World} {B : Nat} {v : Value} {xs : List Int} (h : Own E w B v xs) (hx : 0 < xs.length) : ∃ g cap, v = .slice (some ⟨g, 0, none⟩) xs.length cap ∧ B ≤ g ∧ g < w.heap.size ∧ xs.length ≤ cap ∧
    (∀ j (h : j < xs.length), w.cell? ⟨g, j, none⟩ = some (.int .i64 xs[j])) ∧ ∀ j, w.frozen? ⟨g, j, none⟩ = false := by
  rcases h.2 with ⟨rfl, h0⟩ | ⟨g, cap, cur, rfl, hb, hg, hn, hm, hs, ht⟩
  · omega
  · refine ⟨g, cap, rfl, hb, (Array.getElem?_eq_some_iff.1 hg).1, hn, fun j hj => ?_, fun j => frozen_of_row w g j cur E hg⟩
    have hc := World.ownsRow.cells (w := w) (base := B) (e := E) (size := 1) (v := .slice (some ⟨g, 0, none⟩) xs.length cap) (n := xs.length) (xs := xs.map (Value.int .i64)) h (g := g) rfl j (.int .i64 xs[j]) (by simp [hj])
    rwa [addr_add] at hc
theorem Own.store {E : TypeId} {w : World} {B g cap n : Nat} {xs : List Int} (h : Own E w B (.slice (some ⟨g, 0, none⟩) n cap) xs) (hn : n = xs.length) (j : Nat) (z : Int) :
    Own E (w.setCell ⟨g, j, none⟩ (.int .i64 z)) B (.slice (some ⟨g, 0, none⟩) n cap) (xs.set j z) ∧ w.grownBy (w.setCell ⟨g, j, none⟩ (.int .i64 z)) (some g) := by
  subst hn
  have := World.ownsRow.stored (w := w) (base := B) (e := E) (size := 1) (g := g) (n := xs.length) (cap := cap) h j (.int .i64 z)
  refine ⟨?_, this.2⟩
  unfold Own
  rw [List.map_set, List.length_set]
  exact this.1
theorem Own.front {E : TypeId} {w : World} {B g cap n : Nat} {xs : List Int} (h : Own E w B (.slice (some ⟨g, 0, none⟩) n cap) xs) (k : Nat) (hk : k ≤ xs.length) : Own E w B (.slice (some ⟨g, 0, none⟩) k cap) (xs.take k) := by
  rcases h.2 with ⟨h', _⟩ | ⟨g', cap', cur, h', hb, hg, hn, hm, hs, ht⟩
  · simp at h'
  · simp only [Value.slice.injEq, Option.some.injEq, Addr.mk.injEq, and_true] at h'
    obtain ⟨rfl, rfl, rfl⟩ := h'
    have hl : (xs.take k).length = k := by rw [List.length_take]; omega
    refine ⟨by simp, .inr ⟨g, cap, cur, by rw [hl], hb, hg, by omega, hm, hs, ?_⟩⟩
    rw [hl, Nat.mul_one, List.map_take, ← ht, Nat.mul_one, List.take_take, Nat.min_eq_left hk]

end Go.Proofs.Ytfnhafgjdnlhiaa

/- From a walk that returns true and writes nothing that was there to the given statement of a law: general steps, without conditions; nothing here speaks of the program. -/
namespace Go.Proofs.Ytfnhafgjdnlhiaa
open Go.ChangeShapes Go.WideShapes Go.ChangeAt Go.RowKit

section
variable {H : Type} {enc : TypeId × Value → H} {P : Program}

theorem trodAll_below (hl : laidOutB P = true) {W W' : World} (hb : Below W.heap.size W W') : ∀ (ts : List TypeId) (vs : List Value) (ds : List (DataW H)) (ps : List MemPlace),
    (∀ t ∈ ts, P.readableRec t = true ∧ t < P.types.size) → DataW.TrodAll enc P W 0 (fun _ => true) true ts vs ds ps → DataW.TrodAll enc P W' 0 (fun b => decide (b < W.heap.size)) true ts vs ds ps
  | [], vs, ds, ps, _, h => by
    obtain ⟨rfl, rfl, rfl⟩ := trodAll_nil h
    exact trodAll_mk0
  | t :: ts, vs, ds, ps, hr, h => by
    obtain ⟨v, vs', d, ds', p, q, rfl, rfl, rfl, h1, h2⟩ := trodAll_cons h
    have k := h1
    have lt : ∀ x ∈ p, x.block < W.heap.size := by obtain ⟨m, hm⟩ := k; exact DataW.trod_lt m _ _ _ hm
    have ht := hr t (by simp)
    exact trodAll_cons_mk (Below.trod hl ht.1 ht.2 h1 hb lt) (trodAll_below hl hb ts vs' ds' q (fun t' m => hr t' (by simp [m])) h2)
theorem trodAll_len {w : World} {base : Nat} {spare : Nat → Bool} {held : Bool} : ∀ (ts : List TypeId) (vs : List Value) (ds : List (DataW H)) (ps : List MemPlace), DataW.TrodAll enc P w base spare held ts vs ds ps → ds.length = ts.length
  | [], vs, ds, ps, h => by obtain ⟨rfl, rfl, rfl⟩ := trodAll_nil h; rfl
  | t :: ts, vs, ds, ps, h => by
    obtain ⟨v, vs', d, ds', p, q, rfl, rfl, rfl, _, h2⟩ := trodAll_cons h
    simp [trodAll_len ts vs' ds' q h2]
end

theorem law_lifted {C : Checked} {os : Os} {f : FuncId} {fn : Func} {s : ChangeSpec} {tb : TypeId} {H : Type} {enc : TypeId × Value → H} (own : ownKnob C.prog.godebug = none) (laid : laidOutB C.prog = true) (started : os.Started)
    (noInit : C.prog.inits.idxOf? f = none) (hfn : C.prog.funcs[f]? = some fn) (hrt : fn.resultTypes = #[tb]) (hub : C.prog.underlying tb = some .bool) (hvars : s.vars = [])
    (hread : ∀ t ∈ fn.params.toList, C.prog.readableRec t = true ∧ t < C.prog.types.size)
    (hs : ∀ ds : List (DataW H), ds.length = fn.params.toList.length → s.fn H (ds ++ []) = { results := [.lit (.bool true)], args := ds })
    (wit : ∃ (w : World) (tape : Tape) (i : Input), w.os = os ∧ (w.forCall tape i).Shaped C.prog ∧ i.vars = [] ∧ Input.okWide C.prog (w.forCall tape i) .any w.heap.size f i ∧
      s.pre6 enc C.prog fn [] false (w.forCall tape i).memory i.args ∧ ({} : Assume).holds C.prog (lone (Frame.enter C.prog f i.args .normal) [] (w.forCall tape i)))
    (walk : ∀ (W : World) (base : Nat) (args : Array Value) (ds : List (DataW H)) (p : List MemPlace), (∀ (j : Nat) t v, fn.params[j]? = some t → args[j]? = some v → Value.okWide C.prog W .any base t v) →
      DataW.TrodAll enc C.prog W 0 (fun _ => true) true fn.params.toList args.toList ds p → Calls C.prog f args W fun e W' => e = .returned (.bool true) ∧ Below W.heap.size W W') :
    ReturnsInHanded {} C os f .any (s.pre6 enc C.prog fn [] false) (s.post enc C.prog fn false true false false) := by
  refine returnsInHanded_of_change own started noInit hfn wit ?_
  intro W base args ds gs before hval hW _ _
  have hW' := hW
  obtain ⟨p, q, hA, hV, rfl, hfz, hnd⟩ := hW
  rw [hvars] at hV
  obtain ⟨rfl, rfl⟩ := trodVars_none hV
  refine (walk W base args ds p hval hA).mono fun e W' ⟨he, bel⟩ => ?_
  subst he
  have hfn' := hs ds (trodAll_len _ _ _ _ hA)
  refine ⟨_, rfl, ds, [], _, [], p, [], hW', ?_, ?_, ?_, bel.frame _, fun h => by cases h⟩
  · rw [hfn', hrt]; exact trodAll_mk1 (shut_bool hub _)
  · rw [hfn']; exact trodAll_below laid bel _ _ _ _ hread hA
  · rw [hfn', hvars]; rfl

theorem wf_i64 {n : Int} (h : (Lit.int .i64 n).wf = true) : -9223372036854775808 ≤ n ∧ n ≤ 9223372036854775807 := by
  have h1 : (-9223372036854775808 : Int) = IntKind.i64.min := by decide
  have h2 : (9223372036854775807 : Int) = IntKind.i64.max := by decide
  simp [Lit.wf] at h
  omega

/-- A slice of integers of kind k that came in. -/
theorem open_slice_ints {H : Type} {enc : TypeId × Value → H} {P : Program} {W : World} {base : Nat} {T E : TypeId} {k : IntKind} {v : Value} {d : DataW H} {p : List MemPlace} (hT : P.underlying T = some (.slice E)) (hE : P.underlying E = some (.int k)) (hc : P.cellsOf E = 1)
    (hv : Value.okWide P W .any base T v) (h : DataW.Trod enc P W 0 (fun _ => true) true T v d p) :
    ∃ a cap zs, v = .slice a zs.length cap ∧ zs.length ≤ cap ∧ zs.length ≤ maxLen ∧ (zs = [] ∨ ∃ b off, a = some ⟨b, off, none⟩ ∧ b < W.heap.size ∧ ∀ j (h : j < zs.length), W.cell? ⟨b, off + j, none⟩ = some (.int k zs[j])) ∧ ∀ z ∈ zs, (Lit.int k z).wf = true := by
  obtain ⟨a0, len0, cap0, rfl⟩ := okWide_slice hT hv
  obtain ⟨fuel, hf⟩ := h
  rcases open_ints hT hE hc hf with ⟨hcs, _⟩ | ⟨x, l, c, zs, hcs, _, hl, hm, hz, _, hcell, hwz⟩
  · simp [Value.cells] at hcs
    obtain ⟨rfl, rfl, rfl⟩ := hcs
    exact ⟨none, 0, [], rfl, by simp, by simp, .inl rfl, by simp⟩
  · simp [Value.cells] at hcs
    obtain ⟨rfl, rfl, rfl⟩ := hcs
    have hz' : zs.length = cap0 := by simpa using hz
    have hlen : (zs.take len0).length = len0 := by rw [List.length_take]; omega
    refine ⟨_, cap0, zs.take len0, by rw [hlen], by omega, by omega, ?_, fun z hzm => hwz z (List.mem_of_mem_take hzm)⟩
    by_cases h0 : len0 = 0
    · exact .inl (by rw [h0]; rfl)
    · obtain ⟨b, off, rfl, hcc⟩ := ints_at hcell (by omega)
      refine .inr ⟨b, off, rfl, ?_, fun j hj => ?_⟩
      · have := World.block_lt_of_cell? W _ (hcc 0 (by omega)); exact this
      · rw [hlen] at hj
        rw [hcc j (by omega), List.getElem_take, getD_get (by omega)]

end Go.Proofs.Ytfnhafgjdnlhiaa

/- What the functions of committees answer, each by a walk of its text: the answers are those of plain functions on lists; conditions: a list that is read has fewer than 2^40 elements. -/
namespace Go.Proofs.Ytfnhafgjdnlhiaa
open Go.RowKit

theorem spec_l6In (n lo hi : Int) (w : World) : Calls Try.prog 58 #[.int .i64 n, .int .i64 lo, .int .i64 hi] w fun e w' => e = .returned (.bool (decide (lo ≤ n ∧ n ≤ hi))) ∧ w = w' := by
  by_cases h1 : lo ≤ n
  · go_enter Try.func58, Try.ntmps58
    go_wp2
    go_ret
    exact ⟨ret_bool (by simp [h1]), rfl⟩
  · go_enter Try.func58, Try.ntmps58
    go_wp2
    go_ret
    exact ⟨ret_bool (by simp; omega), rfl⟩
theorem spec_l6In_yes {n lo hi : Int} (h : lo ≤ n ∧ n ≤ hi) (w : World) : Calls Try.prog 58 #[.int .i64 n, .int .i64 lo, .int .i64 hi] w fun e w' => e = .returned (.bool true) ∧ w = w' := by
  have := spec_l6In n lo hi w
  rwa [decide_eq_true h] at this
theorem spec_l6In_no {n lo hi : Int} (h : ¬ (lo ≤ n ∧ n ≤ hi)) (w : World) : Calls Try.prog 58 #[.int .i64 n, .int .i64 lo, .int .i64 hi] w fun e w' => e = .returned (.bool false) ∧ w = w' := by
  have := spec_l6In n lo hi w
  rwa [decide_eq_false h] at this

end Go.Proofs.Ytfnhafgjdnlhiaa

/- What the helpers of the laws answer (copies, comparisons, subsets of numbers), each by a walk of its text; conditions: a list that is read has fewer than 2^40 elements. -/
namespace Go.Proofs.Ytfnhafgjdnlhiaa
open Go.RowKit

theorem TI : IntT Try.prog 23 3 := ⟨Try.underlying23, by kernel_rfl⟩

theorem laws_toIntS (a : Option Addr) (cap : Nat) (xs : List Int) (w : World) (hbig : xs.length ≤ 1099511627776) (hc : IntsAt w a xs) :
    Calls Try.prog 41 #[.slice a xs.length cap] w fun e w' => ∃ v, e = .returned v ∧ Own 3 w' w.heap.size v xs ∧ Below w.heap.size w w' := by
  have hmk : ∀ w, (Instr.makeSlice 23 (.int .i64 (xs.length : Int)) (.int .i64 (xs.length : Int))).run Try.prog w = .ok (.slice (some ⟨w.heap.size, 0, none⟩) xs.length xs.length) (w.alloc (.cells (madeCells #[.int .i64 0] xs.length) 3)) :=
    fun w => run_make_row' 23 3 (.int .i64 0) 8 TI.sl TI.info rfl .i64 .i64 xs.length (by omega) (by omega) w
  rcases hc.len with h0 | ⟨b, off, rfl, hb, hc⟩
  all_goals
    go_enter Try.func41, Try.ntmps41
    go_wp2
    go_loopw [4] (fun i wr => ∃ k : Nat, k ≤ xs.length ∧ i = .int .i64 k ∧ wr.rowIs w.heap.size 3 xs.length (filled xs k) ∧ Below w.heap.size w wr) (fun i _ => xs.length - (intOf i).toNat)
    case atStart => exact ⟨0, by omega, rfl, filled_zero _ _ _, (Below.refl _ _).alloc (Nat.le_refl _) _⟩
    case round =>
      obtain ⟨k, hk, rfl, hrow, hbel⟩ := hrel
      have Hmk := Lib.hid hmk; clear hmk
      by_cases hlt : k < xs.length
      · first
        | (exfalso; omega)
        | (have hcell := (hbel.cell (p := ⟨b, off + k, none⟩) hb).trans (hc k hlt)
           have hold := hrow.cell hlt
           have hfr := hrow.frozen k
           have Hc := Lib.hid hc; clear hc
           go_wp2
           go_roundw
           case rel => exact ⟨k + 1, by omega, by go_num, filled_step hrow hlt, hbel.setCell (Nat.le_refl _) _⟩
           case measure => simp [intOf]; omega)
      · go_wp2
        go_ret
        exact ⟨_, rfl, filled_own hrow (by omega) (Nat.le_refl _) hbig, hbel⟩

def eqUpto (xs ys : List Int) (k : Nat) : Prop := ∀ j, j < k → xs.getD j 0 = ys.getD j 0
theorem eqUpto_zero (xs ys : List Int) : eqUpto xs ys 0 := fun _ h => by omega
theorem eqUpto_step {xs ys : List Int} {k : Nat} (h : eqUpto xs ys k) (h1 : k < xs.length) (h2 : k < ys.length) (e : xs[k] = ys[k]) : eqUpto xs ys (k + 1) := by
  intro j hj
  by_cases ej : j = k
  · subst ej; rw [getD_get h1, getD_get h2, e]
  · exact h j (by omega)
def eqB (xs ys : List Int) : Bool := decide (xs = ys)
theorem eqB_yes {xs ys : List Int} {k : Nat} (h : eqUpto xs ys k) (hl : xs.length = ys.length) (hk : xs.length ≤ k) : eqB xs ys = true := by
  refine decide_eq_true (List.ext_getElem hl fun j h1 h2 => ?_)
  have := h j (by omega)
  rwa [getD_get h1, getD_get h2] at this
theorem eqB_no {xs ys : List Int} {k : Nat} (h1 : k < xs.length) (h2 : k < ys.length) (e : ¬ xs[k] = ys[k]) : eqB xs ys = false := by
  refine decide_eq_false fun h => e ?_
  subst h; rfl
theorem eqB_len {xs ys : List Int} (hl : ¬ xs.length = ys.length) : eqB xs ys = false := decide_eq_false fun h => hl (by rw [h])

theorem laws_eqIntS (a a' : Option Addr) (cap cap' : Nat) (xs ys : List Int) (w : World) (hbig : xs.length ≤ 1099511627776) (_hbig' : ys.length ≤ 1099511627776) (hc : IntsAt w a xs) (hc' : IntsAt w a' ys) :
    Calls Try.prog 43 #[.slice a xs.length cap, .slice a' ys.length cap'] w fun e w' => e = .returned (.bool (eqB xs ys)) ∧ Drawn w w' := by
  by_cases hl : xs.length = ys.length
  · have hn1 : ((xs.length : Int) == (ys.length : Int)) = true := by rw [beq_iff_eq]; omega
    have hn2 : ((xs.length : Int) != (ys.length : Int)) = false := by rw [bne_eq_false_iff_eq]; omega
    have hle : ys.length ≤ xs.length := by omega
    have hge : xs.length ≤ ys.length := by omega
    have Hl := Lib.hid hl; clear hl
    rcases hc.len with h0 | ⟨b, off, rfl, hb, hc⟩ <;> rcases hc'.len with h0' | ⟨b', off', rfl, hb', hc'⟩
    all_goals
      go_enter Try.func43, Try.ntmps43
      go_wp2
      go_loopw [5] (fun i wr => ∃ k : Nat, k ≤ xs.length ∧ i = .int .i64 k ∧ eqUpto xs ys k ∧ Drawn w wr) (fun i _ => xs.length - (intOf i).toNat)
      case atStart => exact ⟨0, by omega, rfl, eqUpto_zero _ _, Drawn.refl _⟩
      case round =>
        obtain ⟨k, hk, rfl, hg, hwr⟩ := hrel
        by_cases hlt : k < xs.length
        · first
          | (exfalso; omega)
          | (have hlt' : k < ys.length := by omega
             have hcell := (hwr.cell ⟨b, off + k, none⟩).trans (hc k hlt)
             have hcell' := (hwr.cell ⟨b', off' + k, none⟩).trans (hc' k hlt')
             have Hc := Lib.hid hc; clear hc
             have Hc' := Lib.hid hc'; clear hc'
             by_cases e : xs[k] = ys[k]
             · have e1 : (xs[k] == ys[k]) = true := by rw [beq_iff_eq]; exact e
               have e2 : (xs[k] != ys[k]) = false := by rw [bne_eq_false_iff_eq]; exact e
               have He := Lib.hid e; clear e
               go_wp2
               go_quiet (fail)
               go_wp2
               go_roundw
               case rel => exact ⟨k + 1, by omega, by go_num, eqUpto_step hg hlt hlt' He.out, hwr.drewN _⟩
               case measure => simp [intOf]; omega
             · have e1 : (xs[k] == ys[k]) = false := by rw [beq_eq_false_iff_ne]; exact e
               have e2 : (xs[k] != ys[k]) = true := by rw [bne_iff_ne]; exact e
               have He := Lib.hid e; clear e
               go_wp2
               go_quiet (fail)
               go_wp2
               go_ret
               exact ⟨ret_bool (eqB_no hlt hlt' He.out).symm, hwr.drewN _⟩)
        · go_wp2
          go_ret
          exact ⟨ret_bool (eqB_yes hg Hl.out (by omega)).symm, hwr⟩
  · have hn1 : ((xs.length : Int) == (ys.length : Int)) = false := by rw [beq_eq_false_iff_ne]; omega
    have hn2 : ((xs.length : Int) != (ys.length : Int)) = true := by rw [bne_iff_ne]; omega
    go_enter Try.func43, Try.ntmps43
    go_wp2
    go_ret
    exact ⟨ret_bool (eqB_len hl).symm, Drawn.refl _⟩

theorem laws_eqIntS' (a a' : Option Addr) (cap cap' : Nat) (xs : List Int) (w : World) (hbig : xs.length ≤ 1099511627776) (hc : IntsAt w a xs) (hc' : IntsAt w a' xs) :
    Calls Try.prog 43 #[.slice a xs.length cap, .slice a' xs.length cap'] w fun e w' => e = .returned (.bool true) ∧ Drawn w w' := by
  have h := laws_eqIntS a a' cap cap' xs xs w hbig hbig hc hc'
  rw [show eqB xs xs = true from decide_eq_true rfl] at h
  exact h

theorem laws_sameInts (a a' : Option Addr) (cap cap' : Nat) (xs ys : List Int) (w : World) (hbig : xs.length ≤ 1099511627776) (_hbig' : ys.length ≤ 1099511627776) (hc : IntsAt w a xs) (hc' : IntsAt w a' ys) :
    Calls Try.prog 36 #[.slice a xs.length cap, .slice a' ys.length cap'] w fun e w' => e = .returned (.bool (eqB xs ys)) ∧ Drawn w w' := by
  by_cases hl : xs.length = ys.length
  · have hn1 : ((xs.length : Int) == (ys.length : Int)) = true := by rw [beq_iff_eq]; omega
    have hn2 : ((xs.length : Int) != (ys.length : Int)) = false := by rw [bne_eq_false_iff_eq]; omega
    have hle : ys.length ≤ xs.length := by omega
    have hge : xs.length ≤ ys.length := by omega
    have Hl := Lib.hid hl; clear hl
    rcases hc.len with h0 | ⟨b, off, rfl, hb, hc⟩ <;> rcases hc'.len with h0' | ⟨b', off', rfl, hb', hc'⟩
    all_goals
      go_enter Try.func36, Try.ntmps36
      go_wp2
      go_loopw [5] (fun i wr => ∃ k : Nat, k ≤ xs.length ∧ i = .int .i64 k ∧ eqUpto xs ys k ∧ Drawn w wr) (fun i _ => xs.length - (intOf i).toNat)
      case atStart => exact ⟨0, by omega, rfl, eqUpto_zero _ _, Drawn.refl _⟩
      case round =>
        obtain ⟨k, hk, rfl, hg, hwr⟩ := hrel
        by_cases hlt : k < xs.length
        · first
          | (exfalso; omega)
          | (have hlt' : k < ys.length := by omega
             have hcell := (hwr.cell ⟨b, off + k, none⟩).trans (hc k hlt)
             have hcell' := (hwr.cell ⟨b', off' + k, none⟩).trans (hc' k hlt')
             have Hc := Lib.hid hc; clear hc
             have Hc' := Lib.hid hc'; clear hc'
             by_cases e : xs[k] = ys[k]
             · have e1 : (xs[k] == ys[k]) = true := by rw [beq_iff_eq]; exact e
               have e2 : (xs[k] != ys[k]) = false := by rw [bne_eq_false_iff_eq]; exact e
               have He := Lib.hid e; clear e
               go_wp2
               go_quiet (fail)
               go_wp2
               go_roundw
               case rel => exact ⟨k + 1, by omega, by go_num, eqUpto_step hg hlt hlt' He.out, hwr.drewN _⟩
               case measure => simp [intOf]; omega
             · have e1 : (xs[k] == ys[k]) = false := by rw [beq_eq_false_iff_ne]; exact e
               have e2 : (xs[k] != ys[k]) = true := by rw [bne_iff_ne]; exact e
               have He := Lib.hid e; clear e
               go_wp2
               go_quiet (fail)
               go_wp2
               go_ret
               exact ⟨ret_bool (eqB_no hlt hlt' He.out).symm, hwr.drewN _⟩)
        · go_wp2
          go_ret
          exact ⟨ret_bool (eqB_yes hg Hl.out (by omega)).symm, hwr⟩
  · have hn1 : ((xs.length : Int) == (ys.length : Int)) = false := by rw [beq_eq_false_iff_ne]; omega
    have hn2 : ((xs.length : Int) != (ys.length : Int)) = true := by rw [bne_iff_ne]; omega
    go_enter Try.func36, Try.ntmps36
    go_wp2
    go_ret
    exact ⟨ret_bool (eqB_len hl).symm, Drawn.refl _⟩

def hasB (l : List Int) (n : Int) : Bool := decide (n ∈ l)
theorem hasB_yes {l : List Int} {k : Nat} (hk : k < l.length) : hasB l l[k] = true := decide_eq_true (List.getElem_mem hk)
theorem hasB_no {l : List Int} {n : Int} {k : Nat} (h : Pre (fun x => x != n) l k) (hk : l.length ≤ k) : hasB l n = false := by
  refine decide_eq_false fun hm => ?_
  obtain ⟨j, hj, e⟩ := List.mem_iff_getElem.1 hm
  have := h j hj (by omega)
  rw [e] at this; simp at this

theorem laws_sameInts' (a a' : Option Addr) (cap cap' : Nat) (xs : List Int) (w : World) (hbig : xs.length ≤ 1099511627776) (hc : IntsAt w a xs) (hc' : IntsAt w a' xs) :
    Calls Try.prog 36 #[.slice a xs.length cap, .slice a' xs.length cap'] w fun e w' => e = .returned (.bool true) ∧ Drawn w w' := by
  have h := laws_sameInts a a' cap cap' xs xs w hbig hbig hc hc'
  rw [show eqB xs xs = true from decide_eq_true rfl] at h
  exact h

def rangeF (p : Nat → Bool) (n : Nat) : List Int := ((List.range n).filter p).map (fun (i : Nat) => (i : Int))
theorem rangeF_zero (p : Nat → Bool) : rangeF p 0 = [] := rfl
theorem rangeF_yes {p : Nat → Bool} {n : Nat} (h : p n = true) : rangeF p (n + 1) = rangeF p n ++ [(n : Int)] := by simp [rangeF, List.range_succ, List.filter_append, h]
theorem rangeF_no {p : Nat → Bool} {n : Nat} (h : p n = false) : rangeF p (n + 1) = rangeF p n := by simp [rangeF, List.range_succ, List.filter_append, h]
theorem rangeF_len (p : Nat → Bool) (n : Nat) : (rangeF p n).length ≤ n := by
  unfold rangeF; rw [List.length_map]; exact Nat.le_trans (List.length_filter_le _ _) (by simp)
def bitB (b : Nat) (i : Nat) : Bool := b / 2 ^ i % 2 == 1
def halved (b k : Nat) : Nat := b / 2 ^ k
theorem halved_zero (b : Nat) : halved b 0 = b := by unfold halved; rw [Nat.pow_zero, Nat.div_one]
theorem halved_succ (b k : Nat) : halved b (k + 1) = halved b k / 2 := by unfold halved; rw [Nat.pow_succ, Nat.div_div_eq_div_mul]
theorem halved_le (b k : Nat) : halved b k ≤ b := Nat.div_le_self _ _

def commonTo (a b : List Int) (k : Nat) : List Int := (a.take k).filter (hasB b)
theorem commonTo_yes {a b : List Int} {k : Nat} (hk : k < a.length) (h : hasB b a[k] = true) : commonTo a b (k + 1) = commonTo a b k ++ [a[k]] := by
  unfold commonTo; rw [List.take_succ_eq_append_getElem hk, List.filter_append]; simp [h]
theorem commonTo_no {a b : List Int} {k : Nat} (hk : k < a.length) (h : hasB b a[k] = false) : commonTo a b (k + 1) = commonTo a b k := by
  unfold commonTo; rw [List.take_succ_eq_append_getElem hk, List.filter_append]; simp [h]
theorem commonTo_len (a b : List Int) (k : Nat) : (commonTo a b k).length ≤ k := Nat.le_trans (List.length_filter_le _ _) (List.length_take_le _ _)
def commonZ (a b : List Int) : List Int := commonTo a b a.length
theorem commonZ_eq (a b : List Int) : commonZ a b = a.filter (hasB b) := by unfold commonZ commonTo; rw [List.take_length]

end Go.Proofs.Ytfnhafgjdnlhiaa

/- What the laws' helpers that mark a list of integers and look the marks up answer, each by a walk of its text; condition: a list has at most 2^40 elements. -/
namespace Go.Proofs.Ytfnhafgjdnlhiaa
open Go.RowKit

/-- The marks k, k+1, .. -/
def markL (k n : Nat) : List Int := (List.range n).map (fun j => ((k + j : Nat) : Int))
theorem markL_len (k n : Nat) : (markL k n).length = n := by simp [markL]
theorem markL_get (k n j : Nat) (h : j < (markL k n).length) : (markL k n)[j] = ((k + j : Nat) : Int) := by simp [markL]
theorem markL_snoc (k n : Nat) : markL k (n + 1) = markL k n ++ [((k + n : Nat) : Int)] := by simp [markL, List.range_succ]
/-- i elements are marked. -/
def markU (xs : List Int) (k i : Nat) : List Int := markL k i ++ xs.drop i
theorem markU_len {xs : List Int} {k i : Nat} (h : i ≤ xs.length) : (markU xs k i).length = xs.length := by simp [markU, markL_len]; omega
theorem markU_zero (xs : List Int) (k : Nat) : markU xs k 0 = xs := by simp [markU, markL]
theorem markU_all (xs : List Int) (k : Nat) : markU xs k xs.length = markL k xs.length := by simp [markU]
theorem markU_step {xs : List Int} {k i : Nat} (h : i < xs.length) : (markU xs k i).set i ((k : Int) + (i : Int)) = markU xs k (i + 1) := by
  unfold markU
  rw [← Int.natCast_add, List.set_append, if_neg (by rw [markL_len]; omega), markL_len, Nat.sub_self, markL_snoc, List.append_assoc, List.drop_eq_getElem_cons h]
  rfl

/-- What is made later lies apart. -/
theorem own_apart {E E' : TypeId} {w w' : World} {B B' : Nat} {v v' : Value} {xs ys : List Int} (h : Own E w B v xs) (h' : Own E' w' B' v' ys) (hB : w.heap.size ≤ B') : (v.ownBlock = none ∨ v.ownBlock ≠ v'.ownBlock) ∧ (v'.ownBlock = none ∨ v'.ownBlock ≠ v.ownBlock) := by
  cases e : v.ownBlock with
  | none => exact ⟨.inl rfl, by cases e' : v'.ownBlock <;> simp⟩
  | some g =>
    have h1 := (h.lt g e).2
    cases e' : v'.ownBlock with
    | none => exact ⟨.inr (by simp), .inl rfl⟩
    | some g' =>
      have h2 := (h'.lt g' e').1
      exact ⟨.inr (by simp; omega), .inr (by simp; omega)⟩
theorem Own.at {E : TypeId} {w : World} {B n c : Nat} {a : Option Addr} {xs : List Int} (h : Own E w B (.slice a n c) xs) : IntsAt w a xs := by
  obtain ⟨a', c', e, hi, _⟩ := h.ints
  simp only [Value.slice.injEq] at e
  obtain ⟨rfl, _, _⟩ := e
  exact hi
theorem Own.cap {E : TypeId} {w : World} {B n c : Nat} {a : Option Addr} {xs : List Int} (h : Own E w B (.slice a n c) xs) : xs.length ≤ c := by
  rcases Nat.eq_zero_or_pos xs.length with h0 | h0
  · omega
  · obtain ⟨g, cap, e, _, _, hc, _⟩ := h.row h0
    simp only [Value.slice.injEq] at e
    omega
theorem below_row {a w w' : World} {B B' : Nat} {E : TypeId} {v : Value} {xs : List Int} (h : Below B a w) (hB : B ≤ w.heap.size) (hg : w.grownBy w' v.ownBlock) (ho : Own E w B' v xs) (hB' : B ≤ B') : Below B a w' :=
  h.grown hg hB (fun g e => Nat.le_trans hB' (ho.lt g e).1)
theorem ret_num {a b : Int} (h : a = b) : Value.int .i64 a = .int .i64 b := by rw [h]

theorem laws_markIntS (v : Value) (xs : List Int) (k B : Nat) (w : World) (hlen : xs.length ≤ 1099511627776) (hk : k ≤ 1099511627776) (hown : Own 3 w B v xs) :
    Calls Try.prog 45 #[v, .int .i64 k] w fun e w' => e = .returned (.int .i64 ((k + xs.length : Nat) : Int)) ∧ Own 3 w' B v (markL k xs.length) ∧ w.grownBy w' v.ownBlock := by
  obtain ⟨a, cap, rfl, _, _⟩ := hown.ints
  have Hown := Lib.hid hown; clear hown
  go_enter Try.func45, Try.ntmps45
  go_wp2
  go_loopw [1, 5] (fun vk vi wr => ∃ i : Nat, i ≤ xs.length ∧ vk = .int .i64 ((k + i : Nat) : Int) ∧ vi = .int .i64 i ∧ Own 3 wr B (.slice a xs.length cap) (markU xs k i) ∧ w.grownBy wr (Value.slice a xs.length cap).ownBlock) (fun _ vi _ => xs.length - (intOf vi).toNat)
  case atStart => exact ⟨0, by omega, rfl, rfl, by rw [markU_zero]; exact Hown.out, World.grownBy.refl _ _⟩
  case round =>
    obtain ⟨i, hi, rfl, rfl, how, hgr⟩ := hrel
    have hul := markU_len (k := k) hi
    by_cases hlt : (i : Int) < xs.length
    · obtain ⟨g, cap', hv', hgB, hgs, hcap, hcells, hfz⟩ := how.row (by omega)
      simp only [Value.slice.injEq] at hv'
      obtain ⟨rfl, hl', rfl⟩ := hv'
      have hix : i < xs.length := by omega
      have hold := hcells i (by omega)
      have hfr := hfz i
      have hst := Lib.hid (how.store (by omega) i ((k : Int) + (i : Int)))
      have Hgr := Lib.hid hgr; clear hgr hcells hfz how hl'
      go_wp2
      go_roundw
      case rel =>
        obtain ⟨hs1, hs2⟩ := hst.out
        rw [markU_step hix] at hs1
        exact ⟨i + 1, by omega, ret_num (by omega), ret_num (by omega), hs1, grownBy_trans Hgr.out hs2⟩
      case measure => simp [intOf]; omega
    · have hxi : i = xs.length := by omega
      subst hxi
      have How := Lib.hid how; clear how
      have Hgr := Lib.hid hgr; clear hgr
      go_wp2
      go_ret
      exact ⟨rfl, by rw [← markU_all]; exact How.out, Hgr.out⟩

theorem laws_heldIntS (a : Option Addr) (cap k n : Nat) (w : World) (hlen : n ≤ 1099511627776) (hk : k ≤ 1099511627776) (hc : IntsAt w a (markL k n)) :
    Calls Try.prog 46 #[.slice a n cap, .int .i64 k] w fun e w' => e = .returned (.int .i64 ((k + n : Nat) : Int)) ∧ Drawn w w' := by
  have hl := markL_len k n
  have hg := markL_get k n
  generalize markL k n = xs at hc hl hg
  subst hl
  rcases hc.len with h0 | ⟨b, off, rfl, hb, hc⟩
  all_goals
    go_enter Try.func46, Try.ntmps46
    go_wp2
    go_loopw [1, 5] (fun vk vi wr => ∃ i : Nat, i ≤ xs.length ∧ vk = .int .i64 ((k + i : Nat) : Int) ∧ vi = .int .i64 i ∧ Drawn w wr) (fun _ vi _ => xs.length - (intOf vi).toNat)
    case atStart => exact ⟨0, by omega, rfl, rfl, Drawn.refl _⟩
    case round =>
      obtain ⟨i, hi, rfl, rfl, hwr⟩ := hrel
      by_cases hlt : i < xs.length
      · first
        | (exfalso; omega)
        | (have hcell := (hwr.cell ⟨b, off + i, none⟩).trans (hc i hlt)
           rw [hg i hlt] at hcell
           have Hc := Lib.hid hc; clear hc
           have Hg := Lib.hid hg; clear hg
           have e2 : (((k + i : Nat) : Int) != ((k + i : Nat) : Int)) = false := by rw [bne_eq_false_iff_eq]
           go_wp2
           go_roundw
           case rel => exact ⟨i + 1, by omega, ret_num (by omega), ret_num (by omega), hwr⟩
           case measure => simp [intOf]; omega)
      · go_wp2
        go_ret
        exact ⟨ret_int (by omega), hwr⟩

end Go.Proofs.Ytfnhafgjdnlhiaa

/- Appending one slice to another of the call's own, in an open order too: general steps; nothing here speaks of the program. -/
namespace Go.Proofs.Ytfnhafgjdnlhiaa
open Go.RowKit

/-- An operation that is carried out: unguarded, or its guard holds. -/
theorem wpList_want {P : Program} {w : World} {ops : Array Oper} {rest : List Oper} {o : Oper} {a : Act} {Q : Exit → Act → World → Prop} (hgd : Region.wanted o (yielded ops a.tmps) = true)
    (h : ∀ K : Act → World → Prop, (∀ a w, wpList P ops Q rest a w → K a w) → o.wp P a w K Q) : wpList P ops Q (o :: rest) a w :=
  wpList_step fun K hK => by rw [if_pos hgd]; exact h K hK

/-- 'append(s, t...)' onto a slice of the call's own, t in memory: what it comes to. -/
theorem run_app {P : Program} {T E : TypeId} (hT : IntT P T E) (ty : TypeId) {w : World} {B : Nat} {v : Value} {xs zs : List Int} (ad : Addr) (n c : Nat) (hn : n = zs.length) (hown : Own E w B v xs) (hz : ∀ j (h : j < zs.length), w.cell? (ad.add j) = some (.int .i64 zs[j]))
    (hlen : xs.length + zs.length ≤ 1099511627776) (hB : B ≤ w.heap.size) :
    ∃ v' w', (Builtin.append_ #[T, T] ty #[v, .slice (some ad) n c]).run P w = .ok v' w' ∧ Own E w' B v' (xs ++ zs) ∧ w.grownBy w' v.ownBlock := by
  subst hn
  obtain ⟨i, hi, hzz, hsz, hby⟩ := info_parts hT.info
  obtain ⟨v', w', hr, h1, h2, _⟩ := run_append_own (P := P) w B T ty E i (.int .i64 0) 1 8 hT.sl hi hzz hsz hby rfl (by decide) v xs.length _ hown ad zs.length c (zs.map (Value.int .i64)) (by simp) (by
    intro j u hu
    by_cases hj : j < zs.length
    · simp [hj] at hu; subst hu; exact hz j hj
    · simp [hj] at hu) (by intro u hu; simp at hu; obtain ⟨_, _, rfl⟩ := hu; rfl) (by unfold maxLen; omega) (by omega) hB
  refine ⟨v', w', hr, ?_, h2⟩
  unfold Own; simpa using h1
/-- .. at the list of a region's operations. -/
theorem wpList_app {P : Program} {T E : TypeId} (hT : IntT P T E) {w : World} {ops : Array Oper} {rest : List Oper} {o : Oper} {a : Act} {Q : Exit → Act → World → Prop} (hgd : Region.wanted o (yielded ops a.tmps) = true) (s x : Operand)
    (ho : o.op = .call { callee := .builtin .append, args := #[s, x], argTypes := #[T, T] }) (B : Nat) (v : Value) (xs zs : List Int) (ad : Addr) (n c : Nat) (hn : n = zs.length) (hs : a.eval s = v) (hown : Own E w B v xs)
    (hx : a.eval x = .slice (some ad) n c) (hz : ∀ j (h : j < zs.length), w.cell? (ad.add j) = some (.int .i64 zs[j]))
    (hlen : xs.length + zs.length ≤ 1099511627776) (hB : B ≤ w.heap.size)
    (h : ∀ v' w', Own E w' B v' (xs ++ zs) → w.grownBy w' v.ownBlock → wpList P ops Q rest (a.put o.dst v') w') : wpList P ops Q (o :: rest) a w := by
  refine wpList_want hgd fun K hK => ?_
  obtain ⟨v', w', hr, h1, h2⟩ := run_app hT o.type ad n c hn hown hz hlen hB
  unfold Oper.wp execOp
  simp only [ho, resolve, invoke, builtin, Sem.run_bind, Sem.run_pure, Result.andThen_ok, List.map_toArray, List.map_cons, List.map_nil, hs, hx, hr]
  exact hK _ _ (h v' w' h1 h2)
/-- .. as one step of a region that draws its order. -/
theorem step_app {P : Program} {T E : TypeId} (hT : IntT P T E) {w : World} {ops : Array Oper} {o : Oper} {a : Act} {K : Act → World → Prop} {Q : Exit → Act → World → Prop} {F : Prop} (hgd : Region.wanted o (yielded ops a.tmps) = true) (s x : Operand)
    (ho : o.op = .call { callee := .builtin .append, args := #[s, x], argTypes := #[T, T] }) (B : Nat) (v : Value) (xs zs : List Int) (ad : Addr) (n c : Nat) (hn : n = zs.length) (hs : a.eval s = v) (hown : Own E w B v xs)
    (hx : a.eval x = .slice (some ad) n c) (hz : ∀ j (h : j < zs.length), w.cell? (ad.add j) = some (.int .i64 zs[j]))
    (hlen : xs.length + zs.length ≤ 1099511627776) (hB : B ≤ w.heap.size)
    (h : ∀ v' w', Own E w' B v' (xs ++ zs) → w.grownBy w' v.ownBlock → K (a.put o.dst v') w') : if Region.wanted o (yielded ops a.tmps) = true then Oper.wp P o a w K Q else F := by
  rw [if_pos hgd]
  obtain ⟨v', w', hr, h1, h2⟩ := run_app hT o.type ad n c hn hown hz hlen hB
  unfold Oper.wp execOp
  simp only [ho, resolve, invoke, builtin, Sem.run_bind, Sem.run_pure, Result.andThen_ok, List.map_toArray, List.map_cons, List.map_nil, hs, hx, hr]
  exact h v' w' h1 h2

theorem cells_one' (w : World) (E : TypeId) (z : Int) : ∀ j (h : j < [z].length), (w.alloc (.cells #[.int .i64 z] E)).drew.cell? ((⟨w.heap.size, 0, none⟩ : Addr).add j) = some (.int .i64 [z][j]) := by
  intro j hj
  have : j = 0 := by simpa using hj
  subst this
  rw [addr_add]
  exact (World.cell?_alloc_at _ _ _ _ rfl).trans rfl

theorem below_app {w w' : World} {B : Nat} {o : Obj} {row : Option Nat} (h : (w.alloc o).drew.grownBy w' row) (hB : B ≤ w.heap.size) (hr : ∀ g, row = some g → B ≤ g) : Below B w w' :=
  ((((Below.refl B w).alloc hB o).drew).grown h (Nat.le_trans hB (by simp)) hr)

/-- The length in a slot. -/
def lenOf : Value → Nat | .slice _ n _ => n | _ => 0

/-- 'append(s, z)', and where the new slice lies. -/
theorem wpList_push_at {P : Program} {T E : TypeId} (hT : IntT P T E) {w : World} {ops : Array Oper} {rest : List Oper} {o : Oper} {a : Act} {Q : Exit → Act → World → Prop} (hgd : Region.wanted o (yielded ops a.tmps) = true) (s x : Operand)
    (ho : o.op = .call { callee := .builtin .append, args := #[s, x], argTypes := #[T, T] }) (B : Nat) (v : Value) (xs : List Int) (z : Int) (hs : a.eval s = v) (hown : Own E w B v xs)
    (hlen : xs.length ≤ 1099511627776) (hx : a.eval x = .slice (some ⟨w.heap.size, 0, none⟩) 1 1) (hB : B ≤ w.heap.size)
    (h : ∀ v' w', Own E w' B v' (xs ++ [z]) → w.grownBy w' v.ownBlock → (v'.ownBlock = v.ownBlock ∨ ∃ g, v'.ownBlock = some g ∧ w.heap.size ≤ g) → wpList P ops Q rest (a.put o.dst v') w') : wpList P ops Q (o :: rest) a (w.alloc (.cells #[.int .i64 z] E)) := by
  refine wpList_want hgd fun K hK => ?_
  obtain ⟨i, hi, hz, hsz, hby⟩ := info_parts hT.info
  obtain ⟨v', w', hr, h1, h2, _, h4⟩ := run_append_own_at (P := P) (w.alloc (.cells #[.int .i64 z] E)) B T o.type E i (.int .i64 0) 1 8 hT.sl hi hz hsz hby rfl (by decide) v xs.length _ (World.ownsRow.alloc hown _) ⟨w.heap.size, 0, none⟩ 1 1 [.int .i64 z] rfl (cells_one _ _ _) (by intro u hu; simp at hu; subst hu; rfl) (by unfold maxLen; omega) (by omega) (by simp; omega)
  unfold Oper.wp execOp
  simp only [ho, resolve, invoke, builtin, Sem.run_bind, Sem.run_pure, Result.andThen_ok, List.map_toArray, List.map_cons, List.map_nil, hs, hx, hr]
  refine hK _ _ (h v' w' ?_ (grownBy_trans (World.grownBy_alloc _ _ _) h2) ?_)
  · unfold Own; simpa using h1
  · rcases h4 with h4 | h4
    · exact .inl h4
    · exact .inr ⟨_, h4, by simp⟩
theorem IntsAt.grown {w w' : World} {a : Option Addr} {xs : List Int} {row : Option Nat} (h : IntsAt w a xs) (hg : w.grownBy w' row) (hne : ∀ b, a = some b → row ≠ some b.block) : IntsAt w' a xs := by
  rcases h with rfl | ⟨b, off, rfl, hlt, hc⟩
  · exact .inl rfl
  · exact .inr ⟨b, off, rfl, Nat.lt_of_lt_of_le hlt hg.size, fun j hj => hg.cell (hc j hj) (fun e => hne _ rfl e.symm)⟩
theorem IntsAt.block {w : World} {a : Option Addr} {xs : List Int} (h : IntsAt w a xs) (hx : 0 < xs.length) : ∃ b, a = some b ∧ b.block < w.heap.size := by
  obtain ⟨b, off, rfl, hlt, _⟩ := h.cell hx
  exact ⟨_, rfl, hlt⟩
/-- The block of an owned slice, as its address says it. -/
theorem ownBlock_slice {a : Option Addr} {n c : Nat} : ∀ b, a = some b → (Value.slice a n c).ownBlock = some b.block := by rintro b rfl; rfl

/-- s[1:], the address as the walk writes it. -/
theorem IntsAt.tail {w : World} {b off c : Nat} {q : Int} {r : List Int} (h : ∀ j (h : j < (q :: r).length), w.cell? ⟨b, off + j, none⟩ = some (.int .i64 (q :: r)[j])) (hb : b < w.heap.size) (hc : r.length + 1 ≤ c) :
    ∃ o2, (if c = 1 then some (⟨b, off, none⟩ : Addr) else some ⟨b, off + 1, none⟩) = some ⟨b, o2, none⟩ ∧ IntsAt w (some ⟨b, o2, none⟩) r := by
  by_cases h1 : c = 1
  · refine ⟨off, by rw [if_pos h1], .inl (List.eq_nil_of_length_eq_zero (by omega))⟩
  · refine ⟨off + 1, by rw [if_neg h1], .inr ⟨b, off + 1, rfl, hb, fun j hj => ?_⟩⟩
    have := h (j + 1) (by simp; omega)
    rw [show off + 1 + j = off + (j + 1) by omega, this]
    simp

/-- A source of an append: nil, or cells in memory that read as zs. -/
def SrcAt (w : World) (a : Option Addr) (c : Nat) (zs : List Int) : Prop :=
  (a = none ∧ zs = [] ∧ c = 0) ∨ ∃ ad, a = some ad ∧ ∀ j (h : j < zs.length), w.cell? (ad.add j) = some (.int .i64 zs[j])
theorem Own.src {E : TypeId} {w : World} {B : Nat} {v : Value} {xs : List Int} (h : Own E w B v xs) : ∃ a cap, v = .slice a xs.length cap ∧ IntsAt w a xs ∧ SrcAt w a cap xs ∧ xs.length ≤ cap := by
  rcases Nat.eq_zero_or_pos xs.length with h0 | h0
  · have hx : xs = [] := List.eq_nil_of_length_eq_zero h0
    subst hx
    rcases h.2 with ⟨rfl, _⟩ | ⟨g, cap, cur, rfl, _, _, _, _⟩
    · exact ⟨none, 0, rfl, .inl rfl, .inl ⟨rfl, rfl, rfl⟩, by simp⟩
    · exact ⟨_, cap, rfl, .inl rfl, .inr ⟨_, rfl, fun j hj => by simp at hj⟩, by simp⟩
  · obtain ⟨g, cap, rfl, hB, hlt, hc, hcells, _⟩ := h.row h0
    exact ⟨_, cap, rfl, .inr ⟨g, 0, rfl, hlt, fun j hj => by rw [Nat.zero_add]; exact hcells j hj⟩, .inr ⟨_, rfl, fun j hj => by rw [addr_add]; exact hcells j hj⟩, hc⟩
theorem SrcAt.grown {w w' : World} {a : Option Addr} {c : Nat} {xs : List Int} {row : Option Nat} (h : SrcAt w a c xs) (hi : IntsAt w a xs) (hg : w.grownBy w' row) (hne : ∀ b, a = some b → row ≠ some b.block) : SrcAt w' a c xs := by
  rcases h with h | ⟨ad, rfl, hc⟩
  · exact .inl h
  · refine .inr ⟨ad, rfl, fun j hj => ?_⟩
    obtain ⟨b, off, e, _, _⟩ := hi.cell (by omega)
    cases e
    have := hc j hj
    rw [addr_add'] at this ⊢
    exact hg.cell this (fun e => hne _ rfl e.symm)
theorem run_appI {P : Program} {T E : TypeId} (hT : IntT P T E) (ty : TypeId) {w : World} {B : Nat} {v : Value} {xs zs : List Int} {a : Option Addr} {c : Nat} (hown : Own E w B v xs) (hz : SrcAt w a c zs)
    (hlen : xs.length + zs.length ≤ 1099511627776) (hB : B ≤ w.heap.size) :
    ∃ v' w', (Builtin.append_ #[T, T] ty #[v, .slice a zs.length c]).run P w = .ok v' w' ∧ Own E w' B v' (xs ++ zs) ∧ w.grownBy w' v.ownBlock := by
  rcases hz with ⟨rfl, rfl, rfl⟩ | ⟨ad, rfl, hc⟩
  · obtain ⟨i, hi, _⟩ := info_parts hT.info
    have := run_append_owned_none (P := P) (w := w) B T ty E i 1 hT.sl hi v xs.length _ hown
    exact ⟨v, w, this, by rw [List.append_nil]; exact hown, ⟨rfl, rfl, rfl, Nat.le_refl _, fun _ _ _ => rfl⟩⟩
  · exact run_app hT ty ad _ c rfl hown hc hlen hB
/-- 'append(s, t...)' at the list of a region's operations, t nil or not. -/
theorem wpList_appI {P : Program} {T E : TypeId} (hT : IntT P T E) {w : World} {ops : Array Oper} {rest : List Oper} {o : Oper} {a : Act} {Q : Exit → Act → World → Prop} (hgd : Region.wanted o (yielded ops a.tmps) = true) (s x : Operand)
    (ho : o.op = .call { callee := .builtin .append, args := #[s, x], argTypes := #[T, T] }) (B : Nat) (v : Value) (xs zs : List Int) (ax : Option Addr) (c : Nat) (hs : a.eval s = v) (hown : Own E w B v xs)
    (hx : a.eval x = .slice ax zs.length c) (hz : SrcAt w ax c zs)
    (hlen : xs.length + zs.length ≤ 1099511627776) (hB : B ≤ w.heap.size)
    (h : ∀ v' w', Own E w' B v' (xs ++ zs) → w.grownBy w' v.ownBlock → wpList P ops Q rest (a.put o.dst v') w') : wpList P ops Q (o :: rest) a w := by
  refine wpList_want hgd fun K hK => ?_
  obtain ⟨v', w', hr, h1, h2⟩ := run_appI hT o.type hown hz hlen hB
  unfold Oper.wp execOp
  simp only [ho, resolve, invoke, builtin, Sem.run_bind, Sem.run_pure, Result.andThen_ok, List.map_toArray, List.map_cons, List.map_nil, hs, hx, hr]
  exact hK _ _ (h v' w' h1 h2)
theorem results_tmp3 {fn : Func} {t u v : Tmp} (h : fn.results = #[.tmp t, .tmp u, .tmp v]) (tmps : Array Value) (P : Program) (w : World) :
    (results fn tmps).run P w = .ok (.tuple #[tmps.getD t undef, tmps.getD u undef, tmps.getD v undef]) w := by simp [results, h]
theorem results_tmp4 {fn : Func} {t u v x : Tmp} (h : fn.results = #[.tmp t, .tmp u, .tmp v, .tmp x]) (tmps : Array Value) (P : Program) (w : World) :
    (results fn tmps).run P w = .ok (.tuple #[tmps.getD t undef, tmps.getD u undef, tmps.getD v undef, tmps.getD x undef]) w := by simp [results, h]
theorem results_tmp5 {fn : Func} {t u v x y : Tmp} (h : fn.results = #[.tmp t, .tmp u, .tmp v, .tmp x, .tmp y]) (tmps : Array Value) (P : Program) (w : World) :
    (results fn tmps).run P w = .ok (.tuple #[tmps.getD t undef, tmps.getD u undef, tmps.getD v undef, tmps.getD x undef, tmps.getD y undef]) w := by simp [results, h]

/-- 'append(s, z)' where the operation may be guarded. -/
theorem wpList_pushG {P : Program} {T E : TypeId} (hT : IntT P T E) {w : World} {ops : Array Oper} {rest : List Oper} {o : Oper} {a : Act} {Q : Exit → Act → World → Prop} (hgd : Region.wanted o (yielded ops a.tmps) = true) (s x : Operand)
    (ho : o.op = .call { callee := .builtin .append, args := #[s, x], argTypes := #[T, T] }) (B : Nat) (v : Value) (xs : List Int) (z : Int) (hs : a.eval s = v) (hown : Own E w B v xs)
    (hlen : xs.length ≤ 1099511627776) (hx : a.eval x = .slice (some ⟨w.heap.size, 0, none⟩) 1 1) (hB : B ≤ w.heap.size)
    (h : ∀ v' w', Own E w' B v' (xs ++ [z]) → w.grownBy w' v.ownBlock → wpList P ops Q rest (a.put o.dst v') w') : wpList P ops Q (o :: rest) a (w.alloc (.cells #[.int .i64 z] E)) :=
  wpList_push_at hT hgd s x ho B v xs z hs hown hlen hx hB (fun v' w' h1 h2 _ => h v' w' h1 h2)

theorem own_succ {E : TypeId} {W : World} {B : Nat} {v : Value} {xs : List Int} {z : Int} (h : Own E W B v (xs ++ [z])) : ∃ g c, v = .slice (some ⟨g, 0, none⟩) (xs.length + 1) c := by
  obtain ⟨g, c, e, _⟩ := h.row (by simp)
  exact ⟨g, c, by rw [e]; simp⟩

end Go.Proofs.Ytfnhafgjdnlhiaa

/- An owned list as the source of an append; a general step, nothing here speaks of the program. -/
namespace Go.Proofs.Ytfnhafgjdnlhiaa
open Go.RowKit

theorem own_src {E : TypeId} {w : World} {B n c : Nat} {a : Option Addr} {xs : List Int} (h : Own E w B (.slice a n c) xs) : SrcAt w a c xs := by
  obtain ⟨a', c', e, _, hs, _⟩ := h.src
  cases e
  exact hs

end Go.Proofs.Ytfnhafgjdnlhiaa

/- The reader of a code: what it picks lies in the range that is asked, and nothing but the reader's own count is written; each by a walk of its text; condition: at most 2^40 picks. -/
namespace Go.Proofs.Ytfnhafgjdnlhiaa
open Go.RowKit

/-- The reader in block R: its code reads as bytes; it has picked p times. -/
structure Rdr (w : World) (R : Nat) (p : Nat) : Prop where
  at0 : ∃ a cap zs, w.cell? ⟨R, 0, none⟩ = some (.slice a (List.length (α := Int) zs) cap) ∧ zs.length ≤ 2000 ∧ (∀ z ∈ zs, 0 ≤ z ∧ z ≤ 255) ∧
    (zs.length < 1 ∨ ∃ b off, a = some ⟨b, off, none⟩ ∧ b < w.heap.size ∧ b < R ∧ ∀ j (h : j < zs.length), w.cell? ⟨b, off + j, none⟩ = some (.int .u8 zs[j]))
  at1 : w.cell? ⟨R, 1, none⟩ = some (.int .i64 p)
  fr : w.frozen? ⟨R, 1, none⟩ = false

theorem bits_xor_i64_nat (a b : Nat) (ha : a < 4611686018427387904) (hb : b < 4611686018427387904) : bits .xor .i64 (a : Int) (b : Int) = ((a ^^^ b : Nat) : Int) := by
  have hx : a ^^^ b < 2 ^ 62 := Nat.xor_lt_two_pow (by omega) (by omega)
  have h1 : (BitVec.ofInt 64 (a : Int)).toNat = a := by simp; omega
  have h2 : (BitVec.ofInt 64 (b : Int)).toNat = b := by simp; omega
  show IntKind.i64.wrap ((BitVec.ofInt 64 (a : Int) ^^^ BitVec.ofInt 64 (b : Int)).toNat : Int) = _
  rw [BitVec.toNat_xor, h1, h2]
  exact IntWalk.i64_in _ (by omega)

/-- A code that came in: its bytes. -/
structure CodeAt (w : World) (a : Option Addr) (cap : Nat) (zs : List Int) : Prop where
  big : zs.length ≤ 1099511627776
  cap : zs.length ≤ cap
  byte : ∀ z ∈ zs, 0 ≤ z ∧ z ≤ 255
  cells : zs.length < 1 ∨ ∃ b off, a = some ⟨b, off, none⟩ ∧ b < w.heap.size ∧ ∀ j (h : j < zs.length), w.cell? ⟨b, off + j, none⟩ = some (.int .u8 zs[j])
theorem CodeAt.below {w w' : World} {a : Option Addr} {cap : Nat} {zs : List Int} (h : CodeAt w a cap zs) (hb : Below w.heap.size w w') : CodeAt w' a cap zs := by
  refine ⟨h.big, h.cap, h.byte, ?_⟩
  rcases h.cells with h0 | ⟨b, off, rfl, hlt, hc⟩
  · exact .inl h0
  · exact .inr ⟨b, off, rfl, Nat.lt_of_lt_of_le hlt hb.size, fun j hj => (hb.cell (p := ⟨b, off + j, none⟩) hlt).trans (hc j hj)⟩
theorem codeAt_of {w : World} {a : Option Addr} {cap : Nat} {zs : List Int} (hk : zs.length ≤ cap) (hm : zs.length ≤ 1048576) (hi : zs = [] ∨ ∃ b off, a = some ⟨b, off, none⟩ ∧ b < w.heap.size ∧ ∀ j (h : j < zs.length), w.cell? ⟨b, off + j, none⟩ = some (.int .u8 zs[j]))
    (hw : ∀ z ∈ zs, (Lit.int .u8 z).wf = true) : CodeAt w a cap zs := by
  have hc : zs.length < 1 ∨ ∃ b off, a = some ⟨b, off, none⟩ ∧ b < w.heap.size ∧ ∀ j (h : j < zs.length), w.cell? ⟨b, off + j, none⟩ = some (.int .u8 zs[j]) := by
    rcases hi with rfl | hi
    · exact .inl (by simp)
    · exact .inr hi
  refine ⟨by omega, hk, fun z hz => ?_, hc⟩
  have := hw z hz
  simp [Lit.wf, IntKind.min, IntKind.max, IntKind.signed, IntKind.bits] at this
  omega

/-- The world behind one pick. -/
def picked (w : World) (R p : Nat) : World := w.setCell ⟨R, 1, none⟩ (.int .i64 ((p : Int) + 1))
theorem picked_grown (w : World) (R p : Nat) : w.grownBy (picked w R p) (some R) :=
  ⟨rfl, rfl, rfl, by simp [picked, World.setCell], fun k _ hk => Below.heap_setCell _ _ _ _ (fun e => hk (by rw [e]))⟩
theorem picked_rdr {w : World} {R p : Nat} (h : Rdr w R p) : Rdr (picked w R p) R (p + 1) := by
  obtain ⟨⟨a, cap, zs, h0, hlen, hby, hb⟩, h1, hfr⟩ := h
  refine ⟨⟨a, cap, zs, (World.cell?_setCell_other _ _ _ _ (by simp)).trans h0, hlen, hby, ?_⟩, (World.cell?_setCell_same _ _ _ h1).trans (by simp), (World.frozen?_setCell _ _ _ _).trans hfr⟩
  rcases hb with hb | ⟨b, off, rfl, hlt, hne, hc⟩
  · exact .inl hb
  · exact .inr ⟨b, off, rfl, by simpa [picked, World.setCell] using hlt, hne, fun j hj => (World.cell?_setCell_other _ _ _ _ (by simp)).trans (hc j hj)⟩
theorem Rdr.kept {w w' : World} {R p : Nat} {row : Option Nat} (h : Rdr w R p) (hg : w.grownBy w' row) (hrow : ∀ g, row = some g → R < g) : Rdr w' R p := by
  obtain ⟨⟨a, cap, zs, h0, hlen, hby, hb⟩, h1, hfr⟩ := h
  have hRr : ∀ b, b ≤ R → some b ≠ row := fun b hb e => by have := hrow b e.symm; omega
  have hRs := World.block_lt_of_cell? w _ h1
  refine ⟨⟨a, cap, zs, hg.cell h0 (hRr _ (Nat.le_refl _)), hlen, hby, ?_⟩, hg.cell h1 (hRr _ (Nat.le_refl _)), (World.frozen?_of_block (hg.block R hRs (hRr _ (Nat.le_refl _)))).trans hfr⟩
  rcases hb with hb | ⟨b, off, rfl, hlt, hne, hc⟩
  · exact .inl hb
  · exact .inr ⟨b, off, rfl, Nat.lt_of_lt_of_le hlt hg.size, hne, fun j hj => hg.cell (hc j hj) (hRr b (by omega))⟩
theorem Rdr.alloc {w : World} {R p : Nat} (h : Rdr w R p) (o : Obj) : Rdr (w.alloc o) R p := h.kept (World.grownBy_alloc w o none) (by simp)
theorem Rdr.lt {w : World} {R p : Nat} (h : Rdr w R p) : R < w.heap.size := World.block_lt_of_cell? w _ h.at1
theorem Rdr.drewN {w : World} {R p : Nat} (h : Rdr w R p) (n : Nat) : Rdr (w.drewN n) R p := ⟨h.at0, h.at1, h.fr⟩
theorem grownBy_drewN {a w : World} {row : Option Nat} (h : a.grownBy w row) (n : Nat) : a.grownBy (w.drewN n) row := ⟨h.os, h.tape, h.output, h.size, h.block⟩

theorem pick_any (R : Nat) (n : Int) (p : Nat) (w : World) (hp : p ≤ 1099511627776) (hr : Rdr w R p) (hn : n ≤ 1099511627776) :
    Calls Try.prog 47 #[.pointer (some ⟨R, 0, none⟩), .int .i64 n] w fun e w' => ∃ k : Int, e = .returned (.int .i64 k) ∧ 0 ≤ k ∧ (k < n ∨ k = 0) ∧ Rdr w' R (p + 1) ∧ w.grownBy w' (some R) := by
  have hr' := picked_rdr hr
  have hg := picked_grown w R p
  have Hr := Lib.hid hr'
  have Hg := Lib.hid hg; clear hg
  obtain ⟨⟨a, cap, zs, h0, hlen, hby, hbytes⟩, h1, hfr⟩ := hr
  have hs0 : (w.setCell ⟨R, 1, none⟩ (.int .i64 ((p : Int) + 1))).cell? ⟨R, 0, none⟩ = some (.slice a zs.length cap) := (World.cell?_setCell_other _ _ _ _ (by simp)).trans h0
  have hs1 : (w.setCell ⟨R, 1, none⟩ (.int .i64 ((p : Int) + 1))).cell? ⟨R, 1, none⟩ = some (.int .i64 ((p : Int) + 1)) := World.cell?_setCell_same _ _ _ h1
  clear hr'
  by_cases hn1 : n < 1
  · go_enter Try.func47, Try.ntmps47
    go_wp2
    go_ret
    exact ⟨0, rfl, by omega, .inr rfl, Hr.out, Hg.out⟩
  by_cases hz : zs.length < 1
  · have hz1 : ((zs.length : Int) == 0) = true := by rw [beq_iff_eq]; omega
    go_enter Try.func47, Try.ntmps47
    go_wp2
    go_ret
    exact ⟨0, rfl, by omega, .inr rfl, Hr.out, Hg.out⟩
  have hz1 : ((zs.length : Int) == 0) = false := by rw [beq_eq_false_iff_ne]; omega
  obtain ⟨b, off, rfl, hlt, hne, hc⟩ := hbytes.resolve_left hz
  have hcc : ∀ j (h : j < zs.length), (w.setCell ⟨R, 1, none⟩ (.int .i64 ((p : Int) + 1))).cell? ⟨b, off + j, none⟩ = some (.int .u8 zs[j]) := fun j hj => (World.cell?_setCell_other _ _ _ _ (by simp)).trans (hc j hj)
  clear hc
  have Hc := Lib.hid hcc; clear hcc
  have Hby := Lib.hid hby; clear hby
  by_cases hpl : p < zs.length
  · have hcell := Hc.out p hpl
    have hbd := Hby.out zs[p] (List.getElem_mem hpl)
    go_enter Try.func47, Try.ntmps47
    go_wp2
    go_ret
    exact ⟨zs[p] % n, rfl, Int.emod_nonneg _ (by omega), .inl (Int.emod_lt_of_pos _ (by omega)), Hr.out, Hg.out⟩
  · have hq1 : p % zs.length < zs.length := Nat.mod_lt _ (by omega)
    have hq2 : (p * 7 + 3) % zs.length < zs.length := Nat.mod_lt _ (by omega)
    have hcell1 := Hc.out _ hq1
    have hcell2 := Hc.out _ hq2
    obtain ⟨hb1, hb1'⟩ := Hby.out _ (List.getElem_mem hq1)
    obtain ⟨hb2, hb2'⟩ := Hby.out _ (List.getElem_mem hq2)
    have hdv : p / zs.length ≤ p := Nat.div_le_self _ _
    generalize zs[p % zs.length] = x1 at hcell1 hb1 hb1'
    generalize zs[(p * 7 + 3) % zs.length] = x2 at hcell2 hb2 hb2'
    have m1 : ((p : Int)).tmod zs.length = ((p % zs.length : Nat) : Int) := by rw [Int.tmod_eq_emod_of_nonneg (by omega)]; omega
    have m2 : ((p : Int) * 7 + 3).tmod zs.length = (((p * 7 + 3) % zs.length : Nat) : Int) := by rw [Int.tmod_eq_emod_of_nonneg (by omega), Int.natCast_emod]; rfl
    have m3 : ((p : Int)).tdiv zs.length = ((p / zs.length : Nat) : Int) := by rw [Int.tdiv_eq_ediv_of_nonneg (by omega)]; omega
    generalize hQ1 : p % zs.length = q1 at *
    generalize hQ2 : (p * 7 + 3) % zs.length = q2 at *
    generalize hQ3 : p / zs.length = q3 at *
    have HQ1 := Lib.hid hQ1; clear hQ1
    have HQ2 := Lib.hid hQ2; clear hQ2
    have HQ3 := Lib.hid hQ3; clear hQ3
    have i1 : (q1 : Int) < zs.length := by omega
    have i2 : (q2 : Int) < zs.length := by omega
    have e1 : IntKind.i64.wrap (x1 * 131) = x1 * 131 := IntWalk.i64_in _ (by omega)
    have e2 : IntKind.i64.wrap ((p : Int) * 7) = p * 7 := IntWalk.i64_in _ (by omega)
    have e3 : IntKind.i64.wrap ((p : Int) * 7 + 3) = p * 7 + 3 := IntWalk.i64_in _ (by omega)
    have e4 : IntKind.i64.wrap (x2 * 1117) = x2 * 1117 := IntWalk.i64_in _ (by omega)
    have e5 : IntKind.i64.wrap (x1 * 131 + x2 * 1117) = x1 * 131 + x2 * 1117 := IntWalk.i64_in _ (by omega)
    have e6 : IntKind.i64.wrap ((p : Int) * 29) = p * 29 := IntWalk.i64_in _ (by omega)
    have e7 : IntKind.i64.wrap (x1 * 131 + x2 * 1117 + (p : Int) * 29) = x1 * 131 + x2 * 1117 + p * 29 := IntWalk.i64_in _ (by omega)
    have e8 : IntKind.i64.wrap ((q3 : Int) * 53) = q3 * 53 := IntWalk.i64_in _ (by omega)
    have e9 : IntKind.i64.wrap (x1 * 131 + x2 * 1117 + (p : Int) * 29 + (q3 : Int) * 53) = x1 * 131 + x2 * 1117 + p * 29 + q3 * 53 := IntWalk.i64_in _ (by omega)
    have e10 : IntKind.i64.wrap x1 = x1 := IntWalk.i64_in _ (by omega)
    have e11 : IntKind.i64.wrap x2 = x2 := IntWalk.i64_in _ (by omega)
    have e12 : IntKind.i64.wrap (q3 : Int) = q3 := IntWalk.i64_in _ (by omega)
    have hX : ∃ X : Nat, x1 * 131 + x2 * 1117 + (p : Int) * 29 + (q3 : Int) * 53 = X ∧ X < 4611686018427387904 := ⟨(x1 * 131 + x2 * 1117 + (p : Int) * 29 + (q3 : Int) * 53).toNat, by omega, by omega⟩
    obtain ⟨X, hX, hXb⟩ := hX
    rw [hX] at e9
    have HX := Lib.hid hX; clear hX
    have hx1 := bits_xor_i64_nat X (X / 64) hXb (Nat.lt_of_le_of_lt (Nat.div_le_self _ _) hXb)
    have Hx1 := Lib.hid hx1; clear hx1
    go_enter Try.func47, Try.ntmps47
    go_wp2
    go_quiet (fail)
    clear e1 e2 e3 e4 e5 e6 e7 e8 e9 e10 e11 e12 m1 m2 m3
    go_wp2
    go_ret
    rw [HX.out, show (X : Int) / 64 = ((X / 64 : Nat) : Int) from by simp, Hx1.out, Int.tmod_eq_emod_of_nonneg (by omega)]
    exact ⟨_, rfl, Int.emod_nonneg _ (by omega), .inl (Int.emod_lt_of_pos _ (by omega)), Hr.out.drewN _, grownBy_drewN Hg.out _⟩

theorem rdr_new (w : World) (a : Option Addr) (cap n : Nat) (zs : List Int) (T : TypeId) (hn : n = zs.length) (hlen : zs.length ≤ 2000) (hby : ∀ z ∈ zs, 0 ≤ z ∧ z ≤ 255)
    (hc : zs.length < 1 ∨ ∃ b off, a = some ⟨b, off, none⟩ ∧ b < w.heap.size ∧ ∀ j (h : j < zs.length), w.cell? ⟨b, off + j, none⟩ = some (.int .u8 zs[j])) :
    Rdr (w.alloc (.cells #[.slice a n cap, .int .i64 0] T)) w.heap.size 0 := by
  subst hn
  refine ⟨⟨a, cap, zs, by rw [World.cell?_alloc_at _ _ _ _ rfl]; rfl, hlen, hby, ?_⟩, by rw [World.cell?_alloc_at _ _ _ _ rfl]; rfl, World.frozen?_alloc_at _ _ _ _ rfl⟩
  rcases hc with h | ⟨b, off, rfl, hlt, h⟩
  · exact .inl h
  · exact .inr ⟨b, off, rfl, by simp; omega, hlt, fun j hj => (World.cell?_alloc_past _ _ _ hlt).trans (h j hj)⟩

theorem open_any (a : Option Addr) (cap : Nat) (zs : List Int) (w : World) (h : CodeAt w a cap zs) :
    Calls Try.prog 28 #[.slice a zs.length cap] w fun e w' => ∃ R, e = .returned (.pointer (some ⟨R, 0, none⟩)) ∧ w.heap.size ≤ R ∧ R < w'.heap.size ∧ Rdr w' R 0 ∧ Below w.heap.size w w' := by
  obtain ⟨hbig, hcap, hby, hc⟩ := h
  by_cases hl : zs.length ≤ 2000
  · go_enter Try.func28, Try.ntmps28
    go_wp2
    go_ret
    exact ⟨w.heap.size, rfl, Nat.le_refl _, by simp, rdr_new w a cap _ zs _ rfl hl hby hc, (Below.refl _ _).alloc (Nat.le_refl _) _⟩
  · obtain ⟨b, off, rfl, hlt, hcc⟩ := hc.resolve_left (by omega)
    go_enter Try.func28, Try.ntmps28
    go_wp2
    go_ret
    have ht : (zs.take 2000).length = 2000 := by rw [List.length_take]; omega
    exact ⟨w.heap.size, rfl, Nat.le_refl _, by simp, rdr_new w _ cap 2000 (zs.take 2000) _ ht.symm (by omega) (fun z hz => hby z (List.mem_of_mem_take hz)) (.inr ⟨b, off, rfl, hlt, fun j hj => by rw [hcc j (by omega), List.getElem_take]⟩), (Below.refl _ _).alloc (Nat.le_refl _) _⟩

end Go.Proofs.Ytfnhafgjdnlhiaa

/- The draws of committees and of members: what is drawn is a short list of small numbers in new memory; each by a walk of its text; condition: at most 2^40 picks. -/
namespace Go.Proofs.Ytfnhafgjdnlhiaa
open Go.RowKit

theorem TI' : IntT Try.prog 23 3 := ⟨Try.underlying23, by kernel_rfl⟩

def sizes9 : List Int := [4, 4, 4, 1, 2, 3, 5, 6, 7]
theorem sizes9_at (k : Nat) (hk : k < 9) : ∃ m : Nat, (#[Value.int .i64 4, .int .i64 4, .int .i64 4, .int .i64 1, .int .i64 2, .int .i64 3, .int .i64 5, .int .i64 6, .int .i64 7] : Array Value)[k]? = some (.int .i64 m) ∧ 1 ≤ m ∧ m ≤ 7 := by
  match k, hk with
  | 0, _ => exact ⟨4, rfl, by omega, by omega⟩
  | 1, _ => exact ⟨4, rfl, by omega, by omega⟩
  | 2, _ => exact ⟨4, rfl, by omega, by omega⟩
  | 3, _ => exact ⟨1, rfl, by omega, by omega⟩
  | 4, _ => exact ⟨2, rfl, by omega, by omega⟩
  | 5, _ => exact ⟨3, rfl, by omega, by omega⟩
  | 6, _ => exact ⟨5, rfl, by omega, by omega⟩
  | 7, _ => exact ⟨6, rfl, by omega, by omega⟩
  | 8, _ => exact ⟨7, rfl, by omega, by omega⟩

/-- Numbers between -1 and 10. -/
def Small (xs : List Int) : Prop := ∀ x ∈ xs, -1 ≤ x ∧ x ≤ 10

theorem small_push {xs : List Int} (h : Small xs) {z : Int} (h1 : -1 ≤ z) (h2 : z ≤ 10) : Small (xs ++ [z]) := by
  intro x hx
  rcases List.mem_append.1 hx with hx | hx
  · exact h x hx
  · simp at hx; subst hx; exact ⟨h1, h2⟩
theorem small_app {xs zs : List Int} (h : Small xs) (k : Small zs) : Small (xs ++ zs) := fun x hx => by
  rcases List.mem_append.1 hx with hx | hx
  · exact h x hx
  · exact k x hx
theorem small_set {xs : List Int} (h : Small xs) (j : Nat) {z : Int} (h1 : -1 ≤ z) (h2 : z ≤ 10) : Small (xs.set j z) := fun x hx => by
  rcases List.mem_or_eq_of_mem_set hx with hx | rfl
  · exact h x hx
  · exact ⟨h1, h2⟩
theorem lit4_at (k : Nat) (hk : k < 4) : ∃ z : Int, (#[Value.int .i64 0, .int .i64 9, .int .i64 10, .int .i64 (-1)] : Array Value)[k]? = some (.int .i64 z) ∧ -1 ≤ z ∧ z ≤ 10 := by
  match k, hk with
  | 0, _ => exact ⟨0, rfl, by omega, by omega⟩
  | 1, _ => exact ⟨9, rfl, by omega, by omega⟩
  | 2, _ => exact ⟨10, rfl, by omega, by omega⟩
  | 3, _ => exact ⟨-1, rfl, by omega, by omega⟩
theorem grown_row {w a b : World} {R : Nat} {row : Option Nat} (h : w.grownBy a (some R)) (k : a.grownBy b row) (hr : ∀ g, row = some g → w.heap.size ≤ g) : w.grownBy b (some R) :=
  ⟨k.os.trans h.os, k.tape.trans h.tape, k.output.trans h.output, Nat.le_trans h.size k.size, fun i hi hne => (k.block i (Nat.lt_of_lt_of_le hi h.size) (fun e => by have := hr i e.symm; omega)).trans (h.block i hi hne)⟩
theorem prod_bd {a b : Int} (h1 : 0 ≤ a) (h2 : a ≤ 3) (h3 : 0 ≤ b) (h4 : b ≤ 2) : 0 ≤ a * b ∧ a * b ≤ 6 :=
  ⟨Int.mul_nonneg h1 h3, Int.le_trans (Int.mul_le_mul h2 h4 h3 (by omega)) (by omega)⟩

end Go.Proofs.Ytfnhafgjdnlhiaa

/- Data in memory: what a value reads as (numbers, truth values, texts, lists of rows of these), with the blocks that the reading passes through; general steps, nothing here speaks of the program. -/
namespace Go.Proofs.Ytfnhafgjdnlhiaa
open Go.RowKit

/-- A number, a truth value, a text, a list whose elements are rows of one-cell data. -/
inductive Dt where
  | i (n : Int)
  | b (x : Bool)
  | s (t : ByteArray)
  | l (es : List (List Dt))

/-- The value reads as the datum; the reading passes through these blocks. -/
inductive Rd (w : World) : Dt → Value → List Nat → Prop
  | i (n : Int) : Rd w (.i n) (.int .i64 n) []
  | b (x : Bool) : Rd w (.b x) (.bool x) []
  | s (t : ByteArray) : Rd w (.s t) (.string t) []
  | nil (a : Option Addr) (cap : Nat) (hn : a = none → cap = 0) : Rd w (.l []) (.slice a 0 cap) []
  | l (sz : Nat) (es : List (List Dt)) (g off cap : Nat) (V : Nat → Nat → Value) (F : Nat → Nat → List Nat) (hne : 0 < es.length) (hsz : ∀ e ∈ es, e.length = sz) (hcap : es.length ≤ cap) (hg : g < w.heap.size)
      (hc : ∀ k j, k < es.length → j < sz → w.cell? ⟨g, off + (k * sz + j), none⟩ = some (V k j))
      (hr : ∀ k j (hk : k < es.length) (hj : j < (es[k]).length), Rd w ((es[k])[j]) (V k j) (F k j)) :
      Rd w (.l es) (.slice (some ⟨g, off, none⟩) es.length cap) (g :: (List.range es.length).flatMap fun k => (List.range sz).flatMap (F k))

theorem Rd.grown {w w' : World} {row : Option Nat} (hg : w.grownBy w' row) {d : Dt} {v : Value} {fp : List Nat} (h : Rd w d v fp) (hr : ∀ r, row = some r → r ∉ fp) : Rd w' d v fp := by
  induction h with
  | i n => exact .i n
  | b x => exact .b x
  | s t => exact .s t
  | nil a cap hn => exact .nil a cap hn
  | l sz es g off cap V F hne hsz hcap hgl hc hrd ih =>
    refine .l sz es g off cap V F hne hsz hcap (Nat.lt_of_lt_of_le hgl hg.size) (fun k j hk hj => hg.cell (hc k j hk hj) fun e => ?_) (fun k j hk hj => ih k j hk hj fun r e hm => ?_)
    · exact hr g e.symm (by simp)
    · refine hr r e (List.mem_cons_of_mem _ (List.mem_flatMap.2 ⟨k, List.mem_range.2 hk, List.mem_flatMap.2 ⟨j, List.mem_range.2 ?_, hm⟩⟩))
      rw [← hsz _ (List.getElem_mem hk)]; exact hj
theorem Rd.lt {w : World} {d : Dt} {v : Value} {fp : List Nat} (h : Rd w d v fp) : ∀ g ∈ fp, g < w.heap.size := by
  induction h with
  | i n => intro g hg; cases hg
  | b x => intro g hg; cases hg
  | s t => intro g hg; cases hg
  | nil a cap hn => intro g hg; cases hg
  | l sz es g off cap V F hne hsz hcap hgl hc hrd ih =>
    intro r hr
    rcases List.mem_cons.1 hr with rfl | hr
    · exact hgl
    · obtain ⟨k, hk, hr⟩ := List.mem_flatMap.1 hr
      obtain ⟨j, hj, hr⟩ := List.mem_flatMap.1 hr
      rw [List.mem_range] at hk hj
      exact ih k j hk (by rw [hsz _ (List.getElem_mem hk)]; exact hj) r hr
theorem Rd.under {w w' : World} {d : Dt} {v : Value} {fp : List Nat} (h : Rd w d v fp) (hb : Below w.heap.size w w') : Rd w' d v fp := h.grown (below_grown hb) fun _ e => by cases e
theorem Rd.underB {B : Nat} {w w' : World} {d : Dt} {v : Value} {fp : List Nat} (hb : Below B w w') (h : Rd w d v fp) (hf : ∀ g ∈ fp, g < B) : Rd w' d v fp := by
  induction h with
  | i n => exact .i n
  | b x => exact .b x
  | s t => exact .s t
  | nil a cap hn => exact .nil a cap hn
  | l sz es g off cap V F hne hsz hcap hgl hc hrd ih =>
    refine .l sz es g off cap V F hne hsz hcap (Nat.lt_of_lt_of_le hgl hb.size) (fun k j hk hj => (hb.cell (p := ⟨g, off + (k * sz + j), none⟩) (hf g (by simp))).trans (hc k j hk hj)) (fun k j hk hj => ih k j hk hj fun r hm => ?_)
    refine hf r (List.mem_cons_of_mem _ (List.mem_flatMap.2 ⟨k, List.mem_range.2 hk, List.mem_flatMap.2 ⟨j, List.mem_range.2 ?_, hm⟩⟩))
    rw [← hsz _ (List.getElem_mem hk)]; exact hj

/-- A list in memory: its slice, and each element's row. -/
theorem Rd.list {w : World} {es : List (List Dt)} {v : Value} {fp : List Nat} (h : Rd w (.l es) v fp) : ∃ a cap, v = .slice a es.length cap ∧ es.length ≤ cap ∨ es = [] ∧ ∃ a cap, v = .slice a 0 cap := by
  generalize hd : Dt.l es = d at h
  cases h with
  | i n => cases hd
  | b x => cases hd
  | s t => cases hd
  | nil a cap hn => cases hd; exact ⟨a, cap, .inr ⟨rfl, a, cap, rfl⟩⟩
  | l sz es' g off cap V F hne hsz hcap hgl hc hrd => cases hd; exact ⟨_, cap, .inl ⟨rfl, hcap⟩⟩
theorem Rd.slice {w : World} {es : List (List Dt)} {v : Value} {fp : List Nat} (h : Rd w (.l es) v fp) : ∃ a cap, v = .slice a es.length cap := by
  obtain ⟨a, cap, ⟨rfl, _⟩ | ⟨rfl, a, cap, rfl⟩⟩ := h.list
  · exact ⟨a, cap, rfl⟩
  · exact ⟨a, cap, rfl⟩
theorem Rd.at {w : World} {es : List (List Dt)} {a : Option Addr} {n cap : Nat} {fp : List Nat} (h : Rd w (.l es) (.slice a n cap) fp) (hne : 0 < es.length) {sz : Nat} (hsz : ∀ e ∈ es, e.length = sz) :
    ∃ g off, a = some ⟨g, off, none⟩ ∧ g < w.heap.size ∧ g ∈ fp ∧ n = es.length ∧ n ≤ cap ∧ ∀ k j (hk : k < es.length) (hj : j < (es[k]).length), ∃ v fp', w.cell? ⟨g, off + (k * sz + j), none⟩ = some v ∧ Rd w ((es[k])[j]) v fp' ∧ ∀ r ∈ fp', r ∈ fp := by
  generalize hd : Dt.l es = d at h
  generalize hv : Value.slice a n cap = v at h
  cases h with
  | i n => cases hd
  | b x => cases hd
  | s t => cases hd
  | nil a cap hn => cases hd; simp at hne
  | l sz' es' g off cap' V F hne' hsz' hcap hgl hc hrd =>
    cases hd
    cases hv
    have hss : sz' = sz := by
      have h0 := List.getElem_mem hne
      rw [← hsz' _ h0, hsz _ h0]
    subst hss
    refine ⟨g, off, rfl, hgl, by simp, rfl, hcap, fun k j hk hj => ⟨V k j, F k j, hc k j hk (by rw [← hsz _ (List.getElem_mem hk)]; exact hj), hrd k j hk hj, fun r hr => ?_⟩⟩
    refine List.mem_cons_of_mem _ (List.mem_flatMap.2 ⟨k, List.mem_range.2 hk, List.mem_flatMap.2 ⟨j, List.mem_range.2 ?_, hr⟩⟩)
    rw [← hsz _ (List.getElem_mem hk)]; exact hj

theorem Rd.nilcap {w : World} {es : List (List Dt)} {n cap : Nat} {fp : List Nat} (h : Rd w (.l es) (.slice none n cap) fp) : cap = 0 := by
  generalize hd : Dt.l es = d at h
  generalize hv : Value.slice none n cap = v at h
  cases h with
  | i n => cases hd
  | b x => cases hd
  | s t => cases hd
  | nil a cap hn => cases hv; exact hn rfl
  | l sz' es' g off cap' V F hne' hsz' hcap hgl hc hrd => cases hv

/-! lists of numbers -/
def intsD (xs : List Int) : Dt := .l (xs.map fun x => [.i x])
theorem Rd.int {w : World} {n : Int} {v : Value} {fp : List Nat} (h : Rd w (.i n) v fp) : v = .int .i64 n ∧ fp = [] := by cases h; exact ⟨rfl, rfl⟩
theorem Rd.bool {w : World} {x : Bool} {v : Value} {fp : List Nat} (h : Rd w (.b x) v fp) : v = .bool x ∧ fp = [] := by cases h; exact ⟨rfl, rfl⟩
theorem Rd.ints {w : World} {xs : List Int} {v : Value} {fp : List Nat} (h : Rd w (intsD xs) v fp) : ∃ a cap, v = .slice a xs.length cap ∧ (xs.length ≤ cap ∨ xs = []) ∧ IntsAt w a xs := by
  obtain ⟨a, cap, rfl⟩ := Rd.slice h
  rw [List.length_map] at h ⊢
  rcases Nat.eq_zero_or_pos xs.length with h0 | h0
  · have : xs = [] := List.eq_nil_of_length_eq_zero h0
    subst this
    exact ⟨a, cap, rfl, .inr rfl, .inl rfl⟩
  · obtain ⟨g, off, rfl, hg, _, hn, hcap, hc⟩ := Rd.at h (by simpa using h0) (sz := 1) (by intro e he; simp at he; obtain ⟨x, _, rfl⟩ := he; rfl)
    refine ⟨_, cap, rfl, .inl hcap, .inr ⟨g, off, rfl, hg, fun j hj => ?_⟩⟩
    obtain ⟨v, fp', hcell, hr, _⟩ := hc j 0 (by simpa using hj) (by simp)
    have hr' : Rd w (.i xs[j]) v fp' := by simpa using hr
    obtain ⟨rfl, _⟩ := hr'.int
    simpa using hcell
theorem Rd.of_ints {w : World} {xs : List Int} {g off cap : Nat} (hne : 0 < xs.length) (hcap : xs.length ≤ cap) (hg : g < w.heap.size) (hc : ∀ j (h : j < xs.length), w.cell? ⟨g, off + j, none⟩ = some (.int .i64 xs[j])) :
    Rd w (intsD xs) (.slice (some ⟨g, off, none⟩) xs.length cap) [g] := by
  have := Rd.l (w := w) 1 (xs.map fun x => [Dt.i x]) g off cap (fun k _ => .int .i64 (xs.getD k 0)) (fun _ _ => []) (by simpa using hne) (by intro e he; simp at he; obtain ⟨x, _, rfl⟩ := he; rfl) (by simpa using hcap) hg
    (fun k j hk hj => by
      have hk' : k < xs.length := by simpa using hk
      have : j = 0 := by omega
      subst this
      rw [getD_get hk']
      simpa using hc k hk')
    (fun k j hk hj => by
      have hk' : k < xs.length := by simpa using hk
      have hj0 : j = 0 := by simp at hj; exact hj
      subst hj0
      rw [getD_get hk']
      simpa using Rd.i (w := w) xs[k])
  have e : (List.range (xs.map fun x => [Dt.i x]).length).flatMap (fun k => (List.range 1).flatMap ((fun _ _ => ([] : List Nat)) k)) = [] := by simp
  rw [e, List.length_map] at this
  exact this
theorem Rd.of_own {E : TypeId} {w : World} {B : Nat} {v : Value} {xs : List Int} (h : Own E w B v xs) : ∃ fp, Rd w (intsD xs) v fp ∧ ∀ g ∈ fp, B ≤ g ∧ v.ownBlock = some g := by
  rcases Nat.eq_zero_or_pos xs.length with h0 | h0
  · have : xs = [] := List.eq_nil_of_length_eq_zero h0
    subst this
    rcases h.2 with ⟨rfl, _⟩ | ⟨g, cap, cur, rfl, _, _, _, _⟩
    · exact ⟨[], .nil _ _ (fun _ => rfl), fun g hg => by cases hg⟩
    · exact ⟨[], .nil _ _ (fun e => by cases e), fun g hg => by cases hg⟩
  · obtain ⟨g, cap, rfl, hB, hg, hcap, hc, _⟩ := h.row h0
    exact ⟨[g], Rd.of_ints h0 hcap hg (fun j hj => by rw [Nat.zero_add]; exact hc j hj), fun r hr => by simp at hr; subst hr; exact ⟨hB, rfl⟩⟩

/-! a variable of a struct type, or of one cell -/
/-- Block B is a variable of type t that holds these cells. -/
def Str (W : World) (B : Nat) (t : TypeId) (vs : Array Value) : Prop := W.heap[B]? = some (.cells vs t (0, 0))
theorem Str.lt {W : World} {B : Nat} {t : TypeId} {vs : Array Value} (h : Str W B t vs) : B < W.heap.size := (Array.getElem?_eq_some_iff.1 h).1
theorem Str.new (W : World) (t : TypeId) (vs : Array Value) : Str (W.alloc (.cells vs t)) W.heap.size t vs := by
  show (W.heap.push _)[W.heap.size]? = _
  simp
theorem Str.cell {W : World} {B : Nat} {t : TypeId} {vs : Array Value} (h : Str W B t vs) (j : Nat) {v : Value} (hv : vs[j]? = some v) : W.cell? ⟨B, j, none⟩ = some v := by
  simp [World.cell?, show W.heap[B]? = _ from h, hv]
theorem Str.frozen {W : World} {B : Nat} {t : TypeId} {vs : Array Value} (h : Str W B t vs) (j : Nat) : W.frozen? ⟨B, j, none⟩ = false := by simp [World.frozen?, show W.heap[B]? = _ from h]
theorem Str.kept {W W' : World} {row : Option Nat} {B : Nat} {t : TypeId} {vs : Array Value} (h : Str W B t vs) (hg : W.grownBy W' row) (hne : some B ≠ row) : Str W' B t vs := (hg.block B h.lt hne).trans h
theorem Str.alloc {W : World} {B : Nat} {t : TypeId} {vs : Array Value} (h : Str W B t vs) (o : Obj) : Str (W.alloc o) B t vs := h.kept (World.grownBy_alloc W o none) (by simp)
theorem Str.set {W : World} {B : Nat} {t : TypeId} {vs : Array Value} (h : Str W B t vs) (j : Nat) (v : Value) : Str (W.setCell ⟨B, j, none⟩ v) B t (vs.setIfInBounds j v) := by
  obtain ⟨hlt, hk⟩ := Array.getElem?_eq_some_iff.1 h
  show (W.heap.modify B _)[B]? = _
  rw [Array.getElem?_eq_getElem (by rw [Array.size_modify]; exact hlt), Array.getElem_modify_self, hk]
  rfl
theorem grownBy_set (W : World) (b j : Nat) (v : Value) : W.grownBy (W.setCell ⟨b, j, none⟩ v) (some b) :=
  ⟨rfl, rfl, rfl, by simp [World.setCell], fun k _ hk => Below.heap_setCell _ _ _ k (fun e => hk (by rw [e]))⟩
theorem Str.other {W : World} {B : Nat} {t : TypeId} {vs : Array Value} (h : Str W B t vs) {B' : Nat} (hne : B ≠ B') (j : Nat) (v : Value) : Str (W.setCell ⟨B', j, none⟩ v) B t vs := h.kept (grownBy_set W B' j v) (by simpa using hne)
theorem Own.set_other {E : TypeId} {W : World} {B : Nat} {v : Value} {xs : List Int} (h : Own E W B v xs) {B' : Nat} (hne : v.ownBlock ≠ some B') (j : Nat) (u : Value) : Own E (W.setCell ⟨B', j, none⟩ u) B v xs := h.kept (grownBy_set W B' j u) (.inr hne)

theorem IntsAt_own {E : TypeId} {w : World} {B n c : Nat} {a : Option Addr} {xs : List Int} (h : Own E w B (.slice a n c) xs) : IntsAt w a xs := by
  obtain ⟨a', c', e, hi, _⟩ := h.ints
  simp only [Value.slice.injEq] at e
  obtain ⟨rfl, _, _⟩ := e
  exact hi

end Go.Proofs.Ytfnhafgjdnlhiaa

/- Appending one number as an operation of a region, and where the new slice lies; nothing here speaks of the program. -/
namespace Go.Proofs.Ytfnhafgjdnlhiaa
open Go.RowKit

/-- 'append(s, z)' as an operation of a region, and where the new slice lies. -/
theorem op_push_at {P : Program} {T E : TypeId} (hT : IntT P T E) (w : World) {o : Oper} {a : Act} {K : Act → World → Prop} {Q : Exit → Act → World → Prop} (s x : Operand)
    (ho : o.op = .call { callee := .builtin .append, args := #[s, x], argTypes := #[T, T] }) (B : Nat) (v : Value) (xs : List Int) (z : Int) (hs : a.eval s = v) (hown : Own E w B v xs)
    (hlen : xs.length ≤ 1099511627776) (hx : a.eval x = .slice (some ⟨w.heap.size, 0, none⟩) 1 1) (hB : B ≤ w.heap.size)
    (h : ∀ v' w', Own E w' B v' (xs ++ [z]) → w.grownBy w' v.ownBlock → (v'.ownBlock = v.ownBlock ∨ ∃ g, v'.ownBlock = some g ∧ w.heap.size ≤ g) → K (a.put o.dst v') w') : Oper.wp P o a (w.alloc (.cells #[.int .i64 z] E)) K Q := by
  obtain ⟨i, hi, hz, hsz, hby⟩ := info_parts hT.info
  obtain ⟨v', w', hr, h1, h2, _, h4⟩ := run_append_own_at (P := P) (w.alloc (.cells #[.int .i64 z] E)) B T o.type E i (.int .i64 0) 1 8 hT.sl hi hz hsz hby rfl (by decide) v xs.length _ (World.ownsRow.alloc hown _) ⟨w.heap.size, 0, none⟩ 1 1 [.int .i64 z] rfl (cells_one _ _ _) (by intro u hu; simp at hu; subst hu; rfl) (by unfold maxLen; omega) (by omega) (by simp; omega)
  unfold Oper.wp execOp
  simp only [ho, resolve, invoke, builtin, Sem.run_bind, Sem.run_pure, Result.andThen_ok, List.map_toArray, List.map_cons, List.map_nil, hs, hx, hr]
  refine h v' w' ?_ (grownBy_trans (World.grownBy_alloc _ _ _) h2) ?_
  · unfold Own; simpa using h1
  · rcases h4 with h4 | h4
    · exact .inl h4
    · exact .inr ⟨_, h4, by simp⟩

end Go.Proofs.Ytfnhafgjdnlhiaa

/- Plain arithmetic of digests and of hash trees; no walk and no condition of our own. -/
namespace Go.Proofs.Ytfnhafgjdnlhiaa

def digB (n : Int) : Bool := decide (0 ≤ n ∧ n ≤ 990)
theorem digB_bd {n : Int} (h : digB n = true) : 0 ≤ n ∧ n ≤ 990 := of_decide_eq_true h
theorem digB_yes {n : Int} (h0 : 0 ≤ n) (h1 : n ≤ 990) : digB n = true := decide_eq_true ⟨h0, h1⟩
theorem digB_no {n : Int} (h : ¬ (0 ≤ n ∧ n ≤ 990)) : digB n = false := decide_eq_false h
def pairZ (a b : Int) : Int := (31 * a + 17 * b + 5) % 991
theorem pairZ_bd (a b : Int) : 0 ≤ pairZ a b ∧ pairZ a b ≤ 990 := by unfold pairZ; omega
theorem pairZ_dig (a b : Int) : digB (pairZ a b) = true := decide_eq_true (pairZ_bd a b)
theorem pairZ_left {a a' b : Int} (h : digB a = true) (h' : digB a' = true) (e : pairZ a b = pairZ a' b) : a = a' := by
  have := digB_bd h; have := digB_bd h'; unfold pairZ at e; omega
theorem pairZ_right {a b b' : Int} (h : digB b = true) (h' : digB b' = true) (e : pairZ a b = pairZ a b') : b = b' := by
  have := digB_bd h; have := digB_bd h'; unfold pairZ at e; omega

/-- The next level. -/
def upZ : List Int → List Int
  | a :: b :: r => pairZ a b :: upZ r
  | l => l
theorem upZ_nil : upZ [] = [] := rfl
theorem upZ_one (a : Int) : upZ [a] = [a] := rfl
theorem upZ_two (a b : Int) (r : List Int) : upZ (a :: b :: r) = pairZ a b :: upZ r := by rw [upZ]
/-- The other node of the pair of node i. -/
def sib (i : Nat) : Nat := if i % 2 = 0 then i + 1 else i - 1
theorem pairs_ind {p : List Int → Prop} (h0 : p []) (h1 : ∀ a, p [a]) (h2 : ∀ a b r, p r → p (a :: b :: r)) : ∀ n l, l.length ≤ n → p l := by
  intro n
  induction n with
  | zero =>
    intro l hl
    have : l = [] := List.eq_nil_of_length_eq_zero (by omega)
    subst this; exact h0
  | succ n ih =>
    intro l hl
    match l, hl with
    | [], _ => exact h0
    | [a], _ => exact h1 a
    | a :: b :: r, hl => exact h2 a b r (ih r (by simp at hl; omega))
theorem upZ_len (l : List Int) : (upZ l).length = (l.length + 1) / 2 :=
  pairs_ind (p := fun l => (upZ l).length = (l.length + 1) / 2) rfl (fun a => by simp [upZ]) (fun a b r ih => by rw [upZ_two]; simp only [List.length_cons]; rw [ih]; omega) l.length l (Nat.le_refl _)
theorem upZ_dig (l : List Int) (h : ∀ x ∈ l, digB x = true) : ∀ x ∈ upZ l, digB x = true := by
  refine pairs_ind (p := fun l => (∀ x ∈ l, digB x = true) → ∀ x ∈ upZ l, digB x = true) (fun _ => by simp [upZ]) (fun a h => by simpa [upZ] using h) (fun a b r ih h => ?_) l.length l (Nat.le_refl _) h
  rw [upZ_two]
  intro x hx
  rcases List.mem_cons.1 hx with rfl | hx
  · exact pairZ_dig _ _
  · exact ih (fun y hy => h y (by simp [hy])) x hx
/-- A node of the next level. -/
theorem upZ_get (l : List Int) : ∀ i, i < l.length → (upZ l).getD (i / 2) 0 = if sib i < l.length then (if i < sib i then pairZ (l.getD i 0) (l.getD (sib i) 0) else pairZ (l.getD (sib i) 0) (l.getD i 0)) else l.getD i 0 := by
  refine pairs_ind (p := fun l => ∀ i, i < l.length → (upZ l).getD (i / 2) 0 = if sib i < l.length then (if i < sib i then pairZ (l.getD i 0) (l.getD (sib i) 0) else pairZ (l.getD (sib i) 0) (l.getD i 0)) else l.getD i 0)
    (fun i h => by simp at h) (fun a i h => ?_) (fun a b r ih i h => ?_) l.length l (Nat.le_refl _)
  · have : i = 0 := by simpa using h
    subst this; rfl
  · rw [upZ_two]
    match i, h with
    | 0, _ => simp [sib]
    | 1, _ => simp [sib]
    | i + 2, h =>
      have hi := ih i (by simpa using h)
      have e1 : (i + 2) / 2 = i / 2 + 1 := by omega
      have e2 : sib (i + 2) = sib i + 2 := by unfold sib; split <;> split <;> omega
      rw [e1, e2]
      simp only [List.getD_cons_succ, List.length_cons]
      rw [hi]
      by_cases hs : sib i < r.length
      · rw [if_pos hs, if_pos (show sib i + 2 < r.length + 1 + 1 by omega)]
        by_cases hl : i < sib i
        · rw [if_pos hl, if_pos (show i + 2 < sib i + 2 by omega)]
        · rw [if_neg hl, if_neg (show ¬ i + 2 < sib i + 2 by omega)]
      · rw [if_neg hs, if_neg (show ¬ sib i + 2 < r.length + 1 + 1 by omega)]

def rootF : Nat → List Int → Int
  | 0, l => l.getD 0 0
  | n + 1, l => if 1 < l.length then rootF n (upZ l) else l.getD 0 0
def proofF : Nat → List Int → Nat → List Int
  | 0, _, _ => []
  | n + 1, l, i => if 1 < l.length then (if sib i < l.length then [l.getD (sib i) 0] else []) ++ proofF n (upZ l) (i / 2) else []
/-- Where a leaf x at place i and a proof lead in a tree of this size. -/
def checkF : Nat → Nat → Nat → Int → List Int → Option Int
  | 0, _, _, x, p => if p = [] then some x else none
  | n + 1, size, i, x, p =>
    if 1 < size then
      if sib i < size then
        match p with
        | [] => none
        | q :: r => if digB q = true then checkF n ((size + 1) / 2) (i / 2) (if i < sib i then pairZ x q else pairZ q x) r else none
      else checkF n ((size + 1) / 2) (i / 2) x p
    else if p = [] then some x else none

theorem dig_getD {l : List Int} (h : ∀ x ∈ l, digB x = true) {i : Nat} (hi : i < l.length) : digB (l.getD i 0) = true := by
  rw [getD_get hi]; exact h _ (List.getElem_mem hi)

/-- Each leaf has a proof. -/
theorem check_proof : ∀ (n : Nat) (l : List Int) (i : Nat), (∀ x ∈ l, digB x = true) → i < l.length → l.length ≤ 2 ^ n → checkF n l.length i (l.getD i 0) (proofF n l i) = some (rootF n l) := by
  intro n
  induction n with
  | zero => intro l i _ hi hl; have : i = 0 := by omega
            subst this; simp [checkF, proofF, rootF]
  | succ n ih =>
    intro l i hd hi hl
    simp only [checkF, proofF, rootF]
    by_cases h1 : 1 < l.length
    · rw [if_pos h1, if_pos h1, if_pos h1]
      have hu := ih (upZ l) (i / 2) (upZ_dig l hd) (by rw [upZ_len]; omega) (by rw [upZ_len, Nat.pow_succ] at *; omega)
      rw [upZ_len, upZ_get l i hi] at hu
      by_cases hs : sib i < l.length
      · rw [if_pos hs] at hu ⊢
        rw [if_pos hs]
        simp only [List.cons_append, List.nil_append]
        rw [if_pos (dig_getD hd hs)]
        exact hu
      · rw [if_neg hs] at hu ⊢
        rw [if_neg hs, List.nil_append]
        exact hu
    · have : i = 0 := by omega
      subst this; simp [h1]

/-- No other leaf has the proof. -/
theorem check_leaf : ∀ (n size i : Nat) (x y : Int) (p : List Int) (R : Int), digB x = true → digB y = true → checkF n size i x p = some R → checkF n size i y p = some R → x = y := by
  intro n
  induction n with
  | zero =>
    intro size i x y p R _ _ h1 h2
    simp only [checkF] at h1 h2
    split at h1
    · rename_i h; rw [if_pos h] at h2; cases h1; cases h2; rfl
    · cases h1
  | succ n ih =>
    intro size i x y p R hx hy h1 h2
    simp only [checkF] at h1 h2
    by_cases hz : 1 < size
    · rw [if_pos hz] at h1 h2
      by_cases hs : sib i < size
      · rw [if_pos hs] at h1 h2
        match p, h1, h2 with
        | q :: r, h1, h2 =>
          simp only at h1 h2
          by_cases hq : digB q = true
          · rw [if_pos hq] at h1 h2
            by_cases hl : i < sib i
            · rw [if_pos hl] at h1 h2
              exact pairZ_left hx hy (ih _ _ _ _ _ _ (pairZ_dig _ _) (pairZ_dig _ _) h1 h2)
            · rw [if_neg hl] at h1 h2
              exact pairZ_right hx hy (ih _ _ _ _ _ _ (pairZ_dig _ _) (pairZ_dig _ _) h1 h2)
          · rw [if_neg hq] at h1; cases h1
      · rw [if_neg hs] at h1 h2
        exact ih _ _ _ _ _ _ hx hy h1 h2
    · rw [if_neg hz] at h1 h2
      split at h1
      · rename_i h; rw [if_pos h] at h2; cases h1; cases h2; rfl
      · cases h1

/-- How long a proof is. -/
def plen : Nat → Nat → Nat → Nat
  | 0, _, _ => 0
  | n + 1, size, i => if 1 < size then (if sib i < size then 1 else 0) + plen n ((size + 1) / 2) (i / 2) else 0
theorem plen_le : ∀ (n size i : Nat), plen n size i ≤ n := by
  intro n
  induction n with
  | zero => intro _ _; exact Nat.le_refl _
  | succ n ih =>
    intro size i
    simp only [plen]
    have := ih ((size + 1) / 2) (i / 2)
    split
    · split <;> omega
    · omega
theorem check_len : ∀ (n size i : Nat) (x : Int) (p : List Int) (R : Int), checkF n size i x p = some R → p.length = plen n size i := by
  intro n
  induction n with
  | zero =>
    intro size i x p R h
    simp only [checkF] at h
    split at h
    · rename_i hp; rw [hp]; rfl
    · cases h
  | succ n ih =>
    intro size i x p R h
    simp only [checkF] at h
    simp only [plen]
    by_cases hz : 1 < size
    · rw [if_pos hz] at h ⊢
      by_cases hs : sib i < size
      · rw [if_pos hs] at h ⊢
        match p, h with
        | q :: r, h =>
          simp only at h
          by_cases hq : digB q = true
          · rw [if_pos hq] at h
            have := ih _ _ _ _ _ h
            simp only [List.length_cons]; omega
          · rw [if_neg hq] at h; cases h
      · rw [if_neg hs] at h ⊢
        have := ih _ _ _ _ _ h; omega
    · rw [if_neg hz] at h ⊢
      split at h
      · rename_i hp; rw [hp]; rfl
      · cases h

/-- A changed leaf on the next level. -/
theorem upZ_set (l : List Int) : ∀ i y, i < l.length → upZ (l.set i y) = (upZ l).set (i / 2) ((upZ (l.set i y)).getD (i / 2) 0) := by
  refine pairs_ind (p := fun l => ∀ i y, i < l.length → upZ (l.set i y) = (upZ l).set (i / 2) ((upZ (l.set i y)).getD (i / 2) 0)) (fun i y h => by simp at h) (fun a i y h => ?_) (fun a b r ih i y h => ?_) l.length l (Nat.le_refl _)
  · have : i = 0 := by simpa using h
    subst this; rfl
  · match i, h with
    | 0, _ => simp [upZ_two]
    | 1, _ => simp [upZ_two]
    | i + 2, h =>
      have hi := ih i y (by simpa using h)
      have e1 : (i + 2) / 2 = i / 2 + 1 := by omega
      rw [e1]
      simp only [List.set_cons_succ, upZ_two, List.getD_cons_succ]
      rw [← hi]
theorem proof_set : ∀ (n : Nat) (l : List Int) (i : Nat) (y : Int), i < l.length → proofF n (l.set i y) i = proofF n l i := by
  intro n
  induction n with
  | zero => intros; rfl
  | succ n ih =>
    intro l i y hi
    simp only [proofF, List.length_set]
    have hne : sib i ≠ i := by unfold sib; split <;> omega
    have e : (l.set i y).getD (sib i) 0 = l.getD (sib i) 0 := by
      simp only [List.getD]
      rw [List.getElem?_set_ne (fun h => hne h.symm)]
    rw [e, upZ_set l i y hi, ih (upZ l) (i / 2) _ (by rw [upZ_len]; omega)]
/-- A changed leaf changes the root. -/
theorem root_set {n : Nat} {l : List Int} {i : Nat} {y : Int} (hd : ∀ x ∈ l, digB x = true) (hi : i < l.length) (hl : l.length ≤ 2 ^ n) (hy : digB y = true) (e : rootF n (l.set i y) = rootF n l) : y = l.getD i 0 := by
  have h1 := check_proof n l i hd hi hl
  have h2 := check_proof n (l.set i y) i (fun x hx => by rcases List.mem_or_eq_of_mem_set hx with h | rfl; exact hd x h; exact hy) (by simpa using hi) (by simpa using hl)
  rw [List.length_set, proof_set n l i y hi, e] at h2
  have e2 : (l.set i y).getD i 0 = y := by simp [List.getD, hi]
  rw [e2] at h2
  exact check_leaf _ _ _ _ _ _ _ hy (dig_getD hd hi) h2 h1
theorem rootF_bd : ∀ (n : Nat) (l : List Int), (∀ x ∈ l, digB x = true) → 0 < l.length → digB (rootF n l) = true := by
  intro n
  induction n with
  | zero => intro l hd hl; exact dig_getD hd hl
  | succ n ih =>
    intro l hd hl
    simp only [rootF]
    split
    · exact ih _ (upZ_dig l hd) (by rw [upZ_len]; omega)
    · exact dig_getD hd hl

/-! texts -/
def txtS (n : Int) (c : UInt8) : Int := (257 * n + c.toNat + 1) % 991
def txtF (n : Int) (l : List UInt8) : Int := l.foldl txtS n
def txtZ (l : List UInt8) : Int := txtF 7 l
theorem txtS_bd (n : Int) (c : UInt8) : 0 ≤ txtS n c ∧ txtS n c ≤ 990 := by unfold txtS; omega
theorem txtF_bd (l : List UInt8) : ∀ n, 0 ≤ n → n ≤ 990 → 0 ≤ txtF n l ∧ txtF n l ≤ 990 := by
  induction l with
  | nil => intro n h0 h1; exact ⟨h0, h1⟩
  | cons c l ih => intro n _ _; exact ih _ (txtS_bd n c).1 (txtS_bd n c).2
theorem txtZ_bd (l : List UInt8) : 0 ≤ txtZ l ∧ txtZ l ≤ 990 := txtF_bd l 7 (by omega) (by omega)
theorem txtZ_snoc (l : List UInt8) (c : UInt8) : txtZ (l ++ [c]) = txtS (txtZ l) c := by unfold txtZ txtF; rw [List.foldl_append]; rfl
theorem txtF_ne (l : List UInt8) : ∀ n m, 0 ≤ n → n ≤ 990 → 0 ≤ m → m ≤ 990 → n ≠ m → txtF n l ≠ txtF m l := by
  induction l with
  | nil => intro n m _ _ _ _ h; exact h
  | cons c l ih =>
    intro n m h0 h1 h2 h3 h
    refine ih _ _ (txtS_bd n c).1 (txtS_bd n c).2 (txtS_bd m c).1 (txtS_bd m c).2 ?_
    unfold txtS; omega
theorem txtZ_byte (l r : List UInt8) {b c : UInt8} (h : b ≠ c) : txtZ (l ++ [b] ++ r) ≠ txtZ (l ++ [c] ++ r) := by
  have e : ∀ x, txtZ (l ++ [x] ++ r) = txtF (txtS (txtZ l) x) r := fun x => by unfold txtZ txtF; rw [List.foldl_append, List.foldl_append]; rfl
  rw [e, e]
  refine txtF_ne r _ _ (txtS_bd _ _).1 (txtS_bd _ _).2 (txtS_bd _ _).1 (txtS_bd _ _).2 ?_
  have hb := b.toNat_lt
  have hc := c.toNat_lt
  have hn : b.toNat ≠ c.toNat := fun e => h (UInt8.toNat_inj.1 e)
  have := txtZ_bd l
  unfold txtS; omega

theorem txt_step (s : ByteArray) (k : Nat) (hk : k < s.size) : txtZ (s.data.toList.take (k + 1)) = txtS (txtZ (s.data.toList.take k)) s[k] := by
  rw [← txtZ_snoc, List.take_succ_eq_append_getElem (by simpa using hk)]; rfl
def htZ (s : ByteArray) : Int := if s.size ≤ 60 then txtZ s.data.toList else -1
def hpZ (a b : Int) : Int := if digB a = true ∧ digB b = true then pairZ a b else -1
def leavesB (l : List Int) : Bool := decide (1 ≤ l.length ∧ l.length ≤ 16) && l.all digB
theorem leavesB_bad {l : List Int} {k : Nat} (hk : k < l.length) (h : digB l[k] = false) : leavesB l = false := by unfold leavesB; rw [pre_not hk h, Bool.and_false]
theorem leavesB_len {l : List Int} {k : Nat} (h : Pre digB l k) (hk : l.length ≤ k) : leavesB l = decide (1 ≤ l.length ∧ l.length ≤ 16) := by unfold leavesB; rw [pre_all h hk, Bool.and_true]
theorem leavesB_iff {l : List Int} (h : leavesB l = true) : (1 ≤ l.length ∧ l.length ≤ 16) ∧ ∀ x ∈ l, digB x = true := by
  unfold leavesB at h; rw [Bool.and_eq_true, decide_eq_true_eq, List.all_eq_true] at h; exact h
def mrZ (l : List Int) : Int := if leavesB l = true then rootF 4 l else -1
def mpZ (l : List Int) (i : Int) : List Int := if leavesB l = true ∧ 0 ≤ i ∧ i < l.length then proofF 4 l i.toNat else []
def mcB (root size i leaf : Int) (p : List Int) : Bool := decide (1 ≤ size ∧ size ≤ 16 ∧ 0 ≤ i ∧ i < size ∧ digB leaf = true ∧ checkF 4 size.toNat i.toNat leaf p = some root)

theorem mrZ_yes {l : List Int} (h : leavesB l = true) : mrZ l = rootF 4 l := by unfold mrZ; rw [if_pos h]
theorem mrZ_no {l : List Int} (h : leavesB l = false) : mrZ l = -1 := by unfold mrZ; rw [if_neg (by simp [h])]
theorem mpZ_yes {l : List Int} {i : Nat} (h : leavesB l = true) (hi : i < l.length) : mpZ l i = proofF 4 l i := by unfold mpZ; rw [if_pos ⟨h, by omega, by omega⟩]; rfl
theorem mpZ_no {l : List Int} {i : Int} (h : ¬ (leavesB l = true ∧ 0 ≤ i ∧ i < l.length)) : mpZ l i = [] := by unfold mpZ; rw [if_neg h]
theorem sib_int (j : Nat) : (j : Int) + 1 - (j : Int) % 2 * 2 = (sib j : Nat) := by unfold sib; split <;> omega
theorem sib_ne (j : Nat) : sib j ≠ j := by unfold sib; split <;> omega
theorem rootF_up {n : Nat} {l : List Int} (h : 1 < l.length) : rootF (n + 1) l = rootF n (upZ l) := by rw [rootF, if_pos h]
theorem rootF_end {n : Nat} {l : List Int} (h : l.length = 1) : rootF n l = l.getD 0 0 := by
  cases n with
  | zero => rfl
  | succ n => rw [rootF, if_neg (by omega)]
theorem proofF_sib {n : Nat} {l : List Int} {i : Nat} (h : 1 < l.length) (hs : sib i < l.length) : proofF (n + 1) l i = l.getD (sib i) 0 :: proofF n (upZ l) (i / 2) := by rw [proofF, if_pos h, if_pos hs]; rfl
theorem proofF_lone {n : Nat} {l : List Int} {i : Nat} (h : 1 < l.length) (hs : ¬ sib i < l.length) : proofF (n + 1) l i = proofF n (upZ l) (i / 2) := by rw [proofF, if_pos h, if_neg hs]; rfl
theorem proofF_end {n : Nat} {l : List Int} {i : Nat} (h : ¬ 1 < l.length) : proofF n l i = [] := by
  cases n with
  | zero => rfl
  | succ n => rw [proofF, if_neg h]
theorem proofF_len : ∀ (n : Nat) (l : List Int) (i : Nat), (proofF n l i).length ≤ n := by
  intro n
  induction n with
  | zero => intro _ _; exact Nat.le_refl _
  | succ n ih =>
    intro l i
    by_cases h : 1 < l.length
    · have := ih (upZ l) (i / 2)
      by_cases hs : sib i < l.length
      · rw [proofF_sib h hs, List.length_cons]; omega
      · rw [proofF_lone h hs]; omega
    · rw [proofF_end h]; simp
theorem pow_half {n k : Nat} (h : k ≤ 2 ^ (n + 1)) : (k + 1) / 2 ≤ 2 ^ n := by rw [Nat.pow_succ] at h; omega
theorem pow_pos' {n k : Nat} (h : k ≤ 2 ^ n) (h1 : 1 < k) : ∃ m, n = m + 1 := by
  cases n with
  | zero => simp at h; omega
  | succ n => exact ⟨n, rfl⟩

theorem checkF_end {n size i : Nat} {x : Int} {p : List Int} (h : ¬ 1 < size) : checkF n size i x p = if p = [] then some x else none := by
  cases n with
  | zero => rfl
  | succ n => simp only [checkF]; rw [if_neg h]
theorem checkF_lone {n size i : Nat} {x : Int} {p : List Int} (h : 1 < size) (hs : ¬ sib i < size) : checkF (n + 1) size i x p = checkF n ((size + 1) / 2) (i / 2) x p := by simp only [checkF]; rw [if_pos h, if_neg hs]
theorem checkF_none {n size i : Nat} {x : Int} (h : 1 < size) (hs : sib i < size) : checkF (n + 1) size i x [] = none := by simp only [checkF]; rw [if_pos h, if_pos hs]
theorem checkF_sib {n size i : Nat} {x q : Int} {r : List Int} (h : 1 < size) (hs : sib i < size) (hq : digB q = true) : checkF (n + 1) size i x (q :: r) = checkF n ((size + 1) / 2) (i / 2) (if i < sib i then pairZ x q else pairZ q x) r := by simp only [checkF]; rw [if_pos h, if_pos hs, if_pos hq]
theorem checkF_bad {n size i : Nat} {x q : Int} {r : List Int} (h : 1 < size) (hs : sib i < size) (hq : digB q = false) : checkF (n + 1) size i x (q :: r) = none := by simp only [checkF]; rw [if_pos h, if_pos hs, if_neg (by simp [hq])]
theorem mcB_yes {root leaf : Int} {size i : Nat} {p : List Int} (h1 : 1 ≤ size) (h2 : size ≤ 16) (h3 : i < size) (h4 : digB leaf = true) : mcB root size i leaf p = decide (checkF 4 size i leaf p = some root) := by
  unfold mcB
  refine decide_eq_decide.2 ⟨fun h => h.2.2.2.2.2, fun h => ⟨by omega, by omega, by omega, by omega, h4, h⟩⟩
theorem mcB_no {root size i leaf : Int} {p : List Int} (h : ¬ (1 ≤ size ∧ size ≤ 16 ∧ 0 ≤ i ∧ i < size ∧ digB leaf = true)) : mcB root size i leaf p = false :=
  decide_eq_false fun h' => h ⟨h'.1, h'.2.1, h'.2.2.1, h'.2.2.2.1, h'.2.2.2.2.1⟩

theorem mrZ_bd (l : List Int) : -1 ≤ mrZ l ∧ mrZ l ≤ 990 := by
  by_cases h : leavesB l = true
  · rw [mrZ_yes h]
    have := digB_bd (rootF_bd 4 l (leavesB_iff h).2 (by have := (leavesB_iff h).1; omega))
    omega
  · rw [mrZ_no (by simpa using h)]; omega
theorem mpZ_len (l : List Int) (i : Int) : (mpZ l i).length ≤ 4 := by
  unfold mpZ; split
  · exact proofF_len _ _ _
  · simp

theorem htZ_yes (s : ByteArray) (h : s.size ≤ 60) : 0 ≤ htZ s ∧ htZ s ≤ 990 := by unfold htZ; rw [if_pos h]; exact txtZ_bd _
theorem htZ_no (s : ByteArray) (h : 60 < s.size) : htZ s = -1 := by unfold htZ; rw [if_neg (by omega)]
theorem htZ_empty : htZ ⟨#[]⟩ = 7 := rfl
theorem hpZ_yes {a b : Int} (h : digB a = true) (h' : digB b = true) : hpZ a b = pairZ a b := by unfold hpZ; rw [if_pos ⟨h, h'⟩]
theorem hpZ_no {a b : Int} (h : ¬ (digB a = true ∧ digB b = true)) : hpZ a b = -1 := by unfold hpZ; rw [if_neg h]

theorem str_ne {s : ByteArray} (h : ¬ s.size = 0) : s.toList.isEmpty = false := by
  rw [ByteArray.toList_eq]
  cases e : s.data.toList with
  | nil => exact absurd (by have := congrArg List.length e; simpa using this) h
  | cons _ _ => rfl
theorem str_nil {s : ByteArray} (h : s.size = 0) : s.toList.isEmpty = true := by
  have e : s.data.toList = [] := List.eq_nil_of_length_eq_zero (by simpa using h)
  rw [ByteArray.toList_eq, e]
  rfl

/-- A text with one byte changed. -/
theorem txt_change (s : ByteArray) (k : Nat) (hk : k < s.size) (c : UInt8) (hc : c ≠ s[k]) (h60 : s.size ≤ 60) (t : ByteArray) (ht : t = s.extract 0 k ++ ⟨#[c]⟩ ++ s.extract (k + 1) s.size) : t.size = s.size ∧ 0 ≤ htZ t ∧ htZ t ≤ 990 ∧ htZ t ≠ htZ s := by
  have hd : t.data.toList = s.data.toList.take k ++ [c] ++ s.data.toList.drop (k + 1) := by
    subst ht
    simp
    exact List.take_of_length_le (by simp)
  have hsd : s.data.toList = s.data.toList.take k ++ [s[k]] ++ s.data.toList.drop (k + 1) := by
    have hk' : k < s.data.toList.length := by simpa using hk
    have h := List.take_append_drop (k + 1) s.data.toList
    rw [List.take_succ_eq_append_getElem hk'] at h
    exact h.symm
  have hsz : t.size = s.size := by
    have h1 := congrArg List.length hd
    simp at h1
    have e1 : s.data.size = s.size := rfl
    have e2 : t.data.size = t.size := rfl
    omega
  have hn := txtZ_byte (s.data.toList.take k) (s.data.toList.drop (k + 1)) hc
  rw [← hd, ← hsd] at hn
  have hb := htZ_yes t (by omega)
  refine ⟨hsz, hb.1, hb.2, ?_⟩
  unfold htZ
  rw [if_pos (show t.size ≤ 60 by omega), if_pos h60]
  exact hn

/-- A byte xor 1, 2 or 3. -/
theorem xor_byte (b : UInt8) (m : Int) (h1 : 1 ≤ m) (h3 : m ≤ 3) : ∃ c : UInt8, bits .xor .u8 (b.toNat : Int) m = (c.toNat : Int) ∧ c ≠ b := by
  have key : ∀ x : Fin 256, ∀ y : Fin 3, bits .xor .u8 (x.val : Int) ((y.val : Int) + 1) = ((x.val ^^^ (y.val + 1) : Nat) : Int) ∧ x.val ^^^ (y.val + 1) ≠ x.val ∧ x.val ^^^ (y.val + 1) < 256 := by decide +kernel
  obtain ⟨hz, hne, hlt⟩ := key ⟨b.toNat, UInt8.toNat_lt b⟩ ⟨(m - 1).toNat, by omega⟩
  simp only at hz hne hlt
  rw [show (((m - 1).toNat : Nat) : Int) + 1 = m by omega] at hz
  generalize b.toNat ^^^ ((m - 1).toNat + 1) = z at hz hne hlt
  refine ⟨UInt8.ofNat z, ?_, ?_⟩
  · rw [UInt8.toNat_ofNat', Nat.mod_eq_of_lt (show z < 2 ^ 8 from hlt), hz]
  · intro e
    apply hne
    rw [← e, UInt8.toNat_ofNat', Nat.mod_eq_of_lt (show z < 2 ^ 8 from hlt)]

theorem wrap_tmod3 (n : Nat) : ∃ m : Int, 1 ≤ m ∧ m ≤ 3 ∧ IntKind.u8.wrap (IntKind.i64.wrap (1 + ((n : Int)).tmod 3)) = m := by
  have e : ((n : Int)).tmod 3 = (n : Int) % 3 := Int.tmod_eq_emod_of_nonneg (by omega)
  refine ⟨1 + (n : Int) % 3, by omega, by omega, ?_⟩
  rw [e, IntWalk.i64_in _ (by omega), IntWalk.u8_in _ (by omega)]

theorem mcB_root {root root' size i leaf : Int} {p : List Int} (h : mcB root size i leaf p = true) (hne : root' ≠ root) : mcB root' size i leaf p = false := by
  have h1 := of_decide_eq_true h
  exact decide_eq_false fun h2 => hne (by
    have := h2.2.2.2.2.2.symm.trans h1.2.2.2.2.2
    simpa using this)
theorem mcB_len {root size i leaf : Int} {p q : List Int} (h : mcB root size i leaf p = true) (hne : q.length ≠ p.length) : mcB root size i leaf q = false := by
  have h1 := of_decide_eq_true h
  exact decide_eq_false fun h2 => hne ((check_len _ _ _ _ _ _ h2.2.2.2.2.2).trans (check_len _ _ _ _ _ _ h1.2.2.2.2.2).symm)
theorem mcB_short {root size i leaf : Int} {p : List Int} (h : mcB root size i leaf p = true) : p.length ≤ 4 := by
  have h1 := of_decide_eq_true h
  rw [check_len _ _ _ _ _ _ h1.2.2.2.2.2]
  exact plen_le _ _ _
theorem leaves_get {l : List Int} (h : leavesB l = true) {i : Nat} (hi : i < l.length) : digB l[i] = true := (leavesB_iff h).2 _ (List.getElem_mem hi)
theorem getD_at {l : List Int} {i : Nat} (hi : i < l.length) : l.getD i 0 = l[i] := by simp [hi]
theorem mc_proof {l : List Int} {i : Nat} (h : leavesB l = true) (hi : i < l.length) : mcB (mrZ l) l.length i l[i] (mpZ l i) = true := by
  obtain ⟨hl, hd⟩ := leavesB_iff h
  rw [mcB_yes (by omega) (by omega) hi (leaves_get h hi), mrZ_yes h, mpZ_yes h hi, ← getD_at hi]
  exact decide_eq_true (check_proof 4 l i hd hi (by omega))
theorem mc_leaf {l : List Int} {i : Nat} {x : Int} (h : leavesB l = true) (hi : i < l.length) (hx : x ≠ l[i]) : mcB (mrZ l) l.length i x (mpZ l i) = false := by
  obtain ⟨hl, hd⟩ := leavesB_iff h
  cases hm : mcB (mrZ l) l.length i x (mpZ l i) with
  | false => rfl
  | true =>
    have h1 := (of_decide_eq_true (mc_proof h hi)).2.2.2.2.2
    have h2 := of_decide_eq_true hm
    exact absurd (check_leaf _ _ _ _ _ _ _ h2.2.2.2.2.1 (leaves_get h hi) h2.2.2.2.2.2 h1) hx

theorem mrZ_pos {l : List Int} (h : leavesB l = true) : 0 ≤ mrZ l ∧ mrZ l ≤ 990 := by
  rw [mrZ_yes h]
  obtain ⟨hl, hd⟩ := leavesB_iff h
  exact digB_bd (rootF_bd 4 l hd (by omega))

theorem mc_leaf' {l : List Int} {i : Int} {x : Int} (h : leavesB l = true) (h0 : 0 ≤ i) (hi : i < l.length) (hx : x ≠ l.getD i.toNat 0) : mcB (mrZ l) l.length i x (mpZ l i) = false := by
  obtain ⟨i, rfl⟩ := Int.eq_ofNat_of_zero_le h0
  have hi' : i < l.length := by omega
  exact mc_leaf h hi' (by rw [← getD_at hi']; exact hx)

end Go.Proofs.Ytfnhafgjdnlhiaa

/- What spec's functions of digests and hash trees answer, each by a walk of its text: the answers are those of plain functions on lists; conditions: a list that is read has fewer than 2^40 elements, numbers that are paired are digests. -/
namespace Go.Proofs.Ytfnhafgjdnlhiaa
open Go.RowKit

theorem TI2 : IntT Try.prog 23 3 := ⟨Try.underlying23, by kernel_rfl⟩

end Go.Proofs.Ytfnhafgjdnlhiaa

/- The draws of digests, leaves and texts: what is drawn is short and lies in new memory; each by a walk of its text; condition: at most 2^40 picks. -/
namespace Go.Proofs.Ytfnhafgjdnlhiaa
open Go.RowKit

/-- Numbers between -1 and 991. -/
def Digs (xs : List Int) : Prop := ∀ x ∈ xs, -1 ≤ x ∧ x ≤ 991
theorem digs_app {xs zs : List Int} (h : Digs xs) (k : Digs zs) : Digs (xs ++ zs) := fun x hx => by
  rcases List.mem_append.1 hx with hx | hx
  · exact h x hx
  · exact k x hx
theorem digs_one {z : Int} (h1 : -1 ≤ z) (h2 : z ≤ 991) : Digs [z] := fun x hx => by simp at hx; subst hx; exact ⟨h1, h2⟩
theorem digs_set {xs : List Int} (h : Digs xs) (j : Nat) {z : Int} (h1 : -1 ≤ z) (h2 : z ≤ 991) : Digs (xs.set j z) := fun x hx => by
  rcases List.mem_or_eq_of_mem_set hx with hx | rfl
  · exact h x hx
  · exact ⟨h1, h2⟩
theorem grown_row' {w a b : World} {R : Nat} {row : Option Nat} (h : w.grownBy a (some R)) (k : a.grownBy b row) (hr : ∀ g, row = some g → w.heap.size ≤ g) : w.grownBy b (some R) :=
  ⟨k.os.trans h.os, k.tape.trans h.tape, k.output.trans h.output, Nat.le_trans h.size k.size, fun i hi hne => (k.block i (Nat.lt_of_lt_of_le hi h.size) (fun e => by have := hr i e.symm; omega)).trans (h.block i hi hne)⟩
theorem below_of_row' {w w' : World} {R B : Nat} (h : w.grownBy w' (some R)) (hR : B ≤ R) (hB : B ≤ w.heap.size) : Below B w w' :=
  ⟨h.os, h.tape, h.output, h.size, fun k hk => h.block k (by omega) (fun e => by injection e with e; omega)⟩
theorem dig4_at (k : Nat) (hk : k < 4) : ∃ z : Int, (#[Value.int .i64 (-1), .int .i64 0, .int .i64 990, .int .i64 991] : Array Value)[k]? = some (.int .i64 z) ∧ -1 ≤ z ∧ z ≤ 991 := by
  match k, hk with
  | 0, _ => exact ⟨-1, rfl, by omega, by omega⟩
  | 1, _ => exact ⟨0, rfl, by omega, by omega⟩
  | 2, _ => exact ⟨990, rfl, by omega, by omega⟩
  | 3, _ => exact ⟨991, rfl, by omega, by omega⟩

end Go.Proofs.Ytfnhafgjdnlhiaa

/- What the ledger's functions of the reference answer, and what chapter 31's laws say of these answers; plain facts on lists, nothing here is walked. -/
namespace Go.Proofs.Ytfnhafgjdnlhiaa
open Go.RowKit

/-- A transaction: from, to, sum, fee. -/
structure Tx where
  f : Int
  t : Int
  s : Int
  e : Int
deriving DecidableEq
def txB (x : Tx) : Bool := decide (0 ≤ x.f ∧ x.f ≤ 5) && (decide (0 ≤ x.t ∧ x.t ≤ 5) && (decide (x.f ≠ x.t) && (decide (1 ≤ x.s ∧ x.s ≤ 99) && decide (0 ≤ x.e ∧ x.e ≤ 9))))
theorem txB_iff {x : Tx} : txB x = true ↔ (0 ≤ x.f ∧ x.f ≤ 5) ∧ (0 ≤ x.t ∧ x.t ≤ 5) ∧ x.f ≠ x.t ∧ (1 ≤ x.s ∧ x.s ≤ 99) ∧ 0 ≤ x.e ∧ x.e ≤ 9 := by
  unfold txB; simp only [Bool.and_eq_true, decide_eq_true_eq]
def balB (b : Int) : Bool := decide (0 ≤ b ∧ b ≤ 999)
def ldB (l : List Int) (n : Int) : Bool := l.all balB && (decide (l.length = 6) && decide (0 ≤ n ∧ n ≤ 5994))
theorem ldB_iff {l : List Int} {n : Int} : ldB l n = true ↔ (∀ b ∈ l, 0 ≤ b ∧ b ≤ 999) ∧ l.length = 6 ∧ 0 ≤ n ∧ n ≤ 5994 := by
  unfold ldB balB; simp only [Bool.and_eq_true, decide_eq_true_eq, List.all_eq_true]
/-- The balance of an account. -/
def bal (l : List Int) (i : Int) : Int := l.getD i.toNat 0
theorem bal_at {l : List Int} {i : Int} (h : i.toNat < l.length) : bal l i = l[i.toNat] := by unfold bal; simp [List.getD, List.getElem?_eq_getElem h]
theorem bal_bd {l : List Int} {n i : Int} (h : ldB l n = true) : 0 ≤ bal l i ∧ bal l i ≤ 999 := by
  obtain ⟨h1, _⟩ := ldB_iff.1 h
  by_cases hi : i.toNat < l.length
  · rw [bal_at hi]; exact h1 _ (List.getElem_mem hi)
  · unfold bal; rw [List.getD, List.getElem?_eq_none (by omega)]; simp
def okT (l : List Int) (x : Tx) : Bool := txB x && (decide (x.s + x.e ≤ bal l x.f) && decide (bal l x.t + x.s ≤ 999))
theorem okT_iff {l : List Int} {x : Tx} : okT l x = true ↔ txB x = true ∧ x.s + x.e ≤ bal l x.f ∧ bal l x.t + x.s ≤ 999 := by
  unfold okT; simp only [Bool.and_eq_true, decide_eq_true_eq]
/-- The balances behind a transaction, and the fees. -/
def apL (l : List Int) (x : Tx) : List Int := if okT l x then (l.set x.f.toNat (bal l x.f - x.s - x.e)).set x.t.toNat (bal l x.t + x.s) else l
def apF (l : List Int) (n : Int) (x : Tx) : Int := if okT l x then n + x.e else n
theorem ap_no {l : List Int} {n : Int} {x : Tx} (h : okT l x = false) : apL l x = l ∧ apF l n x = n := by unfold apL apF; rw [h]; exact ⟨rfl, rfl⟩
theorem ap_yes {l : List Int} {n : Int} {x : Tx} (h : okT l x = true) : apL l x = (l.set x.f.toNat (bal l x.f - x.s - x.e)).set x.t.toNat (bal l x.t + x.s) ∧ apF l n x = n + x.e := by unfold apL apF; rw [h]; exact ⟨rfl, rfl⟩
theorem ap_len (l : List Int) (x : Tx) : (apL l x).length = l.length := by
  unfold apL; split
  · rw [List.length_set, List.length_set]
  · rfl
theorem ap_fee {l : List Int} {n : Int} (x : Tx) : n ≤ apF l n x ∧ apF l n x ≤ n + 9 := by
  unfold apF; split
  · rename_i h
    obtain ⟨h1, _⟩ := okT_iff.1 h
    obtain ⟨_, _, _, _, h5⟩ := txB_iff.1 h1
    omega
  · omega
/-- What a transaction adds to an account. -/
def dlt (x : Tx) (i : Int) : Int := if i = x.t then x.s else if i = x.f then -x.s - x.e else 0
theorem ap_bal {l : List Int} {x : Tx} (h : okT l x = true) (hl : l.length = 6) {i : Nat} (hi : i < l.length) : (apL l x)[i]? = some (l[i] + dlt x i) := by
  obtain ⟨h1, h2, h3⟩ := okT_iff.1 h
  obtain ⟨⟨f0, f1⟩, ⟨t0, t1⟩, hne, _, _⟩ := txB_iff.1 h1
  rw [(ap_yes (n := 0) h).1]
  unfold dlt
  by_cases ht : (i : Int) = x.t
  · have e : x.t.toNat = i := by omega
    rw [if_pos ht, e, List.getElem?_set_self (by rw [List.length_set]; exact hi), ← ht, bal_at (by omega)]
    simp
  · rw [if_neg ht, List.getElem?_set_ne (by omega)]
    by_cases hf : (i : Int) = x.f
    · have e : x.f.toNat = i := by omega
      rw [if_pos hf, e, List.getElem?_set_self hi, ← hf, bal_at (by omega)]
      simp only [Int.toNat_natCast, Option.some.injEq]; omega
    · rw [if_neg hf, List.getElem?_set_ne (by omega), List.getElem?_eq_getElem hi]
      simp
theorem ap_valid {l : List Int} {n : Int} (x : Tx) (h : ldB l n = true) (hn : n + 9 ≤ 5994) : ldB (apL l x) (apF l n x) = true := by
  obtain ⟨h1, h2, h3, h4⟩ := ldB_iff.1 h
  have hf := ap_fee (l := l) (n := n) x
  refine ldB_iff.2 ⟨?_, by rw [ap_len]; exact h2, by omega, by omega⟩
  cases ho : okT l x with
  | false => rw [(ap_no (n := n) ho).1]; exact h1
  | true =>
    obtain ⟨k1, k2, k3⟩ := okT_iff.1 ho
    obtain ⟨_, _, _, ⟨s0, s1⟩, e0, e1⟩ := txB_iff.1 k1
    have bf := bal_bd (i := x.f) h
    have bt := bal_bd (i := x.t) h
    rw [(ap_yes (n := n) ho).1]
    intro b hb
    rcases List.mem_or_eq_of_mem_set hb with hb | hb
    · rcases List.mem_or_eq_of_mem_set hb with hb | hb
      · exact h1 b hb
      · omega
    · omega
theorem sum_set : ∀ (l : List Int) (i : Nat) (v : Int) (hi : i < l.length), (l.set i v).sum = l.sum - l[i] + v
  | [], _, _, h => absurd h (by simp)
  | y :: l, 0, v, _ => by simp; omega
  | y :: l, i + 1, v, h => by
    have := sum_set l i v (by simpa using h)
    simp only [List.set_cons_succ, List.sum_cons, List.getElem_cons_succ, this]
    omega
theorem ap_sum {l : List Int} {n : Int} (x : Tx) (hl : l.length = 6) : (apL l x).sum + apF l n x = l.sum + n := by
  cases ho : okT l x with
  | false => rw [(ap_no (n := n) ho).1, (ap_no (n := n) ho).2]
  | true =>
    obtain ⟨k1, _, _⟩ := okT_iff.1 ho
    obtain ⟨⟨f0, f1⟩, ⟨t0, t1⟩, hne, _, _⟩ := txB_iff.1 k1
    have hf : x.f.toNat < l.length := by omega
    have ht : x.t.toNat < l.length := by omega
    rw [(ap_yes (n := n) ho).1, (ap_yes (n := n) ho).2, sum_set _ _ _ (by rw [List.length_set]; exact ht), sum_set _ _ _ hf, List.getElem_set_ne (by omega), bal_at hf, bal_at ht]
    omega
/-- A run's balances, fees and outcomes. -/
def rnL : List Int → List Tx → List Int
  | l, [] => l
  | l, x :: xs => rnL (apL l x) xs
def rnF : List Int → Int → List Tx → Int
  | _, n, [] => n
  | l, n, x :: xs => rnF (apL l x) (apF l n x) xs
def rnO : List Int → List Tx → List Bool
  | _, [] => []
  | l, x :: xs => okT l x :: rnO (apL l x) xs
theorem rn_len : ∀ (xs : List Tx) (l : List Int), (rnL l xs).length = l.length ∧ (rnO l xs).length = xs.length
  | [], l => ⟨rfl, rfl⟩
  | x :: xs, l => by
    have := rn_len xs (apL l x)
    exact ⟨by rw [rnL, this.1, ap_len], by rw [rnO, List.length_cons, this.2, List.length_cons]⟩
theorem rn_app : ∀ (xs ys : List Tx) (l : List Int) (n : Int), rnL l (xs ++ ys) = rnL (rnL l xs) ys ∧ rnF l n (xs ++ ys) = rnF (rnL l xs) (rnF l n xs) ys ∧ rnO l (xs ++ ys) = rnO l xs ++ rnO (rnL l xs) ys
  | [], ys, l, n => ⟨rfl, rfl, rfl⟩
  | x :: xs, ys, l, n => by
    obtain ⟨h1, h2, h3⟩ := rn_app xs ys (apL l x) (apF l n x)
    exact ⟨by rw [List.cons_append, rnL, h1, rnL], by rw [List.cons_append, rnF, h2, rnF, rnL], by rw [List.cons_append, rnO, h3, rnO, rnL, List.cons_append]⟩
theorem rn_snoc (xs : List Tx) (x : Tx) (l : List Int) (n : Int) : rnL l (xs ++ [x]) = apL (rnL l xs) x ∧ rnF l n (xs ++ [x]) = apF (rnL l xs) (rnF l n xs) x ∧ rnO l (xs ++ [x]) = rnO l xs ++ [okT (rnL l xs) x] := by
  obtain ⟨h1, h2, h3⟩ := rn_app xs [x] l n
  exact ⟨h1, h2, h3⟩
theorem rn_fee : ∀ (xs : List Tx) (l : List Int) (n : Int), n ≤ rnF l n xs ∧ rnF l n xs ≤ n + 9 * xs.length
  | [], _, _ => by simp [rnF]
  | x :: xs, l, n => by
    have h1 := rn_fee xs (apL l x) (apF l n x)
    have h2 := ap_fee (l := l) (n := n) x
    rw [rnF, List.length_cons]; omega
theorem rn_valid : ∀ (xs : List Tx) (l : List Int) (n : Int), ldB l n = true → n + 9 * xs.length ≤ 5994 → ldB (rnL l xs) (rnF l n xs) = true
  | [], _, _, h, _ => h
  | x :: xs, l, n, h, hn => by
    rw [List.length_cons] at hn
    have h2 := ap_fee (l := l) (n := n) x
    exact rn_valid xs _ _ (ap_valid x h (by omega)) (by omega)
theorem rn_sum : ∀ (xs : List Tx) (l : List Int) (n : Int), l.length = 6 → (rnL l xs).sum + rnF l n xs = l.sum + n
  | [], _, _, _ => rfl
  | x :: xs, l, n, h => by
    have h1 := rn_sum xs (apL l x) (apF l n x) (by rw [ap_len]; exact h)
    rw [rnL, rnF, h1]; exact ap_sum x h
/-- The transactions that succeed. -/
def sucL : List Int → List Tx → List Tx
  | _, [] => []
  | l, x :: xs => if okT l x then x :: sucL (apL l x) xs else sucL l xs
theorem suc_run : ∀ (xs : List Tx) (l : List Int) (n : Int), rnL l (sucL l xs) = rnL l xs ∧ rnF l n (sucL l xs) = rnF l n xs ∧ ∀ b ∈ rnO l (sucL l xs), b = true
  | [], l, n => ⟨rfl, rfl, fun b h => absurd h (by simp [sucL, rnO])⟩
  | x :: xs, l, n => by
    cases ho : okT l x with
    | false =>
      obtain ⟨h1, h2, h3⟩ := suc_run xs l n
      have e : sucL l (x :: xs) = sucL l xs := by rw [sucL, ho]; rfl
      rw [e, rnL, rnF, (ap_no (n := n) ho).1, (ap_no (n := n) ho).2]
      exact ⟨h1, h2, h3⟩
    | true =>
      obtain ⟨h1, h2, h3⟩ := suc_run xs (apL l x) (apF l n x)
      have e : sucL l (x :: xs) = x :: sucL (apL l x) xs := by rw [sucL, ho]; rfl
      rw [e, rnL, rnF, rnO, rnL, rnF]
      refine ⟨h1, h2, fun b hb => ?_⟩
      rcases List.mem_cons.1 hb with hb | hb
      · rw [hb]; exact ho
      · exact h3 b hb
/-- The reverse transaction restores the ledger. -/
theorem ap_back {l : List Int} {n : Int} {x : Tx} (hv : ldB l n = true) (h : okT l x = true) (he : x.e = 0) : okT (apL l x) ⟨x.t, x.f, x.s, 0⟩ = true ∧ apL (apL l x) ⟨x.t, x.f, x.s, 0⟩ = l ∧ apF (apL l x) (apF l n x) ⟨x.t, x.f, x.s, 0⟩ = n := by
  obtain ⟨k1, k2, k3⟩ := okT_iff.1 h
  obtain ⟨⟨f0, f1⟩, ⟨t0, t1⟩, hne, ⟨s0, s1⟩, _⟩ := txB_iff.1 k1
  obtain ⟨_, hl, _, _⟩ := ldB_iff.1 hv
  have hb : ∀ i : Int, 0 ≤ i → i ≤ 5 → bal (apL l x) i = bal l i + dlt x i := by
    intro i h0 h1
    have hi : i.toNat < l.length := by omega
    have := ap_bal h hl hi
    unfold bal
    rw [List.getD, this, List.getD, List.getElem?_eq_getElem hi]
    simp only [Option.getD_some]
    rw [show ((i.toNat : Nat) : Int) = i by omega]
  have bf := hb x.f f0 f1
  have bt := hb x.t t0 t1
  unfold dlt at bf bt
  rw [if_neg hne, if_pos rfl] at bf
  rw [if_pos rfl] at bt
  have bfl := bal_bd (i := x.f) hv
  have btl := bal_bd (i := x.t) hv
  have ho : okT (apL l x) ⟨x.t, x.f, x.s, 0⟩ = true := okT_iff.2 ⟨txB_iff.2 ⟨⟨t0, t1⟩, ⟨f0, f1⟩, fun e => hne e.symm, ⟨s0, s1⟩, by simp, by simp⟩, by simp only; omega, by simp only; omega⟩
  refine ⟨ho, ?_, ?_⟩
  · refine List.ext_getElem? fun i => ?_
    by_cases hi : i < l.length
    · have hi' : i < (apL l x).length := by rw [ap_len]; exact hi
      rw [ap_bal ho (by rw [ap_len]; exact hl) hi', List.getElem?_eq_getElem hi]
      have e1 := ap_bal h hl hi
      rw [List.getElem?_eq_getElem hi'] at e1
      rw [Option.some.inj e1]
      unfold dlt
      simp only [Option.some.injEq]
      by_cases a1 : (i : Int) = x.t
      · rw [if_pos a1, if_neg (by omega), if_pos a1]; omega
      · rw [if_neg a1]
        by_cases a2 : (i : Int) = x.f
        · rw [if_pos a2, if_pos a2]; omega
        · rw [if_neg a2, if_neg a2, if_neg a1]; omega
    · rw [List.getElem?_eq_none (by rw [ap_len, ap_len]; omega), List.getElem?_eq_none (by omega)]
  · rw [(ap_yes ho).2, (ap_yes h).2, he]; simp

end Go.Proofs.Ytfnhafgjdnlhiaa

/- The reference's tests of transactions and of ledgers, each by a walk of its text; condition: the lists are shorter than 2^40. -/
namespace Go.Proofs.Ytfnhafgjdnlhiaa
open Go.RowKit

def agT (x : Tx) : Value := .agg #[.int .i64 x.f, .int .i64 x.t, .int .i64 x.s, .int .i64 x.e]
theorem spec_TxnValid (x : Tx) (w : World) :
    Calls Try.prog 59 #[agT x] w fun e w' => e = .returned (.bool (txB x)) ∧ Below w.heap.size w w' := by
  obtain ⟨f, t, s, e⟩ := x
  have hb0 : Below w.heap.size w (w.alloc (.cells #[.int .i64 f, .int .i64 t, .int .i64 s, .int .i64 e] 41)) := (Below.refl _ _).alloc (Nat.le_refl _) _
  have s0 := Str.new w 41 #[.int .i64 f, .int .i64 t, .int .i64 s, .int .i64 e]
  have k0 := s0.cell 0 (v := .int .i64 f) rfl
  have H0 := Lib.hid (fun W => spec_l6In f 0 5 W)
  have k1 := s0.cell 1 (v := .int .i64 t) rfl
  have H1 := Lib.hid (fun W => spec_l6In t 0 5 W)
  have k2 := s0.cell 2 (v := .int .i64 s) rfl
  have H2 := Lib.hid (fun W => spec_l6In s 1 99 W)
  have k3 := s0.cell 3 (v := .int .i64 e) rfl
  have H3 := Lib.hid (fun W => spec_l6In e 0 9 W)
  have Hb0 := Lib.hid hb0; clear hb0 s0
  have Hres := Lib.hid (show txB ⟨f, t, s, e⟩ = (decide (0 ≤ f ∧ f ≤ 5) && (decide (0 ≤ t ∧ t ≤ 5) && (decide (f ≠ t) && (decide (1 ≤ s ∧ s ≤ 99) && decide (0 ≤ e ∧ e ≤ 9))))) from rfl)
  generalize decide (0 ≤ f ∧ f ≤ 5) = xf at *
  generalize decide (0 ≤ t ∧ t ≤ 5) = xt at *
  generalize decide (1 ≤ s ∧ s ≤ 99) = xs at *
  generalize decide (0 ≤ e ∧ e ≤ 9) = xe at *
  unfold agT
  dsimp only
  go_enter Try.func59, Try.ntmps59
  go_wp2_with fail
  generalize w.alloc (.cells #[.int .i64 f, .int .i64 t, .int .i64 s, .int .i64 e] 41) = W0 at *
  refine (H0.out W0).mono ?_
  rintro e1 w1 ⟨rfl, rfl⟩
  cases xf with
  | false =>
    go_wp2
    go_ret
    exact ⟨ret_bool (by rw [Hres.out]; simp), Hb0.out⟩
  | true =>
  go_wp2_with fail
  refine (H1.out W0).mono ?_
  rintro e1 w1 ⟨rfl, rfl⟩
  cases xt with
  | false =>
    go_wp2
    go_ret
    exact ⟨ret_bool (by rw [Hres.out]; simp), Hb0.out⟩
  | true =>
  by_cases hne : f = t
  case pos =>
    have hn1 : (f == t) = true := by rw [beq_iff_eq]; exact hne
    have hn2 : (f != t) = false := by rw [bne, hn1]; rfl
    have Hne := Lib.hid hne; clear hne
    go_wp2
    go_ret
    exact ⟨ret_bool (by rw [Hres.out, decide_eq_false (show ¬ (f ≠ t) from fun h => h Hne.out)]; rfl), Hb0.out⟩
  have hn1 : (f == t) = false := by rw [beq_eq_false_iff_ne]; exact hne
  have hn2 : (f != t) = true := by rw [bne, hn1]; rfl
  have Hres := Lib.hid (Hres.out.trans (by rw [decide_eq_true (show f ≠ t from hne)]))
  have Hne := Lib.hid hne; clear hne
  go_wp2_with fail
  refine (H2.out W0).mono ?_
  rintro e1 w1 ⟨rfl, rfl⟩
  cases xs with
  | false =>
    go_wp2
    go_ret
    exact ⟨ret_bool (by rw [Hres.out]; simp), Hb0.out⟩
  | true =>
  go_wp2_with fail
  refine (H3.out W0).mono ?_
  rintro e1 w1 ⟨rfl, rfl⟩
  go_wp2
  go_ret
  exact ⟨ret_bool (by rw [Hres.out]; cases xe <;> simp_all), Hb0.out⟩

theorem ldB_bad {l : List Int} {n : Int} {k : Nat} (hk : k < l.length) (h : ¬ (0 ≤ l[k] ∧ l[k] ≤ 999)) : ldB l n = false := by
  cases hv : ldB l n with
  | false => rfl
  | true => exact absurd ((ldB_iff.1 hv).1 _ (List.getElem_mem hk)) h
theorem ldB_end {l : List Int} {n : Int} (h : ∀ j (hj : j < l.length), 0 ≤ l[j] ∧ l[j] ≤ 999) : ldB l n = (decide (l.length = 6) && decide (0 ≤ n ∧ n ≤ 5994)) := by
  have h1 : l.all balB = true := List.all_eq_true.2 fun b hb => by
    obtain ⟨j, hj, rfl⟩ := List.mem_iff_getElem.1 hb
    exact decide_eq_true (h j hj)
  unfold ldB
  rw [h1]; rfl
set_option maxHeartbeats 1000000 in
theorem spec_LedgerValid (a : Option Addr) (cap : Nat) (l : List Int) (n : Int) (w : World) (hbig : l.length ≤ 1099511627776) (hl : IntsAt w a l) :
    Calls Try.prog 53 #[.agg #[.slice a l.length cap, .int .i64 n]] w fun e w' => e = .returned (.bool (ldB l n)) ∧ Below w.heap.size w w' := by
  have hb0 : Below w.heap.size w (w.alloc (.cells #[.slice a l.length cap, .int .i64 n] 25)) := (Below.refl _ _).alloc (Nat.le_refl _) _
  have s0 := Str.new w 25 #[.slice a l.length cap, .int .i64 n]
  have k0 := s0.cell 0 (v := .slice a l.length cap) rfl
  have k1 := s0.cell 1 (v := .int .i64 n) rfl
  have hl0 := hl.below hb0
  have Hb0 := Lib.hid hb0; clear hb0 s0 hl
  have HF := Lib.hid (fun W => spec_l6In n 0 5994 W)
  go_enter Try.func53, Try.ntmps53
  go_wp2
  generalize w.alloc (.cells #[.slice a l.length cap, .int .i64 n] 25) = W0 at *
  go_loop [3] (fun i => ∃ k : Nat, k ≤ l.length ∧ i = .int .i64 k ∧ ∀ j (hj : j < k) (hj' : j < l.length), 0 ≤ l[j] ∧ l[j] ≤ 999) (fun i => l.length - (intOf i).toNat)
  case atStart => exact ⟨0, by omega, rfl, fun j hj => absurd hj (by omega)⟩
  case round =>
    obtain ⟨k, hk, rfl, hg⟩ := hrel
    by_cases hlt : k < l.length
    · rcases hl0 with rfl | ⟨b, off, rfl, hb, hc⟩
      · simp at hlt
      have hcell := hc k hlt
      have Hc := Lib.hid hc; clear hc
      have hlt' : (k : Int) < (l.length : Int) := by omega
      have Hg := Lib.hid hg; clear hg
      by_cases h : 0 ≤ l[k] ∧ l[k] ≤ 999
      · have HI := Lib.hid (fun W => spec_l6In_yes (n := l[k]) (lo := 0) (hi := 999) h W)
        have Hh := Lib.hid (show ∀ j (hj : j < k + 1) (hj' : j < l.length), 0 ≤ l[j] ∧ l[j] ≤ 999 from fun j hj hj' => by rcases Nat.lt_succ_iff_lt_or_eq.1 hj with e | e; exact Hg.out j e hj'; subst e; exact h); clear h
        generalize l[k] = x at *
        go_wp2_with fail
        refine (HI.out _).mono ?_
        rintro e w' ⟨rfl, rfl⟩
        go_wp2
        go_round
        case rel => exact ⟨k + 1, by omega, by go_num, Hh.out⟩
        case measure => simp [intOf]; omega
      · have HI := Lib.hid (fun W => spec_l6In_no (n := l[k]) (lo := 0) (hi := 999) h W)
        have Hz := Lib.hid (ldB_bad (n := n) hlt h); clear h
        generalize l[k] = x at *
        go_wp2_with fail
        refine (HI.out _).mono ?_
        rintro e w' ⟨rfl, rfl⟩
        go_wp2
        go_ret
        exact ⟨ret_bool Hz.out.symm, Hb0.out⟩
    · have hlt' : ¬ (k : Int) < (l.length : Int) := by omega
      have Hz := Lib.hid (ldB_end (n := n) (fun j hj => hg j (by omega) hj)); clear hg
      have HL := Lib.hid hl0; clear hl0
      by_cases h6 : l.length = 6
      · have h61 : ((l.length : Int) == 6) = true := by rw [beq_iff_eq]; omega
        have Hz := Lib.hid (Hz.out.trans (by rw [decide_eq_true h6])); clear h6
        go_wp2_with fail
        refine (HF.out _).mono ?_
        rintro e w' ⟨rfl, rfl⟩
        go_wp2
        go_ret
        exact ⟨ret_bool (by rw [Hz.out]; simp), Hb0.out⟩
      · have h61 : ((l.length : Int) == 6) = false := by rw [beq_eq_false_iff_ne]; omega
        have Hz := Lib.hid (Hz.out.trans (by rw [decide_eq_false h6])); clear h6
        go_wp2
        go_ret
        exact ⟨ret_bool (by rw [Hz.out]; simp), Hb0.out⟩

end Go.Proofs.Ytfnhafgjdnlhiaa

/- The draw of a transaction, by a walk of its text; condition: at most 2^19 picks. -/
namespace Go.Proofs.Ytfnhafgjdnlhiaa
open Go.RowKit

/-- A transaction as it is drawn. -/
def TxS (x : Tx) : Prop := (-1 ≤ x.f ∧ x.f ≤ 6) ∧ (0 ≤ x.t ∧ x.t ≤ 5) ∧ (0 ≤ x.s ∧ x.s ≤ 100) ∧ -1 ≤ x.e ∧ x.e ≤ 10
theorem grown_set {w a : World} {R B : Nat} (h : w.grownBy a (some R)) (hB : w.heap.size ≤ B) (j : Nat) (v : Value) : w.grownBy (a.setCell ⟨B, j, none⟩ v) (some R) := grown_row h (grownBy_set a B j v) (fun g e => by cases e; exact hB)

set_option maxHeartbeats 4000000 in
theorem drawTxn (R p : Nat) (w : World) (hp : p ≤ 900000) (hr : Rdr w R p) (hR : R < w.heap.size) :
    Calls Try.prog 48 #[.pointer (some ⟨R, 0, none⟩)] w fun e w' => ∃ (b : Tx) (p' : Nat), e = .returned (agT b) ∧ TxS b ∧ Rdr w' R p' ∧ p' ≤ p + 9 ∧ w.grownBy w' (some R) := by
  have Hr0 := Lib.hid (hr.alloc (.cells #[.int .i64 0, .int .i64 0, .int .i64 0, .int .i64 0] 41)); clear hr
  have SA := Lib.hid (Str.new w 41 #[.int .i64 0, .int .i64 0, .int .i64 0, .int .i64 0])
  have Hg0 := Lib.hid (World.grownBy_alloc w (.cells #[.int .i64 0, .int .i64 0, .int .i64 0, .int .i64 0] 41) (some R))
  have hz0 : (w.alloc (.cells #[.int .i64 0, .int .i64 0, .int .i64 0, .int .i64 0] 41)).heap.size = w.heap.size + 1 := by simp
  go_enter Try.func48, Try.ntmps48
  have Hr := Hr0; clear Hr0
  have Hg := Hg0; clear Hg0
  go_wp2_with fail
  generalize w.alloc (.cells #[.int .i64 0, .int .i64 0, .int .i64 0, .int .i64 0] 41) = W0 at *
  refine (pick_any R 6 (p) _ (by omega) Hr.out (by omega)).mono ?_
  rintro e w1 ⟨x, rfl, hx0, hx1, hr', hg'⟩
  have hsz' := hg'.size
  have Hr := Lib.hid hr'
  have Hg := Lib.hid (grownBy_trans Hg.out hg')
  have SA := Lib.hid (show Str w1 w.heap.size 41 #[.int .i64 0, .int .i64 0, .int .i64 0, .int .i64 0] from SA.out.kept hg' (by simp; omega))
  clear hr' hg'
  go_wp2_with fail
  refine (pick_any R 6 (p + 1) _ (by omega) Hr.out (by omega)).mono ?_
  rintro e w2 ⟨y, rfl, hy0, hy1, hr', hg'⟩
  have hsz' := hg'.size
  have Hr := Lib.hid hr'
  have Hg := Lib.hid (grownBy_trans Hg.out hg')
  have SA := Lib.hid (show Str w2 w.heap.size 41 #[.int .i64 0, .int .i64 0, .int .i64 0, .int .i64 0] from SA.out.kept hg' (by simp; omega))
  clear hr' hg'
  go_wp2_with fail
  refine (pick_any R 99 (p + 1 + 1) _ (by omega) Hr.out (by omega)).mono ?_
  rintro e w3 ⟨z, rfl, hz0, hz1, hr', hg'⟩
  have hsz' := hg'.size
  have Hr := Lib.hid hr'
  have Hg := Lib.hid (grownBy_trans Hg.out hg')
  have SA := Lib.hid (show Str w3 w.heap.size 41 #[.int .i64 0, .int .i64 0, .int .i64 0, .int .i64 0] from SA.out.kept hg' (by simp; omega))
  clear hr' hg'
  go_wp2_with fail
  refine (pick_any R 10 (p + 1 + 1 + 1) _ (by omega) Hr.out (by omega)).mono ?_
  rintro e w3b ⟨s, rfl, hs0, hs1, hr', hg'⟩
  have hsz' := hg'.size
  have Hr := Lib.hid hr'
  have Hg := Lib.hid (grownBy_trans Hg.out hg')
  have SA := Lib.hid (show Str w3b w.heap.size 41 #[.int .i64 0, .int .i64 0, .int .i64 0, .int .i64 0] from SA.out.kept hg' (by simp; omega))
  clear hr' hg'
  have hw3 : w.heap.size + 1 ≤ w3b.heap.size := by omega
  have hRC : R < w3b.heap.size := by omega
  have hRW : R < w3b.heap.size + 1 := by omega
  by_cases hxy : x = y
  case neg =>
    have Hr := Lib.hid (Hr.out.alloc (.cells #[.int .i64 x, .int .i64 y, .int .i64 (1 + z), .int .i64 s] 41))
    have SC := Lib.hid (Str.new w3b 41 #[.int .i64 x, .int .i64 y, .int .i64 (1 + z), .int .i64 s])
    have SA := Lib.hid (show Str (w3b.alloc (.cells #[.int .i64 x, .int .i64 y, .int .i64 (1 + z), .int .i64 s] 41)) w.heap.size 41 #[.int .i64 0, .int .i64 0, .int .i64 0, .int .i64 0] from SA.out.alloc _)
    have Hg := Lib.hid (grownBy_trans Hg.out (World.grownBy_alloc w3b (.cells #[.int .i64 x, .int .i64 y, .int .i64 (1 + z), .int .i64 s] 41) (some R)))
    have hz3 : (w3b.alloc (.cells #[.int .i64 x, .int .i64 y, .int .i64 (1 + z), .int .i64 s] 41)).heap.size = w3b.heap.size + 1 := by simp
    have hxy1 : (x == y) = false := by rw [beq_eq_false_iff_ne]; exact hxy
    have cx := SC.out.cell 0 (v := .int .i64 x) rfl
    have cy := SC.out.cell 1 (v := .int .i64 y) rfl
    clear hxy
    go_wp2_with fail
    generalize w3b.alloc (.cells #[.int .i64 x, .int .i64 y, .int .i64 (1 + z), .int .i64 s] 41) = W3 at *
    clear cx cy
    refine (pick_any R 30 (p + 1 + 1 + 1 + 1) _ (by omega) Hr.out (by omega)).mono ?_
    rintro e w4 ⟨q, rfl, hq0, hq1, hr', hg'⟩
    have hsz' := hg'.size
    have Hr := Lib.hid hr'
    have Hg := Lib.hid (grownBy_trans Hg.out hg')
    have SA := Lib.hid (show Str w4 w.heap.size 41 #[.int .i64 0, .int .i64 0, .int .i64 0, .int .i64 0] from SA.out.kept hg' (by simp; omega))
    have SC := Lib.hid (show Str w4 w3b.heap.size 41 #[.int .i64 x, .int .i64 y, .int .i64 (1 + z), .int .i64 s] from SC.out.kept hg' (by simp; omega))
    clear hr' hg'
    by_cases h0 : q = 0
    case pos =>
      subst h0
      have cc0 := SC.out.cell 0 (v := .int .i64 (x)) rfl
      have cc1 := SC.out.cell 1 (v := .int .i64 (y)) rfl
      have cc2 := SC.out.cell 2 (v := .int .i64 (1 + z)) rfl
      have cc3 := SC.out.cell 3 (v := .int .i64 (s)) rfl
      have fc := SC.out.frozen 1
      have cc := SC.out.cell 1 (v := .int .i64 (y)) rfl
      have SC := Lib.hid (show Str (w4.setCell ⟨w3b.heap.size, 1, none⟩ (.int .i64 (x))) w3b.heap.size 41 #[.int .i64 (x), .int .i64 (x), .int .i64 (1 + z), .int .i64 (s)] from SC.out.set 1 _)
      have SA := Lib.hid (show Str (w4.setCell ⟨w3b.heap.size, 1, none⟩ (.int .i64 (x))) w.heap.size 41 #[.int .i64 0, .int .i64 0, .int .i64 0, .int .i64 0] from SA.out.other (by omega) _ _)
      have Hr := Lib.hid (Hr.out.kept (grownBy_set w4 w3b.heap.size 1 (.int .i64 (x))) (fun g e => by cases e; omega))
      have Hg := Lib.hid (grown_set Hg.out (B := w3b.heap.size) (by omega) 1 (.int .i64 (x)))
      clear cc1
      have a0 := SA.out.cell 0 (v := .int .i64 0) rfl
      have f0 := SA.out.frozen 0
      have a1 := SA.out.cell 1 (v := .int .i64 0) rfl
      have f1 := SA.out.frozen 1
      have a2 := SA.out.cell 2 (v := .int .i64 0) rfl
      have f2 := SA.out.frozen 2
      have a3 := SA.out.cell 3 (v := .int .i64 0) rfl
      have f3 := SA.out.frozen 3
      have c0 := SC.out.cell 0 (v := .int .i64 (x)) rfl
      have c1 := SC.out.cell 1 (v := .int .i64 (x)) rfl
      have c2 := SC.out.cell 2 (v := .int .i64 (1 + z)) rfl
      have c3 := SC.out.cell 3 (v := .int .i64 (s)) rfl
      have sF := ((((SA.out.set 0 (.int .i64 (x))).set 1 (.int .i64 (x))).set 2 (.int .i64 (1 + z))).set 3 (.int .i64 (s)))
      have e0 := sF.cell 0 (v := .int .i64 (x)) rfl
      have e1 := sF.cell 1 (v := .int .i64 (x)) rfl
      have e2 := sF.cell 2 (v := .int .i64 (1 + z)) rfl
      have e3 := sF.cell 3 (v := .int .i64 (s)) rfl
      clear sF
      go_wp2
      refine bodyPost_ret (v := .agg #[.int .i64 (x), .int .i64 (x), .int .i64 (1 + z), .int .i64 (s)]) (by simp [results, Try.f48, go_sem, e0, e1, e2, e3]) rfl ?_
      exact ⟨⟨x, x, 1 + z, s⟩, _, rfl, (by unfold TxS; simp only; omega), ((((Hr.out.kept (grownBy_set _ w.heap.size 0 _) (fun g e => by cases e; omega)).kept (grownBy_set _ w.heap.size 1 _) (fun g e => by cases e; omega)).kept (grownBy_set _ w.heap.size 2 _) (fun g e => by cases e; omega)).kept (grownBy_set _ w.heap.size 3 _) (fun g e => by cases e; omega)), by omega, (grown_set (grown_set (grown_set (grown_set Hg.out (Nat.le_refl _) _ _) (Nat.le_refl _) _ _) (Nat.le_refl _) _ _) (Nat.le_refl _) _ _)⟩
    have h0' : (q == 0) = false := by rw [beq_eq_false_iff_ne]; exact h0
    by_cases h1 : q = 1
    case pos =>
      subst h1
      go_wp2_with fail
      refine (pick_any R 2 (p + 1 + 1 + 1 + 1 + 1) _ (by omega) Hr.out (by omega)).mono ?_
      rintro e w5 ⟨u, rfl, hu0, hu1, hr', hg'⟩
      have hsz' := hg'.size
      have Hr := Lib.hid hr'
      have Hg := Lib.hid (grownBy_trans Hg.out hg')
      have SA := Lib.hid (show Str w5 w.heap.size 41 #[.int .i64 0, .int .i64 0, .int .i64 0, .int .i64 0] from SA.out.kept hg' (by simp; omega))
      have SC := Lib.hid (show Str w5 w3b.heap.size 41 #[.int .i64 (x), .int .i64 (y), .int .i64 (1 + z), .int .i64 (s)] from SC.out.kept hg' (by simp; omega))
      clear hr' hg'
      have fc := SC.out.frozen 2
      have cc := SC.out.cell 2 (v := .int .i64 (1 + z)) rfl
      have SC := Lib.hid (show Str (w5.setCell ⟨w3b.heap.size, 2, none⟩ (.int .i64 (u * 100))) w3b.heap.size 41 #[.int .i64 (x), .int .i64 (y), .int .i64 (u * 100), .int .i64 (s)] from SC.out.set 2 _)
      have SA := Lib.hid (show Str (w5.setCell ⟨w3b.heap.size, 2, none⟩ (.int .i64 (u * 100))) w.heap.size 41 #[.int .i64 0, .int .i64 0, .int .i64 0, .int .i64 0] from SA.out.other (by omega) _ _)
      have Hr := Lib.hid (Hr.out.kept (grownBy_set w5 w3b.heap.size 2 (.int .i64 (u * 100))) (fun g e => by cases e; omega))
      have Hg := Lib.hid (grown_set Hg.out (B := w3b.heap.size) (by omega) 2 (.int .i64 (u * 100)))
      have a0 := SA.out.cell 0 (v := .int .i64 0) rfl
      have f0 := SA.out.frozen 0
      have a1 := SA.out.cell 1 (v := .int .i64 0) rfl
      have f1 := SA.out.frozen 1
      have a2 := SA.out.cell 2 (v := .int .i64 0) rfl
      have f2 := SA.out.frozen 2
      have a3 := SA.out.cell 3 (v := .int .i64 0) rfl
      have f3 := SA.out.frozen 3
      have c0 := SC.out.cell 0 (v := .int .i64 (x)) rfl
      have c1 := SC.out.cell 1 (v := .int .i64 (y)) rfl
      have c2 := SC.out.cell 2 (v := .int .i64 (u * 100)) rfl
      have c3 := SC.out.cell 3 (v := .int .i64 (s)) rfl
      have sF := ((((SA.out.set 0 (.int .i64 (x))).set 1 (.int .i64 (y))).set 2 (.int .i64 (u * 100))).set 3 (.int .i64 (s)))
      have e0 := sF.cell 0 (v := .int .i64 (x)) rfl
      have e1 := sF.cell 1 (v := .int .i64 (y)) rfl
      have e2 := sF.cell 2 (v := .int .i64 (u * 100)) rfl
      have e3 := sF.cell 3 (v := .int .i64 (s)) rfl
      clear sF
      go_wp2
      refine bodyPost_ret (v := .agg #[.int .i64 (x), .int .i64 (y), .int .i64 (u * 100), .int .i64 (s)]) (by simp [results, Try.f48, go_sem, e0, e1, e2, e3]) rfl ?_
      exact ⟨⟨x, y, u * 100, s⟩, _, rfl, (by unfold TxS; simp only; omega), ((((Hr.out.kept (grownBy_set _ w.heap.size 0 _) (fun g e => by cases e; omega)).kept (grownBy_set _ w.heap.size 1 _) (fun g e => by cases e; omega)).kept (grownBy_set _ w.heap.size 2 _) (fun g e => by cases e; omega)).kept (grownBy_set _ w.heap.size 3 _) (fun g e => by cases e; omega)), by omega, (grown_set (grown_set (grown_set (grown_set Hg.out (Nat.le_refl _) _ _) (Nat.le_refl _) _ _) (Nat.le_refl _) _ _) (Nat.le_refl _) _ _)⟩
    have h1' : (q == 1) = false := by rw [beq_eq_false_iff_ne]; exact h1
    by_cases h2 : q = 2
    case pos =>
      subst h2
      go_wp2_with fail
      refine (pick_any R 2 (p + 1 + 1 + 1 + 1 + 1) _ (by omega) Hr.out (by omega)).mono ?_
      rintro e w5 ⟨u, rfl, hu0, hu1, hr', hg'⟩
      have hsz' := hg'.size
      have Hr := Lib.hid hr'
      have Hg := Lib.hid (grownBy_trans Hg.out hg')
      have SA := Lib.hid (show Str w5 w.heap.size 41 #[.int .i64 0, .int .i64 0, .int .i64 0, .int .i64 0] from SA.out.kept hg' (by simp; omega))
      have SC := Lib.hid (show Str w5 w3b.heap.size 41 #[.int .i64 (x), .int .i64 (y), .int .i64 (1 + z), .int .i64 (s)] from SC.out.kept hg' (by simp; omega))
      clear hr' hg'
      have fc := SC.out.frozen 3
      have cc := SC.out.cell 3 (v := .int .i64 (s)) rfl
      have SC := Lib.hid (show Str (w5.setCell ⟨w3b.heap.size, 3, none⟩ (.int .i64 (u * 11 - 1))) w3b.heap.size 41 #[.int .i64 (x), .int .i64 (y), .int .i64 (1 + z), .int .i64 (u * 11 - 1)] from SC.out.set 3 _)
      have SA := Lib.hid (show Str (w5.setCell ⟨w3b.heap.size, 3, none⟩ (.int .i64 (u * 11 - 1))) w.heap.size 41 #[.int .i64 0, .int .i64 0, .int .i64 0, .int .i64 0] from SA.out.other (by omega) _ _)
      have Hr := Lib.hid (Hr.out.kept (grownBy_set w5 w3b.heap.size 3 (.int .i64 (u * 11 - 1))) (fun g e => by cases e; omega))
      have Hg := Lib.hid (grown_set Hg.out (B := w3b.heap.size) (by omega) 3 (.int .i64 (u * 11 - 1)))
      have a0 := SA.out.cell 0 (v := .int .i64 0) rfl
      have f0 := SA.out.frozen 0
      have a1 := SA.out.cell 1 (v := .int .i64 0) rfl
      have f1 := SA.out.frozen 1
      have a2 := SA.out.cell 2 (v := .int .i64 0) rfl
      have f2 := SA.out.frozen 2
      have a3 := SA.out.cell 3 (v := .int .i64 0) rfl
      have f3 := SA.out.frozen 3
      have c0 := SC.out.cell 0 (v := .int .i64 (x)) rfl
      have c1 := SC.out.cell 1 (v := .int .i64 (y)) rfl
      have c2 := SC.out.cell 2 (v := .int .i64 (1 + z)) rfl
      have c3 := SC.out.cell 3 (v := .int .i64 (u * 11 - 1)) rfl
      have sF := ((((SA.out.set 0 (.int .i64 (x))).set 1 (.int .i64 (y))).set 2 (.int .i64 (1 + z))).set 3 (.int .i64 (u * 11 - 1)))
      have e0 := sF.cell 0 (v := .int .i64 (x)) rfl
      have e1 := sF.cell 1 (v := .int .i64 (y)) rfl
      have e2 := sF.cell 2 (v := .int .i64 (1 + z)) rfl
      have e3 := sF.cell 3 (v := .int .i64 (u * 11 - 1)) rfl
      clear sF
      go_wp2
      refine bodyPost_ret (v := .agg #[.int .i64 (x), .int .i64 (y), .int .i64 (1 + z), .int .i64 (u * 11 - 1)]) (by simp [results, Try.f48, go_sem, e0, e1, e2, e3]) rfl ?_
      exact ⟨⟨x, y, 1 + z, u * 11 - 1⟩, _, rfl, (by unfold TxS; simp only; omega), ((((Hr.out.kept (grownBy_set _ w.heap.size 0 _) (fun g e => by cases e; omega)).kept (grownBy_set _ w.heap.size 1 _) (fun g e => by cases e; omega)).kept (grownBy_set _ w.heap.size 2 _) (fun g e => by cases e; omega)).kept (grownBy_set _ w.heap.size 3 _) (fun g e => by cases e; omega)), by omega, (grown_set (grown_set (grown_set (grown_set Hg.out (Nat.le_refl _) _ _) (Nat.le_refl _) _ _) (Nat.le_refl _) _ _) (Nat.le_refl _) _ _)⟩
    have h2' : (q == 2) = false := by rw [beq_eq_false_iff_ne]; exact h2
    by_cases h3 : q = 3
    case pos =>
      subst h3
      go_wp2_with fail
      refine (pick_any R 2 (p + 1 + 1 + 1 + 1 + 1) _ (by omega) Hr.out (by omega)).mono ?_
      rintro e w5 ⟨u, rfl, hu0, hu1, hr', hg'⟩
      have hsz' := hg'.size
      have Hr := Lib.hid hr'
      have Hg := Lib.hid (grownBy_trans Hg.out hg')
      have SA := Lib.hid (show Str w5 w.heap.size 41 #[.int .i64 0, .int .i64 0, .int .i64 0, .int .i64 0] from SA.out.kept hg' (by simp; omega))
      have SC := Lib.hid (show Str w5 w3b.heap.size 41 #[.int .i64 (x), .int .i64 (y), .int .i64 (1 + z), .int .i64 (s)] from SC.out.kept hg' (by simp; omega))
      clear hr' hg'
      have fc := SC.out.frozen 0
      have cc := SC.out.cell 0 (v := .int .i64 (x)) rfl
      have SC := Lib.hid (show Str (w5.setCell ⟨w3b.heap.size, 0, none⟩ (.int .i64 (u * 7 - 1))) w3b.heap.size 41 #[.int .i64 (u * 7 - 1), .int .i64 (y), .int .i64 (1 + z), .int .i64 (s)] from SC.out.set 0 _)
      have SA := Lib.hid (show Str (w5.setCell ⟨w3b.heap.size, 0, none⟩ (.int .i64 (u * 7 - 1))) w.heap.size 41 #[.int .i64 0, .int .i64 0, .int .i64 0, .int .i64 0] from SA.out.other (by omega) _ _)
      have Hr := Lib.hid (Hr.out.kept (grownBy_set w5 w3b.heap.size 0 (.int .i64 (u * 7 - 1))) (fun g e => by cases e; omega))
      have Hg := Lib.hid (grown_set Hg.out (B := w3b.heap.size) (by omega) 0 (.int .i64 (u * 7 - 1)))
      have a0 := SA.out.cell 0 (v := .int .i64 0) rfl
      have f0 := SA.out.frozen 0
      have a1 := SA.out.cell 1 (v := .int .i64 0) rfl
      have f1 := SA.out.frozen 1
      have a2 := SA.out.cell 2 (v := .int .i64 0) rfl
      have f2 := SA.out.frozen 2
      have a3 := SA.out.cell 3 (v := .int .i64 0) rfl
      have f3 := SA.out.frozen 3
      have c0 := SC.out.cell 0 (v := .int .i64 (u * 7 - 1)) rfl
      have c1 := SC.out.cell 1 (v := .int .i64 (y)) rfl
      have c2 := SC.out.cell 2 (v := .int .i64 (1 + z)) rfl
      have c3 := SC.out.cell 3 (v := .int .i64 (s)) rfl
      have sF := ((((SA.out.set 0 (.int .i64 (u * 7 - 1))).set 1 (.int .i64 (y))).set 2 (.int .i64 (1 + z))).set 3 (.int .i64 (s)))
      have e0 := sF.cell 0 (v := .int .i64 (u * 7 - 1)) rfl
      have e1 := sF.cell 1 (v := .int .i64 (y)) rfl
      have e2 := sF.cell 2 (v := .int .i64 (1 + z)) rfl
      have e3 := sF.cell 3 (v := .int .i64 (s)) rfl
      clear sF
      go_wp2
      refine bodyPost_ret (v := .agg #[.int .i64 (u * 7 - 1), .int .i64 (y), .int .i64 (1 + z), .int .i64 (s)]) (by simp [results, Try.f48, go_sem, e0, e1, e2, e3]) rfl ?_
      exact ⟨⟨u * 7 - 1, y, 1 + z, s⟩, _, rfl, (by unfold TxS; simp only; omega), ((((Hr.out.kept (grownBy_set _ w.heap.size 0 _) (fun g e => by cases e; omega)).kept (grownBy_set _ w.heap.size 1 _) (fun g e => by cases e; omega)).kept (grownBy_set _ w.heap.size 2 _) (fun g e => by cases e; omega)).kept (grownBy_set _ w.heap.size 3 _) (fun g e => by cases e; omega)), by omega, (grown_set (grown_set (grown_set (grown_set Hg.out (Nat.le_refl _) _ _) (Nat.le_refl _) _ _) (Nat.le_refl _) _ _) (Nat.le_refl _) _ _)⟩
    have h3' : (q == 3) = false := by rw [beq_eq_false_iff_ne]; exact h3
    have a0 := SA.out.cell 0 (v := .int .i64 0) rfl
    have f0 := SA.out.frozen 0
    have a1 := SA.out.cell 1 (v := .int .i64 0) rfl
    have f1 := SA.out.frozen 1
    have a2 := SA.out.cell 2 (v := .int .i64 0) rfl
    have f2 := SA.out.frozen 2
    have a3 := SA.out.cell 3 (v := .int .i64 0) rfl
    have f3 := SA.out.frozen 3
    have c0 := SC.out.cell 0 (v := .int .i64 (x)) rfl
    have c1 := SC.out.cell 1 (v := .int .i64 (y)) rfl
    have c2 := SC.out.cell 2 (v := .int .i64 (1 + z)) rfl
    have c3 := SC.out.cell 3 (v := .int .i64 (s)) rfl
    have sF := ((((SA.out.set 0 (.int .i64 (x))).set 1 (.int .i64 (y))).set 2 (.int .i64 (1 + z))).set 3 (.int .i64 (s)))
    have e0 := sF.cell 0 (v := .int .i64 (x)) rfl
    have e1 := sF.cell 1 (v := .int .i64 (y)) rfl
    have e2 := sF.cell 2 (v := .int .i64 (1 + z)) rfl
    have e3 := sF.cell 3 (v := .int .i64 (s)) rfl
    clear sF
    go_wp2
    refine bodyPost_ret (v := .agg #[.int .i64 (x), .int .i64 (y), .int .i64 (1 + z), .int .i64 (s)]) (by simp [results, Try.f48, go_sem, e0, e1, e2, e3]) rfl ?_
    exact ⟨⟨x, y, 1 + z, s⟩, _, rfl, (by unfold TxS; simp only; omega), ((((Hr.out.kept (grownBy_set _ w.heap.size 0 _) (fun g e => by cases e; omega)).kept (grownBy_set _ w.heap.size 1 _) (fun g e => by cases e; omega)).kept (grownBy_set _ w.heap.size 2 _) (fun g e => by cases e; omega)).kept (grownBy_set _ w.heap.size 3 _) (fun g e => by cases e; omega)), by omega, (grown_set (grown_set (grown_set (grown_set Hg.out (Nat.le_refl _) _ _) (Nat.le_refl _) _ _) (Nat.le_refl _) _ _) (Nat.le_refl _) _ _)⟩
  subst hxy
  have hxy1 : (x == x) = true := by simp
  obtain ⟨Y, hY⟩ : ∃ Y, Y = (x + 1) % 6 := ⟨_, rfl⟩
  have hY0 : 0 ≤ Y ∧ Y ≤ 5 := by omega
  have hYt : (x + 1).tmod 6 = Y := by rw [Int.tmod_eq_emod_of_nonneg (by omega)]; exact hY.symm
  have hYm : (x + 1) % 6 = Y := hY.symm
  have HY := Lib.hid hY; clear hY
  have sT := Str.new w3b 41 #[.int .i64 x, .int .i64 x, .int .i64 (1 + z), .int .i64 s]
  have cx := sT.cell 0 (v := .int .i64 x) rfl
  have cy := sT.cell 1 (v := .int .i64 x) rfl
  have fc := sT.frozen 1
  clear sT
  have Hr := Lib.hid (Hr.out.alloc (.cells #[.int .i64 x, .int .i64 Y, .int .i64 (1 + z), .int .i64 s] 41))
  have SC := Lib.hid (Str.new w3b 41 #[.int .i64 x, .int .i64 Y, .int .i64 (1 + z), .int .i64 s])
  have SA := Lib.hid (show Str (w3b.alloc (.cells #[.int .i64 x, .int .i64 Y, .int .i64 (1 + z), .int .i64 s] 41)) w.heap.size 41 #[.int .i64 0, .int .i64 0, .int .i64 0, .int .i64 0] from SA.out.alloc _)
  have Hg := Lib.hid (grownBy_trans Hg.out (World.grownBy_alloc w3b (.cells #[.int .i64 x, .int .i64 Y, .int .i64 (1 + z), .int .i64 s] 41) (some R)))
  have hz3 : (w3b.alloc (.cells #[.int .i64 x, .int .i64 Y, .int .i64 (1 + z), .int .i64 s] 41)).heap.size = w3b.heap.size + 1 := by simp
  go_wp2_with fail
  generalize (w3b.alloc (.cells #[.int .i64 x, .int .i64 Y, .int .i64 (1 + z), .int .i64 s] 41)) = W3 at *
  clear cx cy fc
  refine (pick_any R 30 (p + 1 + 1 + 1 + 1) _ (by omega) Hr.out (by omega)).mono ?_
  rintro e w4 ⟨q, rfl, hq0, hq1, hr', hg'⟩
  have hsz' := hg'.size
  have Hr := Lib.hid hr'
  have Hg := Lib.hid (grownBy_trans Hg.out hg')
  have SA := Lib.hid (show Str w4 w.heap.size 41 #[.int .i64 0, .int .i64 0, .int .i64 0, .int .i64 0] from SA.out.kept hg' (by simp; omega))
  have SC := Lib.hid (show Str w4 w3b.heap.size 41 #[.int .i64 x, .int .i64 Y, .int .i64 (1 + z), .int .i64 s] from SC.out.kept hg' (by simp; omega))
  clear hr' hg'
  by_cases h0 : q = 0
  case pos =>
    subst h0
    have cc0 := SC.out.cell 0 (v := .int .i64 (x)) rfl
    have cc1 := SC.out.cell 1 (v := .int .i64 (Y)) rfl
    have cc2 := SC.out.cell 2 (v := .int .i64 (1 + z)) rfl
    have cc3 := SC.out.cell 3 (v := .int .i64 (s)) rfl
    have fc := SC.out.frozen 1
    have cc := SC.out.cell 1 (v := .int .i64 (Y)) rfl
    have SC := Lib.hid (show Str (w4.setCell ⟨w3b.heap.size, 1, none⟩ (.int .i64 (x))) w3b.heap.size 41 #[.int .i64 (x), .int .i64 (x), .int .i64 (1 + z), .int .i64 (s)] from SC.out.set 1 _)
    have SA := Lib.hid (show Str (w4.setCell ⟨w3b.heap.size, 1, none⟩ (.int .i64 (x))) w.heap.size 41 #[.int .i64 0, .int .i64 0, .int .i64 0, .int .i64 0] from SA.out.other (by omega) _ _)
    have Hr := Lib.hid (Hr.out.kept (grownBy_set w4 w3b.heap.size 1 (.int .i64 (x))) (fun g e => by cases e; omega))
    have Hg := Lib.hid (grown_set Hg.out (B := w3b.heap.size) (by omega) 1 (.int .i64 (x)))
    clear cc1
    have a0 := SA.out.cell 0 (v := .int .i64 0) rfl
    have f0 := SA.out.frozen 0
    have a1 := SA.out.cell 1 (v := .int .i64 0) rfl
    have f1 := SA.out.frozen 1
    have a2 := SA.out.cell 2 (v := .int .i64 0) rfl
    have f2 := SA.out.frozen 2
    have a3 := SA.out.cell 3 (v := .int .i64 0) rfl
    have f3 := SA.out.frozen 3
    have c0 := SC.out.cell 0 (v := .int .i64 (x)) rfl
    have c1 := SC.out.cell 1 (v := .int .i64 (x)) rfl
    have c2 := SC.out.cell 2 (v := .int .i64 (1 + z)) rfl
    have c3 := SC.out.cell 3 (v := .int .i64 (s)) rfl
    have sF := ((((SA.out.set 0 (.int .i64 (x))).set 1 (.int .i64 (x))).set 2 (.int .i64 (1 + z))).set 3 (.int .i64 (s)))
    have e0 := sF.cell 0 (v := .int .i64 (x)) rfl
    have e1 := sF.cell 1 (v := .int .i64 (x)) rfl
    have e2 := sF.cell 2 (v := .int .i64 (1 + z)) rfl
    have e3 := sF.cell 3 (v := .int .i64 (s)) rfl
    clear sF
    go_wp2
    refine bodyPost_ret (v := .agg #[.int .i64 (x), .int .i64 (x), .int .i64 (1 + z), .int .i64 (s)]) (by simp [results, Try.f48, go_sem, e0, e1, e2, e3]) rfl ?_
    exact ⟨⟨x, x, 1 + z, s⟩, _, rfl, (by unfold TxS; simp only; omega), ((((Hr.out.kept (grownBy_set _ w.heap.size 0 _) (fun g e => by cases e; omega)).kept (grownBy_set _ w.heap.size 1 _) (fun g e => by cases e; omega)).kept (grownBy_set _ w.heap.size 2 _) (fun g e => by cases e; omega)).kept (grownBy_set _ w.heap.size 3 _) (fun g e => by cases e; omega)), by omega, (grown_set (grown_set (grown_set (grown_set Hg.out (Nat.le_refl _) _ _) (Nat.le_refl _) _ _) (Nat.le_refl _) _ _) (Nat.le_refl _) _ _)⟩
  have h0' : (q == 0) = false := by rw [beq_eq_false_iff_ne]; exact h0
  by_cases h1 : q = 1
  case pos =>
    subst h1
    go_wp2_with fail
    refine (pick_any R 2 (p + 1 + 1 + 1 + 1 + 1) _ (by omega) Hr.out (by omega)).mono ?_
    rintro e w5 ⟨u, rfl, hu0, hu1, hr', hg'⟩
    have hsz' := hg'.size
    have Hr := Lib.hid hr'
    have Hg := Lib.hid (grownBy_trans Hg.out hg')
    have SA := Lib.hid (show Str w5 w.heap.size 41 #[.int .i64 0, .int .i64 0, .int .i64 0, .int .i64 0] from SA.out.kept hg' (by simp; omega))
    have SC := Lib.hid (show Str w5 w3b.heap.size 41 #[.int .i64 (x), .int .i64 (Y), .int .i64 (1 + z), .int .i64 (s)] from SC.out.kept hg' (by simp; omega))
    clear hr' hg'
    have fc := SC.out.frozen 2
    have cc := SC.out.cell 2 (v := .int .i64 (1 + z)) rfl
    have SC := Lib.hid (show Str (w5.setCell ⟨w3b.heap.size, 2, none⟩ (.int .i64 (u * 100))) w3b.heap.size 41 #[.int .i64 (x), .int .i64 (Y), .int .i64 (u * 100), .int .i64 (s)] from SC.out.set 2 _)
    have SA := Lib.hid (show Str (w5.setCell ⟨w3b.heap.size, 2, none⟩ (.int .i64 (u * 100))) w.heap.size 41 #[.int .i64 0, .int .i64 0, .int .i64 0, .int .i64 0] from SA.out.other (by omega) _ _)
    have Hr := Lib.hid (Hr.out.kept (grownBy_set w5 w3b.heap.size 2 (.int .i64 (u * 100))) (fun g e => by cases e; omega))
    have Hg := Lib.hid (grown_set Hg.out (B := w3b.heap.size) (by omega) 2 (.int .i64 (u * 100)))
    have a0 := SA.out.cell 0 (v := .int .i64 0) rfl
    have f0 := SA.out.frozen 0
    have a1 := SA.out.cell 1 (v := .int .i64 0) rfl
    have f1 := SA.out.frozen 1
    have a2 := SA.out.cell 2 (v := .int .i64 0) rfl
    have f2 := SA.out.frozen 2
    have a3 := SA.out.cell 3 (v := .int .i64 0) rfl
    have f3 := SA.out.frozen 3
    have c0 := SC.out.cell 0 (v := .int .i64 (x)) rfl
    have c1 := SC.out.cell 1 (v := .int .i64 (Y)) rfl
    have c2 := SC.out.cell 2 (v := .int .i64 (u * 100)) rfl
    have c3 := SC.out.cell 3 (v := .int .i64 (s)) rfl
    have sF := ((((SA.out.set 0 (.int .i64 (x))).set 1 (.int .i64 (Y))).set 2 (.int .i64 (u * 100))).set 3 (.int .i64 (s)))
    have e0 := sF.cell 0 (v := .int .i64 (x)) rfl
    have e1 := sF.cell 1 (v := .int .i64 (Y)) rfl
    have e2 := sF.cell 2 (v := .int .i64 (u * 100)) rfl
    have e3 := sF.cell 3 (v := .int .i64 (s)) rfl
    clear sF
    go_wp2
    refine bodyPost_ret (v := .agg #[.int .i64 (x), .int .i64 (Y), .int .i64 (u * 100), .int .i64 (s)]) (by simp [results, Try.f48, go_sem, e0, e1, e2, e3]) rfl ?_
    exact ⟨⟨x, Y, u * 100, s⟩, _, rfl, (by unfold TxS; simp only; omega), ((((Hr.out.kept (grownBy_set _ w.heap.size 0 _) (fun g e => by cases e; omega)).kept (grownBy_set _ w.heap.size 1 _) (fun g e => by cases e; omega)).kept (grownBy_set _ w.heap.size 2 _) (fun g e => by cases e; omega)).kept (grownBy_set _ w.heap.size 3 _) (fun g e => by cases e; omega)), by omega, (grown_set (grown_set (grown_set (grown_set Hg.out (Nat.le_refl _) _ _) (Nat.le_refl _) _ _) (Nat.le_refl _) _ _) (Nat.le_refl _) _ _)⟩
  have h1' : (q == 1) = false := by rw [beq_eq_false_iff_ne]; exact h1
  by_cases h2 : q = 2
  case pos =>
    subst h2
    go_wp2_with fail
    refine (pick_any R 2 (p + 1 + 1 + 1 + 1 + 1) _ (by omega) Hr.out (by omega)).mono ?_
    rintro e w5 ⟨u, rfl, hu0, hu1, hr', hg'⟩
    have hsz' := hg'.size
    have Hr := Lib.hid hr'
    have Hg := Lib.hid (grownBy_trans Hg.out hg')
    have SA := Lib.hid (show Str w5 w.heap.size 41 #[.int .i64 0, .int .i64 0, .int .i64 0, .int .i64 0] from SA.out.kept hg' (by simp; omega))
    have SC := Lib.hid (show Str w5 w3b.heap.size 41 #[.int .i64 (x), .int .i64 (Y), .int .i64 (1 + z), .int .i64 (s)] from SC.out.kept hg' (by simp; omega))
    clear hr' hg'
    have fc := SC.out.frozen 3
    have cc := SC.out.cell 3 (v := .int .i64 (s)) rfl
    have SC := Lib.hid (show Str (w5.setCell ⟨w3b.heap.size, 3, none⟩ (.int .i64 (u * 11 - 1))) w3b.heap.size 41 #[.int .i64 (x), .int .i64 (Y), .int .i64 (1 + z), .int .i64 (u * 11 - 1)] from SC.out.set 3 _)
    have SA := Lib.hid (show Str (w5.setCell ⟨w3b.heap.size, 3, none⟩ (.int .i64 (u * 11 - 1))) w.heap.size 41 #[.int .i64 0, .int .i64 0, .int .i64 0, .int .i64 0] from SA.out.other (by omega) _ _)
    have Hr := Lib.hid (Hr.out.kept (grownBy_set w5 w3b.heap.size 3 (.int .i64 (u * 11 - 1))) (fun g e => by cases e; omega))
    have Hg := Lib.hid (grown_set Hg.out (B := w3b.heap.size) (by omega) 3 (.int .i64 (u * 11 - 1)))
    have a0 := SA.out.cell 0 (v := .int .i64 0) rfl
    have f0 := SA.out.frozen 0
    have a1 := SA.out.cell 1 (v := .int .i64 0) rfl
    have f1 := SA.out.frozen 1
    have a2 := SA.out.cell 2 (v := .int .i64 0) rfl
    have f2 := SA.out.frozen 2
    have a3 := SA.out.cell 3 (v := .int .i64 0) rfl
    have f3 := SA.out.frozen 3
    have c0 := SC.out.cell 0 (v := .int .i64 (x)) rfl
    have c1 := SC.out.cell 1 (v := .int .i64 (Y)) rfl
    have c2 := SC.out.cell 2 (v := .int .i64 (1 + z)) rfl
    have c3 := SC.out.cell 3 (v := .int .i64 (u * 11 - 1)) rfl
    have sF := ((((SA.out.set 0 (.int .i64 (x))).set 1 (.int .i64 (Y))).set 2 (.int .i64 (1 + z))).set 3 (.int .i64 (u * 11 - 1)))
    have e0 := sF.cell 0 (v := .int .i64 (x)) rfl
    have e1 := sF.cell 1 (v := .int .i64 (Y)) rfl
    have e2 := sF.cell 2 (v := .int .i64 (1 + z)) rfl
    have e3 := sF.cell 3 (v := .int .i64 (u * 11 - 1)) rfl
    clear sF
    go_wp2
    refine bodyPost_ret (v := .agg #[.int .i64 (x), .int .i64 (Y), .int .i64 (1 + z), .int .i64 (u * 11 - 1)]) (by simp [results, Try.f48, go_sem, e0, e1, e2, e3]) rfl ?_
    exact ⟨⟨x, Y, 1 + z, u * 11 - 1⟩, _, rfl, (by unfold TxS; simp only; omega), ((((Hr.out.kept (grownBy_set _ w.heap.size 0 _) (fun g e => by cases e; omega)).kept (grownBy_set _ w.heap.size 1 _) (fun g e => by cases e; omega)).kept (grownBy_set _ w.heap.size 2 _) (fun g e => by cases e; omega)).kept (grownBy_set _ w.heap.size 3 _) (fun g e => by cases e; omega)), by omega, (grown_set (grown_set (grown_set (grown_set Hg.out (Nat.le_refl _) _ _) (Nat.le_refl _) _ _) (Nat.le_refl _) _ _) (Nat.le_refl _) _ _)⟩
  have h2' : (q == 2) = false := by rw [beq_eq_false_iff_ne]; exact h2
  by_cases h3 : q = 3
  case pos =>
    subst h3
    go_wp2_with fail
    refine (pick_any R 2 (p + 1 + 1 + 1 + 1 + 1) _ (by omega) Hr.out (by omega)).mono ?_
    rintro e w5 ⟨u, rfl, hu0, hu1, hr', hg'⟩
    have hsz' := hg'.size
    have Hr := Lib.hid hr'
    have Hg := Lib.hid (grownBy_trans Hg.out hg')
    have SA := Lib.hid (show Str w5 w.heap.size 41 #[.int .i64 0, .int .i64 0, .int .i64 0, .int .i64 0] from SA.out.kept hg' (by simp; omega))
    have SC := Lib.hid (show Str w5 w3b.heap.size 41 #[.int .i64 (x), .int .i64 (Y), .int .i64 (1 + z), .int .i64 (s)] from SC.out.kept hg' (by simp; omega))
    clear hr' hg'
    have fc := SC.out.frozen 0
    have cc := SC.out.cell 0 (v := .int .i64 (x)) rfl
    have SC := Lib.hid (show Str (w5.setCell ⟨w3b.heap.size, 0, none⟩ (.int .i64 (u * 7 - 1))) w3b.heap.size 41 #[.int .i64 (u * 7 - 1), .int .i64 (Y), .int .i64 (1 + z), .int .i64 (s)] from SC.out.set 0 _)
    have SA := Lib.hid (show Str (w5.setCell ⟨w3b.heap.size, 0, none⟩ (.int .i64 (u * 7 - 1))) w.heap.size 41 #[.int .i64 0, .int .i64 0, .int .i64 0, .int .i64 0] from SA.out.other (by omega) _ _)
    have Hr := Lib.hid (Hr.out.kept (grownBy_set w5 w3b.heap.size 0 (.int .i64 (u * 7 - 1))) (fun g e => by cases e; omega))
    have Hg := Lib.hid (grown_set Hg.out (B := w3b.heap.size) (by omega) 0 (.int .i64 (u * 7 - 1)))
    have a0 := SA.out.cell 0 (v := .int .i64 0) rfl
    have f0 := SA.out.frozen 0
    have a1 := SA.out.cell 1 (v := .int .i64 0) rfl
    have f1 := SA.out.frozen 1
    have a2 := SA.out.cell 2 (v := .int .i64 0) rfl
    have f2 := SA.out.frozen 2
    have a3 := SA.out.cell 3 (v := .int .i64 0) rfl
    have f3 := SA.out.frozen 3
    have c0 := SC.out.cell 0 (v := .int .i64 (u * 7 - 1)) rfl
    have c1 := SC.out.cell 1 (v := .int .i64 (Y)) rfl
    have c2 := SC.out.cell 2 (v := .int .i64 (1 + z)) rfl
    have c3 := SC.out.cell 3 (v := .int .i64 (s)) rfl
    have sF := ((((SA.out.set 0 (.int .i64 (u * 7 - 1))).set 1 (.int .i64 (Y))).set 2 (.int .i64 (1 + z))).set 3 (.int .i64 (s)))
    have e0 := sF.cell 0 (v := .int .i64 (u * 7 - 1)) rfl
    have e1 := sF.cell 1 (v := .int .i64 (Y)) rfl
    have e2 := sF.cell 2 (v := .int .i64 (1 + z)) rfl
    have e3 := sF.cell 3 (v := .int .i64 (s)) rfl
    clear sF
    go_wp2
    refine bodyPost_ret (v := .agg #[.int .i64 (u * 7 - 1), .int .i64 (Y), .int .i64 (1 + z), .int .i64 (s)]) (by simp [results, Try.f48, go_sem, e0, e1, e2, e3]) rfl ?_
    exact ⟨⟨u * 7 - 1, Y, 1 + z, s⟩, _, rfl, (by unfold TxS; simp only; omega), ((((Hr.out.kept (grownBy_set _ w.heap.size 0 _) (fun g e => by cases e; omega)).kept (grownBy_set _ w.heap.size 1 _) (fun g e => by cases e; omega)).kept (grownBy_set _ w.heap.size 2 _) (fun g e => by cases e; omega)).kept (grownBy_set _ w.heap.size 3 _) (fun g e => by cases e; omega)), by omega, (grown_set (grown_set (grown_set (grown_set Hg.out (Nat.le_refl _) _ _) (Nat.le_refl _) _ _) (Nat.le_refl _) _ _) (Nat.le_refl _) _ _)⟩
  have h3' : (q == 3) = false := by rw [beq_eq_false_iff_ne]; exact h3
  have a0 := SA.out.cell 0 (v := .int .i64 0) rfl
  have f0 := SA.out.frozen 0
  have a1 := SA.out.cell 1 (v := .int .i64 0) rfl
  have f1 := SA.out.frozen 1
  have a2 := SA.out.cell 2 (v := .int .i64 0) rfl
  have f2 := SA.out.frozen 2
  have a3 := SA.out.cell 3 (v := .int .i64 0) rfl
  have f3 := SA.out.frozen 3
  have c0 := SC.out.cell 0 (v := .int .i64 (x)) rfl
  have c1 := SC.out.cell 1 (v := .int .i64 (Y)) rfl
  have c2 := SC.out.cell 2 (v := .int .i64 (1 + z)) rfl
  have c3 := SC.out.cell 3 (v := .int .i64 (s)) rfl
  have sF := ((((SA.out.set 0 (.int .i64 (x))).set 1 (.int .i64 (Y))).set 2 (.int .i64 (1 + z))).set 3 (.int .i64 (s)))
  have e0 := sF.cell 0 (v := .int .i64 (x)) rfl
  have e1 := sF.cell 1 (v := .int .i64 (Y)) rfl
  have e2 := sF.cell 2 (v := .int .i64 (1 + z)) rfl
  have e3 := sF.cell 3 (v := .int .i64 (s)) rfl
  clear sF
  go_wp2
  refine bodyPost_ret (v := .agg #[.int .i64 (x), .int .i64 (Y), .int .i64 (1 + z), .int .i64 (s)]) (by simp [results, Try.f48, go_sem, e0, e1, e2, e3]) rfl ?_
  exact ⟨⟨x, Y, 1 + z, s⟩, _, rfl, (by unfold TxS; simp only; omega), ((((Hr.out.kept (grownBy_set _ w.heap.size 0 _) (fun g e => by cases e; omega)).kept (grownBy_set _ w.heap.size 1 _) (fun g e => by cases e; omega)).kept (grownBy_set _ w.heap.size 2 _) (fun g e => by cases e; omega)).kept (grownBy_set _ w.heap.size 3 _) (fun g e => by cases e; omega)), by omega, (grown_set (grown_set (grown_set (grown_set Hg.out (Nat.le_refl _) _ _) (Nat.le_refl _) _ _) (Nat.le_refl _) _ _) (Nat.le_refl _) _ _)⟩

end Go.Proofs.Ytfnhafgjdnlhiaa

/- Plain arithmetic of sets of members and their weights; no walk and no condition of our own. -/
namespace Go.Proofs.Ytfnhafgjdnlhiaa

/-- Ascending members below n. -/
def AscP (n : Nat) (ms : List Int) : Prop := ms.Pairwise (· < ·) ∧ ∀ m ∈ ms, 0 ≤ m ∧ m < n
theorem ascP_of {n : Nat} {ms : List Int} (h : membersB n ms = true) : AscP n ms := by
  have step : ∀ d i (hi : i + 1 + d < ms.length), ms[i] < ms[i + 1 + d] := by
    intro d
    induction d with
    | zero =>
      intro i hi
      have := okAt_bd hi (allB_upto h (i + 1) hi)
      rcases this.2.2 with h0 | h0
      · omega
      · rw [show i + 1 + 0 - 1 = i by omega, getD_get (by omega)] at h0; exact h0
    | succ d ih =>
      intro i hi
      have h1 := ih i (by omega)
      have := okAt_bd hi (allB_upto h (i + 1 + (d + 1)) hi)
      rcases this.2.2 with h0 | h0
      · omega
      · rw [show i + 1 + (d + 1) - 1 = i + 1 + d by omega, getD_get (by omega)] at h0
        exact Int.lt_trans h1 h0
  refine ⟨List.pairwise_iff_getElem.2 fun i j hi hj hij => ?_, fun m hm => ?_⟩
  · have := step (j - i - 1) i (by omega)
    simpa [show i + 1 + (j - i - 1) = j by omega] using this
  · obtain ⟨j, hj, rfl⟩ := List.mem_iff_getElem.1 hm
    exact membersB_at h j hj
theorem of_ascP {n : Nat} {ms : List Int} (h : AscP n ms) : membersB n ms = true := by
  unfold membersB
  refine allB_yes (k := ms.length) (fun j hj => ?_) (Nat.le_refl _)
  have hb := h.2 ms[j] (List.getElem_mem hj)
  refine okAt_yes hj hb.1 hb.2 ?_
  by_cases h0 : j = 0
  · exact .inl h0
  · refine .inr ?_
    rw [getD_get (by omega)]
    exact List.pairwise_iff_getElem.1 h.1 (j - 1) j (by omega) hj (by omega)
theorem ascP_filter {n : Nat} {ms : List Int} (p : Int → Bool) (h : AscP n ms) : AscP n (ms.filter p) :=
  ⟨h.1.filter p, fun m hm => h.2 m (List.mem_filter.1 hm).1⟩
theorem ascP_rangeF (p : Nat → Bool) (n : Nat) : AscP n (rangeF p n) := by
  induction n with
  | zero => exact ⟨by simp [rangeF], by simp [rangeF]⟩
  | succ n ih =>
    cases hp : p n with
    | false => rw [rangeF_no hp]; exact ⟨ih.1, fun m hm => by have := ih.2 m hm; omega⟩
    | true =>
      rw [rangeF_yes hp]
      refine ⟨List.pairwise_append.2 ⟨ih.1, by simp, fun a ha b hb => ?_⟩, fun m hm => ?_⟩
      · simp at hb; subst hb; exact (ih.2 a ha).2
      · rcases List.mem_append.1 hm with hm | hm
        · have := ih.2 m hm; omega
        · simp at hm; omega
theorem mem_rangeF {p : Nat → Bool} {n i : Nat} : (i : Int) ∈ rangeF p n ↔ i < n ∧ p i = true := by
  unfold rangeF
  simp only [List.mem_map, List.mem_filter, List.mem_range]
  constructor
  · rintro ⟨a, h, e⟩
    obtain rfl : a = i := by omega
    exact h
  · intro h; exact ⟨i, h, rfl⟩

/-- f 0 + .. + f (n - 1). -/
def isum (f : Nat → Int) : Nat → Int
  | 0 => 0
  | n + 1 => isum f n + f n
theorem isum_congr {f g : Nat → Int} {n : Nat} (h : ∀ i, i < n → f i = g i) : isum f n = isum g n := by
  induction n with
  | zero => rfl
  | succ n ih => simp only [isum]; rw [ih (fun i hi => h i (by omega)), h n (by omega)]
theorem isum_add (f g : Nat → Int) (n : Nat) : isum (fun i => f i + g i) n = isum f n + isum g n := by
  induction n with
  | zero => rfl
  | succ n ih => simp only [isum]; rw [ih]; omega
theorem isum_le {f g : Nat → Int} {n : Nat} (h : ∀ i, i < n → f i ≤ g i) : isum f n ≤ isum g n := by
  induction n with
  | zero => exact Int.le_refl _
  | succ n ih => simp only [isum]; have := ih (fun i hi => h i (by omega)); have := h n (by omega); omega
theorem isum_total (c : List Int) : isum (fun i => c.getD i 0) c.length = totalZ c := by
  have : ∀ k, k ≤ c.length → isum (fun i => c.getD i 0) k = sumTo c k := by
    intro k
    induction k with
    | zero => intro _; rfl
    | succ k ih => intro hk; simp only [isum]; rw [ih (by omega), sumTo_succ (by omega), getD_get (by omega)]
  exact this _ (Nat.le_refl _)

/-- The weight of i if it is among ms. -/
def wAt (c ms : List Int) (i : Nat) : Int := if hasB ms i = true then c.getD i 0 else 0
theorem weightTo_app (c ms : List Int) (x : Int) : weightZ c (ms ++ [x]) = weightZ c ms + c.getD x.toNat 0 := by
  unfold weightZ
  rw [List.length_append]
  simp only [List.length_cons, List.length_nil]
  rw [weightTo_succ (by simp)]
  congr 1
  · unfold weightTo; simp
  · simp
theorem weight_isum (c : List Int) : ∀ (n : Nat) (ms : List Int), AscP n ms → weightZ c ms = isum (wAt c ms) n := by
  intro n
  induction n with
  | zero =>
    intro ms h
    cases ms with
    | nil => rfl
    | cons m ms => have := h.2 m (by simp); omega
  | succ n ih =>
    intro ms h
    simp only [isum]
    rcases List.eq_nil_or_concat ms with rfl | ⟨l, x, rfl⟩
    · rw [← ih [] ⟨by simp, by simp⟩]; simp [wAt, hasB]
    · rw [List.concat_eq_append] at h ⊢
      have hp := List.pairwise_append.1 h.1
      have hx := h.2 x (by simp)
      have hl : ∀ m ∈ l, 0 ≤ m ∧ m < x := fun m hm => ⟨(h.2 m (by simp [hm])).1, hp.2.2 m hm x (by simp)⟩
      by_cases hxn : x = n
      · subst hxn
        have h1 := ih l ⟨hp.1, fun m hm => ⟨(hl m hm).1, by have := hl m hm; omega⟩⟩
        rw [weightTo_app, h1]
        congr 1
        · refine isum_congr fun i hi => ?_
          unfold wAt hasB
          have : ((i : Int) ∈ l ++ [(n : Int)]) = ((i : Int) ∈ l) := by
            rw [List.mem_append]; simp; omega
          simp only [this]
        · unfold wAt hasB; simp
      · have h1 := ih (l ++ [x]) ⟨h.1, fun m hm => by
          have := h.2 m hm
          rcases List.mem_append.1 hm with hm | hm
          · have := hl m hm; omega
          · simp at hm; omega⟩
        rw [h1]
        have : wAt c (l ++ [x]) n = 0 := by
          unfold wAt hasB
          rw [if_neg]
          rw [decide_eq_true_eq]
          intro hm
          rcases List.mem_append.1 hm with hm | hm
          · have := hl _ hm; omega
          · simp at hm; omega
        omega

theorem hasB_common (a b : List Int) (i : Int) : hasB (commonZ a b) i = (hasB a i && hasB b i) := by
  rw [commonZ_eq, Bool.eq_iff_iff]
  simp [hasB, List.mem_filter]
theorem c_nonneg {c : List Int} (h : validB c = true) (i : Nat) (hi : i < c.length) : 0 ≤ c.getD i 0 := by have := good_getD h hi; omega

/-- Two sets weigh no more together than all members and what is common. -/
theorem weights_meet {c a b : List Int} (h : validB c = true) (ha : AscP c.length a) (hb : AscP c.length b) : weightZ c a + weightZ c b ≤ totalZ c + weightZ c (commonZ a b) := by
  have hc : AscP c.length (commonZ a b) := by rw [commonZ_eq]; exact ascP_filter _ ha
  rw [weight_isum c _ a ha, weight_isum c _ b hb, weight_isum c _ _ hc, ← isum_total, ← isum_add, ← isum_add]
  refine isum_le fun i hi => ?_
  have := c_nonneg h i hi
  unfold wAt
  rw [hasB_common]
  generalize c.getD i 0 = x at *
  cases hasB a i <;> cases hasB b i <;> simp <;> omega
/-- Weights are added. -/
theorem weights_add {c a b : List Int} (ha : AscP c.length a) (hb : AscP c.length b) :
    weightZ c a + weightZ c b = weightZ c (rangeF (fun i => hasB a i || hasB b i) c.length) + weightZ c (commonZ a b) := by
  have hc : AscP c.length (commonZ a b) := by rw [commonZ_eq]; exact ascP_filter _ ha
  have hu := ascP_rangeF (fun i => hasB a i || hasB b i) c.length
  rw [weight_isum c _ a ha, weight_isum c _ b hb, weight_isum c _ _ hc, weight_isum c _ _ hu, ← isum_add, ← isum_add]
  refine isum_congr fun i hi => ?_
  unfold wAt
  rw [hasB_common]
  have : hasB (rangeF (fun i => hasB a i || hasB b i) c.length) i = (hasB a i || hasB b i) := by
    rw [Bool.eq_iff_iff]; unfold hasB; rw [decide_eq_true_eq, mem_rangeF]; simp [hi]
  rw [this]
  cases hasB a i <;> cases hasB b i <;> simp

/-- The weight of all members. -/
theorem weight_all {c : List Int} (h : validB c = true) : weightZ c (rangeF (bitB 127) c.length) = totalZ c := by
  rw [weight_isum c _ _ (ascP_rangeF _ _), ← isum_total]
  refine isum_congr fun i hi => ?_
  have hl := validB_len h
  have h7 : bitB 127 i = true := by
    have : i < 7 := by omega
    match i, this with
    | 0, _ => rfl
    | 1, _ => rfl
    | 2, _ => rfl
    | 3, _ => rfl
    | 4, _ => rfl
    | 5, _ => rfl
    | 6, _ => rfl
  have : hasB (rangeF (bitB 127) c.length) i = true := decide_eq_true (mem_rangeF.2 ⟨hi, h7⟩)
  unfold wAt
  rw [if_pos this]

theorem mwZ_of {c ms : List Int} (h : validB c = true) (hm : AscP c.length ms) : mwZ c ms = weightZ c ms := mwZ_yes (by rw [mvB_yes h]; exact of_ascP hm)
theorem mwZ_rangeF {c : List Int} (h : validB c = true) (p : Nat → Bool) : mwZ c (rangeF p c.length) = weightZ c (rangeF p c.length) := mwZ_of h (ascP_rangeF p _)

theorem weight_bd {c a : List Int} (h : validB c = true) (ha : AscP c.length a) : 0 ≤ weightZ c a ∧ weightZ c a ≤ totalZ c := by
  have h0 : isum (fun _ => 0) c.length = 0 := by
    generalize c.length = n
    induction n with
    | zero => rfl
    | succ n ih => simp only [isum]; rw [ih]; rfl
  rw [weight_isum c _ a ha, ← isum_total]
  refine ⟨Int.le_trans (Int.le_of_eq h0.symm) (isum_le fun i hi => ?_), isum_le fun i hi => ?_⟩ <;> (have := c_nonneg h i hi; unfold wAt; split <;> omega)
theorem ascP_common {n : Nat} {a b : List Int} (ha : AscP n a) : AscP n (commonZ a b) := by rw [commonZ_eq]; exact ascP_filter _ ha
theorem common_pos {c a b : List Int} (h : 0 < weightZ c (commonZ a b)) : 0 < (commonZ a b).length := by
  rcases Nat.eq_zero_or_pos (commonZ a b).length with h0 | h0
  · rw [List.eq_nil_of_length_eq_zero h0] at h; exact absurd h (by simp [weightZ, weightTo])
  · exact h0

theorem validB_iff (c : List Int) : validB c = true ↔ (1 ≤ c.length ∧ c.length ≤ 7) ∧ ∀ x ∈ c, 1 ≤ x ∧ x ≤ 9 := by
  unfold validB goodB
  rw [Bool.and_eq_true, decide_eq_true_eq, List.all_eq_true]
  simp
theorem valid_less {c : List Int} {k : Nat} (h : validB c = true) (hk : k < c.length) (h1 : c.length ≠ 1) : validB (c.take k ++ c.drop (k + 1)) = true := by
  rw [validB_iff] at h ⊢
  refine ⟨?_, fun x hx => h.2 x ?_⟩
  · rw [List.length_append, List.length_take, List.length_drop]; omega
  · rcases List.mem_append.1 hx with hx | hx
    · exact List.mem_of_mem_take hx
    · exact List.mem_of_mem_drop hx
theorem valid_zero {c : List Int} {k : Nat} (hk : k < c.length) : validB (c.set k 0) = false := by
  rw [Bool.eq_false_iff]
  intro h
  rw [validB_iff] at h
  have := h.2 0 (List.mem_set hk 0)
  omega

theorem members_less {n : Nat} {ms : List Int} {k : Nat} (h : AscP n ms) : AscP n (ms.take k ++ ms.drop (k + 1)) := by
  have hsub : (ms.take k ++ ms.drop (k + 1)).Sublist ms := by rw [← List.eraseIdx_eq_take_drop_succ]; exact List.eraseIdx_sublist ms k
  exact ⟨h.1.sublist hsub, fun m hm => h.2 m (hsub.subset hm)⟩
theorem members_twice {n : Nat} {ms : List Int} {k : Nat} (hk : k < ms.length) : membersB n (ms.take (k + 1) ++ ms.drop k) = false := by
  rw [Bool.eq_false_iff]
  intro h
  have hp := (List.pairwise_append.1 (ascP_of h).1).2.2 ms[k] (by rw [List.mem_take_iff_getElem]; exact ⟨k, by omega, rfl⟩) ms[k] (by rw [List.mem_drop_iff_getElem]; exact ⟨0, by omega, by simp⟩)
  omega

end Go.Proofs.Ytfnhafgjdnlhiaa

/- A number put into an ascending list; plain facts and slices of a source; nothing here speaks of the program's text. -/
namespace Go.Proofs.Ytfnhafgjdnlhiaa
open Go.RowKit

/-- x put in its place, where it is lacking. -/
def addZ (ms : List Int) (x : Int) : List Int := if hasB ms x then ms else ms.takeWhile (fun m => decide (m < x)) ++ x :: ms.dropWhile (fun m => decide (m < x))
theorem asc_at {ms : List Int} (hs : ms.Pairwise (· < ·)) {i j : Nat} (hi : i < ms.length) (hj : j < ms.length) (h : i < j) : ms[i] < ms[j] := List.pairwise_iff_getElem.1 hs i j hi hj h
theorem place_ex (ms : List Int) (x : Int) : ∃ k, k ≤ ms.length ∧ (∀ m ∈ ms.take k, m < x) ∧ ∀ hk : k < ms.length, x ≤ ms[k] := by
  induction ms with
  | nil => exact ⟨0, Nat.le_refl _, by simp, fun hk => absurd hk (by simp)⟩
  | cons y ys ih =>
    by_cases hy : y < x
    · obtain ⟨k, h1, h2, h3⟩ := ih
      refine ⟨k + 1, by simpa using h1, ?_, fun hk => ?_⟩
      · intro m hm
        rw [List.take_succ_cons] at hm
        rcases List.mem_cons.1 hm with e | hm
        · rw [e]; exact hy
        · exact h2 m hm
      · rw [List.getElem_cons_succ]
        exact h3 (by simpa using hk)
    · exact ⟨0, Nat.zero_le _, by simp, fun hk => by rw [List.getElem_cons_zero]; omega⟩
theorem rest_ge {ms : List Int} (hs : ms.Pairwise (· < ·)) {x : Int} {k : Nat} (h' : ∀ hk : k < ms.length, x ≤ ms[k]) : ∀ m ∈ ms.drop k, x ≤ m := by
  intro m hm
  obtain ⟨j, hj, rfl⟩ := List.mem_iff_getElem.1 hm
  rw [List.length_drop] at hj
  rw [List.getElem_drop]
  have hk : k < ms.length := by omega
  have h0 := h' hk
  rcases Nat.eq_zero_or_pos j with e | e
  · subst e; exact h0
  · have := asc_at hs hk (j := k + j) (by omega) (by omega)
    omega
theorem count_at {ms : List Int} (hs : ms.Pairwise (· < ·)) {x : Int} {k : Nat} (hk : k ≤ ms.length) (h : ∀ m ∈ ms.take k, m < x) (h' : ∀ hk : k < ms.length, x ≤ ms[k]) : ms.countP (fun m => decide (m < x)) = k := by
  have e : ms.countP (fun m => decide (m < x)) = (ms.take k ++ ms.drop k).countP (fun m => decide (m < x)) := by rw [List.take_append_drop]
  rw [e, List.countP_append, List.countP_eq_length.2 (fun m hm => decide_eq_true (h m hm)), List.countP_eq_zero.2 (fun m hm => by have := rest_ge hs h' m hm; simp; omega), List.length_take]
  omega
theorem ins_hit {ms : List Int} {x : Int} {k : Nat} (hk : k < ms.length) (e : ms[k] = x) : hasB ms x = true ∧ addZ ms x = ms := by
  have h := hasB_yes hk
  rw [e] at h
  exact ⟨h, by unfold addZ; rw [if_pos h]⟩
theorem ins_no {ms : List Int} (hs : ms.Pairwise (· < ·)) {x : Int} {k : Nat} (_hk : k ≤ ms.length) (h : ∀ m ∈ ms.take k, m < x) (h' : ∀ hk : k < ms.length, x < ms[k]) : hasB ms x = false ∧ addZ ms x = ms.take k ++ x :: ms.drop k := by
  have hn : hasB ms x = false := by
    refine decide_eq_false fun hm => ?_
    have : x ∈ ms.take k ++ ms.drop k := by rw [List.take_append_drop]; exact hm
    rcases List.mem_append.1 this with hm | hm
    · exact absurd (h x hm) (by omega)
    · obtain ⟨j, hj, e⟩ := List.mem_iff_getElem.1 hm
      rw [List.length_drop] at hj
      rw [List.getElem_drop] at e
      have hk : k < ms.length := by omega
      have h0 := h' hk
      rcases Nat.eq_zero_or_pos j with e0 | e0
      · subst e0; simp only [Nat.add_zero] at e; omega
      · have := asc_at hs hk (j := k + j) (by omega) (by omega)
        omega
  refine ⟨hn, ?_⟩
  unfold addZ
  rw [hn, if_neg (by simp)]
  have h2 : (ms.drop k).takeWhile (fun m => decide (m < x)) = [] ∧ (ms.drop k).dropWhile (fun m => decide (m < x)) = ms.drop k := by
    by_cases hk : k < ms.length
    · have h0 := h' hk
      rw [List.drop_eq_getElem_cons hk]
      exact ⟨List.takeWhile_cons_of_neg (by simp; omega), List.dropWhile_cons_of_neg (by simp; omega)⟩
    · rw [List.drop_of_length_le (by omega)]; exact ⟨rfl, rfl⟩
  have e := List.take_append_drop k ms
  have hp : ∀ m ∈ ms.take k, (fun m => decide (m < x)) m = true := fun m hm => decide_eq_true (h m hm)
  rw [show ms.takeWhile (fun m => decide (m < x)) = (ms.take k ++ ms.drop k).takeWhile (fun m => decide (m < x)) by rw [e], List.takeWhile_append_of_pos hp, h2.1, List.append_nil,
    show ms.dropWhile (fun m => decide (m < x)) = (ms.take k ++ ms.drop k).dropWhile (fun m => decide (m < x)) by rw [e], List.dropWhile_append_of_pos hp, h2.2]
theorem ins_len (ms : List Int) (x : Int) : (addZ ms x).length ≤ ms.length + 1 := by
  unfold addZ
  split
  · omega
  · have e := congrArg List.length (List.takeWhile_append_dropWhile (p := fun m => decide (m < x)) (l := ms))
    rw [List.length_append] at e
    rw [List.length_append, List.length_cons]
    omega
theorem take_step {ms : List Int} {x : Int} {k : Nat} (hk : k < ms.length) (h : ∀ m ∈ ms.take k, m < x) (h' : ms[k] < x) : ∀ m ∈ ms.take (k + 1), m < x := by
  intro m hm
  rw [List.take_succ_eq_append_getElem hk, List.mem_append] at hm
  rcases hm with hm | hm
  · exact h m hm
  · rw [List.mem_singleton] at hm; rw [hm]; exact h'

theorem SrcAt.takeI {w : World} {a : Option Addr} {c : Nat} {g : List Int} (h : SrcAt w a c g) (k : Nat) : SrcAt w a c (g.take k) := by
  rcases h with ⟨rfl, rfl, rfl⟩ | ⟨q, rfl, hq⟩
  · exact .inl ⟨rfl, by simp, rfl⟩
  · refine .inr ⟨q, rfl, fun j hj => ?_⟩
    rw [List.length_take] at hj
    rw [List.getElem_take]
    exact hq j (by omega)
theorem add_add (q : Addr) (k j : Nat) : (q.add k).add j = q.add (k + j) := by
  unfold Addr.add
  by_cases hj : j = 0
  · subst hj; simp
  · by_cases hk : k = 0
    · subst hk; simp [hj]
    · have : k + j ≠ 0 := by omega
      simp [hj, hk, Nat.add_assoc]
theorem SrcAt.dropI {w : World} {a : Option Addr} {c : Nat} {g : List Int} (h : SrcAt w a c g) (hc : g.length ≤ c) {k : Nat} (hk : k ≤ g.length) : SrcAt w (if c = k then a else a.map (·.add (k * 1))) (c - k) (g.drop k) := by
  rcases h with ⟨rfl, rfl, rfl⟩ | ⟨q, rfl, hq⟩
  · exact .inl ⟨by split <;> rfl, by simp, by simp⟩
  · by_cases e : c = k
    · rw [if_pos e, List.drop_of_length_le (by omega)]; exact .inr ⟨q, rfl, fun j hj => by simp at hj⟩
    · rw [if_neg e]
      refine .inr ⟨_, rfl, fun j hj => ?_⟩
      rw [List.length_drop] at hj
      rw [List.getElem_drop, add_add, Nat.mul_one]
      exact hq (k + j) (by omega)
theorem SrcAt.parts {w : World} {va : Option Addr} {vc : Nat} {g : List Int} (h : SrcAt w va vc g) (hc : g.length ≤ vc) {k : Nat} (hk : k ≤ g.length) :
    (∀ W, (Instr.slice 23 (.slice va g.length vc) none (some (.int .i64 k)) none).run Try.prog W = .ok (.slice va (g.take k).length vc) W) ∧ SrcAt w va vc (g.take k) ∧
    ∃ ad ac, (∀ W, (Instr.slice 23 (.slice va g.length vc) (some (.int .i64 k)) none none).run Try.prog W = .ok (.slice ad (g.drop k).length ac) W) ∧ SrcAt w ad ac (g.drop k) := by
  have ht : Try.prog.underlying 23 = some (.slice (Try.prog.elem 23)) := by kernel_rfl
  have hs : ∀ W, (sizeOf (Try.prog.elem 23)).run Try.prog W = .ok 1 W := fun W => by kernel_rfl
  refine ⟨fun W => ?_, h.takeI k, _, _, fun W => ?_, h.dropI hc hk⟩
  · rw [run_slice_h (ht := ht) (h0 := by omega) (h2 := by omega), hs]
    simp only [Result.andThen, sliced, Int.toNat_natCast, List.length_take, Nat.min_eq_left hk, Nat.sub_zero]
    have e : (if vc = 0 then va else va.map (·.add (0 * 1))) = va := by
      split
      · rfl
      · cases va <;> simp [Addr.add]
    rw [e]
  · rw [run_slice_l (ht := ht) (h0 := by omega) (h1 := by omega), hs]
    simp only [Result.andThen, sliced, Int.toNat_natCast, List.length_drop]
theorem SrcAt.lies {w w' : World} {a : Option Addr} {c : Nat} {xs : List Int} (h : SrcAt w a c xs) (hi : IntsAt w a xs) (hb : Below w.heap.size w w') : SrcAt w' a c xs := by
  rcases h with h | ⟨ad, rfl, hc⟩
  · exact .inl h
  · refine .inr ⟨ad, rfl, fun j hj => ?_⟩
    obtain ⟨b, off, e, hlt, _⟩ := hi.cell (by omega)
    cases e
    have := hc j hj
    rw [addr_add'] at this ⊢
    exact (hb.cell (p := ⟨b, off + j, none⟩) hlt).trans this
theorem src_one {w : World} {E : TypeId} {B : Nat} {x : Int} (h : Str w B E #[.int .i64 x]) : SrcAt w (some ⟨B, 0, none⟩) 1 [x] := by
  refine .inr ⟨_, rfl, fun j hj => ?_⟩
  have h0 : j = 0 := by simpa using hj
  subst h0
  rw [addr_add]
  exact h.cell 0 rfl
/-- 'append(s, t...)' as an operation of a region. -/
theorem op_appI {P : Program} {T E : TypeId} (hT : IntT P T E) {w : World} {o : Oper} {a : Act} {K : Act → World → Prop} {Q : Exit → Act → World → Prop} (s x : Operand)
    (ho : o.op = .call { callee := .builtin .append, args := #[s, x], argTypes := #[T, T] }) (B : Nat) (v : Value) (xs zs : List Int) (ax : Option Addr) (c : Nat) (hs : a.eval s = v) (hown : Own E w B v xs)
    (hx : a.eval x = .slice ax zs.length c) (hz : SrcAt w ax c zs) (hlen : xs.length + zs.length ≤ 1099511627776) (hB : B ≤ w.heap.size)
    (h : ∀ v' w', Own E w' B v' (xs ++ zs) → w.grownBy w' v.ownBlock → K (a.put o.dst v') w') : Oper.wp P o a w K Q := by
  obtain ⟨v', w', hr, h1, h2⟩ := run_appI hT o.type hown hz hlen hB
  unfold Oper.wp execOp
  simp only [ho, resolve, invoke, builtin, Sem.run_bind, Sem.run_pure, Result.andThen_ok, List.map_toArray, List.map_cons, List.map_nil, hs, hx, hr]
  exact h v' w' h1 h2

end Go.Proofs.Ytfnhafgjdnlhiaa
