/- What the laws' helpers that mark a list of integers and look the marks up answer, each by a walk of its text; condition: a list has at most 2^40 elements. -/
import Derived.Test.YthhikgibmmhcjaaRows
import Derived.Test.YthhikgibmmhcjaaBase
import Derived.Deep.QuietTactic
import Derived.BigQuiet
namespace Go.Proofs.Ythhikgibmmhcjaa
open Go.RowKit

/-- The marks k, k+1, .. -/
def markL (k n : Nat) : List Int := (List.range n).map (fun j => ((k + j : Nat) : Int))
theorem markL_len (k n : Nat) : (markL k n).length = n := by simp [markL]
theorem markL_get (k n j : Nat) (h : j < (markL k n).length) : (markL k n)[j] = ((k + j : Nat) : Int) := by simp [markL]
theorem markL_snoc (k n : Nat) : markL k (n + 1) = markL k n ++ [((k + n : Nat) : Int)] := by simp [markL, List.range_succ]
/-- i elements are marked. -/
def markU (xs : List Int) (k i : Nat) : List Int := markL k i ++ xs.drop i
theorem markU_len {xs : List Int} {k i : Nat} (h : i ≤ xs.length) : (markU xs k i).length = xs.length := by simp [markU, markL_len]; omega
theorem markU_zero (xs : List Int) (k : Nat) : markU xs k 0 = xs := by simp [markU, markL]
theorem markU_all (xs : List Int) (k : Nat) : markU xs k xs.length = markL k xs.length := by simp [markU]
theorem markU_step {xs : List Int} {k i : Nat} (h : i < xs.length) : (markU xs k i).set i ((k : Int) + (i : Int)) = markU xs k (i + 1) := by
  unfold markU
  rw [← Int.natCast_add, List.set_append, if_neg (by rw [markL_len]; omega), markL_len, Nat.sub_self, markL_snoc, List.append_assoc, List.drop_eq_getElem_cons h]
  rfl

/-- What is made later lies apart. -/
theorem own_apart {E E' : TypeId} {w w' : World} {B B' : Nat} {v v' : Value} {xs ys : List Int} (h : Own E w B v xs) (h' : Own E' w' B' v' ys) (hB : w.heap.size ≤ B') : (v.ownBlock = none ∨ v.ownBlock ≠ v'.ownBlock) ∧ (v'.ownBlock = none ∨ v'.ownBlock ≠ v.ownBlock) := by
  cases e : v.ownBlock with
  | none => exact ⟨.inl rfl, by cases e' : v'.ownBlock <;> simp⟩
  | some g =>
    have h1 := (h.lt g e).2
    cases e' : v'.ownBlock with
    | none => exact ⟨.inr (by simp), .inl rfl⟩
    | some g' =>
      have h2 := (h'.lt g' e').1
      exact ⟨.inr (by simp; omega), .inr (by simp; omega)⟩
theorem Own.at {E : TypeId} {w : World} {B n c : Nat} {a : Option Addr} {xs : List Int} (h : Own E w B (.slice a n c) xs) : IntsAt w a xs := by
  obtain ⟨a', c', e, hi, _⟩ := h.ints
  simp only [Value.slice.injEq] at e
  obtain ⟨rfl, _, _⟩ := e
  exact hi
theorem Own.cap {E : TypeId} {w : World} {B n c : Nat} {a : Option Addr} {xs : List Int} (h : Own E w B (.slice a n c) xs) : xs.length ≤ c := by
  rcases Nat.eq_zero_or_pos xs.length with h0 | h0
  · omega
  · obtain ⟨g, cap, e, _, _, hc, _⟩ := h.row h0
    simp only [Value.slice.injEq] at e
    omega
theorem below_row {a w w' : World} {B B' : Nat} {E : TypeId} {v : Value} {xs : List Int} (h : Below B a w) (hB : B ≤ w.heap.size) (hg : w.grownBy w' v.ownBlock) (ho : Own E w B' v xs) (hB' : B ≤ B') : Below B a w' :=
  h.grown hg hB (fun g e => Nat.le_trans hB' (ho.lt g e).1)
theorem ret_num {a b : Int} (h : a = b) : Value.int .i64 a = .int .i64 b := by rw [h]

