/- Plain facts on the coin: shares, parts, the member that a value draws; nothing here speaks of the program. -/
import Derived.Test.YtkndndcjchlpdabBase
import Derived.Test.YtkndndcjchlpdabM5
namespace Go.Proofs.Ytkndndcjchlpdab
open Go.RowKit

/-- The part of a share for a wave. -/
def cmZ (s wv : Int) : Int := if symB s = true ∧ 1 ≤ wv ∧ wv ≤ 15 then s * (7 * wv + 1) % 251 else -1
theorem cmZ_yes {s wv : Int} (h : symB s = true) (h1 : 1 ≤ wv) (h2 : wv ≤ 15) : cmZ s wv = s * (7 * wv + 1) % 251 := if_pos ⟨h, h1, h2⟩
theorem cmZ_no {s wv : Int} (h : ¬ (symB s = true ∧ 1 ≤ wv ∧ wv ≤ 15)) : cmZ s wv = -1 := if_neg h
theorem symB_dec (n : Int) : symB n = decide (0 ≤ n ∧ n ≤ 250) := by
  by_cases h : 0 ≤ n ∧ n ≤ 250
  · rw [symB_yes h, decide_eq_true h]
  · rw [symB_no h, decide_eq_false h]
theorem cm_bd {s wv : Int} (h0 : 0 ≤ s) (h1 : s ≤ 250) (h2 : 1 ≤ wv) (h3 : wv ≤ 15) : 0 ≤ s * (7 * wv + 1) ∧ s * (7 * wv + 1) ≤ 26500 := by
  refine ⟨Int.mul_nonneg h0 (by omega), ?_⟩
  have := Int.mul_le_mul h1 (show 7 * wv + 1 ≤ 106 by omega) (by omega) (by omega)
  omega
theorem cmZ_bd {s wv : Int} : -1 ≤ cmZ s wv ∧ cmZ s wv ≤ 250 := by
  unfold cmZ; split <;> omega

/-- The member whose weight ends after n. -/
def drwN : List Int → Int → Nat
  | [], _ => 0
  | x :: xs, n => if n < x then 0 else drwN xs (n - x) + 1
theorem sumTo_cons (x : Int) (xs : List Int) (k : Nat) : sumTo (x :: xs) (k + 1) = x + sumTo xs k := by
  unfold sumTo; simp [List.take_succ_cons]
theorem drw_eq : ∀ (c : List Int) (n : Int) (k : Nat), k < c.length → (∀ j, j ≤ k → sumTo c j ≤ n) → n < sumTo c (k + 1) → drwN c n = k
  | [], _, _, h, _, _ => by simp at h
  | x :: xs, n, k, hk, hl, hu => by
    cases k with
    | zero =>
      rw [sumTo_cons, sumTo_zero] at hu
      unfold drwN; rw [if_pos (by omega)]
    | succ k =>
      have h1 := hl 1 (by omega)
      rw [show (1 : Nat) = 0 + 1 from rfl, sumTo_cons, sumTo_zero] at h1
      rw [sumTo_cons] at hu
      unfold drwN; rw [if_neg (by omega)]
      rw [drw_eq xs (n - x) k (by simpa using hk) (fun j hj => by have := hl (j + 1) (by omega); rw [sumTo_cons] at this; omega) (by omega)]
theorem drw_spec : ∀ (c : List Int) (n : Int), 0 ≤ n → n < totalZ c → drwN c n < c.length ∧ sumTo c (drwN c n) ≤ n ∧ n < sumTo c (drwN c n + 1)
  | [], n, h0, h1 => by unfold totalZ sumTo at h1; simp at h1; omega
  | x :: xs, n, h0, h1 => by
    unfold drwN
    by_cases h : n < x
    · rw [if_pos h, sumTo_cons, sumTo_zero, sumTo_zero]; simp; omega
    · have ht : totalZ (x :: xs) = x + totalZ xs := by unfold totalZ; rw [List.length_cons, sumTo_cons]
      have := drw_spec xs (n - x) (by omega) (by omega)
      rw [if_neg h, sumTo_cons, sumTo_cons]
      simp only [List.length_cons]; omega
/-- The sums of weights ascend. -/
theorem sumTo_mono {c : List Int} (h : validB c = true) {i j : Nat} (hij : i ≤ j) (hj : j ≤ c.length) : sumTo c i ≤ sumTo c j := by
  induction j with
  | zero => rw [show i = 0 by omega]; omega
  | succ j ih =>
    by_cases e : i = j + 1
    · rw [e]; omega
    · have := ih (by omega) (by omega)
      have := (validB_good h j (by omega)).1
      rw [sumTo_succ (by omega)]; omega
theorem drw_iff {c : List Int} (h : validB c = true) {n : Int} (h0 : 0 ≤ n) (h1 : n < totalZ c) {m : Nat} (hm : m < c.length) : drwN c n = m ↔ sumTo c m ≤ n ∧ n < sumTo c (m + 1) := by
  constructor
  · rintro rfl; exact (drw_spec c n h0 h1).2
  · rintro ⟨h2, h3⟩
    exact drw_eq c n m hm (fun j hj => by have := sumTo_mono h hj (by omega); omega) h3
def clZ (c : List Int) (v : Int) : Int := if (validB c && symB v) = true then (drwN c (v % totalZ c) : Int) else -1
theorem clZ_yes {c : List Int} {v : Int} (h : validB c = true) (h' : symB v = true) : clZ c v = (drwN c (v % totalZ c) : Int) := by unfold clZ; rw [h, h']; rfl
theorem clZ_no {c : List Int} {v : Int} (h : (validB c && symB v) = false) : clZ c v = -1 := by unfold clZ; rw [h]; rfl

end Go.Proofs.Ytkndndcjchlpdab
