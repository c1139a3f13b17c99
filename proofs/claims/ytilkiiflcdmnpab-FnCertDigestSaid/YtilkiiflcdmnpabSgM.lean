/- Signatures as numbers: plain functions and their arithmetic modulo 997; nothing here speaks of the program. -/
import Derived.Test.YtilkiiflcdmnpabBase
import Derived.Test.YtilkiiflcdmnpabM2
namespace Go.Proofs.Ytilkiiflcdmnpab
open Go.RowKit

def signB (n : Int) : Bool := decide (1 ≤ n ∧ n ≤ 996)
theorem signB_bd {n : Int} (h : signB n = true) : 1 ≤ n ∧ n ≤ 996 := of_decide_eq_true h
theorem signB_yes {n : Int} (h0 : 1 ≤ n) (h1 : n ≤ 996) : signB n = true := decide_eq_true ⟨h0, h1⟩
theorem signB_no {n : Int} (h : ¬ (1 ≤ n ∧ n ≤ 996)) : signB n = false := decide_eq_false h
/-- Both sides of the equation of a signature. -/
def equB (p d s : Int) : Bool := decide (s * 5 % 997 = p * (d + 1) % 997)
def scB (p d s : Int) : Bool := signB p && (digB d && (signB s && equB p d s))
def kpZ (s : Int) : Int := if signB s = true then s * 5 % 997 else 0
def smZ (s d : Int) : Int := if signB s = true ∧ digB d = true then s * (d + 1) % 997 else 0
theorem prod_sign {p d : Int} (hp0 : 0 ≤ p) (hp : p ≤ 6972) (hd0 : 0 ≤ d) (hd : d ≤ 990) : 0 ≤ p * (d + 1) ∧ p * (d + 1) ≤ 6909252 :=
  ⟨Int.mul_nonneg hp0 (by omega), Int.le_trans (Int.mul_le_mul hp (show d + 1 ≤ 991 by omega) (by omega) (by omega)) (by omega)⟩

theorem gcd_997 {k : Int} (h1 : 1 ≤ k) (h2 : k ≤ 996) : Int.gcd 997 k = 1 := by
  obtain ⟨n, rfl⟩ := Int.eq_ofNat_of_zero_le (show 0 ≤ k by omega)
  have h : ∀ i : Fin 997, (i : Nat) ≠ 0 → Nat.gcd 997 i = 1 := by decide +kernel
  exact h ⟨n, by omega⟩ (by show n ≠ 0; omega)
theorem cancel_997 {k a b : Int} (h1 : 1 ≤ k) (h2 : k ≤ 996) (h : k * a % 997 = k * b % 997) : a % 997 = b % 997 := by
  have hd : (997 : Int) ∣ k * (a - b) := by
    rw [Int.mul_sub]; exact Int.dvd_of_emod_eq_zero (by omega)
  have := Int.dvd_gcd_mul_iff_dvd_mul.2 hd
  rw [gcd_997 h1 h2] at this
  omega
theorem kpZ_eq {s : Int} (h : signB s = true) : kpZ s = s * 5 % 997 := by unfold kpZ; rw [if_pos h]
theorem kpZ_sign {s : Int} (h : signB s = true) : signB (kpZ s) = true := by
  rw [kpZ_eq h]; have := signB_bd h; exact signB_yes (by omega) (by omega)
theorem smZ_bd (s d : Int) : 0 ≤ smZ s d ∧ smZ s d ≤ 996 := by unfold smZ; split <;> omega
theorem smZ_args {s d : Int} (h : smZ s d ≠ 0) : signB s = true ∧ digB d = true := by
  unfold smZ at h
  split at h
  · assumption
  · exact absurd rfl h
theorem smZ_eq {s d : Int} (h : smZ s d ≠ 0) : smZ s d = s * (d + 1) % 997 := by unfold smZ; rw [if_pos (smZ_args h)]
theorem smZ_sign {s d : Int} (h : smZ s d ≠ 0) : signB (smZ s d) = true := by
  have := smZ_bd s d; exact signB_yes (by omega) (by omega)
theorem mul_mod (a b : Int) : a % 997 * b % 997 = a * b % 997 := by rw [Int.mul_emod, Int.emod_emod, ← Int.mul_emod]
theorem equB_iff (p d s : Int) : equB p d s = true ↔ s * 5 % 997 = p * (d + 1) % 997 := by unfold equB; exact decide_eq_true_iff
/-- A signature fits a key and a digest if and only if the product of secret and digest is the same. -/
theorem equ_made {s d p d' : Int} (h : smZ s d ≠ 0) : equB p d' (smZ s d) = true ↔ s * (d + 1) * 5 % 997 = p * (d' + 1) % 997 := by
  rw [equB_iff, smZ_eq h, mul_mod]
theorem sc_round {s d : Int} (h : smZ s d ≠ 0) : scB (kpZ s) d (smZ s d) = true := by
  obtain ⟨hs, hd⟩ := smZ_args h
  unfold scB
  rw [kpZ_sign hs, hd, smZ_sign h, (equ_made h).2 (by rw [kpZ_eq hs, mul_mod, Int.mul_right_comm])]
  rfl
theorem sc_equ {p d s : Int} (h : equB p d s = false) : scB p d s = false := by unfold scB; simp [h]
theorem sc_digest {s d d' : Int} (h : smZ s d ≠ 0) (h0 : 0 ≤ d') (h1 : d' ≤ 990) (hne : d' ≠ d) : scB (kpZ s) d' (smZ s d) = false := by
  refine sc_equ ?_
  rw [Bool.eq_false_iff]
  intro he
  obtain ⟨hs, hd⟩ := smZ_args h
  rw [equ_made h, kpZ_eq hs, mul_mod, Int.mul_assoc, Int.mul_assoc] at he
  have := signB_bd hs
  have h2 := cancel_997 this.1 this.2 he
  have := digB_bd hd
  omega
theorem sc_key {s d p : Int} (h : smZ s d ≠ 0) (h0 : 1 ≤ p) (h1 : p ≤ 996) (hne : p ≠ kpZ s) : scB p d (smZ s d) = false := by
  refine sc_equ ?_
  rw [Bool.eq_false_iff]
  intro he
  obtain ⟨hs, hd⟩ := smZ_args h
  have hdb := digB_bd hd
  rw [equ_made h, Int.mul_right_comm, Int.mul_comm, Int.mul_comm p] at he
  have h2 := cancel_997 (by omega) (by omega) he
  rw [kpZ_eq hs] at hne
  omega
theorem kp_inj {s t : Int} (hs : signB s = true) (ht : signB t = true) : (s == t) = (kpZ s == kpZ t) := by
  rw [kpZ_eq hs, kpZ_eq ht]
  have := signB_bd hs
  have := signB_bd ht
  rw [Bool.eq_iff_iff, beq_iff_eq, beq_iff_eq]
  constructor
  · rintro rfl; rfl
  · intro h; omega
theorem sc_one {p d s x : Int} (h : scB p d s = true) (h0 : 1 ≤ x) (h1 : x ≤ 996) (hne : x ≠ s) : scB p d x = false := by
  refine sc_equ ?_
  rw [Bool.eq_false_iff]
  intro he
  unfold scB at h
  simp only [Bool.and_eq_true] at h
  obtain ⟨_, _, hs, hq⟩ := h
  have := signB_bd hs
  rw [equB_iff] at he hq
  omega
theorem sc_args {p d s : Int} (h : scB p d s = true) : signB p = true ∧ digB d = true ∧ signB s = true := by
  unfold scB at h
  simp only [Bool.and_eq_true] at h
  exact ⟨h.1, h.2.1, h.2.2.1⟩

end Go.Proofs.Ytilkiiflcdmnpab
