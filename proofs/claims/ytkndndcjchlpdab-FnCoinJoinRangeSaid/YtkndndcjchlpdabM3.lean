/- Shards reckoned on lists; plain arithmetic, no walk and no condition of our own. -/
import Derived.Test.YtkndndcjchlpdabBase
namespace Go.Proofs.Ytkndndcjchlpdab

def powF (b : Int) : Nat → Int
  | 0 => 1
  | n + 1 => powF b n * b % 251
theorem powF_bd (b : Int) : ∀ n, 0 ≤ powF b n ∧ powF b n ≤ 250 := by
  intro n
  cases n with
  | zero => simp [powF]
  | succ n => rw [powF]; omega
theorem mul_bd {x y B C : Int} (h0 : 0 ≤ x) (h1 : x ≤ B) (h2 : 0 ≤ y) (h3 : y ≤ C) : 0 ≤ x * y ∧ x * y ≤ B * C :=
  ⟨Int.mul_nonneg h0 h2, Int.mul_le_mul h1 h3 h2 (by omega)⟩
def symB (n : Int) : Bool := decide (0 ≤ n ∧ n ≤ 250)
theorem symB_bd {n : Int} (h : symB n = true) : 0 ≤ n ∧ n ≤ 250 := of_decide_eq_true h
theorem symB_yes {n : Int} (h : 0 ≤ n ∧ n ≤ 250) : symB n = true := decide_eq_true h
theorem symB_no {n : Int} (h : ¬ (0 ≤ n ∧ n ≤ 250)) : symB n = false := decide_eq_false h
/-- The value of the first k symbols of a column at a number. -/
def valTo (d : List Int) (need col : Nat) (x : Int) : Nat → Int
  | 0 => 0
  | k + 1 => if col * need + k < d.length then (valTo d need col x k + d.getD (col * need + k) 0 * powF x k) % 251 else valTo d need col x k
theorem valTo_bd (d : List Int) (need col : Nat) (x : Int) : ∀ k, 0 ≤ valTo d need col x k ∧ valTo d need col x k ≤ 250 := by
  intro k
  induction k with
  | zero => simp [valTo]
  | succ k ih => rw [valTo]; split <;> omega
def valZ (d : List Int) (need col : Nat) (x : Int) : Int := valTo d need col x need
def colsN (d : List Int) (need : Nat) : Nat := (d.length + need - 1) / need
def shardV (d : List Int) (need : Nat) (x : Int) : List Int := (List.range (colsN d need)).map fun c => valZ d need c x
theorem shardV_len (d : List Int) (need : Nat) (x : Int) : (shardV d need x).length = colsN d need := by simp [shardV]
theorem cols_lt {d : List Int} {need c : Nat} (hn : 1 ≤ need) : c < colsN d need ↔ c * need < d.length := by
  unfold colsN
  rw [Nat.lt_div_iff_mul_lt (by omega)]
  have e := Nat.mul_comm c need
  constructor <;> intro h <;> omega
theorem cols_le {d : List Int} {need : Nat} (hn : 1 ≤ need) (h : d.length ≤ 12) : colsN d need ≤ 12 := by
  rcases Nat.lt_or_ge 12 (colsN d need) with h' | h'
  · have := (cols_lt (d := d) (c := 12) hn).1 h'
    have := Nat.mul_le_mul_left 12 hn
    omega
  · exact h'
def dataB (d : List Int) (need : Int) : Bool := d.all symB && decide (1 ≤ d.length ∧ d.length ≤ 12) && decide (1 ≤ need ∧ need ≤ 8)
theorem dataB_iff {d : List Int} {need : Int} (h : dataB d need = true) : (∀ x ∈ d, 0 ≤ x ∧ x ≤ 250) ∧ (1 ≤ d.length ∧ d.length ≤ 12) ∧ 1 ≤ need ∧ need ≤ 8 := by
  unfold dataB at h
  simp only [Bool.and_eq_true, List.all_eq_true, decide_eq_true_eq] at h
  exact ⟨fun x hx => symB_bd (h.1.1 x hx), h.1.2, h.2⟩
theorem dataB_bad {d : List Int} {k : Nat} (need : Int) (hk : k < d.length) (h : symB d[k] = false) : dataB d need = false := by unfold dataB; rw [pre_not hk h]; rfl
def makeB (d : List Int) (need many : Int) : Bool := dataB d need && decide (need ≤ many ∧ many ≤ 8)
def shardZ (d : List Int) (need : Nat) (k : Nat) : Int × List Int := ((k : Int) + 1, shardV d need ((k : Int) + 1))
def makeZ (d : List Int) (need many : Int) : List (Int × List Int) := if makeB d need many = true then (List.range many.toNat).map (shardZ d need.toNat) else []
theorem makeZ_yes {d : List Int} {need many : Nat} (h : makeB d need many = true) : makeZ d need many = (List.range many).map (shardZ d need) := by unfold makeZ; rw [if_pos h]; rfl
theorem makeZ_no {d : List Int} {need many : Int} (h : makeB d need many = false) : makeZ d need many = [] := by unfold makeZ; rw [if_neg (by simp [h])]

theorem makeB_iff {d : List Int} {need many : Int} (h : makeB d need many = true) : dataB d need = true ∧ need ≤ many ∧ many ≤ 8 := by
  unfold makeB at h; simp only [Bool.and_eq_true, decide_eq_true_eq] at h; exact h
theorem makeZ_len {d : List Int} {need many : Int} : (makeZ d need many).length ≤ 8 := by
  cases h : makeB d need many with
  | true =>
    have := makeB_iff h
    unfold makeZ; rw [if_pos h]; simp; omega
  | false => rw [makeZ_no h]; simp
theorem makeZ_in {d : List Int} {need many : Int} : ∀ s ∈ makeZ d need many, s.2.length ≤ 12 := by
  cases h : makeB d need many with
  | true =>
    have h1 := makeB_iff h
    have h2 := dataB_iff h1.1
    intro s hs
    unfold makeZ at hs; rw [if_pos h] at hs
    obtain ⟨k, _, rfl⟩ := List.mem_map.1 hs
    show (shardV _ _ _).length ≤ 12
    rw [shardV_len]
    exact cols_le (by omega) h2.2.1.2
  | false => rw [makeZ_no h]; simp
theorem cols_int {d : List Int} {need : Nat} (hn : 1 ≤ need) : ((colsN d need : Nat) : Int) = ((d.length : Int) + (need : Int) - 1) / (need : Int) := by
  unfold colsN
  rw [Int.natCast_ediv]
  congr 1
  omega

/-! shards are linear -/
def dblZ (x : Int) : Int := 2 * x % 251
theorem dbl_prod (x p : Int) : (dblZ x * p) % 251 = 2 * (x * p) % 251 := by
  unfold dblZ
  rw [Int.mul_emod, Int.emod_emod, ← Int.mul_emod, Int.mul_assoc]
theorem valTo_dbl (d : List Int) (need col : Nat) (x : Int) : ∀ k, valTo (d.map dblZ) need col x k = 2 * valTo d need col x k % 251 := by
  intro k
  induction k with
  | zero => simp [valTo]
  | succ k ih =>
    rw [valTo, valTo, List.length_map]
    by_cases h : col * need + k < d.length
    · rw [if_pos h, if_pos h, ih]
      have hg : (d.map dblZ).getD (col * need + k) 0 = dblZ (d.getD (col * need + k) 0) := by
        rw [getD_get (by simpa using h), getD_get h]; simp
      rw [hg]
      have := dbl_prod (d.getD (col * need + k) 0) (powF x k)
      generalize dblZ (d.getD (col * need + k) 0) * powF x k = q at *
      generalize d.getD (col * need + k) 0 * powF x k = r at *
      omega
    · rw [if_neg h, if_neg h, ih]
theorem valZ_dbl (d : List Int) (need col : Nat) (x : Int) : valZ (d.map dblZ) need col x = 2 * valZ d need col x % 251 := valTo_dbl d need col x need
theorem colsN_map (d : List Int) (f : Int → Int) (need : Nat) : colsN (d.map f) need = colsN d need := by unfold colsN; rw [List.length_map]
theorem dbl_data {d : List Int} {need : Int} (h : dataB d need = true) : dataB (d.map dblZ) need = true := by
  unfold dataB at *
  simp only [Bool.and_eq_true, List.all_eq_true, decide_eq_true_eq, List.length_map] at *
  refine ⟨⟨fun x hx => ?_, h.1.2⟩, h.2⟩
  obtain ⟨y, _, rfl⟩ := List.mem_map.1 hx
  exact symB_yes (by unfold dblZ; omega)
theorem shardV_get {d : List Int} {need : Nat} {x : Int} {c : Nat} (h : c < (shardV d need x).length) : (shardV d need x)[c] = valZ d need c x := by simp [shardV]

end Go.Proofs.Ytkndndcjchlpdab
