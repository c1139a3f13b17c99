/- Texts that the laws of this folder share, one behind another; no conditions. -/
import Derived.Test.YthojbcecbeapgaaBu0
import Derived.Laws.Strings
import Derived.Test.YthojbcecbeapgaaRows
import Derived.Deep.QuietTactic
import Derived.BigQuiet
import Derived.Deep.RegionHeld3
import Derived.Maps.AppendAt
import Derived.RangeFuncNested
import Derived.RangeFuncBound
import Derived.RangeFuncCalls
import Derived.RangeFuncLeaves
import Derived.Shelf.Abstract
import Derived.Shelf.RegionOpen
import Derived.WalkKit
import Derived.OwnWalkIn
import Derived.TacticsInMore
import Derived.LoopNIn
import Derived.LoopIn
import Derived.RangeFuncBox

/- Plain arithmetic of digests and of hash trees; no walk and no condition of our own. -/
namespace Go.Proofs.Ythojbcecbeapgaa

def digB (n : Int) : Bool := decide (0 ≤ n ∧ n ≤ 990)
theorem digB_bd {n : Int} (h : digB n = true) : 0 ≤ n ∧ n ≤ 990 := of_decide_eq_true h
theorem digB_yes {n : Int} (h0 : 0 ≤ n) (h1 : n ≤ 990) : digB n = true := decide_eq_true ⟨h0, h1⟩
theorem digB_no {n : Int} (h : ¬ (0 ≤ n ∧ n ≤ 990)) : digB n = false := decide_eq_false h
def pairZ (a b : Int) : Int := (31 * a + 17 * b + 5) % 991
theorem pairZ_bd (a b : Int) : 0 ≤ pairZ a b ∧ pairZ a b ≤ 990 := by unfold pairZ; omega
theorem pairZ_dig (a b : Int) : digB (pairZ a b) = true := decide_eq_true (pairZ_bd a b)
theorem pairZ_left {a a' b : Int} (h : digB a = true) (h' : digB a' = true) (e : pairZ a b = pairZ a' b) : a = a' := by
  have := digB_bd h; have := digB_bd h'; unfold pairZ at e; omega
theorem pairZ_right {a b b' : Int} (h : digB b = true) (h' : digB b' = true) (e : pairZ a b = pairZ a b') : b = b' := by
  have := digB_bd h; have := digB_bd h'; unfold pairZ at e; omega

/-- The next level. -/
def upZ : List Int → List Int
  | a :: b :: r => pairZ a b :: upZ r
  | l => l
theorem upZ_nil : upZ [] = [] := rfl
theorem upZ_one (a : Int) : upZ [a] = [a] := rfl
theorem upZ_two (a b : Int) (r : List Int) : upZ (a :: b :: r) = pairZ a b :: upZ r := by rw [upZ]
/-- The other node of the pair of node i. -/
def sib (i : Nat) : Nat := if i % 2 = 0 then i + 1 else i - 1
theorem pairs_ind {p : List Int → Prop} (h0 : p []) (h1 : ∀ a, p [a]) (h2 : ∀ a b r, p r → p (a :: b :: r)) : ∀ n l, l.length ≤ n → p l := by
  intro n
  induction n with
  | zero =>
    intro l hl
    have : l = [] := List.eq_nil_of_length_eq_zero (by omega)
    subst this; exact h0
  | succ n ih =>
    intro l hl
    match l, hl with
    | [], _ => exact h0
    | [a], _ => exact h1 a
    | a :: b :: r, hl => exact h2 a b r (ih r (by simp at hl; omega))
theorem upZ_len (l : List Int) : (upZ l).length = (l.length + 1) / 2 :=
  pairs_ind (p := fun l => (upZ l).length = (l.length + 1) / 2) rfl (fun a => by simp [upZ]) (fun a b r ih => by rw [upZ_two]; simp only [List.length_cons]; rw [ih]; omega) l.length l (Nat.le_refl _)
theorem upZ_dig (l : List Int) (h : ∀ x ∈ l, digB x = true) : ∀ x ∈ upZ l, digB x = true := by
  refine pairs_ind (p := fun l => (∀ x ∈ l, digB x = true) → ∀ x ∈ upZ l, digB x = true) (fun _ => by simp [upZ]) (fun a h => by simpa [upZ] using h) (fun a b r ih h => ?_) l.length l (Nat.le_refl _) h
  rw [upZ_two]
  intro x hx
  rcases List.mem_cons.1 hx with rfl | hx
  · exact pairZ_dig _ _
  · exact ih (fun y hy => h y (by simp [hy])) x hx
/-- A node of the next level. -/
theorem upZ_get (l : List Int) : ∀ i, i < l.length → (upZ l).getD (i / 2) 0 = if sib i < l.length then (if i < sib i then pairZ (l.getD i 0) (l.getD (sib i) 0) else pairZ (l.getD (sib i) 0) (l.getD i 0)) else l.getD i 0 := by
  refine pairs_ind (p := fun l => ∀ i, i < l.length → (upZ l).getD (i / 2) 0 = if sib i < l.length then (if i < sib i then pairZ (l.getD i 0) (l.getD (sib i) 0) else pairZ (l.getD (sib i) 0) (l.getD i 0)) else l.getD i 0)
    (fun i h => by simp at h) (fun a i h => ?_) (fun a b r ih i h => ?_) l.length l (Nat.le_refl _)
  · have : i = 0 := by simpa using h
    subst this; rfl
  · rw [upZ_two]
    match i, h with
    | 0, _ => simp [sib]
    | 1, _ => simp [sib]
    | i + 2, h =>
      have hi := ih i (by simpa using h)
      have e1 : (i + 2) / 2 = i / 2 + 1 := by omega
      have e2 : sib (i + 2) = sib i + 2 := by unfold sib; split <;> split <;> omega
      rw [e1, e2]
      simp only [List.getD_cons_succ, List.length_cons]
      rw [hi]
      by_cases hs : sib i < r.length
      · rw [if_pos hs, if_pos (show sib i + 2 < r.length + 1 + 1 by omega)]
        by_cases hl : i < sib i
        · rw [if_pos hl, if_pos (show i + 2 < sib i + 2 by omega)]
        · rw [if_neg hl, if_neg (show ¬ i + 2 < sib i + 2 by omega)]
      · rw [if_neg hs, if_neg (show ¬ sib i + 2 < r.length + 1 + 1 by omega)]

def rootF : Nat → List Int → Int
  | 0, l => l.getD 0 0
  | n + 1, l => if 1 < l.length then rootF n (upZ l) else l.getD 0 0
def proofF : Nat → List Int → Nat → List Int
  | 0, _, _ => []
  | n + 1, l, i => if 1 < l.length then (if sib i < l.length then [l.getD (sib i) 0] else []) ++ proofF n (upZ l) (i / 2) else []
/-- Where a leaf x at place i and a proof lead in a tree of this size. -/
def checkF : Nat → Nat → Nat → Int → List Int → Option Int
  | 0, _, _, x, p => if p = [] then some x else none
  | n + 1, size, i, x, p =>
    if 1 < size then
      if sib i < size then
        match p with
        | [] => none
        | q :: r => if digB q = true then checkF n ((size + 1) / 2) (i / 2) (if i < sib i then pairZ x q else pairZ q x) r else none
      else checkF n ((size + 1) / 2) (i / 2) x p
    else if p = [] then some x else none

theorem dig_getD {l : List Int} (h : ∀ x ∈ l, digB x = true) {i : Nat} (hi : i < l.length) : digB (l.getD i 0) = true := by
  rw [getD_get hi]; exact h _ (List.getElem_mem hi)

/-- Each leaf has a proof. -/
theorem check_proof : ∀ (n : Nat) (l : List Int) (i : Nat), (∀ x ∈ l, digB x = true) → i < l.length → l.length ≤ 2 ^ n → checkF n l.length i (l.getD i 0) (proofF n l i) = some (rootF n l) := by
  intro n
  induction n with
  | zero => intro l i _ hi hl; have : i = 0 := by omega
            subst this; simp [checkF, proofF, rootF]
  | succ n ih =>
    intro l i hd hi hl
    simp only [checkF, proofF, rootF]
    by_cases h1 : 1 < l.length
    · rw [if_pos h1, if_pos h1, if_pos h1]
      have hu := ih (upZ l) (i / 2) (upZ_dig l hd) (by rw [upZ_len]; omega) (by rw [upZ_len, Nat.pow_succ] at *; omega)
      rw [upZ_len, upZ_get l i hi] at hu
      by_cases hs : sib i < l.length
      · rw [if_pos hs] at hu ⊢
        rw [if_pos hs]
        simp only [List.cons_append, List.nil_append]
        rw [if_pos (dig_getD hd hs)]
        exact hu
      · rw [if_neg hs] at hu ⊢
        rw [if_neg hs, List.nil_append]
        exact hu
    · have : i = 0 := by omega
      subst this; simp [h1]

/-- No other leaf has the proof. -/
theorem check_leaf : ∀ (n size i : Nat) (x y : Int) (p : List Int) (R : Int), digB x = true → digB y = true → checkF n size i x p = some R → checkF n size i y p = some R → x = y := by
  intro n
  induction n with
  | zero =>
    intro size i x y p R _ _ h1 h2
    simp only [checkF] at h1 h2
    split at h1
    · rename_i h; rw [if_pos h] at h2; cases h1; cases h2; rfl
    · cases h1
  | succ n ih =>
    intro size i x y p R hx hy h1 h2
    simp only [checkF] at h1 h2
    by_cases hz : 1 < size
    · rw [if_pos hz] at h1 h2
      by_cases hs : sib i < size
      · rw [if_pos hs] at h1 h2
        match p, h1, h2 with
        | q :: r, h1, h2 =>
          simp only at h1 h2
          by_cases hq : digB q = true
          · rw [if_pos hq] at h1 h2
            by_cases hl : i < sib i
            · rw [if_pos hl] at h1 h2
              exact pairZ_left hx hy (ih _ _ _ _ _ _ (pairZ_dig _ _) (pairZ_dig _ _) h1 h2)
            · rw [if_neg hl] at h1 h2
              exact pairZ_right hx hy (ih _ _ _ _ _ _ (pairZ_dig _ _) (pairZ_dig _ _) h1 h2)
          · rw [if_neg hq] at h1; cases h1
      · rw [if_neg hs] at h1 h2
        exact ih _ _ _ _ _ _ hx hy h1 h2
    · rw [if_neg hz] at h1 h2
      split at h1
      · rename_i h; rw [if_pos h] at h2; cases h1; cases h2; rfl
      · cases h1

/-- How long a proof is. -/
def plen : Nat → Nat → Nat → Nat
  | 0, _, _ => 0
  | n + 1, size, i => if 1 < size then (if sib i < size then 1 else 0) + plen n ((size + 1) / 2) (i / 2) else 0
theorem plen_le : ∀ (n size i : Nat), plen n size i ≤ n := by
  intro n
  induction n with
  | zero => intro _ _; exact Nat.le_refl _
  | succ n ih =>
    intro size i
    simp only [plen]
    have := ih ((size + 1) / 2) (i / 2)
    split
    · split <;> omega
    · omega
theorem check_len : ∀ (n size i : Nat) (x : Int) (p : List Int) (R : Int), checkF n size i x p = some R → p.length = plen n size i := by
  intro n
  induction n with
  | zero =>
    intro size i x p R h
    simp only [checkF] at h
    split at h
    · rename_i hp; rw [hp]; rfl
    · cases h
  | succ n ih =>
    intro size i x p R h
    simp only [checkF] at h
    simp only [plen]
    by_cases hz : 1 < size
    · rw [if_pos hz] at h ⊢
      by_cases hs : sib i < size
      · rw [if_pos hs] at h ⊢
        match p, h with
        | q :: r, h =>
          simp only at h
          by_cases hq : digB q = true
          · rw [if_pos hq] at h
            have := ih _ _ _ _ _ h
            simp only [List.length_cons]; omega
          · rw [if_neg hq] at h; cases h
      · rw [if_neg hs] at h ⊢
        have := ih _ _ _ _ _ h; omega
    · rw [if_neg hz] at h ⊢
      split at h
      · rename_i hp; rw [hp]; rfl
      · cases h

/-- A changed leaf on the next level. -/
theorem upZ_set (l : List Int) : ∀ i y, i < l.length → upZ (l.set i y) = (upZ l).set (i / 2) ((upZ (l.set i y)).getD (i / 2) 0) := by
  refine pairs_ind (p := fun l => ∀ i y, i < l.length → upZ (l.set i y) = (upZ l).set (i / 2) ((upZ (l.set i y)).getD (i / 2) 0)) (fun i y h => by simp at h) (fun a i y h => ?_) (fun a b r ih i y h => ?_) l.length l (Nat.le_refl _)
  · have : i = 0 := by simpa using h
    subst this; rfl
  · match i, h with
    | 0, _ => simp [upZ_two]
    | 1, _ => simp [upZ_two]
    | i + 2, h =>
      have hi := ih i y (by simpa using h)
      have e1 : (i + 2) / 2 = i / 2 + 1 := by omega
      rw [e1]
      simp only [List.set_cons_succ, upZ_two, List.getD_cons_succ]
      rw [← hi]
theorem proof_set : ∀ (n : Nat) (l : List Int) (i : Nat) (y : Int), i < l.length → proofF n (l.set i y) i = proofF n l i := by
  intro n
  induction n with
  | zero => intros; rfl
  | succ n ih =>
    intro l i y hi
    simp only [proofF, List.length_set]
    have hne : sib i ≠ i := by unfold sib; split <;> omega
    have e : (l.set i y).getD (sib i) 0 = l.getD (sib i) 0 := by
      simp only [List.getD]
      rw [List.getElem?_set_ne (fun h => hne h.symm)]
    rw [e, upZ_set l i y hi, ih (upZ l) (i / 2) _ (by rw [upZ_len]; omega)]
/-- A changed leaf changes the root. -/
theorem root_set {n : Nat} {l : List Int} {i : Nat} {y : Int} (hd : ∀ x ∈ l, digB x = true) (hi : i < l.length) (hl : l.length ≤ 2 ^ n) (hy : digB y = true) (e : rootF n (l.set i y) = rootF n l) : y = l.getD i 0 := by
  have h1 := check_proof n l i hd hi hl
  have h2 := check_proof n (l.set i y) i (fun x hx => by rcases List.mem_or_eq_of_mem_set hx with h | rfl; exact hd x h; exact hy) (by simpa using hi) (by simpa using hl)
  rw [List.length_set, proof_set n l i y hi, e] at h2
  have e2 : (l.set i y).getD i 0 = y := by simp [List.getD, hi]
  rw [e2] at h2
  exact check_leaf _ _ _ _ _ _ _ hy (dig_getD hd hi) h2 h1
theorem rootF_bd : ∀ (n : Nat) (l : List Int), (∀ x ∈ l, digB x = true) → 0 < l.length → digB (rootF n l) = true := by
  intro n
  induction n with
  | zero => intro l hd hl; exact dig_getD hd hl
  | succ n ih =>
    intro l hd hl
    simp only [rootF]
    split
    · exact ih _ (upZ_dig l hd) (by rw [upZ_len]; omega)
    · exact dig_getD hd hl

/-! texts -/
def txtS (n : Int) (c : UInt8) : Int := (257 * n + c.toNat + 1) % 991
def txtF (n : Int) (l : List UInt8) : Int := l.foldl txtS n
def txtZ (l : List UInt8) : Int := txtF 7 l
theorem txtS_bd (n : Int) (c : UInt8) : 0 ≤ txtS n c ∧ txtS n c ≤ 990 := by unfold txtS; omega
theorem txtF_bd (l : List UInt8) : ∀ n, 0 ≤ n → n ≤ 990 → 0 ≤ txtF n l ∧ txtF n l ≤ 990 := by
  induction l with
  | nil => intro n h0 h1; exact ⟨h0, h1⟩
  | cons c l ih => intro n _ _; exact ih _ (txtS_bd n c).1 (txtS_bd n c).2
theorem txtZ_bd (l : List UInt8) : 0 ≤ txtZ l ∧ txtZ l ≤ 990 := txtF_bd l 7 (by omega) (by omega)
theorem txtZ_snoc (l : List UInt8) (c : UInt8) : txtZ (l ++ [c]) = txtS (txtZ l) c := by unfold txtZ txtF; rw [List.foldl_append]; rfl
theorem txtF_ne (l : List UInt8) : ∀ n m, 0 ≤ n → n ≤ 990 → 0 ≤ m → m ≤ 990 → n ≠ m → txtF n l ≠ txtF m l := by
  induction l with
  | nil => intro n m _ _ _ _ h; exact h
  | cons c l ih =>
    intro n m h0 h1 h2 h3 h
    refine ih _ _ (txtS_bd n c).1 (txtS_bd n c).2 (txtS_bd m c).1 (txtS_bd m c).2 ?_
    unfold txtS; omega
theorem txtZ_byte (l r : List UInt8) {b c : UInt8} (h : b ≠ c) : txtZ (l ++ [b] ++ r) ≠ txtZ (l ++ [c] ++ r) := by
  have e : ∀ x, txtZ (l ++ [x] ++ r) = txtF (txtS (txtZ l) x) r := fun x => by unfold txtZ txtF; rw [List.foldl_append, List.foldl_append]; rfl
  rw [e, e]
  refine txtF_ne r _ _ (txtS_bd _ _).1 (txtS_bd _ _).2 (txtS_bd _ _).1 (txtS_bd _ _).2 ?_
  have hb := b.toNat_lt
  have hc := c.toNat_lt
  have hn : b.toNat ≠ c.toNat := fun e => h (UInt8.toNat_inj.1 e)
  have := txtZ_bd l
  unfold txtS; omega

theorem txt_step (s : ByteArray) (k : Nat) (hk : k < s.size) : txtZ (s.data.toList.take (k + 1)) = txtS (txtZ (s.data.toList.take k)) s[k] := by
  rw [← txtZ_snoc, List.take_succ_eq_append_getElem (by simpa using hk)]; rfl
def htZ (s : ByteArray) : Int := if s.size ≤ 60 then txtZ s.data.toList else -1
def hpZ (a b : Int) : Int := if digB a = true ∧ digB b = true then pairZ a b else -1
def leavesB (l : List Int) : Bool := decide (1 ≤ l.length ∧ l.length ≤ 16) && l.all digB
theorem leavesB_bad {l : List Int} {k : Nat} (hk : k < l.length) (h : digB l[k] = false) : leavesB l = false := by unfold leavesB; rw [pre_not hk h, Bool.and_false]
theorem leavesB_len {l : List Int} {k : Nat} (h : Pre digB l k) (hk : l.length ≤ k) : leavesB l = decide (1 ≤ l.length ∧ l.length ≤ 16) := by unfold leavesB; rw [pre_all h hk, Bool.and_true]
theorem leavesB_iff {l : List Int} (h : leavesB l = true) : (1 ≤ l.length ∧ l.length ≤ 16) ∧ ∀ x ∈ l, digB x = true := by
  unfold leavesB at h; rw [Bool.and_eq_true, decide_eq_true_eq, List.all_eq_true] at h; exact h
def mrZ (l : List Int) : Int := if leavesB l = true then rootF 4 l else -1
def mpZ (l : List Int) (i : Int) : List Int := if leavesB l = true ∧ 0 ≤ i ∧ i < l.length then proofF 4 l i.toNat else []
def mcB (root size i leaf : Int) (p : List Int) : Bool := decide (1 ≤ size ∧ size ≤ 16 ∧ 0 ≤ i ∧ i < size ∧ digB leaf = true ∧ checkF 4 size.toNat i.toNat leaf p = some root)

theorem mrZ_yes {l : List Int} (h : leavesB l = true) : mrZ l = rootF 4 l := by unfold mrZ; rw [if_pos h]
theorem mrZ_no {l : List Int} (h : leavesB l = false) : mrZ l = -1 := by unfold mrZ; rw [if_neg (by simp [h])]
theorem mpZ_yes {l : List Int} {i : Nat} (h : leavesB l = true) (hi : i < l.length) : mpZ l i = proofF 4 l i := by unfold mpZ; rw [if_pos ⟨h, by omega, by omega⟩]; rfl
theorem mpZ_no {l : List Int} {i : Int} (h : ¬ (leavesB l = true ∧ 0 ≤ i ∧ i < l.length)) : mpZ l i = [] := by unfold mpZ; rw [if_neg h]
theorem sib_int (j : Nat) : (j : Int) + 1 - (j : Int) % 2 * 2 = (sib j : Nat) := by unfold sib; split <;> omega
theorem sib_ne (j : Nat) : sib j ≠ j := by unfold sib; split <;> omega
theorem rootF_up {n : Nat} {l : List Int} (h : 1 < l.length) : rootF (n + 1) l = rootF n (upZ l) := by rw [rootF, if_pos h]
theorem rootF_end {n : Nat} {l : List Int} (h : l.length = 1) : rootF n l = l.getD 0 0 := by
  cases n with
  | zero => rfl
  | succ n => rw [rootF, if_neg (by omega)]
theorem proofF_sib {n : Nat} {l : List Int} {i : Nat} (h : 1 < l.length) (hs : sib i < l.length) : proofF (n + 1) l i = l.getD (sib i) 0 :: proofF n (upZ l) (i / 2) := by rw [proofF, if_pos h, if_pos hs]; rfl
theorem proofF_lone {n : Nat} {l : List Int} {i : Nat} (h : 1 < l.length) (hs : ¬ sib i < l.length) : proofF (n + 1) l i = proofF n (upZ l) (i / 2) := by rw [proofF, if_pos h, if_neg hs]; rfl
theorem proofF_end {n : Nat} {l : List Int} {i : Nat} (h : ¬ 1 < l.length) : proofF n l i = [] := by
  cases n with
  | zero => rfl
  | succ n => rw [proofF, if_neg h]
theorem proofF_len : ∀ (n : Nat) (l : List Int) (i : Nat), (proofF n l i).length ≤ n := by
  intro n
  induction n with
  | zero => intro _ _; exact Nat.le_refl _
  | succ n ih =>
    intro l i
    by_cases h : 1 < l.length
    · have := ih (upZ l) (i / 2)
      by_cases hs : sib i < l.length
      · rw [proofF_sib h hs, List.length_cons]; omega
      · rw [proofF_lone h hs]; omega
    · rw [proofF_end h]; simp
theorem pow_half {n k : Nat} (h : k ≤ 2 ^ (n + 1)) : (k + 1) / 2 ≤ 2 ^ n := by rw [Nat.pow_succ] at h; omega
theorem pow_pos' {n k : Nat} (h : k ≤ 2 ^ n) (h1 : 1 < k) : ∃ m, n = m + 1 := by
  cases n with
  | zero => simp at h; omega
  | succ n => exact ⟨n, rfl⟩

theorem checkF_end {n size i : Nat} {x : Int} {p : List Int} (h : ¬ 1 < size) : checkF n size i x p = if p = [] then some x else none := by
  cases n with
  | zero => rfl
  | succ n => simp only [checkF]; rw [if_neg h]
theorem checkF_lone {n size i : Nat} {x : Int} {p : List Int} (h : 1 < size) (hs : ¬ sib i < size) : checkF (n + 1) size i x p = checkF n ((size + 1) / 2) (i / 2) x p := by simp only [checkF]; rw [if_pos h, if_neg hs]
theorem checkF_none {n size i : Nat} {x : Int} (h : 1 < size) (hs : sib i < size) : checkF (n + 1) size i x [] = none := by simp only [checkF]; rw [if_pos h, if_pos hs]
theorem checkF_sib {n size i : Nat} {x q : Int} {r : List Int} (h : 1 < size) (hs : sib i < size) (hq : digB q = true) : checkF (n + 1) size i x (q :: r) = checkF n ((size + 1) / 2) (i / 2) (if i < sib i then pairZ x q else pairZ q x) r := by simp only [checkF]; rw [if_pos h, if_pos hs, if_pos hq]
theorem checkF_bad {n size i : Nat} {x q : Int} {r : List Int} (h : 1 < size) (hs : sib i < size) (hq : digB q = false) : checkF (n + 1) size i x (q :: r) = none := by simp only [checkF]; rw [if_pos h, if_pos hs, if_neg (by simp [hq])]
theorem mcB_yes {root leaf : Int} {size i : Nat} {p : List Int} (h1 : 1 ≤ size) (h2 : size ≤ 16) (h3 : i < size) (h4 : digB leaf = true) : mcB root size i leaf p = decide (checkF 4 size i leaf p = some root) := by
  unfold mcB
  refine decide_eq_decide.2 ⟨fun h => h.2.2.2.2.2, fun h => ⟨by omega, by omega, by omega, by omega, h4, h⟩⟩
theorem mcB_no {root size i leaf : Int} {p : List Int} (h : ¬ (1 ≤ size ∧ size ≤ 16 ∧ 0 ≤ i ∧ i < size ∧ digB leaf = true)) : mcB root size i leaf p = false :=
  decide_eq_false fun h' => h ⟨h'.1, h'.2.1, h'.2.2.1, h'.2.2.2.1, h'.2.2.2.2.1⟩

theorem mrZ_bd (l : List Int) : -1 ≤ mrZ l ∧ mrZ l ≤ 990 := by
  by_cases h : leavesB l = true
  · rw [mrZ_yes h]
    have := digB_bd (rootF_bd 4 l (leavesB_iff h).2 (by have := (leavesB_iff h).1; omega))
    omega
  · rw [mrZ_no (by simpa using h)]; omega
theorem mpZ_len (l : List Int) (i : Int) : (mpZ l i).length ≤ 4 := by
  unfold mpZ; split
  · exact proofF_len _ _ _
  · simp

theorem htZ_yes (s : ByteArray) (h : s.size ≤ 60) : 0 ≤ htZ s ∧ htZ s ≤ 990 := by unfold htZ; rw [if_pos h]; exact txtZ_bd _
theorem htZ_no (s : ByteArray) (h : 60 < s.size) : htZ s = -1 := by unfold htZ; rw [if_neg (by omega)]
theorem htZ_empty : htZ ⟨#[]⟩ = 7 := rfl
theorem hpZ_yes {a b : Int} (h : digB a = true) (h' : digB b = true) : hpZ a b = pairZ a b := by unfold hpZ; rw [if_pos ⟨h, h'⟩]
theorem hpZ_no {a b : Int} (h : ¬ (digB a = true ∧ digB b = true)) : hpZ a b = -1 := by unfold hpZ; rw [if_neg h]

theorem str_ne {s : ByteArray} (h : ¬ s.size = 0) : s.toList.isEmpty = false := by
  rw [ByteArray.toList_eq]
  cases e : s.data.toList with
  | nil => exact absurd (by have := congrArg List.length e; simpa using this) h
  | cons _ _ => rfl
theorem str_nil {s : ByteArray} (h : s.size = 0) : s.toList.isEmpty = true := by
  have e : s.data.toList = [] := List.eq_nil_of_length_eq_zero (by simpa using h)
  rw [ByteArray.toList_eq, e]
  rfl

/-- A text with one byte changed. -/
theorem txt_change (s : ByteArray) (k : Nat) (hk : k < s.size) (c : UInt8) (hc : c ≠ s[k]) (h60 : s.size ≤ 60) (t : ByteArray) (ht : t = s.extract 0 k ++ ⟨#[c]⟩ ++ s.extract (k + 1) s.size) : t.size = s.size ∧ 0 ≤ htZ t ∧ htZ t ≤ 990 ∧ htZ t ≠ htZ s := by
  have hd : t.data.toList = s.data.toList.take k ++ [c] ++ s.data.toList.drop (k + 1) := by
    subst ht
    simp
    exact List.take_of_length_le (by simp)
  have hsd : s.data.toList = s.data.toList.take k ++ [s[k]] ++ s.data.toList.drop (k + 1) := by
    have hk' : k < s.data.toList.length := by simpa using hk
    have h := List.take_append_drop (k + 1) s.data.toList
    rw [List.take_succ_eq_append_getElem hk'] at h
    exact h.symm
  have hsz : t.size = s.size := by
    have h1 := congrArg List.length hd
    simp at h1
    have e1 : s.data.size = s.size := rfl
    have e2 : t.data.size = t.size := rfl
    omega
  have hn := txtZ_byte (s.data.toList.take k) (s.data.toList.drop (k + 1)) hc
  rw [← hd, ← hsd] at hn
  have hb := htZ_yes t (by omega)
  refine ⟨hsz, hb.1, hb.2, ?_⟩
  unfold htZ
  rw [if_pos (show t.size ≤ 60 by omega), if_pos h60]
  exact hn

/-- A byte xor 1, 2 or 3. -/
theorem xor_byte (b : UInt8) (m : Int) (h1 : 1 ≤ m) (h3 : m ≤ 3) : ∃ c : UInt8, bits .xor .u8 (b.toNat : Int) m = (c.toNat : Int) ∧ c ≠ b := by
  have key : ∀ x : Fin 256, ∀ y : Fin 3, bits .xor .u8 (x.val : Int) ((y.val : Int) + 1) = ((x.val ^^^ (y.val + 1) : Nat) : Int) ∧ x.val ^^^ (y.val + 1) ≠ x.val ∧ x.val ^^^ (y.val + 1) < 256 := by decide +kernel
  obtain ⟨hz, hne, hlt⟩ := key ⟨b.toNat, UInt8.toNat_lt b⟩ ⟨(m - 1).toNat, by omega⟩
  simp only at hz hne hlt
  rw [show (((m - 1).toNat : Nat) : Int) + 1 = m by omega] at hz
  generalize b.toNat ^^^ ((m - 1).toNat + 1) = z at hz hne hlt
  refine ⟨UInt8.ofNat z, ?_, ?_⟩
  · rw [UInt8.toNat_ofNat', Nat.mod_eq_of_lt (show z < 2 ^ 8 from hlt), hz]
  · intro e
    apply hne
    rw [← e, UInt8.toNat_ofNat', Nat.mod_eq_of_lt (show z < 2 ^ 8 from hlt)]

theorem wrap_tmod3 (n : Nat) : ∃ m : Int, 1 ≤ m ∧ m ≤ 3 ∧ IntKind.u8.wrap (IntKind.i64.wrap (1 + ((n : Int)).tmod 3)) = m := by
  have e : ((n : Int)).tmod 3 = (n : Int) % 3 := Int.tmod_eq_emod_of_nonneg (by omega)
  refine ⟨1 + (n : Int) % 3, by omega, by omega, ?_⟩
  rw [e, IntWalk.i64_in _ (by omega), IntWalk.u8_in _ (by omega)]

theorem mcB_root {root root' size i leaf : Int} {p : List Int} (h : mcB root size i leaf p = true) (hne : root' ≠ root) : mcB root' size i leaf p = false := by
  have h1 := of_decide_eq_true h
  exact decide_eq_false fun h2 => hne (by
    have := h2.2.2.2.2.2.symm.trans h1.2.2.2.2.2
    simpa using this)
theorem mcB_len {root size i leaf : Int} {p q : List Int} (h : mcB root size i leaf p = true) (hne : q.length ≠ p.length) : mcB root size i leaf q = false := by
  have h1 := of_decide_eq_true h
  exact decide_eq_false fun h2 => hne ((check_len _ _ _ _ _ _ h2.2.2.2.2.2).trans (check_len _ _ _ _ _ _ h1.2.2.2.2.2).symm)
theorem mcB_short {root size i leaf : Int} {p : List Int} (h : mcB root size i leaf p = true) : p.length ≤ 4 := by
  have h1 := of_decide_eq_true h
  rw [check_len _ _ _ _ _ _ h1.2.2.2.2.2]
  exact plen_le _ _ _
theorem leaves_get {l : List Int} (h : leavesB l = true) {i : Nat} (hi : i < l.length) : digB l[i] = true := (leavesB_iff h).2 _ (List.getElem_mem hi)
theorem getD_at {l : List Int} {i : Nat} (hi : i < l.length) : l.getD i 0 = l[i] := by simp [hi]
theorem mc_proof {l : List Int} {i : Nat} (h : leavesB l = true) (hi : i < l.length) : mcB (mrZ l) l.length i l[i] (mpZ l i) = true := by
  obtain ⟨hl, hd⟩ := leavesB_iff h
  rw [mcB_yes (by omega) (by omega) hi (leaves_get h hi), mrZ_yes h, mpZ_yes h hi, ← getD_at hi]
  exact decide_eq_true (check_proof 4 l i hd hi (by omega))
theorem mc_leaf {l : List Int} {i : Nat} {x : Int} (h : leavesB l = true) (hi : i < l.length) (hx : x ≠ l[i]) : mcB (mrZ l) l.length i x (mpZ l i) = false := by
  obtain ⟨hl, hd⟩ := leavesB_iff h
  cases hm : mcB (mrZ l) l.length i x (mpZ l i) with
  | false => rfl
  | true =>
    have h1 := (of_decide_eq_true (mc_proof h hi)).2.2.2.2.2
    have h2 := of_decide_eq_true hm
    exact absurd (check_leaf _ _ _ _ _ _ _ h2.2.2.2.2.1 (leaves_get h hi) h2.2.2.2.2.2 h1) hx

theorem mrZ_pos {l : List Int} (h : leavesB l = true) : 0 ≤ mrZ l ∧ mrZ l ≤ 990 := by
  rw [mrZ_yes h]
  obtain ⟨hl, hd⟩ := leavesB_iff h
  exact digB_bd (rootF_bd 4 l hd (by omega))

theorem mc_leaf' {l : List Int} {i : Int} {x : Int} (h : leavesB l = true) (h0 : 0 ≤ i) (hi : i < l.length) (hx : x ≠ l.getD i.toNat 0) : mcB (mrZ l) l.length i x (mpZ l i) = false := by
  obtain ⟨i, rfl⟩ := Int.eq_ofNat_of_zero_le h0
  have hi' : i < l.length := by omega
  exact mc_leaf h hi' (by rw [← getD_at hi']; exact hx)

end Go.Proofs.Ythojbcecbeapgaa

/- What spec's functions of digests and hash trees answer, each by a walk of its text: the answers are those of plain functions on lists; conditions: a list that is read has fewer than 2^40 elements, numbers that are paired are digests. -/
namespace Go.Proofs.Ythojbcecbeapgaa
open Go.RowKit

theorem TI2 : IntT Try.prog 64 3 := ⟨Try.underlying64, by kernel_rfl⟩

theorem spec_l2Digest (n : Int) (w : World) : Calls Try.prog 44 #[.int .i64 n] w fun e w' => e = .returned (.bool (digB n)) ∧ w = w' := by
  go_enter Try.func44, Try.ntmps44
  go_wp2_with (go_at_call 35; refine (spec_l6In _ _ _ _).mono ?_; rintro e w' ⟨rfl, rfl⟩)
  go_ret
  exact ⟨ret_bool (by unfold digB; simp), rfl⟩

end Go.Proofs.Ythojbcecbeapgaa

/- The reference's tests of batches and what an author uses, each by a walk of its text; condition: the list has at most 2^20 batches. -/
namespace Go.Proofs.Ythojbcecbeapgaa
open Go.RowKit

theorem spec_l23Batch (d a r s : Int) (w : World) :
    Calls Try.prog 29 #[.agg #[.int .i64 d, .int .i64 a, .int .i64 r, .int .i64 s]] w fun e w' => e = .returned (.bool (btB ⟨d, a, r, s⟩)) ∧ Below w.heap.size w w' := by
  have hb0 : Below w.heap.size w (w.alloc (.cells #[.int .i64 d, .int .i64 a, .int .i64 r, .int .i64 s] 27)) := (Below.refl _ _).alloc (Nat.le_refl _) _
  have s0 := Str.new w 27 #[.int .i64 d, .int .i64 a, .int .i64 r, .int .i64 s]
  have k0 := s0.cell 0 (v := .int .i64 d) rfl
  have k1 := s0.cell 1 (v := .int .i64 a) rfl
  have k2 := s0.cell 2 (v := .int .i64 r) rfl
  have k3 := s0.cell 3 (v := .int .i64 s) rfl
  have H0 := Lib.hid (fun W => spec_l2Digest d W)
  have H1 := Lib.hid (fun W => spec_l6In a 0 6 W)
  have H2 := Lib.hid (fun W => spec_l6In r 0 30 W)
  have H3 := Lib.hid (fun W => spec_l6In s 1 12 W)
  have Hb0 := Lib.hid hb0; clear hb0 s0
  have Hres := Lib.hid (show btB ⟨d, a, r, s⟩ = (digB d && decide (0 ≤ a ∧ a ≤ 6) && decide (0 ≤ r ∧ r ≤ 30) && decide (1 ≤ s ∧ s ≤ 12)) from rfl)
  generalize decide (0 ≤ a ∧ a ≤ 6) = xa at *
  generalize decide (0 ≤ r ∧ r ≤ 30) = xr at *
  generalize decide (1 ≤ s ∧ s ≤ 12) = xs at *
  generalize digB d = xd at *
  go_enter Try.func29, Try.ntmps29
  go_wp2_with fail
  generalize w.alloc (.cells #[.int .i64 d, .int .i64 a, .int .i64 r, .int .i64 s] 27) = W0 at *
  refine (H0.out W0).mono ?_
  rintro e w1 ⟨rfl, rfl⟩
  cases xd with
  | false =>
    go_wp2
    go_ret
    exact ⟨ret_bool (by rw [Hres.out]; rfl), Hb0.out⟩
  | true =>
  go_wp2_with fail
  refine (H1.out W0).mono ?_
  rintro e w1 ⟨rfl, rfl⟩
  cases xa with
  | false =>
    go_wp2
    go_ret
    exact ⟨ret_bool (by rw [Hres.out]; rfl), Hb0.out⟩
  | true =>
  go_wp2_with fail
  refine (H2.out W0).mono ?_
  rintro e w1 ⟨rfl, rfl⟩
  cases xr with
  | false =>
    go_wp2
    go_ret
    exact ⟨ret_bool (by rw [Hres.out]; rfl), Hb0.out⟩
  | true =>
  go_wp2_with fail
  refine (H3.out W0).mono ?_
  rintro e w1 ⟨rfl, rfl⟩
  go_wp2
  go_ret
  exact ⟨ret_bool (by rw [Hres.out]; cases xs <;> rfl), Hb0.out⟩

theorem usZ_take {l : List Bt} {k : Nat} (h : k < l.length) (a : Int) : usZ (l.take (k + 1)) a = usZ (l.take k) a + if l[k].a = a then l[k].s else 0 := by
  rw [List.take_succ_eq_append_getElem h, usZ_app, usZ_cons]; simp [usZ]
theorem usZ_bd {l : List Bt} {m : Int} (hm : 0 ≤ m) (h : ∀ b ∈ l, 0 - m ≤ b.s ∧ b.s ≤ m) (a : Int) : 0 - m * l.length ≤ usZ l a ∧ usZ l a ≤ m * l.length := by
  induction l with
  | nil => simp [usZ]
  | cons b r ih =>
    have h1 := h b (by simp)
    have h2 := ih fun x hx => h x (by simp [hx])
    rw [usZ_cons, List.length_cons]
    have : m * ((r.length + 1 : Nat) : Int) = m * r.length + m := by rw [Int.natCast_add, Int.mul_add]; omega
    rw [this]
    split <;> omega
set_option maxHeartbeats 2000000 in
theorem spec_l23Used (l : List Bt) (v : Value) (fp : List Nat) (a : Int) (w : World) (hbig : l.length ≤ 1048577) (hl : Bts w l v fp) :
    Calls Try.prog 30 #[v, .int .i64 a] w fun e w' => ∃ n, e = .returned (.int .i64 n) ∧ ((∀ b ∈ l, -1048576 ≤ b.s ∧ b.s ≤ 1048576) → n = usZ l a) ∧ Drawn w w' := by
  obtain ⟨va, vc, rfl, _⟩ := hl.slice
  have Hl := Lib.hid hl; clear hl
  obtain ⟨Bd, hBd⟩ : ∃ Bd : Prop, Bd = ∀ b ∈ l, -1048576 ≤ b.s ∧ b.s ≤ 1048576 := ⟨_, rfl⟩
  have Hstep := Lib.hid (fun k (h : k < l.length) N (hb : Bd) (hN : N = usZ (l.take k) a) (he : l[k].a = a) => show IntKind.i64.wrap (N + l[k].s) = usZ (l.take (k + 1)) a from by
    subst hBd
    have h1 := usZ_bd (l := l.take k) (m := 1048576) (by omega) (fun b hb' => by have := hb b (List.mem_of_mem_take hb'); omega) a
    have h2 := hb l[k] (List.getElem_mem h)
    have h3 : (l.take k).length ≤ 1048577 := by rw [List.length_take]; omega
    rw [usZ_take h a, if_pos he, hN]
    exact IntWalk.i64_in _ (by omega))
  have Hsame := Lib.hid (fun k (h : k < l.length) N (hN : N = usZ (l.take k) a) (he : ¬ l[k].a = a) => show N = usZ (l.take (k + 1)) a from by rw [usZ_take h a, if_neg he, hN]; omega)
  have H0 := Lib.hid (show usZ (l.take 0) a = 0 from rfl)
  have He := Lib.hid (show usZ (l.take l.length) a = usZ l a by rw [List.take_length])
  rw [← hBd]
  clear hBd
  go_enter Try.func30, Try.ntmps30
  go_wp2
  go_loopw [5, 6] (fun n i wr => ∃ (k : Nat) (N : Int), k ≤ l.length ∧ i = .int .i64 k ∧ n = .int .i64 N ∧ Hid (Bd → N = usZ (l.take k) a) ∧ Drawn w wr) (fun _ i _ => l.length - (intOf i).toNat)
  case atStart => exact ⟨0, 0, by omega, rfl, rfl, Lib.hid (fun _ => H0.out.symm), Drawn.refl _⟩
  case round =>
    obtain ⟨k, N, hk, rfl, rfl, HN, hwr⟩ := hrel
    have Hwr := Lib.hid hwr; clear hwr
    by_cases hlt : k < l.length
    · have hlt' : (k : Int) < (l.length : Int) := by omega
      obtain ⟨b, off, rfl, hb, hat⟩ := (Hl.out.under (Hwr.out.below _)).at (by omega)
      obtain ⟨_, c1, _, c3⟩ := hat k hlt
      have Hst := Lib.hid (Hstep.out k hlt N)
      have Hsm := Lib.hid (Hsame.out k hlt N)
      clear hat
      generalize l[k] = x at *
      obtain ⟨xd, xa, xr, xs⟩ := x
      dsimp only at *
      by_cases ha : xa = a
      · have ha' : (xa == a) = true := by rw [beq_iff_eq]; exact ha
        have Hn := Lib.hid (fun hb => Hst.out hb (HN.out hb) ha)
        clear ha
        go_wp2
        go_roundw
        case rel => exact ⟨k + 1, _, by omega, by go_num, rfl, Lib.hid (fun hb => (IntWalk.i64_left _).symm.trans (Hn.out hb)), Hwr.out⟩
        case measure => simp [intOf]; omega
      · have ha' : (xa == a) = false := by rw [beq_eq_false_iff_ne]; exact ha
        have Hn := Lib.hid (fun hb => Hsm.out (HN.out hb) ha)
        clear ha
        go_wp2
        go_roundw
        case rel => exact ⟨k + 1, N, by omega, by go_num, rfl, Hn, Hwr.out⟩
        case measure => simp [intOf]; omega
    · obtain rfl : k = l.length := by omega
      have Hn := Lib.hid (fun hb => (HN.out hb).trans He.out)
      go_wp2
      go_ret
      exact ⟨N, rfl, Hn.out, Hwr.out⟩

end Go.Proofs.Ythojbcecbeapgaa

/- A region that draws its order, operation by operation: an operation that yields its value in every world that meets S, or is left out by its guard, is taken first; a call is met where it alone may come up. General steps; nothing here speaks of the program. -/
namespace Go.Proofs.Ythojbcecbeapgaa
open Go.RowKit

section
variable {P : Program} {md : Region.Mode} {l : List Oper} {Q : Exit → Act → World → Prop} {S : World → Prop} {oi : Oper} {rest : List Oper} {fuel : Nat} {listed : Array Bool} {a : Act} {w : World}

theorem drop_at {i : Nat} (hi : l.drop i = oi :: rest) : l.toArray[i]? = some oi := by
  have h : (l.drop i)[0]? = some oi := by rw [hi]; rfl
  rw [List.getElem?_drop] at h
  simpa using h
/-- Take number i first: it is carried out and yields v in every world that meets S. -/
theorem takeH (i : Nat) {v : Value} (hi : l.drop i = oi :: rest) (hs : Region.noSelect l.toArray = true) (hf : Region.free md l.toArray listed i = true) (hr : (Region.ready md l.toArray listed).contains i = true)
    (hQ : ∀ c a w, Q (.panic c) (a.put oi.dst v) w → Q (.panic c) a w) (hS : S w) (hw : Region.wanted oi (yielded l.toArray a.tmps) = true)
    (hy : ∀ w, S w → (execOp a.eval oi).run P w = .ok (.value v) w)
    (h : wpAnyH P md l.toArray Q S fuel (listed.setIfInBounds i true) (a.put oi.dst v) w) : wpAnyH P md l.toArray Q S (fuel + 1) listed a w :=
  wpAnyH_take (drop_at hi) hs hf hr hQ (.inl ⟨hw, hy⟩) hS h
/-- Number i is left out by its guard. -/
theorem skipH (i : Nat) (hi : l.drop i = oi :: rest) (hs : Region.noSelect l.toArray = true) (hf : Region.free md l.toArray listed i = true) (hr : (Region.ready md l.toArray listed).contains i = true)
    (hQ : ∀ c a w, Q (.panic c) (a.put oi.dst undef) w → Q (.panic c) a w) (hS : S w) (hw : Region.wanted oi (yielded l.toArray a.tmps) = false)
    (h : wpAnyH P md l.toArray Q S fuel (listed.setIfInBounds i true) (a.put oi.dst undef) w) : wpAnyH P md l.toArray Q S (fuel + 1) listed a w :=
  wpAnyH_take (drop_at hi) hs hf hr hQ (.inr ⟨hw, rfl⟩) hS h
/-- Number i alone may come up: it is carried out, and S is shown behind it. -/
theorem callH (i : Nat) (hi : l.drop i = oi :: rest) (hr : Region.ready md l.toArray listed = [i]) (hw : Region.wanted oi (yielded l.toArray a.tmps) = true)
    (h : ∀ K' : Act → World → Prop, Shut (∀ a w, S w → (S w → wpAnyH P md l.toArray Q S fuel (listed.setIfInBounds i true) a w) → K' a w) → Oper.wp P oi a w K' Q) : wpAnyH P md l.toArray Q S (fuel + 1) listed a w :=
  wpAnyH_ready hr (by simp) (AllReadyH.cons (drop_at hi) (fun K' hK => by rw [if_pos hw]; exact h K' hK) AllReadyH.nil)
/-- Either of two may come up next. -/
theorem twoH {oj : Oper} {rest2 : List Oper} (i j : Nat) (hi : l.drop i = oi :: rest) (hj : l.drop j = oj :: rest2) (hr : Region.ready md l.toArray listed = [i, j]) (hw : Region.wanted oi (yielded l.toArray a.tmps) = true) (hw' : Region.wanted oj (yielded l.toArray a.tmps) = true)
    (h : ∀ K' : Act → World → Prop, Shut (∀ a w, S w → (S w → wpAnyH P md l.toArray Q S fuel (listed.setIfInBounds i true) a w) → K' a w) → Oper.wp P oi a w K' Q)
    (h' : ∀ K' : Act → World → Prop, Shut (∀ a w, S w → (S w → wpAnyH P md l.toArray Q S fuel (listed.setIfInBounds j true) a w) → K' a w) → Oper.wp P oj a w K' Q) : wpAnyH P md l.toArray Q S (fuel + 1) listed a w :=
  wpAnyH_ready hr (by simp) (AllReadyH.cons (drop_at hi) (fun K' hK => by rw [if_pos hw]; exact h K' hK) (AllReadyH.cons (drop_at hj) (fun K' hK => by rw [if_pos hw']; exact h' K' hK) AllReadyH.nil))
end

end Go.Proofs.Ythojbcecbeapgaa

/- The reference's test of stores, by a walk of its text; condition: the list has at most 2^20 batches. -/
namespace Go.Proofs.Ythojbcecbeapgaa
open Go.RowKit

/-- The j-th batch passes the test. -/
def okS (f : Int) (l : List Bt) (j : Nat) : Prop := ∃ h : j < l.length, btB l[j] = true ∧ f ≤ l[j].r ∧ (0 < j → (l[j - 1]'(by omega)).d < l[j].d) ∧ ((∀ b ∈ l, -1048576 ≤ b.s ∧ b.s ≤ 1048576) → usZ l l[j].a ≤ 30)
theorem st_small {f : Int} {l : List Bt} (h : stP f l) : ∀ b ∈ l, -1048576 ≤ b.s ∧ b.s ≤ 1048576 := fun b hb => by have := btB_iff.1 (h.2.2.2 b hb).1; omega
theorem st_ok {f : Int} {l : List Bt} (h : stP f l) {j : Nat} (hj : j < l.length) : okS f l j :=
  ⟨hj, (h.2.2.2 _ (List.getElem_mem hj)).1, (h.2.2.2 _ (List.getElem_mem hj)).2.1, fun h0 => List.pairwise_iff_getElem.1 h.2.2.1 (j - 1) j (by omega) hj (by omega), fun _ => (h.2.2.2 _ (List.getElem_mem hj)).2.2⟩
theorem st_all {f : Int} {l : List Bt} (h : ∀ j, j < l.length → okS f l j) : stB f l = decide ((0 ≤ f ∧ f ≤ 31) ∧ l.length ≤ 12) := by
  have hb : ∀ b ∈ l, btB b = true ∧ f ≤ b.r ∧ usZ l b.a ≤ 30 := by
    have h0 : ∀ b ∈ l, btB b = true := fun b hb => by
      obtain ⟨j, hj, rfl⟩ := List.mem_iff_getElem.1 hb
      obtain ⟨_, h1, _⟩ := h j hj
      exact h1
    have hsm : ∀ b ∈ l, -1048576 ≤ b.s ∧ b.s ≤ 1048576 := fun b hb => by have := btB_iff.1 (h0 b hb); omega
    intro b hb
    obtain ⟨j, hj, rfl⟩ := List.mem_iff_getElem.1 hb
    obtain ⟨_, h1, h2, _, h4⟩ := h j hj
    exact ⟨h1, h2, h4 hsm⟩
  have hs : l.Pairwise fun x y => x.d < y.d := by
    rw [List.pairwise_iff_getElem]
    intro i j hi hj hij
    induction j with
    | zero => omega
    | succ j ih =>
      obtain ⟨_, _, _, h3, _⟩ := h (j + 1) hj
      have h3 := h3 (by omega)
      have e : j + 1 - 1 = j := by omega
      simp only [e] at h3
      by_cases e2 : i = j
      · subst e2; exact h3
      · have := ih (by omega) (by omega); omega
  unfold stB
  refine decide_eq_decide.2 ⟨fun h => ⟨h.1, h.2.1⟩, fun h => ⟨h.1, h.2, hs, hb⟩⟩
theorem st_no {f : Int} {l : List Bt} {j : Nat} (hj : j < l.length) (h : ¬ okS f l j) : stB f l = false := decide_eq_false fun hs => h (st_ok hs hj)
set_option maxHeartbeats 4000000 in
set_option maxRecDepth 8000 in
theorem spec_StoreValid (f : Int) (l : List Bt) (v : Value) (fp : List Nat) (w : World) (hbig : l.length ≤ 1048577) (hl : Bts w l v fp) :
    Calls Try.prog 28 #[.agg #[.int .i64 f, v]] w fun e w' => e = .returned (.bool (stB f l)) ∧ Below w.heap.size w w' := by
  obtain ⟨va, vc, rfl, _⟩ := hl.slice
  have hb0 : Below w.heap.size w (w.alloc (.cells #[.int .i64 f, .slice va l.length vc] 25)) := (Below.refl _ _).alloc (Nat.le_refl _) _
  have s0 := Str.new w 25 #[.int .i64 f, .slice va l.length vc]
  have hsz0 : (w.alloc (.cells #[.int .i64 f, .slice va l.length vc] 25)).heap.size = w.heap.size + 1 := by simp
  have Hl := Lib.hid (hl.under hb0); clear hl
  have Hb0 := Lib.hid hb0; clear hb0
  have Hs0 := Lib.hid s0; clear s0
  have HI := Lib.hid (fun W => spec_l6In f 0 31 W)
  have Hall := Lib.hid (st_all (f := f) (l := l))
  have Hno := Lib.hid (fun j => st_no (f := f) (l := l) (j := j))
  go_enter Try.func28, Try.ntmps28
  go_wp2_with fail
  generalize w.alloc (.cells #[.int .i64 f, .slice va l.length vc] 25) = W0 at *
  generalize hSe : w.heap.size = SB at *
  go_loopw [3, 4] (fun i _ wr => ∃ k : Nat, k ≤ l.length ∧ i = .int .i64 k ∧ Hid (∀ j, j < k → okS f l j) ∧ Below W0.heap.size W0 wr) (fun i _ _ => l.length - (intOf i).toNat)
  case atStart => exact ⟨0, by omega, rfl, Lib.hid (fun j h => by omega), Below.refl _ _⟩
  case round =>
    obtain ⟨k, hk, rfl, Hup, hbel⟩ := hrel
    have s1 := (hbel.block _ Hs0.out.lt).trans Hs0.out
    have z0 := Str.cell s1 0 (v := .int .i64 f) rfl
    have z1 := Str.cell s1 1 (v := .slice va l.length vc) rfl
    have hwl : SB < wr.heap.size := by have := hbel.size; omega
    clear s1
    by_cases hlt : k < l.length
    · have hlt' : (k : Int) < (l.length : Int) := by omega
      have Hl1 := Lib.hid (Hl.out.under hbel)
      obtain ⟨b, off, rfl, hb, hat⟩ := Hl1.out.at (by omega)
      obtain ⟨c0, c1, c2, c3⟩ := hat k hlt
      have Hat := Lib.hid hat; clear hat
      have hbA : Below wr.heap.size wr (wr.alloc (.cells #[.int .i64 l[k].d, .int .i64 l[k].a, .int .i64 l[k].r, .int .i64 l[k].s] 27)) := (Below.refl _ _).alloc (Nat.le_refl _) _
      have sA := Str.new wr 27 #[.int .i64 l[k].d, .int .i64 l[k].a, .int .i64 l[k].r, .int .i64 l[k].s]
      have y0 := sA.cell 0 (v := .int .i64 l[k].d) rfl
      have y1 := sA.cell 1 (v := .int .i64 l[k].a) rfl
      have y2 := sA.cell 2 (v := .int .i64 l[k].r) rfl
      have y3 := sA.cell 3 (v := .int .i64 l[k].s) rfl
      have z0 := (hbA.cell (p := ⟨SB, 0, none⟩) hwl).trans z0
      have z1 := (hbA.cell (p := ⟨SB, 1, none⟩) hwl).trans z1
      have hsA : (wr.alloc (.cells #[.int .i64 l[k].d, .int .i64 l[k].a, .int .i64 l[k].r, .int .i64 l[k].s] 27)).heap.size = wr.heap.size + 1 := by simp
      have HbB := Lib.hid (below_step hbel hbel.size hbA)
      have hSB : SB < (wr.alloc (.cells #[.int .i64 l[k].d, .int .i64 l[k].a, .int .i64 l[k].r, .int .i64 l[k].s] 27)).heap.size := by omega
      have hVB : wr.heap.size < (wr.alloc (.cells #[.int .i64 l[k].d, .int .i64 l[k].a, .int .i64 l[k].r, .int .i64 l[k].s] 27)).heap.size := by omega
      have hbB : b < (wr.alloc (.cells #[.int .i64 l[k].d, .int .i64 l[k].a, .int .i64 l[k].r, .int .i64 l[k].s] 27)).heap.size := by omega
      have HbA := Lib.hid hbA
      obtain ⟨pd, hpd⟩ : ∃ pd, ∀ h0 : 0 < k, (l[k - 1]'(by omega)).d = pd := by
        by_cases h0 : 0 < k
        · exact ⟨(l[k - 1]'(by omega)).d, fun _ => rfl⟩
        · exact ⟨0, fun h => absurd h h0⟩
      have HV := Lib.hid (fun W => spec_l23Batch l[k].d l[k].a l[k].r l[k].s W)
      have HU := Lib.hid (fun W (hb : Below W0.heap.size W0 W) => spec_l23Used l (.slice (some ⟨b, off, none⟩) l.length vc) fp l[k].a W hbig (Hl.out.under hb))
      have Hno1 := Lib.hid (fun (h : btB l[k] = false) => Hno.out k hlt fun ⟨_, h1, _⟩ => by rw [h] at h1; cases h1)
      have Hno2 := Lib.hid (fun (h : l[k].r < f) => Hno.out k hlt fun ⟨_, _, h1, _⟩ => by omega)
      have Hno3 := Lib.hid (fun (h0 : 0 < k) (h : ¬ pd < l[k].d) => Hno.out k hlt fun ⟨_, _, _, h1, _⟩ => h (by rw [← hpd h0]; exact h1 h0))
      have Hno4 := Lib.hid (fun n (hn : (∀ b ∈ l, -1048576 ≤ b.s ∧ b.s ≤ 1048576) → n = usZ l l[k].a) (h : 30 < n) => show stB f l = false from decide_eq_false fun hs => by
        have h1 := (st_ok hs hlt)
        obtain ⟨_, _, _, _, h4⟩ := h1
        have := h4 (st_small hs)
        have := hn (st_small hs)
        omega)
      have Hyes := Lib.hid (fun n (hn : (∀ b ∈ l, -1048576 ≤ b.s ∧ b.s ≤ 1048576) → n = usZ l l[k].a) (h : n ≤ 30) (h1 : btB l[k] = true) (h2 : f ≤ l[k].r) (h3 : 0 < k → pd < l[k].d) => show ∀ j, j < k + 1 → okS f l j from fun j hj => by
        by_cases e : j = k
        · subst e
          exact ⟨hlt, h1, h2, fun h0 => by rw [hpd h0]; exact h3 h0, fun hb => by rw [← hn hb]; exact h⟩
        · exact Hup.out j (by omega))
      have Hpd := Lib.hid (fun (h0 : 0 < k) => show wr.cell? ⟨b, off + (k - 1) * 4, none⟩ = some (.int .i64 pd) by rw [← hpd h0]; exact (Hat.out (k - 1) (by omega)).1)
      have hw1 : IntKind.i64.wrap ((k : Int) - 1) = k - 1 := IntWalk.i64_in _ (by omega)
      clear hbA sA hbel Hup hpd Hat
      generalize hx : l[k] = x at *
      obtain ⟨xd, xa, xr, xs⟩ := x
      dsimp only at *
      clear hx
      cases h1 : btB ⟨xd, xa, xr, xs⟩ with
      | false =>
        rw [h1] at HV
        have Hz := Lib.hid (Hno1.out h1)
        clear h1 hw1
        go_wp2_with fail
        generalize wr.alloc (.cells #[.int .i64 xd, .int .i64 xa, .int .i64 xr, .int .i64 xs] 27) = wB at *
        generalize hVe : wr.heap.size = VB at *
        clear hVe
        refine wp_region_held_drew (S := fun W => Below wB.heap.size wB W ∧ W.cell? ⟨SB, 0, none⟩ = some (.int .i64 f) ∧ W.cell? ⟨SB, 1, none⟩ = some (.slice (some ⟨b, off, none⟩) l.length vc) ∧ W.cell? ⟨VB, 0, none⟩ = some (.int .i64 xd) ∧ W.cell? ⟨VB, 1, none⟩ = some (.int .i64 xa) ∧ W.cell? ⟨VB, 2, none⟩ = some (.int .i64 xr) ∧ W.cell? ⟨VB, 3, none⟩ = some (.int .i64 xs)) (by kernel_rfl) ⟨(Below.refl _ _).drew, z0, z1, y0, y1, y2, y3⟩ (fun hH => ?_)
        refine takeH 0 (v := ?vsa1) rfl (by kernel_rfl) (by kernel_rfl) (by kernel_rfl) (fun _ _ _ h => h) hH rfl ?ysa1 ?rsa1
        case ysa1 => intro W hSw; go_simp; try with_reducible rfl
        try simp only [Act.put, List.setIfInBounds_toArray, List.set_cons_zero, List.set_cons_succ]
        refine callH 1 rfl (by kernel_rfl) rfl (fun K hK => ?_)
        go_simp
        go_at_call 29
        refine (HV.out _).mono ?_
        rintro e wv ⟨rfl, hbz⟩
        refine hK.out _ _ ⟨below_step hH.1 hH.1.size hbz, (hbz.cell (p := ⟨SB, 0, none⟩) (Nat.lt_of_lt_of_le hSB hH.1.size)).trans hH.2.1, (hbz.cell (p := ⟨SB, 1, none⟩) (Nat.lt_of_lt_of_le hSB hH.1.size)).trans hH.2.2.1, (hbz.cell (p := ⟨VB, 0, none⟩) (Nat.lt_of_lt_of_le hVB hH.1.size)).trans hH.2.2.2.1, (hbz.cell (p := ⟨VB, 1, none⟩) (Nat.lt_of_lt_of_le hVB hH.1.size)).trans hH.2.2.2.2.1, (hbz.cell (p := ⟨VB, 2, none⟩) (Nat.lt_of_lt_of_le hVB hH.1.size)).trans hH.2.2.2.2.2.1, (hbz.cell (p := ⟨VB, 3, none⟩) (Nat.lt_of_lt_of_le hVB hH.1.size)).trans hH.2.2.2.2.2.2⟩ (fun hH => ?_)
        clear hK K
        try simp only [Act.put, List.setIfInBounds_toArray, List.set_cons_zero, List.set_cons_succ]
        refine takeH 2 (v := ?vsa2) rfl (by kernel_rfl) (by kernel_rfl) (by kernel_rfl) (fun _ _ _ h => h) hH rfl ?ysa2 ?rsa2
        case ysa2 => intro W hSw; go_simp; try with_reducible rfl
        try simp only [Act.put, List.setIfInBounds_toArray, List.set_cons_zero, List.set_cons_succ]
        refine takeH 3 (v := ?vsa3) rfl (by kernel_rfl) (by kernel_rfl) (by kernel_rfl) (fun _ _ _ h => h) hH rfl ?ysa3 ?rsa3
        case ysa3 => intro W hSw; go_simp; try with_reducible rfl
        try simp only [Act.put, List.setIfInBounds_toArray, List.set_cons_zero, List.set_cons_succ]
        refine skipH 4 rfl (by kernel_rfl) (by kernel_rfl) (by kernel_rfl) (fun _ _ _ h => h) hH rfl ?_
        try simp only [Act.put, List.setIfInBounds_toArray, List.set_cons_zero, List.set_cons_succ]
        refine skipH 5 rfl (by kernel_rfl) (by kernel_rfl) (by kernel_rfl) (fun _ _ _ h => h) hH rfl ?_
        try simp only [Act.put, List.setIfInBounds_toArray, List.set_cons_zero, List.set_cons_succ]
        refine skipH 6 rfl (by kernel_rfl) (by kernel_rfl) (by kernel_rfl) (fun _ _ _ h => h) hH rfl ?_
        try simp only [Act.put, List.setIfInBounds_toArray, List.set_cons_zero, List.set_cons_succ]
        refine skipH 7 rfl (by kernel_rfl) (by kernel_rfl) (by kernel_rfl) (fun _ _ _ h => h) hH rfl ?_
        try simp only [Act.put, List.setIfInBounds_toArray, List.set_cons_zero, List.set_cons_succ]
        refine skipH 8 rfl (by kernel_rfl) (by kernel_rfl) (by kernel_rfl) (fun _ _ _ h => h) hH rfl ?_
        try simp only [Act.put, List.setIfInBounds_toArray, List.set_cons_zero, List.set_cons_succ]
        refine takeH 9 (v := ?vsa4) rfl (by kernel_rfl) (by kernel_rfl) (by kernel_rfl) (fun _ _ _ h => h) hH rfl ?ysa4 ?rsa4
        case ysa4 => intro W hSw; go_simp; try with_reducible rfl
        try simp only [Act.put, List.setIfInBounds_toArray, List.set_cons_zero, List.set_cons_succ]
        refine takeH 10 (v := ?vsa5) rfl (by kernel_rfl) (by kernel_rfl) (by kernel_rfl) (fun _ _ _ h => h) hH rfl ?ysa5 ?rsa5
        case ysa5 => intro W hSw; go_simp; try with_reducible rfl
        try simp only [Act.put, List.setIfInBounds_toArray, List.set_cons_zero, List.set_cons_succ]
        refine skipH 11 rfl (by kernel_rfl) (by kernel_rfl) (by kernel_rfl) (fun _ _ _ h => h) hH rfl ?_
        try simp only [Act.put, List.setIfInBounds_toArray, List.set_cons_zero, List.set_cons_succ]
        refine skipH 12 rfl (by kernel_rfl) (by kernel_rfl) (by kernel_rfl) (fun _ _ _ h => h) hH rfl ?_
        try simp only [Act.put, List.setIfInBounds_toArray, List.set_cons_zero, List.set_cons_succ]
        refine skipH 13 rfl (by kernel_rfl) (by kernel_rfl) (by kernel_rfl) (fun _ _ _ h => h) hH rfl ?_
        try simp only [Act.put, List.setIfInBounds_toArray, List.set_cons_zero, List.set_cons_succ]
        refine skipH 14 rfl (by kernel_rfl) (by kernel_rfl) (by kernel_rfl) (fun _ _ _ h => h) hH rfl ?_
        try simp only [Act.put, List.setIfInBounds_toArray, List.set_cons_zero, List.set_cons_succ]
        refine skipH 15 rfl (by kernel_rfl) (by kernel_rfl) (by kernel_rfl) (fun _ _ _ h => h) hH rfl ?_
        try simp only [Act.put, List.setIfInBounds_toArray, List.set_cons_zero, List.set_cons_succ]
        refine skipH 16 rfl (by kernel_rfl) (by kernel_rfl) (by kernel_rfl) (fun _ _ _ h => h) hH rfl ?_
        try simp only [Act.put, List.setIfInBounds_toArray, List.set_cons_zero, List.set_cons_succ]
        refine skipH 17 rfl (by kernel_rfl) (by kernel_rfl) (by kernel_rfl) (fun _ _ _ h => h) hH rfl ?_
        try simp only [Act.put, List.setIfInBounds_toArray, List.set_cons_zero, List.set_cons_succ]
        refine skipH 18 rfl (by kernel_rfl) (by kernel_rfl) (by kernel_rfl) (fun _ _ _ h => h) hH rfl ?_
        try simp only [Act.put, List.setIfInBounds_toArray, List.set_cons_zero, List.set_cons_succ]
        refine skipH 19 rfl (by kernel_rfl) (by kernel_rfl) (by kernel_rfl) (fun _ _ _ h => h) hH rfl ?_
        try simp only [Act.put, List.setIfInBounds_toArray, List.set_cons_zero, List.set_cons_succ]
        refine skipH 20 rfl (by kernel_rfl) (by kernel_rfl) (by kernel_rfl) (fun _ _ _ h => h) hH rfl ?_
        try simp only [Act.put, List.setIfInBounds_toArray, List.set_cons_zero, List.set_cons_succ]
        refine skipH 21 rfl (by kernel_rfl) (by kernel_rfl) (by kernel_rfl) (fun _ _ _ h => h) hH rfl ?_
        try simp only [Act.put, List.setIfInBounds_toArray, List.set_cons_zero, List.set_cons_succ]
        refine skipH 22 rfl (by kernel_rfl) (by kernel_rfl) (by kernel_rfl) (fun _ _ _ h => h) hH rfl ?_
        try simp only [Act.put, List.setIfInBounds_toArray, List.set_cons_zero, List.set_cons_succ]
        refine skipH 23 rfl (by kernel_rfl) (by kernel_rfl) (by kernel_rfl) (fun _ _ _ h => h) hH rfl ?_
        try simp only [Act.put, List.setIfInBounds_toArray, List.set_cons_zero, List.set_cons_succ]
        refine skipH 24 rfl (by kernel_rfl) (by kernel_rfl) (by kernel_rfl) (fun _ _ _ h => h) hH rfl ?_
        try simp only [Act.put, List.setIfInBounds_toArray, List.set_cons_zero, List.set_cons_succ]
        refine takeH 25 (v := ?vsa6) rfl (by kernel_rfl) (by kernel_rfl) (by kernel_rfl) (fun _ _ _ h => h) hH rfl ?ysa6 ?rsa6
        case ysa6 => intro W hSw; go_simp; try with_reducible rfl
        try simp only [Act.put, List.setIfInBounds_toArray, List.set_cons_zero, List.set_cons_succ]
        refine takeH 26 (v := ?vsa7) rfl (by kernel_rfl) (by kernel_rfl) (by kernel_rfl) (fun _ _ _ h => h) hH rfl ?ysa7 ?rsa7
        case ysa7 => intro W hSw; go_simp; try with_reducible rfl
        try simp only [Act.put, List.setIfInBounds_toArray, List.set_cons_zero, List.set_cons_succ]
        refine skipH 27 rfl (by kernel_rfl) (by kernel_rfl) (by kernel_rfl) (fun _ _ _ h => h) hH rfl ?_
        try simp only [Act.put, List.setIfInBounds_toArray, List.set_cons_zero, List.set_cons_succ]
        refine skipH 28 rfl (by kernel_rfl) (by kernel_rfl) (by kernel_rfl) (fun _ _ _ h => h) hH rfl ?_
        try simp only [Act.put, List.setIfInBounds_toArray, List.set_cons_zero, List.set_cons_succ]
        refine skipH 29 rfl (by kernel_rfl) (by kernel_rfl) (by kernel_rfl) (fun _ _ _ h => h) hH rfl ?_
        try simp only [Act.put, List.setIfInBounds_toArray, List.set_cons_zero, List.set_cons_succ]
        refine skipH 30 rfl (by kernel_rfl) (by kernel_rfl) (by kernel_rfl) (fun _ _ _ h => h) hH rfl ?_
        try simp only [Act.put, List.setIfInBounds_toArray, List.set_cons_zero, List.set_cons_succ]
        refine skipH 31 rfl (by kernel_rfl) (by kernel_rfl) (by kernel_rfl) (fun _ _ _ h => h) hH rfl ?_
        try simp only [Act.put, List.setIfInBounds_toArray, List.set_cons_zero, List.set_cons_succ]
        refine skipH 32 rfl (by kernel_rfl) (by kernel_rfl) (by kernel_rfl) (fun _ _ _ h => h) hH rfl ?_
        try simp only [Act.put, List.setIfInBounds_toArray, List.set_cons_zero, List.set_cons_succ]
        refine takeH 33 (v := ?vsa8) rfl (by kernel_rfl) (by kernel_rfl) (by kernel_rfl) (fun _ _ _ h => h) hH rfl ?ysa8 ?rsa8
        case ysa8 => intro W hSw; go_simp; try with_reducible rfl
        try simp only [Act.put, List.setIfInBounds_toArray, List.set_cons_zero, List.set_cons_succ]
        have Hbz := Lib.hid hH.1
        refine wpAnyH_done (by kernel_rfl) ?_ _
        try simp only [Act.put]
        clear hH z0 z1 y0 y1 y2 y3
        go_wp2
        go_ret
        exact ⟨ret_bool (by rw [(Hz.out)]), by rw [hSe]; exact Hb0.out.trans ((below_step HbB.out HbB.out.size Hbz.out).mono (by omega))⟩
      | true =>
      rw [h1] at HV
      by_cases h2 : xr < f
      · have g2 : decide (xr < f) = true := decide_eq_true h2
        have Hz := Lib.hid (Hno2.out h2)
        clear h1 h2 hw1
        go_wp2_with fail
        generalize wr.alloc (.cells #[.int .i64 xd, .int .i64 xa, .int .i64 xr, .int .i64 xs] 27) = wB at *
        generalize hVe : wr.heap.size = VB at *
        clear hVe
        refine wp_region_held_drew (S := fun W => Below wB.heap.size wB W ∧ W.cell? ⟨SB, 0, none⟩ = some (.int .i64 f) ∧ W.cell? ⟨SB, 1, none⟩ = some (.slice (some ⟨b, off, none⟩) l.length vc) ∧ W.cell? ⟨VB, 0, none⟩ = some (.int .i64 xd) ∧ W.cell? ⟨VB, 1, none⟩ = some (.int .i64 xa) ∧ W.cell? ⟨VB, 2, none⟩ = some (.int .i64 xr) ∧ W.cell? ⟨VB, 3, none⟩ = some (.int .i64 xs)) (by kernel_rfl) ⟨(Below.refl _ _).drew, z0, z1, y0, y1, y2, y3⟩ (fun hH => ?_)
        refine takeH 0 (v := ?vsb1) rfl (by kernel_rfl) (by kernel_rfl) (by kernel_rfl) (fun _ _ _ h => h) hH rfl ?ysb1 ?rsb1
        case ysb1 => intro W hSw; go_simp; try with_reducible rfl
        try simp only [Act.put, List.setIfInBounds_toArray, List.set_cons_zero, List.set_cons_succ]
        refine callH 1 rfl (by kernel_rfl) rfl (fun K hK => ?_)
        go_simp
        go_at_call 29
        refine (HV.out _).mono ?_
        rintro e wv ⟨rfl, hbz⟩
        refine hK.out _ _ ⟨below_step hH.1 hH.1.size hbz, (hbz.cell (p := ⟨SB, 0, none⟩) (Nat.lt_of_lt_of_le hSB hH.1.size)).trans hH.2.1, (hbz.cell (p := ⟨SB, 1, none⟩) (Nat.lt_of_lt_of_le hSB hH.1.size)).trans hH.2.2.1, (hbz.cell (p := ⟨VB, 0, none⟩) (Nat.lt_of_lt_of_le hVB hH.1.size)).trans hH.2.2.2.1, (hbz.cell (p := ⟨VB, 1, none⟩) (Nat.lt_of_lt_of_le hVB hH.1.size)).trans hH.2.2.2.2.1, (hbz.cell (p := ⟨VB, 2, none⟩) (Nat.lt_of_lt_of_le hVB hH.1.size)).trans hH.2.2.2.2.2.1, (hbz.cell (p := ⟨VB, 3, none⟩) (Nat.lt_of_lt_of_le hVB hH.1.size)).trans hH.2.2.2.2.2.2⟩ (fun hH => ?_)
        clear hK K
        try simp only [Act.put, List.setIfInBounds_toArray, List.set_cons_zero, List.set_cons_succ]
        refine takeH 2 (v := ?vsb2) rfl (by kernel_rfl) (by kernel_rfl) (by kernel_rfl) (fun _ _ _ h => h) hH rfl ?ysb2 ?rsb2
        case ysb2 => intro W hSw; go_simp; try with_reducible rfl
        try simp only [Act.put, List.setIfInBounds_toArray, List.set_cons_zero, List.set_cons_succ]
        refine takeH 3 (v := ?vsb3) rfl (by kernel_rfl) (by kernel_rfl) (by kernel_rfl) (fun _ _ _ h => h) hH rfl ?ysb3 ?rsb3
        case ysb3 => intro W hSw; go_simp; try with_reducible rfl
        try simp only [Act.put, List.setIfInBounds_toArray, List.set_cons_zero, List.set_cons_succ]
        refine takeH 4 (v := ?vsb4) rfl (by kernel_rfl) (by kernel_rfl) (by kernel_rfl) (fun _ _ _ h => h) hH rfl ?ysb4 ?rsb4
        case ysb4 => intro W hSw; go_simp; try with_reducible rfl
        try simp only [Act.put, List.setIfInBounds_toArray, List.set_cons_zero, List.set_cons_succ]
        refine takeH 5 (v := ?vsb5) rfl (by kernel_rfl) (by kernel_rfl) (by kernel_rfl) (fun _ _ _ h => h) hH rfl ?ysb5 ?rsb5
        case ysb5 => intro W hSw; go_simp; try with_reducible rfl
        try simp only [Act.put, List.setIfInBounds_toArray, List.set_cons_zero, List.set_cons_succ]
        refine takeH 6 (v := ?vsb6) rfl (by kernel_rfl) (by kernel_rfl) (by kernel_rfl) (fun _ _ _ h => h) hH rfl ?ysb6 ?rsb6
        case ysb6 => intro W hSw; go_simp; try with_reducible rfl
        try simp only [Act.put, List.setIfInBounds_toArray, List.set_cons_zero, List.set_cons_succ]
        refine takeH 7 (v := ?vsb7) rfl (by kernel_rfl) (by kernel_rfl) (by kernel_rfl) (fun _ _ _ h => h) hH rfl ?ysb7 ?rsb7
        case ysb7 => intro W hSw; go_simp; try with_reducible rfl
        try simp only [Act.put, List.setIfInBounds_toArray, List.set_cons_zero, List.set_cons_succ]
        refine takeH 8 (v := ?vsb8) rfl (by kernel_rfl) (by kernel_rfl) (by kernel_rfl) (fun _ _ _ h => h) hH rfl ?ysb8 ?rsb8
        case ysb8 => intro W hSw; go_simp; try with_reducible rfl
        try simp only [Act.put, List.setIfInBounds_toArray, List.set_cons_zero, List.set_cons_succ]
        refine takeH 9 (v := ?vsb9) rfl (by kernel_rfl) (by kernel_rfl) (by kernel_rfl) (fun _ _ _ h => h) hH rfl ?ysb9 ?rsb9
        case ysb9 => intro W hSw; go_simp; try with_reducible rfl
        try simp only [Act.put, List.setIfInBounds_toArray, List.set_cons_zero, List.set_cons_succ]
        refine takeH 10 (v := ?vsb10) rfl (by kernel_rfl) (by kernel_rfl) (by kernel_rfl) (fun _ _ _ h => h) hH rfl ?ysb10 ?rsb10
        case ysb10 => intro W hSw; go_simp; try with_reducible rfl
        try simp only [Act.put, List.setIfInBounds_toArray, List.set_cons_zero, List.set_cons_succ]
        refine skipH 11 rfl (by kernel_rfl) (by kernel_rfl) (by kernel_rfl) (fun _ _ _ h => h) hH rfl ?_
        try simp only [Act.put, List.setIfInBounds_toArray, List.set_cons_zero, List.set_cons_succ]
        refine skipH 12 rfl (by kernel_rfl) (by kernel_rfl) (by kernel_rfl) (fun _ _ _ h => h) hH rfl ?_
        try simp only [Act.put, List.setIfInBounds_toArray, List.set_cons_zero, List.set_cons_succ]
        refine skipH 13 rfl (by kernel_rfl) (by kernel_rfl) (by kernel_rfl) (fun _ _ _ h => h) hH rfl ?_
        try simp only [Act.put, List.setIfInBounds_toArray, List.set_cons_zero, List.set_cons_succ]
        refine skipH 14 rfl (by kernel_rfl) (by kernel_rfl) (by kernel_rfl) (fun _ _ _ h => h) hH rfl ?_
        try simp only [Act.put, List.setIfInBounds_toArray, List.set_cons_zero, List.set_cons_succ]
        refine skipH 15 rfl (by kernel_rfl) (by kernel_rfl) (by kernel_rfl) (fun _ _ _ h => h) hH rfl ?_
        try simp only [Act.put, List.setIfInBounds_toArray, List.set_cons_zero, List.set_cons_succ]
        refine skipH 16 rfl (by kernel_rfl) (by kernel_rfl) (by kernel_rfl) (fun _ _ _ h => h) hH rfl ?_
        try simp only [Act.put, List.setIfInBounds_toArray, List.set_cons_zero, List.set_cons_succ]
        refine skipH 17 rfl (by kernel_rfl) (by kernel_rfl) (by kernel_rfl) (fun _ _ _ h => h) hH rfl ?_
        try simp only [Act.put, List.setIfInBounds_toArray, List.set_cons_zero, List.set_cons_succ]
        refine skipH 18 rfl (by kernel_rfl) (by kernel_rfl) (by kernel_rfl) (fun _ _ _ h => h) hH rfl ?_
        try simp only [Act.put, List.setIfInBounds_toArray, List.set_cons_zero, List.set_cons_succ]
        refine skipH 19 rfl (by kernel_rfl) (by kernel_rfl) (by kernel_rfl) (fun _ _ _ h => h) hH rfl ?_
        try simp only [Act.put, List.setIfInBounds_toArray, List.set_cons_zero, List.set_cons_succ]
        refine skipH 20 rfl (by kernel_rfl) (by kernel_rfl) (by kernel_rfl) (fun _ _ _ h => h) hH rfl ?_
        try simp only [Act.put, List.setIfInBounds_toArray, List.set_cons_zero, List.set_cons_succ]
        refine skipH 21 rfl (by kernel_rfl) (by kernel_rfl) (by kernel_rfl) (fun _ _ _ h => h) hH rfl ?_
        try simp only [Act.put, List.setIfInBounds_toArray, List.set_cons_zero, List.set_cons_succ]
        refine skipH 22 rfl (by kernel_rfl) (by kernel_rfl) (by kernel_rfl) (fun _ _ _ h => h) hH rfl ?_
        try simp only [Act.put, List.setIfInBounds_toArray, List.set_cons_zero, List.set_cons_succ]
        refine skipH 23 rfl (by kernel_rfl) (by kernel_rfl) (by kernel_rfl) (fun _ _ _ h => h) hH rfl ?_
        try simp only [Act.put, List.setIfInBounds_toArray, List.set_cons_zero, List.set_cons_succ]
        refine skipH 24 rfl (by kernel_rfl) (by kernel_rfl) (by kernel_rfl) (fun _ _ _ h => h) hH rfl ?_
        try simp only [Act.put, List.setIfInBounds_toArray, List.set_cons_zero, List.set_cons_succ]
        refine takeH 25 (v := ?vsb11) rfl (by kernel_rfl) (by kernel_rfl) (by kernel_rfl) (fun _ _ _ h => h) hH rfl ?ysb11 ?rsb11
        case ysb11 => intro W hSw; go_simp; try with_reducible rfl
        try simp only [Act.put, List.setIfInBounds_toArray, List.set_cons_zero, List.set_cons_succ]
        refine takeH 26 (v := ?vsb12) rfl (by kernel_rfl) (by kernel_rfl) (by kernel_rfl) (fun _ _ _ h => h) hH rfl ?ysb12 ?rsb12
        case ysb12 => intro W hSw; go_simp; try with_reducible rfl
        try simp only [Act.put, List.setIfInBounds_toArray, List.set_cons_zero, List.set_cons_succ]
        refine skipH 27 rfl (by kernel_rfl) (by kernel_rfl) (by kernel_rfl) (fun _ _ _ h => h) hH rfl ?_
        try simp only [Act.put, List.setIfInBounds_toArray, List.set_cons_zero, List.set_cons_succ]
        refine skipH 28 rfl (by kernel_rfl) (by kernel_rfl) (by kernel_rfl) (fun _ _ _ h => h) hH rfl ?_
        try simp only [Act.put, List.setIfInBounds_toArray, List.set_cons_zero, List.set_cons_succ]
        refine skipH 29 rfl (by kernel_rfl) (by kernel_rfl) (by kernel_rfl) (fun _ _ _ h => h) hH rfl ?_
        try simp only [Act.put, List.setIfInBounds_toArray, List.set_cons_zero, List.set_cons_succ]
        refine skipH 30 rfl (by kernel_rfl) (by kernel_rfl) (by kernel_rfl) (fun _ _ _ h => h) hH rfl ?_
        try simp only [Act.put, List.setIfInBounds_toArray, List.set_cons_zero, List.set_cons_succ]
        refine skipH 31 rfl (by kernel_rfl) (by kernel_rfl) (by kernel_rfl) (fun _ _ _ h => h) hH rfl ?_
        try simp only [Act.put, List.setIfInBounds_toArray, List.set_cons_zero, List.set_cons_succ]
        refine skipH 32 rfl (by kernel_rfl) (by kernel_rfl) (by kernel_rfl) (fun _ _ _ h => h) hH rfl ?_
        try simp only [Act.put, List.setIfInBounds_toArray, List.set_cons_zero, List.set_cons_succ]
        refine takeH 33 (v := ?vsb13) rfl (by kernel_rfl) (by kernel_rfl) (by kernel_rfl) (fun _ _ _ h => h) hH rfl ?ysb13 ?rsb13
        case ysb13 => intro W hSw; go_simp; try with_reducible rfl
        try simp only [Act.put, List.setIfInBounds_toArray, List.set_cons_zero, List.set_cons_succ]
        have Hbz := Lib.hid hH.1
        refine wpAnyH_done (by kernel_rfl) ?_ _
        try simp only [Act.put]
        clear hH z0 z1 y0 y1 y2 y3
        go_wp2
        go_ret
        exact ⟨ret_bool (by rw [(Hz.out)]), by rw [hSe]; exact Hb0.out.trans ((below_step HbB.out HbB.out.size Hbz.out).mono (by omega))⟩
      have g2 : decide (xr < f) = false := decide_eq_false h2
      have Hf := Lib.hid (show f ≤ xr by omega)
      by_cases h0 : 0 < k
      · have g0 : decide ((0 : Int) < (k : Int)) = true := decide_eq_true (by omega)
        have g0' : (0 : Int) < (k : Int) := by omega
        have p0 := (HbA.out.cell (p := ⟨b, off + (k - 1) * 4, none⟩) hb).trans (Hpd.out h0)
        have e3 : ((k : Int) - 1).toNat = k - 1 := by omega
        have e4 : 0 ≤ (k : Int) - 1 := by omega
        have e5 : 1 ≤ (k : Int) := by omega
        have e6 : (k : Int) - 1 < l.length := by omega
        by_cases h3 : pd < xd
        · have g3 : decide (xd ≤ pd) = false := decide_eq_false (by omega)
          have Hok := Lib.hid (fun (_ : 0 < k) => h3)
          have H1 := Lib.hid h1
          clear h1 h2 h0 h3
          go_wp2_with fail
          generalize wr.alloc (.cells #[.int .i64 xd, .int .i64 xa, .int .i64 xr, .int .i64 xs] 27) = wB at *
          generalize hVe : wr.heap.size = VB at *
          clear hVe
          refine wp_region_held_drew (S := fun W => Below wB.heap.size wB W ∧ W.cell? ⟨SB, 0, none⟩ = some (.int .i64 f) ∧ W.cell? ⟨SB, 1, none⟩ = some (.slice (some ⟨b, off, none⟩) l.length vc) ∧ W.cell? ⟨VB, 0, none⟩ = some (.int .i64 xd) ∧ W.cell? ⟨VB, 1, none⟩ = some (.int .i64 xa) ∧ W.cell? ⟨VB, 2, none⟩ = some (.int .i64 xr) ∧ W.cell? ⟨VB, 3, none⟩ = some (.int .i64 xs) ∧ W.cell? ⟨b, off + (k - 1) * 4, none⟩ = some (.int .i64 pd)) (by kernel_rfl) ⟨(Below.refl _ _).drew, z0, z1, y0, y1, y2, y3, p0⟩ (fun hH => ?_)
          refine takeH 0 (v := ?vsc1) rfl (by kernel_rfl) (by kernel_rfl) (by kernel_rfl) (fun _ _ _ h => h) hH rfl ?ysc1 ?rsc1
          case ysc1 => intro W hSw; go_simp; try with_reducible rfl
          try simp only [Act.put, List.setIfInBounds_toArray, List.set_cons_zero, List.set_cons_succ]
          refine callH 1 rfl (by kernel_rfl) rfl (fun K hK => ?_)
          go_simp
          go_at_call 29
          refine (HV.out _).mono ?_
          rintro e wv ⟨rfl, hbz⟩
          refine hK.out _ _ ⟨below_step hH.1 hH.1.size hbz, (hbz.cell (p := ⟨SB, 0, none⟩) (Nat.lt_of_lt_of_le hSB hH.1.size)).trans hH.2.1, (hbz.cell (p := ⟨SB, 1, none⟩) (Nat.lt_of_lt_of_le hSB hH.1.size)).trans hH.2.2.1, (hbz.cell (p := ⟨VB, 0, none⟩) (Nat.lt_of_lt_of_le hVB hH.1.size)).trans hH.2.2.2.1, (hbz.cell (p := ⟨VB, 1, none⟩) (Nat.lt_of_lt_of_le hVB hH.1.size)).trans hH.2.2.2.2.1, (hbz.cell (p := ⟨VB, 2, none⟩) (Nat.lt_of_lt_of_le hVB hH.1.size)).trans hH.2.2.2.2.2.1, (hbz.cell (p := ⟨VB, 3, none⟩) (Nat.lt_of_lt_of_le hVB hH.1.size)).trans hH.2.2.2.2.2.2.1, (hbz.cell (p := ⟨b, off + (k - 1) * 4, none⟩) (Nat.lt_of_lt_of_le hbB hH.1.size)).trans hH.2.2.2.2.2.2.2⟩ (fun hH => ?_)
          clear hK K
          try simp only [Act.put, List.setIfInBounds_toArray, List.set_cons_zero, List.set_cons_succ]
          refine takeH 2 (v := ?vsc2) rfl (by kernel_rfl) (by kernel_rfl) (by kernel_rfl) (fun _ _ _ h => h) hH rfl ?ysc2 ?rsc2
          case ysc2 => intro W hSw; go_simp; try with_reducible rfl
          try simp only [Act.put, List.setIfInBounds_toArray, List.set_cons_zero, List.set_cons_succ]
          refine takeH 3 (v := ?vsc3) rfl (by kernel_rfl) (by kernel_rfl) (by kernel_rfl) (fun _ _ _ h => h) hH rfl ?ysc3 ?rsc3
          case ysc3 => intro W hSw; go_simp; try with_reducible rfl
          try simp only [Act.put, List.setIfInBounds_toArray, List.set_cons_zero, List.set_cons_succ]
          refine takeH 4 (v := ?vsc4) rfl (by kernel_rfl) (by kernel_rfl) (by kernel_rfl) (fun _ _ _ h => h) hH rfl ?ysc4 ?rsc4
          case ysc4 => intro W hSw; go_simp; try with_reducible rfl
          try simp only [Act.put, List.setIfInBounds_toArray, List.set_cons_zero, List.set_cons_succ]
          refine takeH 5 (v := ?vsc5) rfl (by kernel_rfl) (by kernel_rfl) (by kernel_rfl) (fun _ _ _ h => h) hH rfl ?ysc5 ?rsc5
          case ysc5 => intro W hSw; go_simp; try with_reducible rfl
          try simp only [Act.put, List.setIfInBounds_toArray, List.set_cons_zero, List.set_cons_succ]
          refine takeH 6 (v := ?vsc6) rfl (by kernel_rfl) (by kernel_rfl) (by kernel_rfl) (fun _ _ _ h => h) hH rfl ?ysc6 ?rsc6
          case ysc6 => intro W hSw; go_simp; try with_reducible rfl
          try simp only [Act.put, List.setIfInBounds_toArray, List.set_cons_zero, List.set_cons_succ]
          refine takeH 7 (v := ?vsc7) rfl (by kernel_rfl) (by kernel_rfl) (by kernel_rfl) (fun _ _ _ h => h) hH rfl ?ysc7 ?rsc7
          case ysc7 => intro W hSw; go_simp; try with_reducible rfl
          try simp only [Act.put, List.setIfInBounds_toArray, List.set_cons_zero, List.set_cons_succ]
          refine takeH 8 (v := ?vsc8) rfl (by kernel_rfl) (by kernel_rfl) (by kernel_rfl) (fun _ _ _ h => h) hH rfl ?ysc8 ?rsc8
          case ysc8 => intro W hSw; go_simp; try with_reducible rfl
          try simp only [Act.put, List.setIfInBounds_toArray, List.set_cons_zero, List.set_cons_succ]
          refine takeH 9 (v := ?vsc9) rfl (by kernel_rfl) (by kernel_rfl) (by kernel_rfl) (fun _ _ _ h => h) hH rfl ?ysc9 ?rsc9
          case ysc9 => intro W hSw; go_simp; try with_reducible rfl
          try simp only [Act.put, List.setIfInBounds_toArray, List.set_cons_zero, List.set_cons_succ]
          refine takeH 10 (v := ?vsc10) rfl (by kernel_rfl) (by kernel_rfl) (by kernel_rfl) (fun _ _ _ h => h) hH rfl ?ysc10 ?rsc10
          case ysc10 => intro W hSw; go_simp; try with_reducible rfl
          try simp only [Act.put, List.setIfInBounds_toArray, List.set_cons_zero, List.set_cons_succ]
          refine takeH 11 (v := ?vsc11) rfl (by kernel_rfl) (by kernel_rfl) (by kernel_rfl) (fun _ _ _ h => h) hH rfl ?ysc11 ?rsc11
          case ysc11 => intro W hSw; go_simp; try with_reducible rfl
          try simp only [Act.put, List.setIfInBounds_toArray, List.set_cons_zero, List.set_cons_succ]
          refine takeH 12 (v := .bool true) rfl (by kernel_rfl) (by kernel_rfl) (by kernel_rfl) (fun _ _ _ h => h) hH rfl ?ysc12 ?rsc12
          case ysc12 => intro W hSw; go_simp; first | done | simp only [g0, g0', decide_true] | omega | (simp; omega)
          try simp only [Act.put, List.setIfInBounds_toArray, List.set_cons_zero, List.set_cons_succ]
          refine takeH 13 (v := ?vsc13) rfl (by kernel_rfl) (by kernel_rfl) (by kernel_rfl) (fun _ _ _ h => h) hH rfl ?ysc13 ?rsc13
          case ysc13 => intro W hSw; go_simp; try with_reducible rfl
          try simp only [Act.put, List.setIfInBounds_toArray, List.set_cons_zero, List.set_cons_succ]
          refine takeH 14 (v := ?vsc14) rfl (by kernel_rfl) (by kernel_rfl) (by kernel_rfl) (fun _ _ _ h => h) hH rfl ?ysc14 ?rsc14
          case ysc14 => intro W hSw; go_simp; try with_reducible rfl
          try simp only [Act.put, List.setIfInBounds_toArray, List.set_cons_zero, List.set_cons_succ]
          refine takeH 15 (v := ?vsc15) rfl (by kernel_rfl) (by kernel_rfl) (by kernel_rfl) (fun _ _ _ h => h) hH rfl ?ysc15 ?rsc15
          case ysc15 => intro W hSw; go_simp; try with_reducible rfl
          try simp only [Act.put, List.setIfInBounds_toArray, List.set_cons_zero, List.set_cons_succ]
          refine takeH 16 (v := ?vsc16) rfl (by kernel_rfl) (by kernel_rfl) (by kernel_rfl) (fun _ _ _ h => h) hH rfl ?ysc16 ?rsc16
          case ysc16 => intro W hSw; go_simp; try with_reducible rfl
          try simp only [Act.put, List.setIfInBounds_toArray, List.set_cons_zero, List.set_cons_succ]
          refine takeH 17 (v := ?vsc17) rfl (by kernel_rfl) (by kernel_rfl) (by kernel_rfl) (fun _ _ _ h => h) hH rfl ?ysc17 ?rsc17
          case ysc17 => intro W hSw; go_simp; try with_reducible rfl
          try simp only [Act.put, List.setIfInBounds_toArray, List.set_cons_zero, List.set_cons_succ]
          refine takeH 18 (v := ?vsc18) rfl (by kernel_rfl) (by kernel_rfl) (by kernel_rfl) (fun _ _ _ h => h) hH rfl ?ysc18 ?rsc18
          case ysc18 => intro W hSw; go_simp; try with_reducible rfl
          try simp only [Act.put, List.setIfInBounds_toArray, List.set_cons_zero, List.set_cons_succ]
          refine takeH 19 (v := ?vsc19) rfl (by kernel_rfl) (by kernel_rfl) (by kernel_rfl) (fun _ _ _ h => h) hH rfl ?ysc19 ?rsc19
          case ysc19 => intro W hSw; go_simp; try with_reducible rfl
          try simp only [Act.put, List.setIfInBounds_toArray, List.set_cons_zero, List.set_cons_succ]
          refine takeH 20 (v := ?vsc20) rfl (by kernel_rfl) (by kernel_rfl) (by kernel_rfl) (fun _ _ _ h => h) hH rfl ?ysc20 ?rsc20
          case ysc20 => intro W hSw; go_simp; try with_reducible rfl
          try simp only [Act.put, List.setIfInBounds_toArray, List.set_cons_zero, List.set_cons_succ]
          refine takeH 21 (v := ?vsc21) rfl (by kernel_rfl) (by kernel_rfl) (by kernel_rfl) (fun _ _ _ h => h) hH rfl ?ysc21 ?rsc21
          case ysc21 => intro W hSw; go_simp; try with_reducible rfl
          try simp only [Act.put, List.setIfInBounds_toArray, List.set_cons_zero, List.set_cons_succ]
          refine takeH 22 (v := ?vsc22) rfl (by kernel_rfl) (by kernel_rfl) (by kernel_rfl) (fun _ _ _ h => h) hH rfl ?ysc22 ?rsc22
          case ysc22 => intro W hSw; go_simp; try with_reducible rfl
          try simp only [Act.put, List.setIfInBounds_toArray, List.set_cons_zero, List.set_cons_succ]
          refine takeH 23 (v := ?vsc23) rfl (by kernel_rfl) (by kernel_rfl) (by kernel_rfl) (fun _ _ _ h => h) hH rfl ?ysc23 ?rsc23
          case ysc23 => intro W hSw; go_simp; try with_reducible rfl
          try simp only [Act.put, List.setIfInBounds_toArray, List.set_cons_zero, List.set_cons_succ]
          refine takeH 24 (v := ?vsc24) rfl (by kernel_rfl) (by kernel_rfl) (by kernel_rfl) (fun _ _ _ h => h) hH rfl ?ysc24 ?rsc24
          case ysc24 => intro W hSw; go_simp; try with_reducible rfl
          try simp only [Act.put, List.setIfInBounds_toArray, List.set_cons_zero, List.set_cons_succ]
          refine takeH 25 (v := ?vsc25) rfl (by kernel_rfl) (by kernel_rfl) (by kernel_rfl) (fun _ _ _ h => h) hH rfl ?ysc25 ?rsc25
          case ysc25 => intro W hSw; go_simp; try with_reducible rfl
          try simp only [Act.put, List.setIfInBounds_toArray, List.set_cons_zero, List.set_cons_succ]
          refine takeH 26 (v := ?vsc26) rfl (by kernel_rfl) (by kernel_rfl) (by kernel_rfl) (fun _ _ _ h => h) hH rfl ?ysc26 ?rsc26
          case ysc26 => intro W hSw; go_simp; try with_reducible rfl
          try simp only [Act.put, List.setIfInBounds_toArray, List.set_cons_zero, List.set_cons_succ]
          refine takeH 27 (v := ?vsc27) rfl (by kernel_rfl) (by kernel_rfl) (by kernel_rfl) (fun _ _ _ h => h) hH rfl ?ysc27 ?rsc27
          case ysc27 => intro W hSw; go_simp; try with_reducible rfl
          try simp only [Act.put, List.setIfInBounds_toArray, List.set_cons_zero, List.set_cons_succ]
          refine takeH 28 (v := ?vsc28) rfl (by kernel_rfl) (by kernel_rfl) (by kernel_rfl) (fun _ _ _ h => h) hH rfl ?ysc28 ?rsc28
          case ysc28 => intro W hSw; go_simp; try with_reducible rfl
          try simp only [Act.put, List.setIfInBounds_toArray, List.set_cons_zero, List.set_cons_succ]
          refine takeH 29 (v := ?vsc29) rfl (by kernel_rfl) (by kernel_rfl) (by kernel_rfl) (fun _ _ _ h => h) hH rfl ?ysc29 ?rsc29
          case ysc29 => intro W hSw; go_simp; try with_reducible rfl
          try simp only [Act.put, List.setIfInBounds_toArray, List.set_cons_zero, List.set_cons_succ]
          refine takeH 30 (v := ?vsc30) rfl (by kernel_rfl) (by kernel_rfl) (by kernel_rfl) (fun _ _ _ h => h) hH rfl ?ysc30 ?rsc30
          case ysc30 => intro W hSw; go_simp; try with_reducible rfl
          try simp only [Act.put, List.setIfInBounds_toArray, List.set_cons_zero, List.set_cons_succ]
          refine callH 31 rfl (by kernel_rfl) rfl (fun K hK => ?_)
          go_simp
          go_at_call 30
          refine (HU.out _ (below_step HbB.out HbB.out.size hH.1)).mono ?_
          rintro e wz ⟨n, rfl, hn, hdz⟩
          have Hn := Lib.hid hn
          have hbz := hdz.below wv.heap.size
          refine hK.out _ _ ⟨below_step hH.1 hH.1.size hbz, (hbz.cell (p := ⟨SB, 0, none⟩) (Nat.lt_of_lt_of_le hSB hH.1.size)).trans hH.2.1, (hbz.cell (p := ⟨SB, 1, none⟩) (Nat.lt_of_lt_of_le hSB hH.1.size)).trans hH.2.2.1, (hbz.cell (p := ⟨VB, 0, none⟩) (Nat.lt_of_lt_of_le hVB hH.1.size)).trans hH.2.2.2.1, (hbz.cell (p := ⟨VB, 1, none⟩) (Nat.lt_of_lt_of_le hVB hH.1.size)).trans hH.2.2.2.2.1, (hbz.cell (p := ⟨VB, 2, none⟩) (Nat.lt_of_lt_of_le hVB hH.1.size)).trans hH.2.2.2.2.2.1, (hbz.cell (p := ⟨VB, 3, none⟩) (Nat.lt_of_lt_of_le hVB hH.1.size)).trans hH.2.2.2.2.2.2.1, (hbz.cell (p := ⟨b, off + (k - 1) * 4, none⟩) (Nat.lt_of_lt_of_le hbB hH.1.size)).trans hH.2.2.2.2.2.2.2⟩ (fun hH => ?_)
          clear hK K
          try simp only [Act.put, List.setIfInBounds_toArray, List.set_cons_zero, List.set_cons_succ]
          refine takeH 32 (v := ?vsc31) rfl (by kernel_rfl) (by kernel_rfl) (by kernel_rfl) (fun _ _ _ h => h) hH rfl ?ysc31 ?rsc31
          case ysc31 => intro W hSw; go_simp; try with_reducible rfl
          try simp only [Act.put, List.setIfInBounds_toArray, List.set_cons_zero, List.set_cons_succ]
          refine takeH 33 (v := ?vsc32) rfl (by kernel_rfl) (by kernel_rfl) (by kernel_rfl) (fun _ _ _ h => h) hH rfl ?ysc32 ?rsc32
          case ysc32 => intro W hSw; go_simp; try with_reducible rfl
          try simp only [Act.put, List.setIfInBounds_toArray, List.set_cons_zero, List.set_cons_succ]
          have Hbz := Lib.hid hH.1
          refine wpAnyH_done (by kernel_rfl) ?_ _
          try simp only [Act.put]
          clear hH z0 z1 y0 y1 y2 y3 p0
          by_cases h30 : 30 < n
          · have g30 : decide (30 < n) = true := decide_eq_true h30
            have Hz := Lib.hid (Hno4.out n Hn.out h30)
            go_wp2
            go_ret
            exact ⟨ret_bool (by rw [Hz.out]), by rw [hSe]; exact Hb0.out.trans ((below_step HbB.out HbB.out.size Hbz.out).mono (by omega))⟩
          · have g30 : decide (30 < n) = false := decide_eq_false h30
            have Hy := Lib.hid (Hyes.out n Hn.out (by omega) H1.out Hf.out Hok.out)
            go_wp2
            go_roundw
            case rel => exact ⟨k + 1, by omega, by go_num, Hy, below_step HbB.out HbB.out.size Hbz.out⟩
            case measure => simp [intOf]; omega
        · have g3 : decide (xd ≤ pd) = true := decide_eq_true (by omega)
          have Hz := Lib.hid (Hno3.out h0 h3)
          clear h1 h2 h0 h3
          go_wp2_with fail
          generalize wr.alloc (.cells #[.int .i64 xd, .int .i64 xa, .int .i64 xr, .int .i64 xs] 27) = wB at *
          generalize hVe : wr.heap.size = VB at *
          clear hVe
          refine wp_region_held_drew (S := fun W => Below wB.heap.size wB W ∧ W.cell? ⟨SB, 0, none⟩ = some (.int .i64 f) ∧ W.cell? ⟨SB, 1, none⟩ = some (.slice (some ⟨b, off, none⟩) l.length vc) ∧ W.cell? ⟨VB, 0, none⟩ = some (.int .i64 xd) ∧ W.cell? ⟨VB, 1, none⟩ = some (.int .i64 xa) ∧ W.cell? ⟨VB, 2, none⟩ = some (.int .i64 xr) ∧ W.cell? ⟨VB, 3, none⟩ = some (.int .i64 xs) ∧ W.cell? ⟨b, off + (k - 1) * 4, none⟩ = some (.int .i64 pd)) (by kernel_rfl) ⟨(Below.refl _ _).drew, z0, z1, y0, y1, y2, y3, p0⟩ (fun hH => ?_)
          refine takeH 0 (v := ?vsd1) rfl (by kernel_rfl) (by kernel_rfl) (by kernel_rfl) (fun _ _ _ h => h) hH rfl ?ysd1 ?rsd1
          case ysd1 => intro W hSw; go_simp; try with_reducible rfl
          try simp only [Act.put, List.setIfInBounds_toArray, List.set_cons_zero, List.set_cons_succ]
          refine callH 1 rfl (by kernel_rfl) rfl (fun K hK => ?_)
          go_simp
          go_at_call 29
          refine (HV.out _).mono ?_
          rintro e wv ⟨rfl, hbz⟩
          refine hK.out _ _ ⟨below_step hH.1 hH.1.size hbz, (hbz.cell (p := ⟨SB, 0, none⟩) (Nat.lt_of_lt_of_le hSB hH.1.size)).trans hH.2.1, (hbz.cell (p := ⟨SB, 1, none⟩) (Nat.lt_of_lt_of_le hSB hH.1.size)).trans hH.2.2.1, (hbz.cell (p := ⟨VB, 0, none⟩) (Nat.lt_of_lt_of_le hVB hH.1.size)).trans hH.2.2.2.1, (hbz.cell (p := ⟨VB, 1, none⟩) (Nat.lt_of_lt_of_le hVB hH.1.size)).trans hH.2.2.2.2.1, (hbz.cell (p := ⟨VB, 2, none⟩) (Nat.lt_of_lt_of_le hVB hH.1.size)).trans hH.2.2.2.2.2.1, (hbz.cell (p := ⟨VB, 3, none⟩) (Nat.lt_of_lt_of_le hVB hH.1.size)).trans hH.2.2.2.2.2.2.1, (hbz.cell (p := ⟨b, off + (k - 1) * 4, none⟩) (Nat.lt_of_lt_of_le hbB hH.1.size)).trans hH.2.2.2.2.2.2.2⟩ (fun hH => ?_)
          clear hK K
          try simp only [Act.put, List.setIfInBounds_toArray, List.set_cons_zero, List.set_cons_succ]
          refine takeH 2 (v := ?vsd2) rfl (by kernel_rfl) (by kernel_rfl) (by kernel_rfl) (fun _ _ _ h => h) hH rfl ?ysd2 ?rsd2
          case ysd2 => intro W hSw; go_simp; try with_reducible rfl
          try simp only [Act.put, List.setIfInBounds_toArray, List.set_cons_zero, List.set_cons_succ]
          refine takeH 3 (v := ?vsd3) rfl (by kernel_rfl) (by kernel_rfl) (by kernel_rfl) (fun _ _ _ h => h) hH rfl ?ysd3 ?rsd3
          case ysd3 => intro W hSw; go_simp; try with_reducible rfl
          try simp only [Act.put, List.setIfInBounds_toArray, List.set_cons_zero, List.set_cons_succ]
          refine takeH 4 (v := ?vsd4) rfl (by kernel_rfl) (by kernel_rfl) (by kernel_rfl) (fun _ _ _ h => h) hH rfl ?ysd4 ?rsd4
          case ysd4 => intro W hSw; go_simp; try with_reducible rfl
          try simp only [Act.put, List.setIfInBounds_toArray, List.set_cons_zero, List.set_cons_succ]
          refine takeH 5 (v := ?vsd5) rfl (by kernel_rfl) (by kernel_rfl) (by kernel_rfl) (fun _ _ _ h => h) hH rfl ?ysd5 ?rsd5
          case ysd5 => intro W hSw; go_simp; try with_reducible rfl
          try simp only [Act.put, List.setIfInBounds_toArray, List.set_cons_zero, List.set_cons_succ]
          refine takeH 6 (v := ?vsd6) rfl (by kernel_rfl) (by kernel_rfl) (by kernel_rfl) (fun _ _ _ h => h) hH rfl ?ysd6 ?rsd6
          case ysd6 => intro W hSw; go_simp; try with_reducible rfl
          try simp only [Act.put, List.setIfInBounds_toArray, List.set_cons_zero, List.set_cons_succ]
          refine takeH 7 (v := ?vsd7) rfl (by kernel_rfl) (by kernel_rfl) (by kernel_rfl) (fun _ _ _ h => h) hH rfl ?ysd7 ?rsd7
          case ysd7 => intro W hSw; go_simp; try with_reducible rfl
          try simp only [Act.put, List.setIfInBounds_toArray, List.set_cons_zero, List.set_cons_succ]
          refine takeH 8 (v := ?vsd8) rfl (by kernel_rfl) (by kernel_rfl) (by kernel_rfl) (fun _ _ _ h => h) hH rfl ?ysd8 ?rsd8
          case ysd8 => intro W hSw; go_simp; try with_reducible rfl
          try simp only [Act.put, List.setIfInBounds_toArray, List.set_cons_zero, List.set_cons_succ]
          refine takeH 9 (v := ?vsd9) rfl (by kernel_rfl) (by kernel_rfl) (by kernel_rfl) (fun _ _ _ h => h) hH rfl ?ysd9 ?rsd9
          case ysd9 => intro W hSw; go_simp; try with_reducible rfl
          try simp only [Act.put, List.setIfInBounds_toArray, List.set_cons_zero, List.set_cons_succ]
          refine takeH 10 (v := ?vsd10) rfl (by kernel_rfl) (by kernel_rfl) (by kernel_rfl) (fun _ _ _ h => h) hH rfl ?ysd10 ?rsd10
          case ysd10 => intro W hSw; go_simp; try with_reducible rfl
          try simp only [Act.put, List.setIfInBounds_toArray, List.set_cons_zero, List.set_cons_succ]
          refine takeH 11 (v := ?vsd11) rfl (by kernel_rfl) (by kernel_rfl) (by kernel_rfl) (fun _ _ _ h => h) hH rfl ?ysd11 ?rsd11
          case ysd11 => intro W hSw; go_simp; try with_reducible rfl
          try simp only [Act.put, List.setIfInBounds_toArray, List.set_cons_zero, List.set_cons_succ]
          refine takeH 12 (v := .bool true) rfl (by kernel_rfl) (by kernel_rfl) (by kernel_rfl) (fun _ _ _ h => h) hH rfl ?ysd12 ?rsd12
          case ysd12 => intro W hSw; go_simp; first | done | simp only [g0, g0', decide_true] | omega | (simp; omega)
          try simp only [Act.put, List.setIfInBounds_toArray, List.set_cons_zero, List.set_cons_succ]
          refine takeH 13 (v := ?vsd13) rfl (by kernel_rfl) (by kernel_rfl) (by kernel_rfl) (fun _ _ _ h => h) hH rfl ?ysd13 ?rsd13
          case ysd13 => intro W hSw; go_simp; try with_reducible rfl
          try simp only [Act.put, List.setIfInBounds_toArray, List.set_cons_zero, List.set_cons_succ]
          refine takeH 14 (v := ?vsd14) rfl (by kernel_rfl) (by kernel_rfl) (by kernel_rfl) (fun _ _ _ h => h) hH rfl ?ysd14 ?rsd14
          case ysd14 => intro W hSw; go_simp; try with_reducible rfl
          try simp only [Act.put, List.setIfInBounds_toArray, List.set_cons_zero, List.set_cons_succ]
          refine takeH 15 (v := ?vsd15) rfl (by kernel_rfl) (by kernel_rfl) (by kernel_rfl) (fun _ _ _ h => h) hH rfl ?ysd15 ?rsd15
          case ysd15 => intro W hSw; go_simp; try with_reducible rfl
          try simp only [Act.put, List.setIfInBounds_toArray, List.set_cons_zero, List.set_cons_succ]
          refine takeH 16 (v := ?vsd16) rfl (by kernel_rfl) (by kernel_rfl) (by kernel_rfl) (fun _ _ _ h => h) hH rfl ?ysd16 ?rsd16
          case ysd16 => intro W hSw; go_simp; try with_reducible rfl
          try simp only [Act.put, List.setIfInBounds_toArray, List.set_cons_zero, List.set_cons_succ]
          refine takeH 17 (v := ?vsd17) rfl (by kernel_rfl) (by kernel_rfl) (by kernel_rfl) (fun _ _ _ h => h) hH rfl ?ysd17 ?rsd17
          case ysd17 => intro W hSw; go_simp; try with_reducible rfl
          try simp only [Act.put, List.setIfInBounds_toArray, List.set_cons_zero, List.set_cons_succ]
          refine takeH 18 (v := ?vsd18) rfl (by kernel_rfl) (by kernel_rfl) (by kernel_rfl) (fun _ _ _ h => h) hH rfl ?ysd18 ?rsd18
          case ysd18 => intro W hSw; go_simp; try with_reducible rfl
          try simp only [Act.put, List.setIfInBounds_toArray, List.set_cons_zero, List.set_cons_succ]
          refine takeH 19 (v := ?vsd19) rfl (by kernel_rfl) (by kernel_rfl) (by kernel_rfl) (fun _ _ _ h => h) hH rfl ?ysd19 ?rsd19
          case ysd19 => intro W hSw; go_simp; try with_reducible rfl
          try simp only [Act.put, List.setIfInBounds_toArray, List.set_cons_zero, List.set_cons_succ]
          refine takeH 20 (v := ?vsd20) rfl (by kernel_rfl) (by kernel_rfl) (by kernel_rfl) (fun _ _ _ h => h) hH rfl ?ysd20 ?rsd20
          case ysd20 => intro W hSw; go_simp; try with_reducible rfl
          try simp only [Act.put, List.setIfInBounds_toArray, List.set_cons_zero, List.set_cons_succ]
          refine takeH 21 (v := ?vsd21) rfl (by kernel_rfl) (by kernel_rfl) (by kernel_rfl) (fun _ _ _ h => h) hH rfl ?ysd21 ?rsd21
          case ysd21 => intro W hSw; go_simp; try with_reducible rfl
          try simp only [Act.put, List.setIfInBounds_toArray, List.set_cons_zero, List.set_cons_succ]
          refine takeH 22 (v := ?vsd22) rfl (by kernel_rfl) (by kernel_rfl) (by kernel_rfl) (fun _ _ _ h => h) hH rfl ?ysd22 ?rsd22
          case ysd22 => intro W hSw; go_simp; try with_reducible rfl
          try simp only [Act.put, List.setIfInBounds_toArray, List.set_cons_zero, List.set_cons_succ]
          refine takeH 23 (v := ?vsd23) rfl (by kernel_rfl) (by kernel_rfl) (by kernel_rfl) (fun _ _ _ h => h) hH rfl ?ysd23 ?rsd23
          case ysd23 => intro W hSw; go_simp; try with_reducible rfl
          try simp only [Act.put, List.setIfInBounds_toArray, List.set_cons_zero, List.set_cons_succ]
          refine takeH 24 (v := ?vsd24) rfl (by kernel_rfl) (by kernel_rfl) (by kernel_rfl) (fun _ _ _ h => h) hH rfl ?ysd24 ?rsd24
          case ysd24 => intro W hSw; go_simp; try with_reducible rfl
          try simp only [Act.put, List.setIfInBounds_toArray, List.set_cons_zero, List.set_cons_succ]
          refine takeH 25 (v := ?vsd25) rfl (by kernel_rfl) (by kernel_rfl) (by kernel_rfl) (fun _ _ _ h => h) hH rfl ?ysd25 ?rsd25
          case ysd25 => intro W hSw; go_simp; try with_reducible rfl
          try simp only [Act.put, List.setIfInBounds_toArray, List.set_cons_zero, List.set_cons_succ]
          refine takeH 26 (v := ?vsd26) rfl (by kernel_rfl) (by kernel_rfl) (by kernel_rfl) (fun _ _ _ h => h) hH rfl ?ysd26 ?rsd26
          case ysd26 => intro W hSw; go_simp; try with_reducible rfl
          try simp only [Act.put, List.setIfInBounds_toArray, List.set_cons_zero, List.set_cons_succ]
          refine skipH 27 rfl (by kernel_rfl) (by kernel_rfl) (by kernel_rfl) (fun _ _ _ h => h) hH rfl ?_
          try simp only [Act.put, List.setIfInBounds_toArray, List.set_cons_zero, List.set_cons_succ]
          refine skipH 28 rfl (by kernel_rfl) (by kernel_rfl) (by kernel_rfl) (fun _ _ _ h => h) hH rfl ?_
          try simp only [Act.put, List.setIfInBounds_toArray, List.set_cons_zero, List.set_cons_succ]
          refine skipH 29 rfl (by kernel_rfl) (by kernel_rfl) (by kernel_rfl) (fun _ _ _ h => h) hH rfl ?_
          try simp only [Act.put, List.setIfInBounds_toArray, List.set_cons_zero, List.set_cons_succ]
          refine skipH 30 rfl (by kernel_rfl) (by kernel_rfl) (by kernel_rfl) (fun _ _ _ h => h) hH rfl ?_
          try simp only [Act.put, List.setIfInBounds_toArray, List.set_cons_zero, List.set_cons_succ]
          refine skipH 31 rfl (by kernel_rfl) (by kernel_rfl) (by kernel_rfl) (fun _ _ _ h => h) hH rfl ?_
          try simp only [Act.put, List.setIfInBounds_toArray, List.set_cons_zero, List.set_cons_succ]
          refine skipH 32 rfl (by kernel_rfl) (by kernel_rfl) (by kernel_rfl) (fun _ _ _ h => h) hH rfl ?_
          try simp only [Act.put, List.setIfInBounds_toArray, List.set_cons_zero, List.set_cons_succ]
          refine takeH 33 (v := ?vsd27) rfl (by kernel_rfl) (by kernel_rfl) (by kernel_rfl) (fun _ _ _ h => h) hH rfl ?ysd27 ?rsd27
          case ysd27 => intro W hSw; go_simp; try with_reducible rfl
          try simp only [Act.put, List.setIfInBounds_toArray, List.set_cons_zero, List.set_cons_succ]
          have Hbz := Lib.hid hH.1
          refine wpAnyH_done (by kernel_rfl) ?_ _
          try simp only [Act.put]
          clear hH z0 z1 y0 y1 y2 y3 p0
          go_wp2
          go_ret
          exact ⟨ret_bool (by rw [(Hz.out)]), by rw [hSe]; exact Hb0.out.trans ((below_step HbB.out HbB.out.size Hbz.out).mono (by omega))⟩
      · have g0 : decide ((0 : Int) < (k : Int)) = false := decide_eq_false (by omega)
        have g0' : ¬ (0 : Int) < (k : Int) := by omega
        have Hok := Lib.hid (fun (h : 0 < k) => show pd < xd from absurd h h0)
        have H1 := Lib.hid h1
        clear h1 h2 h0 hw1
        go_wp2_with fail
        generalize wr.alloc (.cells #[.int .i64 xd, .int .i64 xa, .int .i64 xr, .int .i64 xs] 27) = wB at *
        generalize hVe : wr.heap.size = VB at *
        clear hVe
        refine wp_region_held_drew (S := fun W => Below wB.heap.size wB W ∧ W.cell? ⟨SB, 0, none⟩ = some (.int .i64 f) ∧ W.cell? ⟨SB, 1, none⟩ = some (.slice (some ⟨b, off, none⟩) l.length vc) ∧ W.cell? ⟨VB, 0, none⟩ = some (.int .i64 xd) ∧ W.cell? ⟨VB, 1, none⟩ = some (.int .i64 xa) ∧ W.cell? ⟨VB, 2, none⟩ = some (.int .i64 xr) ∧ W.cell? ⟨VB, 3, none⟩ = some (.int .i64 xs)) (by kernel_rfl) ⟨(Below.refl _ _).drew, z0, z1, y0, y1, y2, y3⟩ (fun hH => ?_)
        refine takeH 0 (v := ?vse1) rfl (by kernel_rfl) (by kernel_rfl) (by kernel_rfl) (fun _ _ _ h => h) hH rfl ?yse1 ?rse1
        case yse1 => intro W hSw; go_simp; try with_reducible rfl
        try simp only [Act.put, List.setIfInBounds_toArray, List.set_cons_zero, List.set_cons_succ]
        refine callH 1 rfl (by kernel_rfl) rfl (fun K hK => ?_)
        go_simp
        go_at_call 29
        refine (HV.out _).mono ?_
        rintro e wv ⟨rfl, hbz⟩
        refine hK.out _ _ ⟨below_step hH.1 hH.1.size hbz, (hbz.cell (p := ⟨SB, 0, none⟩) (Nat.lt_of_lt_of_le hSB hH.1.size)).trans hH.2.1, (hbz.cell (p := ⟨SB, 1, none⟩) (Nat.lt_of_lt_of_le hSB hH.1.size)).trans hH.2.2.1, (hbz.cell (p := ⟨VB, 0, none⟩) (Nat.lt_of_lt_of_le hVB hH.1.size)).trans hH.2.2.2.1, (hbz.cell (p := ⟨VB, 1, none⟩) (Nat.lt_of_lt_of_le hVB hH.1.size)).trans hH.2.2.2.2.1, (hbz.cell (p := ⟨VB, 2, none⟩) (Nat.lt_of_lt_of_le hVB hH.1.size)).trans hH.2.2.2.2.2.1, (hbz.cell (p := ⟨VB, 3, none⟩) (Nat.lt_of_lt_of_le hVB hH.1.size)).trans hH.2.2.2.2.2.2⟩ (fun hH => ?_)
        clear hK K
        try simp only [Act.put, List.setIfInBounds_toArray, List.set_cons_zero, List.set_cons_succ]
        refine takeH 2 (v := ?vse2) rfl (by kernel_rfl) (by kernel_rfl) (by kernel_rfl) (fun _ _ _ h => h) hH rfl ?yse2 ?rse2
        case yse2 => intro W hSw; go_simp; try with_reducible rfl
        try simp only [Act.put, List.setIfInBounds_toArray, List.set_cons_zero, List.set_cons_succ]
        refine takeH 3 (v := ?vse3) rfl (by kernel_rfl) (by kernel_rfl) (by kernel_rfl) (fun _ _ _ h => h) hH rfl ?yse3 ?rse3
        case yse3 => intro W hSw; go_simp; try with_reducible rfl
        try simp only [Act.put, List.setIfInBounds_toArray, List.set_cons_zero, List.set_cons_succ]
        refine takeH 4 (v := ?vse4) rfl (by kernel_rfl) (by kernel_rfl) (by kernel_rfl) (fun _ _ _ h => h) hH rfl ?yse4 ?rse4
        case yse4 => intro W hSw; go_simp; try with_reducible rfl
        try simp only [Act.put, List.setIfInBounds_toArray, List.set_cons_zero, List.set_cons_succ]
        refine takeH 5 (v := ?vse5) rfl (by kernel_rfl) (by kernel_rfl) (by kernel_rfl) (fun _ _ _ h => h) hH rfl ?yse5 ?rse5
        case yse5 => intro W hSw; go_simp; try with_reducible rfl
        try simp only [Act.put, List.setIfInBounds_toArray, List.set_cons_zero, List.set_cons_succ]
        refine takeH 6 (v := ?vse6) rfl (by kernel_rfl) (by kernel_rfl) (by kernel_rfl) (fun _ _ _ h => h) hH rfl ?yse6 ?rse6
        case yse6 => intro W hSw; go_simp; try with_reducible rfl
        try simp only [Act.put, List.setIfInBounds_toArray, List.set_cons_zero, List.set_cons_succ]
        refine takeH 7 (v := ?vse7) rfl (by kernel_rfl) (by kernel_rfl) (by kernel_rfl) (fun _ _ _ h => h) hH rfl ?yse7 ?rse7
        case yse7 => intro W hSw; go_simp; try with_reducible rfl
        try simp only [Act.put, List.setIfInBounds_toArray, List.set_cons_zero, List.set_cons_succ]
        refine takeH 8 (v := ?vse8) rfl (by kernel_rfl) (by kernel_rfl) (by kernel_rfl) (fun _ _ _ h => h) hH rfl ?yse8 ?rse8
        case yse8 => intro W hSw; go_simp; try with_reducible rfl
        try simp only [Act.put, List.setIfInBounds_toArray, List.set_cons_zero, List.set_cons_succ]
        refine takeH 9 (v := ?vse9) rfl (by kernel_rfl) (by kernel_rfl) (by kernel_rfl) (fun _ _ _ h => h) hH rfl ?yse9 ?rse9
        case yse9 => intro W hSw; go_simp; try with_reducible rfl
        try simp only [Act.put, List.setIfInBounds_toArray, List.set_cons_zero, List.set_cons_succ]
        refine takeH 10 (v := ?vse10) rfl (by kernel_rfl) (by kernel_rfl) (by kernel_rfl) (fun _ _ _ h => h) hH rfl ?yse10 ?rse10
        case yse10 => intro W hSw; go_simp; try with_reducible rfl
        try simp only [Act.put, List.setIfInBounds_toArray, List.set_cons_zero, List.set_cons_succ]
        refine takeH 11 (v := ?vse11) rfl (by kernel_rfl) (by kernel_rfl) (by kernel_rfl) (fun _ _ _ h => h) hH rfl ?yse11 ?rse11
        case yse11 => intro W hSw; go_simp; try with_reducible rfl
        try simp only [Act.put, List.setIfInBounds_toArray, List.set_cons_zero, List.set_cons_succ]
        refine takeH 12 (v := .bool false) rfl (by kernel_rfl) (by kernel_rfl) (by kernel_rfl) (fun _ _ _ h => h) hH rfl ?yse12 ?rse12
        case yse12 => intro W hSw; go_simp; first | done | simp only [g0, g0', decide_false] | omega | (simp; omega)
        try simp only [Act.put, List.setIfInBounds_toArray, List.set_cons_zero, List.set_cons_succ]
        refine takeH 13 (v := ?vse13) rfl (by kernel_rfl) (by kernel_rfl) (by kernel_rfl) (fun _ _ _ h => h) hH rfl ?yse13 ?rse13
        case yse13 => intro W hSw; go_simp; try with_reducible rfl
        try simp only [Act.put, List.setIfInBounds_toArray, List.set_cons_zero, List.set_cons_succ]
        refine skipH 14 rfl (by kernel_rfl) (by kernel_rfl) (by kernel_rfl) (fun _ _ _ h => h) hH rfl ?_
        try simp only [Act.put, List.setIfInBounds_toArray, List.set_cons_zero, List.set_cons_succ]
        refine skipH 15 rfl (by kernel_rfl) (by kernel_rfl) (by kernel_rfl) (fun _ _ _ h => h) hH rfl ?_
        try simp only [Act.put, List.setIfInBounds_toArray, List.set_cons_zero, List.set_cons_succ]
        refine skipH 16 rfl (by kernel_rfl) (by kernel_rfl) (by kernel_rfl) (fun _ _ _ h => h) hH rfl ?_
        try simp only [Act.put, List.setIfInBounds_toArray, List.set_cons_zero, List.set_cons_succ]
        refine skipH 17 rfl (by kernel_rfl) (by kernel_rfl) (by kernel_rfl) (fun _ _ _ h => h) hH rfl ?_
        try simp only [Act.put, List.setIfInBounds_toArray, List.set_cons_zero, List.set_cons_succ]
        refine skipH 18 rfl (by kernel_rfl) (by kernel_rfl) (by kernel_rfl) (fun _ _ _ h => h) hH rfl ?_
        try simp only [Act.put, List.setIfInBounds_toArray, List.set_cons_zero, List.set_cons_succ]
        refine skipH 19 rfl (by kernel_rfl) (by kernel_rfl) (by kernel_rfl) (fun _ _ _ h => h) hH rfl ?_
        try simp only [Act.put, List.setIfInBounds_toArray, List.set_cons_zero, List.set_cons_succ]
        refine skipH 20 rfl (by kernel_rfl) (by kernel_rfl) (by kernel_rfl) (fun _ _ _ h => h) hH rfl ?_
        try simp only [Act.put, List.setIfInBounds_toArray, List.set_cons_zero, List.set_cons_succ]
        refine skipH 21 rfl (by kernel_rfl) (by kernel_rfl) (by kernel_rfl) (fun _ _ _ h => h) hH rfl ?_
        try simp only [Act.put, List.setIfInBounds_toArray, List.set_cons_zero, List.set_cons_succ]
        refine skipH 22 rfl (by kernel_rfl) (by kernel_rfl) (by kernel_rfl) (fun _ _ _ h => h) hH rfl ?_
        try simp only [Act.put, List.setIfInBounds_toArray, List.set_cons_zero, List.set_cons_succ]
        refine skipH 23 rfl (by kernel_rfl) (by kernel_rfl) (by kernel_rfl) (fun _ _ _ h => h) hH rfl ?_
        try simp only [Act.put, List.setIfInBounds_toArray, List.set_cons_zero, List.set_cons_succ]
        refine takeH 24 (v := ?vse14) rfl (by kernel_rfl) (by kernel_rfl) (by kernel_rfl) (fun _ _ _ h => h) hH rfl ?yse14 ?rse14
        case yse14 => intro W hSw; go_simp; try with_reducible rfl
        try simp only [Act.put, List.setIfInBounds_toArray, List.set_cons_zero, List.set_cons_succ]
        refine takeH 25 (v := ?vse15) rfl (by kernel_rfl) (by kernel_rfl) (by kernel_rfl) (fun _ _ _ h => h) hH rfl ?yse15 ?rse15
        case yse15 => intro W hSw; go_simp; try with_reducible rfl
        try simp only [Act.put, List.setIfInBounds_toArray, List.set_cons_zero, List.set_cons_succ]
        refine takeH 26 (v := ?vse16) rfl (by kernel_rfl) (by kernel_rfl) (by kernel_rfl) (fun _ _ _ h => h) hH rfl ?yse16 ?rse16
        case yse16 => intro W hSw; go_simp; try with_reducible rfl
        try simp only [Act.put, List.setIfInBounds_toArray, List.set_cons_zero, List.set_cons_succ]
        refine takeH 27 (v := ?vse17) rfl (by kernel_rfl) (by kernel_rfl) (by kernel_rfl) (fun _ _ _ h => h) hH rfl ?yse17 ?rse17
        case yse17 => intro W hSw; go_simp; try with_reducible rfl
        try simp only [Act.put, List.setIfInBounds_toArray, List.set_cons_zero, List.set_cons_succ]
        refine takeH 28 (v := ?vse18) rfl (by kernel_rfl) (by kernel_rfl) (by kernel_rfl) (fun _ _ _ h => h) hH rfl ?yse18 ?rse18
        case yse18 => intro W hSw; go_simp; try with_reducible rfl
        try simp only [Act.put, List.setIfInBounds_toArray, List.set_cons_zero, List.set_cons_succ]
        refine takeH 29 (v := ?vse19) rfl (by kernel_rfl) (by kernel_rfl) (by kernel_rfl) (fun _ _ _ h => h) hH rfl ?yse19 ?rse19
        case yse19 => intro W hSw; go_simp; try with_reducible rfl
        try simp only [Act.put, List.setIfInBounds_toArray, List.set_cons_zero, List.set_cons_succ]
        refine takeH 30 (v := ?vse20) rfl (by kernel_rfl) (by kernel_rfl) (by kernel_rfl) (fun _ _ _ h => h) hH rfl ?yse20 ?rse20
        case yse20 => intro W hSw; go_simp; try with_reducible rfl
        try simp only [Act.put, List.setIfInBounds_toArray, List.set_cons_zero, List.set_cons_succ]
        refine callH 31 rfl (by kernel_rfl) rfl (fun K hK => ?_)
        go_simp
        go_at_call 30
        refine (HU.out _ (below_step HbB.out HbB.out.size hH.1)).mono ?_
        rintro e wz ⟨n, rfl, hn, hdz⟩
        have Hn := Lib.hid hn
        have hbz := hdz.below wv.heap.size
        refine hK.out _ _ ⟨below_step hH.1 hH.1.size hbz, (hbz.cell (p := ⟨SB, 0, none⟩) (Nat.lt_of_lt_of_le hSB hH.1.size)).trans hH.2.1, (hbz.cell (p := ⟨SB, 1, none⟩) (Nat.lt_of_lt_of_le hSB hH.1.size)).trans hH.2.2.1, (hbz.cell (p := ⟨VB, 0, none⟩) (Nat.lt_of_lt_of_le hVB hH.1.size)).trans hH.2.2.2.1, (hbz.cell (p := ⟨VB, 1, none⟩) (Nat.lt_of_lt_of_le hVB hH.1.size)).trans hH.2.2.2.2.1, (hbz.cell (p := ⟨VB, 2, none⟩) (Nat.lt_of_lt_of_le hVB hH.1.size)).trans hH.2.2.2.2.2.1, (hbz.cell (p := ⟨VB, 3, none⟩) (Nat.lt_of_lt_of_le hVB hH.1.size)).trans hH.2.2.2.2.2.2⟩ (fun hH => ?_)
        clear hK K
        try simp only [Act.put, List.setIfInBounds_toArray, List.set_cons_zero, List.set_cons_succ]
        refine takeH 32 (v := ?vse21) rfl (by kernel_rfl) (by kernel_rfl) (by kernel_rfl) (fun _ _ _ h => h) hH rfl ?yse21 ?rse21
        case yse21 => intro W hSw; go_simp; try with_reducible rfl
        try simp only [Act.put, List.setIfInBounds_toArray, List.set_cons_zero, List.set_cons_succ]
        refine takeH 33 (v := ?vse22) rfl (by kernel_rfl) (by kernel_rfl) (by kernel_rfl) (fun _ _ _ h => h) hH rfl ?yse22 ?rse22
        case yse22 => intro W hSw; go_simp; try with_reducible rfl
        try simp only [Act.put, List.setIfInBounds_toArray, List.set_cons_zero, List.set_cons_succ]
        have Hbz := Lib.hid hH.1
        refine wpAnyH_done (by kernel_rfl) ?_ _
        try simp only [Act.put]
        clear hH z0 z1 y0 y1 y2 y3
        by_cases h30 : 30 < n
        · have g30 : decide (30 < n) = true := decide_eq_true h30
          have Hz := Lib.hid (Hno4.out n Hn.out h30)
          go_wp2
          go_ret
          exact ⟨ret_bool (by rw [Hz.out]), by rw [hSe]; exact Hb0.out.trans ((below_step HbB.out HbB.out.size Hbz.out).mono (by omega))⟩
        · have g30 : decide (30 < n) = false := decide_eq_false h30
          have Hy := Lib.hid (Hyes.out n Hn.out (by omega) H1.out Hf.out Hok.out)
          go_wp2
          go_roundw
          case rel => exact ⟨k + 1, by omega, by go_num, Hy, below_step HbB.out HbB.out.size Hbz.out⟩
          case measure => simp [intOf]; omega
    · have Ha := Lib.hid (Hall.out fun j hj => Hup.out j (by omega))
      have Hbel := Lib.hid hbel; clear hbel
      go_wp2_with fail
      refine (HI.out wr).mono ?_
      rintro e w1 ⟨rfl, rfl⟩
      by_cases hf : 0 ≤ f ∧ f ≤ 31
      · rw [decide_eq_true hf]
        have Hz := Lib.hid (show stB f l = decide (l.length ≤ 12) by rw [Ha.out]; exact decide_eq_decide.2 ⟨fun h => h.2, fun h => ⟨hf, h⟩⟩)
        have hlz : decide ((l.length : Int) ≤ 12) = decide (l.length ≤ 12) := decide_eq_decide.2 (by omega)
        clear hf
        go_wp2
        go_ret
        exact ⟨ret_bool (by rw [Hz.out]), by rw [hSe]; exact Hb0.out.trans (Hbel.out.mono (by omega))⟩
      · rw [decide_eq_false hf]
        have Hz := Lib.hid (show stB f l = false by rw [Ha.out]; exact decide_eq_false fun h => hf h.1)
        clear hf
        go_wp2
        go_ret
        exact ⟨ret_bool (by rw [Hz.out]), by rw [hSe]; exact Hb0.out.trans (Hbel.out.mono (by omega))⟩

end Go.Proofs.Ythojbcecbeapgaa

/- The reference's StoreUsed, by a walk of its text; condition: the list has at most 2^20 batches. -/
namespace Go.Proofs.Ythojbcecbeapgaa
open Go.RowKit

/-- What StoreUsed answers. -/
def uzZ (f : Int) (l : List Bt) (a : Int) : Int := if stB f l = true ∧ 0 ≤ a ∧ a ≤ 6 then usZ l a else -1
theorem stB_P {f : Int} {l : List Bt} (h : stB f l = true) : stP f l := of_decide_eq_true h
theorem spec_StoreUsed (f : Int) (l : List Bt) (v : Value) (fp : List Nat) (a : Int) (w : World) (hbig : l.length ≤ 1048577) (hl : Bts w l v fp) :
    Calls Try.prog 18 #[.agg #[.int .i64 f, v], .int .i64 a] w fun e w' => e = .returned (.int .i64 (uzZ f l a)) ∧ Below w.heap.size w w' := by
  obtain ⟨va, vc, rfl, _⟩ := hl.slice
  have hb0 : Below w.heap.size w (w.alloc (.cells #[.int .i64 f, .slice va l.length vc] 25)) := (Below.refl _ _).alloc (Nat.le_refl _) _
  have s0 := Str.new w 25 #[.int .i64 f, .slice va l.length vc]
  have z0 := s0.cell 0 (v := .int .i64 f) rfl
  have z1 := s0.cell 1 (v := .slice va l.length vc) rfl
  have hz : w.heap.size < (w.alloc (.cells #[.int .i64 f, .slice va l.length vc] 25)).heap.size := by simp
  have Hl := Lib.hid (hl.under hb0); clear hl s0
  have Hb0 := Lib.hid hb0; clear hb0
  have HV := Lib.hid (fun W (hr : Bts W l (.slice va l.length vc) fp) => spec_StoreValid f l (.slice va l.length vc) fp W hbig hr)
  have HU := Lib.hid (fun W (hr : Bts W l (.slice va l.length vc) fp) => spec_l23Used l (.slice va l.length vc) fp a W hbig hr)
  have HI := Lib.hid (fun W => spec_l6In a 0 6 W)
  go_enter Try.func18, Try.ntmps18
  go_wp2_with fail
  generalize w.alloc (.cells #[.int .i64 f, .slice va l.length vc] 25) = W0 at *
  refine (HV.out W0 Hl.out).mono ?_
  rintro e w1 ⟨rfl, hb1⟩
  have z0 := (hb1.cell (p := ⟨w.heap.size, 0, none⟩) hz).trans z0
  have z1 := (hb1.cell (p := ⟨w.heap.size, 1, none⟩) hz).trans z1
  have Hl1 := Lib.hid (Hl.out.under hb1)
  have Hb1 := Lib.hid (below_step Hb0.out Hb0.out.size hb1)
  clear hb1
  cases hs : stB f l with
  | false =>
    have Hr := Lib.hid (show uzZ f l a = -1 by unfold uzZ; rw [if_neg (by rw [hs]; simp)])
    clear hs
    go_wp2
    go_ret
    exact ⟨by rw [Hr.out]; rfl, Hb1.out⟩
  | true =>
  go_wp2_with fail
  refine (HI.out w1).mono ?_
  rintro e w2 ⟨rfl, rfl⟩
  by_cases ha : 0 ≤ a ∧ a ≤ 6
  · rw [decide_eq_true ha]
    have Hr := Lib.hid (show uzZ f l a = usZ l a by unfold uzZ; rw [if_pos ⟨hs, ha⟩])
    have Hsm := Lib.hid (st_small (stB_P hs))
    clear hs ha
    go_wp2_with fail
    refine (HU.out w1 Hl1.out).mono ?_
    rintro e w3 ⟨n, rfl, hn, hd⟩
    have Hn := Lib.hid (hn Hsm.out)
    have Hd := Lib.hid (below_step Hb1.out Hb1.out.size (hd.below _))
    clear hn hd
    go_wp2
    go_ret
    exact ⟨by rw [Hr.out, ← Hn.out]; rfl, Hd.out⟩
  · rw [decide_eq_false ha]
    have Hr := Lib.hid (show uzZ f l a = -1 by unfold uzZ; rw [if_neg (fun h => ha h.2)])
    clear hs ha
    go_wp2
    go_ret
    exact ⟨by rw [Hr.out]; rfl, Hb1.out⟩

end Go.Proofs.Ythojbcecbeapgaa

/- The reference's StoreGet, by a walk of its text; condition: the list has at most 2^20 batches. -/
namespace Go.Proofs.Ythojbcecbeapgaa
open Go.RowKit

def bt0 : Bt := ⟨0, 0, 0, 0⟩
/-- What StoreGet answers. -/
def geR (f : Int) (l : List Bt) (d : Int) : Bt × Bool := match (if stB f l = true then geF l d else none) with | some b => (b, true) | none => (bt0, false)
def agB (b : Bt) : Value := .agg #[.int .i64 b.d, .int .i64 b.a, .int .i64 b.r, .int .i64 b.s]
theorem geR_no {f : Int} {l : List Bt} {d : Int} (h : stB f l = false) : geR f l d = (bt0, false) := by unfold geR; rw [if_neg (by rw [h]; simp)]
theorem geR_yes {f : Int} {l : List Bt} {d : Int} (h : stB f l = true) {k : Nat} (hk : k < l.length) (he : l[k].d = d) (_hup : ∀ j (hj : j < l.length), j < k → l[j].d ≠ d) : geR f l d = (l[k], true) := by
  have hg : geF l d = some l[k] := by
    rw [← he]; exact ge_uni (stB_P h).2.2.1 (List.getElem_mem hk)
  unfold geR
  rw [if_pos h, hg]
theorem geR_end {f : Int} {l : List Bt} {d : Int} (hup : ∀ j (hj : j < l.length), l[j].d ≠ d) : geR f l d = (bt0, false) := by
  have hg : geF l d = none := ge_none.2 (by
    cases e : knB l d with
    | false => rfl
    | true =>
      obtain ⟨x, hx, he⟩ := kn_yes.1 e
      obtain ⟨j, hj, rfl⟩ := List.mem_iff_getElem.1 hx
      exact absurd he (hup j hj))
  unfold geR
  split
  · rename_i b e
    rw [hg] at e
    split at e <;> cases e
  · rfl
end Go.Proofs.Ythojbcecbeapgaa

/- What StorePut and StoreForget answer, and what the promises of chapter 23 say of these answers; plain facts, nothing here speaks of the program. -/
namespace Go.Proofs.Ythojbcecbeapgaa
open Go.RowKit

def puL (f : Int) (l : List Bt) (b : Bt) : List Bt := if puC f l b = 4 then [] else if puC f l b = 0 then inS l b else l
def puF (f : Int) (l : List Bt) (b : Bt) : Int := if puC f l b = 4 then 0 else f
theorem pu_four {f : Int} {l : List Bt} {b : Bt} : puC f l b = 4 ↔ ¬ (stB f l = true ∧ btB b = true) := by
  unfold puC
  constructor
  · intro h
    split at h
    · split at h
      · omega
      · split at h
        · omega
        · split at h <;> omega
    · assumption
  · intro h; rw [if_neg h]
theorem pu_some {f : Int} {l : List Bt} {b : Bt} (h : puC f l b ≠ 4) : stB f l = true ∧ btB b = true := by
  by_cases e : stB f l = true ∧ btB b = true
  · exact e
  · exact absurd (pu_four.2 e) h
theorem puL_len (f : Int) (l : List Bt) (b : Bt) : (puL f l b).length ≤ 12 := by
  unfold puL
  split
  · simp
  · rename_i h
    split
    · rename_i h0
      exact (stB_P (pu_valid h0)).2.1
    · exact (stB_P (pu_some h).1).2.1
theorem puL_zero {f : Int} {l : List Bt} {b : Bt} (h : puC f l b = 0) : puL f l b = inS l b ∧ puF f l b = f := by
  unfold puL puF; rw [h]; exact ⟨rfl, rfl⟩
theorem puL_other {f : Int} {l : List Bt} {b : Bt} (h : puC f l b ≠ 0) (h4 : puC f l b ≠ 4) : puL f l b = l ∧ puF f l b = f := by
  unfold puL puF; rw [if_neg h4, if_neg h, if_neg h4]; exact ⟨rfl, rfl⟩
theorem puL_bad {f : Int} {l : List Bt} {b : Bt} (h : puC f l b = 4) : puL f l b = [] ∧ puF f l b = 0 := by
  unfold puL puF; rw [if_pos h, if_pos h]; exact ⟨rfl, rfl⟩
/-- What StoreForget answers. -/
def foB (f : Int) (l : List Bt) (x : Int) : Bool := stB f l && decide (f ≤ x ∧ x ≤ 31)
def foL (f : Int) (l : List Bt) (x : Int) : List Bt := if foB f l x = true then fgL l x else []
def foF (f : Int) (l : List Bt) (x : Int) : Int := if foB f l x = true then x else 0
theorem foB_iff {f : Int} {l : List Bt} {x : Int} : foB f l x = true ↔ stB f l = true ∧ f ≤ x ∧ x ≤ 31 := by unfold foB; rw [Bool.and_eq_true, decide_eq_true_eq]
theorem fo_yes {f : Int} {l : List Bt} {x : Int} (h : foB f l x = true) : foL f l x = fgL l x ∧ foF f l x = x := by unfold foL foF; rw [if_pos h, if_pos h]; exact ⟨rfl, rfl⟩
theorem fo_no {f : Int} {l : List Bt} {x : Int} (h : foB f l x = false) : foL f l x = [] ∧ foF f l x = 0 := by unfold foL foF; rw [h]; exact ⟨rfl, rfl⟩
theorem foL_len (f : Int) (l : List Bt) (x : Int) : (foL f l x).length ≤ 12 := by
  unfold foL
  split
  · rename_i h; exact Nat.le_trans (fg_len l x) (stB_P (foB_iff.1 h).1).2.1
  · simp
/-! the promises -/
theorem us_le {f : Int} {l : List Bt} (h : stB f l = true) (a : Int) : usZ l a ≤ 30 := by
  by_cases e : ∃ b ∈ l, b.a = a
  · obtain ⟨b, hb, rfl⟩ := e; exact ((stB_P h).2.2.2 b hb).2.2
  · have : usZ l a = 0 := by
      clear h
      induction l with
      | nil => rfl
      | cons x r ih =>
        rw [usZ_cons, if_neg (fun h => e ⟨x, by simp, h⟩), ih fun ⟨b, hb, h⟩ => e ⟨b, by simp [hb], h⟩]; rfl
    omega
theorem uz_le (f : Int) (l : List Bt) (a : Int) : uzZ f l a ≤ 30 := by
  unfold uzZ
  split
  · rename_i h; exact us_le h.1 a
  · omega
theorem uz_of {f : Int} {l : List Bt} {a : Int} (h : stB f l = true) (h0 : 0 ≤ a) (h1 : a ≤ 6) : uzZ f l a = usZ l a := by unfold uzZ; rw [if_pos ⟨h, h0, h1⟩]
theorem uz_bd {f : Int} {l : List Bt} {a : Int} (h : stB f l = true) (h0 : 0 ≤ a) (h1 : a ≤ 6) : 0 ≤ uzZ f l a ∧ uzZ f l a ≤ 30 := by
  refine ⟨?_, uz_le f l a⟩
  rw [uz_of h h0 h1]
  exact usZ_nonneg (fun b hb => ((stB_P h).2.2.2 b hb).1) a
theorem geR_eq {f : Int} {l : List Bt} {d : Int} (h : stB f l = true) : geR f l d = match geF l d with | some b => (b, true) | none => (bt0, false) := by unfold geR; rw [if_pos h]; first | done | (cases geF l d <;> rfl)
/-- P95. -/
theorem p95 {f : Int} {l : List Bt} {b : Bt} (h : puC f l b = 0) : geR f (inS l b) b.d = (b, true) ∧ uzZ f (inS l b) b.a = uzZ f l b.a + b.s ∧ stB f (inS l b) = true ∧ (0 ≤ uzZ f l b.a ∧ uzZ f l b.a ≤ 30) ∧ 1 ≤ b.s ∧ b.s ≤ 12 := by
  obtain ⟨h1, h2, h3, h4, h5, h6⟩ := pu_zero.1 h
  have hv := pu_valid h
  have hb := btB_iff.1 h2
  refine ⟨?_, ?_, hv, uz_bd h1 hb.2.1.1 hb.2.1.2, hb.2.2.2⟩
  · rw [geR_eq hv, ge_uni (stB_P hv).2.2.1 (mem_inS.2 (.inl rfl))]
  · rw [uz_of hv hb.2.1.1 hb.2.1.2, uz_of h1 hb.2.1.1 hb.2.1.2, usZ_inS, if_pos rfl]
/-- P98. -/
theorem p98 {f : Int} {l : List Bt} {b : Bt} (h : puC f l b ≠ 4) : puC f l b = (if (geR f l b.d).2 = true then 1 else if b.r < f then 2 else if l.length = 12 ∨ 30 < uzZ f l b.a + b.s then 3 else 0) ∧ (0 ≤ uzZ f l b.a ∧ uzZ f l b.a ≤ 30) ∧ 1 ≤ b.s ∧ b.s ≤ 12 := by
  obtain ⟨h1, h2⟩ := pu_some h
  have hb := btB_iff.1 h2
  refine ⟨?_, uz_bd h1 hb.2.1.1 hb.2.1.2, hb.2.2.2⟩
  have hl := (stB_P h1).2.1
  have hk : (geR f l b.d).2 = knB l b.d := by
    rw [geR_eq h1]
    cases e : geF l b.d with
    | none => rw [ge_none.1 e]
    | some x => obtain ⟨e1, e2⟩ := ge_some e; rw [kn_yes.2 ⟨x, e1, e2⟩]
  rw [hk, uz_of h1 hb.2.1.1 hb.2.1.2]
  unfold puC
  rw [if_pos ⟨h1, h2⟩]
  by_cases e1 : knB l b.d = true
  · rw [if_pos e1, if_pos e1]
  · rw [if_neg e1, if_neg e1]
    by_cases e2 : b.r < f
    · rw [if_pos e2, if_pos e2]
    · rw [if_neg e2, if_neg e2]
      by_cases e3 : 12 ≤ l.length ∨ 30 < usZ l b.a + b.s
      · rw [if_pos e3, if_pos (by omega)]
      · rw [if_neg e3, if_neg (by omega)]
/-- P99. -/
theorem p99 {f : Int} {l : List Bt} {x : Int} (h : foB f l x = true) : stB x (fgL l x) = true ∧ ∀ k (hk : k < l.length), (geR x (fgL l x) l[k].d).2 = decide (x ≤ l[k].r) := by
  obtain ⟨h1, h2, h3⟩ := foB_iff.1 h
  have hv := fg_valid h1 h2 h3
  refine ⟨hv, fun k hk => ?_⟩
  have := ge_fg (stB_P h1).2.2.1 (List.getElem_mem hk) x
  rw [geR_eq hv]
  rw [← this]
  cases geF (fgL l x) l[k].d <;> rfl
/-- P100. -/
theorem p100 {f : Int} {l : List Bt} {x y : Int} (h : foB f l x = true) (hy : x ≤ y) (hy2 : y ≤ 31) : foB x (fgL l x) y = true ∧ foB f l y = true ∧ fgL (fgL l x) y = fgL l y := by
  obtain ⟨h1, h2, h3⟩ := foB_iff.1 h
  exact ⟨foB_iff.2 ⟨(p99 h).1, hy, hy2⟩, foB_iff.2 ⟨h1, by omega, hy2⟩, fg_steps l hy⟩
/-- P102. -/
theorem p102 {f : Int} {l : List Bt} {b : Bt} {a : Int} (h : puC f l b = 0) (hn : a ≠ b.a) : uzZ f (inS l b) a = uzZ f l a := by
  have e : usZ (inS l b) a = usZ l a := by rw [usZ_inS, if_neg (fun e => hn e.symm), Int.add_zero]
  unfold uzZ
  rw [pu_valid h, (pu_zero.1 h).1, e]
/-- P103. -/
theorem p103 {f : Int} {l : List Bt} {d : Int} (h : (geR f l d).2 = true) : (geR f l d).1.d = d ∧ f ≤ (geR f l d).1.r := by
  by_cases hv : stB f l = true
  · rw [geR_eq hv] at h ⊢
    cases e : geF l d with
    | none => rw [e] at h; cases h
    | some b => obtain ⟨e1, e2⟩ := ge_some e; exact ⟨e2, ((stB_P hv).2.2.2 b e1).2.1⟩
  · rw [geR_no (by simpa using hv)] at h; cases h

end Go.Proofs.Ythojbcecbeapgaa

/- Batches of a store, one after another: plain facts; and batches in memory as a linked list: how it lies, what stays of it when other memory is made or written, how it grows and shrinks; nothing here walks the program. -/
namespace Go.Proofs.Ythojbcecbeapgaa
open Go.RowKit

/-! a valid store grows batch by batch -/
theorem us_take {l : List Bt} (h : ∀ b ∈ l, btB b = true) (k : Nat) (a : Int) : usZ (l.take k) a ≤ usZ l a := by
  have h1 := usZ_app (l.take k) (l.drop k) a
  rw [List.take_append_drop] at h1
  have h2 := usZ_nonneg (l := l.drop k) (fun b hb => h b (List.mem_of_mem_drop hb)) a
  omega
theorem us_small {l : List Bt} (h : ∀ b ∈ l, btB b = true) (a : Int) : 0 ≤ usZ l a ∧ usZ l a ≤ 12 * l.length := by
  refine ⟨usZ_nonneg h a, ?_⟩
  induction l with
  | nil => simp [usZ]
  | cons b r ih =>
    have h1 := btB_iff.1 (h b (by simp))
    have h2 := ih fun x hx => h x (by simp [hx])
    rw [usZ_cons, List.length_cons]
    split <;> omega
theorem st_take {f : Int} {l : List Bt} (h : stB f l = true) (k : Nat) : stB f (l.take k) = true := by
  have h := stB_P h
  refine decide_eq_true ⟨h.1, by rw [List.length_take]; have := h.2.1; omega, h.2.2.1.sublist (List.take_sublist _ _), fun b hb => ?_⟩
  obtain ⟨c1, c2, c3⟩ := h.2.2.2 b (List.mem_of_mem_take hb)
  exact ⟨c1, c2, Int.le_trans (us_take (fun x hx => (h.2.2.2 x hx).1) k b.a) c3⟩
theorem lo_all {l : List Bt} {d : Int} (h : ∀ x ∈ l, x.d < d) : loS l d = l ∧ hiS l d = [] := by
  have h' : ∀ x ∈ l, decide (x.d < d) = true := fun x hx => decide_eq_true (h x hx)
  have e1 := List.takeWhile_append_of_pos (l₂ := []) h'
  have e2 := List.dropWhile_append_of_pos (l₂ := []) h'
  rw [List.append_nil] at e1 e2
  unfold loS hiS
  rw [e1, e2]
  exact ⟨by simp, rfl⟩
theorem take_lt {l : List Bt} {k : Nat} (hk : k < l.length) (hs : (l.take k).Pairwise fun x y => x.d < y.d) (ho : ∀ h : 0 < k, (l[k - 1]'(by omega)).d < l[k].d) : ∀ x ∈ l.take k, x.d < l[k].d := by
  intro x hx
  obtain ⟨j, hj, rfl⟩ := List.mem_iff_getElem.1 hx
  rw [List.length_take] at hj
  rw [List.getElem_take]
  have ho := ho (by omega)
  by_cases e : j = k - 1
  · subst e; exact ho
  · have h1 := List.pairwise_iff_getElem.1 hs j (k - 1) (by rw [List.length_take]; omega) (by rw [List.length_take]; omega) (by omega)
    rw [List.getElem_take, List.getElem_take] at h1
    omega
theorem take_in {l : List Bt} {k : Nat} (hk : k < l.length) (hs : (l.take k).Pairwise fun x y => x.d < y.d) (ho : ∀ h : 0 < k, (l[k - 1]'(by omega)).d < l[k].d) : inS (l.take k) l[k] = l.take (k + 1) := by
  obtain ⟨h1, h2⟩ := lo_all (take_lt hk hs ho)
  unfold inS
  rw [h1, h2, ← List.take_append_getElem hk]
theorem st_next {f : Int} {l : List Bt} {k : Nat} (hk : k < l.length) (hv : stB f (l.take k) = true) :
    stB f (l.take (k + 1)) = true ↔ (∀ h : 0 < k, (l[k - 1]'(by omega)).d < l[k].d) ∧ puC f (l.take k) l[k] = 0 := by
  have hs := (stB_P hv).2.2.1
  constructor
  · intro h
    have h' := stB_P h
    have ho : ∀ h : 0 < k, (l[k - 1]'(by omega)).d < l[k].d := fun h0 => by
      have h1 := List.pairwise_iff_getElem.1 h'.2.2.1 (k - 1) k (by rw [List.length_take]; omega) (by rw [List.length_take]; omega) (by omega)
      rw [List.getElem_take, List.getElem_take] at h1
      exact h1
    have hm : l[k] ∈ l.take (k + 1) := by rw [List.mem_take_iff_getElem]; exact ⟨k, by omega, rfl⟩
    obtain ⟨c1, c2, c3⟩ := h'.2.2.2 _ hm
    refine ⟨ho, pu_zero.2 ⟨hv, c1, ?_, c2, ?_, ?_⟩⟩
    · cases e : knB (l.take k) l[k].d with
      | false => rfl
      | true => obtain ⟨x, hx, he⟩ := kn_yes.1 e; have := take_lt hk hs ho x hx; omega
    · have := h'.2.1; rw [List.length_take] at this ⊢; omega
    · rw [usZ_take hk] at c3
      rw [if_pos rfl] at c3
      exact c3
  · rintro ⟨ho, h⟩
    rw [← take_in hk hs ho]
    exact pu_valid h
/-- The code, where the store is valid. -/
def pcZ (f : Int) (l : List Bt) (b : Bt) : Int := if btB b = true then if knB l b.d = true then 1 else if b.r < f then 2 else if 12 ≤ l.length ∨ 30 < usZ l b.a + b.s then 3 else 0 else 4
theorem pu_pc {f : Int} {l : List Bt} {b : Bt} (h : stB f l = true) : puC f l b = pcZ f l b := by
  unfold puC pcZ
  by_cases hb : btB b = true
  · rw [if_pos ⟨h, hb⟩, if_pos hb]
  · rw [if_neg (fun h => hb h.2), if_neg hb]
/-- Where a digest stands. -/
theorem ge_split {l : List Bt} {d : Int} {k : Nat} (hs : l.Pairwise fun x y => x.d < y.d) (h1 : loS l d = l.take k) (h2 : hiS l d = l.drop k) : geF l d = match l[k]? with | some b => if b.d = d then some b else none | none => none := by
  have hno : ∀ x ∈ l, x.d = d → ∃ h : k < l.length, x = l[k] := fun x hx e => by
    rw [← List.take_append_drop k l] at hx
    rcases List.mem_append.1 hx with hx | hx
    · rw [← h1] at hx; have := mem_lo hx; omega
    · obtain ⟨j, hj, rfl⟩ := List.mem_iff_getElem.1 hx
      rw [List.length_drop] at hj
      rw [List.getElem_drop] at e ⊢
      have hk : k < l.length := by omega
      have hm : d ≤ l[k].d := mem_hi hs (d := d) (by rw [h2, List.mem_iff_getElem]; exact ⟨0, by rw [List.length_drop]; omega, by rw [List.getElem_drop]; simp⟩)
      refine ⟨hk, ?_⟩
      by_cases e0 : j = 0
      · subst e0; simp
      · have := List.pairwise_iff_getElem.1 hs k (k + j) hk (by omega) (by omega)
        omega
  cases hl : l[k]? with
  | none =>
    refine ge_none.2 ?_
    cases e : knB l d with
    | false => rfl
    | true =>
      obtain ⟨x, hx, he⟩ := kn_yes.1 e
      obtain ⟨h, _⟩ := hno x hx he
      rw [List.getElem?_eq_getElem h] at hl; cases hl
  | some b =>
    obtain ⟨h, rfl⟩ := List.getElem?_eq_some_iff.1 hl
    dsimp only
    by_cases e : l[k].d = d
    · rw [if_pos e, ← e]; exact ge_uni hs (List.getElem_mem h)
    · rw [if_neg e]
      refine ge_none.2 ?_
      cases e2 : knB l d with
      | false => rfl
      | true =>
        obtain ⟨x, hx, he⟩ := kn_yes.1 e2
        obtain ⟨_, rfl⟩ := hno x hx he
        exact absurd he e
theorem kn_ge {l : List Bt} {d : Int} : knB l d = (geF l d).isSome := by
  cases e : geF l d with
  | none => rw [ge_none.1 e]; rfl
  | some b => obtain ⟨h1, h2⟩ := ge_some e; rw [kn_yes.2 ⟨b, h1, h2⟩]; rfl
/-- The place of a digest, found from the left. -/
theorem lo_at {l : List Bt} {d : Int} {k : Nat} (hk : k ≤ l.length) (h1 : ∀ j (hj : j < l.length), j < k → l[j].d < d) (h2 : ∀ h : k < l.length, ¬ l[k].d < d) : loS l d = l.take k ∧ hiS l d = l.drop k := by
  have e := List.take_append_drop k l
  have ha : ∀ x ∈ l.take k, decide (x.d < d) = true := fun x hx => by
    obtain ⟨j, hj, rfl⟩ := List.mem_iff_getElem.1 hx
    rw [List.length_take] at hj
    rw [List.getElem_take]
    exact decide_eq_true (h1 j (by omega) (by omega))
  have hb : (l.drop k).takeWhile (fun x => decide (x.d < d)) = [] ∧ (l.drop k).dropWhile (fun x => decide (x.d < d)) = l.drop k := by
    cases hd : l.drop k with
    | nil => exact ⟨rfl, rfl⟩
    | cons y r =>
      have hk' : k < l.length := by
        have := congrArg List.length hd
        rw [List.length_drop, List.length_cons] at this; omega
      have hy : y = l[k] := by
        have := congrArg (·[0]?) hd
        simp only [List.getElem?_drop, List.getElem?_cons_zero, Nat.add_zero] at this
        rw [List.getElem?_eq_getElem hk'] at this
        exact (Option.some.inj this).symm
      have hn := h2 hk'
      rw [← hy] at hn
      constructor
      · rw [List.takeWhile_cons_of_neg (by simpa using hn)]
      · rw [List.dropWhile_cons_of_neg (by simpa using hn)]
  have e1 := List.takeWhile_append_of_pos (l₂ := l.drop k) ha
  have e2 := List.dropWhile_append_of_pos (l₂ := l.drop k) ha
  rw [e] at e1 e2
  unfold loS hiS
  rw [e1, e2, hb.1, hb.2, List.append_nil]
  exact ⟨rfl, rfl⟩
/-- What is left behind a raised floor, batch by batch. -/
theorem fg_take {l : List Bt} {k : Nat} (h : k < l.length) (x : Int) : fgL (l.take (k + 1)) x = if x ≤ l[k].r then fgL (l.take k) x ++ [l[k]] else fgL (l.take k) x := by
  rw [List.take_succ_eq_append_getElem h]
  unfold fgL
  rw [List.filter_append, List.filter_cons, List.filter_nil]
  by_cases e : x ≤ l[k].r
  · rw [decide_eq_true e, if_pos rfl, if_pos e]
  · rw [decide_eq_false e, if_neg (by simp), if_neg e, List.append_nil]

/-! a linked list in memory -/
def ptV (q : Nat) : Value := .pointer (some ⟨q, 0, none⟩)
theorem ptV_ne (q : Nat) : ptV q ≠ .pointer none := by intro h; cases h
theorem ptV_inj {p q : Nat} (h : ptV p = ptV q) : p = q := by unfold ptV at h; simp only [Value.pointer.injEq, Option.some.injEq, Addr.mk.injEq, and_true] at h; exact h
/-- What points to the k-th batch. -/
def nxV (ns : List (Nat × Bt)) (k : Nat) : Value := match ns[k]? with | some x => ptV x.1 | none => .pointer none
theorem nxV_at {ns : List (Nat × Bt)} {k : Nat} {x : Nat × Bt} (h : ns[k]? = some x) : nxV ns k = ptV x.1 := by unfold nxV; rw [h]
theorem nxV_end {ns : List (Nat × Bt)} {k : Nat} (h : ns[k]? = none) : nxV ns k = .pointer none := by unfold nxV; rw [h]
theorem nxV_ptr (ns : List (Nat × Bt)) (k : Nat) : ∃ a, nxV ns k = .pointer a := by unfold nxV; cases ns[k]? with | none => exact ⟨_, rfl⟩ | some x => exact ⟨_, rfl⟩
def blkV : Value → Nat
  | .pointer (some a) => a.block
  | _ => 0
/-- Where the batch that is pointed to stands. -/
def ixA (ns : List (Nat × Bt)) (v : Value) : Nat := ns.findIdx fun x => decide (x.1 = blkV v)
def ndV (b : Bt) (n : Value) : Array Value := #[.int .i64 b.d, .int .i64 b.a, .int .i64 b.r, .int .i64 b.s, n]
theorem ndV_set (b : Bt) (n v : Value) : (ndV b n).setIfInBounds 4 v = ndV b v := by simp [ndV]
/-- The batches behind the first one, which is not stored. -/
def bsL (ns : List (Nat × Bt)) : List Bt := (ns.drop 1).map Prod.snd
theorem bsL_at (ns : List (Nat × Bt)) (j : Nat) : (bsL ns)[j]? = (ns[j + 1]?).map Prod.snd := by unfold bsL; rw [List.getElem?_map, List.getElem?_drop, Nat.add_comm]
theorem bsL_len (ns : List (Nat × Bt)) : (bsL ns).length = ns.length - 1 := by unfold bsL; simp
def insA (ns : List (Nat × Bt)) (k : Nat) (x : Nat × Bt) : List (Nat × Bt) := ns.take (k + 1) ++ x :: ns.drop (k + 1)
theorem insA_at {ns : List (Nat × Bt)} {k : Nat} (hk : k < ns.length) (x : Nat × Bt) (j : Nat) : (insA ns k x)[j]? = if j < k + 1 then ns[j]? else if j = k + 1 then some x else ns[j - 1]? := by
  have hl : (ns.take (k + 1)).length = k + 1 := by rw [List.length_take]; omega
  unfold insA
  by_cases h : j < k + 1
  · rw [if_pos h, List.getElem?_append_left (by omega), List.getElem?_take_of_lt h]
  · rw [if_neg h, List.getElem?_append_right (by omega), hl]
    by_cases e : j = k + 1
    · subst e; rw [if_pos rfl, Nat.sub_self]; rfl
    · rw [if_neg e, show j - (k + 1) = (j - k - 2) + 1 by omega, List.getElem?_cons_succ, List.getElem?_drop]
      congr 1; omega
theorem insA_bs {ns : List (Nat × Bt)} {k : Nat} (hk : k < ns.length) (x : Nat × Bt) : bsL (insA ns k x) = (bsL ns).take k ++ x.2 :: (bsL ns).drop k := by
  refine List.ext_getElem? fun j => ?_
  rw [bsL_at, insA_at hk]
  have hl : ((bsL ns).take k).length = k := by rw [List.length_take, bsL_len]; omega
  by_cases h : j < k
  · rw [if_pos (by omega), List.getElem?_append_left (by omega), List.getElem?_take_of_lt h, bsL_at]
  · rw [if_neg (by omega), List.getElem?_append_right (by omega), hl]
    by_cases e : j = k
    · subst e; rw [if_pos rfl, Nat.sub_self]; rfl
    · rw [if_neg (by omega), show j - k = (j - k - 1) + 1 by omega, List.getElem?_cons_succ, List.getElem?_drop, bsL_at]
      congr 2; omega
def delA (ns : List (Nat × Bt)) (k : Nat) : List (Nat × Bt) := ns.take (k + 1) ++ ns.drop (k + 2)
theorem delA_at {ns : List (Nat × Bt)} {k : Nat} (hk : k < ns.length) (j : Nat) : (delA ns k)[j]? = if j < k + 1 then ns[j]? else ns[j + 1]? := by
  have hl : (ns.take (k + 1)).length = k + 1 := by rw [List.length_take]; omega
  unfold delA
  by_cases h : j < k + 1
  · rw [if_pos h, List.getElem?_append_left (by omega), List.getElem?_take_of_lt h]
  · rw [if_neg h, List.getElem?_append_right (by omega), hl, List.getElem?_drop]
    congr 1; omega
theorem delA_bs {ns : List (Nat × Bt)} {k : Nat} (hk : k < ns.length) : bsL (delA ns k) = (bsL ns).take k ++ (bsL ns).drop (k + 1) := by
  refine List.ext_getElem? fun j => ?_
  rw [bsL_at, delA_at hk]
  have hl : ((bsL ns).take k).length = k := by rw [List.length_take, bsL_len]; omega
  by_cases h : j < k
  · rw [if_pos (by omega), List.getElem?_append_left (by omega), List.getElem?_take_of_lt h, bsL_at]
  · rw [if_neg (by omega), List.getElem?_append_right (by omega), hl, List.getElem?_drop, bsL_at]
    congr 2; omega
theorem nxV_insA_lt {ns : List (Nat × Bt)} {k : Nat} (hk : k < ns.length) (x : Nat × Bt) {j : Nat} (h : j < k + 1) : nxV (insA ns k x) j = nxV ns j := by unfold nxV; rw [insA_at hk, if_pos h]
theorem nxV_insA_new {ns : List (Nat × Bt)} {k : Nat} (hk : k < ns.length) (x : Nat × Bt) : nxV (insA ns k x) (k + 1) = ptV x.1 := by unfold nxV; rw [insA_at hk, if_neg (by omega), if_pos rfl]
theorem nxV_insA_gt {ns : List (Nat × Bt)} {k : Nat} (hk : k < ns.length) (x : Nat × Bt) {j : Nat} (h : k + 1 < j) : nxV (insA ns k x) j = nxV ns (j - 1) := by unfold nxV; rw [insA_at hk, if_neg (by omega), if_neg (by omega)]
theorem nxV_delA_lt {ns : List (Nat × Bt)} {k : Nat} (hk : k < ns.length) {j : Nat} (h : j < k + 1) : nxV (delA ns k) j = nxV ns j := by unfold nxV; rw [delA_at hk, if_pos h]
theorem nxV_delA_ge {ns : List (Nat × Bt)} {k : Nat} (hk : k < ns.length) {j : Nat} (h : k + 1 ≤ j) : nxV (delA ns k) j = nxV ns (j + 1) := by unfold nxV; rw [delA_at hk, if_neg (by omega)]

/-- How many batches come from here on. -/
def chN (w : World) : Nat → Value → Nat
  | n + 1, .pointer (some a) => 1 + chN w n ((w.cell? ⟨a.block, 4, none⟩).getD (.pointer none))
  | _, _ => 0
theorem delA_tk {ns : List (Nat × Bt)} {k : Nat} (hk : k < ns.length) : (bsL (delA ns k)).take k = (bsL ns).take k ∧ (bsL (delA ns k)).drop k = (bsL ns).drop (k + 1) := by
  have hl : ((bsL ns).take k).length = k := by rw [List.length_take, bsL_len]; omega
  rw [delA_bs hk]
  constructor
  · rw [List.take_append_of_le_length (by omega), List.take_of_length_le (by omega)]
  · rw [List.drop_append_of_le_length (by omega), List.drop_of_length_le (by omega), List.nil_append]
theorem delA_len {ns : List (Nat × Bt)} {k : Nat} (hk : k + 1 < ns.length) : (delA ns k).length = ns.length - 1 := by unfold delA; rw [List.length_append, List.length_take, List.length_drop]; omega
/-- The next batch of what is left, where one is there. -/
theorem next_at {ns : List (Nat × Bt)} {l : List Bt} {k j q : Nat} {b : Bt} (h : ns[k + 1]? = some (q, b)) (hd : (bsL ns).drop k = l.drop j) : ∃ h : j < l.length, l[j] = b ∧ (bsL ns).drop (k + 1) = l.drop (j + 1) ∧ (bsL ns).take (k + 1) = (bsL ns).take k ++ [b] := by
  have e := bsL_at ns k
  rw [h] at e
  obtain ⟨hk, hke⟩ := List.getElem?_eq_some_iff.1 e
  have e1 : (l.drop j)[0]? = some b := by rw [← hd, List.getElem?_drop, Nat.add_zero]; exact e
  rw [List.getElem?_drop, Nat.add_zero] at e1
  obtain ⟨hj, hje⟩ := List.getElem?_eq_some_iff.1 e1
  refine ⟨hj, hje, ?_, ?_⟩
  · have := congrArg (List.drop 1) hd
    rwa [List.drop_drop, List.drop_drop] at this
  · have h2 := List.take_append_getElem hk
    rw [← h2, hke]
theorem next_end {ns : List (Nat × Bt)} {l : List Bt} {k j : Nat} (h : ns[k + 1]? = none) (hd : (bsL ns).drop k = l.drop j) : l.take j = l ∧ (bsL ns).take k = bsL ns := by
  have hl := List.getElem?_eq_none_iff.1 h
  have hb := bsL_len ns
  have e1 : (bsL ns).drop k = [] := List.drop_of_length_le (by omega)
  rw [e1] at hd
  have := congrArg List.length hd
  rw [List.length_drop, List.length_nil] at this
  exact ⟨List.take_of_length_le (by omega), List.take_of_length_le (by omega)⟩

/-- A store: its struct points to the first of its batches, each of these to the next; all of it lies from block lo on, below block hi. -/
structure LS (w : World) (lo hi P : Nat) (f : Int) (ns : List (Nat × Bt)) : Prop where
  ne : 0 < ns.length
  st : Str w P 66 #[.int .i64 f, nxV ns 0]
  nd : ∀ (k q : Nat) (b : Bt), ns[k]? = some (q, b) → Str w q 56 (ndV b (nxV ns (k + 1)))
  dj : ∀ (i j q : Nat) (b b' : Bt), ns[i]? = some (q, b) → ns[j]? = some (q, b') → i = j
  inn : ∀ (k q : Nat) (b : Bt), ns[k]? = some (q, b) → lo ≤ q ∧ q < hi ∧ q ≠ P
  loP : lo ≤ P
  ltP : P < hi
  le : hi ≤ w.heap.size
section
variable {w w' : World} {lo hi P : Nat} {f : Int} {ns : List (Nat × Bt)}
theorem LS.kept {row : Option Nat} (h : LS w lo hi P f ns) (hg : w.grownBy w' row) (hrow : ∀ m, row = some m → hi ≤ m ∨ m < lo) : LS w' lo hi P f ns :=
  ⟨h.ne, h.st.kept hg fun e => by have := hrow P e.symm; have := h.loP; have := h.ltP; omega, fun k q b e => (h.nd k q b e).kept hg fun e2 => by have := hrow q e2.symm; have := h.inn k q b e; omega, h.dj, h.inn, h.loP, h.ltP, Nat.le_trans h.le hg.size⟩
theorem LS.under (h : LS w lo hi P f ns) (hb : Below w.heap.size w w') : LS w' lo hi P f ns := h.kept (below_grown hb) fun _ e => by cases e
theorem LS.cell (h : LS w lo hi P f ns) : w.cell? ⟨P, 0, none⟩ = some (.int .i64 f) ∧ w.cell? ⟨P, 1, none⟩ = some (nxV ns 0) ∧ w.frozen? ⟨P, 0, none⟩ = false ∧ w.frozen? ⟨P, 1, none⟩ = false :=
  ⟨h.st.cell 0 (v := .int .i64 f) rfl, h.st.cell 1 (v := nxV ns 0) rfl, h.st.frozen 0, h.st.frozen 1⟩
theorem LS.node (h : LS w lo hi P f ns) {k q : Nat} {b : Bt} (e : ns[k]? = some (q, b)) : w.cell? ⟨q, 0, none⟩ = some (.int .i64 b.d) ∧ w.cell? ⟨q, 1, none⟩ = some (.int .i64 b.a) ∧ w.cell? ⟨q, 2, none⟩ = some (.int .i64 b.r) ∧ w.cell? ⟨q, 3, none⟩ = some (.int .i64 b.s) ∧ w.cell? ⟨q, 4, none⟩ = some (nxV ns (k + 1)) ∧ ∀ j, w.frozen? ⟨q, j, none⟩ = false := by
  have s := h.nd k q b e
  exact ⟨s.cell 0 (v := .int .i64 b.d) rfl, s.cell 1 (v := .int .i64 b.a) rfl, s.cell 2 (v := .int .i64 b.r) rfl, s.cell 3 (v := .int .i64 b.s) rfl, s.cell 4 (v := nxV ns (k + 1)) rfl, fun j => s.frozen j⟩
/-- An empty store. -/
theorem LS.new {H : Nat} {b0 : Bt} (hs : Str w P 66 #[.int .i64 f, ptV H]) (hh : Str w H 56 (ndV b0 (.pointer none))) (h1 : lo ≤ H) (h2 : H < hi) (h3 : H ≠ P) (h4 : lo ≤ P) (h5 : P < hi) (h6 : hi ≤ w.heap.size) : LS w lo hi P f [(H, b0)] := by
  refine ⟨by simp, hs, fun k q b e => ?_, fun i j q b b' e e' => ?_, fun k q b e => ?_, h4, h5, h6⟩
  · rcases k with _ | k
    · simp only [List.getElem?_cons_zero, Option.some.injEq, Prod.mk.injEq] at e
      obtain ⟨rfl, rfl⟩ := e
      exact hh
    · simp at e
  · rcases i with _ | i
    · rcases j with _ | j
      · rfl
      · simp at e'
    · simp at e
  · rcases k with _ | k
    · simp only [List.getElem?_cons_zero, Option.some.injEq, Prod.mk.injEq] at e
      obtain ⟨rfl, rfl⟩ := e
      exact ⟨h1, h2, h3⟩
    · simp at e
/-- A new batch behind the k-th. -/
theorem LS.put {w1 : World} {hi2 k q Q : Nat} {b b0 : Bt} (h : LS w lo hi P f ns) (hg : w.grownBy w1 none) (hk : ns[k]? = some (q, b0)) (hQ : hi ≤ Q) (hQ2 : Q < hi2) (hh : hi ≤ hi2) (hz : hi2 ≤ w1.heap.size) (hs : Str w1 Q 56 (ndV b (nxV ns (k + 1)))) :
    LS (w1.setCell ⟨q, 4, none⟩ (ptV Q)) lo hi2 P f (insA ns k (Q, b)) := by
  obtain ⟨hkl, hke⟩ := List.getElem?_eq_some_iff.1 hk
  have h1 := h.kept hg fun _ e => by cases e
  have hq := h.inn k q b0 hk
  have hg2 := grownBy_set w1 q 4 (ptV Q)
  have hoth : ∀ (i p : Nat) (c : Bt), ns[i]? = some (p, c) → i ≠ k → p ≠ q := fun i p c e hne e2 => by subst e2; exact hne (h.dj i k p c b0 e hk)
  refine ⟨by unfold insA; rw [List.length_append, List.length_cons]; omega, ?_, fun j p c e => ?_, fun i j p c c' e e' => ?_, fun j p c e => ?_, h.loP, Nat.lt_of_lt_of_le h.ltP hh, by rw [World.size_setCell]; exact hz⟩
  · rw [nxV_insA_lt hkl _ (by omega)]
    exact h1.st.kept hg2 (by simpa using fun e => hq.2.2 e.symm)
  · rw [insA_at hkl] at e
    split at e
    · rename_i hj
      by_cases ejk : j = k
      · subst ejk
        rw [hk] at e
        simp only [Option.some.injEq, Prod.mk.injEq] at e
        obtain ⟨rfl, rfl⟩ := e
        rw [nxV_insA_new hkl]
        have := (h1.nd j q b0 hk).set 4 (ptV Q)
        rwa [ndV_set] at this
      · rw [nxV_insA_lt hkl _ (by omega)]
        exact (h1.nd j p c e).kept hg2 (by simpa using hoth j p c e ejk)
    · split at e
      · rename_i _ hj
        subst hj
        simp only [Option.some.injEq, Prod.mk.injEq] at e
        obtain ⟨rfl, rfl⟩ := e
        rw [nxV_insA_gt hkl _ (by omega)]
        exact hs.kept hg2 (by simp; omega)
      · rw [nxV_insA_gt hkl _ (by omega)]
        have := (h1.nd (j - 1) p c e).kept hg2 (by simpa using hoth (j - 1) p c e (by omega))
        rwa [show j - 1 + 1 = j + 1 - 1 by omega] at this
  · have hold : ∀ (i p : Nat) (c : Bt), ns[i]? = some (p, c) → p ≠ Q := fun i p c e => by have := h.inn i p c e; omega
    rw [insA_at hkl] at e e'
    split at e <;> split at e' <;> (try split at e) <;> (try split at e')
    all_goals first
      | exact h.dj _ _ _ _ _ e e'
      | (simp only [Option.some.injEq, Prod.mk.injEq] at e; exact absurd e.1.symm (hold _ _ _ e'))
      | (simp only [Option.some.injEq, Prod.mk.injEq] at e'; exact absurd e'.1.symm (hold _ _ _ e))
      | omega
      | (have := h.dj _ _ _ _ _ e e'; omega)
  · rw [insA_at hkl] at e
    split at e
    · have := h.inn _ _ _ e; omega
    · split at e
      · simp only [Option.some.injEq, Prod.mk.injEq] at e
        obtain ⟨rfl, rfl⟩ := e
        have := h.loP; have := h.ltP; omega
      · have := h.inn _ _ _ e; omega
/-- The batch behind the k-th is taken out. -/
theorem LS.del {k q : Nat} {b0 : Bt} (h : LS w lo hi P f ns) (hk : ns[k]? = some (q, b0)) : LS (w.setCell ⟨q, 4, none⟩ (nxV ns (k + 2))) lo hi P f (delA ns k) := by
  obtain ⟨hkl, hke⟩ := List.getElem?_eq_some_iff.1 hk
  have hq := h.inn k q b0 hk
  have hg2 := grownBy_set w q 4 (nxV ns (k + 2))
  have hoth : ∀ (i p : Nat) (c : Bt), ns[i]? = some (p, c) → i ≠ k → p ≠ q := fun i p c e hne e2 => by subst e2; exact hne (h.dj i k p c b0 e hk)
  refine ⟨by unfold delA; rw [List.length_append, List.length_take]; omega, ?_, fun j p c e => ?_, fun i j p c c' e e' => ?_, fun j p c e => ?_, h.loP, h.ltP, by rw [World.size_setCell]; exact h.le⟩
  · rw [nxV_delA_lt hkl (by omega)]
    exact h.st.kept hg2 (by simpa using fun e => hq.2.2 e.symm)
  · rw [delA_at hkl] at e
    split at e
    · by_cases ejk : j = k
      · subst ejk
        rw [hk] at e
        simp only [Option.some.injEq, Prod.mk.injEq] at e
        obtain ⟨rfl, rfl⟩ := e
        rw [nxV_delA_ge hkl (by omega)]
        have := (h.nd j q b0 hk).set 4 (nxV ns (j + 2))
        rwa [ndV_set] at this
      · rw [nxV_delA_lt hkl (by omega)]
        exact (h.nd j p c e).kept hg2 (by simpa using hoth j p c e ejk)
    · rw [nxV_delA_ge hkl (by omega)]
      exact (h.nd (j + 1) p c e).kept hg2 (by simpa using hoth (j + 1) p c e (by omega))
  · rw [delA_at hkl] at e e'
    split at e <;> split at e' <;> have := h.dj _ _ _ _ _ e e' <;> omega
  · rw [delA_at hkl] at e
    split at e <;> exact h.inn _ _ _ e
theorem LS.floor (h : LS w lo hi P f ns) (f' : Int) : LS (w.setCell ⟨P, 0, none⟩ (.int .i64 f')) lo hi P f' ns := by
  have hg2 := grownBy_set w P 0 (.int .i64 f')
  refine ⟨h.ne, ?_, fun k q b e => (h.nd k q b e).kept hg2 (by simpa using (h.inn k q b e).2.2), h.dj, h.inn, h.loP, h.ltP, by rw [World.size_setCell]; exact h.le⟩
  exact h.st.set 0 (.int .i64 f')
theorem LS.ix (h : LS w lo hi P f ns) {k q : Nat} {b : Bt} (hk : ns[k]? = some (q, b)) : ixA ns (.pointer (some ⟨q, 0, none⟩)) = k := by
  obtain ⟨hl, he⟩ := List.getElem?_eq_some_iff.1 hk
  unfold ixA
  rw [List.findIdx_eq hl]
  refine ⟨by rw [he]; simp [blkV], fun j hj => ?_⟩
  have hjl : j < ns.length := by omega
  have e : ns[j]? = some (ns[j].1, ns[j].2) := List.getElem?_eq_getElem hjl
  refine decide_eq_false fun e2 => ?_
  rw [show ns[j].1 = q from e2] at e
  have := h.dj j k q _ _ e hk
  omega
theorem LS.chn (h : LS w lo hi P f ns) : ∀ (N k q : Nat) (b : Bt), ns[k]? = some (q, b) → ns.length - k ≤ N → chN w N (.pointer (some ⟨q, 0, none⟩)) = ns.length - k
  | 0, k, q, b, hk, hN => by have := (List.getElem?_eq_some_iff.1 hk).1; omega
  | N + 1, k, q, b, hk, hN => by
    have hl := (List.getElem?_eq_some_iff.1 hk).1
    have c := (h.node hk).2.2.2.2.1
    show 1 + chN w N ((w.cell? ⟨q, 4, none⟩).getD (.pointer none)) = _
    rw [c, Option.getD_some]
    cases hn : ns[k + 1]? with
    | none =>
      rw [nxV_end hn]
      have := List.getElem?_eq_none_iff.1 hn
      have e : chN w N (.pointer none) = 0 := by cases N <;> rfl
      omega
    | some x =>
      obtain ⟨q2, b2⟩ := x
      rw [nxV_at hn]
      have := LS.chn h N (k + 1) q2 b2 hn (by omega)
      show 1 + chN w N (.pointer (some ⟨q2, 0, none⟩)) = _
      omega
theorem LS.head (h : LS w lo hi P f ns) : ∃ q b, ns[0]? = some (q, b) := ⟨_, _, List.getElem?_eq_getElem h.ne⟩
end

end Go.Proofs.Ythojbcecbeapgaa

/- impl's tests of batches, and how it finds a batch in its linked list, each by a walk of its text; no conditions but that the list lies as it should. -/
namespace Go.Proofs.Ythojbcecbeapgaa
open Go.RowKit

theorem bt_isRound (n : Int) (w : World) : Calls Try.prog 46 #[.int .i64 n] w fun e w' => e = .returned (.bool (decide (0 ≤ n ∧ n ≤ 30))) ∧ w = w' := by
  obtain ⟨z, hz⟩ : ∃ z, z = decide (0 ≤ n ∧ n ≤ 30) := ⟨_, rfl⟩
  rw [← hz]
  by_cases h : 0 ≤ n
  · have Hf := Lib.hid (show z = decide (n ≤ 30) from hz.trans (decide_eq_decide.2 (by omega))); clear hz
    go_enter Try.func46, Try.ntmps46
    go_wp2
    go_ret
    exact ⟨ret_bool Hf.out.symm, rfl⟩
  · have Hf := Lib.hid (show z = false from hz.trans (decide_eq_false (by omega))); clear hz
    go_enter Try.func46, Try.ntmps46
    go_wp2
    go_ret
    exact ⟨ret_bool Hf.out.symm, rfl⟩
theorem bt_isDigest (n : Int) (w : World) : Calls Try.prog 45 #[.int .i64 n] w fun e w' => e = .returned (.bool (decide (0 ≤ n ∧ n ≤ 990))) ∧ w = w' := by
  obtain ⟨z, hz⟩ : ∃ z, z = decide (0 ≤ n ∧ n ≤ 990) := ⟨_, rfl⟩
  rw [← hz]
  by_cases h : 0 ≤ n
  · have Hf := Lib.hid (show z = decide (n < 991) from hz.trans (decide_eq_decide.2 (by omega))); clear hz
    go_enter Try.func45, Try.ntmps45
    go_wp2
    go_ret
    exact ⟨ret_bool Hf.out.symm, rfl⟩
  · have Hf := Lib.hid (show z = false from hz.trans (decide_eq_false (by omega))); clear hz
    go_enter Try.func45, Try.ntmps45
    go_wp2
    go_ret
    exact ⟨ret_bool Hf.out.symm, rfl⟩
theorem impl_isAuthor (n : Int) (w : World) : Calls Try.prog 32 #[.int .i64 n] w fun e w' => e = .returned (.bool (decide (0 ≤ n ∧ n ≤ 6))) ∧ w = w' := by
  obtain ⟨z, hz⟩ : ∃ z, z = decide (0 ≤ n ∧ n ≤ 6) := ⟨_, rfl⟩
  rw [← hz]
  by_cases h : 0 ≤ n
  · have Hf := Lib.hid (show z = decide (n < 7) from hz.trans (decide_eq_decide.2 (by omega))); clear hz
    go_enter Try.func32, Try.ntmps32
    go_wp2
    go_ret
    exact ⟨ret_bool Hf.out.symm, rfl⟩
  · have Hf := Lib.hid (show z = false from hz.trans (decide_eq_false (by omega))); clear hz
    go_enter Try.func32, Try.ntmps32
    go_wp2
    go_ret
    exact ⟨ret_bool Hf.out.symm, rfl⟩
theorem impl_isFloor (n : Int) (w : World) : Calls Try.prog 36 #[.int .i64 n] w fun e w' => e = .returned (.bool (decide (0 ≤ n ∧ n ≤ 31))) ∧ w = w' := by
  obtain ⟨z, hz⟩ : ∃ z, z = decide (0 ≤ n ∧ n ≤ 31) := ⟨_, rfl⟩
  rw [← hz]
  by_cases h : 0 ≤ n
  · have Hf := Lib.hid (show z = decide (n ≤ 31) from hz.trans (decide_eq_decide.2 (by omega))); clear hz
    go_enter Try.func36, Try.ntmps36
    go_wp2
    go_ret
    exact ⟨ret_bool Hf.out.symm, rfl⟩
  · have Hf := Lib.hid (show z = false from hz.trans (decide_eq_false (by omega))); clear hz
    go_enter Try.func36, Try.ntmps36
    go_wp2
    go_ret
    exact ⟨ret_bool Hf.out.symm, rfl⟩

theorem batch_valid (b : Bt) (w : World) :
    Calls Try.prog 39 #[agB b] w fun e w' => e = .returned (.bool (btB b)) ∧ Below w.heap.size w w' := by
  obtain ⟨d, a, r, s⟩ := b
  have hb0 : Below w.heap.size w (w.alloc (.cells #[.int .i64 d, .int .i64 a, .int .i64 r, .int .i64 s] 27)) := (Below.refl _ _).alloc (Nat.le_refl _) _
  have s0 := Str.new w 27 #[.int .i64 d, .int .i64 a, .int .i64 r, .int .i64 s]
  have k0 := s0.cell 0 (v := .int .i64 d) rfl
  have k1 := s0.cell 1 (v := .int .i64 a) rfl
  have k2 := s0.cell 2 (v := .int .i64 r) rfl
  have k3 := s0.cell 3 (v := .int .i64 s) rfl
  have H1 := Lib.hid (fun W => bt_isDigest d W)
  have H2 := Lib.hid (fun W => impl_isAuthor a W)
  have H3 := Lib.hid (fun W => bt_isRound r W)
  have Hb0 := Lib.hid hb0; clear hb0 s0
  have Hres := Lib.hid (show btB ⟨d, a, r, s⟩ = (decide (0 ≤ d ∧ d ≤ 990) && decide (0 ≤ a ∧ a ≤ 6) && decide (0 ≤ r ∧ r ≤ 30) && decide (1 ≤ s ∧ s ≤ 12)) from rfl)
  generalize decide (0 ≤ a ∧ a ≤ 6) = xa at *
  generalize decide (0 ≤ r ∧ r ≤ 30) = xr at *
  generalize decide (0 ≤ d ∧ d ≤ 990) = xd at *
  unfold agB
  go_enter Try.func39, Try.ntmps39
  go_wp2_with fail
  generalize w.alloc (.cells #[.int .i64 d, .int .i64 a, .int .i64 r, .int .i64 s] 27) = W0 at *
  refine (H1.out W0).mono ?_
  rintro e w1 ⟨rfl, rfl⟩
  cases xd with
  | false =>
    go_wp2
    go_ret
    exact ⟨ret_bool (by rw [Hres.out]; rfl), Hb0.out⟩
  | true =>
  go_wp2_with fail
  refine (H2.out W0).mono ?_
  rintro e w1 ⟨rfl, rfl⟩
  cases xa with
  | false =>
    go_wp2
    go_ret
    exact ⟨ret_bool (by rw [Hres.out]; rfl), Hb0.out⟩
  | true =>
  go_wp2_with fail
  refine (H3.out W0).mono ?_
  rintro e w1 ⟨rfl, rfl⟩
  cases xr with
  | false =>
    go_wp2
    go_ret
    exact ⟨ret_bool (by rw [Hres.out]; rfl), Hb0.out⟩
  | true =>
  by_cases h : 1 ≤ s
  · have Hf := Lib.hid (show decide (1 ≤ s ∧ s ≤ 12) = decide (s ≤ 12) from decide_eq_decide.2 (by omega))
    go_wp2
    go_ret
    exact ⟨ret_bool (by rw [Hres.out, Hf.out]; rfl), Hb0.out⟩
  · have Hf := Lib.hid (show decide (1 ≤ s ∧ s ≤ 12) = false from decide_eq_false (by omega))
    go_wp2
    go_ret
    exact ⟨ret_bool (by rw [Hres.out, Hf.out]; rfl), Hb0.out⟩

/-- What 'before' answers: the last batch ahead of a digest. -/
def BefP (ns : List (Nat × Bt)) (d : Int) (w : World) (e : Ending) (w' : World) : Prop := ∃ (k q : Nat) (b0 : Bt), e = .returned (ptV q) ∧ ns[k]? = some (q, b0) ∧ loS (bsL ns) d = (bsL ns).take k ∧ hiS (bsL ns) d = (bsL ns).drop k ∧ Drawn w w'
theorem BefP.mk {ns : List (Nat × Bt)} {d : Int} {w w' : World} {e : Ending} (k q : Nat) (b0 : Bt) (h : e = .returned (ptV q)) (h1 : ns[k]? = some (q, b0)) (h2 : loS (bsL ns) d = (bsL ns).take k) (h3 : hiS (bsL ns) d = (bsL ns).drop k) (h4 : Drawn w w') : BefP ns d w e w' := ⟨k, q, b0, h, h1, h2, h3, h4⟩
theorem impl_before (lo hi P : Nat) (f : Int) (ns : List (Nat × Bt)) (d : Int) (w : World) (h : LS w lo hi P f ns) :
    Calls Try.prog 41 #[ptV P, .int .i64 d] w (BefP ns d w) := by
  obtain ⟨z0, z1, _, _⟩ := h.cell
  obtain ⟨q0, b0, h0⟩ := h.head
  rw [nxV_at h0] at z1
  have Hend := Lib.hid (fun k (hk : k ≤ (bsL ns).length) => lo_at (l := bsL ns) (d := d) hk)
  have Hl := Lib.hid (bsL_len ns)
  have Hne := Lib.hid h.ne
  have H := Lib.hid h; clear h
  unfold ptV
  unfold ptV at z1
  go_enter Try.func41, Try.ntmps41
  go_wp2
  go_loopw [5] (fun at_ wr => ∃ (k q : Nat) (b : Bt), at_ = .pointer (some ⟨q, 0, none⟩) ∧ ns[k]? = some (q, b) ∧ Hid (∀ j (hj : j < (bsL ns).length), j < k → (bsL ns)[j].d < d) ∧ Drawn w wr) (fun at_ _ => ns.length - ixA ns at_)
  case atStart => exact ⟨0, q0, b0, rfl, h0, Lib.hid (fun j _ h => by omega), Drawn.refl _⟩
  case round =>
    obtain ⟨k, q, b, rfl, hk, Hup, hwr⟩ := hrel
    have Hw := Lib.hid (H.out.under (hwr.below _))
    have Hwr := Lib.hid hwr; clear hwr z0 z1
    have Hix := Lib.hid (H.out.ix hk)
    obtain ⟨c0, c1, c2, c3, c4, _⟩ := Hw.out.node hk
    have Hk := Lib.hid hk; clear hk
    cases hn : ns[k + 1]? with
    | none =>
      rw [nxV_end hn] at c4
      have Hn := Lib.hid hn; clear hn
      go_wp2
      go_ret
      have hl2 : ns.length ≤ k + 1 := List.getElem?_eq_none_iff.1 Hn.out
      have hl3 := (List.getElem?_eq_some_iff.1 Hk.out).1
      have := Hl.out
      obtain ⟨e1, e2⟩ := Hend.out k (by omega) Hup.out (fun h => by omega)
      exact BefP.mk k q b rfl Hk.out e1 e2 Hwr.out
    | some x =>
      obtain ⟨q2, b2⟩ := x
      rw [nxV_at hn] at c4
      unfold ptV at c4
      obtain ⟨d0, _⟩ := Hw.out.node hn
      have Hn := Lib.hid hn; clear hn
      have hl2 := (List.getElem?_eq_some_iff.1 Hn.out).1
      have hb2 : ∀ h : k < (bsL ns).length, (bsL ns)[k] = b2 := fun h => by
        have e := bsL_at ns k
        rw [Hn.out, List.getElem?_eq_getElem h] at e
        exact Option.some.inj e
      have Hb2 := Lib.hid hb2; clear hb2
      by_cases hlt : b2.d < d
      · have Hup2 := Lib.hid (show ∀ j (hj : j < (bsL ns).length), j < k + 1 → (bsL ns)[j].d < d from fun j hj h2 => by
          by_cases e : j = k
          · subst e; rw [Hb2.out hj]; exact hlt
          · exact Hup.out j hj (by omega))
        have Hix2 := Lib.hid (H.out.ix Hn.out)
        go_wp2
        go_roundw
        case rel => exact ⟨k + 1, q2, b2, rfl, Hn.out, Hup2, Hwr.out⟩
        case measure => rw [Hix.out, Hix2.out]; omega
      · have Hlt := Lib.hid hlt
        go_wp2
        go_ret
        have := Hl.out
        obtain ⟨e1, e2⟩ := Hend.out k (by omega) Hup.out (fun h => by rw [Hb2.out h]; exact Hlt.out)
        exact BefP.mk k q b rfl Hk.out e1 e2 Hwr.out

end Go.Proofs.Ythojbcecbeapgaa

/- How impl finds a batch by its digest, by a walk of its text; condition: the list lies as it should and is sorted. -/
namespace Go.Proofs.Ythojbcecbeapgaa
open Go.RowKit

/-- What 'find' answers. -/
def FndP (ns : List (Nat × Bt)) (o : Option Bt) (w : World) (e : Ending) (w' : World) : Prop := (match o with | none => e = .returned (.pointer none) | some b => ∃ (k q : Nat), e = .returned (ptV q) ∧ ns[k]? = some (q, b)) ∧ Drawn w w'
theorem FndP.no {ns : List (Nat × Bt)} {w w' : World} {e : Ending} (h : e = .returned (.pointer none)) (hd : Drawn w w') : FndP ns none w e w' := ⟨h, hd⟩
theorem FndP.yes {ns : List (Nat × Bt)} {w w' : World} {e : Ending} {b : Bt} (k q : Nat) (h : e = .returned (ptV q)) (hk : ns[k]? = some (q, b)) (hd : Drawn w w') : FndP ns (some b) w e w' := ⟨⟨k, q, h, hk⟩, hd⟩
set_option maxRecDepth 8000 in
theorem impl_find (lo hi P : Nat) (f : Int) (ns : List (Nat × Bt)) (d : Int) (w : World) (h : LS w lo hi P f ns) (hs : (bsL ns).Pairwise fun x y => x.d < y.d) :
    Calls Try.prog 31 #[ptV P, .int .i64 d] w (FndP ns (geF (bsL ns) d) w) := by
  have HB := Lib.hid (impl_before lo hi P f ns d w h)
  have H := Lib.hid h; clear h
  have HS := Lib.hid hs; clear hs
  obtain ⟨G, hG⟩ : ∃ G, G = geF (bsL ns) d := ⟨_, rfl⟩
  rw [← hG]
  have HG := Lib.hid hG; clear hG
  unfold ptV
  go_enter Try.func31, Try.ntmps31
  go_wp2_with fail
  refine HB.out.mono ?_
  rintro e w1 ⟨k, q, b0, rfl, hk, h1, h2, hd⟩
  have Hd := Lib.hid hd
  have Hw := Lib.hid (H.out.under (hd.below _))
  have c4 := (Hw.out.node hk).2.2.2.2.1
  have hsp := ge_split HS.out h1 h2
  rw [← HG.out, bsL_at] at hsp
  clear hd h1 h2 hk
  unfold ptV
  cases hn : ns[k + 1]? with
  | none =>
    rw [nxV_end hn] at c4
    rw [hn] at hsp
    have hs2 : G = none := hsp
    clear hsp
    subst hs2
    clear hn
    go_wp2
    go_ret
    exact FndP.no rfl Hd.out
  | some x =>
    obtain ⟨q2, b2⟩ := x
    rw [nxV_at hn] at c4
    unfold ptV at c4
    rw [hn] at hsp
    have hs2 : G = if b2.d = d then some b2 else none := hsp
    clear hsp
    have d0 := (Hw.out.node hn).1
    have Hn := Lib.hid hn; clear hn
    by_cases he : b2.d = d
    · rw [if_pos he] at hs2
      subst hs2
      have he' : (b2.d == d) = true := by rw [beq_iff_eq]; exact he
      have he2 : (b2.d != d) = false := by rw [bne, he']; rfl
      clear he
      go_wp2
      go_ret
      exact FndP.yes (k + 1) q2 rfl Hn.out Hd.out
    · rw [if_neg he] at hs2
      subst hs2
      have he' : (b2.d == d) = false := by rw [beq_eq_false_iff_ne]; exact he
      have he2 : (b2.d != d) = true := by rw [bne, he']; rfl
      clear he
      go_wp2
      go_ret
      exact FndP.no rfl Hd.out

end Go.Proofs.Ythojbcecbeapgaa

/- Appending one number as an operation of a region, and where the new slice lies; nothing here speaks of the program. -/
namespace Go.Proofs.Ythojbcecbeapgaa
open Go.RowKit

/-- 'append(s, z)' as an operation of a region, and where the new slice lies. -/
theorem op_push_at {P : Program} {T E : TypeId} (hT : IntT P T E) (w : World) {o : Oper} {a : Act} {K : Act → World → Prop} {Q : Exit → Act → World → Prop} (s x : Operand)
    (ho : o.op = .call { callee := .builtin .append, args := #[s, x], argTypes := #[T, T] }) (B : Nat) (v : Value) (xs : List Int) (z : Int) (hs : a.eval s = v) (hown : Own E w B v xs)
    (hlen : xs.length ≤ 1099511627776) (hx : a.eval x = .slice (some ⟨w.heap.size, 0, none⟩) 1 1) (hB : B ≤ w.heap.size)
    (h : ∀ v' w', Own E w' B v' (xs ++ [z]) → w.grownBy w' v.ownBlock → (v'.ownBlock = v.ownBlock ∨ ∃ g, v'.ownBlock = some g ∧ w.heap.size ≤ g) → K (a.put o.dst v') w') : Oper.wp P o a (w.alloc (.cells #[.int .i64 z] E)) K Q := by
  obtain ⟨i, hi, hz, hsz, hby⟩ := info_parts hT.info
  obtain ⟨v', w', hr, h1, h2, _, h4⟩ := run_append_own_at (P := P) (w.alloc (.cells #[.int .i64 z] E)) B T o.type E i (.int .i64 0) 1 8 hT.sl hi hz hsz hby rfl (by decide) v xs.length _ (World.ownsRow.alloc hown _) ⟨w.heap.size, 0, none⟩ 1 1 [.int .i64 z] rfl (cells_one _ _ _) (by intro u hu; simp at hu; subst hu; rfl) (by unfold maxLen; omega) (by omega) (by simp; omega)
  unfold Oper.wp execOp
  simp only [ho, resolve, invoke, builtin, Sem.run_bind, Sem.run_pure, Result.andThen_ok, List.map_toArray, List.map_cons, List.map_nil, hs, hx, hr]
  refine h v' w' ?_ (grownBy_trans (World.grownBy_alloc _ _ _) h2) ?_
  · unfold Own; simpa using h1
  · rcases h4 with h4 | h4
    · exact .inl h4
    · exact .inr ⟨_, h4, by simp⟩

end Go.Proofs.Ythojbcecbeapgaa

/- A loop over a function at the wide fence, opened by one law: whoever walks the iterator gets a round for every call of yield, and owes that the loop's own two blocks lie as they lay; no conditions of our own. -/
namespace Go.Proofs.Ythojbcecbeapgaa
open Go.RowKit Go.Shelf

/-- How a round ends: the loop's block is busy still; off its end (yield says yes) or by a return (yield says no). -/
def RoundEnd (L : Nat) (rec : LoopState → Option Code → Obj) (R : Ending → World → Prop) : Exit → Act → World → Prop := fun e _ W =>
  W.heap[L]? = some (rec .busy none) ∧
  ((e = .normal ∧ R (.returned (.bool true)) (W.putObj L (rec .ready none))) ∨ (e = .ret ∧ R (.returned (.bool false)) (W.putObj L (rec .done (some .ret)))))

/-- A round, for whoever calls yield. -/
def Rounds (P : Program) (m : Nat) (a : Act) (ps : Array Tmp) (assign body : Code) (L : Nat) (rec : LoopState → Option Code → Obj) : Prop :=
  ∀ (args : Array Value) (W : World) (R : Ending → World → Prop), args.size = ps.size → W.heap[L]? = some (rec .ready none) →
    assign.wpIn (Fence.wide.inRound L) m P (Exit.then (fun a₁ W₁ => W₁.heap[L]? = some (rec .ready none) ∧ body.wpIn (Fence.wide.inRound L) m P (RoundEnd L rec R) a₁ (W₁.putObj L (rec .busy none))) (fun _ _ _ => False))
      { tmps := (ps.zip args).foldl (fun t (p, v) => t.setIfInBounds p v) a.tmps, defers := [] } W →
    YieldAt Fence.wide m P L args W R

theorem wpIn_over {P : Program} {n : Nat} {g : Operand} {ps : Array Tmp} {assign body : Code} {Q : Exit → Act → World → Prop} {a : Act} {w : World} {gf : Nat} {lb : Array Value}
    (hg : a.eval g = .func (.func gf) #[] lb) (eg : ∀ args w, (callFunc gf args).run P w = .ok (.enter gf args) w)
    (h : ∀ rec : LoopState → Option Code → Obj, (∀ st pe, (rec st pe).isCells = false) → Rounds P (n - 1 - 1) a ps assign body (w.heap.size + 1) rec →
      CallsIn Fence.wide (n - 1) P gf (#[.func (.yield (w.heap.size + 1)) #[] #[]] ++ lb) ((w.alloc (.deferred (some []))).alloc (rec .ready none)) fun e W => (∃ v, e = .returned v) ∧
        ((W.heap[w.heap.size + 1]? = some (rec .ready none) ∧ Q .normal { a with defers := { target := .collected w.heap.size, args := #[] } :: a.defers } (W.putObj (w.heap.size + 1) (rec .exhausted none))) ∨
         (W.heap[w.heap.size + 1]? = some (rec .done (some .ret)) ∧ Code.ret.wpIn Fence.wide n P Q { a with defers := { target := .collected w.heap.size, args := #[] } :: a.defers } (W.putObj (w.heap.size + 1) (rec .exhausted (some .ret)))))) :
    (Code.rangeFunc g ps assign body).wpIn Fence.wide n P Q a w := by
  refine wpIn_rangeFunc fun fn hfn => ?_
  obtain ⟨lp, hlp⟩ : ∃ lp : LoopState → Option Code → Loop, ∀ st pe, lp st pe = { state := st, pending := pe, fn := fn, tmps := a.tmps, params := ps, assign := assign, body := body, defers := w.heap.size } := ⟨fun _ _ => _, fun _ _ => rfl⟩
  have hb1 : ∀ {W : World}, W.heap[w.heap.size + 1]? = some (.loop (lp .ready none)) → (Instr.beginRound (w.heap.size + 1)).run P W = .ok () (W.putObj (w.heap.size + 1) (.loop (lp .busy none))) := fun hl => by
    have := run_beginRound (P := P) hl (by rw [hlp])
    rw [this]; simp only [hlp]
  have hb2 : ∀ {W : World} (j : Option Code), W.heap[w.heap.size + 1]? = some (.loop (lp .busy none)) → (Instr.endRound (w.heap.size + 1) j).run P W = .ok (.bool j.isNone) (W.putObj (w.heap.size + 1) (.loop (lp (if j.isNone then .ready else .done) j))) := fun j hl => by
    have := run_endRound (P := P) j hl
    rw [this]; simp only [hlp]
  have hb3 : ∀ {W : World} {st : LoopState} {j : Option Code}, st ≠ .busy → W.heap[w.heap.size + 1]? = some (.loop (lp st j)) → (Instr.endLoop (w.heap.size + 1)).run P W = .ok j (W.putObj (w.heap.size + 1) (.loop (lp .exhausted j))) := fun hs hl => by
    have := run_endLoop (P := P) hl (by rw [hlp]; exact hs)
    rw [this]; simp only [hlp]
  have hc := h (fun st pe => .loop (lp st pe)) (fun _ _ => rfl) (fun args W R hsz hl hw => by
    refine ⟨fn, _, assign, body, ?_, roundIn_of_wpIn hfn (wpIn_mono hw ?_)⟩
    · have := run_yield (P := P) (args := args) hl (by rw [hlp]; exact hsz)
      rw [this]; simp only [hlp]
    · rintro e a₁ W₁ he
      cases e with
      | normal =>
        obtain ⟨hl₁, hb⟩ := he
        refine ⟨_, hb1 hl₁, wpIn_mono hb ?_⟩
        rintro e a₂ W₂ ⟨hl₂, ⟨rfl, hR⟩ | ⟨rfl, hR⟩⟩
        · exact ⟨_, _, hb2 none hl₂, hR⟩
        · exact ⟨_, _, hb2 (some .ret) hl₂, hR⟩
      | _ => exact he.elim)
  have he : (Instr.enterLoop fn a.tmps ps assign body Fence.wide.round).run P w = .ok (w.heap.size + 1, [{ target := .collected w.heap.size, args := #[] }]) ((w.alloc (.deferred (some []))).alloc (.loop (lp .ready none))) := by
    rw [show Fence.wide.round = none from rfl, run_enterLoop_outer]; simp only [hlp]
  clear hb1 hb2 h
  generalize (w.alloc (.deferred (some []))).alloc (.loop (lp .ready none)) = W1 at hc he
  obtain ⟨ag, hag⟩ : ∃ ag : Array Value, ag = #[.func (.yield (w.heap.size + 1)) #[] #[]] := ⟨_, rfl⟩
  have hres : (resolve a.eval (rangeCall g (w.heap.size + 1)) 0).run P W1 = .ok { target := .fn (.func gf) lb, args := ag } W1 := by
    simp only [resolve, hg, hag]
    simp [go_sem]
  have hinv : (invoke (.fn (.func gf) lb) ag).run P W1 = .ok (.enter gf (ag ++ lb)) W1 := by
    simp [invoke, go_sem, eg]
  rw [← hag] at hc
  have hc2 := hc.mono (R' := rangePost Fence.wide n P (w.heap.size + 1) Q { a with defers := [{ target := .collected w.heap.size, args := #[] }] ++ a.defers }) (by
    rintro e W ⟨⟨v, rfl⟩, ⟨hl, hq⟩ | ⟨hl, hq⟩⟩
    · exact ⟨none, _, hb3 (by simp) hl, hq⟩
    · exact ⟨some .ret, _, hb3 (by simp) hl, hq⟩)
  exact ⟨_, _, _, _, _, _, _, _, he, hres, fun _ _ => trivial, hinv, fun h => by simp [Fence.wide] at h, hc2⟩

/-! a region that draws its order, in a round -/
theorem op_round {P : Program} {L n : Nat} {o : Oper} {a : Act} {w : World} {K : Act → World → Prop} {Q : Exit → Act → World → Prop} (hd : ∀ c, o.op ≠ .defer c) (h : o.wp P a w K Q) : o.wpIn (Fence.wide.inRound L) n P a w K Q := by
  refine ⟨fun _ _ => trivial, ?_⟩
  unfold Oper.wp at h
  rw [Fence.inRound_round, Oper.semAt_some L _ o hd]
  generalize (execOp a.eval o).run P w = r at *
  have hn : (Fence.wide.inRound L).depth.isSome = true → 1 ≤ n := fun h => by simp [Fence.wide] at h
  cases r with
  | ok x w' =>
    cases x <;> simp only [Oper.upon, Oper.uponIn] at h ⊢ <;>
      first
        | exact h
        | exact ⟨hn, CallsIn.inRound L (callsIn_wide.2 h)⟩
        | exact ⟨hn, fun c cs _ => let ⟨v, w', r, s⟩ := h c cs; ⟨v, w', r, stepsIn_wide.2 s⟩⟩
        | exact h.elim
  | halt x w' => cases x <;> simp only [Oper.upon, Oper.uponIn] at h ⊢ <;> exact h
/-- No operation of the region is a deferring. -/
def noDefer (ops : Array Oper) : Bool := ops.toList.all fun o => match o.op with | .defer _ => false | _ => true
theorem noDefer_at {ops : Array Oper} (h : noDefer ops = true) {i : Nat} {o : Oper} (hi : ops[i]? = some o) : ∀ c, o.op ≠ .defer c := by
  intro c e
  unfold noDefer at h
  rw [List.all_eq_true] at h
  have := h o (by rw [← Array.mem_def]; exact Array.mem_of_getElem? hi)
  rw [e] at this
  cases this
theorem any_round {P : Program} {L n : Nat} {md : Region.Mode} {ops : Array Oper} {Q : Exit → Act → World → Prop} (hd : noDefer ops = true) (hQ : ¬ LetsOut Q) :
    ∀ (fuel : Nat) (listed : Array Bool) (a : Act) (w : World), wpAny P md ops Q fuel listed a w → wpAnyIn (Fence.wide.inRound L) n P md ops Q fuel listed a w
  | 0, _, _, _, h => h
  | fuel + 1, listed, a, w, h => ⟨h.1, fun i hi => by
      have := h.2 i hi
      unfold wpOp at this
      unfold wpOpIn
      split
      · rename_i e
        simp only [e] at this
        exact any_round hd hQ fuel _ _ _ this
      · rename_i o e
        simp only [e] at this
        split
        · rename_i hw
          simp only [hw, if_true] at this
          rcases this with this | this
          · exact Oper.wpIn_mono (fun a w h => any_round hd hQ fuel _ a w h) (op_round (noDefer_at hd e) this)
          · exact absurd this.2 hQ
        · rename_i hw
          simp only [hw] at this
          exact ⟨fun _ _ => trivial, any_round hd hQ fuel _ _ _ this⟩⟩
/-- The region's end alone is let through. -/
def JustNormal (Q : Exit → Act → World → Prop) : Exit → Act → World → Prop
  | .normal, a, w => Q .normal a w
  | _, _, _ => False
theorem JustNormal.intro {Q : Exit → Act → World → Prop} {a : Act} {w : World} (h : Q .normal a w) : JustNormal Q .normal a w := h
theorem region_round {P : Program} {L n : Nat} {id : Nat} {ops : Array Oper} {Q : Exit → Act → World → Prop} {a : Act} {w : World} (S : World → Prop) (hm : P.follows .mixedOrders = true) (hd : noDefer ops = true) (hS : S w.drew)
    (h : S w.drew → wpAnyH P .any ops (JustNormal Q) S ops.size (Array.replicate ops.size false) a w.drew) : (Code.region id ops true).wpIn (Fence.wide.inRound L) n P Q a w :=
  Code.wpIn_mono (Q := JustNormal Q) (fun e a w q => by cases e <;> first | exact q | exact (q : False).elim)
    (wpIn_region_any hm (any_round hd (by rintro ⟨a, w, h⟩; exact h) _ _ _ _ (wpAny_of_held _ _ _ _ (h hS))))

end Go.Proofs.Ythojbcecbeapgaa

/- impl's iterator over the batches of its linked list, what it counts and what an author uses, each by a walk of its text; condition: the list lies as it should. -/
namespace Go.Proofs.Ythojbcecbeapgaa
open Go.RowKit Go.Shelf
attribute [local go_sem] Oper.semAt_some

def msA (ns : List (Nat × Bt)) : Value → Nat
  | .pointer (some a) => ns.length - ixA ns (.pointer (some a))
  | _ => 0
/-- Between two rounds of a loop over a store's batches: the list, the iterator's box, the loop's own two blocks. -/
structure Itr (w0 W : World) (lo hi P : Nat) (f : Int) (ns : List (Nat × Bt)) (Bs D L : Nat) (o : Obj) : Prop where
  ls : LS W lo hi P f ns
  box : Str W Bs 46 #[ptV P]
  dd : W.heap[D]? = some (.deferred (some []))
  ll : W.heap[L]? = some o
  bel : Below w0.heap.size w0 W
  hi0 : hi ≤ w0.heap.size
  ord : Bs < D ∧ w0.heap.size ≤ D ∧ D < L
section
variable {w0 W W' : World} {lo hi P : Nat} {f : Int} {ns : List (Nat × Bt)} {Bs D L : Nat} {o : Obj}
theorem Itr.ltL (h : Itr w0 W lo hi P f ns Bs D L o) : L < W.heap.size := (Array.getElem?_eq_some_iff.1 h.ll).1
theorem Itr.kept (h : Itr w0 W lo hi P f ns Bs D L o) {row : Option Nat} (hg : W.grownBy W' row) (hrow : ∀ m, row = some m → w0.heap.size ≤ m ∧ m ≠ Bs ∧ m ≠ D ∧ m ≠ L) : Itr w0 W' lo hi P f ns Bs D L o := by
  have h1 := h.hi0
  have h2 := (Array.getElem?_eq_some_iff.1 h.dd).1
  refine ⟨h.ls.kept hg fun m e => .inl (by have := hrow m e; omega), h.box.kept hg fun e => (hrow Bs e.symm).2.1 rfl, (hg.block D h2 fun e => (hrow D e.symm).2.2.1 rfl).trans h.dd, (hg.block L h.ltL fun e => (hrow L e.symm).2.2.2 rfl).trans h.ll, h.bel.grown hg h.bel.size fun m e => (hrow m e).1, h1, h.ord⟩
theorem Itr.put (h : Itr w0 W lo hi P f ns Bs D L o) (o' : Obj) : Itr w0 (W.putObj L o') lo hi P f ns Bs D L o' := by
  have h1 := h.hi0
  have h2 := h.ord
  have hg := grownBy_putObj' W L o'
  refine ⟨h.ls.kept hg fun m e => .inl (by cases e; omega), h.box.kept hg (by simp; omega), (World.putObj_heap_other (by omega)).trans h.dd, World.putObj_heap_same h.ltL, h.bel.grown hg h.bel.size fun m e => by cases e; omega, h1, h2⟩
end

theorem impl_batches (P : Nat) (w : World) : Calls Try.prog 43 #[ptV P] w fun e w' =>
    e = .returned (.func (.func 49) #[] #[.pointer (some ⟨w.heap.size, 0, none⟩)]) ∧ w' = w.alloc (.cells #[ptV P] 46) := by
  go_enter Try.func43, Try.ntmps43
  go_wp2
  go_ret
  exact ⟨rfl, rfl⟩

theorem impl_batches1 (L Bs lo hi P : Nat) (f : Int) (ns : List (Nat × Bt)) (J : List Bt → World → Prop)
    (hJ : ∀ pre W, J pre W → LS W lo hi P f ns ∧ Str W Bs 46 #[ptV P])
    (hY : ∀ pre x rest W, pre ++ x :: rest = bsL ns → J pre W → YieldAt Fence.wide 1 Try.prog L #[agB x] W fun e W' => e = .returned (.bool true) ∧ J (pre ++ [x]) W')
    (W : World) (h0 : J [] W) :
    CallsIn Fence.wide 2 Try.prog 49 #[.func (.yield L) #[] #[], .pointer (some ⟨Bs, 0, none⟩)] W fun e W' => (∃ v, e = .returned v) ∧ J (bsL ns) W' := by
  obtain ⟨hls, hbx⟩ := hJ [] W h0
  obtain ⟨_, z1, _, _⟩ := hls.cell
  obtain ⟨q0, b0, hq0⟩ := hls.head
  rw [nxV_at hq0] at z1
  have hn0 := (hls.node hq0).2.2.2.2.1
  have hb0 := hbx.cell 0 (v := ptV P) rfl
  have hlb := bsL_len ns
  have Hlb := Lib.hid hlb; clear hlb
  have Hne := Lib.hid hls.ne
  have HJ := Lib.hid hJ; clear hJ hls hbx
  have HY := Lib.hid hY; clear hY
  have Hbs := Lib.hid (bsL_at ns)
  unfold ptV at z1 hb0
  refine callsIn_of_wp Try.func49 rfl trivial ?_ rfl
  simp only [Try.ntmps49, List.size_toArray, List.length_cons, List.length_nil, Nat.reduceAdd, Nat.reduceSub, Array.replicate_succ, Array.replicate_zero, List.push_toArray, List.append_toArray, List.nil_append, List.cons_append]
  gi_wp2
  gi_loopw [3] (fun at_ wr => ∃ k : Nat, k ≤ (bsL ns).length ∧ at_ = nxV ns (k + 1) ∧ J ((bsL ns).take k) wr) (fun at_ _ => msA ns at_)
  case atStart => exact ⟨0, by omega, rfl, by rw [List.take_zero]; exact h0⟩
  case round =>
    obtain ⟨k, hk, rfl, hJk⟩ := hrel
    clear z1 hn0 hb0
    cases hn : ns[k + 1]? with
    | none =>
      have hl2 : ns.length ≤ k + 1 := List.getElem?_eq_none_iff.1 hn
      rw [nxV_end hn]
      have hkl : (bsL ns).take k = bsL ns := List.take_of_length_le (by have := Hlb.out; omega)
      rw [hkl] at hJk
      have HJk := Lib.hid hJk
      clear hn hkl hJk
      gi_wp2
      refine ⟨fun _ _ => trivial, ?_⟩
      gi_wp2
      go_end0
      exact ⟨⟨_, rfl⟩, HJk.out⟩
    | some x =>
      obtain ⟨q, b⟩ := x
      obtain ⟨hls, _⟩ := HJ.out _ _ hJk
      obtain ⟨c0, c1, c2, c3, _, _⟩ := hls.node hn
      have Hix := Lib.hid (hls.ix hn)
      have Hn := Lib.hid hn
      rw [nxV_at hn]
      have hl2 := (List.getElem?_eq_some_iff.1 hn).1
      have hkl : k < (bsL ns).length := by have := Hlb.out; omega
      have hbk : (bsL ns)[k] = b := by
        have e := Hbs.out k
        rw [hn, List.getElem?_eq_getElem hkl] at e
        exact Option.some.inj e
      have hpre : (bsL ns).take k ++ b :: (bsL ns).drop (k + 1) = bsL ns := by
        rw [← hbk, ← List.drop_eq_getElem_cons hkl, List.take_append_drop]
      have hsuc : (bsL ns).take k ++ [b] = (bsL ns).take (k + 1) := by rw [← hbk, List.take_append_getElem hkl]
      obtain ⟨fn, tmps, assign, body, hy, hR⟩ := HY.out _ b _ wr hpre hJk
      rw [hsuc] at hR
      clear hn hls hpre hsuc hbk hJk
      obtain ⟨bd, ba, br, bs⟩ := b
      unfold agB at hy
      unfold ptV
      dsimp only at *
      gi_wp2
      refine hR.mono ?_
      rintro e W3 ⟨rfl, hJ3⟩
      obtain ⟨hls3, _⟩ := HJ.out _ _ hJ3
      have c4 := (hls3.node Hn.out).2.2.2.2.1
      have Hl3 := Lib.hid hls3
      have HJ3 := Lib.hid hJ3
      clear hls3 hJ3 hR hy
      gi_wp2
      go_roundw
      case rel => exact ⟨k + 1, by omega, rfl, HJ3.out⟩
      case measure =>
        show msA ns (nxV ns (k + 1 + 1)) < msA ns (.pointer (some ⟨q, 0, none⟩))
        have e1 : msA ns (.pointer (some ⟨q, 0, none⟩)) = ns.length - (k + 1) := by show ns.length - ixA ns _ = _; rw [Hix.out]
        rw [e1]
        cases hn2 : ns[k + 1 + 1]? with
        | none => rw [nxV_end hn2]; show 0 < _; omega
        | some x =>
          obtain ⟨q2, b2⟩ := x
          rw [nxV_at hn2]
          have e2 := Hl3.out.ix hn2
          show ns.length - ixA ns (.pointer (some ⟨q2, 0, none⟩)) < _
          rw [e2]; omega

theorem impl_count (lo hi P : Nat) (f : Int) (ns : List (Nat × Bt)) (w : World) (h : LS w lo hi P f ns) (hsm : ns.length ≤ 1048576) :
    Calls Try.prog 47 #[ptV P] w fun e w' => e = .returned (.int .i64 (bsL ns).length) ∧ Below w.heap.size w w' := by
  have H := Lib.hid h; clear h
  have Hlb := Lib.hid (bsL_len ns)
  refine (callsIn_wide (n := 3)).1 ?_
  refine callsIn_of_wp_marks Try.func47 rfl trivial ?_ rfl
  simp only [Try.ntmps47, List.size_toArray, List.length_cons, List.length_nil, Nat.reduceAdd, Nat.reduceSub, Array.replicate_succ, Array.replicate_zero, List.push_toArray, List.append_toArray, List.nil_append, List.cons_append]
  gi_wp2_with fail
  refine ⟨trivial, (callsIn_wide.2 (impl_batches P _)).mono ?_⟩
  rintro e w' ⟨rfl, rfl⟩
  gi_wp2_with fail
  obtain ⟨w1, hw1⟩ : ∃ w1, (w.alloc (.cells #[.int .i64 0] 3)).alloc (.cells #[ptV P] 46) = w1 := ⟨_, rfl⟩
  have hz1 : w1.heap.size = w.heap.size + 2 := by rw [← hw1]; simp
  have hr1 : Str w1 w.heap.size 3 #[.int .i64 0] := by rw [← hw1]; exact (Str.new _ _ _).alloc _
  have hl1 : Str w1 (w.heap.size + 1) 46 #[ptV P] := by
    have := Str.new (w.alloc (.cells #[.int .i64 0] 3)) 46 #[ptV P]
    rw [hw1, World.size_alloc] at this
    exact this
  have hb1 : Below w.heap.size w w1 := by rw [← hw1]; exact ((Below.refl _ w).alloc (Nat.le_refl _) _).alloc (by simp) _
  rw [hw1]
  clear hw1
  refine wpIn_over (gf := 49) (lb := #[.pointer (some ⟨w.heap.size + 1, 0, none⟩)]) rfl (enters_of Try.func49 (by kernel_rfl) rfl) ?_
  intro rec _ hround
  have Hround := Lib.hid hround; clear hround
  obtain ⟨w2, hw2⟩ : ∃ w2, (w1.alloc (.deferred (some []))).alloc (rec .ready none) = w2 := ⟨_, rfl⟩
  have hD2 : w2.heap[w1.heap.size]? = some (.deferred (some [])) := by
    rw [← hw2]; exact (Below.heap_alloc _ _ _ (by simp)).trans (World.alloc_heap_new w1 _)
  have hL2 : w2.heap[w1.heap.size + 1]? = some (rec .ready none) := by
    rw [← hw2]; have := World.alloc_heap_new (w1.alloc (.deferred (some []))) (rec .ready none); rwa [World.size_alloc] at this
  have hb2 : Below w1.heap.size w1 w2 := by rw [← hw2]; exact ((Below.refl _ w1).alloc (Nat.le_refl _) _).alloc (by simp) _
  rw [hw2]
  clear hw2
  have hbw : Below w.heap.size w w2 := below_step hb1 hb1.size hb2
  have hI2 : Itr w w2 lo hi P f ns (w.heap.size + 1) w1.heap.size (w1.heap.size + 1) (rec .ready none) := ⟨H.out.under hbw, (hb2.block _ (by omega)).trans hl1, hD2, hL2, hbw, H.out.le, by omega⟩
  refine (impl_batches1 (w1.heap.size + 1) (w.heap.size + 1) lo hi P f ns
    (fun pre W => Str W w.heap.size 3 #[.int .i64 (pre.length : Nat)] ∧ Itr w W lo hi P f ns (w.heap.size + 1) w1.heap.size (w1.heap.size + 1) (rec .ready none)) (fun pre W hJ => ⟨hJ.2.ls, hJ.2.box⟩) ?Y w2
    ⟨(hb2.block _ (by omega)).trans hr1, hI2⟩).mono ?_
  case Y =>
    rintro pre x rest W hpre ⟨hbx, hI⟩
    have hpl : pre.length + 1 ≤ (bsL ns).length := by rw [← hpre]; simp
    refine Hround.out #[agB x] W _ rfl hI.ll ?_
    gi_wp2
    refine ⟨hI.ll, ?_⟩
    have hI3 := hI.put (rec .busy none)
    have hbx3 := hbx.kept (grownBy_putObj' W (w1.heap.size + 1) (rec .busy none)) (by simp; omega)
    clear hI hbx
    generalize W.putObj (w1.heap.size + 1) (rec .busy none) = W3 at *
    have hcb := hbx3.cell 0 (v := .int .i64 (pre.length : Nat)) rfl
    have hfb := hbx3.frozen 0
    have HI3 := Lib.hid hI3; clear hI3
    have Hlb2 := Hlb.out
    have hw : IntKind.i64.wrap (((pre.length : Nat) : Int) + 1) = ((pre.length + 1 : Nat) : Int) := by rw [IntWalk.i64_in _ (by omega)]; omega
    obtain ⟨m, hm⟩ : ∃ m, m = pre.length := ⟨_, rfl⟩
    have Hm := Lib.hid hm
    rw [← hm] at hcb hbx3 hw
    have Hbx3 := Lib.hid hbx3
    have Hpl := Lib.hid hpl
    clear hbx3 hpl hm Hlb2
    gi_wp2
    have hm := Hm.out
    have hI4 := HI3.out.kept (grownBy_set W3 w.heap.size 0 (.int .i64 ((m : Int) + 1))) (fun m e => by cases e; omega)
    have hbx4 := Hbx3.out.set 0 (.int .i64 ((m : Int) + 1))
    refine ⟨hI4.ll, .inl ⟨rfl, rfl, ?_, hI4.put (rec .ready none)⟩⟩
    have e1 : (((pre ++ [x]).length : Nat) : Int) = (m : Int) + 1 := by rw [List.length_append, ← hm]; rfl
    rw [e1]
    exact hbx4.kept (grownBy_putObj' _ _ _) (by simp; omega)
  · rintro e W ⟨hv, hbx, hI⟩
    refine ⟨hv, .inl ⟨hI.ll, ?_⟩⟩
    have hI3 := hI.put (rec .exhausted none)
    have hbx3 := hbx.kept (grownBy_putObj' W (w1.heap.size + 1) (rec .exhausted none)) (by simp; omega)
    clear hI hbx
    generalize W.putObj (w1.heap.size + 1) (rec .exhausted none) = W3 at *
    have hcb := hbx3.cell 0 (v := .int .i64 ((bsL ns).length : Nat)) rfl
    have HI3 := Lib.hid hI3; clear hI3
    have Hz1 := Lib.hid hz1; clear hz1
    gi_wp2
    refine ⟨by simp, .inl ⟨_, _, rfl, run_takeDeferred HI3.out.dd, ?_⟩⟩
    have hz := Hz1.out
    exact ⟨_, results_tmp rfl _ _ _, rfl, HI3.out.bel.grown (grownBy_putObj' _ _ _) HI3.out.bel.size (fun k e => by cases e; omega)⟩

set_option maxHeartbeats 2000000 in
theorem impl_used (lo hi P : Nat) (f : Int) (ns : List (Nat × Bt)) (a : Int) (w : World) (h : LS w lo hi P f ns) (hsm : ns.length ≤ 1048576) (hv : ∀ b ∈ bsL ns, btB b = true) :
    Calls Try.prog 33 #[ptV P, .int .i64 a] w fun e w' => e = .returned (.int .i64 (usZ (bsL ns) a)) ∧ Below w.heap.size w w' := by
  have H := Lib.hid h; clear h
  have Hlb := Lib.hid (bsL_len ns)
  have Hv := Lib.hid hv; clear hv
  refine (callsIn_wide (n := 3)).1 ?_
  refine callsIn_of_wp_marks Try.func33 rfl trivial ?_ rfl
  simp only [Try.ntmps33, List.size_toArray, List.length_cons, List.length_nil, Nat.reduceAdd, Nat.reduceSub, Array.replicate_succ, Array.replicate_zero, List.push_toArray, List.append_toArray, List.nil_append, List.cons_append]
  gi_wp2_with fail
  refine ⟨trivial, (callsIn_wide.2 (impl_batches P _)).mono ?_⟩
  rintro e w' ⟨rfl, rfl⟩
  gi_wp2_with fail
  obtain ⟨w1, hw1⟩ : ∃ w1, ((w.alloc (.cells #[.int .i64 a] 3)).alloc (.cells #[.int .i64 0] 3)).alloc (.cells #[ptV P] 46) = w1 := ⟨_, rfl⟩
  have hz1 : w1.heap.size = w.heap.size + 3 := by rw [← hw1]; simp
  have ha1 : Str w1 w.heap.size 3 #[.int .i64 a] := by rw [← hw1]; exact ((Str.new _ _ _).alloc _).alloc _
  have hr1 : Str w1 (w.heap.size + 1) 3 #[.int .i64 0] := by
    have := (Str.new (w.alloc (.cells #[.int .i64 a] 3)) 3 #[.int .i64 0]).alloc (.cells #[ptV P] 46)
    rw [hw1, World.size_alloc] at this
    exact this
  have hl1 : Str w1 (w.heap.size + 1 + 1) 46 #[ptV P] := by
    have := Str.new ((w.alloc (.cells #[.int .i64 a] 3)).alloc (.cells #[.int .i64 0] 3)) 46 #[ptV P]
    rw [hw1, World.size_alloc, World.size_alloc] at this
    exact this
  have hb1 : Below w.heap.size w w1 := by rw [← hw1]; exact (((Below.refl _ w).alloc (Nat.le_refl _) _).alloc (by simp) _).alloc (by simp; omega) _
  rw [hw1]
  clear hw1
  refine wpIn_over (gf := 49) (lb := #[.pointer (some ⟨w.heap.size + 1 + 1, 0, none⟩)]) rfl (enters_of Try.func49 (by kernel_rfl) rfl) ?_
  intro rec _ hround
  have Hround := Lib.hid hround; clear hround
  obtain ⟨w2, hw2⟩ : ∃ w2, (w1.alloc (.deferred (some []))).alloc (rec .ready none) = w2 := ⟨_, rfl⟩
  have hD2 : w2.heap[w1.heap.size]? = some (.deferred (some [])) := by
    rw [← hw2]; exact (Below.heap_alloc _ _ _ (by simp)).trans (World.alloc_heap_new w1 _)
  have hL2 : w2.heap[w1.heap.size + 1]? = some (rec .ready none) := by
    rw [← hw2]; have := World.alloc_heap_new (w1.alloc (.deferred (some []))) (rec .ready none); rwa [World.size_alloc] at this
  have hb2 : Below w1.heap.size w1 w2 := by rw [← hw2]; exact ((Below.refl _ w1).alloc (Nat.le_refl _) _).alloc (by simp) _
  rw [hw2]
  clear hw2
  have hbw : Below w.heap.size w w2 := below_step hb1 hb1.size hb2
  have hI2 : Itr w w2 lo hi P f ns (w.heap.size + 1 + 1) w1.heap.size (w1.heap.size + 1) (rec .ready none) := ⟨H.out.under hbw, (hb2.block _ (by omega)).trans hl1, hD2, hL2, hbw, H.out.le, by omega⟩
  refine (impl_batches1 (w1.heap.size + 1) (w.heap.size + 1 + 1) lo hi P f ns
    (fun pre W => Str W w.heap.size 3 #[.int .i64 a] ∧ Str W (w.heap.size + 1) 3 #[.int .i64 (usZ pre a)] ∧ Itr w W lo hi P f ns (w.heap.size + 1 + 1) w1.heap.size (w1.heap.size + 1) (rec .ready none)) (fun pre W hJ => ⟨hJ.2.2.ls, hJ.2.2.box⟩) ?Y w2
    ⟨(hb2.block _ (by omega)).trans ha1, (hb2.block _ (by omega)).trans hr1, hI2⟩).mono ?_
  case Y =>
    rintro pre x rest W hpre ⟨hba, hbx, hI⟩
    have hpv : ∀ b ∈ pre, btB b = true := fun b hb => Hv.out b (by rw [← hpre]; simp [hb])
    have hxv := btB_iff.1 (Hv.out x (by rw [← hpre]; simp))
    have hpl : pre.length + 1 ≤ (bsL ns).length := by rw [← hpre]; simp
    have hus := us_small hpv a
    have hsum : usZ (pre ++ [x]) a = usZ pre a + if x.a = a then x.s else 0 := by rw [usZ_app, usZ_cons]; simp [usZ]
    have Hsum := Lib.hid hsum; clear hsum hpv
    obtain ⟨xd, xa, xr, xs⟩ := x
    dsimp only at *
    refine Hround.out #[agB ⟨xd, xa, xr, xs⟩] W _ rfl hI.ll ?_
    unfold agB
    have halx : W.grownBy (W.alloc (.cells #[.int .i64 xd, .int .i64 xa, .int .i64 xr, .int .i64 xs] 27)) none := World.grownBy_alloc W _ none
    have sX := Str.new W 27 #[.int .i64 xd, .int .i64 xa, .int .i64 xr, .int .i64 xs]
    have hIx := hI.kept halx (fun m e => by cases e)
    have hbax := hba.kept halx (by simp)
    have hbxx := hbx.kept halx (by simp)
    have hzx : W.heap.size < (W.alloc (.cells #[.int .i64 xd, .int .i64 xa, .int .i64 xr, .int .i64 xs] 27)).heap.size := by simp
    have hlW := hI.ltL
    have HI := Lib.hid hIx; have HA := Lib.hid hbax; have HU := Lib.hid hbxx; have HX := Lib.hid sX
    clear hIx hbax hbxx sX halx hba hbx hI
    gi_wp2_with fail
    have hlen := Hlb.out
    generalize W.alloc (.cells #[.int .i64 xd, .int .i64 xa, .int .i64 xr, .int .i64 xs] 27) = WX at *
    refine ⟨HI.out.ll, ?_⟩
    have HI3 := Lib.hid (HI.out.put (rec .busy none))
    have HA3 := Lib.hid (HA.out.kept (grownBy_putObj' WX (w1.heap.size + 1) (rec .busy none)) (by simp; omega))
    have HU3 := Lib.hid (HU.out.kept (grownBy_putObj' WX (w1.heap.size + 1) (rec .busy none)) (by simp; omega))
    have HX3 := Lib.hid (HX.out.kept (grownBy_putObj' WX (w1.heap.size + 1) (rec .busy none)) (by simp; omega))
    clear HI HA HU HX
    generalize WX.putObj (w1.heap.size + 1) (rec .busy none) = W3 at *
    generalize hBX : W.heap.size = BX at *
    obtain ⟨u, hu⟩ : ∃ u, u = usZ pre a := ⟨_, rfl⟩
    rw [← hu] at HU3 hus
    have x1 := HX3.out.cell 1 (v := .int .i64 xa) rfl
    have x3 := HX3.out.cell 3 (v := .int .i64 xs) rfl
    have a0 := HA3.out.cell 0 (v := .int .i64 a) rfl
    have u0 := HU3.out.cell 0 (v := .int .i64 u) rfl
    have uf := HU3.out.frozen 0
    have Hu := Lib.hid hu
    have Hpl := Lib.hid hpl
    have Hlen := Lib.hid hlen
    have hw : IntKind.i64.wrap (u + xs) = u + xs := IntWalk.i64_in _ (by omega)
    have Hord : Hid (w.heap.size + 1 + 1 < w1.heap.size) := Lib.hid (by omega)
    clear hu hpl hlen hpre hus
    by_cases hxa : xa = a
    · have hxa' : (xa == a) = true := by rw [beq_iff_eq]; exact hxa
      have Hs2 := Lib.hid (show usZ (pre ++ [⟨xd, xa, xr, xs⟩]) a = u + xs by rw [Hsum.out, if_pos hxa, ← Hu.out])
      clear hxa
      gi_wp2
      have ho := Hord.out
      have hI4 := HI3.out.kept (grownBy_set W3 (w.heap.size + 1) 0 (.int .i64 (u + xs))) (fun m e => by cases e; omega)
      have hbx4 := HU3.out.set 0 (.int .i64 (u + xs))
      have hba4 := HA3.out.other (B' := w.heap.size + 1) (by omega) 0 (.int .i64 (u + xs))
      refine ⟨hI4.ll, .inl ⟨rfl, rfl, hba4.kept (grownBy_putObj' _ _ _) (by simp; omega), ?_, hI4.put (rec .ready none)⟩⟩
      rw [Hs2.out]
      exact hbx4.kept (grownBy_putObj' _ _ _) (by simp; omega)
    · have hxa' : (xa == a) = false := by rw [beq_eq_false_iff_ne]; exact hxa
      have Hs2 := Lib.hid (show usZ (pre ++ [⟨xd, xa, xr, xs⟩]) a = u by rw [Hsum.out, if_neg hxa, ← Hu.out]; omega)
      clear hxa
      gi_wp2
      have ho := Hord.out
      refine ⟨HI3.out.ll, .inl ⟨rfl, rfl, HA3.out.kept (grownBy_putObj' _ _ _) (by simp; omega), ?_, HI3.out.put (rec .ready none)⟩⟩
      rw [Hs2.out]
      exact HU3.out.kept (grownBy_putObj' _ _ _) (by simp; omega)
  · rintro e W ⟨hv, hba, hbx, hI⟩
    refine ⟨hv, .inl ⟨hI.ll, ?_⟩⟩
    have hI3 := hI.put (rec .exhausted none)
    have hbx3 := hbx.kept (grownBy_putObj' W (w1.heap.size + 1) (rec .exhausted none)) (by simp; omega)
    clear hI hbx hba
    generalize W.putObj (w1.heap.size + 1) (rec .exhausted none) = W3 at *
    have hcb := hbx3.cell 0 (v := .int .i64 (usZ (bsL ns) a)) rfl
    have HI3 := Lib.hid hI3; clear hI3
    have Hz1 := Lib.hid hz1; clear hz1
    gi_wp2
    refine ⟨by simp, .inl ⟨_, _, rfl, run_takeDeferred HI3.out.dd, ?_⟩⟩
    have hz := Hz1.out
    exact ⟨_, results_tmp rfl _ _ _, rfl, HI3.out.bel.grown (grownBy_putObj' _ _ _) HI3.out.bel.size (fun k e => by cases e; omega)⟩

end Go.Proofs.Ythojbcecbeapgaa

/- A region that draws its order, operation by operation, where the condition on the world is kept up to a last operation alone (a store into what was loaded): general steps, nothing here speaks of the program. -/
namespace Go.Proofs.Ythojbcecbeapgaa
open Go.RowKit

/-- Whatever order is picked from here on; S holds behind every operation until number m has come up. -/
def wpAnyL (P : Program) (md : Region.Mode) (ops : Array Oper) (Q : Exit → Act → World → Prop) (m : Nat) (S : World → Prop) : Nat → Array Bool → Act → World → Prop
  | 0, listed, a, w => Region.ready md ops listed = [] ∧ Q .normal a w
  | fuel + 1, listed, a, w =>
    (Region.ready md ops listed = [] → Q .normal a w) ∧
    ∀ i ∈ Region.ready md ops listed, wpOp P ops Q i (fun a' w' => ((listed.setIfInBounds i true).getD m true = false → S w') ∧ wpAnyL P md ops Q m S fuel (listed.setIfInBounds i true) a' w') a w

section
variable {P : Program} {md : Region.Mode} {ops : Array Oper} {Q : Exit → Act → World → Prop} {S : World → Prop} {m : Nat}

theorem any_of_L : ∀ (fuel : Nat) (listed : Array Bool) (a : Act) (w : World), wpAnyL P md ops Q m S fuel listed a w → wpAny P md ops Q fuel listed a w
  | 0, _, _, _, h => h
  | fuel + 1, _, _, _, h => ⟨h.1, fun i hi => wpOp_mono (fun a' w' h' => any_of_L fuel _ a' w' h'.2) (h.2 i hi)⟩

/-- Of two that may come up, neither waits for the other. -/
theorem ready_pair {listed : Array Bool} {i j : Nat} (hi : i ∈ Region.ready md ops listed) (hj : j ∈ Region.ready md ops listed) :
    listed.getD j true = false ∧ ∃ o, ops[j]? = some o ∧ ∀ e ∈ o.after, Region.binds md e = true → e.on ≠ i := by
  obtain ⟨hun, o, ho, hall⟩ := mem_ready.1 hj
  refine ⟨hun, o, ho, fun e he hb heq => ?_⟩
  have h1 := hall e he hb
  have h0 := (mem_ready.1 hi).1
  rw [heq] at h1
  by_cases hlt : i < listed.size <;> simp [hlt] at h0 h1
  rw [h0] at h1; cases h1
/-- Number m waits for number i. -/
def waits (md : Region.Mode) (ops : Array Oper) (m i : Nat) : Bool := (ops[m]?.map fun o => o.after.any fun e => Region.binds md e && e.on == i).getD false
theorem waits_not {listed : Array Bool} {i : Nat} (hw : waits md ops m i = true) (hi : i ∈ Region.ready md ops listed) : m ∉ Region.ready md ops listed := by
  intro hm
  obtain ⟨_, o, ho, hno⟩ := ready_pair hi hm
  unfold waits at hw
  rw [ho, Option.map_some, Option.getD_some, Array.any_eq_true'] at hw
  obtain ⟨e, he, hb⟩ := hw
  rw [Bool.and_eq_true, beq_iff_eq] at hb
  exact hno e he hb.1 hb.2

/-- Whoever may come up ahead of number i leaves its temporaries alone. -/
def FreeAt (md : Region.Mode) (ops : Array Oper) (oi : Oper) (i : Nat) (listed : Array Bool) : Prop :=
  ∀ j oj, ops[j]? = some oj → j ≠ i → listed.getD j true = false → (∀ e ∈ oj.after, Region.binds md e = true → e.on ≠ i) → oi.apart ops oj = true
theorem FreeAt.set {oi : Oper} {i j : Nat} {listed : Array Bool} (h : FreeAt md ops oi i listed) (hj : listed.getD j true = false) : FreeAt md ops oi i (listed.setIfInBounds j true) := by
  intro k ok hk hki hun hno
  refine h k ok hk hki ?_ hno
  rcases Nat.decEq j k with hjk | hjk
  · rwa [getD_set_ne true hjk] at hun
  · exact hjk ▸ hj
theorem firstL {i : Nat} {oi : Oper} {v : Value} (hi : ops[i]? = some oi) (hsel : ∀ (j : Nat) (o : Oper) cs b, ops[j]? = some o → o.op ≠ .select cs b)
    (hQ : ∀ c a w, Q (.panic c) (a.put oi.dst v) w → Q (.panic c) a w) (hw : waits md ops m i = true) (fuel : Nat) :
    ∀ (listed : Array Bool) (a : Act) (w : World), FreeAt md ops oi i listed → listed.getD m true = false → i ∈ Region.ready md ops listed → YieldsIf P ops S oi v a → S w →
      wpAnyL P md ops Q m S fuel (listed.setIfInBounds i true) (a.put oi.dst v) w → wpAnyL P md ops Q m S (fuel + 1) listed a w := by
  have im : ∀ {listed}, i ∈ Region.ready md ops listed → i ≠ m := fun hr e => waits_not hw hr (e ▸ hr)
  induction fuel with
  | zero =>
    intro listed a w _ _ hr hy hS H
    refine ⟨fun h => absurd hr (by rw [h]; simp), fun j hj => ?_⟩
    rcases Nat.decEq j i with hji | rfl
    · exact absurd (ready_mono hj hji) (by rw [H.1]; simp)
    · exact hy.wpOp hi hS ⟨fun _ => hS, H⟩
  | succ fuel ih =>
    intro listed a w hfree hmf hr hy hS H
    refine ⟨fun h => absurd hr (by rw [h]; simp), fun j hj => ?_⟩
    rcases Nat.decEq j i with hji | rfl
    · have hjm : j ≠ m := fun e => waits_not hw hr (e ▸ hj)
      obtain ⟨hjun, oj, hoj, hno⟩ := ready_pair hr hj
      refine wpOp_mono (fun a' w' h3 => ?_) (wpOp_putIf hoj (hfree j oj hoj hji hjun hno) (fun cs b => hsel i oi cs b hi) (fun cs b => hsel j oj cs b hoj) hQ hy (H.2 j (ready_mono hj hji)))
      have hS' : S w' := h3.2.1 (by rw [getD_set_ne true hjm, getD_set_ne true (im hr)]; exact hmf)
      exact ⟨fun _ => hS', ih _ a' w' (hfree.set hjun) (by rw [getD_set_ne true hjm]; exact hmf) (ready_mono hr (Ne.symm hji)) h3.1 hS' (by rw [Array.setIfInBounds_comm _ _ hji]; exact h3.2.2)⟩
    · exact hy.wpOp hi hS ⟨fun _ => hS, H⟩
end

section
variable {P : Program} {md : Region.Mode} {l : List Oper} {Q : Exit → Act → World → Prop} {S : World → Prop} {oi : Oper} {rest : List Oper} {fuel m : Nat} {listed : Array Bool} {a : Act} {w : World}

/-- Take number i first: it is carried out and yields v in every world that meets S. -/
theorem takeL (i : Nat) {v : Value} (hi : l.drop i = oi :: rest) (hs : Region.noSelect l.toArray = true) (hf : Region.free md l.toArray listed i = true) (hr : (Region.ready md l.toArray listed).contains i = true) (hm : waits md l.toArray m i = true) (hm' : listed.getD m true = false)
    (hQ : ∀ c a w, Q (.panic c) (a.put oi.dst v) w → Q (.panic c) a w) (hS : S w) (hw : Region.wanted oi (yielded l.toArray a.tmps) = true)
    (hy : ∀ w, S w → (execOp a.eval oi).run P w = .ok (.value v) w)
    (h : wpAnyL P md l.toArray Q m S fuel (listed.setIfInBounds i true) (a.put oi.dst v) w) : wpAnyL P md l.toArray Q m S (fuel + 1) listed a w :=
  firstL (drop_at hi) (Region.noSelect_spec hs) hQ hm fuel listed a w (Region.free_spec (drop_at hi) hf) hm' (by simpa using hr) (.inl ⟨hw, hy⟩) hS h
/-- Number i is left out by its guard. -/
theorem skipL (i : Nat) (hi : l.drop i = oi :: rest) (hs : Region.noSelect l.toArray = true) (hf : Region.free md l.toArray listed i = true) (hr : (Region.ready md l.toArray listed).contains i = true) (hm : waits md l.toArray m i = true) (hm' : listed.getD m true = false)
    (hQ : ∀ c a w, Q (.panic c) (a.put oi.dst undef) w → Q (.panic c) a w) (hS : S w) (hw : Region.wanted oi (yielded l.toArray a.tmps) = false)
    (h : wpAnyL P md l.toArray Q m S fuel (listed.setIfInBounds i true) (a.put oi.dst undef) w) : wpAnyL P md l.toArray Q m S (fuel + 1) listed a w :=
  firstL (drop_at hi) (Region.noSelect_spec hs) hQ hm fuel listed a w (Region.free_spec (drop_at hi) hf) hm' (by simpa using hr) (.inr ⟨hw, rfl⟩) hS h
/-- Number i alone may come up, and is not the last: it is carried out, and S is shown behind it. -/
theorem callL (i : Nat) (hi : l.drop i = oi :: rest) (hr : Region.ready md l.toArray listed = [i]) (hw : Region.wanted oi (yielded l.toArray a.tmps) = true)
    (h : ∀ K' : Act → World → Prop, Shut (∀ a w, S w → (S w → wpAnyL P md l.toArray Q m S fuel (listed.setIfInBounds i true) a w) → K' a w) → Oper.wp P oi a w K' Q) : wpAnyL P md l.toArray Q m S (fuel + 1) listed a w := by
  refine ⟨fun h0 => absurd (hr ▸ h0) (by simp), fun j hj => ?_⟩
  rw [hr] at hj
  have : j = i := by simpa using hj
  subst this
  exact wpOp_step (drop_at hi) fun K' hK => by rw [if_pos hw]; exact h K' fun a w hS hW => hK a w ⟨fun _ => hS, hW hS⟩
/-- The last one. -/
theorem lastL (hi : l.drop m = oi :: rest) (hr : Region.ready md l.toArray listed = [m]) (hend : Region.ready md l.toArray (listed.setIfInBounds m true) = []) (hm : (listed.setIfInBounds m true).getD m true = true) (hw : Region.wanted oi (yielded l.toArray a.tmps) = true)
    (h : ∀ K' : Act → World → Prop, Shut (∀ a w, Q .normal a w → K' a w) → Oper.wp P oi a w K' Q) : wpAnyL P md l.toArray Q m S (fuel + 1) listed a w := by
  refine ⟨fun h0 => absurd (hr ▸ h0) (by simp), fun j hj => ?_⟩
  rw [hr] at hj
  have : j = m := by simpa using hj
  subst this
  refine wpOp_step (drop_at hi) fun K' hK => by
    rw [if_pos hw]
    refine h K' fun a w hq => hK a w ⟨fun e => absurd (hm.symm.trans e) (by simp), ?_⟩
    cases fuel with
    | zero => exact ⟨hend, hq⟩
    | succ f => exact ⟨fun _ => hq, by rw [hend]; simp⟩
theorem wp_region_L (m : Nat) (S : World → Prop) {id : Nat} {ops : Array Oper} {a : Act} {w : World} (hm : P.follows .mixedOrders = true) (hS : S w.drew)
    (h : S w.drew → wpAnyL P .any ops Q m S ops.size (Array.replicate ops.size false) a w.drew) : (Code.region id ops true).wp P Q a w :=
  wp_region_any hm (any_of_L _ _ _ _ (h hS))
end

end Go.Proofs.Ythojbcecbeapgaa
