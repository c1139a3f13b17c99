/- Texts that the laws of this folder share, one behind another; no conditions. -/
import Derived.Test.YtjekgjlnaochiaaBu0
import Derived.Laws.Strings
import Derived.Test.YtjekgjlnaochiaaRows
import Derived.Deep.QuietTactic
import Derived.BigQuiet

/- Plain arithmetic of digests and of hash trees; no walk and no condition of our own. -/
namespace Go.Proofs.Ytjekgjlnaochiaa

def digB (n : Int) : Bool := decide (0 ≤ n ∧ n ≤ 990)
theorem digB_bd {n : Int} (h : digB n = true) : 0 ≤ n ∧ n ≤ 990 := of_decide_eq_true h
theorem digB_yes {n : Int} (h0 : 0 ≤ n) (h1 : n ≤ 990) : digB n = true := decide_eq_true ⟨h0, h1⟩
theorem digB_no {n : Int} (h : ¬ (0 ≤ n ∧ n ≤ 990)) : digB n = false := decide_eq_false h
def pairZ (a b : Int) : Int := (31 * a + 17 * b + 5) % 991
theorem pairZ_bd (a b : Int) : 0 ≤ pairZ a b ∧ pairZ a b ≤ 990 := by unfold pairZ; omega
theorem pairZ_dig (a b : Int) : digB (pairZ a b) = true := decide_eq_true (pairZ_bd a b)
theorem pairZ_left {a a' b : Int} (h : digB a = true) (h' : digB a' = true) (e : pairZ a b = pairZ a' b) : a = a' := by
  have := digB_bd h; have := digB_bd h'; unfold pairZ at e; omega
theorem pairZ_right {a b b' : Int} (h : digB b = true) (h' : digB b' = true) (e : pairZ a b = pairZ a b') : b = b' := by
  have := digB_bd h; have := digB_bd h'; unfold pairZ at e; omega

/-- The next level. -/
def upZ : List Int → List Int
  | a :: b :: r => pairZ a b :: upZ r
  | l => l
theorem upZ_nil : upZ [] = [] := rfl
theorem upZ_one (a : Int) : upZ [a] = [a] := rfl
theorem upZ_two (a b : Int) (r : List Int) : upZ (a :: b :: r) = pairZ a b :: upZ r := by rw [upZ]
/-- The other node of the pair of node i. -/
def sib (i : Nat) : Nat := if i % 2 = 0 then i + 1 else i - 1
theorem pairs_ind {p : List Int → Prop} (h0 : p []) (h1 : ∀ a, p [a]) (h2 : ∀ a b r, p r → p (a :: b :: r)) : ∀ n l, l.length ≤ n → p l := by
  intro n
  induction n with
  | zero =>
    intro l hl
    have : l = [] := List.eq_nil_of_length_eq_zero (by omega)
    subst this; exact h0
  | succ n ih =>
    intro l hl
    match l, hl with
    | [], _ => exact h0
    | [a], _ => exact h1 a
    | a :: b :: r, hl => exact h2 a b r (ih r (by simp at hl; omega))
theorem upZ_len (l : List Int) : (upZ l).length = (l.length + 1) / 2 :=
  pairs_ind (p := fun l => (upZ l).length = (l.length + 1) / 2) rfl (fun a => by simp [upZ]) (fun a b r ih => by rw [upZ_two]; simp only [List.length_cons]; rw [ih]; omega) l.length l (Nat.le_refl _)
theorem upZ_dig (l : List Int) (h : ∀ x ∈ l, digB x = true) : ∀ x ∈ upZ l, digB x = true := by
  refine pairs_ind (p := fun l => (∀ x ∈ l, digB x = true) → ∀ x ∈ upZ l, digB x = true) (fun _ => by simp [upZ]) (fun a h => by simpa [upZ] using h) (fun a b r ih h => ?_) l.length l (Nat.le_refl _) h
  rw [upZ_two]
  intro x hx
  rcases List.mem_cons.1 hx with rfl | hx
  · exact pairZ_dig _ _
  · exact ih (fun y hy => h y (by simp [hy])) x hx
/-- A node of the next level. -/
theorem upZ_get (l : List Int) : ∀ i, i < l.length → (upZ l).getD (i / 2) 0 = if sib i < l.length then (if i < sib i then pairZ (l.getD i 0) (l.getD (sib i) 0) else pairZ (l.getD (sib i) 0) (l.getD i 0)) else l.getD i 0 := by
  refine pairs_ind (p := fun l => ∀ i, i < l.length → (upZ l).getD (i / 2) 0 = if sib i < l.length then (if i < sib i then pairZ (l.getD i 0) (l.getD (sib i) 0) else pairZ (l.getD (sib i) 0) (l.getD i 0)) else l.getD i 0)
    (fun i h => by simp at h) (fun a i h => ?_) (fun a b r ih i h => ?_) l.length l (Nat.le_refl _)
  · have : i = 0 := by simpa using h
    subst this; rfl
  · rw [upZ_two]
    match i, h with
    | 0, _ => simp [sib]
    | 1, _ => simp [sib]
    | i + 2, h =>
      have hi := ih i (by simpa using h)
      have e1 : (i + 2) / 2 = i / 2 + 1 := by omega
      have e2 : sib (i + 2) = sib i + 2 := by unfold sib; split <;> split <;> omega
      rw [e1, e2]
      simp only [List.getD_cons_succ, List.length_cons]
      rw [hi]
      by_cases hs : sib i < r.length
      · rw [if_pos hs, if_pos (show sib i + 2 < r.length + 1 + 1 by omega)]
        by_cases hl : i < sib i
        · rw [if_pos hl, if_pos (show i + 2 < sib i + 2 by omega)]
        · rw [if_neg hl, if_neg (show ¬ i + 2 < sib i + 2 by omega)]
      · rw [if_neg hs, if_neg (show ¬ sib i + 2 < r.length + 1 + 1 by omega)]

def rootF : Nat → List Int → Int
  | 0, l => l.getD 0 0
  | n + 1, l => if 1 < l.length then rootF n (upZ l) else l.getD 0 0
def proofF : Nat → List Int → Nat → List Int
  | 0, _, _ => []
  | n + 1, l, i => if 1 < l.length then (if sib i < l.length then [l.getD (sib i) 0] else []) ++ proofF n (upZ l) (i / 2) else []
/-- Where a leaf x at place i and a proof lead in a tree of this size. -/
def checkF : Nat → Nat → Nat → Int → List Int → Option Int
  | 0, _, _, x, p => if p = [] then some x else none
  | n + 1, size, i, x, p =>
    if 1 < size then
      if sib i < size then
        match p with
        | [] => none
        | q :: r => if digB q = true then checkF n ((size + 1) / 2) (i / 2) (if i < sib i then pairZ x q else pairZ q x) r else none
      else checkF n ((size + 1) / 2) (i / 2) x p
    else if p = [] then some x else none

theorem dig_getD {l : List Int} (h : ∀ x ∈ l, digB x = true) {i : Nat} (hi : i < l.length) : digB (l.getD i 0) = true := by
  rw [getD_get hi]; exact h _ (List.getElem_mem hi)

/-- Each leaf has a proof. -/
theorem check_proof : ∀ (n : Nat) (l : List Int) (i : Nat), (∀ x ∈ l, digB x = true) → i < l.length → l.length ≤ 2 ^ n → checkF n l.length i (l.getD i 0) (proofF n l i) = some (rootF n l) := by
  intro n
  induction n with
  | zero => intro l i _ hi hl; have : i = 0 := by omega
            subst this; simp [checkF, proofF, rootF]
  | succ n ih =>
    intro l i hd hi hl
    simp only [checkF, proofF, rootF]
    by_cases h1 : 1 < l.length
    · rw [if_pos h1, if_pos h1, if_pos h1]
      have hu := ih (upZ l) (i / 2) (upZ_dig l hd) (by rw [upZ_len]; omega) (by rw [upZ_len, Nat.pow_succ] at *; omega)
      rw [upZ_len, upZ_get l i hi] at hu
      by_cases hs : sib i < l.length
      · rw [if_pos hs] at hu ⊢
        rw [if_pos hs]
        simp only [List.cons_append, List.nil_append]
        rw [if_pos (dig_getD hd hs)]
        exact hu
      · rw [if_neg hs] at hu ⊢
        rw [if_neg hs, List.nil_append]
        exact hu
    · have : i = 0 := by omega
      subst this; simp [h1]

/-- No other leaf has the proof. -/
theorem check_leaf : ∀ (n size i : Nat) (x y : Int) (p : List Int) (R : Int), digB x = true → digB y = true → checkF n size i x p = some R → checkF n size i y p = some R → x = y := by
  intro n
  induction n with
  | zero =>
    intro size i x y p R _ _ h1 h2
    simp only [checkF] at h1 h2
    split at h1
    · rename_i h; rw [if_pos h] at h2; cases h1; cases h2; rfl
    · cases h1
  | succ n ih =>
    intro size i x y p R hx hy h1 h2
    simp only [checkF] at h1 h2
    by_cases hz : 1 < size
    · rw [if_pos hz] at h1 h2
      by_cases hs : sib i < size
      · rw [if_pos hs] at h1 h2
        match p, h1, h2 with
        | q :: r, h1, h2 =>
          simp only at h1 h2
          by_cases hq : digB q = true
          · rw [if_pos hq] at h1 h2
            by_cases hl : i < sib i
            · rw [if_pos hl] at h1 h2
              exact pairZ_left hx hy (ih _ _ _ _ _ _ (pairZ_dig _ _) (pairZ_dig _ _) h1 h2)
            · rw [if_neg hl] at h1 h2
              exact pairZ_right hx hy (ih _ _ _ _ _ _ (pairZ_dig _ _) (pairZ_dig _ _) h1 h2)
          · rw [if_neg hq] at h1; cases h1
      · rw [if_neg hs] at h1 h2
        exact ih _ _ _ _ _ _ hx hy h1 h2
    · rw [if_neg hz] at h1 h2
      split at h1
      · rename_i h; rw [if_pos h] at h2; cases h1; cases h2; rfl
      · cases h1

/-- How long a proof is. -/
def plen : Nat → Nat → Nat → Nat
  | 0, _, _ => 0
  | n + 1, size, i => if 1 < size then (if sib i < size then 1 else 0) + plen n ((size + 1) / 2) (i / 2) else 0
theorem plen_le : ∀ (n size i : Nat), plen n size i ≤ n := by
  intro n
  induction n with
  | zero => intro _ _; exact Nat.le_refl _
  | succ n ih =>
    intro size i
    simp only [plen]
    have := ih ((size + 1) / 2) (i / 2)
    split
    · split <;> omega
    · omega
theorem check_len : ∀ (n size i : Nat) (x : Int) (p : List Int) (R : Int), checkF n size i x p = some R → p.length = plen n size i := by
  intro n
  induction n with
  | zero =>
    intro size i x p R h
    simp only [checkF] at h
    split at h
    · rename_i hp; rw [hp]; rfl
    · cases h
  | succ n ih =>
    intro size i x p R h
    simp only [checkF] at h
    simp only [plen]
    by_cases hz : 1 < size
    · rw [if_pos hz] at h ⊢
      by_cases hs : sib i < size
      · rw [if_pos hs] at h ⊢
        match p, h with
        | q :: r, h =>
          simp only at h
          by_cases hq : digB q = true
          · rw [if_pos hq] at h
            have := ih _ _ _ _ _ h
            simp only [List.length_cons]; omega
          · rw [if_neg hq] at h; cases h
      · rw [if_neg hs] at h ⊢
        have := ih _ _ _ _ _ h; omega
    · rw [if_neg hz] at h ⊢
      split at h
      · rename_i hp; rw [hp]; rfl
      · cases h

/-- A changed leaf on the next level. -/
theorem upZ_set (l : List Int) : ∀ i y, i < l.length → upZ (l.set i y) = (upZ l).set (i / 2) ((upZ (l.set i y)).getD (i / 2) 0) := by
  refine pairs_ind (p := fun l => ∀ i y, i < l.length → upZ (l.set i y) = (upZ l).set (i / 2) ((upZ (l.set i y)).getD (i / 2) 0)) (fun i y h => by simp at h) (fun a i y h => ?_) (fun a b r ih i y h => ?_) l.length l (Nat.le_refl _)
  · have : i = 0 := by simpa using h
    subst this; rfl
  · match i, h with
    | 0, _ => simp [upZ_two]
    | 1, _ => simp [upZ_two]
    | i + 2, h =>
      have hi := ih i y (by simpa using h)
      have e1 : (i + 2) / 2 = i / 2 + 1 := by omega
      rw [e1]
      simp only [List.set_cons_succ, upZ_two, List.getD_cons_succ]
      rw [← hi]
theorem proof_set : ∀ (n : Nat) (l : List Int) (i : Nat) (y : Int), i < l.length → proofF n (l.set i y) i = proofF n l i := by
  intro n
  induction n with
  | zero => intros; rfl
  | succ n ih =>
    intro l i y hi
    simp only [proofF, List.length_set]
    have hne : sib i ≠ i := by unfold sib; split <;> omega
    have e : (l.set i y).getD (sib i) 0 = l.getD (sib i) 0 := by
      simp only [List.getD]
      rw [List.getElem?_set_ne (fun h => hne h.symm)]
    rw [e, upZ_set l i y hi, ih (upZ l) (i / 2) _ (by rw [upZ_len]; omega)]
/-- A changed leaf changes the root. -/
theorem root_set {n : Nat} {l : List Int} {i : Nat} {y : Int} (hd : ∀ x ∈ l, digB x = true) (hi : i < l.length) (hl : l.length ≤ 2 ^ n) (hy : digB y = true) (e : rootF n (l.set i y) = rootF n l) : y = l.getD i 0 := by
  have h1 := check_proof n l i hd hi hl
  have h2 := check_proof n (l.set i y) i (fun x hx => by rcases List.mem_or_eq_of_mem_set hx with h | rfl; exact hd x h; exact hy) (by simpa using hi) (by simpa using hl)
  rw [List.length_set, proof_set n l i y hi, e] at h2
  have e2 : (l.set i y).getD i 0 = y := by simp [List.getD, hi]
  rw [e2] at h2
  exact check_leaf _ _ _ _ _ _ _ hy (dig_getD hd hi) h2 h1
theorem rootF_bd : ∀ (n : Nat) (l : List Int), (∀ x ∈ l, digB x = true) → 0 < l.length → digB (rootF n l) = true := by
  intro n
  induction n with
  | zero => intro l hd hl; exact dig_getD hd hl
  | succ n ih =>
    intro l hd hl
    simp only [rootF]
    split
    · exact ih _ (upZ_dig l hd) (by rw [upZ_len]; omega)
    · exact dig_getD hd hl

/-! texts -/
def txtS (n : Int) (c : UInt8) : Int := (257 * n + c.toNat + 1) % 991
def txtF (n : Int) (l : List UInt8) : Int := l.foldl txtS n
def txtZ (l : List UInt8) : Int := txtF 7 l
theorem txtS_bd (n : Int) (c : UInt8) : 0 ≤ txtS n c ∧ txtS n c ≤ 990 := by unfold txtS; omega
theorem txtF_bd (l : List UInt8) : ∀ n, 0 ≤ n → n ≤ 990 → 0 ≤ txtF n l ∧ txtF n l ≤ 990 := by
  induction l with
  | nil => intro n h0 h1; exact ⟨h0, h1⟩
  | cons c l ih => intro n _ _; exact ih _ (txtS_bd n c).1 (txtS_bd n c).2
theorem txtZ_bd (l : List UInt8) : 0 ≤ txtZ l ∧ txtZ l ≤ 990 := txtF_bd l 7 (by omega) (by omega)
theorem txtZ_snoc (l : List UInt8) (c : UInt8) : txtZ (l ++ [c]) = txtS (txtZ l) c := by unfold txtZ txtF; rw [List.foldl_append]; rfl
theorem txtF_ne (l : List UInt8) : ∀ n m, 0 ≤ n → n ≤ 990 → 0 ≤ m → m ≤ 990 → n ≠ m → txtF n l ≠ txtF m l := by
  induction l with
  | nil => intro n m _ _ _ _ h; exact h
  | cons c l ih =>
    intro n m h0 h1 h2 h3 h
    refine ih _ _ (txtS_bd n c).1 (txtS_bd n c).2 (txtS_bd m c).1 (txtS_bd m c).2 ?_
    unfold txtS; omega
theorem txtZ_byte (l r : List UInt8) {b c : UInt8} (h : b ≠ c) : txtZ (l ++ [b] ++ r) ≠ txtZ (l ++ [c] ++ r) := by
  have e : ∀ x, txtZ (l ++ [x] ++ r) = txtF (txtS (txtZ l) x) r := fun x => by unfold txtZ txtF; rw [List.foldl_append, List.foldl_append]; rfl
  rw [e, e]
  refine txtF_ne r _ _ (txtS_bd _ _).1 (txtS_bd _ _).2 (txtS_bd _ _).1 (txtS_bd _ _).2 ?_
  have hb := b.toNat_lt
  have hc := c.toNat_lt
  have hn : b.toNat ≠ c.toNat := fun e => h (UInt8.toNat_inj.1 e)
  have := txtZ_bd l
  unfold txtS; omega

theorem txt_step (s : ByteArray) (k : Nat) (hk : k < s.size) : txtZ (s.data.toList.take (k + 1)) = txtS (txtZ (s.data.toList.take k)) s[k] := by
  rw [← txtZ_snoc, List.take_succ_eq_append_getElem (by simpa using hk)]; rfl
def htZ (s : ByteArray) : Int := if s.size ≤ 60 then txtZ s.data.toList else -1
def hpZ (a b : Int) : Int := if digB a = true ∧ digB b = true then pairZ a b else -1
def leavesB (l : List Int) : Bool := decide (1 ≤ l.length ∧ l.length ≤ 16) && l.all digB
theorem leavesB_bad {l : List Int} {k : Nat} (hk : k < l.length) (h : digB l[k] = false) : leavesB l = false := by unfold leavesB; rw [pre_not hk h, Bool.and_false]
theorem leavesB_len {l : List Int} {k : Nat} (h : Pre digB l k) (hk : l.length ≤ k) : leavesB l = decide (1 ≤ l.length ∧ l.length ≤ 16) := by unfold leavesB; rw [pre_all h hk, Bool.and_true]
theorem leavesB_iff {l : List Int} (h : leavesB l = true) : (1 ≤ l.length ∧ l.length ≤ 16) ∧ ∀ x ∈ l, digB x = true := by
  unfold leavesB at h; rw [Bool.and_eq_true, decide_eq_true_eq, List.all_eq_true] at h; exact h
def mrZ (l : List Int) : Int := if leavesB l = true then rootF 4 l else -1
def mpZ (l : List Int) (i : Int) : List Int := if leavesB l = true ∧ 0 ≤ i ∧ i < l.length then proofF 4 l i.toNat else []
def mcB (root size i leaf : Int) (p : List Int) : Bool := decide (1 ≤ size ∧ size ≤ 16 ∧ 0 ≤ i ∧ i < size ∧ digB leaf = true ∧ checkF 4 size.toNat i.toNat leaf p = some root)

theorem mrZ_yes {l : List Int} (h : leavesB l = true) : mrZ l = rootF 4 l := by unfold mrZ; rw [if_pos h]
theorem mrZ_no {l : List Int} (h : leavesB l = false) : mrZ l = -1 := by unfold mrZ; rw [if_neg (by simp [h])]
theorem mpZ_yes {l : List Int} {i : Nat} (h : leavesB l = true) (hi : i < l.length) : mpZ l i = proofF 4 l i := by unfold mpZ; rw [if_pos ⟨h, by omega, by omega⟩]; rfl
theorem mpZ_no {l : List Int} {i : Int} (h : ¬ (leavesB l = true ∧ 0 ≤ i ∧ i < l.length)) : mpZ l i = [] := by unfold mpZ; rw [if_neg h]
theorem sib_int (j : Nat) : (j : Int) + 1 - (j : Int) % 2 * 2 = (sib j : Nat) := by unfold sib; split <;> omega
theorem sib_ne (j : Nat) : sib j ≠ j := by unfold sib; split <;> omega
theorem rootF_up {n : Nat} {l : List Int} (h : 1 < l.length) : rootF (n + 1) l = rootF n (upZ l) := by rw [rootF, if_pos h]
theorem rootF_end {n : Nat} {l : List Int} (h : l.length = 1) : rootF n l = l.getD 0 0 := by
  cases n with
  | zero => rfl
  | succ n => rw [rootF, if_neg (by omega)]
theorem proofF_sib {n : Nat} {l : List Int} {i : Nat} (h : 1 < l.length) (hs : sib i < l.length) : proofF (n + 1) l i = l.getD (sib i) 0 :: proofF n (upZ l) (i / 2) := by rw [proofF, if_pos h, if_pos hs]; rfl
theorem proofF_lone {n : Nat} {l : List Int} {i : Nat} (h : 1 < l.length) (hs : ¬ sib i < l.length) : proofF (n + 1) l i = proofF n (upZ l) (i / 2) := by rw [proofF, if_pos h, if_neg hs]; rfl
theorem proofF_end {n : Nat} {l : List Int} {i : Nat} (h : ¬ 1 < l.length) : proofF n l i = [] := by
  cases n with
  | zero => rfl
  | succ n => rw [proofF, if_neg h]
theorem proofF_len : ∀ (n : Nat) (l : List Int) (i : Nat), (proofF n l i).length ≤ n := by
  intro n
  induction n with
  | zero => intro _ _; exact Nat.le_refl _
  | succ n ih =>
    intro l i
    by_cases h : 1 < l.length
    · have := ih (upZ l) (i / 2)
      by_cases hs : sib i < l.length
      · rw [proofF_sib h hs, List.length_cons]; omega
      · rw [proofF_lone h hs]; omega
    · rw [proofF_end h]; simp
theorem pow_half {n k : Nat} (h : k ≤ 2 ^ (n + 1)) : (k + 1) / 2 ≤ 2 ^ n := by rw [Nat.pow_succ] at h; omega
theorem pow_pos' {n k : Nat} (h : k ≤ 2 ^ n) (h1 : 1 < k) : ∃ m, n = m + 1 := by
  cases n with
  | zero => simp at h; omega
  | succ n => exact ⟨n, rfl⟩

theorem checkF_end {n size i : Nat} {x : Int} {p : List Int} (h : ¬ 1 < size) : checkF n size i x p = if p = [] then some x else none := by
  cases n with
  | zero => rfl
  | succ n => simp only [checkF]; rw [if_neg h]
theorem checkF_lone {n size i : Nat} {x : Int} {p : List Int} (h : 1 < size) (hs : ¬ sib i < size) : checkF (n + 1) size i x p = checkF n ((size + 1) / 2) (i / 2) x p := by simp only [checkF]; rw [if_pos h, if_neg hs]
theorem checkF_none {n size i : Nat} {x : Int} (h : 1 < size) (hs : sib i < size) : checkF (n + 1) size i x [] = none := by simp only [checkF]; rw [if_pos h, if_pos hs]
theorem checkF_sib {n size i : Nat} {x q : Int} {r : List Int} (h : 1 < size) (hs : sib i < size) (hq : digB q = true) : checkF (n + 1) size i x (q :: r) = checkF n ((size + 1) / 2) (i / 2) (if i < sib i then pairZ x q else pairZ q x) r := by simp only [checkF]; rw [if_pos h, if_pos hs, if_pos hq]
theorem checkF_bad {n size i : Nat} {x q : Int} {r : List Int} (h : 1 < size) (hs : sib i < size) (hq : digB q = false) : checkF (n + 1) size i x (q :: r) = none := by simp only [checkF]; rw [if_pos h, if_pos hs, if_neg (by simp [hq])]
theorem mcB_yes {root leaf : Int} {size i : Nat} {p : List Int} (h1 : 1 ≤ size) (h2 : size ≤ 16) (h3 : i < size) (h4 : digB leaf = true) : mcB root size i leaf p = decide (checkF 4 size i leaf p = some root) := by
  unfold mcB
  refine decide_eq_decide.2 ⟨fun h => h.2.2.2.2.2, fun h => ⟨by omega, by omega, by omega, by omega, h4, h⟩⟩
theorem mcB_no {root size i leaf : Int} {p : List Int} (h : ¬ (1 ≤ size ∧ size ≤ 16 ∧ 0 ≤ i ∧ i < size ∧ digB leaf = true)) : mcB root size i leaf p = false :=
  decide_eq_false fun h' => h ⟨h'.1, h'.2.1, h'.2.2.1, h'.2.2.2.1, h'.2.2.2.2.1⟩

theorem mrZ_bd (l : List Int) : -1 ≤ mrZ l ∧ mrZ l ≤ 990 := by
  by_cases h : leavesB l = true
  · rw [mrZ_yes h]
    have := digB_bd (rootF_bd 4 l (leavesB_iff h).2 (by have := (leavesB_iff h).1; omega))
    omega
  · rw [mrZ_no (by simpa using h)]; omega
theorem mpZ_len (l : List Int) (i : Int) : (mpZ l i).length ≤ 4 := by
  unfold mpZ; split
  · exact proofF_len _ _ _
  · simp

theorem htZ_yes (s : ByteArray) (h : s.size ≤ 60) : 0 ≤ htZ s ∧ htZ s ≤ 990 := by unfold htZ; rw [if_pos h]; exact txtZ_bd _
theorem htZ_no (s : ByteArray) (h : 60 < s.size) : htZ s = -1 := by unfold htZ; rw [if_neg (by omega)]
theorem htZ_empty : htZ ⟨#[]⟩ = 7 := rfl
theorem hpZ_yes {a b : Int} (h : digB a = true) (h' : digB b = true) : hpZ a b = pairZ a b := by unfold hpZ; rw [if_pos ⟨h, h'⟩]
theorem hpZ_no {a b : Int} (h : ¬ (digB a = true ∧ digB b = true)) : hpZ a b = -1 := by unfold hpZ; rw [if_neg h]

theorem str_ne {s : ByteArray} (h : ¬ s.size = 0) : s.toList.isEmpty = false := by
  rw [ByteArray.toList_eq]
  cases e : s.data.toList with
  | nil => exact absurd (by have := congrArg List.length e; simpa using this) h
  | cons _ _ => rfl
theorem str_nil {s : ByteArray} (h : s.size = 0) : s.toList.isEmpty = true := by
  have e : s.data.toList = [] := List.eq_nil_of_length_eq_zero (by simpa using h)
  rw [ByteArray.toList_eq, e]
  rfl

/-- A text with one byte changed. -/
theorem txt_change (s : ByteArray) (k : Nat) (hk : k < s.size) (c : UInt8) (hc : c ≠ s[k]) (h60 : s.size ≤ 60) (t : ByteArray) (ht : t = s.extract 0 k ++ ⟨#[c]⟩ ++ s.extract (k + 1) s.size) : t.size = s.size ∧ 0 ≤ htZ t ∧ htZ t ≤ 990 ∧ htZ t ≠ htZ s := by
  have hd : t.data.toList = s.data.toList.take k ++ [c] ++ s.data.toList.drop (k + 1) := by
    subst ht
    simp
    exact List.take_of_length_le (by simp)
  have hsd : s.data.toList = s.data.toList.take k ++ [s[k]] ++ s.data.toList.drop (k + 1) := by
    have hk' : k < s.data.toList.length := by simpa using hk
    have h := List.take_append_drop (k + 1) s.data.toList
    rw [List.take_succ_eq_append_getElem hk'] at h
    exact h.symm
  have hsz : t.size = s.size := by
    have h1 := congrArg List.length hd
    simp at h1
    have e1 : s.data.size = s.size := rfl
    have e2 : t.data.size = t.size := rfl
    omega
  have hn := txtZ_byte (s.data.toList.take k) (s.data.toList.drop (k + 1)) hc
  rw [← hd, ← hsd] at hn
  have hb := htZ_yes t (by omega)
  refine ⟨hsz, hb.1, hb.2, ?_⟩
  unfold htZ
  rw [if_pos (show t.size ≤ 60 by omega), if_pos h60]
  exact hn

/-- A byte xor 1, 2 or 3. -/
theorem xor_byte (b : UInt8) (m : Int) (h1 : 1 ≤ m) (h3 : m ≤ 3) : ∃ c : UInt8, bits .xor .u8 (b.toNat : Int) m = (c.toNat : Int) ∧ c ≠ b := by
  have key : ∀ x : Fin 256, ∀ y : Fin 3, bits .xor .u8 (x.val : Int) ((y.val : Int) + 1) = ((x.val ^^^ (y.val + 1) : Nat) : Int) ∧ x.val ^^^ (y.val + 1) ≠ x.val ∧ x.val ^^^ (y.val + 1) < 256 := by decide +kernel
  obtain ⟨hz, hne, hlt⟩ := key ⟨b.toNat, UInt8.toNat_lt b⟩ ⟨(m - 1).toNat, by omega⟩
  simp only at hz hne hlt
  rw [show (((m - 1).toNat : Nat) : Int) + 1 = m by omega] at hz
  generalize b.toNat ^^^ ((m - 1).toNat + 1) = z at hz hne hlt
  refine ⟨UInt8.ofNat z, ?_, ?_⟩
  · rw [UInt8.toNat_ofNat', Nat.mod_eq_of_lt (show z < 2 ^ 8 from hlt), hz]
  · intro e
    apply hne
    rw [← e, UInt8.toNat_ofNat', Nat.mod_eq_of_lt (show z < 2 ^ 8 from hlt)]

theorem wrap_tmod3 (n : Nat) : ∃ m : Int, 1 ≤ m ∧ m ≤ 3 ∧ IntKind.u8.wrap (IntKind.i64.wrap (1 + ((n : Int)).tmod 3)) = m := by
  have e : ((n : Int)).tmod 3 = (n : Int) % 3 := Int.tmod_eq_emod_of_nonneg (by omega)
  refine ⟨1 + (n : Int) % 3, by omega, by omega, ?_⟩
  rw [e, IntWalk.i64_in _ (by omega), IntWalk.u8_in _ (by omega)]

theorem mcB_root {root root' size i leaf : Int} {p : List Int} (h : mcB root size i leaf p = true) (hne : root' ≠ root) : mcB root' size i leaf p = false := by
  have h1 := of_decide_eq_true h
  exact decide_eq_false fun h2 => hne (by
    have := h2.2.2.2.2.2.symm.trans h1.2.2.2.2.2
    simpa using this)
theorem mcB_len {root size i leaf : Int} {p q : List Int} (h : mcB root size i leaf p = true) (hne : q.length ≠ p.length) : mcB root size i leaf q = false := by
  have h1 := of_decide_eq_true h
  exact decide_eq_false fun h2 => hne ((check_len _ _ _ _ _ _ h2.2.2.2.2.2).trans (check_len _ _ _ _ _ _ h1.2.2.2.2.2).symm)
theorem mcB_short {root size i leaf : Int} {p : List Int} (h : mcB root size i leaf p = true) : p.length ≤ 4 := by
  have h1 := of_decide_eq_true h
  rw [check_len _ _ _ _ _ _ h1.2.2.2.2.2]
  exact plen_le _ _ _
theorem leaves_get {l : List Int} (h : leavesB l = true) {i : Nat} (hi : i < l.length) : digB l[i] = true := (leavesB_iff h).2 _ (List.getElem_mem hi)
theorem getD_at {l : List Int} {i : Nat} (hi : i < l.length) : l.getD i 0 = l[i] := by simp [hi]
theorem mc_proof {l : List Int} {i : Nat} (h : leavesB l = true) (hi : i < l.length) : mcB (mrZ l) l.length i l[i] (mpZ l i) = true := by
  obtain ⟨hl, hd⟩ := leavesB_iff h
  rw [mcB_yes (by omega) (by omega) hi (leaves_get h hi), mrZ_yes h, mpZ_yes h hi, ← getD_at hi]
  exact decide_eq_true (check_proof 4 l i hd hi (by omega))
theorem mc_leaf {l : List Int} {i : Nat} {x : Int} (h : leavesB l = true) (hi : i < l.length) (hx : x ≠ l[i]) : mcB (mrZ l) l.length i x (mpZ l i) = false := by
  obtain ⟨hl, hd⟩ := leavesB_iff h
  cases hm : mcB (mrZ l) l.length i x (mpZ l i) with
  | false => rfl
  | true =>
    have h1 := (of_decide_eq_true (mc_proof h hi)).2.2.2.2.2
    have h2 := of_decide_eq_true hm
    exact absurd (check_leaf _ _ _ _ _ _ _ h2.2.2.2.2.1 (leaves_get h hi) h2.2.2.2.2.2 h1) hx

theorem mrZ_pos {l : List Int} (h : leavesB l = true) : 0 ≤ mrZ l ∧ mrZ l ≤ 990 := by
  rw [mrZ_yes h]
  obtain ⟨hl, hd⟩ := leavesB_iff h
  exact digB_bd (rootF_bd 4 l hd (by omega))

theorem mc_leaf' {l : List Int} {i : Int} {x : Int} (h : leavesB l = true) (h0 : 0 ≤ i) (hi : i < l.length) (hx : x ≠ l.getD i.toNat 0) : mcB (mrZ l) l.length i x (mpZ l i) = false := by
  obtain ⟨i, rfl⟩ := Int.eq_ofNat_of_zero_le h0
  have hi' : i < l.length := by omega
  exact mc_leaf h hi' (by rw [← getD_at hi']; exact hx)

end Go.Proofs.Ytjekgjlnaochiaa

/- What spec's functions of digests and hash trees answer, each by a walk of its text: the answers are those of plain functions on lists; conditions: a list that is read has fewer than 2^40 elements, numbers that are paired are digests. -/
namespace Go.Proofs.Ytjekgjlnaochiaa
open Go.RowKit

theorem TI2 : IntT Try.prog 23 3 := ⟨Try.underlying23, by kernel_rfl⟩

end Go.Proofs.Ytjekgjlnaochiaa

/- Graphs of vertices: what they are as lists, and the reference's tests of vertices and graphs, each by a walk of its text; conditions: lists are shorter than 2^40, and where the text asks it, the committee is valid. -/
namespace Go.Proofs.Ytjekgjlnaochiaa
open Go.RowKit

/-- A vertex: round, author, parents, digest. -/
structure Vx where
  r : Int
  a : Int
  ps : List Int
  d : Int
deriving DecidableEq
def Vx.fd (v : Vx) : List Fd := [.i v.r, .i v.a, .l v.ps, .i v.d]
def vx0 : Vx := ⟨0, 0, [], 0⟩
def quorumZ (c : List Int) : Int := 2 * totalZ c / 3 + 1
def rngB (r : Int) : Bool := decide (0 ≤ r ∧ r ≤ 30)
def autB (n : Nat) (a : Int) : Bool := decide (0 ≤ a ∧ a ≤ (n : Int) - 1)
def quoB (c : List Int) (v : Vx) : Bool := if v.r = 0 then decide (v.ps.length = 0) else decide (quorumZ c ≤ weightZ c v.ps)
/-- The vertex is valid for a committee that is valid. -/
def vtxB (c : List Int) (v : Vx) : Bool := rngB v.r && (autB c.length v.a && (membersB c.length v.ps && (digB v.d && quoB c v)))
def sameRA (r a : Int) (v : Vx) : Bool := decide (v.r = r ∧ v.a = a)
/-- The index of the vertex with this round and author, or -1. -/
def findZ (g : List Vx) (r a : Int) : Int := match g.findIdx? (sameRA r a) with | some k => k | none => -1
def hasP (g : List Vx) (r : Int) (ps : List Int) (k : Nat) : Bool := decide (0 ≤ findZ g (r - 1) (ps.getD k 0))
def parB (g : List Vx) (v : Vx) : Bool := allB (hasP g v.r v.ps) v.ps.length
def befB (a b : Vx) : Bool := decide (a.r < b.r ∨ a.r = b.r ∧ a.a < b.a)
def okV (c : List Int) (g : List Vx) (i : Nat) : Bool := vtxB c (g.getD i vx0) && ((i == 0 || befB (g.getD (i - 1) vx0) (g.getD i vx0)) && parB g (g.getD i vx0))
def graphB (c : List Int) (g : List Vx) : Bool := validB c && allB (okV c g) g.length

theorem getV {g : List Vx} {k : Nat} (h : k < g.length) : g.getD k vx0 = g[k] := by simp [List.getD, List.getElem?_eq_getElem h]
theorem findZ_yes {g : List Vx} {r a : Int} {k : Nat} (hk : k < g.length) (h : Upto (fun j => !sameRA r a (g.getD j vx0)) k) (hs : sameRA r a g[k] = true) : findZ g r a = k := by
  unfold findZ
  rw [List.findIdx?_eq_some_iff_getElem.2 ⟨hk, hs, fun j hj => by
    have := h j hj
    simp only [getV (show j < g.length by omega)] at this
    simpa using this⟩]
theorem findZ_no {g : List Vx} {r a : Int} {n : Nat} (h : Upto (fun j => !sameRA r a (g.getD j vx0)) n) (hn : g.length ≤ n) : findZ g r a = -1 := by
  unfold findZ
  rw [List.findIdx?_eq_none_iff.2 fun v hv => by
    obtain ⟨k, hk, rfl⟩ := List.mem_iff_getElem.1 hv
    have := h k (by omega)
    simp only [getV hk] at this
    simpa using this]
theorem findZ_cases (g : List Vx) (r a : Int) : (findZ g r a = -1 ∧ ∀ v ∈ g, sameRA r a v = false) ∨ ∃ k, ∃ h : k < g.length, findZ g r a = k ∧ sameRA r a g[k] = true ∧ ∀ j (hj : j < k), sameRA r a (g[j]'(by omega)) = false := by
  unfold findZ
  cases h : g.findIdx? (sameRA r a) with
  | none => exact .inl ⟨rfl, fun v hv => by simpa using List.findIdx?_eq_none_iff.1 h v hv⟩
  | some k =>
    obtain ⟨hk, hs, hb⟩ := List.findIdx?_eq_some_iff_getElem.1 h
    exact .inr ⟨k, hk, rfl, hs, fun j hj => by simpa using hb j hj⟩

/-- A graph in memory. -/
def Gr (w : World) (g : List Vx) (v : Value) (fp : List Nat) : Prop := Rd w (rowsD (g.map Vx.fd)) v fp
theorem Gr.under {w w' : World} {g : List Vx} {v : Value} {fp : List Nat} (h : Gr w g v fp) (hb : Below w.heap.size w w') : Gr w' g v fp := Rd.under h hb
theorem Gr.slice {w : World} {g : List Vx} {v : Value} {fp : List Nat} (h : Gr w g v fp) : ∃ a cap, v = .slice a g.length cap := by
  obtain ⟨a, cap, rfl⟩ := Rd.slice h
  exact ⟨a, cap, by simp⟩
theorem Gr.at {w : World} {g : List Vx} {a : Option Addr} {n cap : Nat} {fp : List Nat} (h : Gr w g (.slice a n cap) fp) (hne : 0 < g.length) : ∃ b off, a = some ⟨b, off, none⟩ ∧ b < w.heap.size ∧ ∀ k (hk : k < g.length),
    w.cell? ⟨b, off + k * 4, none⟩ = some (.int .i64 g[k].r) ∧ w.cell? ⟨b, off + k * 4 + 1, none⟩ = some (.int .i64 g[k].a) ∧ (∃ pa pc, w.cell? ⟨b, off + k * 4 + 2, none⟩ = some (.slice pa g[k].ps.length pc) ∧ IntsAt w pa g[k].ps ∧ SrcAt w pa pc g[k].ps) ∧ w.cell? ⟨b, off + k * 4 + 3, none⟩ = some (.int .i64 g[k].d) := by
  obtain ⟨b, off, rfl, hb, hc⟩ := rows_at (es := g.map Vx.fd) (m := 4) h (by simpa using hne) (fun e he => by obtain ⟨x, _, rfl⟩ := List.mem_map.1 he; rfl)
  refine ⟨b, off, rfl, hb, fun k hk => ?_⟩
  have hk' : k < (g.map Vx.fd).length := by simpa using hk
  have he : (g.map Vx.fd)[k] = g[k].fd := by simp
  obtain ⟨c0, _, h0, r0⟩ := hc k hk' 0 (by rw [he]; simp [Vx.fd])
  obtain ⟨c1, _, h1, r1⟩ := hc k hk' 1 (by rw [he]; simp [Vx.fd])
  obtain ⟨c2, _, h2, r2⟩ := hc k hk' 2 (by rw [he]; simp [Vx.fd])
  obtain ⟨c3, _, h3, r3⟩ := hc k hk' 3 (by rw [he]; simp [Vx.fd])
  obtain rfl := rd_i r0 (x := g[k].r) (by simp only [he]; rfl)
  obtain rfl := rd_i r1 (x := g[k].a) (by simp only [he]; rfl)
  obtain ⟨pa, pc, rfl, hi, hs⟩ := rd_ls r2 (xs := g[k].ps) (by simp only [he]; rfl)
  obtain rfl := rd_i r3 (x := g[k].d) (by simp only [he]; rfl)
  exact ⟨h0, h1, ⟨pa, pc, h2, hi, hs⟩, h3⟩

end Go.Proofs.Ytjekgjlnaochiaa

/- The reference's tests of graphs, each by a walk of its text; conditions: lists are shorter than 2^40, and where the text asks it, the committee is valid. -/
namespace Go.Proofs.Ytjekgjlnaochiaa
open Go.RowKit

end Go.Proofs.Ytjekgjlnaochiaa

/- The reference's tests of leaders and its leader vertex, by walks of its texts; conditions: lists are shorter than 2^40. -/
namespace Go.Proofs.Ytjekgjlnaochiaa
open Go.RowKit

/-- Whether the leader of wave i + 1 is a member. -/
def okLd (n : Nat) (ls : List Int) (i : Nat) : Bool := decide (0 ≤ ls.getD i 0 ∧ ls.getD i 0 ≤ (n : Int) - 1)
def ldsB (n : Nat) (ls : List Int) : Bool := allB (okLd n ls) ls.length && decide (ls.length ≤ 15)
def lvB (c ls : List Int) : Bool := validB c && ldsB c.length ls
def waB (c : List Int) (g : List Vx) (ls : List Int) : Bool := graphB c g && ldsB c.length ls
theorem ldAt {n : Nat} {ls : List Int} (h : ldsB n ls = true) : ls.length ≤ 15 ∧ ∀ j (hj : j < ls.length), 0 ≤ ls[j] ∧ ls[j] < n := by
  unfold ldsB at h
  simp only [Bool.and_eq_true, decide_eq_true_eq] at h
  refine ⟨h.2, fun j hj => ?_⟩
  have := allB_upto h.1 j hj
  unfold okLd at this
  rw [getD_get hj, decide_eq_true_eq] at this
  omega

set_option maxHeartbeats 1000000 in
theorem spec_l21Leaders (ac : Option Addr) (capc : Nat) (n : Nat) (al : Option Addr) (cap : Nat) (ls : List Int) (w : World) (_hn : n ≤ 1099511627776) (hbig : ls.length ≤ 1099511627776) (hc : IntsAt w al ls) :
    Calls Try.prog 14 #[.slice ac n capc, .slice al ls.length cap] w fun e w' => e = .returned (.bool (ldsB n ls)) ∧ w = w' := by
  have Hc := Lib.hid hc; clear hc
  go_enter Try.func14, Try.ntmps14
  go_wp2
  go_loopw [5] (fun i wr => ∃ k : Nat, k ≤ ls.length ∧ i = .int .i64 k ∧ Hid (Upto (okLd n ls) k) ∧ w = wr) (fun i _ => ls.length - (intOf i).toNat)
  case atStart => exact ⟨0, by omega, rfl, Lib.hid (upto_zero _), rfl⟩
  case round =>
    obtain ⟨k, hk, rfl, hup, rfl⟩ := hrel
    by_cases hlt : k < ls.length
    · obtain ⟨b, off, rfl, hb, hat⟩ := Hc.out.cell (by omega)
      have hcell := hat k hlt
      have hgd := getD_get hlt
      have hok : okLd n ls k = decide (0 ≤ ls[k] ∧ ls[k] ≤ (n : Int) - 1) := by unfold okLd; rw [hgd]
      have Hok := Lib.hid hok
      clear hat hgd hok
      generalize ls[k] = x at *
      have HI := Lib.hid (fun W => spec_l6In x 0 ((n : Int) - 1) W)
      go_wp2_with fail
      refine (HI.out _).mono ?_
      rintro e w1 ⟨rfl, rfl⟩
      cases h1 : decide (0 ≤ x ∧ x ≤ (n : Int) - 1) with
      | false =>
        have hres := Lib.hid (show ldsB n ls = false by unfold ldsB; rw [allB_no hlt (Hok.out.trans h1)]; rfl)
        clear h1
        go_wp2
        go_ret
        exact ⟨by rw [hres.out]; rfl, rfl⟩
      | true =>
        have Hs := Lib.hid (upto_step hup.out (Hok.out.trans h1))
        clear h1
        go_wp2
        go_roundw
        case rel => exact ⟨k + 1, by omega, by go_num, Lib.hid Hs.out, trivial⟩
        case measure => simp [intOf]; omega
    · have hres := Lib.hid (show ldsB n ls = decide (ls.length ≤ 15) by unfold ldsB; rw [allB_yes hup.out (by omega)]; rfl)
      go_wp2
      go_ret
      exact ⟨ret_bool (by rw [hres.out, Bool.eq_iff_iff, decide_eq_true_iff, decide_eq_true_iff]; omega), rfl⟩

theorem spec_LeadersValid (ac : Option Addr) (capc : Nat) (c : List Int) (al : Option Addr) (cap : Nat) (ls : List Int) (w : World) (hn : c.length ≤ 1099511627776) (hl : ls.length ≤ 1099511627776) (hc : IntsAt w ac c) (hi : IntsAt w al ls) :
    Calls Try.prog 6 #[.slice ac c.length capc, .slice al ls.length cap] w fun e w' => e = .returned (.bool (lvB c ls)) ∧ w = w' := by
  have HV := Lib.hid (spec_CommitteeValid ac capc c w hn hc)
  have HL := Lib.hid (spec_l21Leaders ac capc c.length al cap ls w hn hl hi)
  have Hres := Lib.hid (show lvB c ls = (validB c && ldsB c.length ls) from rfl)
  clear hc hi
  go_enter Try.func6, Try.ntmps6
  go_wp2_with fail
  refine HV.out.mono ?_
  rintro e w1 ⟨rfl, rfl⟩
  cases h1 : validB c with
  | false =>
    go_wp2
    go_ret
    exact ⟨ret_bool (by rw [Hres.out, h1]; rfl), rfl⟩
  | true =>
  go_wp2_with fail
  refine HL.out.mono ?_
  rintro e w2 ⟨rfl, rfl⟩
  go_wp2
  go_ret
  exact ⟨ret_bool (by rw [Hres.out, h1]; rfl), rfl⟩

/-- The leader vertex of a wave, as an index. -/
def ldZ (g : List Vx) (ls : List Int) (wv : Nat) : Int := findZ g (2 * (wv : Int) - 1) (ls.getD (wv - 1) 0)

end Go.Proofs.Ytjekgjlnaochiaa

/- impl's test of leaders, by walks of its texts; condition: lists are shorter than 2^40. -/
namespace Go.Proofs.Ytjekgjlnaochiaa
open Go.RowKit

set_option maxHeartbeats 1000000 in
theorem committee_hasLeaders (ac : Option Addr) (capc : Nat) (n : Nat) (al : Option Addr) (cap : Nat) (ls : List Int) (w : World) (_hn : n ≤ 1099511627776) (hbig : ls.length ≤ 1099511627776) (hc : IntsAt w al ls) :
    Calls Try.prog 12 #[.slice ac n capc, .slice al ls.length cap] w fun e w' => e = .returned (.bool (ldsB n ls)) ∧ w = w' := by
  have Hc := Lib.hid hc; clear hc
  by_cases h15 : ls.length ≤ 15
  case neg =>
    have hz := Lib.hid (show ldsB n ls = false by unfold ldsB; rw [decide_eq_false h15]; simp)
    have h15' : decide ((15 : Int) < (ls.length : Int)) = true := decide_eq_true (by omega)
    have h15'' : (15 : Int) < (ls.length : Int) := by omega
    go_enter Try.func12, Try.ntmps12
    go_wp2
    go_ret
    exact ⟨by rw [hz.out]; rfl, rfl⟩
  have hz := Lib.hid (show ldsB n ls = allB (okLd n ls) ls.length by unfold ldsB; rw [decide_eq_true h15]; simp)
  have h15' : ¬ (15 : Int) < (ls.length : Int) := by omega
  go_enter Try.func12, Try.ntmps12
  go_wp2
  go_loopw [12] (fun i wr => ∃ k : Nat, k ≤ ls.length ∧ i = .int .i64 k ∧ Hid (Upto (okLd n ls) k) ∧ w = wr) (fun i _ => ls.length - (intOf i).toNat)
  case atStart => exact ⟨0, by omega, rfl, Lib.hid (upto_zero _), rfl⟩
  case round =>
    obtain ⟨k, hk, rfl, hup, rfl⟩ := hrel
    by_cases hlt : k < ls.length
    · obtain ⟨b, off, rfl, hb, hat⟩ := Hc.out.cell (by omega)
      have hcell := hat k hlt
      have hgd := getD_get hlt
      have hok : okLd n ls k = decide (0 ≤ ls[k] ∧ ls[k] ≤ (n : Int) - 1) := by unfold okLd; rw [hgd]
      have Hok := Lib.hid hok
      clear hat hgd hok
      generalize ls[k] = x at *
      by_cases h1 : x < 0
      · have hres := Lib.hid (show ldsB n ls = false by rw [hz.out]; exact allB_no hlt (Hok.out.trans (decide_eq_false (by omega))))
        go_wp2
        go_ret
        exact ⟨by rw [hres.out]; rfl, rfl⟩
      by_cases h2 : (n : Int) ≤ x
      · have hres := Lib.hid (show ldsB n ls = false by rw [hz.out]; exact allB_no hlt (Hok.out.trans (decide_eq_false (by omega))))
        go_wp2
        go_ret
        exact ⟨by rw [hres.out]; rfl, rfl⟩
      have Hs := Lib.hid (upto_step hup.out (Hok.out.trans (decide_eq_true (by omega))))
      go_wp2
      go_roundw
      case rel => exact ⟨k + 1, by omega, by go_num, Lib.hid Hs.out, trivial⟩
      case measure => simp [intOf]; omega
    · have hres := Lib.hid (show ldsB n ls = true by rw [hz.out, allB_yes hup.out (by omega)])
      go_wp2
      go_ret
      exact ⟨by rw [hres.out]; rfl, rfl⟩

theorem impl_LeadersValid (ac : Option Addr) (capc : Nat) (c : List Int) (al : Option Addr) (cap : Nat) (ls : List Int) (w : World) (hn : c.length ≤ 1099511627776) (hl : ls.length ≤ 1099511627776) (hc : IntsAt w ac c) (hi : IntsAt w al ls) :
    Calls Try.prog 5 #[.slice ac c.length capc, .slice al ls.length cap] w fun e w' => e = .returned (.bool (lvB c ls)) ∧ w = w' := by
  have HV := Lib.hid (impl_CommitteeValid ac capc c w hn hc)
  have HL := Lib.hid (committee_hasLeaders ac capc c.length al cap ls w hn hl hi)
  have Hres := Lib.hid (show lvB c ls = (validB c && ldsB c.length ls) from rfl)
  clear hc hi
  go_enter Try.func5, Try.ntmps5
  go_wp2_with fail
  refine HV.out.mono ?_
  rintro e w1 ⟨rfl, rfl⟩
  cases h1 : validB c with
  | false =>
    go_wp2
    go_ret
    exact ⟨ret_bool (by rw [Hres.out, h1]; rfl), rfl⟩
  | true =>
  go_wp2_with fail
  refine HL.out.mono ?_
  rintro e w2 ⟨rfl, rfl⟩
  go_wp2
  go_ret
  exact ⟨ret_bool (by rw [Hres.out, h1]; rfl), rfl⟩

end Go.Proofs.Ytjekgjlnaochiaa
