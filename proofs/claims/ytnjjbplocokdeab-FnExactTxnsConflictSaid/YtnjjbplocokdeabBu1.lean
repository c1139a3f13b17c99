/- Texts that the laws of this folder share, one behind another; no conditions. -/
import Derived.Test.YtnjjbplocokdeabBu0
import Derived.Laws.Strings
import Derived.Test.YtnjjbplocokdeabRows
import Derived.Deep.QuietTactic
import Derived.BigQuiet
import Derived.Maps.AppendAt
import Derived.Deep.RegionHeld3

/- Plain arithmetic of digests and of hash trees; no walk and no condition of our own. -/
namespace Go.Proofs.Ytnjjbplocokdeab

def digB (n : Int) : Bool := decide (0 ≤ n ∧ n ≤ 990)
theorem digB_bd {n : Int} (h : digB n = true) : 0 ≤ n ∧ n ≤ 990 := of_decide_eq_true h
theorem digB_yes {n : Int} (h0 : 0 ≤ n) (h1 : n ≤ 990) : digB n = true := decide_eq_true ⟨h0, h1⟩
theorem digB_no {n : Int} (h : ¬ (0 ≤ n ∧ n ≤ 990)) : digB n = false := decide_eq_false h
def pairZ (a b : Int) : Int := (31 * a + 17 * b + 5) % 991
theorem pairZ_bd (a b : Int) : 0 ≤ pairZ a b ∧ pairZ a b ≤ 990 := by unfold pairZ; omega
theorem pairZ_dig (a b : Int) : digB (pairZ a b) = true := decide_eq_true (pairZ_bd a b)
theorem pairZ_left {a a' b : Int} (h : digB a = true) (h' : digB a' = true) (e : pairZ a b = pairZ a' b) : a = a' := by
  have := digB_bd h; have := digB_bd h'; unfold pairZ at e; omega
theorem pairZ_right {a b b' : Int} (h : digB b = true) (h' : digB b' = true) (e : pairZ a b = pairZ a b') : b = b' := by
  have := digB_bd h; have := digB_bd h'; unfold pairZ at e; omega

/-- The next level. -/
def upZ : List Int → List Int
  | a :: b :: r => pairZ a b :: upZ r
  | l => l
theorem upZ_nil : upZ [] = [] := rfl
theorem upZ_one (a : Int) : upZ [a] = [a] := rfl
theorem upZ_two (a b : Int) (r : List Int) : upZ (a :: b :: r) = pairZ a b :: upZ r := by rw [upZ]
/-- The other node of the pair of node i. -/
def sib (i : Nat) : Nat := if i % 2 = 0 then i + 1 else i - 1
theorem pairs_ind {p : List Int → Prop} (h0 : p []) (h1 : ∀ a, p [a]) (h2 : ∀ a b r, p r → p (a :: b :: r)) : ∀ n l, l.length ≤ n → p l := by
  intro n
  induction n with
  | zero =>
    intro l hl
    have : l = [] := List.eq_nil_of_length_eq_zero (by omega)
    subst this; exact h0
  | succ n ih =>
    intro l hl
    match l, hl with
    | [], _ => exact h0
    | [a], _ => exact h1 a
    | a :: b :: r, hl => exact h2 a b r (ih r (by simp at hl; omega))
theorem upZ_len (l : List Int) : (upZ l).length = (l.length + 1) / 2 :=
  pairs_ind (p := fun l => (upZ l).length = (l.length + 1) / 2) rfl (fun a => by simp [upZ]) (fun a b r ih => by rw [upZ_two]; simp only [List.length_cons]; rw [ih]; omega) l.length l (Nat.le_refl _)
theorem upZ_dig (l : List Int) (h : ∀ x ∈ l, digB x = true) : ∀ x ∈ upZ l, digB x = true := by
  refine pairs_ind (p := fun l => (∀ x ∈ l, digB x = true) → ∀ x ∈ upZ l, digB x = true) (fun _ => by simp [upZ]) (fun a h => by simpa [upZ] using h) (fun a b r ih h => ?_) l.length l (Nat.le_refl _) h
  rw [upZ_two]
  intro x hx
  rcases List.mem_cons.1 hx with rfl | hx
  · exact pairZ_dig _ _
  · exact ih (fun y hy => h y (by simp [hy])) x hx
/-- A node of the next level. -/
theorem upZ_get (l : List Int) : ∀ i, i < l.length → (upZ l).getD (i / 2) 0 = if sib i < l.length then (if i < sib i then pairZ (l.getD i 0) (l.getD (sib i) 0) else pairZ (l.getD (sib i) 0) (l.getD i 0)) else l.getD i 0 := by
  refine pairs_ind (p := fun l => ∀ i, i < l.length → (upZ l).getD (i / 2) 0 = if sib i < l.length then (if i < sib i then pairZ (l.getD i 0) (l.getD (sib i) 0) else pairZ (l.getD (sib i) 0) (l.getD i 0)) else l.getD i 0)
    (fun i h => by simp at h) (fun a i h => ?_) (fun a b r ih i h => ?_) l.length l (Nat.le_refl _)
  · have : i = 0 := by simpa using h
    subst this; rfl
  · rw [upZ_two]
    match i, h with
    | 0, _ => simp [sib]
    | 1, _ => simp [sib]
    | i + 2, h =>
      have hi := ih i (by simpa using h)
      have e1 : (i + 2) / 2 = i / 2 + 1 := by omega
      have e2 : sib (i + 2) = sib i + 2 := by unfold sib; split <;> split <;> omega
      rw [e1, e2]
      simp only [List.getD_cons_succ, List.length_cons]
      rw [hi]
      by_cases hs : sib i < r.length
      · rw [if_pos hs, if_pos (show sib i + 2 < r.length + 1 + 1 by omega)]
        by_cases hl : i < sib i
        · rw [if_pos hl, if_pos (show i + 2 < sib i + 2 by omega)]
        · rw [if_neg hl, if_neg (show ¬ i + 2 < sib i + 2 by omega)]
      · rw [if_neg hs, if_neg (show ¬ sib i + 2 < r.length + 1 + 1 by omega)]

def rootF : Nat → List Int → Int
  | 0, l => l.getD 0 0
  | n + 1, l => if 1 < l.length then rootF n (upZ l) else l.getD 0 0
def proofF : Nat → List Int → Nat → List Int
  | 0, _, _ => []
  | n + 1, l, i => if 1 < l.length then (if sib i < l.length then [l.getD (sib i) 0] else []) ++ proofF n (upZ l) (i / 2) else []
/-- Where a leaf x at place i and a proof lead in a tree of this size. -/
def checkF : Nat → Nat → Nat → Int → List Int → Option Int
  | 0, _, _, x, p => if p = [] then some x else none
  | n + 1, size, i, x, p =>
    if 1 < size then
      if sib i < size then
        match p with
        | [] => none
        | q :: r => if digB q = true then checkF n ((size + 1) / 2) (i / 2) (if i < sib i then pairZ x q else pairZ q x) r else none
      else checkF n ((size + 1) / 2) (i / 2) x p
    else if p = [] then some x else none

theorem dig_getD {l : List Int} (h : ∀ x ∈ l, digB x = true) {i : Nat} (hi : i < l.length) : digB (l.getD i 0) = true := by
  rw [getD_get hi]; exact h _ (List.getElem_mem hi)

/-- Each leaf has a proof. -/
theorem check_proof : ∀ (n : Nat) (l : List Int) (i : Nat), (∀ x ∈ l, digB x = true) → i < l.length → l.length ≤ 2 ^ n → checkF n l.length i (l.getD i 0) (proofF n l i) = some (rootF n l) := by
  intro n
  induction n with
  | zero => intro l i _ hi hl; have : i = 0 := by omega
            subst this; simp [checkF, proofF, rootF]
  | succ n ih =>
    intro l i hd hi hl
    simp only [checkF, proofF, rootF]
    by_cases h1 : 1 < l.length
    · rw [if_pos h1, if_pos h1, if_pos h1]
      have hu := ih (upZ l) (i / 2) (upZ_dig l hd) (by rw [upZ_len]; omega) (by rw [upZ_len, Nat.pow_succ] at *; omega)
      rw [upZ_len, upZ_get l i hi] at hu
      by_cases hs : sib i < l.length
      · rw [if_pos hs] at hu ⊢
        rw [if_pos hs]
        simp only [List.cons_append, List.nil_append]
        rw [if_pos (dig_getD hd hs)]
        exact hu
      · rw [if_neg hs] at hu ⊢
        rw [if_neg hs, List.nil_append]
        exact hu
    · have : i = 0 := by omega
      subst this; simp [h1]

/-- No other leaf has the proof. -/
theorem check_leaf : ∀ (n size i : Nat) (x y : Int) (p : List Int) (R : Int), digB x = true → digB y = true → checkF n size i x p = some R → checkF n size i y p = some R → x = y := by
  intro n
  induction n with
  | zero =>
    intro size i x y p R _ _ h1 h2
    simp only [checkF] at h1 h2
    split at h1
    · rename_i h; rw [if_pos h] at h2; cases h1; cases h2; rfl
    · cases h1
  | succ n ih =>
    intro size i x y p R hx hy h1 h2
    simp only [checkF] at h1 h2
    by_cases hz : 1 < size
    · rw [if_pos hz] at h1 h2
      by_cases hs : sib i < size
      · rw [if_pos hs] at h1 h2
        match p, h1, h2 with
        | q :: r, h1, h2 =>
          simp only at h1 h2
          by_cases hq : digB q = true
          · rw [if_pos hq] at h1 h2
            by_cases hl : i < sib i
            · rw [if_pos hl] at h1 h2
              exact pairZ_left hx hy (ih _ _ _ _ _ _ (pairZ_dig _ _) (pairZ_dig _ _) h1 h2)
            · rw [if_neg hl] at h1 h2
              exact pairZ_right hx hy (ih _ _ _ _ _ _ (pairZ_dig _ _) (pairZ_dig _ _) h1 h2)
          · rw [if_neg hq] at h1; cases h1
      · rw [if_neg hs] at h1 h2
        exact ih _ _ _ _ _ _ hx hy h1 h2
    · rw [if_neg hz] at h1 h2
      split at h1
      · rename_i h; rw [if_pos h] at h2; cases h1; cases h2; rfl
      · cases h1

/-- How long a proof is. -/
def plen : Nat → Nat → Nat → Nat
  | 0, _, _ => 0
  | n + 1, size, i => if 1 < size then (if sib i < size then 1 else 0) + plen n ((size + 1) / 2) (i / 2) else 0
theorem plen_le : ∀ (n size i : Nat), plen n size i ≤ n := by
  intro n
  induction n with
  | zero => intro _ _; exact Nat.le_refl _
  | succ n ih =>
    intro size i
    simp only [plen]
    have := ih ((size + 1) / 2) (i / 2)
    split
    · split <;> omega
    · omega
theorem check_len : ∀ (n size i : Nat) (x : Int) (p : List Int) (R : Int), checkF n size i x p = some R → p.length = plen n size i := by
  intro n
  induction n with
  | zero =>
    intro size i x p R h
    simp only [checkF] at h
    split at h
    · rename_i hp; rw [hp]; rfl
    · cases h
  | succ n ih =>
    intro size i x p R h
    simp only [checkF] at h
    simp only [plen]
    by_cases hz : 1 < size
    · rw [if_pos hz] at h ⊢
      by_cases hs : sib i < size
      · rw [if_pos hs] at h ⊢
        match p, h with
        | q :: r, h =>
          simp only at h
          by_cases hq : digB q = true
          · rw [if_pos hq] at h
            have := ih _ _ _ _ _ h
            simp only [List.length_cons]; omega
          · rw [if_neg hq] at h; cases h
      · rw [if_neg hs] at h ⊢
        have := ih _ _ _ _ _ h; omega
    · rw [if_neg hz] at h ⊢
      split at h
      · rename_i hp; rw [hp]; rfl
      · cases h

/-- A changed leaf on the next level. -/
theorem upZ_set (l : List Int) : ∀ i y, i < l.length → upZ (l.set i y) = (upZ l).set (i / 2) ((upZ (l.set i y)).getD (i / 2) 0) := by
  refine pairs_ind (p := fun l => ∀ i y, i < l.length → upZ (l.set i y) = (upZ l).set (i / 2) ((upZ (l.set i y)).getD (i / 2) 0)) (fun i y h => by simp at h) (fun a i y h => ?_) (fun a b r ih i y h => ?_) l.length l (Nat.le_refl _)
  · have : i = 0 := by simpa using h
    subst this; rfl
  · match i, h with
    | 0, _ => simp [upZ_two]
    | 1, _ => simp [upZ_two]
    | i + 2, h =>
      have hi := ih i y (by simpa using h)
      have e1 : (i + 2) / 2 = i / 2 + 1 := by omega
      rw [e1]
      simp only [List.set_cons_succ, upZ_two, List.getD_cons_succ]
      rw [← hi]
theorem proof_set : ∀ (n : Nat) (l : List Int) (i : Nat) (y : Int), i < l.length → proofF n (l.set i y) i = proofF n l i := by
  intro n
  induction n with
  | zero => intros; rfl
  | succ n ih =>
    intro l i y hi
    simp only [proofF, List.length_set]
    have hne : sib i ≠ i := by unfold sib; split <;> omega
    have e : (l.set i y).getD (sib i) 0 = l.getD (sib i) 0 := by
      simp only [List.getD]
      rw [List.getElem?_set_ne (fun h => hne h.symm)]
    rw [e, upZ_set l i y hi, ih (upZ l) (i / 2) _ (by rw [upZ_len]; omega)]
/-- A changed leaf changes the root. -/
theorem root_set {n : Nat} {l : List Int} {i : Nat} {y : Int} (hd : ∀ x ∈ l, digB x = true) (hi : i < l.length) (hl : l.length ≤ 2 ^ n) (hy : digB y = true) (e : rootF n (l.set i y) = rootF n l) : y = l.getD i 0 := by
  have h1 := check_proof n l i hd hi hl
  have h2 := check_proof n (l.set i y) i (fun x hx => by rcases List.mem_or_eq_of_mem_set hx with h | rfl; exact hd x h; exact hy) (by simpa using hi) (by simpa using hl)
  rw [List.length_set, proof_set n l i y hi, e] at h2
  have e2 : (l.set i y).getD i 0 = y := by simp [List.getD, hi]
  rw [e2] at h2
  exact check_leaf _ _ _ _ _ _ _ hy (dig_getD hd hi) h2 h1
theorem rootF_bd : ∀ (n : Nat) (l : List Int), (∀ x ∈ l, digB x = true) → 0 < l.length → digB (rootF n l) = true := by
  intro n
  induction n with
  | zero => intro l hd hl; exact dig_getD hd hl
  | succ n ih =>
    intro l hd hl
    simp only [rootF]
    split
    · exact ih _ (upZ_dig l hd) (by rw [upZ_len]; omega)
    · exact dig_getD hd hl

/-! texts -/
def txtS (n : Int) (c : UInt8) : Int := (257 * n + c.toNat + 1) % 991
def txtF (n : Int) (l : List UInt8) : Int := l.foldl txtS n
def txtZ (l : List UInt8) : Int := txtF 7 l
theorem txtS_bd (n : Int) (c : UInt8) : 0 ≤ txtS n c ∧ txtS n c ≤ 990 := by unfold txtS; omega
theorem txtF_bd (l : List UInt8) : ∀ n, 0 ≤ n → n ≤ 990 → 0 ≤ txtF n l ∧ txtF n l ≤ 990 := by
  induction l with
  | nil => intro n h0 h1; exact ⟨h0, h1⟩
  | cons c l ih => intro n _ _; exact ih _ (txtS_bd n c).1 (txtS_bd n c).2
theorem txtZ_bd (l : List UInt8) : 0 ≤ txtZ l ∧ txtZ l ≤ 990 := txtF_bd l 7 (by omega) (by omega)
theorem txtZ_snoc (l : List UInt8) (c : UInt8) : txtZ (l ++ [c]) = txtS (txtZ l) c := by unfold txtZ txtF; rw [List.foldl_append]; rfl
theorem txtF_ne (l : List UInt8) : ∀ n m, 0 ≤ n → n ≤ 990 → 0 ≤ m → m ≤ 990 → n ≠ m → txtF n l ≠ txtF m l := by
  induction l with
  | nil => intro n m _ _ _ _ h; exact h
  | cons c l ih =>
    intro n m h0 h1 h2 h3 h
    refine ih _ _ (txtS_bd n c).1 (txtS_bd n c).2 (txtS_bd m c).1 (txtS_bd m c).2 ?_
    unfold txtS; omega
theorem txtZ_byte (l r : List UInt8) {b c : UInt8} (h : b ≠ c) : txtZ (l ++ [b] ++ r) ≠ txtZ (l ++ [c] ++ r) := by
  have e : ∀ x, txtZ (l ++ [x] ++ r) = txtF (txtS (txtZ l) x) r := fun x => by unfold txtZ txtF; rw [List.foldl_append, List.foldl_append]; rfl
  rw [e, e]
  refine txtF_ne r _ _ (txtS_bd _ _).1 (txtS_bd _ _).2 (txtS_bd _ _).1 (txtS_bd _ _).2 ?_
  have hb := b.toNat_lt
  have hc := c.toNat_lt
  have hn : b.toNat ≠ c.toNat := fun e => h (UInt8.toNat_inj.1 e)
  have := txtZ_bd l
  unfold txtS; omega

theorem txt_step (s : ByteArray) (k : Nat) (hk : k < s.size) : txtZ (s.data.toList.take (k + 1)) = txtS (txtZ (s.data.toList.take k)) s[k] := by
  rw [← txtZ_snoc, List.take_succ_eq_append_getElem (by simpa using hk)]; rfl
def htZ (s : ByteArray) : Int := if s.size ≤ 60 then txtZ s.data.toList else -1
def hpZ (a b : Int) : Int := if digB a = true ∧ digB b = true then pairZ a b else -1
def leavesB (l : List Int) : Bool := decide (1 ≤ l.length ∧ l.length ≤ 16) && l.all digB
theorem leavesB_bad {l : List Int} {k : Nat} (hk : k < l.length) (h : digB l[k] = false) : leavesB l = false := by unfold leavesB; rw [pre_not hk h, Bool.and_false]
theorem leavesB_len {l : List Int} {k : Nat} (h : Pre digB l k) (hk : l.length ≤ k) : leavesB l = decide (1 ≤ l.length ∧ l.length ≤ 16) := by unfold leavesB; rw [pre_all h hk, Bool.and_true]
theorem leavesB_iff {l : List Int} (h : leavesB l = true) : (1 ≤ l.length ∧ l.length ≤ 16) ∧ ∀ x ∈ l, digB x = true := by
  unfold leavesB at h; rw [Bool.and_eq_true, decide_eq_true_eq, List.all_eq_true] at h; exact h
def mrZ (l : List Int) : Int := if leavesB l = true then rootF 4 l else -1
def mpZ (l : List Int) (i : Int) : List Int := if leavesB l = true ∧ 0 ≤ i ∧ i < l.length then proofF 4 l i.toNat else []
def mcB (root size i leaf : Int) (p : List Int) : Bool := decide (1 ≤ size ∧ size ≤ 16 ∧ 0 ≤ i ∧ i < size ∧ digB leaf = true ∧ checkF 4 size.toNat i.toNat leaf p = some root)

theorem mrZ_yes {l : List Int} (h : leavesB l = true) : mrZ l = rootF 4 l := by unfold mrZ; rw [if_pos h]
theorem mrZ_no {l : List Int} (h : leavesB l = false) : mrZ l = -1 := by unfold mrZ; rw [if_neg (by simp [h])]
theorem mpZ_yes {l : List Int} {i : Nat} (h : leavesB l = true) (hi : i < l.length) : mpZ l i = proofF 4 l i := by unfold mpZ; rw [if_pos ⟨h, by omega, by omega⟩]; rfl
theorem mpZ_no {l : List Int} {i : Int} (h : ¬ (leavesB l = true ∧ 0 ≤ i ∧ i < l.length)) : mpZ l i = [] := by unfold mpZ; rw [if_neg h]
theorem sib_int (j : Nat) : (j : Int) + 1 - (j : Int) % 2 * 2 = (sib j : Nat) := by unfold sib; split <;> omega
theorem sib_ne (j : Nat) : sib j ≠ j := by unfold sib; split <;> omega
theorem rootF_up {n : Nat} {l : List Int} (h : 1 < l.length) : rootF (n + 1) l = rootF n (upZ l) := by rw [rootF, if_pos h]
theorem rootF_end {n : Nat} {l : List Int} (h : l.length = 1) : rootF n l = l.getD 0 0 := by
  cases n with
  | zero => rfl
  | succ n => rw [rootF, if_neg (by omega)]
theorem proofF_sib {n : Nat} {l : List Int} {i : Nat} (h : 1 < l.length) (hs : sib i < l.length) : proofF (n + 1) l i = l.getD (sib i) 0 :: proofF n (upZ l) (i / 2) := by rw [proofF, if_pos h, if_pos hs]; rfl
theorem proofF_lone {n : Nat} {l : List Int} {i : Nat} (h : 1 < l.length) (hs : ¬ sib i < l.length) : proofF (n + 1) l i = proofF n (upZ l) (i / 2) := by rw [proofF, if_pos h, if_neg hs]; rfl
theorem proofF_end {n : Nat} {l : List Int} {i : Nat} (h : ¬ 1 < l.length) : proofF n l i = [] := by
  cases n with
  | zero => rfl
  | succ n => rw [proofF, if_neg h]
theorem proofF_len : ∀ (n : Nat) (l : List Int) (i : Nat), (proofF n l i).length ≤ n := by
  intro n
  induction n with
  | zero => intro _ _; exact Nat.le_refl _
  | succ n ih =>
    intro l i
    by_cases h : 1 < l.length
    · have := ih (upZ l) (i / 2)
      by_cases hs : sib i < l.length
      · rw [proofF_sib h hs, List.length_cons]; omega
      · rw [proofF_lone h hs]; omega
    · rw [proofF_end h]; simp
theorem pow_half {n k : Nat} (h : k ≤ 2 ^ (n + 1)) : (k + 1) / 2 ≤ 2 ^ n := by rw [Nat.pow_succ] at h; omega
theorem pow_pos' {n k : Nat} (h : k ≤ 2 ^ n) (h1 : 1 < k) : ∃ m, n = m + 1 := by
  cases n with
  | zero => simp at h; omega
  | succ n => exact ⟨n, rfl⟩

theorem checkF_end {n size i : Nat} {x : Int} {p : List Int} (h : ¬ 1 < size) : checkF n size i x p = if p = [] then some x else none := by
  cases n with
  | zero => rfl
  | succ n => simp only [checkF]; rw [if_neg h]
theorem checkF_lone {n size i : Nat} {x : Int} {p : List Int} (h : 1 < size) (hs : ¬ sib i < size) : checkF (n + 1) size i x p = checkF n ((size + 1) / 2) (i / 2) x p := by simp only [checkF]; rw [if_pos h, if_neg hs]
theorem checkF_none {n size i : Nat} {x : Int} (h : 1 < size) (hs : sib i < size) : checkF (n + 1) size i x [] = none := by simp only [checkF]; rw [if_pos h, if_pos hs]
theorem checkF_sib {n size i : Nat} {x q : Int} {r : List Int} (h : 1 < size) (hs : sib i < size) (hq : digB q = true) : checkF (n + 1) size i x (q :: r) = checkF n ((size + 1) / 2) (i / 2) (if i < sib i then pairZ x q else pairZ q x) r := by simp only [checkF]; rw [if_pos h, if_pos hs, if_pos hq]
theorem checkF_bad {n size i : Nat} {x q : Int} {r : List Int} (h : 1 < size) (hs : sib i < size) (hq : digB q = false) : checkF (n + 1) size i x (q :: r) = none := by simp only [checkF]; rw [if_pos h, if_pos hs, if_neg (by simp [hq])]
theorem mcB_yes {root leaf : Int} {size i : Nat} {p : List Int} (h1 : 1 ≤ size) (h2 : size ≤ 16) (h3 : i < size) (h4 : digB leaf = true) : mcB root size i leaf p = decide (checkF 4 size i leaf p = some root) := by
  unfold mcB
  refine decide_eq_decide.2 ⟨fun h => h.2.2.2.2.2, fun h => ⟨by omega, by omega, by omega, by omega, h4, h⟩⟩
theorem mcB_no {root size i leaf : Int} {p : List Int} (h : ¬ (1 ≤ size ∧ size ≤ 16 ∧ 0 ≤ i ∧ i < size ∧ digB leaf = true)) : mcB root size i leaf p = false :=
  decide_eq_false fun h' => h ⟨h'.1, h'.2.1, h'.2.2.1, h'.2.2.2.1, h'.2.2.2.2.1⟩

theorem mrZ_bd (l : List Int) : -1 ≤ mrZ l ∧ mrZ l ≤ 990 := by
  by_cases h : leavesB l = true
  · rw [mrZ_yes h]
    have := digB_bd (rootF_bd 4 l (leavesB_iff h).2 (by have := (leavesB_iff h).1; omega))
    omega
  · rw [mrZ_no (by simpa using h)]; omega
theorem mpZ_len (l : List Int) (i : Int) : (mpZ l i).length ≤ 4 := by
  unfold mpZ; split
  · exact proofF_len _ _ _
  · simp

theorem htZ_yes (s : ByteArray) (h : s.size ≤ 60) : 0 ≤ htZ s ∧ htZ s ≤ 990 := by unfold htZ; rw [if_pos h]; exact txtZ_bd _
theorem htZ_no (s : ByteArray) (h : 60 < s.size) : htZ s = -1 := by unfold htZ; rw [if_neg (by omega)]
theorem htZ_empty : htZ ⟨#[]⟩ = 7 := rfl
theorem hpZ_yes {a b : Int} (h : digB a = true) (h' : digB b = true) : hpZ a b = pairZ a b := by unfold hpZ; rw [if_pos ⟨h, h'⟩]
theorem hpZ_no {a b : Int} (h : ¬ (digB a = true ∧ digB b = true)) : hpZ a b = -1 := by unfold hpZ; rw [if_neg h]

theorem str_ne {s : ByteArray} (h : ¬ s.size = 0) : s.toList.isEmpty = false := by
  rw [ByteArray.toList_eq]
  cases e : s.data.toList with
  | nil => exact absurd (by have := congrArg List.length e; simpa using this) h
  | cons _ _ => rfl
theorem str_nil {s : ByteArray} (h : s.size = 0) : s.toList.isEmpty = true := by
  have e : s.data.toList = [] := List.eq_nil_of_length_eq_zero (by simpa using h)
  rw [ByteArray.toList_eq, e]
  rfl

/-- A text with one byte changed. -/
theorem txt_change (s : ByteArray) (k : Nat) (hk : k < s.size) (c : UInt8) (hc : c ≠ s[k]) (h60 : s.size ≤ 60) (t : ByteArray) (ht : t = s.extract 0 k ++ ⟨#[c]⟩ ++ s.extract (k + 1) s.size) : t.size = s.size ∧ 0 ≤ htZ t ∧ htZ t ≤ 990 ∧ htZ t ≠ htZ s := by
  have hd : t.data.toList = s.data.toList.take k ++ [c] ++ s.data.toList.drop (k + 1) := by
    subst ht
    simp
    exact List.take_of_length_le (by simp)
  have hsd : s.data.toList = s.data.toList.take k ++ [s[k]] ++ s.data.toList.drop (k + 1) := by
    have hk' : k < s.data.toList.length := by simpa using hk
    have h := List.take_append_drop (k + 1) s.data.toList
    rw [List.take_succ_eq_append_getElem hk'] at h
    exact h.symm
  have hsz : t.size = s.size := by
    have h1 := congrArg List.length hd
    simp at h1
    have e1 : s.data.size = s.size := rfl
    have e2 : t.data.size = t.size := rfl
    omega
  have hn := txtZ_byte (s.data.toList.take k) (s.data.toList.drop (k + 1)) hc
  rw [← hd, ← hsd] at hn
  have hb := htZ_yes t (by omega)
  refine ⟨hsz, hb.1, hb.2, ?_⟩
  unfold htZ
  rw [if_pos (show t.size ≤ 60 by omega), if_pos h60]
  exact hn

/-- A byte xor 1, 2 or 3. -/
theorem xor_byte (b : UInt8) (m : Int) (h1 : 1 ≤ m) (h3 : m ≤ 3) : ∃ c : UInt8, bits .xor .u8 (b.toNat : Int) m = (c.toNat : Int) ∧ c ≠ b := by
  have key : ∀ x : Fin 256, ∀ y : Fin 3, bits .xor .u8 (x.val : Int) ((y.val : Int) + 1) = ((x.val ^^^ (y.val + 1) : Nat) : Int) ∧ x.val ^^^ (y.val + 1) ≠ x.val ∧ x.val ^^^ (y.val + 1) < 256 := by decide +kernel
  obtain ⟨hz, hne, hlt⟩ := key ⟨b.toNat, UInt8.toNat_lt b⟩ ⟨(m - 1).toNat, by omega⟩
  simp only at hz hne hlt
  rw [show (((m - 1).toNat : Nat) : Int) + 1 = m by omega] at hz
  generalize b.toNat ^^^ ((m - 1).toNat + 1) = z at hz hne hlt
  refine ⟨UInt8.ofNat z, ?_, ?_⟩
  · rw [UInt8.toNat_ofNat', Nat.mod_eq_of_lt (show z < 2 ^ 8 from hlt), hz]
  · intro e
    apply hne
    rw [← e, UInt8.toNat_ofNat', Nat.mod_eq_of_lt (show z < 2 ^ 8 from hlt)]

theorem wrap_tmod3 (n : Nat) : ∃ m : Int, 1 ≤ m ∧ m ≤ 3 ∧ IntKind.u8.wrap (IntKind.i64.wrap (1 + ((n : Int)).tmod 3)) = m := by
  have e : ((n : Int)).tmod 3 = (n : Int) % 3 := Int.tmod_eq_emod_of_nonneg (by omega)
  refine ⟨1 + (n : Int) % 3, by omega, by omega, ?_⟩
  rw [e, IntWalk.i64_in _ (by omega), IntWalk.u8_in _ (by omega)]

theorem mcB_root {root root' size i leaf : Int} {p : List Int} (h : mcB root size i leaf p = true) (hne : root' ≠ root) : mcB root' size i leaf p = false := by
  have h1 := of_decide_eq_true h
  exact decide_eq_false fun h2 => hne (by
    have := h2.2.2.2.2.2.symm.trans h1.2.2.2.2.2
    simpa using this)
theorem mcB_len {root size i leaf : Int} {p q : List Int} (h : mcB root size i leaf p = true) (hne : q.length ≠ p.length) : mcB root size i leaf q = false := by
  have h1 := of_decide_eq_true h
  exact decide_eq_false fun h2 => hne ((check_len _ _ _ _ _ _ h2.2.2.2.2.2).trans (check_len _ _ _ _ _ _ h1.2.2.2.2.2).symm)
theorem mcB_short {root size i leaf : Int} {p : List Int} (h : mcB root size i leaf p = true) : p.length ≤ 4 := by
  have h1 := of_decide_eq_true h
  rw [check_len _ _ _ _ _ _ h1.2.2.2.2.2]
  exact plen_le _ _ _
theorem leaves_get {l : List Int} (h : leavesB l = true) {i : Nat} (hi : i < l.length) : digB l[i] = true := (leavesB_iff h).2 _ (List.getElem_mem hi)
theorem getD_at {l : List Int} {i : Nat} (hi : i < l.length) : l.getD i 0 = l[i] := by simp [hi]
theorem mc_proof {l : List Int} {i : Nat} (h : leavesB l = true) (hi : i < l.length) : mcB (mrZ l) l.length i l[i] (mpZ l i) = true := by
  obtain ⟨hl, hd⟩ := leavesB_iff h
  rw [mcB_yes (by omega) (by omega) hi (leaves_get h hi), mrZ_yes h, mpZ_yes h hi, ← getD_at hi]
  exact decide_eq_true (check_proof 4 l i hd hi (by omega))
theorem mc_leaf {l : List Int} {i : Nat} {x : Int} (h : leavesB l = true) (hi : i < l.length) (hx : x ≠ l[i]) : mcB (mrZ l) l.length i x (mpZ l i) = false := by
  obtain ⟨hl, hd⟩ := leavesB_iff h
  cases hm : mcB (mrZ l) l.length i x (mpZ l i) with
  | false => rfl
  | true =>
    have h1 := (of_decide_eq_true (mc_proof h hi)).2.2.2.2.2
    have h2 := of_decide_eq_true hm
    exact absurd (check_leaf _ _ _ _ _ _ _ h2.2.2.2.2.1 (leaves_get h hi) h2.2.2.2.2.2 h1) hx

theorem mrZ_pos {l : List Int} (h : leavesB l = true) : 0 ≤ mrZ l ∧ mrZ l ≤ 990 := by
  rw [mrZ_yes h]
  obtain ⟨hl, hd⟩ := leavesB_iff h
  exact digB_bd (rootF_bd 4 l hd (by omega))

theorem mc_leaf' {l : List Int} {i : Int} {x : Int} (h : leavesB l = true) (h0 : 0 ≤ i) (hi : i < l.length) (hx : x ≠ l.getD i.toNat 0) : mcB (mrZ l) l.length i x (mpZ l i) = false := by
  obtain ⟨i, rfl⟩ := Int.eq_ofNat_of_zero_le h0
  have hi' : i < l.length := by omega
  exact mc_leaf h hi' (by rw [← getD_at hi']; exact hx)

end Go.Proofs.Ytnjjbplocokdeab

/- What spec's functions of digests and hash trees answer, each by a walk of its text: the answers are those of plain functions on lists; conditions: a list that is read has fewer than 2^40 elements, numbers that are paired are digests. -/
namespace Go.Proofs.Ytnjjbplocokdeab
open Go.RowKit

theorem TI2 : IntT Try.prog 40 3 := ⟨Try.underlying40, by kernel_rfl⟩

end Go.Proofs.Ytnjjbplocokdeab

/- The reference's tests of transactions and of ledgers, each by a walk of its text; condition: the lists are shorter than 2^40. -/
namespace Go.Proofs.Ytnjjbplocokdeab
open Go.RowKit

def agT (x : Tx) : Value := .agg #[.int .i64 x.f, .int .i64 x.t, .int .i64 x.s, .int .i64 x.e]
theorem spec_TxnValid (x : Tx) (w : World) :
    Calls Try.prog 49 #[agT x] w fun e w' => e = .returned (.bool (txB x)) ∧ Below w.heap.size w w' := by
  obtain ⟨f, t, s, e⟩ := x
  have hb0 : Below w.heap.size w (w.alloc (.cells #[.int .i64 f, .int .i64 t, .int .i64 s, .int .i64 e] 25)) := (Below.refl _ _).alloc (Nat.le_refl _) _
  have s0 := Str.new w 25 #[.int .i64 f, .int .i64 t, .int .i64 s, .int .i64 e]
  have k0 := s0.cell 0 (v := .int .i64 f) rfl
  have H0 := Lib.hid (fun W => spec_l6In f 0 5 W)
  have k1 := s0.cell 1 (v := .int .i64 t) rfl
  have H1 := Lib.hid (fun W => spec_l6In t 0 5 W)
  have k2 := s0.cell 2 (v := .int .i64 s) rfl
  have H2 := Lib.hid (fun W => spec_l6In s 1 99 W)
  have k3 := s0.cell 3 (v := .int .i64 e) rfl
  have H3 := Lib.hid (fun W => spec_l6In e 0 9 W)
  have Hb0 := Lib.hid hb0; clear hb0 s0
  have Hres := Lib.hid (show txB ⟨f, t, s, e⟩ = (decide (0 ≤ f ∧ f ≤ 5) && (decide (0 ≤ t ∧ t ≤ 5) && (decide (f ≠ t) && (decide (1 ≤ s ∧ s ≤ 99) && decide (0 ≤ e ∧ e ≤ 9))))) from rfl)
  generalize decide (0 ≤ f ∧ f ≤ 5) = xf at *
  generalize decide (0 ≤ t ∧ t ≤ 5) = xt at *
  generalize decide (1 ≤ s ∧ s ≤ 99) = xs at *
  generalize decide (0 ≤ e ∧ e ≤ 9) = xe at *
  unfold agT
  dsimp only
  go_enter Try.func49, Try.ntmps49
  go_wp2_with fail
  generalize w.alloc (.cells #[.int .i64 f, .int .i64 t, .int .i64 s, .int .i64 e] 25) = W0 at *
  refine (H0.out W0).mono ?_
  rintro e1 w1 ⟨rfl, rfl⟩
  cases xf with
  | false =>
    go_wp2
    go_ret
    exact ⟨ret_bool (by rw [Hres.out]; simp), Hb0.out⟩
  | true =>
  go_wp2_with fail
  refine (H1.out W0).mono ?_
  rintro e1 w1 ⟨rfl, rfl⟩
  cases xt with
  | false =>
    go_wp2
    go_ret
    exact ⟨ret_bool (by rw [Hres.out]; simp), Hb0.out⟩
  | true =>
  by_cases hne : f = t
  case pos =>
    have hn1 : (f == t) = true := by rw [beq_iff_eq]; exact hne
    have hn2 : (f != t) = false := by rw [bne, hn1]; rfl
    have Hne := Lib.hid hne; clear hne
    go_wp2
    go_ret
    exact ⟨ret_bool (by rw [Hres.out, decide_eq_false (show ¬ (f ≠ t) from fun h => h Hne.out)]; rfl), Hb0.out⟩
  have hn1 : (f == t) = false := by rw [beq_eq_false_iff_ne]; exact hne
  have hn2 : (f != t) = true := by rw [bne, hn1]; rfl
  have Hres := Lib.hid (Hres.out.trans (by rw [decide_eq_true (show f ≠ t from hne)]))
  have Hne := Lib.hid hne; clear hne
  go_wp2_with fail
  refine (H2.out W0).mono ?_
  rintro e1 w1 ⟨rfl, rfl⟩
  cases xs with
  | false =>
    go_wp2
    go_ret
    exact ⟨ret_bool (by rw [Hres.out]; simp), Hb0.out⟩
  | true =>
  go_wp2_with fail
  refine (H3.out W0).mono ?_
  rintro e1 w1 ⟨rfl, rfl⟩
  go_wp2
  go_ret
  exact ⟨ret_bool (by rw [Hres.out]; cases xe <;> simp_all), Hb0.out⟩

theorem ldB_bad {l : List Int} {n : Int} {k : Nat} (hk : k < l.length) (h : ¬ (0 ≤ l[k] ∧ l[k] ≤ 999)) : ldB l n = false := by
  cases hv : ldB l n with
  | false => rfl
  | true => exact absurd ((ldB_iff.1 hv).1 _ (List.getElem_mem hk)) h
theorem ldB_end {l : List Int} {n : Int} (h : ∀ j (hj : j < l.length), 0 ≤ l[j] ∧ l[j] ≤ 999) : ldB l n = (decide (l.length = 6) && decide (0 ≤ n ∧ n ≤ 5994)) := by
  have h1 : l.all balB = true := List.all_eq_true.2 fun b hb => by
    obtain ⟨j, hj, rfl⟩ := List.mem_iff_getElem.1 hb
    exact decide_eq_true (h j hj)
  unfold ldB
  rw [h1]; rfl
set_option maxHeartbeats 1000000 in
theorem spec_LedgerValid (a : Option Addr) (cap : Nat) (l : List Int) (n : Int) (w : World) (hbig : l.length ≤ 1099511627776) (hl : IntsAt w a l) :
    Calls Try.prog 52 #[.agg #[.slice a l.length cap, .int .i64 n]] w fun e w' => e = .returned (.bool (ldB l n)) ∧ Below w.heap.size w w' := by
  have hb0 : Below w.heap.size w (w.alloc (.cells #[.slice a l.length cap, .int .i64 n] 44)) := (Below.refl _ _).alloc (Nat.le_refl _) _
  have s0 := Str.new w 44 #[.slice a l.length cap, .int .i64 n]
  have k0 := s0.cell 0 (v := .slice a l.length cap) rfl
  have k1 := s0.cell 1 (v := .int .i64 n) rfl
  have hl0 := hl.below hb0
  have Hb0 := Lib.hid hb0; clear hb0 s0 hl
  have HF := Lib.hid (fun W => spec_l6In n 0 5994 W)
  go_enter Try.func52, Try.ntmps52
  go_wp2
  generalize w.alloc (.cells #[.slice a l.length cap, .int .i64 n] 44) = W0 at *
  go_loop [3] (fun i => ∃ k : Nat, k ≤ l.length ∧ i = .int .i64 k ∧ ∀ j (hj : j < k) (hj' : j < l.length), 0 ≤ l[j] ∧ l[j] ≤ 999) (fun i => l.length - (intOf i).toNat)
  case atStart => exact ⟨0, by omega, rfl, fun j hj => absurd hj (by omega)⟩
  case round =>
    obtain ⟨k, hk, rfl, hg⟩ := hrel
    by_cases hlt : k < l.length
    · rcases hl0 with rfl | ⟨b, off, rfl, hb, hc⟩
      · simp at hlt
      have hcell := hc k hlt
      have Hc := Lib.hid hc; clear hc
      have hlt' : (k : Int) < (l.length : Int) := by omega
      have Hg := Lib.hid hg; clear hg
      by_cases h : 0 ≤ l[k] ∧ l[k] ≤ 999
      · have HI := Lib.hid (fun W => spec_l6In_yes (n := l[k]) (lo := 0) (hi := 999) h W)
        have Hh := Lib.hid (show ∀ j (hj : j < k + 1) (hj' : j < l.length), 0 ≤ l[j] ∧ l[j] ≤ 999 from fun j hj hj' => by rcases Nat.lt_succ_iff_lt_or_eq.1 hj with e | e; exact Hg.out j e hj'; subst e; exact h); clear h
        generalize l[k] = x at *
        go_wp2_with fail
        refine (HI.out _).mono ?_
        rintro e w' ⟨rfl, rfl⟩
        go_wp2
        go_round
        case rel => exact ⟨k + 1, by omega, by go_num, Hh.out⟩
        case measure => simp [intOf]; omega
      · have HI := Lib.hid (fun W => spec_l6In_no (n := l[k]) (lo := 0) (hi := 999) h W)
        have Hz := Lib.hid (ldB_bad (n := n) hlt h); clear h
        generalize l[k] = x at *
        go_wp2_with fail
        refine (HI.out _).mono ?_
        rintro e w' ⟨rfl, rfl⟩
        go_wp2
        go_ret
        exact ⟨ret_bool Hz.out.symm, Hb0.out⟩
    · have hlt' : ¬ (k : Int) < (l.length : Int) := by omega
      have Hz := Lib.hid (ldB_end (n := n) (fun j hj => hg j (by omega) hj)); clear hg
      have HL := Lib.hid hl0; clear hl0
      by_cases h6 : l.length = 6
      · have h61 : ((l.length : Int) == 6) = true := by rw [beq_iff_eq]; omega
        have Hz := Lib.hid (Hz.out.trans (by rw [decide_eq_true h6])); clear h6
        go_wp2_with fail
        refine (HF.out _).mono ?_
        rintro e w' ⟨rfl, rfl⟩
        go_wp2
        go_ret
        exact ⟨ret_bool (by rw [Hz.out]; simp), Hb0.out⟩
      · have h61 : ((l.length : Int) == 6) = false := by rw [beq_eq_false_iff_ne]; omega
        have Hz := Lib.hid (Hz.out.trans (by rw [decide_eq_false h6])); clear h6
        go_wp2
        go_ret
        exact ⟨ret_bool (by rw [Hz.out]; simp), Hb0.out⟩

end Go.Proofs.Ytnjjbplocokdeab

/- The lanes of transactions: what spreading the least index along conflicts comes to; plain facts on lists, nothing here is walked. -/
namespace Go.Proofs.Ytnjjbplocokdeab
open Go.RowKit

def cfB (x y : Tx) : Bool := decide (x.f = y.f) || (decide (x.f = y.t) || (decide (x.t = y.f) || decide (x.t = y.t)))
theorem cfB_iff {x y : Tx} : cfB x y = true ↔ x.f = y.f ∨ x.f = y.t ∨ x.t = y.f ∨ x.t = y.t := by unfold cfB; simp only [Bool.or_eq_true, decide_eq_true_eq]
theorem cfB_comm (x y : Tx) : cfB x y = cfB y x := by
  rw [Bool.eq_iff_iff, cfB_iff, cfB_iff]
  constructor <;> (rintro (h | h | h | h) <;> simp [h])
theorem cfB_self (x : Tx) : cfB x x = true := cfB_iff.2 (.inl rfl)
def tx0 : Tx := ⟨0, 0, 0, 0⟩
def Edg (xs : List Tx) (i k : Nat) : Prop := i < xs.length ∧ k < xs.length ∧ cfB (xs.getD i tx0) (xs.getD k tx0) = true
theorem Edg.symm {xs : List Tx} {i k : Nat} (h : Edg xs i k) : Edg xs k i := ⟨h.2.1, h.1, by rw [cfB_comm]; exact h.2.2⟩
/-- Connected by a chain of conflicts. -/
inductive Cn (xs : List Tx) : Nat → Nat → Prop
  | refl (i : Nat) : Cn xs i i
  | step {i j k : Nat} : Cn xs i j → Edg xs j k → Cn xs i k
theorem Cn.trans {xs : List Tx} {i j k : Nat} (h : Cn xs i j) (h' : Cn xs j k) : Cn xs i k := by
  induction h' with
  | refl => exact h
  | step _ e ih => exact .step ih e
theorem Cn.edge {xs : List Tx} {i k : Nat} (h : Edg xs i k) : Cn xs i k := .step (.refl i) h
theorem Cn.symm {xs : List Tx} {i k : Nat} (h : Cn xs i k) : Cn xs k i := by
  induction h with
  | refl => exact .refl _
  | step _ e ih => exact (Cn.edge e.symm).trans ih
theorem least {P : Nat → Prop} : ∀ n, P n → ∃ m, P m ∧ ∀ k, P k → m ≤ k := by
  intro n
  induction n using Nat.strongRecOn with
  | ind n ih =>
    intro hn
    by_cases h : ∃ k, k < n ∧ P k
    · obtain ⟨k, hk, hp⟩ := h
      exact ih k hk hp
    · refine ⟨n, hn, fun k hk => ?_⟩
      rcases Nat.lt_or_ge k n with h' | h'
      · exact absurd ⟨k, h', hk⟩ h
      · exact h'

/-- One step: the lesser of two labels for both. -/
def stL (xs : List Tx) (L : List Int) (i k : Nat) : List Int := if cfB (xs.getD i tx0) (xs.getD k tx0) = true then (L.set i (min (L.getD i 0) (L.getD k 0))).set k (min (L.getD i 0) (L.getD k 0)) else L
def rwL (xs : List Tx) (L : List Int) (i : Nat) : Nat → List Int
  | 0 => L
  | k + 1 => stL xs (rwL xs L i k) i k
def rdL (xs : List Tx) (L : List Int) : Nat → List Int
  | 0 => L
  | i + 1 => rwL xs (rdL xs L i) i i
def lb0 (n : Nat) : List Int := (List.range n).map Int.ofNat
def lbR (xs : List Tx) : Nat → List Int
  | 0 => lb0 xs.length
  | r + 1 => rdL xs (lbR xs r) xs.length
/-- The labels in the end. -/
def lbL (xs : List Tx) : List Int := lbR xs xs.length

theorem st_len (xs : List Tx) (L : List Int) (i k : Nat) : (stL xs L i k).length = L.length := by unfold stL; split <;> simp
theorem rw_len (xs : List Tx) (L : List Int) (i : Nat) : ∀ k, (rwL xs L i k).length = L.length
  | 0 => rfl
  | k + 1 => by rw [rwL, st_len, rw_len]
theorem rd_len (xs : List Tx) (L : List Int) : ∀ i, (rdL xs L i).length = L.length
  | 0 => rfl
  | i + 1 => by rw [rdL, rw_len, rd_len]
theorem lbR_len (xs : List Tx) : ∀ r, (lbR xs r).length = xs.length
  | 0 => by simp [lbR, lb0]
  | r + 1 => by rw [lbR, rd_len, lbR_len]
theorem lb_len (xs : List Tx) : (lbL xs).length = xs.length := lbR_len xs _
theorem set_getD {L : List Int} {i : Nat} {v : Int} (h : i < L.length) (j : Nat) : (L.set i v).getD j 0 = if j = i then v else L.getD j 0 := by
  by_cases e : j = i
  · subst e; rw [if_pos rfl]; simp [List.getD, h]
  · rw [if_neg e]; simp only [List.getD]; rw [List.getElem?_set_ne (by omega)]
theorem st_at {xs : List Tx} {L : List Int} {i k : Nat} (hi : i < L.length) (hk : k < L.length) (h : cfB (xs.getD i tx0) (xs.getD k tx0) = true) (j : Nat) :
    (stL xs L i k).getD j 0 = if j = k ∨ j = i then min (L.getD i 0) (L.getD k 0) else L.getD j 0 := by
  unfold stL
  rw [if_pos h, set_getD (by rw [List.length_set]; exact hk), set_getD hi]
  by_cases e1 : j = k
  · rw [if_pos e1, if_pos (.inl e1)]
  · rw [if_neg e1]
    by_cases e2 : j = i
    · rw [if_pos e2, if_pos (.inr e2)]
    · rw [if_neg e2, if_neg (by rintro (h | h) <;> contradiction)]
theorem st_le {xs : List Tx} {L : List Int} {i k : Nat} (hi : i < L.length) (hk : k < L.length) (j : Nat) : (stL xs L i k).getD j 0 ≤ L.getD j 0 := by
  cases h : cfB (xs.getD i tx0) (xs.getD k tx0) with
  | false => unfold stL; rw [if_neg (by rw [h]; decide)]; omega
  | true =>
    rw [st_at hi hk h]
    split
    · rename_i e
      rcases e with rfl | rfl <;> omega
    · omega
theorem rw_le {xs : List Tx} {L : List Int} {i : Nat} (hi : i < L.length) (j : Nat) : ∀ k k', k ≤ k' → k' ≤ L.length → (rwL xs L i k').getD j 0 ≤ (rwL xs L i k).getD j 0 := by
  intro k k' hk
  induction hk with
  | refl => intro _; omega
  | step h ih =>
    rename_i m
    intro hm
    have h1 := ih (by omega)
    have h2 := st_le (xs := xs) (L := rwL xs L i m) (i := i) (k := m) (by rw [rw_len]; exact hi) (by rw [rw_len]; omega) j
    rw [rwL]; omega
theorem rd_le {xs : List Tx} {L : List Int} (j : Nat) : ∀ i i', i ≤ i' → i' ≤ L.length → (rdL xs L i').getD j 0 ≤ (rdL xs L i).getD j 0 := by
  intro i i' hi
  induction hi with
  | refl => intro _; omega
  | step h ih =>
    rename_i m
    intro hm
    have h1 := ih (by omega)
    have h2 := rw_le (xs := xs) (L := rdL xs L m) (i := m) (by rw [rd_len]; omega) j 0 m (by omega) (by rw [rd_len]; omega)
    rw [rdL]; rw [rwL] at h2; omega

/-- Every label is an index of the chain that isn't greater. -/
def LOk (xs : List Tx) (L : List Int) : Prop := L.length = xs.length ∧ ∀ i, i < xs.length → ∃ m : Nat, L.getD i 0 = m ∧ m ≤ i ∧ Cn xs i m
theorem st_ok {xs : List Tx} {L : List Int} {i k : Nat} (h : LOk xs L) (hi : i < xs.length) (hk : k < i) : LOk xs (stL xs L i k) := by
  refine ⟨by rw [st_len, h.1], fun j hj => ?_⟩
  cases hc : cfB (xs.getD i tx0) (xs.getD k tx0) with
  | false => unfold stL; rw [if_neg (by rw [hc]; decide)]; exact h.2 j hj
  | true =>
    rw [st_at (by rw [h.1]; exact hi) (by rw [h.1]; omega) hc]
    have he : Edg xs i k := ⟨hi, by omega, hc⟩
    obtain ⟨mi, ei, li, ci⟩ := h.2 i hi
    obtain ⟨mk, ek, lk, ck⟩ := h.2 k (by omega)
    by_cases e : j = k ∨ j = i
    · rw [if_pos e, ei, ek]
      have hci : Cn xs i mk := (Cn.edge he).trans ck
      have hck : Cn xs k mi := (Cn.edge he.symm).trans ci
      rcases Nat.le_total mi mk with hm | hm
      · refine ⟨mi, by omega, ?_, ?_⟩
        · rcases e with rfl | rfl <;> omega
        · rcases e with rfl | rfl
          · exact hck
          · exact ci
      · refine ⟨mk, by omega, ?_, ?_⟩
        · rcases e with rfl | rfl <;> omega
        · rcases e with rfl | rfl
          · exact ck
          · exact hci
    · rw [if_neg e]; exact h.2 j hj
theorem rw_ok {xs : List Tx} {L : List Int} {i : Nat} (h : LOk xs L) (hi : i < xs.length) : ∀ k, k ≤ i → LOk xs (rwL xs L i k)
  | 0, _ => h
  | k + 1, hk => st_ok (rw_ok h hi k (by omega)) hi (by omega)
theorem rd_ok {xs : List Tx} {L : List Int} (h : LOk xs L) : ∀ i, i ≤ xs.length → LOk xs (rdL xs L i)
  | 0, _ => h
  | i + 1, hi => rw_ok (rd_ok h i (by omega)) (by omega) i (Nat.le_refl _)
theorem lb0_ok (xs : List Tx) : LOk xs (lb0 xs.length) := ⟨by simp [lb0], fun i hi => ⟨i, by simp [lb0, List.getD, hi], Nat.le_refl _, .refl i⟩⟩
theorem lbR_ok (xs : List Tx) : ∀ r, LOk xs (lbR xs r)
  | 0 => lb0_ok xs
  | r + 1 => rd_ok (lbR_ok xs r) _ (Nat.le_refl _)
/-- A round brings a label to all neighbours. -/
theorem rd_next {xs : List Tx} {L : List Int} (hl : L.length = xs.length) {i k : Nat} (hk : k < i) (h : Edg xs i k) : (rdL xs L xs.length).getD i 0 ≤ L.getD k 0 ∧ (rdL xs L xs.length).getD k 0 ≤ L.getD i 0 := by
  obtain ⟨hi, _, hc⟩ := h
  have a1 := fun j => rd_le (xs := xs) (L := L) j (i + 1) xs.length (by omega) (by omega)
  have a2 := fun j => rw_le (xs := xs) (L := rdL xs L i) (i := i) (by rw [rd_len]; omega) j (k + 1) i (by omega) (by rw [rd_len]; omega)
  have a3 := fun j => rw_le (xs := xs) (L := rdL xs L i) (i := i) (by rw [rd_len]; omega) j 0 k (by omega) (by rw [rd_len]; omega)
  have a4 := fun j => rd_le (xs := xs) (L := L) j 0 i (by omega) (by omega)
  have s := st_at (xs := xs) (L := rwL xs (rdL xs L i) i k) (i := i) (k := k) (by rw [rw_len, rd_len]; omega) (by rw [rw_len, rd_len]; omega) hc
  have si := s i
  have sk := s k
  rw [if_pos (.inr rfl)] at si
  rw [if_pos (.inl rfl)] at sk
  have b1 := a1 i; have b2 := a2 i; have b3 := a3 i; have b4 := a4 i
  have d1 := a1 k; have d2 := a2 k; have d3 := a3 k; have d4 := a4 k
  simp only [rdL, rwL] at *
  omega
/-- The label is the least index of the chain. -/
def Gd (xs : List Tx) (L : List Int) (i : Nat) : Prop := ∀ j : Nat, Cn xs i j → L.getD i 0 ≤ j
theorem gd_mono {xs : List Tx} {L L' : List Int} {i : Nat} (h : Gd xs L i) (hl : L'.getD i 0 ≤ L.getD i 0) : Gd xs L' i := fun j hj => by have := h j hj; omega
theorem gd_next {xs : List Tx} {L : List Int} (hl : L.length = xs.length) {u v : Nat} (h : Edg xs u v) (hg : Gd xs L u) : Gd xs (rdL xs L xs.length) v := by
  have hm := fun j => rd_le (xs := xs) (L := L) j 0 xs.length (by omega) (by omega)
  intro j hj
  have hu := hg j ((Cn.edge h).trans hj)
  rcases Nat.lt_trichotomy u v with e | e | e
  · have := (rd_next hl e h.symm).1; omega
  · subst e; have := hm u; simp only [rdL] at this; omega
  · have := (rd_next hl e h).2; omega
theorem gd_all {xs : List Tx} {L : List Int} (h : LOk xs L) (hs : ∀ u v, Edg xs u v → Gd xs L u → Gd xs L v) : ∀ i, i < xs.length → Gd xs L i := by
  intro i hi
  obtain ⟨m, hm, hmin⟩ := least (P := fun j => Cn xs i j) i (.refl i)
  have hmi : m ≤ i := hmin i (.refl i)
  have hgm : Gd xs L m := fun j hj => by
    obtain ⟨q, e, hq, _⟩ := h.2 m (by omega)
    have := hmin j (hm.trans hj)
    omega
  have hc := hm.symm
  clear hmin hm hmi
  induction hc with
  | refl => exact hgm
  | step _ e ih => exact hs _ _ e (ih e.1)
section
open Classical
/-- How many labels are the least ones. -/
noncomputable def gdN (xs : List Tx) (L : List Int) : Nat := ((List.range xs.length).filter fun i => decide (Gd xs L i)).length
theorem filter_more {α : Type} {p q : α → Bool} : ∀ (l : List α), (∀ x ∈ l, p x = true → q x = true) → (l.filter p).length ≤ (l.filter q).length ∧ ((∃ x ∈ l, q x = true ∧ p x = false) → (l.filter p).length < (l.filter q).length)
  | [], _ => ⟨by simp, fun ⟨_, h, _⟩ => by cases h⟩
  | y :: l, h => by
    obtain ⟨h1, h2⟩ := filter_more (p := p) (q := q) l fun x hx => h x (List.mem_cons_of_mem _ hx)
    have hy := h y (by simp)
    cases hp : p y with
    | true =>
      rw [List.filter_cons_of_pos hp, List.filter_cons_of_pos (hy hp)]
      refine ⟨by simpa using h1, fun ⟨x, hx, e1, e2⟩ => ?_⟩
      rcases List.mem_cons.1 hx with rfl | hx
      · rw [hp] at e2; cases e2
      · have := h2 ⟨x, hx, e1, e2⟩; simpa using this
    | false =>
      rw [List.filter_cons_of_neg (by simp [hp])]
      cases hq : q y with
      | true => rw [List.filter_cons_of_pos hq]; exact ⟨by simp; omega, fun _ => by simp; omega⟩
      | false =>
        rw [List.filter_cons_of_neg (by simp [hq])]
        refine ⟨h1, fun ⟨x, hx, e1, e2⟩ => ?_⟩
        rcases List.mem_cons.1 hx with rfl | hx
        · rw [hq] at e1; cases e1
        · exact h2 ⟨x, hx, e1, e2⟩
theorem gd_rounds (xs : List Tx) : ∀ r, (∀ i, i < xs.length → Gd xs (lbR xs r) i) ∨ r ≤ gdN xs (lbR xs r)
  | 0 => .inr (Nat.zero_le _)
  | r + 1 => by
    have hl := lbR_len xs r
    have hmono : ∀ i, Gd xs (lbR xs r) i → Gd xs (lbR xs (r + 1)) i := fun i h => gd_mono h (by
      have := rd_le (xs := xs) (L := lbR xs r) i 0 xs.length (by omega) (by omega)
      rw [lbR]; simp only [rdL] at this; omega)
    rcases gd_rounds xs r with h | h
    · exact .inl fun i hi => hmono i (h i hi)
    · by_cases hall : ∀ u v, Edg xs u v → Gd xs (lbR xs r) u → Gd xs (lbR xs r) v
      · exact .inl fun i hi => hmono i (gd_all (lbR_ok xs r) hall i hi)
      · refine .inr ?_
        have hex : ∃ v, v < xs.length ∧ Gd xs (lbR xs (r + 1)) v ∧ ¬ Gd xs (lbR xs r) v := by
          apply Classical.byContradiction
          intro hno
          refine hall fun u v e hu => Classical.byContradiction fun hv => hno ⟨v, e.2.1, gd_next hl e hu, hv⟩
        obtain ⟨v, hv, h1, h2⟩ := hex
        have := (filter_more (p := fun i => decide (Gd xs (lbR xs r) i)) (q := fun i => decide (Gd xs (lbR xs (r + 1)) i)) (List.range xs.length) fun i _ hp => decide_eq_true (hmono i (of_decide_eq_true hp))).2 ⟨v, List.mem_range.2 hv, decide_eq_true h1, decide_eq_false h2⟩
        unfold gdN at h ⊢
        omega
theorem lb_good (xs : List Tx) : ∀ i, i < xs.length → Gd xs (lbL xs) i := by
  rcases gd_rounds xs xs.length with h | h
  · exact h
  · intro i hi
    unfold gdN at h
    have hle := List.length_filter_le (fun i => decide (Gd xs (lbR xs xs.length) i)) (List.range xs.length)
    rw [List.length_range] at hle
    have heq : ((List.range xs.length).filter fun i => decide (Gd xs (lbR xs xs.length) i)).length = (List.range xs.length).length := by rw [List.length_range]; omega
    have := List.length_filter_eq_length_iff.1 heq i (List.mem_range.2 hi)
    exact of_decide_eq_true this
end
/-- The label of a transaction: the least index of its chain. -/
theorem lb_at {xs : List Tx} {i : Nat} (hi : i < xs.length) : ∃ m : Nat, (lbL xs).getD i 0 = m ∧ m ≤ i ∧ Cn xs i m := (lbR_ok xs _).2 i hi
theorem lb_cn {xs : List Tx} {i k : Nat} (hi : i < xs.length) (hk : k < xs.length) (h : Cn xs i k) : (lbL xs).getD i 0 = (lbL xs).getD k 0 := by
  obtain ⟨mi, ei, _, ci⟩ := lb_at hi
  obtain ⟨mk, ek, _, ck⟩ := lb_at hk
  have h1 := lb_good xs i hi mk (h.trans ck)
  have h2 := lb_good xs k hk mi (h.symm.trans ci)
  omega
theorem lb_edge {xs : List Tx} {i k : Nat} (h : Edg xs i k) : (lbL xs).getD i 0 = (lbL xs).getD k 0 := lb_cn h.1 h.2.1 (.edge h)
/-- Labels that are equal along conflicts, and indexes of the chain that aren't greater, are these. -/
theorem lb_uni {xs : List Tx} {L : List Int} (h : LOk xs L) (he : ∀ i k, Edg xs i k → L.getD i 0 = L.getD k 0) : L = lbL xs := by
  have hcn : ∀ i k, i < xs.length → Cn xs i k → k < xs.length ∧ L.getD i 0 = L.getD k 0 := by
    intro i k hi hc
    induction hc with
    | refl => exact ⟨hi, rfl⟩
    | step _ e ih => exact ⟨e.2.1, (ih.2).trans (he _ _ e)⟩
  refine List.ext_getElem (by rw [h.1, lb_len]) fun i h1 h2 => ?_
  have hi : i < xs.length := by rw [h.1] at h1; exact h1
  obtain ⟨m, em, lm, cm⟩ := h.2 i hi
  obtain ⟨q, eq, lq, cq⟩ := lb_at hi
  have g1 := lb_good xs i hi m cm
  obtain ⟨hq, e2⟩ := hcn i q hi cq
  obtain ⟨r, er, lr, _⟩ := h.2 q hq
  have x1 : L.getD i 0 = L[i] := by simp [List.getD, h1]
  have x2 : (lbL xs).getD i 0 = (lbL xs)[i] := by simp [List.getD, h2]
  omega

end Go.Proofs.Ytnjjbplocokdeab

/- The lanes as lists of indexes, and what the laws of lanes ask of them; plain facts on lists, nothing here is walked. -/
namespace Go.Proofs.Ytnjjbplocokdeab
open Go.RowKit

/-- The transactions with a label. -/
def laneN (xs : List Tx) (m : Nat) : List Nat := (List.range xs.length).filter fun i => decide ((lbL xs).getD i 0 = (m : Int))
def labsTo (xs : List Tx) (n : Nat) : List Nat := (List.range n).filter fun m => decide (0 < (laneN xs m).length)
def lanesTo (xs : List Tx) (n : Nat) : List (List Nat) := (labsTo xs n).map (laneN xs)
def lanesN (xs : List Tx) : List (List Nat) := lanesTo xs xs.length
def vldB (xs : List Tx) : Bool := xs.all txB && decide (xs.length ≤ 16)
/-- The answer of LanesOf. -/
def lnsN (xs : List Tx) : List (List Nat) := if vldB xs = true then lanesN xs else []
theorem mem_lane {xs : List Tx} {m i : Nat} : i ∈ laneN xs m ↔ i < xs.length ∧ (lbL xs).getD i 0 = (m : Int) := by
  unfold laneN; rw [List.mem_filter, List.mem_range, decide_eq_true_eq]
theorem lane_asc (xs : List Tx) (m : Nat) : (laneN xs m).Pairwise (· < ·) := List.pairwise_lt_range.filter _
theorem lane_len (xs : List Tx) (m : Nat) : (laneN xs m).length ≤ xs.length := by
  have := List.length_filter_le (fun i => decide ((lbL xs).getD i 0 = (m : Int))) (List.range xs.length); rw [List.length_range] at this; exact this
theorem labs_asc (xs : List Tx) (n : Nat) : (labsTo xs n).Pairwise (· < ·) := List.pairwise_lt_range.filter _
theorem labs_len (xs : List Tx) (n : Nat) : (labsTo xs n).length ≤ n := by
  have := List.length_filter_le (fun m => decide (0 < (laneN xs m).length)) (List.range n); rw [List.length_range] at this; exact this
theorem mem_labs {xs : List Tx} {n m : Nat} : m ∈ labsTo xs n ↔ m < n ∧ 0 < (laneN xs m).length := by
  unfold labsTo; rw [List.mem_filter, List.mem_range, decide_eq_true_eq]
theorem lanes_yes {xs : List Tx} {n : Nat} (h : 0 < (laneN xs n).length) : lanesTo xs (n + 1) = lanesTo xs n ++ [laneN xs n] := by
  unfold lanesTo labsTo; rw [List.range_succ, List.filter_append, List.map_append, List.filter_cons_of_pos (by exact decide_eq_true h)]; rfl
theorem lanes_no {xs : List Tx} {n : Nat} (h : (laneN xs n).length = 0) : lanesTo xs (n + 1) = lanesTo xs n := by
  unfold lanesTo labsTo; rw [List.range_succ, List.filter_append, List.map_append, List.filter_cons_of_neg (by rw [h]; decide)]; simp
theorem lanes_cnt (xs : List Tx) : (lanesN xs).length ≤ xs.length := by unfold lanesN lanesTo; rw [List.length_map]; exact labs_len _ _
/-- The least of a lane is its label. -/
theorem lane_root {xs : List Tx} {m i : Nat} (h : i ∈ laneN xs m) : m ≤ i ∧ m < xs.length ∧ m ∈ laneN xs m := by
  obtain ⟨hi, e⟩ := mem_lane.1 h
  obtain ⟨q, e2, hq, hc⟩ := lb_at hi
  have : q = m := by omega
  subst this
  refine ⟨hq, by omega, mem_lane.2 ⟨by omega, ?_⟩⟩
  rw [← lb_cn hi (by omega) hc, e2]
theorem lane_head {xs : List Tx} {m : Nat} (h : 0 < (laneN xs m).length) : (laneN xs m)[0] = m := by
  obtain ⟨h1, h2, h3⟩ := lane_root (List.getElem_mem h)
  obtain ⟨k, hk, e⟩ := List.mem_iff_getElem.1 h3
  rcases Nat.eq_zero_or_pos k with h0 | h0
  · subst h0; exact e
  · have := List.pairwise_iff_getElem.1 (lane_asc xs m) 0 k h hk h0; omega
theorem lab_of {xs : List Tx} {i : Nat} (hi : i < xs.length) : ∃ m, m ∈ labsTo xs xs.length ∧ i ∈ laneN xs m ∧ (lbL xs).getD i 0 = (m : Int) := by
  obtain ⟨m, e, hm, hc⟩ := lb_at hi
  have hin : i ∈ laneN xs m := mem_lane.2 ⟨hi, e⟩
  exact ⟨m, mem_labs.2 ⟨by omega, List.length_pos_of_mem hin⟩, hin, e⟩
theorem lanes_at {xs : List Tx} {k : Nat} (hk : k < (lanesN xs).length) : ∃ m, m ∈ labsTo xs xs.length ∧ (labsTo xs xs.length)[k]'(by unfold lanesN lanesTo at hk; simpa using hk) = m ∧ (lanesN xs)[k] = laneN xs m ∧ 0 < (laneN xs m).length ∧ (laneN xs m).getD 0 0 = m := by
  have hk' : k < (labsTo xs xs.length).length := by unfold lanesN lanesTo at hk; simpa using hk
  have hm := List.getElem_mem hk'
  have hp := (mem_labs.1 hm).2
  refine ⟨_, hm, rfl, List.getElem_map _, hp, ?_⟩
  have := lane_head hp
  simp only [List.getD, List.getElem?_eq_getElem hp, this, Option.getD_some]
/-- Each index is in one lane. -/
theorem lanes_perm (xs : List Tx) : (lanesN xs).flatten.Perm (List.range xs.length) := by
  rw [List.perm_iff_count]
  intro a
  rw [List.count_flatten, List.Nodup.count List.nodup_range]
  unfold lanesN lanesTo
  rw [List.map_map]
  have hnd : (labsTo xs xs.length).Nodup := (labs_asc xs _).imp fun h => Nat.ne_of_lt h
  by_cases ha : a < xs.length
  · obtain ⟨m, hm, hin, e⟩ := lab_of ha
    have hcnt : ∀ q, List.count a (laneN xs q) = if q = m then 1 else 0 := fun q => by
      rw [List.Nodup.count ((lane_asc xs q).imp fun h => Nat.ne_of_lt h)]
      by_cases hq : q = m
      · subst hq; rw [if_pos hin, if_pos rfl]
      · rw [if_neg hq, if_neg (fun h => hq (by have := (mem_lane.1 h).2; omega))]
    have key : ∀ l : List Nat, (l.map (List.count a ∘ laneN xs)).sum = List.count m l := by
      intro l
      induction l with
      | nil => rfl
      | cons q l ih => rw [List.map_cons, List.sum_cons, ih, Function.comp, hcnt, List.count_cons]; simp only [beq_iff_eq]; omega
    rw [key, List.Nodup.count hnd, if_pos hm, if_pos (List.mem_range.2 ha)]
  · have hcnt : ∀ q, List.count a (laneN xs q) = 0 := fun q => List.count_eq_zero.2 fun h => ha (mem_lane.1 h).1
    have key : ∀ l : List Nat, (l.map (List.count a ∘ laneN xs)).sum = 0 := by
      intro l
      induction l with
      | nil => rfl
      | cons q l ih => rw [List.map_cons, List.sum_cons, ih, Function.comp, hcnt]
    rw [key, if_neg (fun h => ha (List.mem_range.1 h))]
/-- P113: the lanes' lengths together. -/
theorem lanes_sum (xs : List Tx) : ((lanesN xs).map List.length).sum = xs.length := by
  have := (lanes_perm xs).length_eq
  rwa [List.length_flatten, List.length_range] at this
/-- P114: two lanes have no conflict. -/
theorem lanes_apart {xs : List Tx} {m m' i k : Nat} (hm : m ≠ m') (hi : i ∈ laneN xs m) (hk : k ∈ laneN xs m') : cfB (xs.getD i tx0) (xs.getD k tx0) = false := by
  obtain ⟨h1, e1⟩ := mem_lane.1 hi
  obtain ⟨h2, e2⟩ := mem_lane.1 hk
  cases h : cfB (xs.getD i tx0) (xs.getD k tx0) with
  | false => rfl
  | true => have := lb_edge (xs := xs) ⟨h1, h2, h⟩; omega
theorem cn_last {xs : List Tx} {i k : Nat} (h : Cn xs i k) (hne : i ≠ k) : ∃ j, j ≠ k ∧ Edg xs j k ∧ Cn xs i j := by
  induction h with
  | refl => exact absurd rfl hne
  | step c e ih =>
    rename_i j k'
    by_cases hj : j = k'
    · subst hj; exact ih hne
    · exact ⟨j, hj, e, c⟩
/-- P115: a transaction of a lane that isn't the first conflicts with another one. -/
theorem lanes_conn {xs : List Tx} {m i : Nat} (hi : i ∈ laneN xs m) (hne : i ≠ m) : ∃ k, k ∈ laneN xs m ∧ k ≠ i ∧ cfB (xs.getD i tx0) (xs.getD k tx0) = true := by
  obtain ⟨h1, e1⟩ := mem_lane.1 hi
  obtain ⟨q, e2, hq, hc⟩ := lb_at h1
  have : q = m := by omega
  subst this
  obtain ⟨j, hj, he, hcj⟩ := cn_last hc.symm (fun e => hne e.symm)
  refine ⟨j, mem_lane.2 ⟨he.1, ?_⟩, hj, ?_⟩
  · rw [← lb_cn (k := j) (by omega) he.1 hcj, ← e2, lb_cn h1 (by omega) hc]
  · exact he.symm.2.2
/-- P118: the depth. -/
def maxL (ls : List (List Nat)) : Nat := ls.foldl (fun n l => max n l.length) 0
def dpZ (xs : List Tx) : Int := if vldB xs = true then (maxL (lanesN xs) : Int) else -1

end Go.Proofs.Ytnjjbplocokdeab

/- Parts of a list that reads as data: its head and its tail; general steps, nothing here speaks of the program. -/
namespace Go.Proofs.Ytnjjbplocokdeab
open Go.RowKit

theorem Rd.cut {w : World} {es : List (List Dt)} {g off n cap sz : Nat} {fp : List Nat} (h : Rd w (.l es) (.slice (some ⟨g, off, none⟩) n cap) fp) (hsz : ∀ e ∈ es, e.length = sz) (k m o2 cap2 : Nat) (hk : k + m ≤ es.length) (ho : 0 < m → o2 = off + k * sz) (hcap2 : k + m ≤ cap → m ≤ cap2) :
    ∃ fp', Rd w (.l ((es.drop k).take m)) (.slice (some ⟨g, o2, none⟩) m cap2) fp' ∧ ∀ r ∈ fp', r ∈ fp := by
  rcases Nat.eq_zero_or_pos m with h0 | h0
  · subst h0
    exact ⟨[], by rw [List.take_zero]; exact .nil _ _ (fun e => by cases e), by simp⟩
  · generalize hd : Dt.l es = d at h
    generalize hv : Value.slice (some ⟨g, off, none⟩) n cap = v at h
    cases h with
    | i n => cases hd
    | b x => cases hd
    | s t => cases hd
    | nil a cap hn => cases hd; simp at hk; omega
    | l sz' es' g' off' cap' V F hne' hsz' hcap hgl hc hrd =>
      cases hd
      simp only [Value.slice.injEq, Option.some.injEq, Addr.mk.injEq, and_true] at hv
      obtain ⟨⟨rfl, rfl⟩, rfl, rfl⟩ := hv
      have hss : sz' = sz := by
        have h0 := List.getElem_mem hne'
        rw [← hsz' _ h0, hsz _ h0]
      subst hss
      have hl : ((es.drop k).take m).length = m := by rw [List.length_take, List.length_drop]; omega
      have hget : ∀ i (hi : i < ((es.drop k).take m).length) (hi' : k + i < es.length), ((es.drop k).take m)[i] = es[k + i] := by
        intro i hi hi'
        rw [List.getElem_take, List.getElem_drop]
      have := Rd.l (w := w) sz' ((es.drop k).take m) g o2 cap2 (fun i j => V (k + i) j) (fun i j => F (k + i) j) (by omega) (fun e he => hsz' e (List.mem_of_mem_drop (List.mem_of_mem_take he))) (by rw [hl]; exact hcap2 (by omega)) hgl
        (fun i j hi hj => by
          rw [ho h0, show off + k * sz' + (i * sz' + j) = off + ((k + i) * sz' + j) by rw [Nat.add_mul]; omega]
          exact hc (k + i) j (by omega) hj)
        (fun i j hi hj => by
          have hi' : k + i < es.length := by omega
          have e := hget i hi hi'
          simp only [e] at hj ⊢
          exact hrd (k + i) j hi' hj)
      rw [hl] at this
      refine ⟨_, this, fun r hr => ?_⟩
      rcases List.mem_cons.1 hr with rfl | hr
      · simp
      · obtain ⟨i, hi, hr⟩ := List.mem_flatMap.1 hr
        obtain ⟨j, hj, hr⟩ := List.mem_flatMap.1 hr
        rw [List.mem_range] at hi hj
        exact List.mem_cons_of_mem _ (List.mem_flatMap.2 ⟨k + i, List.mem_range.2 (by omega), List.mem_flatMap.2 ⟨j, List.mem_range.2 hj, hr⟩⟩)
theorem Rd.lens {w : World} {es : List (List Dt)} {a : Option Addr} {n cap : Nat} {fp : List Nat} (h : Rd w (.l es) (.slice a n cap) fp) : n = es.length := by
  obtain ⟨a', c', e⟩ := Rd.slice h
  cases e; rfl
/-- The tail of a list, and where it lies. -/
theorem Rd.tail {w : World} {es : List (List Dt)} {g off n cap sz : Nat} {fp : List Nat} (h : Rd w (.l es) (.slice (some ⟨g, off, none⟩) n cap) fp) (hsz : ∀ e ∈ es, e.length = sz) (k : Nat) (hk : k ≤ es.length) :
    ∃ o2, (if cap = k then some (⟨g, off, none⟩ : Addr) else some ⟨g, off + k * sz, none⟩) = some ⟨g, o2, none⟩ ∧ ∃ fp', Rd w (.l (es.drop k)) (.slice (some ⟨g, o2, none⟩) (es.length - k) (cap - k)) fp' ∧ ∀ r ∈ fp', r ∈ fp := by
  have key : ∀ o2, (k < es.length → o2 = off + k * sz) → ∃ fp', Rd w (.l (es.drop k)) (.slice (some ⟨g, o2, none⟩) (es.length - k) (cap - k)) fp' ∧ ∀ r ∈ fp', r ∈ fp := by
    intro o2 ho
    have := h.cut hsz k (es.length - k) o2 (cap - k) (by omega) (fun hm => ho (by omega)) (fun hc => by omega)
    rwa [List.take_of_length_le (by rw [List.length_drop]; omega)] at this
  by_cases hc : cap = k
  · refine ⟨off, by rw [if_pos hc], key off fun hlt => ?_⟩
    obtain ⟨_, _, _, _, _, _, hcap, _⟩ := Rd.at h (by omega) hsz
    have := h.lens
    omega
  · exact ⟨off + k * sz, by rw [if_neg hc], key _ fun _ => rfl⟩

end Go.Proofs.Ytnjjbplocokdeab

/- Lists of rows of numbers in memory of their own, cell by cell; an append to them at an operation; general steps, nothing here speaks of the program. -/
namespace Go.Proofs.Ytnjjbplocokdeab
open Go.RowKit

def rwN (e : List Int) : List Value := e.map (Value.int .i64)
def flN (es : List (List Int)) : List Value := es.flatMap rwN
theorem flN_app (es es2 : List (List Int)) : flN (es ++ es2) = flN es ++ flN es2 := by unfold flN; rw [List.flatMap_append]
theorem flN_len {sz : Nat} : ∀ {es : List (List Int)}, (∀ e ∈ es, e.length = sz) → (flN es).length = es.length * sz
  | [], _ => by simp [flN]
  | x :: es, h => by
    have ih := flN_len (es := es) fun e he => h e (List.mem_cons_of_mem _ he)
    have hx := h x (by simp)
    unfold flN at *
    rw [List.flatMap_cons, List.length_append, ih, List.length_cons, Nat.add_mul]
    simp [rwN, hx]; omega
theorem flN_at {sz : Nat} : ∀ {es : List (List Int)}, (∀ e ∈ es, e.length = sz) → ∀ (k j : Nat) (hk : k < es.length), j < sz → (flN es)[k * sz + j]? = (rwN es[k])[j]?
  | x :: es, h, 0, j, _, hj => by
    have hx := h x (by simp)
    unfold flN
    rw [List.flatMap_cons, List.getElem?_append_left (by simp [rwN, hx]; omega)]
    simp
  | x :: es, h, k + 1, j, hk, hj => by
    have hx := h x (by simp)
    have hk' : k < es.length := by simpa using hk
    have ih := flN_at (es := es) (fun e he => h e (List.mem_cons_of_mem _ he)) k j hk' hj
    unfold flN at *
    have hlx : (rwN x).length = sz := by simp [rwN, hx]
    rw [List.flatMap_cons, List.getElem?_append_right (by rw [hlx, Nat.add_mul]; omega)]
    rw [show (k + 1) * sz + j - (rwN x).length = k * sz + j by rw [hlx, Nat.add_mul]; omega, ih]
    simp
theorem flN_int {es : List (List Int)} {c : Value} (h : c ∈ flN es) : ∃ x, c = .int .i64 x := by
  unfold flN at h
  obtain ⟨e, _, hc⟩ := List.mem_flatMap.1 h
  unfold rwN at hc
  obtain ⟨x, _, rfl⟩ := List.mem_map.1 hc
  exact ⟨x, rfl⟩
/-- v owns rows of sz numbers, in a block from B on. -/
structure OwnN (E : TypeId) (sz : Nat) (w : World) (B : Nat) (v : Value) (es : List (List Int)) : Prop where
  szs : ∀ e ∈ es, e.length = sz
  row : w.ownsRow B E sz v es.length (flN es)
section
variable {E : TypeId} {sz : Nat} {w w' : World} {B : Nat} {v : Value} {es : List (List Int)}
theorem OwnN.lt (h : OwnN E sz w B v es) : ∀ g, v.ownBlock = some g → B ≤ g ∧ g < w.heap.size := World.ownsRow.lt h.row
theorem OwnN.slice (h : OwnN E sz w B v es) : ∃ a c, v = .slice a es.length c ∧ es.length ≤ c := by
  rcases h.row.2 with ⟨rfl, h0⟩ | ⟨g, cap, cur, rfl, _, _, hn, _⟩
  · exact ⟨none, 0, by rw [h0], by omega⟩
  · exact ⟨_, _, rfl, hn⟩
theorem OwnN.same (h : OwnN E sz w B v es) (hb : ∀ g, v.ownBlock = some g → w'.heap[g]? = w.heap[g]?) : OwnN E sz w' B v es := ⟨h.szs, row_same h.row hb⟩
theorem OwnN.below (h : OwnN E sz w B v es) (hb : Below w.heap.size w w') : OwnN E sz w' B v es := h.same fun g e => hb.block g (h.lt g e).2
theorem OwnN.kept {row : Option Nat} (h : OwnN E sz w B v es) (hg : w.grownBy w' row) (hne : ∀ g, v.ownBlock = some g → row ≠ some g) : OwnN E sz w' B v es :=
  h.same fun g e => hg.block g (h.lt g e).2 (fun e' => hne g e e'.symm)
theorem OwnN.mono {B' : Nat} (h : OwnN E sz w B v es) (hB : B' ≤ B) : OwnN E sz w B' v es := by
  refine ⟨h.szs, h.row.1, ?_⟩
  rcases h.row.2 with h0 | ⟨g, cap, cur, e, hb, rest⟩
  · exact .inl h0
  · exact .inr ⟨g, cap, cur, e, by omega, rest⟩
theorem OwnN.empty (E : TypeId) (sz : Nat) (w : World) : OwnN E sz (w.alloc (.cells #[] E)) w.heap.size (.slice (some ⟨w.heap.size, 0, none⟩) 0 0) [] :=
  ⟨by simp, by simp [flN], .inr ⟨w.heap.size, 0, #[], rfl, Nat.le_refl _, Str.new w E #[], Nat.le_refl _, Nat.zero_le _, by simp, by simp [flN]⟩⟩
theorem OwnN.ownR {Ei : TypeId} {hi : Nat} (h : OwnN E sz w B v es) (hh : w.heap.size ≤ hi) : OwnR E Ei sz w B hi v (es.map fun e => e.map Fd.i) := by
  have hn : ∀ (p : Nat) c, (flN es)[p]? = some c → c.ownBlock = none := fun p c hc => by obtain ⟨x, rfl⟩ := flN_int (List.mem_of_getElem? hc); rfl
  refine ⟨fun e he => by obtain ⟨x, hx, rfl⟩ := List.mem_map.1 he; rw [List.length_map]; exact h.szs x hx, flN es, by rw [List.length_map]; exact h.row, fun k j hk hj => ?_, ?_, ?_, ?_, fun g e => Nat.lt_of_lt_of_le (h.lt g e).2 hh⟩
  · have hk' : k < es.length := by simpa using hk
    have he : (es.map fun e => e.map Fd.i)[k] = es[k].map Fd.i := by simp
    have hl : es[k].length = sz := h.szs _ (List.getElem_mem hk')
    have hj' : j < es[k].length := by rw [he, List.length_map] at hj; exact hj
    rw [flN_at h.szs k j hk' (by omega)]
    refine ⟨.int .i64 es[k][j], by simp [rwN, hj'], ?_⟩
    simp only [he, List.getElem_map]
    rfl
  · intro p q c d hc _ _ g e; rw [hn p c hc] at e; cases e
  · intro p c hc g e; rw [hn p c hc] at e; cases e
  · intro p c g hc e; rw [hn p c hc] at e; cases e
theorem OwnN.cell {g n cap : Nat} (h : OwnN E sz w B (.slice (some ⟨g, 0, none⟩) n cap) es) {k j : Nat} (hk : k < es.length) (hj : j < sz) : w.cell? ⟨g, k * sz + j, none⟩ = (rwN es[k])[j]? ∧ w.frozen? ⟨g, k * sz + j, none⟩ = false := by
  have hl : es[k].length = sz := h.szs _ (List.getElem_mem hk)
  have hc := flN_at h.szs k j hk hj
  have he : (rwN es[k])[j]? = some (.int .i64 (es[k][j]'(by omega))) := by simp [rwN, show j < es[k].length by omega]
  have h0 := World.ownsRow.cells h.row (g := g) rfl _ _ (hc.trans he)
  rw [addr_add] at h0
  refine ⟨h0.trans he.symm, ?_⟩
  rcases h.row.2 with ⟨h', _⟩ | ⟨g', cap', cur, h', _, hg, _⟩
  · simp at h'
  · simp only [Value.slice.injEq, Option.some.injEq, Addr.mk.injEq, and_true] at h'
    obtain ⟨rfl, _⟩ := h'
    exact frozen_of_row w g _ cur E hg
end
/-- The rows' cells from this place on. -/
def SrcN (w : World) (ad : Addr) (es : List (List Int)) : Prop := ∀ (j : Nat) u, (flN es)[j]? = some u → w.cell? (ad.add j) = some u
theorem SrcN.below {w w' : World} {ad : Addr} {es : List (List Int)} (h : SrcN w ad es) (hb : Below w.heap.size w w') : SrcN w' ad es := fun j u hj => (hb.cell (World.block_lt_of_cell? _ _ (h j u hj))).trans (h j u hj)
theorem SrcN.new (w : World) (E : TypeId) (e : List Int) : SrcN (w.alloc (.cells (rwN e).toArray E)) ⟨w.heap.size, 0, none⟩ [e] := by
  intro j u hu
  rw [addr_add, World.cell?_alloc_at _ _ _ _ rfl]
  simpa [flN] using hu
theorem OwnN.src {E : TypeId} {sz : Nat} {w : World} {B g n cap : Nat} {es : List (List Int)} (h : OwnN E sz w B (.slice (some ⟨g, 0, none⟩) n cap) es) : SrcN w ⟨g, 0, none⟩ es := fun j u hj => World.ownsRow.cells h.row (g := g) rfl j u hj

/-- 'append(s, t...)' at an operation: s is the call's own, the rows of t lie at ad. -/
theorem op_app_N {P : Program} {T E : TypeId} {sz bytes : Nat} {z0 : Value} (hsl : P.underlying T = some (.slice E)) (hinf : (P.info? E).map (fun i => (i.zero, i.size, i.bytes)) = some (some z0, sz, bytes)) (hz0 : z0.cells.size = sz) (hpos : 0 < sz) (hby : bytes ≤ 1000)
    {w : World} {o : Oper} {a : Act} {K : Act → World → Prop} {Q : Exit → Act → World → Prop} (s x : Operand) (ho : o.op = .call { callee := .builtin .append, args := #[s, x], argTypes := #[T, T] }) (B : Nat) (v : Value) (es es2 : List (List Int)) (ad : Option Addr) (c : Nat)
    (hs : a.eval s = v) (hb : OwnN E sz w B v es) (hx : a.eval x = .slice ad es2.length c) (hs2 : ∀ e ∈ es2, e.length = sz) (hsrc : (ad = none ∧ es2 = [] ∧ c = 0) ∨ ∃ q, ad = some q ∧ SrcN w q es2) (hlen : es.length + es2.length ≤ 1048577) (hB : B ≤ w.heap.size)
    (h : ∀ v' w', OwnN E sz w' B v' (es ++ es2) → w.grownBy w' v.ownBlock → (∀ g, v'.ownBlock = some g → v.ownBlock = some g ∨ w.heap.size ≤ g) → K (a.put o.dst v') w') : Oper.wp P o a w K Q := by
  obtain ⟨i, hi, hz, hsz, hbb⟩ := info_parts hinf
  have hall : ∀ e ∈ es ++ es2, e.length = sz := fun e he => by
    rcases List.mem_append.1 he with h1 | h1
    · exact hb.szs e h1
    · exact hs2 e h1
  have run : ∃ v' w', (Builtin.append_ #[T, T] o.type #[v, .slice ad es2.length c]).run P w = .ok v' w' ∧ OwnN E sz w' B v' (es ++ es2) ∧ w.grownBy w' v.ownBlock ∧ (v'.ownBlock = v.ownBlock ∨ v'.ownBlock = some w.heap.size) := by
    rcases hsrc with ⟨rfl, rfl, rfl⟩ | ⟨q, rfl, hq⟩
    · exact ⟨v, w, run_append_owned_none (P := P) (w := w) B T o.type E i sz hsl hi v es.length _ hb.row, by simpa using hb, World.grownBy.refl _ _, .inl rfl⟩
    · obtain ⟨v', w', h1, h2, h3, _, h4⟩ := run_append_own_at (P := P) w B T o.type E i z0 sz bytes hsl hi hz hsz hbb hz0 hpos v es.length _ hb.row q es2.length c (flN es2) (flN_len hs2) hq (fun u hu => by obtain ⟨x, rfl⟩ := flN_int hu; rfl) (by unfold maxLen; omega) (by
        have := Nat.mul_le_mul (show es.length + es2.length ≤ 1048577 from hlen) hby; omega) hB
      exact ⟨v', w', h1, ⟨hall, by rw [List.length_append, flN_app]; exact h2⟩, h3, h4⟩
  obtain ⟨v', w', hrun, h1, hg, h4⟩ := run
  unfold Oper.wp execOp
  simp only [ho, resolve, invoke, builtin, Sem.run_bind, Sem.run_pure, Result.andThen_ok, List.map_toArray, List.map_cons, List.map_nil, hs, hx, hrun]
  exact h v' w' h1 hg fun g e => by
    rcases h4 with h4 | h4
    · exact .inl (by rw [← h4]; exact e)
    · rw [h4] at e; cases e; exact .inr (Nat.le_refl _)

end Go.Proofs.Ytnjjbplocokdeab

/- Lists of transactions in memory; conditions: the lists are shorter than 2^40. -/
namespace Go.Proofs.Ytnjjbplocokdeab
open Go.RowKit

def txF (b : Tx) : List Fd := [.i b.f, .i b.t, .i b.s, .i b.e]
def txN (b : Tx) : List Int := [b.f, b.t, b.s, b.e]
/-- A list of transactions in memory. -/
def Txs (w : World) (l : List Tx) (v : Value) (fp : List Nat) : Prop := Rd w (rowsD (l.map txF)) v fp
theorem Txs.under {w w' : World} {l : List Tx} {v : Value} {fp : List Nat} (h : Txs w l v fp) (hb : Below w.heap.size w w') : Txs w' l v fp := Rd.under h hb
theorem Txs.slice {w : World} {l : List Tx} {v : Value} {fp : List Nat} (h : Txs w l v fp) : ∃ a cap, v = .slice a l.length cap ∧ l.length ≤ cap := by
  have h' : Rd w (.l ((l.map txF).map fun e => e.map Fd.dt)) v fp := h
  obtain ⟨a, cap, ⟨rfl, hc⟩ | ⟨he, a, cap, rfl⟩⟩ := Rd.list h'
  · exact ⟨a, cap, by simp, by simpa using hc⟩
  · have : l = [] := by simpa using he
    subst this
    exact ⟨a, cap, rfl, Nat.zero_le _⟩
theorem Txs.at {w : World} {l : List Tx} {a : Option Addr} {n cap : Nat} {fp : List Nat} (h : Txs w l (.slice a n cap) fp) (hne : 0 < l.length) : ∃ b off, a = some ⟨b, off, none⟩ ∧ b < w.heap.size ∧ ∀ k (hk : k < l.length),
    w.cell? ⟨b, off + k * 4, none⟩ = some (.int .i64 l[k].f) ∧ w.cell? ⟨b, off + k * 4 + 1, none⟩ = some (.int .i64 l[k].t) ∧ w.cell? ⟨b, off + k * 4 + 2, none⟩ = some (.int .i64 l[k].s) ∧ w.cell? ⟨b, off + k * 4 + 3, none⟩ = some (.int .i64 l[k].e) := by
  obtain ⟨b, off, rfl, hb, hc⟩ := rows_at (es := l.map txF) (m := 4) h (by simpa using hne) (fun e he => by obtain ⟨x, _, rfl⟩ := List.mem_map.1 he; rfl)
  refine ⟨b, off, rfl, hb, fun k hk => ?_⟩
  have hk' : k < (l.map txF).length := by simpa using hk
  have he : (l.map txF)[k] = txF l[k] := by simp
  obtain ⟨c0, _, h0, r0⟩ := hc k hk' 0 (by rw [he]; simp [txF])
  obtain ⟨c1, _, h1, r1⟩ := hc k hk' 1 (by rw [he]; simp [txF])
  obtain ⟨c2, _, h2, r2⟩ := hc k hk' 2 (by rw [he]; simp [txF])
  obtain ⟨c3, _, h3, r3⟩ := hc k hk' 3 (by rw [he]; simp [txF])
  obtain rfl := rd_i r0 (x := l[k].f) (by simp only [he]; rfl)
  obtain rfl := rd_i r1 (x := l[k].t) (by simp only [he]; rfl)
  obtain rfl := rd_i r2 (x := l[k].s) (by simp only [he]; rfl)
  obtain rfl := rd_i r3 (x := l[k].e) (by simp only [he]; rfl)
  exact ⟨h0, h1, h2, h3⟩
theorem txs_of {E : TypeId} {w : World} {B : Nat} {v : Value} {l : List Tx} (h : OwnN E 4 w B v (l.map txN)) : ∃ a cap fp, v = .slice a l.length cap ∧ l.length ≤ cap ∧ Txs w l v fp := by
  obtain ⟨fp, hr⟩ := (h.ownR (Ei := E) (Nat.le_refl _)).reads
  obtain ⟨a, cap, rfl, hc⟩ := h.slice
  rw [List.length_map] at hr hc ⊢
  refine ⟨a, cap, fp, rfl, hc, ?_⟩
  unfold Txs
  rw [List.map_map] at hr
  exact hr
/-- A first part of a list of transactions. -/
theorem tx_cut {w : World} {l : List Tx} {a : Option Addr} {cap : Nat} {fp : List Nat} (h : Txs w l (.slice a l.length cap) fp) {k : Nat} (hk : k ≤ l.length) : ∃ fq, Txs w (l.take k) (.slice a (l.take k).length cap) fq := by
  rw [List.length_take, Nat.min_eq_left hk]
  by_cases h0 : k = 0
  · subst h0
    refine ⟨[], ?_⟩
    unfold Txs rowsD
    rw [List.take_zero]
    refine .nil _ _ fun e => ?_
    subst e
    exact Rd.nilcap h
  · obtain ⟨b, off, rfl, _⟩ := h.at (by omega)
    have hrow : ∀ e ∈ (l.map txF).map (fun e => e.map Fd.dt), e.length = 4 := by
      intro e he
      rw [List.map_map] at he
      obtain ⟨x, _, rfl⟩ := List.mem_map.1 he
      rfl
    have hz : ((l.map txF).map fun e => e.map Fd.dt).length = l.length := by simp
    obtain ⟨fq, hq⟩ := Rd.cut (g := b) (off := off) (n := l.length) (cap := cap) h hrow 0 k off cap (by omega) (fun _ => by omega) (fun _ => by omega)
    refine ⟨fq, ?_⟩
    unfold Txs rowsD
    rw [List.map_take, List.map_take]
    rw [List.drop_zero] at hq
    exact hq.1

end Go.Proofs.Ytnjjbplocokdeab

/- The reference's tests of conflicts and of lists of transactions, each by a walk of its text; condition: the lists are shorter than 2^40. -/
namespace Go.Proofs.Ytnjjbplocokdeab
open Go.RowKit

theorem spec_TxnsConflict (x y : Tx) (w : World) : Calls Try.prog 7 #[agT x, agT y] w fun e w' => e = .returned (.bool (cfB x y)) ∧ Below w.heap.size w w' := by
  obtain ⟨f, t, s, e⟩ := x
  obtain ⟨f2, t2, s2, e2⟩ := y
  have hb : Below w.heap.size w ((w.alloc (.cells #[.int .i64 f, .int .i64 t, .int .i64 s, .int .i64 e] 25)).alloc (.cells #[.int .i64 f2, .int .i64 t2, .int .i64 s2, .int .i64 e2] 25)) := ((Below.refl _ w).alloc (Nat.le_refl _) _).alloc (by simp) _
  have sA := (Str.new w 25 #[.int .i64 f, .int .i64 t, .int .i64 s, .int .i64 e]).alloc (.cells #[.int .i64 f2, .int .i64 t2, .int .i64 s2, .int .i64 e2] 25)
  have sB := Str.new (w.alloc (.cells #[.int .i64 f, .int .i64 t, .int .i64 s, .int .i64 e] 25)) 25 #[.int .i64 f2, .int .i64 t2, .int .i64 s2, .int .i64 e2]
  rw [World.size_alloc] at sB
  have a0 := sA.cell 0 (v := .int .i64 f) rfl
  have a1 := sA.cell 1 (v := .int .i64 t) rfl
  have b0 := sB.cell 0 (v := .int .i64 f2) rfl
  have b1 := sB.cell 1 (v := .int .i64 t2) rfl
  have Hb := Lib.hid hb; clear hb sA sB
  have Hres := Lib.hid (show cfB ⟨f, t, s, e⟩ ⟨f2, t2, s2, e2⟩ = ((f == f2) || ((f == t2) || ((t == f2) || (t == t2)))) from rfl)
  unfold agT
  dsimp only
  obtain ⟨x1, h1⟩ : ∃ b, (f == f2) = b := ⟨_, rfl⟩
  obtain ⟨x2, h2⟩ : ∃ b, (f == t2) = b := ⟨_, rfl⟩
  obtain ⟨x3, h3⟩ : ∃ b, (t == f2) = b := ⟨_, rfl⟩
  obtain ⟨x4, h4⟩ : ∃ b, (t == t2) = b := ⟨_, rfl⟩
  rw [h1, h2, h3, h4] at Hres
  generalize cfB ⟨f, t, s, e⟩ ⟨f2, t2, s2, e2⟩ = R at *
  cases x1 with
  | true =>
    have hR := Hres.out
    simp only [Bool.true_or] at hR
    subst hR
    go_enter Try.func7, Try.ntmps7
    go_wp2
    go_ret
    exact ⟨rfl, Hb.out⟩
  | false =>
  cases x2 with
  | true =>
    have hR := Hres.out
    simp only [Bool.true_or, Bool.false_or] at hR
    subst hR
    go_enter Try.func7, Try.ntmps7
    go_wp2
    go_ret
    exact ⟨rfl, Hb.out⟩
  | false =>
  cases x3 with
  | true =>
    have hR := Hres.out
    simp only [Bool.true_or, Bool.false_or] at hR
    subst hR
    go_enter Try.func7, Try.ntmps7
    go_wp2
    go_ret
    exact ⟨rfl, Hb.out⟩
  | false =>
  cases x4 with
  | true =>
    have hR := Hres.out
    simp only [Bool.false_or] at hR
    subst hR
    go_enter Try.func7, Try.ntmps7
    go_wp2
    go_ret
    exact ⟨rfl, Hb.out⟩
  | false =>
    have hR := Hres.out
    simp only [Bool.false_or] at hR
    subst hR
    go_enter Try.func7, Try.ntmps7
    go_wp2
    go_ret
    exact ⟨rfl, Hb.out⟩

theorem all_step {xs : List Tx} {k : Nat} (hk : k < xs.length) : (xs.take (k + 1)).all txB = ((xs.take k).all txB && txB xs[k]) := by
  rw [List.take_succ_eq_append_getElem hk, List.all_append]; simp
theorem vld_no {xs : List Tx} {k : Nat} (hk : k < xs.length) (h : txB xs[k] = false) : vldB xs = false := by
  unfold vldB
  rw [List.all_eq_false.2 ⟨xs[k], List.getElem_mem hk, by simp [h]⟩, Bool.false_and]
theorem spec_l32Valid (xs : List Tx) (a : Option Addr) (cap : Nat) (fp : List Nat) (w : World) (hbig : xs.length ≤ 1099511627776) (h : Txs w xs (.slice a xs.length cap) fp) :
    Calls Try.prog 32 #[.slice a xs.length cap] w fun e w' => e = .returned (.bool (vldB xs)) ∧ Below w.heap.size w w' := by
  have H := Lib.hid h; clear h
  have Hno := Lib.hid (fun k (hk : k < xs.length) (h : txB xs[k] = false) => vld_no hk h)
  have Hyes := Lib.hid (show (xs.take xs.length).all txB = true → vldB xs = decide ((xs.length : Int) ≤ 16) from fun h => by
    rw [List.take_length] at h
    unfold vldB
    rw [h, Bool.true_and, decide_eq_decide]; omega)
  generalize vldB xs = R at *
  go_enter Try.func32, Try.ntmps32
  go_wp2
  go_loopw [3] (fun i wr => ∃ k : Nat, k ≤ xs.length ∧ i = .int .i64 k ∧ (xs.take k).all txB = true ∧ Below w.heap.size w wr) (fun i _ => xs.length - (intOf i).toNat)
  case atStart => exact ⟨0, Nat.zero_le _, rfl, rfl, Below.refl _ _⟩
  case round =>
    obtain ⟨k, hk, rfl, hall, hb⟩ := hrel
    have Hall := Lib.hid hall; have Hb := Lib.hid hb; clear hall hb
    by_cases hlt : k < xs.length
    case neg =>
      have hke : k = xs.length := by omega
      subst hke
      have HR := Lib.hid (Hyes.out Hall.out)
      have hlt' : ¬ (xs.length : Int) < (xs.length : Int) := by omega
      go_wp2
      go_ret
      exact ⟨ret_bool HR.out.symm, Hb.out⟩
    case pos =>
      obtain ⟨b, off, rfl, hbb, hat⟩ := (H.out.under Hb.out).at (by omega)
      obtain ⟨c0, c1, c2, c3⟩ := hat k hlt
      have HT := Lib.hid (fun W => spec_TxnValid xs[k] W)
      have Hn := Lib.hid (Hno.out k hlt)
      have Hs := Lib.hid (all_step hlt)
      clear hat
      obtain ⟨v, hv⟩ : ∃ v, v = txB xs[k] := ⟨_, rfl⟩
      unfold agT at HT
      rw [← hv] at HT Hn Hs
      clear hv
      generalize xs[k] = x at *
      obtain ⟨xf, xt, xs', xe⟩ := x
      dsimp only at *
      go_wp2_with fail
      refine (HT.out _).mono ?_
      rintro e w6 ⟨rfl, hb6⟩
      have Hb6 := Lib.hid (below_step Hb.out Hb.out.size hb6); clear hb6 c0 c1 c2 c3
      cases v with
      | false =>
        have HR := Lib.hid (Hn.out (by first | rfl | trivial))
        go_wp2
        go_ret
        exact ⟨ret_bool HR.out.symm, Hb6.out⟩
      | true =>
        go_wp2
        go_roundw
        case rel => exact ⟨k + 1, by omega, by go_num, by rw [Hs.out, Hall.out]; rfl, Hb6.out⟩
        case measure => simp [intOf]; omega

end Go.Proofs.Ytnjjbplocokdeab

/- The program's tests of accounts, balances and transactions, each by a walk of its text; without conditions. -/
namespace Go.Proofs.Ytnjjbplocokdeab
open Go.RowKit

theorem lg_isAccount (n : Int) (w : World) : Calls Try.prog 84 #[.int .i64 n] w fun e w' => e = .returned (.bool (decide (0 ≤ n ∧ n ≤ 5))) ∧ w = w' := by
  obtain ⟨z, hz⟩ : ∃ z, z = decide (0 ≤ n ∧ n ≤ 5) := ⟨_, rfl⟩
  rw [show (decide (0 ≤ n ∧ n ≤ 5)) = z from hz.symm]
  by_cases h : 0 ≤ n
  · have Hf := Lib.hid (show z = decide (n < 6) from hz.trans (decide_eq_decide.2 (by omega))); clear hz
    go_enter Try.func84, Try.ntmps84
    go_wp2
    go_ret
    exact ⟨ret_bool Hf.out.symm, rfl⟩
  · have Hf := Lib.hid (show z = false from hz.trans (decide_eq_false (by omega))); clear hz
    go_enter Try.func84, Try.ntmps84
    go_wp2
    go_ret
    exact ⟨ret_bool Hf.out.symm, rfl⟩

theorem lg_isBalance (n : Int) (w : World) : Calls Try.prog 85 #[.int .i64 n] w fun e w' => e = .returned (.bool (decide (0 ≤ n ∧ n ≤ 999))) ∧ w = w' := by
  obtain ⟨z, hz⟩ : ∃ z, z = decide (0 ≤ n ∧ n ≤ 999) := ⟨_, rfl⟩
  rw [show (decide (0 ≤ n ∧ n ≤ 999)) = z from hz.symm]
  by_cases h : 0 ≤ n
  · have Hf := Lib.hid (show z = decide (n ≤ 999) from hz.trans (decide_eq_decide.2 (by omega))); clear hz
    go_enter Try.func85, Try.ntmps85
    go_wp2
    go_ret
    exact ⟨ret_bool Hf.out.symm, rfl⟩
  · have Hf := Lib.hid (show z = false from hz.trans (decide_eq_false (by omega))); clear hz
    go_enter Try.func85, Try.ntmps85
    go_wp2
    go_ret
    exact ⟨ret_bool Hf.out.symm, rfl⟩

theorem lg_valid (x : Tx) (w : World) :
    Calls Try.prog 62 #[agT x] w fun e w' => e = .returned (.bool (txB x)) ∧ Below w.heap.size w w' := by
  obtain ⟨f, t, s, e⟩ := x
  have hb0 : Below w.heap.size w (w.alloc (.cells #[.int .i64 f, .int .i64 t, .int .i64 s, .int .i64 e] 25)) := (Below.refl _ _).alloc (Nat.le_refl _) _
  have s0 := Str.new w 25 #[.int .i64 f, .int .i64 t, .int .i64 s, .int .i64 e]
  have k0 := s0.cell 0 (v := .int .i64 f) rfl
  have k1 := s0.cell 1 (v := .int .i64 t) rfl
  have k2 := s0.cell 2 (v := .int .i64 s) rfl
  have k3 := s0.cell 3 (v := .int .i64 e) rfl
  have H0 := Lib.hid (fun W => lg_isAccount f W)
  have H1 := Lib.hid (fun W => lg_isAccount t W)
  have Hb0 := Lib.hid hb0; clear hb0 s0
  have Hres := Lib.hid (show txB ⟨f, t, s, e⟩ = (decide (0 ≤ f ∧ f ≤ 5) && (decide (0 ≤ t ∧ t ≤ 5) && (decide (f ≠ t) && (decide (1 ≤ s ∧ s ≤ 99) && decide (0 ≤ e ∧ e ≤ 9))))) from rfl)
  generalize decide (0 ≤ f ∧ f ≤ 5) = xf at *
  generalize decide (0 ≤ t ∧ t ≤ 5) = xt at *
  unfold agT
  dsimp only
  go_enter Try.func62, Try.ntmps62
  go_wp2_with fail
  generalize w.alloc (.cells #[.int .i64 f, .int .i64 t, .int .i64 s, .int .i64 e] 25) = W0 at *
  refine (H0.out W0).mono ?_
  rintro e1 w1 ⟨rfl, rfl⟩
  cases xf with
  | false =>
    go_wp2
    go_ret
    exact ⟨ret_bool (by rw [Hres.out]; simp), Hb0.out⟩
  | true =>
  go_wp2_with fail
  refine (H1.out W0).mono ?_
  rintro e1 w1 ⟨rfl, rfl⟩
  cases xt with
  | false =>
    go_wp2
    go_ret
    exact ⟨ret_bool (by rw [Hres.out]; simp), Hb0.out⟩
  | true =>
  have HG := Lib.hid (fun (h : txB ⟨f, t, s, e⟩ = false) => h)
  by_cases hne : f = t
  case pos =>
    have hn1 : (f == t) = true := by rw [beq_iff_eq]; exact hne
    have hn2 : (f != t) = false := by rw [bne, hn1]; rfl
    have Hne := Lib.hid hne; clear hne
    go_wp2
    go_ret
    exact ⟨ret_bool (by rw [Hres.out, decide_eq_false (show ¬ (f ≠ t) from fun h => h Hne.out)]; rfl), Hb0.out⟩
  have hn1 : (f == t) = false := by rw [beq_eq_false_iff_ne]; exact hne
  have hn2 : (f != t) = true := by rw [bne, hn1]; rfl
  have Hres := Lib.hid (Hres.out.trans (by rw [decide_eq_true (show f ≠ t from hne)]))
  have Hne := Lib.hid hne; clear hne
  by_cases hc0 : 1 ≤ s
  case neg =>
    have Hn := Lib.hid hc0
    go_wp2
    go_ret
    exact ⟨ret_bool (by have hn := Hn.out; rw [Hres.out]; simp; omega), Hb0.out⟩
  have Hc0 := Lib.hid hc0
  by_cases hc1 : s ≤ 99
  case neg =>
    have Hn := Lib.hid hc1
    go_wp2
    go_ret
    exact ⟨ret_bool (by have hn := Hn.out; rw [Hres.out]; simp; omega), Hb0.out⟩
  have Hc1 := Lib.hid hc1
  by_cases hc2 : 0 ≤ e
  case neg =>
    have Hn := Lib.hid hc2
    go_wp2
    go_ret
    exact ⟨ret_bool (by have hn := Hn.out; rw [Hres.out]; simp; omega), Hb0.out⟩
  have Hc2 := Lib.hid hc2
  go_wp2
  go_ret
  exact ⟨ret_bool (by have h0 := Hc0.out; have h1 := Hc1.out; have h2 := Hc2.out; rw [Hres.out, decide_eq_true (show 1 ≤ s ∧ s ≤ 99 from ⟨h0, h1⟩)]; simp only [Bool.true_and]; exact decide_eq_decide.2 (by omega)), Hb0.out⟩

end Go.Proofs.Ytnjjbplocokdeab

/- The program's test whether a transaction uses an account, its test of conflict, and its test of lists of transactions, each by a walk of its text; condition: the lists are shorter than 2^40. -/
namespace Go.Proofs.Ytnjjbplocokdeab
open Go.RowKit

theorem impl_uses (x : Tx) (n : Int) (w : World) :
    Calls Try.prog 31 #[agT x, .int .i64 n] w fun e w' => e = .returned (.bool (decide (x.f = n) || decide (x.t = n))) ∧ Below w.heap.size w w' := by
  obtain ⟨f, t, s, e⟩ := x
  have hb0 : Below w.heap.size w (w.alloc (.cells #[.int .i64 f, .int .i64 t, .int .i64 s, .int .i64 e] 25)) := (Below.refl _ _).alloc (Nat.le_refl _) _
  have s0 := Str.new w 25 #[.int .i64 f, .int .i64 t, .int .i64 s, .int .i64 e]
  have k0 := s0.cell 0 (v := .int .i64 f) rfl
  have k1 := s0.cell 1 (v := .int .i64 t) rfl
  have Hb0 := Lib.hid hb0; clear hb0 s0
  obtain ⟨z, hz⟩ : ∃ z, z = (decide (f = n) || decide (t = n)) := ⟨_, rfl⟩
  show Calls _ _ _ _ fun e' w' => e' = .returned (.bool (decide (f = n) || decide (t = n))) ∧ _
  rw [← hz]
  unfold agT
  dsimp only
  by_cases h1 : f = n
  · have hn1 : (f == n) = true := by rw [beq_iff_eq]; exact h1
    have Hz := Lib.hid (show z = true by rw [hz, decide_eq_true h1]; rfl)
    clear hz h1
    go_enter Try.func31, Try.ntmps31
    go_wp2
    go_ret
    exact ⟨ret_bool Hz.out.symm, Hb0.out⟩
  · have hn1 : (f == n) = false := by rw [beq_eq_false_iff_ne]; exact h1
    have Hz := Lib.hid (show z = (t == n) by
      rw [hz, decide_eq_false h1, Bool.false_or, Bool.eq_iff_iff, decide_eq_true_eq, beq_iff_eq])
    clear hz h1
    go_enter Try.func31, Try.ntmps31
    go_wp2
    go_ret
    exact ⟨ret_bool (by rw [Hz.out]), Hb0.out⟩

theorem cf_uses (x y : Tx) : cfB x y = ((decide (x.f = y.f) || decide (x.t = y.f)) || (decide (x.f = y.t) || decide (x.t = y.t))) := by
  unfold cfB
  cases decide (x.f = y.f) <;> cases decide (x.f = y.t) <;> cases decide (x.t = y.f) <;> cases decide (x.t = y.t) <;> rfl
theorem impl_TxnsConflict (x y : Tx) (w : World) :
    Calls Try.prog 9 #[agT x, agT y] w fun e w' => e = .returned (.bool (cfB x y)) ∧ Below w.heap.size w w' := by
  have HU := Lib.hid (fun n W => impl_uses x n W)
  have Hc := Lib.hid (cf_uses x y)
  generalize cfB x y = R at *
  obtain ⟨f, t, s, e⟩ := x
  obtain ⟨f2, t2, s2, e2⟩ := y
  have hb0 : Below w.heap.size w ((w.alloc (.cells #[.int .i64 f, .int .i64 t, .int .i64 s, .int .i64 e] 25)).alloc (.cells #[.int .i64 f2, .int .i64 t2, .int .i64 s2, .int .i64 e2] 25)) := ((Below.refl _ _).alloc (Nat.le_refl _) _).alloc (by simp) _
  have s0 := (Str.new w 25 #[.int .i64 f, .int .i64 t, .int .i64 s, .int .i64 e]).alloc (.cells #[.int .i64 f2, .int .i64 t2, .int .i64 s2, .int .i64 e2] 25)
  have s1 := Str.new (w.alloc (.cells #[.int .i64 f, .int .i64 t, .int .i64 s, .int .i64 e] 25)) 25 #[.int .i64 f2, .int .i64 t2, .int .i64 s2, .int .i64 e2]
  simp only [World.size_alloc] at s1
  have k0 := s0.cell 0 (v := .int .i64 f) rfl
  have k1 := s0.cell 1 (v := .int .i64 t) rfl
  have k2 := s0.cell 2 (v := .int .i64 s) rfl
  have k3 := s0.cell 3 (v := .int .i64 e) rfl
  have c0 := s1.cell 0 (v := .int .i64 f2) rfl
  have c1 := s1.cell 1 (v := .int .i64 t2) rfl
  have S0 := Lib.hid s0; have S1 := Lib.hid s1
  have Hb0 := Lib.hid hb0; clear hb0 s0 s1
  unfold agT at HU ⊢
  dsimp only at *
  go_enter Try.func9, Try.ntmps9
  go_wp2_with fail
  generalize ((w.alloc (.cells #[.int .i64 f, .int .i64 t, .int .i64 s, .int .i64 e] 25)).alloc (.cells #[.int .i64 f2, .int .i64 t2, .int .i64 s2, .int .i64 e2] 25)) = W0 at *
  refine (HU.out f2 _).mono ?_
  rintro e' w1 ⟨rfl, hb1⟩
  clear k0 k1 k2 k3 c0 c1
  have S0 := Lib.hid (show Str w1 w.heap.size 25 #[.int .i64 f, .int .i64 t, .int .i64 s, .int .i64 e] from (hb1.block _ S0.out.lt).trans S0.out)
  have S1 := Lib.hid (show Str w1 (w.heap.size + 1) 25 #[.int .i64 f2, .int .i64 t2, .int .i64 s2, .int .i64 e2] from (hb1.block _ S1.out.lt).trans S1.out)
  have Hb0 := Lib.hid (below_step Hb0.out Hb0.out.size hb1)
  clear hb1
  generalize (decide (f = f2) || decide (t = f2)) = b at *
  cases b with
  | true =>
    go_wp2
    go_ret
    exact ⟨ret_bool (by rw [Hc.out]; rfl), Hb0.out⟩
  | false =>
    have k0 := S0.out.cell 0 (v := .int .i64 f) rfl
    have k1 := S0.out.cell 1 (v := .int .i64 t) rfl
    have k2 := S0.out.cell 2 (v := .int .i64 s) rfl
    have k3 := S0.out.cell 3 (v := .int .i64 e) rfl
    have c1 := S1.out.cell 1 (v := .int .i64 t2) rfl
    go_wp2_with fail
    refine (HU.out t2 _).mono ?_
    rintro e' w2 ⟨rfl, hb2⟩
    have Hb0 := Lib.hid (below_step Hb0.out Hb0.out.size hb2)
    clear hb2 k0 k1 k2 k3 c1
    generalize (decide (f = t2) || decide (t = t2)) = b at *
    go_wp2
    go_ret
    exact ⟨ret_bool (by rw [Hc.out]; rfl), Hb0.out⟩

theorem impl_areTxns (xs : List Tx) (a : Option Addr) (cap : Nat) (fp : List Nat) (w : World) (hbig : xs.length ≤ 1099511627776) (h : Txs w xs (.slice a xs.length cap) fp) :
    Calls Try.prog 50 #[.slice a xs.length cap] w fun e w' => e = .returned (.bool (vldB xs)) ∧ Below w.heap.size w w' := by
  have H := Lib.hid h; clear h
  have Hno := Lib.hid (fun k (hk : k < xs.length) (h : txB xs[k] = false) => vld_no hk h)
  have Hlong := Lib.hid (show ¬ xs.length ≤ 16 → vldB xs = false from fun h => by unfold vldB; rw [decide_eq_false h, Bool.and_false])
  have Hyes := Lib.hid (show xs.length ≤ 16 → (xs.take xs.length).all txB = true → vldB xs = true from fun h0 h => by
    rw [List.take_length] at h
    unfold vldB
    rw [h, decide_eq_true h0]; rfl)
  generalize vldB xs = R at *
  by_cases h16 : xs.length ≤ 16
  case neg =>
    have HR := Lib.hid (Hlong.out h16)
    have h16' : (16 : Int) < (xs.length : Int) := by omega
    clear h16
    go_enter Try.func50, Try.ntmps50
    go_wp2
    go_ret
    exact ⟨ret_bool HR.out.symm, Below.refl _ _⟩
  have h16' : ¬ (16 : Int) < (xs.length : Int) := by omega
  go_enter Try.func50, Try.ntmps50
  go_wp2
  clear h16'
  go_loopw [10] (fun i wr => ∃ k : Nat, k ≤ xs.length ∧ i = .int .i64 k ∧ (xs.take k).all txB = true ∧ Below w.heap.size w wr) (fun i _ => xs.length - (intOf i).toNat)
  case atStart => exact ⟨0, Nat.zero_le _, rfl, rfl, Below.refl _ _⟩
  case round =>
    obtain ⟨k, hk, rfl, hall, hb⟩ := hrel
    have Hall := Lib.hid hall; have Hb := Lib.hid hb; clear hall hb
    by_cases hlt : k < xs.length
    case neg =>
      have hke : k = xs.length := by omega
      subst hke
      have HR := Lib.hid (Hyes.out h16 Hall.out)
      have hlt' : ¬ (xs.length : Int) < (xs.length : Int) := by omega
      go_wp2
      go_ret
      exact ⟨ret_bool HR.out.symm, Hb.out⟩
    case pos =>
      have hlt' : (k : Int) < (xs.length : Int) := by omega
      obtain ⟨b, off, rfl, hbb, hat⟩ := (H.out.under Hb.out).at (by omega)
      obtain ⟨c0, c1, c2, c3⟩ := hat k hlt
      have HT := Lib.hid (fun W => lg_valid xs[k] W)
      have Hn := Lib.hid (Hno.out k hlt)
      have Hs := Lib.hid (all_step hlt)
      clear hat
      obtain ⟨v, hv⟩ : ∃ v, v = txB xs[k] := ⟨_, rfl⟩
      unfold agT at HT
      rw [← hv] at HT Hn Hs
      clear hv
      generalize xs[k] = x at *
      obtain ⟨xf, xt, xs', xe⟩ := x
      dsimp only at *
      have hal : Below wr.heap.size wr (wr.alloc (.cells #[.int .i64 xf, .int .i64 xt, .int .i64 xs', .int .i64 xe] 25)) := (Below.refl _ _).alloc (Nat.le_refl _) _
      have Hb := Lib.hid (below_step Hb.out Hb.out.size hal)
      clear hal
      go_wp2_with fail
      refine (HT.out _).mono ?_
      rintro e w6 ⟨rfl, hb6⟩
      have Hb6 := Lib.hid (below_step Hb.out Hb.out.size hb6); clear hb6 c0 c1 c2 c3
      cases v with
      | false =>
        have HR := Lib.hid (Hn.out (by first | rfl | trivial))
        go_wp2
        go_ret
        exact ⟨ret_bool HR.out.symm, Hb6.out⟩
      | true =>
        go_wp2
        go_roundw
        case rel => exact ⟨k + 1, by omega, by go_num, by rw [Hs.out, Hall.out]; rfl, Hb6.out⟩
        case measure => simp [intOf]; omega

end Go.Proofs.Ytnjjbplocokdeab

/- Lists of lists of numbers in memory; general steps, nothing here speaks of the program. -/
namespace Go.Proofs.Ytnjjbplocokdeab
open Go.RowKit

/-- Indexes as numbers. -/
def zs (l : List Nat) : List Int := l.map Int.ofNat
theorem zs_len (l : List Nat) : (zs l).length = l.length := List.length_map _
theorem zs_at {l : List Nat} {k : Nat} (h : k < (zs l).length) : (zs l)[k] = ((l[k]'(by rw [zs_len] at h; exact h) : Nat) : Int) := by simp [zs]
theorem zs_snoc (l : List Nat) (x : Nat) : zs (l ++ [x]) = zs l ++ [(x : Int)] := by simp [zs]
def lnF (l : List Nat) : List Fd := [.l (zs l)]
/-- A list of index lists in memory. -/
def Lns (w : World) (ls : List (List Nat)) (v : Value) (fp : List Nat) : Prop := Rd w (rowsD (ls.map lnF)) v fp
/-- A list of index lists in memory of its own. -/
def OwnL (E Ei : TypeId) (w : World) (B : Nat) (v : Value) (ls : List (List Nat)) : Prop := OwnR E Ei 1 w B w.heap.size v (ls.map lnF)
theorem OwnL.lns {E Ei : TypeId} {w : World} {B : Nat} {v : Value} {ls : List (List Nat)} (h : OwnL E Ei w B v ls) : ∃ fp, Lns w ls v fp := OwnR.reads h
theorem OwnL.from {E Ei : TypeId} {w : World} {B B' : Nat} {v : Value} {ls : List (List Nat)} (h : OwnL E Ei w B v ls) (hB : B' ≤ B) : OwnL E Ei w B' v ls := OwnR.from h hB
theorem OwnL.below {E Ei : TypeId} {w w' : World} {B : Nat} {v : Value} {ls : List (List Nat)} (h : OwnL E Ei w B v ls) (hb : Below w.heap.size w w') : OwnL E Ei w' B v ls := (OwnR.below h hb (Nat.le_refl _)).mono hb.size
theorem OwnL.fresh (E Ei : TypeId) (w : World) {B : Nat} (hB : B ≤ w.heap.size) : OwnL E Ei (w.alloc (.cells #[] E)) B (.slice (some ⟨w.heap.size, 0, none⟩) 0 0) [] :=
  .nil (World.ownsRow_made w #[] 0 hB (by simp) (by simp)) (fun g e => by cases e; simp)
theorem Lns.slice {w : World} {ls : List (List Nat)} {v : Value} {fp : List Nat} (h : Lns w ls v fp) : ∃ a cap, v = .slice a ls.length cap := by
  obtain ⟨a, cap, rfl⟩ := Rd.slice h
  exact ⟨a, cap, by simp⟩
theorem Lns.under {w w' : World} {ls : List (List Nat)} {v : Value} {fp : List Nat} (h : Lns w ls v fp) (hb : Below w.heap.size w w') : Lns w' ls v fp := Rd.under h hb
theorem Lns.at {w : World} {ls : List (List Nat)} {a : Option Addr} {n cap : Nat} {fp : List Nat} (h : Lns w ls (.slice a n cap) fp) (hne : 0 < ls.length) : ∃ b off, a = some ⟨b, off, none⟩ ∧ b < w.heap.size ∧ ∀ k (hk : k < ls.length),
    ∃ pa pc, w.cell? ⟨b, off + k, none⟩ = some (.slice pa (ls[k]).length pc) ∧ IntsAt w pa (zs ls[k]) ∧ SrcAt w pa pc (zs ls[k]) := by
  obtain ⟨b, off, rfl, hb, hc⟩ := rows_at (es := ls.map lnF) (m := 1) h (by simpa using hne) (fun e he => by obtain ⟨x, _, rfl⟩ := List.mem_map.1 he; rfl)
  refine ⟨b, off, rfl, hb, fun k hk => ?_⟩
  have hk' : k < (ls.map lnF).length := by simpa using hk
  have he : (ls.map lnF)[k] = lnF ls[k] := by simp
  obtain ⟨c0, _, h0, r0⟩ := hc k hk' 0 (by rw [he]; simp [lnF])
  obtain ⟨pa, pc, rfl, hi, hs⟩ := rd_ls (xs := zs ls[k]) r0 (by simp only [he]; rfl)
  rw [zs_len] at h0
  exact ⟨pa, pc, by rw [← h0]; simp, hi, hs⟩
theorem ownR_apart {E E' Ei : TypeId} {sz : Nat} {w : World} {B B' hi : Nat} {v u : Value} {es : List (List Fd)} {xs : List Int} (h : OwnR E Ei sz w B hi v es) (h' : Own E' w B' u xs) (hE : E ≠ E') : u.ownBlock = none ∨ u.ownBlock ≠ v.ownBlock := by
  obtain ⟨cs, h1, _⟩ := h.row
  rcases h'.2 with ⟨rfl, _⟩ | ⟨g, cap, cur, rfl, _, hg, _⟩
  · exact .inl rfl
  · rcases h1.2 with ⟨rfl, _⟩ | ⟨g', cap', cur', rfl, _, hg', _⟩
    · exact .inr (fun e => by cases e)
    · refine .inr fun e => hE ?_
      have e' : g = g' := by cases e; rfl
      subst e'
      rw [hg] at hg'
      cases hg'
      rfl
theorem lane_row {E : TypeId} {w : World} {B hi : Nat} {a : Option Addr} {c : Nat} {l : List Nat} (h : Own E w hi (.slice a l.length c) (zs l)) (hB : B ≤ hi) :
    (∀ j (hj : j < (lnF l).length), ∃ v, [Value.slice a l.length c][j]? = some v ∧ FdOk E w B v (lnF l)[j]) ∧ (∀ (p q : Nat) c' d, [Value.slice a l.length c][p]? = some c' → [Value.slice a l.length c][q]? = some d → p ≠ q → Apart c' d) ∧ (∀ v ∈ [Value.slice a l.length c], ∀ g, v.ownBlock = some g → hi ≤ g) := by
  refine ⟨fun j hj => ?_, fun p q c' d hp hq hne => ?_, fun v hv g hg => ?_⟩
  · match j, hj with
    | 0, _ => exact ⟨_, rfl, h.mono hB⟩
  · match p, q, hp, hq with
    | 0, 0, _, _ => exact absurd rfl hne
    | 0, q + 1, _, hq => simp at hq
    | p + 1, _, hp, _ => simp at hp
  · rw [List.mem_singleton] at hv; subst hv
    exact (h.lt g hg).1

end Go.Proofs.Ytnjjbplocokdeab

/- The reference's lanes, by a walk of its text; condition: at most 2^20 transactions. -/
namespace Go.Proofs.Ytnjjbplocokdeab
open Go.RowKit

def fillL (n k : Nat) : List Int := (List.range n).map fun i => if i < k then Int.ofNat i else 0
theorem fill_len (n k : Nat) : (fillL n k).length = n := by simp [fillL]
theorem fill_step {n k : Nat} (_hk : k < n) : (fillL n k).set k (k : Int) = fillL n (k + 1) := by
  apply List.ext_getElem
  · simp [fillL]
  · intro j h1 h2
    rw [List.getElem_set]
    by_cases e : k = j
    · subst e; simp [fillL]
    · rw [if_neg e]
      simp only [fillL, List.getElem_map, List.getElem_range]
      by_cases h : j < k
      · rw [if_pos h, if_pos (by omega)]
      · rw [if_neg h, if_neg (by omega)]
theorem fill_all (n : Nat) : fillL n n = lb0 n := by
  unfold fillL lb0
  exact List.map_congr_left fun i hi => if_pos (List.mem_range.1 hi)
theorem own_fill (E : TypeId) (w : World) (n : Nat) (hm : n ≤ maxLen) : Own E (w.alloc (.cells (madeCells #[.int .i64 0] n) E)) w.heap.size (.slice (some ⟨w.heap.size, 0, none⟩) n n) (fillL n 0) := by
  have h1 : (fillL n 0).map (Value.int .i64) = (madeCells #[.int .i64 0] n).toList := by
    rw [toList_madeCells_one]
    apply List.ext_getElem
    · simp [fillL]
    · intro j h1 h2; simp [fillL]
  unfold Own
  rw [h1, fill_len]
  exact World.ownsRow_lit w (madeCells #[.int .i64 0] n) n (Nat.le_refl _) hm (by simp [madeCells])
theorem run_min2 {P : Program} (ats : Array TypeId) (ty : TypeId) (a b : Int) (W : World) : (Builtin.min_ ats ty #[.int .i64 a, .int .i64 b]).run P W = .ok (.int .i64 (min a b)) W := by
  have h : (if b < a then b else a) = min a b := by rw [Int.min_def]; split <;> split <;> omega
  simp [Builtin.min_, Builtin.min2, h]
theorem run_max2 {P : Program} (ats : Array TypeId) (ty : TypeId) (a b : Int) (W : World) : (Builtin.max_ ats ty #[.int .i64 a, .int .i64 b]).run P W = .ok (.int .i64 (max a b)) W := by
  have h : (if a < b then b else a) = max a b := by rw [Int.max_def]; split <;> split <;> omega
  simp [Builtin.max_, Builtin.max2, h]
theorem st_yes {xs : List Tx} {L : List Int} {i k : Nat} (hi : i < L.length) (hk : k < L.length) (h : cfB (xs.getD i tx0) (xs.getD k tx0) = true) : stL xs L i k = (L.set i (min L[i] L[k])).set k (min L[i] L[k]) := by
  unfold stL; rw [if_pos h]
  simp only [List.getD, List.getElem?_eq_getElem hi, List.getElem?_eq_getElem hk, Option.getD_some]
theorem st_no {xs : List Tx} {L : List Int} {i k : Nat} (h : cfB (xs.getD i tx0) (xs.getD k tx0) = false) : stL xs L i k = L := by unfold stL; rw [if_neg (by rw [h]; decide)]
/-- The first transactions with a label. -/
def laneTo (xs : List Tx) (m n : Nat) : List Nat := (List.range n).filter fun i => decide ((lbL xs).getD i 0 = (m : Int))
theorem laneTo_yes {xs : List Tx} {m n : Nat} (h : (lbL xs).getD n 0 = (m : Int)) : laneTo xs m (n + 1) = laneTo xs m n ++ [n] := by
  unfold laneTo; rw [List.range_succ, List.filter_append, List.filter_cons_of_pos (p := fun i : Nat => decide ((lbL xs).getD i 0 = (m : Int))) (by exact decide_eq_true h)]; rfl
theorem laneTo_no {xs : List Tx} {m n : Nat} (h : ¬ (lbL xs).getD n 0 = (m : Int)) : laneTo xs m (n + 1) = laneTo xs m n := by
  unfold laneTo; rw [List.range_succ, List.filter_append, List.filter_cons_of_neg (p := fun i : Nat => decide ((lbL xs).getD i 0 = (m : Int))) (by rw [decide_eq_true_eq]; exact h)]; simp
theorem laneTo_len (xs : List Tx) (m n : Nat) : (laneTo xs m n).length ≤ n := by
  have := List.length_filter_le (fun i => decide ((lbL xs).getD i 0 = (m : Int))) (List.range n); rw [List.length_range] at this; exact this
theorem laneTo_all (xs : List Tx) (m : Nat) : laneTo xs m xs.length = laneN xs m := rfl

theorem TIlb : IntT Try.prog 40 3 := ⟨Try.underlying40, by kernel_rfl⟩
theorem lane_inf : (Try.prog.info? 40).map (fun i => (i.zero, i.size, i.bytes)) = some (some (.slice none 0 0), 1, 24) := by kernel_rfl
set_option maxRecDepth 8000 in
set_option maxHeartbeats 4000000 in
theorem spec_l32Lanes (xs : List Tx) (a : Option Addr) (cap : Nat) (fp : List Nat) (w : World) (hbig : xs.length ≤ 1048576) (h : Txs w xs (.slice a xs.length cap) fp) :
    Calls Try.prog 33 #[.slice a xs.length cap] w fun e w' => ∃ u, e = .returned u ∧ OwnL 40 3 w' w.heap.size u (lanesN xs) ∧ Below w.heap.size w w' := by
  have hmk : ∀ w, (Instr.makeSlice 40 (.int .i64 (xs.length : Int)) (.int .i64 (xs.length : Int))).run Try.prog w = .ok (.slice (some ⟨w.heap.size, 0, none⟩) xs.length xs.length) (w.alloc (.cells (madeCells #[.int .i64 0] xs.length) 3)) :=
    fun w => run_make_row' 40 3 (.int .i64 0) 8 Try.underlying40 (by kernel_rfl) rfl .i64 .i64 xs.length (by omega) (by omega) w
  have Ho := Lib.hid (own_fill 3 w xs.length (by unfold maxLen; omega))
  have Hb := Lib.hid (show Below w.heap.size w (w.alloc (.cells (madeCells #[.int .i64 0] xs.length) 3)) from (Below.refl _ _).alloc (Nat.le_refl _) _)
  have H := Lib.hid h; clear h
  go_enter Try.func33, Try.ntmps33
  go_wp2
  clear hmk
  generalize (w.alloc (.cells (madeCells #[.int .i64 0] xs.length) 3)) = W1 at *
  go_loopw [4] (fun i wr => ∃ k : Nat, k ≤ xs.length ∧ i = .int .i64 k ∧ Own 3 wr w.heap.size (.slice (some ⟨w.heap.size, 0, none⟩) xs.length xs.length) (fillL xs.length k) ∧ Below w.heap.size w wr) (fun i _ => xs.length - (intOf i).toNat)
  case atStart => exact ⟨0, Nat.zero_le _, rfl, Ho.out, Hb.out⟩
  case round =>
    clear Ho Hb
    obtain ⟨k, hk, rfl, ho, hb⟩ := hrel
    have Ho := Lib.hid ho; have Hb := Lib.hid hb; clear ho hb
    by_cases hlt : k < xs.length
    case pos =>
      have hfl := fill_len xs.length k
      obtain ⟨g1, cap1, e, _, _, _, hc1, hf1⟩ := Ho.out.row (by omega)
      simp only [Value.slice.injEq, Option.some.injEq, Addr.mk.injEq, and_true] at e
      obtain ⟨rfl, -, -⟩ := e
      have f1 := hf1 k
      have c1 := hc1 k (by omega)
      clear hc1 hf1
      have O1 := Lib.hid ((Ho.out.store hfl.symm k (k : Int)).1)
      rw [fill_step hlt] at O1
      have B1 := Lib.hid (Hb.out.setCell (p := ⟨w.heap.size, k, none⟩) (Nat.le_refl _) (.int .i64 (k : Int)))
      generalize (fillL xs.length k)[k] = y at *
      clear hfl
      go_wp2
      go_roundw
      case rel => exact ⟨k + 1, by omega, by go_num, O1.out, B1.out⟩
      case measure => simp [intOf]; omega
    case neg =>
      have hke : k = xs.length := by omega
      subst hke
      rw [fill_all] at Ho
      have hlt' : ¬ (xs.length : Int) < (xs.length : Int) := by omega
      have hr0 : lbR xs 0 = lb0 xs.length := rfl
      go_wp2
      clear hlt hlt'
      go_loopw [5] (fun i wr => ∃ (r : Nat) (L : List Int), r ≤ xs.length ∧ i = .int .i64 r ∧ L = lbR xs r ∧ Own 3 wr w.heap.size (.slice (some ⟨w.heap.size, 0, none⟩) xs.length xs.length) (L) ∧ Below w.heap.size w wr) (fun i _ => xs.length - (intOf i).toNat)
      case atStart => exact ⟨0, _, Nat.zero_le _, rfl, hr0.symm, Ho.out, Hb.out⟩
      case round =>
        clear Ho Hb hr0
        obtain ⟨r, L, hr, rfl, hL, ho, hb⟩ := hrel
        have Ho := Lib.hid ho; have Hb := Lib.hid hb; have HL := Lib.hid hL; clear ho hb hL
        by_cases hltr : r < xs.length
        case pos =>
          have hltz : (r : Int) < (xs.length : Int) := by omega
          have hr0 : rdL xs L 0 = L := rfl
          have Hn := Lib.hid (show rdL xs L xs.length = lbR xs (r + 1) by rw [HL.out]; rfl)
          have hLl : L.length = xs.length := by rw [HL.out]; exact lbR_len xs r
          go_wp2
          go_loopw [6] (fun i wr => ∃ (i' : Nat) (L2 : List Int), i' ≤ xs.length ∧ i = .int .i64 i' ∧ L2 = rdL xs L i' ∧ Own 3 wr w.heap.size (.slice (some ⟨w.heap.size, 0, none⟩) xs.length xs.length) (L2) ∧ Below w.heap.size w wr) (fun i _ => xs.length - (intOf i).toNat)
          case atStart => exact ⟨0, _, Nat.zero_le _, rfl, hr0.symm, Ho.out, Hb.out⟩
          case round =>
            clear Ho Hb hr0
            obtain ⟨i, L2, hi, rfl, hL2, ho, hb⟩ := hrel
            have Ho := Lib.hid ho; have Hb := Lib.hid hb; have HL2 := Lib.hid hL2; clear ho hb hL2
            by_cases hlti : i < xs.length
            case neg =>
              have hie : i = xs.length := by omega
              subst hie
              have hlt' : ¬ (xs.length : Int) < (xs.length : Int) := by omega
              go_wp2
              go_roundw
              case rel => exact ⟨r + 1, L2, by omega, by go_num, HL2.out.trans Hn.out, Ho.out, Hb.out⟩
              case measure => simp [intOf]; omega
            case pos =>
              have hltiz : (i : Int) < (xs.length : Int) := by omega
              have hr0 : rwL xs L2 i 0 = L2 := rfl
              have Hn2 := Lib.hid (show rwL xs L2 i i = rdL xs L (i + 1) by rw [HL2.out]; rfl)
              have hL2l : L2.length = xs.length := by rw [HL2.out, rd_len]; exact hLl
              go_wp2
              go_loopw [7] (fun j wr => ∃ (k : Nat) (L3 : List Int), k ≤ i ∧ j = .int .i64 k ∧ L3 = rwL xs L2 i k ∧ Own 3 wr w.heap.size (.slice (some ⟨w.heap.size, 0, none⟩) xs.length xs.length) (L3) ∧ Below w.heap.size w wr) (fun j _ => i - (intOf j).toNat)
              case atStart => exact ⟨0, _, Nat.zero_le _, rfl, hr0.symm, Ho.out, Hb.out⟩
              case round =>
                clear Ho Hb hr0
                obtain ⟨k, L3, hk, rfl, hL3, ho, hb⟩ := hrel
                have Ho := Lib.hid ho; have Hb := Lib.hid hb; have HL3 := Lib.hid hL3; clear ho hb hL3
                by_cases hltk : k < i
                case neg =>
                  have hke : k = i := by omega
                  subst hke
                  have hlt' : ¬ (k : Int) < (k : Int) := by omega
                  go_wp2
                  go_roundw
                  case rel => exact ⟨k + 1, L3, by omega, by go_num, HL3.out.trans Hn2.out, Ho.out, Hb.out⟩
                  case measure => simp [intOf]; omega
                case pos =>
                  have hltkz : (k : Int) < (i : Int) := by omega
                  have hkx : k < xs.length := by omega
                  have hkxz : (k : Int) < (xs.length : Int) := by omega
                  have hL3l : L3.length = xs.length := by rw [HL3.out, rw_len]; exact hL2l
                  have Hst := Lib.hid (show stL xs L3 i k = rwL xs L2 i (k + 1) by rw [HL3.out]; rfl)
                  obtain ⟨b, off, hab, hbb, hat⟩ := (H.out.under Hb.out).at (by omega)
                  obtain ⟨c0, c1, c2, c3⟩ := hat i hlti
                  obtain ⟨d0, d1, d2, d3⟩ := hat k hkx
                  clear hat
                  have ei : xs.getD i tx0 = xs[i] := by simp only [List.getD, List.getElem?_eq_getElem hlti, Option.getD_some]
                  have ek : xs.getD k tx0 = xs[k] := by simp only [List.getD, List.getElem?_eq_getElem hkx, Option.getD_some]
                  have Hyes := Lib.hid (fun (h : cfB xs[i] xs[k] = true) (h1 : i < L3.length) (h2 : k < L3.length) => st_yes (xs := xs) h1 h2 (by rw [ei, ek]; exact h))
                  have Hno := Lib.hid (fun (h : cfB xs[i] xs[k] = false) => st_no (xs := xs) (L := L3) (i := i) (k := k) (by rw [ei, ek]; exact h))
                  clear ei ek
                  rw [Hst.out] at Hyes Hno
                  have HC := Lib.hid (fun W => spec_TxnsConflict xs[i] xs[k] W)
                  obtain ⟨cf, hcf⟩ : ∃ c, c = cfB xs[i] xs[k] := ⟨_, rfl⟩
                  rw [← hcf] at HC Hyes Hno
                  clear hcf
                  unfold agT at HC
                  generalize xs[i] = x at *
                  generalize xs[k] = y at *
                  obtain ⟨xf, xt, xsm, xe⟩ := x
                  obtain ⟨yf, yt, ysm, ye⟩ := y
                  dsimp only at *
                  subst hab
                  have hdr : Below wr.heap.size wr wr.drew := (Below.refl _ _).drew
                  have HS := Lib.hid (fun W (hW : Below wr.heap.size wr W) => (show W.cell? ⟨b, off + i * 4, none⟩ = some (.int .i64 xf) ∧ W.cell? ⟨b, off + i * 4 + 1, none⟩ = some (.int .i64 xt) ∧ W.cell? ⟨b, off + i * 4 + 2, none⟩ = some (.int .i64 xsm) ∧ W.cell? ⟨b, off + i * 4 + 3, none⟩ = some (.int .i64 xe) ∧ W.cell? ⟨b, off + k * 4, none⟩ = some (.int .i64 yf) ∧ W.cell? ⟨b, off + k * 4 + 1, none⟩ = some (.int .i64 yt) ∧ W.cell? ⟨b, off + k * 4 + 2, none⟩ = some (.int .i64 ysm) ∧ W.cell? ⟨b, off + k * 4 + 3, none⟩ = some (.int .i64 ye) from ⟨(below_grown hW).cell c0 (by simp), (below_grown hW).cell c1 (by simp), (below_grown hW).cell c2 (by simp), (below_grown hW).cell c3 (by simp), (below_grown hW).cell d0 (by simp), (below_grown hW).cell d1 (by simp), (below_grown hW).cell d2 (by simp), (below_grown hW).cell d3 (by simp)⟩))
                  clear c0 c1 c2 c3 d0 d1 d2 d3
                  go_wp2_with fail
                  refine wp_region_held_drew (S := fun W' => W'.cell? ⟨b, off + i * 4, none⟩ = some (.int .i64 xf) ∧ W'.cell? ⟨b, off + i * 4 + 1, none⟩ = some (.int .i64 xt) ∧ W'.cell? ⟨b, off + i * 4 + 2, none⟩ = some (.int .i64 xsm) ∧ W'.cell? ⟨b, off + i * 4 + 3, none⟩ = some (.int .i64 xe) ∧ W'.cell? ⟨b, off + k * 4, none⟩ = some (.int .i64 yf) ∧ W'.cell? ⟨b, off + k * 4 + 1, none⟩ = some (.int .i64 yt) ∧ W'.cell? ⟨b, off + k * 4 + 2, none⟩ = some (.int .i64 ysm) ∧ W'.cell? ⟨b, off + k * 4 + 3, none⟩ = some (.int .i64 ye)) (by kernel_rfl) (HS.out _ hdr) (fun hH => ?_)
                  refine takeH 0 (v := ?vu1) rfl (by kernel_rfl) (by kernel_rfl) (by kernel_rfl) (fun _ _ _ h => h) hH rfl ?yu1 ?ru1
                  case yu1 => intro W hSw; go_simp; try with_reducible rfl
                  try simp only [Act.put, List.setIfInBounds_toArray, List.set_cons_zero, List.set_cons_succ]
                  refine takeH 1 (v := ?vu2) rfl (by kernel_rfl) (by kernel_rfl) (by kernel_rfl) (fun _ _ _ h => h) hH rfl ?yu2 ?ru2
                  case yu2 => intro W hSw; go_simp; try with_reducible rfl
                  try simp only [Act.put, List.setIfInBounds_toArray, List.set_cons_zero, List.set_cons_succ]
                  refine takeH 2 (v := ?vu3) rfl (by kernel_rfl) (by kernel_rfl) (by kernel_rfl) (fun _ _ _ h => h) hH rfl ?yu3 ?ru3
                  case yu3 => intro W hSw; go_simp; try with_reducible rfl
                  try simp only [Act.put, List.setIfInBounds_toArray, List.set_cons_zero, List.set_cons_succ]
                  refine takeH 3 (v := ?vu4) rfl (by kernel_rfl) (by kernel_rfl) (by kernel_rfl) (fun _ _ _ h => h) hH rfl ?yu4 ?ru4
                  case yu4 => intro W hSw; go_simp; try with_reducible rfl
                  try simp only [Act.put, List.setIfInBounds_toArray, List.set_cons_zero, List.set_cons_succ]
                  refine takeH 4 (v := ?vu5) rfl (by kernel_rfl) (by kernel_rfl) (by kernel_rfl) (fun _ _ _ h => h) hH rfl ?yu5 ?ru5
                  case yu5 => intro W hSw; go_simp; try with_reducible rfl
                  try simp only [Act.put, List.setIfInBounds_toArray, List.set_cons_zero, List.set_cons_succ]
                  refine takeH 5 (v := ?vu6) rfl (by kernel_rfl) (by kernel_rfl) (by kernel_rfl) (fun _ _ _ h => h) hH rfl ?yu6 ?ru6
                  case yu6 => intro W hSw; go_simp; try with_reducible rfl
                  try simp only [Act.put, List.setIfInBounds_toArray, List.set_cons_zero, List.set_cons_succ]
                  refine takeH 6 (v := ?vu7) rfl (by kernel_rfl) (by kernel_rfl) (by kernel_rfl) (fun _ _ _ h => h) hH rfl ?yu7 ?ru7
                  case yu7 => intro W hSw; go_simp; try with_reducible rfl
                  try simp only [Act.put, List.setIfInBounds_toArray, List.set_cons_zero, List.set_cons_succ]
                  refine takeH 7 (v := ?vu8) rfl (by kernel_rfl) (by kernel_rfl) (by kernel_rfl) (fun _ _ _ h => h) hH rfl ?yu8 ?ru8
                  case yu8 => intro W hSw; go_simp; try with_reducible rfl
                  try simp only [Act.put, List.setIfInBounds_toArray, List.set_cons_zero, List.set_cons_succ]
                  refine callH 8 rfl (by kernel_rfl) rfl (fun K hK => ?_)
                  go_simp
                  refine (HC.out _).mono ?_
                  rintro e w6 ⟨rfl, hb6⟩
                  have hb2 := below_step hdr hdr.size hb6
                  refine hK.out _ _ (HS.out _ hb2) (fun hH => ?_)
                  clear hK K
                  try simp only [Act.put, List.setIfInBounds_toArray, List.set_cons_zero, List.set_cons_succ]
                  refine wpAnyH_done (by kernel_rfl) ?_ _
                  try simp only [Act.put]
                  clear hH
                  have Ho := Lib.hid (Ho.out.below hb2)
                  have Hb := Lib.hid (below_step Hb.out Hb.out.size hb2)
                  clear hb2 hb6 hdr HS HC
                  cases cf with
                  | false =>
                    have Hno := Lib.hid (Hno.out (by first | rfl | trivial))
                    clear Hyes
                    go_wp2
                    go_roundw
                    case rel => exact ⟨k + 1, L3, by omega, by go_num, Hno.out.symm, Ho.out, Hb.out⟩
                    case measure => simp [intOf]; omega
                  | true =>
                    have Hyes := Lib.hid (Hyes.out (by first | rfl | trivial) (by omega) (by omega))
                    clear Hno
                    obtain ⟨g3, cap3, e, _, _, _, hc3, hf3⟩ := Ho.out.row (by omega)
                    simp only [Value.slice.injEq, Option.some.injEq, Addr.mk.injEq, and_true] at e
                    obtain ⟨rfl, -, -⟩ := e
                    have c1 := hc3 i (by omega)
                    have c2 := hc3 k (by omega)
                    have f1 := hf3 i; have f2 := hf3 k
                    clear hc3 hf3
                    obtain ⟨m, hm⟩ : ∃ m, m = min L3[i] L3[k] := ⟨_, rfl⟩
                    rw [← hm] at Hyes
                    have O1 := Lib.hid (((Ho.out.store hL3l.symm i m).1).store (by rw [List.length_set]; exact hL3l.symm) k m).1
                    rw [← Hyes.out] at O1
                    have B1 := Lib.hid ((Hb.out.setCell (p := ⟨w.heap.size, i, none⟩) (Nat.le_refl _) (.int .i64 m)).setCell (p := ⟨w.heap.size, k, none⟩) (Nat.le_refl _) (.int .i64 m))
                    have Hm := Lib.hid (fun (P : Program) ats ty W => (show (Builtin.min_ ats ty #[.int .i64 L3[i], .int .i64 L3[k]]).run P W = .ok (.int .i64 m) W by rw [hm]; exact run_min2 ats ty _ _ W))
                    clear hm Hyes
                    generalize L3[i] = p at *
                    generalize L3[k] = q at *
                    go_wp2_with fail
                    refine wp_region_held_drew (S := fun W' => W'.cell? ⟨w.heap.size, i, none⟩ = some (.int .i64 p) ∧ W'.cell? ⟨w.heap.size, k, none⟩ = some (.int .i64 q)) (by kernel_rfl) ⟨c1, c2⟩ (fun hH => ?_)
                    refine takeH 0 (v := ?vv1) rfl (by kernel_rfl) (by kernel_rfl) (by kernel_rfl) (fun _ _ _ h => h) hH rfl ?yv1 ?rv1
                    case yv1 => intro W hSw; go_simp; try with_reducible rfl
                    try simp only [Act.put, List.setIfInBounds_toArray, List.set_cons_zero, List.set_cons_succ]
                    refine takeH 1 (v := ?vv2) rfl (by kernel_rfl) (by kernel_rfl) (by kernel_rfl) (fun _ _ _ h => h) hH rfl ?yv2 ?rv2
                    case yv2 => intro W hSw; go_simp; try with_reducible rfl
                    try simp only [Act.put, List.setIfInBounds_toArray, List.set_cons_zero, List.set_cons_succ]
                    refine takeH 2 (v := ?vv3) rfl (by kernel_rfl) (by kernel_rfl) (by kernel_rfl) (fun _ _ _ h => h) hH rfl ?yv3 ?rv3
                    case yv3 => intro W hSw; go_simp; try with_reducible rfl
                    try simp only [Act.put, List.setIfInBounds_toArray, List.set_cons_zero, List.set_cons_succ]
                    refine takeH 3 (v := ?vv4) rfl (by kernel_rfl) (by kernel_rfl) (by kernel_rfl) (fun _ _ _ h => h) hH rfl ?yv4 ?rv4
                    case yv4 => intro W hSw; go_simp; try with_reducible rfl
                    try simp only [Act.put, List.setIfInBounds_toArray, List.set_cons_zero, List.set_cons_succ]
                    refine takeH 4 (v := ?vv5) rfl (by kernel_rfl) (by kernel_rfl) (by kernel_rfl) (fun _ _ _ h => h) hH rfl ?yv5 ?rv5
                    case yv5 => intro W hSw; go_simp; try with_reducible rfl
                    try simp only [Act.put, List.setIfInBounds_toArray, List.set_cons_zero, List.set_cons_succ]
                    refine takeH 5 (v := ?vv6) rfl (by kernel_rfl) (by kernel_rfl) (by kernel_rfl) (fun _ _ _ h => h) hH rfl ?yv6 ?rv6
                    case yv6 => intro W hSw; go_simp; try with_reducible rfl
                    try simp only [Act.put, List.setIfInBounds_toArray, List.set_cons_zero, List.set_cons_succ]
                    refine takeH 6 (v := ?vv7) rfl (by kernel_rfl) (by kernel_rfl) (by kernel_rfl) (fun _ _ _ h => h) hH rfl ?yv7 ?rv7
                    case yv7 => intro W hSw; go_simp; try with_reducible rfl
                    try simp only [Act.put, List.setIfInBounds_toArray, List.set_cons_zero, List.set_cons_succ]
                    refine takeH 7 (v := ?vv8) rfl (by kernel_rfl) (by kernel_rfl) (by kernel_rfl) (fun _ _ _ h => h) hH rfl ?yv8 ?rv8
                    case yv8 => intro W hSw; go_simp; try with_reducible rfl
                    try simp only [Act.put, List.setIfInBounds_toArray, List.set_cons_zero, List.set_cons_succ]
                    refine takeH 8 (v := .int .i64 m) rfl (by kernel_rfl) (by kernel_rfl) (by kernel_rfl) (fun _ _ _ h => h) hH rfl ?yv9 ?rv9
                    case yv9 => intro W hSw; have hmm := Hm.out; go_simp; try simp only [hmm]
                    try simp only [Act.put, List.setIfInBounds_toArray, List.set_cons_zero, List.set_cons_succ]
                    refine takeH 9 (v := ?vv10) rfl (by kernel_rfl) (by kernel_rfl) (by kernel_rfl) (fun _ _ _ h => h) hH rfl ?yv10 ?rv10
                    case yv10 => intro W hSw; go_simp; try with_reducible rfl
                    try simp only [Act.put, List.setIfInBounds_toArray, List.set_cons_zero, List.set_cons_succ]
                    refine wpAnyH_done (by kernel_rfl) ?_ _
                    try simp only [Act.put]
                    clear hH
                    skip
                    go_wp2
                    go_roundw
                    case rel => exact ⟨k + 1, _, by omega, by go_num, rfl, O1.out, B1.out.drew⟩
                    case measure => simp [intOf]; omega
        case neg =>
          have hre : r = xs.length := by omega
          subst hre
          have hlt' : ¬ (xs.length : Int) < (xs.length : Int) := by omega
          have hLL : L = lbL xs := HL.out
          subst hLL
          clear HL
          have hLl := lb_len xs
          have Hfr := Lib.hid (OwnL.fresh 40 3 wr Hb.out.size)
          have hal : Below wr.heap.size wr (wr.alloc (.cells #[] 40)) := (Below.refl _ _).alloc (Nat.le_refl _) _
          have Ho := Lib.hid (Ho.out.below hal)
          have Hb := Lib.hid (below_step Hb.out Hb.out.size hal)
          clear hal
          have hl0 : lanesTo xs 0 = [] := rfl
          go_wp2
          clear hltr hlt'
          generalize (wr.alloc (.cells #[] 40)) = w2 at *
          go_loopw [9, 10] (fun u i wr => ∃ n : Nat, n ≤ xs.length ∧ i = .int .i64 n ∧ OwnL 40 3 wr w.heap.size u (lanesTo xs n) ∧ Own 3 wr w.heap.size (.slice (some ⟨w.heap.size, 0, none⟩) xs.length xs.length) (lbL xs) ∧ Below w.heap.size w wr) (fun _ i _ => xs.length - (intOf i).toNat)
          case atStart => exact ⟨0, Nat.zero_le _, rfl, by rw [hl0]; exact Hfr.out, Ho.out, Hb.out⟩
          case round =>
            clear Hfr Ho Hb hl0
            obtain ⟨n, hn, rfl, hu, ho, hb⟩ := hrel
            have Hu := Lib.hid hu; have Ho := Lib.hid ho; have Hb := Lib.hid hb; clear hu ho hb
            by_cases hlt : n < xs.length
            case neg =>
              have hne : n = xs.length := by omega
              subst hne
              have hlt' : ¬ (xs.length : Int) < (xs.length : Int) := by omega
              go_wp2
              go_ret
              exact ⟨_, rfl, Hu.out, Hb.out⟩
            case pos =>
              have hltz : (n : Int) < (xs.length : Int) := by omega
              have Hlo := Lib.hid ((Ho.out.lt w.heap.size rfl).2)
              obtain ⟨ls, hls⟩ : ∃ ls, ls = lanesTo xs n := ⟨_, rfl⟩
              have hlsl : ls.length ≤ n := by rw [hls]; unfold lanesTo; rw [List.length_map]; exact labs_len xs n
              rw [← hls] at Hu
              have Hls := Lib.hid hls; clear hls
              have hal : Below wr.heap.size wr (wr.alloc (.cells #[] 3)) := (Below.refl _ _).alloc (Nat.le_refl _) _
              have Hone := Lib.hid (own_empty 3 wr (Nat.le_refl wr.heap.size))
              have HU := Lib.hid (show OwnR 40 3 1 (wr.alloc (.cells #[] 3)) w.heap.size wr.heap.size _ _ from OwnR.below Hu.out hal (Nat.le_refl _))
              have Ho := Lib.hid (Ho.out.below hal)
              have Hb := Lib.hid (below_step Hb.out Hb.out.size hal)
              have hwz := hal.size
              clear hal Hu
              have hz0 : zs (laneTo xs n 0) = [] := rfl
              obtain ⟨z, hz⟩ : ∃ z, z = wr.heap.size := ⟨_, rfl⟩
              skip
              have hw3 : w.heap.size < wr.heap.size := Hlo.out
              go_wp2
              generalize (wr.alloc (.cells #[] 3)) = w3 at *
              generalize wr.heap.size = z3 at *
              go_loopw [11, 12] (fun v i wr => ∃ k : Nat, k ≤ xs.length ∧ i = .int .i64 k ∧ Own 3 wr z3 v (zs (laneTo xs n k)) ∧ OwnR 40 3 1 wr w.heap.size z3 _ (ls.map lnF) ∧ Own 3 wr w.heap.size (.slice (some ⟨w.heap.size, 0, none⟩) xs.length xs.length) (lbL xs) ∧ Below w.heap.size w wr ∧ z3 ≤ wr.heap.size) (fun _ i _ => xs.length - (intOf i).toNat)
              case atStart => exact ⟨0, Nat.zero_le _, rfl, by rw [hz0]; exact Hone.out, HU.out, Ho.out, Hb.out, hwz⟩
              case round =>
                clear Hone HU Ho Hb hwz hz0
                obtain ⟨k, hk, rfl, hv, hu, ho, hb, hz⟩ := hrel
                have Hv := Lib.hid hv; have Hu := Lib.hid hu; have Ho := Lib.hid ho; have Hb := Lib.hid hb; clear hv hu ho hb
                have hkl := laneTo_len xs n k
                by_cases hltk : k < xs.length
                case pos =>
                  have hltkz : (k : Int) < (xs.length : Int) := by omega
                  obtain ⟨g5, cap5, e, _, _, _, hc5, hf5⟩ := Ho.out.row (by omega)
                  simp only [Value.slice.injEq, Option.some.injEq, Addr.mk.injEq, and_true] at e
                  obtain ⟨rfl, -, -⟩ := e
                  have c1 := hc5 k (by omega)
                  clear hc5 hf5
                  have eg : (lbL xs).getD k 0 = (lbL xs)[k]'(by omega) := by simp only [List.getD, List.getElem?_eq_getElem (show k < (lbL xs).length by omega), Option.getD_some]
                  by_cases hq : (lbL xs)[k]'(by omega) = (n : Int)
                  case neg =>
                    have hqb : ((lbL xs)[k]'(by omega) == (n : Int)) = false := by rw [beq_eq_false_iff_ne]; exact hq
                    have Hs := Lib.hid (laneTo_no (xs := xs) (m := n) (n := k) (by rw [eg]; exact hq))
                    clear eg hq
                    generalize (lbL xs)[k]'(by omega) = y at *
                    go_wp2
                    go_roundw
                    case rel => exact ⟨k + 1, by omega, by go_num, by rw [Hs.out]; exact Hv.out, Hu.out, Ho.out, Hb.out, hz⟩
                    case measure => simp [intOf]; omega
                  case pos =>
                    have hqb : ((lbL xs)[k]'(by omega) == (n : Int)) = true := by rw [beq_iff_eq]; exact hq
                    have Hs := Lib.hid (show zs (laneTo xs n (k + 1)) = zs (laneTo xs n k) ++ [(k : Int)] by rw [laneTo_yes (by rw [eg]; exact hq), zs_snoc])
                    clear eg hq
                    generalize (lbL xs)[k]'(by omega) = y at *
                    have hzl : (zs (laneTo xs n k)).length ≤ 1099511627776 := by rw [zs_len]; omega
                    have Hap := Lib.hid (ownR_apart Hu.out Ho.out (by decide))
                    go_wp2_with (at_builtin; refine wpList_push TIlb rfl (.tmp 89) (.tmp 91) rfl z3 _ (zs (laneTo xs n k)) (k : Int) rfl Hv.out hzl rfl hz ?_; intro v8 w8 hv8 hg8)
                    skip
                    go_roundw
                    case rel => exact ⟨k + 1, by omega, by go_num, by rw [Hs.out]; exact hv8, Hu.out.same fun b h1 h2 => hg8.block b (by omega) (fun e => by have := (Hv.out.lt b e.symm).1; omega), Ho.out.kept hg8 (.inr fun e => by have := (Hv.out.lt w.heap.size e.symm).1; have := hw3; omega), Hb.out.grown hg8 Hb.out.size (fun g e => by have := (Hv.out.lt g e).1; have := hw3; omega), Nat.le_trans hz hg8.size⟩
                    case measure => simp [intOf]; omega
                case neg =>
                  have hke : k = xs.length := by omega
                  subst hke
                  have hlt' : ¬ (xs.length : Int) < (xs.length : Int) := by omega
                  rw [laneTo_all] at Hv hkl
                  obtain ⟨av, cv, rfl, _, _⟩ := Hv.out.ints
                  rw [zs_len] at Hv ⊢
                  by_cases h0 : (laneN xs n).length = 0
                  case pos =>
                    have Hs := Lib.hid (show lanesTo xs (n + 1) = ls by rw [Hls.out]; exact lanes_no h0)
                    have hg1 : decide ((0 : Int) < ((laneN xs n).length : Int)) = false := decide_eq_false (by omega)
                    have hg2 : ¬ (0 : Int) < ((laneN xs n).length : Int) := by omega
                    clear h0
                    go_wp2
                    go_roundw
                    case rel => exact ⟨n + 1, by omega, by go_num, by rw [Hs.out]; exact Hu.out.mono hz, Ho.out, Hb.out⟩
                    case measure => simp [intOf]; omega
                  case neg =>
                    have Hs := Lib.hid (show (lanesTo xs (n + 1)).map lnF = ls.map lnF ++ [lnF (laneN xs n)] by rw [lanes_yes (by omega), ← Hls.out, List.map_append]; rfl)
                    have hg1 : decide ((0 : Int) < ((laneN xs n).length : Int)) = true := decide_eq_true (by omega)
                    have hg2 : (0 : Int) < ((laneN xs n).length : Int) := by omega
                    clear h0
                    obtain ⟨hfd, hap, hnew⟩ := lane_row (B := w.heap.size) Hv.out (show w.heap.size ≤ z3 by have := hw3; omega)
                    have Hfd := Lib.hid hfd; have Hap := Lib.hid hap; have Hnew := Lib.hid hnew; clear hfd hap hnew
                    have hel : (ls.map lnF).length ≤ 1048576 := by rw [List.length_map]; omega
                    have hB := Hb.out.size
                    have Hap2 := Lib.hid (ownR_apart Hu.out Ho.out (by decide))
                    skip
                    go_wp2_with (at_builtin; refine wpList_push_own (Ei := 3) Try.underlying30 lane_inf rfl (by decide) (by decide) rfl (.tmp 96) (.tmp 98) rfl w.heap.size _ (ls.map lnF) _ _ _ rfl rfl (by intro u hu; simp at hu; subst hu; rfl) rfl rfl Hfd.out Hap.out z3 Hu.out hz Hnew.out hel rfl hB ?_; intro v9 w9 hu9 hg9 hat9)
                    go_roundw
                    case rel => exact ⟨n + 1, by omega, by go_num, by unfold OwnL; rw [Hs.out]; exact hu9, Ho.out.kept hg9 Hap2.out, Hb.out.grown hg9 Hb.out.size (fun g e => (Hu.out.lt g e).1)⟩
                    case measure => simp [intOf]; omega

end Go.Proofs.Ytnjjbplocokdeab

/- The reference's lists of lanes and their depth, each by a walk of its text; condition: the lists are shorter than 2^40. -/
namespace Go.Proofs.Ytnjjbplocokdeab
open Go.RowKit

theorem vld_len {xs : List Tx} (h : vldB xs = true) : xs.length ≤ 16 := by
  unfold vldB at h; rw [Bool.and_eq_true, decide_eq_true_eq] at h; exact h.2
theorem vld_all {xs : List Tx} (h : vldB xs = true) : xs.all txB = true := by
  unfold vldB at h; rw [Bool.and_eq_true] at h; exact h.1
theorem lns_no {xs : List Tx} (h : vldB xs = false) : lnsN xs = [] ∧ dpZ xs = -1 := by unfold lnsN dpZ; rw [h]; exact ⟨rfl, rfl⟩
theorem lns_yes {xs : List Tx} (h : vldB xs = true) : lnsN xs = lanesN xs ∧ dpZ xs = (maxL (lanesN xs) : Int) := by unfold lnsN dpZ; rw [h]; exact ⟨rfl, rfl⟩
theorem maxL_step {ls : List (List Nat)} {k : Nat} (hk : k < ls.length) : maxL (ls.take (k + 1)) = max (maxL (ls.take k)) ls[k].length := by
  unfold maxL; rw [List.take_succ_eq_append_getElem hk, List.foldl_append]; rfl
theorem maxL_le {ls : List (List Nat)} {n : Nat} (h : ∀ l ∈ ls, l.length ≤ n) : maxL ls ≤ n := by
  have : ∀ (ls : List (List Nat)) (m : Nat), m ≤ n → (∀ l ∈ ls, l.length ≤ n) → ls.foldl (fun n l => max n l.length) m ≤ n := by
    intro ls
    induction ls with
    | nil => intro m hm _; exact hm
    | cons l ls ih => intro m hm h; exact ih _ (by have := h l (by simp); show max m l.length ≤ n; omega) fun x hx => h x (List.mem_cons_of_mem _ hx)
  exact this ls 0 (Nat.zero_le _) h

theorem spec_LanesOf (xs : List Tx) (a : Option Addr) (cap : Nat) (fp : List Nat) (w : World) (hbig : xs.length ≤ 1099511627776) (h : Txs w xs (.slice a xs.length cap) fp) :
    Calls Try.prog 11 #[.slice a xs.length cap] w fun e w' => ∃ u, e = .returned u ∧ OwnL 40 3 w' w.heap.size u (lnsN xs) ∧ Below w.heap.size w w' := by
  have HV := Lib.hid (spec_l32Valid xs a cap fp w hbig h)
  have H := Lib.hid h; clear h
  have Hno := Lib.hid (lns_no (xs := xs))
  have Hyes := Lib.hid (lns_yes (xs := xs))
  have Hlen := Lib.hid (vld_len (xs := xs))
  cases hv : vldB xs with
  | false =>
    rw [hv] at HV
    have hl := (Hno.out hv).1
    have Hl := Lib.hid hl; clear hl hv
    go_enter Try.func11, Try.ntmps11
    go_wp2_with fail
    refine HV.out.mono ?_
    rintro e w1 ⟨rfl, hb1⟩
    have Hb1 := Lib.hid hb1; clear hb1
    go_wp2
    go_ret
    exact ⟨_, rfl, by rw [Hl.out]; exact OwnL.fresh 40 3 w1 Hb1.out.size, Hb1.out.alloc Hb1.out.size _⟩
  | true =>
    rw [hv] at HV
    have hl := (Hyes.out hv).1
    have hlen := Hlen.out hv
    have Hl := Lib.hid hl; clear hl hv
    go_enter Try.func11, Try.ntmps11
    go_wp2_with fail
    refine HV.out.mono ?_
    rintro e w1 ⟨rfl, hb1⟩
    have Hb1 := Lib.hid hb1; clear hb1
    go_wp2_with fail
    refine (spec_l32Lanes xs a cap fp w1 (by omega) (H.out.under Hb1.out)).mono ?_
    rintro e w2 ⟨u, rfl, hu, hb2⟩
    have Hb2 := Lib.hid (below_step Hb1.out Hb1.out.size hb2)
    have Hu := Lib.hid (hu.from Hb1.out.size); clear hu hb2
    go_wp2
    go_ret
    exact ⟨_, rfl, by rw [Hl.out]; exact Hu.out, Hb2.out⟩

theorem spec_LanesDepth (xs : List Tx) (a : Option Addr) (cap : Nat) (fp : List Nat) (w : World) (hbig : xs.length ≤ 1099511627776) (h : Txs w xs (.slice a xs.length cap) fp) :
    Calls Try.prog 19 #[.slice a xs.length cap] w fun e w' => e = .returned (.int .i64 (dpZ xs)) ∧ Below w.heap.size w w' := by
  have HV := Lib.hid (spec_l32Valid xs a cap fp w hbig h)
  have H := Lib.hid h; clear h
  have Hno := Lib.hid (lns_no (xs := xs))
  have Hyes := Lib.hid (lns_yes (xs := xs))
  have Hlen := Lib.hid (vld_len (xs := xs))
  cases hv : vldB xs with
  | false =>
    rw [hv] at HV
    have Hl := Lib.hid (Hno.out hv).2; clear hv
    generalize dpZ xs = D at *
    go_enter Try.func19, Try.ntmps19
    go_wp2_with fail
    refine HV.out.mono ?_
    rintro e w1 ⟨rfl, hb1⟩
    have Hb1 := Lib.hid hb1; clear hb1
    go_wp2
    go_ret
    exact ⟨ret_int (by rw [Hl.out]), Hb1.out⟩
  | true =>
    rw [hv] at HV
    have hlen := Hlen.out hv
    have hcnt := lanes_cnt xs
    have Hle := Lib.hid (show ∀ l ∈ lanesN xs, l.length ≤ 16 from fun l hl => by
      obtain ⟨m, _, rfl⟩ := List.mem_map.1 hl
      have := lane_len xs m; omega)
    have Hl := Lib.hid (Hyes.out hv).2; clear hv
    generalize dpZ xs = D at *
    go_enter Try.func19, Try.ntmps19
    go_wp2_with fail
    refine HV.out.mono ?_
    rintro e w1 ⟨rfl, hb1⟩
    have Hb1 := Lib.hid hb1; clear hb1
    go_wp2_with fail
    refine (spec_l32Lanes xs a cap fp w1 (by omega) (H.out.under Hb1.out)).mono ?_
    rintro e w2 ⟨u, rfl, hu, hb2⟩
    have Hb2 := Lib.hid (below_step Hb1.out Hb1.out.size hb2)
    obtain ⟨fl, hln⟩ := hu.lns
    obtain ⟨al, cl, rfl⟩ := hln.slice
    have Hln := Lib.hid hln; clear hu hb2 hln
    generalize lanesN xs = ls at *
    go_wp2
    go_loopw [3, 5] (fun v i wr => ∃ k : Nat, k ≤ ls.length ∧ i = .int .i64 k ∧ v = .int .i64 (maxL (ls.take k) : Nat) ∧ Below w2.heap.size w2 wr) (fun _ i _ => ls.length - (intOf i).toNat)
    case atStart => exact ⟨0, Nat.zero_le _, rfl, rfl, Below.refl _ _⟩
    case round =>
      obtain ⟨k, hk, rfl, rfl, hb⟩ := hrel
      have Hb := Lib.hid hb; clear hb
      by_cases hlt : k < ls.length
      case neg =>
        have hke : k = ls.length := by omega
        subst hke
        have hlt' : ¬ (ls.length : Int) < (ls.length : Int) := by omega
        rw [List.take_length]
        have HD := Lib.hid (show (maxL ls : Int) = D from Hl.out.symm)
        generalize ((maxL ls : Nat) : Int) = q at *
        go_wp2
        go_ret
        exact ⟨ret_int (by rw [HD.out]), below_step Hb2.out Hb2.out.size Hb.out⟩
      case pos =>
        obtain ⟨b, off, rfl, hbb, hat⟩ := (Hln.out.under Hb.out).at (by omega)
        obtain ⟨pa, pc, c0, _, _⟩ := hat k hlt
        have Hs := Lib.hid (show ((maxL (ls.take (k + 1)) : Nat) : Int) = max ((maxL (ls.take k) : Nat) : Int) (ls[k].length : Int) by rw [maxL_step hlt]; omega)
        have hmx : ∀ (P : Program) ats ty W, (Builtin.max_ ats ty #[.int .i64 ((maxL (ls.take k) : Nat) : Int), .int .i64 (ls[k].length : Int)]).run P W = .ok (.int .i64 ((maxL (ls.take (k + 1)) : Nat) : Int)) W := fun P ats ty W => by rw [Hs.out]; exact run_max2 ats ty _ _ W
        clear hat
        obtain ⟨q2, hq2⟩ : ∃ q, q = ((maxL (ls.take (k + 1)) : Nat) : Int) := ⟨_, rfl⟩
        rw [← hq2] at hmx
        have Hq2 := Lib.hid hq2; clear hq2 Hs
        generalize ((maxL (ls.take k) : Nat) : Int) = q at *
        generalize ls[k].length = n at *
        go_wp2
        go_roundw
        case rel => exact ⟨k + 1, by omega, by go_num, by rw [Hq2.out], Hb.out⟩
        case measure => simp [intOf]; omega

end Go.Proofs.Ytnjjbplocokdeab

/- The reference's total of a ledger, by a walk of its text; condition: the list is shorter than 2^40. -/
namespace Go.Proofs.Ytnjjbplocokdeab
open Go.RowKit

/-- The total of a ledger, or -1. -/
def totZ (l : List Int) (n : Int) : Int := if ldB l n then l.sum + n else -1
theorem sum_take_succ {l : List Int} {k : Nat} (hk : k < l.length) : (l.take (k + 1)).sum = (l.take k).sum + l[k] := by
  rw [List.take_succ_eq_append_getElem hk, List.sum_append]; simp
theorem sum_take_bd {l : List Int} (h : ∀ b ∈ l, 0 ≤ b ∧ b ≤ 999) : ∀ k, k ≤ l.length → 0 ≤ (l.take k).sum ∧ (l.take k).sum ≤ 999 * k
  | 0, _ => by simp
  | k + 1, hk => by
    have h1 := sum_take_bd h k (by omega)
    have h2 := h _ (List.getElem_mem (show k < l.length by omega))
    rw [sum_take_succ (by omega)]; omega

end Go.Proofs.Ytnjjbplocokdeab

/- A region that draws its order, operation by operation, where the condition on the world is kept up to a last operation alone (a store into what was loaded): general steps, nothing here speaks of the program. -/
namespace Go.Proofs.Ytnjjbplocokdeab
open Go.RowKit

/-- Whatever order is picked from here on; S holds behind every operation until number m has come up. -/
def wpAnyL (P : Program) (md : Region.Mode) (ops : Array Oper) (Q : Exit → Act → World → Prop) (m : Nat) (S : World → Prop) : Nat → Array Bool → Act → World → Prop
  | 0, listed, a, w => Region.ready md ops listed = [] ∧ Q .normal a w
  | fuel + 1, listed, a, w =>
    (Region.ready md ops listed = [] → Q .normal a w) ∧
    ∀ i ∈ Region.ready md ops listed, wpOp P ops Q i (fun a' w' => ((listed.setIfInBounds i true).getD m true = false → S w') ∧ wpAnyL P md ops Q m S fuel (listed.setIfInBounds i true) a' w') a w

section
variable {P : Program} {md : Region.Mode} {ops : Array Oper} {Q : Exit → Act → World → Prop} {S : World → Prop} {m : Nat}

theorem any_of_L : ∀ (fuel : Nat) (listed : Array Bool) (a : Act) (w : World), wpAnyL P md ops Q m S fuel listed a w → wpAny P md ops Q fuel listed a w
  | 0, _, _, _, h => h
  | fuel + 1, _, _, _, h => ⟨h.1, fun i hi => wpOp_mono (fun a' w' h' => any_of_L fuel _ a' w' h'.2) (h.2 i hi)⟩

/-- Of two that may come up, neither waits for the other. -/
theorem ready_pair {listed : Array Bool} {i j : Nat} (hi : i ∈ Region.ready md ops listed) (hj : j ∈ Region.ready md ops listed) :
    listed.getD j true = false ∧ ∃ o, ops[j]? = some o ∧ ∀ e ∈ o.after, Region.binds md e = true → e.on ≠ i := by
  obtain ⟨hun, o, ho, hall⟩ := mem_ready.1 hj
  refine ⟨hun, o, ho, fun e he hb heq => ?_⟩
  have h1 := hall e he hb
  have h0 := (mem_ready.1 hi).1
  rw [heq] at h1
  by_cases hlt : i < listed.size <;> simp [hlt] at h0 h1
  rw [h0] at h1; cases h1
/-- Number m waits for number i. -/
def waits (md : Region.Mode) (ops : Array Oper) (m i : Nat) : Bool := (ops[m]?.map fun o => o.after.any fun e => Region.binds md e && e.on == i).getD false
theorem waits_not {listed : Array Bool} {i : Nat} (hw : waits md ops m i = true) (hi : i ∈ Region.ready md ops listed) : m ∉ Region.ready md ops listed := by
  intro hm
  obtain ⟨_, o, ho, hno⟩ := ready_pair hi hm
  unfold waits at hw
  rw [ho, Option.map_some, Option.getD_some, Array.any_eq_true'] at hw
  obtain ⟨e, he, hb⟩ := hw
  rw [Bool.and_eq_true, beq_iff_eq] at hb
  exact hno e he hb.1 hb.2

/-- Whoever may come up ahead of number i leaves its temporaries alone. -/
def FreeAt (md : Region.Mode) (ops : Array Oper) (oi : Oper) (i : Nat) (listed : Array Bool) : Prop :=
  ∀ j oj, ops[j]? = some oj → j ≠ i → listed.getD j true = false → (∀ e ∈ oj.after, Region.binds md e = true → e.on ≠ i) → oi.apart ops oj = true
theorem FreeAt.set {oi : Oper} {i j : Nat} {listed : Array Bool} (h : FreeAt md ops oi i listed) (hj : listed.getD j true = false) : FreeAt md ops oi i (listed.setIfInBounds j true) := by
  intro k ok hk hki hun hno
  refine h k ok hk hki ?_ hno
  rcases Nat.decEq j k with hjk | hjk
  · rwa [getD_set_ne true hjk] at hun
  · exact hjk ▸ hj
theorem firstL {i : Nat} {oi : Oper} {v : Value} (hi : ops[i]? = some oi) (hsel : ∀ (j : Nat) (o : Oper) cs b, ops[j]? = some o → o.op ≠ .select cs b)
    (hQ : ∀ c a w, Q (.panic c) (a.put oi.dst v) w → Q (.panic c) a w) (hw : waits md ops m i = true) (fuel : Nat) :
    ∀ (listed : Array Bool) (a : Act) (w : World), FreeAt md ops oi i listed → listed.getD m true = false → i ∈ Region.ready md ops listed → YieldsIf P ops S oi v a → S w →
      wpAnyL P md ops Q m S fuel (listed.setIfInBounds i true) (a.put oi.dst v) w → wpAnyL P md ops Q m S (fuel + 1) listed a w := by
  have im : ∀ {listed}, i ∈ Region.ready md ops listed → i ≠ m := fun hr e => waits_not hw hr (e ▸ hr)
  induction fuel with
  | zero =>
    intro listed a w _ _ hr hy hS H
    refine ⟨fun h => absurd hr (by rw [h]; simp), fun j hj => ?_⟩
    rcases Nat.decEq j i with hji | rfl
    · exact absurd (ready_mono hj hji) (by rw [H.1]; simp)
    · exact hy.wpOp hi hS ⟨fun _ => hS, H⟩
  | succ fuel ih =>
    intro listed a w hfree hmf hr hy hS H
    refine ⟨fun h => absurd hr (by rw [h]; simp), fun j hj => ?_⟩
    rcases Nat.decEq j i with hji | rfl
    · have hjm : j ≠ m := fun e => waits_not hw hr (e ▸ hj)
      obtain ⟨hjun, oj, hoj, hno⟩ := ready_pair hr hj
      refine wpOp_mono (fun a' w' h3 => ?_) (wpOp_putIf hoj (hfree j oj hoj hji hjun hno) (fun cs b => hsel i oi cs b hi) (fun cs b => hsel j oj cs b hoj) hQ hy (H.2 j (ready_mono hj hji)))
      have hS' : S w' := h3.2.1 (by rw [getD_set_ne true hjm, getD_set_ne true (im hr)]; exact hmf)
      exact ⟨fun _ => hS', ih _ a' w' (hfree.set hjun) (by rw [getD_set_ne true hjm]; exact hmf) (ready_mono hr (Ne.symm hji)) h3.1 hS' (by rw [Array.setIfInBounds_comm _ _ hji]; exact h3.2.2)⟩
    · exact hy.wpOp hi hS ⟨fun _ => hS, H⟩
end

section
variable {P : Program} {md : Region.Mode} {l : List Oper} {Q : Exit → Act → World → Prop} {S : World → Prop} {oi : Oper} {rest : List Oper} {fuel m : Nat} {listed : Array Bool} {a : Act} {w : World}

/-- Take number i first: it is carried out and yields v in every world that meets S. -/
theorem takeL (i : Nat) {v : Value} (hi : l.drop i = oi :: rest) (hs : Region.noSelect l.toArray = true) (hf : Region.free md l.toArray listed i = true) (hr : (Region.ready md l.toArray listed).contains i = true) (hm : waits md l.toArray m i = true) (hm' : listed.getD m true = false)
    (hQ : ∀ c a w, Q (.panic c) (a.put oi.dst v) w → Q (.panic c) a w) (hS : S w) (hw : Region.wanted oi (yielded l.toArray a.tmps) = true)
    (hy : ∀ w, S w → (execOp a.eval oi).run P w = .ok (.value v) w)
    (h : wpAnyL P md l.toArray Q m S fuel (listed.setIfInBounds i true) (a.put oi.dst v) w) : wpAnyL P md l.toArray Q m S (fuel + 1) listed a w :=
  firstL (drop_at hi) (Region.noSelect_spec hs) hQ hm fuel listed a w (Region.free_spec (drop_at hi) hf) hm' (by simpa using hr) (.inl ⟨hw, hy⟩) hS h
/-- Number i is left out by its guard. -/
theorem skipL (i : Nat) (hi : l.drop i = oi :: rest) (hs : Region.noSelect l.toArray = true) (hf : Region.free md l.toArray listed i = true) (hr : (Region.ready md l.toArray listed).contains i = true) (hm : waits md l.toArray m i = true) (hm' : listed.getD m true = false)
    (hQ : ∀ c a w, Q (.panic c) (a.put oi.dst undef) w → Q (.panic c) a w) (hS : S w) (hw : Region.wanted oi (yielded l.toArray a.tmps) = false)
    (h : wpAnyL P md l.toArray Q m S fuel (listed.setIfInBounds i true) (a.put oi.dst undef) w) : wpAnyL P md l.toArray Q m S (fuel + 1) listed a w :=
  firstL (drop_at hi) (Region.noSelect_spec hs) hQ hm fuel listed a w (Region.free_spec (drop_at hi) hf) hm' (by simpa using hr) (.inr ⟨hw, rfl⟩) hS h
/-- Number i alone may come up, and is not the last: it is carried out, and S is shown behind it. -/
theorem callL (i : Nat) (hi : l.drop i = oi :: rest) (hr : Region.ready md l.toArray listed = [i]) (hw : Region.wanted oi (yielded l.toArray a.tmps) = true)
    (h : ∀ K' : Act → World → Prop, Shut (∀ a w, S w → (S w → wpAnyL P md l.toArray Q m S fuel (listed.setIfInBounds i true) a w) → K' a w) → Oper.wp P oi a w K' Q) : wpAnyL P md l.toArray Q m S (fuel + 1) listed a w := by
  refine ⟨fun h0 => absurd (hr ▸ h0) (by simp), fun j hj => ?_⟩
  rw [hr] at hj
  have : j = i := by simpa using hj
  subst this
  exact wpOp_step (drop_at hi) fun K' hK => by rw [if_pos hw]; exact h K' fun a w hS hW => hK a w ⟨fun _ => hS, hW hS⟩
/-- The last one. -/
theorem lastL (hi : l.drop m = oi :: rest) (hr : Region.ready md l.toArray listed = [m]) (hend : Region.ready md l.toArray (listed.setIfInBounds m true) = []) (hm : (listed.setIfInBounds m true).getD m true = true) (hw : Region.wanted oi (yielded l.toArray a.tmps) = true)
    (h : ∀ K' : Act → World → Prop, Shut (∀ a w, Q .normal a w → K' a w) → Oper.wp P oi a w K' Q) : wpAnyL P md l.toArray Q m S (fuel + 1) listed a w := by
  refine ⟨fun h0 => absurd (hr ▸ h0) (by simp), fun j hj => ?_⟩
  rw [hr] at hj
  have : j = m := by simpa using hj
  subst this
  refine wpOp_step (drop_at hi) fun K' hK => by
    rw [if_pos hw]
    refine h K' fun a w hq => hK a w ⟨fun e => absurd (hm.symm.trans e) (by simp), ?_⟩
    cases fuel with
    | zero => exact ⟨hend, hq⟩
    | succ f => exact ⟨fun _ => hq, by rw [hend]; simp⟩
theorem wp_region_L (m : Nat) (S : World → Prop) {id : Nat} {ops : Array Oper} {a : Act} {w : World} (hm : P.follows .mixedOrders = true) (hS : S w.drew)
    (h : S w.drew → wpAnyL P .any ops Q m S ops.size (Array.replicate ops.size false) a w.drew) : (Code.region id ops true).wp P Q a w :=
  wp_region_any hm (any_of_L _ _ _ _ (h hS))
end

end Go.Proofs.Ytnjjbplocokdeab

/- The program's ledger in memory, whose first six cells are the embedded balances, and the functions on balances, each by a walk of its text; conditions: the ledger is valid, and so is the transaction. -/
namespace Go.Proofs.Ytnjjbplocokdeab
open Go.RowKit

def gd (l : List Int) (i : Nat) : Int := l.getD i 0
theorem gd_at {l : List Int} {i : Nat} (h : i < l.length) : gd l i = l[i] := by unfold gd; simp [List.getD, List.getElem?_eq_getElem h]
theorem gd_bal (l : List Int) (i : Nat) : bal l i = gd l i := by unfold bal gd; simp
def c6 (l : List Int) : Array Value := #[.int .i64 (gd l 0), .int .i64 (gd l 1), .int .i64 (gd l 2), .int .i64 (gd l 3), .int .i64 (gd l 4), .int .i64 (gd l 5)]
def c7 (l : List Int) (n : Int) : Array Value := #[.int .i64 (gd l 0), .int .i64 (gd l 1), .int .i64 (gd l 2), .int .i64 (gd l 3), .int .i64 (gd l 4), .int .i64 (gd l 5), .int .i64 n]
theorem c7_at (l : List Int) (n : Int) {i : Nat} (h : i < 6) : (c7 l n)[i]? = some (.int .i64 (gd l i)) := by
  match i, h with
  | 0, _ => rfl
  | 1, _ => rfl
  | 2, _ => rfl
  | 3, _ => rfl
  | 4, _ => rfl
  | 5, _ => rfl
theorem c6_at (l : List Int) {i : Nat} (h : i < 6) : (c6 l)[i]? = some (.int .i64 (gd l i)) := by
  match i, h with
  | 0, _ => rfl
  | 1, _ => rfl
  | 2, _ => rfl
  | 3, _ => rfl
  | 4, _ => rfl
  | 5, _ => rfl
theorem six {l : List Int} (h : l.length = 6) : ∃ a b c d e f, l = [a, b, c, d, e, f] := by
  match l, h with
  | [a, b, c, d, e, f], _ => exact ⟨a, b, c, d, e, f, rfl⟩
theorem c7_set {l : List Int} (h : l.length = 6) (n : Int) {i : Nat} (hi : i < 6) (z : Int) : (c7 l n).setIfInBounds i (.int .i64 z) = c7 (l.set i z) n := by
  obtain ⟨a, b, c, d, e, f, rfl⟩ := six h
  match i, hi with
  | 0, _ => rfl
  | 1, _ => rfl
  | 2, _ => rfl
  | 3, _ => rfl
  | 4, _ => rfl
  | 5, _ => rfl
theorem c6_take {l : List Int} (h : l.length = 6) {i : Nat} (hi : i < 6) : (c6 (l.take i)).setIfInBounds i (.int .i64 (gd l i)) = c6 (l.take (i + 1)) := by
  obtain ⟨a, b, c, d, e, f, rfl⟩ := six h
  match i, hi with
  | 0, _ => rfl
  | 1, _ => rfl
  | 2, _ => rfl
  | 3, _ => rfl
  | 4, _ => rfl
  | 5, _ => rfl
/-- The balances are those of a ledger. -/
def okB (l : List Int) : Bool := l.all balB && decide (l.length = 6)
theorem okB_ld (l : List Int) (n : Int) : ldB l n = (okB l && decide (0 ≤ n ∧ n ≤ 5994)) := by unfold ldB okB; rw [Bool.and_assoc]

/-- What balancesOf answers. -/
def BoP (w : World) (l : List Int) (e : Ending) (w' : World) : Prop := ((okB l = true ∧ e = .returned (.tuple #[.agg (c6 l), .bool true])) ∨ (okB l = false ∧ e = .returned (.tuple #[.agg #[.int .i64 0, .int .i64 0, .int .i64 0, .int .i64 0, .int .i64 0, .int .i64 0], .bool false]))) ∧ Below w.heap.size w w'
set_option maxHeartbeats 4000000 in
theorem lg_balancesOf (a : Option Addr) (cap : Nat) (l : List Int) (w : World) (hbig : l.length ≤ 1099511627776) (hl : IntsAt w a l) :
    Calls Try.prog 64 #[.slice a l.length cap] w (BoP w l) := by
  have hb0 : Below w.heap.size w ((w.alloc (.cells #[.int .i64 0, .int .i64 0, .int .i64 0, .int .i64 0, .int .i64 0, .int .i64 0] 61)).alloc (.cells #[.int .i64 0, .int .i64 0, .int .i64 0, .int .i64 0, .int .i64 0, .int .i64 0] 61)) := ((Below.refl _ _).alloc (Nat.le_refl _) _).alloc (by simp only [World.size_alloc]; omega) _
  have s1 := (Str.new w 61 #[.int .i64 0, .int .i64 0, .int .i64 0, .int .i64 0, .int .i64 0, .int .i64 0]).alloc (.cells #[.int .i64 0, .int .i64 0, .int .i64 0, .int .i64 0, .int .i64 0, .int .i64 0] 61)
  have s2 := Str.new (w.alloc (.cells #[.int .i64 0, .int .i64 0, .int .i64 0, .int .i64 0, .int .i64 0, .int .i64 0] 61)) 61 #[.int .i64 0, .int .i64 0, .int .i64 0, .int .i64 0, .int .i64 0, .int .i64 0]
  simp only [World.size_alloc] at s2
  have S1 := Lib.hid s1; have S2 := Lib.hid s2; have Hb := Lib.hid hb0; clear s1 s2 hb0
  have hz : ((w.alloc (.cells #[.int .i64 0, .int .i64 0, .int .i64 0, .int .i64 0, .int .i64 0, .int .i64 0] 61)).alloc (.cells #[.int .i64 0, .int .i64 0, .int .i64 0, .int .i64 0, .int .i64 0, .int .i64 0] 61)).heap.size = w.heap.size + 2 := by simp
  have hyes : ∀ e w', okB l = true → e = .returned (.tuple #[.agg (c6 l), .bool true]) → Below w.heap.size w w' → BoP w l e w' := fun e w' h1 h2 h3 => ⟨.inl ⟨h1, h2⟩, h3⟩
  have hno : ∀ e w', okB l = false → e = .returned (.tuple #[.agg #[.int .i64 0, .int .i64 0, .int .i64 0, .int .i64 0, .int .i64 0, .int .i64 0], .bool false]) → Below w.heap.size w w' → BoP w l e w' := fun e w' h1 h2 h3 => ⟨.inr ⟨h1, h2⟩, h3⟩
  have Hyes := Lib.hid hyes; have Hno := Lib.hid hno; clear hyes hno
  generalize BoP w l = POST at *
  go_enter Try.func64, Try.ntmps64
  by_cases h6 : l.length = 6
  case neg =>
    have hn1 : ((l.length : Int) == 6) = false := by rw [beq_eq_false_iff_ne]; omega
    have hn2 : ((l.length : Int) != 6) = true := by rw [bne, hn1]; rfl
    have Hok := Lib.hid (show okB l = false by unfold okB; rw [decide_eq_false h6, Bool.and_false])
    clear h6 hl
    go_wp2
    refine bodyPost_ret (v := .tuple #[.agg #[.int .i64 0, .int .i64 0, .int .i64 0, .int .i64 0, .int .i64 0, .int .i64 0], .bool false]) (by simp [results, Try.f64, go_sem]) rfl ?_
    exact Hno.out _ _ Hok.out rfl Hb.out
  have hn1 : ((l.length : Int) == 6) = true := by rw [beq_iff_eq]; omega
  have hn2 : ((l.length : Int) != 6) = false := by rw [bne, hn1]; rfl
  have H6 := Lib.hid h6
  have hle6 : l.length ≤ 6 := by omega
  rcases hl with rfl | ⟨b, off, rfl, hbw, hc⟩
  · exact absurd h6 (by simp)
  clear h6 hbig
  have Hc := Lib.hid (fun j (h : j < l.length) => (Hb.out.cell (p := ⟨b, off + j, none⟩) hbw).trans (hc j h)); clear hc
  go_wp2
  generalize ((w.alloc (.cells #[.int .i64 0, .int .i64 0, .int .i64 0, .int .i64 0, .int .i64 0, .int .i64 0] 61)).alloc (.cells #[.int .i64 0, .int .i64 0, .int .i64 0, .int .i64 0, .int .i64 0, .int .i64 0] 61)) = W0 at *
  go_loopw [13] (fun i wr => ∃ k : Nat, k ≤ l.length ∧ i = .int .i64 k ∧ Pre balB l k ∧ Str wr w.heap.size 61 #[.int .i64 0, .int .i64 0, .int .i64 0, .int .i64 0, .int .i64 0, .int .i64 0] ∧ Str wr (w.heap.size + 1) 61 (c6 (l.take k)) ∧ Below w.heap.size w wr ∧ ∀ j (h : j < l.length), wr.cell? ⟨b, off + j, none⟩ = some (.int .i64 l[j])) (fun i _ => l.length - (intOf i).toNat)
  case atStart => exact ⟨0, by omega, rfl, pre_zero _ _, S1.out, S2.out, Hb.out, Hc.out⟩
  case round =>
    clear S1 S2 Hb Hc hz
    obtain ⟨k, hk, rfl, hp, hs1, hs2, hb, hc⟩ := hrel
    have Hp := Lib.hid hp; have S1 := Lib.hid hs1; have S2 := Lib.hid hs2; have Hb := Lib.hid hb; have Hc := Lib.hid hc; clear hp hs1 hs2 hb hc
    by_cases hlt : k < l.length
    case pos =>
      have hcell := Hc.out k hlt
      have hlt' : (k : Int) < (l.length : Int) := by omega
      have hk6 : k < 6 := by omega
      have hk6' : (k : Int) < 6 := by omega
      have HV := Lib.hid (fun W => lg_isBalance l[k] W)
      have Hst := Lib.hid (show (c6 (l.take k)).setIfInBounds k (.int .i64 l[k]) = c6 (l.take (k + 1)) by rw [← gd_at hlt]; exact c6_take H6.out hk6)
      have Hpv := Lib.hid (fun h => pre_step (p := balB) Hp.out hlt h)
      have Hbad := Lib.hid (fun (h : balB l[k] = false) => (show okB l = false by unfold okB; rw [pre_not hlt h]; rfl))
      have y9 := S2.out.frozen k
      have q9 := S2.out.cell k (c6_at (l.take k) hk6)
      have HB := Lib.hid (show balB l[k] = decide (0 ≤ l[k] ∧ l[k] ≤ 999) from rfl)
      generalize decide (0 ≤ l[k] ∧ l[k] ≤ 999) = bb at *
      generalize balB l[k] = b2 at *
      obtain rfl := HB.out
      generalize l[k] = xk at *
      go_wp2_with fail
      refine (HV.out _).mono ?_
      rintro e w2 ⟨rfl, rfl⟩
      cases b2 with
      | false =>
        have Hok := Lib.hid (Hbad.out rfl)
        clear Hbad
        have y0 := S1.out.frozen 0
        have q0 := S1.out.cell 0 (v := .int .i64 0) rfl
        have y1 := S1.out.frozen 1
        have q1 := S1.out.cell 1 (v := .int .i64 0) rfl
        have y2 := S1.out.frozen 2
        have q2 := S1.out.cell 2 (v := .int .i64 0) rfl
        have y3 := S1.out.frozen 3
        have q3 := S1.out.cell 3 (v := .int .i64 0) rfl
        have y4 := S1.out.frozen 4
        have q4 := S1.out.cell 4 (v := .int .i64 0) rfl
        have y5 := S1.out.frozen 5
        have q5 := S1.out.cell 5 (v := .int .i64 0) rfl
        have sF := ((((((S1.out.set 0 (.int .i64 0)).set 1 (.int .i64 0)).set 2 (.int .i64 0)).set 3 (.int .i64 0)).set 4 (.int .i64 0)).set 5 (.int .i64 0))
        have bF := ((((((Hb.out.setCell (p := ⟨w.heap.size, 0, none⟩) (by simp only; omega) (.int .i64 0)).setCell (p := ⟨w.heap.size, 1, none⟩) (by simp only; omega) (.int .i64 0)).setCell (p := ⟨w.heap.size, 2, none⟩) (by simp only; omega) (.int .i64 0)).setCell (p := ⟨w.heap.size, 3, none⟩) (by simp only; omega) (.int .i64 0)).setCell (p := ⟨w.heap.size, 4, none⟩) (by simp only; omega) (.int .i64 0)).setCell (p := ⟨w.heap.size, 5, none⟩) (by simp only; omega) (.int .i64 0))
        have e0 := sF.cell 0 (v := .int .i64 0) rfl
        have e1 := sF.cell 1 (v := .int .i64 0) rfl
        have e2 := sF.cell 2 (v := .int .i64 0) rfl
        have e3 := sF.cell 3 (v := .int .i64 0) rfl
        have e4 := sF.cell 4 (v := .int .i64 0) rfl
        have e5 := sF.cell 5 (v := .int .i64 0) rfl
        have BF := Lib.hid bF; clear bF sF
        go_wp2
        refine bodyPost_ret (v := .tuple #[.agg #[.int .i64 0, .int .i64 0, .int .i64 0, .int .i64 0, .int .i64 0, .int .i64 0], .bool false]) (by simp [results, Try.f64, go_sem, e0, e1, e2, e3, e4, e5]) rfl ?_
        exact Hno.out _ _ Hok.out rfl BF.out
      | true =>
        have Hpt := Lib.hid (Hpv.out rfl)
        go_wp2
        go_roundw
        case rel =>
          refine ⟨k + 1, by omega, by go_num, Hpt.out, S1.out.other (by omega) _ _, ?_, Hb.out.setCell (p := ⟨w.heap.size + 1, k, none⟩) (by simp only; omega) _, fun j hj => ?_⟩
          · rw [← Hst.out]; exact S2.out.set k _
          · have h9 := Hc.out j hj
            exact (World.cell?_setCell_other _ _ _ _ (by simp only [ne_eq, Addr.mk.injEq]; omega)).trans h9
        case measure => simp [intOf]; omega
    case neg =>
      have hk6 : l.take k = l := List.take_of_length_le (by omega)
      have hlt' : ¬ (k : Int) < (l.length : Int) := by omega
      have s2 := S2.out
      rw [hk6] at s2
      have S2 := Lib.hid s2; clear s2 hk6
      have Hok := Lib.hid (show okB l = true by unfold okB; rw [pre_all Hp.out (by omega), decide_eq_true H6.out]; rfl)
      have y0 := S1.out.frozen 0
      have q0 := S1.out.cell 0 (v := .int .i64 0) rfl
      have b0 := S2.out.cell 0 (v := .int .i64 (gd l 0)) rfl
      have y1 := S1.out.frozen 1
      have q1 := S1.out.cell 1 (v := .int .i64 0) rfl
      have b1 := S2.out.cell 1 (v := .int .i64 (gd l 1)) rfl
      have y2 := S1.out.frozen 2
      have q2 := S1.out.cell 2 (v := .int .i64 0) rfl
      have b2 := S2.out.cell 2 (v := .int .i64 (gd l 2)) rfl
      have y3 := S1.out.frozen 3
      have q3 := S1.out.cell 3 (v := .int .i64 0) rfl
      have b3 := S2.out.cell 3 (v := .int .i64 (gd l 3)) rfl
      have y4 := S1.out.frozen 4
      have q4 := S1.out.cell 4 (v := .int .i64 0) rfl
      have b4 := S2.out.cell 4 (v := .int .i64 (gd l 4)) rfl
      have y5 := S1.out.frozen 5
      have q5 := S1.out.cell 5 (v := .int .i64 0) rfl
      have b5 := S2.out.cell 5 (v := .int .i64 (gd l 5)) rfl
      have sF := ((((((S1.out.set 0 (.int .i64 (gd l 0))).set 1 (.int .i64 (gd l 1))).set 2 (.int .i64 (gd l 2))).set 3 (.int .i64 (gd l 3))).set 4 (.int .i64 (gd l 4))).set 5 (.int .i64 (gd l 5)))
      have bF := ((((((Hb.out.setCell (p := ⟨w.heap.size, 0, none⟩) (by simp only; omega) (.int .i64 (gd l 0))).setCell (p := ⟨w.heap.size, 1, none⟩) (by simp only; omega) (.int .i64 (gd l 1))).setCell (p := ⟨w.heap.size, 2, none⟩) (by simp only; omega) (.int .i64 (gd l 2))).setCell (p := ⟨w.heap.size, 3, none⟩) (by simp only; omega) (.int .i64 (gd l 3))).setCell (p := ⟨w.heap.size, 4, none⟩) (by simp only; omega) (.int .i64 (gd l 4))).setCell (p := ⟨w.heap.size, 5, none⟩) (by simp only; omega) (.int .i64 (gd l 5)))
      have e0 := sF.cell 0 (v := .int .i64 (gd l 0)) rfl
      have e1 := sF.cell 1 (v := .int .i64 (gd l 1)) rfl
      have e2 := sF.cell 2 (v := .int .i64 (gd l 2)) rfl
      have e3 := sF.cell 3 (v := .int .i64 (gd l 3)) rfl
      have e4 := sF.cell 4 (v := .int .i64 (gd l 4)) rfl
      have e5 := sF.cell 5 (v := .int .i64 (gd l 5)) rfl
      have BF := Lib.hid bF; clear bF sF
      go_wp2
      refine bodyPost_ret (v := .tuple #[.agg (c6 l), .bool true]) (by simp [results, Try.f64, go_sem, e0, e1, e2, e3, e4, e5, c6]) rfl ?_
      exact Hyes.out _ _ Hok.out rfl BF.out

end Go.Proofs.Ytnjjbplocokdeab

/- Running lanes in any order comes to running all transactions one after the other; plain facts on lists, nothing here is walked. -/
namespace Go.Proofs.Ytnjjbplocokdeab
open Go.RowKit

theorem bal_ap {l : List Int} {x : Tx} (hl : l.length = 6) {a : Int} (h0 : 0 ≤ a) (h5 : a ≤ 5) : bal (apL l x) a = if okT l x = true then bal l a + dlt x a else bal l a := by
  cases ho : okT l x with
  | false => rw [(ap_no (n := 0) ho).1]; rfl
  | true =>
    rw [if_pos rfl]
    have ha : a.toNat < l.length := by omega
    have h := ap_bal ho hl ha
    have ea : ((a.toNat : Nat) : Int) = a := by omega
    rw [ea] at h
    rw [bal_at ha]
    unfold bal
    simp only [List.getD, h, Option.getD_some]
theorem dlt_off {x : Tx} {a : Int} (h1 : a ≠ x.f) (h2 : a ≠ x.t) : dlt x a = 0 := by unfold dlt; rw [if_neg h2, if_neg h1]
theorem okT_same {l l' : List Int} {x : Tx} (hf : bal l x.f = bal l' x.f) (ht : bal l x.t = bal l' x.t) : okT l x = okT l' x := by unfold okT; rw [hf, ht]
/-- The balances of a class of accounts depend on its transactions only. -/
theorem rn_loc (al : Int → Int) (m : Int) : ∀ (ts : List Tx) (l l' : List Int), l.length = 6 → l'.length = 6 → (∀ x ∈ ts, txB x = true ∧ al x.f = al x.t) → (∀ a, 0 ≤ a → a ≤ 5 → al a = m → bal l a = bal l' a) →
    ∀ a, 0 ≤ a → a ≤ 5 → al a = m → bal (rnL l ts) a = bal (rnL l' (ts.filter fun x => decide (al x.f = m))) a
  | [], _, _, _, _, _, h => h
  | x :: ts, l, l', hl, hl', hx, h => by
    obtain ⟨hb, hal⟩ := hx x (by simp)
    obtain ⟨⟨f0, f1⟩, ⟨t0, t1⟩, _, _⟩ := txB_iff.1 hb
    have hts := fun y hy => hx y (List.mem_cons_of_mem _ hy)
    by_cases hp : al x.f = m
    · rw [List.filter_cons_of_pos (p := fun x : Tx => decide (al x.f = m)) (by exact decide_eq_true hp)]
      refine rn_loc al m ts _ _ (by rw [ap_len]; exact hl) (by rw [ap_len]; exact hl') hts fun a h0 h5 ha => ?_
      rw [bal_ap hl h0 h5, bal_ap hl' h0 h5, okT_same (h _ f0 f1 hp) (h _ t0 t1 (hal ▸ hp)), h a h0 h5 ha]
    · rw [List.filter_cons_of_neg (p := fun x : Tx => decide (al x.f = m)) (by rw [decide_eq_true_eq]; exact hp)]
      refine rn_loc al m ts _ _ (by rw [ap_len]; exact hl) hl' hts fun a h0 h5 ha => ?_
      have h1 : a ≠ x.f := fun e => hp (by rw [← e]; exact ha)
      have h2 : a ≠ x.t := fun e => hp (by rw [hal, ← e]; exact ha)
      rw [bal_ap hl h0 h5, dlt_off h1 h2, ← h a h0 h5 ha]
      split <;> omega
theorem bal_ext {l l' : List Int} (hl : l.length = 6) (hl' : l'.length = 6) (h : ∀ a, 0 ≤ a → a ≤ 5 → bal l a = bal l' a) : l = l' := by
  refine List.ext_getElem (by omega) fun i h1 h2 => ?_
  have := h (i : Int) (by omega) (by omega)
  rw [bal_at (by omega), bal_at (by omega)] at this
  simpa using this
/-- An account's label: that of the transactions that use it. -/
def alZ (xs : List Tx) (a : Int) : Int := match (List.range xs.length).find? (fun i => decide ((xs.getD i tx0).f = a ∨ (xs.getD i tx0).t = a)) with | some i => (lbL xs).getD i 0 | none => -1
theorem al_of {xs : List Tx} {i : Nat} (hi : i < xs.length) {a : Int} (ha : (xs.getD i tx0).f = a ∨ (xs.getD i tx0).t = a) : alZ xs a = (lbL xs).getD i 0 := by
  unfold alZ
  cases hf : (List.range xs.length).find? (fun i => decide ((xs.getD i tx0).f = a ∨ (xs.getD i tx0).t = a)) with
  | none =>
    have := List.find?_eq_none.1 hf i (List.mem_range.2 hi)
    rw [decide_eq_true_eq] at this
    exact absurd ha this
  | some j =>
    have hj := List.mem_range.1 (List.mem_of_find?_eq_some hf)
    have he : (xs.getD j tx0).f = a ∨ (xs.getD j tx0).t = a := by have := List.find?_some hf; exact of_decide_eq_true this
    refine lb_edge ⟨hj, hi, cfB_iff.2 ?_⟩
    rcases he with e1 | e1 <;> rcases ha with e2 | e2
    · exact .inl (e1.trans e2.symm)
    · exact .inr (.inl (e1.trans e2.symm))
    · exact .inr (.inr (.inl (e1.trans e2.symm)))
    · exact .inr (.inr (.inr (e1.trans e2.symm)))
theorem al_both {xs : List Tx} {i : Nat} (hi : i < xs.length) : alZ xs (xs.getD i tx0).f = (lbL xs).getD i 0 ∧ alZ xs (xs.getD i tx0).t = (lbL xs).getD i 0 := ⟨al_of hi (.inl rfl), al_of hi (.inr rfl)⟩
/-- The transactions with these indexes. -/
def txA (xs : List Tx) (os : List Nat) : List Tx := os.map fun i => xs.getD i tx0
theorem txA_all (xs : List Tx) : txA xs (List.range xs.length) = xs := by
  refine List.ext_getElem (by simp [txA]) fun i h1 h2 => ?_
  simp [txA, List.getD, h2]
theorem txA_app (xs : List Tx) (a b : List Nat) : txA xs (a ++ b) = txA xs a ++ txA xs b := List.map_append
theorem txA_len (xs : List Tx) (a : List Nat) : (txA xs a).length = a.length := List.length_map _
theorem txA_filter {xs : List Tx} {os : List Nat} (ho : ∀ i ∈ os, i < xs.length) (m : Int) : (txA xs os).filter (fun x => decide (alZ xs x.f = m)) = txA xs (os.filter fun i => decide ((lbL xs).getD i 0 = m)) := by
  induction os with
  | nil => rfl
  | cons i os ih =>
    have ih := ih fun j hj => ho j (List.mem_cons_of_mem _ hj)
    have e := (al_both (ho i (by simp))).1
    by_cases h : (lbL xs).getD i 0 = m
    · rw [List.filter_cons_of_pos (p := fun i : Nat => decide ((lbL xs).getD i 0 = m)) (by exact decide_eq_true h)]
      unfold txA at ih ⊢
      rw [List.map_cons, List.map_cons, List.filter_cons_of_pos (p := fun x : Tx => decide (alZ xs x.f = m)) (by rw [decide_eq_true_eq, e]; exact h), ih]
    · rw [List.filter_cons_of_neg (p := fun i : Nat => decide ((lbL xs).getD i 0 = m)) (by rw [decide_eq_true_eq]; exact h)]
      unfold txA at ih ⊢
      rw [List.map_cons, List.filter_cons_of_neg (p := fun x : Tx => decide (alZ xs x.f = m)) (by rw [decide_eq_true_eq, e]; exact h), ih]
theorem txA_ok {xs : List Tx} (hv : xs.all txB = true) {os : List Nat} (ho : ∀ i ∈ os, i < xs.length) : ∀ x ∈ txA xs os, txB x = true ∧ alZ xs x.f = alZ xs x.t := by
  intro x hx
  obtain ⟨i, hi, rfl⟩ := List.mem_map.1 hx
  have h := ho i hi
  refine ⟨?_, by rw [(al_both h).1, (al_both h).2]⟩
  have : xs.getD i tx0 = xs[i] := by simp [List.getD, h]
  rw [this]
  exact List.all_eq_true.1 hv _ (List.getElem_mem h)
/-- An order of all indexes that keeps each lane's. -/
def Ord (xs : List Tx) (os : List Nat) : Prop := (∀ i ∈ os, i < xs.length) ∧ ∀ m : Int, (os.filter fun i => decide ((lbL xs).getD i 0 = m)) = (List.range xs.length).filter fun i => decide ((lbL xs).getD i 0 = m)
/-- Runs of transactions whose lanes are the same come to the same balances. -/
theorem rn_ord {xs : List Tx} (hv : xs.all txB = true) {l : List Int} (hl : l.length = 6) {os os' : List Nat} (h : ∀ i ∈ os, i < xs.length) (h' : ∀ i ∈ os', i < xs.length) {m : Int} (he : (os.filter fun i => decide ((lbL xs).getD i 0 = m)) = os'.filter fun i => decide ((lbL xs).getD i 0 = m)) {a : Int} (h0 : 0 ≤ a) (h5 : a ≤ 5) (ha : alZ xs a = m) :
    bal (rnL l (txA xs os)) a = bal (rnL l (txA xs os')) a := by
  rw [rn_loc (alZ xs) m _ l l hl hl (txA_ok hv h) (fun _ _ _ _ => rfl) a h0 h5 ha, rn_loc (alZ xs) m _ l l hl hl (txA_ok hv h') (fun _ _ _ _ => rfl) a h0 h5 ha, txA_filter h, txA_filter h', he]
theorem run_ord {xs : List Tx} (hv : xs.all txB = true) {l : List Int} {n : Int} (hl : l.length = 6) {os : List Nat} (h : Ord xs os) : rnL l (txA xs os) = rnL l xs ∧ rnF l n (txA xs os) = rnF l n xs := by
  have hr : ∀ i ∈ List.range xs.length, i < xs.length := fun i hi => List.mem_range.1 hi
  have e1 : rnL l (txA xs os) = rnL l xs := by
    refine bal_ext (by rw [(rn_len _ _).1]; exact hl) (by rw [(rn_len _ _).1]; exact hl) fun a h0 h5 => ?_
    have := rn_ord hv hl h.1 hr (h.2 (alZ xs a)) h0 h5 rfl
    rwa [txA_all] at this
  refine ⟨e1, ?_⟩
  have s1 := rn_sum (txA xs os) l n hl
  have s2 := rn_sum xs l n hl
  rw [e1] at s1
  omega
theorem split_uni {i : Nat} : ∀ {a b c d : List Nat}, a ++ i :: b = c ++ i :: d → i ∉ a → i ∉ c → a = c
  | [], _, [], _, _, _, _ => rfl
  | [], _, y :: c, _, h, _, hc => by
    rw [List.nil_append, List.cons_append] at h
    injection h with h1 _
    exact absurd (by rw [h1]; simp) hc
  | y :: a, _, [], _, h, ha, _ => by
    rw [List.nil_append, List.cons_append] at h
    injection h with h1 _
    exact absurd (by rw [h1]; simp) ha
  | y :: a, b, z :: c, d, h, ha, hc => by
    rw [List.cons_append, List.cons_append] at h
    injection h with h1 h2
    rw [h1, split_uni h2 (fun hm => ha (List.mem_cons_of_mem _ hm)) (fun hm => hc (List.mem_cons_of_mem _ hm))]
/-- A transaction's outcome in such an order is that in the order of the list. -/
theorem ok_ord {xs : List Tx} (hv : xs.all txB = true) {l : List Int} (hl : l.length = 6) {A B : List Nat} {i : Nat} (h : Ord xs (A ++ i :: B)) (hn : i ∉ A) : okT (rnL l (txA xs A)) (xs.getD i tx0) = okT (rnL l (xs.take i)) (xs.getD i tx0) := by
  have hi : i < xs.length := h.1 i (by simp)
  have hA : ∀ j ∈ A, j < xs.length := fun j hj => h.1 j (by simp [hj])
  have hR : ∀ j ∈ List.range i, j < xs.length := fun j hj => by have := List.mem_range.1 hj; omega
  obtain ⟨m, hm⟩ : ∃ m, (lbL xs).getD i 0 = m := ⟨_, rfl⟩
  have he := h.2 m
  rw [show xs.length = i + (xs.length - i) by omega, List.range_add, List.filter_append, List.filter_append, List.filter_cons_of_pos (p := fun i : Nat => decide ((lbL xs).getD i 0 = m)) (by exact decide_eq_true hm)] at he
  obtain ⟨q, hq⟩ : ∃ q, xs.length - i = q + 1 := ⟨xs.length - i - 1, by omega⟩
  rw [hq, List.range_succ_eq_map, List.map_cons, List.filter_cons_of_pos (p := fun i : Nat => decide ((lbL xs).getD i 0 = m)) (by rw [decide_eq_true_eq, Nat.add_zero]; exact hm), Nat.add_zero] at he
  have hf := split_uni he (fun hm => hn ((List.mem_filter.1 hm).1)) (fun hm => by have := List.mem_range.1 ((List.mem_filter.1 hm).1); omega)
  have ht : txA xs (List.range i) = xs.take i := by
    refine List.ext_getElem (by rw [txA_len, List.length_range, List.length_take]; omega) fun j h1 h2 => ?_
    rw [txA_len, List.length_range] at h1
    have hj : j < xs.length := by omega
    simp [txA, List.getD, hj]
  obtain ⟨hb, _⟩ := txA_ok hv (os := [i]) (fun j hj => by rw [List.mem_singleton] at hj; subst hj; exact hi) (xs.getD i tx0) (by simp [txA])
  obtain ⟨⟨f0, f1⟩, ⟨t0, t1⟩, _, _⟩ := txB_iff.1 hb
  obtain ⟨a1, a2⟩ := al_both hi
  refine okT_same ?_ ?_
  · rw [← ht]; exact rn_ord hv hl hA hR hf f0 f1 (a1.trans hm)
  · rw [← ht]; exact rn_ord hv hl hA hR hf t0 t1 (a2.trans hm)
theorem lanes_filter {xs : List Tx} (m : Int) : ∀ ms : List Nat, ms.Nodup → ((ms.map (laneN xs)).flatten.filter fun i => decide ((lbL xs).getD i 0 = m)) = if (∃ q ∈ ms, (q : Int) = m) then (List.range xs.length).filter fun i => decide ((lbL xs).getD i 0 = m) else []
  | [], _ => by simp
  | q :: ms, hnd => by
    obtain ⟨h1, h2⟩ := List.nodup_cons.1 hnd
    rw [List.map_cons, List.flatten_cons, List.filter_append, lanes_filter m ms h2]
    by_cases hq : (q : Int) = m
    · have e1 : ((laneN xs q).filter fun i => decide ((lbL xs).getD i 0 = m)) = (List.range xs.length).filter fun i => decide ((lbL xs).getD i 0 = m) := by
        unfold laneN; rw [hq, List.filter_filter]; simp
      rw [e1, if_neg (by rintro ⟨r, hr, e⟩; exact h1 (by have : q = r := by omega
                                                         subst this; exact hr)), if_pos ⟨q, by simp, hq⟩, List.append_nil]
    · have e1 : ((laneN xs q).filter fun i => decide ((lbL xs).getD i 0 = m)) = [] := List.filter_eq_nil_iff.2 fun i hi => by
        rw [decide_eq_true_eq, (mem_lane.1 hi).2]; exact hq
      rw [e1, List.nil_append]
      by_cases hex : ∃ r ∈ ms, (r : Int) = m
      · obtain ⟨r, hr, e⟩ := hex
        rw [if_pos ⟨r, hr, e⟩, if_pos ⟨r, List.mem_cons_of_mem _ hr, e⟩]
      · rw [if_neg hex, if_neg]
        rintro ⟨r, hr, e⟩
        rcases List.mem_cons.1 hr with rfl | hr
        · exact hq e
        · exact hex ⟨r, hr, e⟩
theorem ord_of {xs : List Tx} {ms : List Nat} (hnd : ms.Nodup) (hm : ∀ q, q ∈ ms ↔ q ∈ labsTo xs xs.length) : Ord xs (ms.map (laneN xs)).flatten := by
  refine ⟨fun i hi => ?_, fun m => ?_⟩
  · obtain ⟨l, hl, hi⟩ := List.mem_flatten.1 hi
    obtain ⟨q, _, rfl⟩ := List.mem_map.1 hl
    exact (mem_lane.1 hi).1
  · rw [lanes_filter m ms hnd]
    by_cases hex : ∃ q ∈ ms, (q : Int) = m
    · rw [if_pos hex]
    · rw [if_neg hex]
      symm
      refine List.filter_eq_nil_iff.2 fun i hi => ?_
      rw [decide_eq_true_eq]
      intro e
      obtain ⟨q, hq, _, e2⟩ := lab_of (List.mem_range.1 hi)
      exact hex ⟨q, (hm q).2 hq, by omega⟩
theorem lanes_ord (xs : List Tx) : Ord xs (lanesN xs).flatten := ord_of ((labs_asc xs _).imp fun h => Nat.ne_of_lt h) fun _ => Iff.rfl
theorem lanes_rev_ord (xs : List Tx) : Ord xs (lanesN xs).reverse.flatten := by
  unfold lanesN lanesTo
  rw [← List.map_reverse]
  exact ord_of (List.pairwise_reverse.2 ((labs_asc xs _).imp fun h => (Nat.ne_of_lt h).symm)) fun _ => List.mem_reverse
theorem lanes_nodup (xs : List Tx) : (lanesN xs).flatten.Nodup := (lanes_perm xs).nodup_iff.2 List.nodup_range
/-- An account that no transaction uses keeps its balance. -/
theorem rn_off {a : Int} (h0 : 0 ≤ a) (h5 : a ≤ 5) : ∀ (ts : List Tx) (l : List Int), l.length = 6 → (∀ x ∈ ts, a ≠ x.f ∧ a ≠ x.t) → bal (rnL l ts) a = bal l a
  | [], _, _, _ => rfl
  | x :: ts, l, hl, h => by
    obtain ⟨h1, h2⟩ := h x (by simp)
    rw [rnL, rn_off h0 h5 ts _ (by rw [ap_len]; exact hl) fun y hy => h y (List.mem_cons_of_mem _ hy), bal_ap hl h0 h5, dlt_off h1 h2]
    split <;> omega

end Go.Proofs.Ytnjjbplocokdeab

/- The program's numbers of groups, and its lanes by the first transactions of groups; plain facts on lists, nothing here is walked. -/
namespace Go.Proofs.Ytnjjbplocokdeab
open Go.RowKit

/-- All of one group join another's. -/
def cnL (G : List Int) (a b : Nat) : List Int := G.map fun g => if g = gd G a then gd G b else g
def grL : List Int → List Tx → List Int
  | G, [] => G
  | G, x :: xs => grL (cnL G x.f.toNat x.t.toNat) xs
def gr0 : List Int := [0, 1, 2, 3, 4, 5]
/-- The groups of all accounts. -/
def gpL (xs : List Tx) : List Int := grL gr0 xs
theorem cn_len (G : List Int) (a b : Nat) : (cnL G a b).length = G.length := List.length_map _
theorem gr_len : ∀ (xs : List Tx) (G : List Int), (grL G xs).length = G.length
  | [], _ => rfl
  | x :: xs, G => by rw [grL, gr_len xs, cn_len]
theorem gp_len (xs : List Tx) : (gpL xs).length = 6 := gr_len xs gr0
theorem gr_app : ∀ (xs ys : List Tx) (G : List Int), grL G (xs ++ ys) = grL (grL G xs) ys
  | [], _, _ => rfl
  | x :: xs, ys, G => by rw [List.cons_append, grL, gr_app xs, grL]
theorem gr_take {xs : List Tx} {k : Nat} (h : k < xs.length) (G : List Int) : grL G (xs.take (k + 1)) = cnL (grL G (xs.take k)) xs[k].f.toNat xs[k].t.toNat := by
  rw [List.take_succ_eq_append_getElem h, gr_app]; rfl
theorem cn_at {G : List Int} {a b i : Nat} (hi : i < G.length) : gd (cnL G a b) i = if gd G i = gd G a then gd G b else gd G i := by
  rw [gd_at (by rw [cn_len]; exact hi), gd_at hi]
  simp [cnL]
/-- The numbers stay among those of the beginning. -/
def Rng (G : List Int) : Prop := ∀ i, i < G.length → 0 ≤ gd G i ∧ gd G i ≤ 5
theorem cn_rng {G : List Int} (h : Rng G) {a b : Nat} (hb : b < G.length) : Rng (cnL G a b) := by
  intro i hi
  rw [cn_len] at hi
  rw [cn_at hi]
  split
  · exact h b hb
  · exact h i hi
theorem tx_lt {x : Tx} (h : txB x = true) : x.f.toNat < 6 ∧ x.t.toNat < 6 ∧ ((x.f.toNat : Nat) : Int) = x.f ∧ ((x.t.toNat : Nat) : Int) = x.t := by
  obtain ⟨⟨f0, f1⟩, ⟨t0, t1⟩, _, _⟩ := txB_iff.1 h
  omega
theorem gr_rng : ∀ (xs : List Tx) (G : List Int), G.length = 6 → (∀ x ∈ xs, txB x = true) → Rng G → Rng (grL G xs)
  | [], _, _, _, h => h
  | x :: xs, G, hl, hx, h => gr_rng xs _ (by rw [cn_len]; exact hl) (fun y hy => hx y (List.mem_cons_of_mem _ hy)) (cn_rng h (by rw [hl]; exact (tx_lt (hx x (by simp))).2.1))
theorem rng0 : Rng gr0 := by
  intro i hi
  have : i < 6 := hi
  match i, this with
  | 0, _ => decide
  | 1, _ => decide
  | 2, _ => decide
  | 3, _ => decide
  | 4, _ => decide
  | 5, _ => decide
theorem gp_rng {xs : List Tx} (h : ∀ x ∈ xs, txB x = true) {i : Nat} (hi : i < 6) : 0 ≤ gd (gpL xs) i ∧ gd (gpL xs) i ≤ 5 := gr_rng xs gr0 rfl h rng0 i (by rw [gr_len]; exact hi)
/-- Whatever the transactions leave equal is equal within a group. -/
theorem gr_sound (φ : Nat → Int) : ∀ (xs : List Tx) (G : List Int), G.length = 6 → (∀ x ∈ xs, txB x = true ∧ φ x.f.toNat = φ x.t.toNat) → (∀ a b, a < 6 → b < 6 → gd G a = gd G b → φ a = φ b) → ∀ a b, a < 6 → b < 6 → gd (grL G xs) a = gd (grL G xs) b → φ a = φ b
  | [], _, _, _, h => h
  | x :: xs, G, hl, hx, h => by
    obtain ⟨hb, he⟩ := hx x (by simp)
    obtain ⟨hf, ht, _, _⟩ := tx_lt hb
    refine gr_sound φ xs _ (by rw [cn_len]; exact hl) (fun y hy => hx y (List.mem_cons_of_mem _ hy)) fun a b ha hb' e => ?_
    rw [cn_at (by omega), cn_at (by omega)] at e
    by_cases e1 : gd G a = gd G x.f.toNat
    · by_cases e2 : gd G b = gd G x.f.toNat
      · exact h a b ha hb' (e1.trans e2.symm)
      · rw [if_pos e1, if_neg e2] at e
        exact ((h a _ ha hf e1).trans he).trans (h _ b ht hb' e)
    · by_cases e2 : gd G b = gd G x.f.toNat
      · rw [if_neg e1, if_pos e2] at e
        exact ((h a _ ha ht e).trans he.symm).trans (h b _ hb' hf e2).symm
      · rw [if_neg e1, if_neg e2] at e
        exact h a b ha hb' e
theorem cn_keep {G : List Int} {a b i j : Nat} (hi : i < G.length) (hj : j < G.length) (h : gd G i = gd G j) : gd (cnL G a b) i = gd (cnL G a b) j := by rw [cn_at hi, cn_at hj, h]
theorem gr_keep : ∀ (xs : List Tx) (G : List Int), G.length = 6 → ∀ i j, i < 6 → j < 6 → gd G i = gd G j → gd (grL G xs) i = gd (grL G xs) j
  | [], _, _, _, _, _, _, h => h
  | x :: xs, G, hl, i, j, hi, hj, h => gr_keep xs _ (by rw [cn_len]; exact hl) i j hi hj (cn_keep (by omega) (by omega) h)
theorem gr_edge : ∀ (xs : List Tx) (G : List Int), G.length = 6 → (∀ x ∈ xs, txB x = true) → ∀ x ∈ xs, gd (grL G xs) x.f.toNat = gd (grL G xs) x.t.toNat
  | [], _, _, _, _, h => by cases h
  | y :: xs, G, hl, hx, x, h => by
    rcases List.mem_cons.1 h with rfl | h
    · obtain ⟨hf, ht, _, _⟩ := tx_lt (hx x (by simp))
      refine gr_keep xs _ (by rw [cn_len]; exact hl) _ _ hf ht ?_
      rw [cn_at (by omega), cn_at (by omega), if_pos rfl]
      split <;> rfl
    · exact gr_edge xs _ (by rw [cn_len]; exact hl) (fun z hz => hx z (List.mem_cons_of_mem _ hz)) x h

/-- The group of a transaction. -/
def gf (xs : List Tx) (i : Nat) : Int := gd (gpL xs) (xs.getD i tx0).f.toNat
theorem gd_tx {xs : List Tx} {i : Nat} (h : i < xs.length) : xs.getD i tx0 = xs[i] := by simp [List.getD, h]
theorem gf_rng {xs : List Tx} (hv : ∀ x ∈ xs, txB x = true) {i : Nat} (hi : i < xs.length) : 0 ≤ gf xs i ∧ gf xs i ≤ 5 := by
  unfold gf; rw [gd_tx hi]
  exact gp_rng hv (tx_lt (hv _ (List.getElem_mem hi))).1
theorem gf_lb {xs : List Tx} (hv : ∀ x ∈ xs, txB x = true) {i k : Nat} (hi : i < xs.length) (hk : k < xs.length) (h : gf xs i = gf xs k) : (lbL xs).getD i 0 = (lbL xs).getD k 0 := by
  have key := gr_sound (fun a => alZ xs (a : Int)) xs gr0 rfl (fun x hx => by
    obtain ⟨j, hj, rfl⟩ := List.mem_iff_getElem.1 hx
    obtain ⟨_, _, ef, et⟩ := tx_lt (hv _ hx)
    obtain ⟨a1, a2⟩ := al_both hj
    rw [gd_tx hj] at a1 a2
    exact ⟨hv _ hx, by rw [ef, et, a1, a2]⟩) (fun a b ha hb e => by
    have hg : ∀ a, a < 6 → gd gr0 a = (a : Int) := by
      intro a ha
      match a, ha with
      | 0, _ => rfl
      | 1, _ => rfl
      | 2, _ => rfl
      | 3, _ => rfl
      | 4, _ => rfl
      | 5, _ => rfl
    rw [hg a ha, hg b hb] at e
    have : a = b := by omega
    subst this; rfl)
  unfold gf at h
  rw [gd_tx hi, gd_tx hk] at h
  have hvi := tx_lt (hv _ (List.getElem_mem hi))
  have hvk := tx_lt (hv _ (List.getElem_mem hk))
  have := key _ _ hvi.1 hvk.1 h
  simp only [hvi.2.2.1, hvk.2.2.1] at this
  obtain ⟨a1, _⟩ := al_both hi
  obtain ⟨a2, _⟩ := al_both hk
  rw [gd_tx hi] at a1
  rw [gd_tx hk] at a2
  rw [← a1, ← a2]; exact this
theorem cn_gf {xs : List Tx} (hv : ∀ x ∈ xs, txB x = true) {i k : Nat} (hi : i < xs.length) (h : Cn xs i k) : k < xs.length ∧ gf xs i = gf xs k := by
  induction h with
  | refl => exact ⟨hi, rfl⟩
  | step _ e ih =>
    rename_i j k' hc
    obtain ⟨hj, hk, hcf⟩ := e
    refine ⟨hk, ih.2.trans ?_⟩
    have ej := gr_edge xs gr0 rfl hv _ (List.getElem_mem hj)
    have ek := gr_edge xs gr0 rfl hv _ (List.getElem_mem hk)
    unfold gf gpL
    rw [gd_tx hj, gd_tx hk] at hcf ⊢
    rcases cfB_iff.1 hcf with h | h | h | h
    · rw [h]
    · rw [h]; exact ek.symm
    · rw [ej, h]
    · rw [ej, h]; exact ek.symm
theorem lb_gf {xs : List Tx} (hv : ∀ x ∈ xs, txB x = true) {i k : Nat} (hi : i < xs.length) (hk : k < xs.length) : gf xs i = gf xs k ↔ (lbL xs).getD i 0 = (lbL xs).getD k 0 := by
  refine ⟨gf_lb hv hi hk, fun h => ?_⟩
  obtain ⟨m, e1, _, c1⟩ := lb_at hi
  obtain ⟨m', e2, _, c2⟩ := lb_at hk
  have : m = m' := by omega
  subst this
  exact (cn_gf hv hi c1).2.trans (cn_gf hv hk c2).2.symm

/-- The first transactions of the groups, up to a place. -/
def rtS (xs : List Tx) (i : Nat) : List Nat := (List.range i).filter fun m => decide ((lbL xs).getD m 0 = (m : Int))
/-- The lanes of the transactions up to a place. -/
def lsS (xs : List Tx) (i : Nat) : List (List Nat) := (rtS xs i).map fun m => laneTo xs m i
theorem ls_len (xs : List Tx) (i : Nat) : (lsS xs i).length = (rtS xs i).length := List.length_map _
theorem rt_len (xs : List Tx) (i : Nat) : (rtS xs i).length ≤ i := by
  have := List.length_filter_le (fun m => decide ((lbL xs).getD m 0 = (m : Int))) (List.range i); rw [List.length_range] at this; exact this
theorem ls_at {xs : List Tx} {i q : Nat} (h : q < (lsS xs i).length) : (lsS xs i)[q] = laneTo xs ((rtS xs i)[q]'(by rw [← ls_len]; exact h)) i := by simp [lsS]
theorem mem_rt {xs : List Tx} {i m : Nat} : m ∈ rtS xs i ↔ m < i ∧ (lbL xs).getD m 0 = (m : Int) := by unfold rtS; rw [List.mem_filter, List.mem_range, decide_eq_true_eq]
theorem rt_asc (xs : List Tx) (i : Nat) : (rtS xs i).Pairwise (· < ·) := List.pairwise_lt_range.filter _
theorem rt_at {xs : List Tx} {i p : Nat} (h : p < (rtS xs i).length) : (rtS xs i)[p] < i ∧ (lbL xs).getD (rtS xs i)[p] 0 = ((rtS xs i)[p] : Int) := mem_rt.1 (List.getElem_mem h)
theorem rt_inj {xs : List Tx} (hv : ∀ x ∈ xs, txB x = true) {i p q : Nat} (hi : i ≤ xs.length) (hp : p < (rtS xs i).length) (hq : q < (rtS xs i).length) (h : gf xs (rtS xs i)[p] = gf xs (rtS xs i)[q]) : p = q := by
  obtain ⟨p1, p2⟩ := rt_at hp
  obtain ⟨q1, q2⟩ := rt_at hq
  have := gf_lb hv (by omega) (by omega) h
  have e : (rtS xs i)[p] = (rtS xs i)[q] := by omega
  rcases Nat.lt_trichotomy p q with h | h | h
  · have := List.pairwise_iff_getElem.1 (rt_asc xs i) p q hp hq h; omega
  · exact h
  · have := List.pairwise_iff_getElem.1 (rt_asc xs i) q p hq hp h; omega
theorem laneTo_nil {xs : List Tx} {i : Nat} (hi : i < xs.length) : laneTo xs i i = [] := by
  unfold laneTo
  refine List.filter_eq_nil_iff.2 fun j hj => ?_
  have hj := List.mem_range.1 hj
  rw [decide_eq_true_eq]
  intro e
  obtain ⟨m, em, lm, _⟩ := lb_at (xs := xs) (i := j) (by omega)
  omega
/-- A transaction of no group that is known yet opens a lane. -/
theorem rt_new {xs : List Tx} (hv : ∀ x ∈ xs, txB x = true) {i : Nat} (hi : i < xs.length) (h : ∀ p (hp : p < (rtS xs i).length), gf xs (rtS xs i)[p] ≠ gf xs i) : rtS xs (i + 1) = rtS xs i ++ [i] ∧ lsS xs (i + 1) = lsS xs i ++ [[i]] := by
  obtain ⟨m, em, lm, cm⟩ := lb_at hi
  have hm : m = i := by
    apply Classical.byContradiction
    intro hne
    have hml : m < i := by omega
    obtain ⟨hmx, hg⟩ := cn_gf hv hi cm
    have hmem : m ∈ rtS xs i := mem_rt.2 ⟨hml, by rw [← (lb_gf hv hi hmx).1 hg, em]⟩
    obtain ⟨p, hp, e⟩ := List.mem_iff_getElem.1 hmem
    exact h p hp (by rw [e]; exact hg.symm)
  subst hm
  have e1 : rtS xs (m + 1) = rtS xs m ++ [m] := by
    unfold rtS; rw [List.range_succ, List.filter_append, List.filter_cons_of_pos (p := fun m : Nat => decide ((lbL xs).getD m 0 = (m : Int))) (by exact decide_eq_true em)]; rfl
  refine ⟨e1, ?_⟩
  unfold lsS
  rw [e1, List.map_append, List.map_singleton, laneTo_yes em, laneTo_nil hi]
  congr 1
  refine List.map_congr_left fun q hq => laneTo_no fun e => ?_
  have := (mem_rt.1 hq).1; omega
/-- A transaction of a group that is known comes to its lane. -/
theorem rt_old {xs : List Tx} (hv : ∀ x ∈ xs, txB x = true) {i p : Nat} (hi : i < xs.length) (hp : p < (rtS xs i).length) (h : gf xs (rtS xs i)[p] = gf xs i) : rtS xs (i + 1) = rtS xs i ∧ lsS xs (i + 1) = (lsS xs i).set p ((lsS xs i)[p]'(by rw [ls_len]; exact hp) ++ [i]) := by
  obtain ⟨p1, p2⟩ := rt_at hp
  have hl := gf_lb hv (by omega) hi h
  have e0 : (lbL xs).getD i 0 = ((rtS xs i)[p] : Int) := by omega
  have e1 : rtS xs (i + 1) = rtS xs i := by
    unfold rtS; rw [List.range_succ, List.filter_append, List.filter_cons_of_neg (p := fun m : Nat => decide ((lbL xs).getD m 0 = (m : Int))) (by rw [decide_eq_true_eq]; omega)]; simp
  refine ⟨e1, ?_⟩
  refine List.ext_getElem (by rw [List.length_set, ls_len, ls_len, e1]) fun q h1 h2 => ?_
  rw [List.length_set, ls_len] at h2
  have h3 : q < (rtS xs (i + 1)).length := by rw [e1]; exact h2
  have e3 : (rtS xs (i + 1))[q] = (rtS xs i)[q] := by simp only [e1]
  rw [ls_at h1, e3]
  by_cases hq : p = q
  · subst hq
    rw [List.getElem_set_self, laneTo_yes e0, ls_at]
  · rw [List.getElem_set_ne hq, laneTo_no (fun e => hq ?_)]
    · rw [ls_at]
    · have : (rtS xs i)[p] = (rtS xs i)[q] := by omega
      exact rt_inj hv (by omega) hp h2 (by rw [this])
theorem rt_all (xs : List Tx) : rtS xs xs.length = labsTo xs xs.length := by
  unfold rtS labsTo
  refine List.filter_congr fun m hm => ?_
  have hm := List.mem_range.1 hm
  rw [decide_eq_decide]
  constructor
  · intro e; exact List.length_pos_of_mem (mem_lane.2 ⟨hm, e⟩)
  · intro h; exact (mem_lane.1 (lane_root (List.getElem_mem h)).2.2).2
theorem ls_all (xs : List Tx) : lsS xs xs.length = lanesN xs := by
  unfold lsS lanesN lanesTo; rw [rt_all]; rfl
theorem rt_zero (xs : List Tx) : rtS xs 0 = [] ∧ lsS xs 0 = [] := ⟨rfl, rfl⟩

end Go.Proofs.Ytnjjbplocokdeab

/- A list of values of one cell each (pointers, slices) that lies in memory of the call's own, and its growth by append; general steps, nothing here speaks of the program. -/
namespace Go.Proofs.Ytnjjbplocokdeab
open Go.RowKit

def ptC (q : Nat) : Value := .pointer (some ⟨q, 0, none⟩)
/-- v owns the values cs, in memory from B on. -/
def OwnC (E : TypeId) (w : World) (B : Nat) (v : Value) (cs : List Value) : Prop := w.ownsRow B E 1 v cs.length cs
section
variable {E : TypeId} {w w' : World} {B : Nat} {v : Value} {cs : List Value}
theorem OwnC.nil (E : TypeId) (w : World) (B : Nat) : OwnC E w B (.slice none 0 0) [] := World.ownsRow_nil _ _ _ _
theorem OwnC.empty (E : TypeId) (w : World) {B : Nat} (hB : B ≤ w.heap.size) : OwnC E (w.alloc (.cells #[] E)) B (.slice (some ⟨w.heap.size, 0, none⟩) 0 0) [] := World.ownsRow_made w #[] 0 hB (by simp) (by simp)
theorem OwnC.kept {row : Option Nat} (h : OwnC E w B v cs) (hg : w.grownBy w' row) (hne : v.ownBlock = none ∨ v.ownBlock ≠ row) : OwnC E w' B v cs := World.ownsRow.kept h hg hne
theorem OwnC.lt (h : OwnC E w B v cs) : ∀ k, v.ownBlock = some k → B ≤ k ∧ k < w.heap.size := World.ownsRow.lt h
theorem OwnC.below (h : OwnC E w B v cs) (hg : Below w.heap.size w w') : OwnC E w' B v cs := h.kept (below_grown hg) (by cases hv : v.ownBlock <;> simp)
theorem OwnC.same (h : OwnC E w B v cs) (hb : ∀ g, v.ownBlock = some g → w'.heap[g]? = w.heap[g]?) : OwnC E w' B v cs := row_same h hb
theorem OwnC.slice (h : OwnC E w B v cs) : ∃ a cap, v = .slice a cs.length cap ∧ cs.length ≤ maxLen := by
  rcases h.2 with ⟨rfl, h0⟩ | ⟨g, cap, cur, rfl, hb, hg, hn, hm, hs, ht⟩
  · exact ⟨none, 0, by rw [h0], by rw [h0]; simp⟩
  · exact ⟨_, cap, rfl, by omega⟩
theorem OwnC.mono {B' : Nat} (h : OwnC E w B v cs) (hB : B' ≤ B) : OwnC E w B' v cs := by
  refine ⟨h.1, ?_⟩
  rcases h.2 with h0 | ⟨g, cap, cur, rfl, hb, hg, rest⟩
  · exact .inl h0
  · exact .inr ⟨g, cap, cur, rfl, by omega, hg, rest⟩
theorem OwnC.row (h : OwnC E w B v cs) (hx : 0 < cs.length) : ∃ g cap, v = .slice (some ⟨g, 0, none⟩) cs.length cap ∧ B ≤ g ∧ g < w.heap.size ∧ ∀ j (h : j < cs.length), w.cell? ⟨g, j, none⟩ = some cs[j] := by
  rcases h.2 with ⟨rfl, h0⟩ | ⟨g, cap, cur, rfl, hb, hg, hn, hm, hs, ht⟩
  · omega
  · refine ⟨g, cap, rfl, hb, (Array.getElem?_eq_some_iff.1 hg).1, fun j hj => ?_⟩
    have hc := World.ownsRow.cells (w := w) (base := B) (e := E) (size := 1) (v := .slice (some ⟨g, 0, none⟩) cs.length cap) (n := cs.length) (xs := cs) h (g := g) rfl j cs[j] (by simp [hj])
    rwa [addr_add] at hc
/-- Its row's block is of the elements' type. -/
theorem OwnC.typ (h : OwnC E w B v cs) {g : Nat} (hg : v.ownBlock = some g) : ∃ cur, w.heap[g]? = some (.cells cur E) := by
  rcases h.2 with ⟨rfl, _⟩ | ⟨g', cap, cur, rfl, _, hh, _⟩
  · cases hg
  · cases hg; exact ⟨cur, hh⟩
end
theorem Own.typ {E : TypeId} {w : World} {B : Nat} {v : Value} {xs : List Int} (h : Own E w B v xs) {g : Nat} (hg : v.ownBlock = some g) : ∃ cur, w.heap[g]? = some (.cells cur E) := by
  rcases h.2 with ⟨rfl, _⟩ | ⟨g', cap, cur, rfl, _, hh, _⟩
  · cases hg
  · cases hg; exact ⟨cur, hh⟩

theorem cells_oneC (w : World) (E : TypeId) (q : Value) : ∀ j u, [q][j]? = some u → (w.alloc (.cells #[q] E)).cell? ((⟨w.heap.size, 0, none⟩ : Addr).add j) = some u := by
  intro j u hu
  match j, hu with
  | 0, hu =>
    simp at hu; subst hu
    rw [addr_add, World.cell?_alloc_at _ _ _ _ rfl]; simp
section
variable {P : Program} {T E : TypeId} {z0 : Value} {bytes : Nat} {w : World} {a : Act} {Q : Exit → Act → World → Prop} {B : Nat} {v : Value} {cs : List Value} {q : Value}
/-- 'append(s, x)', x of one cell, as an operation of a region. -/
theorem op_pushC (hsl : P.underlying T = some (.slice E)) (hinf : (P.info? E).map (fun i => (i.zero, i.size, i.bytes)) = some (some z0, 1, bytes)) (hz0 : z0.cells.size = 1) (hby : bytes ≤ 1000) {o : Oper} {K : Act → World → Prop} (s x : Operand)
    (ho : o.op = .call { callee := .builtin .append, args := #[s, x], argTypes := #[T, T] }) (hs : a.eval s = v) (hown : OwnC E w B v cs) (hq : q.oneCell' = true)
    (hlen : cs.length ≤ 1048576) (hx : a.eval x = .slice (some ⟨w.heap.size, 0, none⟩) 1 1) (hB : B ≤ w.heap.size)
    (h : ∀ v' w', OwnC E w' B v' (cs ++ [q]) → w.grownBy w' v.ownBlock → (∀ g, v'.ownBlock = some g → v.ownBlock = some g ∨ w.heap.size ≤ g) → K (a.put o.dst v') w') : Oper.wp P o a (w.alloc (.cells #[q] E)) K Q := by
  obtain ⟨i, hi, hz, hsz, hbb⟩ := info_parts hinf
  obtain ⟨v', w', hrun, h1, h2, _, h4⟩ := run_append_own_at (P := P) (w.alloc (.cells #[q] E)) B T o.type E i z0 1 bytes hsl hi hz hsz hbb hz0 (by decide) v cs.length _ (World.ownsRow.alloc hown _) ⟨w.heap.size, 0, none⟩ 1 1 [q] rfl
    (cells_oneC w E q) (by intro u hu; simp at hu; subst hu; exact hq) (by unfold maxLen; omega) (by have := Nat.mul_le_mul (show cs.length + 1 ≤ 1048577 by omega) hby; omega) (by simp; omega)
  unfold Oper.wp execOp
  simp only [ho, resolve, invoke, builtin, Sem.run_bind, Sem.run_pure, Result.andThen_ok, List.map_toArray, List.map_cons, List.map_nil, hs, hx, hrun]
  refine h v' w' ?_ (grownBy_trans (World.grownBy_alloc _ _ _) h2) fun g e => ?_
  · unfold OwnC; simpa using h1
  · rcases h4 with h4 | h4
    · exact .inl (by rw [← h4]; exact e)
    · rw [h4] at e; cases e; exact .inr (by simp)
/-- .. in a region that is walked in its order. -/
theorem wpList_pushC (hsl : P.underlying T = some (.slice E)) (hinf : (P.info? E).map (fun i => (i.zero, i.size, i.bytes)) = some (some z0, 1, bytes)) (hz0 : z0.cells.size = 1) (hby : bytes ≤ 1000) {ops : Array Oper} {rest : List Oper} {o : Oper} (hgd : o.guard = none) (s x : Operand)
    (ho : o.op = .call { callee := .builtin .append, args := #[s, x], argTypes := #[T, T] }) (hs : a.eval s = v) (hown : OwnC E w B v cs) (hq : q.oneCell' = true)
    (hlen : cs.length ≤ 1048576) (hx : a.eval x = .slice (some ⟨w.heap.size, 0, none⟩) 1 1) (hB : B ≤ w.heap.size)
    (h : ∀ v' w', OwnC E w' B v' (cs ++ [q]) → w.grownBy w' v.ownBlock → (∀ g, v'.ownBlock = some g → v.ownBlock = some g ∨ w.heap.size ≤ g) → wpList P ops Q rest (a.put o.dst v') w') : wpList P ops Q (o :: rest) a (w.alloc (.cells #[q] E)) := by
  refine wpList_want (by unfold Region.wanted; rw [hgd]) fun K hK => ?_
  exact op_pushC hsl hinf hz0 hby s x ho hs hown hq hlen hx hB fun v' w' h1 h2 h3 => hK _ _ (h v' w' h1 h2 h3)
end

end Go.Proofs.Ytnjjbplocokdeab
