/- Texts that the laws of this folder share, one behind another; no conditions. -/
import Derived.Test.YtadgdjjibmofpabBu0
import Derived.Laws.Strings
import Derived.Test.YtadgdjjibmofpabRows
import Derived.Deep.QuietTactic
import Derived.BigQuiet
import Derived.Deep.RegionHeld3
import Derived.WalkSpells

/- Plain arithmetic of digests and of hash trees; no walk and no condition of our own. -/
namespace Go.Proofs.Ytadgdjjibmofpab

def digB (n : Int) : Bool := decide (0 ≤ n ∧ n ≤ 990)
theorem digB_bd {n : Int} (h : digB n = true) : 0 ≤ n ∧ n ≤ 990 := of_decide_eq_true h
theorem digB_yes {n : Int} (h0 : 0 ≤ n) (h1 : n ≤ 990) : digB n = true := decide_eq_true ⟨h0, h1⟩
theorem digB_no {n : Int} (h : ¬ (0 ≤ n ∧ n ≤ 990)) : digB n = false := decide_eq_false h
def pairZ (a b : Int) : Int := (31 * a + 17 * b + 5) % 991
theorem pairZ_bd (a b : Int) : 0 ≤ pairZ a b ∧ pairZ a b ≤ 990 := by unfold pairZ; omega
theorem pairZ_dig (a b : Int) : digB (pairZ a b) = true := decide_eq_true (pairZ_bd a b)
theorem pairZ_left {a a' b : Int} (h : digB a = true) (h' : digB a' = true) (e : pairZ a b = pairZ a' b) : a = a' := by
  have := digB_bd h; have := digB_bd h'; unfold pairZ at e; omega
theorem pairZ_right {a b b' : Int} (h : digB b = true) (h' : digB b' = true) (e : pairZ a b = pairZ a b') : b = b' := by
  have := digB_bd h; have := digB_bd h'; unfold pairZ at e; omega

/-- The next level. -/
def upZ : List Int → List Int
  | a :: b :: r => pairZ a b :: upZ r
  | l => l
theorem upZ_nil : upZ [] = [] := rfl
theorem upZ_one (a : Int) : upZ [a] = [a] := rfl
theorem upZ_two (a b : Int) (r : List Int) : upZ (a :: b :: r) = pairZ a b :: upZ r := by rw [upZ]
/-- The other node of the pair of node i. -/
def sib (i : Nat) : Nat := if i % 2 = 0 then i + 1 else i - 1
theorem pairs_ind {p : List Int → Prop} (h0 : p []) (h1 : ∀ a, p [a]) (h2 : ∀ a b r, p r → p (a :: b :: r)) : ∀ n l, l.length ≤ n → p l := by
  intro n
  induction n with
  | zero =>
    intro l hl
    have : l = [] := List.eq_nil_of_length_eq_zero (by omega)
    subst this; exact h0
  | succ n ih =>
    intro l hl
    match l, hl with
    | [], _ => exact h0
    | [a], _ => exact h1 a
    | a :: b :: r, hl => exact h2 a b r (ih r (by simp at hl; omega))
theorem upZ_len (l : List Int) : (upZ l).length = (l.length + 1) / 2 :=
  pairs_ind (p := fun l => (upZ l).length = (l.length + 1) / 2) rfl (fun a => by simp [upZ]) (fun a b r ih => by rw [upZ_two]; simp only [List.length_cons]; rw [ih]; omega) l.length l (Nat.le_refl _)
theorem upZ_dig (l : List Int) (h : ∀ x ∈ l, digB x = true) : ∀ x ∈ upZ l, digB x = true := by
  refine pairs_ind (p := fun l => (∀ x ∈ l, digB x = true) → ∀ x ∈ upZ l, digB x = true) (fun _ => by simp [upZ]) (fun a h => by simpa [upZ] using h) (fun a b r ih h => ?_) l.length l (Nat.le_refl _) h
  rw [upZ_two]
  intro x hx
  rcases List.mem_cons.1 hx with rfl | hx
  · exact pairZ_dig _ _
  · exact ih (fun y hy => h y (by simp [hy])) x hx
/-- A node of the next level. -/
theorem upZ_get (l : List Int) : ∀ i, i < l.length → (upZ l).getD (i / 2) 0 = if sib i < l.length then (if i < sib i then pairZ (l.getD i 0) (l.getD (sib i) 0) else pairZ (l.getD (sib i) 0) (l.getD i 0)) else l.getD i 0 := by
  refine pairs_ind (p := fun l => ∀ i, i < l.length → (upZ l).getD (i / 2) 0 = if sib i < l.length then (if i < sib i then pairZ (l.getD i 0) (l.getD (sib i) 0) else pairZ (l.getD (sib i) 0) (l.getD i 0)) else l.getD i 0)
    (fun i h => by simp at h) (fun a i h => ?_) (fun a b r ih i h => ?_) l.length l (Nat.le_refl _)
  · have : i = 0 := by simpa using h
    subst this; rfl
  · rw [upZ_two]
    match i, h with
    | 0, _ => simp [sib]
    | 1, _ => simp [sib]
    | i + 2, h =>
      have hi := ih i (by simpa using h)
      have e1 : (i + 2) / 2 = i / 2 + 1 := by omega
      have e2 : sib (i + 2) = sib i + 2 := by unfold sib; split <;> split <;> omega
      rw [e1, e2]
      simp only [List.getD_cons_succ, List.length_cons]
      rw [hi]
      by_cases hs : sib i < r.length
      · rw [if_pos hs, if_pos (show sib i + 2 < r.length + 1 + 1 by omega)]
        by_cases hl : i < sib i
        · rw [if_pos hl, if_pos (show i + 2 < sib i + 2 by omega)]
        · rw [if_neg hl, if_neg (show ¬ i + 2 < sib i + 2 by omega)]
      · rw [if_neg hs, if_neg (show ¬ sib i + 2 < r.length + 1 + 1 by omega)]

def rootF : Nat → List Int → Int
  | 0, l => l.getD 0 0
  | n + 1, l => if 1 < l.length then rootF n (upZ l) else l.getD 0 0
def proofF : Nat → List Int → Nat → List Int
  | 0, _, _ => []
  | n + 1, l, i => if 1 < l.length then (if sib i < l.length then [l.getD (sib i) 0] else []) ++ proofF n (upZ l) (i / 2) else []
/-- Where a leaf x at place i and a proof lead in a tree of this size. -/
def checkF : Nat → Nat → Nat → Int → List Int → Option Int
  | 0, _, _, x, p => if p = [] then some x else none
  | n + 1, size, i, x, p =>
    if 1 < size then
      if sib i < size then
        match p with
        | [] => none
        | q :: r => if digB q = true then checkF n ((size + 1) / 2) (i / 2) (if i < sib i then pairZ x q else pairZ q x) r else none
      else checkF n ((size + 1) / 2) (i / 2) x p
    else if p = [] then some x else none

theorem dig_getD {l : List Int} (h : ∀ x ∈ l, digB x = true) {i : Nat} (hi : i < l.length) : digB (l.getD i 0) = true := by
  rw [getD_get hi]; exact h _ (List.getElem_mem hi)

/-- Each leaf has a proof. -/
theorem check_proof : ∀ (n : Nat) (l : List Int) (i : Nat), (∀ x ∈ l, digB x = true) → i < l.length → l.length ≤ 2 ^ n → checkF n l.length i (l.getD i 0) (proofF n l i) = some (rootF n l) := by
  intro n
  induction n with
  | zero => intro l i _ hi hl; have : i = 0 := by omega
            subst this; simp [checkF, proofF, rootF]
  | succ n ih =>
    intro l i hd hi hl
    simp only [checkF, proofF, rootF]
    by_cases h1 : 1 < l.length
    · rw [if_pos h1, if_pos h1, if_pos h1]
      have hu := ih (upZ l) (i / 2) (upZ_dig l hd) (by rw [upZ_len]; omega) (by rw [upZ_len, Nat.pow_succ] at *; omega)
      rw [upZ_len, upZ_get l i hi] at hu
      by_cases hs : sib i < l.length
      · rw [if_pos hs] at hu ⊢
        rw [if_pos hs]
        simp only [List.cons_append, List.nil_append]
        rw [if_pos (dig_getD hd hs)]
        exact hu
      · rw [if_neg hs] at hu ⊢
        rw [if_neg hs, List.nil_append]
        exact hu
    · have : i = 0 := by omega
      subst this; simp [h1]

/-- No other leaf has the proof. -/
theorem check_leaf : ∀ (n size i : Nat) (x y : Int) (p : List Int) (R : Int), digB x = true → digB y = true → checkF n size i x p = some R → checkF n size i y p = some R → x = y := by
  intro n
  induction n with
  | zero =>
    intro size i x y p R _ _ h1 h2
    simp only [checkF] at h1 h2
    split at h1
    · rename_i h; rw [if_pos h] at h2; cases h1; cases h2; rfl
    · cases h1
  | succ n ih =>
    intro size i x y p R hx hy h1 h2
    simp only [checkF] at h1 h2
    by_cases hz : 1 < size
    · rw [if_pos hz] at h1 h2
      by_cases hs : sib i < size
      · rw [if_pos hs] at h1 h2
        match p, h1, h2 with
        | q :: r, h1, h2 =>
          simp only at h1 h2
          by_cases hq : digB q = true
          · rw [if_pos hq] at h1 h2
            by_cases hl : i < sib i
            · rw [if_pos hl] at h1 h2
              exact pairZ_left hx hy (ih _ _ _ _ _ _ (pairZ_dig _ _) (pairZ_dig _ _) h1 h2)
            · rw [if_neg hl] at h1 h2
              exact pairZ_right hx hy (ih _ _ _ _ _ _ (pairZ_dig _ _) (pairZ_dig _ _) h1 h2)
          · rw [if_neg hq] at h1; cases h1
      · rw [if_neg hs] at h1 h2
        exact ih _ _ _ _ _ _ hx hy h1 h2
    · rw [if_neg hz] at h1 h2
      split at h1
      · rename_i h; rw [if_pos h] at h2; cases h1; cases h2; rfl
      · cases h1

/-- How long a proof is. -/
def plen : Nat → Nat → Nat → Nat
  | 0, _, _ => 0
  | n + 1, size, i => if 1 < size then (if sib i < size then 1 else 0) + plen n ((size + 1) / 2) (i / 2) else 0
theorem plen_le : ∀ (n size i : Nat), plen n size i ≤ n := by
  intro n
  induction n with
  | zero => intro _ _; exact Nat.le_refl _
  | succ n ih =>
    intro size i
    simp only [plen]
    have := ih ((size + 1) / 2) (i / 2)
    split
    · split <;> omega
    · omega
theorem check_len : ∀ (n size i : Nat) (x : Int) (p : List Int) (R : Int), checkF n size i x p = some R → p.length = plen n size i := by
  intro n
  induction n with
  | zero =>
    intro size i x p R h
    simp only [checkF] at h
    split at h
    · rename_i hp; rw [hp]; rfl
    · cases h
  | succ n ih =>
    intro size i x p R h
    simp only [checkF] at h
    simp only [plen]
    by_cases hz : 1 < size
    · rw [if_pos hz] at h ⊢
      by_cases hs : sib i < size
      · rw [if_pos hs] at h ⊢
        match p, h with
        | q :: r, h =>
          simp only at h
          by_cases hq : digB q = true
          · rw [if_pos hq] at h
            have := ih _ _ _ _ _ h
            simp only [List.length_cons]; omega
          · rw [if_neg hq] at h; cases h
      · rw [if_neg hs] at h ⊢
        have := ih _ _ _ _ _ h; omega
    · rw [if_neg hz] at h ⊢
      split at h
      · rename_i hp; rw [hp]; rfl
      · cases h

/-- A changed leaf on the next level. -/
theorem upZ_set (l : List Int) : ∀ i y, i < l.length → upZ (l.set i y) = (upZ l).set (i / 2) ((upZ (l.set i y)).getD (i / 2) 0) := by
  refine pairs_ind (p := fun l => ∀ i y, i < l.length → upZ (l.set i y) = (upZ l).set (i / 2) ((upZ (l.set i y)).getD (i / 2) 0)) (fun i y h => by simp at h) (fun a i y h => ?_) (fun a b r ih i y h => ?_) l.length l (Nat.le_refl _)
  · have : i = 0 := by simpa using h
    subst this; rfl
  · match i, h with
    | 0, _ => simp [upZ_two]
    | 1, _ => simp [upZ_two]
    | i + 2, h =>
      have hi := ih i y (by simpa using h)
      have e1 : (i + 2) / 2 = i / 2 + 1 := by omega
      rw [e1]
      simp only [List.set_cons_succ, upZ_two, List.getD_cons_succ]
      rw [← hi]
theorem proof_set : ∀ (n : Nat) (l : List Int) (i : Nat) (y : Int), i < l.length → proofF n (l.set i y) i = proofF n l i := by
  intro n
  induction n with
  | zero => intros; rfl
  | succ n ih =>
    intro l i y hi
    simp only [proofF, List.length_set]
    have hne : sib i ≠ i := by unfold sib; split <;> omega
    have e : (l.set i y).getD (sib i) 0 = l.getD (sib i) 0 := by
      simp only [List.getD]
      rw [List.getElem?_set_ne (fun h => hne h.symm)]
    rw [e, upZ_set l i y hi, ih (upZ l) (i / 2) _ (by rw [upZ_len]; omega)]
/-- A changed leaf changes the root. -/
theorem root_set {n : Nat} {l : List Int} {i : Nat} {y : Int} (hd : ∀ x ∈ l, digB x = true) (hi : i < l.length) (hl : l.length ≤ 2 ^ n) (hy : digB y = true) (e : rootF n (l.set i y) = rootF n l) : y = l.getD i 0 := by
  have h1 := check_proof n l i hd hi hl
  have h2 := check_proof n (l.set i y) i (fun x hx => by rcases List.mem_or_eq_of_mem_set hx with h | rfl; exact hd x h; exact hy) (by simpa using hi) (by simpa using hl)
  rw [List.length_set, proof_set n l i y hi, e] at h2
  have e2 : (l.set i y).getD i 0 = y := by simp [List.getD, hi]
  rw [e2] at h2
  exact check_leaf _ _ _ _ _ _ _ hy (dig_getD hd hi) h2 h1
theorem rootF_bd : ∀ (n : Nat) (l : List Int), (∀ x ∈ l, digB x = true) → 0 < l.length → digB (rootF n l) = true := by
  intro n
  induction n with
  | zero => intro l hd hl; exact dig_getD hd hl
  | succ n ih =>
    intro l hd hl
    simp only [rootF]
    split
    · exact ih _ (upZ_dig l hd) (by rw [upZ_len]; omega)
    · exact dig_getD hd hl

/-! texts -/
def txtS (n : Int) (c : UInt8) : Int := (257 * n + c.toNat + 1) % 991
def txtF (n : Int) (l : List UInt8) : Int := l.foldl txtS n
def txtZ (l : List UInt8) : Int := txtF 7 l
theorem txtS_bd (n : Int) (c : UInt8) : 0 ≤ txtS n c ∧ txtS n c ≤ 990 := by unfold txtS; omega
theorem txtF_bd (l : List UInt8) : ∀ n, 0 ≤ n → n ≤ 990 → 0 ≤ txtF n l ∧ txtF n l ≤ 990 := by
  induction l with
  | nil => intro n h0 h1; exact ⟨h0, h1⟩
  | cons c l ih => intro n _ _; exact ih _ (txtS_bd n c).1 (txtS_bd n c).2
theorem txtZ_bd (l : List UInt8) : 0 ≤ txtZ l ∧ txtZ l ≤ 990 := txtF_bd l 7 (by omega) (by omega)
theorem txtZ_snoc (l : List UInt8) (c : UInt8) : txtZ (l ++ [c]) = txtS (txtZ l) c := by unfold txtZ txtF; rw [List.foldl_append]; rfl
theorem txtF_ne (l : List UInt8) : ∀ n m, 0 ≤ n → n ≤ 990 → 0 ≤ m → m ≤ 990 → n ≠ m → txtF n l ≠ txtF m l := by
  induction l with
  | nil => intro n m _ _ _ _ h; exact h
  | cons c l ih =>
    intro n m h0 h1 h2 h3 h
    refine ih _ _ (txtS_bd n c).1 (txtS_bd n c).2 (txtS_bd m c).1 (txtS_bd m c).2 ?_
    unfold txtS; omega
theorem txtZ_byte (l r : List UInt8) {b c : UInt8} (h : b ≠ c) : txtZ (l ++ [b] ++ r) ≠ txtZ (l ++ [c] ++ r) := by
  have e : ∀ x, txtZ (l ++ [x] ++ r) = txtF (txtS (txtZ l) x) r := fun x => by unfold txtZ txtF; rw [List.foldl_append, List.foldl_append]; rfl
  rw [e, e]
  refine txtF_ne r _ _ (txtS_bd _ _).1 (txtS_bd _ _).2 (txtS_bd _ _).1 (txtS_bd _ _).2 ?_
  have hb := b.toNat_lt
  have hc := c.toNat_lt
  have hn : b.toNat ≠ c.toNat := fun e => h (UInt8.toNat_inj.1 e)
  have := txtZ_bd l
  unfold txtS; omega

theorem txt_step (s : ByteArray) (k : Nat) (hk : k < s.size) : txtZ (s.data.toList.take (k + 1)) = txtS (txtZ (s.data.toList.take k)) s[k] := by
  rw [← txtZ_snoc, List.take_succ_eq_append_getElem (by simpa using hk)]; rfl
def htZ (s : ByteArray) : Int := if s.size ≤ 60 then txtZ s.data.toList else -1
def hpZ (a b : Int) : Int := if digB a = true ∧ digB b = true then pairZ a b else -1
def leavesB (l : List Int) : Bool := decide (1 ≤ l.length ∧ l.length ≤ 16) && l.all digB
theorem leavesB_bad {l : List Int} {k : Nat} (hk : k < l.length) (h : digB l[k] = false) : leavesB l = false := by unfold leavesB; rw [pre_not hk h, Bool.and_false]
theorem leavesB_len {l : List Int} {k : Nat} (h : Pre digB l k) (hk : l.length ≤ k) : leavesB l = decide (1 ≤ l.length ∧ l.length ≤ 16) := by unfold leavesB; rw [pre_all h hk, Bool.and_true]
theorem leavesB_iff {l : List Int} (h : leavesB l = true) : (1 ≤ l.length ∧ l.length ≤ 16) ∧ ∀ x ∈ l, digB x = true := by
  unfold leavesB at h; rw [Bool.and_eq_true, decide_eq_true_eq, List.all_eq_true] at h; exact h
def mrZ (l : List Int) : Int := if leavesB l = true then rootF 4 l else -1
def mpZ (l : List Int) (i : Int) : List Int := if leavesB l = true ∧ 0 ≤ i ∧ i < l.length then proofF 4 l i.toNat else []
def mcB (root size i leaf : Int) (p : List Int) : Bool := decide (1 ≤ size ∧ size ≤ 16 ∧ 0 ≤ i ∧ i < size ∧ digB leaf = true ∧ checkF 4 size.toNat i.toNat leaf p = some root)

theorem mrZ_yes {l : List Int} (h : leavesB l = true) : mrZ l = rootF 4 l := by unfold mrZ; rw [if_pos h]
theorem mrZ_no {l : List Int} (h : leavesB l = false) : mrZ l = -1 := by unfold mrZ; rw [if_neg (by simp [h])]
theorem mpZ_yes {l : List Int} {i : Nat} (h : leavesB l = true) (hi : i < l.length) : mpZ l i = proofF 4 l i := by unfold mpZ; rw [if_pos ⟨h, by omega, by omega⟩]; rfl
theorem mpZ_no {l : List Int} {i : Int} (h : ¬ (leavesB l = true ∧ 0 ≤ i ∧ i < l.length)) : mpZ l i = [] := by unfold mpZ; rw [if_neg h]
theorem sib_int (j : Nat) : (j : Int) + 1 - (j : Int) % 2 * 2 = (sib j : Nat) := by unfold sib; split <;> omega
theorem sib_ne (j : Nat) : sib j ≠ j := by unfold sib; split <;> omega
theorem rootF_up {n : Nat} {l : List Int} (h : 1 < l.length) : rootF (n + 1) l = rootF n (upZ l) := by rw [rootF, if_pos h]
theorem rootF_end {n : Nat} {l : List Int} (h : l.length = 1) : rootF n l = l.getD 0 0 := by
  cases n with
  | zero => rfl
  | succ n => rw [rootF, if_neg (by omega)]
theorem proofF_sib {n : Nat} {l : List Int} {i : Nat} (h : 1 < l.length) (hs : sib i < l.length) : proofF (n + 1) l i = l.getD (sib i) 0 :: proofF n (upZ l) (i / 2) := by rw [proofF, if_pos h, if_pos hs]; rfl
theorem proofF_lone {n : Nat} {l : List Int} {i : Nat} (h : 1 < l.length) (hs : ¬ sib i < l.length) : proofF (n + 1) l i = proofF n (upZ l) (i / 2) := by rw [proofF, if_pos h, if_neg hs]; rfl
theorem proofF_end {n : Nat} {l : List Int} {i : Nat} (h : ¬ 1 < l.length) : proofF n l i = [] := by
  cases n with
  | zero => rfl
  | succ n => rw [proofF, if_neg h]
theorem proofF_len : ∀ (n : Nat) (l : List Int) (i : Nat), (proofF n l i).length ≤ n := by
  intro n
  induction n with
  | zero => intro _ _; exact Nat.le_refl _
  | succ n ih =>
    intro l i
    by_cases h : 1 < l.length
    · have := ih (upZ l) (i / 2)
      by_cases hs : sib i < l.length
      · rw [proofF_sib h hs, List.length_cons]; omega
      · rw [proofF_lone h hs]; omega
    · rw [proofF_end h]; simp
theorem pow_half {n k : Nat} (h : k ≤ 2 ^ (n + 1)) : (k + 1) / 2 ≤ 2 ^ n := by rw [Nat.pow_succ] at h; omega
theorem pow_pos' {n k : Nat} (h : k ≤ 2 ^ n) (h1 : 1 < k) : ∃ m, n = m + 1 := by
  cases n with
  | zero => simp at h; omega
  | succ n => exact ⟨n, rfl⟩

theorem checkF_end {n size i : Nat} {x : Int} {p : List Int} (h : ¬ 1 < size) : checkF n size i x p = if p = [] then some x else none := by
  cases n with
  | zero => rfl
  | succ n => simp only [checkF]; rw [if_neg h]
theorem checkF_lone {n size i : Nat} {x : Int} {p : List Int} (h : 1 < size) (hs : ¬ sib i < size) : checkF (n + 1) size i x p = checkF n ((size + 1) / 2) (i / 2) x p := by simp only [checkF]; rw [if_pos h, if_neg hs]
theorem checkF_none {n size i : Nat} {x : Int} (h : 1 < size) (hs : sib i < size) : checkF (n + 1) size i x [] = none := by simp only [checkF]; rw [if_pos h, if_pos hs]
theorem checkF_sib {n size i : Nat} {x q : Int} {r : List Int} (h : 1 < size) (hs : sib i < size) (hq : digB q = true) : checkF (n + 1) size i x (q :: r) = checkF n ((size + 1) / 2) (i / 2) (if i < sib i then pairZ x q else pairZ q x) r := by simp only [checkF]; rw [if_pos h, if_pos hs, if_pos hq]
theorem checkF_bad {n size i : Nat} {x q : Int} {r : List Int} (h : 1 < size) (hs : sib i < size) (hq : digB q = false) : checkF (n + 1) size i x (q :: r) = none := by simp only [checkF]; rw [if_pos h, if_pos hs, if_neg (by simp [hq])]
theorem mcB_yes {root leaf : Int} {size i : Nat} {p : List Int} (h1 : 1 ≤ size) (h2 : size ≤ 16) (h3 : i < size) (h4 : digB leaf = true) : mcB root size i leaf p = decide (checkF 4 size i leaf p = some root) := by
  unfold mcB
  refine decide_eq_decide.2 ⟨fun h => h.2.2.2.2.2, fun h => ⟨by omega, by omega, by omega, by omega, h4, h⟩⟩
theorem mcB_no {root size i leaf : Int} {p : List Int} (h : ¬ (1 ≤ size ∧ size ≤ 16 ∧ 0 ≤ i ∧ i < size ∧ digB leaf = true)) : mcB root size i leaf p = false :=
  decide_eq_false fun h' => h ⟨h'.1, h'.2.1, h'.2.2.1, h'.2.2.2.1, h'.2.2.2.2.1⟩

theorem mrZ_bd (l : List Int) : -1 ≤ mrZ l ∧ mrZ l ≤ 990 := by
  by_cases h : leavesB l = true
  · rw [mrZ_yes h]
    have := digB_bd (rootF_bd 4 l (leavesB_iff h).2 (by have := (leavesB_iff h).1; omega))
    omega
  · rw [mrZ_no (by simpa using h)]; omega
theorem mpZ_len (l : List Int) (i : Int) : (mpZ l i).length ≤ 4 := by
  unfold mpZ; split
  · exact proofF_len _ _ _
  · simp

theorem htZ_yes (s : ByteArray) (h : s.size ≤ 60) : 0 ≤ htZ s ∧ htZ s ≤ 990 := by unfold htZ; rw [if_pos h]; exact txtZ_bd _
theorem htZ_no (s : ByteArray) (h : 60 < s.size) : htZ s = -1 := by unfold htZ; rw [if_neg (by omega)]
theorem htZ_empty : htZ ⟨#[]⟩ = 7 := rfl
theorem hpZ_yes {a b : Int} (h : digB a = true) (h' : digB b = true) : hpZ a b = pairZ a b := by unfold hpZ; rw [if_pos ⟨h, h'⟩]
theorem hpZ_no {a b : Int} (h : ¬ (digB a = true ∧ digB b = true)) : hpZ a b = -1 := by unfold hpZ; rw [if_neg h]

theorem str_ne {s : ByteArray} (h : ¬ s.size = 0) : s.toList.isEmpty = false := by
  rw [ByteArray.toList_eq]
  cases e : s.data.toList with
  | nil => exact absurd (by have := congrArg List.length e; simpa using this) h
  | cons _ _ => rfl
theorem str_nil {s : ByteArray} (h : s.size = 0) : s.toList.isEmpty = true := by
  have e : s.data.toList = [] := List.eq_nil_of_length_eq_zero (by simpa using h)
  rw [ByteArray.toList_eq, e]
  rfl

/-- A text with one byte changed. -/
theorem txt_change (s : ByteArray) (k : Nat) (hk : k < s.size) (c : UInt8) (hc : c ≠ s[k]) (h60 : s.size ≤ 60) (t : ByteArray) (ht : t = s.extract 0 k ++ ⟨#[c]⟩ ++ s.extract (k + 1) s.size) : t.size = s.size ∧ 0 ≤ htZ t ∧ htZ t ≤ 990 ∧ htZ t ≠ htZ s := by
  have hd : t.data.toList = s.data.toList.take k ++ [c] ++ s.data.toList.drop (k + 1) := by
    subst ht
    simp
    exact List.take_of_length_le (by simp)
  have hsd : s.data.toList = s.data.toList.take k ++ [s[k]] ++ s.data.toList.drop (k + 1) := by
    have hk' : k < s.data.toList.length := by simpa using hk
    have h := List.take_append_drop (k + 1) s.data.toList
    rw [List.take_succ_eq_append_getElem hk'] at h
    exact h.symm
  have hsz : t.size = s.size := by
    have h1 := congrArg List.length hd
    simp at h1
    have e1 : s.data.size = s.size := rfl
    have e2 : t.data.size = t.size := rfl
    omega
  have hn := txtZ_byte (s.data.toList.take k) (s.data.toList.drop (k + 1)) hc
  rw [← hd, ← hsd] at hn
  have hb := htZ_yes t (by omega)
  refine ⟨hsz, hb.1, hb.2, ?_⟩
  unfold htZ
  rw [if_pos (show t.size ≤ 60 by omega), if_pos h60]
  exact hn

/-- A byte xor 1, 2 or 3. -/
theorem xor_byte (b : UInt8) (m : Int) (h1 : 1 ≤ m) (h3 : m ≤ 3) : ∃ c : UInt8, bits .xor .u8 (b.toNat : Int) m = (c.toNat : Int) ∧ c ≠ b := by
  have key : ∀ x : Fin 256, ∀ y : Fin 3, bits .xor .u8 (x.val : Int) ((y.val : Int) + 1) = ((x.val ^^^ (y.val + 1) : Nat) : Int) ∧ x.val ^^^ (y.val + 1) ≠ x.val ∧ x.val ^^^ (y.val + 1) < 256 := by decide +kernel
  obtain ⟨hz, hne, hlt⟩ := key ⟨b.toNat, UInt8.toNat_lt b⟩ ⟨(m - 1).toNat, by omega⟩
  simp only at hz hne hlt
  rw [show (((m - 1).toNat : Nat) : Int) + 1 = m by omega] at hz
  generalize b.toNat ^^^ ((m - 1).toNat + 1) = z at hz hne hlt
  refine ⟨UInt8.ofNat z, ?_, ?_⟩
  · rw [UInt8.toNat_ofNat', Nat.mod_eq_of_lt (show z < 2 ^ 8 from hlt), hz]
  · intro e
    apply hne
    rw [← e, UInt8.toNat_ofNat', Nat.mod_eq_of_lt (show z < 2 ^ 8 from hlt)]

theorem wrap_tmod3 (n : Nat) : ∃ m : Int, 1 ≤ m ∧ m ≤ 3 ∧ IntKind.u8.wrap (IntKind.i64.wrap (1 + ((n : Int)).tmod 3)) = m := by
  have e : ((n : Int)).tmod 3 = (n : Int) % 3 := Int.tmod_eq_emod_of_nonneg (by omega)
  refine ⟨1 + (n : Int) % 3, by omega, by omega, ?_⟩
  rw [e, IntWalk.i64_in _ (by omega), IntWalk.u8_in _ (by omega)]

theorem mcB_root {root root' size i leaf : Int} {p : List Int} (h : mcB root size i leaf p = true) (hne : root' ≠ root) : mcB root' size i leaf p = false := by
  have h1 := of_decide_eq_true h
  exact decide_eq_false fun h2 => hne (by
    have := h2.2.2.2.2.2.symm.trans h1.2.2.2.2.2
    simpa using this)
theorem mcB_len {root size i leaf : Int} {p q : List Int} (h : mcB root size i leaf p = true) (hne : q.length ≠ p.length) : mcB root size i leaf q = false := by
  have h1 := of_decide_eq_true h
  exact decide_eq_false fun h2 => hne ((check_len _ _ _ _ _ _ h2.2.2.2.2.2).trans (check_len _ _ _ _ _ _ h1.2.2.2.2.2).symm)
theorem mcB_short {root size i leaf : Int} {p : List Int} (h : mcB root size i leaf p = true) : p.length ≤ 4 := by
  have h1 := of_decide_eq_true h
  rw [check_len _ _ _ _ _ _ h1.2.2.2.2.2]
  exact plen_le _ _ _
theorem leaves_get {l : List Int} (h : leavesB l = true) {i : Nat} (hi : i < l.length) : digB l[i] = true := (leavesB_iff h).2 _ (List.getElem_mem hi)
theorem getD_at {l : List Int} {i : Nat} (hi : i < l.length) : l.getD i 0 = l[i] := by simp [hi]
theorem mc_proof {l : List Int} {i : Nat} (h : leavesB l = true) (hi : i < l.length) : mcB (mrZ l) l.length i l[i] (mpZ l i) = true := by
  obtain ⟨hl, hd⟩ := leavesB_iff h
  rw [mcB_yes (by omega) (by omega) hi (leaves_get h hi), mrZ_yes h, mpZ_yes h hi, ← getD_at hi]
  exact decide_eq_true (check_proof 4 l i hd hi (by omega))
theorem mc_leaf {l : List Int} {i : Nat} {x : Int} (h : leavesB l = true) (hi : i < l.length) (hx : x ≠ l[i]) : mcB (mrZ l) l.length i x (mpZ l i) = false := by
  obtain ⟨hl, hd⟩ := leavesB_iff h
  cases hm : mcB (mrZ l) l.length i x (mpZ l i) with
  | false => rfl
  | true =>
    have h1 := (of_decide_eq_true (mc_proof h hi)).2.2.2.2.2
    have h2 := of_decide_eq_true hm
    exact absurd (check_leaf _ _ _ _ _ _ _ h2.2.2.2.2.1 (leaves_get h hi) h2.2.2.2.2.2 h1) hx

theorem mrZ_pos {l : List Int} (h : leavesB l = true) : 0 ≤ mrZ l ∧ mrZ l ≤ 990 := by
  rw [mrZ_yes h]
  obtain ⟨hl, hd⟩ := leavesB_iff h
  exact digB_bd (rootF_bd 4 l hd (by omega))

theorem mc_leaf' {l : List Int} {i : Int} {x : Int} (h : leavesB l = true) (h0 : 0 ≤ i) (hi : i < l.length) (hx : x ≠ l.getD i.toNat 0) : mcB (mrZ l) l.length i x (mpZ l i) = false := by
  obtain ⟨i, rfl⟩ := Int.eq_ofNat_of_zero_le h0
  have hi' : i < l.length := by omega
  exact mc_leaf h hi' (by rw [← getD_at hi']; exact hx)

end Go.Proofs.Ytadgdjjibmofpab

/- What spec's functions of digests and hash trees answer, each by a walk of its text: the answers are those of plain functions on lists; conditions: a list that is read has fewer than 2^40 elements, numbers that are paired are digests. -/
namespace Go.Proofs.Ytadgdjjibmofpab
open Go.RowKit

theorem TI2 : IntT Try.prog 28 3 := ⟨Try.underlying28, by kernel_rfl⟩

end Go.Proofs.Ytadgdjjibmofpab

/- The reference's tests of transactions and of ledgers, each by a walk of its text; condition: the lists are shorter than 2^40. -/
namespace Go.Proofs.Ytadgdjjibmofpab
open Go.RowKit

def agT (x : Tx) : Value := .agg #[.int .i64 x.f, .int .i64 x.t, .int .i64 x.s, .int .i64 x.e]
theorem spec_TxnValid (x : Tx) (w : World) :
    Calls Try.prog 8 #[agT x] w fun e w' => e = .returned (.bool (txB x)) ∧ Below w.heap.size w w' := by
  obtain ⟨f, t, s, e⟩ := x
  have hb0 : Below w.heap.size w (w.alloc (.cells #[.int .i64 f, .int .i64 t, .int .i64 s, .int .i64 e] 25)) := (Below.refl _ _).alloc (Nat.le_refl _) _
  have s0 := Str.new w 25 #[.int .i64 f, .int .i64 t, .int .i64 s, .int .i64 e]
  have k0 := s0.cell 0 (v := .int .i64 f) rfl
  have H0 := Lib.hid (fun W => spec_l6In f 0 5 W)
  have k1 := s0.cell 1 (v := .int .i64 t) rfl
  have H1 := Lib.hid (fun W => spec_l6In t 0 5 W)
  have k2 := s0.cell 2 (v := .int .i64 s) rfl
  have H2 := Lib.hid (fun W => spec_l6In s 1 99 W)
  have k3 := s0.cell 3 (v := .int .i64 e) rfl
  have H3 := Lib.hid (fun W => spec_l6In e 0 9 W)
  have Hb0 := Lib.hid hb0; clear hb0 s0
  have Hres := Lib.hid (show txB ⟨f, t, s, e⟩ = (decide (0 ≤ f ∧ f ≤ 5) && (decide (0 ≤ t ∧ t ≤ 5) && (decide (f ≠ t) && (decide (1 ≤ s ∧ s ≤ 99) && decide (0 ≤ e ∧ e ≤ 9))))) from rfl)
  generalize decide (0 ≤ f ∧ f ≤ 5) = xf at *
  generalize decide (0 ≤ t ∧ t ≤ 5) = xt at *
  generalize decide (1 ≤ s ∧ s ≤ 99) = xs at *
  generalize decide (0 ≤ e ∧ e ≤ 9) = xe at *
  unfold agT
  dsimp only
  go_enter Try.func8, Try.ntmps8
  go_wp2_with fail
  generalize w.alloc (.cells #[.int .i64 f, .int .i64 t, .int .i64 s, .int .i64 e] 25) = W0 at *
  refine (H0.out W0).mono ?_
  rintro e1 w1 ⟨rfl, rfl⟩
  cases xf with
  | false =>
    go_wp2
    go_ret
    exact ⟨ret_bool (by rw [Hres.out]; simp), Hb0.out⟩
  | true =>
  go_wp2_with fail
  refine (H1.out W0).mono ?_
  rintro e1 w1 ⟨rfl, rfl⟩
  cases xt with
  | false =>
    go_wp2
    go_ret
    exact ⟨ret_bool (by rw [Hres.out]; simp), Hb0.out⟩
  | true =>
  by_cases hne : f = t
  case pos =>
    have hn1 : (f == t) = true := by rw [beq_iff_eq]; exact hne
    have hn2 : (f != t) = false := by rw [bne, hn1]; rfl
    have Hne := Lib.hid hne; clear hne
    go_wp2
    go_ret
    exact ⟨ret_bool (by rw [Hres.out, decide_eq_false (show ¬ (f ≠ t) from fun h => h Hne.out)]; rfl), Hb0.out⟩
  have hn1 : (f == t) = false := by rw [beq_eq_false_iff_ne]; exact hne
  have hn2 : (f != t) = true := by rw [bne, hn1]; rfl
  have Hres := Lib.hid (Hres.out.trans (by rw [decide_eq_true (show f ≠ t from hne)]))
  have Hne := Lib.hid hne; clear hne
  go_wp2_with fail
  refine (H2.out W0).mono ?_
  rintro e1 w1 ⟨rfl, rfl⟩
  cases xs with
  | false =>
    go_wp2
    go_ret
    exact ⟨ret_bool (by rw [Hres.out]; simp), Hb0.out⟩
  | true =>
  go_wp2_with fail
  refine (H3.out W0).mono ?_
  rintro e1 w1 ⟨rfl, rfl⟩
  go_wp2
  go_ret
  exact ⟨ret_bool (by rw [Hres.out]; cases xe <;> simp_all), Hb0.out⟩

theorem ldB_bad {l : List Int} {n : Int} {k : Nat} (hk : k < l.length) (h : ¬ (0 ≤ l[k] ∧ l[k] ≤ 999)) : ldB l n = false := by
  cases hv : ldB l n with
  | false => rfl
  | true => exact absurd ((ldB_iff.1 hv).1 _ (List.getElem_mem hk)) h
theorem ldB_end {l : List Int} {n : Int} (h : ∀ j (hj : j < l.length), 0 ≤ l[j] ∧ l[j] ≤ 999) : ldB l n = (decide (l.length = 6) && decide (0 ≤ n ∧ n ≤ 5994)) := by
  have h1 : l.all balB = true := List.all_eq_true.2 fun b hb => by
    obtain ⟨j, hj, rfl⟩ := List.mem_iff_getElem.1 hb
    exact decide_eq_true (h j hj)
  unfold ldB
  rw [h1]; rfl
set_option maxHeartbeats 1000000 in
theorem spec_LedgerValid (a : Option Addr) (cap : Nat) (l : List Int) (n : Int) (w : World) (hbig : l.length ≤ 1099511627776) (hl : IntsAt w a l) :
    Calls Try.prog 12 #[.agg #[.slice a l.length cap, .int .i64 n]] w fun e w' => e = .returned (.bool (ldB l n)) ∧ Below w.heap.size w w' := by
  have hb0 : Below w.heap.size w (w.alloc (.cells #[.slice a l.length cap, .int .i64 n] 33)) := (Below.refl _ _).alloc (Nat.le_refl _) _
  have s0 := Str.new w 33 #[.slice a l.length cap, .int .i64 n]
  have k0 := s0.cell 0 (v := .slice a l.length cap) rfl
  have k1 := s0.cell 1 (v := .int .i64 n) rfl
  have hl0 := hl.below hb0
  have Hb0 := Lib.hid hb0; clear hb0 s0 hl
  have HF := Lib.hid (fun W => spec_l6In n 0 5994 W)
  go_enter Try.func12, Try.ntmps12
  go_wp2
  generalize w.alloc (.cells #[.slice a l.length cap, .int .i64 n] 33) = W0 at *
  go_loop [3] (fun i => ∃ k : Nat, k ≤ l.length ∧ i = .int .i64 k ∧ ∀ j (hj : j < k) (hj' : j < l.length), 0 ≤ l[j] ∧ l[j] ≤ 999) (fun i => l.length - (intOf i).toNat)
  case atStart => exact ⟨0, by omega, rfl, fun j hj => absurd hj (by omega)⟩
  case round =>
    obtain ⟨k, hk, rfl, hg⟩ := hrel
    by_cases hlt : k < l.length
    · rcases hl0 with rfl | ⟨b, off, rfl, hb, hc⟩
      · simp at hlt
      have hcell := hc k hlt
      have Hc := Lib.hid hc; clear hc
      have hlt' : (k : Int) < (l.length : Int) := by omega
      have Hg := Lib.hid hg; clear hg
      by_cases h : 0 ≤ l[k] ∧ l[k] ≤ 999
      · have HI := Lib.hid (fun W => spec_l6In_yes (n := l[k]) (lo := 0) (hi := 999) h W)
        have Hh := Lib.hid (show ∀ j (hj : j < k + 1) (hj' : j < l.length), 0 ≤ l[j] ∧ l[j] ≤ 999 from fun j hj hj' => by rcases Nat.lt_succ_iff_lt_or_eq.1 hj with e | e; exact Hg.out j e hj'; subst e; exact h); clear h
        generalize l[k] = x at *
        go_wp2_with fail
        refine (HI.out _).mono ?_
        rintro e w' ⟨rfl, rfl⟩
        go_wp2
        go_round
        case rel => exact ⟨k + 1, by omega, by go_num, Hh.out⟩
        case measure => simp [intOf]; omega
      · have HI := Lib.hid (fun W => spec_l6In_no (n := l[k]) (lo := 0) (hi := 999) h W)
        have Hz := Lib.hid (ldB_bad (n := n) hlt h); clear h
        generalize l[k] = x at *
        go_wp2_with fail
        refine (HI.out _).mono ?_
        rintro e w' ⟨rfl, rfl⟩
        go_wp2
        go_ret
        exact ⟨ret_bool Hz.out.symm, Hb0.out⟩
    · have hlt' : ¬ (k : Int) < (l.length : Int) := by omega
      have Hz := Lib.hid (ldB_end (n := n) (fun j hj => hg j (by omega) hj)); clear hg
      have HL := Lib.hid hl0; clear hl0
      by_cases h6 : l.length = 6
      · have h61 : ((l.length : Int) == 6) = true := by rw [beq_iff_eq]; omega
        have Hz := Lib.hid (Hz.out.trans (by rw [decide_eq_true h6])); clear h6
        go_wp2_with fail
        refine (HF.out _).mono ?_
        rintro e w' ⟨rfl, rfl⟩
        go_wp2
        go_ret
        exact ⟨ret_bool (by rw [Hz.out]; simp), Hb0.out⟩
      · have h61 : ((l.length : Int) == 6) = false := by rw [beq_eq_false_iff_ne]; omega
        have Hz := Lib.hid (Hz.out.trans (by rw [decide_eq_false h6])); clear h6
        go_wp2
        go_ret
        exact ⟨ret_bool (by rw [Hz.out]; simp), Hb0.out⟩

end Go.Proofs.Ytadgdjjibmofpab

/- The program's tests of accounts, balances and transactions, each by a walk of its text; without conditions. -/
namespace Go.Proofs.Ytadgdjjibmofpab
open Go.RowKit

theorem lg_isAccount (n : Int) (w : World) : Calls Try.prog 48 #[.int .i64 n] w fun e w' => e = .returned (.bool (decide (0 ≤ n ∧ n ≤ 5))) ∧ w = w' := by
  obtain ⟨z, hz⟩ : ∃ z, z = decide (0 ≤ n ∧ n ≤ 5) := ⟨_, rfl⟩
  rw [show (decide (0 ≤ n ∧ n ≤ 5)) = z from hz.symm]
  by_cases h : 0 ≤ n
  · have Hf := Lib.hid (show z = decide (n < 6) from hz.trans (decide_eq_decide.2 (by omega))); clear hz
    go_enter Try.func48, Try.ntmps48
    go_wp2
    go_ret
    exact ⟨ret_bool Hf.out.symm, rfl⟩
  · have Hf := Lib.hid (show z = false from hz.trans (decide_eq_false (by omega))); clear hz
    go_enter Try.func48, Try.ntmps48
    go_wp2
    go_ret
    exact ⟨ret_bool Hf.out.symm, rfl⟩

theorem lg_isBalance (n : Int) (w : World) : Calls Try.prog 54 #[.int .i64 n] w fun e w' => e = .returned (.bool (decide (0 ≤ n ∧ n ≤ 999))) ∧ w = w' := by
  obtain ⟨z, hz⟩ : ∃ z, z = decide (0 ≤ n ∧ n ≤ 999) := ⟨_, rfl⟩
  rw [show (decide (0 ≤ n ∧ n ≤ 999)) = z from hz.symm]
  by_cases h : 0 ≤ n
  · have Hf := Lib.hid (show z = decide (n ≤ 999) from hz.trans (decide_eq_decide.2 (by omega))); clear hz
    go_enter Try.func54, Try.ntmps54
    go_wp2
    go_ret
    exact ⟨ret_bool Hf.out.symm, rfl⟩
  · have Hf := Lib.hid (show z = false from hz.trans (decide_eq_false (by omega))); clear hz
    go_enter Try.func54, Try.ntmps54
    go_wp2
    go_ret
    exact ⟨ret_bool Hf.out.symm, rfl⟩

theorem lg_valid (x : Tx) (w : World) :
    Calls Try.prog 32 #[agT x] w fun e w' => e = .returned (.bool (txB x)) ∧ Below w.heap.size w w' := by
  obtain ⟨f, t, s, e⟩ := x
  have hb0 : Below w.heap.size w (w.alloc (.cells #[.int .i64 f, .int .i64 t, .int .i64 s, .int .i64 e] 25)) := (Below.refl _ _).alloc (Nat.le_refl _) _
  have s0 := Str.new w 25 #[.int .i64 f, .int .i64 t, .int .i64 s, .int .i64 e]
  have k0 := s0.cell 0 (v := .int .i64 f) rfl
  have k1 := s0.cell 1 (v := .int .i64 t) rfl
  have k2 := s0.cell 2 (v := .int .i64 s) rfl
  have k3 := s0.cell 3 (v := .int .i64 e) rfl
  have H0 := Lib.hid (fun W => lg_isAccount f W)
  have H1 := Lib.hid (fun W => lg_isAccount t W)
  have Hb0 := Lib.hid hb0; clear hb0 s0
  have Hres := Lib.hid (show txB ⟨f, t, s, e⟩ = (decide (0 ≤ f ∧ f ≤ 5) && (decide (0 ≤ t ∧ t ≤ 5) && (decide (f ≠ t) && (decide (1 ≤ s ∧ s ≤ 99) && decide (0 ≤ e ∧ e ≤ 9))))) from rfl)
  generalize decide (0 ≤ f ∧ f ≤ 5) = xf at *
  generalize decide (0 ≤ t ∧ t ≤ 5) = xt at *
  unfold agT
  dsimp only
  go_enter Try.func32, Try.ntmps32
  go_wp2_with fail
  generalize w.alloc (.cells #[.int .i64 f, .int .i64 t, .int .i64 s, .int .i64 e] 25) = W0 at *
  refine (H0.out W0).mono ?_
  rintro e1 w1 ⟨rfl, rfl⟩
  cases xf with
  | false =>
    go_wp2
    go_ret
    exact ⟨ret_bool (by rw [Hres.out]; simp), Hb0.out⟩
  | true =>
  go_wp2_with fail
  refine (H1.out W0).mono ?_
  rintro e1 w1 ⟨rfl, rfl⟩
  cases xt with
  | false =>
    go_wp2
    go_ret
    exact ⟨ret_bool (by rw [Hres.out]; simp), Hb0.out⟩
  | true =>
  have HG := Lib.hid (fun (h : txB ⟨f, t, s, e⟩ = false) => h)
  by_cases hne : f = t
  case pos =>
    have hn1 : (f == t) = true := by rw [beq_iff_eq]; exact hne
    have hn2 : (f != t) = false := by rw [bne, hn1]; rfl
    have Hne := Lib.hid hne; clear hne
    go_wp2
    go_ret
    exact ⟨ret_bool (by rw [Hres.out, decide_eq_false (show ¬ (f ≠ t) from fun h => h Hne.out)]; rfl), Hb0.out⟩
  have hn1 : (f == t) = false := by rw [beq_eq_false_iff_ne]; exact hne
  have hn2 : (f != t) = true := by rw [bne, hn1]; rfl
  have Hres := Lib.hid (Hres.out.trans (by rw [decide_eq_true (show f ≠ t from hne)]))
  have Hne := Lib.hid hne; clear hne
  by_cases hc0 : 1 ≤ s
  case neg =>
    have Hn := Lib.hid hc0
    go_wp2
    go_ret
    exact ⟨ret_bool (by have hn := Hn.out; rw [Hres.out]; simp; omega), Hb0.out⟩
  have Hc0 := Lib.hid hc0
  by_cases hc1 : s ≤ 99
  case neg =>
    have Hn := Lib.hid hc1
    go_wp2
    go_ret
    exact ⟨ret_bool (by have hn := Hn.out; rw [Hres.out]; simp; omega), Hb0.out⟩
  have Hc1 := Lib.hid hc1
  by_cases hc2 : 0 ≤ e
  case neg =>
    have Hn := Lib.hid hc2
    go_wp2
    go_ret
    exact ⟨ret_bool (by have hn := Hn.out; rw [Hres.out]; simp; omega), Hb0.out⟩
  have Hc2 := Lib.hid hc2
  go_wp2
  go_ret
  exact ⟨ret_bool (by have h0 := Hc0.out; have h1 := Hc1.out; have h2 := Hc2.out; rw [Hres.out, decide_eq_true (show 1 ≤ s ∧ s ≤ 99 from ⟨h0, h1⟩)]; simp only [Bool.true_and]; exact decide_eq_decide.2 (by omega)), Hb0.out⟩

theorem impl_TxnValid (x : Tx) (w : World) :
    Calls Try.prog 10 #[agT x] w fun e w' => e = .returned (.bool (txB x)) ∧ Below w.heap.size w w' := by
  have H := Lib.hid (fun W => lg_valid x W)
  have Hr := Lib.hid (show txB x = txB x from rfl)
  generalize txB x = B at *
  obtain ⟨f, t, s, e⟩ := x
  have hb0 : Below w.heap.size w (w.alloc (.cells #[.int .i64 f, .int .i64 t, .int .i64 s, .int .i64 e] 25)) := (Below.refl _ _).alloc (Nat.le_refl _) _
  have s0 := Str.new w 25 #[.int .i64 f, .int .i64 t, .int .i64 s, .int .i64 e]
  have k0 := s0.cell 0 (v := .int .i64 f) rfl
  have k1 := s0.cell 1 (v := .int .i64 t) rfl
  have k2 := s0.cell 2 (v := .int .i64 s) rfl
  have k3 := s0.cell 3 (v := .int .i64 e) rfl
  have Hb0 := Lib.hid hb0; clear hb0 s0
  unfold agT at H ⊢
  dsimp only at H ⊢
  go_enter Try.func10, Try.ntmps10
  go_wp2_with fail
  generalize w.alloc (.cells #[.int .i64 f, .int .i64 t, .int .i64 s, .int .i64 e] 25) = W0 at *
  refine (H.out W0).mono ?_
  rintro e1 w1 ⟨rfl, hb1⟩
  have Hb1 := Lib.hid (below_step Hb0.out Hb0.out.size hb1)
  clear hb1
  go_wp2
  go_ret
  exact ⟨rfl, Hb1.out⟩

end Go.Proofs.Ytadgdjjibmofpab

/- The exact laws' functions on values and lists of Ledger: sameness, copies, sizes, marks, each by a walk of its text; conditions: the lists are no longer than the laws' bound. -/
namespace Go.Proofs.Ytadgdjjibmofpab
open Go.RowKit

def ledgerP (e : List Fd) : Prop := ∃ (x0 : List Int) (x1 : Int), e = [.l x0, .i x1]
theorem ledgerP_len {es : List (List Fd)} (h : ∀ e ∈ es, ledgerP e) : ∀ e ∈ es, e.length = 2 := by
  intro e he
  obtain ⟨_, _, rfl⟩ := h e he
  rfl

theorem ledger_inf : (Try.prog.info? 33).map (fun i => (i.zero, i.size, i.bytes)) = some (some (.agg #[.slice none 0 0, .int .i64 0]), 2, 32) := by kernel_rfl
theorem ledger_new {B hi : Nat} {w : World} (x1 : Int) {a0 : Option Addr} {c0 : Nat} {x0 : List Int} (h : Own 3 w hi (.slice a0 x0.length c0) x0) (hB : B ≤ hi) :
    (∀ j (hj : j < [.l x0, Fd.i x1].length), ∃ c, [Value.slice a0 x0.length c0, Value.int .i64 x1][j]? = some c ∧ FdOk 3 w B c ([.l x0, Fd.i x1])[j]) ∧ (∀ (p q : Nat) c d, [Value.slice a0 x0.length c0, Value.int .i64 x1][p]? = some c → [Value.slice a0 x0.length c0, Value.int .i64 x1][q]? = some d → p ≠ q → Apart c d) ∧ ∀ c ∈ [Value.slice a0 x0.length c0, Value.int .i64 x1], ∀ g, c.ownBlock = some g → hi ≤ g := by
  refine ⟨fun j hj => ?_, fun p q c d hp hq hne g hc hd => ?_, fun c hc g hg => ?_⟩
  · match j, hj with
    | 0, _ => exact ⟨_, rfl, h.mono hB⟩
    | 1, _ => exact ⟨_, rfl, rfl⟩
  · have no : ∀ (p : Nat) c, p ≠ 0 → [Value.slice a0 x0.length c0, Value.int .i64 x1][p]? = some c → c.ownBlock = none := by
      intro p c hp hc
      match p, hc with
      | 0, hc => exact absurd rfl hp
      | 1, hc => cases hc; rfl
      | p + 2, hc => simp at hc
    by_cases e : p = 0
    · have := no q d (fun h => hne (e.trans h.symm)) hq
      rw [this] at hd; cases hd
    · have := no p c e hp
      rw [this] at hc; cases hc
  · simp only [List.mem_cons, List.not_mem_nil, or_false] at hc
    rcases hc with rfl | rfl
    · exact (h.lt g hg).1
    · cases hg

set_option maxRecDepth 8000 in
/-- A Ledger that came in by value. -/
theorem open_Ledger {H : Type} {enc : TypeId × Value → H} {W : World} {base : Nat} {v : Value} {d : DataW H} {p : List MemPlace} (hv : Value.okWide Try.prog W .any base 30 v) (h : DataW.Trod enc Try.prog W 0 (fun _ => true) true 30 v d p) :
    ∃ a0 c0 x0 x1, v = .agg #[.slice a0 x0.length c0, .int .i64 x1] ∧ (x0.length ≤ maxLen ∧ ∀ x ∈ x0, -9223372036854775808 ≤ x ∧ x ≤ 9223372036854775807) ∧ IntsAt W a0 x0 ∧ (-9223372036854775808 ≤ x1 ∧ x1 ≤ 9223372036854775807) := by
  obtain ⟨cs, rfl, hl, hf⟩ := open_struct (Gs := [RowsG [IntG], IntG]) Try.underlying30 (by kernel_rfl) rfl (fun j h h' => by
    match j, h, h' with
    | 0, _, _ => exact ⟨rfl, opens_slice Try.underlying28 (by kernel_rfl) (opens_int Try.underlying3 (by kernel_rfl))⟩
    | 1, _, _ => exact ⟨rfl, opens_int Try.underlying3 (by kernel_rfl)⟩) hv h
  match cs, hl with
  | [u0, u1], _ =>
    obtain ⟨d0, f0, r0, g0⟩ := hf 0 (by simp) (by simp)
    obtain ⟨x0, rfl, b0⟩ := ints_of g0
    obtain ⟨a0, c0, rfl, _, i0⟩ := Rd.ints (show Rd W (intsD x0) u0 f0 from r0)
    obtain ⟨d1, f1, r1, x1, rfl, b1⟩ := hf 1 (by simp) (by simp)
    obtain ⟨rfl, _⟩ := Rd.int (show Rd W (.i x1) u1 f1 from r1)
    exact ⟨a0, c0, x0, x1, rfl, b0, i0, b1⟩

theorem laws_eqLedgerR (a0 a0' : Option Addr) (c0 c0' : Nat) (x0 : List Int) (x1 : Int) (w : World) (n0 : x0.length ≤ 1099511627776) (h0 : IntsAt w a0 x0) (h0' : IntsAt w a0' x0) :
    Calls Try.prog 15 #[.agg #[.slice a0 x0.length c0, .int .i64 x1], .agg #[.slice a0' x0.length c0', .int .i64 x1]] w fun e w' => e = .returned (.bool true) ∧ Below w.heap.size w w' := by
  have hb : Below w.heap.size w ((w.alloc (.cells #[.slice a0 x0.length c0, .int .i64 x1] 33)).alloc (.cells #[.slice a0' x0.length c0', .int .i64 x1] 33)) := ((Below.refl _ w).alloc (Nat.le_refl _) _).alloc (by simp) _
  have s0 := (Str.new w 33 #[.slice a0 x0.length c0, .int .i64 x1]).alloc (.cells #[.slice a0' x0.length c0', .int .i64 x1] 33)
  have s1 : Str ((w.alloc (.cells #[.slice a0 x0.length c0, .int .i64 x1] 33)).alloc (.cells #[.slice a0' x0.length c0', .int .i64 x1] 33)) (w.heap.size + 1) 33 #[.slice a0' x0.length c0', .int .i64 x1] := by
    rw [← (by simp : (w.alloc (.cells #[.slice a0 x0.length c0, .int .i64 x1] 33)).heap.size = w.heap.size + 1)]
    exact Str.new _ _ _
  have k0 := s0.cell 0 (v := .slice a0 x0.length c0) rfl
  have k1 := s0.cell 1 (v := .int .i64 x1) rfl
  have j0 := s1.cell 0 (v := .slice a0' x0.length c0') rfl
  have j1 := s1.cell 1 (v := .int .i64 x1) rfl
  have H0 := Lib.hid (fun W (h : Below w.heap.size w W) => laws_eqIntS' a0 a0' c0 c0' x0 W n0 (h0.below h) (h0'.below h))
  have Hb0 := Lib.hid hb; clear hb s0 s1 h0 h0'
  go_enter Try.func15, Try.ntmps15
  go_wp2_with fail
  generalize ((w.alloc (.cells #[.slice a0 x0.length c0, .int .i64 x1] 33)).alloc (.cells #[.slice a0' x0.length c0', .int .i64 x1] 33)) = W0 at *
  refine (H0.out _ Hb0.out).mono ?_
  rintro e W1 ⟨rfl, hd⟩
  have Hb1 := Lib.hid (Hb0.out.trans (hd.below _))
  have k0 := (hd.cell _).trans k0
  have k1 := (hd.cell _).trans k1
  have j0 := (hd.cell _).trans j0
  have j1 := (hd.cell _).trans j1
  clear hd
  go_wp2
  go_ret
  exact ⟨rfl, Hb1.out⟩

theorem laws_szIntSLedger (a : Option Addr) (cap : Nat) (xs : List Int) (left : Nat) (w : World) (hl : left ≤ 1048576) (hbig : xs.length ≤ 9223372036854775807) :
    Calls Try.prog 33 #[.slice a xs.length cap, .int .i64 (left : Int)] w fun e w' => e = .returned (.int .i64 (if xs.length ≤ left then ((left - xs.length : Nat) : Int) else -1)) ∧ w = w' := by
  by_cases h : xs.length ≤ left
  · have h' : ¬ ((left : Int) - (xs.length : Int) < 0) := by omega
    rw [if_pos h]
    go_enter Try.func33, Try.ntmps33
    go_wp2
    go_ret
    exact ⟨ret_int (by omega), rfl⟩
  · have h' : (left : Int) - (xs.length : Int) < 0 := by omega
    rw [if_neg h]
    go_enter Try.func33, Try.ntmps33
    go_wp2
    go_ret
    exact ⟨rfl, rfl⟩

theorem laws_szLedgerR (a0 : Option Addr) (c0 : Nat) (x0 : List Int) (x1 : Int) (left : Nat) (w : World) (hl : left ≤ 1048576) (n0 : x0.length ≤ 9223372036854775807) :
    Calls Try.prog 11 #[.agg #[.slice a0 x0.length c0, .int .i64 x1], .int .i64 (left : Int)] w fun e w' => e = .returned (.int .i64 (if x0.length ≤ left then ((left - (x0.length) : Nat) : Int) else -1)) ∧ Below w.heap.size w w' := by
  have hb : Below w.heap.size w (w.alloc (.cells #[.slice a0 x0.length c0, .int .i64 x1] 30)) := (Below.refl _ w).alloc (Nat.le_refl _) _
  have s0 := Str.new w 30 #[.slice a0 x0.length c0, .int .i64 x1]
  have k0 := s0.cell 0 (v := .slice a0 x0.length c0) rfl
  have k1 := s0.cell 1 (v := .int .i64 x1) rfl
  have Hb := Lib.hid hb; clear hb s0
  by_cases h0 : x0.length ≤ left
  · have H0 := fun W => laws_szIntSLedger a0 c0 x0 left W (by omega) n0
    rw [if_pos h0] at H0
    obtain ⟨l0, hl0⟩ : ∃ l : Nat, left - x0.length = l := ⟨_, rfl⟩
    rw [hl0] at H0
    have H0 := Lib.hid H0
    have L0 := Lib.hid hl0; clear hl0
    have g0 : decide ((l0 : Int) < 0) = false := decide_eq_false (by omega)
    have b0 : l0 ≤ 1048576 := by have := L0.out; omega
    go_enter Try.func11, Try.ntmps11
    go_wp2_with fail
    refine (H0.out _).mono ?_
    rintro e w' ⟨rfl, rfl⟩
    go_wp2
    go_ret
    exact ⟨ret_int (by have := L0.out; first | omega | (rw [if_pos (by omega)]; omega)), Hb.out⟩
  · have H0 := fun W => laws_szIntSLedger a0 c0 x0 left W (by omega) n0
    rw [if_neg h0] at H0
    have H0 := Lib.hid H0
    go_enter Try.func11, Try.ntmps11
    go_wp2_with fail
    refine (H0.out _).mono ?_
    rintro e w' ⟨rfl, rfl⟩
    go_wp2
    go_ret
    exact ⟨ret_int (by first | rfl | (rw [if_neg (by omega)])), Hb.out⟩

theorem laws_toLedgerR (a0 : Option Addr) (c0 : Nat) (x0 : List Int) (x1 : Int) (w : World) (hbig : x0.length ≤ 1099511627776) (hc : IntsAt w a0 x0) :
    Calls Try.prog 13 #[.agg #[.slice a0 x0.length c0, .int .i64 x1]] w fun e w' => ∃ v, e = .returned (.agg #[v, .int .i64 x1]) ∧ Own 3 w' w.heap.size v x0 ∧ Below w.heap.size w w' := by
  have hbW : Below w.heap.size w (((w.alloc (.cells #[.slice a0 x0.length c0, .int .i64 x1] 30)).alloc (.cells #[.slice none 0 0, .int .i64 0] 33)).alloc (.cells #[.slice none 0 0, .int .i64 0] 33)) := (((Below.refl _ w).alloc (Nat.le_refl _) _).alloc (by simp) _).alloc (by simp; omega) _
  have s0 := ((Str.new w 30 #[.slice a0 x0.length c0, .int .i64 x1]).alloc (.cells #[.slice none 0 0, .int .i64 0] 33)).alloc (.cells #[.slice none 0 0, .int .i64 0] 33)
  have s1 := (Str.new (w.alloc (.cells #[.slice a0 x0.length c0, .int .i64 x1] 30)) 33 #[.slice none 0 0, .int .i64 0]).alloc (.cells #[.slice none 0 0, .int .i64 0] 33)
  have s2 := Str.new ((w.alloc (.cells #[.slice a0 x0.length c0, .int .i64 x1] 30)).alloc (.cells #[.slice none 0 0, .int .i64 0] 33)) 33 #[.slice none 0 0, .int .i64 0]
  have hzW : (((w.alloc (.cells #[.slice a0 x0.length c0, .int .i64 x1] 30)).alloc (.cells #[.slice none 0 0, .int .i64 0] 33)).alloc (.cells #[.slice none 0 0, .int .i64 0] 33)).heap.size = w.heap.size + 3 := by simp
  simp only [World.size_alloc] at s1 s2
  have Hc := Lib.hid (hc.below hbW)
  have Hb := Lib.hid hbW
  have Hs0 := Lib.hid s0
  have Hs1 := Lib.hid s1
  have Hs2 := Lib.hid s2
  have Hz := Lib.hid hzW
  clear hc hbW s0 s1 s2 hzW
  go_enter Try.func13, Try.ntmps13
  go_wp2_with fail
  generalize ((w.alloc (.cells #[.slice a0 x0.length c0, .int .i64 x1] 30)).alloc (.cells #[.slice none 0 0, .int .i64 0] 33)).alloc (.cells #[.slice none 0 0, .int .i64 0] 33) = W1 at *
  refine (laws_toIntS a0 c0 x0 W1 hbig Hc.out).mono ?_
  rintro e w6 ⟨v, rfl, hown, hb6⟩
  have hz := Hz.out
  have t0 : Str w6 w.heap.size 30 #[.slice a0 x0.length c0, .int .i64 x1] := (hb6.block _ (by omega)).trans Hs0.out
  have t1 : Str w6 (w.heap.size + 1) 33 #[.slice none 0 0, .int .i64 0] := (hb6.block _ (by omega)).trans Hs1.out
  have t2 : Str w6 (w.heap.size + 1 + 1) 33 #[.slice none 0 0, .int .i64 0] := (hb6.block _ (by omega)).trans Hs2.out
  have Hlt := Lib.hid (show ∀ g, v.ownBlock = some g → w.heap.size + 3 ≤ g from fun g e => by have := (hown.lt g e).1; omega)
  have HbF := Lib.hid (below_step Hb.out (by omega) hb6)
  obtain ⟨a6, c6, rfl, _, _⟩ := hown.ints
  have HwW := Lib.hid (show w.heap.size ≤ W1.heap.size by omega)
  have Hown := Lib.hid hown
  clear hown hb6 hz Hz Hs0 Hs1 Hs2 Hc Hb
  have l1 := t0.cell 1 (v := .int .i64 x1) rfl
  have k0 := t1.cell 0 (v := .slice none 0 0) rfl
  have k1 := t1.cell 1 (v := .int .i64 0) rfl
  have f0 := t1.frozen 0
  have f1 := t1.frozen 1
  have j0 := t2.cell 0 (v := .slice none 0 0) rfl
  have j1 := t2.cell 1 (v := .int .i64 0) rfl
  have g0 := t2.frozen 0
  have g1 := t2.frozen 1
  have hne : w.heap.size + 1 ≠ w.heap.size + 1 + 1 := by omega
  have u := ((((t1.other hne 0 (.slice a6 x0.length c6)).other hne 1 (.int .i64 x1)).set 0 (.slice a6 x0.length c6)).set 1 (.int .i64 x1))
  have e0 := u.cell 0 (v := .slice a6 x0.length c6) rfl
  have e1 := u.cell 1 (v := .int .i64 x1) rfl
  clear u t0 t1 t2
  go_wp2
  refine bodyPost_ret (v := .agg #[.slice a6 x0.length c6, .int .i64 x1]) (by simp [results, Try.f13, go_sem, e0, e1]) rfl ?_
  have n1 : (Value.slice a6 x0.length c6).ownBlock ≠ some (w.heap.size + 1) := fun e => by have := Hlt.out _ e; omega
  have n2 : (Value.slice a6 x0.length c6).ownBlock ≠ some (w.heap.size + 1 + 1) := fun e => by have := Hlt.out _ e; omega
  exact ⟨_, rfl, (((((Hown.out.mono HwW.out).set_other n2 0 _).set_other n2 1 _).set_other n1 0 _).set_other n1 1 _), ((((HbF.out.setCell (p := ⟨w.heap.size + 1 + 1, 0, none⟩) (by simp only; omega) _).setCell (p := ⟨w.heap.size + 1 + 1, 1, none⟩) (by simp only; omega) _).setCell (p := ⟨w.heap.size + 1, 0, none⟩) (by simp only; omega) _).setCell (p := ⟨w.heap.size + 1, 1, none⟩) (by simp only; omega) _)⟩

theorem ledger_info : (Try.prog.info? 33).map (fun i => (i.zero, i.size, i.bytes)) = some (some (.agg #[.slice none 0 0, .int .i64 0]), 2, 32) := by kernel_rfl

theorem laws_markLedgerR (x1 : Int) (v : Value) (xs : List Int) (k B : Nat) (w : World) (hlen : xs.length ≤ 1099511627776) (hk : k ≤ 1099511627776) (hown : Own 3 w B v xs) :
    Calls Try.prog 20 #[.agg #[v, .int .i64 x1], .int .i64 k] w fun e w' => e = .returned (.int .i64 ((k + xs.length : Nat) : Int)) ∧ Own 3 w' B v (markL k xs.length) ∧ (w.alloc (.cells #[v, .int .i64 x1] 33)).grownBy w' v.ownBlock := by
  have H := Lib.hid (laws_markIntS v xs k B _ hlen hk (hown.alloc (.cells #[v, .int .i64 x1] 33)))
  obtain ⟨a, cap, rfl, _, _⟩ := hown.ints
  clear hown
  go_enter Try.func20, Try.ntmps20
  go_wp2_with fail
  refine H.out.mono ?_
  rintro e w1 ⟨rfl, ho, hg⟩
  go_wp2
  go_ret
  exact ⟨rfl, ho, hg⟩

theorem laws_heldLedgerR (x1 : Int) (a : Option Addr) (cap k n : Nat) (w : World) (hlen : n ≤ 1099511627776) (hk : k ≤ 1099511627776) (hc : IntsAt w a (markL k n)) :
    Calls Try.prog 21 #[.agg #[.slice a n cap, .int .i64 x1], .int .i64 k] w fun e w' => e = .returned (.int .i64 ((k + n : Nat) : Int)) ∧ Below w.heap.size w w' := by
  have hb : Below w.heap.size w (w.alloc (.cells #[.slice a n cap, .int .i64 x1] 33)) := (Below.refl _ w).alloc (Nat.le_refl _) _
  have H := Lib.hid (laws_heldIntS a cap k n _ hlen hk (hc.below hb))
  have Hb := Lib.hid hb; clear hb hc
  have hneg : decide (((k + n : Nat) : Int) < 0) = false := decide_eq_false (by omega)
  go_enter Try.func21, Try.ntmps21
  go_wp2_with fail
  refine H.out.mono ?_
  rintro e w1 ⟨rfl, hd⟩
  have Hb1 := Lib.hid (Hb.out.trans (hd.below _))
  go_wp2
  go_ret
  exact ⟨rfl, Hb1.out⟩

end Go.Proofs.Ytadgdjjibmofpab

/- An owned list as the source of an append; a general step, nothing here speaks of the program. -/
namespace Go.Proofs.Ytadgdjjibmofpab
open Go.RowKit

theorem own_src {E : TypeId} {w : World} {B n c : Nat} {a : Option Addr} {xs : List Int} (h : Own E w B (.slice a n c) xs) : SrcAt w a c xs := by
  obtain ⟨a', c', e, _, hs, _⟩ := h.src
  cases e
  exact hs

end Go.Proofs.Ytadgdjjibmofpab

/- The reference's total of a ledger, by a walk of its text; condition: the list is shorter than 2^40. -/
namespace Go.Proofs.Ytadgdjjibmofpab
open Go.RowKit

/-- The total of a ledger, or -1. -/
def totZ (l : List Int) (n : Int) : Int := if ldB l n then l.sum + n else -1
theorem sum_take_succ {l : List Int} {k : Nat} (hk : k < l.length) : (l.take (k + 1)).sum = (l.take k).sum + l[k] := by
  rw [List.take_succ_eq_append_getElem hk, List.sum_append]; simp
theorem sum_take_bd {l : List Int} (h : ∀ b ∈ l, 0 ≤ b ∧ b ≤ 999) : ∀ k, k ≤ l.length → 0 ≤ (l.take k).sum ∧ (l.take k).sum ≤ 999 * k
  | 0, _ => by simp
  | k + 1, hk => by
    have h1 := sum_take_bd h k (by omega)
    have h2 := h _ (List.getElem_mem (show k < l.length by omega))
    rw [sum_take_succ (by omega)]; omega
set_option maxHeartbeats 1000000 in
theorem spec_l31Total (a : Option Addr) (cap : Nat) (l : List Int) (n : Int) (w : World) (hl : IntsAt w a l) (hv : ldB l n = true) :
    Calls Try.prog 37 #[.agg #[.slice a l.length cap, .int .i64 n]] w fun e w' => e = .returned (.int .i64 (l.sum + n)) ∧ Below w.heap.size w w' := by
  have hb0 : Below w.heap.size w (w.alloc (.cells #[.slice a l.length cap, .int .i64 n] 33)) := (Below.refl _ _).alloc (Nat.le_refl _) _
  have s0 := Str.new w 33 #[.slice a l.length cap, .int .i64 n]
  have k0 := s0.cell 0 (v := .slice a l.length cap) rfl
  have k1 := s0.cell 1 (v := .int .i64 n) rfl
  have hl0 := hl.below hb0
  have Hb0 := Lib.hid hb0; clear hb0 s0 hl
  obtain ⟨hv1, hv2, hv3, hv4⟩ := ldB_iff.1 hv
  have Hbd := Lib.hid (sum_take_bd hv1)
  have Hv1 := Lib.hid hv1; clear hv1 hv
  have H6 := Lib.hid hv2; clear hv2
  have hle := H6.out
  have hbig : l.length ≤ 6 := by omega
  clear hle
  rcases hl0 with rfl | ⟨b, off, rfl, hb, hc⟩
  · exact absurd H6.out (by simp)
  have Hc := Lib.hid hc; clear hc
  go_enter Try.func37, Try.ntmps37
  go_wp2
  generalize w.alloc (.cells #[.slice (some ⟨b, off, none⟩) l.length cap, .int .i64 n] 33) = W0 at *
  go_loop [3, 4] (fun s i => ∃ k : Nat, k ≤ l.length ∧ i = .int .i64 k ∧ s = .int .i64 (n + (l.take k).sum)) (fun _ i => l.length - (intOf i).toNat)
  case atStart => exact ⟨0, by omega, rfl, by simp⟩
  case round =>
    obtain ⟨k, hk, rfl, rfl⟩ := hrel
    by_cases hlt : k < l.length
    · have hcell := Hc.out k hlt
      have hlt' : (k : Int) < (l.length : Int) := by omega
      have h1 := Hbd.out k (by omega)
      have h2 := Hv1.out _ (List.getElem_mem hlt)
      have Hs := Lib.hid (sum_take_succ hlt)
      generalize (l.take k).sum = S at *
      generalize l[k] = x at *
      have hw : IntKind.i64.wrap (n + S + x) = n + S + x := IntWalk.i64_in _ (by omega)
      go_wp2
      go_round
      case rel => exact ⟨k + 1, by omega, by go_num, by rw [Hs.out, Int.add_assoc]⟩
      case measure => simp [intOf]; omega
    · have hlt' : ¬ (k : Int) < (l.length : Int) := by omega
      have e : k = l.length := by omega
      subst e
      have Ht := Lib.hid (show (l.take l.length).sum = l.sum by rw [List.take_length])
      generalize (l.take l.length).sum = S at *
      go_wp2
      go_ret
      exact ⟨by rw [Ht.out, Int.add_comm]; rfl, Hb0.out⟩

end Go.Proofs.Ytadgdjjibmofpab

/- A region that draws its order, operation by operation, where the condition on the world is kept up to a last operation alone (a store into what was loaded): general steps, nothing here speaks of the program. -/
namespace Go.Proofs.Ytadgdjjibmofpab
open Go.RowKit

/-- Whatever order is picked from here on; S holds behind every operation until number m has come up. -/
def wpAnyL (P : Program) (md : Region.Mode) (ops : Array Oper) (Q : Exit → Act → World → Prop) (m : Nat) (S : World → Prop) : Nat → Array Bool → Act → World → Prop
  | 0, listed, a, w => Region.ready md ops listed = [] ∧ Q .normal a w
  | fuel + 1, listed, a, w =>
    (Region.ready md ops listed = [] → Q .normal a w) ∧
    ∀ i ∈ Region.ready md ops listed, wpOp P ops Q i (fun a' w' => ((listed.setIfInBounds i true).getD m true = false → S w') ∧ wpAnyL P md ops Q m S fuel (listed.setIfInBounds i true) a' w') a w

section
variable {P : Program} {md : Region.Mode} {ops : Array Oper} {Q : Exit → Act → World → Prop} {S : World → Prop} {m : Nat}

theorem any_of_L : ∀ (fuel : Nat) (listed : Array Bool) (a : Act) (w : World), wpAnyL P md ops Q m S fuel listed a w → wpAny P md ops Q fuel listed a w
  | 0, _, _, _, h => h
  | fuel + 1, _, _, _, h => ⟨h.1, fun i hi => wpOp_mono (fun a' w' h' => any_of_L fuel _ a' w' h'.2) (h.2 i hi)⟩

/-- Of two that may come up, neither waits for the other. -/
theorem ready_pair {listed : Array Bool} {i j : Nat} (hi : i ∈ Region.ready md ops listed) (hj : j ∈ Region.ready md ops listed) :
    listed.getD j true = false ∧ ∃ o, ops[j]? = some o ∧ ∀ e ∈ o.after, Region.binds md e = true → e.on ≠ i := by
  obtain ⟨hun, o, ho, hall⟩ := mem_ready.1 hj
  refine ⟨hun, o, ho, fun e he hb heq => ?_⟩
  have h1 := hall e he hb
  have h0 := (mem_ready.1 hi).1
  rw [heq] at h1
  by_cases hlt : i < listed.size <;> simp [hlt] at h0 h1
  rw [h0] at h1; cases h1
/-- Number m waits for number i. -/
def waits (md : Region.Mode) (ops : Array Oper) (m i : Nat) : Bool := (ops[m]?.map fun o => o.after.any fun e => Region.binds md e && e.on == i).getD false
theorem waits_not {listed : Array Bool} {i : Nat} (hw : waits md ops m i = true) (hi : i ∈ Region.ready md ops listed) : m ∉ Region.ready md ops listed := by
  intro hm
  obtain ⟨_, o, ho, hno⟩ := ready_pair hi hm
  unfold waits at hw
  rw [ho, Option.map_some, Option.getD_some, Array.any_eq_true'] at hw
  obtain ⟨e, he, hb⟩ := hw
  rw [Bool.and_eq_true, beq_iff_eq] at hb
  exact hno e he hb.1 hb.2

/-- Whoever may come up ahead of number i leaves its temporaries alone. -/
def FreeAt (md : Region.Mode) (ops : Array Oper) (oi : Oper) (i : Nat) (listed : Array Bool) : Prop :=
  ∀ j oj, ops[j]? = some oj → j ≠ i → listed.getD j true = false → (∀ e ∈ oj.after, Region.binds md e = true → e.on ≠ i) → oi.apart ops oj = true
theorem FreeAt.set {oi : Oper} {i j : Nat} {listed : Array Bool} (h : FreeAt md ops oi i listed) (hj : listed.getD j true = false) : FreeAt md ops oi i (listed.setIfInBounds j true) := by
  intro k ok hk hki hun hno
  refine h k ok hk hki ?_ hno
  rcases Nat.decEq j k with hjk | hjk
  · rwa [getD_set_ne true hjk] at hun
  · exact hjk ▸ hj
theorem firstL {i : Nat} {oi : Oper} {v : Value} (hi : ops[i]? = some oi) (hsel : ∀ (j : Nat) (o : Oper) cs b, ops[j]? = some o → o.op ≠ .select cs b)
    (hQ : ∀ c a w, Q (.panic c) (a.put oi.dst v) w → Q (.panic c) a w) (hw : waits md ops m i = true) (fuel : Nat) :
    ∀ (listed : Array Bool) (a : Act) (w : World), FreeAt md ops oi i listed → listed.getD m true = false → i ∈ Region.ready md ops listed → YieldsIf P ops S oi v a → S w →
      wpAnyL P md ops Q m S fuel (listed.setIfInBounds i true) (a.put oi.dst v) w → wpAnyL P md ops Q m S (fuel + 1) listed a w := by
  have im : ∀ {listed}, i ∈ Region.ready md ops listed → i ≠ m := fun hr e => waits_not hw hr (e ▸ hr)
  induction fuel with
  | zero =>
    intro listed a w _ _ hr hy hS H
    refine ⟨fun h => absurd hr (by rw [h]; simp), fun j hj => ?_⟩
    rcases Nat.decEq j i with hji | rfl
    · exact absurd (ready_mono hj hji) (by rw [H.1]; simp)
    · exact hy.wpOp hi hS ⟨fun _ => hS, H⟩
  | succ fuel ih =>
    intro listed a w hfree hmf hr hy hS H
    refine ⟨fun h => absurd hr (by rw [h]; simp), fun j hj => ?_⟩
    rcases Nat.decEq j i with hji | rfl
    · have hjm : j ≠ m := fun e => waits_not hw hr (e ▸ hj)
      obtain ⟨hjun, oj, hoj, hno⟩ := ready_pair hr hj
      refine wpOp_mono (fun a' w' h3 => ?_) (wpOp_putIf hoj (hfree j oj hoj hji hjun hno) (fun cs b => hsel i oi cs b hi) (fun cs b => hsel j oj cs b hoj) hQ hy (H.2 j (ready_mono hj hji)))
      have hS' : S w' := h3.2.1 (by rw [getD_set_ne true hjm, getD_set_ne true (im hr)]; exact hmf)
      exact ⟨fun _ => hS', ih _ a' w' (hfree.set hjun) (by rw [getD_set_ne true hjm]; exact hmf) (ready_mono hr (Ne.symm hji)) h3.1 hS' (by rw [Array.setIfInBounds_comm _ _ hji]; exact h3.2.2)⟩
    · exact hy.wpOp hi hS ⟨fun _ => hS, H⟩
end

section
variable {P : Program} {md : Region.Mode} {l : List Oper} {Q : Exit → Act → World → Prop} {S : World → Prop} {oi : Oper} {rest : List Oper} {fuel m : Nat} {listed : Array Bool} {a : Act} {w : World}

/-- Take number i first: it is carried out and yields v in every world that meets S. -/
theorem takeL (i : Nat) {v : Value} (hi : l.drop i = oi :: rest) (hs : Region.noSelect l.toArray = true) (hf : Region.free md l.toArray listed i = true) (hr : (Region.ready md l.toArray listed).contains i = true) (hm : waits md l.toArray m i = true) (hm' : listed.getD m true = false)
    (hQ : ∀ c a w, Q (.panic c) (a.put oi.dst v) w → Q (.panic c) a w) (hS : S w) (hw : Region.wanted oi (yielded l.toArray a.tmps) = true)
    (hy : ∀ w, S w → (execOp a.eval oi).run P w = .ok (.value v) w)
    (h : wpAnyL P md l.toArray Q m S fuel (listed.setIfInBounds i true) (a.put oi.dst v) w) : wpAnyL P md l.toArray Q m S (fuel + 1) listed a w :=
  firstL (drop_at hi) (Region.noSelect_spec hs) hQ hm fuel listed a w (Region.free_spec (drop_at hi) hf) hm' (by simpa using hr) (.inl ⟨hw, hy⟩) hS h
/-- Number i is left out by its guard. -/
theorem skipL (i : Nat) (hi : l.drop i = oi :: rest) (hs : Region.noSelect l.toArray = true) (hf : Region.free md l.toArray listed i = true) (hr : (Region.ready md l.toArray listed).contains i = true) (hm : waits md l.toArray m i = true) (hm' : listed.getD m true = false)
    (hQ : ∀ c a w, Q (.panic c) (a.put oi.dst undef) w → Q (.panic c) a w) (hS : S w) (hw : Region.wanted oi (yielded l.toArray a.tmps) = false)
    (h : wpAnyL P md l.toArray Q m S fuel (listed.setIfInBounds i true) (a.put oi.dst undef) w) : wpAnyL P md l.toArray Q m S (fuel + 1) listed a w :=
  firstL (drop_at hi) (Region.noSelect_spec hs) hQ hm fuel listed a w (Region.free_spec (drop_at hi) hf) hm' (by simpa using hr) (.inr ⟨hw, rfl⟩) hS h
/-- Number i alone may come up, and is not the last: it is carried out, and S is shown behind it. -/
theorem callL (i : Nat) (hi : l.drop i = oi :: rest) (hr : Region.ready md l.toArray listed = [i]) (hw : Region.wanted oi (yielded l.toArray a.tmps) = true)
    (h : ∀ K' : Act → World → Prop, Shut (∀ a w, S w → (S w → wpAnyL P md l.toArray Q m S fuel (listed.setIfInBounds i true) a w) → K' a w) → Oper.wp P oi a w K' Q) : wpAnyL P md l.toArray Q m S (fuel + 1) listed a w := by
  refine ⟨fun h0 => absurd (hr ▸ h0) (by simp), fun j hj => ?_⟩
  rw [hr] at hj
  have : j = i := by simpa using hj
  subst this
  exact wpOp_step (drop_at hi) fun K' hK => by rw [if_pos hw]; exact h K' fun a w hS hW => hK a w ⟨fun _ => hS, hW hS⟩
/-- The last one. -/
theorem lastL (hi : l.drop m = oi :: rest) (hr : Region.ready md l.toArray listed = [m]) (hend : Region.ready md l.toArray (listed.setIfInBounds m true) = []) (hm : (listed.setIfInBounds m true).getD m true = true) (hw : Region.wanted oi (yielded l.toArray a.tmps) = true)
    (h : ∀ K' : Act → World → Prop, Shut (∀ a w, Q .normal a w → K' a w) → Oper.wp P oi a w K' Q) : wpAnyL P md l.toArray Q m S (fuel + 1) listed a w := by
  refine ⟨fun h0 => absurd (hr ▸ h0) (by simp), fun j hj => ?_⟩
  rw [hr] at hj
  have : j = m := by simpa using hj
  subst this
  refine wpOp_step (drop_at hi) fun K' hK => by
    rw [if_pos hw]
    refine h K' fun a w hq => hK a w ⟨fun e => absurd (hm.symm.trans e) (by simp), ?_⟩
    cases fuel with
    | zero => exact ⟨hend, hq⟩
    | succ f => exact ⟨fun _ => hq, by rw [hend]; simp⟩
theorem wp_region_L (m : Nat) (S : World → Prop) {id : Nat} {ops : Array Oper} {a : Act} {w : World} (hm : P.follows .mixedOrders = true) (hS : S w.drew)
    (h : S w.drew → wpAnyL P .any ops Q m S ops.size (Array.replicate ops.size false) a w.drew) : (Code.region id ops true).wp P Q a w :=
  wp_region_any hm (any_of_L _ _ _ _ (h hS))
end

end Go.Proofs.Ytadgdjjibmofpab

/- The program's ledger in memory, whose first six cells are the embedded balances, and the functions on balances, each by a walk of its text; conditions: the ledger is valid, and so is the transaction. -/
namespace Go.Proofs.Ytadgdjjibmofpab
open Go.RowKit

def gd (l : List Int) (i : Nat) : Int := l.getD i 0
theorem gd_at {l : List Int} {i : Nat} (h : i < l.length) : gd l i = l[i] := by unfold gd; simp [List.getD, List.getElem?_eq_getElem h]
theorem gd_bal (l : List Int) (i : Nat) : bal l i = gd l i := by unfold bal gd; simp
def c6 (l : List Int) : Array Value := #[.int .i64 (gd l 0), .int .i64 (gd l 1), .int .i64 (gd l 2), .int .i64 (gd l 3), .int .i64 (gd l 4), .int .i64 (gd l 5)]
def c7 (l : List Int) (n : Int) : Array Value := #[.int .i64 (gd l 0), .int .i64 (gd l 1), .int .i64 (gd l 2), .int .i64 (gd l 3), .int .i64 (gd l 4), .int .i64 (gd l 5), .int .i64 n]
theorem c7_at (l : List Int) (n : Int) {i : Nat} (h : i < 6) : (c7 l n)[i]? = some (.int .i64 (gd l i)) := by
  match i, h with
  | 0, _ => rfl
  | 1, _ => rfl
  | 2, _ => rfl
  | 3, _ => rfl
  | 4, _ => rfl
  | 5, _ => rfl
theorem c6_at (l : List Int) {i : Nat} (h : i < 6) : (c6 l)[i]? = some (.int .i64 (gd l i)) := by
  match i, h with
  | 0, _ => rfl
  | 1, _ => rfl
  | 2, _ => rfl
  | 3, _ => rfl
  | 4, _ => rfl
  | 5, _ => rfl
theorem six {l : List Int} (h : l.length = 6) : ∃ a b c d e f, l = [a, b, c, d, e, f] := by
  match l, h with
  | [a, b, c, d, e, f], _ => exact ⟨a, b, c, d, e, f, rfl⟩
theorem c7_set {l : List Int} (h : l.length = 6) (n : Int) {i : Nat} (hi : i < 6) (z : Int) : (c7 l n).setIfInBounds i (.int .i64 z) = c7 (l.set i z) n := by
  obtain ⟨a, b, c, d, e, f, rfl⟩ := six h
  match i, hi with
  | 0, _ => rfl
  | 1, _ => rfl
  | 2, _ => rfl
  | 3, _ => rfl
  | 4, _ => rfl
  | 5, _ => rfl
theorem c6_take {l : List Int} (h : l.length = 6) {i : Nat} (hi : i < 6) : (c6 (l.take i)).setIfInBounds i (.int .i64 (gd l i)) = c6 (l.take (i + 1)) := by
  obtain ⟨a, b, c, d, e, f, rfl⟩ := six h
  match i, hi with
  | 0, _ => rfl
  | 1, _ => rfl
  | 2, _ => rfl
  | 3, _ => rfl
  | 4, _ => rfl
  | 5, _ => rfl
/-- The balances are those of a ledger. -/
def okB (l : List Int) : Bool := l.all balB && decide (l.length = 6)
theorem okB_ld (l : List Int) (n : Int) : ldB l n = (okB l && decide (0 ≤ n ∧ n ≤ 5994)) := by unfold ldB okB; rw [Bool.and_assoc]

/-- What balancesOf answers. -/
def BoP (w : World) (l : List Int) (e : Ending) (w' : World) : Prop := ((okB l = true ∧ e = .returned (.tuple #[.agg (c6 l), .bool true])) ∨ (okB l = false ∧ e = .returned (.tuple #[.agg #[.int .i64 0, .int .i64 0, .int .i64 0, .int .i64 0, .int .i64 0, .int .i64 0], .bool false]))) ∧ Below w.heap.size w w'
set_option maxHeartbeats 4000000 in
theorem lg_balancesOf (a : Option Addr) (cap : Nat) (l : List Int) (w : World) (hbig : l.length ≤ 1099511627776) (hl : IntsAt w a l) :
    Calls Try.prog 49 #[.slice a l.length cap] w (BoP w l) := by
  have hb0 : Below w.heap.size w ((w.alloc (.cells #[.int .i64 0, .int .i64 0, .int .i64 0, .int .i64 0, .int .i64 0, .int .i64 0] 64)).alloc (.cells #[.int .i64 0, .int .i64 0, .int .i64 0, .int .i64 0, .int .i64 0, .int .i64 0] 64)) := ((Below.refl _ _).alloc (Nat.le_refl _) _).alloc (by simp only [World.size_alloc]; omega) _
  have s1 := (Str.new w 64 #[.int .i64 0, .int .i64 0, .int .i64 0, .int .i64 0, .int .i64 0, .int .i64 0]).alloc (.cells #[.int .i64 0, .int .i64 0, .int .i64 0, .int .i64 0, .int .i64 0, .int .i64 0] 64)
  have s2 := Str.new (w.alloc (.cells #[.int .i64 0, .int .i64 0, .int .i64 0, .int .i64 0, .int .i64 0, .int .i64 0] 64)) 64 #[.int .i64 0, .int .i64 0, .int .i64 0, .int .i64 0, .int .i64 0, .int .i64 0]
  simp only [World.size_alloc] at s2
  have S1 := Lib.hid s1; have S2 := Lib.hid s2; have Hb := Lib.hid hb0; clear s1 s2 hb0
  have hz : ((w.alloc (.cells #[.int .i64 0, .int .i64 0, .int .i64 0, .int .i64 0, .int .i64 0, .int .i64 0] 64)).alloc (.cells #[.int .i64 0, .int .i64 0, .int .i64 0, .int .i64 0, .int .i64 0, .int .i64 0] 64)).heap.size = w.heap.size + 2 := by simp
  have hyes : ∀ e w', okB l = true → e = .returned (.tuple #[.agg (c6 l), .bool true]) → Below w.heap.size w w' → BoP w l e w' := fun e w' h1 h2 h3 => ⟨.inl ⟨h1, h2⟩, h3⟩
  have hno : ∀ e w', okB l = false → e = .returned (.tuple #[.agg #[.int .i64 0, .int .i64 0, .int .i64 0, .int .i64 0, .int .i64 0, .int .i64 0], .bool false]) → Below w.heap.size w w' → BoP w l e w' := fun e w' h1 h2 h3 => ⟨.inr ⟨h1, h2⟩, h3⟩
  have Hyes := Lib.hid hyes; have Hno := Lib.hid hno; clear hyes hno
  generalize BoP w l = POST at *
  go_enter Try.func49, Try.ntmps49
  by_cases h6 : l.length = 6
  case neg =>
    have hn1 : ((l.length : Int) == 6) = false := by rw [beq_eq_false_iff_ne]; omega
    have hn2 : ((l.length : Int) != 6) = true := by rw [bne, hn1]; rfl
    have Hok := Lib.hid (show okB l = false by unfold okB; rw [decide_eq_false h6, Bool.and_false])
    clear h6 hl
    go_wp2
    refine bodyPost_ret (v := .tuple #[.agg #[.int .i64 0, .int .i64 0, .int .i64 0, .int .i64 0, .int .i64 0, .int .i64 0], .bool false]) (by simp [results, Try.f49, go_sem]) rfl ?_
    exact Hno.out _ _ Hok.out rfl Hb.out
  have hn1 : ((l.length : Int) == 6) = true := by rw [beq_iff_eq]; omega
  have hn2 : ((l.length : Int) != 6) = false := by rw [bne, hn1]; rfl
  have H6 := Lib.hid h6
  have hle6 : l.length ≤ 6 := by omega
  rcases hl with rfl | ⟨b, off, rfl, hbw, hc⟩
  · exact absurd h6 (by simp)
  clear h6 hbig
  have Hc := Lib.hid (fun j (h : j < l.length) => (Hb.out.cell (p := ⟨b, off + j, none⟩) hbw).trans (hc j h)); clear hc
  go_wp2
  generalize ((w.alloc (.cells #[.int .i64 0, .int .i64 0, .int .i64 0, .int .i64 0, .int .i64 0, .int .i64 0] 64)).alloc (.cells #[.int .i64 0, .int .i64 0, .int .i64 0, .int .i64 0, .int .i64 0, .int .i64 0] 64)) = W0 at *
  go_loopw [13] (fun i wr => ∃ k : Nat, k ≤ l.length ∧ i = .int .i64 k ∧ Pre balB l k ∧ Str wr w.heap.size 64 #[.int .i64 0, .int .i64 0, .int .i64 0, .int .i64 0, .int .i64 0, .int .i64 0] ∧ Str wr (w.heap.size + 1) 64 (c6 (l.take k)) ∧ Below w.heap.size w wr ∧ ∀ j (h : j < l.length), wr.cell? ⟨b, off + j, none⟩ = some (.int .i64 l[j])) (fun i _ => l.length - (intOf i).toNat)
  case atStart => exact ⟨0, by omega, rfl, pre_zero _ _, S1.out, S2.out, Hb.out, Hc.out⟩
  case round =>
    clear S1 S2 Hb Hc hz
    obtain ⟨k, hk, rfl, hp, hs1, hs2, hb, hc⟩ := hrel
    have Hp := Lib.hid hp; have S1 := Lib.hid hs1; have S2 := Lib.hid hs2; have Hb := Lib.hid hb; have Hc := Lib.hid hc; clear hp hs1 hs2 hb hc
    by_cases hlt : k < l.length
    case pos =>
      have hcell := Hc.out k hlt
      have hlt' : (k : Int) < (l.length : Int) := by omega
      have hk6 : k < 6 := by omega
      have hk6' : (k : Int) < 6 := by omega
      have HV := Lib.hid (fun W => lg_isBalance l[k] W)
      have Hst := Lib.hid (show (c6 (l.take k)).setIfInBounds k (.int .i64 l[k]) = c6 (l.take (k + 1)) by rw [← gd_at hlt]; exact c6_take H6.out hk6)
      have Hpv := Lib.hid (fun h => pre_step (p := balB) Hp.out hlt h)
      have Hbad := Lib.hid (fun (h : balB l[k] = false) => (show okB l = false by unfold okB; rw [pre_not hlt h]; rfl))
      have y9 := S2.out.frozen k
      have q9 := S2.out.cell k (c6_at (l.take k) hk6)
      have HB := Lib.hid (show balB l[k] = decide (0 ≤ l[k] ∧ l[k] ≤ 999) from rfl)
      generalize decide (0 ≤ l[k] ∧ l[k] ≤ 999) = bb at *
      generalize balB l[k] = b2 at *
      obtain rfl := HB.out
      generalize l[k] = xk at *
      go_wp2_with fail
      refine (HV.out _).mono ?_
      rintro e w2 ⟨rfl, rfl⟩
      cases b2 with
      | false =>
        have Hok := Lib.hid (Hbad.out rfl)
        clear Hbad
        have y0 := S1.out.frozen 0
        have q0 := S1.out.cell 0 (v := .int .i64 0) rfl
        have y1 := S1.out.frozen 1
        have q1 := S1.out.cell 1 (v := .int .i64 0) rfl
        have y2 := S1.out.frozen 2
        have q2 := S1.out.cell 2 (v := .int .i64 0) rfl
        have y3 := S1.out.frozen 3
        have q3 := S1.out.cell 3 (v := .int .i64 0) rfl
        have y4 := S1.out.frozen 4
        have q4 := S1.out.cell 4 (v := .int .i64 0) rfl
        have y5 := S1.out.frozen 5
        have q5 := S1.out.cell 5 (v := .int .i64 0) rfl
        have sF := ((((((S1.out.set 0 (.int .i64 0)).set 1 (.int .i64 0)).set 2 (.int .i64 0)).set 3 (.int .i64 0)).set 4 (.int .i64 0)).set 5 (.int .i64 0))
        have bF := ((((((Hb.out.setCell (p := ⟨w.heap.size, 0, none⟩) (by simp only; omega) (.int .i64 0)).setCell (p := ⟨w.heap.size, 1, none⟩) (by simp only; omega) (.int .i64 0)).setCell (p := ⟨w.heap.size, 2, none⟩) (by simp only; omega) (.int .i64 0)).setCell (p := ⟨w.heap.size, 3, none⟩) (by simp only; omega) (.int .i64 0)).setCell (p := ⟨w.heap.size, 4, none⟩) (by simp only; omega) (.int .i64 0)).setCell (p := ⟨w.heap.size, 5, none⟩) (by simp only; omega) (.int .i64 0))
        have e0 := sF.cell 0 (v := .int .i64 0) rfl
        have e1 := sF.cell 1 (v := .int .i64 0) rfl
        have e2 := sF.cell 2 (v := .int .i64 0) rfl
        have e3 := sF.cell 3 (v := .int .i64 0) rfl
        have e4 := sF.cell 4 (v := .int .i64 0) rfl
        have e5 := sF.cell 5 (v := .int .i64 0) rfl
        have BF := Lib.hid bF; clear bF sF
        go_wp2
        refine bodyPost_ret (v := .tuple #[.agg #[.int .i64 0, .int .i64 0, .int .i64 0, .int .i64 0, .int .i64 0, .int .i64 0], .bool false]) (by simp [results, Try.f49, go_sem, e0, e1, e2, e3, e4, e5]) rfl ?_
        exact Hno.out _ _ Hok.out rfl BF.out
      | true =>
        have Hpt := Lib.hid (Hpv.out rfl)
        go_wp2
        go_roundw
        case rel =>
          refine ⟨k + 1, by omega, by go_num, Hpt.out, S1.out.other (by omega) _ _, ?_, Hb.out.setCell (p := ⟨w.heap.size + 1, k, none⟩) (by simp only; omega) _, fun j hj => ?_⟩
          · rw [← Hst.out]; exact S2.out.set k _
          · have h9 := Hc.out j hj
            exact (World.cell?_setCell_other _ _ _ _ (by simp only [ne_eq, Addr.mk.injEq]; omega)).trans h9
        case measure => simp [intOf]; omega
    case neg =>
      have hk6 : l.take k = l := List.take_of_length_le (by omega)
      have hlt' : ¬ (k : Int) < (l.length : Int) := by omega
      have s2 := S2.out
      rw [hk6] at s2
      have S2 := Lib.hid s2; clear s2 hk6
      have Hok := Lib.hid (show okB l = true by unfold okB; rw [pre_all Hp.out (by omega), decide_eq_true H6.out]; rfl)
      have y0 := S1.out.frozen 0
      have q0 := S1.out.cell 0 (v := .int .i64 0) rfl
      have b0 := S2.out.cell 0 (v := .int .i64 (gd l 0)) rfl
      have y1 := S1.out.frozen 1
      have q1 := S1.out.cell 1 (v := .int .i64 0) rfl
      have b1 := S2.out.cell 1 (v := .int .i64 (gd l 1)) rfl
      have y2 := S1.out.frozen 2
      have q2 := S1.out.cell 2 (v := .int .i64 0) rfl
      have b2 := S2.out.cell 2 (v := .int .i64 (gd l 2)) rfl
      have y3 := S1.out.frozen 3
      have q3 := S1.out.cell 3 (v := .int .i64 0) rfl
      have b3 := S2.out.cell 3 (v := .int .i64 (gd l 3)) rfl
      have y4 := S1.out.frozen 4
      have q4 := S1.out.cell 4 (v := .int .i64 0) rfl
      have b4 := S2.out.cell 4 (v := .int .i64 (gd l 4)) rfl
      have y5 := S1.out.frozen 5
      have q5 := S1.out.cell 5 (v := .int .i64 0) rfl
      have b5 := S2.out.cell 5 (v := .int .i64 (gd l 5)) rfl
      have sF := ((((((S1.out.set 0 (.int .i64 (gd l 0))).set 1 (.int .i64 (gd l 1))).set 2 (.int .i64 (gd l 2))).set 3 (.int .i64 (gd l 3))).set 4 (.int .i64 (gd l 4))).set 5 (.int .i64 (gd l 5)))
      have bF := ((((((Hb.out.setCell (p := ⟨w.heap.size, 0, none⟩) (by simp only; omega) (.int .i64 (gd l 0))).setCell (p := ⟨w.heap.size, 1, none⟩) (by simp only; omega) (.int .i64 (gd l 1))).setCell (p := ⟨w.heap.size, 2, none⟩) (by simp only; omega) (.int .i64 (gd l 2))).setCell (p := ⟨w.heap.size, 3, none⟩) (by simp only; omega) (.int .i64 (gd l 3))).setCell (p := ⟨w.heap.size, 4, none⟩) (by simp only; omega) (.int .i64 (gd l 4))).setCell (p := ⟨w.heap.size, 5, none⟩) (by simp only; omega) (.int .i64 (gd l 5)))
      have e0 := sF.cell 0 (v := .int .i64 (gd l 0)) rfl
      have e1 := sF.cell 1 (v := .int .i64 (gd l 1)) rfl
      have e2 := sF.cell 2 (v := .int .i64 (gd l 2)) rfl
      have e3 := sF.cell 3 (v := .int .i64 (gd l 3)) rfl
      have e4 := sF.cell 4 (v := .int .i64 (gd l 4)) rfl
      have e5 := sF.cell 5 (v := .int .i64 (gd l 5)) rfl
      have BF := Lib.hid bF; clear bF sF
      go_wp2
      refine bodyPost_ret (v := .tuple #[.agg (c6 l), .bool true]) (by simp [results, Try.f49, go_sem, e0, e1, e2, e3, e4, e5, c6]) rfl ?_
      exact Hyes.out _ _ Hok.out rfl BF.out

end Go.Proofs.Ytadgdjjibmofpab

/- The program's functions on the balances that a ledger embeds (sum, allows, move), each by a walk of its text; conditions: the ledger and the transaction are valid. -/
namespace Go.Proofs.Ytadgdjjibmofpab
open Go.RowKit

theorem lg_drewN {B : Nat} {w W : World} (h : Below B w W) (k : Nat) : Below B w (W.drewN k) := ⟨h.os, h.tape, h.output, h.size, h.block⟩
/-- Block B is the program's ledger of these balances and fees. -/
abbrev Lg (T : TypeId) (W : World) (B : Nat) (l : List Int) (n : Int) : Prop := Str W B T (c7 l n)
theorem Lg.at {T : TypeId} {W : World} {B : Nat} {l : List Int} {n : Int} (h : Lg T W B l n) {i : Nat} (hi : i < 6) : W.cell? ⟨B, i, none⟩ = some (.int .i64 (gd l i)) := Str.cell h i (c7_at l n hi)
theorem Lg.fees {T : TypeId} {W : World} {B : Nat} {l : List Int} {n : Int} (h : Lg T W B l n) : W.cell? ⟨B, 6, none⟩ = some (.int .i64 n) := Str.cell h 6 rfl
theorem Lg.setb {T : TypeId} {W : World} {B : Nat} {l : List Int} {n : Int} (h : Lg T W B l n) (h6 : l.length = 6) {i : Nat} (hi : i < 6) (z : Int) : Lg T (W.setCell ⟨B, i, none⟩ (.int .i64 z)) B (l.set i z) n := by
  have := Str.set h i (.int .i64 z)
  rw [c7_set h6 n hi z] at this
  exact this
theorem Lg.setf {T : TypeId} {W : World} {B : Nat} {l : List Int} {n : Int} (h : Lg T W B l n) (z : Int) : Lg T (W.setCell ⟨B, 6, none⟩ (.int .i64 z)) B l z := Str.set h 6 (.int .i64 z)

set_option maxHeartbeats 1000000 in
theorem lg_sum (B : Nat) (l : List Int) (n : Int) (w : World) (hv : ldB l n = true) (hs : Lg 66 w B l n) :
    Calls Try.prog 38 #[.pointer (some ⟨B, 0, none⟩)] w fun e w' => e = .returned (.int .i64 l.sum) ∧ w = w' := by
  obtain ⟨hv1, hv2, hv3, hv4⟩ := ldB_iff.1 hv
  have Hbd := Lib.hid (sum_take_bd hv1)
  have Hv1 := Lib.hid hv1; clear hv1 hv
  have H6 := Lib.hid hv2; clear hv2
  have Hs := Lib.hid hs; clear hs
  go_enter Try.func38, Try.ntmps38
  go_wp2
  go_loop [3, 7] (fun s i => ∃ k : Nat, k ≤ 6 ∧ i = .int .i64 k ∧ s = .int .i64 (l.take k).sum) (fun _ i => 6 - (intOf i).toNat)
  case atStart => exact ⟨0, by omega, rfl, by simp⟩
  case round =>
    obtain ⟨k, hk, rfl, rfl⟩ := hrel
    by_cases hlt : k < 6
    · have hlt' : (k : Int) < 6 := by omega
      have hkl : k < l.length := by have := H6.out; omega
      have hcell := Hs.out.at hlt
      have h1 := Hbd.out k (by omega)
      have h2 := Hv1.out _ (List.getElem_mem hkl)
      have Hz := Lib.hid (sum_take_succ hkl)
      rw [gd_at hkl] at hcell
      generalize (l.take k).sum = S at *
      generalize l[k] = x at *
      clear hkl
      have hw : IntKind.i64.wrap (S + x) = S + x := IntWalk.i64_in _ (by omega)
      go_wp2
      go_round
      case rel => exact ⟨k + 1, by omega, by go_num, by rw [Hz.out]⟩
      case measure => simp [intOf]; omega
    · have hlt' : ¬ (k : Int) < 6 := by omega
      have Ht := Lib.hid (show (l.take k).sum = l.sum by rw [List.take_of_length_le (by have := H6.out; omega)])
      generalize (l.take k).sum = S at *
      go_wp2
      go_ret
      exact ⟨ret_int Ht.out, rfl⟩

set_option maxHeartbeats 2000000 in
theorem lg_allows (B : Nat) (l : List Int) (n : Int) (x : Tx) (w : World) (hv : ldB l n = true) (hx : txB x = true) (hs : Lg 66 w B l n) :
    Calls Try.prog 51 #[.pointer (some ⟨B, 0, none⟩), agT x] w fun e w' => e = .returned (.bool (okT l x)) ∧ Below w.heap.size w w' := by
  obtain ⟨hv1, hv2, hv3, hv4⟩ := ldB_iff.1 hv
  obtain ⟨hx1, hx2, hx3, hx4, hx5⟩ := txB_iff.1 hx
  have Hv := Lib.hid hv; have Hx := Lib.hid hx; clear hv hx
  obtain ⟨f, t, s, ee⟩ := x
  dsimp only at *
  obtain ⟨i, rfl⟩ : ∃ i : Nat, f = i := ⟨f.toNat, by omega⟩
  obtain ⟨j, rfl⟩ : ∃ j : Nat, t = j := ⟨t.toNat, by omega⟩
  have hi6 : i < 6 := by omega
  have hj6 : j < 6 := by omega
  have hi6' : (i : Int) < 6 := by omega
  have hj6' : (j : Int) < 6 := by omega
  have hij : i ≠ j := by omega
  have hbi := bal_bd (i := (i : Int)) Hv.out
  have hbj := bal_bd (i := (j : Int)) Hv.out
  rw [gd_bal] at hbi hbj
  have H6 := Lib.hid hv2; have Hx3 := Lib.hid hx3; clear hv1 hv2 hx3
  have Hok := Lib.hid (show okT l ⟨i, j, s, ee⟩ = (decide (s + ee ≤ gd l i) && decide (gd l j + s ≤ 999)) from by unfold okT; rw [Hx.out, gd_bal, gd_bal]; rfl)
  have hb0 : Below w.heap.size w (w.alloc (.cells #[.int .i64 i, .int .i64 j, .int .i64 s, .int .i64 ee] 25)) := (Below.refl _ _).alloc (Nat.le_refl _) _
  have s0 := Str.new w 25 #[.int .i64 i, .int .i64 j, .int .i64 s, .int .i64 ee]
  have s9 : Lg 66 (w.alloc (.cells #[.int .i64 i, .int .i64 j, .int .i64 s, .int .i64 ee] 25)) B l n := Str.alloc hs _
  have x0 := s0.cell 0 (v := .int .i64 i) rfl
  have x1 := s0.cell 1 (v := .int .i64 j) rfl
  have x2 := s0.cell 2 (v := .int .i64 s) rfl
  have x3 := s0.cell 3 (v := .int .i64 ee) rfl
  have ci := s9.at hi6
  have cj := s9.at hj6
  have Hb := Lib.hid hb0; clear hb0 s0 s9 hs
  generalize gd l i = bi at *
  generalize gd l j = bj at *
  have w1' : IntKind.i64.wrap (s + ee) = s + ee := IntWalk.i64_in _ (by omega)
  have w2' : IntKind.i64.wrap (bj + s) = bj + s := IntWalk.i64_in _ (by omega)
  unfold agT
  dsimp only
  go_enter Try.func51, Try.ntmps51
  go_wp2
  generalize (w.alloc (.cells #[.int .i64 i, .int .i64 j, .int .i64 s, .int .i64 ee] 25)) = W0 at *
  by_cases h1 : s + ee ≤ bi
  · have d1 : decide (s + ee ≤ bi) = true := decide_eq_true h1
    have Hok := Lib.hid (Hok.out.trans (by rw [d1, Bool.true_and]))
    go_quiet (fail)
    go_wp2
    go_ret
    exact ⟨ret_bool Hok.out.symm, lg_drewN Hb.out _⟩
  · have d1 : decide (s + ee ≤ bi) = false := decide_eq_false h1
    have Hok := Lib.hid (Hok.out.trans (by rw [d1, Bool.false_and]))
    go_quiet (fail)
    go_wp2
    go_ret
    exact ⟨ret_bool Hok.out.symm, lg_drewN Hb.out _⟩

theorem lg_drew {w W : World} {B : Nat} (h : w.grownBy W (some B)) : w.grownBy W.drew (some B) := grownBy_trans h ⟨rfl, rfl, rfl, Nat.le_refl _, fun _ _ _ => rfl⟩
set_option maxHeartbeats 4000000 in
theorem lg_move (B : Nat) (l : List Int) (n : Int) (x : Tx) (w : World) (hv : ldB l n = true) (hx : okT l x = true) (hs : Lg 66 w B l n) :
    Calls Try.prog 52 #[.pointer (some ⟨B, 0, none⟩), agT x] w fun e w' => e = .returned (.tuple #[]) ∧ Lg 66 w' B (apL l x) n ∧ w.grownBy w' (some B) := by
  have hok := hx
  obtain ⟨hx, hlow, hhigh⟩ := okT_iff.1 hok
  have Hok := Lib.hid hok; clear hok
  obtain ⟨hv1, hv2, hv3, hv4⟩ := ldB_iff.1 hv
  obtain ⟨hx1, hx2, hx3, hx4, hx5⟩ := txB_iff.1 hx
  have Hv := Lib.hid hv; have Hx := Lib.hid hx; clear hv hx
  obtain ⟨f, t, s, ee⟩ := x
  dsimp only at *
  obtain ⟨i, rfl⟩ : ∃ i : Nat, f = i := ⟨f.toNat, by omega⟩
  obtain ⟨j, rfl⟩ : ∃ j : Nat, t = j := ⟨t.toNat, by omega⟩
  have hi6 : i < 6 := by omega
  have hj6 : j < 6 := by omega
  have hi6' : (i : Int) < 6 := by omega
  have hj6' : (j : Int) < 6 := by omega
  have hij : i ≠ j := by omega
  have hbi := bal_bd (i := (i : Int)) Hv.out
  have hbj := bal_bd (i := (j : Int)) Hv.out
  rw [gd_bal] at hbi hbj
  rw [gd_bal] at hlow hhigh
  have H6 := Lib.hid hv2; have Hx3 := Lib.hid hx3; clear hv1 hv2 hx3
  have Hap := Lib.hid (show (l.set i (gd l i - (s + ee))).set j (gd l j + s) = apL l ⟨i, j, s, ee⟩ from by rw [(ap_yes (n := n) Hok.out).1, gd_bal, gd_bal]; simp only [Int.toNat_natCast]; congr 2; omega)
  have Hgj := Lib.hid (show gd (l.set i (gd l i - (s + ee))) j = gd l j from by rw [gd_at (l := l.set i (gd l i - (s + ee))) (by rw [List.length_set, H6.out]; exact hj6), List.getElem_set_ne hij, gd_at (l := l) (i := j) (by rw [H6.out]; exact hj6)])
  have hg0 := World.grownBy_alloc w (.cells #[.int .i64 i, .int .i64 j, .int .i64 s, .int .i64 ee] 25) (some B)
  have s0 := Str.new w 25 #[.int .i64 i, .int .i64 j, .int .i64 s, .int .i64 ee]
  have s9 : Lg 66 (w.alloc (.cells #[.int .i64 i, .int .i64 j, .int .i64 s, .int .i64 ee] 25)) B l n := Str.alloc hs _
  have hBw := hs.lt
  have Hg := Lib.hid hg0; have S0 := Lib.hid s0; have S9 := Lib.hid s9; clear hg0 s0 s9 hs
  obtain ⟨bi, hbie⟩ : ∃ z, z = gd l i := ⟨_, rfl⟩
  obtain ⟨bj, hbje⟩ : ∃ z, z = gd l j := ⟨_, rfl⟩
  rw [← hbie] at hbi hlow Hap Hgj
  rw [← hbje] at hbj hhigh Hap Hgj
  have Hbi := Lib.hid hbie; have Hbj := Lib.hid hbje; clear hbie hbje
  have w1' : IntKind.i64.wrap (s + ee) = s + ee := IntWalk.i64_in _ (by omega)
  have w2' : IntKind.i64.wrap (bj + s) = bj + s := IntWalk.i64_in _ (by omega)
  have w3' : IntKind.i64.wrap (bi - (s + ee)) = bi - (s + ee) := IntWalk.i64_in _ (by omega)
  unfold agT
  dsimp only
  go_enter Try.func52, Try.ntmps52
  go_wp2_with fail
  generalize (w.alloc (.cells #[.int .i64 i, .int .i64 j, .int .i64 s, .int .i64 ee] 25)) = W0 at *
  have hBne : w.heap.size ≠ B := by omega
  have c9 := Lib.hid (show W0.cell? ⟨B, i, none⟩ = some (.int .i64 bi) from by rw [Hbi.out]; exact S9.out.at hi6)
  refine wp_region_L 14 (fun w' => w'.cell? ⟨w.heap.size, 0, none⟩ = some (.int .i64 i) ∧ w'.cell? ⟨w.heap.size, 1, none⟩ = some (.int .i64 j) ∧ w'.cell? ⟨w.heap.size, 2, none⟩ = some (.int .i64 s) ∧ w'.cell? ⟨w.heap.size, 3, none⟩ = some (.int .i64 ee) ∧ w'.cell? ⟨B, i, none⟩ = some (.int .i64 bi)) (by kernel_rfl) ⟨S0.out.cell 0 (v := .int .i64 i) rfl, S0.out.cell 1 (v := .int .i64 j) rfl, S0.out.cell 2 (v := .int .i64 s) rfl, S0.out.cell 3 (v := .int .i64 ee) rfl, c9.out⟩ (fun hH => ?_)
  have S0 := Lib.hid (show Str W0.drew w.heap.size 25 #[.int .i64 i, .int .i64 j, .int .i64 s, .int .i64 ee] from S0.out)
  have S9 := Lib.hid (show Lg 66 W0.drew B (l) n from S9.out)
  have Hg := Lib.hid (lg_drew Hg.out)
  have c9 := Lib.hid (show W0.drew.cell? ⟨B, i, none⟩ = some (.int .i64 bi) from c9.out)
  generalize W0.drew = wd at *
  refine takeL 0 (v := ?vmv1) rfl (by kernel_rfl) (by kernel_rfl) (by kernel_rfl) (by kernel_rfl) (by kernel_rfl) (fun _ _ _ h => h) hH rfl ?ymv1 ?rmv1
  case ymv1 => intro W hSw; go_simp; try with_reducible rfl
  try simp only [Act.put, List.setIfInBounds_toArray, List.set_cons_zero, List.set_cons_succ]
  refine takeL 1 (v := ?vmv2) rfl (by kernel_rfl) (by kernel_rfl) (by kernel_rfl) (by kernel_rfl) (by kernel_rfl) (fun _ _ _ h => h) hH rfl ?ymv2 ?rmv2
  case ymv2 => intro W hSw; go_simp; try with_reducible rfl
  try simp only [Act.put, List.setIfInBounds_toArray, List.set_cons_zero, List.set_cons_succ]
  refine takeL 2 (v := ?vmv3) rfl (by kernel_rfl) (by kernel_rfl) (by kernel_rfl) (by kernel_rfl) (by kernel_rfl) (fun _ _ _ h => h) hH rfl ?ymv3 ?rmv3
  case ymv3 => intro W hSw; go_simp; try with_reducible rfl
  try simp only [Act.put, List.setIfInBounds_toArray, List.set_cons_zero, List.set_cons_succ]
  refine takeL 3 (v := ?vmv4) rfl (by kernel_rfl) (by kernel_rfl) (by kernel_rfl) (by kernel_rfl) (by kernel_rfl) (fun _ _ _ h => h) hH rfl ?ymv4 ?rmv4
  case ymv4 => intro W hSw; go_simp; try with_reducible rfl
  try simp only [Act.put, List.setIfInBounds_toArray, List.set_cons_zero, List.set_cons_succ]
  refine takeL 4 (v := ?vmv5) rfl (by kernel_rfl) (by kernel_rfl) (by kernel_rfl) (by kernel_rfl) (by kernel_rfl) (fun _ _ _ h => h) hH rfl ?ymv5 ?rmv5
  case ymv5 => intro W hSw; go_simp; try with_reducible rfl
  try simp only [Act.put, List.setIfInBounds_toArray, List.set_cons_zero, List.set_cons_succ]
  refine takeL 5 (v := ?vmv6) rfl (by kernel_rfl) (by kernel_rfl) (by kernel_rfl) (by kernel_rfl) (by kernel_rfl) (fun _ _ _ h => h) hH rfl ?ymv6 ?rmv6
  case ymv6 => intro W hSw; go_simp; try with_reducible rfl
  try simp only [Act.put, List.setIfInBounds_toArray, List.set_cons_zero, List.set_cons_succ]
  refine takeL 6 (v := ?vmv7) rfl (by kernel_rfl) (by kernel_rfl) (by kernel_rfl) (by kernel_rfl) (by kernel_rfl) (fun _ _ _ h => h) hH rfl ?ymv7 ?rmv7
  case ymv7 => intro W hSw; go_simp; try with_reducible rfl
  try simp only [Act.put, List.setIfInBounds_toArray, List.set_cons_zero, List.set_cons_succ]
  refine takeL 7 (v := ?vmv8) rfl (by kernel_rfl) (by kernel_rfl) (by kernel_rfl) (by kernel_rfl) (by kernel_rfl) (fun _ _ _ h => h) hH rfl ?ymv8 ?rmv8
  case ymv8 => intro W hSw; go_simp; try with_reducible rfl
  try simp only [Act.put, List.setIfInBounds_toArray, List.set_cons_zero, List.set_cons_succ]
  refine takeL 8 (v := ?vmv9) rfl (by kernel_rfl) (by kernel_rfl) (by kernel_rfl) (by kernel_rfl) (by kernel_rfl) (fun _ _ _ h => h) hH rfl ?ymv9 ?rmv9
  case ymv9 => intro W hSw; go_simp; try with_reducible rfl
  try simp only [Act.put, List.setIfInBounds_toArray, List.set_cons_zero, List.set_cons_succ]
  refine takeL 9 (v := ?vmv10) rfl (by kernel_rfl) (by kernel_rfl) (by kernel_rfl) (by kernel_rfl) (by kernel_rfl) (fun _ _ _ h => h) hH rfl ?ymv10 ?rmv10
  case ymv10 => intro W hSw; go_simp; try with_reducible rfl
  try simp only [Act.put, List.setIfInBounds_toArray, List.set_cons_zero, List.set_cons_succ]
  refine takeL 10 (v := .int .i64 (s + ee)) rfl (by kernel_rfl) (by kernel_rfl) (by kernel_rfl) (by kernel_rfl) (by kernel_rfl) (fun _ _ _ h => h) hH rfl ?ymv11 ?rmv11
  case ymv11 => intro W hSw; go_simp; first | done | (simp [w1'])
  try simp only [Act.put, List.setIfInBounds_toArray, List.set_cons_zero, List.set_cons_succ]
  refine takeL 11 (v := .int .i64 (bi - (s + ee))) rfl (by kernel_rfl) (by kernel_rfl) (by kernel_rfl) (by kernel_rfl) (by kernel_rfl) (fun _ _ _ h => h) hH rfl ?ymv12 ?rmv12
  case ymv12 => intro W hSw; go_simp; first | done | (simp [w3'])
  try simp only [Act.put, List.setIfInBounds_toArray, List.set_cons_zero, List.set_cons_succ]
  refine callL 12 rfl (by kernel_rfl) rfl (fun K hK => ?_)
  go_simp
  refine hK.out _ _ ⟨S0.out.cell 0 (v := .int .i64 i) rfl, S0.out.cell 1 (v := .int .i64 j) rfl, S0.out.cell 2 (v := .int .i64 s) rfl, S0.out.cell 3 (v := .int .i64 ee) rfl, c9.out⟩ (fun hH => ?_)
  clear hK K
  try simp only [Act.put, List.setIfInBounds_toArray, List.set_cons_zero, List.set_cons_succ]
  refine takeL 13 (v := ?vmv13) rfl (by kernel_rfl) (by kernel_rfl) (by kernel_rfl) (by kernel_rfl) (by kernel_rfl) (fun _ _ _ h => h) hH rfl ?ymv13 ?rmv13
  case ymv13 => intro W hSw; go_simp; try with_reducible rfl
  try simp only [Act.put, List.setIfInBounds_toArray, List.set_cons_zero, List.set_cons_succ]
  refine lastL rfl (by kernel_rfl) (by kernel_rfl) (by kernel_rfl) rfl (fun K hK => ?_)
  have y9 := S9.out.frozen i
  have q9 := c9.out
  go_simp
  clear y9 q9
  have S0 := Lib.hid (S0.out.other (B' := B) (by omega) i (.int .i64 (bi - (s + ee))))
  have S9 := Lib.hid (S9.out.setb (by first | exact H6.out | (rw [List.length_set]; exact H6.out)) hi6 (bi - (s + ee)))
  have Hg := Lib.hid (grownBy_trans Hg.out (grownBy_set wd B i (.int .i64 (bi - (s + ee)))))
  refine hK.out _ _ ?_
  clear hK K hH c9
  try simp only [Act.put]
  generalize (wd.setCell ⟨B, i, none⟩ (.int .i64 (bi - (s + ee)))) = W5 at *
  go_wp2_with fail
  have c9 := Lib.hid (show W5.cell? ⟨B, j, none⟩ = some (.int .i64 bj) from by rw [← Hgj.out]; exact S9.out.at hj6)
  refine wp_region_L 11 (fun w' => w'.cell? ⟨w.heap.size, 0, none⟩ = some (.int .i64 i) ∧ w'.cell? ⟨w.heap.size, 1, none⟩ = some (.int .i64 j) ∧ w'.cell? ⟨w.heap.size, 2, none⟩ = some (.int .i64 s) ∧ w'.cell? ⟨w.heap.size, 3, none⟩ = some (.int .i64 ee) ∧ w'.cell? ⟨B, j, none⟩ = some (.int .i64 bj)) (by kernel_rfl) ⟨S0.out.cell 0 (v := .int .i64 i) rfl, S0.out.cell 1 (v := .int .i64 j) rfl, S0.out.cell 2 (v := .int .i64 s) rfl, S0.out.cell 3 (v := .int .i64 ee) rfl, c9.out⟩ (fun hH => ?_)
  have S0 := Lib.hid (show Str W5.drew w.heap.size 25 #[.int .i64 i, .int .i64 j, .int .i64 s, .int .i64 ee] from S0.out)
  have S9 := Lib.hid (show Lg 66 W5.drew B (l.set i (bi - (s + ee))) n from S9.out)
  have Hg := Lib.hid (lg_drew Hg.out)
  have c9 := Lib.hid (show W5.drew.cell? ⟨B, j, none⟩ = some (.int .i64 bj) from c9.out)
  generalize W5.drew = wd at *
  refine takeL 0 (v := ?vmv14) rfl (by kernel_rfl) (by kernel_rfl) (by kernel_rfl) (by kernel_rfl) (by kernel_rfl) (fun _ _ _ h => h) hH rfl ?ymv14 ?rmv14
  case ymv14 => intro W hSw; go_simp; try with_reducible rfl
  try simp only [Act.put, List.setIfInBounds_toArray, List.set_cons_zero, List.set_cons_succ]
  refine takeL 1 (v := ?vmv15) rfl (by kernel_rfl) (by kernel_rfl) (by kernel_rfl) (by kernel_rfl) (by kernel_rfl) (fun _ _ _ h => h) hH rfl ?ymv15 ?rmv15
  case ymv15 => intro W hSw; go_simp; try with_reducible rfl
  try simp only [Act.put, List.setIfInBounds_toArray, List.set_cons_zero, List.set_cons_succ]
  refine takeL 2 (v := ?vmv16) rfl (by kernel_rfl) (by kernel_rfl) (by kernel_rfl) (by kernel_rfl) (by kernel_rfl) (fun _ _ _ h => h) hH rfl ?ymv16 ?rmv16
  case ymv16 => intro W hSw; go_simp; try with_reducible rfl
  try simp only [Act.put, List.setIfInBounds_toArray, List.set_cons_zero, List.set_cons_succ]
  refine takeL 3 (v := ?vmv17) rfl (by kernel_rfl) (by kernel_rfl) (by kernel_rfl) (by kernel_rfl) (by kernel_rfl) (fun _ _ _ h => h) hH rfl ?ymv17 ?rmv17
  case ymv17 => intro W hSw; go_simp; try with_reducible rfl
  try simp only [Act.put, List.setIfInBounds_toArray, List.set_cons_zero, List.set_cons_succ]
  refine takeL 4 (v := ?vmv18) rfl (by kernel_rfl) (by kernel_rfl) (by kernel_rfl) (by kernel_rfl) (by kernel_rfl) (fun _ _ _ h => h) hH rfl ?ymv18 ?rmv18
  case ymv18 => intro W hSw; go_simp; try with_reducible rfl
  try simp only [Act.put, List.setIfInBounds_toArray, List.set_cons_zero, List.set_cons_succ]
  refine takeL 5 (v := ?vmv19) rfl (by kernel_rfl) (by kernel_rfl) (by kernel_rfl) (by kernel_rfl) (by kernel_rfl) (fun _ _ _ h => h) hH rfl ?ymv19 ?rmv19
  case ymv19 => intro W hSw; go_simp; try with_reducible rfl
  try simp only [Act.put, List.setIfInBounds_toArray, List.set_cons_zero, List.set_cons_succ]
  refine takeL 6 (v := ?vmv20) rfl (by kernel_rfl) (by kernel_rfl) (by kernel_rfl) (by kernel_rfl) (by kernel_rfl) (fun _ _ _ h => h) hH rfl ?ymv20 ?rmv20
  case ymv20 => intro W hSw; go_simp; try with_reducible rfl
  try simp only [Act.put, List.setIfInBounds_toArray, List.set_cons_zero, List.set_cons_succ]
  refine takeL 7 (v := ?vmv21) rfl (by kernel_rfl) (by kernel_rfl) (by kernel_rfl) (by kernel_rfl) (by kernel_rfl) (fun _ _ _ h => h) hH rfl ?ymv21 ?rmv21
  case ymv21 => intro W hSw; go_simp; try with_reducible rfl
  try simp only [Act.put, List.setIfInBounds_toArray, List.set_cons_zero, List.set_cons_succ]
  refine takeL 8 (v := .int .i64 (bj + s)) rfl (by kernel_rfl) (by kernel_rfl) (by kernel_rfl) (by kernel_rfl) (by kernel_rfl) (fun _ _ _ h => h) hH rfl ?ymv22 ?rmv22
  case ymv22 => intro W hSw; go_simp; first | done | (simp [w2'])
  try simp only [Act.put, List.setIfInBounds_toArray, List.set_cons_zero, List.set_cons_succ]
  refine callL 9 rfl (by kernel_rfl) rfl (fun K hK => ?_)
  go_simp
  refine hK.out _ _ ⟨S0.out.cell 0 (v := .int .i64 i) rfl, S0.out.cell 1 (v := .int .i64 j) rfl, S0.out.cell 2 (v := .int .i64 s) rfl, S0.out.cell 3 (v := .int .i64 ee) rfl, c9.out⟩ (fun hH => ?_)
  clear hK K
  try simp only [Act.put, List.setIfInBounds_toArray, List.set_cons_zero, List.set_cons_succ]
  refine takeL 10 (v := ?vmv23) rfl (by kernel_rfl) (by kernel_rfl) (by kernel_rfl) (by kernel_rfl) (by kernel_rfl) (fun _ _ _ h => h) hH rfl ?ymv23 ?rmv23
  case ymv23 => intro W hSw; go_simp; try with_reducible rfl
  try simp only [Act.put, List.setIfInBounds_toArray, List.set_cons_zero, List.set_cons_succ]
  refine lastL rfl (by kernel_rfl) (by kernel_rfl) (by kernel_rfl) rfl (fun K hK => ?_)
  have y9 := S9.out.frozen j
  have q9 := c9.out
  go_simp
  clear y9 q9
  have S0 := Lib.hid (S0.out.other (B' := B) (by omega) j (.int .i64 (bj + s)))
  have S9 := Lib.hid (S9.out.setb (by first | exact H6.out | (rw [List.length_set]; exact H6.out)) hj6 (bj + s))
  have Hg := Lib.hid (grownBy_trans Hg.out (grownBy_set wd B j (.int .i64 (bj + s))))
  refine hK.out _ _ ?_
  clear hK K hH c9
  try simp only [Act.put]
  generalize (wd.setCell ⟨B, j, none⟩ (.int .i64 (bj + s))) = W6 at *
  go_wp2
  refine bodyPost_end (results_none rfl _ _ _) rfl ?_
  have h9 := S9.out
  rw [Hap.out] at h9
  exact ⟨rfl, h9, Hg.out⟩

end Go.Proofs.Ytadgdjjibmofpab

/- The library's test whether two lists of ints are the same, and its copy of a list of ints, by walks of their texts; conditions: the lists have fewer than 2^40 elements. -/
namespace Go.Proofs.Ytadgdjjibmofpab
open Go.RowKit

def EqTo (xs ys : List Int) (k : Nat) : Prop := ∀ j (h : j < xs.length) (h' : j < ys.length), j < k → xs[j] = ys[j]
theorem eqTo_step {xs ys : List Int} {k : Nat} (h : EqTo xs ys k) (hk : k < xs.length) (hk' : k < ys.length) (e : xs[k] = ys[k]) : EqTo xs ys (k + 1) := by
  intro j hj hj' hjk
  by_cases ej : j = k
  · subst ej; exact e
  · exact h j hj hj' (by omega)
theorem eqTo_all {xs ys : List Int} {k : Nat} (h : EqTo xs ys k) (hk : xs.length ≤ k) (hl : xs.length = ys.length) : xs = ys :=
  List.ext_getElem hl fun j h1 h2 => h j h1 h2 (by omega)

theorem lib_Clone (hT : IntT Try.prog 28 3) (pa : Option Addr) (pc : Nat) (ps : List Int) (w : World) (hbp : ps.length ≤ 1099511627776) (hs : SrcAt w pa pc ps) (hi : IntsAt w pa ps) :
    Calls Try.prog 53 #[.slice pa ps.length pc] w fun e w' => ∃ v, e = .returned v ∧ Own 3 w' w.heap.size v ps ∧ Below w.heap.size w w' := by
  have hq : ∀ (w : World) (a : Option Addr) (n c n' c' : Nat), (binOp .eql 28 (.slice a n c) (.slice none n' c')).run Try.prog w = .ok (.bool a.isNone) w := fun w a n c n' c' => Lib.run_eql_slice_nil w _ _ a n c n' c' Try.underlying28
  cases pa with
  | none =>
    have hp0 : ps = [] := by
      rcases hi with h | ⟨b, off, e, _⟩
      · exact h
      · cases e
    subst hp0
    clear hs hi
    go_enter Try.func53, Try.ntmps53
    go_wp2
    go_ret
    exact ⟨_, rfl, Own.nil _ _ _, Below.refl _ _⟩
  | some ad =>
    have hb2 : Below w.heap.size w (w.alloc (.cells #[] 3)) := (Below.refl _ _).alloc (Nat.le_refl _) _
    have ho := own_empty 3 w (Nat.le_refl _)
    have hsrc : SrcAt (w.alloc (.cells #[] 3)) (some ad) pc ps := by
      rcases hs with h | ⟨ad', e, hc⟩
      · exact .inl h
      · cases e
        refine .inr ⟨ad, rfl, fun j hj => ?_⟩
        obtain ⟨b, off, e, hb, _⟩ := hi.cell (by omega)
        cases e
        have := hc j hj
        rw [addr_add'] at this ⊢
        exact (hb2.cell (p := ⟨b, off + j, none⟩) hb).trans this
    have hzs : (w.alloc (.cells #[] 3)).heap.size = w.heap.size + 1 := by simp
    have Ho := Lib.hid ho; clear ho
    have Hsrc := Lib.hid hsrc; clear hsrc
    have Hb2 := Lib.hid hb2; clear hb2 hs hi
    go_enter Try.func53, Try.ntmps53
    go_wp2_with (at_builtin; refine wpList_appI hT rfl _ _ rfl w.heap.size (.slice (some ⟨w.heap.size, 0, none⟩) 0 0) [] ps _ _ rfl Ho.out rfl Hsrc.out (by simp; omega) (by rw [hzs]; omega) ?_; intro v5 w5 hown hg5; (rw [List.nil_append] at hown))
    go_ret
    exact ⟨_, rfl, hown, Hb2.out.grown hg5 (by omega) (fun g e => by cases e; exact Nat.le_refl _)⟩

end Go.Proofs.Ytadgdjjibmofpab

/- The reference's test of a ledger with space for fees, by a walk of its text; conditions: the list is shorter than 2^40, at most a hundred transactions. -/
namespace Go.Proofs.Ytadgdjjibmofpab
open Go.RowKit

def roomB (l : List Int) (n m : Int) : Bool := ldB l n && decide (n ≤ 5994 - 9 * m)
set_option maxHeartbeats 1000000 in
theorem spec_l31Room (a : Option Addr) (cap : Nat) (l : List Int) (n m : Int) (w : World) (hbig : l.length ≤ 1099511627776) (hl : IntsAt w a l) (hm : 0 ≤ m ∧ m ≤ 100) :
    Calls Try.prog 39 #[.agg #[.slice a l.length cap, .int .i64 n], .int .i64 m] w fun e w' => e = .returned (.bool (roomB l n m)) ∧ Below w.heap.size w w' := by
  have hb0 : Below w.heap.size w (w.alloc (.cells #[.slice a l.length cap, .int .i64 n] 33)) := (Below.refl _ _).alloc (Nat.le_refl _) _
  have s0 := Str.new w 33 #[.slice a l.length cap, .int .i64 n]
  have k0 := s0.cell 0 (v := .slice a l.length cap) rfl
  have k1 := s0.cell 1 (v := .int .i64 n) rfl
  have Hl := Lib.hid (hl.below hb0); clear hl
  have Hb0 := Lib.hid hb0; clear hb0
  have Hs := Lib.hid s0; clear s0
  have HV := Lib.hid (fun W (h : IntsAt W a l) => spec_LedgerValid a cap l n W hbig h)
  have Hres := Lib.hid (show roomB l n m = (ldB l n && decide (n ≤ 5994 - 9 * m)) from rfl)
  have hw1 : IntKind.i64.wrap (9 * m) = 9 * m := IntWalk.i64_in _ (by omega)
  have hw2 : IntKind.i64.wrap (5994 - 9 * m) = 5994 - 9 * m := IntWalk.i64_in _ (by omega)
  generalize ldB l n = B at *
  go_enter Try.func39, Try.ntmps39
  go_wp2_with fail
  generalize w.alloc (.cells #[.slice a l.length cap, .int .i64 n] 33) = W0 at *
  refine (HV.out W0 Hl.out).mono ?_
  rintro e w1 ⟨rfl, hb1⟩
  have Hb1 := Lib.hid (below_step Hb0.out Hb0.out.size hb1)
  have Hs1 := Lib.hid (show Str w1 w.heap.size 33 #[.slice a l.length cap, .int .i64 n] from (hb1.block _ Hs.out.lt).trans Hs.out)
  clear hb1 k0 k1
  cases B with
  | false =>
    go_wp2
    go_ret
    exact ⟨ret_bool (by rw [Hres.out]; rfl), Hb1.out⟩
  | true =>
  have k1 := Hs1.out.cell 1 (v := .int .i64 n) rfl
  go_wp2
  go_ret
  exact ⟨ret_bool (by rw [Hres.out]; rfl), Hb1.out⟩

end Go.Proofs.Ytadgdjjibmofpab

/- Plain arithmetic of sets of members and their weights; no walk and no condition of our own. -/
namespace Go.Proofs.Ytadgdjjibmofpab

/-- Ascending members below n. -/
def AscP (n : Nat) (ms : List Int) : Prop := ms.Pairwise (· < ·) ∧ ∀ m ∈ ms, 0 ≤ m ∧ m < n
theorem ascP_of {n : Nat} {ms : List Int} (h : membersB n ms = true) : AscP n ms := by
  have step : ∀ d i (hi : i + 1 + d < ms.length), ms[i] < ms[i + 1 + d] := by
    intro d
    induction d with
    | zero =>
      intro i hi
      have := okAt_bd hi (allB_upto h (i + 1) hi)
      rcases this.2.2 with h0 | h0
      · omega
      · rw [show i + 1 + 0 - 1 = i by omega, getD_get (by omega)] at h0; exact h0
    | succ d ih =>
      intro i hi
      have h1 := ih i (by omega)
      have := okAt_bd hi (allB_upto h (i + 1 + (d + 1)) hi)
      rcases this.2.2 with h0 | h0
      · omega
      · rw [show i + 1 + (d + 1) - 1 = i + 1 + d by omega, getD_get (by omega)] at h0
        exact Int.lt_trans h1 h0
  refine ⟨List.pairwise_iff_getElem.2 fun i j hi hj hij => ?_, fun m hm => ?_⟩
  · have := step (j - i - 1) i (by omega)
    simpa [show i + 1 + (j - i - 1) = j by omega] using this
  · obtain ⟨j, hj, rfl⟩ := List.mem_iff_getElem.1 hm
    exact membersB_at h j hj
theorem of_ascP {n : Nat} {ms : List Int} (h : AscP n ms) : membersB n ms = true := by
  unfold membersB
  refine allB_yes (k := ms.length) (fun j hj => ?_) (Nat.le_refl _)
  have hb := h.2 ms[j] (List.getElem_mem hj)
  refine okAt_yes hj hb.1 hb.2 ?_
  by_cases h0 : j = 0
  · exact .inl h0
  · refine .inr ?_
    rw [getD_get (by omega)]
    exact List.pairwise_iff_getElem.1 h.1 (j - 1) j (by omega) hj (by omega)
theorem ascP_filter {n : Nat} {ms : List Int} (p : Int → Bool) (h : AscP n ms) : AscP n (ms.filter p) :=
  ⟨h.1.filter p, fun m hm => h.2 m (List.mem_filter.1 hm).1⟩
theorem ascP_rangeF (p : Nat → Bool) (n : Nat) : AscP n (rangeF p n) := by
  induction n with
  | zero => exact ⟨by simp [rangeF], by simp [rangeF]⟩
  | succ n ih =>
    cases hp : p n with
    | false => rw [rangeF_no hp]; exact ⟨ih.1, fun m hm => by have := ih.2 m hm; omega⟩
    | true =>
      rw [rangeF_yes hp]
      refine ⟨List.pairwise_append.2 ⟨ih.1, by simp, fun a ha b hb => ?_⟩, fun m hm => ?_⟩
      · simp at hb; subst hb; exact (ih.2 a ha).2
      · rcases List.mem_append.1 hm with hm | hm
        · have := ih.2 m hm; omega
        · simp at hm; omega
theorem mem_rangeF {p : Nat → Bool} {n i : Nat} : (i : Int) ∈ rangeF p n ↔ i < n ∧ p i = true := by
  unfold rangeF
  simp only [List.mem_map, List.mem_filter, List.mem_range]
  constructor
  · rintro ⟨a, h, e⟩
    obtain rfl : a = i := by omega
    exact h
  · intro h; exact ⟨i, h, rfl⟩

/-- f 0 + .. + f (n - 1). -/
def isum (f : Nat → Int) : Nat → Int
  | 0 => 0
  | n + 1 => isum f n + f n
theorem isum_congr {f g : Nat → Int} {n : Nat} (h : ∀ i, i < n → f i = g i) : isum f n = isum g n := by
  induction n with
  | zero => rfl
  | succ n ih => simp only [isum]; rw [ih (fun i hi => h i (by omega)), h n (by omega)]
theorem isum_add (f g : Nat → Int) (n : Nat) : isum (fun i => f i + g i) n = isum f n + isum g n := by
  induction n with
  | zero => rfl
  | succ n ih => simp only [isum]; rw [ih]; omega
theorem isum_le {f g : Nat → Int} {n : Nat} (h : ∀ i, i < n → f i ≤ g i) : isum f n ≤ isum g n := by
  induction n with
  | zero => exact Int.le_refl _
  | succ n ih => simp only [isum]; have := ih (fun i hi => h i (by omega)); have := h n (by omega); omega
theorem isum_total (c : List Int) : isum (fun i => c.getD i 0) c.length = totalZ c := by
  have : ∀ k, k ≤ c.length → isum (fun i => c.getD i 0) k = sumTo c k := by
    intro k
    induction k with
    | zero => intro _; rfl
    | succ k ih => intro hk; simp only [isum]; rw [ih (by omega), sumTo_succ (by omega), getD_get (by omega)]
  exact this _ (Nat.le_refl _)

/-- The weight of i if it is among ms. -/
def wAt (c ms : List Int) (i : Nat) : Int := if hasB ms i = true then c.getD i 0 else 0
theorem weightTo_app (c ms : List Int) (x : Int) : weightZ c (ms ++ [x]) = weightZ c ms + c.getD x.toNat 0 := by
  unfold weightZ
  rw [List.length_append]
  simp only [List.length_cons, List.length_nil]
  rw [weightTo_succ (by simp)]
  congr 1
  · unfold weightTo; simp
  · simp
theorem weight_isum (c : List Int) : ∀ (n : Nat) (ms : List Int), AscP n ms → weightZ c ms = isum (wAt c ms) n := by
  intro n
  induction n with
  | zero =>
    intro ms h
    cases ms with
    | nil => rfl
    | cons m ms => have := h.2 m (by simp); omega
  | succ n ih =>
    intro ms h
    simp only [isum]
    rcases List.eq_nil_or_concat ms with rfl | ⟨l, x, rfl⟩
    · rw [← ih [] ⟨by simp, by simp⟩]; simp [wAt, hasB]
    · rw [List.concat_eq_append] at h ⊢
      have hp := List.pairwise_append.1 h.1
      have hx := h.2 x (by simp)
      have hl : ∀ m ∈ l, 0 ≤ m ∧ m < x := fun m hm => ⟨(h.2 m (by simp [hm])).1, hp.2.2 m hm x (by simp)⟩
      by_cases hxn : x = n
      · subst hxn
        have h1 := ih l ⟨hp.1, fun m hm => ⟨(hl m hm).1, by have := hl m hm; omega⟩⟩
        rw [weightTo_app, h1]
        congr 1
        · refine isum_congr fun i hi => ?_
          unfold wAt hasB
          have : ((i : Int) ∈ l ++ [(n : Int)]) = ((i : Int) ∈ l) := by
            rw [List.mem_append]; simp; omega
          simp only [this]
        · unfold wAt hasB; simp
      · have h1 := ih (l ++ [x]) ⟨h.1, fun m hm => by
          have := h.2 m hm
          rcases List.mem_append.1 hm with hm | hm
          · have := hl m hm; omega
          · simp at hm; omega⟩
        rw [h1]
        have : wAt c (l ++ [x]) n = 0 := by
          unfold wAt hasB
          rw [if_neg]
          rw [decide_eq_true_eq]
          intro hm
          rcases List.mem_append.1 hm with hm | hm
          · have := hl _ hm; omega
          · simp at hm; omega
        omega

theorem hasB_common (a b : List Int) (i : Int) : hasB (commonZ a b) i = (hasB a i && hasB b i) := by
  rw [commonZ_eq, Bool.eq_iff_iff]
  simp [hasB, List.mem_filter]
theorem c_nonneg {c : List Int} (h : validB c = true) (i : Nat) (hi : i < c.length) : 0 ≤ c.getD i 0 := by have := good_getD h hi; omega

/-- Two sets weigh no more together than all members and what is common. -/
theorem weights_meet {c a b : List Int} (h : validB c = true) (ha : AscP c.length a) (hb : AscP c.length b) : weightZ c a + weightZ c b ≤ totalZ c + weightZ c (commonZ a b) := by
  have hc : AscP c.length (commonZ a b) := by rw [commonZ_eq]; exact ascP_filter _ ha
  rw [weight_isum c _ a ha, weight_isum c _ b hb, weight_isum c _ _ hc, ← isum_total, ← isum_add, ← isum_add]
  refine isum_le fun i hi => ?_
  have := c_nonneg h i hi
  unfold wAt
  rw [hasB_common]
  generalize c.getD i 0 = x at *
  cases hasB a i <;> cases hasB b i <;> simp <;> omega
/-- Weights are added. -/
theorem weights_add {c a b : List Int} (ha : AscP c.length a) (hb : AscP c.length b) :
    weightZ c a + weightZ c b = weightZ c (rangeF (fun i => hasB a i || hasB b i) c.length) + weightZ c (commonZ a b) := by
  have hc : AscP c.length (commonZ a b) := by rw [commonZ_eq]; exact ascP_filter _ ha
  have hu := ascP_rangeF (fun i => hasB a i || hasB b i) c.length
  rw [weight_isum c _ a ha, weight_isum c _ b hb, weight_isum c _ _ hc, weight_isum c _ _ hu, ← isum_add, ← isum_add]
  refine isum_congr fun i hi => ?_
  unfold wAt
  rw [hasB_common]
  have : hasB (rangeF (fun i => hasB a i || hasB b i) c.length) i = (hasB a i || hasB b i) := by
    rw [Bool.eq_iff_iff]; unfold hasB; rw [decide_eq_true_eq, mem_rangeF]; simp [hi]
  rw [this]
  cases hasB a i <;> cases hasB b i <;> simp

/-- The weight of all members. -/
theorem weight_all {c : List Int} (h : validB c = true) : weightZ c (rangeF (bitB 127) c.length) = totalZ c := by
  rw [weight_isum c _ _ (ascP_rangeF _ _), ← isum_total]
  refine isum_congr fun i hi => ?_
  have hl := validB_len h
  have h7 : bitB 127 i = true := by
    have : i < 7 := by omega
    match i, this with
    | 0, _ => rfl
    | 1, _ => rfl
    | 2, _ => rfl
    | 3, _ => rfl
    | 4, _ => rfl
    | 5, _ => rfl
    | 6, _ => rfl
  have : hasB (rangeF (bitB 127) c.length) i = true := decide_eq_true (mem_rangeF.2 ⟨hi, h7⟩)
  unfold wAt
  rw [if_pos this]

theorem mwZ_of {c ms : List Int} (h : validB c = true) (hm : AscP c.length ms) : mwZ c ms = weightZ c ms := mwZ_yes (by rw [mvB_yes h]; exact of_ascP hm)
theorem mwZ_rangeF {c : List Int} (h : validB c = true) (p : Nat → Bool) : mwZ c (rangeF p c.length) = weightZ c (rangeF p c.length) := mwZ_of h (ascP_rangeF p _)

theorem weight_bd {c a : List Int} (h : validB c = true) (ha : AscP c.length a) : 0 ≤ weightZ c a ∧ weightZ c a ≤ totalZ c := by
  have h0 : isum (fun _ => 0) c.length = 0 := by
    generalize c.length = n
    induction n with
    | zero => rfl
    | succ n ih => simp only [isum]; rw [ih]; rfl
  rw [weight_isum c _ a ha, ← isum_total]
  refine ⟨Int.le_trans (Int.le_of_eq h0.symm) (isum_le fun i hi => ?_), isum_le fun i hi => ?_⟩ <;> (have := c_nonneg h i hi; unfold wAt; split <;> omega)
theorem ascP_common {n : Nat} {a b : List Int} (ha : AscP n a) : AscP n (commonZ a b) := by rw [commonZ_eq]; exact ascP_filter _ ha
theorem common_pos {c a b : List Int} (h : 0 < weightZ c (commonZ a b)) : 0 < (commonZ a b).length := by
  rcases Nat.eq_zero_or_pos (commonZ a b).length with h0 | h0
  · rw [List.eq_nil_of_length_eq_zero h0] at h; exact absurd h (by simp [weightZ, weightTo])
  · exact h0

theorem validB_iff (c : List Int) : validB c = true ↔ (1 ≤ c.length ∧ c.length ≤ 7) ∧ ∀ x ∈ c, 1 ≤ x ∧ x ≤ 9 := by
  unfold validB goodB
  rw [Bool.and_eq_true, decide_eq_true_eq, List.all_eq_true]
  simp
theorem valid_less {c : List Int} {k : Nat} (h : validB c = true) (hk : k < c.length) (h1 : c.length ≠ 1) : validB (c.take k ++ c.drop (k + 1)) = true := by
  rw [validB_iff] at h ⊢
  refine ⟨?_, fun x hx => h.2 x ?_⟩
  · rw [List.length_append, List.length_take, List.length_drop]; omega
  · rcases List.mem_append.1 hx with hx | hx
    · exact List.mem_of_mem_take hx
    · exact List.mem_of_mem_drop hx
theorem valid_zero {c : List Int} {k : Nat} (hk : k < c.length) : validB (c.set k 0) = false := by
  rw [Bool.eq_false_iff]
  intro h
  rw [validB_iff] at h
  have := h.2 0 (List.mem_set hk 0)
  omega

theorem members_less {n : Nat} {ms : List Int} {k : Nat} (h : AscP n ms) : AscP n (ms.take k ++ ms.drop (k + 1)) := by
  have hsub : (ms.take k ++ ms.drop (k + 1)).Sublist ms := by rw [← List.eraseIdx_eq_take_drop_succ]; exact List.eraseIdx_sublist ms k
  exact ⟨h.1.sublist hsub, fun m hm => h.2 m (hsub.subset hm)⟩
theorem members_twice {n : Nat} {ms : List Int} {k : Nat} (hk : k < ms.length) : membersB n (ms.take (k + 1) ++ ms.drop k) = false := by
  rw [Bool.eq_false_iff]
  intro h
  have hp := (List.pairwise_append.1 (ascP_of h).1).2.2 ms[k] (by rw [List.mem_take_iff_getElem]; exact ⟨k, by omega, rfl⟩) ms[k] (by rw [List.mem_drop_iff_getElem]; exact ⟨0, by omega, by simp⟩)
  omega

end Go.Proofs.Ytadgdjjibmofpab

/- A number put into an ascending list; plain facts and slices of a source; nothing here speaks of the program's text. -/
namespace Go.Proofs.Ytadgdjjibmofpab
open Go.RowKit

/-- x put in its place, where it is lacking. -/
def addZ (ms : List Int) (x : Int) : List Int := if hasB ms x then ms else ms.takeWhile (fun m => decide (m < x)) ++ x :: ms.dropWhile (fun m => decide (m < x))
theorem asc_at {ms : List Int} (hs : ms.Pairwise (· < ·)) {i j : Nat} (hi : i < ms.length) (hj : j < ms.length) (h : i < j) : ms[i] < ms[j] := List.pairwise_iff_getElem.1 hs i j hi hj h
theorem place_ex (ms : List Int) (x : Int) : ∃ k, k ≤ ms.length ∧ (∀ m ∈ ms.take k, m < x) ∧ ∀ hk : k < ms.length, x ≤ ms[k] := by
  induction ms with
  | nil => exact ⟨0, Nat.le_refl _, by simp, fun hk => absurd hk (by simp)⟩
  | cons y ys ih =>
    by_cases hy : y < x
    · obtain ⟨k, h1, h2, h3⟩ := ih
      refine ⟨k + 1, by simpa using h1, ?_, fun hk => ?_⟩
      · intro m hm
        rw [List.take_succ_cons] at hm
        rcases List.mem_cons.1 hm with e | hm
        · rw [e]; exact hy
        · exact h2 m hm
      · rw [List.getElem_cons_succ]
        exact h3 (by simpa using hk)
    · exact ⟨0, Nat.zero_le _, by simp, fun hk => by rw [List.getElem_cons_zero]; omega⟩
theorem rest_ge {ms : List Int} (hs : ms.Pairwise (· < ·)) {x : Int} {k : Nat} (h' : ∀ hk : k < ms.length, x ≤ ms[k]) : ∀ m ∈ ms.drop k, x ≤ m := by
  intro m hm
  obtain ⟨j, hj, rfl⟩ := List.mem_iff_getElem.1 hm
  rw [List.length_drop] at hj
  rw [List.getElem_drop]
  have hk : k < ms.length := by omega
  have h0 := h' hk
  rcases Nat.eq_zero_or_pos j with e | e
  · subst e; exact h0
  · have := asc_at hs hk (j := k + j) (by omega) (by omega)
    omega
theorem count_at {ms : List Int} (hs : ms.Pairwise (· < ·)) {x : Int} {k : Nat} (hk : k ≤ ms.length) (h : ∀ m ∈ ms.take k, m < x) (h' : ∀ hk : k < ms.length, x ≤ ms[k]) : ms.countP (fun m => decide (m < x)) = k := by
  have e : ms.countP (fun m => decide (m < x)) = (ms.take k ++ ms.drop k).countP (fun m => decide (m < x)) := by rw [List.take_append_drop]
  rw [e, List.countP_append, List.countP_eq_length.2 (fun m hm => decide_eq_true (h m hm)), List.countP_eq_zero.2 (fun m hm => by have := rest_ge hs h' m hm; simp; omega), List.length_take]
  omega
theorem ins_hit {ms : List Int} {x : Int} {k : Nat} (hk : k < ms.length) (e : ms[k] = x) : hasB ms x = true ∧ addZ ms x = ms := by
  have h := hasB_yes hk
  rw [e] at h
  exact ⟨h, by unfold addZ; rw [if_pos h]⟩
theorem ins_no {ms : List Int} (hs : ms.Pairwise (· < ·)) {x : Int} {k : Nat} (_hk : k ≤ ms.length) (h : ∀ m ∈ ms.take k, m < x) (h' : ∀ hk : k < ms.length, x < ms[k]) : hasB ms x = false ∧ addZ ms x = ms.take k ++ x :: ms.drop k := by
  have hn : hasB ms x = false := by
    refine decide_eq_false fun hm => ?_
    have : x ∈ ms.take k ++ ms.drop k := by rw [List.take_append_drop]; exact hm
    rcases List.mem_append.1 this with hm | hm
    · exact absurd (h x hm) (by omega)
    · obtain ⟨j, hj, e⟩ := List.mem_iff_getElem.1 hm
      rw [List.length_drop] at hj
      rw [List.getElem_drop] at e
      have hk : k < ms.length := by omega
      have h0 := h' hk
      rcases Nat.eq_zero_or_pos j with e0 | e0
      · subst e0; simp only [Nat.add_zero] at e; omega
      · have := asc_at hs hk (j := k + j) (by omega) (by omega)
        omega
  refine ⟨hn, ?_⟩
  unfold addZ
  rw [hn, if_neg (by simp)]
  have h2 : (ms.drop k).takeWhile (fun m => decide (m < x)) = [] ∧ (ms.drop k).dropWhile (fun m => decide (m < x)) = ms.drop k := by
    by_cases hk : k < ms.length
    · have h0 := h' hk
      rw [List.drop_eq_getElem_cons hk]
      exact ⟨List.takeWhile_cons_of_neg (by simp; omega), List.dropWhile_cons_of_neg (by simp; omega)⟩
    · rw [List.drop_of_length_le (by omega)]; exact ⟨rfl, rfl⟩
  have e := List.take_append_drop k ms
  have hp : ∀ m ∈ ms.take k, (fun m => decide (m < x)) m = true := fun m hm => decide_eq_true (h m hm)
  rw [show ms.takeWhile (fun m => decide (m < x)) = (ms.take k ++ ms.drop k).takeWhile (fun m => decide (m < x)) by rw [e], List.takeWhile_append_of_pos hp, h2.1, List.append_nil,
    show ms.dropWhile (fun m => decide (m < x)) = (ms.take k ++ ms.drop k).dropWhile (fun m => decide (m < x)) by rw [e], List.dropWhile_append_of_pos hp, h2.2]
theorem ins_len (ms : List Int) (x : Int) : (addZ ms x).length ≤ ms.length + 1 := by
  unfold addZ
  split
  · omega
  · have e := congrArg List.length (List.takeWhile_append_dropWhile (p := fun m => decide (m < x)) (l := ms))
    rw [List.length_append] at e
    rw [List.length_append, List.length_cons]
    omega
theorem take_step {ms : List Int} {x : Int} {k : Nat} (hk : k < ms.length) (h : ∀ m ∈ ms.take k, m < x) (h' : ms[k] < x) : ∀ m ∈ ms.take (k + 1), m < x := by
  intro m hm
  rw [List.take_succ_eq_append_getElem hk, List.mem_append] at hm
  rcases hm with hm | hm
  · exact h m hm
  · rw [List.mem_singleton] at hm; rw [hm]; exact h'

theorem SrcAt.takeI {w : World} {a : Option Addr} {c : Nat} {g : List Int} (h : SrcAt w a c g) (k : Nat) : SrcAt w a c (g.take k) := by
  rcases h with ⟨rfl, rfl, rfl⟩ | ⟨q, rfl, hq⟩
  · exact .inl ⟨rfl, by simp, rfl⟩
  · refine .inr ⟨q, rfl, fun j hj => ?_⟩
    rw [List.length_take] at hj
    rw [List.getElem_take]
    exact hq j (by omega)
theorem add_add (q : Addr) (k j : Nat) : (q.add k).add j = q.add (k + j) := by
  unfold Addr.add
  by_cases hj : j = 0
  · subst hj; simp
  · by_cases hk : k = 0
    · subst hk; simp [hj]
    · have : k + j ≠ 0 := by omega
      simp [hj, hk, Nat.add_assoc]
theorem SrcAt.dropI {w : World} {a : Option Addr} {c : Nat} {g : List Int} (h : SrcAt w a c g) (hc : g.length ≤ c) {k : Nat} (hk : k ≤ g.length) : SrcAt w (if c = k then a else a.map (·.add (k * 1))) (c - k) (g.drop k) := by
  rcases h with ⟨rfl, rfl, rfl⟩ | ⟨q, rfl, hq⟩
  · exact .inl ⟨by split <;> rfl, by simp, by simp⟩
  · by_cases e : c = k
    · rw [if_pos e, List.drop_of_length_le (by omega)]; exact .inr ⟨q, rfl, fun j hj => by simp at hj⟩
    · rw [if_neg e]
      refine .inr ⟨_, rfl, fun j hj => ?_⟩
      rw [List.length_drop] at hj
      rw [List.getElem_drop, add_add, Nat.mul_one]
      exact hq (k + j) (by omega)
theorem SrcAt.parts {w : World} {va : Option Addr} {vc : Nat} {g : List Int} (h : SrcAt w va vc g) (hc : g.length ≤ vc) {k : Nat} (hk : k ≤ g.length) :
    (∀ W, (Instr.slice 28 (.slice va g.length vc) none (some (.int .i64 k)) none).run Try.prog W = .ok (.slice va (g.take k).length vc) W) ∧ SrcAt w va vc (g.take k) ∧
    ∃ ad ac, (∀ W, (Instr.slice 28 (.slice va g.length vc) (some (.int .i64 k)) none none).run Try.prog W = .ok (.slice ad (g.drop k).length ac) W) ∧ SrcAt w ad ac (g.drop k) := by
  have ht : Try.prog.underlying 28 = some (.slice (Try.prog.elem 28)) := by kernel_rfl
  have hs : ∀ W, (sizeOf (Try.prog.elem 28)).run Try.prog W = .ok 1 W := fun W => by kernel_rfl
  refine ⟨fun W => ?_, h.takeI k, _, _, fun W => ?_, h.dropI hc hk⟩
  · rw [run_slice_h (ht := ht) (h0 := by omega) (h2 := by omega), hs]
    simp only [Result.andThen, sliced, Int.toNat_natCast, List.length_take, Nat.min_eq_left hk, Nat.sub_zero]
    have e : (if vc = 0 then va else va.map (·.add (0 * 1))) = va := by
      split
      · rfl
      · cases va <;> simp [Addr.add]
    rw [e]
  · rw [run_slice_l (ht := ht) (h0 := by omega) (h1 := by omega), hs]
    simp only [Result.andThen, sliced, Int.toNat_natCast, List.length_drop]
theorem SrcAt.lies {w w' : World} {a : Option Addr} {c : Nat} {xs : List Int} (h : SrcAt w a c xs) (hi : IntsAt w a xs) (hb : Below w.heap.size w w') : SrcAt w' a c xs := by
  rcases h with h | ⟨ad, rfl, hc⟩
  · exact .inl h
  · refine .inr ⟨ad, rfl, fun j hj => ?_⟩
    obtain ⟨b, off, e, hlt, _⟩ := hi.cell (by omega)
    cases e
    have := hc j hj
    rw [addr_add'] at this ⊢
    exact (hb.cell (p := ⟨b, off + j, none⟩) hlt).trans this
theorem src_one {w : World} {E : TypeId} {B : Nat} {x : Int} (h : Str w B E #[.int .i64 x]) : SrcAt w (some ⟨B, 0, none⟩) 1 [x] := by
  refine .inr ⟨_, rfl, fun j hj => ?_⟩
  have h0 : j = 0 := by simpa using hj
  subst h0
  rw [addr_add]
  exact h.cell 0 rfl
/-- 'append(s, t...)' as an operation of a region. -/
theorem op_appI {P : Program} {T E : TypeId} (hT : IntT P T E) {w : World} {o : Oper} {a : Act} {K : Act → World → Prop} {Q : Exit → Act → World → Prop} (s x : Operand)
    (ho : o.op = .call { callee := .builtin .append, args := #[s, x], argTypes := #[T, T] }) (B : Nat) (v : Value) (xs zs : List Int) (ax : Option Addr) (c : Nat) (hs : a.eval s = v) (hown : Own E w B v xs)
    (hx : a.eval x = .slice ax zs.length c) (hz : SrcAt w ax c zs) (hlen : xs.length + zs.length ≤ 1099511627776) (hB : B ≤ w.heap.size)
    (h : ∀ v' w', Own E w' B v' (xs ++ zs) → w.grownBy w' v.ownBlock → K (a.put o.dst v') w') : Oper.wp P o a w K Q := by
  obtain ⟨v', w', hr, h1, h2⟩ := run_appI hT o.type hown hz hlen hB
  unfold Oper.wp execOp
  simp only [ho, resolve, invoke, builtin, Sem.run_bind, Sem.run_pure, Result.andThen_ok, List.map_toArray, List.map_cons, List.map_nil, hs, hx, hr]
  exact h v' w' h1 h2

end Go.Proofs.Ytadgdjjibmofpab

/- The reference's copy of a ledger, by a walk of its text; condition: the list has at most 2^20 numbers. -/
namespace Go.Proofs.Ytadgdjjibmofpab
open Go.RowKit

theorem TIl : IntT Try.prog 28 3 := ⟨Try.underlying28, by kernel_rfl⟩
set_option maxHeartbeats 2000000 in
theorem spec_l31Copy (a : Option Addr) (cap : Nat) (l : List Int) (n : Int) (w : World) (hbig : l.length ≤ 1048576) (hi : IntsAt w a l) (hsrc : SrcAt w a cap l) :
    Calls Try.prog 50 #[.agg #[.slice a l.length cap, .int .i64 n]] w fun e w' => ∃ v, e = .returned (.agg #[v, .int .i64 n]) ∧ Own 3 w' w.heap.size v l ∧ Below w.heap.size w w' := by
  have hb0 : Below w.heap.size w ((w.alloc (.cells #[.slice a l.length cap, .int .i64 n] 33)).alloc (.cells #[.slice none 0 0, .int .i64 0] 33)) := ((Below.refl _ _).alloc (Nat.le_refl _) _).alloc (by simp) _
  have hsrc0 := hsrc.lies hi hb0
  have hi0 := hi.below hb0
  have s1 := (Str.new w 33 #[.slice a l.length cap, .int .i64 n]).alloc (.cells #[.slice none 0 0, .int .i64 0] 33)
  have s2 := Str.new (w.alloc (.cells #[.slice a l.length cap, .int .i64 n] 33)) 33 #[.slice none 0 0, .int .i64 0]
  simp only [World.size_alloc] at s2
  have hz : ((w.alloc (.cells #[.slice a l.length cap, .int .i64 n] 33)).alloc (.cells #[.slice none 0 0, .int .i64 0] 33)).heap.size = w.heap.size + 2 := by simp
  have Hi := Lib.hid hi0; have Hsrc := Lib.hid hsrc0; have Hb := Lib.hid hb0; have S1 := Lib.hid s1; have S2 := Lib.hid s2; clear hi0 hsrc0 hb0 s1 s2 hi hsrc
  go_enter Try.func50, Try.ntmps50
  have k0 := S1.out.cell 0 (v := .slice a l.length cap) rfl
  have k1 := S1.out.cell 1 (v := .int .i64 n) rfl
  go_wp2_with fail
  generalize ((w.alloc (.cells #[.slice a l.length cap, .int .i64 n] 33)).alloc (.cells #[.slice none 0 0, .int .i64 0] 33)) = W0 at *
  clear k0 k1
  refine wp_region_held_drew (S := fun w' => w'.cell? ⟨w.heap.size, 0, none⟩ = some (.slice a l.length cap) ∧ w'.cell? ⟨w.heap.size, 1, none⟩ = some (.int .i64 n)) (by kernel_rfl) ⟨S1.out.cell 0 (v := .slice a l.length cap) rfl, S1.out.cell 1 (v := .int .i64 n) rfl⟩ (fun hH => ?_)
  have hdr : Below W0.heap.size W0 W0.drew := (Below.refl _ _).drew
  have Hsrc := Lib.hid (Hsrc.out.lies Hi.out hdr)
  have Hi := Lib.hid (Hi.out.below hdr)
  have S1 := Lib.hid (show Str W0.drew (w.heap.size) 33 #[.slice a l.length cap, .int .i64 n] from (hdr.block _ S1.out.lt).trans S1.out)
  have S2 := Lib.hid (show Str W0.drew (w.heap.size + 1) 33 #[.slice none 0 0, .int .i64 0] from (hdr.block _ S2.out.lt).trans S2.out)
  have hsx := hdr.size
  have Hb := Lib.hid (below_step Hb.out Hb.out.size hdr)
  clear hdr
  generalize W0.drew = wd at *
  refine takeH 1 (v := ?vlc1) rfl (by kernel_rfl) (by kernel_rfl) (by kernel_rfl) (fun _ _ _ h => h) hH rfl ?ylc1 ?rlc1
  case ylc1 => intro W hSw; go_simp; try with_reducible rfl
  try simp only [Act.put, List.setIfInBounds_toArray, List.set_cons_zero, List.set_cons_succ]
  refine takeH 2 (v := ?vlc2) rfl (by kernel_rfl) (by kernel_rfl) (by kernel_rfl) (fun _ _ _ h => h) hH rfl ?ylc2 ?rlc2
  case ylc2 => intro W hSw; go_simp; try with_reducible rfl
  try simp only [Act.put, List.setIfInBounds_toArray, List.set_cons_zero, List.set_cons_succ]
  refine takeH 4 (v := ?vlc3) rfl (by kernel_rfl) (by kernel_rfl) (by kernel_rfl) (fun _ _ _ h => h) hH rfl ?ylc3 ?rlc3
  case ylc3 => intro W hSw; go_simp; try with_reducible rfl
  try simp only [Act.put, List.setIfInBounds_toArray, List.set_cons_zero, List.set_cons_succ]
  refine takeH 5 (v := ?vlc4) rfl (by kernel_rfl) (by kernel_rfl) (by kernel_rfl) (fun _ _ _ h => h) hH rfl ?ylc4 ?rlc4
  case ylc4 => intro W hSw; go_simp; try with_reducible rfl
  try simp only [Act.put, List.setIfInBounds_toArray, List.set_cons_zero, List.set_cons_succ]
  refine callH 0 rfl (by kernel_rfl) rfl (fun K hK => ?_)
  go_simp
  have hal : Below wd.heap.size wd (wd.alloc (.cells #[] 3)) := (Below.refl _ _).alloc (Nat.le_refl _) _
  have oM := own_empty 3 wd (Nat.le_refl _)
  have OM := Lib.hid oM; clear oM
  have hzw : wd.heap.size < (wd.alloc (.cells #[] 3)).heap.size := by simp
  have Hsrc := Lib.hid (Hsrc.out.lies Hi.out hal)
  have Hi := Lib.hid (Hi.out.below hal)
  have S1 := Lib.hid (show Str (wd.alloc (.cells #[] 3)) (w.heap.size) 33 #[.slice a l.length cap, .int .i64 n] from (hal.block _ S1.out.lt).trans S1.out)
  have S2 := Lib.hid (show Str (wd.alloc (.cells #[] 3)) (w.heap.size + 1) 33 #[.slice none 0 0, .int .i64 0] from (hal.block _ S2.out.lt).trans S2.out)
  have hsx := hal.size
  have Hb := Lib.hid (below_step Hb.out Hb.out.size hal)
  refine hK.out _ _ ⟨S1.out.cell 0 (v := .slice a l.length cap) rfl, S1.out.cell 1 (v := .int .i64 n) rfl⟩ (fun hH => ?_)
  clear hK K hal
  try simp only [Act.put, List.setIfInBounds_toArray, List.set_cons_zero, List.set_cons_succ]
  generalize wd.alloc (.cells #[] 3) = w2 at *
  generalize hNB : wd.heap.size = NB at *
  refine callH 3 rfl (by kernel_rfl) rfl (fun K hK => ?_)
  refine op_appI TIl _ _ rfl NB (Value.slice (some ⟨NB, 0, none⟩) 0 0) [] l a cap rfl OM.out rfl Hsrc.out (by simp; omega) (by omega) (fun u w3 ho9 hg9 => ?_)
  rw [List.nil_append] at ho9
  obtain ⟨ua, uc, rfl, _, _⟩ := ho9.ints
  have hs3 := hg9.size
  have hlt9 : ∀ q, (Value.slice (some ⟨NB, 0, none⟩) 0 0).ownBlock = some q → NB ≤ q := fun q e => (OM.out.lt q e).1
  have S1 := Lib.hid (show Str w3 (w.heap.size) 33 #[.slice a l.length cap, .int .i64 n] from S1.out.kept hg9 (fun e => by have := hlt9 _ e.symm; omega))
  have S2 := Lib.hid (show Str w3 (w.heap.size + 1) 33 #[.slice none 0 0, .int .i64 0] from S2.out.kept hg9 (fun e => by have := hlt9 _ e.symm; omega))
  have Hb := Lib.hid (Hb.out.grown hg9 Hb.out.size (fun q e => by have := hlt9 q e; omega))
  have OL := Lib.hid ho9
  clear ho9 hg9 hlt9 OM Hi Hsrc
  refine hK.out _ _ ⟨S1.out.cell 0 (v := .slice a l.length cap) rfl, S1.out.cell 1 (v := .int .i64 n) rfl⟩ (fun hH => ?_)
  clear hK K
  try simp only [Act.put, List.setIfInBounds_toArray, List.set_cons_zero, List.set_cons_succ]
  refine takeH 6 (v := ?vlc5) rfl (by kernel_rfl) (by kernel_rfl) (by kernel_rfl) (fun _ _ _ h => h) hH rfl ?ylc5 ?rlc5
  case ylc5 => intro W hSw; go_simp; try with_reducible rfl
  try simp only [Act.put, List.setIfInBounds_toArray, List.set_cons_zero, List.set_cons_succ]
  refine callH 7 rfl (by kernel_rfl) rfl (fun K hK => ?_)
  have y0 := S2.out.frozen 0
  have y1 := S2.out.frozen 1
  have v0 := S2.out.cell 0 (v := .slice none 0 0) rfl
  have v1 := S2.out.cell 1 (v := .int .i64 0) rfl
  go_simp
  clear y0 y1 v0 v1
  have hne : (Value.slice ua l.length uc).ownBlock ≠ some (w.heap.size + 1) := fun e => by have := (OL.out.lt _ e).1; omega
  have sF := (S2.out.set 0 (.slice ua l.length uc)).set 1 (.int .i64 n)
  have SF := Lib.hid sF; clear sF
  have S1 := Lib.hid ((S1.out.other (B' := w.heap.size + 1) (by omega) 0 (.slice ua l.length uc)).other (B' := w.heap.size + 1) (by omega) 1 (.int .i64 n))
  have OL := Lib.hid ((OL.out.set_other hne 0 (.slice ua l.length uc)).set_other hne 1 (.int .i64 n))
  have Hb := Lib.hid ((Hb.out.setCell (p := ⟨w.heap.size + 1, 0, none⟩) (by simp only; omega) (.slice ua l.length uc)).setCell (p := ⟨w.heap.size + 1, 1, none⟩) (by simp only; omega) (.int .i64 n))
  refine hK.out _ _ ⟨S1.out.cell 0 rfl, S1.out.cell 1 rfl⟩ (fun hH => ?_)
  clear hK K hne
  try simp only [Act.put, List.setIfInBounds_toArray, List.set_cons_zero, List.set_cons_succ]
  generalize ((w3.setCell ⟨w.heap.size + 1, 0, none⟩ (.slice ua l.length uc)).setCell ⟨w.heap.size + 1, 1, none⟩ (.int .i64 n)) = we at *
  refine wpAnyH_done (by kernel_rfl) ?_ _
  try simp only [Act.put]
  clear hH
  have e0 := SF.out.cell 0 (v := .slice ua l.length uc) rfl
  have e1 := SF.out.cell 1 (v := .int .i64 n) rfl
  go_wp2
  refine bodyPost_ret (v := .agg #[.slice ua l.length uc, .int .i64 n]) (by simp [results, Try.f50, go_sem, e0, e1]) rfl ?_
  exact ⟨_, rfl, OL.out.mono (by omega), Hb.out⟩

end Go.Proofs.Ytadgdjjibmofpab

/- The program's ledger made of an argument, its space for fees, the execution of a transaction, and the answer's copy, each by a walk of its text; conditions: the ledger is valid where it says so. -/
namespace Go.Proofs.Ytadgdjjibmofpab
open Go.RowKit

set_option maxHeartbeats 2000000 in
theorem lg_ledgerOf (a : Option Addr) (cap : Nat) (l : List Int) (n : Int) (w : World) (hbig : l.length ≤ 1099511627776) (hl : IntsAt w a l) (hv : ldB l n = true) :
    Calls Try.prog 35 #[.agg #[.slice a l.length cap, .int .i64 n]] w fun e w' => ∃ B, e = .returned (.tuple #[.pointer (some ⟨B, 0, none⟩), .bool true]) ∧ w.heap.size ≤ B ∧ B < w'.heap.size ∧ Lg 66 w' B l n ∧ Below w.heap.size w w' := by
  obtain ⟨-, -, hn0, hn1⟩ := ldB_iff.1 hv
  have hb0 : Below w.heap.size w (w.alloc (.cells #[.slice a l.length cap, .int .i64 n] 33)) := (Below.refl _ _).alloc (Nat.le_refl _) _
  have s1 := Str.new w 33 #[.slice a l.length cap, .int .i64 n]
  have hl0 := hl.below hb0
  have hz : (w.alloc (.cells #[.slice a l.length cap, .int .i64 n] 33)).heap.size = w.heap.size + 1 := by simp
  have k0 := s1.cell 0 (v := .slice a l.length cap) rfl
  have k1 := s1.cell 1 (v := .int .i64 n) rfl
  have S1 := Lib.hid s1; have Hb := Lib.hid hb0; have Hl := Lib.hid hl0; clear s1 hb0 hl0 hl
  have HB := Lib.hid (fun W (h : IntsAt W a l) => lg_balancesOf a cap l W hbig h)
  unfold BoP c6 at HB
  obtain ⟨g0, h0⟩ : ∃ z, z = gd l 0 := ⟨_, rfl⟩
  obtain ⟨g1, h1⟩ : ∃ z, z = gd l 1 := ⟨_, rfl⟩
  obtain ⟨g2, h2⟩ : ∃ z, z = gd l 2 := ⟨_, rfl⟩
  obtain ⟨g3, h3⟩ : ∃ z, z = gd l 3 := ⟨_, rfl⟩
  obtain ⟨g4, h4⟩ : ∃ z, z = gd l 4 := ⟨_, rfl⟩
  obtain ⟨g5, h5⟩ : ∃ z, z = gd l 5 := ⟨_, rfl⟩
  have Hc7 := Lib.hid (show c7 l n = #[.int .i64 g0, .int .i64 g1, .int .i64 g2, .int .i64 g3, .int .i64 g4, .int .i64 g5, .int .i64 n] from by unfold c7; rw [h0, h1, h2, h3, h4, h5])
  rw [← h0, ← h1, ← h2, ← h3, ← h4, ← h5] at HB
  clear h0 h1 h2 h3 h4 h5
  have hld := okB_ld l n
  rw [hv] at hld
  have Hld := Lib.hid hld; clear hld hv
  go_enter Try.func35, Try.ntmps35
  go_wp2_with fail
  generalize (w.alloc (.cells #[.slice a l.length cap, .int .i64 n] 33)) = W0 at *
  refine (HB.out _ Hl.out).mono ?_
  rintro e w1 ⟨⟨h, rfl⟩ | ⟨h, rfl⟩, hb1⟩
  case inr =>
    have h9 := Hld.out
    rw [h] at h9
    cases h9
  clear h Hld
  have hal : Below w1.heap.size w1 (w1.alloc (.cells #[.int .i64 g0, .int .i64 g1, .int .i64 g2, .int .i64 g3, .int .i64 g4, .int .i64 g5] 64)) := (Below.refl _ _).alloc (Nat.le_refl _) _
  have Hb := Lib.hid (below_step (below_step Hb.out Hb.out.size hb1) (Nat.le_trans Hb.out.size hb1.size) hal)
  have S1 := Lib.hid (show Str (w1.alloc (.cells #[.int .i64 g0, .int .i64 g1, .int .i64 g2, .int .i64 g3, .int .i64 g4, .int .i64 g5] 64)) w.heap.size 33 #[.slice a l.length cap, .int .i64 n] from Str.alloc ((hb1.block _ S1.out.lt).trans S1.out) _)
  have S2 := Lib.hid (Str.new w1 64 #[.int .i64 g0, .int .i64 g1, .int .i64 g2, .int .i64 g3, .int .i64 g4, .int .i64 g5])
  clear hal hb1 k0 k1
  have k1 := S1.out.cell 1 (v := .int .i64 n) rfl
  have b0 := S2.out.cell 0 (v := .int .i64 g0) rfl
  have b1 := S2.out.cell 1 (v := .int .i64 g1) rfl
  have b2 := S2.out.cell 2 (v := .int .i64 g2) rfl
  have b3 := S2.out.cell 3 (v := .int .i64 g3) rfl
  have b4 := S2.out.cell 4 (v := .int .i64 g4) rfl
  have b5 := S2.out.cell 5 (v := .int .i64 g5) rfl
  have hex : w.heap.size ≤ w1.heap.size + 1 := by have := Hb.out.size; simp only [World.size_alloc] at this; omega
  have d1 : decide (n < 0) = false := decide_eq_false (by omega)
  have d2 : decide (5994 < n) = false := decide_eq_false (by omega)
  clear S1
  have sN := Str.new (w1.alloc (.cells #[.int .i64 g0, .int .i64 g1, .int .i64 g2, .int .i64 g3, .int .i64 g4, .int .i64 g5] 64)) 66 #[.int .i64 g0, .int .i64 g1, .int .i64 g2, .int .i64 g3, .int .i64 g4, .int .i64 g5, .int .i64 n]
  have bN : Below w.heap.size w ((w1.alloc (.cells #[.int .i64 g0, .int .i64 g1, .int .i64 g2, .int .i64 g3, .int .i64 g4, .int .i64 g5] 64)).alloc (.cells #[.int .i64 g0, .int .i64 g1, .int .i64 g2, .int .i64 g3, .int .i64 g4, .int .i64 g5, .int .i64 n] 66)) := Hb.out.alloc (by simp only [World.size_alloc]; omega) _
  simp only [World.size_alloc] at sN
  have hN : w1.heap.size + 1 < ((w1.alloc (.cells #[.int .i64 g0, .int .i64 g1, .int .i64 g2, .int .i64 g3, .int .i64 g4, .int .i64 g5] 64)).alloc (.cells #[.int .i64 g0, .int .i64 g1, .int .i64 g2, .int .i64 g3, .int .i64 g4, .int .i64 g5, .int .i64 n] 66)).heap.size := sN.lt
  have SN := Lib.hid sN; have BN := Lib.hid bN; have HN := Lib.hid hN; have HX := Lib.hid hex; clear sN bN hN hex
  go_wp2
  refine bodyPost_ret (results_tmp2 rfl _ _ _) rfl ?_
  have h9 := SN.out
  exact ⟨w1.heap.size + 1, rfl, HX.out, HN.out, by show Str _ _ _ (c7 l n); rw [Hc7.out]; exact h9, BN.out⟩

set_option maxHeartbeats 2000000 in
theorem lg_ledgerOf_no (a : Option Addr) (cap : Nat) (l : List Int) (n : Int) (w : World) (hbig : l.length ≤ 1099511627776) (hl : IntsAt w a l) (hv : ldB l n = false) :
    Calls Try.prog 35 #[.agg #[.slice a l.length cap, .int .i64 n]] w fun e w' => e = .returned (.tuple #[.pointer none, .bool false]) ∧ Below w.heap.size w w' := by
  have hb0 : Below w.heap.size w (w.alloc (.cells #[.slice a l.length cap, .int .i64 n] 33)) := (Below.refl _ _).alloc (Nat.le_refl _) _
  have s1 := Str.new w 33 #[.slice a l.length cap, .int .i64 n]
  have hl0 := hl.below hb0
  have hz : (w.alloc (.cells #[.slice a l.length cap, .int .i64 n] 33)).heap.size = w.heap.size + 1 := by simp
  have k0 := s1.cell 0 (v := .slice a l.length cap) rfl
  have k1 := s1.cell 1 (v := .int .i64 n) rfl
  have S1 := Lib.hid s1; have Hb := Lib.hid hb0; have Hl := Lib.hid hl0; clear s1 hb0 hl0 hl
  have HB := Lib.hid (fun W (h : IntsAt W a l) => lg_balancesOf a cap l W hbig h)
  unfold BoP c6 at HB
  obtain ⟨g0, h0⟩ : ∃ z, z = gd l 0 := ⟨_, rfl⟩
  obtain ⟨g1, h1⟩ : ∃ z, z = gd l 1 := ⟨_, rfl⟩
  obtain ⟨g2, h2⟩ : ∃ z, z = gd l 2 := ⟨_, rfl⟩
  obtain ⟨g3, h3⟩ : ∃ z, z = gd l 3 := ⟨_, rfl⟩
  obtain ⟨g4, h4⟩ : ∃ z, z = gd l 4 := ⟨_, rfl⟩
  obtain ⟨g5, h5⟩ : ∃ z, z = gd l 5 := ⟨_, rfl⟩
  have Hc7 := Lib.hid (show c7 l n = #[.int .i64 g0, .int .i64 g1, .int .i64 g2, .int .i64 g3, .int .i64 g4, .int .i64 g5, .int .i64 n] from by unfold c7; rw [h0, h1, h2, h3, h4, h5])
  rw [← h0, ← h1, ← h2, ← h3, ← h4, ← h5] at HB
  clear h0 h1 h2 h3 h4 h5
  have hld := okB_ld l n
  rw [hv] at hld
  have Hld := Lib.hid hld; clear hld hv
  go_enter Try.func35, Try.ntmps35
  go_wp2_with fail
  generalize (w.alloc (.cells #[.slice a l.length cap, .int .i64 n] 33)) = W0 at *
  refine (HB.out _ Hl.out).mono ?_
  rintro e w1 ⟨⟨h, rfl⟩ | ⟨h, rfl⟩, hb1⟩
  case inr =>
    clear h Hld
    have hal : Below w1.heap.size w1 (w1.alloc (.cells #[.int .i64 0, .int .i64 0, .int .i64 0, .int .i64 0, .int .i64 0, .int .i64 0] 64)) := (Below.refl _ _).alloc (Nat.le_refl _) _
    have Hb := Lib.hid (below_step (below_step Hb.out Hb.out.size hb1) (Nat.le_trans Hb.out.size hb1.size) hal)
    have S1 := Lib.hid (show Str (w1.alloc (.cells #[.int .i64 0, .int .i64 0, .int .i64 0, .int .i64 0, .int .i64 0, .int .i64 0] 64)) w.heap.size 33 #[.slice a l.length cap, .int .i64 n] from Str.alloc ((hb1.block _ S1.out.lt).trans S1.out) _)
    have S2 := Lib.hid (Str.new w1 64 #[.int .i64 0, .int .i64 0, .int .i64 0, .int .i64 0, .int .i64 0, .int .i64 0])
    clear hal hb1 k0 k1
    have k1 := S1.out.cell 1 (v := .int .i64 n) rfl
    clear S1 S2
    go_wp2
    refine bodyPost_ret (results_tmp2 rfl _ _ _) rfl ?_
    exact ⟨rfl, Hb.out⟩
  have h9 := Hld.out
  rw [h] at h9
  have hn : ¬ (0 ≤ n ∧ n ≤ 5994) := by
    intro h; rw [decide_eq_true h] at h9; cases h9
  clear h h9 Hld
  have hal : Below w1.heap.size w1 (w1.alloc (.cells #[.int .i64 g0, .int .i64 g1, .int .i64 g2, .int .i64 g3, .int .i64 g4, .int .i64 g5] 64)) := (Below.refl _ _).alloc (Nat.le_refl _) _
  have Hb := Lib.hid (below_step (below_step Hb.out Hb.out.size hb1) (Nat.le_trans Hb.out.size hb1.size) hal)
  have S1 := Lib.hid (show Str (w1.alloc (.cells #[.int .i64 g0, .int .i64 g1, .int .i64 g2, .int .i64 g3, .int .i64 g4, .int .i64 g5] 64)) w.heap.size 33 #[.slice a l.length cap, .int .i64 n] from Str.alloc ((hb1.block _ S1.out.lt).trans S1.out) _)
  have S2 := Lib.hid (Str.new w1 64 #[.int .i64 g0, .int .i64 g1, .int .i64 g2, .int .i64 g3, .int .i64 g4, .int .i64 g5])
  clear hal hb1 k0 k1
  have k1 := S1.out.cell 1 (v := .int .i64 n) rfl
  clear S1 S2
  by_cases h0 : n < 0
  · have d1 : decide (n < 0) = true := decide_eq_true h0
    go_wp2
    refine bodyPost_ret (results_tmp2 rfl _ _ _) rfl ?_
    exact ⟨rfl, Hb.out⟩
  · have d1 : decide (n < 0) = false := decide_eq_false h0
    have d2 : decide (5994 < n) = true := decide_eq_true (by omega)
    have d3 : 5994 < n := by omega
    clear hn
    go_wp2
    refine bodyPost_ret (results_tmp2 rfl _ _ _) rfl ?_
    exact ⟨rfl, Hb.out⟩

theorem lg_hasSpace (B : Nat) (l : List Int) (n m : Int) (w : World) (hn : 0 ≤ n ∧ n ≤ 5994) (hm : 0 ≤ m ∧ m ≤ 100) (hs : Lg 66 w B l n) :
    Calls Try.prog 41 #[.pointer (some ⟨B, 0, none⟩), .int .i64 m] w fun e w' => e = .returned (.bool (decide (n ≤ 5994 - 9 * m))) ∧ w = w' := by
  have c6 := hs.fees
  clear hs
  have hw1 : IntKind.i64.wrap (9 * m) = 9 * m := IntWalk.i64_in _ (by omega)
  have hw2 : IntKind.i64.wrap (n + 9 * m) = n + 9 * m := IntWalk.i64_in _ (by omega)
  have Hd := Lib.hid (show decide (n ≤ 5994 - 9 * m) = decide (n + 9 * m ≤ 5994) from decide_eq_decide.2 (by omega))
  generalize decide (n ≤ 5994 - 9 * m) = bb at *
  clear hn hm
  go_enter Try.func41, Try.ntmps41
  go_wp2
  go_ret
  exact ⟨ret_bool Hd.out.symm, rfl⟩

theorem lg_weak {w W : World} (h : Below w.heap.size w W) (B : Nat) : w.grownBy W (some B) := ⟨h.os, h.tape, h.output, h.size, fun k hk _ => h.block k hk⟩
set_option maxHeartbeats 4000000 in
theorem lg_execute (B : Nat) (l : List Int) (n : Int) (x : Tx) (w : World) (hv : ldB l n = true) (hs : Lg 66 w B l n) :
    Calls Try.prog 42 #[.pointer (some ⟨B, 0, none⟩), agT x] w fun e w' => e = .returned (.bool (okT l x)) ∧ Lg 66 w' B (apL l x) (apF l n x) ∧ w.grownBy w' (some B) := by
  obtain ⟨hv1, hv2, hn0, hn1⟩ := ldB_iff.1 hv
  have Hv := Lib.hid hv; clear hv hv1 hv2
  have hg0 := World.grownBy_alloc w (.cells #[.int .i64 x.f, .int .i64 x.t, .int .i64 x.s, .int .i64 x.e] 25) (some B)
  have s0 := Str.new w 25 #[.int .i64 x.f, .int .i64 x.t, .int .i64 x.s, .int .i64 x.e]
  have s9 : Lg 66 (w.alloc (.cells #[.int .i64 x.f, .int .i64 x.t, .int .i64 x.s, .int .i64 x.e] 25)) B l n := Str.alloc hs _
  have hBw := hs.lt
  have hBne : w.heap.size ≠ B := by omega
  have Hg := Lib.hid hg0; have S0 := Lib.hid s0; have S9 := Lib.hid s9; clear hg0 s0 s9 hs
  have HT := Lib.hid (fun W => lg_valid x W)
  have HA := Lib.hid (fun W (h : txB x = true) (hs : Lg 66 W B l n) => lg_allows B l n x W Hv.out h hs)
  have HM := Lib.hid (fun W (h : okT l x = true) (hs : Lg 66 W B l n) => lg_move B l n x W Hv.out h hs)
  unfold agT at HT HA HM ⊢
  go_enter Try.func42, Try.ntmps42
  go_wp2_with fail
  generalize (w.alloc (.cells #[.int .i64 x.f, .int .i64 x.t, .int .i64 x.s, .int .i64 x.e] 25)) = W0 at *
  refine wp_region_held_drew (S := fun w' => w'.cell? ⟨w.heap.size, 0, none⟩ = some (.int .i64 x.f) ∧ w'.cell? ⟨w.heap.size, 1, none⟩ = some (.int .i64 x.t) ∧ w'.cell? ⟨w.heap.size, 2, none⟩ = some (.int .i64 x.s) ∧ w'.cell? ⟨w.heap.size, 3, none⟩ = some (.int .i64 x.e)) (by kernel_rfl) ⟨S0.out.cell 0 (v := .int .i64 x.f) rfl, S0.out.cell 1 (v := .int .i64 x.t) rfl, S0.out.cell 2 (v := .int .i64 x.s) rfl, S0.out.cell 3 (v := .int .i64 x.e) rfl⟩ (fun hH => ?_)
  have S0 := Lib.hid (show Str W0.drew w.heap.size 25 #[.int .i64 x.f, .int .i64 x.t, .int .i64 x.s, .int .i64 x.e] from S0.out)
  have Hg := Lib.hid (lg_drew Hg.out)
  have S9 := Lib.hid (show Lg 66 W0.drew B l n from S9.out)
  generalize W0.drew = wd at *
  have hbt : txB x = true ∨ txB x = false := by cases txB x <;> simp
  have hbo : okT l x = true ∨ okT l x = false := by cases okT l x <;> simp
  refine takeH 0 (v := ?vex1) rfl (by kernel_rfl) (by kernel_rfl) (by kernel_rfl) (fun _ _ _ h => h) hH rfl ?yex1 ?rex1
  case yex1 => intro W hSw; go_simp; try with_reducible rfl
  try simp only [Act.put, List.setIfInBounds_toArray, List.set_cons_zero, List.set_cons_succ]
  rcases hbt with hbt | hbt
  case inr =>
    have h9 := HT.out
    rw [hbt] at h9
    have HT := Lib.hid h9; clear h9
    have Hno := Lib.hid (show okT l x = false by unfold okT; rw [hbt]; rfl)
    clear hbt hbo HA HM
    refine callH 1 rfl (by kernel_rfl) rfl (fun K hK => ?_)
    go_simp
    refine (HT.out _).mono ?_
    rintro e w5 ⟨rfl, hb⟩
    have S0 := Lib.hid (show Str w5 w.heap.size 25 #[.int .i64 x.f, .int .i64 x.t, .int .i64 x.s, .int .i64 x.e] from (hb.block _ S0.out.lt).trans S0.out)
    have S9 := Lib.hid (show Lg 66 w5 B l n from (hb.block _ S9.out.lt).trans S9.out)
    have Hg := Lib.hid (grownBy_trans Hg.out (lg_weak hb B))
    clear hb
    refine hK.out _ _ ⟨S0.out.cell 0 (v := .int .i64 x.f) rfl, S0.out.cell 1 (v := .int .i64 x.t) rfl, S0.out.cell 2 (v := .int .i64 x.s) rfl, S0.out.cell 3 (v := .int .i64 x.e) rfl⟩ (fun hH => ?_)
    clear hK K
    try simp only [Act.put, List.setIfInBounds_toArray, List.set_cons_zero, List.set_cons_succ]
    refine takeH 2 (v := ?vex2) rfl (by kernel_rfl) (by kernel_rfl) (by kernel_rfl) (fun _ _ _ h => h) hH rfl ?yex2 ?rex2
    case yex2 => intro W hSw; go_simp; try with_reducible rfl
    try simp only [Act.put, List.setIfInBounds_toArray, List.set_cons_zero, List.set_cons_succ]
    refine takeH 3 (v := ?vex3) rfl (by kernel_rfl) (by kernel_rfl) (by kernel_rfl) (fun _ _ _ h => h) hH rfl ?yex3 ?rex3
    case yex3 => intro W hSw; go_simp; try with_reducible rfl
    try simp only [Act.put, List.setIfInBounds_toArray, List.set_cons_zero, List.set_cons_succ]
    refine skipH 4 rfl (by kernel_rfl) (by kernel_rfl) (by kernel_rfl) (fun _ _ _ h => h) hH rfl ?_
    try simp only [Act.put, List.setIfInBounds_toArray, List.set_cons_zero, List.set_cons_succ]
    refine skipH 5 rfl (by kernel_rfl) (by kernel_rfl) (by kernel_rfl) (fun _ _ _ h => h) hH rfl ?_
    try simp only [Act.put, List.setIfInBounds_toArray, List.set_cons_zero, List.set_cons_succ]
    refine skipH 6 rfl (by kernel_rfl) (by kernel_rfl) (by kernel_rfl) (fun _ _ _ h => h) hH rfl ?_
    try simp only [Act.put, List.setIfInBounds_toArray, List.set_cons_zero, List.set_cons_succ]
    refine skipH 7 rfl (by kernel_rfl) (by kernel_rfl) (by kernel_rfl) (fun _ _ _ h => h) hH rfl ?_
    try simp only [Act.put, List.setIfInBounds_toArray, List.set_cons_zero, List.set_cons_succ]
    refine skipH 8 rfl (by kernel_rfl) (by kernel_rfl) (by kernel_rfl) (fun _ _ _ h => h) hH rfl ?_
    try simp only [Act.put, List.setIfInBounds_toArray, List.set_cons_zero, List.set_cons_succ]
    refine skipH 9 rfl (by kernel_rfl) (by kernel_rfl) (by kernel_rfl) (fun _ _ _ h => h) hH rfl ?_
    try simp only [Act.put, List.setIfInBounds_toArray, List.set_cons_zero, List.set_cons_succ]
    refine takeH 10 (v := ?vex4) rfl (by kernel_rfl) (by kernel_rfl) (by kernel_rfl) (fun _ _ _ h => h) hH rfl ?yex4 ?rex4
    case yex4 => intro W hSw; go_simp; try with_reducible rfl
    try simp only [Act.put, List.setIfInBounds_toArray, List.set_cons_zero, List.set_cons_succ]
    refine wpAnyH_done (by kernel_rfl) ?_ _
    try simp only [Act.put]
    clear hH
    have S9 := Lib.hid (show Lg 66 w5 B (apL l x) (apF l n x) from by rw [(ap_no (n := n) Hno.out).1, (ap_no (l := l) (n := n) Hno.out).2]; exact S9.out)
    go_wp2
    go_ret
    exact ⟨ret_bool Hno.out.symm, S9.out, Hg.out⟩
  have h9 := HT.out
  rw [hbt] at h9
  have HT := Lib.hid h9; clear h9
  have Hbt := Lib.hid hbt; clear hbt
  refine callH 1 rfl (by kernel_rfl) rfl (fun K hK => ?_)
  go_simp
  refine (HT.out _).mono ?_
  rintro e w4 ⟨rfl, hb⟩
  have S0 := Lib.hid (show Str w4 w.heap.size 25 #[.int .i64 x.f, .int .i64 x.t, .int .i64 x.s, .int .i64 x.e] from (hb.block _ S0.out.lt).trans S0.out)
  have S9 := Lib.hid (show Lg 66 w4 B l n from (hb.block _ S9.out.lt).trans S9.out)
  have Hg := Lib.hid (grownBy_trans Hg.out (lg_weak hb B))
  clear hb
  refine hK.out _ _ ⟨S0.out.cell 0 (v := .int .i64 x.f) rfl, S0.out.cell 1 (v := .int .i64 x.t) rfl, S0.out.cell 2 (v := .int .i64 x.s) rfl, S0.out.cell 3 (v := .int .i64 x.e) rfl⟩ (fun hH => ?_)
  clear hK K
  try simp only [Act.put, List.setIfInBounds_toArray, List.set_cons_zero, List.set_cons_succ]
  refine takeH 2 (v := ?vex5) rfl (by kernel_rfl) (by kernel_rfl) (by kernel_rfl) (fun _ _ _ h => h) hH rfl ?yex5 ?rex5
  case yex5 => intro W hSw; go_simp; try with_reducible rfl
  try simp only [Act.put, List.setIfInBounds_toArray, List.set_cons_zero, List.set_cons_succ]
  refine takeH 3 (v := ?vex6) rfl (by kernel_rfl) (by kernel_rfl) (by kernel_rfl) (fun _ _ _ h => h) hH rfl ?yex6 ?rex6
  case yex6 => intro W hSw; go_simp; try with_reducible rfl
  try simp only [Act.put, List.setIfInBounds_toArray, List.set_cons_zero, List.set_cons_succ]
  refine takeH 4 (v := ?vex7) rfl (by kernel_rfl) (by kernel_rfl) (by kernel_rfl) (fun _ _ _ h => h) hH rfl ?yex7 ?rex7
  case yex7 => intro W hSw; go_simp; try with_reducible rfl
  try simp only [Act.put, List.setIfInBounds_toArray, List.set_cons_zero, List.set_cons_succ]
  refine takeH 5 (v := ?vex8) rfl (by kernel_rfl) (by kernel_rfl) (by kernel_rfl) (fun _ _ _ h => h) hH rfl ?yex8 ?rex8
  case yex8 => intro W hSw; go_simp; try with_reducible rfl
  try simp only [Act.put, List.setIfInBounds_toArray, List.set_cons_zero, List.set_cons_succ]
  refine takeH 6 (v := ?vex9) rfl (by kernel_rfl) (by kernel_rfl) (by kernel_rfl) (fun _ _ _ h => h) hH rfl ?yex9 ?rex9
  case yex9 => intro W hSw; go_simp; try with_reducible rfl
  try simp only [Act.put, List.setIfInBounds_toArray, List.set_cons_zero, List.set_cons_succ]
  refine takeH 7 (v := ?vex10) rfl (by kernel_rfl) (by kernel_rfl) (by kernel_rfl) (fun _ _ _ h => h) hH rfl ?yex10 ?rex10
  case yex10 => intro W hSw; go_simp; try with_reducible rfl
  try simp only [Act.put, List.setIfInBounds_toArray, List.set_cons_zero, List.set_cons_succ]
  rcases hbo with hbo | hbo
  case inr =>
    have h9 := fun W => HA.out W Hbt.out
    rw [hbo] at h9
    have HA := Lib.hid h9; clear h9
    have Hno := Lib.hid hbo
    clear hbo HM
    refine callH 8 rfl (by kernel_rfl) rfl (fun K hK => ?_)
    go_simp
    refine (HA.out _ S9.out).mono ?_
    rintro e w5 ⟨rfl, hb⟩
    have S0 := Lib.hid (show Str w5 w.heap.size 25 #[.int .i64 x.f, .int .i64 x.t, .int .i64 x.s, .int .i64 x.e] from (hb.block _ S0.out.lt).trans S0.out)
    have S9 := Lib.hid (show Lg 66 w5 B l n from (hb.block _ S9.out.lt).trans S9.out)
    have Hg := Lib.hid (grownBy_trans Hg.out (lg_weak hb B))
    clear hb
    refine hK.out _ _ ⟨S0.out.cell 0 (v := .int .i64 x.f) rfl, S0.out.cell 1 (v := .int .i64 x.t) rfl, S0.out.cell 2 (v := .int .i64 x.s) rfl, S0.out.cell 3 (v := .int .i64 x.e) rfl⟩ (fun hH => ?_)
    clear hK K
    try simp only [Act.put, List.setIfInBounds_toArray, List.set_cons_zero, List.set_cons_succ]
    refine takeH 9 (v := ?vex11) rfl (by kernel_rfl) (by kernel_rfl) (by kernel_rfl) (fun _ _ _ h => h) hH rfl ?yex11 ?rex11
    case yex11 => intro W hSw; go_simp; try with_reducible rfl
    try simp only [Act.put, List.setIfInBounds_toArray, List.set_cons_zero, List.set_cons_succ]
    refine takeH 10 (v := ?vex12) rfl (by kernel_rfl) (by kernel_rfl) (by kernel_rfl) (fun _ _ _ h => h) hH rfl ?yex12 ?rex12
    case yex12 => intro W hSw; go_simp; try with_reducible rfl
    try simp only [Act.put, List.setIfInBounds_toArray, List.set_cons_zero, List.set_cons_succ]
    refine wpAnyH_done (by kernel_rfl) ?_ _
    try simp only [Act.put]
    clear hH
    have S9 := Lib.hid (show Lg 66 w5 B (apL l x) (apF l n x) from by rw [(ap_no (n := n) Hno.out).1, (ap_no (l := l) (n := n) Hno.out).2]; exact S9.out)
    go_wp2
    go_ret
    exact ⟨ret_bool Hno.out.symm, S9.out, Hg.out⟩
  have h9 := fun W => HA.out W Hbt.out
  rw [hbo] at h9
  have HA := Lib.hid h9; clear h9
  have Hyes := Lib.hid hbo
  clear hbo
  refine callH 8 rfl (by kernel_rfl) rfl (fun K hK => ?_)
  go_simp
  refine (HA.out _ S9.out).mono ?_
  rintro e w5 ⟨rfl, hb⟩
  have S0 := Lib.hid (show Str w5 w.heap.size 25 #[.int .i64 x.f, .int .i64 x.t, .int .i64 x.s, .int .i64 x.e] from (hb.block _ S0.out.lt).trans S0.out)
  have S9 := Lib.hid (show Lg 66 w5 B l n from (hb.block _ S9.out.lt).trans S9.out)
  have Hg := Lib.hid (grownBy_trans Hg.out (lg_weak hb B))
  clear hb
  refine hK.out _ _ ⟨S0.out.cell 0 (v := .int .i64 x.f) rfl, S0.out.cell 1 (v := .int .i64 x.t) rfl, S0.out.cell 2 (v := .int .i64 x.s) rfl, S0.out.cell 3 (v := .int .i64 x.e) rfl⟩ (fun hH => ?_)
  clear hK K
  try simp only [Act.put, List.setIfInBounds_toArray, List.set_cons_zero, List.set_cons_succ]
  refine takeH 9 (v := ?vex13) rfl (by kernel_rfl) (by kernel_rfl) (by kernel_rfl) (fun _ _ _ h => h) hH rfl ?yex13 ?rex13
  case yex13 => intro W hSw; go_simp; try with_reducible rfl
  try simp only [Act.put, List.setIfInBounds_toArray, List.set_cons_zero, List.set_cons_succ]
  refine takeH 10 (v := ?vex14) rfl (by kernel_rfl) (by kernel_rfl) (by kernel_rfl) (fun _ _ _ h => h) hH rfl ?yex14 ?rex14
  case yex14 => intro W hSw; go_simp; try with_reducible rfl
  try simp only [Act.put, List.setIfInBounds_toArray, List.set_cons_zero, List.set_cons_succ]
  refine wpAnyH_done (by kernel_rfl) ?_ _
  try simp only [Act.put]
  clear hH
  go_wp2_with fail
  refine wp_region_held_drew (S := fun w' => w'.cell? ⟨w.heap.size, 0, none⟩ = some (.int .i64 x.f) ∧ w'.cell? ⟨w.heap.size, 1, none⟩ = some (.int .i64 x.t) ∧ w'.cell? ⟨w.heap.size, 2, none⟩ = some (.int .i64 x.s) ∧ w'.cell? ⟨w.heap.size, 3, none⟩ = some (.int .i64 x.e)) (by kernel_rfl) ⟨S0.out.cell 0 (v := .int .i64 x.f) rfl, S0.out.cell 1 (v := .int .i64 x.t) rfl, S0.out.cell 2 (v := .int .i64 x.s) rfl, S0.out.cell 3 (v := .int .i64 x.e) rfl⟩ (fun hH => ?_)
  have S0 := Lib.hid (show Str w5.drew w.heap.size 25 #[.int .i64 x.f, .int .i64 x.t, .int .i64 x.s, .int .i64 x.e] from S0.out)
  have Hg := Lib.hid (lg_drew Hg.out)
  have S9 := Lib.hid (show Lg 66 w5.drew B l n from S9.out)
  generalize w5.drew = w6 at *
  refine takeH 0 (v := ?vex15) rfl (by kernel_rfl) (by kernel_rfl) (by kernel_rfl) (fun _ _ _ h => h) hH rfl ?yex15 ?rex15
  case yex15 => intro W hSw; go_simp; try with_reducible rfl
  try simp only [Act.put, List.setIfInBounds_toArray, List.set_cons_zero, List.set_cons_succ]
  refine takeH 1 (v := ?vex16) rfl (by kernel_rfl) (by kernel_rfl) (by kernel_rfl) (fun _ _ _ h => h) hH rfl ?yex16 ?rex16
  case yex16 => intro W hSw; go_simp; try with_reducible rfl
  try simp only [Act.put, List.setIfInBounds_toArray, List.set_cons_zero, List.set_cons_succ]
  refine takeH 2 (v := ?vex17) rfl (by kernel_rfl) (by kernel_rfl) (by kernel_rfl) (fun _ _ _ h => h) hH rfl ?yex17 ?rex17
  case yex17 => intro W hSw; go_simp; try with_reducible rfl
  try simp only [Act.put, List.setIfInBounds_toArray, List.set_cons_zero, List.set_cons_succ]
  refine takeH 3 (v := ?vex18) rfl (by kernel_rfl) (by kernel_rfl) (by kernel_rfl) (fun _ _ _ h => h) hH rfl ?yex18 ?rex18
  case yex18 => intro W hSw; go_simp; try with_reducible rfl
  try simp only [Act.put, List.setIfInBounds_toArray, List.set_cons_zero, List.set_cons_succ]
  refine callH 4 rfl (by kernel_rfl) rfl (fun K hK => ?_)
  go_simp
  refine (HM.out _ Hyes.out S9.out).mono ?_
  rintro e w7 ⟨rfl, s9, hg⟩
  have S0 := Lib.hid (show Str w7 w.heap.size 25 #[.int .i64 x.f, .int .i64 x.t, .int .i64 x.s, .int .i64 x.e] from S0.out.kept hg (by simp; omega))
  have S9 := Lib.hid s9
  have Hg := Lib.hid (grownBy_trans Hg.out hg)
  clear hg s9
  refine hK.out _ _ ⟨S0.out.cell 0 (v := .int .i64 x.f) rfl, S0.out.cell 1 (v := .int .i64 x.t) rfl, S0.out.cell 2 (v := .int .i64 x.s) rfl, S0.out.cell 3 (v := .int .i64 x.e) rfl⟩ (fun hH => ?_)
  clear hK K
  try simp only [Act.put, List.setIfInBounds_toArray, List.set_cons_zero, List.set_cons_succ]
  refine wpAnyH_done (by kernel_rfl) ?_ _
  try simp only [Act.put]
  clear hH
  have hx9 := (txB_iff.1 Hbt.out).2.2.2.2
  have hw9 : IntKind.i64.wrap (n + x.e) = n + x.e := IntWalk.i64_in _ (by omega)
  clear hx9
  go_wp2_with fail
  refine wp_region_L 9 (fun w' => w'.cell? ⟨w.heap.size, 0, none⟩ = some (.int .i64 x.f) ∧ w'.cell? ⟨w.heap.size, 1, none⟩ = some (.int .i64 x.t) ∧ w'.cell? ⟨w.heap.size, 2, none⟩ = some (.int .i64 x.s) ∧ w'.cell? ⟨w.heap.size, 3, none⟩ = some (.int .i64 x.e) ∧ w'.cell? ⟨B, 6, none⟩ = some (.int .i64 n)) (by kernel_rfl) ⟨S0.out.cell 0 (v := .int .i64 x.f) rfl, S0.out.cell 1 (v := .int .i64 x.t) rfl, S0.out.cell 2 (v := .int .i64 x.s) rfl, S0.out.cell 3 (v := .int .i64 x.e) rfl, S9.out.fees⟩ (fun hH => ?_)
  have S0 := Lib.hid (show Str w7.drew w.heap.size 25 #[.int .i64 x.f, .int .i64 x.t, .int .i64 x.s, .int .i64 x.e] from S0.out)
  have Hg := Lib.hid (lg_drew Hg.out)
  have S9 := Lib.hid (show Lg 66 w7.drew B (apL l x) n from S9.out)
  generalize w7.drew = w8 at *
  refine takeL 0 (v := ?vex19) rfl (by kernel_rfl) (by kernel_rfl) (by kernel_rfl) (by kernel_rfl) (by kernel_rfl) (fun _ _ _ h => h) hH rfl ?yex19 ?rex19
  case yex19 => intro W hSw; go_simp; try with_reducible rfl
  try simp only [Act.put, List.setIfInBounds_toArray, List.set_cons_zero, List.set_cons_succ]
  refine takeL 1 (v := ?vex20) rfl (by kernel_rfl) (by kernel_rfl) (by kernel_rfl) (by kernel_rfl) (by kernel_rfl) (fun _ _ _ h => h) hH rfl ?yex20 ?rex20
  case yex20 => intro W hSw; go_simp; try with_reducible rfl
  try simp only [Act.put, List.setIfInBounds_toArray, List.set_cons_zero, List.set_cons_succ]
  refine takeL 2 (v := ?vex21) rfl (by kernel_rfl) (by kernel_rfl) (by kernel_rfl) (by kernel_rfl) (by kernel_rfl) (fun _ _ _ h => h) hH rfl ?yex21 ?rex21
  case yex21 => intro W hSw; go_simp; try with_reducible rfl
  try simp only [Act.put, List.setIfInBounds_toArray, List.set_cons_zero, List.set_cons_succ]
  refine takeL 3 (v := ?vex22) rfl (by kernel_rfl) (by kernel_rfl) (by kernel_rfl) (by kernel_rfl) (by kernel_rfl) (fun _ _ _ h => h) hH rfl ?yex22 ?rex22
  case yex22 => intro W hSw; go_simp; try with_reducible rfl
  try simp only [Act.put, List.setIfInBounds_toArray, List.set_cons_zero, List.set_cons_succ]
  refine takeL 4 (v := ?vex23) rfl (by kernel_rfl) (by kernel_rfl) (by kernel_rfl) (by kernel_rfl) (by kernel_rfl) (fun _ _ _ h => h) hH rfl ?yex23 ?rex23
  case yex23 => intro W hSw; go_simp; try with_reducible rfl
  try simp only [Act.put, List.setIfInBounds_toArray, List.set_cons_zero, List.set_cons_succ]
  refine takeL 5 (v := ?vex24) rfl (by kernel_rfl) (by kernel_rfl) (by kernel_rfl) (by kernel_rfl) (by kernel_rfl) (fun _ _ _ h => h) hH rfl ?yex24 ?rex24
  case yex24 => intro W hSw; go_simp; try with_reducible rfl
  try simp only [Act.put, List.setIfInBounds_toArray, List.set_cons_zero, List.set_cons_succ]
  refine takeL 6 (v := .int .i64 (n + x.e)) rfl (by kernel_rfl) (by kernel_rfl) (by kernel_rfl) (by kernel_rfl) (by kernel_rfl) (fun _ _ _ h => h) hH rfl ?yex25 ?rex25
  case yex25 => intro W hSw; go_simp; first | done | (simp [hw9])
  try simp only [Act.put, List.setIfInBounds_toArray, List.set_cons_zero, List.set_cons_succ]
  refine callL 7 rfl (by kernel_rfl) rfl (fun K hK => ?_)
  go_simp
  refine hK.out _ _ ⟨S0.out.cell 0 (v := .int .i64 x.f) rfl, S0.out.cell 1 (v := .int .i64 x.t) rfl, S0.out.cell 2 (v := .int .i64 x.s) rfl, S0.out.cell 3 (v := .int .i64 x.e) rfl, S9.out.fees⟩ (fun hH => ?_)
  clear hK K
  try simp only [Act.put, List.setIfInBounds_toArray, List.set_cons_zero, List.set_cons_succ]
  refine takeL 8 (v := ?vex26) rfl (by kernel_rfl) (by kernel_rfl) (by kernel_rfl) (by kernel_rfl) (by kernel_rfl) (fun _ _ _ h => h) hH rfl ?yex26 ?rex26
  case yex26 => intro W hSw; go_simp; try with_reducible rfl
  try simp only [Act.put, List.setIfInBounds_toArray, List.set_cons_zero, List.set_cons_succ]
  refine lastL rfl (by kernel_rfl) (by kernel_rfl) (by kernel_rfl) rfl (fun K hK => ?_)
  have y9 := S9.out.frozen 6
  have q9 := S9.out.fees
  go_simp
  clear y9 q9
  have S9 := Lib.hid (S9.out.setf (n + x.e))
  have Hg := Lib.hid (grownBy_trans Hg.out (grownBy_set w8 B 6 (.int .i64 (n + x.e))))
  refine hK.out _ _ ?_
  clear hK K hH
  try simp only [Act.put]
  generalize (w8.setCell ⟨B, 6, none⟩ (.int .i64 (n + x.e))) = W9 at *
  have S9 := Lib.hid (show Lg 66 W9 B (apL l x) (apF l n x) from by rw [(ap_yes (l := l) (n := n) Hyes.out).2]; exact S9.out)
  go_wp2
  go_ret
  exact ⟨ret_bool Hyes.out.symm, S9.out, Hg.out⟩

set_option maxHeartbeats 2000000 in
theorem lg_copied (B : Nat) (l : List Int) (n : Int) (w : World) (h6 : l.length = 6) (hs : Lg 66 w B l n) :
    Calls Try.prog 43 #[.pointer (some ⟨B, 0, none⟩)] w fun e w' => ∃ v, e = .returned (.agg #[v, .int .i64 n]) ∧ Own 3 w' w.heap.size v l ∧ Below w.heap.size w w' := by
  have hb0 : Below w.heap.size w (w.alloc (.cells #[.slice none 0 0, .int .i64 0] 33)) := (Below.refl _ _).alloc (Nat.le_refl _) _
  have s1 := Str.new w 33 #[.slice none 0 0, .int .i64 0]
  have s9 : Lg 66 (w.alloc (.cells #[.slice none 0 0, .int .i64 0] 33)) B l n := Str.alloc hs _
  have hz : (w.alloc (.cells #[.slice none 0 0, .int .i64 0] 33)).heap.size = w.heap.size + 1 := by simp
  have hBw := hs.lt
  have hBne : w.heap.size ≠ B := by omega
  have S1 := Lib.hid s1; have S9 := Lib.hid s9; have Hb := Lib.hid hb0; have H6 := Lib.hid h6; clear s1 s9 hb0 hs
  have hC := fun W (h : Lg 66 W B l n) => lib_Clone TIl (some ⟨B, 0, none⟩) 6 l W (by omega) (.inr ⟨_, rfl, fun j hj => by rw [addr_add, ← gd_at hj]; exact h.at (by omega)⟩) (.inr ⟨B, 0, rfl, h.lt, fun j hj => by rw [Nat.zero_add, ← gd_at hj]; exact h.at (by omega)⟩)
  rw [h6] at hC
  have HC := Lib.hid hC; clear hC h6
  go_enter Try.func43, Try.ntmps43
  go_wp2_with fail
  generalize (w.alloc (.cells #[.slice none 0 0, .int .i64 0] 33)) = W0 at *
  refine wp_region_held_drew (S := fun w' => w'.cell? ⟨B, 6, none⟩ = some (.int .i64 n)) (by kernel_rfl) S9.out.fees (fun hH => ?_)
  have S1 := Lib.hid (show Str W0.drew w.heap.size 33 #[.slice none 0 0, .int .i64 0] from S1.out)
  have S9 := Lib.hid (show Lg 66 W0.drew B l n from S9.out)
  have Hb := Lib.hid Hb.out.drew
  have hzd : W0.drew.heap.size = w.heap.size + 1 := hz
  generalize W0.drew = wd at *
  refine takeH 0 (v := ?vcp1) rfl (by kernel_rfl) (by kernel_rfl) (by kernel_rfl) (fun _ _ _ h => h) hH rfl ?ycp1 ?rcp1
  case ycp1 => intro W hSw; go_simp; try with_reducible rfl
  try simp only [Act.put, List.setIfInBounds_toArray, List.set_cons_zero, List.set_cons_succ]
  refine takeH 1 (v := ?vcp2) rfl (by kernel_rfl) (by kernel_rfl) (by kernel_rfl) (fun _ _ _ h => h) hH rfl ?ycp2 ?rcp2
  case ycp2 => intro W hSw; go_simp; try with_reducible rfl
  try simp only [Act.put, List.setIfInBounds_toArray, List.set_cons_zero, List.set_cons_succ]
  refine takeH 2 (v := ?vcp3) rfl (by kernel_rfl) (by kernel_rfl) (by kernel_rfl) (fun _ _ _ h => h) hH rfl ?ycp3 ?rcp3
  case ycp3 => intro W hSw; go_simp; try with_reducible rfl
  try simp only [Act.put, List.setIfInBounds_toArray, List.set_cons_zero, List.set_cons_succ]
  refine takeH 3 (v := ?vcp4) rfl (by kernel_rfl) (by kernel_rfl) (by kernel_rfl) (fun _ _ _ h => h) hH rfl ?ycp4 ?rcp4
  case ycp4 => intro W hSw; go_simp; try with_reducible rfl
  try simp only [Act.put, List.setIfInBounds_toArray, List.set_cons_zero, List.set_cons_succ]
  refine takeH 5 (v := ?vcp5) rfl (by kernel_rfl) (by kernel_rfl) (by kernel_rfl) (fun _ _ _ h => h) hH rfl ?ycp5 ?rcp5
  case ycp5 => intro W hSw; go_simp; try with_reducible rfl
  try simp only [Act.put, List.setIfInBounds_toArray, List.set_cons_zero, List.set_cons_succ]
  refine takeH 6 (v := ?vcp6) rfl (by kernel_rfl) (by kernel_rfl) (by kernel_rfl) (fun _ _ _ h => h) hH rfl ?ycp6 ?rcp6
  case ycp6 => intro W hSw; go_simp; try with_reducible rfl
  try simp only [Act.put, List.setIfInBounds_toArray, List.set_cons_zero, List.set_cons_succ]
  refine takeH 7 (v := ?vcp7) rfl (by kernel_rfl) (by kernel_rfl) (by kernel_rfl) (fun _ _ _ h => h) hH rfl ?ycp7 ?rcp7
  case ycp7 => intro W hSw; go_simp; try with_reducible rfl
  try simp only [Act.put, List.setIfInBounds_toArray, List.set_cons_zero, List.set_cons_succ]
  refine takeH 8 (v := ?vcp8) rfl (by kernel_rfl) (by kernel_rfl) (by kernel_rfl) (fun _ _ _ h => h) hH rfl ?ycp8 ?rcp8
  case ycp8 => intro W hSw; go_simp; try with_reducible rfl
  try simp only [Act.put, List.setIfInBounds_toArray, List.set_cons_zero, List.set_cons_succ]
  refine callH 4 rfl (by kernel_rfl) rfl (fun K hK => ?_)
  go_simp
  refine (HC.out _ S9.out).mono ?_
  rintro e w5 ⟨v, rfl, ho, hb⟩
  have S1 := Lib.hid (show Str w5 w.heap.size 33 #[.slice none 0 0, .int .i64 0] from (hb.block _ S1.out.lt).trans S1.out)
  have S9 := Lib.hid (show Lg 66 w5 B l n from (hb.block _ S9.out.lt).trans S9.out)
  have Hb := Lib.hid (below_step Hb.out Hb.out.size hb)
  have OL := Lib.hid ho
  obtain ⟨va, vc, rfl, _, _⟩ := ho.ints
  skip
  clear hb ho
  refine hK.out _ _ S9.out.fees (fun hH => ?_)
  clear hK K
  try simp only [Act.put, List.setIfInBounds_toArray, List.set_cons_zero, List.set_cons_succ]
  refine takeH 9 (v := ?vcp9) rfl (by kernel_rfl) (by kernel_rfl) (by kernel_rfl) (fun _ _ _ h => h) hH rfl ?ycp9 ?rcp9
  case ycp9 => intro W hSw; go_simp; try with_reducible rfl
  try simp only [Act.put, List.setIfInBounds_toArray, List.set_cons_zero, List.set_cons_succ]
  refine callH 10 rfl (by kernel_rfl) rfl (fun K hK => ?_)
  have y0 := S1.out.frozen 0
  have y1 := S1.out.frozen 1
  have v0 := S1.out.cell 0 (v := .slice none 0 0) rfl
  have v1 := S1.out.cell 1 (v := .int .i64 0) rfl
  go_simp
  clear y0 y1 v0 v1
  have hne : (Value.slice va l.length vc).ownBlock ≠ some w.heap.size := fun e => by have := (OL.out.lt _ e).1; omega
  have SF := Lib.hid ((S1.out.set 0 (.slice va l.length vc)).set 1 (.int .i64 n))
  have S9 := Lib.hid ((S9.out.other (B' := w.heap.size) (by omega) 0 (.slice va l.length vc)).other (B' := w.heap.size) (by omega) 1 (.int .i64 n))
  have OL := Lib.hid ((OL.out.set_other hne 0 (.slice va l.length vc)).set_other hne 1 (.int .i64 n))
  have Hb := Lib.hid ((Hb.out.setCell (p := ⟨w.heap.size, 0, none⟩) (Nat.le_refl _) (.slice va l.length vc)).setCell (p := ⟨w.heap.size, 1, none⟩) (Nat.le_refl _) (.int .i64 n))
  refine hK.out _ _ (Str.cell S9.out 6 rfl) (fun hH => ?_)
  clear hK K hne
  try simp only [Act.put, List.setIfInBounds_toArray, List.set_cons_zero, List.set_cons_succ]
  generalize ((w5.setCell ⟨w.heap.size, 0, none⟩ (.slice va l.length vc)).setCell ⟨w.heap.size, 1, none⟩ (.int .i64 n)) = we at *
  refine wpAnyH_done (by kernel_rfl) ?_ _
  try simp only [Act.put]
  clear hH
  have e0 := SF.out.cell 0 (v := .slice va l.length vc) rfl
  have e1 := SF.out.cell 1 (v := .int .i64 n) rfl
  go_wp2
  refine bodyPost_ret (v := .agg #[.slice va l.length vc, .int .i64 n]) (by simp [results, Try.f43, go_sem, e0, e1]) rfl ?_
  exact ⟨_, rfl, OL.out.mono (by omega), Hb.out⟩

end Go.Proofs.Ytadgdjjibmofpab

/- The reference's LedgerTotal, by a walk of its text; condition: the list is shorter than 2^40. -/
namespace Go.Proofs.Ytadgdjjibmofpab
open Go.RowKit

set_option maxHeartbeats 1000000 in
theorem spec_LedgerTotal (a : Option Addr) (cap : Nat) (l : List Int) (n : Int) (w : World) (hbig : l.length ≤ 1099511627776) (hl : IntsAt w a l) :
    Calls Try.prog 16 #[.agg #[.slice a l.length cap, .int .i64 n]] w fun e w' => e = .returned (.int .i64 (totZ l n)) ∧ Below w.heap.size w w' := by
  have hb0 : Below w.heap.size w (w.alloc (.cells #[.slice a l.length cap, .int .i64 n] 33)) := (Below.refl _ _).alloc (Nat.le_refl _) _
  have s0 := Str.new w 33 #[.slice a l.length cap, .int .i64 n]
  have k0 := s0.cell 0 (v := .slice a l.length cap) rfl
  have k1 := s0.cell 1 (v := .int .i64 n) rfl
  have Hl := Lib.hid (hl.below hb0); clear hl
  have Hb0 := Lib.hid hb0; clear hb0
  have Hs := Lib.hid s0; clear s0
  have hV := fun W (h : IntsAt W a l) => spec_LedgerValid a cap l n W hbig h
  go_enter Try.func16, Try.ntmps16
  cases hB : ldB l n with
  | false =>
    rw [hB] at hV
    have HV := Lib.hid hV; clear hV
    have Ht := Lib.hid (show totZ l n = -1 from by unfold totZ; rw [hB]; rfl); clear hB
    go_wp2_with fail
    generalize w.alloc (.cells #[.slice a l.length cap, .int .i64 n] 33) = W0 at *
    refine (HV.out W0 Hl.out).mono ?_
    rintro e w1 ⟨rfl, hb1⟩
    have Hb1 := Lib.hid (below_step Hb0.out Hb0.out.size hb1)
    clear hb1 k0 k1
    go_wp2
    go_ret
    exact ⟨ret_int (by rw [Ht.out]), Hb1.out⟩
  | true =>
    have hT := fun W (h : IntsAt W a l) => spec_l31Total a cap l n W h hB
    have HT := Lib.hid hT; clear hT
    rw [hB] at hV
    have HV := Lib.hid hV; clear hV
    have Ht := Lib.hid (show totZ l n = l.sum + n from by unfold totZ; rw [hB]; rfl); clear hB
    go_wp2_with fail
    generalize w.alloc (.cells #[.slice a l.length cap, .int .i64 n] 33) = W0 at *
    refine (HV.out W0 Hl.out).mono ?_
    rintro e w1 ⟨rfl, hb1⟩
    have Hb1 := Lib.hid (below_step Hb0.out Hb0.out.size hb1)
    have Hs1 := Lib.hid (show Str w1 w.heap.size 33 #[.slice a l.length cap, .int .i64 n] from (hb1.block _ Hs.out.lt).trans Hs.out)
    have Hl1 := Lib.hid (Hl.out.below hb1)
    clear hb1 k0 k1
    have k0 := Hs1.out.cell 0 (v := .slice a l.length cap) rfl
    have k1 := Hs1.out.cell 1 (v := .int .i64 n) rfl
    go_wp2_with fail
    refine (HT.out _ Hl1.out).mono ?_
    rintro e w2 ⟨rfl, hb2⟩
    have Hb2 := Lib.hid (below_step Hb1.out Hb1.out.size hb2)
    clear hb2 k0 k1
    go_wp2
    go_ret
    exact ⟨ret_int (by rw [Ht.out]), Hb2.out⟩

end Go.Proofs.Ytadgdjjibmofpab
