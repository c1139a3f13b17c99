/- Plain arithmetic of digests and of hash trees; no walk and no condition of our own. -/
import Derived.Test.YtkndndcjchlpdaaBase
import Derived.Laws.Strings
namespace Go.Proofs.Ytkndndcjchlpdaa

def digB (n : Int) : Bool := decide (0 ≤ n ∧ n ≤ 990)
theorem digB_bd {n : Int} (h : digB n = true) : 0 ≤ n ∧ n ≤ 990 := of_decide_eq_true h
theorem digB_yes {n : Int} (h0 : 0 ≤ n) (h1 : n ≤ 990) : digB n = true := decide_eq_true ⟨h0, h1⟩
theorem digB_no {n : Int} (h : ¬ (0 ≤ n ∧ n ≤ 990)) : digB n = false := decide_eq_false h
def pairZ (a b : Int) : Int := (31 * a + 17 * b + 5) % 991
theorem pairZ_bd (a b : Int) : 0 ≤ pairZ a b ∧ pairZ a b ≤ 990 := by unfold pairZ; omega
theorem pairZ_dig (a b : Int) : digB (pairZ a b) = true := decide_eq_true (pairZ_bd a b)
theorem pairZ_left {a a' b : Int} (h : digB a = true) (h' : digB a' = true) (e : pairZ a b = pairZ a' b) : a = a' := by
  have := digB_bd h; have := digB_bd h'; unfold pairZ at e; omega
theorem pairZ_right {a b b' : Int} (h : digB b = true) (h' : digB b' = true) (e : pairZ a b = pairZ a b') : b = b' := by
  have := digB_bd h; have := digB_bd h'; unfold pairZ at e; omega

/-- The next level. -/
def upZ : List Int → List Int
  | a :: b :: r => pairZ a b :: upZ r
  | l => l
theorem upZ_nil : upZ [] = [] := rfl
theorem upZ_one (a : Int) : upZ [a] = [a] := rfl
theorem upZ_two (a b : Int) (r : List Int) : upZ (a :: b :: r) = pairZ a b :: upZ r := by rw [upZ]
/-- The other node of the pair of node i. -/
def sib (i : Nat) : Nat := if i % 2 = 0 then i + 1 else i - 1
theorem pairs_ind {p : List Int → Prop} (h0 : p []) (h1 : ∀ a, p [a]) (h2 : ∀ a b r, p r → p (a :: b :: r)) : ∀ n l, l.length ≤ n → p l := by
  intro n
  induction n with
  | zero =>
    intro l hl
    have : l = [] := List.eq_nil_of_length_eq_zero (by omega)
    subst this; exact h0
  | succ n ih =>
    intro l hl
    match l, hl with
    | [], _ => exact h0
    | [a], _ => exact h1 a
    | a :: b :: r, hl => exact h2 a b r (ih r (by simp at hl; omega))
theorem upZ_len (l : List Int) : (upZ l).length = (l.length + 1) / 2 :=
  pairs_ind (p := fun l => (upZ l).length = (l.length + 1) / 2) rfl (fun a => by simp [upZ]) (fun a b r ih => by rw [upZ_two]; simp only [List.length_cons]; rw [ih]; omega) l.length l (Nat.le_refl _)
theorem upZ_dig (l : List Int) (h : ∀ x ∈ l, digB x = true) : ∀ x ∈ upZ l, digB x = true := by
  refine pairs_ind (p := fun l => (∀ x ∈ l, digB x = true) → ∀ x ∈ upZ l, digB x = true) (fun _ => by simp [upZ]) (fun a h => by simpa [upZ] using h) (fun a b r ih h => ?_) l.length l (Nat.le_refl _) h
  rw [upZ_two]
  intro x hx
  rcases List.mem_cons.1 hx with rfl | hx
  · exact pairZ_dig _ _
  · exact ih (fun y hy => h y (by simp [hy])) x hx
/-- A node of the next level. -/
theorem upZ_get (l : List Int) : ∀ i, i < l.length → (upZ l).getD (i / 2) 0 = if sib i < l.length then (if i < sib i then pairZ (l.getD i 0) (l.getD (sib i) 0) else pairZ (l.getD (sib i) 0) (l.getD i 0)) else l.getD i 0 := by
  refine pairs_ind (p := fun l => ∀ i, i < l.length → (upZ l).getD (i / 2) 0 = if sib i < l.length then (if i < sib i then pairZ (l.getD i 0) (l.getD (sib i) 0) else pairZ (l.getD (sib i) 0) (l.getD i 0)) else l.getD i 0)
    (fun i h => by simp at h) (fun a i h => ?_) (fun a b r ih i h => ?_) l.length l (Nat.le_refl _)
  · have : i = 0 := by simpa using h
    subst this; rfl
  · rw [upZ_two]
    match i, h with
    | 0, _ => simp [sib]
    | 1, _ => simp [sib]
    | i + 2, h =>
      have hi := ih i (by simpa using h)
      have e1 : (i + 2) / 2 = i / 2 + 1 := by omega
      have e2 : sib (i + 2) = sib i + 2 := by unfold sib; split <;> split <;> omega
      rw [e1, e2]
      simp only [List.getD_cons_succ, List.length_cons]
      rw [hi]
      by_cases hs : sib i < r.length
      · rw [if_pos hs, if_pos (show sib i + 2 < r.length + 1 + 1 by omega)]
        by_cases hl : i < sib i
        · rw [if_pos hl, if_pos (show i + 2 < sib i + 2 by omega)]
        · rw [if_neg hl, if_neg (show ¬ i + 2 < sib i + 2 by omega)]
      · rw [if_neg hs, if_neg (show ¬ sib i + 2 < r.length + 1 + 1 by omega)]

def rootF : Nat → List Int → Int
  | 0, l => l.getD 0 0
  | n + 1, l => if 1 < l.length then rootF n (upZ l) else l.getD 0 0
def proofF : Nat → List Int → Nat → List Int
  | 0, _, _ => []
  | n + 1, l, i => if 1 < l.length then (if sib i < l.length then [l.getD (sib i) 0] else []) ++ proofF n (upZ l) (i / 2) else []
/-- Where a leaf x at place i and a proof lead in a tree of this size. -/
def checkF : Nat → Nat → Nat → Int → List Int → Option Int
  | 0, _, _, x, p => if p = [] then some x else none
  | n + 1, size, i, x, p =>
    if 1 < size then
      if sib i < size then
        match p with
        | [] => none
        | q :: r => if digB q = true then checkF n ((size + 1) / 2) (i / 2) (if i < sib i then pairZ x q else pairZ q x) r else none
      else checkF n ((size + 1) / 2) (i / 2) x p
    else if p = [] then some x else none

theorem dig_getD {l : List Int} (h : ∀ x ∈ l, digB x = true) {i : Nat} (hi : i < l.length) : digB (l.getD i 0) = true := by
  rw [getD_get hi]; exact h _ (List.getElem_mem hi)

/-- Each leaf has a proof. -/
theorem check_proof : ∀ (n : Nat) (l : List Int) (i : Nat), (∀ x ∈ l, digB x = true) → i < l.length → l.length ≤ 2 ^ n → checkF n l.length i (l.getD i 0) (proofF n l i) = some (rootF n l) := by
  intro n
  induction n with
  | zero => intro l i _ hi hl; have : i = 0 := by omega
            subst this; simp [checkF, proofF, rootF]
  | succ n ih =>
    intro l i hd hi hl
    simp only [checkF, proofF, rootF]
    by_cases h1 : 1 < l.length
    · rw [if_pos h1, if_pos h1, if_pos h1]
      have hu := ih (upZ l) (i / 2) (upZ_dig l hd) (by rw [upZ_len]; omega) (by rw [upZ_len, Nat.pow_succ] at *; omega)
      rw [upZ_len, upZ_get l i hi] at hu
      by_cases hs : sib i < l.length
      · rw [if_pos hs] at hu ⊢
        rw [if_pos hs]
        simp only [List.cons_append, List.nil_append]
        rw [if_pos (dig_getD hd hs)]
        exact hu
      · rw [if_neg hs] at hu ⊢
        rw [if_neg hs, List.nil_append]
        exact hu
    · have : i = 0 := by omega
      subst this; simp [h1]

/-- No other leaf has the proof. -/
theorem check_leaf : ∀ (n size i : Nat) (x y : Int) (p : List Int) (R : Int), digB x = true → digB y = true → checkF n size i x p = some R → checkF n size i y p = some R → x = y := by
  intro n
  induction n with
  | zero =>
    intro size i x y p R _ _ h1 h2
    simp only [checkF] at h1 h2
    split at h1
    · rename_i h; rw [if_pos h] at h2; cases h1; cases h2; rfl
    · cases h1
  | succ n ih =>
    intro size i x y p R hx hy h1 h2
    simp only [checkF] at h1 h2
    by_cases hz : 1 < size
    · rw [if_pos hz] at h1 h2
      by_cases hs : sib i < size
      · rw [if_pos hs] at h1 h2
        match p, h1, h2 with
        | q :: r, h1, h2 =>
          simp only at h1 h2
          by_cases hq : digB q = true
          · rw [if_pos hq] at h1 h2
            by_cases hl : i < sib i
            · rw [if_pos hl] at h1 h2
              exact pairZ_left hx hy (ih _ _ _ _ _ _ (pairZ_dig _ _) (pairZ_dig _ _) h1 h2)
            · rw [if_neg hl] at h1 h2
              exact pairZ_right hx hy (ih _ _ _ _ _ _ (pairZ_dig _ _) (pairZ_dig _ _) h1 h2)
          · rw [if_neg hq] at h1; cases h1
      · rw [if_neg hs] at h1 h2
        exact ih _ _ _ _ _ _ hx hy h1 h2
    · rw [if_neg hz] at h1 h2
      split at h1
      · rename_i h; rw [if_pos h] at h2; cases h1; cases h2; rfl
      · cases h1

/-- How long a proof is. -/
def plen : Nat → Nat → Nat → Nat
  | 0, _, _ => 0
  | n + 1, size, i => if 1 < size then (if sib i < size then 1 else 0) + plen n ((size + 1) / 2) (i / 2) else 0
theorem plen_le : ∀ (n size i : Nat), plen n size i ≤ n := by
  intro n
  induction n with
  | zero => intro _ _; exact Nat.le_refl _
  | succ n ih =>
    intro size i
    simp only [plen]
    have := ih ((size + 1) / 2) (i / 2)
    split
    · split <;> omega
    · omega
theorem check_len : ∀ (n size i : Nat) (x : Int) (p : List Int) (R : Int), checkF n size i x p = some R → p.length = plen n size i := by
  intro n
  induction n with
  | zero =>
    intro size i x p R h
    simp only [checkF] at h
    split at h
    · rename_i hp; rw [hp]; rfl
    · cases h
  | succ n ih =>
    intro size i x p R h
    simp only [checkF] at h
    simp only [plen]
    by_cases hz : 1 < size
    · rw [if_pos hz] at h ⊢
      by_cases hs : sib i < size
      · rw [if_pos hs] at h ⊢
        match p, h with
        | q :: r, h =>
          simp only at h
          by_cases hq : digB q = true
          · rw [if_pos hq] at h
            have := ih _ _ _ _ _ h
            simp only [List.length_cons]; omega
          · rw [if_neg hq] at h; cases h
      · rw [if_neg hs] at h ⊢
        have := ih _ _ _ _ _ h; omega
    · rw [if_neg hz] at h ⊢
      split at h
      · rename_i hp; rw [hp]; rfl
      · cases h

/-- A changed leaf on the next level. -/
theorem upZ_set (l : List Int) : ∀ i y, i < l.length → upZ (l.set i y) = (upZ l).set (i / 2) ((upZ (l.set i y)).getD (i / 2) 0) := by
  refine pairs_ind (p := fun l => ∀ i y, i < l.length → upZ (l.set i y) = (upZ l).set (i / 2) ((upZ (l.set i y)).getD (i / 2) 0)) (fun i y h => by simp at h) (fun a i y h => ?_) (fun a b r ih i y h => ?_) l.length l (Nat.le_refl _)
  · have : i = 0 := by simpa using h
    subst this; rfl
  · match i, h with
    | 0, _ => simp [upZ_two]
    | 1, _ => simp [upZ_two]
    | i + 2, h =>
      have hi := ih i y (by simpa using h)
      have e1 : (i + 2) / 2 = i / 2 + 1 := by omega
      rw [e1]
      simp only [List.set_cons_succ, upZ_two, List.getD_cons_succ]
      rw [← hi]
theorem proof_set : ∀ (n : Nat) (l : List Int) (i : Nat) (y : Int), i < l.length → proofF n (l.set i y) i = proofF n l i := by
  intro n
  induction n with
  | zero => intros; rfl
  | succ n ih =>
    intro l i y hi
    simp only [proofF, List.length_set]
    have hne : sib i ≠ i := by unfold sib; split <;> omega
    have e : (l.set i y).getD (sib i) 0 = l.getD (sib i) 0 := by
      simp only [List.getD]
      rw [List.getElem?_set_ne (fun h => hne h.symm)]
    rw [e, upZ_set l i y hi, ih (upZ l) (i / 2) _ (by rw [upZ_len]; omega)]
/-- A changed leaf changes the root. -/
theorem root_set {n : Nat} {l : List Int} {i : Nat} {y : Int} (hd : ∀ x ∈ l, digB x = true) (hi : i < l.length) (hl : l.length ≤ 2 ^ n) (hy : digB y = true) (e : rootF n (l.set i y) = rootF n l) : y = l.getD i 0 := by
  have h1 := check_proof n l i hd hi hl
  have h2 := check_proof n (l.set i y) i (fun x hx => by rcases List.mem_or_eq_of_mem_set hx with h | rfl; exact hd x h; exact hy) (by simpa using hi) (by simpa using hl)
  rw [List.length_set, proof_set n l i y hi, e] at h2
  have e2 : (l.set i y).getD i 0 = y := by simp [List.getD, hi]
  rw [e2] at h2
  exact check_leaf _ _ _ _ _ _ _ hy (dig_getD hd hi) h2 h1
theorem rootF_bd : ∀ (n : Nat) (l : List Int), (∀ x ∈ l, digB x = true) → 0 < l.length → digB (rootF n l) = true := by
  intro n
  induction n with
  | zero => intro l hd hl; exact dig_getD hd hl
  | succ n ih =>
    intro l hd hl
    simp only [rootF]
    split
    · exact ih _ (upZ_dig l hd) (by rw [upZ_len]; omega)
    · exact dig_getD hd hl

/-! texts -/
def txtS (n : Int) (c : UInt8) : Int := (257 * n + c.toNat + 1) % 991
def txtF (n : Int) (l : List UInt8) : Int := l.foldl txtS n
def txtZ (l : List UInt8) : Int := txtF 7 l
theorem txtS_bd (n : Int) (c : UInt8) : 0 ≤ txtS n c ∧ txtS n c ≤ 990 := by unfold txtS; omega
theorem txtF_bd (l : List UInt8) : ∀ n, 0 ≤ n → n ≤ 990 → 0 ≤ txtF n l ∧ txtF n l ≤ 990 := by
  induction l with
  | nil => intro n h0 h1; exact ⟨h0, h1⟩
  | cons c l ih => intro n _ _; exact ih _ (txtS_bd n c).1 (txtS_bd n c).2
theorem txtZ_bd (l : List UInt8) : 0 ≤ txtZ l ∧ txtZ l ≤ 990 := txtF_bd l 7 (by omega) (by omega)
theorem txtZ_snoc (l : List UInt8) (c : UInt8) : txtZ (l ++ [c]) = txtS (txtZ l) c := by unfold txtZ txtF; rw [List.foldl_append]; rfl
theorem txtF_ne (l : List UInt8) : ∀ n m, 0 ≤ n → n ≤ 990 → 0 ≤ m → m ≤ 990 → n ≠ m → txtF n l ≠ txtF m l := by
  induction l with
  | nil => intro n m _ _ _ _ h; exact h
  | cons c l ih =>
    intro n m h0 h1 h2 h3 h
    refine ih _ _ (txtS_bd n c).1 (txtS_bd n c).2 (txtS_bd m c).1 (txtS_bd m c).2 ?_
    unfold txtS; omega
theorem txtZ_byte (l r : List UInt8) {b c : UInt8} (h : b ≠ c) : txtZ (l ++ [b] ++ r) ≠ txtZ (l ++ [c] ++ r) := by
  have e : ∀ x, txtZ (l ++ [x] ++ r) = txtF (txtS (txtZ l) x) r := fun x => by unfold txtZ txtF; rw [List.foldl_append, List.foldl_append]; rfl
  rw [e, e]
  refine txtF_ne r _ _ (txtS_bd _ _).1 (txtS_bd _ _).2 (txtS_bd _ _).1 (txtS_bd _ _).2 ?_
  have hb := b.toNat_lt
  have hc := c.toNat_lt
  have hn : b.toNat ≠ c.toNat := fun e => h (UInt8.toNat_inj.1 e)
  have := txtZ_bd l
  unfold txtS; omega

theorem txt_step (s : ByteArray) (k : Nat) (hk : k < s.size) : txtZ (s.data.toList.take (k + 1)) = txtS (txtZ (s.data.toList.take k)) s[k] := by
  rw [← txtZ_snoc, List.take_succ_eq_append_getElem (by simpa using hk)]; rfl
def htZ (s : ByteArray) : Int := if s.size ≤ 60 then txtZ s.data.toList else -1
def hpZ (a b : Int) : Int := if digB a = true ∧ digB b = true then pairZ a b else -1
def leavesB (l : List Int) : Bool := decide (1 ≤ l.length ∧ l.length ≤ 16) && l.all digB
theorem leavesB_bad {l : List Int} {k : Nat} (hk : k < l.length) (h : digB l[k] = false) : leavesB l = false := by unfold leavesB; rw [pre_not hk h, Bool.and_false]
theorem leavesB_len {l : List Int} {k : Nat} (h : Pre digB l k) (hk : l.length ≤ k) : leavesB l = decide (1 ≤ l.length ∧ l.length ≤ 16) := by unfold leavesB; rw [pre_all h hk, Bool.and_true]
theorem leavesB_iff {l : List Int} (h : leavesB l = true) : (1 ≤ l.length ∧ l.length ≤ 16) ∧ ∀ x ∈ l, digB x = true := by
  unfold leavesB at h; rw [Bool.and_eq_true, decide_eq_true_eq, List.all_eq_true] at h; exact h
def mrZ (l : List Int) : Int := if leavesB l = true then rootF 4 l else -1
def mpZ (l : List Int) (i : Int) : List Int := if leavesB l = true ∧ 0 ≤ i ∧ i < l.length then proofF 4 l i.toNat else []
def mcB (root size i leaf : Int) (p : List Int) : Bool := decide (1 ≤ size ∧ size ≤ 16 ∧ 0 ≤ i ∧ i < size ∧ digB leaf = true ∧ checkF 4 size.toNat i.toNat leaf p = some root)

theorem mrZ_yes {l : List Int} (h : leavesB l = true) : mrZ l = rootF 4 l := by unfold mrZ; rw [if_pos h]
theorem mrZ_no {l : List Int} (h : leavesB l = false) : mrZ l = -1 := by unfold mrZ; rw [if_neg (by simp [h])]
theorem mpZ_yes {l : List Int} {i : Nat} (h : leavesB l = true) (hi : i < l.length) : mpZ l i = proofF 4 l i := by unfold mpZ; rw [if_pos ⟨h, by omega, by omega⟩]; rfl
theorem mpZ_no {l : List Int} {i : Int} (h : ¬ (leavesB l = true ∧ 0 ≤ i ∧ i < l.length)) : mpZ l i = [] := by unfold mpZ; rw [if_neg h]
theorem sib_int (j : Nat) : (j : Int) + 1 - (j : Int) % 2 * 2 = (sib j : Nat) := by unfold sib; split <;> omega
theorem sib_ne (j : Nat) : sib j ≠ j := by unfold sib; split <;> omega
theorem rootF_up {n : Nat} {l : List Int} (h : 1 < l.length) : rootF (n + 1) l = rootF n (upZ l) := by rw [rootF, if_pos h]
theorem rootF_end {n : Nat} {l : List Int} (h : l.length = 1) : rootF n l = l.getD 0 0 := by
  cases n with
  | zero => rfl
  | succ n => rw [rootF, if_neg (by omega)]
theorem proofF_sib {n : Nat} {l : List Int} {i : Nat} (h : 1 < l.length) (hs : sib i < l.length) : proofF (n + 1) l i = l.getD (sib i) 0 :: proofF n (upZ l) (i / 2) := by rw [proofF, if_pos h, if_pos hs]; rfl
theorem proofF_lone {n : Nat} {l : List Int} {i : Nat} (h : 1 < l.length) (hs : ¬ sib i < l.length) : proofF (n + 1) l i = proofF n (upZ l) (i / 2) := by rw [proofF, if_pos h, if_neg hs]; rfl
theorem proofF_end {n : Nat} {l : List Int} {i : Nat} (h : ¬ 1 < l.length) : proofF n l i = [] := by
  cases n with
  | zero => rfl
  | succ n => rw [proofF, if_neg h]
theorem proofF_len : ∀ (n : Nat) (l : List Int) (i : Nat), (proofF n l i).length ≤ n := by
  intro n
  induction n with
  | zero => intro _ _; exact Nat.le_refl _
  | succ n ih =>
    intro l i
    by_cases h : 1 < l.length
    · have := ih (upZ l) (i / 2)
      by_cases hs : sib i < l.length
      · rw [proofF_sib h hs, List.length_cons]; omega
      · rw [proofF_lone h hs]; omega
    · rw [proofF_end h]; simp
theorem pow_half {n k : Nat} (h : k ≤ 2 ^ (n + 1)) : (k + 1) / 2 ≤ 2 ^ n := by rw [Nat.pow_succ] at h; omega
theorem pow_pos' {n k : Nat} (h : k ≤ 2 ^ n) (h1 : 1 < k) : ∃ m, n = m + 1 := by
  cases n with
  | zero => simp at h; omega
  | succ n => exact ⟨n, rfl⟩

theorem checkF_end {n size i : Nat} {x : Int} {p : List Int} (h : ¬ 1 < size) : checkF n size i x p = if p = [] then some x else none := by
  cases n with
  | zero => rfl
  | succ n => simp only [checkF]; rw [if_neg h]
theorem checkF_lone {n size i : Nat} {x : Int} {p : List Int} (h : 1 < size) (hs : ¬ sib i < size) : checkF (n + 1) size i x p = checkF n ((size + 1) / 2) (i / 2) x p := by simp only [checkF]; rw [if_pos h, if_neg hs]
theorem checkF_none {n size i : Nat} {x : Int} (h : 1 < size) (hs : sib i < size) : checkF (n + 1) size i x [] = none := by simp only [checkF]; rw [if_pos h, if_pos hs]
theorem checkF_sib {n size i : Nat} {x q : Int} {r : List Int} (h : 1 < size) (hs : sib i < size) (hq : digB q = true) : checkF (n + 1) size i x (q :: r) = checkF n ((size + 1) / 2) (i / 2) (if i < sib i then pairZ x q else pairZ q x) r := by simp only [checkF]; rw [if_pos h, if_pos hs, if_pos hq]
theorem checkF_bad {n size i : Nat} {x q : Int} {r : List Int} (h : 1 < size) (hs : sib i < size) (hq : digB q = false) : checkF (n + 1) size i x (q :: r) = none := by simp only [checkF]; rw [if_pos h, if_pos hs, if_neg (by simp [hq])]
theorem mcB_yes {root leaf : Int} {size i : Nat} {p : List Int} (h1 : 1 ≤ size) (h2 : size ≤ 16) (h3 : i < size) (h4 : digB leaf = true) : mcB root size i leaf p = decide (checkF 4 size i leaf p = some root) := by
  unfold mcB
  refine decide_eq_decide.2 ⟨fun h => h.2.2.2.2.2, fun h => ⟨by omega, by omega, by omega, by omega, h4, h⟩⟩
theorem mcB_no {root size i leaf : Int} {p : List Int} (h : ¬ (1 ≤ size ∧ size ≤ 16 ∧ 0 ≤ i ∧ i < size ∧ digB leaf = true)) : mcB root size i leaf p = false :=
  decide_eq_false fun h' => h ⟨h'.1, h'.2.1, h'.2.2.1, h'.2.2.2.1, h'.2.2.2.2.1⟩

theorem mrZ_bd (l : List Int) : -1 ≤ mrZ l ∧ mrZ l ≤ 990 := by
  by_cases h : leavesB l = true
  · rw [mrZ_yes h]
    have := digB_bd (rootF_bd 4 l (leavesB_iff h).2 (by have := (leavesB_iff h).1; omega))
    omega
  · rw [mrZ_no (by simpa using h)]; omega
theorem mpZ_len (l : List Int) (i : Int) : (mpZ l i).length ≤ 4 := by
  unfold mpZ; split
  · exact proofF_len _ _ _
  · simp

theorem htZ_yes (s : ByteArray) (h : s.size ≤ 60) : 0 ≤ htZ s ∧ htZ s ≤ 990 := by unfold htZ; rw [if_pos h]; exact txtZ_bd _
theorem htZ_no (s : ByteArray) (h : 60 < s.size) : htZ s = -1 := by unfold htZ; rw [if_neg (by omega)]
theorem htZ_empty : htZ ⟨#[]⟩ = 7 := rfl
theorem hpZ_yes {a b : Int} (h : digB a = true) (h' : digB b = true) : hpZ a b = pairZ a b := by unfold hpZ; rw [if_pos ⟨h, h'⟩]
theorem hpZ_no {a b : Int} (h : ¬ (digB a = true ∧ digB b = true)) : hpZ a b = -1 := by unfold hpZ; rw [if_neg h]

theorem str_ne {s : ByteArray} (h : ¬ s.size = 0) : s.toList.isEmpty = false := by
  rw [ByteArray.toList_eq]
  cases e : s.data.toList with
  | nil => exact absurd (by have := congrArg List.length e; simpa using this) h
  | cons _ _ => rfl
theorem str_nil {s : ByteArray} (h : s.size = 0) : s.toList.isEmpty = true := by
  have e : s.data.toList = [] := List.eq_nil_of_length_eq_zero (by simpa using h)
  rw [ByteArray.toList_eq, e]
  rfl

/-- A text with one byte changed. -/
theorem txt_change (s : ByteArray) (k : Nat) (hk : k < s.size) (c : UInt8) (hc : c ≠ s[k]) (h60 : s.size ≤ 60) (t : ByteArray) (ht : t = s.extract 0 k ++ ⟨#[c]⟩ ++ s.extract (k + 1) s.size) : t.size = s.size ∧ 0 ≤ htZ t ∧ htZ t ≤ 990 ∧ htZ t ≠ htZ s := by
  have hd : t.data.toList = s.data.toList.take k ++ [c] ++ s.data.toList.drop (k + 1) := by
    subst ht
    simp
    exact List.take_of_length_le (by simp)
  have hsd : s.data.toList = s.data.toList.take k ++ [s[k]] ++ s.data.toList.drop (k + 1) := by
    have hk' : k < s.data.toList.length := by simpa using hk
    have h := List.take_append_drop (k + 1) s.data.toList
    rw [List.take_succ_eq_append_getElem hk'] at h
    exact h.symm
  have hsz : t.size = s.size := by
    have h1 := congrArg List.length hd
    simp at h1
    have e1 : s.data.size = s.size := rfl
    have e2 : t.data.size = t.size := rfl
    omega
  have hn := txtZ_byte (s.data.toList.take k) (s.data.toList.drop (k + 1)) hc
  rw [← hd, ← hsd] at hn
  have hb := htZ_yes t (by omega)
  refine ⟨hsz, hb.1, hb.2, ?_⟩
  unfold htZ
  rw [if_pos (show t.size ≤ 60 by omega), if_pos h60]
  exact hn

/-- A byte xor 1, 2 or 3. -/
theorem xor_byte (b : UInt8) (m : Int) (h1 : 1 ≤ m) (h3 : m ≤ 3) : ∃ c : UInt8, bits .xor .u8 (b.toNat : Int) m = (c.toNat : Int) ∧ c ≠ b := by
  have key : ∀ x : Fin 256, ∀ y : Fin 3, bits .xor .u8 (x.val : Int) ((y.val : Int) + 1) = ((x.val ^^^ (y.val + 1) : Nat) : Int) ∧ x.val ^^^ (y.val + 1) ≠ x.val ∧ x.val ^^^ (y.val + 1) < 256 := by decide +kernel
  obtain ⟨hz, hne, hlt⟩ := key ⟨b.toNat, UInt8.toNat_lt b⟩ ⟨(m - 1).toNat, by omega⟩
  simp only at hz hne hlt
  rw [show (((m - 1).toNat : Nat) : Int) + 1 = m by omega] at hz
  generalize b.toNat ^^^ ((m - 1).toNat + 1) = z at hz hne hlt
  refine ⟨UInt8.ofNat z, ?_, ?_⟩
  · rw [UInt8.toNat_ofNat', Nat.mod_eq_of_lt (show z < 2 ^ 8 from hlt), hz]
  · intro e
    apply hne
    rw [← e, UInt8.toNat_ofNat', Nat.mod_eq_of_lt (show z < 2 ^ 8 from hlt)]

theorem wrap_tmod3 (n : Nat) : ∃ m : Int, 1 ≤ m ∧ m ≤ 3 ∧ IntKind.u8.wrap (IntKind.i64.wrap (1 + ((n : Int)).tmod 3)) = m := by
  have e : ((n : Int)).tmod 3 = (n : Int) % 3 := Int.tmod_eq_emod_of_nonneg (by omega)
  refine ⟨1 + (n : Int) % 3, by omega, by omega, ?_⟩
  rw [e, IntWalk.i64_in _ (by omega), IntWalk.u8_in _ (by omega)]

theorem mcB_root {root root' size i leaf : Int} {p : List Int} (h : mcB root size i leaf p = true) (hne : root' ≠ root) : mcB root' size i leaf p = false := by
  have h1 := of_decide_eq_true h
  exact decide_eq_false fun h2 => hne (by
    have := h2.2.2.2.2.2.symm.trans h1.2.2.2.2.2
    simpa using this)
theorem mcB_len {root size i leaf : Int} {p q : List Int} (h : mcB root size i leaf p = true) (hne : q.length ≠ p.length) : mcB root size i leaf q = false := by
  have h1 := of_decide_eq_true h
  exact decide_eq_false fun h2 => hne ((check_len _ _ _ _ _ _ h2.2.2.2.2.2).trans (check_len _ _ _ _ _ _ h1.2.2.2.2.2).symm)
theorem mcB_short {root size i leaf : Int} {p : List Int} (h : mcB root size i leaf p = true) : p.length ≤ 4 := by
  have h1 := of_decide_eq_true h
  rw [check_len _ _ _ _ _ _ h1.2.2.2.2.2]
  exact plen_le _ _ _
theorem leaves_get {l : List Int} (h : leavesB l = true) {i : Nat} (hi : i < l.length) : digB l[i] = true := (leavesB_iff h).2 _ (List.getElem_mem hi)
theorem getD_at {l : List Int} {i : Nat} (hi : i < l.length) : l.getD i 0 = l[i] := by simp [hi]
theorem mc_proof {l : List Int} {i : Nat} (h : leavesB l = true) (hi : i < l.length) : mcB (mrZ l) l.length i l[i] (mpZ l i) = true := by
  obtain ⟨hl, hd⟩ := leavesB_iff h
  rw [mcB_yes (by omega) (by omega) hi (leaves_get h hi), mrZ_yes h, mpZ_yes h hi, ← getD_at hi]
  exact decide_eq_true (check_proof 4 l i hd hi (by omega))
theorem mc_leaf {l : List Int} {i : Nat} {x : Int} (h : leavesB l = true) (hi : i < l.length) (hx : x ≠ l[i]) : mcB (mrZ l) l.length i x (mpZ l i) = false := by
  obtain ⟨hl, hd⟩ := leavesB_iff h
  cases hm : mcB (mrZ l) l.length i x (mpZ l i) with
  | false => rfl
  | true =>
    have h1 := (of_decide_eq_true (mc_proof h hi)).2.2.2.2.2
    have h2 := of_decide_eq_true hm
    exact absurd (check_leaf _ _ _ _ _ _ _ h2.2.2.2.2.1 (leaves_get h hi) h2.2.2.2.2.2 h1) hx

theorem mrZ_pos {l : List Int} (h : leavesB l = true) : 0 ≤ mrZ l ∧ mrZ l ≤ 990 := by
  rw [mrZ_yes h]
  obtain ⟨hl, hd⟩ := leavesB_iff h
  exact digB_bd (rootF_bd 4 l hd (by omega))

theorem mc_leaf' {l : List Int} {i : Int} {x : Int} (h : leavesB l = true) (h0 : 0 ≤ i) (hi : i < l.length) (hx : x ≠ l.getD i.toNat 0) : mcB (mrZ l) l.length i x (mpZ l i) = false := by
  obtain ⟨i, rfl⟩ := Int.eq_ofNat_of_zero_le h0
  have hi' : i < l.length := by omega
  exact mc_leaf h hi' (by rw [← getD_at hi']; exact hx)

end Go.Proofs.Ytkndndcjchlpdaa
