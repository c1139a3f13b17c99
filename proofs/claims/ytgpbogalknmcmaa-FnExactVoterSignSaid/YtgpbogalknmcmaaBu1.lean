/- Texts that the laws of this folder share, one behind another; no conditions. -/
import Derived.Test.YtgpbogalknmcmaaBu0
import Derived.Laws.Strings
import Derived.Test.YtgpbogalknmcmaaRows
import Derived.Deep.QuietTactic
import Derived.BigQuiet
import Derived.Maps.RangeWalk
import Derived.Maps.Ext
import Derived.DeepKeys5
import Derived.Shelf.SlSortCmp.NoneTotal
import Derived.Deep.RegionHeld3

/- Plain arithmetic of digests and of hash trees; no walk and no condition of our own. -/
namespace Go.Proofs.Ytgpbogalknmcmaa

def digB (n : Int) : Bool := decide (0 ≤ n ∧ n ≤ 990)
theorem digB_bd {n : Int} (h : digB n = true) : 0 ≤ n ∧ n ≤ 990 := of_decide_eq_true h
theorem digB_yes {n : Int} (h0 : 0 ≤ n) (h1 : n ≤ 990) : digB n = true := decide_eq_true ⟨h0, h1⟩
theorem digB_no {n : Int} (h : ¬ (0 ≤ n ∧ n ≤ 990)) : digB n = false := decide_eq_false h
def pairZ (a b : Int) : Int := (31 * a + 17 * b + 5) % 991
theorem pairZ_bd (a b : Int) : 0 ≤ pairZ a b ∧ pairZ a b ≤ 990 := by unfold pairZ; omega
theorem pairZ_dig (a b : Int) : digB (pairZ a b) = true := decide_eq_true (pairZ_bd a b)
theorem pairZ_left {a a' b : Int} (h : digB a = true) (h' : digB a' = true) (e : pairZ a b = pairZ a' b) : a = a' := by
  have := digB_bd h; have := digB_bd h'; unfold pairZ at e; omega
theorem pairZ_right {a b b' : Int} (h : digB b = true) (h' : digB b' = true) (e : pairZ a b = pairZ a b') : b = b' := by
  have := digB_bd h; have := digB_bd h'; unfold pairZ at e; omega

/-- The next level. -/
def upZ : List Int → List Int
  | a :: b :: r => pairZ a b :: upZ r
  | l => l
theorem upZ_nil : upZ [] = [] := rfl
theorem upZ_one (a : Int) : upZ [a] = [a] := rfl
theorem upZ_two (a b : Int) (r : List Int) : upZ (a :: b :: r) = pairZ a b :: upZ r := by rw [upZ]
/-- The other node of the pair of node i. -/
def sib (i : Nat) : Nat := if i % 2 = 0 then i + 1 else i - 1
theorem pairs_ind {p : List Int → Prop} (h0 : p []) (h1 : ∀ a, p [a]) (h2 : ∀ a b r, p r → p (a :: b :: r)) : ∀ n l, l.length ≤ n → p l := by
  intro n
  induction n with
  | zero =>
    intro l hl
    have : l = [] := List.eq_nil_of_length_eq_zero (by omega)
    subst this; exact h0
  | succ n ih =>
    intro l hl
    match l, hl with
    | [], _ => exact h0
    | [a], _ => exact h1 a
    | a :: b :: r, hl => exact h2 a b r (ih r (by simp at hl; omega))
theorem upZ_len (l : List Int) : (upZ l).length = (l.length + 1) / 2 :=
  pairs_ind (p := fun l => (upZ l).length = (l.length + 1) / 2) rfl (fun a => by simp [upZ]) (fun a b r ih => by rw [upZ_two]; simp only [List.length_cons]; rw [ih]; omega) l.length l (Nat.le_refl _)
theorem upZ_dig (l : List Int) (h : ∀ x ∈ l, digB x = true) : ∀ x ∈ upZ l, digB x = true := by
  refine pairs_ind (p := fun l => (∀ x ∈ l, digB x = true) → ∀ x ∈ upZ l, digB x = true) (fun _ => by simp [upZ]) (fun a h => by simpa [upZ] using h) (fun a b r ih h => ?_) l.length l (Nat.le_refl _) h
  rw [upZ_two]
  intro x hx
  rcases List.mem_cons.1 hx with rfl | hx
  · exact pairZ_dig _ _
  · exact ih (fun y hy => h y (by simp [hy])) x hx
/-- A node of the next level. -/
theorem upZ_get (l : List Int) : ∀ i, i < l.length → (upZ l).getD (i / 2) 0 = if sib i < l.length then (if i < sib i then pairZ (l.getD i 0) (l.getD (sib i) 0) else pairZ (l.getD (sib i) 0) (l.getD i 0)) else l.getD i 0 := by
  refine pairs_ind (p := fun l => ∀ i, i < l.length → (upZ l).getD (i / 2) 0 = if sib i < l.length then (if i < sib i then pairZ (l.getD i 0) (l.getD (sib i) 0) else pairZ (l.getD (sib i) 0) (l.getD i 0)) else l.getD i 0)
    (fun i h => by simp at h) (fun a i h => ?_) (fun a b r ih i h => ?_) l.length l (Nat.le_refl _)
  · have : i = 0 := by simpa using h
    subst this; rfl
  · rw [upZ_two]
    match i, h with
    | 0, _ => simp [sib]
    | 1, _ => simp [sib]
    | i + 2, h =>
      have hi := ih i (by simpa using h)
      have e1 : (i + 2) / 2 = i / 2 + 1 := by omega
      have e2 : sib (i + 2) = sib i + 2 := by unfold sib; split <;> split <;> omega
      rw [e1, e2]
      simp only [List.getD_cons_succ, List.length_cons]
      rw [hi]
      by_cases hs : sib i < r.length
      · rw [if_pos hs, if_pos (show sib i + 2 < r.length + 1 + 1 by omega)]
        by_cases hl : i < sib i
        · rw [if_pos hl, if_pos (show i + 2 < sib i + 2 by omega)]
        · rw [if_neg hl, if_neg (show ¬ i + 2 < sib i + 2 by omega)]
      · rw [if_neg hs, if_neg (show ¬ sib i + 2 < r.length + 1 + 1 by omega)]

def rootF : Nat → List Int → Int
  | 0, l => l.getD 0 0
  | n + 1, l => if 1 < l.length then rootF n (upZ l) else l.getD 0 0
def proofF : Nat → List Int → Nat → List Int
  | 0, _, _ => []
  | n + 1, l, i => if 1 < l.length then (if sib i < l.length then [l.getD (sib i) 0] else []) ++ proofF n (upZ l) (i / 2) else []
/-- Where a leaf x at place i and a proof lead in a tree of this size. -/
def checkF : Nat → Nat → Nat → Int → List Int → Option Int
  | 0, _, _, x, p => if p = [] then some x else none
  | n + 1, size, i, x, p =>
    if 1 < size then
      if sib i < size then
        match p with
        | [] => none
        | q :: r => if digB q = true then checkF n ((size + 1) / 2) (i / 2) (if i < sib i then pairZ x q else pairZ q x) r else none
      else checkF n ((size + 1) / 2) (i / 2) x p
    else if p = [] then some x else none

theorem dig_getD {l : List Int} (h : ∀ x ∈ l, digB x = true) {i : Nat} (hi : i < l.length) : digB (l.getD i 0) = true := by
  rw [getD_get hi]; exact h _ (List.getElem_mem hi)

/-- Each leaf has a proof. -/
theorem check_proof : ∀ (n : Nat) (l : List Int) (i : Nat), (∀ x ∈ l, digB x = true) → i < l.length → l.length ≤ 2 ^ n → checkF n l.length i (l.getD i 0) (proofF n l i) = some (rootF n l) := by
  intro n
  induction n with
  | zero => intro l i _ hi hl; have : i = 0 := by omega
            subst this; simp [checkF, proofF, rootF]
  | succ n ih =>
    intro l i hd hi hl
    simp only [checkF, proofF, rootF]
    by_cases h1 : 1 < l.length
    · rw [if_pos h1, if_pos h1, if_pos h1]
      have hu := ih (upZ l) (i / 2) (upZ_dig l hd) (by rw [upZ_len]; omega) (by rw [upZ_len, Nat.pow_succ] at *; omega)
      rw [upZ_len, upZ_get l i hi] at hu
      by_cases hs : sib i < l.length
      · rw [if_pos hs] at hu ⊢
        rw [if_pos hs]
        simp only [List.cons_append, List.nil_append]
        rw [if_pos (dig_getD hd hs)]
        exact hu
      · rw [if_neg hs] at hu ⊢
        rw [if_neg hs, List.nil_append]
        exact hu
    · have : i = 0 := by omega
      subst this; simp [h1]

/-- No other leaf has the proof. -/
theorem check_leaf : ∀ (n size i : Nat) (x y : Int) (p : List Int) (R : Int), digB x = true → digB y = true → checkF n size i x p = some R → checkF n size i y p = some R → x = y := by
  intro n
  induction n with
  | zero =>
    intro size i x y p R _ _ h1 h2
    simp only [checkF] at h1 h2
    split at h1
    · rename_i h; rw [if_pos h] at h2; cases h1; cases h2; rfl
    · cases h1
  | succ n ih =>
    intro size i x y p R hx hy h1 h2
    simp only [checkF] at h1 h2
    by_cases hz : 1 < size
    · rw [if_pos hz] at h1 h2
      by_cases hs : sib i < size
      · rw [if_pos hs] at h1 h2
        match p, h1, h2 with
        | q :: r, h1, h2 =>
          simp only at h1 h2
          by_cases hq : digB q = true
          · rw [if_pos hq] at h1 h2
            by_cases hl : i < sib i
            · rw [if_pos hl] at h1 h2
              exact pairZ_left hx hy (ih _ _ _ _ _ _ (pairZ_dig _ _) (pairZ_dig _ _) h1 h2)
            · rw [if_neg hl] at h1 h2
              exact pairZ_right hx hy (ih _ _ _ _ _ _ (pairZ_dig _ _) (pairZ_dig _ _) h1 h2)
          · rw [if_neg hq] at h1; cases h1
      · rw [if_neg hs] at h1 h2
        exact ih _ _ _ _ _ _ hx hy h1 h2
    · rw [if_neg hz] at h1 h2
      split at h1
      · rename_i h; rw [if_pos h] at h2; cases h1; cases h2; rfl
      · cases h1

/-- How long a proof is. -/
def plen : Nat → Nat → Nat → Nat
  | 0, _, _ => 0
  | n + 1, size, i => if 1 < size then (if sib i < size then 1 else 0) + plen n ((size + 1) / 2) (i / 2) else 0
theorem plen_le : ∀ (n size i : Nat), plen n size i ≤ n := by
  intro n
  induction n with
  | zero => intro _ _; exact Nat.le_refl _
  | succ n ih =>
    intro size i
    simp only [plen]
    have := ih ((size + 1) / 2) (i / 2)
    split
    · split <;> omega
    · omega
theorem check_len : ∀ (n size i : Nat) (x : Int) (p : List Int) (R : Int), checkF n size i x p = some R → p.length = plen n size i := by
  intro n
  induction n with
  | zero =>
    intro size i x p R h
    simp only [checkF] at h
    split at h
    · rename_i hp; rw [hp]; rfl
    · cases h
  | succ n ih =>
    intro size i x p R h
    simp only [checkF] at h
    simp only [plen]
    by_cases hz : 1 < size
    · rw [if_pos hz] at h ⊢
      by_cases hs : sib i < size
      · rw [if_pos hs] at h ⊢
        match p, h with
        | q :: r, h =>
          simp only at h
          by_cases hq : digB q = true
          · rw [if_pos hq] at h
            have := ih _ _ _ _ _ h
            simp only [List.length_cons]; omega
          · rw [if_neg hq] at h; cases h
      · rw [if_neg hs] at h ⊢
        have := ih _ _ _ _ _ h; omega
    · rw [if_neg hz] at h ⊢
      split at h
      · rename_i hp; rw [hp]; rfl
      · cases h

/-- A changed leaf on the next level. -/
theorem upZ_set (l : List Int) : ∀ i y, i < l.length → upZ (l.set i y) = (upZ l).set (i / 2) ((upZ (l.set i y)).getD (i / 2) 0) := by
  refine pairs_ind (p := fun l => ∀ i y, i < l.length → upZ (l.set i y) = (upZ l).set (i / 2) ((upZ (l.set i y)).getD (i / 2) 0)) (fun i y h => by simp at h) (fun a i y h => ?_) (fun a b r ih i y h => ?_) l.length l (Nat.le_refl _)
  · have : i = 0 := by simpa using h
    subst this; rfl
  · match i, h with
    | 0, _ => simp [upZ_two]
    | 1, _ => simp [upZ_two]
    | i + 2, h =>
      have hi := ih i y (by simpa using h)
      have e1 : (i + 2) / 2 = i / 2 + 1 := by omega
      rw [e1]
      simp only [List.set_cons_succ, upZ_two, List.getD_cons_succ]
      rw [← hi]
theorem proof_set : ∀ (n : Nat) (l : List Int) (i : Nat) (y : Int), i < l.length → proofF n (l.set i y) i = proofF n l i := by
  intro n
  induction n with
  | zero => intros; rfl
  | succ n ih =>
    intro l i y hi
    simp only [proofF, List.length_set]
    have hne : sib i ≠ i := by unfold sib; split <;> omega
    have e : (l.set i y).getD (sib i) 0 = l.getD (sib i) 0 := by
      simp only [List.getD]
      rw [List.getElem?_set_ne (fun h => hne h.symm)]
    rw [e, upZ_set l i y hi, ih (upZ l) (i / 2) _ (by rw [upZ_len]; omega)]
/-- A changed leaf changes the root. -/
theorem root_set {n : Nat} {l : List Int} {i : Nat} {y : Int} (hd : ∀ x ∈ l, digB x = true) (hi : i < l.length) (hl : l.length ≤ 2 ^ n) (hy : digB y = true) (e : rootF n (l.set i y) = rootF n l) : y = l.getD i 0 := by
  have h1 := check_proof n l i hd hi hl
  have h2 := check_proof n (l.set i y) i (fun x hx => by rcases List.mem_or_eq_of_mem_set hx with h | rfl; exact hd x h; exact hy) (by simpa using hi) (by simpa using hl)
  rw [List.length_set, proof_set n l i y hi, e] at h2
  have e2 : (l.set i y).getD i 0 = y := by simp [List.getD, hi]
  rw [e2] at h2
  exact check_leaf _ _ _ _ _ _ _ hy (dig_getD hd hi) h2 h1
theorem rootF_bd : ∀ (n : Nat) (l : List Int), (∀ x ∈ l, digB x = true) → 0 < l.length → digB (rootF n l) = true := by
  intro n
  induction n with
  | zero => intro l hd hl; exact dig_getD hd hl
  | succ n ih =>
    intro l hd hl
    simp only [rootF]
    split
    · exact ih _ (upZ_dig l hd) (by rw [upZ_len]; omega)
    · exact dig_getD hd hl

/-! texts -/
def txtS (n : Int) (c : UInt8) : Int := (257 * n + c.toNat + 1) % 991
def txtF (n : Int) (l : List UInt8) : Int := l.foldl txtS n
def txtZ (l : List UInt8) : Int := txtF 7 l
theorem txtS_bd (n : Int) (c : UInt8) : 0 ≤ txtS n c ∧ txtS n c ≤ 990 := by unfold txtS; omega
theorem txtF_bd (l : List UInt8) : ∀ n, 0 ≤ n → n ≤ 990 → 0 ≤ txtF n l ∧ txtF n l ≤ 990 := by
  induction l with
  | nil => intro n h0 h1; exact ⟨h0, h1⟩
  | cons c l ih => intro n _ _; exact ih _ (txtS_bd n c).1 (txtS_bd n c).2
theorem txtZ_bd (l : List UInt8) : 0 ≤ txtZ l ∧ txtZ l ≤ 990 := txtF_bd l 7 (by omega) (by omega)
theorem txtZ_snoc (l : List UInt8) (c : UInt8) : txtZ (l ++ [c]) = txtS (txtZ l) c := by unfold txtZ txtF; rw [List.foldl_append]; rfl
theorem txtF_ne (l : List UInt8) : ∀ n m, 0 ≤ n → n ≤ 990 → 0 ≤ m → m ≤ 990 → n ≠ m → txtF n l ≠ txtF m l := by
  induction l with
  | nil => intro n m _ _ _ _ h; exact h
  | cons c l ih =>
    intro n m h0 h1 h2 h3 h
    refine ih _ _ (txtS_bd n c).1 (txtS_bd n c).2 (txtS_bd m c).1 (txtS_bd m c).2 ?_
    unfold txtS; omega
theorem txtZ_byte (l r : List UInt8) {b c : UInt8} (h : b ≠ c) : txtZ (l ++ [b] ++ r) ≠ txtZ (l ++ [c] ++ r) := by
  have e : ∀ x, txtZ (l ++ [x] ++ r) = txtF (txtS (txtZ l) x) r := fun x => by unfold txtZ txtF; rw [List.foldl_append, List.foldl_append]; rfl
  rw [e, e]
  refine txtF_ne r _ _ (txtS_bd _ _).1 (txtS_bd _ _).2 (txtS_bd _ _).1 (txtS_bd _ _).2 ?_
  have hb := b.toNat_lt
  have hc := c.toNat_lt
  have hn : b.toNat ≠ c.toNat := fun e => h (UInt8.toNat_inj.1 e)
  have := txtZ_bd l
  unfold txtS; omega

theorem txt_step (s : ByteArray) (k : Nat) (hk : k < s.size) : txtZ (s.data.toList.take (k + 1)) = txtS (txtZ (s.data.toList.take k)) s[k] := by
  rw [← txtZ_snoc, List.take_succ_eq_append_getElem (by simpa using hk)]; rfl
def htZ (s : ByteArray) : Int := if s.size ≤ 60 then txtZ s.data.toList else -1
def hpZ (a b : Int) : Int := if digB a = true ∧ digB b = true then pairZ a b else -1
def leavesB (l : List Int) : Bool := decide (1 ≤ l.length ∧ l.length ≤ 16) && l.all digB
theorem leavesB_bad {l : List Int} {k : Nat} (hk : k < l.length) (h : digB l[k] = false) : leavesB l = false := by unfold leavesB; rw [pre_not hk h, Bool.and_false]
theorem leavesB_len {l : List Int} {k : Nat} (h : Pre digB l k) (hk : l.length ≤ k) : leavesB l = decide (1 ≤ l.length ∧ l.length ≤ 16) := by unfold leavesB; rw [pre_all h hk, Bool.and_true]
theorem leavesB_iff {l : List Int} (h : leavesB l = true) : (1 ≤ l.length ∧ l.length ≤ 16) ∧ ∀ x ∈ l, digB x = true := by
  unfold leavesB at h; rw [Bool.and_eq_true, decide_eq_true_eq, List.all_eq_true] at h; exact h
def mrZ (l : List Int) : Int := if leavesB l = true then rootF 4 l else -1
def mpZ (l : List Int) (i : Int) : List Int := if leavesB l = true ∧ 0 ≤ i ∧ i < l.length then proofF 4 l i.toNat else []
def mcB (root size i leaf : Int) (p : List Int) : Bool := decide (1 ≤ size ∧ size ≤ 16 ∧ 0 ≤ i ∧ i < size ∧ digB leaf = true ∧ checkF 4 size.toNat i.toNat leaf p = some root)

theorem mrZ_yes {l : List Int} (h : leavesB l = true) : mrZ l = rootF 4 l := by unfold mrZ; rw [if_pos h]
theorem mrZ_no {l : List Int} (h : leavesB l = false) : mrZ l = -1 := by unfold mrZ; rw [if_neg (by simp [h])]
theorem mpZ_yes {l : List Int} {i : Nat} (h : leavesB l = true) (hi : i < l.length) : mpZ l i = proofF 4 l i := by unfold mpZ; rw [if_pos ⟨h, by omega, by omega⟩]; rfl
theorem mpZ_no {l : List Int} {i : Int} (h : ¬ (leavesB l = true ∧ 0 ≤ i ∧ i < l.length)) : mpZ l i = [] := by unfold mpZ; rw [if_neg h]
theorem sib_int (j : Nat) : (j : Int) + 1 - (j : Int) % 2 * 2 = (sib j : Nat) := by unfold sib; split <;> omega
theorem sib_ne (j : Nat) : sib j ≠ j := by unfold sib; split <;> omega
theorem rootF_up {n : Nat} {l : List Int} (h : 1 < l.length) : rootF (n + 1) l = rootF n (upZ l) := by rw [rootF, if_pos h]
theorem rootF_end {n : Nat} {l : List Int} (h : l.length = 1) : rootF n l = l.getD 0 0 := by
  cases n with
  | zero => rfl
  | succ n => rw [rootF, if_neg (by omega)]
theorem proofF_sib {n : Nat} {l : List Int} {i : Nat} (h : 1 < l.length) (hs : sib i < l.length) : proofF (n + 1) l i = l.getD (sib i) 0 :: proofF n (upZ l) (i / 2) := by rw [proofF, if_pos h, if_pos hs]; rfl
theorem proofF_lone {n : Nat} {l : List Int} {i : Nat} (h : 1 < l.length) (hs : ¬ sib i < l.length) : proofF (n + 1) l i = proofF n (upZ l) (i / 2) := by rw [proofF, if_pos h, if_neg hs]; rfl
theorem proofF_end {n : Nat} {l : List Int} {i : Nat} (h : ¬ 1 < l.length) : proofF n l i = [] := by
  cases n with
  | zero => rfl
  | succ n => rw [proofF, if_neg h]
theorem proofF_len : ∀ (n : Nat) (l : List Int) (i : Nat), (proofF n l i).length ≤ n := by
  intro n
  induction n with
  | zero => intro _ _; exact Nat.le_refl _
  | succ n ih =>
    intro l i
    by_cases h : 1 < l.length
    · have := ih (upZ l) (i / 2)
      by_cases hs : sib i < l.length
      · rw [proofF_sib h hs, List.length_cons]; omega
      · rw [proofF_lone h hs]; omega
    · rw [proofF_end h]; simp
theorem pow_half {n k : Nat} (h : k ≤ 2 ^ (n + 1)) : (k + 1) / 2 ≤ 2 ^ n := by rw [Nat.pow_succ] at h; omega
theorem pow_pos' {n k : Nat} (h : k ≤ 2 ^ n) (h1 : 1 < k) : ∃ m, n = m + 1 := by
  cases n with
  | zero => simp at h; omega
  | succ n => exact ⟨n, rfl⟩

theorem checkF_end {n size i : Nat} {x : Int} {p : List Int} (h : ¬ 1 < size) : checkF n size i x p = if p = [] then some x else none := by
  cases n with
  | zero => rfl
  | succ n => simp only [checkF]; rw [if_neg h]
theorem checkF_lone {n size i : Nat} {x : Int} {p : List Int} (h : 1 < size) (hs : ¬ sib i < size) : checkF (n + 1) size i x p = checkF n ((size + 1) / 2) (i / 2) x p := by simp only [checkF]; rw [if_pos h, if_neg hs]
theorem checkF_none {n size i : Nat} {x : Int} (h : 1 < size) (hs : sib i < size) : checkF (n + 1) size i x [] = none := by simp only [checkF]; rw [if_pos h, if_pos hs]
theorem checkF_sib {n size i : Nat} {x q : Int} {r : List Int} (h : 1 < size) (hs : sib i < size) (hq : digB q = true) : checkF (n + 1) size i x (q :: r) = checkF n ((size + 1) / 2) (i / 2) (if i < sib i then pairZ x q else pairZ q x) r := by simp only [checkF]; rw [if_pos h, if_pos hs, if_pos hq]
theorem checkF_bad {n size i : Nat} {x q : Int} {r : List Int} (h : 1 < size) (hs : sib i < size) (hq : digB q = false) : checkF (n + 1) size i x (q :: r) = none := by simp only [checkF]; rw [if_pos h, if_pos hs, if_neg (by simp [hq])]
theorem mcB_yes {root leaf : Int} {size i : Nat} {p : List Int} (h1 : 1 ≤ size) (h2 : size ≤ 16) (h3 : i < size) (h4 : digB leaf = true) : mcB root size i leaf p = decide (checkF 4 size i leaf p = some root) := by
  unfold mcB
  refine decide_eq_decide.2 ⟨fun h => h.2.2.2.2.2, fun h => ⟨by omega, by omega, by omega, by omega, h4, h⟩⟩
theorem mcB_no {root size i leaf : Int} {p : List Int} (h : ¬ (1 ≤ size ∧ size ≤ 16 ∧ 0 ≤ i ∧ i < size ∧ digB leaf = true)) : mcB root size i leaf p = false :=
  decide_eq_false fun h' => h ⟨h'.1, h'.2.1, h'.2.2.1, h'.2.2.2.1, h'.2.2.2.2.1⟩

theorem mrZ_bd (l : List Int) : -1 ≤ mrZ l ∧ mrZ l ≤ 990 := by
  by_cases h : leavesB l = true
  · rw [mrZ_yes h]
    have := digB_bd (rootF_bd 4 l (leavesB_iff h).2 (by have := (leavesB_iff h).1; omega))
    omega
  · rw [mrZ_no (by simpa using h)]; omega
theorem mpZ_len (l : List Int) (i : Int) : (mpZ l i).length ≤ 4 := by
  unfold mpZ; split
  · exact proofF_len _ _ _
  · simp

theorem htZ_yes (s : ByteArray) (h : s.size ≤ 60) : 0 ≤ htZ s ∧ htZ s ≤ 990 := by unfold htZ; rw [if_pos h]; exact txtZ_bd _
theorem htZ_no (s : ByteArray) (h : 60 < s.size) : htZ s = -1 := by unfold htZ; rw [if_neg (by omega)]
theorem htZ_empty : htZ ⟨#[]⟩ = 7 := rfl
theorem hpZ_yes {a b : Int} (h : digB a = true) (h' : digB b = true) : hpZ a b = pairZ a b := by unfold hpZ; rw [if_pos ⟨h, h'⟩]
theorem hpZ_no {a b : Int} (h : ¬ (digB a = true ∧ digB b = true)) : hpZ a b = -1 := by unfold hpZ; rw [if_neg h]

theorem str_ne {s : ByteArray} (h : ¬ s.size = 0) : s.toList.isEmpty = false := by
  rw [ByteArray.toList_eq]
  cases e : s.data.toList with
  | nil => exact absurd (by have := congrArg List.length e; simpa using this) h
  | cons _ _ => rfl
theorem str_nil {s : ByteArray} (h : s.size = 0) : s.toList.isEmpty = true := by
  have e : s.data.toList = [] := List.eq_nil_of_length_eq_zero (by simpa using h)
  rw [ByteArray.toList_eq, e]
  rfl

/-- A text with one byte changed. -/
theorem txt_change (s : ByteArray) (k : Nat) (hk : k < s.size) (c : UInt8) (hc : c ≠ s[k]) (h60 : s.size ≤ 60) (t : ByteArray) (ht : t = s.extract 0 k ++ ⟨#[c]⟩ ++ s.extract (k + 1) s.size) : t.size = s.size ∧ 0 ≤ htZ t ∧ htZ t ≤ 990 ∧ htZ t ≠ htZ s := by
  have hd : t.data.toList = s.data.toList.take k ++ [c] ++ s.data.toList.drop (k + 1) := by
    subst ht
    simp
    exact List.take_of_length_le (by simp)
  have hsd : s.data.toList = s.data.toList.take k ++ [s[k]] ++ s.data.toList.drop (k + 1) := by
    have hk' : k < s.data.toList.length := by simpa using hk
    have h := List.take_append_drop (k + 1) s.data.toList
    rw [List.take_succ_eq_append_getElem hk'] at h
    exact h.symm
  have hsz : t.size = s.size := by
    have h1 := congrArg List.length hd
    simp at h1
    have e1 : s.data.size = s.size := rfl
    have e2 : t.data.size = t.size := rfl
    omega
  have hn := txtZ_byte (s.data.toList.take k) (s.data.toList.drop (k + 1)) hc
  rw [← hd, ← hsd] at hn
  have hb := htZ_yes t (by omega)
  refine ⟨hsz, hb.1, hb.2, ?_⟩
  unfold htZ
  rw [if_pos (show t.size ≤ 60 by omega), if_pos h60]
  exact hn

/-- A byte xor 1, 2 or 3. -/
theorem xor_byte (b : UInt8) (m : Int) (h1 : 1 ≤ m) (h3 : m ≤ 3) : ∃ c : UInt8, bits .xor .u8 (b.toNat : Int) m = (c.toNat : Int) ∧ c ≠ b := by
  have key : ∀ x : Fin 256, ∀ y : Fin 3, bits .xor .u8 (x.val : Int) ((y.val : Int) + 1) = ((x.val ^^^ (y.val + 1) : Nat) : Int) ∧ x.val ^^^ (y.val + 1) ≠ x.val ∧ x.val ^^^ (y.val + 1) < 256 := by decide +kernel
  obtain ⟨hz, hne, hlt⟩ := key ⟨b.toNat, UInt8.toNat_lt b⟩ ⟨(m - 1).toNat, by omega⟩
  simp only at hz hne hlt
  rw [show (((m - 1).toNat : Nat) : Int) + 1 = m by omega] at hz
  generalize b.toNat ^^^ ((m - 1).toNat + 1) = z at hz hne hlt
  refine ⟨UInt8.ofNat z, ?_, ?_⟩
  · rw [UInt8.toNat_ofNat', Nat.mod_eq_of_lt (show z < 2 ^ 8 from hlt), hz]
  · intro e
    apply hne
    rw [← e, UInt8.toNat_ofNat', Nat.mod_eq_of_lt (show z < 2 ^ 8 from hlt)]

theorem wrap_tmod3 (n : Nat) : ∃ m : Int, 1 ≤ m ∧ m ≤ 3 ∧ IntKind.u8.wrap (IntKind.i64.wrap (1 + ((n : Int)).tmod 3)) = m := by
  have e : ((n : Int)).tmod 3 = (n : Int) % 3 := Int.tmod_eq_emod_of_nonneg (by omega)
  refine ⟨1 + (n : Int) % 3, by omega, by omega, ?_⟩
  rw [e, IntWalk.i64_in _ (by omega), IntWalk.u8_in _ (by omega)]

theorem mcB_root {root root' size i leaf : Int} {p : List Int} (h : mcB root size i leaf p = true) (hne : root' ≠ root) : mcB root' size i leaf p = false := by
  have h1 := of_decide_eq_true h
  exact decide_eq_false fun h2 => hne (by
    have := h2.2.2.2.2.2.symm.trans h1.2.2.2.2.2
    simpa using this)
theorem mcB_len {root size i leaf : Int} {p q : List Int} (h : mcB root size i leaf p = true) (hne : q.length ≠ p.length) : mcB root size i leaf q = false := by
  have h1 := of_decide_eq_true h
  exact decide_eq_false fun h2 => hne ((check_len _ _ _ _ _ _ h2.2.2.2.2.2).trans (check_len _ _ _ _ _ _ h1.2.2.2.2.2).symm)
theorem mcB_short {root size i leaf : Int} {p : List Int} (h : mcB root size i leaf p = true) : p.length ≤ 4 := by
  have h1 := of_decide_eq_true h
  rw [check_len _ _ _ _ _ _ h1.2.2.2.2.2]
  exact plen_le _ _ _
theorem leaves_get {l : List Int} (h : leavesB l = true) {i : Nat} (hi : i < l.length) : digB l[i] = true := (leavesB_iff h).2 _ (List.getElem_mem hi)
theorem getD_at {l : List Int} {i : Nat} (hi : i < l.length) : l.getD i 0 = l[i] := by simp [hi]
theorem mc_proof {l : List Int} {i : Nat} (h : leavesB l = true) (hi : i < l.length) : mcB (mrZ l) l.length i l[i] (mpZ l i) = true := by
  obtain ⟨hl, hd⟩ := leavesB_iff h
  rw [mcB_yes (by omega) (by omega) hi (leaves_get h hi), mrZ_yes h, mpZ_yes h hi, ← getD_at hi]
  exact decide_eq_true (check_proof 4 l i hd hi (by omega))
theorem mc_leaf {l : List Int} {i : Nat} {x : Int} (h : leavesB l = true) (hi : i < l.length) (hx : x ≠ l[i]) : mcB (mrZ l) l.length i x (mpZ l i) = false := by
  obtain ⟨hl, hd⟩ := leavesB_iff h
  cases hm : mcB (mrZ l) l.length i x (mpZ l i) with
  | false => rfl
  | true =>
    have h1 := (of_decide_eq_true (mc_proof h hi)).2.2.2.2.2
    have h2 := of_decide_eq_true hm
    exact absurd (check_leaf _ _ _ _ _ _ _ h2.2.2.2.2.1 (leaves_get h hi) h2.2.2.2.2.2 h1) hx

theorem mrZ_pos {l : List Int} (h : leavesB l = true) : 0 ≤ mrZ l ∧ mrZ l ≤ 990 := by
  rw [mrZ_yes h]
  obtain ⟨hl, hd⟩ := leavesB_iff h
  exact digB_bd (rootF_bd 4 l hd (by omega))

theorem mc_leaf' {l : List Int} {i : Int} {x : Int} (h : leavesB l = true) (h0 : 0 ≤ i) (hi : i < l.length) (hx : x ≠ l.getD i.toNat 0) : mcB (mrZ l) l.length i x (mpZ l i) = false := by
  obtain ⟨i, rfl⟩ := Int.eq_ofNat_of_zero_le h0
  have hi' : i < l.length := by omega
  exact mc_leaf h hi' (by rw [← getD_at hi']; exact hx)

end Go.Proofs.Ytgpbogalknmcmaa

/- What spec's functions of digests and hash trees answer, each by a walk of its text: the answers are those of plain functions on lists; conditions: a list that is read has fewer than 2^40 elements, numbers that are paired are digests. -/
namespace Go.Proofs.Ytgpbogalknmcmaa
open Go.RowKit

theorem TI2 : IntT Try.prog 77 3 := ⟨Try.underlying77, by kernel_rfl⟩

theorem spec_l2Digest (n : Int) (w : World) : Calls Try.prog 55 #[.int .i64 n] w fun e w' => e = .returned (.bool (digB n)) ∧ w = w' := by
  go_enter Try.func55, Try.ntmps55
  go_wp2_with (go_at_call 43; refine (spec_l6In _ _ _ _).mono ?_; rintro e w' ⟨rfl, rfl⟩)
  go_ret
  exact ⟨ret_bool (by unfold digB; simp), rfl⟩

end Go.Proofs.Ytgpbogalknmcmaa

/- Votes, voters and tallies as lists of numbers, and the reference's tests of them, each by a walk of its text; conditions: lists are shorter than 2^40, and where the text asks it, the committee is valid. -/
namespace Go.Proofs.Ytgpbogalknmcmaa
open Go.RowKit

/-- A vote: round, author, digest. -/
structure Vt where
  r : Int
  a : Int
  d : Int
deriving DecidableEq
def Vt.fd (v : Vt) : List Fd := [.i v.r, .i v.a, .i v.d]
def vt0 : Vt := ⟨0, 0, 0⟩
def vtRB (r : Int) : Bool := decide (0 ≤ r ∧ r ≤ 30)
def vtAB (a : Int) : Bool := decide (0 ≤ a ∧ a ≤ 6)
def voteB (v : Vt) : Bool := vtRB v.r && (vtAB v.a && digB v.d)
def vbefB (a b : Vt) : Bool := decide (a.r < b.r ∨ a.r = b.r ∧ a.a < b.a)
/-- The vote at k of a voter with this floor is valid, not below the floor and behind the one before it. -/
def okVt (f : Int) (g : List Vt) (i : Nat) : Bool := voteB (g.getD i vt0) && (decide (f ≤ (g.getD i vt0).r) && (i == 0 || vbefB (g.getD (i - 1) vt0) (g.getD i vt0)))
def voterB (f : Int) (g : List Vt) : Bool := allB (okVt f g) g.length && (decide (0 ≤ f ∧ f ≤ 31) && decide (g.length ≤ 40))
def tallyB (c : List Int) (v : Vt) (ms : List Int) : Bool := validB c && (voteB v && membersB c.length ms)
theorem getVt {g : List Vt} {k : Nat} (h : k < g.length) : g.getD k vt0 = g[k] := by simp [List.getD, List.getElem?_eq_getElem h]

/-- A list of votes in memory. -/
def Vts (w : World) (g : List Vt) (v : Value) (fp : List Nat) : Prop := Rd w (rowsD (g.map Vt.fd)) v fp
theorem Vts.under {w w' : World} {g : List Vt} {v : Value} {fp : List Nat} (h : Vts w g v fp) (hb : Below w.heap.size w w') : Vts w' g v fp := Rd.under h hb
theorem Vts.slice {w : World} {g : List Vt} {v : Value} {fp : List Nat} (h : Vts w g v fp) : ∃ a cap, v = .slice a g.length cap := by
  obtain ⟨a, cap, rfl⟩ := Rd.slice h
  exact ⟨a, cap, by simp⟩
theorem Vts.at {w : World} {g : List Vt} {a : Option Addr} {n cap : Nat} {fp : List Nat} (h : Vts w g (.slice a n cap) fp) (hne : 0 < g.length) : ∃ b off, a = some ⟨b, off, none⟩ ∧ b < w.heap.size ∧ ∀ k (hk : k < g.length),
    w.cell? ⟨b, off + k * 3, none⟩ = some (.int .i64 g[k].r) ∧ w.cell? ⟨b, off + k * 3 + 1, none⟩ = some (.int .i64 g[k].a) ∧ w.cell? ⟨b, off + k * 3 + 2, none⟩ = some (.int .i64 g[k].d) := by
  obtain ⟨b, off, rfl, hb, hc⟩ := rows_at (es := g.map Vt.fd) (m := 3) h (by simpa using hne) (fun e he => by obtain ⟨x, _, rfl⟩ := List.mem_map.1 he; rfl)
  refine ⟨b, off, rfl, hb, fun k hk => ?_⟩
  have hk' : k < (g.map Vt.fd).length := by simpa using hk
  have he : (g.map Vt.fd)[k] = g[k].fd := by simp
  obtain ⟨c0, _, h0, r0⟩ := hc k hk' 0 (by rw [he]; simp [Vt.fd])
  obtain ⟨c1, _, h1, r1⟩ := hc k hk' 1 (by rw [he]; simp [Vt.fd])
  obtain ⟨c2, _, h2, r2⟩ := hc k hk' 2 (by rw [he]; simp [Vt.fd])
  obtain rfl := rd_i r0 (x := g[k].r) (by simp only [he]; rfl)
  obtain rfl := rd_i r1 (x := g[k].a) (by simp only [he]; rfl)
  obtain rfl := rd_i r2 (x := g[k].d) (by simp only [he]; rfl)
  exact ⟨h0, h1, h2⟩

theorem spec_l12Vote (r a d : Int) (w : World) :
    Calls Try.prog 37 #[.agg #[.int .i64 r, .int .i64 a, .int .i64 d]] w fun e w' => e = .returned (.bool (voteB ⟨r, a, d⟩)) ∧ Below w.heap.size w w' := by
  have hb0 : Below w.heap.size w (w.alloc (.cells #[.int .i64 r, .int .i64 a, .int .i64 d] 27)) := (Below.refl _ _).alloc (Nat.le_refl _) _
  have s0 := Str.new w 27 #[.int .i64 r, .int .i64 a, .int .i64 d]
  have k0 := s0.cell 0 (v := .int .i64 r) rfl
  have k1 := s0.cell 1 (v := .int .i64 a) rfl
  have k2 := s0.cell 2 (v := .int .i64 d) rfl
  have H1 := Lib.hid (fun W => spec_l6In r 0 30 W)
  have H2 := Lib.hid (fun W => spec_l6In a 0 6 W)
  have H4 := Lib.hid (fun W => spec_l2Digest d W)
  have Hb0 := Lib.hid hb0; clear hb0 s0
  have Hres := Lib.hid (show voteB ⟨r, a, d⟩ = (vtRB r && (vtAB a && digB d)) from rfl)
  go_enter Try.func37, Try.ntmps37
  go_wp2_with fail
  generalize w.alloc (.cells #[.int .i64 r, .int .i64 a, .int .i64 d] 27) = W0 at *
  refine (H1.out W0).mono ?_
  rintro e w1 ⟨rfl, rfl⟩
  rw [show decide (0 ≤ r ∧ r ≤ 30) = vtRB r from rfl]
  cases h1 : vtRB r with
  | false =>
    go_wp2
    go_ret
    exact ⟨ret_bool (by rw [Hres.out, h1]; rfl), Hb0.out⟩
  | true =>
  go_wp2_with fail
  refine (H2.out W0).mono ?_
  rintro e w1 ⟨rfl, rfl⟩
  rw [show decide (0 ≤ a ∧ a ≤ 6) = vtAB a from rfl]
  cases h2 : vtAB a with
  | false =>
    go_wp2
    go_ret
    exact ⟨ret_bool (by rw [Hres.out, h1, h2]; rfl), Hb0.out⟩
  | true =>
  go_wp2_with fail
  refine (H4.out W0).mono ?_
  rintro e w1 ⟨rfl, rfl⟩
  cases h4 : digB d with
  | false =>
    go_wp2
    go_ret
    exact ⟨ret_bool (by rw [Hres.out, h1, h2, h4]; rfl), Hb0.out⟩
  | true =>
  go_wp2
  go_ret
  exact ⟨ret_bool (by rw [Hres.out, h1, h2, h4]; rfl), Hb0.out⟩

theorem spec_l12Before (x y : Vt) (w : World) :
    Calls Try.prog 44 #[.agg #[.int .i64 x.r, .int .i64 x.a, .int .i64 x.d], .agg #[.int .i64 y.r, .int .i64 y.a, .int .i64 y.d]] w fun e w' => e = .returned (.bool (vbefB x y)) ∧ Below w.heap.size w w' := by
  have hb : Below w.heap.size w ((w.alloc (.cells #[.int .i64 x.r, .int .i64 x.a, .int .i64 x.d] 27)).alloc (.cells #[.int .i64 y.r, .int .i64 y.a, .int .i64 y.d] 27)) := ((Below.refl _ w).alloc (Nat.le_refl _) _).alloc (by simp) _
  by_cases h1 : x.r < y.r
  · have hz : vbefB x y = true := decide_eq_true (.inl h1)
    go_enter Try.func44, Try.ntmps44
    go_wp2
    go_ret
    exact ⟨by first | rfl | exact ret_bool (by first | rfl | rw [hz]), hb⟩
  · have h1' : decide (x.r < y.r) = false := decide_eq_false h1
    by_cases h2 : x.r = y.r
    · have hz : vbefB x y = decide (x.a < y.a) := by unfold vbefB; rw [Bool.eq_iff_iff, decide_eq_true_iff, decide_eq_true_iff]; omega
      have h2' : (x.r == y.r) = true := by simpa using h2
      clear h1 h2
      go_enter Try.func44, Try.ntmps44
      go_wp2
      go_ret
      exact ⟨by first | rfl | exact ret_bool (by first | rfl | rw [hz]), hb⟩
    · have hz : vbefB x y = false := decide_eq_false (by omega)
      have h2' : (x.r == y.r) = false := by simpa using h2
      go_enter Try.func44, Try.ntmps44
      go_wp2
      go_ret
      exact ⟨by first | rfl | exact ret_bool (by first | rfl | rw [hz]), hb⟩

end Go.Proofs.Ytgpbogalknmcmaa

/- The reference's test of voters, by a walk of its text; conditions: lists are shorter than 2^40. -/
namespace Go.Proofs.Ytgpbogalknmcmaa
open Go.RowKit

set_option maxHeartbeats 2000000 in
theorem spec_VoterValid (f : Int) (g : List Vt) (v : Value) (fp : List Nat) (w : World) (hbig : g.length ≤ 1099511627776) (hg : Vts w g v fp) :
    Calls Try.prog 21 #[.agg #[.int .i64 f, v]] w fun e w' => e = .returned (.bool (voterB f g)) ∧ Below w.heap.size w w' := by
  obtain ⟨va, vc, rfl⟩ := hg.slice
  have hb0 : Below w.heap.size w (w.alloc (.cells #[.int .i64 f, .slice va g.length vc] 25)) := (Below.refl _ _).alloc (Nat.le_refl _) _
  have s0 := Str.new w 25 #[.int .i64 f, .slice va g.length vc]
  have hsz0 : (w.alloc (.cells #[.int .i64 f, .slice va g.length vc] 25)).heap.size = w.heap.size + 1 := by simp
  have Hres := Lib.hid (show voterB f g = (allB (okVt f g) g.length && (decide (0 ≤ f ∧ f ≤ 31) && decide (g.length ≤ 40))) from rfl)
  have Hg := Lib.hid (hg.under hb0); clear hg
  have Hb0 := Lib.hid hb0; clear hb0
  have Hs0 := Lib.hid s0; clear s0
  have HI := Lib.hid (fun W => spec_l6In f 0 31 W)
  go_enter Try.func21, Try.ntmps21
  go_wp2
  generalize w.alloc (.cells #[.int .i64 f, .slice va g.length vc] 25) = W0 at *
  go_loopw [3] (fun i wr => ∃ k : Nat, k ≤ g.length ∧ i = .int .i64 k ∧ Upto (okVt f g) k ∧ Below W0.heap.size W0 wr) (fun i _ => g.length - (intOf i).toNat)
  case atStart => exact ⟨0, by omega, rfl, upto_zero _, Below.refl _ _⟩
  case round =>
    obtain ⟨k, hk, rfl, hup, hbel⟩ := hrel
    have s1 := (hbel.block _ Hs0.out.lt).trans Hs0.out
    have z0 := Str.cell s1 0 (v := .int .i64 f) rfl
    have z1 := Str.cell s1 1 (v := .slice va g.length vc) rfl
    have hwl : w.heap.size < wr.heap.size := by have := hbel.size; omega
    clear s1
    by_cases hlt : k < g.length
    · have Hg1 := Lib.hid (Hg.out.under hbel)
      obtain ⟨b, off, rfl, hb, hat⟩ := Hg1.out.at (by omega)
      obtain ⟨c0, c1, c2⟩ := hat k hlt
      have hgk := getVt hlt
      have hok : okVt f g k = (voteB g[k] && (decide (f ≤ g[k].r) && (k == 0 || vbefB (g.getD (k - 1) vt0) g[k]))) := by unfold okVt; rw [hgk]
      have Hat := Lib.hid hat; clear hat hgk
      have Hbel := Lib.hid hbel; clear hbel
      have Hup := Lib.hid hup; clear hup
      have HV := Lib.hid (fun W => spec_l12Vote g[k].r g[k].a g[k].d W)
      have HB := Lib.hid (fun (x : Vt) W => spec_l12Before x g[k] W)
      have Hok := Lib.hid hok; clear hok
      have hb0 : Below wr.heap.size wr wr.drew := (Below.refl _ _).drew
      have Hbs := Lib.hid (fun w' (h : Below wr.heap.size wr w') => Nat.lt_of_lt_of_le hb h.size)
      have Hws := Lib.hid (fun w' (h : Below wr.heap.size wr w') => Nat.lt_of_lt_of_le hwl h.size)
      clear hb hwl
      generalize hx : g[k] = x at *
      obtain ⟨xr, xa, xd⟩ := x
      dsimp only at *
      clear hx
      cases h1 : voteB ⟨xr, xa, xd⟩ with
      | false =>
        rw [h1] at HV
        go_wp2_with fail
        refine wp_region_held_drew (S := fun w' => Below wr.heap.size wr w' ∧ w'.cell? ⟨w.heap.size, 0, none⟩ = some (.int .i64 f) ∧ w'.cell? ⟨w.heap.size, 1, none⟩ = some (.slice (some ⟨b, off, none⟩) g.length vc) ∧ w'.cell? ⟨b, off + k * 3, none⟩ = some (.int .i64 xr) ∧ w'.cell? ⟨b, off + k * 3 + 1, none⟩ = some (.int .i64 xa) ∧ w'.cell? ⟨b, off + k * 3 + 2, none⟩ = some (.int .i64 xd)) (by kernel_rfl) ⟨hb0, z0, z1, c0, c1, c2⟩ (fun hH => ?_)
        refine takeH 0 (v := ?va0) rfl (by kernel_rfl) (by kernel_rfl) (by kernel_rfl) (fun _ _ _ h => h) hH rfl ?ya0 ?ra0
        case ya0 => intro W hSw; go_simp; try with_reducible rfl
        try simp only [Act.put, List.setIfInBounds_toArray, List.set_cons_zero, List.set_cons_succ]
        refine takeH 1 (v := ?va1) rfl (by kernel_rfl) (by kernel_rfl) (by kernel_rfl) (fun _ _ _ h => h) hH rfl ?ya1 ?ra1
        case ya1 => intro W hSw; go_simp; try with_reducible rfl
        try simp only [Act.put, List.setIfInBounds_toArray, List.set_cons_zero, List.set_cons_succ]
        refine takeH 2 (v := ?va2) rfl (by kernel_rfl) (by kernel_rfl) (by kernel_rfl) (fun _ _ _ h => h) hH rfl ?ya2 ?ra2
        case ya2 => intro W hSw; go_simp; try with_reducible rfl
        try simp only [Act.put, List.setIfInBounds_toArray, List.set_cons_zero, List.set_cons_succ]
        refine takeH 3 (v := ?va3) rfl (by kernel_rfl) (by kernel_rfl) (by kernel_rfl) (fun _ _ _ h => h) hH rfl ?ya3 ?ra3
        case ya3 => intro W hSw; go_simp; try with_reducible rfl
        try simp only [Act.put, List.setIfInBounds_toArray, List.set_cons_zero, List.set_cons_succ]
        refine takeH 4 (v := ?va4) rfl (by kernel_rfl) (by kernel_rfl) (by kernel_rfl) (fun _ _ _ h => h) hH rfl ?ya4 ?ra4
        case ya4 => intro W hSw; go_simp; try with_reducible rfl
        try simp only [Act.put, List.setIfInBounds_toArray, List.set_cons_zero, List.set_cons_succ]
        refine callH 5 rfl (by kernel_rfl) rfl (fun K hK => ?_)
        go_simp
        go_at_call 37
        refine (HV.out _).mono ?_
        rintro e wx ⟨rfl, hbx⟩
        refine hK.out _ _ ⟨hH.1.trans (hbx.mono hH.1.size), (hbx.cell (p := ⟨w.heap.size, 0, none⟩) (Hws.out _ hH.1)).trans hH.2.1, (hbx.cell (p := ⟨w.heap.size, 1, none⟩) (Hws.out _ hH.1)).trans hH.2.2.1, (hbx.cell (p := ⟨b, off + k * 3, none⟩) (Hbs.out _ hH.1)).trans hH.2.2.2.1, (hbx.cell (p := ⟨b, off + k * 3 + 1, none⟩) (Hbs.out _ hH.1)).trans hH.2.2.2.2.1, (hbx.cell (p := ⟨b, off + k * 3 + 2, none⟩) (Hbs.out _ hH.1)).trans hH.2.2.2.2.2⟩ (fun hH => ?_)
        clear hK K
        try simp only [Act.put, List.setIfInBounds_toArray, List.set_cons_zero, List.set_cons_succ]
        refine takeH 6 (v := ?va6) rfl (by kernel_rfl) (by kernel_rfl) (by kernel_rfl) (fun _ _ _ h => h) hH rfl ?ya6 ?ra6
        case ya6 => intro W hSw; go_simp; try with_reducible rfl
        try simp only [Act.put, List.setIfInBounds_toArray, List.set_cons_zero, List.set_cons_succ]
        refine takeH 7 (v := ?va7) rfl (by kernel_rfl) (by kernel_rfl) (by kernel_rfl) (fun _ _ _ h => h) hH rfl ?ya7 ?ra7
        case ya7 => intro W hSw; go_simp; try with_reducible rfl
        try simp only [Act.put, List.setIfInBounds_toArray, List.set_cons_zero, List.set_cons_succ]
        refine skipH 8 rfl (by kernel_rfl) (by kernel_rfl) (by kernel_rfl) (fun _ _ _ h => h) hH rfl ?_
        try simp only [Act.put, List.setIfInBounds_toArray, List.set_cons_zero, List.set_cons_succ]
        refine skipH 9 rfl (by kernel_rfl) (by kernel_rfl) (by kernel_rfl) (fun _ _ _ h => h) hH rfl ?_
        try simp only [Act.put, List.setIfInBounds_toArray, List.set_cons_zero, List.set_cons_succ]
        refine skipH 10 rfl (by kernel_rfl) (by kernel_rfl) (by kernel_rfl) (fun _ _ _ h => h) hH rfl ?_
        try simp only [Act.put, List.setIfInBounds_toArray, List.set_cons_zero, List.set_cons_succ]
        refine skipH 11 rfl (by kernel_rfl) (by kernel_rfl) (by kernel_rfl) (fun _ _ _ h => h) hH rfl ?_
        try simp only [Act.put, List.setIfInBounds_toArray, List.set_cons_zero, List.set_cons_succ]
        refine skipH 12 rfl (by kernel_rfl) (by kernel_rfl) (by kernel_rfl) (fun _ _ _ h => h) hH rfl ?_
        try simp only [Act.put, List.setIfInBounds_toArray, List.set_cons_zero, List.set_cons_succ]
        refine skipH 13 rfl (by kernel_rfl) (by kernel_rfl) (by kernel_rfl) (fun _ _ _ h => h) hH rfl ?_
        try simp only [Act.put, List.setIfInBounds_toArray, List.set_cons_zero, List.set_cons_succ]
        refine skipH 14 rfl (by kernel_rfl) (by kernel_rfl) (by kernel_rfl) (fun _ _ _ h => h) hH rfl ?_
        try simp only [Act.put, List.setIfInBounds_toArray, List.set_cons_zero, List.set_cons_succ]
        refine skipH 15 rfl (by kernel_rfl) (by kernel_rfl) (by kernel_rfl) (fun _ _ _ h => h) hH rfl ?_
        try simp only [Act.put, List.setIfInBounds_toArray, List.set_cons_zero, List.set_cons_succ]
        refine skipH 16 rfl (by kernel_rfl) (by kernel_rfl) (by kernel_rfl) (fun _ _ _ h => h) hH rfl ?_
        try simp only [Act.put, List.setIfInBounds_toArray, List.set_cons_zero, List.set_cons_succ]
        refine takeH 17 (v := ?va17) rfl (by kernel_rfl) (by kernel_rfl) (by kernel_rfl) (fun _ _ _ h => h) hH rfl ?ya17 ?ra17
        case ya17 => intro W hSw; go_simp; try with_reducible rfl
        try simp only [Act.put, List.setIfInBounds_toArray, List.set_cons_zero, List.set_cons_succ]
        refine takeH 18 (v := ?va18) rfl (by kernel_rfl) (by kernel_rfl) (by kernel_rfl) (fun _ _ _ h => h) hH rfl ?ya18 ?ra18
        case ya18 => intro W hSw; go_simp; try with_reducible rfl
        try simp only [Act.put, List.setIfInBounds_toArray, List.set_cons_zero, List.set_cons_succ]
        refine skipH 19 rfl (by kernel_rfl) (by kernel_rfl) (by kernel_rfl) (fun _ _ _ h => h) hH rfl ?_
        try simp only [Act.put, List.setIfInBounds_toArray, List.set_cons_zero, List.set_cons_succ]
        refine skipH 20 rfl (by kernel_rfl) (by kernel_rfl) (by kernel_rfl) (fun _ _ _ h => h) hH rfl ?_
        try simp only [Act.put, List.setIfInBounds_toArray, List.set_cons_zero, List.set_cons_succ]
        refine skipH 21 rfl (by kernel_rfl) (by kernel_rfl) (by kernel_rfl) (fun _ _ _ h => h) hH rfl ?_
        try simp only [Act.put, List.setIfInBounds_toArray, List.set_cons_zero, List.set_cons_succ]
        refine skipH 22 rfl (by kernel_rfl) (by kernel_rfl) (by kernel_rfl) (fun _ _ _ h => h) hH rfl ?_
        try simp only [Act.put, List.setIfInBounds_toArray, List.set_cons_zero, List.set_cons_succ]
        refine skipH 23 rfl (by kernel_rfl) (by kernel_rfl) (by kernel_rfl) (fun _ _ _ h => h) hH rfl ?_
        try simp only [Act.put, List.setIfInBounds_toArray, List.set_cons_zero, List.set_cons_succ]
        refine skipH 24 rfl (by kernel_rfl) (by kernel_rfl) (by kernel_rfl) (fun _ _ _ h => h) hH rfl ?_
        try simp only [Act.put, List.setIfInBounds_toArray, List.set_cons_zero, List.set_cons_succ]
        refine skipH 25 rfl (by kernel_rfl) (by kernel_rfl) (by kernel_rfl) (fun _ _ _ h => h) hH rfl ?_
        try simp only [Act.put, List.setIfInBounds_toArray, List.set_cons_zero, List.set_cons_succ]
        refine skipH 26 rfl (by kernel_rfl) (by kernel_rfl) (by kernel_rfl) (fun _ _ _ h => h) hH rfl ?_
        try simp only [Act.put, List.setIfInBounds_toArray, List.set_cons_zero, List.set_cons_succ]
        refine skipH 27 rfl (by kernel_rfl) (by kernel_rfl) (by kernel_rfl) (fun _ _ _ h => h) hH rfl ?_
        try simp only [Act.put, List.setIfInBounds_toArray, List.set_cons_zero, List.set_cons_succ]
        refine skipH 28 rfl (by kernel_rfl) (by kernel_rfl) (by kernel_rfl) (fun _ _ _ h => h) hH rfl ?_
        try simp only [Act.put, List.setIfInBounds_toArray, List.set_cons_zero, List.set_cons_succ]
        refine skipH 29 rfl (by kernel_rfl) (by kernel_rfl) (by kernel_rfl) (fun _ _ _ h => h) hH rfl ?_
        try simp only [Act.put, List.setIfInBounds_toArray, List.set_cons_zero, List.set_cons_succ]
        refine skipH 30 rfl (by kernel_rfl) (by kernel_rfl) (by kernel_rfl) (fun _ _ _ h => h) hH rfl ?_
        try simp only [Act.put, List.setIfInBounds_toArray, List.set_cons_zero, List.set_cons_succ]
        refine skipH 31 rfl (by kernel_rfl) (by kernel_rfl) (by kernel_rfl) (fun _ _ _ h => h) hH rfl ?_
        try simp only [Act.put, List.setIfInBounds_toArray, List.set_cons_zero, List.set_cons_succ]
        refine skipH 32 rfl (by kernel_rfl) (by kernel_rfl) (by kernel_rfl) (fun _ _ _ h => h) hH rfl ?_
        try simp only [Act.put, List.setIfInBounds_toArray, List.set_cons_zero, List.set_cons_succ]
        refine skipH 33 rfl (by kernel_rfl) (by kernel_rfl) (by kernel_rfl) (fun _ _ _ h => h) hH rfl ?_
        try simp only [Act.put, List.setIfInBounds_toArray, List.set_cons_zero, List.set_cons_succ]
        refine skipH 34 rfl (by kernel_rfl) (by kernel_rfl) (by kernel_rfl) (fun _ _ _ h => h) hH rfl ?_
        try simp only [Act.put, List.setIfInBounds_toArray, List.set_cons_zero, List.set_cons_succ]
        refine skipH 35 rfl (by kernel_rfl) (by kernel_rfl) (by kernel_rfl) (fun _ _ _ h => h) hH rfl ?_
        try simp only [Act.put, List.setIfInBounds_toArray, List.set_cons_zero, List.set_cons_succ]
        refine takeH 36 (v := ?va36) rfl (by kernel_rfl) (by kernel_rfl) (by kernel_rfl) (fun _ _ _ h => h) hH rfl ?ya36 ?ra36
        case ya36 => intro W hSw; go_simp; try with_reducible rfl
        try simp only [Act.put, List.setIfInBounds_toArray, List.set_cons_zero, List.set_cons_succ]
        refine wpAnyH_done (by kernel_rfl) ?_ _
        try simp only [Act.put]
        have hz := allB_no hlt (show okVt f g k = false by rw [Hok.out, h1]; rfl)
        go_wp2
        go_ret
        exact ⟨ret_bool (by rw [Hres.out, hz]; rfl), Hb0.out.trans ((below_step Hbel.out Hbel.out.size hH.1).mono (by omega))⟩
      | true =>
      rw [h1] at HV
      by_cases h2 : xr < f
      · have hlo : decide (xr < f) = true := decide_eq_true h2
        go_wp2_with fail
        refine wp_region_held_drew (S := fun w' => Below wr.heap.size wr w' ∧ w'.cell? ⟨w.heap.size, 0, none⟩ = some (.int .i64 f) ∧ w'.cell? ⟨w.heap.size, 1, none⟩ = some (.slice (some ⟨b, off, none⟩) g.length vc) ∧ w'.cell? ⟨b, off + k * 3, none⟩ = some (.int .i64 xr) ∧ w'.cell? ⟨b, off + k * 3 + 1, none⟩ = some (.int .i64 xa) ∧ w'.cell? ⟨b, off + k * 3 + 2, none⟩ = some (.int .i64 xd)) (by kernel_rfl) ⟨hb0, z0, z1, c0, c1, c2⟩ (fun hH => ?_)
        refine takeH 0 (v := ?vb0) rfl (by kernel_rfl) (by kernel_rfl) (by kernel_rfl) (fun _ _ _ h => h) hH rfl ?yb0 ?rb0
        case yb0 => intro W hSw; go_simp; try with_reducible rfl
        try simp only [Act.put, List.setIfInBounds_toArray, List.set_cons_zero, List.set_cons_succ]
        refine takeH 1 (v := ?vb1) rfl (by kernel_rfl) (by kernel_rfl) (by kernel_rfl) (fun _ _ _ h => h) hH rfl ?yb1 ?rb1
        case yb1 => intro W hSw; go_simp; try with_reducible rfl
        try simp only [Act.put, List.setIfInBounds_toArray, List.set_cons_zero, List.set_cons_succ]
        refine takeH 2 (v := ?vb2) rfl (by kernel_rfl) (by kernel_rfl) (by kernel_rfl) (fun _ _ _ h => h) hH rfl ?yb2 ?rb2
        case yb2 => intro W hSw; go_simp; try with_reducible rfl
        try simp only [Act.put, List.setIfInBounds_toArray, List.set_cons_zero, List.set_cons_succ]
        refine takeH 3 (v := ?vb3) rfl (by kernel_rfl) (by kernel_rfl) (by kernel_rfl) (fun _ _ _ h => h) hH rfl ?yb3 ?rb3
        case yb3 => intro W hSw; go_simp; try with_reducible rfl
        try simp only [Act.put, List.setIfInBounds_toArray, List.set_cons_zero, List.set_cons_succ]
        refine takeH 4 (v := ?vb4) rfl (by kernel_rfl) (by kernel_rfl) (by kernel_rfl) (fun _ _ _ h => h) hH rfl ?yb4 ?rb4
        case yb4 => intro W hSw; go_simp; try with_reducible rfl
        try simp only [Act.put, List.setIfInBounds_toArray, List.set_cons_zero, List.set_cons_succ]
        refine callH 5 rfl (by kernel_rfl) rfl (fun K hK => ?_)
        go_simp
        go_at_call 37
        refine (HV.out _).mono ?_
        rintro e wx ⟨rfl, hbx⟩
        refine hK.out _ _ ⟨hH.1.trans (hbx.mono hH.1.size), (hbx.cell (p := ⟨w.heap.size, 0, none⟩) (Hws.out _ hH.1)).trans hH.2.1, (hbx.cell (p := ⟨w.heap.size, 1, none⟩) (Hws.out _ hH.1)).trans hH.2.2.1, (hbx.cell (p := ⟨b, off + k * 3, none⟩) (Hbs.out _ hH.1)).trans hH.2.2.2.1, (hbx.cell (p := ⟨b, off + k * 3 + 1, none⟩) (Hbs.out _ hH.1)).trans hH.2.2.2.2.1, (hbx.cell (p := ⟨b, off + k * 3 + 2, none⟩) (Hbs.out _ hH.1)).trans hH.2.2.2.2.2⟩ (fun hH => ?_)
        clear hK K
        try simp only [Act.put, List.setIfInBounds_toArray, List.set_cons_zero, List.set_cons_succ]
        refine takeH 6 (v := ?vb6) rfl (by kernel_rfl) (by kernel_rfl) (by kernel_rfl) (fun _ _ _ h => h) hH rfl ?yb6 ?rb6
        case yb6 => intro W hSw; go_simp; try with_reducible rfl
        try simp only [Act.put, List.setIfInBounds_toArray, List.set_cons_zero, List.set_cons_succ]
        refine takeH 7 (v := ?vb7) rfl (by kernel_rfl) (by kernel_rfl) (by kernel_rfl) (fun _ _ _ h => h) hH rfl ?yb7 ?rb7
        case yb7 => intro W hSw; go_simp; try with_reducible rfl
        try simp only [Act.put, List.setIfInBounds_toArray, List.set_cons_zero, List.set_cons_succ]
        refine takeH 8 (v := ?vb8) rfl (by kernel_rfl) (by kernel_rfl) (by kernel_rfl) (fun _ _ _ h => h) hH rfl ?yb8 ?rb8
        case yb8 => intro W hSw; go_simp; try with_reducible rfl
        try simp only [Act.put, List.setIfInBounds_toArray, List.set_cons_zero, List.set_cons_succ]
        refine takeH 9 (v := ?vb9) rfl (by kernel_rfl) (by kernel_rfl) (by kernel_rfl) (fun _ _ _ h => h) hH rfl ?yb9 ?rb9
        case yb9 => intro W hSw; go_simp; try with_reducible rfl
        try simp only [Act.put, List.setIfInBounds_toArray, List.set_cons_zero, List.set_cons_succ]
        refine takeH 10 (v := ?vb10) rfl (by kernel_rfl) (by kernel_rfl) (by kernel_rfl) (fun _ _ _ h => h) hH rfl ?yb10 ?rb10
        case yb10 => intro W hSw; go_simp; try with_reducible rfl
        try simp only [Act.put, List.setIfInBounds_toArray, List.set_cons_zero, List.set_cons_succ]
        refine takeH 11 (v := ?vb11) rfl (by kernel_rfl) (by kernel_rfl) (by kernel_rfl) (fun _ _ _ h => h) hH rfl ?yb11 ?rb11
        case yb11 => intro W hSw; go_simp; try with_reducible rfl
        try simp only [Act.put, List.setIfInBounds_toArray, List.set_cons_zero, List.set_cons_succ]
        refine takeH 12 (v := ?vb12) rfl (by kernel_rfl) (by kernel_rfl) (by kernel_rfl) (fun _ _ _ h => h) hH rfl ?yb12 ?rb12
        case yb12 => intro W hSw; go_simp; try with_reducible rfl
        try simp only [Act.put, List.setIfInBounds_toArray, List.set_cons_zero, List.set_cons_succ]
        refine takeH 13 (v := ?vb13) rfl (by kernel_rfl) (by kernel_rfl) (by kernel_rfl) (fun _ _ _ h => h) hH rfl ?yb13 ?rb13
        case yb13 => intro W hSw; go_simp; try with_reducible rfl
        try simp only [Act.put, List.setIfInBounds_toArray, List.set_cons_zero, List.set_cons_succ]
        refine takeH 14 (v := ?vb14) rfl (by kernel_rfl) (by kernel_rfl) (by kernel_rfl) (fun _ _ _ h => h) hH rfl ?yb14 ?rb14
        case yb14 => intro W hSw; go_simp; try with_reducible rfl
        try simp only [Act.put, List.setIfInBounds_toArray, List.set_cons_zero, List.set_cons_succ]
        refine takeH 15 (v := ?vb15) rfl (by kernel_rfl) (by kernel_rfl) (by kernel_rfl) (fun _ _ _ h => h) hH rfl ?yb15 ?rb15
        case yb15 => intro W hSw; go_simp; try with_reducible rfl
        try simp only [Act.put, List.setIfInBounds_toArray, List.set_cons_zero, List.set_cons_succ]
        refine takeH 16 (v := .bool true) rfl (by kernel_rfl) (by kernel_rfl) (by kernel_rfl) (fun _ _ _ h => h) hH rfl ?yb16 ?rb16
        case yb16 => intro W hSw; go_simp; first | done | simp only [hlo] | omega | (simp; omega)
        try simp only [Act.put, List.setIfInBounds_toArray, List.set_cons_zero, List.set_cons_succ]
        refine takeH 17 (v := ?vb17) rfl (by kernel_rfl) (by kernel_rfl) (by kernel_rfl) (fun _ _ _ h => h) hH rfl ?yb17 ?rb17
        case yb17 => intro W hSw; go_simp; try with_reducible rfl
        try simp only [Act.put, List.setIfInBounds_toArray, List.set_cons_zero, List.set_cons_succ]
        refine takeH 18 (v := ?vb18) rfl (by kernel_rfl) (by kernel_rfl) (by kernel_rfl) (fun _ _ _ h => h) hH rfl ?yb18 ?rb18
        case yb18 => intro W hSw; go_simp; try with_reducible rfl
        try simp only [Act.put, List.setIfInBounds_toArray, List.set_cons_zero, List.set_cons_succ]
        refine skipH 19 rfl (by kernel_rfl) (by kernel_rfl) (by kernel_rfl) (fun _ _ _ h => h) hH rfl ?_
        try simp only [Act.put, List.setIfInBounds_toArray, List.set_cons_zero, List.set_cons_succ]
        refine skipH 20 rfl (by kernel_rfl) (by kernel_rfl) (by kernel_rfl) (fun _ _ _ h => h) hH rfl ?_
        try simp only [Act.put, List.setIfInBounds_toArray, List.set_cons_zero, List.set_cons_succ]
        refine skipH 21 rfl (by kernel_rfl) (by kernel_rfl) (by kernel_rfl) (fun _ _ _ h => h) hH rfl ?_
        try simp only [Act.put, List.setIfInBounds_toArray, List.set_cons_zero, List.set_cons_succ]
        refine skipH 22 rfl (by kernel_rfl) (by kernel_rfl) (by kernel_rfl) (fun _ _ _ h => h) hH rfl ?_
        try simp only [Act.put, List.setIfInBounds_toArray, List.set_cons_zero, List.set_cons_succ]
        refine skipH 23 rfl (by kernel_rfl) (by kernel_rfl) (by kernel_rfl) (fun _ _ _ h => h) hH rfl ?_
        try simp only [Act.put, List.setIfInBounds_toArray, List.set_cons_zero, List.set_cons_succ]
        refine skipH 24 rfl (by kernel_rfl) (by kernel_rfl) (by kernel_rfl) (fun _ _ _ h => h) hH rfl ?_
        try simp only [Act.put, List.setIfInBounds_toArray, List.set_cons_zero, List.set_cons_succ]
        refine skipH 25 rfl (by kernel_rfl) (by kernel_rfl) (by kernel_rfl) (fun _ _ _ h => h) hH rfl ?_
        try simp only [Act.put, List.setIfInBounds_toArray, List.set_cons_zero, List.set_cons_succ]
        refine skipH 26 rfl (by kernel_rfl) (by kernel_rfl) (by kernel_rfl) (fun _ _ _ h => h) hH rfl ?_
        try simp only [Act.put, List.setIfInBounds_toArray, List.set_cons_zero, List.set_cons_succ]
        refine skipH 27 rfl (by kernel_rfl) (by kernel_rfl) (by kernel_rfl) (fun _ _ _ h => h) hH rfl ?_
        try simp only [Act.put, List.setIfInBounds_toArray, List.set_cons_zero, List.set_cons_succ]
        refine skipH 28 rfl (by kernel_rfl) (by kernel_rfl) (by kernel_rfl) (fun _ _ _ h => h) hH rfl ?_
        try simp only [Act.put, List.setIfInBounds_toArray, List.set_cons_zero, List.set_cons_succ]
        refine skipH 29 rfl (by kernel_rfl) (by kernel_rfl) (by kernel_rfl) (fun _ _ _ h => h) hH rfl ?_
        try simp only [Act.put, List.setIfInBounds_toArray, List.set_cons_zero, List.set_cons_succ]
        refine skipH 30 rfl (by kernel_rfl) (by kernel_rfl) (by kernel_rfl) (fun _ _ _ h => h) hH rfl ?_
        try simp only [Act.put, List.setIfInBounds_toArray, List.set_cons_zero, List.set_cons_succ]
        refine skipH 31 rfl (by kernel_rfl) (by kernel_rfl) (by kernel_rfl) (fun _ _ _ h => h) hH rfl ?_
        try simp only [Act.put, List.setIfInBounds_toArray, List.set_cons_zero, List.set_cons_succ]
        refine skipH 32 rfl (by kernel_rfl) (by kernel_rfl) (by kernel_rfl) (fun _ _ _ h => h) hH rfl ?_
        try simp only [Act.put, List.setIfInBounds_toArray, List.set_cons_zero, List.set_cons_succ]
        refine skipH 33 rfl (by kernel_rfl) (by kernel_rfl) (by kernel_rfl) (fun _ _ _ h => h) hH rfl ?_
        try simp only [Act.put, List.setIfInBounds_toArray, List.set_cons_zero, List.set_cons_succ]
        refine skipH 34 rfl (by kernel_rfl) (by kernel_rfl) (by kernel_rfl) (fun _ _ _ h => h) hH rfl ?_
        try simp only [Act.put, List.setIfInBounds_toArray, List.set_cons_zero, List.set_cons_succ]
        refine skipH 35 rfl (by kernel_rfl) (by kernel_rfl) (by kernel_rfl) (fun _ _ _ h => h) hH rfl ?_
        try simp only [Act.put, List.setIfInBounds_toArray, List.set_cons_zero, List.set_cons_succ]
        refine takeH 36 (v := ?vb36) rfl (by kernel_rfl) (by kernel_rfl) (by kernel_rfl) (fun _ _ _ h => h) hH rfl ?yb36 ?rb36
        case yb36 => intro W hSw; go_simp; try with_reducible rfl
        try simp only [Act.put, List.setIfInBounds_toArray, List.set_cons_zero, List.set_cons_succ]
        refine wpAnyH_done (by kernel_rfl) ?_ _
        try simp only [Act.put]
        have hz := allB_no hlt (show okVt f g k = false by rw [Hok.out, h1, decide_eq_false (show ¬ f ≤ xr by omega)]; rfl)
        go_wp2
        go_ret
        exact ⟨ret_bool (by rw [Hres.out, hz]; rfl), Hb0.out.trans ((below_step Hbel.out Hbel.out.size hH.1).mono (by omega))⟩
      have hlo : decide (xr < f) = false := decide_eq_false h2
      have hw1 : IntKind.i64.wrap ((k : Int) - 1) = k - 1 := IntWalk.i64_in _ (by omega)
      by_cases h0 : k = 0
      · have hgt : decide ((0 : Int) < (k : Int)) = false := decide_eq_false (by omega)
        have hgt' : ¬ (0 : Int) < (k : Int) := by omega
        have hok : okVt f g k = true := by rw [Hok.out, h1, h0, decide_eq_true (show f ≤ xr by omega)]; rfl
        have Hok := Lib.hid hok; clear hok hw1
        have H0 := Lib.hid h0; clear h0
        go_wp2_with fail
        refine wp_region_held_drew (S := fun w' => Below wr.heap.size wr w' ∧ w'.cell? ⟨w.heap.size, 0, none⟩ = some (.int .i64 f) ∧ w'.cell? ⟨w.heap.size, 1, none⟩ = some (.slice (some ⟨b, off, none⟩) g.length vc) ∧ w'.cell? ⟨b, off + k * 3, none⟩ = some (.int .i64 xr) ∧ w'.cell? ⟨b, off + k * 3 + 1, none⟩ = some (.int .i64 xa) ∧ w'.cell? ⟨b, off + k * 3 + 2, none⟩ = some (.int .i64 xd)) (by kernel_rfl) ⟨hb0, z0, z1, c0, c1, c2⟩ (fun hH => ?_)
        refine takeH 0 (v := ?vc0) rfl (by kernel_rfl) (by kernel_rfl) (by kernel_rfl) (fun _ _ _ h => h) hH rfl ?yc0 ?rc0
        case yc0 => intro W hSw; go_simp; try with_reducible rfl
        try simp only [Act.put, List.setIfInBounds_toArray, List.set_cons_zero, List.set_cons_succ]
        refine takeH 1 (v := ?vc1) rfl (by kernel_rfl) (by kernel_rfl) (by kernel_rfl) (fun _ _ _ h => h) hH rfl ?yc1 ?rc1
        case yc1 => intro W hSw; go_simp; try with_reducible rfl
        try simp only [Act.put, List.setIfInBounds_toArray, List.set_cons_zero, List.set_cons_succ]
        refine takeH 2 (v := ?vc2) rfl (by kernel_rfl) (by kernel_rfl) (by kernel_rfl) (fun _ _ _ h => h) hH rfl ?yc2 ?rc2
        case yc2 => intro W hSw; go_simp; try with_reducible rfl
        try simp only [Act.put, List.setIfInBounds_toArray, List.set_cons_zero, List.set_cons_succ]
        refine takeH 3 (v := ?vc3) rfl (by kernel_rfl) (by kernel_rfl) (by kernel_rfl) (fun _ _ _ h => h) hH rfl ?yc3 ?rc3
        case yc3 => intro W hSw; go_simp; try with_reducible rfl
        try simp only [Act.put, List.setIfInBounds_toArray, List.set_cons_zero, List.set_cons_succ]
        refine takeH 4 (v := ?vc4) rfl (by kernel_rfl) (by kernel_rfl) (by kernel_rfl) (fun _ _ _ h => h) hH rfl ?yc4 ?rc4
        case yc4 => intro W hSw; go_simp; try with_reducible rfl
        try simp only [Act.put, List.setIfInBounds_toArray, List.set_cons_zero, List.set_cons_succ]
        refine callH 5 rfl (by kernel_rfl) rfl (fun K hK => ?_)
        go_simp
        go_at_call 37
        refine (HV.out _).mono ?_
        rintro e wx ⟨rfl, hbx⟩
        refine hK.out _ _ ⟨hH.1.trans (hbx.mono hH.1.size), (hbx.cell (p := ⟨w.heap.size, 0, none⟩) (Hws.out _ hH.1)).trans hH.2.1, (hbx.cell (p := ⟨w.heap.size, 1, none⟩) (Hws.out _ hH.1)).trans hH.2.2.1, (hbx.cell (p := ⟨b, off + k * 3, none⟩) (Hbs.out _ hH.1)).trans hH.2.2.2.1, (hbx.cell (p := ⟨b, off + k * 3 + 1, none⟩) (Hbs.out _ hH.1)).trans hH.2.2.2.2.1, (hbx.cell (p := ⟨b, off + k * 3 + 2, none⟩) (Hbs.out _ hH.1)).trans hH.2.2.2.2.2⟩ (fun hH => ?_)
        clear hK K
        try simp only [Act.put, List.setIfInBounds_toArray, List.set_cons_zero, List.set_cons_succ]
        refine takeH 6 (v := ?vc6) rfl (by kernel_rfl) (by kernel_rfl) (by kernel_rfl) (fun _ _ _ h => h) hH rfl ?yc6 ?rc6
        case yc6 => intro W hSw; go_simp; try with_reducible rfl
        try simp only [Act.put, List.setIfInBounds_toArray, List.set_cons_zero, List.set_cons_succ]
        refine takeH 7 (v := ?vc7) rfl (by kernel_rfl) (by kernel_rfl) (by kernel_rfl) (fun _ _ _ h => h) hH rfl ?yc7 ?rc7
        case yc7 => intro W hSw; go_simp; try with_reducible rfl
        try simp only [Act.put, List.setIfInBounds_toArray, List.set_cons_zero, List.set_cons_succ]
        refine takeH 8 (v := ?vc8) rfl (by kernel_rfl) (by kernel_rfl) (by kernel_rfl) (fun _ _ _ h => h) hH rfl ?yc8 ?rc8
        case yc8 => intro W hSw; go_simp; try with_reducible rfl
        try simp only [Act.put, List.setIfInBounds_toArray, List.set_cons_zero, List.set_cons_succ]
        refine takeH 9 (v := ?vc9) rfl (by kernel_rfl) (by kernel_rfl) (by kernel_rfl) (fun _ _ _ h => h) hH rfl ?yc9 ?rc9
        case yc9 => intro W hSw; go_simp; try with_reducible rfl
        try simp only [Act.put, List.setIfInBounds_toArray, List.set_cons_zero, List.set_cons_succ]
        refine takeH 10 (v := ?vc10) rfl (by kernel_rfl) (by kernel_rfl) (by kernel_rfl) (fun _ _ _ h => h) hH rfl ?yc10 ?rc10
        case yc10 => intro W hSw; go_simp; try with_reducible rfl
        try simp only [Act.put, List.setIfInBounds_toArray, List.set_cons_zero, List.set_cons_succ]
        refine takeH 11 (v := ?vc11) rfl (by kernel_rfl) (by kernel_rfl) (by kernel_rfl) (fun _ _ _ h => h) hH rfl ?yc11 ?rc11
        case yc11 => intro W hSw; go_simp; try with_reducible rfl
        try simp only [Act.put, List.setIfInBounds_toArray, List.set_cons_zero, List.set_cons_succ]
        refine takeH 12 (v := ?vc12) rfl (by kernel_rfl) (by kernel_rfl) (by kernel_rfl) (fun _ _ _ h => h) hH rfl ?yc12 ?rc12
        case yc12 => intro W hSw; go_simp; try with_reducible rfl
        try simp only [Act.put, List.setIfInBounds_toArray, List.set_cons_zero, List.set_cons_succ]
        refine takeH 13 (v := ?vc13) rfl (by kernel_rfl) (by kernel_rfl) (by kernel_rfl) (fun _ _ _ h => h) hH rfl ?yc13 ?rc13
        case yc13 => intro W hSw; go_simp; try with_reducible rfl
        try simp only [Act.put, List.setIfInBounds_toArray, List.set_cons_zero, List.set_cons_succ]
        refine takeH 14 (v := ?vc14) rfl (by kernel_rfl) (by kernel_rfl) (by kernel_rfl) (fun _ _ _ h => h) hH rfl ?yc14 ?rc14
        case yc14 => intro W hSw; go_simp; try with_reducible rfl
        try simp only [Act.put, List.setIfInBounds_toArray, List.set_cons_zero, List.set_cons_succ]
        refine takeH 15 (v := ?vc15) rfl (by kernel_rfl) (by kernel_rfl) (by kernel_rfl) (fun _ _ _ h => h) hH rfl ?yc15 ?rc15
        case yc15 => intro W hSw; go_simp; try with_reducible rfl
        try simp only [Act.put, List.setIfInBounds_toArray, List.set_cons_zero, List.set_cons_succ]
        refine takeH 16 (v := .bool false) rfl (by kernel_rfl) (by kernel_rfl) (by kernel_rfl) (fun _ _ _ h => h) hH rfl ?yc16 ?rc16
        case yc16 => intro W hSw; go_simp; first | done | simp only [hlo] | omega | (simp; omega)
        try simp only [Act.put, List.setIfInBounds_toArray, List.set_cons_zero, List.set_cons_succ]
        refine takeH 17 (v := ?vc17) rfl (by kernel_rfl) (by kernel_rfl) (by kernel_rfl) (fun _ _ _ h => h) hH rfl ?yc17 ?rc17
        case yc17 => intro W hSw; go_simp; try with_reducible rfl
        try simp only [Act.put, List.setIfInBounds_toArray, List.set_cons_zero, List.set_cons_succ]
        refine takeH 18 (v := ?vc18) rfl (by kernel_rfl) (by kernel_rfl) (by kernel_rfl) (fun _ _ _ h => h) hH rfl ?yc18 ?rc18
        case yc18 => intro W hSw; go_simp; try with_reducible rfl
        try simp only [Act.put, List.setIfInBounds_toArray, List.set_cons_zero, List.set_cons_succ]
        refine takeH 19 (v := ?vc19) rfl (by kernel_rfl) (by kernel_rfl) (by kernel_rfl) (fun _ _ _ h => h) hH rfl ?yc19 ?rc19
        case yc19 => intro W hSw; go_simp; try with_reducible rfl
        try simp only [Act.put, List.setIfInBounds_toArray, List.set_cons_zero, List.set_cons_succ]
        refine takeH 20 (v := .bool false) rfl (by kernel_rfl) (by kernel_rfl) (by kernel_rfl) (fun _ _ _ h => h) hH rfl ?yc20 ?rc20
        case yc20 => intro W hSw; go_simp; first | done | simp only [hgt] | omega | (simp; omega)
        try simp only [Act.put, List.setIfInBounds_toArray, List.set_cons_zero, List.set_cons_succ]
        refine takeH 21 (v := ?vc21) rfl (by kernel_rfl) (by kernel_rfl) (by kernel_rfl) (fun _ _ _ h => h) hH rfl ?yc21 ?rc21
        case yc21 => intro W hSw; go_simp; try with_reducible rfl
        try simp only [Act.put, List.setIfInBounds_toArray, List.set_cons_zero, List.set_cons_succ]
        refine skipH 22 rfl (by kernel_rfl) (by kernel_rfl) (by kernel_rfl) (fun _ _ _ h => h) hH rfl ?_
        try simp only [Act.put, List.setIfInBounds_toArray, List.set_cons_zero, List.set_cons_succ]
        refine skipH 23 rfl (by kernel_rfl) (by kernel_rfl) (by kernel_rfl) (fun _ _ _ h => h) hH rfl ?_
        try simp only [Act.put, List.setIfInBounds_toArray, List.set_cons_zero, List.set_cons_succ]
        refine skipH 24 rfl (by kernel_rfl) (by kernel_rfl) (by kernel_rfl) (fun _ _ _ h => h) hH rfl ?_
        try simp only [Act.put, List.setIfInBounds_toArray, List.set_cons_zero, List.set_cons_succ]
        refine skipH 25 rfl (by kernel_rfl) (by kernel_rfl) (by kernel_rfl) (fun _ _ _ h => h) hH rfl ?_
        try simp only [Act.put, List.setIfInBounds_toArray, List.set_cons_zero, List.set_cons_succ]
        refine skipH 26 rfl (by kernel_rfl) (by kernel_rfl) (by kernel_rfl) (fun _ _ _ h => h) hH rfl ?_
        try simp only [Act.put, List.setIfInBounds_toArray, List.set_cons_zero, List.set_cons_succ]
        refine skipH 27 rfl (by kernel_rfl) (by kernel_rfl) (by kernel_rfl) (fun _ _ _ h => h) hH rfl ?_
        try simp only [Act.put, List.setIfInBounds_toArray, List.set_cons_zero, List.set_cons_succ]
        refine skipH 28 rfl (by kernel_rfl) (by kernel_rfl) (by kernel_rfl) (fun _ _ _ h => h) hH rfl ?_
        try simp only [Act.put, List.setIfInBounds_toArray, List.set_cons_zero, List.set_cons_succ]
        refine skipH 29 rfl (by kernel_rfl) (by kernel_rfl) (by kernel_rfl) (fun _ _ _ h => h) hH rfl ?_
        try simp only [Act.put, List.setIfInBounds_toArray, List.set_cons_zero, List.set_cons_succ]
        refine skipH 30 rfl (by kernel_rfl) (by kernel_rfl) (by kernel_rfl) (fun _ _ _ h => h) hH rfl ?_
        try simp only [Act.put, List.setIfInBounds_toArray, List.set_cons_zero, List.set_cons_succ]
        refine skipH 31 rfl (by kernel_rfl) (by kernel_rfl) (by kernel_rfl) (fun _ _ _ h => h) hH rfl ?_
        try simp only [Act.put, List.setIfInBounds_toArray, List.set_cons_zero, List.set_cons_succ]
        refine skipH 32 rfl (by kernel_rfl) (by kernel_rfl) (by kernel_rfl) (fun _ _ _ h => h) hH rfl ?_
        try simp only [Act.put, List.setIfInBounds_toArray, List.set_cons_zero, List.set_cons_succ]
        refine skipH 33 rfl (by kernel_rfl) (by kernel_rfl) (by kernel_rfl) (fun _ _ _ h => h) hH rfl ?_
        try simp only [Act.put, List.setIfInBounds_toArray, List.set_cons_zero, List.set_cons_succ]
        refine skipH 34 rfl (by kernel_rfl) (by kernel_rfl) (by kernel_rfl) (fun _ _ _ h => h) hH rfl ?_
        try simp only [Act.put, List.setIfInBounds_toArray, List.set_cons_zero, List.set_cons_succ]
        refine takeH 35 (v := ?vc35) rfl (by kernel_rfl) (by kernel_rfl) (by kernel_rfl) (fun _ _ _ h => h) hH rfl ?yc35 ?rc35
        case yc35 => intro W hSw; go_simp; try with_reducible rfl
        try simp only [Act.put, List.setIfInBounds_toArray, List.set_cons_zero, List.set_cons_succ]
        refine takeH 36 (v := ?vc36) rfl (by kernel_rfl) (by kernel_rfl) (by kernel_rfl) (fun _ _ _ h => h) hH rfl ?yc36 ?rc36
        case yc36 => intro W hSw; go_simp; try with_reducible rfl
        try simp only [Act.put, List.setIfInBounds_toArray, List.set_cons_zero, List.set_cons_succ]
        refine wpAnyH_done (by kernel_rfl) ?_ _
        try simp only [Act.put]
        go_wp2
        go_roundw
        case rel => exact ⟨k + 1, by omega, by go_num, upto_step Hup.out Hok.out, below_step Hbel.out Hbel.out.size hH.1⟩
        case measure => simp [intOf]; omega
      · have hgt : decide ((0 : Int) < (k : Int)) = true := decide_eq_true (by omega)
        have hgt' : (0 : Int) < (k : Int) := by omega
        obtain ⟨d0, d1, d2⟩ := Hat.out (k - 1) (by omega)
        have hgy := getVt (show k - 1 < g.length by omega)
        have hok : okVt f g k = vbefB g[k - 1] ⟨xr, xa, xd⟩ := by rw [Hok.out, h1, hgy, show (k == 0) = false by simpa using h0, decide_eq_true (show f ≤ xr by omega)]; rfl
        have Hok := Lib.hid hok; clear hok hgy
        have HB := Lib.hid (HB.out g[k - 1])
        generalize hy : g[k - 1] = y at *
        obtain ⟨yr, ya, yd⟩ := y
        dsimp only at *
        clear hy
        have e3 : ((k : Int) - 1).toNat = k - 1 := by omega
        have e4 : 0 ≤ (k : Int) - 1 := by omega
        have e5 : 1 ≤ (k : Int) := by omega
        have e6 : (k : Int) - 1 < g.length := by omega
        cases h3 : vbefB ⟨yr, ya, yd⟩ ⟨xr, xa, xd⟩ with
        | false =>
          rw [h3] at HB
          go_wp2_with fail
          refine wp_region_held_drew (S := fun w' => Below wr.heap.size wr w' ∧ w'.cell? ⟨w.heap.size, 0, none⟩ = some (.int .i64 f) ∧ w'.cell? ⟨w.heap.size, 1, none⟩ = some (.slice (some ⟨b, off, none⟩) g.length vc) ∧ w'.cell? ⟨b, off + k * 3, none⟩ = some (.int .i64 xr) ∧ w'.cell? ⟨b, off + k * 3 + 1, none⟩ = some (.int .i64 xa) ∧ w'.cell? ⟨b, off + k * 3 + 2, none⟩ = some (.int .i64 xd) ∧ w'.cell? ⟨b, off + (k - 1) * 3, none⟩ = some (.int .i64 yr) ∧ w'.cell? ⟨b, off + (k - 1) * 3 + 1, none⟩ = some (.int .i64 ya) ∧ w'.cell? ⟨b, off + (k - 1) * 3 + 2, none⟩ = some (.int .i64 yd)) (by kernel_rfl) ⟨hb0, z0, z1, c0, c1, c2, d0, d1, d2⟩ (fun hH => ?_)
          refine takeH 0 (v := ?vd0) rfl (by kernel_rfl) (by kernel_rfl) (by kernel_rfl) (fun _ _ _ h => h) hH rfl ?yd0 ?rd0
          case yd0 => intro W hSw; go_simp; try with_reducible rfl
          try simp only [Act.put, List.setIfInBounds_toArray, List.set_cons_zero, List.set_cons_succ]
          refine takeH 1 (v := ?vd1) rfl (by kernel_rfl) (by kernel_rfl) (by kernel_rfl) (fun _ _ _ h => h) hH rfl ?yd1 ?rd1
          case yd1 => intro W hSw; go_simp; try with_reducible rfl
          try simp only [Act.put, List.setIfInBounds_toArray, List.set_cons_zero, List.set_cons_succ]
          refine takeH 2 (v := ?vd2) rfl (by kernel_rfl) (by kernel_rfl) (by kernel_rfl) (fun _ _ _ h => h) hH rfl ?yd2 ?rd2
          case yd2 => intro W hSw; go_simp; try with_reducible rfl
          try simp only [Act.put, List.setIfInBounds_toArray, List.set_cons_zero, List.set_cons_succ]
          refine takeH 3 (v := ?vd3) rfl (by kernel_rfl) (by kernel_rfl) (by kernel_rfl) (fun _ _ _ h => h) hH rfl ?yd3 ?rd3
          case yd3 => intro W hSw; go_simp; try with_reducible rfl
          try simp only [Act.put, List.setIfInBounds_toArray, List.set_cons_zero, List.set_cons_succ]
          refine takeH 4 (v := ?vd4) rfl (by kernel_rfl) (by kernel_rfl) (by kernel_rfl) (fun _ _ _ h => h) hH rfl ?yd4 ?rd4
          case yd4 => intro W hSw; go_simp; try with_reducible rfl
          try simp only [Act.put, List.setIfInBounds_toArray, List.set_cons_zero, List.set_cons_succ]
          refine callH 5 rfl (by kernel_rfl) rfl (fun K hK => ?_)
          go_simp
          go_at_call 37
          refine (HV.out _).mono ?_
          rintro e wx ⟨rfl, hbx⟩
          refine hK.out _ _ ⟨hH.1.trans (hbx.mono hH.1.size), (hbx.cell (p := ⟨w.heap.size, 0, none⟩) (Hws.out _ hH.1)).trans hH.2.1, (hbx.cell (p := ⟨w.heap.size, 1, none⟩) (Hws.out _ hH.1)).trans hH.2.2.1, (hbx.cell (p := ⟨b, off + k * 3, none⟩) (Hbs.out _ hH.1)).trans hH.2.2.2.1, (hbx.cell (p := ⟨b, off + k * 3 + 1, none⟩) (Hbs.out _ hH.1)).trans hH.2.2.2.2.1, (hbx.cell (p := ⟨b, off + k * 3 + 2, none⟩) (Hbs.out _ hH.1)).trans hH.2.2.2.2.2.1, (hbx.cell (p := ⟨b, off + (k - 1) * 3, none⟩) (Hbs.out _ hH.1)).trans hH.2.2.2.2.2.2.1, (hbx.cell (p := ⟨b, off + (k - 1) * 3 + 1, none⟩) (Hbs.out _ hH.1)).trans hH.2.2.2.2.2.2.2.1, (hbx.cell (p := ⟨b, off + (k - 1) * 3 + 2, none⟩) (Hbs.out _ hH.1)).trans hH.2.2.2.2.2.2.2.2⟩ (fun hH => ?_)
          clear hK K
          try simp only [Act.put, List.setIfInBounds_toArray, List.set_cons_zero, List.set_cons_succ]
          refine takeH 6 (v := ?vd6) rfl (by kernel_rfl) (by kernel_rfl) (by kernel_rfl) (fun _ _ _ h => h) hH rfl ?yd6 ?rd6
          case yd6 => intro W hSw; go_simp; try with_reducible rfl
          try simp only [Act.put, List.setIfInBounds_toArray, List.set_cons_zero, List.set_cons_succ]
          refine takeH 7 (v := ?vd7) rfl (by kernel_rfl) (by kernel_rfl) (by kernel_rfl) (fun _ _ _ h => h) hH rfl ?yd7 ?rd7
          case yd7 => intro W hSw; go_simp; try with_reducible rfl
          try simp only [Act.put, List.setIfInBounds_toArray, List.set_cons_zero, List.set_cons_succ]
          refine takeH 8 (v := ?vd8) rfl (by kernel_rfl) (by kernel_rfl) (by kernel_rfl) (fun _ _ _ h => h) hH rfl ?yd8 ?rd8
          case yd8 => intro W hSw; go_simp; try with_reducible rfl
          try simp only [Act.put, List.setIfInBounds_toArray, List.set_cons_zero, List.set_cons_succ]
          refine takeH 9 (v := ?vd9) rfl (by kernel_rfl) (by kernel_rfl) (by kernel_rfl) (fun _ _ _ h => h) hH rfl ?yd9 ?rd9
          case yd9 => intro W hSw; go_simp; try with_reducible rfl
          try simp only [Act.put, List.setIfInBounds_toArray, List.set_cons_zero, List.set_cons_succ]
          refine takeH 10 (v := ?vd10) rfl (by kernel_rfl) (by kernel_rfl) (by kernel_rfl) (fun _ _ _ h => h) hH rfl ?yd10 ?rd10
          case yd10 => intro W hSw; go_simp; try with_reducible rfl
          try simp only [Act.put, List.setIfInBounds_toArray, List.set_cons_zero, List.set_cons_succ]
          refine takeH 11 (v := ?vd11) rfl (by kernel_rfl) (by kernel_rfl) (by kernel_rfl) (fun _ _ _ h => h) hH rfl ?yd11 ?rd11
          case yd11 => intro W hSw; go_simp; try with_reducible rfl
          try simp only [Act.put, List.setIfInBounds_toArray, List.set_cons_zero, List.set_cons_succ]
          refine takeH 12 (v := ?vd12) rfl (by kernel_rfl) (by kernel_rfl) (by kernel_rfl) (fun _ _ _ h => h) hH rfl ?yd12 ?rd12
          case yd12 => intro W hSw; go_simp; try with_reducible rfl
          try simp only [Act.put, List.setIfInBounds_toArray, List.set_cons_zero, List.set_cons_succ]
          refine takeH 13 (v := ?vd13) rfl (by kernel_rfl) (by kernel_rfl) (by kernel_rfl) (fun _ _ _ h => h) hH rfl ?yd13 ?rd13
          case yd13 => intro W hSw; go_simp; try with_reducible rfl
          try simp only [Act.put, List.setIfInBounds_toArray, List.set_cons_zero, List.set_cons_succ]
          refine takeH 14 (v := ?vd14) rfl (by kernel_rfl) (by kernel_rfl) (by kernel_rfl) (fun _ _ _ h => h) hH rfl ?yd14 ?rd14
          case yd14 => intro W hSw; go_simp; try with_reducible rfl
          try simp only [Act.put, List.setIfInBounds_toArray, List.set_cons_zero, List.set_cons_succ]
          refine takeH 15 (v := ?vd15) rfl (by kernel_rfl) (by kernel_rfl) (by kernel_rfl) (fun _ _ _ h => h) hH rfl ?yd15 ?rd15
          case yd15 => intro W hSw; go_simp; try with_reducible rfl
          try simp only [Act.put, List.setIfInBounds_toArray, List.set_cons_zero, List.set_cons_succ]
          refine takeH 16 (v := .bool false) rfl (by kernel_rfl) (by kernel_rfl) (by kernel_rfl) (fun _ _ _ h => h) hH rfl ?yd16 ?rd16
          case yd16 => intro W hSw; go_simp; first | done | simp only [hlo] | omega | (simp; omega)
          try simp only [Act.put, List.setIfInBounds_toArray, List.set_cons_zero, List.set_cons_succ]
          refine takeH 17 (v := ?vd17) rfl (by kernel_rfl) (by kernel_rfl) (by kernel_rfl) (fun _ _ _ h => h) hH rfl ?yd17 ?rd17
          case yd17 => intro W hSw; go_simp; try with_reducible rfl
          try simp only [Act.put, List.setIfInBounds_toArray, List.set_cons_zero, List.set_cons_succ]
          refine takeH 18 (v := ?vd18) rfl (by kernel_rfl) (by kernel_rfl) (by kernel_rfl) (fun _ _ _ h => h) hH rfl ?yd18 ?rd18
          case yd18 => intro W hSw; go_simp; try with_reducible rfl
          try simp only [Act.put, List.setIfInBounds_toArray, List.set_cons_zero, List.set_cons_succ]
          refine takeH 19 (v := ?vd19) rfl (by kernel_rfl) (by kernel_rfl) (by kernel_rfl) (fun _ _ _ h => h) hH rfl ?yd19 ?rd19
          case yd19 => intro W hSw; go_simp; try with_reducible rfl
          try simp only [Act.put, List.setIfInBounds_toArray, List.set_cons_zero, List.set_cons_succ]
          refine takeH 20 (v := .bool true) rfl (by kernel_rfl) (by kernel_rfl) (by kernel_rfl) (fun _ _ _ h => h) hH rfl ?yd20 ?rd20
          case yd20 => intro W hSw; go_simp; first | done | simp only [hgt] | omega | (simp; omega)
          try simp only [Act.put, List.setIfInBounds_toArray, List.set_cons_zero, List.set_cons_succ]
          refine takeH 21 (v := ?vd21) rfl (by kernel_rfl) (by kernel_rfl) (by kernel_rfl) (fun _ _ _ h => h) hH rfl ?yd21 ?rd21
          case yd21 => intro W hSw; go_simp; try with_reducible rfl
          try simp only [Act.put, List.setIfInBounds_toArray, List.set_cons_zero, List.set_cons_succ]
          refine takeH 22 (v := ?vd22) rfl (by kernel_rfl) (by kernel_rfl) (by kernel_rfl) (fun _ _ _ h => h) hH rfl ?yd22 ?rd22
          case yd22 => intro W hSw; go_simp; try with_reducible rfl
          try simp only [Act.put, List.setIfInBounds_toArray, List.set_cons_zero, List.set_cons_succ]
          refine takeH 23 (v := ?vd23) rfl (by kernel_rfl) (by kernel_rfl) (by kernel_rfl) (fun _ _ _ h => h) hH rfl ?yd23 ?rd23
          case yd23 => intro W hSw; go_simp; try with_reducible rfl
          try simp only [Act.put, List.setIfInBounds_toArray, List.set_cons_zero, List.set_cons_succ]
          refine takeH 24 (v := ?vd24) rfl (by kernel_rfl) (by kernel_rfl) (by kernel_rfl) (fun _ _ _ h => h) hH rfl ?yd24 ?rd24
          case yd24 => intro W hSw; go_simp; try with_reducible rfl
          try simp only [Act.put, List.setIfInBounds_toArray, List.set_cons_zero, List.set_cons_succ]
          refine takeH 25 (v := ?vd25) rfl (by kernel_rfl) (by kernel_rfl) (by kernel_rfl) (fun _ _ _ h => h) hH rfl ?yd25 ?rd25
          case yd25 => intro W hSw; go_simp; try with_reducible rfl
          try simp only [Act.put, List.setIfInBounds_toArray, List.set_cons_zero, List.set_cons_succ]
          refine takeH 26 (v := ?vd26) rfl (by kernel_rfl) (by kernel_rfl) (by kernel_rfl) (fun _ _ _ h => h) hH rfl ?yd26 ?rd26
          case yd26 => intro W hSw; go_simp; try with_reducible rfl
          try simp only [Act.put, List.setIfInBounds_toArray, List.set_cons_zero, List.set_cons_succ]
          refine takeH 27 (v := ?vd27) rfl (by kernel_rfl) (by kernel_rfl) (by kernel_rfl) (fun _ _ _ h => h) hH rfl ?yd27 ?rd27
          case yd27 => intro W hSw; go_simp; try with_reducible rfl
          try simp only [Act.put, List.setIfInBounds_toArray, List.set_cons_zero, List.set_cons_succ]
          refine takeH 28 (v := ?vd28) rfl (by kernel_rfl) (by kernel_rfl) (by kernel_rfl) (fun _ _ _ h => h) hH rfl ?yd28 ?rd28
          case yd28 => intro W hSw; go_simp; try with_reducible rfl
          try simp only [Act.put, List.setIfInBounds_toArray, List.set_cons_zero, List.set_cons_succ]
          refine takeH 29 (v := ?vd29) rfl (by kernel_rfl) (by kernel_rfl) (by kernel_rfl) (fun _ _ _ h => h) hH rfl ?yd29 ?rd29
          case yd29 => intro W hSw; go_simp; try with_reducible rfl
          try simp only [Act.put, List.setIfInBounds_toArray, List.set_cons_zero, List.set_cons_succ]
          refine takeH 30 (v := ?vd30) rfl (by kernel_rfl) (by kernel_rfl) (by kernel_rfl) (fun _ _ _ h => h) hH rfl ?yd30 ?rd30
          case yd30 => intro W hSw; go_simp; try with_reducible rfl
          try simp only [Act.put, List.setIfInBounds_toArray, List.set_cons_zero, List.set_cons_succ]
          refine takeH 31 (v := ?vd31) rfl (by kernel_rfl) (by kernel_rfl) (by kernel_rfl) (fun _ _ _ h => h) hH rfl ?yd31 ?rd31
          case yd31 => intro W hSw; go_simp; try with_reducible rfl
          try simp only [Act.put, List.setIfInBounds_toArray, List.set_cons_zero, List.set_cons_succ]
          refine takeH 32 (v := ?vd32) rfl (by kernel_rfl) (by kernel_rfl) (by kernel_rfl) (fun _ _ _ h => h) hH rfl ?yd32 ?rd32
          case yd32 => intro W hSw; go_simp; try with_reducible rfl
          try simp only [Act.put, List.setIfInBounds_toArray, List.set_cons_zero, List.set_cons_succ]
          refine callH 33 rfl (by kernel_rfl) rfl (fun K hK => ?_)
          go_simp
          go_at_call 44
          refine (HB.out _).mono ?_
          rintro e wx ⟨rfl, hbx⟩
          refine hK.out _ _ ⟨hH.1.trans (hbx.mono hH.1.size), (hbx.cell (p := ⟨w.heap.size, 0, none⟩) (Hws.out _ hH.1)).trans hH.2.1, (hbx.cell (p := ⟨w.heap.size, 1, none⟩) (Hws.out _ hH.1)).trans hH.2.2.1, (hbx.cell (p := ⟨b, off + k * 3, none⟩) (Hbs.out _ hH.1)).trans hH.2.2.2.1, (hbx.cell (p := ⟨b, off + k * 3 + 1, none⟩) (Hbs.out _ hH.1)).trans hH.2.2.2.2.1, (hbx.cell (p := ⟨b, off + k * 3 + 2, none⟩) (Hbs.out _ hH.1)).trans hH.2.2.2.2.2.1, (hbx.cell (p := ⟨b, off + (k - 1) * 3, none⟩) (Hbs.out _ hH.1)).trans hH.2.2.2.2.2.2.1, (hbx.cell (p := ⟨b, off + (k - 1) * 3 + 1, none⟩) (Hbs.out _ hH.1)).trans hH.2.2.2.2.2.2.2.1, (hbx.cell (p := ⟨b, off + (k - 1) * 3 + 2, none⟩) (Hbs.out _ hH.1)).trans hH.2.2.2.2.2.2.2.2⟩ (fun hH => ?_)
          clear hK K
          try simp only [Act.put, List.setIfInBounds_toArray, List.set_cons_zero, List.set_cons_succ]
          refine takeH 34 (v := ?vd34) rfl (by kernel_rfl) (by kernel_rfl) (by kernel_rfl) (fun _ _ _ h => h) hH rfl ?yd34 ?rd34
          case yd34 => intro W hSw; go_simp; try with_reducible rfl
          try simp only [Act.put, List.setIfInBounds_toArray, List.set_cons_zero, List.set_cons_succ]
          refine takeH 35 (v := ?vd35) rfl (by kernel_rfl) (by kernel_rfl) (by kernel_rfl) (fun _ _ _ h => h) hH rfl ?yd35 ?rd35
          case yd35 => intro W hSw; go_simp; try with_reducible rfl
          try simp only [Act.put, List.setIfInBounds_toArray, List.set_cons_zero, List.set_cons_succ]
          refine takeH 36 (v := ?vd36) rfl (by kernel_rfl) (by kernel_rfl) (by kernel_rfl) (fun _ _ _ h => h) hH rfl ?yd36 ?rd36
          case yd36 => intro W hSw; go_simp; try with_reducible rfl
          try simp only [Act.put, List.setIfInBounds_toArray, List.set_cons_zero, List.set_cons_succ]
          refine wpAnyH_done (by kernel_rfl) ?_ _
          try simp only [Act.put]
          have hz := allB_no hlt (show okVt f g k = false by rw [Hok.out, h3])
          go_wp2
          go_ret
          exact ⟨ret_bool (by rw [Hres.out, hz]; rfl), Hb0.out.trans ((below_step Hbel.out Hbel.out.size hH.1).mono (by omega))⟩
        | true =>
          rw [h3] at HB
          go_wp2_with fail
          refine wp_region_held_drew (S := fun w' => Below wr.heap.size wr w' ∧ w'.cell? ⟨w.heap.size, 0, none⟩ = some (.int .i64 f) ∧ w'.cell? ⟨w.heap.size, 1, none⟩ = some (.slice (some ⟨b, off, none⟩) g.length vc) ∧ w'.cell? ⟨b, off + k * 3, none⟩ = some (.int .i64 xr) ∧ w'.cell? ⟨b, off + k * 3 + 1, none⟩ = some (.int .i64 xa) ∧ w'.cell? ⟨b, off + k * 3 + 2, none⟩ = some (.int .i64 xd) ∧ w'.cell? ⟨b, off + (k - 1) * 3, none⟩ = some (.int .i64 yr) ∧ w'.cell? ⟨b, off + (k - 1) * 3 + 1, none⟩ = some (.int .i64 ya) ∧ w'.cell? ⟨b, off + (k - 1) * 3 + 2, none⟩ = some (.int .i64 yd)) (by kernel_rfl) ⟨hb0, z0, z1, c0, c1, c2, d0, d1, d2⟩ (fun hH => ?_)
          refine takeH 0 (v := ?ve0) rfl (by kernel_rfl) (by kernel_rfl) (by kernel_rfl) (fun _ _ _ h => h) hH rfl ?ye0 ?re0
          case ye0 => intro W hSw; go_simp; try with_reducible rfl
          try simp only [Act.put, List.setIfInBounds_toArray, List.set_cons_zero, List.set_cons_succ]
          refine takeH 1 (v := ?ve1) rfl (by kernel_rfl) (by kernel_rfl) (by kernel_rfl) (fun _ _ _ h => h) hH rfl ?ye1 ?re1
          case ye1 => intro W hSw; go_simp; try with_reducible rfl
          try simp only [Act.put, List.setIfInBounds_toArray, List.set_cons_zero, List.set_cons_succ]
          refine takeH 2 (v := ?ve2) rfl (by kernel_rfl) (by kernel_rfl) (by kernel_rfl) (fun _ _ _ h => h) hH rfl ?ye2 ?re2
          case ye2 => intro W hSw; go_simp; try with_reducible rfl
          try simp only [Act.put, List.setIfInBounds_toArray, List.set_cons_zero, List.set_cons_succ]
          refine takeH 3 (v := ?ve3) rfl (by kernel_rfl) (by kernel_rfl) (by kernel_rfl) (fun _ _ _ h => h) hH rfl ?ye3 ?re3
          case ye3 => intro W hSw; go_simp; try with_reducible rfl
          try simp only [Act.put, List.setIfInBounds_toArray, List.set_cons_zero, List.set_cons_succ]
          refine takeH 4 (v := ?ve4) rfl (by kernel_rfl) (by kernel_rfl) (by kernel_rfl) (fun _ _ _ h => h) hH rfl ?ye4 ?re4
          case ye4 => intro W hSw; go_simp; try with_reducible rfl
          try simp only [Act.put, List.setIfInBounds_toArray, List.set_cons_zero, List.set_cons_succ]
          refine callH 5 rfl (by kernel_rfl) rfl (fun K hK => ?_)
          go_simp
          go_at_call 37
          refine (HV.out _).mono ?_
          rintro e wx ⟨rfl, hbx⟩
          refine hK.out _ _ ⟨hH.1.trans (hbx.mono hH.1.size), (hbx.cell (p := ⟨w.heap.size, 0, none⟩) (Hws.out _ hH.1)).trans hH.2.1, (hbx.cell (p := ⟨w.heap.size, 1, none⟩) (Hws.out _ hH.1)).trans hH.2.2.1, (hbx.cell (p := ⟨b, off + k * 3, none⟩) (Hbs.out _ hH.1)).trans hH.2.2.2.1, (hbx.cell (p := ⟨b, off + k * 3 + 1, none⟩) (Hbs.out _ hH.1)).trans hH.2.2.2.2.1, (hbx.cell (p := ⟨b, off + k * 3 + 2, none⟩) (Hbs.out _ hH.1)).trans hH.2.2.2.2.2.1, (hbx.cell (p := ⟨b, off + (k - 1) * 3, none⟩) (Hbs.out _ hH.1)).trans hH.2.2.2.2.2.2.1, (hbx.cell (p := ⟨b, off + (k - 1) * 3 + 1, none⟩) (Hbs.out _ hH.1)).trans hH.2.2.2.2.2.2.2.1, (hbx.cell (p := ⟨b, off + (k - 1) * 3 + 2, none⟩) (Hbs.out _ hH.1)).trans hH.2.2.2.2.2.2.2.2⟩ (fun hH => ?_)
          clear hK K
          try simp only [Act.put, List.setIfInBounds_toArray, List.set_cons_zero, List.set_cons_succ]
          refine takeH 6 (v := ?ve6) rfl (by kernel_rfl) (by kernel_rfl) (by kernel_rfl) (fun _ _ _ h => h) hH rfl ?ye6 ?re6
          case ye6 => intro W hSw; go_simp; try with_reducible rfl
          try simp only [Act.put, List.setIfInBounds_toArray, List.set_cons_zero, List.set_cons_succ]
          refine takeH 7 (v := ?ve7) rfl (by kernel_rfl) (by kernel_rfl) (by kernel_rfl) (fun _ _ _ h => h) hH rfl ?ye7 ?re7
          case ye7 => intro W hSw; go_simp; try with_reducible rfl
          try simp only [Act.put, List.setIfInBounds_toArray, List.set_cons_zero, List.set_cons_succ]
          refine takeH 8 (v := ?ve8) rfl (by kernel_rfl) (by kernel_rfl) (by kernel_rfl) (fun _ _ _ h => h) hH rfl ?ye8 ?re8
          case ye8 => intro W hSw; go_simp; try with_reducible rfl
          try simp only [Act.put, List.setIfInBounds_toArray, List.set_cons_zero, List.set_cons_succ]
          refine takeH 9 (v := ?ve9) rfl (by kernel_rfl) (by kernel_rfl) (by kernel_rfl) (fun _ _ _ h => h) hH rfl ?ye9 ?re9
          case ye9 => intro W hSw; go_simp; try with_reducible rfl
          try simp only [Act.put, List.setIfInBounds_toArray, List.set_cons_zero, List.set_cons_succ]
          refine takeH 10 (v := ?ve10) rfl (by kernel_rfl) (by kernel_rfl) (by kernel_rfl) (fun _ _ _ h => h) hH rfl ?ye10 ?re10
          case ye10 => intro W hSw; go_simp; try with_reducible rfl
          try simp only [Act.put, List.setIfInBounds_toArray, List.set_cons_zero, List.set_cons_succ]
          refine takeH 11 (v := ?ve11) rfl (by kernel_rfl) (by kernel_rfl) (by kernel_rfl) (fun _ _ _ h => h) hH rfl ?ye11 ?re11
          case ye11 => intro W hSw; go_simp; try with_reducible rfl
          try simp only [Act.put, List.setIfInBounds_toArray, List.set_cons_zero, List.set_cons_succ]
          refine takeH 12 (v := ?ve12) rfl (by kernel_rfl) (by kernel_rfl) (by kernel_rfl) (fun _ _ _ h => h) hH rfl ?ye12 ?re12
          case ye12 => intro W hSw; go_simp; try with_reducible rfl
          try simp only [Act.put, List.setIfInBounds_toArray, List.set_cons_zero, List.set_cons_succ]
          refine takeH 13 (v := ?ve13) rfl (by kernel_rfl) (by kernel_rfl) (by kernel_rfl) (fun _ _ _ h => h) hH rfl ?ye13 ?re13
          case ye13 => intro W hSw; go_simp; try with_reducible rfl
          try simp only [Act.put, List.setIfInBounds_toArray, List.set_cons_zero, List.set_cons_succ]
          refine takeH 14 (v := ?ve14) rfl (by kernel_rfl) (by kernel_rfl) (by kernel_rfl) (fun _ _ _ h => h) hH rfl ?ye14 ?re14
          case ye14 => intro W hSw; go_simp; try with_reducible rfl
          try simp only [Act.put, List.setIfInBounds_toArray, List.set_cons_zero, List.set_cons_succ]
          refine takeH 15 (v := ?ve15) rfl (by kernel_rfl) (by kernel_rfl) (by kernel_rfl) (fun _ _ _ h => h) hH rfl ?ye15 ?re15
          case ye15 => intro W hSw; go_simp; try with_reducible rfl
          try simp only [Act.put, List.setIfInBounds_toArray, List.set_cons_zero, List.set_cons_succ]
          refine takeH 16 (v := .bool false) rfl (by kernel_rfl) (by kernel_rfl) (by kernel_rfl) (fun _ _ _ h => h) hH rfl ?ye16 ?re16
          case ye16 => intro W hSw; go_simp; first | done | simp only [hlo] | omega | (simp; omega)
          try simp only [Act.put, List.setIfInBounds_toArray, List.set_cons_zero, List.set_cons_succ]
          refine takeH 17 (v := ?ve17) rfl (by kernel_rfl) (by kernel_rfl) (by kernel_rfl) (fun _ _ _ h => h) hH rfl ?ye17 ?re17
          case ye17 => intro W hSw; go_simp; try with_reducible rfl
          try simp only [Act.put, List.setIfInBounds_toArray, List.set_cons_zero, List.set_cons_succ]
          refine takeH 18 (v := ?ve18) rfl (by kernel_rfl) (by kernel_rfl) (by kernel_rfl) (fun _ _ _ h => h) hH rfl ?ye18 ?re18
          case ye18 => intro W hSw; go_simp; try with_reducible rfl
          try simp only [Act.put, List.setIfInBounds_toArray, List.set_cons_zero, List.set_cons_succ]
          refine takeH 19 (v := ?ve19) rfl (by kernel_rfl) (by kernel_rfl) (by kernel_rfl) (fun _ _ _ h => h) hH rfl ?ye19 ?re19
          case ye19 => intro W hSw; go_simp; try with_reducible rfl
          try simp only [Act.put, List.setIfInBounds_toArray, List.set_cons_zero, List.set_cons_succ]
          refine takeH 20 (v := .bool true) rfl (by kernel_rfl) (by kernel_rfl) (by kernel_rfl) (fun _ _ _ h => h) hH rfl ?ye20 ?re20
          case ye20 => intro W hSw; go_simp; first | done | simp only [hgt] | omega | (simp; omega)
          try simp only [Act.put, List.setIfInBounds_toArray, List.set_cons_zero, List.set_cons_succ]
          refine takeH 21 (v := ?ve21) rfl (by kernel_rfl) (by kernel_rfl) (by kernel_rfl) (fun _ _ _ h => h) hH rfl ?ye21 ?re21
          case ye21 => intro W hSw; go_simp; try with_reducible rfl
          try simp only [Act.put, List.setIfInBounds_toArray, List.set_cons_zero, List.set_cons_succ]
          refine takeH 22 (v := ?ve22) rfl (by kernel_rfl) (by kernel_rfl) (by kernel_rfl) (fun _ _ _ h => h) hH rfl ?ye22 ?re22
          case ye22 => intro W hSw; go_simp; try with_reducible rfl
          try simp only [Act.put, List.setIfInBounds_toArray, List.set_cons_zero, List.set_cons_succ]
          refine takeH 23 (v := ?ve23) rfl (by kernel_rfl) (by kernel_rfl) (by kernel_rfl) (fun _ _ _ h => h) hH rfl ?ye23 ?re23
          case ye23 => intro W hSw; go_simp; try with_reducible rfl
          try simp only [Act.put, List.setIfInBounds_toArray, List.set_cons_zero, List.set_cons_succ]
          refine takeH 24 (v := ?ve24) rfl (by kernel_rfl) (by kernel_rfl) (by kernel_rfl) (fun _ _ _ h => h) hH rfl ?ye24 ?re24
          case ye24 => intro W hSw; go_simp; try with_reducible rfl
          try simp only [Act.put, List.setIfInBounds_toArray, List.set_cons_zero, List.set_cons_succ]
          refine takeH 25 (v := ?ve25) rfl (by kernel_rfl) (by kernel_rfl) (by kernel_rfl) (fun _ _ _ h => h) hH rfl ?ye25 ?re25
          case ye25 => intro W hSw; go_simp; try with_reducible rfl
          try simp only [Act.put, List.setIfInBounds_toArray, List.set_cons_zero, List.set_cons_succ]
          refine takeH 26 (v := ?ve26) rfl (by kernel_rfl) (by kernel_rfl) (by kernel_rfl) (fun _ _ _ h => h) hH rfl ?ye26 ?re26
          case ye26 => intro W hSw; go_simp; try with_reducible rfl
          try simp only [Act.put, List.setIfInBounds_toArray, List.set_cons_zero, List.set_cons_succ]
          refine takeH 27 (v := ?ve27) rfl (by kernel_rfl) (by kernel_rfl) (by kernel_rfl) (fun _ _ _ h => h) hH rfl ?ye27 ?re27
          case ye27 => intro W hSw; go_simp; try with_reducible rfl
          try simp only [Act.put, List.setIfInBounds_toArray, List.set_cons_zero, List.set_cons_succ]
          refine takeH 28 (v := ?ve28) rfl (by kernel_rfl) (by kernel_rfl) (by kernel_rfl) (fun _ _ _ h => h) hH rfl ?ye28 ?re28
          case ye28 => intro W hSw; go_simp; try with_reducible rfl
          try simp only [Act.put, List.setIfInBounds_toArray, List.set_cons_zero, List.set_cons_succ]
          refine takeH 29 (v := ?ve29) rfl (by kernel_rfl) (by kernel_rfl) (by kernel_rfl) (fun _ _ _ h => h) hH rfl ?ye29 ?re29
          case ye29 => intro W hSw; go_simp; try with_reducible rfl
          try simp only [Act.put, List.setIfInBounds_toArray, List.set_cons_zero, List.set_cons_succ]
          refine takeH 30 (v := ?ve30) rfl (by kernel_rfl) (by kernel_rfl) (by kernel_rfl) (fun _ _ _ h => h) hH rfl ?ye30 ?re30
          case ye30 => intro W hSw; go_simp; try with_reducible rfl
          try simp only [Act.put, List.setIfInBounds_toArray, List.set_cons_zero, List.set_cons_succ]
          refine takeH 31 (v := ?ve31) rfl (by kernel_rfl) (by kernel_rfl) (by kernel_rfl) (fun _ _ _ h => h) hH rfl ?ye31 ?re31
          case ye31 => intro W hSw; go_simp; try with_reducible rfl
          try simp only [Act.put, List.setIfInBounds_toArray, List.set_cons_zero, List.set_cons_succ]
          refine takeH 32 (v := ?ve32) rfl (by kernel_rfl) (by kernel_rfl) (by kernel_rfl) (fun _ _ _ h => h) hH rfl ?ye32 ?re32
          case ye32 => intro W hSw; go_simp; try with_reducible rfl
          try simp only [Act.put, List.setIfInBounds_toArray, List.set_cons_zero, List.set_cons_succ]
          refine callH 33 rfl (by kernel_rfl) rfl (fun K hK => ?_)
          go_simp
          go_at_call 44
          refine (HB.out _).mono ?_
          rintro e wx ⟨rfl, hbx⟩
          refine hK.out _ _ ⟨hH.1.trans (hbx.mono hH.1.size), (hbx.cell (p := ⟨w.heap.size, 0, none⟩) (Hws.out _ hH.1)).trans hH.2.1, (hbx.cell (p := ⟨w.heap.size, 1, none⟩) (Hws.out _ hH.1)).trans hH.2.2.1, (hbx.cell (p := ⟨b, off + k * 3, none⟩) (Hbs.out _ hH.1)).trans hH.2.2.2.1, (hbx.cell (p := ⟨b, off + k * 3 + 1, none⟩) (Hbs.out _ hH.1)).trans hH.2.2.2.2.1, (hbx.cell (p := ⟨b, off + k * 3 + 2, none⟩) (Hbs.out _ hH.1)).trans hH.2.2.2.2.2.1, (hbx.cell (p := ⟨b, off + (k - 1) * 3, none⟩) (Hbs.out _ hH.1)).trans hH.2.2.2.2.2.2.1, (hbx.cell (p := ⟨b, off + (k - 1) * 3 + 1, none⟩) (Hbs.out _ hH.1)).trans hH.2.2.2.2.2.2.2.1, (hbx.cell (p := ⟨b, off + (k - 1) * 3 + 2, none⟩) (Hbs.out _ hH.1)).trans hH.2.2.2.2.2.2.2.2⟩ (fun hH => ?_)
          clear hK K
          try simp only [Act.put, List.setIfInBounds_toArray, List.set_cons_zero, List.set_cons_succ]
          refine takeH 34 (v := ?ve34) rfl (by kernel_rfl) (by kernel_rfl) (by kernel_rfl) (fun _ _ _ h => h) hH rfl ?ye34 ?re34
          case ye34 => intro W hSw; go_simp; try with_reducible rfl
          try simp only [Act.put, List.setIfInBounds_toArray, List.set_cons_zero, List.set_cons_succ]
          refine takeH 35 (v := ?ve35) rfl (by kernel_rfl) (by kernel_rfl) (by kernel_rfl) (fun _ _ _ h => h) hH rfl ?ye35 ?re35
          case ye35 => intro W hSw; go_simp; try with_reducible rfl
          try simp only [Act.put, List.setIfInBounds_toArray, List.set_cons_zero, List.set_cons_succ]
          refine takeH 36 (v := ?ve36) rfl (by kernel_rfl) (by kernel_rfl) (by kernel_rfl) (fun _ _ _ h => h) hH rfl ?ye36 ?re36
          case ye36 => intro W hSw; go_simp; try with_reducible rfl
          try simp only [Act.put, List.setIfInBounds_toArray, List.set_cons_zero, List.set_cons_succ]
          refine wpAnyH_done (by kernel_rfl) ?_ _
          try simp only [Act.put]
          go_wp2
          go_roundw
          case rel => exact ⟨k + 1, by omega, by go_num, upto_step Hup.out (by rw [Hok.out, h3]), below_step Hbel.out Hbel.out.size hH.1⟩
          case measure => simp [intOf]; omega
    · have hz := allB_yes hup (n := g.length) (by omega)
      have Hbel := Lib.hid hbel; clear hbel
      go_wp2_with fail
      refine (HI.out _).mono ?_
      rintro e wx ⟨rfl, rfl⟩
      cases hf : decide (0 ≤ f ∧ f ≤ 31) with
      | false =>
        go_wp2
        go_ret
        exact ⟨ret_bool (by rw [Hres.out, hz, hf]; rfl), Hb0.out.trans (Hbel.out.mono (by omega))⟩
      | true =>
        go_wp2
        go_ret
        exact ⟨ret_bool (by rw [Hres.out, hz, hf]; simp; omega), Hb0.out.trans (Hbel.out.mono (by omega))⟩

end Go.Proofs.Ytgpbogalknmcmaa

/- Signing and forgetting votes, as plain functions on lists, and what the laws want of them; nothing here speaks of the program. -/
namespace Go.Proofs.Ytgpbogalknmcmaa

def lowV (g : List Vt) (v : Vt) : List Vt := g.takeWhile fun u => vbefB u v
def upV (g : List Vt) (v : Vt) : List Vt := g.dropWhile fun u => vbefB u v
/-- The vote that lies where v belongs, if it is for the same round and author (in a list that is sorted). -/
def hitV (g : List Vt) (v : Vt) : Option Vt := match upV g v with | [] => none | u :: _ => if vbefB v u then none else some u
def signB (f : Int) (g : List Vt) (v : Vt) : Bool := match hitV g v with | some u => decide (u.d = v.d) | none => !(decide (v.r < f) || decide (40 ≤ g.length))
def signG (f : Int) (g : List Vt) (v : Vt) : List Vt := match hitV g v with | some _ => g | none => if v.r < f ∨ 40 ≤ g.length then g else lowV g v ++ v :: upV g v
def forgetG (f : Int) (g : List Vt) : List Vt := g.filter fun u => decide (f ≤ u.r)

theorem low_up (g : List Vt) (v : Vt) : lowV g v ++ upV g v = g := List.takeWhile_append_dropWhile
theorem vbef_irr (v : Vt) : vbefB v v = false := decide_eq_false (by omega)
theorem vbef_ra {u v : Vt} (hr : u.r = v.r) (ha : u.a = v.a) (x : Vt) : vbefB x u = vbefB x v := by unfold vbefB; rw [hr, ha]
theorem vbef_ra' {u v : Vt} (hr : u.r = v.r) (ha : u.a = v.a) (x : Vt) : vbefB u x = vbefB v x := by unfold vbefB; rw [hr, ha]
theorem vbef_trans {a b c : Vt} (h : vbefB a b = true) (k : vbefB b c = true) : vbefB a c = true := by
  have h := of_decide_eq_true h
  have k := of_decide_eq_true k
  exact decide_eq_true (by omega)
theorem low_all {g : List Vt} {v x : Vt} (h : x ∈ lowV g v) : vbefB x v = true := by
  unfold lowV at h
  induction g with
  | nil => simp at h
  | cons y ys ih =>
    rw [List.takeWhile_cons] at h
    split at h
    · rename_i hy
      rcases List.mem_cons.1 h with rfl | h
      · exact hy
      · exact ih h
    · simp at h

/-- Every vote is kept. -/
theorem sign_keeps {f : Int} {g : List Vt} {v x : Vt} (h : x ∈ g) : x ∈ signG f g v := by
  unfold signG
  split
  · exact h
  · split
    · exact h
    · rw [← low_up g v] at h
      rcases List.mem_append.1 h with h | h
      · exact List.mem_append_left _ h
      · exact List.mem_append_right _ (List.mem_cons_of_mem _ h)
theorem low_new (a b : List Vt) (v u : Vt) (hr : u.r = v.r) (ha : u.a = v.a) (h : ∀ x ∈ a, vbefB x v = true) : lowV (a ++ v :: b) u = a ∧ upV (a ++ v :: b) u = v :: b := by
  have e : (fun x => vbefB x u) = fun x => vbefB x v := funext fun x => vbef_ra hr ha x
  unfold lowV upV
  rw [e]
  refine ⟨?_, ?_⟩
  · rw [List.takeWhile_append_of_pos (by simpa using h), List.takeWhile_cons, vbef_irr]; simp
  · rw [List.dropWhile_append_of_pos (by simpa using h), List.dropWhile_cons, vbef_irr]; simp
/-- What is signed stands there: another vote for the same round and author agrees exactly where its digest does, and changes nothing. -/
theorem sign_hit {f : Int} {g : List Vt} {v u : Vt} (hs : signB f g v = true) (hr : u.r = v.r) (ha : u.a = v.a) : ∃ y, hitV (signG f g v) u = some y ∧ y.d = v.d := by
  unfold signB at hs
  unfold signG
  cases hh : hitV g v with
  | some y =>
    rw [hh] at hs
    simp only at hs ⊢
    refine ⟨y, ?_, of_decide_eq_true hs⟩
    rw [← hh]
    unfold hitV upV
    rw [show (fun x => vbefB x u) = fun x => vbefB x v from funext fun x => vbef_ra hr ha x]
    split
    · rfl
    · rw [vbef_ra' hr ha]
  | none =>
    rw [hh] at hs
    simp only [Bool.not_eq_true', Bool.or_eq_false_iff, decide_eq_false_iff_not] at hs ⊢
    rw [if_neg (by omega)]
    refine ⟨v, ?_, rfl⟩
    unfold hitV
    rw [(low_new (lowV g v) (upV g v) v u hr ha (fun x hx => low_all hx)).2]
    simp only
    rw [vbef_ra' hr ha, vbef_irr]
    rfl
theorem sign_once {f f' : Int} {g : List Vt} {v u : Vt} (hs : signB f g v = true) (hr : u.r = v.r) (ha : u.a = v.a) : signB f' (signG f g v) u = decide (v.d = u.d) ∧ signG f' (signG f g v) u = signG f g v := by
  obtain ⟨y, hy, hd⟩ := sign_hit hs hr ha
  refine ⟨?_, ?_⟩
  · unfold signB; rw [hy, ← hd]
  · generalize signG f g v = g' at *; unfold signG; rw [hy]
/-- Forgetting in two steps. -/
theorem forget_steps {f f' : Int} (g : List Vt) (h : f ≤ f') : forgetG f' (forgetG f g) = forgetG f' g := by
  unfold forgetG
  rw [List.filter_filter]
  congr 1
  funext x
  rw [Bool.eq_iff_iff, Bool.and_eq_true, decide_eq_true_iff, decide_eq_true_iff]
  omega

theorem up_sub (g : List Vt) (v : Vt) : (upV g v).Sublist g := List.dropWhile_sublist _
theorem up_head {g : List Vt} {v y : Vt} {t : List Vt} (h : upV g v = y :: t) : vbefB y v = false := by
  have e := List.head?_dropWhile_not (fun u => vbefB u v) g
  unfold upV at h
  rw [h] at e
  simpa using e
/-- In a list that is sorted, the vote for the same round and author is the one that is hit. -/
theorem hit_mem {g : List Vt} {v u : Vt} (hs : g.Pairwise fun a b => vbefB a b = true) (hu : u ∈ g) (hr : u.r = v.r) (ha : u.a = v.a) : hitV g v = some u := by
  have hself : ∀ x, vbefB x u = vbefB x v := fun x => vbef_ra hr ha x
  have hm : u ∈ upV g v := by
    rw [← low_up g v] at hu
    rcases List.mem_append.1 hu with h | h
    · have h1 := low_all h
      rw [vbef_ra' hr ha, vbef_irr] at h1
      cases h1
    · exact h
  have hp := hs.sublist (up_sub g v)
  unfold hitV
  cases hx : upV g v with
  | nil => rw [hx] at hm; simp at hm
  | cons y t =>
    have hh := up_head hx
    rw [hx] at hm hp
    rcases List.mem_cons.1 hm with rfl | hm
    · simp only; rw [← vbef_ra' hr ha, vbef_irr]; rfl
    · have h1 := (List.pairwise_cons.1 hp).1 u hm
      rw [hself, hh] at h1
      cases h1
/-- What is hit is in the list and for the same round and author. -/
theorem hit_some {g : List Vt} {v u : Vt} (h : hitV g v = some u) : u ∈ g ∧ u.r = v.r ∧ u.a = v.a := by
  unfold hitV at h
  cases hx : upV g v with
  | nil => rw [hx] at h; cases h
  | cons y t =>
    rw [hx] at h
    simp only at h
    split at h
    · cases h
    · rename_i hn
      cases h
      have h1 := up_head hx
      have h2 := Bool.eq_false_iff.2 hn
      have h1 := of_decide_eq_false h1
      have h2 := of_decide_eq_false h2
      exact ⟨(up_sub g v).subset (by rw [hx]; exact List.mem_cons_self), by omega, by omega⟩

/-- A voter's votes are sorted, valid and not below its floor. -/
theorem voter_sorted {f : Int} {g : List Vt} (h : voterB f g = true) : g.Pairwise fun a b => vbefB a b = true := by
  unfold voterB at h
  simp only [Bool.and_eq_true] at h
  have hu := allB_upto h.1
  rw [List.pairwise_iff_getElem]
  have key : ∀ (n i : Nat) (hj : i + n + 1 < g.length), vbefB (g[i]'(by omega)) g[i + n + 1] = true := by
    intro n
    induction n with
    | zero =>
      intro i hj
      have := hu (i + 0 + 1) hj
      unfold okVt at this
      simp only [Bool.and_eq_true, Bool.or_eq_true] at this
      have h2 := this.2.2
      simp only [Nat.add_zero, Nat.add_sub_cancel, getVt (show i + 1 < g.length by omega), getVt (show i < g.length by omega)] at h2
      rcases h2 with h2 | h2
      · simp at h2
      · exact h2
    | succ n ih =>
      intro i hj
      have h1 := ih i (by omega)
      have := hu (i + (n + 1) + 1) hj
      unfold okVt at this
      simp only [Bool.and_eq_true, Bool.or_eq_true] at this
      have h2 := this.2.2
      simp only [Nat.add_sub_cancel, getVt (show i + (n + 1) + 1 < g.length by omega), getVt (show i + (n + 1) < g.length by omega)] at h2
      rcases h2 with h2 | h2
      · simp at h2
      · exact vbef_trans h1 h2
  intro i j hi hj hij
  have := key (j - i - 1) i (by omega)
  simpa only [show i + (j - i - 1) + 1 = j by omega] using this
theorem voter_mem {f : Int} {g : List Vt} (h : voterB f g = true) {u : Vt} (hm : u ∈ g) : voteB u = true ∧ f ≤ u.r := by
  unfold voterB at h
  simp only [Bool.and_eq_true] at h
  obtain ⟨k, hk, rfl⟩ := List.mem_iff_getElem.1 hm
  have := allB_upto h.1 k hk
  unfold okVt at this
  simp only [Bool.and_eq_true, getVt hk, decide_eq_true_eq] at this
  exact ⟨this.1, this.2.1⟩
theorem voter_of {f : Int} {g : List Vt} (hs : g.Pairwise fun a b => vbefB a b = true) (hm : ∀ u ∈ g, voteB u = true ∧ f ≤ u.r) (hf : 0 ≤ f ∧ f ≤ 31) (hl : g.length ≤ 40) : voterB f g = true := by
  unfold voterB
  rw [decide_eq_true hf, decide_eq_true hl, Bool.and_true, Bool.and_true]
  refine allB_yes (k := g.length) (fun i hi => ?_) (Nat.le_refl _)
  obtain ⟨h1, h2⟩ := hm g[i] (List.getElem_mem hi)
  unfold okVt
  rw [getVt hi, h1, decide_eq_true h2, Bool.true_and, Bool.true_and]
  by_cases h0 : i = 0
  · simp [h0]
  · rw [getVt (show i - 1 < g.length by omega), (List.pairwise_iff_getElem.1 hs) (i - 1) i (by omega) hi (by omega), Bool.or_true]
/-- Forgetting keeps a voter valid. -/
theorem voter_forget {f f' : Int} {g : List Vt} (h : voterB f g = true) (hf : 0 ≤ f' ∧ f' ≤ 31) : voterB f' (forgetG f' g) = true := by
  have hl : g.length ≤ 40 := by
    unfold voterB at h
    simp only [Bool.and_eq_true, decide_eq_true_eq] at h
    exact h.2.2
  refine voter_of ((voter_sorted h).sublist List.filter_sublist) (fun u hu => ?_) hf (Nat.le_trans (List.length_filter_le _ _) hl)
  obtain ⟨h1, h2⟩ := List.mem_filter.1 hu
  exact ⟨(voter_mem h h1).1, of_decide_eq_true h2⟩

theorem up_after {g : List Vt} {v : Vt} (hs : g.Pairwise fun a b => vbefB a b = true) (hn : hitV g v = none) {x : Vt} (hx : x ∈ upV g v) : vbefB v x = true := by
  have hp := hs.sublist (up_sub g v)
  unfold hitV at hn
  cases hu : upV g v with
  | nil => rw [hu] at hx; cases hx
  | cons y t =>
    rw [hu] at hn hx hp
    simp only at hn
    split at hn
    · rename_i hy
      rcases List.mem_cons.1 hx with rfl | hx
      · exact hy
      · exact vbef_trans hy ((List.pairwise_cons.1 hp).1 x hx)
    · cases hn
/-- Signing keeps a voter valid. -/
theorem voter_sign {f : Int} {g : List Vt} {v : Vt} (h : voterB f g = true) (hv : voteB v = true) : voterB f (signG f g v) = true := by
  unfold signG
  cases hh : hitV g v with
  | some u => exact h
  | none =>
    simp only
    split
    · exact h
    · rename_i hno
      have hs := voter_sorted h
      have hf : 0 ≤ f ∧ f ≤ 31 := by
        have h := h
        unfold voterB at h
        simp only [Bool.and_eq_true, decide_eq_true_eq] at h
        exact h.2.1
      have hmem : ∀ u, u ∈ lowV g v ++ v :: upV g v → u = v ∨ u ∈ g := fun u hu => by
        rcases List.mem_append.1 hu with hu | hu
        · exact .inr (by rw [← low_up g v]; exact List.mem_append_left _ hu)
        · rcases List.mem_cons.1 hu with hu | hu
          · exact .inl hu
          · exact .inr (by rw [← low_up g v]; exact List.mem_append_right _ hu)
      refine voter_of ?_ (fun u hu => ?_) hf ?_
      · have h1 := hs
        rw [← low_up g v] at h1
        obtain ⟨ha, hb, hc⟩ := List.pairwise_append.1 h1
        refine List.pairwise_append.2 ⟨ha, List.pairwise_cons.2 ⟨fun x hx => up_after hs hh hx, hb⟩, fun a hal b hbl => ?_⟩
        rcases List.mem_cons.1 hbl with rfl | hbl
        · exact low_all hal
        · exact hc a hal b hbl
      · rcases hmem u hu with rfl | hu
        · exact ⟨hv, by omega⟩
        · exact voter_mem h hu
      · have hl : (lowV g v ++ v :: upV g v).length = g.length + 1 := by
          rw [List.length_append, List.length_cons]
          have := congrArg List.length (low_up g v)
          rw [List.length_append] at this
          omega
        omega

end Go.Proofs.Ytgpbogalknmcmaa

/- The order of two votes does not matter (plain functions on lists); nothing here speaks of the program. -/
namespace Go.Proofs.Ytgpbogalknmcmaa

theorem or_swap3 (a b c : Prop) : a ∨ b ∨ c ↔ b ∨ a ∨ c := ⟨fun h => h.elim (fun x => .inr (.inl x)) fun h => h.elim .inl fun x => .inr (.inr x), fun h => h.elim (fun x => .inr (.inl x)) fun h => h.elim .inl fun x => .inr (.inr x)⟩
theorem vbef_asym {a b : Vt} (h : vbefB a b = true) (k : vbefB b a = true) : False := by
  have := vbef_trans h k
  rw [vbef_irr] at this
  cases this
theorem sorted_ext : ∀ (a b : List Vt), a.Pairwise (fun x y => vbefB x y = true) → b.Pairwise (fun x y => vbefB x y = true) → (∀ x, x ∈ a ↔ x ∈ b) → a = b
  | [], [], _, _, _ => rfl
  | [], y :: ys, _, _, h => absurd ((h y).2 List.mem_cons_self) (by simp)
  | x :: xs, [], _, _, h => absurd ((h x).1 List.mem_cons_self) (by simp)
  | x :: xs, y :: ys, ha, hb, h => by
    obtain ⟨ha1, ha2⟩ := List.pairwise_cons.1 ha
    obtain ⟨hb1, hb2⟩ := List.pairwise_cons.1 hb
    have hxy : x = y := by
      rcases List.mem_cons.1 ((h x).1 List.mem_cons_self) with e | hx
      · exact e
      · rcases List.mem_cons.1 ((h y).2 List.mem_cons_self) with e | hy
        · exact e.symm
        · exact (vbef_asym (ha1 y hy) (hb1 x hx)).elim
    subst hxy
    have ht : xs = ys := sorted_ext xs ys ha2 hb2 fun z => by
      refine ⟨fun hz => ?_, fun hz => ?_⟩
      · rcases List.mem_cons.1 ((h z).1 (List.mem_cons_of_mem _ hz)) with e | hz'
        · subst e; have := ha1 _ hz; rw [vbef_irr] at this; cases this
        · exact hz'
      · rcases List.mem_cons.1 ((h z).2 (List.mem_cons_of_mem _ hz)) with e | hz'
        · subst e; have := hb1 _ hz; rw [vbef_irr] at this; cases this
        · exact hz'
    rw [ht]

/-- When a voter that is valid signs. -/
theorem sign_iff {f : Int} {g : List Vt} {v : Vt} (hs : g.Pairwise fun a b => vbefB a b = true) : signB f g v = true ↔ v ∈ g ∨ ((∀ u ∈ g, ¬ (u.r = v.r ∧ u.a = v.a)) ∧ f ≤ v.r ∧ g.length < 40) := by
  unfold signB
  cases hh : hitV g v with
  | some u =>
    obtain ⟨hu, hr, ha⟩ := hit_some hh
    simp only [decide_eq_true_eq]
    refine ⟨fun hd => .inl ?_, fun h => ?_⟩
    · have : u = v := by
        cases u; cases v
        simp only at hr ha hd
        subst hr ha hd
        rfl
      rw [← this]; exact hu
    · rcases h with h | h
      · have := hit_mem hs h rfl rfl
        rw [hh] at this
        cases this
        rfl
      · exact absurd ⟨hr, ha⟩ (h.1 u hu)
  | none =>
    simp only [Bool.not_eq_true', Bool.or_eq_false_iff, decide_eq_false_iff_not]
    refine ⟨fun h => .inr ⟨fun u hu hra => ?_, by omega, by omega⟩, fun h => ?_⟩
    · have := hit_mem hs hu hra.1 hra.2
      rw [hh] at this
      cases this
    · rcases h with h | h
      · have := hit_mem hs h rfl rfl
        rw [hh] at this
        cases this
      · exact ⟨by omega, by omega⟩
theorem sign_mem {f : Int} {g : List Vt} {v : Vt} (h : signB f g v = true) (x : Vt) : x ∈ signG f g v ↔ x = v ∨ x ∈ g := by
  unfold signB at h
  unfold signG
  cases hh : hitV g v with
  | some u =>
    rw [hh] at h
    obtain ⟨hu, hr, ha⟩ := hit_some hh
    simp only [decide_eq_true_eq] at h ⊢
    have : u = v := by
      cases u; cases v
      simp only at hr ha h
      subst hr ha h
      rfl
    subst this
    exact ⟨.inr, fun hx => hx.elim (fun e => e ▸ hu) id⟩
  | none =>
    rw [hh] at h
    simp only [Bool.not_eq_true', Bool.or_eq_false_iff, decide_eq_false_iff_not] at h ⊢
    rw [if_neg (by omega)]
    conv => rhs; rw [← low_up g v]
    simp only [List.mem_append, List.mem_cons]
    exact or_swap3 _ _ _
theorem sign_len {f : Int} {g : List Vt} {v : Vt} (hs : g.Pairwise fun a b => vbefB a b = true) (h : signB f g v = true) (hv : v ∉ g) : (signG f g v).length = g.length + 1 := by
  have hi := (sign_iff hs).1 h
  rcases hi with hi | ⟨h1, h2, h3⟩
  · exact absurd hi hv
  unfold signG
  cases hh : hitV g v with
  | some u =>
    obtain ⟨hu, hr, ha⟩ := hit_some hh
    exact absurd ⟨hr, ha⟩ (h1 u hu)
  | none =>
    simp only
    rw [if_neg (by omega), List.length_append, List.length_cons]
    have := congrArg List.length (low_up g v)
    rw [List.length_append] at this
    omega
/-- Two votes that are signed one after the other are signed in the other order too, and the votes are the same. -/
theorem sign_comm {f : Int} {g : List Vt} {v u : Vt} (h : voterB f g = true) (hv : voteB v = true) (hu : voteB u = true) (h1 : signB f g v = true) (h2 : signB f (signG f g v) u = true) :
    signB f g u = true ∧ signB f (signG f g u) v = true ∧ signG f (signG f g u) v = signG f (signG f g v) u := by
  have hs := voter_sorted h
  have hsv := voter_sorted (voter_sign h hv)
  have hsu := voter_sorted (voter_sign h hu)
  have m1 := sign_mem h1
  have a1 := (sign_iff hs).1 h1
  have a2 := (sign_iff hsv).1 h2
  have b1 : signB f g u = true := by
    rw [sign_iff hs]
    rcases a2 with a2 | ⟨n1, n2, n3⟩
    · rcases (m1 u).1 a2 with rfl | a2
      · exact a1
      · exact .inl a2
    · refine .inr ⟨fun x hx => n1 x ((m1 x).2 (.inr hx)), n2, ?_⟩
      by_cases hvg : v ∈ g
      · by_cases hl : g.length < 40
        · exact hl
        · have : signG f g v = g := by
            unfold signG
            rw [hit_mem hs hvg rfl rfl]
          rw [this] at n3; exact n3
      · rw [sign_len hs h1 hvg] at n3; omega
  have m2 := sign_mem b1
  have b2 : signB f (signG f g u) v = true := by
    rw [sign_iff hsu]
    rcases a1 with a1 | ⟨n1, n2, n3⟩
    · exact .inl ((m2 v).2 (.inr a1))
    · by_cases huv : u = v
      · exact .inl ((m2 v).2 (.inl huv.symm))
      by_cases hug : u ∈ g
      · have : signG f g u = g := by
          unfold signG
          rw [hit_mem hs hug rfl rfl]
        rw [this]
        exact .inr ⟨n1, n2, n3⟩
      · have hvg : v ∉ g := fun hh => n1 v hh ⟨rfl, rfl⟩
        rcases a2 with a2 | ⟨k1, k2, k3⟩
        · rcases (m1 u).1 a2 with e | e
          · exact absurd e huv
          · exact absurd e hug
        · refine .inr ⟨fun x hx => ?_, n2, ?_⟩
          · rcases (m2 x).1 hx with rfl | hx
            · intro e
              exact k1 v ((m1 v).2 (.inl rfl)) ⟨e.1.symm, e.2.symm⟩
            · exact n1 x hx
          · rw [sign_len hs h1 hvg] at k3
            rw [sign_len hs b1 hug]
            exact k3
  refine ⟨b1, b2, sorted_ext _ _ (voter_sorted (voter_sign (voter_sign h hu) hv)) (voter_sorted (voter_sign (voter_sign h hv) hu)) fun x => ?_⟩
  rw [sign_mem b2, sign_mem h2, m1, m2]
  exact or_swap3 _ _ _

end Go.Proofs.Ytgpbogalknmcmaa

/- A map from places (round and author) to digests, as a list of votes with different places: what it holds, and what a store, a look-up, len, a range and a deletion do; general steps over the kit's laws on maps. -/
namespace Go.Proofs.Ytgpbogalknmcmaa
open Go.RowKit

def inI (n : Int) : Prop := -9223372036854775808 ≤ n ∧ n ≤ 9223372036854775807
theorem inI_wf {n : Int} (h : inI n) : (Lit.int .i64 n).wf = true := WalkArith.wf_i64 h
def plK (r a : Int) : Lit := .string (keyBytes [.int .i64 r, .int .i64 a])
def VtI (v : Vt) : Prop := inI v.r ∧ inI v.a ∧ inI v.d
def SamePl (u v : Vt) : Prop := u.r = v.r ∧ u.a = v.a
def ApartV (g : List Vt) : Prop := g.Pairwise fun u v => ¬ SamePl u v

theorem pl_laid : laidOutB Try.prog = true := by kernel_rfl
theorem pl_law : Maps.Keyed Try.prog 61 := Maps.Keyed.of_law (deep_law_gate pl_laid (by decide +kernel) (by decide +kernel) (by kernel_rfl) (by rw [Try.underlying61]))
theorem pl_fuel : ∃ n, Try.prog.types.size + 1 = n + 2 := by
  have h : 1 ≤ Try.prog.types.size := by decide +kernel
  exact ⟨Try.prog.types.size - 1, by omega⟩
theorem pl_lits (n : Nat) {r a : Int} (h1 : (Lit.int .i64 r).wf = true) (h2 : (Lit.int .i64 a).wf = true) : Try.prog.keyLits (n + 2) 61 [.int .i64 r, .int .i64 a] = some [.int .i64 r, .int .i64 a] := by
  have hc : Try.prog.cellsOf 61 = 2 := by kernel_rfl
  have hi : Try.prog.cellsOf 3 = 1 := by kernel_rfl
  simp [Program.keyLits, Try.underlying61, Try.underlying3, hc, hi, h1, h2]
theorem pl_key {r a : Int} (hr : inI r) (ha : inI a) : keyOf Try.prog 61 (.agg #[.int .i64 r, .int .i64 a]) = some (plK r a) := by
  have h1 := inI_wf hr
  have h2 := inI_wf ha
  have hk : Try.prog.keyType 61 = true := by kernel_rfl
  have hc : Try.prog.cellsOf 61 = 2 := by kernel_rfl
  have hf : (Value.agg #[.int .i64 r, .int .i64 a]).formed Try.prog 61 = true := by simp [Value.formed, Try.underlying61, hc]
  obtain ⟨n, hn⟩ := pl_fuel
  unfold keyOf
  rw [Try.underlying61]
  simp only [hk, hf, Bool.and_self, if_true, hn]
  rw [show (Value.agg #[.int .i64 r, .int .i64 a]).cells.toList = [.int .i64 r, .int .i64 a] from rfl, pl_lits n h1 h2]
  rfl
set_option maxRecDepth 8000 in
theorem int_lits (n : Nat) {c : Value} {ls : List Lit} (h : Try.prog.keyLits (n + 1) 3 [c] = some ls) : ∃ x : Int, inI x ∧ c = .int .i64 x ∧ ls = [.int .i64 x] := by
  unfold Program.keyLits at h
  rw [Try.underlying3] at h
  cases c <;> simp at h
  obtain ⟨⟨h0, h1⟩, h2⟩ := h
  subst h0
  exact ⟨_, wf_i64 h1, rfl, h2.symm⟩
set_option maxRecDepth 8000 in
theorem pl_lits_inv (n : Nat) {c0 c1 : Value} {ls : List Lit} (h : Try.prog.keyLits (n + 2) 61 [c0, c1] = some ls) : ∃ r a : Int, inI r ∧ inI a ∧ c0 = .int .i64 r ∧ c1 = .int .i64 a ∧ ls = [.int .i64 r, .int .i64 a] := by
  have hc : Try.prog.cellsOf 61 = 2 := by kernel_rfl
  have hi : Try.prog.cellsOf 3 = 1 := by kernel_rfl
  unfold Program.keyLits at h
  rw [Try.underlying61] at h
  simp only [hc, List.length_cons, List.length_nil, List.mapM_cons, List.mapM_nil, hi] at h
  split at h
  case isFalse => cases h
  simp only [List.drop_zero, List.drop_succ_cons, List.take_succ_cons, List.take_zero, Option.bind_eq_bind, Option.pure_def] at h
  obtain ⟨x, hx, rfl⟩ := Option.map_eq_some_iff.1 h
  obtain ⟨l0, h0, hx⟩ := Option.bind_eq_some_iff.1 hx
  obtain ⟨l1, h1, hx⟩ := Option.bind_eq_some_iff.1 hx
  obtain ⟨r, hr, rfl, rfl⟩ := int_lits n h0
  obtain ⟨l2, h2, hx2⟩ := Option.bind_eq_some_iff.1 h1
  obtain ⟨a, ha, rfl, rfl⟩ := int_lits n h2
  cases hx2
  cases hx
  exact ⟨r, a, hr, ha, rfl, rfl, rfl⟩
set_option maxRecDepth 8000 in
theorem pl_inv {key : Value} {kl : Lit} (h : keyOf Try.prog 61 key = some kl) : ∃ r a : Int, inI r ∧ inI a ∧ key = .agg #[.int .i64 r, .int .i64 a] ∧ kl = plK r a := by
  have hc : Try.prog.cellsOf 61 = 2 := by kernel_rfl
  obtain ⟨n, hn⟩ := pl_fuel
  have hk : Try.prog.keyType 61 = true := by kernel_rfl
  unfold keyOf at h
  rw [Try.underlying61] at h
  simp only [hk, Bool.true_and, hn] at h
  by_cases hf : key.formed Try.prog 61 = true
  case neg => rw [if_neg hf] at h; cases h
  rw [if_pos hf] at h
  cases key with
  | agg cs =>
    simp only [Value.formed, Try.underlying61, hc, beq_iff_eq] at hf
    obtain ⟨l⟩ := cs
    match l, hf with
    | [c0, c1], _ =>
      rw [show (Value.agg ⟨[c0, c1]⟩).cells.toList = [c0, c1] from rfl] at h
      obtain ⟨ls, h1, h2⟩ := Option.map_eq_some_iff.1 h
      obtain ⟨r, a, hr, ha, rfl, rfl, rfl⟩ := pl_lits_inv n h1
      exact ⟨r, a, hr, ha, rfl, h2.symm⟩
  | _ => simp [Value.formed, Try.underlying61] at hf
theorem pl_inj {r a r' a' : Int} (hr : inI r) (ha : inI a) (hr' : inI r') (ha' : inI a') (h : plK r a = plK r' a') : r = r' ∧ a = a' := by
  have h1 := pl_key hr ha
  have h2 := pl_key hr' ha'
  rw [← h] at h2
  have := pl_law.inj h1 h2
  simpa using this

/-- Block b is a map of these votes' digests by their places. -/
def MapV (w : World) (b : Nat) (g : List Vt) : Prop :=
  (∀ v ∈ g, VtI v) ∧ ApartV g ∧ ∃ D : DataW Unit, w.ownsMap Try.prog 61 (plainElem Try.prog 3) b g.length D ∧ Maps.size D = g.length ∧
    (∀ r a, inI r → inI a → (Maps.has D (plK r a) = true ↔ ∃ v ∈ g, v.r = r ∧ v.a = a)) ∧ ∀ v ∈ g, ∀ zd, D.atKey (plK v.r v.a) zd = .lit (.int .i64 v.d)
theorem mapV_tm : Try.prog.underlying 57 = some (.map 61 3) := Try.underlying57
theorem mapV_int : Try.prog.underlying 3 = some (.int .i64) := Try.underlying3
theorem mapV_zero (w : World) : (zeroValue 3).run Try.prog w = .ok (.int .i64 0) w := by kernel_rfl
theorem MapV.lt {w : World} {b : Nat} {g : List Vt} (h : MapV w b g) : b < w.heap.size := by
  obtain ⟨_, _, D, h, _⟩ := h
  exact h.lt
theorem MapV.kept {w w' : World} {b : Nat} {g : List Vt} {row : Option Nat} (h : MapV w b g) (hg : w.grownBy w' row) (hne : some b ≠ row) : MapV w' b g := by
  obtain ⟨h1, h2, D, h, h3⟩ := h
  exact ⟨h1, h2, D, h.kept hg hne, h3⟩
theorem MapV.drew {w : World} {b : Nat} {g : List Vt} (h : MapV w b g) : MapV w.drew b g := h
theorem MapV.new (w : World) : MapV (w.alloc (.map #[] 0)) w.heap.size [] :=
  ⟨by simp, List.Pairwise.nil, .map [], World.ownsMap_made _ _ _ _, rfl, fun r a _ _ => by simp [Maps.has], by simp⟩
theorem ownsMap_tight {H : Type} {P : Program} {k : TypeId} {R : Value → Option (DataW H × List MemPlace)} {w : World} {b n m : Nat} {D : DataW H} (h : w.ownsMap P k R b n D) (hm : Maps.size D ≤ m) : w.ownsMap P k R b m D := by
  obtain ⟨es, clock, hb, F, hs, rfl⟩ := h
  exact ⟨es, clock, hb, F, by simpa [Maps.size, length_sorted] using hm, rfl⟩
theorem MapV.tidy {w : World} {b : Nat} {g : List Vt} {D : DataW Unit} (h : w.ownsMap Try.prog 61 (plainElem Try.prog 3) b g.length D) : Maps.Tidy D := h.tidy pl_law
/-- A vote for a new place is stored. -/
theorem MapV.store {w : World} {b : Nat} {g : List Vt} (h : MapV w b g) {v : Vt} (hv : VtI v) (hn : ∀ u ∈ g, ¬ SamePl u v) (hlen : g.length ≤ 1099511627776) :
    ∃ w', (Instr.mapUpdate 57 (.map (some b)) (.agg #[.int .i64 v.r, .int .i64 v.a]) (.int .i64 v.d)).run Try.prog w = .ok () w' ∧ MapV w' b (v :: g) ∧ w.grownBy w' (some b) := by
  obtain ⟨h1, h2, D, h, hs, hh, ha⟩ := h
  have hk : WideAt.IsKeyLit (plK v.r v.a) := pl_law.key (pl_key hv.1 hv.2.1)
  have htd := h.tidy pl_law
  obtain ⟨w', hrun, ho, hg⟩ := h.update pl_law mapV_tm (by unfold maxLen; omega) (pl_key hv.1 hv.2.1) (plainElem_int mapV_int (inI_wf hv.2.2))
  have hno : Maps.has D (plK v.r v.a) = false := by
    cases e : Maps.has D (plK v.r v.a) with
    | false => rfl
    | true =>
      obtain ⟨u, hu, e1, e2⟩ := (hh _ _ hv.1 hv.2.1).1 e
      exact absurd ⟨e1, e2⟩ (hn u hu)
  have hne : ∀ r a, inI r → inI a → ¬ (v.r = r ∧ v.a = a) → plK r a ≠ plK v.r v.a := fun r a hr ha' hx e => hx (pl_inj hv.1 hv.2.1 hr ha' e.symm)
  refine ⟨w', hrun, ⟨?_, ?_, _, ho, ?_, ?_, ?_⟩, hg⟩
  · intro u hu
    rcases List.mem_cons.1 hu with e | hu
    · rw [e]; exact hv
    · exact h1 u hu
  · exact List.pairwise_cons.2 ⟨fun u hu e => hn u hu ⟨e.1.symm, e.2.symm⟩, h2⟩
  · rw [Maps.size_put htd, hno, hs]; simp
  · intro r a hr ha'
    by_cases e : v.r = r ∧ v.a = a
    · obtain ⟨rfl, rfl⟩ := e
      rw [Maps.has_put_same htd.isMap hk]
      exact ⟨fun _ => ⟨v, List.mem_cons_self, rfl, rfl⟩, fun _ => rfl⟩
    · rw [Maps.has_put_other (hne r a hr ha' e), hh r a hr ha']
      exact ⟨fun ⟨u, hu, h⟩ => ⟨u, List.mem_cons_of_mem _ hu, h⟩, fun ⟨u, hu, h⟩ => by
        rcases List.mem_cons.1 hu with e' | hu
        · rw [e'] at h; exact absurd h e
        · exact ⟨u, hu, h⟩⟩
  · intro u hu zd
    by_cases e : v.r = u.r ∧ v.a = u.a
    · have hvu : u = v := by
        rcases List.mem_cons.1 hu with e' | hu
        · exact e'
        · exact absurd ⟨e.1.symm, e.2.symm⟩ (hn u hu)
      rw [hvu, Maps.atKey_put_same htd.isMap hk]
    · have hu' : u ∈ g := by
        rcases List.mem_cons.1 hu with e' | hu
        · rw [e'] at e; exact absurd ⟨rfl, rfl⟩ e
        · exact hu
      rw [Maps.atKey_put_other (hne u.r u.a (h1 u hu').1 (h1 u hu').2.1 e)]
      exact ha u hu' zd
set_option maxRecDepth 8000 in
/-- A place is looked up. -/
theorem MapV.look {w : World} {b : Nat} {g : List Vt} (h : MapV w b g) {r a : Int} (hr : inI r) (ha : inI a) :
    ∃ (d : Int) (ok : Bool), (Instr.lookup 57 (.map (some b)) (.agg #[.int .i64 r, .int .i64 a]) true).run Try.prog w = .ok (.tuple #[.int .i64 d, .bool ok]) w ∧ (ok = true ↔ ∃ v ∈ g, v.r = r ∧ v.a = a) ∧ ∀ v ∈ g, v.r = r → v.a = a → d = v.d := by
  obtain ⟨h1, h2, D, h, hs, hh, hat⟩ := h
  obtain ⟨x, ps, hrun, hx⟩ := h.look_ok pl_law mapV_tm (mapV_zero w) (zd := .lit (.int .i64 0)) (zp := []) (plainElem_int mapV_int (by decide)) (pl_key hr ha)
  obtain ⟨d, rfl, hd, hw⟩ := plainElem_int_inv mapV_int hx
  refine ⟨d, _, hrun, hh r a hr ha, fun v hv e1 e2 => ?_⟩
  subst e1 e2
  have := hat v hv (.lit (.int .i64 0))
  have h9 := congrArg Prod.fst hd
  simp only at h9
  rw [this] at h9
  injection h9 with h9
  injection h9 with h8 h9
  exact h9.symm
theorem MapV.len {w : World} {b : Nat} {g : List Vt} (h : MapV w b g) (ty : TypeId) : (Builtin.len_ #[57] ty #[.map (some b)]).run Try.prog w = .ok (.int .i64 g.length) w := by
  obtain ⟨h1, h2, D, h, hs, hh, hat⟩ := h
  rw [← hs]
  exact h.len mapV_tm ty

end Go.Proofs.Ytgpbogalknmcmaa

/- Signing a vote, by whether there is a vote for its round and author; plain facts, nothing here speaks of the program. -/
namespace Go.Proofs.Ytgpbogalknmcmaa

theorem hit_none {g : List Vt} {v : Vt} (h : ∀ y ∈ g, ¬ SamePl y v) : hitV g v = none := by
  cases e : hitV g v with
  | none => rfl
  | some y => exact absurd ⟨(hit_some e).2.1, (hit_some e).2.2⟩ (h y (hit_some e).1)
theorem sign_there {f : Int} {g : List Vt} {v : Vt} (hs : voterB f g = true) (h : ∃ y ∈ g, SamePl y v) : signG f g v = g ∧ signB f g v = decide (v ∈ g) := by
  obtain ⟨y, hy, hr, ha⟩ := h
  have hsort := voter_sorted hs
  have hh := hit_mem hsort hy hr ha
  refine ⟨by unfold signG; rw [hh], ?_⟩
  unfold signB
  rw [hh, Bool.eq_iff_iff, decide_eq_true_iff, decide_eq_true_iff]
  constructor
  · intro hd
    have : y = v := by cases y; cases v; simp only at *; rw [hr, ha, hd]
    rw [← this]; exact hy
  · intro hv
    have h2 := hit_mem hsort hv rfl rfl
    rw [hh] at h2
    cases h2
    rfl
theorem sign_not {f : Int} {g : List Vt} {v : Vt} (h : ∀ y ∈ g, ¬ SamePl y v) (hf : v.r < f ∨ 40 ≤ g.length) : signG f g v = g ∧ signB f g v = decide (v ∈ g) := by
  have hn := hit_none h
  refine ⟨by unfold signG; rw [hn]; simp only; rw [if_pos hf], ?_⟩
  have hv : v ∉ g := fun hv => h v hv ⟨rfl, rfl⟩
  unfold signB
  rw [hn, decide_eq_false hv]
  simp only [Bool.not_eq_false', Bool.or_eq_true, decide_eq_true_eq]
  exact hf
theorem sign_new {f : Int} {g : List Vt} {v : Vt} (hs : voterB f g = true) (h : ∀ y ∈ g, ¬ SamePl y v) (hf : f ≤ v.r) (hl : g.length < 40) : signB f g v = true ∧ ∀ x, x ∈ signG f g v ↔ x = v ∨ x ∈ g := by
  have hb : signB f g v = true := (sign_iff (voter_sorted hs)).2 (.inr ⟨h, hf, hl⟩)
  exact ⟨hb, fun x => sign_mem hb x⟩
theorem vote_I {v : Vt} (h : voteB v = true) : VtI v := by
  unfold voteB vtRB vtAB digB at h
  simp only [Bool.and_eq_true, decide_eq_true_eq] at h
  refine ⟨⟨?_, ?_⟩, ⟨?_, ?_⟩, ⟨?_, ?_⟩⟩ <;> omega
theorem voter_apart {f : Int} {g : List Vt} (h : voterB f g = true) : ApartV g := (voter_sorted h).imp fun {a b} hab hs => by
  have := vbef_ra' hs.1 hs.2 b
  rw [hab, vbef_irr] at this
  cases this
theorem voter_I {f : Int} {g : List Vt} (h : voterB f g = true) : ∀ u ∈ g, VtI u := fun _ hu => vote_I (voter_mem h hu).1
theorem voter_len {f : Int} {g : List Vt} (h : voterB f g = true) : 0 ≤ f ∧ f ≤ 31 ∧ g.length ≤ 40 := by
  unfold voterB at h
  simp only [Bool.and_eq_true, decide_eq_true_eq] at h
  omega
/-- What VoterSign answers. -/
def sgF (f : Int) (g : List Vt) (v : Vt) : Int := if voterB f g && voteB v then f else 0
def sgG (f : Int) (g : List Vt) (v : Vt) : List Vt := if voterB f g && voteB v then signG f g v else []
def sgB (f : Int) (g : List Vt) (v : Vt) : Bool := voterB f g && voteB v && signB f g v
theorem sg_no {f : Int} {g : List Vt} {v : Vt} (h : (voterB f g && voteB v) = false) : sgF f g v = 0 ∧ sgG f g v = [] ∧ sgB f g v = false := by
  unfold sgF sgG sgB; rw [h]; exact ⟨rfl, rfl, rfl⟩
theorem sg_yes {f : Int} {g : List Vt} {v : Vt} (h : voterB f g = true) (h' : voteB v = true) : sgF f g v = f ∧ sgG f g v = signG f g v ∧ sgB f g v = signB f g v := by
  unfold sgF sgG sgB; rw [h, h']; exact ⟨rfl, rfl, rfl⟩
/-- A sorted list of just these votes is what signing gives. -/
theorem sign_ext {f : Int} {g G : List Vt} {v : Vt} (hs : voterB f g = true) (hv : voteB v = true) (hG : G.Pairwise fun x y => vbefB x y = true) (hm : ∀ x, x ∈ G ↔ x ∈ signG f g v) : G = signG f g v :=
  sorted_ext _ _ hG (voter_sorted (voter_sign hs hv)) hm

end Go.Proofs.Ytgpbogalknmcmaa

/- Plain facts on voters that sign: once, order, keeps, full; nothing here speaks of the program. -/
namespace Go.Proofs.Ytgpbogalknmcmaa
open Go.RowKit

theorem sg_true {f : Int} {g : List Vt} {v : Vt} (h : sgB f g v = true) : voterB f g = true ∧ voteB v = true ∧ signB f g v = true ∧ sgF f g v = f ∧ sgG f g v = signG f g v := by
  unfold sgB at h
  simp only [Bool.and_eq_true] at h
  obtain ⟨⟨h1, h2⟩, h3⟩ := h
  obtain ⟨e1, e2, _⟩ := sg_yes h1 h2
  exact ⟨h1, h2, h3, e1, e2⟩
theorem vote_dig {v : Vt} (h : voteB v = true) : 0 ≤ v.d ∧ v.d ≤ 990 := by
  unfold voteB at h
  simp only [Bool.and_eq_true] at h
  have := digB_bd h.2.2
  omega
theorem vote_with {v : Vt} (h : voteB v = true) {d : Int} (h0 : 0 ≤ d) (h1 : d ≤ 990) : voteB ⟨v.r, v.a, d⟩ = true := by
  unfold voteB at h ⊢
  simp only [Bool.and_eq_true] at h ⊢
  refine ⟨h.1, h.2.1, ?_⟩
  unfold digB; exact decide_eq_true (by omega)
theorem once_fact {f : Int} {g : List Vt} {v : Vt} (h : sgB f g v = true) : (0 ≤ v.d ∧ v.d ≤ 990) ∧ ∀ d, 0 ≤ d → d ≤ 990 → d ≠ v.d →
    sgB (sgF f g v) (sgG f g v) ⟨v.r, v.a, d⟩ = false ∧ sgF (sgF f g v) (sgG f g v) ⟨v.r, v.a, d⟩ = sgF f g v ∧ sgG (sgF f g v) (sgG f g v) ⟨v.r, v.a, d⟩ = sgG f g v := by
  obtain ⟨h1, h2, h3, h4, h5⟩ := sg_true h
  refine ⟨vote_dig h2, fun d d0 d1 hne => ?_⟩
  rw [h4, h5]
  have hv := voter_sign h1 h2
  have hu := vote_with h2 d0 d1
  obtain ⟨e1, e2, e3⟩ := sg_yes hv hu
  obtain ⟨s1, s2⟩ := sign_once (f' := f) (u := ⟨v.r, v.a, d⟩) h3 rfl rfl
  rw [e1, e2, e3, s1, s2]
  exact ⟨decide_eq_false (fun e => hne e.symm), rfl, rfl⟩
theorem keeps_fact {f : Int} {g : List Vt} {v : Vt} (h : sgB f g v = true) : sgF f g v = f ∧ ∀ x ∈ g, x ∈ sgG f g v := by
  obtain ⟨h1, h2, h3, h4, h5⟩ := sg_true h
  refine ⟨h4, fun x hx => ?_⟩
  rw [h5]
  exact sign_keeps hx
theorem sg_len (f : Int) (g : List Vt) (v : Vt) : (sgG f g v).length ≤ g.length + 1 := by
  have h := congrArg List.length (low_up g v)
  rw [List.length_append] at h
  unfold sgG
  split
  · unfold signG
    split
    · omega
    · split
      · omega
      · simp only [List.length_append, List.length_cons]; omega
  · simp
theorem full_fact {f : Int} {g : List Vt} {v : Vt} (h : sgB f g v = false) (hv : voterB f g = true) (hl : (sgG f g v).length = g.length) :
    (∀ u ∈ g, u.r = v.r → u.a = v.a → u.d ≠ v.d) ∧ ((∀ u ∈ g, ¬ (u.r = v.r ∧ u.a = v.a)) → v.r < f ∨ g.length = 40 ∨ g.length = 0) := by
  cases h2 : voteB v with
  | false =>
    have : sgG f g v = [] := by unfold sgG; rw [hv, h2]; rfl
    rw [this] at hl
    have hg : g = [] := List.eq_nil_of_length_eq_zero hl.symm
    subst hg
    exact ⟨fun u hu => by simp at hu, fun _ => .inr (.inr rfl)⟩
  | true =>
    have h3 : signB f g v = false := by unfold sgB at h; rw [hv, h2] at h; simpa using h
    have hs := voter_sorted hv
    have hn : ¬ (v ∈ g ∨ ((∀ u ∈ g, ¬ (u.r = v.r ∧ u.a = v.a)) ∧ f ≤ v.r ∧ g.length < 40)) := fun hh => by
      rw [(sign_iff hs).2 hh] at h3; cases h3
    refine ⟨fun u hu hr ha hd => hn (.inl ?_), fun hall => ?_⟩
    · have : u = v := by obtain ⟨ur, ua, ud⟩ := u; obtain ⟨vr, va, vd⟩ := v; simp only at hr ha hd; subst hr; subst ha; subst hd; rfl
      rw [← this]; exact hu
    · have hlen := (voter_len hv).2.2
      by_cases h4 : v.r < f
      · exact .inl h4
      · by_cases h5 : g.length < 40
        · exact absurd (.inr ⟨hall, by omega, h5⟩) hn
        · exact .inr (.inl (by omega))
theorem order_fact {f : Int} {g : List Vt} {v u : Vt} (h : sgB f g v = true) (h' : sgB (sgF f g v) (sgG f g v) u = true) :
    sgB f g u = true ∧ sgB (sgF f g u) (sgG f g u) v = true ∧ sgF (sgF f g u) (sgG f g u) v = sgF (sgF f g v) (sgG f g v) u ∧ sgG (sgF f g u) (sgG f g u) v = sgG (sgF f g v) (sgG f g v) u := by
  obtain ⟨h1, h2, h3, h4, h5⟩ := sg_true h
  obtain ⟨k1, k2, k3, k4, k5⟩ := sg_true h'
  rw [h4, h5] at k1 k3 k4 k5
  rw [h4, h5]
  obtain ⟨c1, c2, c3⟩ := sign_comm h1 h2 k2 h3 k3
  obtain ⟨e1, e2, e3⟩ := sg_yes h1 k2
  have hw := voter_sign h1 k2
  obtain ⟨d1, d2, d3⟩ := sg_yes hw h2
  rw [e1, e2, e3, d1, d2, d3, k4, k5, c3]
  exact ⟨c1, c2, rfl, rfl⟩

end Go.Proofs.Ytgpbogalknmcmaa

/- A range over a map of votes: in whatever order they come, each comes once; general steps over the kit's laws on ranges. -/
namespace Go.Proofs.Ytgpbogalknmcmaa
open Go.RowKit

/-- What the map reads as, key by key. -/
def ReadsV (D : DataW Unit) (g : List Vt) : Prop := Maps.size D = g.length ∧ (∀ r a, inI r → inI a → (Maps.has D (plK r a) = true ↔ ∃ v ∈ g, v.r = r ∧ v.a = a)) ∧ ∀ v ∈ g, ∀ zd, D.atKey (plK v.r v.a) zd = .lit (.int .i64 v.d)
/-- A range over the map in block b is under way, its iterator in block r: cs have come, cnt are still to come. -/
def RangeV (w : World) (b r : Nat) (g : List Vt) (cnt : Nat) (cs : List Vt) : Prop :=
  (∀ v ∈ g, VtI v) ∧ ApartV g ∧ ∃ (D : DataW Unit) (left : Lit → Bool), w.ranges Try.prog 61 (plainElem Try.prog 3) b r g.length D left cnt ∧ ReadsV D g ∧
    ApartV cs ∧ (∀ v, v ∈ cs ↔ v ∈ g ∧ left (plK v.r v.a) = false) ∧ cs.length + cnt ≤ g.length
theorem RangeV.map {w : World} {b r : Nat} {g : List Vt} {cnt : Nat} {cs : List Vt} (h : RangeV w b r g cnt cs) : MapV w b g := by
  obtain ⟨h1, h2, D, left, h, ⟨h3, h4, h5⟩, _⟩ := h
  exact ⟨h1, h2, D, h.owns, h3, h4, h5⟩
theorem RangeV.left_eq {w : World} {b r : Nat} {g : List Vt} {cnt : Nat} {cs : List Vt} (h : RangeV w b r g cnt cs) : w.rangeLeft b r = cnt := by
  obtain ⟨h1, h2, D, left, h, _⟩ := h
  exact h.left_eq
theorem RangeV.le {w : World} {b r : Nat} {g : List Vt} {cnt : Nat} {cs : List Vt} (h : RangeV w b r g cnt cs) : cs.length + cnt ≤ g.length := by
  obtain ⟨h1, h2, D, left, h, _, _, _, h⟩ := h
  exact h
theorem RangeV.apart {w : World} {b r : Nat} {g : List Vt} {cnt : Nat} {cs : List Vt} (h : RangeV w b r g cnt cs) : ApartV cs := by
  obtain ⟨h1, h2, D, left, h, _, h, _⟩ := h
  exact h
theorem RangeV.lt {w : World} {b r : Nat} {g : List Vt} {cnt : Nat} {cs : List Vt} (h : RangeV w b r g cnt cs) : r < w.heap.size ∧ b < w.heap.size ∧ r ≠ b := by
  obtain ⟨h1, h2, D, left, h, _⟩ := h
  exact ⟨h.lt, h.owns.lt, h.ne⟩
theorem RangeV.kept {w w' : World} {b r : Nat} {g : List Vt} {cnt : Nat} {cs : List Vt} {row : Option Nat} (h : RangeV w b r g cnt cs) (hg : w.grownBy w' row) (hb : some b ≠ row) (hr : some r ≠ row) : RangeV w' b r g cnt cs := by
  obtain ⟨h1, h2, D, left, h, h3⟩ := h
  exact ⟨h1, h2, D, left, h.kept hg hb hr, h3⟩
set_option maxRecDepth 8000 in
theorem MapV.range {w : World} {b : Nat} {g : List Vt} (h : MapV w b g) :
    ∃ w', (Instr.range 57 (.map (some b))).run Try.prog w = .ok (.pointer (some ⟨w.heap.size, 0, none⟩)) w' ∧ RangeV w' b w.heap.size g g.length [] ∧ w.grownBy w' none ∧ w'.heap.size = w.heap.size + 1 := by
  obtain ⟨h1, h2, D, h, h3, h4, h5⟩ := h
  obtain ⟨w', hrun, hr, hg, hs⟩ := h.range pl_law mapV_tm
  refine ⟨w', hrun, ⟨h1, h2, D, _, h3 ▸ hr, ⟨h3, h4, h5⟩, List.Pairwise.nil, ?_, by simp⟩, hg, hs⟩
  intro v
  constructor
  · intro hv
    simp at hv
  · rintro ⟨hv, hl⟩
    have := (h4 v.r v.a (h1 v hv).1 (h1 v hv).2.1).2 ⟨v, hv, rfl, rfl⟩
    rw [this] at hl
    cases hl
theorem apart_eq {g : List Vt} (h : ApartV g) {u v : Vt} (hu : u ∈ g) (hv : v ∈ g) (hs : SamePl v u) : v = u := by
  obtain ⟨i, hi, rfl⟩ := List.mem_iff_getElem.1 hu
  obtain ⟨j, hj, rfl⟩ := List.mem_iff_getElem.1 hv
  have hp := List.pairwise_iff_getElem.1 h
  rcases Nat.lt_trichotomy i j with hij | rfl | hij
  · exact absurd ⟨hs.1.symm, hs.2.symm⟩ (hp i j hi hj hij)
  · rfl
  · exact absurd hs (hp j i hj hi hij)
set_option maxRecDepth 8000 in
theorem wpList_nextV {w : World} {ops : Array Oper} {rest : List Oper} {o : Oper} {a : Act} {Q : Exit → Act → World → Prop} {b r : Nat} {g : List Vt} {cnt : Nat} {cs : List Vt} (hgd : o.guard = none) (it : Operand) (hop : o.op = Op.next it false) (hit : a.eval it = .pointer (some ⟨r, 0, none⟩)) (h : RangeV w b r g cnt cs)
    (hDone : (∀ v, v ∈ cs ↔ v ∈ g) → wpList Try.prog ops Q rest (a.put o.dst (.tuple #[.bool false])) w)
    (hMore : ∀ u w' cnt', u ∈ g → u ∉ cs → RangeV w' b r g cnt' (cs ++ [u]) → cnt' < cnt → w.grownBy w' (some r) → w'.heap.size = w.heap.size → (Instr.entry (.pointer (some ⟨r, 0, none⟩))).run Try.prog w' = .ok (.tuple #[.agg #[.int .i64 u.r, .int .i64 u.a], .int .i64 u.d]) w' →
      wpList Try.prog ops Q rest (a.put o.dst (.tuple #[.bool true, .agg #[.int .i64 u.r, .int .i64 u.a], .int .i64 u.d])) w') : wpList Try.prog ops Q (o :: rest) a w := by
  obtain ⟨h1, h2, D, left, hr, ⟨h3, h4, h5⟩, hap, hcs, hle⟩ := h
  refine wpList_next_ranges w hgd it hop 61 pl_law (plainElem Try.prog 3) (fun p : Int × Int => .agg #[.int .i64 p.1, .int .i64 p.2]) (Value.int .i64) (fun key kl hk => by obtain ⟨x, y, _, _, e, _⟩ := pl_inv hk; exact ⟨(x, y), e⟩) (fun v y hv => by obtain ⟨c, e, _⟩ := plainElem_int_inv mapV_int hv; exact ⟨c, e⟩)
    b r g.length D left cnt hit hr (fun h0 hl => hDone fun v => by rw [hcs v, hl]; simp) (fun p c kl y w' cnt' hk hl hv hat hr' hlt hg hs hen => ?_)
  obtain ⟨pr, pa⟩ := p
  obtain ⟨r', a', hir, hia, e, rfl⟩ := pl_inv hk
  simp only [Value.agg.injEq, Array.mk.injEq, List.cons.injEq, Value.int.injEq, true_and, and_true] at e
  obtain ⟨rfl, rfl⟩ := e
  have hhas := Maps.has_true_of_atKey hat
  obtain ⟨u, hu, e1, e2⟩ := (h4 pr pa hir hia).1 hhas
  subst e1 e2
  have hd : c = u.d := by
    obtain ⟨c', e3, e4, _⟩ := plainElem_int_inv mapV_int hv
    simp only [Value.int.injEq, true_and] at e3
    subst e3
    have h6 := hat (.lit (.int .i64 0))
    rw [h5 u hu, e4] at h6
    simp only at h6
    injection h6 with h6
    injection h6 with _ h6
    exact h6.symm
  subst hd
  have hnu : u ∉ cs := fun hm => by have := ((hcs u).1 hm).2; rw [hl] at this; cases this
  have hsame : ∀ v ∈ g, (plK v.r v.a).sameKey (plK u.r u.a) = true ↔ v = u := by
    intro v hv'
    constructor
    · intro hs'
      have hkk := WideAt.sameKey_eq hs'
      have hp := pl_inj (h1 v hv').1 (h1 v hv').2.1 hir hia hkk
      exact apart_eq h2 hu hv' hp
    · rintro rfl
      exact WideAt.sameKey_self (pl_law.key hk)
  have hap' : ApartV (cs ++ [u]) := by
    refine List.pairwise_append.2 ⟨hap, List.pairwise_singleton _ _, ?_⟩
    intro v hv' u' hu' hs'
    have hu'' : u' = u := by simpa using hu'
    subst hu''
    exact hnu (apart_eq h2 hu ((hcs v).1 hv').1 hs' ▸ hv')
  have hcs' : ∀ v, v ∈ cs ++ [u] ↔ v ∈ g ∧ (left (plK v.r v.a) && !(plK v.r v.a).sameKey (plK u.r u.a)) = false := by
    intro v
    rw [List.mem_append, hcs v, List.mem_singleton]
    constructor
    · rintro (⟨h6, h7⟩ | rfl)
      · exact ⟨h6, by rw [h7]; rfl⟩
      · exact ⟨hu, by rw [(hsame v hu).2 rfl]; simp⟩
    · rintro ⟨h6, h7⟩
      by_cases e : v = u
      · exact .inr e
      · have : (plK v.r v.a).sameKey (plK u.r u.a) = false := by
          cases h8 : (plK v.r v.a).sameKey (plK u.r u.a) with
          | false => rfl
          | true => exact absurd ((hsame v h6).1 h8) e
        rw [this] at h7
        exact .inl ⟨h6, by simpa using h7⟩
  exact hMore u w' cnt' hu hnu ⟨h1, h2, D, _, hr', ⟨h3, h4, h5⟩, hap', hcs', by rw [List.length_append]; simp; omega⟩ hlt hg hs hen

end Go.Proofs.Ytgpbogalknmcmaa

/- Where the parts of slices.SortFunc at votes lie in the program; closed facts. -/
namespace Go.Proofs.Ytgpbogalknmcmaa
open Go.RowKit Go.Shelf

def sortV_ren : Go.Shelf.Ren := ⟨fun | 6 => 54 | 15 => 60 | 14 => 59 | 28 => 70 | 29 => 71 | 20 => 62 | 21 => 63 | 22 => 64 | 23 => 65 | 24 => 66 | 25 => 67 | 26 => 68 | 27 => 69 | 46 => 72 | 47 => 73 | 48 => 74 | 49 => 75 | 50 => 76 | 57 => 77 | n => n, fun | 22 => 23 | 24 => 27 | 25 => 80 | 3 => 3 | 39 => 85 | 0 => 0 | 53 => 94 | 55 => 96 | 4 => 4 | 46 => 88 | 45 => 87 | 50 => 59 | 5 => 5 | 9 => 9 | 66 => 97 | 70 => 101 | 76 => 103 | 77 => 104 | n => n, fun | n => n⟩
theorem sortV : Go.Proofs.SlLaysF0.n6 Try.prog sortV_ren := {
  mixed := by kernel_rfl
  f6 := ⟨Try.f54.name, by decide, Try.func54.trans (congrArg some (by kernel_rfl))⟩
  f14 := ⟨Try.f59.name, by decide, Try.func59.trans (congrArg some (by kernel_rfl))⟩
  f15 := Try.func60.trans (congrArg some (by kernel_rfl))
  f20 := ⟨Try.f62.name, by decide, Try.func62.trans (congrArg some (by kernel_rfl))⟩
  f21 := ⟨Try.f63.name, by decide, Try.func63.trans (congrArg some (by kernel_rfl))⟩
  f22 := ⟨Try.f64.name, by decide, Try.func64.trans (congrArg some (by kernel_rfl))⟩
  f23 := ⟨Try.f65.name, by decide, Try.func65.trans (congrArg some (by kernel_rfl))⟩
  f24 := ⟨Try.f66.name, by decide, Try.func66.trans (congrArg some (by kernel_rfl))⟩
  f25 := ⟨Try.f67.name, by decide, Try.func67.trans (congrArg some (by kernel_rfl))⟩
  f26 := ⟨Try.f68.name, by decide, Try.func68.trans (congrArg some (by kernel_rfl))⟩
  f27 := ⟨Try.f69.name, by decide, Try.func69.trans (congrArg some (by kernel_rfl))⟩
  f28 := Try.func70.trans (congrArg some (by kernel_rfl))
  f29 := Try.func71.trans (congrArg some (by kernel_rfl))
  f46 := ⟨Try.f72.name, by decide, Try.func72.trans (congrArg some (by kernel_rfl))⟩
  f47 := Try.func73.trans (congrArg some (by kernel_rfl))
  f48 := Try.func74.trans (congrArg some (by kernel_rfl))
  f49 := ⟨Try.f75.name, by decide, Try.func75.trans (congrArg some (by kernel_rfl))⟩
  f50 := ⟨Try.f76.name, by decide, Try.func76.trans (congrArg some (by kernel_rfl))⟩
  f57 := ⟨Try.f77.name, by decide, Try.func77.trans (congrArg some (by kernel_rfl))⟩
  t0 := Try.underlying0
  a0 := Try.isAgg0
  z0 := Try.sizeOf0
  v0 := Try.zeroValue0
  t3 := Try.underlying3
  a3 := Try.isAgg3
  z3 := Try.sizeOf3
  v3 := Try.zeroValue3
  t4 := Try.underlying4
  a4 := Try.isAgg4
  z4 := Try.sizeOf4
  v4 := Try.zeroValue4
  t5 := Try.underlying5
  a5 := Try.isAgg5
  z5 := Try.sizeOf5
  v5 := Try.zeroValue5
  t9 := Try.underlying9
  a9 := Try.isAgg9
  z9 := Try.sizeOf9
  v9 := Try.zeroValue9
  t22 := Try.underlying23
  a22 := Try.isAgg23
  z22 := Try.sizeOf23
  v22 := Try.zeroValue23
  t25 := Try.underlying80
  a25 := Try.isAgg80
  z25 := Try.sizeOf80
  v25 := Try.zeroValue80
  t39 := Try.underlying85
  a39 := Try.isAgg85
  z39 := Try.sizeOf85
  v39 := Try.zeroValue85
  t45 := Try.underlying87
  a45 := Try.isAgg87
  z45 := Try.sizeOf87
  v45 := Try.zeroValue87
  t46 := Try.underlying88
  a46 := Try.isAgg88
  z46 := Try.sizeOf88
  v46 := Try.zeroValue88
  t50 := Try.underlying59
  a50 := Try.isAgg59
  z50 := Try.sizeOf59
  v50 := Try.zeroValue59
  t53 := Try.underlying94
  a53 := Try.isAgg94
  z53 := Try.sizeOf94
  v53 := Try.zeroValue94
  t55 := Try.underlying96
  a55 := Try.isAgg96
  z55 := Try.sizeOf96
  v55 := Try.zeroValue96
  t66 := Try.underlying97
  a66 := Try.isAgg97
  z66 := Try.sizeOf97
  v66 := Try.zeroValue97
  t70 := Try.underlying101
  a70 := Try.isAgg101
  z70 := Try.sizeOf101
  v70 := Try.zeroValue101
  t76 := Try.underlying103
  a76 := Try.isAgg103
  z76 := Try.sizeOf103
  v76 := Try.zeroValue103
  t77 := Try.underlying104
  a77 := Try.isAgg104
  z77 := Try.sizeOf104
  v77 := Try.zeroValue104 }

end Go.Proofs.Ytgpbogalknmcmaa

/- impl's small functions of votes and tallies, each by a walk of its text; conditions: lists are shorter than 2^40, and where the text asks it, the committee is valid. -/
namespace Go.Proofs.Ytgpbogalknmcmaa
open Go.RowKit

theorem vt_isRound (n : Int) (w : World) : Calls Try.prog 51 #[.int .i64 n] w fun e w' => e = .returned (.bool (vtRB n)) ∧ w = w' := by
  by_cases h : 0 ≤ n
  · have Hf := Lib.hid (show vtRB n = decide (n ≤ 30) by unfold vtRB; rw [Bool.eq_iff_iff]; simp only [decide_eq_true_eq]; omega)
    go_enter Try.func51, Try.ntmps51
    go_wp2
    go_ret
    exact ⟨ret_bool Hf.out.symm, rfl⟩
  · have Hf := Lib.hid (show vtRB n = false by unfold vtRB; exact decide_eq_false (by omega))
    go_enter Try.func51, Try.ntmps51
    go_wp2
    go_ret
    exact ⟨ret_bool Hf.out.symm, rfl⟩

theorem vt_isDigest (n : Int) (w : World) : Calls Try.prog 53 #[.int .i64 n] w fun e w' => e = .returned (.bool (digB n)) ∧ w = w' := by
  by_cases h : 0 ≤ n
  · have Hf := Lib.hid (show digB n = decide (n < 991) by unfold digB; rw [Bool.eq_iff_iff]; simp only [decide_eq_true_eq]; omega)
    go_enter Try.func53, Try.ntmps53
    go_wp2
    go_ret
    exact ⟨ret_bool Hf.out.symm, rfl⟩
  · have Hf := Lib.hid (show digB n = false by unfold digB; exact decide_eq_false (by omega))
    go_enter Try.func53, Try.ntmps53
    go_wp2
    go_ret
    exact ⟨ret_bool Hf.out.symm, rfl⟩

theorem vt_isAuthor (n : Int) (w : World) : Calls Try.prog 52 #[.int .i64 n] w fun e w' => e = .returned (.bool (vtAB n)) ∧ w = w' := by
  obtain ⟨z, hz⟩ : ∃ z, z = decide (0 ≤ n ∧ n ≤ 6) := ⟨_, rfl⟩
  rw [show (vtAB n) = z from hz.symm]
  by_cases h : 0 ≤ n
  · have Hf := Lib.hid (show z = decide (n < 7) from hz.trans (decide_eq_decide.2 (by omega))); clear hz
    go_enter Try.func52, Try.ntmps52
    go_wp2
    go_ret
    exact ⟨ret_bool Hf.out.symm, rfl⟩
  · have Hf := Lib.hid (show z = false from hz.trans (decide_eq_false (by omega))); clear hz
    go_enter Try.func52, Try.ntmps52
    go_wp2
    go_ret
    exact ⟨ret_bool Hf.out.symm, rfl⟩

theorem vt_isFloor (n : Int) (w : World) : Calls Try.prog 39 #[.int .i64 n] w fun e w' => e = .returned (.bool (decide (0 ≤ n ∧ n ≤ 31))) ∧ w = w' := by
  obtain ⟨z, hz⟩ : ∃ z, z = decide (0 ≤ n ∧ n ≤ 31) := ⟨_, rfl⟩
  rw [show (decide (0 ≤ n ∧ n ≤ 31)) = z from hz.symm]
  by_cases h : 0 ≤ n
  · have Hf := Lib.hid (show z = decide (n ≤ 31) from hz.trans (decide_eq_decide.2 (by omega))); clear hz
    go_enter Try.func39, Try.ntmps39
    go_wp2
    go_ret
    exact ⟨ret_bool Hf.out.symm, rfl⟩
  · have Hf := Lib.hid (show z = false from hz.trans (decide_eq_false (by omega))); clear hz
    go_enter Try.func39, Try.ntmps39
    go_wp2
    go_ret
    exact ⟨ret_bool Hf.out.symm, rfl⟩

theorem vote_valid (r a d : Int) (w : World) :
    Calls Try.prog 32 #[.agg #[.int .i64 r, .int .i64 a, .int .i64 d]] w fun e w' => e = .returned (.bool (voteB ⟨r, a, d⟩)) ∧ Below w.heap.size w w' := by
  have hb0 : Below w.heap.size w (w.alloc (.cells #[.int .i64 r, .int .i64 a, .int .i64 d] 27)) := (Below.refl _ _).alloc (Nat.le_refl _) _
  have s0 := Str.new w 27 #[.int .i64 r, .int .i64 a, .int .i64 d]
  have k0 := s0.cell 0 (v := .int .i64 r) rfl
  have k1 := s0.cell 1 (v := .int .i64 a) rfl
  have k2 := s0.cell 2 (v := .int .i64 d) rfl
  have H1 := Lib.hid (fun W => vt_isRound r W)
  have H2 := Lib.hid (fun W => vt_isAuthor a W)
  have H4 := Lib.hid (fun W => vt_isDigest d W)
  have Hb0 := Lib.hid hb0; clear hb0 s0
  have Hres := Lib.hid (show voteB ⟨r, a, d⟩ = (vtRB r && (vtAB a && digB d)) from rfl)
  go_enter Try.func32, Try.ntmps32
  go_wp2_with fail
  generalize w.alloc (.cells #[.int .i64 r, .int .i64 a, .int .i64 d] 27) = W0 at *
  refine (H1.out W0).mono ?_
  rintro e w1 ⟨rfl, rfl⟩
  cases h1 : vtRB r with
  | false =>
    go_wp2
    go_ret
    exact ⟨ret_bool (by rw [Hres.out, h1]; rfl), Hb0.out⟩
  | true =>
  go_wp2_with fail
  refine (H2.out W0).mono ?_
  rintro e w1 ⟨rfl, rfl⟩
  cases h2 : vtAB a with
  | false =>
    go_wp2
    go_ret
    exact ⟨ret_bool (by rw [Hres.out, h1, h2]; rfl), Hb0.out⟩
  | true =>
  go_wp2_with fail
  refine (H4.out W0).mono ?_
  rintro e w1 ⟨rfl, rfl⟩
  go_wp2
  go_ret
  exact ⟨ret_bool (by rw [Hres.out, h1, h2]; rfl), Hb0.out⟩

theorem vote_place (r a d : Int) (w : World) :
    Calls Try.prog 34 #[.agg #[.int .i64 r, .int .i64 a, .int .i64 d]] w fun e w' => e = .returned (.agg #[.int .i64 r, .int .i64 a]) ∧ Below w.heap.size w w' := by
  have hb0 : Below w.heap.size w ((w.alloc (.cells #[.int .i64 r, .int .i64 a, .int .i64 d] 27)).alloc (.cells #[.int .i64 0, .int .i64 0] 61)) := ((Below.refl _ w).alloc (Nat.le_refl _) _).alloc (by simp) _
  have s0 := (Str.new w 27 #[.int .i64 r, .int .i64 a, .int .i64 d]).alloc (.cells #[.int .i64 0, .int .i64 0] 61)
  have s1 := Str.new (w.alloc (.cells #[.int .i64 r, .int .i64 a, .int .i64 d] 27)) 61 #[.int .i64 0, .int .i64 0]
  simp only [World.size_alloc] at s1
  have k0 := s0.cell 0 (v := .int .i64 r) rfl
  have k1 := s0.cell 1 (v := .int .i64 a) rfl
  have g0 := s1.frozen 0
  have g1 := s1.frozen 1
  have j0 := s1.cell 0 (v := .int .i64 0) rfl
  have j1 := s1.cell 1 (v := .int .i64 0) rfl
  have u := (s1.set 0 (.int .i64 r)).set 1 (.int .i64 a)
  have e0 := u.cell 0 (v := .int .i64 r) rfl
  have e1 := u.cell 1 (v := .int .i64 a) rfl
  clear u s0 s1
  clear hb0
  go_enter Try.func34, Try.ntmps34
  go_wp2
  refine bodyPost_ret (v := .agg #[.int .i64 r, .int .i64 a]) (by simp [results, Try.f34, go_sem]) rfl ?_
  exact ⟨rfl, ((Below.refl _ w).alloc (Nat.le_refl _) _).alloc (by simp) _⟩

end Go.Proofs.Ytgpbogalknmcmaa

/- A region that draws its order, operation by operation, where the condition on the world is kept up to a last operation alone (a store into what was loaded): general steps, nothing here speaks of the program. -/
namespace Go.Proofs.Ytgpbogalknmcmaa
open Go.RowKit

/-- Whatever order is picked from here on; S holds behind every operation until number m has come up. -/
def wpAnyL (P : Program) (md : Region.Mode) (ops : Array Oper) (Q : Exit → Act → World → Prop) (m : Nat) (S : World → Prop) : Nat → Array Bool → Act → World → Prop
  | 0, listed, a, w => Region.ready md ops listed = [] ∧ Q .normal a w
  | fuel + 1, listed, a, w =>
    (Region.ready md ops listed = [] → Q .normal a w) ∧
    ∀ i ∈ Region.ready md ops listed, wpOp P ops Q i (fun a' w' => ((listed.setIfInBounds i true).getD m true = false → S w') ∧ wpAnyL P md ops Q m S fuel (listed.setIfInBounds i true) a' w') a w

section
variable {P : Program} {md : Region.Mode} {ops : Array Oper} {Q : Exit → Act → World → Prop} {S : World → Prop} {m : Nat}

theorem any_of_L : ∀ (fuel : Nat) (listed : Array Bool) (a : Act) (w : World), wpAnyL P md ops Q m S fuel listed a w → wpAny P md ops Q fuel listed a w
  | 0, _, _, _, h => h
  | fuel + 1, _, _, _, h => ⟨h.1, fun i hi => wpOp_mono (fun a' w' h' => any_of_L fuel _ a' w' h'.2) (h.2 i hi)⟩

/-- Of two that may come up, neither waits for the other. -/
theorem ready_pair {listed : Array Bool} {i j : Nat} (hi : i ∈ Region.ready md ops listed) (hj : j ∈ Region.ready md ops listed) :
    listed.getD j true = false ∧ ∃ o, ops[j]? = some o ∧ ∀ e ∈ o.after, Region.binds md e = true → e.on ≠ i := by
  obtain ⟨hun, o, ho, hall⟩ := mem_ready.1 hj
  refine ⟨hun, o, ho, fun e he hb heq => ?_⟩
  have h1 := hall e he hb
  have h0 := (mem_ready.1 hi).1
  rw [heq] at h1
  by_cases hlt : i < listed.size <;> simp [hlt] at h0 h1
  rw [h0] at h1; cases h1
/-- Number m waits for number i. -/
def waits (md : Region.Mode) (ops : Array Oper) (m i : Nat) : Bool := (ops[m]?.map fun o => o.after.any fun e => Region.binds md e && e.on == i).getD false
theorem waits_not {listed : Array Bool} {i : Nat} (hw : waits md ops m i = true) (hi : i ∈ Region.ready md ops listed) : m ∉ Region.ready md ops listed := by
  intro hm
  obtain ⟨_, o, ho, hno⟩ := ready_pair hi hm
  unfold waits at hw
  rw [ho, Option.map_some, Option.getD_some, Array.any_eq_true'] at hw
  obtain ⟨e, he, hb⟩ := hw
  rw [Bool.and_eq_true, beq_iff_eq] at hb
  exact hno e he hb.1 hb.2

/-- Whoever may come up ahead of number i leaves its temporaries alone. -/
def FreeAt (md : Region.Mode) (ops : Array Oper) (oi : Oper) (i : Nat) (listed : Array Bool) : Prop :=
  ∀ j oj, ops[j]? = some oj → j ≠ i → listed.getD j true = false → (∀ e ∈ oj.after, Region.binds md e = true → e.on ≠ i) → oi.apart ops oj = true
theorem FreeAt.set {oi : Oper} {i j : Nat} {listed : Array Bool} (h : FreeAt md ops oi i listed) (hj : listed.getD j true = false) : FreeAt md ops oi i (listed.setIfInBounds j true) := by
  intro k ok hk hki hun hno
  refine h k ok hk hki ?_ hno
  rcases Nat.decEq j k with hjk | hjk
  · rwa [getD_set_ne true hjk] at hun
  · exact hjk ▸ hj
theorem firstL {i : Nat} {oi : Oper} {v : Value} (hi : ops[i]? = some oi) (hsel : ∀ (j : Nat) (o : Oper) cs b, ops[j]? = some o → o.op ≠ .select cs b)
    (hQ : ∀ c a w, Q (.panic c) (a.put oi.dst v) w → Q (.panic c) a w) (hw : waits md ops m i = true) (fuel : Nat) :
    ∀ (listed : Array Bool) (a : Act) (w : World), FreeAt md ops oi i listed → listed.getD m true = false → i ∈ Region.ready md ops listed → YieldsIf P ops S oi v a → S w →
      wpAnyL P md ops Q m S fuel (listed.setIfInBounds i true) (a.put oi.dst v) w → wpAnyL P md ops Q m S (fuel + 1) listed a w := by
  have im : ∀ {listed}, i ∈ Region.ready md ops listed → i ≠ m := fun hr e => waits_not hw hr (e ▸ hr)
  induction fuel with
  | zero =>
    intro listed a w _ _ hr hy hS H
    refine ⟨fun h => absurd hr (by rw [h]; simp), fun j hj => ?_⟩
    rcases Nat.decEq j i with hji | rfl
    · exact absurd (ready_mono hj hji) (by rw [H.1]; simp)
    · exact hy.wpOp hi hS ⟨fun _ => hS, H⟩
  | succ fuel ih =>
    intro listed a w hfree hmf hr hy hS H
    refine ⟨fun h => absurd hr (by rw [h]; simp), fun j hj => ?_⟩
    rcases Nat.decEq j i with hji | rfl
    · have hjm : j ≠ m := fun e => waits_not hw hr (e ▸ hj)
      obtain ⟨hjun, oj, hoj, hno⟩ := ready_pair hr hj
      refine wpOp_mono (fun a' w' h3 => ?_) (wpOp_putIf hoj (hfree j oj hoj hji hjun hno) (fun cs b => hsel i oi cs b hi) (fun cs b => hsel j oj cs b hoj) hQ hy (H.2 j (ready_mono hj hji)))
      have hS' : S w' := h3.2.1 (by rw [getD_set_ne true hjm, getD_set_ne true (im hr)]; exact hmf)
      exact ⟨fun _ => hS', ih _ a' w' (hfree.set hjun) (by rw [getD_set_ne true hjm]; exact hmf) (ready_mono hr (Ne.symm hji)) h3.1 hS' (by rw [Array.setIfInBounds_comm _ _ hji]; exact h3.2.2)⟩
    · exact hy.wpOp hi hS ⟨fun _ => hS, H⟩
end

section
variable {P : Program} {md : Region.Mode} {l : List Oper} {Q : Exit → Act → World → Prop} {S : World → Prop} {oi : Oper} {rest : List Oper} {fuel m : Nat} {listed : Array Bool} {a : Act} {w : World}

/-- Take number i first: it is carried out and yields v in every world that meets S. -/
theorem takeL (i : Nat) {v : Value} (hi : l.drop i = oi :: rest) (hs : Region.noSelect l.toArray = true) (hf : Region.free md l.toArray listed i = true) (hr : (Region.ready md l.toArray listed).contains i = true) (hm : waits md l.toArray m i = true) (hm' : listed.getD m true = false)
    (hQ : ∀ c a w, Q (.panic c) (a.put oi.dst v) w → Q (.panic c) a w) (hS : S w) (hw : Region.wanted oi (yielded l.toArray a.tmps) = true)
    (hy : ∀ w, S w → (execOp a.eval oi).run P w = .ok (.value v) w)
    (h : wpAnyL P md l.toArray Q m S fuel (listed.setIfInBounds i true) (a.put oi.dst v) w) : wpAnyL P md l.toArray Q m S (fuel + 1) listed a w :=
  firstL (drop_at hi) (Region.noSelect_spec hs) hQ hm fuel listed a w (Region.free_spec (drop_at hi) hf) hm' (by simpa using hr) (.inl ⟨hw, hy⟩) hS h
/-- Number i is left out by its guard. -/
theorem skipL (i : Nat) (hi : l.drop i = oi :: rest) (hs : Region.noSelect l.toArray = true) (hf : Region.free md l.toArray listed i = true) (hr : (Region.ready md l.toArray listed).contains i = true) (hm : waits md l.toArray m i = true) (hm' : listed.getD m true = false)
    (hQ : ∀ c a w, Q (.panic c) (a.put oi.dst undef) w → Q (.panic c) a w) (hS : S w) (hw : Region.wanted oi (yielded l.toArray a.tmps) = false)
    (h : wpAnyL P md l.toArray Q m S fuel (listed.setIfInBounds i true) (a.put oi.dst undef) w) : wpAnyL P md l.toArray Q m S (fuel + 1) listed a w :=
  firstL (drop_at hi) (Region.noSelect_spec hs) hQ hm fuel listed a w (Region.free_spec (drop_at hi) hf) hm' (by simpa using hr) (.inr ⟨hw, rfl⟩) hS h
/-- Number i alone may come up, and is not the last: it is carried out, and S is shown behind it. -/
theorem callL (i : Nat) (hi : l.drop i = oi :: rest) (hr : Region.ready md l.toArray listed = [i]) (hw : Region.wanted oi (yielded l.toArray a.tmps) = true)
    (h : ∀ K' : Act → World → Prop, Shut (∀ a w, S w → (S w → wpAnyL P md l.toArray Q m S fuel (listed.setIfInBounds i true) a w) → K' a w) → Oper.wp P oi a w K' Q) : wpAnyL P md l.toArray Q m S (fuel + 1) listed a w := by
  refine ⟨fun h0 => absurd (hr ▸ h0) (by simp), fun j hj => ?_⟩
  rw [hr] at hj
  have : j = i := by simpa using hj
  subst this
  exact wpOp_step (drop_at hi) fun K' hK => by rw [if_pos hw]; exact h K' fun a w hS hW => hK a w ⟨fun _ => hS, hW hS⟩
/-- The last one. -/
theorem lastL (hi : l.drop m = oi :: rest) (hr : Region.ready md l.toArray listed = [m]) (hend : Region.ready md l.toArray (listed.setIfInBounds m true) = []) (hm : (listed.setIfInBounds m true).getD m true = true) (hw : Region.wanted oi (yielded l.toArray a.tmps) = true)
    (h : ∀ K' : Act → World → Prop, Shut (∀ a w, Q .normal a w → K' a w) → Oper.wp P oi a w K' Q) : wpAnyL P md l.toArray Q m S (fuel + 1) listed a w := by
  refine ⟨fun h0 => absurd (hr ▸ h0) (by simp), fun j hj => ?_⟩
  rw [hr] at hj
  have : j = m := by simpa using hj
  subst this
  refine wpOp_step (drop_at hi) fun K' hK => by
    rw [if_pos hw]
    refine h K' fun a w hq => hK a w ⟨fun e => absurd (hm.symm.trans e) (by simp), ?_⟩
    cases fuel with
    | zero => exact ⟨hend, hq⟩
    | succ f => exact ⟨fun _ => hq, by rw [hend]; simp⟩
theorem wp_region_L (m : Nat) (S : World → Prop) {id : Nat} {ops : Array Oper} {a : Act} {w : World} (hm : P.follows .mixedOrders = true) (hS : S w.drew)
    (h : S w.drew → wpAnyL P .any ops Q m S ops.size (Array.replicate ops.size false) a w.drew) : (Code.region id ops true).wp P Q a w :=
  wp_region_any hm (any_of_L _ _ _ _ (h hS))
end

end Go.Proofs.Ytgpbogalknmcmaa

/- The order of two votes as impl compares them (cmp.Compare, cmp.Or, the method compare), each by a walk of its text; no conditions. -/
namespace Go.Proofs.Ytgpbogalknmcmaa
open Go.RowKit

def cmpZ (a b : Int) : Int := if a < b then -1 else if b < a then 1 else 0
def vcmpZ (x y : Vt) : Int := if cmpZ x.r y.r ≠ 0 then cmpZ x.r y.r else cmpZ x.a y.a

theorem cmp_isNaN (n : Int) (w : World) : Calls Try.prog 61 #[.int .i64 n] w fun e w' => e = .returned (.bool false) ∧ w = w' := by
  go_enter Try.func61, Try.ntmps61
  go_wp2
  go_ret
  exact ⟨by first | rfl | exact ret_bool (by simp), rfl⟩

theorem cmp_Compare (a b : Int) (w : World) : Calls Try.prog 57 #[.int .i64 a, .int .i64 b] w fun e w' => e = .returned (.int .i64 (cmpZ a b)) ∧ w = w' := by
  have H1 := Lib.hid (fun W => cmp_isNaN a W)
  have H2 := Lib.hid (fun W => cmp_isNaN b W)
  by_cases h1 : a < b
  · have Hz := Lib.hid (show cmpZ a b = -1 by unfold cmpZ; rw [if_pos h1])
    go_enter Try.func57, Try.ntmps57
    go_wp2_with fail
    refine (H1.out _).mono ?_
    rintro e w1 ⟨rfl, rfl⟩
    go_wp2_with fail
    refine (H2.out _).mono ?_
    rintro e w1 ⟨rfl, rfl⟩
    go_wp2
    go_ret
    exact ⟨ret_int (by rw [Hz.out]), rfl⟩
  · by_cases h2 : b < a
    · have Hz := Lib.hid (show cmpZ a b = 1 by unfold cmpZ; rw [if_neg h1, if_pos h2])
      go_enter Try.func57, Try.ntmps57
      go_wp2_with fail
      refine (H1.out _).mono ?_
      rintro e w1 ⟨rfl, rfl⟩
      go_wp2_with fail
      refine (H2.out _).mono ?_
      rintro e w1 ⟨rfl, rfl⟩
      go_wp2
      go_ret
      exact ⟨ret_int (by rw [Hz.out]), rfl⟩
    · have Hz := Lib.hid (show cmpZ a b = 0 by unfold cmpZ; rw [if_neg h1, if_neg h2])
      go_enter Try.func57, Try.ntmps57
      go_wp2_with fail
      refine (H1.out _).mono ?_
      rintro e w1 ⟨rfl, rfl⟩
      go_wp2_with fail
      refine (H2.out _).mono ?_
      rintro e w1 ⟨rfl, rfl⟩
      go_wp2
      go_ret
      exact ⟨ret_int (by rw [Hz.out]), rfl⟩

/-- The first of two numbers that is not 0. -/
theorem cmp_Or2 (b off : Nat) (p q : Int) (w : World) (h0 : w.cell? ⟨b, off, none⟩ = some (.int .i64 p)) (h1 : w.cell? ⟨b, off + 1, none⟩ = some (.int .i64 q)) :
    Calls Try.prog 56 #[.slice (some ⟨b, off, none⟩) 2 2] w fun e w' => e = .returned (.int .i64 (if p ≠ 0 then p else q)) ∧ w = w' := by
  by_cases hp : p = 0
  · have hp' : (p == 0) = true := by simpa using hp
    by_cases hq : q = 0
    · have hq' : (q == 0) = true := by simpa using hq
      go_enter Try.func56, Try.ntmps56
      go_wp2
      refine wp_loop_rounds 3 ?_
      rw [rounds_succ]
      go_wp2
      rw [rounds_succ]
      go_wp2
      rw [rounds_succ]
      go_wp2
      go_ret
      exact ⟨ret_int (by simp), rfl⟩
    · have hq' : (q == 0) = false := by simpa using hq
      go_enter Try.func56, Try.ntmps56
      go_wp2
      refine wp_loop_rounds 3 ?_
      rw [rounds_succ]
      go_wp2
      rw [rounds_succ]
      go_wp2
      go_ret
      exact ⟨ret_int (by simp), rfl⟩
  · have hp' : (p == 0) = false := by simpa using hp
    go_enter Try.func56, Try.ntmps56
    go_wp2
    refine wp_loop_rounds 3 ?_
    rw [rounds_succ]
    go_wp2
    go_ret
    exact ⟨ret_int (by simp), rfl⟩

theorem below_cell {w w' : World} (h : Below w.heap.size w w') {p : Addr} {v : Value} (hc : w.cell? p = some v) : w'.cell? p = some v := (h.cell (World.block_lt_of_cell? w _ hc)).trans hc

set_option maxHeartbeats 2000000 in
theorem vote_compare (x y : Vt) (w : World) :
    Calls Try.prog 40 #[.agg #[.int .i64 x.r, .int .i64 x.a, .int .i64 x.d], .agg #[.int .i64 y.r, .int .i64 y.a, .int .i64 y.d]] w fun e w' => e = .returned (.int .i64 (vcmpZ x y)) ∧
      w' = (((w.alloc (.cells #[.int .i64 x.r, .int .i64 x.a, .int .i64 x.d] 27)).alloc (.cells #[.int .i64 y.r, .int .i64 y.a, .int .i64 y.d] 27)).drew).alloc (.cells #[.int .i64 (cmpZ x.r y.r), .int .i64 (cmpZ x.a y.a)] 3) := by
  have s0 := (Str.new w 27 #[.int .i64 x.r, .int .i64 x.a, .int .i64 x.d]).alloc (.cells #[.int .i64 y.r, .int .i64 y.a, .int .i64 y.d] 27)
  have s1 := Str.new (w.alloc (.cells #[.int .i64 x.r, .int .i64 x.a, .int .i64 x.d] 27)) 27 #[.int .i64 y.r, .int .i64 y.a, .int .i64 y.d]
  simp only [World.size_alloc] at s1
  have k0 := s0.cell 0 (v := .int .i64 x.r) rfl
  have k1 := s0.cell 1 (v := .int .i64 x.a) rfl
  have j0 := s1.cell 0 (v := .int .i64 y.r) rfl
  have j1 := s1.cell 1 (v := .int .i64 y.a) rfl
  have H0 := Lib.hid (fun W => cmp_Compare x.r y.r W)
  have H1 := Lib.hid (fun W => cmp_Compare x.a y.a W)
  have H2 := Lib.hid (fun b W h h' => show Calls Try.prog 56 #[.slice (some ⟨b, 0, none⟩) 2 2] W fun e w' => e = .returned (.int .i64 (vcmpZ x y)) ∧ W = w' from cmp_Or2 b 0 (cmpZ x.r y.r) (cmpZ x.a y.a) W h h')
  clear s0 s1
  go_enter Try.func40, Try.ntmps40
  go_wp2_with fail
  generalize hW0 : (w.alloc (.cells #[.int .i64 x.r, .int .i64 x.a, .int .i64 x.d] 27)).alloc (.cells #[.int .i64 y.r, .int .i64 y.a, .int .i64 y.d] 27) = W0 at *
  have HW0 := Lib.hid hW0; clear hW0
  refine wp_region_held_drew (S := fun w' => w'.cell? ⟨w.heap.size, 0, none⟩ = some (.int .i64 x.r) ∧ w'.cell? ⟨w.heap.size, 1, none⟩ = some (.int .i64 x.a) ∧ w'.cell? ⟨w.heap.size + 1, 0, none⟩ = some (.int .i64 y.r) ∧ w'.cell? ⟨w.heap.size + 1, 1, none⟩ = some (.int .i64 y.a)) (by kernel_rfl) ⟨k0, k1, j0, j1⟩ (fun hH => ?_)
  refine takeH 0 (v := ?v0) rfl (by kernel_rfl) (by kernel_rfl) (by kernel_rfl) (fun _ _ _ h => h) hH rfl ?y0 ?r0
  case y0 => intro W hSw; go_simp; try with_reducible rfl
  try simp only [Act.put, List.setIfInBounds_toArray, List.set_cons_zero, List.set_cons_succ]
  refine takeH 1 (v := ?v1) rfl (by kernel_rfl) (by kernel_rfl) (by kernel_rfl) (fun _ _ _ h => h) hH rfl ?y1 ?r1
  case y1 => intro W hSw; go_simp; try with_reducible rfl
  try simp only [Act.put, List.setIfInBounds_toArray, List.set_cons_zero, List.set_cons_succ]
  refine takeH 2 (v := ?v2) rfl (by kernel_rfl) (by kernel_rfl) (by kernel_rfl) (fun _ _ _ h => h) hH rfl ?y2 ?r2
  case y2 => intro W hSw; go_simp; try with_reducible rfl
  try simp only [Act.put, List.setIfInBounds_toArray, List.set_cons_zero, List.set_cons_succ]
  refine takeH 3 (v := ?v3) rfl (by kernel_rfl) (by kernel_rfl) (by kernel_rfl) (fun _ _ _ h => h) hH rfl ?y3 ?r3
  case y3 => intro W hSw; go_simp; try with_reducible rfl
  try simp only [Act.put, List.setIfInBounds_toArray, List.set_cons_zero, List.set_cons_succ]
  refine takeH 5 (v := ?v5) rfl (by kernel_rfl) (by kernel_rfl) (by kernel_rfl) (fun _ _ _ h => h) hH rfl ?y5 ?r5
  case y5 => intro W hSw; go_simp; try with_reducible rfl
  try simp only [Act.put, List.setIfInBounds_toArray, List.set_cons_zero, List.set_cons_succ]
  refine takeH 6 (v := ?v6) rfl (by kernel_rfl) (by kernel_rfl) (by kernel_rfl) (fun _ _ _ h => h) hH rfl ?y6 ?r6
  case y6 => intro W hSw; go_simp; try with_reducible rfl
  try simp only [Act.put, List.setIfInBounds_toArray, List.set_cons_zero, List.set_cons_succ]
  refine takeH 7 (v := ?v7) rfl (by kernel_rfl) (by kernel_rfl) (by kernel_rfl) (fun _ _ _ h => h) hH rfl ?y7 ?r7
  case y7 => intro W hSw; go_simp; try with_reducible rfl
  try simp only [Act.put, List.setIfInBounds_toArray, List.set_cons_zero, List.set_cons_succ]
  refine takeH 8 (v := ?v8) rfl (by kernel_rfl) (by kernel_rfl) (by kernel_rfl) (fun _ _ _ h => h) hH rfl ?y8 ?r8
  case y8 => intro W hSw; go_simp; try with_reducible rfl
  try simp only [Act.put, List.setIfInBounds_toArray, List.set_cons_zero, List.set_cons_succ]
  refine callH 4 rfl (by kernel_rfl) rfl (fun K hK => ?_)
  go_simp
  go_at_call 57
  refine (H0.out _).mono ?_
  rintro e wx ⟨rfl, rfl⟩
  refine hK.out _ _ hH (fun hH => ?_)
  clear hK K
  try simp only [Act.put, List.setIfInBounds_toArray, List.set_cons_zero, List.set_cons_succ]
  refine callH 9 rfl (by kernel_rfl) rfl (fun K hK => ?_)
  go_simp
  go_at_call 57
  refine (H1.out _).mono ?_
  rintro e wx ⟨rfl, rfl⟩
  refine hK.out _ _ hH (fun hH => ?_)
  clear hK K
  try simp only [Act.put, List.setIfInBounds_toArray, List.set_cons_zero, List.set_cons_succ]
  have sL := Str.new W0.drew 3 #[.int .i64 (cmpZ x.r y.r), .int .i64 (cmpZ x.a y.a)]
  have l0 := sL.cell 0 (v := .int .i64 (cmpZ x.r y.r)) rfl
  have l1 := sL.cell 1 (v := .int .i64 (cmpZ x.a y.a)) rfl
  have hal : Below W0.drew.heap.size W0.drew (W0.drew.alloc (.cells #[.int .i64 (cmpZ x.r y.r), .int .i64 (cmpZ x.a y.a)] 3)) := (Below.refl _ _).alloc (Nat.le_refl _) _
  clear sL
  refine callH 10 rfl (by kernel_rfl) rfl (fun K hK => ?_)
  go_simp
  refine hK.out _ _ ⟨below_cell hal hH.1, below_cell hal hH.2.1, below_cell hal hH.2.2.1, below_cell hal hH.2.2.2⟩ (fun hH => ?_)
  clear hK K
  try simp only [Act.put, List.setIfInBounds_toArray, List.set_cons_zero, List.set_cons_succ]
  refine callH 11 rfl (by kernel_rfl) rfl (fun K hK => ?_)
  go_simp
  go_at_call 56
  refine (H2.out _ _ l0 l1).mono ?_
  rintro e wx ⟨rfl, rfl⟩
  refine hK.out _ _ hH (fun hH => ?_)
  clear hK K
  try simp only [Act.put, List.setIfInBounds_toArray, List.set_cons_zero, List.set_cons_succ]
  refine takeH 12 (v := ?v12) rfl (by kernel_rfl) (by kernel_rfl) (by kernel_rfl) (fun _ _ _ h => h) hH rfl ?y12 ?r12
  case y12 => intro W hSw; go_simp; try with_reducible rfl
  try simp only [Act.put, List.setIfInBounds_toArray, List.set_cons_zero, List.set_cons_succ]
  refine wpAnyH_done (by kernel_rfl) ?_ _
  try simp only [Act.put]
  clear hH hal l0 l1
  go_wp2
  go_ret
  exact ⟨rfl, by rw [HW0.out]⟩

end Go.Proofs.Ytgpbogalknmcmaa
