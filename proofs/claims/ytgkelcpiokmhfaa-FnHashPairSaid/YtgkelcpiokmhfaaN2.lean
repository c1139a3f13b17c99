/- The levels of a hash tree and the siblings on a leaf's way as lists, and what is reckoned from them; plain arithmetic, no walk and no condition of our own. -/
import Derived.Test.YtgkelcpiokmhfaaM2
namespace Go.Proofs.Ytgkelcpiokmhfaa

/-- The levels, from the leaves to the root. -/
def lvlsF : Nat → List Int → List (List Int)
  | 0, l => [l]
  | n + 1, l => if 1 < l.length then l :: lvlsF n (upZ l) else [l]
/-- The siblings on the way of leaf i: level and place. -/
def sibsF : Nat → Nat → Nat → Nat → List (Nat × Nat)
  | 0, _, _, _ => []
  | n + 1, k, size, i => if 1 < size then (if sib i < size then [(k, sib i)] else []) ++ sibsF n (k + 1) ((size + 1) / 2) (i / 2) else []
/-- The first node of the last level. -/
def lastZ (pre : List (List Int)) : Int := match pre.getLast? with | none => -1 | some x => x.getD 0 0
theorem lastZ_nil : lastZ [] = -1 := rfl
theorem lastZ_snoc (pre : List (List Int)) (x : List Int) : lastZ (pre ++ [x]) = x.getD 0 0 := by unfold lastZ; simp
theorem lvlsF_up {n : Nat} {l : List Int} (h : 1 < l.length) : lvlsF (n + 1) l = l :: lvlsF n (upZ l) := by rw [lvlsF, if_pos h]
theorem lvlsF_end {n : Nat} {l : List Int} (h : ¬ 1 < l.length) : lvlsF n l = [l] := by
  cases n with
  | zero => rfl
  | succ n => rw [lvlsF, if_neg h]
theorem lvlsF_head (n : Nat) (l : List Int) : ∃ t, lvlsF n l = l :: t := by
  cases n with
  | zero => exact ⟨[], rfl⟩
  | succ n => rw [lvlsF]; split <;> exact ⟨_, rfl⟩
theorem lvlsF_len : ∀ (n : Nat) (l : List Int), (lvlsF n l).length ≤ n + 1 := by
  intro n
  induction n with
  | zero => intro l; simp [lvlsF]
  | succ n ih => intro l; rw [lvlsF]; split
                 · simp only [List.length_cons]; have := ih (upZ l); omega
                 · simp
theorem lastZ_cons (x : List Int) (l : List (List Int)) (h : l ≠ []) : lastZ (x :: l) = lastZ l := by
  unfold lastZ
  rw [List.getLast?_cons_of_ne_nil h]
theorem lastZ_lvls : ∀ (n : Nat) (l : List Int), lastZ (lvlsF n l) = rootF n l := by
  intro n
  induction n with
  | zero => intro l; rfl
  | succ n ih =>
    intro l
    rw [lvlsF, rootF]
    by_cases h : 1 < l.length
    · rw [if_pos h, if_pos h, ← ih (upZ l)]
      obtain ⟨t, ht⟩ := lvlsF_head n (upZ l)
      exact lastZ_cons _ _ (by rw [ht]; simp)
    · rw [if_neg h, if_neg h]; rfl
theorem sibsF_len : ∀ (n k size i : Nat), (sibsF n k size i).length ≤ n := by
  intro n
  induction n with
  | zero => intro k size i; simp [sibsF]
  | succ n ih =>
    intro k size i
    rw [sibsF]
    split
    · have := ih (k + 1) ((size + 1) / 2) (i / 2)
      split <;> simp only [List.length_append, List.length_cons, List.length_nil, List.nil_append] <;> omega
    · simp
theorem sibsF_sib {n k size i : Nat} (h : 1 < size) (hs : sib i < size) : sibsF (n + 1) k size i = (k, sib i) :: sibsF n (k + 1) ((size + 1) / 2) (i / 2) := by rw [sibsF, if_pos h, if_pos hs]; rfl
theorem sibsF_lone {n k size i : Nat} (h : 1 < size) (hs : ¬ sib i < size) : sibsF (n + 1) k size i = sibsF n (k + 1) ((size + 1) / 2) (i / 2) := by rw [sibsF, if_pos h, if_neg hs]; rfl
theorem sibsF_end {n k size i : Nat} (h : ¬ 1 < size) : sibsF n k size i = [] := by
  cases n with
  | zero => rfl
  | succ n => rw [sibsF, if_neg h]

/-- A node of the tree. -/
def nodeZ (T : List (List Int)) (k : Nat) (x : Nat × Nat) : Int := (T.getD (x.1 - k) []).getD x.2 0
theorem nodeZ_up (l : List Int) (T : List (List Int)) (k : Nat) (x : Nat × Nat) (h : k + 1 ≤ x.1) : nodeZ (l :: T) k x = nodeZ T (k + 1) x := by
  unfold nodeZ
  rw [show x.1 - k = (x.1 - (k + 1)) + 1 by omega, List.getD_cons_succ]
theorem sibsF_lo : ∀ (n k size i : Nat), ∀ x ∈ sibsF n k size i, k ≤ x.1 := by
  intro n
  induction n with
  | zero => intro k size i x hx; simp [sibsF] at hx
  | succ n ih =>
    intro k size i x hx
    rw [sibsF] at hx
    split at hx
    · rcases List.mem_append.1 hx with hx | hx
      · split at hx
        · simp at hx; subst hx; exact Nat.le_refl _
        · simp at hx
      · have := ih _ _ _ x hx; omega
    · simp at hx
/-- Each sibling is a node of the tree. -/
theorem sibsF_in : ∀ (n k : Nat) (l : List Int) (i : Nat), ∀ x ∈ sibsF n k l.length i, x.1 - k < (lvlsF n l).length ∧ x.2 < ((lvlsF n l).getD (x.1 - k) []).length := by
  intro n
  induction n with
  | zero => intro k l i x hx; simp [sibsF] at hx
  | succ n ih =>
    intro k l i x hx
    by_cases h : 1 < l.length
    · rw [lvlsF_up h]
      rw [sibsF, if_pos h] at hx
      rcases List.mem_append.1 hx with hx | hx
      · split at hx
        · simp at hx; subst hx
          simp only [Nat.sub_self, List.length_cons, List.getD_cons_zero]
          exact ⟨by omega, by assumption⟩
        · simp at hx
      · have hlo := sibsF_lo _ _ _ _ x hx
        rw [← upZ_len] at hx
        have := ih (k + 1) (upZ l) (i / 2) x hx
        rw [show x.1 - k = (x.1 - (k + 1)) + 1 by omega, List.getD_cons_succ, List.length_cons]
        exact ⟨by omega, this.2⟩
    · rw [sibsF_end h] at hx; simp at hx
/-- The proof is the list of the siblings' nodes. -/
theorem proof_sibs : ∀ (n k : Nat) (l : List Int) (i : Nat), (sibsF n k l.length i).map (nodeZ (lvlsF n l) k) = proofF n l i := by
  intro n
  induction n with
  | zero => intro k l i; rfl
  | succ n ih =>
    intro k l i
    by_cases h : 1 < l.length
    · have hi := ih (k + 1) (upZ l) (i / 2)
      rw [upZ_len] at hi
      have hup : (sibsF n (k + 1) ((l.length + 1) / 2) (i / 2)).map (nodeZ (l :: lvlsF n (upZ l)) k) = proofF n (upZ l) (i / 2) := by
        rw [← hi]
        exact List.map_congr_left fun x hx => nodeZ_up _ _ _ _ (sibsF_lo _ _ _ _ x hx)
      rw [lvlsF_up h]
      by_cases hs : sib i < l.length
      · rw [sibsF_sib h hs, proofF_sib h hs, List.map_cons, hup]
        congr 1
        unfold nodeZ; simp
      · rw [sibsF_lone h hs, proofF_lone h hs, hup]
    · rw [sibsF_end h, proofF_end h]; rfl

/-- Where a node and a proof lead by these siblings. -/
def checkG : List (Nat × Nat) → Int → List Int → Option Int
  | [], x, p => if p = [] then some x else none
  | _ :: _, _, [] => none
  | s :: ss, x, q :: r => checkG ss (if s.2 % 2 = 1 then pairZ x q else pairZ q x) r
theorem sib_odd (i : Nat) : (sib i % 2 = 1) ↔ i < sib i := by unfold sib; split <;> omega
theorem check_sibs : ∀ (n k size i : Nat) (x : Int) (p : List Int), (∀ q ∈ p, digB q = true) → checkF n size i x p = checkG (sibsF n k size i) x p := by
  intro n
  induction n with
  | zero => intro k size i x p _; rfl
  | succ n ih =>
    intro k size i x p hp
    by_cases h : 1 < size
    · by_cases hs : sib i < size
      · rw [sibsF_sib h hs]
        match p, hp with
        | [], _ => rw [checkF_none h hs]; rfl
        | q :: r, hp =>
          rw [checkF_sib h hs (hp q (by simp)), checkG, ih (k + 1) _ _ _ r (fun y hy => hp y (by simp [hy]))]
          congr 1
          by_cases hl : i < sib i
          · rw [if_pos hl, if_pos ((sib_odd i).2 hl)]
          · rw [if_neg hl, if_neg (fun h => hl ((sib_odd i).1 h))]
      · rw [sibsF_lone h hs, checkF_lone h hs]; exact ih _ _ _ _ _ hp
    · rw [sibsF_end h, checkF_end h]; rfl
/-- A proof that is accepted has digests alone. -/
theorem check_digs : ∀ (n size i : Nat) (x : Int) (p : List Int) (R : Int), checkF n size i x p = some R → p.all digB = true := by
  intro n
  induction n with
  | zero => intro size i x p R h; simp only [checkF] at h; split at h
            · rename_i e; subst e; rfl
            · cases h
  | succ n ih =>
    intro size i x p R h
    by_cases hz : 1 < size
    · by_cases hs : sib i < size
      · match p, h with
        | [], h => rfl
        | q :: r, h =>
          by_cases hq : digB q = true
          · rw [checkF_sib hz hs hq] at h
            rw [List.all_cons, hq, ih _ _ _ _ _ h]; rfl
          · rw [Bool.not_eq_true] at hq
            rw [checkF_bad hz hs hq] at h; cases h
      · rw [checkF_lone hz hs] at h; exact ih _ _ _ _ _ h
    · rw [checkF_end hz] at h
      split at h
      · rename_i e; subst e; rfl
      · cases h
theorem xor_one (j : Nat) (hj : j < 16) : bits .xor .i64 (j : Int) 1 = ((sib j : Nat) : Int) := by
  have : ∀ j : Fin 16, bits .xor .i64 ((j.val : Nat) : Int) 1 = ((sib j.val : Nat) : Int) := by decide
  exact this ⟨j, hj⟩
theorem lvls_some : ∀ (n : Nat) (l : List Int), 1 ≤ l.length → ∀ x ∈ lvlsF n l, 1 ≤ x.length := by
  intro n
  induction n with
  | zero => intro l h x hx; simp [lvlsF] at hx; subst hx; exact h
  | succ n ih =>
    intro l h x hx
    by_cases hz : 1 < l.length
    · rw [lvlsF_up hz] at hx
      rcases List.mem_cons.1 hx with rfl | hx
      · exact h
      · exact ih (upZ l) (by rw [upZ_len]; omega) x hx
    · rw [lvlsF_end hz] at hx; simp at hx; subst hx; exact h

/-- A changed leaf changes the root. -/
theorem mr_change {l : List Int} {k : Nat} {z : Int} (h : leavesB l = true) (hk : k < l.length) (hz : digB z = true) (hne : z ≠ l[k]) : mrZ (l.set k z) ≠ mrZ l := by
  obtain ⟨⟨h1, h2⟩, hd⟩ := leavesB_iff h
  have hs : leavesB (l.set k z) = true := by
    unfold leavesB
    rw [Bool.and_eq_true, List.length_set, List.all_eq_true]
    refine ⟨decide_eq_true ⟨h1, h2⟩, fun x hx => ?_⟩
    rcases List.mem_or_eq_of_mem_set hx with h | h
    · exact hd x h
    · rw [h]; exact hz
  rw [mrZ_yes h, mrZ_yes hs]
  intro e
  have := root_set hd hk h2 hz e
  rw [getD_get hk] at this
  exact hne this
theorem mr_one {x : Int} (h : digB x = true) : mrZ [x] = x := by
  rw [mrZ_yes (by unfold leavesB; simp [h]), rootF_end rfl]; rfl
theorem mp_one (x : Int) : mpZ [x] 0 = [] := by
  unfold mpZ
  split
  · exact proofF_end (by simp)
  · rfl
theorem mr_two {x y : Int} (h : digB x = true) (h' : digB y = true) : mrZ [x, y] = pairZ x y := by
  rw [mrZ_yes (by unfold leavesB; simp [h, h'])]; rfl
theorem mr_pair {xs : List Int} (h2 : xs.length = 2) (hd : ∀ x ∈ xs, digB x = true) : mrZ xs = pairZ (xs[0]'(by omega)) (xs[1]'(by omega)) := by
  match xs, h2, hd with
  | [x, y], _, hd => exact mr_two (hd x (by simp)) (hd y (by simp))

end Go.Proofs.Ytgkelcpiokmhfaa
