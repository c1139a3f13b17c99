/- Linear equations of shards, solved by elimination modulo 251; plain arithmetic, no walk and no condition of our own. -/
import Derived.Test.YtkndndcjchlpdabM3
namespace Go.Proofs.Ytkndndcjchlpdab

/-- Congruent modulo 251. -/
def Cg (a b : Int) : Prop := ∃ k, a = b + 251 * k
theorem Cg.refl (a : Int) : Cg a a := ⟨0, by omega⟩
theorem Cg.of_eq {a b : Int} (h : a = b) : Cg a b := ⟨0, by omega⟩
theorem Cg.symm {a b : Int} (h : Cg a b) : Cg b a := by obtain ⟨k, h⟩ := h; exact ⟨-k, by omega⟩
theorem Cg.trans {a b c : Int} (h : Cg a b) (g : Cg b c) : Cg a c := by obtain ⟨k, h⟩ := h; obtain ⟨l, g⟩ := g; exact ⟨k + l, by omega⟩
theorem Cg.add {a b c d : Int} (h : Cg a b) (g : Cg c d) : Cg (a + c) (b + d) := by obtain ⟨k, h⟩ := h; obtain ⟨l, g⟩ := g; exact ⟨k + l, by omega⟩
theorem Cg.sub {a b c d : Int} (h : Cg a b) (g : Cg c d) : Cg (a - c) (b - d) := by obtain ⟨k, h⟩ := h; obtain ⟨l, g⟩ := g; exact ⟨k - l, by omega⟩
theorem Cg.mul {a b c d : Int} (h : Cg a b) (g : Cg c d) : Cg (a * c) (b * d) := by
  obtain ⟨k, rfl⟩ := h; obtain ⟨l, rfl⟩ := g
  refine ⟨b * l + k * d + 251 * (k * l), ?_⟩
  grind
theorem Cg.mod (a : Int) : Cg (a % 251) a := ⟨-(a / 251), by omega⟩
theorem Cg.eq {a b : Int} (h : Cg a b) (ha : 0 ≤ a ∧ a ≤ 250) (hb : 0 ≤ b ∧ b ≤ 250) : a = b := by obtain ⟨k, h⟩ := h; omega
theorem Cg.zmul {a : Int} (c : Int) (h : Cg a 0) : Cg (c * a) 0 := by
  have := (Cg.refl c).mul h
  rwa [Int.mul_zero] at this

def invZ (n : Int) : Int := powF n 249
theorem inv_all : ∀ m : Fin 251, m.val = 0 ∨ ((m.val : Int) * invZ m.val) % 251 = 1 := by decide +kernel
theorem inv_mul {n : Int} (h : 1 ≤ n ∧ n ≤ 250) : n * invZ n % 251 = 1 := by
  obtain ⟨m, rfl⟩ := Int.eq_ofNat_of_zero_le (show 0 ≤ n by omega)
  rcases inv_all ⟨m, by omega⟩ with h0 | h0
  · simp at h0; omega
  · exact h0
theorem nz_mul {a b : Int} (ha : ¬ Cg a 0) (hb : ¬ Cg b 0) : ¬ Cg (a * b) 0 := by
  intro h
  have h1 : 1 ≤ a % 251 ∧ a % 251 ≤ 250 := by
    refine ⟨?_, by omega⟩
    rcases Int.lt_or_le (a % 251) 1 with h1 | h1
    · exact absurd (show Cg a 0 from ⟨a / 251, by omega⟩) ha
    · exact h1
  have h2 := inv_mul h1
  have h3 : Cg (invZ (a % 251) * a) 1 := by
    have e : Cg (a % 251 * invZ (a % 251)) 1 := ⟨(a % 251 * invZ (a % 251)) / 251, by omega⟩
    rw [Int.mul_comm] at e
    exact ((Cg.refl _).mul (Cg.mod a).symm).trans e
  have h4 := (Cg.zmul (invZ (a % 251)) h)
  rw [← Int.mul_assoc] at h4
  have h5 := (h3.mul (Cg.refl b)).symm.trans h4
  rw [Int.one_mul] at h5
  exact hb h5

/-! sums -/
def sm : Nat → (Nat → Int) → Int
  | 0, _ => 0
  | n + 1, f => sm n f + f n
theorem sm_congr {f g : Nat → Int} : ∀ n, (∀ i, i < n → f i = g i) → sm n f = sm n g
  | 0, _ => rfl
  | n + 1, h => by rw [sm, sm, sm_congr n (fun i hi => h i (by omega)), h n (by omega)]
theorem sm_cg {f g : Nat → Int} : ∀ n, (∀ i, i < n → Cg (f i) (g i)) → Cg (sm n f) (sm n g)
  | 0, _ => Cg.refl _
  | n + 1, h => (sm_cg n (fun i hi => h i (by omega))).add (h n (by omega))
theorem sm_mul (c : Int) (f : Nat → Int) : ∀ n, sm n (fun i => c * f i) = c * sm n f
  | 0 => by simp [sm]
  | n + 1 => by rw [sm, sm, sm_mul c f n, Int.mul_add]
theorem sm_sub (f g : Nat → Int) : ∀ n, sm n (fun i => f i - g i) = sm n f - sm n g
  | 0 => by simp [sm]
  | n + 1 => by rw [sm, sm, sm, sm_sub f g n]; omega
theorem sm_shift (f : Nat → Int) : ∀ n, sm (n + 1) f = f 0 + sm n (fun i => f (i + 1))
  | 0 => by simp [sm]
  | n + 1 => by rw [sm, sm_shift f n, sm]; omega
theorem sm_zero {f : Nat → Int} : ∀ n, (∀ i, i < n → f i = 0) → sm n f = 0
  | 0, _ => rfl
  | n + 1, h => by rw [sm, sm_zero n (fun i hi => h i (by omega)), h n (by omega)]; rfl
/-- A sum whose terms from m on are 0. -/
theorem sm_cut {f : Nat → Int} {m : Nat} : ∀ n, m ≤ n → (∀ i, m ≤ i → i < n → f i = 0) → sm n f = sm m f
  | 0, h, _ => by have : m = 0 := by omega
                  subst this; rfl
  | n + 1, h, hz => by
    by_cases e : m = n + 1
    · subst e; rfl
    · rw [sm, sm_cut n (by omega) (fun i h1 h2 => hz i h1 (by omega)), hz n (by omega) (by omega)]; omega
/-- A sum with one term that is not 0. -/
theorem sm_one {f : Nat → Int} {m : Nat} : ∀ n, m < n → (∀ i, i < n → i ≠ m → f i = 0) → sm n f = f m
  | 0, h, _ => by omega
  | n + 1, h, hz => by
    by_cases e : m = n
    · subst e
      rw [sm, sm_zero m (fun i hi => hz i (by omega) (by omega))]; omega
    · rw [sm, sm_one n (by omega) (fun i h1 h2 => hz i (by omega) h2), hz n (by omega) (by omega)]; omega

/-! a polynomial with given roots -/
def pc (xs : Nat → Int) : Nat → Nat → Int
  | 0, i => if i = 0 then 1 else 0
  | p + 1, i => (if i = 0 then 0 else pc xs p (i - 1)) - xs p * pc xs p i
theorem pc_above (xs : Nat → Int) : ∀ p i, p < i → pc xs p i = 0
  | 0, i, h => by rw [pc, if_neg (by omega)]
  | p + 1, i, h => by rw [pc, if_neg (by omega), pc_above xs p _ (by omega), pc_above xs p _ (by omega)]; simp
theorem pc_top (xs : Nat → Int) : ∀ p, pc xs p p = 1
  | 0 => by simp [pc]
  | p + 1 => by rw [pc, if_neg (by omega), Nat.add_sub_cancel, pc_top xs p, pc_above xs p _ (by omega)]; simp
def prodTo (xs : Nat → Int) (x : Int) : Nat → Int
  | 0 => 1
  | p + 1 => prodTo xs x p * (x - xs p)
theorem pc_eval (xs : Nat → Int) (x : Int) : ∀ p n, p + 1 ≤ n → Cg (sm n fun i => powF x i * pc xs p i) (prodTo xs x p)
  | 0, n, h => by
    rw [sm_one (m := 0) n (by omega) (fun i _ h2 => by simp [pc, h2])]
    exact Cg.of_eq (by simp [pc, powF, prodTo])
  | p + 1, n, h => by
    obtain ⟨m, rfl⟩ : ∃ m, n = m + 1 := ⟨n - 1, by omega⟩
    have h1 := pc_eval xs x p m (by omega)
    have h2 := pc_eval xs x p (m + 1) (by omega)
    have e1 : sm (m + 1) (fun i => powF x i * pc xs (p + 1) i) = sm (m + 1) (fun i => powF x i * (if i = 0 then 0 else pc xs p (i - 1))) - xs p * sm (m + 1) (fun i => powF x i * pc xs p i) := by
      rw [← sm_mul, ← sm_sub]
      refine sm_congr _ fun i _ => ?_
      rw [pc]; grind
    have e2 : sm (m + 1) (fun i => powF x i * (if i = 0 then 0 else pc xs p (i - 1))) = sm m (fun i => powF x (i + 1) * pc xs p i) := by
      rw [sm_shift]; simp
    have e3 : Cg (sm m (fun i => powF x (i + 1) * pc xs p i)) (x * sm m (fun i => powF x i * pc xs p i)) := by
      rw [← sm_mul]
      refine sm_cg _ fun i _ => ?_
      rw [powF, ← Int.mul_assoc, Int.mul_comm x]
      exact (Cg.mod _).mul (Cg.refl _)
    rw [e1, e2, prodTo]
    have e4 : prodTo xs x p * (x - xs p) = x * prodTo xs x p - xs p * prodTo xs x p := by grind
    rw [e4]
    exact (e3.trans ((Cg.refl x).mul h1)).sub ((Cg.refl _).mul h2)
theorem prod_nz {xs : Nat → Int} {x : Int} : ∀ p, (∀ k, k < p → ¬ Cg (x - xs k) 0) → ¬ Cg (prodTo xs x p) 0
  | 0, _ => by rintro ⟨k, h⟩; rw [prodTo] at h; omega
  | p + 1, h => by rw [prodTo]; exact nz_mul (prod_nz p fun k hk => h k (by omega)) (h p (by omega))

/-! elimination -/
abbrev Eqn := Nat → Int
def tmsE (e : Eqn) (c : Int) : Eqn := fun i => e i * c % 251
def wthE (e f : Eqn) : Eqn := fun i => (e i + 251 - f i) % 251
def elimTo (S : Nat → Eqn) (i m : Nat) : Nat → Eqn := fun k => if k = i then tmsE (S i) (invZ (S i i)) else if k < m then wthE (S k) (tmsE (tmsE (S i) (invZ (S i i))) (S k i)) else S k
def stAt (need : Nat) (S : Nat → Eqn) : Nat → Nat → Eqn
  | 0 => S
  | p + 1 => elimTo (stAt need S p) p need
def dot (e v : Nat → Int) : Int := sm 20 fun i => e i * v i
def Bd (S : Nat → Eqn) : Prop := ∀ k c, 0 ≤ S k c ∧ S k c ≤ 250
theorem tms_bd (e : Eqn) (c : Int) (i : Nat) : 0 ≤ tmsE e c i ∧ tmsE e c i ≤ 250 := by unfold tmsE; omega
theorem wth_bd (e f : Eqn) (i : Nat) : 0 ≤ wthE e f i ∧ wthE e f i ≤ 250 := by unfold wthE; omega
theorem elim_bd {S : Nat → Eqn} (h : Bd S) (i m : Nat) : Bd (elimTo S i m) := by
  intro k c
  unfold elimTo
  split
  · exact tms_bd _ _ _
  · split
    · exact wth_bd _ _ _
    · exact h k c
theorem stAt_bd {S : Nat → Eqn} (h : Bd S) (need : Nat) : ∀ p, Bd (stAt need S p)
  | 0 => h
  | p + 1 => elim_bd (stAt_bd h need p) p need
theorem dot_tms (e : Eqn) (c : Int) (v : Nat → Int) : Cg (dot (tmsE e c) v) (c * dot e v) := by
  unfold dot
  rw [← sm_mul]
  refine sm_cg _ fun i _ => ?_
  unfold tmsE
  rw [← Int.mul_assoc, Int.mul_comm c]
  exact (Cg.mod _).mul (Cg.refl _)
theorem dot_wth (e f : Eqn) (v : Nat → Int) : Cg (dot (wthE e f) v) (dot e v - dot f v) := by
  unfold dot
  rw [← sm_sub]
  refine sm_cg _ fun i _ => ?_
  unfold wthE
  rw [← Int.sub_mul]
  refine ((Cg.mod _).mul (Cg.refl (v i))).trans (Cg.mul ⟨1, by omega⟩ (Cg.refl _))
theorem inv_a (need : Nat) (S : Nat → Eqn) (v : Nat → Int) : ∀ p, p ≤ need → (∀ k, k < p → Cg (dot (S k) v) 0) →
    (∀ k, k < p → Cg (dot (stAt need S p k) v) 0) ∧ ∀ j, p ≤ j → j < need → Cg (dot (stAt need S p j) v) (dot (S j) v)
  | 0, _, _ => ⟨fun k h => by omega, fun j _ _ => Cg.refl _⟩
  | p + 1, hp, h => by
    obtain ⟨h1, h2⟩ := inv_a need S v p (by omega) (fun k hk => h k (by omega))
    have hpp : Cg (dot (stAt need S p p) v) 0 := (h2 p (Nat.le_refl _) (by omega)).trans (h p (by omega))
    have hR : Cg (dot (tmsE (stAt need S p p) (invZ (stAt need S p p p))) v) 0 := (dot_tms _ _ _).trans (Cg.zmul _ hpp)
    have hrow : ∀ k, k < need → k ≠ p → Cg (dot (stAt need S (p + 1) k) v) (dot (stAt need S p k) v) := by
      intro k hk hne
      show Cg (dot (elimTo (stAt need S p) p need k) v) _
      unfold elimTo
      rw [if_neg hne, if_pos hk]
      have := (dot_wth (stAt need S p k) _ v).trans ((Cg.refl (dot (stAt need S p k) v)).sub ((dot_tms _ (stAt need S p k p) v).trans (Cg.zmul _ hR)))
      rwa [Int.sub_zero] at this
    refine ⟨fun k hk => ?_, fun j h3 h4 => (hrow j h4 (by omega)).trans (h2 j (by omega) h4)⟩
    by_cases e : k = p
    · subst e
      show Cg (dot (elimTo (stAt need S k) k need k) v) _
      unfold elimTo
      rw [if_pos rfl]
      exact hR
    · exact (hrow k (by omega) e).trans (h1 k (by omega))
def dlt (j i : Nat) : Int := if j = i then 1 else 0
theorem inv_b {need : Nat} {S : Nat → Eqn} (hb : Bd S) (hpiv : ∀ p, p < need → (∀ j i, j < need → i < p → stAt need S p j i = dlt j i) → stAt need S p p p ≠ 0) :
    ∀ p, p ≤ need → ∀ j i, j < need → i < p → stAt need S p j i = dlt j i
  | 0, _, j, i, _, h => by omega
  | p + 1, hp, j, i, hj, hi => by
    have ih := inv_b hb hpiv p (by omega)
    have hne := hpiv p (by omega) ih
    have hbp := stAt_bd hb need p
    generalize hT : stAt need S p = T at *
    have hpp := hbp p p
    have hinv := inv_mul (n := T p p) (by omega)
    show elimTo (stAt need S p) p need j i = _
    rw [hT]
    unfold elimTo
    have hRi : i < p → tmsE (T p) (invZ (T p p)) i = 0 := fun h => by
      unfold tmsE; rw [ih p i (by omega) h, dlt, if_neg (by omega)]; simp
    have hRp : tmsE (T p) (invZ (T p p)) p = 1 := hinv
    by_cases e : j = p
    · subst e
      rw [if_pos rfl]
      by_cases e2 : i = j
      · subst e2; rw [hRp, dlt, if_pos rfl]
      · rw [hRi (by omega), dlt, if_neg (by omega)]
    · rw [if_neg e, if_pos hj]
      have hbj := hbp j p
      generalize tmsE (T p) (invZ (T p p)) = R at *
      by_cases e2 : i = p
      · subst e2
        unfold wthE tmsE
        rw [hRp, dlt, if_neg e, Int.one_mul]
        omega
      · unfold wthE tmsE
        rw [hRi (by omega), ih j i hj (by omega), Int.zero_mul, dlt]
        split <;> omega

/-! the equations of shards -/
def eqOf (need : Nat) (x : Int) (vs : List Int) : Eqn := fun i => if i < need then powF x i else if i < 8 then 0 else vs.getD (i - 8) 0
def eqs0 (need : Nat) (xs : Nat → Int) (vs : Nat → List Int) (m : Nat) : Nat → Eqn := fun k => if k < m then eqOf need (xs k) (vs k) else fun _ => 0
theorem eqs0_at {need : Nat} {xs : Nat → Int} {vs : Nat → List Int} {m k : Nat} (h : k < m) : eqs0 need xs vs m k = eqOf need (xs k) (vs k) := by unfold eqs0; rw [if_pos h]
theorem getD_bd {l : List Int} (h : ∀ y ∈ l, 0 ≤ y ∧ y ≤ 250) (i : Nat) : 0 ≤ l.getD i 0 ∧ l.getD i 0 ≤ 250 := by
  by_cases hi : i < l.length
  · rw [getD_get hi]; exact h _ (List.getElem_mem hi)
  · rw [List.getD_eq_getElem?_getD, List.getElem?_eq_none (by omega)]; simp
theorem eqOf_bd {need : Nat} {x : Int} {vs : List Int} (h : ∀ y ∈ vs, 0 ≤ y ∧ y ≤ 250) (i : Nat) : 0 ≤ eqOf need x vs i ∧ eqOf need x vs i ≤ 250 := by
  unfold eqOf
  split
  · exact powF_bd _ _
  · split
    · omega
    · exact getD_bd h _
theorem eqs0_bd {need : Nat} {xs : Nat → Int} {vs : Nat → List Int} {m : Nat} (h : ∀ k, k < m → ∀ y ∈ vs k, 0 ≤ y ∧ y ≤ 250) : Bd (eqs0 need xs vs m) := by
  intro k c
  by_cases hk : k < m
  · rw [eqs0_at hk]; exact eqOf_bd (h k hk) c
  · unfold eqs0; rw [if_neg hk]; omega
theorem dot_low {need : Nat} (hn : need ≤ 8) (x : Int) (vs : List Int) (v : Nat → Int) (hv : ∀ i, need ≤ i → v i = 0) : dot (eqOf need x vs) v = sm need fun i => powF x i * v i := by
  unfold dot
  rw [sm_cut (m := need) 20 (by omega) (fun i h _ => by rw [hv i h, Int.mul_zero])]
  refine sm_congr _ fun i hi => ?_
  unfold eqOf; rw [if_pos hi]
theorem pivot_nz {need : Nat} (hn : need ≤ 8) {xs : Nat → Int} {vs : Nat → List Int} (hx : ∀ i j, i < need → j < i → ¬ Cg (xs i - xs j) 0) :
    ∀ p, p < need → (∀ j i, j < need → i < p → stAt need (eqs0 need xs vs need) p j i = dlt j i) → stAt need (eqs0 need xs vs need) p p p ≠ 0 := by
  intro p hp hred h0
  have hv : ∀ i, need ≤ i → pc xs p i = 0 := fun i hi => pc_above xs p i (by omega)
  have hd : ∀ k, k < need → Cg (dot (eqs0 need xs vs need k) (pc xs p)) (prodTo xs (xs k) p) := fun k hk => by
    rw [eqs0_at hk, dot_low hn _ _ _ hv]; exact pc_eval xs (xs k) p need (by omega)
  have hz : ∀ q k, k < q → prodTo xs (xs k) q = 0 := by
    intro q
    induction q with
    | zero => intro k h; omega
    | succ q ih =>
      intro k h
      rw [prodTo]
      by_cases e : k = q
      · subst e; simp
      · rw [ih k (by omega), Int.zero_mul]
  have ha := (inv_a need (eqs0 need xs vs need) (pc xs p) p (by omega) (fun k hk => by have := hd k (by omega); rwa [hz p k hk] at this)).2 p (Nat.le_refl _) hp
  have he : dot (stAt need (eqs0 need xs vs need) p p) (pc xs p) = 0 := by
    unfold dot
    refine sm_zero 20 fun i _ => ?_
    rcases Nat.lt_trichotomy i p with h | h | h
    · rw [hred p i hp h, dlt, if_neg (by omega), Int.zero_mul]
    · subst h; rw [h0, Int.zero_mul]
    · rw [pc_above xs p i h, Int.mul_zero]
  rw [he] at ha
  exact prod_nz p (fun k hk => hx p k hp hk) (ha.trans (hd p hp)).symm
/-- What elimination finds is the only solution. -/
theorem solve_at {need : Nat} (hn : need ≤ 8) {xs : Nat → Int} {vs : Nat → List Int} (hb : ∀ k, k < need → ∀ y ∈ vs k, 0 ≤ y ∧ y ≤ 250) (hx : ∀ i j, i < need → j < i → ¬ Cg (xs i - xs j) 0)
    {c : Nat} (hc : c < 12) (u : Nat → Int) (hu : ∀ j, j < need → Cg (sm need fun i => powF (xs j) i * u i) ((vs j).getD c 0)) : ∀ j, j < need → Cg (stAt need (eqs0 need xs vs need) need j (8 + c)) (u j) := by
  intro j hj
  have hs : ∀ e : Eqn, dot e (fun i => if i < need then u i else if i = 8 + c then -1 else 0) = sm need (fun i => e i * u i) - e (8 + c) := by
    intro e
    have h1 : dot e (fun i => if i < need then u i else if i = 8 + c then -1 else 0) = sm 20 (fun i => (if i < need then e i * u i else 0) - (if i = 8 + c then e i else 0)) := by
      unfold dot
      refine sm_congr _ fun i hi => ?_
      show e i * (if i < need then u i else if i = 8 + c then -1 else 0) = (if i < need then e i * u i else 0) - (if i = 8 + c then e i else 0)
      by_cases h2 : i < need
      · rw [if_pos h2, if_pos h2, if_neg (by omega)]; omega
      · rw [if_neg h2, if_neg h2]
        by_cases h3 : i = 8 + c
        · rw [if_pos h3, if_pos h3]; omega
        · rw [if_neg h3, if_neg h3]; simp
    rw [h1, sm_sub, sm_cut (m := need) 20 (by omega) (fun i h _ => by rw [if_neg (by omega)]), sm_one (m := 8 + c) 20 (by omega) (fun i _ h => by rw [if_neg h]), if_pos rfl]
    congr 1
    exact sm_congr _ fun i hi => by rw [if_pos hi]
  have hd : ∀ k, k < need → Cg (dot (eqs0 need xs vs need k) (fun i => if i < need then u i else if i = 8 + c then -1 else 0)) 0 := by
    intro k hk
    rw [hs, eqs0_at hk]
    have e1 : sm need (fun i => eqOf need (xs k) (vs k) i * u i) = sm need fun i => powF (xs k) i * u i := sm_congr _ fun i hi => by unfold eqOf; rw [if_pos hi]
    have e2 : eqOf need (xs k) (vs k) (8 + c) = (vs k).getD c 0 := by
      unfold eqOf; rw [if_neg (by omega), if_neg (by omega), show 8 + c - 8 = c by omega]
    rw [e1, e2]
    have := (hu k hk).sub (Cg.refl ((vs k).getD c 0))
    rwa [Int.sub_self] at this
  have h1 := (inv_a need (eqs0 need xs vs need) _ need (Nat.le_refl _) hd).1 j hj
  rw [hs] at h1
  have hred := inv_b (eqs0_bd hb) (pivot_nz hn (vs := vs) hx) need (Nat.le_refl _)
  rw [sm_one (m := j) need hj (fun i hi hne => by rw [hred j i hj hi, dlt, if_neg (by omega), Int.zero_mul]), hred j j hj hj, dlt, if_pos rfl, Int.one_mul] at h1
  have := (Cg.refl (u j)).sub h1
  rw [Int.sub_zero] at this
  exact (Cg.of_eq (by omega)).trans this

end Go.Proofs.Ytkndndcjchlpdab
