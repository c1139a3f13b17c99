/- Signing and forgetting votes, as plain functions on lists, and what the laws want of them; nothing here speaks of the program. -/
import Derived.Test.YtkndndcjchlpdaaVt1
namespace Go.Proofs.Ytkndndcjchlpdaa

def lowV (g : List Vt) (v : Vt) : List Vt := g.takeWhile fun u => vbefB u v
def upV (g : List Vt) (v : Vt) : List Vt := g.dropWhile fun u => vbefB u v
/-- The vote that lies where v belongs, if it is for the same round and author (in a list that is sorted). -/
def hitV (g : List Vt) (v : Vt) : Option Vt := match upV g v with | [] => none | u :: _ => if vbefB v u then none else some u
def signB (f : Int) (g : List Vt) (v : Vt) : Bool := match hitV g v with | some u => decide (u.d = v.d) | none => !(decide (v.r < f) || decide (40 ≤ g.length))
def signG (f : Int) (g : List Vt) (v : Vt) : List Vt := match hitV g v with | some _ => g | none => if v.r < f ∨ 40 ≤ g.length then g else lowV g v ++ v :: upV g v
def forgetG (f : Int) (g : List Vt) : List Vt := g.filter fun u => decide (f ≤ u.r)

theorem low_up (g : List Vt) (v : Vt) : lowV g v ++ upV g v = g := List.takeWhile_append_dropWhile
theorem vbef_irr (v : Vt) : vbefB v v = false := decide_eq_false (by omega)
theorem vbef_ra {u v : Vt} (hr : u.r = v.r) (ha : u.a = v.a) (x : Vt) : vbefB x u = vbefB x v := by unfold vbefB; rw [hr, ha]
theorem vbef_ra' {u v : Vt} (hr : u.r = v.r) (ha : u.a = v.a) (x : Vt) : vbefB u x = vbefB v x := by unfold vbefB; rw [hr, ha]
theorem vbef_trans {a b c : Vt} (h : vbefB a b = true) (k : vbefB b c = true) : vbefB a c = true := by
  have h := of_decide_eq_true h
  have k := of_decide_eq_true k
  exact decide_eq_true (by omega)
theorem low_all {g : List Vt} {v x : Vt} (h : x ∈ lowV g v) : vbefB x v = true := by
  unfold lowV at h
  induction g with
  | nil => simp at h
  | cons y ys ih =>
    rw [List.takeWhile_cons] at h
    split at h
    · rename_i hy
      rcases List.mem_cons.1 h with rfl | h
      · exact hy
      · exact ih h
    · simp at h

/-- Every vote is kept. -/
theorem sign_keeps {f : Int} {g : List Vt} {v x : Vt} (h : x ∈ g) : x ∈ signG f g v := by
  unfold signG
  split
  · exact h
  · split
    · exact h
    · rw [← low_up g v] at h
      rcases List.mem_append.1 h with h | h
      · exact List.mem_append_left _ h
      · exact List.mem_append_right _ (List.mem_cons_of_mem _ h)
theorem low_new (a b : List Vt) (v u : Vt) (hr : u.r = v.r) (ha : u.a = v.a) (h : ∀ x ∈ a, vbefB x v = true) : lowV (a ++ v :: b) u = a ∧ upV (a ++ v :: b) u = v :: b := by
  have e : (fun x => vbefB x u) = fun x => vbefB x v := funext fun x => vbef_ra hr ha x
  unfold lowV upV
  rw [e]
  refine ⟨?_, ?_⟩
  · rw [List.takeWhile_append_of_pos (by simpa using h), List.takeWhile_cons, vbef_irr]; simp
  · rw [List.dropWhile_append_of_pos (by simpa using h), List.dropWhile_cons, vbef_irr]; simp
/-- What is signed stands there: another vote for the same round and author agrees exactly where its digest does, and changes nothing. -/
theorem sign_hit {f : Int} {g : List Vt} {v u : Vt} (hs : signB f g v = true) (hr : u.r = v.r) (ha : u.a = v.a) : ∃ y, hitV (signG f g v) u = some y ∧ y.d = v.d := by
  unfold signB at hs
  unfold signG
  cases hh : hitV g v with
  | some y =>
    rw [hh] at hs
    simp only at hs ⊢
    refine ⟨y, ?_, of_decide_eq_true hs⟩
    rw [← hh]
    unfold hitV upV
    rw [show (fun x => vbefB x u) = fun x => vbefB x v from funext fun x => vbef_ra hr ha x]
    split
    · rfl
    · rw [vbef_ra' hr ha]
  | none =>
    rw [hh] at hs
    simp only [Bool.not_eq_true', Bool.or_eq_false_iff, decide_eq_false_iff_not] at hs ⊢
    rw [if_neg (by omega)]
    refine ⟨v, ?_, rfl⟩
    unfold hitV
    rw [(low_new (lowV g v) (upV g v) v u hr ha (fun x hx => low_all hx)).2]
    simp only
    rw [vbef_ra' hr ha, vbef_irr]
    rfl
theorem sign_once {f f' : Int} {g : List Vt} {v u : Vt} (hs : signB f g v = true) (hr : u.r = v.r) (ha : u.a = v.a) : signB f' (signG f g v) u = decide (v.d = u.d) ∧ signG f' (signG f g v) u = signG f g v := by
  obtain ⟨y, hy, hd⟩ := sign_hit hs hr ha
  refine ⟨?_, ?_⟩
  · unfold signB; rw [hy, ← hd]
  · generalize signG f g v = g' at *; unfold signG; rw [hy]
/-- Forgetting in two steps. -/
theorem forget_steps {f f' : Int} (g : List Vt) (h : f ≤ f') : forgetG f' (forgetG f g) = forgetG f' g := by
  unfold forgetG
  rw [List.filter_filter]
  congr 1
  funext x
  rw [Bool.eq_iff_iff, Bool.and_eq_true, decide_eq_true_iff, decide_eq_true_iff]
  omega

theorem up_sub (g : List Vt) (v : Vt) : (upV g v).Sublist g := List.dropWhile_sublist _
theorem up_head {g : List Vt} {v y : Vt} {t : List Vt} (h : upV g v = y :: t) : vbefB y v = false := by
  have e := List.head?_dropWhile_not (fun u => vbefB u v) g
  unfold upV at h
  rw [h] at e
  simpa using e
/-- In a list that is sorted, the vote for the same round and author is the one that is hit. -/
theorem hit_mem {g : List Vt} {v u : Vt} (hs : g.Pairwise fun a b => vbefB a b = true) (hu : u ∈ g) (hr : u.r = v.r) (ha : u.a = v.a) : hitV g v = some u := by
  have hself : ∀ x, vbefB x u = vbefB x v := fun x => vbef_ra hr ha x
  have hm : u ∈ upV g v := by
    rw [← low_up g v] at hu
    rcases List.mem_append.1 hu with h | h
    · have h1 := low_all h
      rw [vbef_ra' hr ha, vbef_irr] at h1
      cases h1
    · exact h
  have hp := hs.sublist (up_sub g v)
  unfold hitV
  cases hx : upV g v with
  | nil => rw [hx] at hm; simp at hm
  | cons y t =>
    have hh := up_head hx
    rw [hx] at hm hp
    rcases List.mem_cons.1 hm with rfl | hm
    · simp only; rw [← vbef_ra' hr ha, vbef_irr]; rfl
    · have h1 := (List.pairwise_cons.1 hp).1 u hm
      rw [hself, hh] at h1
      cases h1
/-- What is hit is in the list and for the same round and author. -/
theorem hit_some {g : List Vt} {v u : Vt} (h : hitV g v = some u) : u ∈ g ∧ u.r = v.r ∧ u.a = v.a := by
  unfold hitV at h
  cases hx : upV g v with
  | nil => rw [hx] at h; cases h
  | cons y t =>
    rw [hx] at h
    simp only at h
    split at h
    · cases h
    · rename_i hn
      cases h
      have h1 := up_head hx
      have h2 := Bool.eq_false_iff.2 hn
      have h1 := of_decide_eq_false h1
      have h2 := of_decide_eq_false h2
      exact ⟨(up_sub g v).subset (by rw [hx]; exact List.mem_cons_self), by omega, by omega⟩

/-- A voter's votes are sorted, valid and not below its floor. -/
theorem voter_sorted {f : Int} {g : List Vt} (h : voterB f g = true) : g.Pairwise fun a b => vbefB a b = true := by
  unfold voterB at h
  simp only [Bool.and_eq_true] at h
  have hu := allB_upto h.1
  rw [List.pairwise_iff_getElem]
  have key : ∀ (n i : Nat) (hj : i + n + 1 < g.length), vbefB (g[i]'(by omega)) g[i + n + 1] = true := by
    intro n
    induction n with
    | zero =>
      intro i hj
      have := hu (i + 0 + 1) hj
      unfold okVt at this
      simp only [Bool.and_eq_true, Bool.or_eq_true] at this
      have h2 := this.2.2
      simp only [Nat.add_zero, Nat.add_sub_cancel, getVt (show i + 1 < g.length by omega), getVt (show i < g.length by omega)] at h2
      rcases h2 with h2 | h2
      · simp at h2
      · exact h2
    | succ n ih =>
      intro i hj
      have h1 := ih i (by omega)
      have := hu (i + (n + 1) + 1) hj
      unfold okVt at this
      simp only [Bool.and_eq_true, Bool.or_eq_true] at this
      have h2 := this.2.2
      simp only [Nat.add_sub_cancel, getVt (show i + (n + 1) + 1 < g.length by omega), getVt (show i + (n + 1) < g.length by omega)] at h2
      rcases h2 with h2 | h2
      · simp at h2
      · exact vbef_trans h1 h2
  intro i j hi hj hij
  have := key (j - i - 1) i (by omega)
  simpa only [show i + (j - i - 1) + 1 = j by omega] using this
theorem voter_mem {f : Int} {g : List Vt} (h : voterB f g = true) {u : Vt} (hm : u ∈ g) : voteB u = true ∧ f ≤ u.r := by
  unfold voterB at h
  simp only [Bool.and_eq_true] at h
  obtain ⟨k, hk, rfl⟩ := List.mem_iff_getElem.1 hm
  have := allB_upto h.1 k hk
  unfold okVt at this
  simp only [Bool.and_eq_true, getVt hk, decide_eq_true_eq] at this
  exact ⟨this.1, this.2.1⟩
theorem voter_of {f : Int} {g : List Vt} (hs : g.Pairwise fun a b => vbefB a b = true) (hm : ∀ u ∈ g, voteB u = true ∧ f ≤ u.r) (hf : 0 ≤ f ∧ f ≤ 31) (hl : g.length ≤ 40) : voterB f g = true := by
  unfold voterB
  rw [decide_eq_true hf, decide_eq_true hl, Bool.and_true, Bool.and_true]
  refine allB_yes (k := g.length) (fun i hi => ?_) (Nat.le_refl _)
  obtain ⟨h1, h2⟩ := hm g[i] (List.getElem_mem hi)
  unfold okVt
  rw [getVt hi, h1, decide_eq_true h2, Bool.true_and, Bool.true_and]
  by_cases h0 : i = 0
  · simp [h0]
  · rw [getVt (show i - 1 < g.length by omega), (List.pairwise_iff_getElem.1 hs) (i - 1) i (by omega) hi (by omega), Bool.or_true]
/-- Forgetting keeps a voter valid. -/
theorem voter_forget {f f' : Int} {g : List Vt} (h : voterB f g = true) (hf : 0 ≤ f' ∧ f' ≤ 31) : voterB f' (forgetG f' g) = true := by
  have hl : g.length ≤ 40 := by
    unfold voterB at h
    simp only [Bool.and_eq_true, decide_eq_true_eq] at h
    exact h.2.2
  refine voter_of ((voter_sorted h).sublist List.filter_sublist) (fun u hu => ?_) hf (Nat.le_trans (List.length_filter_le _ _) hl)
  obtain ⟨h1, h2⟩ := List.mem_filter.1 hu
  exact ⟨(voter_mem h h1).1, of_decide_eq_true h2⟩

theorem up_after {g : List Vt} {v : Vt} (hs : g.Pairwise fun a b => vbefB a b = true) (hn : hitV g v = none) {x : Vt} (hx : x ∈ upV g v) : vbefB v x = true := by
  have hp := hs.sublist (up_sub g v)
  unfold hitV at hn
  cases hu : upV g v with
  | nil => rw [hu] at hx; cases hx
  | cons y t =>
    rw [hu] at hn hx hp
    simp only at hn
    split at hn
    · rename_i hy
      rcases List.mem_cons.1 hx with rfl | hx
      · exact hy
      · exact vbef_trans hy ((List.pairwise_cons.1 hp).1 x hx)
    · cases hn
/-- Signing keeps a voter valid. -/
theorem voter_sign {f : Int} {g : List Vt} {v : Vt} (h : voterB f g = true) (hv : voteB v = true) : voterB f (signG f g v) = true := by
  unfold signG
  cases hh : hitV g v with
  | some u => exact h
  | none =>
    simp only
    split
    · exact h
    · rename_i hno
      have hs := voter_sorted h
      have hf : 0 ≤ f ∧ f ≤ 31 := by
        have h := h
        unfold voterB at h
        simp only [Bool.and_eq_true, decide_eq_true_eq] at h
        exact h.2.1
      have hmem : ∀ u, u ∈ lowV g v ++ v :: upV g v → u = v ∨ u ∈ g := fun u hu => by
        rcases List.mem_append.1 hu with hu | hu
        · exact .inr (by rw [← low_up g v]; exact List.mem_append_left _ hu)
        · rcases List.mem_cons.1 hu with hu | hu
          · exact .inl hu
          · exact .inr (by rw [← low_up g v]; exact List.mem_append_right _ hu)
      refine voter_of ?_ (fun u hu => ?_) hf ?_
      · have h1 := hs
        rw [← low_up g v] at h1
        obtain ⟨ha, hb, hc⟩ := List.pairwise_append.1 h1
        refine List.pairwise_append.2 ⟨ha, List.pairwise_cons.2 ⟨fun x hx => up_after hs hh hx, hb⟩, fun a hal b hbl => ?_⟩
        rcases List.mem_cons.1 hbl with rfl | hbl
        · exact low_all hal
        · exact hc a hal b hbl
      · rcases hmem u hu with rfl | hu
        · exact ⟨hv, by omega⟩
        · exact voter_mem h hu
      · have hl : (lowV g v ++ v :: upV g v).length = g.length + 1 := by
          rw [List.length_append, List.length_cons]
          have := congrArg List.length (low_up g v)
          rw [List.length_append] at this
          omega
        omega

end Go.Proofs.Ytkndndcjchlpdaa
