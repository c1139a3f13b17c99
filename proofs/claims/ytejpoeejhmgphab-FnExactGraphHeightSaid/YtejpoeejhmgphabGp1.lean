/- Places of a graph by round and author: the list that they give in order, and what adding a vertex does to them; plain mathematics, nothing here speaks of the program. -/
import Derived.Test.YtejpoeejhmgphabGv8
namespace Go.Proofs.Ytejpoeejhmgphab
open Go.RowKit

/-- The number of the place of a round and an author. -/
def plN (r a : Int) : Nat := 1 + (r.toNat * 7 + a.toNat)
/-- Before the place (r, a). -/
def plB (r a : Nat) (v : Vx) : Bool := decide (v.r < r ∨ v.r = r ∧ v.a < a)
def inPl (v : Vx) : Prop := 0 ≤ v.r ∧ v.r ≤ 30 ∧ 0 ≤ v.a ∧ v.a ≤ 6
theorem plN_inj {r a r' a' : Int} (hr : 0 ≤ r) (ha : 0 ≤ a) (ha' : a ≤ 6) (hr2 : 0 ≤ r') (ha2 : 0 ≤ a') (ha2' : a' ≤ 6) (h : plN r a = plN r' a') : r = r' ∧ a = a' := by
  unfold plN at h; omega
theorem plN_bd {r a : Int} (h : r ≤ 30) (ha : a ≤ 6) : 1 ≤ plN r a ∧ plN r a < 218 := by unfold plN; omega
/-- What stands before a place. -/
def outZ (g : List Vx) (r a : Nat) : List Vx := g.filter (plB r a)
def Srt (g : List Vx) : Prop := g.Pairwise fun a b => befB a b = true
theorem outZ_zero {g : List Vx} (h : ∀ v ∈ g, inPl v) : outZ g 0 0 = [] := by
  unfold outZ
  rw [List.filter_eq_nil_iff]
  intro v hv
  have := h v hv
  unfold inPl at this
  unfold plB
  simp; omega
theorem outZ_row {g : List Vx} (h : ∀ v ∈ g, inPl v) (r : Nat) : outZ g r 7 = outZ g (r + 1) 0 := by
  unfold outZ
  refine List.filter_congr fun v hv => ?_
  have := h v hv
  unfold inPl at this
  unfold plB
  rw [Bool.eq_iff_iff, decide_eq_true_iff, decide_eq_true_iff]; omega
theorem outZ_end {g : List Vx} (h : ∀ v ∈ g, inPl v) : outZ g 31 0 = g := by
  unfold outZ
  rw [List.filter_eq_self]
  intro v hv
  have := h v hv
  unfold inPl at this
  unfold plB
  simp; omega
theorem outZ_len (g : List Vx) (r a : Nat) : (outZ g r a).length ≤ g.length := List.length_filter_le _ _
theorem befB_iff {x y : Vx} : befB x y = true ↔ (x.r < y.r ∨ x.r = y.r ∧ x.a < y.a) := by unfold befB; exact decide_eq_true_iff
theorem outZ_step {g : List Vx} (h : Srt g) (r a : Nat) : outZ g r (a + 1) = outZ g r a ++ g.filter (sameRA r a) := by
  unfold outZ
  induction g with
  | nil => rfl
  | cons x g ih =>
    have hx := (List.pairwise_cons.1 h).1
    have ih := ih (List.pairwise_cons.1 h).2
    by_cases hp : plB r a x = true
    · have h1 : plB r (a + 1) x = true := by unfold plB at hp ⊢; simp at hp ⊢; omega
      have h2 : sameRA r a x = false := by unfold plB at hp; unfold sameRA; simp at hp ⊢; omega
      rw [List.filter_cons, if_pos h1, List.filter_cons, if_pos hp, List.filter_cons (p := sameRA r a), h2, ih]; rfl
    · have hno : g.filter (plB r a) = [] := by
        rw [List.filter_eq_nil_iff]
        intro v hv
        have hb := befB_iff.1 (hx v hv)
        unfold plB at hp ⊢
        simp at hp ⊢
        omega
      rw [hno, List.nil_append] at ih
      rw [List.filter_cons, List.filter_cons (p := plB r a), if_neg hp, hno, List.nil_append, List.filter_cons (p := sameRA r a), ih]
      have e : plB r (a + 1) x = sameRA r a x := by
        unfold plB sameRA at *
        simp at hp
        rw [Bool.eq_iff_iff, decide_eq_true_iff, decide_eq_true_iff]
        omega
      rw [e]
theorem srt_uni {g : List Vx} (h : Srt g) {x y : Vx} (hx : x ∈ g) (hy : y ∈ g) (hr : x.r = y.r) (ha : x.a = y.a) : x = y := by
  induction g with
  | nil => cases hx
  | cons z g ih =>
    have hz := (List.pairwise_cons.1 h).1
    rcases List.mem_cons.1 hx with rfl | hx'
    · rcases List.mem_cons.1 hy with rfl | hy'
      · rfl
      · have := befB_iff.1 (hz y hy'); omega
    · rcases List.mem_cons.1 hy with rfl | hy'
      · have := befB_iff.1 (hz x hx'); omega
      · exact ih (List.pairwise_cons.1 h).2 hx' hy'
theorem filter_uni {g : List Vx} (h : Srt g) {x : Vx} (hx : x ∈ g) : g.filter (sameRA x.r x.a) = [x] := by
  induction g with
  | nil => cases hx
  | cons z g ih =>
    have hz := (List.pairwise_cons.1 h).1
    have hsame : ∀ v, sameRA x.r x.a v = true ↔ v.r = x.r ∧ v.a = x.a := fun v => by unfold sameRA; exact decide_eq_true_iff
    rcases List.mem_cons.1 hx with rfl | hx'
    · rw [List.filter_cons, if_pos ((hsame _).2 ⟨rfl, rfl⟩)]
      congr 1
      rw [List.filter_eq_nil_iff]
      intro v hv e
      have := (hsame v).1 e
      have := befB_iff.1 (hz v hv); omega
    · rw [List.filter_cons, if_neg, ih (List.pairwise_cons.1 h).2 hx']
      intro e
      have := (hsame z).1 e
      have := befB_iff.1 (hz x hx'); omega
theorem filter_none {g : List Vx} {r a : Int} (h : ∀ v ∈ g, ¬ (v.r = r ∧ v.a = a)) : g.filter (sameRA r a) = [] := by
  rw [List.filter_eq_nil_iff]
  intro v hv e
  exact h v hv (of_decide_eq_true e)
theorem outZ_yes {g : List Vx} (h : Srt g) {r a : Nat} {x : Vx} (hx : x ∈ g) (hr : x.r = r) (ha : x.a = a) : outZ g r (a + 1) = outZ g r a ++ [x] := by
  rw [outZ_step h, ← hr, ← ha, filter_uni h hx]
theorem outZ_no {g : List Vx} (h : Srt g) {r a : Nat} (hn : ∀ v ∈ g, ¬ (v.r = r ∧ v.a = a)) : outZ g r (a + 1) = outZ g r a := by
  rw [outZ_step h, filter_none hn, List.append_nil]

/-! finding by a place -/
theorem findZ_mem {g : List Vx} (h : Srt g) {x : Vx} (hx : x ∈ g) : ∃ k : Nat, ∃ hk : k < g.length, findZ g x.r x.a = k ∧ g[k] = x := by
  rcases findZ_cases g x.r x.a with ⟨_, hno⟩ | ⟨k, hk, e, hs, _⟩
  · have := hno x hx; unfold sameRA at this; simp at this
  · refine ⟨k, hk, e, srt_uni h (List.getElem_mem hk) hx ?_ ?_⟩ <;> (unfold sameRA at hs; simp at hs; omega)
theorem findZ_none {g : List Vx} {r a : Int} (h : ∀ v ∈ g, ¬ (v.r = r ∧ v.a = a)) : findZ g r a = -1 := by
  rcases findZ_cases g r a with ⟨e, _⟩ | ⟨k, hk, _, hs, _⟩
  · exact e
  · exact absurd (of_decide_eq_true hs) (h _ (List.getElem_mem hk))

/-! adding by a place -/
theorem bef_total {x y : Vx} (h : ¬ (x.r = y.r ∧ x.a = y.a)) (hb : befB x y = false) : befB y x = true := by
  unfold befB at hb; simp at hb
  refine befB_iff.2 ?_; omega
theorem ins_mem {g : List Vx} {x y : Vx} : y ∈ insG g x ↔ y ∈ g ∨ y = x := by
  unfold insG
  rw [List.mem_append, List.mem_append, List.mem_singleton]
  constructor
  · rintro ((h | h) | h)
    · exact .inl (List.mem_of_mem_take h)
    · exact .inr h
    · exact .inl (List.mem_of_mem_drop h)
  · rintro (h | h)
    · rw [← List.take_append_drop (insN g x) g, List.mem_append] at h
      rcases h with h | h
      · exact .inl (.inl h)
      · exact .inr h
    · exact .inl (.inr h)
theorem ins_srt {g : List Vx} {x : Vx} (h : Srt g) (hn : ∀ v ∈ g, ¬ (v.r = x.r ∧ v.a = x.a)) : Srt (insG g x) := by
  unfold Srt insG insN at *
  induction g with
  | nil => simp
  | cons z g ih =>
    obtain ⟨hz, hg⟩ := List.pairwise_cons.1 h
    rw [List.findIdx_cons]
    by_cases hb : befB z x = true
    · simp only [hb, Bool.not_true, cond_false, List.take_succ_cons, List.drop_succ_cons, List.cons_append]
      refine List.pairwise_cons.2 ⟨fun v hv => ?_, ih hg (fun v hv => hn v (List.mem_cons_of_mem _ hv))⟩
      rcases (ins_mem (g := g) (x := x)).1 hv with hv | rfl
      · exact hz v hv
      · exact hb
    · have hb' : befB z x = false := by simpa using hb
      simp only [hb', Bool.not_false, cond_true, List.take_zero, List.drop_zero, List.nil_append, List.singleton_append]
      have hxz := bef_total (hn z (by simp)) hb'
      refine List.pairwise_cons.2 ⟨fun v hv => ?_, h⟩
      rcases List.mem_cons.1 hv with rfl | hv
      · exact hxz
      · exact bef_trans hxz (hz v hv)
theorem ins_last {g : List Vx} {x : Vx} (h : ∀ v ∈ g, befB v x = true) : insG g x = g ++ [x] := by
  have : insN g x = g.length := by
    unfold insN
    exact List.findIdx_eq_length.2 fun y hy => by simp [h y hy]
  unfold insG; rw [this]; simp
theorem addG_lenP (g : List Vx) (x : Vx) : (addG g x).length ≤ g.length + 1 := by
  unfold addG
  split
  · unfold insG
    rw [List.length_append, List.length_append, List.length_take, List.length_drop]
    simp; omega
  · omega
theorem addG_memP {g : List Vx} {x y : Vx} (h : y ∈ addG g x) : y ∈ g ∨ y = x := by
  unfold addG at h
  split at h
  · exact ins_mem.1 h
  · exact .inl h

end Go.Proofs.Ytejpoeejhmgphab
