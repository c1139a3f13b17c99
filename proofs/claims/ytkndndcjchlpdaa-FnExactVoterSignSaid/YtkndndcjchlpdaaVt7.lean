/- Plain facts on voters that sign: once, order, keeps, full; nothing here speaks of the program. -/
import Derived.Test.YtkndndcjchlpdaaVt6
import Derived.Test.YtkndndcjchlpdaaVq1
namespace Go.Proofs.Ytkndndcjchlpdaa
open Go.RowKit

theorem sg_true {f : Int} {g : List Vt} {v : Vt} (h : sgB f g v = true) : voterB f g = true ∧ voteB v = true ∧ signB f g v = true ∧ sgF f g v = f ∧ sgG f g v = signG f g v := by
  unfold sgB at h
  simp only [Bool.and_eq_true] at h
  obtain ⟨⟨h1, h2⟩, h3⟩ := h
  obtain ⟨e1, e2, _⟩ := sg_yes h1 h2
  exact ⟨h1, h2, h3, e1, e2⟩
theorem vote_dig {v : Vt} (h : voteB v = true) : 0 ≤ v.d ∧ v.d ≤ 990 := by
  unfold voteB at h
  simp only [Bool.and_eq_true] at h
  have := digB_bd h.2.2
  omega
theorem vote_with {v : Vt} (h : voteB v = true) {d : Int} (h0 : 0 ≤ d) (h1 : d ≤ 990) : voteB ⟨v.r, v.a, d⟩ = true := by
  unfold voteB at h ⊢
  simp only [Bool.and_eq_true] at h ⊢
  refine ⟨h.1, h.2.1, ?_⟩
  unfold digB; exact decide_eq_true (by omega)
theorem once_fact {f : Int} {g : List Vt} {v : Vt} (h : sgB f g v = true) : (0 ≤ v.d ∧ v.d ≤ 990) ∧ ∀ d, 0 ≤ d → d ≤ 990 → d ≠ v.d →
    sgB (sgF f g v) (sgG f g v) ⟨v.r, v.a, d⟩ = false ∧ sgF (sgF f g v) (sgG f g v) ⟨v.r, v.a, d⟩ = sgF f g v ∧ sgG (sgF f g v) (sgG f g v) ⟨v.r, v.a, d⟩ = sgG f g v := by
  obtain ⟨h1, h2, h3, h4, h5⟩ := sg_true h
  refine ⟨vote_dig h2, fun d d0 d1 hne => ?_⟩
  rw [h4, h5]
  have hv := voter_sign h1 h2
  have hu := vote_with h2 d0 d1
  obtain ⟨e1, e2, e3⟩ := sg_yes hv hu
  obtain ⟨s1, s2⟩ := sign_once (f' := f) (u := ⟨v.r, v.a, d⟩) h3 rfl rfl
  rw [e1, e2, e3, s1, s2]
  exact ⟨decide_eq_false (fun e => hne e.symm), rfl, rfl⟩
theorem keeps_fact {f : Int} {g : List Vt} {v : Vt} (h : sgB f g v = true) : sgF f g v = f ∧ ∀ x ∈ g, x ∈ sgG f g v := by
  obtain ⟨h1, h2, h3, h4, h5⟩ := sg_true h
  refine ⟨h4, fun x hx => ?_⟩
  rw [h5]
  exact sign_keeps hx
theorem sg_len (f : Int) (g : List Vt) (v : Vt) : (sgG f g v).length ≤ g.length + 1 := by
  have h := congrArg List.length (low_up g v)
  rw [List.length_append] at h
  unfold sgG
  split
  · unfold signG
    split
    · omega
    · split
      · omega
      · simp only [List.length_append, List.length_cons]; omega
  · simp
theorem full_fact {f : Int} {g : List Vt} {v : Vt} (h : sgB f g v = false) (hv : voterB f g = true) (hl : (sgG f g v).length = g.length) :
    (∀ u ∈ g, u.r = v.r → u.a = v.a → u.d ≠ v.d) ∧ ((∀ u ∈ g, ¬ (u.r = v.r ∧ u.a = v.a)) → v.r < f ∨ g.length = 40 ∨ g.length = 0) := by
  cases h2 : voteB v with
  | false =>
    have : sgG f g v = [] := by unfold sgG; rw [hv, h2]; rfl
    rw [this] at hl
    have hg : g = [] := List.eq_nil_of_length_eq_zero hl.symm
    subst hg
    exact ⟨fun u hu => by simp at hu, fun _ => .inr (.inr rfl)⟩
  | true =>
    have h3 : signB f g v = false := by unfold sgB at h; rw [hv, h2] at h; simpa using h
    have hs := voter_sorted hv
    have hn : ¬ (v ∈ g ∨ ((∀ u ∈ g, ¬ (u.r = v.r ∧ u.a = v.a)) ∧ f ≤ v.r ∧ g.length < 40)) := fun hh => by
      rw [(sign_iff hs).2 hh] at h3; cases h3
    refine ⟨fun u hu hr ha hd => hn (.inl ?_), fun hall => ?_⟩
    · have : u = v := by obtain ⟨ur, ua, ud⟩ := u; obtain ⟨vr, va, vd⟩ := v; simp only at hr ha hd; subst hr; subst ha; subst hd; rfl
      rw [← this]; exact hu
    · have hlen := (voter_len hv).2.2
      by_cases h4 : v.r < f
      · exact .inl h4
      · by_cases h5 : g.length < 40
        · exact absurd (.inr ⟨hall, by omega, h5⟩) hn
        · exact .inr (.inl (by omega))
theorem order_fact {f : Int} {g : List Vt} {v u : Vt} (h : sgB f g v = true) (h' : sgB (sgF f g v) (sgG f g v) u = true) :
    sgB f g u = true ∧ sgB (sgF f g u) (sgG f g u) v = true ∧ sgF (sgF f g u) (sgG f g u) v = sgF (sgF f g v) (sgG f g v) u ∧ sgG (sgF f g u) (sgG f g u) v = sgG (sgF f g v) (sgG f g v) u := by
  obtain ⟨h1, h2, h3, h4, h5⟩ := sg_true h
  obtain ⟨k1, k2, k3, k4, k5⟩ := sg_true h'
  rw [h4, h5] at k1 k3 k4 k5
  rw [h4, h5]
  obtain ⟨c1, c2, c3⟩ := sign_comm h1 h2 k2 h3 k3
  obtain ⟨e1, e2, e3⟩ := sg_yes h1 k2
  have hw := voter_sign h1 k2
  obtain ⟨d1, d2, d3⟩ := sg_yes hw h2
  rw [e1, e2, e3, d1, d2, d3, k4, k5, c3]
  exact ⟨c1, c2, rfl, rfl⟩

end Go.Proofs.Ytkndndcjchlpdaa
