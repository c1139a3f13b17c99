/- The order of two votes does not matter (plain functions on lists); nothing here speaks of the program. -/
import Derived.Test.YtkndndcjchlpdaaVt5
namespace Go.Proofs.Ytkndndcjchlpdaa

theorem or_swap3 (a b c : Prop) : a ∨ b ∨ c ↔ b ∨ a ∨ c := ⟨fun h => h.elim (fun x => .inr (.inl x)) fun h => h.elim .inl fun x => .inr (.inr x), fun h => h.elim (fun x => .inr (.inl x)) fun h => h.elim .inl fun x => .inr (.inr x)⟩
theorem vbef_asym {a b : Vt} (h : vbefB a b = true) (k : vbefB b a = true) : False := by
  have := vbef_trans h k
  rw [vbef_irr] at this
  cases this
theorem sorted_ext : ∀ (a b : List Vt), a.Pairwise (fun x y => vbefB x y = true) → b.Pairwise (fun x y => vbefB x y = true) → (∀ x, x ∈ a ↔ x ∈ b) → a = b
  | [], [], _, _, _ => rfl
  | [], y :: ys, _, _, h => absurd ((h y).2 List.mem_cons_self) (by simp)
  | x :: xs, [], _, _, h => absurd ((h x).1 List.mem_cons_self) (by simp)
  | x :: xs, y :: ys, ha, hb, h => by
    obtain ⟨ha1, ha2⟩ := List.pairwise_cons.1 ha
    obtain ⟨hb1, hb2⟩ := List.pairwise_cons.1 hb
    have hxy : x = y := by
      rcases List.mem_cons.1 ((h x).1 List.mem_cons_self) with e | hx
      · exact e
      · rcases List.mem_cons.1 ((h y).2 List.mem_cons_self) with e | hy
        · exact e.symm
        · exact (vbef_asym (ha1 y hy) (hb1 x hx)).elim
    subst hxy
    have ht : xs = ys := sorted_ext xs ys ha2 hb2 fun z => by
      refine ⟨fun hz => ?_, fun hz => ?_⟩
      · rcases List.mem_cons.1 ((h z).1 (List.mem_cons_of_mem _ hz)) with e | hz'
        · subst e; have := ha1 _ hz; rw [vbef_irr] at this; cases this
        · exact hz'
      · rcases List.mem_cons.1 ((h z).2 (List.mem_cons_of_mem _ hz)) with e | hz'
        · subst e; have := hb1 _ hz; rw [vbef_irr] at this; cases this
        · exact hz'
    rw [ht]

/-- When a voter that is valid signs. -/
theorem sign_iff {f : Int} {g : List Vt} {v : Vt} (hs : g.Pairwise fun a b => vbefB a b = true) : signB f g v = true ↔ v ∈ g ∨ ((∀ u ∈ g, ¬ (u.r = v.r ∧ u.a = v.a)) ∧ f ≤ v.r ∧ g.length < 40) := by
  unfold signB
  cases hh : hitV g v with
  | some u =>
    obtain ⟨hu, hr, ha⟩ := hit_some hh
    simp only [decide_eq_true_eq]
    refine ⟨fun hd => .inl ?_, fun h => ?_⟩
    · have : u = v := by
        cases u; cases v
        simp only at hr ha hd
        subst hr ha hd
        rfl
      rw [← this]; exact hu
    · rcases h with h | h
      · have := hit_mem hs h rfl rfl
        rw [hh] at this
        cases this
        rfl
      · exact absurd ⟨hr, ha⟩ (h.1 u hu)
  | none =>
    simp only [Bool.not_eq_true', Bool.or_eq_false_iff, decide_eq_false_iff_not]
    refine ⟨fun h => .inr ⟨fun u hu hra => ?_, by omega, by omega⟩, fun h => ?_⟩
    · have := hit_mem hs hu hra.1 hra.2
      rw [hh] at this
      cases this
    · rcases h with h | h
      · have := hit_mem hs h rfl rfl
        rw [hh] at this
        cases this
      · exact ⟨by omega, by omega⟩
theorem sign_mem {f : Int} {g : List Vt} {v : Vt} (h : signB f g v = true) (x : Vt) : x ∈ signG f g v ↔ x = v ∨ x ∈ g := by
  unfold signB at h
  unfold signG
  cases hh : hitV g v with
  | some u =>
    rw [hh] at h
    obtain ⟨hu, hr, ha⟩ := hit_some hh
    simp only [decide_eq_true_eq] at h ⊢
    have : u = v := by
      cases u; cases v
      simp only at hr ha h
      subst hr ha h
      rfl
    subst this
    exact ⟨.inr, fun hx => hx.elim (fun e => e ▸ hu) id⟩
  | none =>
    rw [hh] at h
    simp only [Bool.not_eq_true', Bool.or_eq_false_iff, decide_eq_false_iff_not] at h ⊢
    rw [if_neg (by omega)]
    conv => rhs; rw [← low_up g v]
    simp only [List.mem_append, List.mem_cons]
    exact or_swap3 _ _ _
theorem sign_len {f : Int} {g : List Vt} {v : Vt} (hs : g.Pairwise fun a b => vbefB a b = true) (h : signB f g v = true) (hv : v ∉ g) : (signG f g v).length = g.length + 1 := by
  have hi := (sign_iff hs).1 h
  rcases hi with hi | ⟨h1, h2, h3⟩
  · exact absurd hi hv
  unfold signG
  cases hh : hitV g v with
  | some u =>
    obtain ⟨hu, hr, ha⟩ := hit_some hh
    exact absurd ⟨hr, ha⟩ (h1 u hu)
  | none =>
    simp only
    rw [if_neg (by omega), List.length_append, List.length_cons]
    have := congrArg List.length (low_up g v)
    rw [List.length_append] at this
    omega
/-- Two votes that are signed one after the other are signed in the other order too, and the votes are the same. -/
theorem sign_comm {f : Int} {g : List Vt} {v u : Vt} (h : voterB f g = true) (hv : voteB v = true) (hu : voteB u = true) (h1 : signB f g v = true) (h2 : signB f (signG f g v) u = true) :
    signB f g u = true ∧ signB f (signG f g u) v = true ∧ signG f (signG f g u) v = signG f (signG f g v) u := by
  have hs := voter_sorted h
  have hsv := voter_sorted (voter_sign h hv)
  have hsu := voter_sorted (voter_sign h hu)
  have m1 := sign_mem h1
  have a1 := (sign_iff hs).1 h1
  have a2 := (sign_iff hsv).1 h2
  have b1 : signB f g u = true := by
    rw [sign_iff hs]
    rcases a2 with a2 | ⟨n1, n2, n3⟩
    · rcases (m1 u).1 a2 with rfl | a2
      · exact a1
      · exact .inl a2
    · refine .inr ⟨fun x hx => n1 x ((m1 x).2 (.inr hx)), n2, ?_⟩
      by_cases hvg : v ∈ g
      · by_cases hl : g.length < 40
        · exact hl
        · have : signG f g v = g := by
            unfold signG
            rw [hit_mem hs hvg rfl rfl]
          rw [this] at n3; exact n3
      · rw [sign_len hs h1 hvg] at n3; omega
  have m2 := sign_mem b1
  have b2 : signB f (signG f g u) v = true := by
    rw [sign_iff hsu]
    rcases a1 with a1 | ⟨n1, n2, n3⟩
    · exact .inl ((m2 v).2 (.inr a1))
    · by_cases huv : u = v
      · exact .inl ((m2 v).2 (.inl huv.symm))
      by_cases hug : u ∈ g
      · have : signG f g u = g := by
          unfold signG
          rw [hit_mem hs hug rfl rfl]
        rw [this]
        exact .inr ⟨n1, n2, n3⟩
      · have hvg : v ∉ g := fun hh => n1 v hh ⟨rfl, rfl⟩
        rcases a2 with a2 | ⟨k1, k2, k3⟩
        · rcases (m1 u).1 a2 with e | e
          · exact absurd e huv
          · exact absurd e hug
        · refine .inr ⟨fun x hx => ?_, n2, ?_⟩
          · rcases (m2 x).1 hx with rfl | hx
            · intro e
              exact k1 v ((m1 v).2 (.inl rfl)) ⟨e.1.symm, e.2.symm⟩
            · exact n1 x hx
          · rw [sign_len hs h1 hvg] at k3
            rw [sign_len hs b1 hug]
            exact k3
  refine ⟨b1, b2, sorted_ext _ _ (voter_sorted (voter_sign (voter_sign h hu) hv)) (voter_sorted (voter_sign (voter_sign h hv) hu)) fun x => ?_⟩
  rw [sign_mem b2, sign_mem h2, m1, m2]
  exact or_swap3 _ _ _

end Go.Proofs.Ytkndndcjchlpdaa
