/- Signing a vote, by whether there is a vote for its round and author; plain facts, nothing here speaks of the program. -/
import Derived.Test.YtkndndcjchlpdaaVt6
import Derived.Test.YtkndndcjchlpdaaVm1
namespace Go.Proofs.Ytkndndcjchlpdaa

theorem hit_none {g : List Vt} {v : Vt} (h : ∀ y ∈ g, ¬ SamePl y v) : hitV g v = none := by
  cases e : hitV g v with
  | none => rfl
  | some y => exact absurd ⟨(hit_some e).2.1, (hit_some e).2.2⟩ (h y (hit_some e).1)
theorem sign_there {f : Int} {g : List Vt} {v : Vt} (hs : voterB f g = true) (h : ∃ y ∈ g, SamePl y v) : signG f g v = g ∧ signB f g v = decide (v ∈ g) := by
  obtain ⟨y, hy, hr, ha⟩ := h
  have hsort := voter_sorted hs
  have hh := hit_mem hsort hy hr ha
  refine ⟨by unfold signG; rw [hh], ?_⟩
  unfold signB
  rw [hh, Bool.eq_iff_iff, decide_eq_true_iff, decide_eq_true_iff]
  constructor
  · intro hd
    have : y = v := by cases y; cases v; simp only at *; rw [hr, ha, hd]
    rw [← this]; exact hy
  · intro hv
    have h2 := hit_mem hsort hv rfl rfl
    rw [hh] at h2
    cases h2
    rfl
theorem sign_not {f : Int} {g : List Vt} {v : Vt} (h : ∀ y ∈ g, ¬ SamePl y v) (hf : v.r < f ∨ 40 ≤ g.length) : signG f g v = g ∧ signB f g v = decide (v ∈ g) := by
  have hn := hit_none h
  refine ⟨by unfold signG; rw [hn]; simp only; rw [if_pos hf], ?_⟩
  have hv : v ∉ g := fun hv => h v hv ⟨rfl, rfl⟩
  unfold signB
  rw [hn, decide_eq_false hv]
  simp only [Bool.not_eq_false', Bool.or_eq_true, decide_eq_true_eq]
  exact hf
theorem sign_new {f : Int} {g : List Vt} {v : Vt} (hs : voterB f g = true) (h : ∀ y ∈ g, ¬ SamePl y v) (hf : f ≤ v.r) (hl : g.length < 40) : signB f g v = true ∧ ∀ x, x ∈ signG f g v ↔ x = v ∨ x ∈ g := by
  have hb : signB f g v = true := (sign_iff (voter_sorted hs)).2 (.inr ⟨h, hf, hl⟩)
  exact ⟨hb, fun x => sign_mem hb x⟩
theorem vote_I {v : Vt} (h : voteB v = true) : VtI v := by
  unfold voteB vtRB vtAB digB at h
  simp only [Bool.and_eq_true, decide_eq_true_eq] at h
  refine ⟨⟨?_, ?_⟩, ⟨?_, ?_⟩, ⟨?_, ?_⟩⟩ <;> omega
theorem voter_apart {f : Int} {g : List Vt} (h : voterB f g = true) : ApartV g := (voter_sorted h).imp fun {a b} hab hs => by
  have := vbef_ra' hs.1 hs.2 b
  rw [hab, vbef_irr] at this
  cases this
theorem voter_I {f : Int} {g : List Vt} (h : voterB f g = true) : ∀ u ∈ g, VtI u := fun _ hu => vote_I (voter_mem h hu).1
theorem voter_len {f : Int} {g : List Vt} (h : voterB f g = true) : 0 ≤ f ∧ f ≤ 31 ∧ g.length ≤ 40 := by
  unfold voterB at h
  simp only [Bool.and_eq_true, decide_eq_true_eq] at h
  omega
/-- What VoterSign answers. -/
def sgF (f : Int) (g : List Vt) (v : Vt) : Int := if voterB f g && voteB v then f else 0
def sgG (f : Int) (g : List Vt) (v : Vt) : List Vt := if voterB f g && voteB v then signG f g v else []
def sgB (f : Int) (g : List Vt) (v : Vt) : Bool := voterB f g && voteB v && signB f g v
theorem sg_no {f : Int} {g : List Vt} {v : Vt} (h : (voterB f g && voteB v) = false) : sgF f g v = 0 ∧ sgG f g v = [] ∧ sgB f g v = false := by
  unfold sgF sgG sgB; rw [h]; exact ⟨rfl, rfl, rfl⟩
theorem sg_yes {f : Int} {g : List Vt} {v : Vt} (h : voterB f g = true) (h' : voteB v = true) : sgF f g v = f ∧ sgG f g v = signG f g v ∧ sgB f g v = signB f g v := by
  unfold sgF sgG sgB; rw [h, h']; exact ⟨rfl, rfl, rfl⟩
/-- A sorted list of just these votes is what signing gives. -/
theorem sign_ext {f : Int} {g G : List Vt} {v : Vt} (hs : voterB f g = true) (hv : voteB v = true) (hG : G.Pairwise fun x y => vbefB x y = true) (hm : ∀ x, x ∈ G ↔ x ∈ signG f g v) : G = signG f g v :=
  sorted_ext _ _ hG (voter_sorted (voter_sign hs hv)) hm

end Go.Proofs.Ytkndndcjchlpdaa
