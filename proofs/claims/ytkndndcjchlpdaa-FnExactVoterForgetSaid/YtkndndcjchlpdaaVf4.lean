/- Forgetting in steps; plain facts, nothing here speaks of the program. -/
import Derived.Test.YtkndndcjchlpdaaVt7
import Derived.Test.YtkndndcjchlpdaaVa5
namespace Go.Proofs.Ytkndndcjchlpdaa

theorem fg_len (f : Int) (g : List Vt) (n : Int) : (fgG f g n).length ≤ g.length := by
  unfold fgG
  split
  · exact List.length_filter_le _ _
  · exact Nat.zero_le _
theorem fg_fact {f n : Int} {g : List Vt} (h : fgB f g n = true) : (0 ≤ n ∧ n ≤ 31) ∧ fgF f g n = n ∧
    ∀ h, n ≤ h → h ≤ 31 → fgB (fgF f g n) (fgG f g n) h = true ∧ fgF (fgF f g n) (fgG f g n) h = h ∧ fgG (fgF f g n) (fgG f g n) h = fgG f g h ∧ fgB f g h = true ∧ fgF f g h = h := by
  have hb := h
  unfold fgB at hb
  simp only [Bool.and_eq_true, decide_eq_true_eq] at hb
  obtain ⟨hv, h1, h2⟩ := hb
  obtain ⟨hl0, hl1, hl2⟩ := voter_len hv
  obtain ⟨e1, e2, _⟩ := fg_yes h
  refine ⟨by omega, e1, fun m hm hm2 => ?_⟩
  have hb2 : fgB f g m = true := by unfold fgB; simp only [Bool.and_eq_true, decide_eq_true_eq]; exact ⟨hv, by omega, hm2⟩
  have hb3 : fgB n (forgetG n g) m = true := by unfold fgB; simp only [Bool.and_eq_true, decide_eq_true_eq]; exact ⟨voter_forget hv (by omega), hm, hm2⟩
  obtain ⟨k1, k2, _⟩ := fg_yes hb2
  obtain ⟨m1, m2, _⟩ := fg_yes hb3
  rw [e1, e2]
  exact ⟨hb3, m1, by rw [m2, k2]; exact forget_steps g hm, hb2, k1⟩

end Go.Proofs.Ytkndndcjchlpdaa
