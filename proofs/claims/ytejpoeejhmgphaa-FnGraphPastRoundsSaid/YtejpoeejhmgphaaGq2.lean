/- What the law of the past's rounds says of the reference's answers; plain facts on lists, nothing here is walked. -/
import Derived.Test.YtejpoeejhmgphaaGq0
import Derived.Test.YtejpoeejhmgphaaM1
namespace Go.Proofs.Ytejpoeejhmgphaa
open Go.RowKit

theorem weight_mono {c a b : List Int} (h : validB c = true) (ha : AscP c.length a) (hb : AscP c.length b) (hs : ∀ x ∈ a, x ∈ b) : weightZ c a ≤ weightZ c b := by
  rw [weight_isum c c.length a ha, weight_isum c c.length b hb]
  refine isum_le fun i hi => ?_
  unfold wAt
  have hp := c_nonneg h i hi
  by_cases h1 : hasB a i = true
  · have h2 : hasB b i = true := by
      unfold hasB at h1 ⊢
      simp at h1 ⊢
      exact hs _ h1
    rw [if_pos h1, if_pos h2]; omega
  · rw [if_neg h1]
    split
    · exact hp
    · omega
theorem quorum_pos {c : List Int} (h : validB c = true) : 1 ≤ quorumZ c := by have := totalZ_bd h; unfold quorumZ; omega
theorem vtx_quo {c : List Int} {x : Vx} (h : vtxB c x = true) (h0 : ¬ x.r = 0) : quorumZ c ≤ weightZ c x.ps := by
  unfold vtxB quoB at h
  simp only [Bool.and_eq_true, if_neg h0, decide_eq_true_eq] at h
  exact h.2.2.2.2
theorem past_rounds {c : List Int} {g : List Vx} (h : graphB c g = true) {y : Vx} (hy : y ∈ g) : ∀ k : Nat, (k : Int) ≤ y.r → ∃ z, Past g y z ∧ z.r = y.r - k := by
  obtain ⟨h1, h2, h3, h4⟩ := graph_iff.1 h
  intro k
  induction k with
  | zero => intro _; exact ⟨y, .it, by omega⟩
  | succ k ih =>
    intro hk
    obtain ⟨z, hz, er⟩ := ih (by omega)
    have hzm := past_mem hy hz
    have hq := vtx_quo (h3 z hzm) (by omega)
    have hp := quorum_pos h1
    match hps : z.ps with
    | [] => rw [hps] at hq; have : weightZ c [] = 0 := rfl; omega
    | p :: ps =>
      obtain ⟨z', hz', er', ea'⟩ := parB_iff.1 (h4 z hzm) p (by rw [hps]; simp)
      exact ⟨z', .up hz hz' er' (by rw [ea', hps]; simp), by omega⟩
open Classical in
/-- P49: in each round before the vertex's, the past's authors are a quorum. -/
theorem rounds_law {c : List Int} {g : List Vx} {r a : Int} (hne : 0 < (gpZ c g r a).length) (q : Int) (h0 : 0 ≤ q) (hq : q < r) : validB c = true ∧ quorumZ c ≤ mwZ c (authZ (psV c g r a) q) := by
  have hgb : graphB c g = true := by
    cases hgb : graphB c g with
    | true => rfl
    | false => exfalso; unfold gpZ at hne; rw [hgb] at hne; simp at hne
  obtain ⟨h1, h2, h3, h4⟩ := graph_iff.1 hgb
  obtain ⟨hgb', k, hk, ek, _⟩ := past_law (c := c) (g := g) (r := r) (b := a) rfl hne
  have hs : sameRA r a g[k] = true := by
    rcases findZ_cases g r a with ⟨e, _⟩ | ⟨j, hj, e, hs, _⟩
    · omega
    · have : j = k := by omega
      subst this; exact hs
  obtain ⟨er, ea⟩ := of_decide_eq_true hs
  have hym := List.getElem_mem hk
  generalize g[k] = y at *
  have hps : psV c g r a = g.filter fun z => decide (Past g y z) := by rw [← er, ← ea]; exact psV_eq hgb hym
  refine ⟨h1, ?_⟩
  rw [hps]
  have hsub : authZ (g.filter fun z => decide (Past g y z)) q = ((g.filter (authP q)).filter fun z => decide (Past g y z)).map (·.a) := by
    unfold authZ
    rw [List.filter_filter, List.filter_filter]
    congr 1
    exact List.filter_congr fun z _ => Bool.and_comm _ _
  have hall := ascP_of (auth_members hgb q)
  have hasc : AscP c.length (authZ (g.filter fun z => decide (Past g y z)) q) := by
    rw [hsub]
    have hsl : (((g.filter (authP q)).filter fun z => decide (Past g y z)).map (·.a)).Sublist (authZ g q) := List.Sublist.map _ List.filter_sublist
    exact ⟨hall.1.sublist hsl, fun m hm => hall.2 m (hsl.mem hm)⟩
  rw [mwZ_of h1 hasc]
  obtain ⟨z, hz, ez⟩ := past_rounds hgb hym (r - q - 1).toNat (by rw [er]; omega)
  have ezr : z.r = q + 1 := by rw [ez, er]; omega
  have hzm := past_mem hym hz
  have hzq := vtx_quo (h3 z hzm) (by omega)
  have hzs : AscP c.length z.ps := ascP_of (vtx_mem (h3 z hzm))
  refine Int.le_trans hzq (weight_mono h1 hzs hasc fun p hp => ?_)
  obtain ⟨z', hz', er', ea'⟩ := parB_iff.1 (h4 z hzm) p hp
  unfold authZ
  refine List.mem_map.2 ⟨z', List.mem_filter.2 ⟨List.mem_filter.2 ⟨hz', by rw [decide_eq_true_iff]; exact .up hz hz' er' (by rw [ea']; exact hp)⟩, ?_⟩, ea'⟩
  unfold authP
  exact decide_eq_true (by omega)
theorem psV_at {c : List Int} {g : List Vx} {r a : Int} (i : Nat) (hi : i < (gpZ c g r a).length) : ∃ m : Nat, ∃ hm : m < g.length, ∃ hi' : i < (psV c g r a).length, (gpZ c g r a)[i] = m ∧ (psV c g r a)[i] = g[m] := by
  obtain ⟨m, hm, e⟩ := gp_range i hi
  refine ⟨m, hm, by unfold psV; rw [List.length_map]; exact hi, e, ?_⟩
  unfold psV
  rw [List.getElem_map, e, Int.toNat_natCast, getV hm]
theorem psV_len (c : List Int) (g : List Vx) (r a : Int) : (psV c g r a).length = (gpZ c g r a).length := by unfold psV; rw [List.length_map]
theorem rounds_bd {c : List Int} {g : List Vx} {r a : Int} (hne : 0 < (gpZ c g r a).length) : r ≤ 30 := by
  have hgb : graphB c g = true := by
    cases hgb : graphB c g with
    | true => rfl
    | false => exfalso; unfold gpZ at hne; rw [hgb] at hne; simp at hne
  obtain ⟨_, k, hk, ek, _⟩ := past_law (c := c) (g := g) (r := r) (b := a) rfl hne
  rcases findZ_cases g r a with ⟨e, _⟩ | ⟨j, hj, e, hs, _⟩
  · omega
  · have := (vtx_round (graph_vtx hgb _ (List.getElem_mem hj))).2
    rw [(of_decide_eq_true hs).1] at this
    exact this

end Go.Proofs.Ytejpoeejhmgphaa
