/- An answer's votes as rows of fields: their sizes; no conditions. -/
import Derived.Test.YtkndndcjchlpdaaRows
import Derived.Test.YtkndndcjchlpdaaVex
import Derived.Test.YtkndndcjchlpdaaRVote
namespace Go.Proofs.Ytkndndcjchlpdaa
open Go.RowKit

theorem vt_rowsP (G : List Vt) : ∀ e ∈ G.map Vt.fd, voteP e := by
  intro e he
  obtain ⟨v, _, rfl⟩ := List.mem_map.1 he
  exact ⟨v.r, v.a, v.d, rfl⟩
theorem lnE_vt (v : Vt) : lnE v.fd = 0 := by simp [lnE, Vt.fd, Fd.ln]
theorem lnTo_vt : ∀ (G : List Vt) (k : Nat), lnTo (G.map Vt.fd) k = 0
  | [], k => by simp [lnTo]
  | v :: G, 0 => by simp [lnTo]
  | v :: G, k + 1 => by
    have h := lnTo_vt G k
    unfold lnTo at h ⊢
    rw [List.map_cons, List.take_succ_cons, List.map_cons, List.sum_cons, h, lnE_vt]
theorem vt_answer {G : List Vt} {n : Nat} (h1 : G.length ≤ n) :
    (G.map Vt.fd).length ≤ n ∧ (∀ e ∈ G.map Vt.fd, voteP e) ∧ (∀ e ∈ G.map Vt.fd, lnE e ≤ 1099511627776) ∧ ∀ k, kTo (G.map Vt.fd) k (G.map Vt.fd).length ≤ k + n * 3 := by
  refine ⟨by simpa using h1, vt_rowsP G, fun e he => ?_, fun k => ?_⟩
  · obtain ⟨v, _, rfl⟩ := List.mem_map.1 he
    rw [lnE_vt]
    omega
  · have := kTo_bd (voteP_len (vt_rowsP G)) k (G.map Vt.fd).length (Nat.le_refl _)
    rw [lnTo_vt, List.length_map] at this
    rw [List.length_map]
    omega

end Go.Proofs.Ytkndndcjchlpdaa
