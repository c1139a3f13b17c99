/- Rows of shards as rows of fields, and how long the answers of ShardJoin and ShardRepair are; no conditions. -/
import Derived.Test.YtaicljoapmmnnaaEx
import Derived.Test.YtaicljoapmmnnaaRShard
import Derived.Test.YtaicljoapmmnnaaZ3
namespace Go.Proofs.Ytaicljoapmmnnaa
open Go.RowKit

theorem rows_shards : ∀ {es : List (List Fd)}, (∀ e ∈ es, shardP e) → ∃ L : List (Int × List Int), es = L.map shardF
  | [], _ => ⟨[], rfl⟩
  | e :: es, h => by
    obtain ⟨x, xs, rfl⟩ := h e (by simp)
    obtain ⟨L, rfl⟩ := rows_shards fun e he => h e (List.mem_cons_of_mem _ he)
    exact ⟨(x, xs) :: L, rfl⟩
theorem rowsD_shards (L : List (Int × List Int)) : rowsD (L.map shardF) = .l (L.map shardD) := by
  unfold rowsD
  rw [List.map_map]; rfl
theorem joinD_len (size need : Int) (L : List Sh) : (joinD size need L).length ≤ 12 := by
  cases h : joinB size need L with
  | false => unfold joinD; rw [if_neg (by simp [h])]; simp
  | true =>
    have := join_data h
    unfold dataB at this
    simp only [Bool.and_eq_true, decide_eq_true_eq] at this
    omega
theorem repS_len (size need : Int) (L : List Sh) (x : Int) : (repS size need L x).2.length ≤ 1048576 := by
  cases h : repB size need L x with
  | false => rw [rep_no h]; simp
  | true =>
    rw [rep_yes h]
    have hd := joinD_len size need L
    have hj : joinB size need L = true := by unfold repB at h; simp only [Bool.and_eq_true] at h; exact h.1
    have hb := join_data hj
    unfold dataB at hb
    simp only [Bool.and_eq_true, decide_eq_true_eq] at hb
    show (shardV _ _ _).length ≤ _
    rw [shardV_len]
    exact Nat.le_trans (cols_le (by omega) hd) (by omega)

end Go.Proofs.Ytaicljoapmmnnaa
