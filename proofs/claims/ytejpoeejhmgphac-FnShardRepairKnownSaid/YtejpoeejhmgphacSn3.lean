/- The draw for joining shards, by a walk of its text, and what the law of a repaired shard that is known asks of the reference's answers. -/
import Derived.Test.YtejpoeejhmgphacRows
import Derived.Test.YtejpoeejhmgphacSn2
import Derived.Test.YtejpoeejhmgphacZ3
namespace Go.Proofs.Ytejpoeejhmgphac
open Go.RowKit

/-- P26: a shard of a list that joins is the one that is repaired. -/
theorem known_law {size need : Int} {L : List Sh} (h : joinB size need L = true) : 0 < L.length ∧ ∀ k (hk : k < L.length), repB size need L L[k].1 = true ∧ repS size need L L[k].1 = L[k] := by
  have h2 := h
  unfold joinB at h2
  rw [Bool.and_eq_true, List.all_eq_true] at h2
  obtain ⟨hs, hn, hl, _⟩ := joinOk_iff h2.1
  refine ⟨by omega, fun k hk => ?_⟩
  have hm := h2.2 _ (List.getElem_mem hk)
  unfold matB at hm
  simp only [Bool.and_eq_true, decide_eq_true_eq] at hm
  have hr : repB size need L L[k].1 = true := by unfold repB; rw [h, decide_eq_true hm.1.2]; rfl
  refine ⟨hr, ?_⟩
  rw [rep_yes hr]
  have hD : joinD size need L = dataI size.toNat need.toNat L := by unfold joinD; rw [if_pos h]
  rw [hD, hm.2]

theorem spec_DrawShardJoin (a : Option Addr) (cap : Nat) (zs : List Int) (w : World) (h : CodeAt w a cap zs) :
    Calls Try.prog 4 #[.slice a zs.length cap] w fun e w' => ∃ (size need : Int) (v : Value) (L : List Sh) (fp : List Nat), e = .returned (.tuple #[.int .i64 size, .int .i64 need, v]) ∧ Rd w' (.l (L.map shardD)) v fp ∧ L.length ≤ 8 ∧ (∀ s ∈ L, s.2.length ≤ 20) ∧ (-100 ≤ size ∧ size ≤ 100) ∧ (-100 ≤ need ∧ need ≤ 100) ∧ Below w.heap.size w w' := by
  go_enter Try.func4, Try.ntmps4
  go_wp2_with fail
  refine (open_any a cap zs _ h).mono ?_
  rintro e w1 ⟨R, rfl, hR1, hR2, hr1, hb1⟩
  have Hr1 := Lib.hid hr1; clear hr1
  have hRl := Hr1.out.lt
  have Hb1 := Lib.hid hb1
  have hs1 := hb1.size
  clear hb1
  go_wp2_with fail
  refine (drawShards R 0 w1 (by omega) Hr1.out hRl).mono ?_
  rintro e w2 ⟨size, need, v, L, fp, rfl, hr, hL, hS, hz1, hz2, hg⟩
  have Hr := Lib.hid hr
  have HS := Lib.hid hS
  have Hg := Lib.hid (Hb1.out.trans (below_of_row' hg (by omega) (by omega)))
  have hL' := hL
  have Hz1 := Lib.hid hz1
  have Hz2 := Lib.hid hz2
  clear hr hS hg hz1 hz2
  go_wp2
  go_ret3
  exact ⟨size, need, v, L, fp, rfl, Hr.out, hL', HS.out, Hz1.out, Hz2.out, Hg.out⟩

end Go.Proofs.Ytejpoeejhmgphac
