/- What impl's repair of a shard is, by a walk of its text; conditions: the lists are short, the numbers are ints. -/
import Derived.Test.YtejpoeejhmgphacV3
namespace Go.Proofs.Ytejpoeejhmgphac
open Go.RowKit

def repB (size need : Int) (L : List Sh) (x : Int) : Bool := joinB size need L && decide (1 ≤ x ∧ x ≤ 8)
/-- The shard with a number, of the data that the shards of a list join to. -/
def repS (size need : Int) (L : List Sh) (x : Int) : Sh := if repB size need L x then (x, shardV (joinD size need L) need.toNat x) else (0, [])
theorem rep_no {size need : Int} {L : List Sh} {x : Int} (h : repB size need L x = false) : repS size need L x = (0, []) := by unfold repS; rw [if_neg (by simp [h])]
theorem rep_yes {size need : Int} {L : List Sh} {x : Int} (h : repB size need L x = true) : repS size need L x = (x, shardV (joinD size need L) need.toNat x) := by unfold repS; rw [if_pos h]
theorem join_data {size need : Int} {L : List Sh} (h : joinB size need L = true) : dataB (joinD size need L) need = true := by
  have hD : joinD size need L = dataI size.toNat need.toNat L := by unfold joinD; rw [if_pos h]
  rw [hD]
  unfold joinB joinOk lenB at h
  simp only [Bool.and_eq_true, decide_eq_true_eq, List.all_eq_true] at h
  obtain ⟨⟨⟨hs, hn⟩, ⟨hl, _⟩, _⟩, ha⟩ := h
  have h0 : 0 < L.length := by omega
  have := ha _ (List.getElem_mem h0)
  unfold matB at this
  simp only [Bool.and_eq_true] at this
  exact this.1.1

set_option maxHeartbeats 2000000 in
theorem impl_ShardRepair (size need : Int) (L : List Sh) (v : Value) (x : Int) (fp : List Nat) (w : World) (hbig : L.length ≤ 1048576) (hin : ∀ s ∈ L, s.2.length ≤ 1048576) (hr : Rd w (.l (L.map shardD)) v fp) :
    Calls Try.prog 7 #[.int .i64 size, .int .i64 need, v, .int .i64 x] w fun e w' => ∃ u, e = .returned (.tuple #[.agg #[.int .i64 (repS size need L x).1, u], .bool (repB size need L x)]) ∧ Own 3 w' w.heap.size u (repS size need L x).2 ∧ Below w.heap.size w w' := by
  have hb0 : Below w.heap.size w (w.alloc (.cells #[.int .i64 0, .slice none 0 0] 30)) := (Below.refl _ _).alloc (Nat.le_refl _) _
  have s0 := Str.new w 30 #[.int .i64 0, .slice none 0 0]
  have hr1 := hr.under hb0
  clear hr
  have Hj := Lib.hid (impl_ShardJoin size need L v fp _ hbig hin hr1)
  clear hr1
  have hnm := fun w => impl_isShardNumber x w
  have hsz1 : (w.alloc (.cells #[.int .i64 0, .slice none 0 0] 30)).heap.size = w.heap.size + 1 := by simp
  cases hj : joinB size need L with
  | false =>
    have hrb : repB size need L x = false := by unfold repB; rw [hj]; rfl
    have Hf := Lib.hid (And.intro hrb (rep_no hrb))
    have hj' := Hj.out
    rw [hj] at hj'
    have Hj := Lib.hid hj'; clear hj' hrb hj hnm
    have Hs0 := Lib.hid s0; clear s0
    have Hb0 := Lib.hid hb0; clear hb0
    go_enter Try.func7, Try.ntmps7
    go_wp2_with fail
    generalize w.alloc (.cells #[.int .i64 0, .slice none 0 0] 30) = W1 at *
    refine Hj.out.mono ?_
    rintro e w2 ⟨u, rfl, hown, hb2⟩
    have hs2 : Str w2 w.heap.size 30 _ := (hb2.block _ Hs0.out.lt).trans Hs0.out
    have Hs2 := Lib.hid hs2; clear hs2
    have Hb2 := Lib.hid (below_step Hb0.out Hb0.out.size hb2)
    have f0 := Hs2.out.frozen 0
    have f1 := Hs2.out.frozen 1
    have k0 := Hs2.out.cell 0 rfl
    have k1 := Hs2.out.cell 1 rfl
    have sF := (Hs2.out.set 0 (.int .i64 0)).set 1 (.slice none 0 0)
    have e0 := sF.cell 0 (v := .int .i64 0) rfl
    have e1 := sF.cell 1 (v := .slice none 0 0) rfl
    clear hown hb2 sF
    go_wp2
    refine bodyPost_ret (v := .tuple #[.agg #[.int .i64 0, .slice none 0 0], .bool false]) (by simp [results, Try.f7, go_sem, e0, e1]) rfl ?_
    rw [Hf.out.1, Hf.out.2]
    exact ⟨_, rfl, Own.nil _ _ _, (Hb2.out.setCell (p := ⟨w.heap.size, 0, none⟩) (Nat.le_refl _) _).setCell (p := ⟨w.heap.size, 1, none⟩) (Nat.le_refl _) _⟩
  | true =>
    have hj' := Hj.out
    rw [hj] at hj'
    have Hj := Lib.hid hj'; clear hj'
    have Hs0 := Lib.hid s0; clear s0
    have Hb0 := Lib.hid hb0; clear hb0
    by_cases hX : 1 ≤ x ∧ x ≤ 8
    · rw [decide_eq_true hX] at hnm
      have Hnm := Lib.hid hnm; clear hnm
      have hrb : repB size need L x = true := by unfold repB; rw [hj, decide_eq_true hX]; rfl
      have Hf := Lib.hid (And.intro hrb (rep_yes hrb))
      clear hrb
      have hD := join_data hj
      obtain ⟨hsym, ⟨hd1, hd2⟩, hn1, hn2⟩ := dataB_iff hD
      clear hD hj
      obtain ⟨need, rfl⟩ := Int.eq_ofNat_of_zero_le (show 0 ≤ need by omega)
      generalize joinD size (need : Int) L = D at *
      have Hsh := Lib.hid (fun a cap W hcap h => impl_shardOf a cap D need x W hsym hd2 (by omega) (by omega) (by omega) (by omega) hcap h)
      clear hsym
      have Hd2 := Lib.hid hd2; clear hd2
      go_enter Try.func7, Try.ntmps7
      go_wp2_with fail
      generalize w.alloc (.cells #[.int .i64 0, .slice none 0 0] 30) = W1 at *
      refine Hj.out.mono ?_
      rintro e w2 ⟨u, rfl, hown, hb2⟩
      have hs2 : Str w2 w.heap.size 30 _ := (hb2.block _ Hs0.out.lt).trans Hs0.out
      have Hs2 := Lib.hid hs2; clear hs2
      have Hb2 := Lib.hid (below_step Hb0.out Hb0.out.size hb2)
      clear hb2
      obtain ⟨ad, cd, rfl, hi2, _, hcap2⟩ := hown.src
      have Hi2 := Lib.hid hi2; clear hi2
      clear hown
      go_wp2_with fail
      refine (Hnm.out _).mono ?_
      rintro e w' ⟨rfl, rfl⟩
      go_wp2_with fail
      refine (Hsh.out ad cd _ hcap2 Hi2.out).mono ?_
      rintro e w4 ⟨v4, rfl, hown4, hb4⟩
      have hs4 : Str w4 w.heap.size 30 _ := (hb4.block _ Hs2.out.lt).trans Hs2.out
      have Hs4 := Lib.hid hs4; clear hs4
      have Hb4 := Lib.hid (below_step Hb2.out Hb2.out.size hb4)
      clear hb4
      have hsz2 := Hs2.out.lt
      have hne : v4.ownBlock ≠ some w.heap.size := fun e => by have := (hown4.lt _ e).1; omega
      obtain ⟨av, cv, rfl, _, _⟩ := hown4.ints
      have Hown4 := Lib.hid hown4; clear hown4
      have Hne := Lib.hid hne; clear hne
      have f0 := Hs4.out.frozen 0
      have f1 := Hs4.out.frozen 1
      have k0 := Hs4.out.cell 0 rfl
      have k1 := Hs4.out.cell 1 rfl
      have sF := (Hs4.out.set 0 (.int .i64 x)).set 1 (.slice av (shardV D need x).length cv)
      have e0 := sF.cell 0 (v := .int .i64 x) rfl
      have e1 := sF.cell 1 (v := .slice av (shardV D need x).length cv) rfl
      clear sF
      go_wp2
      refine bodyPost_ret (v := .tuple #[.agg #[.int .i64 x, .slice av (shardV D need x).length cv], .bool true]) (by simp [results, Try.f7, go_sem, e0, e1]) rfl ?_
      rw [Hf.out.1, Hf.out.2]
      exact ⟨_, rfl, ((Hown4.out.mono (by omega)).set_other Hne.out 0 _).set_other Hne.out 1 _, (Hb4.out.setCell (p := ⟨w.heap.size, 0, none⟩) (Nat.le_refl _) _).setCell (p := ⟨w.heap.size, 1, none⟩) (Nat.le_refl _) _⟩
    · rw [decide_eq_false hX] at hnm
      have Hnm := Lib.hid hnm; clear hnm
      have hrb : repB size need L x = false := by unfold repB; rw [decide_eq_false hX, Bool.and_false]
      have Hf := Lib.hid (And.intro hrb (rep_no hrb))
      clear hrb hj
      go_enter Try.func7, Try.ntmps7
      go_wp2_with fail
      generalize w.alloc (.cells #[.int .i64 0, .slice none 0 0] 30) = W1 at *
      refine Hj.out.mono ?_
      rintro e w2 ⟨u, rfl, hown, hb2⟩
      have hs2 : Str w2 w.heap.size 30 _ := (hb2.block _ Hs0.out.lt).trans Hs0.out
      have Hs2 := Lib.hid hs2; clear hs2
      have Hb2 := Lib.hid (below_step Hb0.out Hb0.out.size hb2)
      clear hown hb2
      go_wp2_with fail
      refine (Hnm.out _).mono ?_
      rintro e w' ⟨rfl, rfl⟩
      have f0 := Hs2.out.frozen 0
      have f1 := Hs2.out.frozen 1
      have k0 := Hs2.out.cell 0 rfl
      have k1 := Hs2.out.cell 1 rfl
      have sF := (Hs2.out.set 0 (.int .i64 0)).set 1 (.slice none 0 0)
      have e0 := sF.cell 0 (v := .int .i64 0) rfl
      have e1 := sF.cell 1 (v := .slice none 0 0) rfl
      clear sF
      go_wp2
      refine bodyPost_ret (v := .tuple #[.agg #[.int .i64 0, .slice none 0 0], .bool false]) (by simp [results, Try.f7, go_sem, e0, e1]) rfl ?_
      rw [Hf.out.1, Hf.out.2]
      exact ⟨_, rfl, Own.nil _ _ _, (Hb2.out.setCell (p := ⟨w.heap.size, 0, none⟩) (Nat.le_refl _) _).setCell (p := ⟨w.heap.size, 1, none⟩) (Nat.le_refl _) _⟩

end Go.Proofs.Ytejpoeejhmgphac
