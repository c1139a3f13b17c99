/- Texts that the laws of this folder share, one behind another; no conditions. -/
import Derived.Test.YtnaeeemgehgdfabBu2
import Derived.Test.YtnaeeemgehgdfabRows
import Derived.Test.YtnaeeemgehgdfabBu0
import Derived.Test.YtnaeeemgehgdfabBu1

/- What spec's repair of a shard is, by a walk of its text; conditions: the lists are short, the numbers are ints. -/
namespace Go.Proofs.Ytnaeeemgehgdfab
open Go.RowKit

set_option maxHeartbeats 2000000 in
theorem spec_ShardRepair (size need : Int) (L : List Sh) (v : Value) (x : Int) (fp : List Nat) (w : World) (hbig : L.length ≤ 1048576) (hin : ∀ s ∈ L, s.2.length ≤ 1048576) (hr : Rd w (.l (L.map shardD)) v fp) :
    Calls Try.prog 6 #[.int .i64 size, .int .i64 need, v, .int .i64 x] w fun e w' => ∃ u, e = .returned (.tuple #[.agg #[.int .i64 (repS size need L x).1, u], .bool (repB size need L x)]) ∧ Own 3 w' w.heap.size u (repS size need L x).2 ∧ Below w.heap.size w w' := by
  have hb0 : Below w.heap.size w (w.alloc (.cells #[.int .i64 0, .slice none 0 0] 28)) := (Below.refl _ _).alloc (Nat.le_refl _) _
  have s0 := Str.new w 28 #[.int .i64 0, .slice none 0 0]
  have hr1 := hr.under hb0
  clear hr
  have Hj := Lib.hid (spec_ShardJoin size need L v fp _ hbig hin hr1)
  clear hr1
  have hnm := fun w => spec_l6In x 1 8 w
  have hsz1 : (w.alloc (.cells #[.int .i64 0, .slice none 0 0] 28)).heap.size = w.heap.size + 1 := by simp
  cases hj : joinB size need L with
  | false =>
    have hrb : repB size need L x = false := by unfold repB; rw [hj]; rfl
    have Hf := Lib.hid (And.intro hrb (rep_no hrb))
    have hj' := Hj.out
    rw [hj] at hj'
    have Hj := Lib.hid hj'; clear hj' hrb hj hnm
    have Hs0 := Lib.hid s0; clear s0
    have Hb0 := Lib.hid hb0; clear hb0
    go_enter Try.func6, Try.ntmps6
    go_wp2_with fail
    generalize w.alloc (.cells #[.int .i64 0, .slice none 0 0] 28) = W1 at *
    refine Hj.out.mono ?_
    rintro e w2 ⟨u, rfl, hown, hb2⟩
    have hs2 : Str w2 w.heap.size 28 _ := (hb2.block _ Hs0.out.lt).trans Hs0.out
    have Hs2 := Lib.hid hs2; clear hs2
    have Hb2 := Lib.hid (below_step Hb0.out Hb0.out.size hb2)
    have f0 := Hs2.out.frozen 0
    have f1 := Hs2.out.frozen 1
    have k0 := Hs2.out.cell 0 rfl
    have k1 := Hs2.out.cell 1 rfl
    have sF := (Hs2.out.set 0 (.int .i64 0)).set 1 (.slice none 0 0)
    have e0 := sF.cell 0 (v := .int .i64 0) rfl
    have e1 := sF.cell 1 (v := .slice none 0 0) rfl
    clear hown hb2 sF
    go_wp2
    refine bodyPost_ret (v := .tuple #[.agg #[.int .i64 0, .slice none 0 0], .bool false]) (by simp [results, Try.f6, go_sem, e0, e1]) rfl ?_
    rw [Hf.out.1, Hf.out.2]
    exact ⟨_, rfl, Own.nil _ _ _, (Hb2.out.setCell (p := ⟨w.heap.size, 0, none⟩) (Nat.le_refl _) _).setCell (p := ⟨w.heap.size, 1, none⟩) (Nat.le_refl _) _⟩
  | true =>
    have hj' := Hj.out
    rw [hj] at hj'
    have Hj := Lib.hid hj'; clear hj'
    have Hs0 := Lib.hid s0; clear s0
    have Hb0 := Lib.hid hb0; clear hb0
    by_cases hX : 1 ≤ x ∧ x ≤ 8
    · rw [decide_eq_true hX] at hnm
      have Hnm := Lib.hid hnm; clear hnm
      have hrb : repB size need L x = true := by unfold repB; rw [hj, decide_eq_true hX]; rfl
      have Hf := Lib.hid (And.intro hrb (rep_yes hrb))
      clear hrb
      have hD := join_data hj
      obtain ⟨hsym, ⟨hd1, hd2⟩, hn1, hn2⟩ := dataB_iff hD
      clear hD hj
      obtain ⟨need, rfl⟩ := Int.eq_ofNat_of_zero_le (show 0 ≤ need by omega)
      generalize joinD size (need : Int) L = D at *
      have hsh := fun a cap W h => spec_l3Shard a cap D need x.toNat W hsym hd2 (by omega) (by omega) (by omega) h
      rw [show ((x.toNat : Nat) : Int) = x by omega] at hsh
      have Hsh := Lib.hid hsh; clear hsh
      clear hsym
      have Hd2 := Lib.hid hd2; clear hd2
      go_enter Try.func6, Try.ntmps6
      go_wp2_with fail
      generalize w.alloc (.cells #[.int .i64 0, .slice none 0 0] 28) = W1 at *
      refine Hj.out.mono ?_
      rintro e w2 ⟨u, rfl, hown, hb2⟩
      have hs2 : Str w2 w.heap.size 28 _ := (hb2.block _ Hs0.out.lt).trans Hs0.out
      have Hs2 := Lib.hid hs2; clear hs2
      have Hb2 := Lib.hid (below_step Hb0.out Hb0.out.size hb2)
      clear hb2
      obtain ⟨ad, cd, rfl, hi2, _, _⟩ := hown.src
      have Hi2 := Lib.hid hi2; clear hi2
      clear hown
      go_wp2_with fail
      refine (Hnm.out _).mono ?_
      rintro e w' ⟨rfl, rfl⟩
      go_wp2_with fail
      refine (Hsh.out ad cd _ Hi2.out).mono ?_
      rintro e w4 ⟨v4, rfl, hown4, hb4⟩
      have hs4 : Str w4 w.heap.size 28 _ := (hb4.block _ Hs2.out.lt).trans Hs2.out
      have Hs4 := Lib.hid hs4; clear hs4
      have Hb4 := Lib.hid (below_step Hb2.out Hb2.out.size hb4)
      clear hb4
      have hsz2 := Hs2.out.lt
      have hne : v4.ownBlock ≠ some w.heap.size := fun e => by have := (hown4.lt _ e).1; omega
      obtain ⟨av, cv, rfl, _, _⟩ := hown4.ints
      have Hown4 := Lib.hid hown4; clear hown4
      have Hne := Lib.hid hne; clear hne
      have f0 := Hs4.out.frozen 0
      have f1 := Hs4.out.frozen 1
      have k0 := Hs4.out.cell 0 rfl
      have k1 := Hs4.out.cell 1 rfl
      have sF := (Hs4.out.set 0 (.int .i64 x)).set 1 (.slice av (shardV D need x).length cv)
      have e0 := sF.cell 0 (v := .int .i64 x) rfl
      have e1 := sF.cell 1 (v := .slice av (shardV D need x).length cv) rfl
      clear sF
      go_wp2
      refine bodyPost_ret (v := .tuple #[.agg #[.int .i64 x, .slice av (shardV D need x).length cv], .bool true]) (by simp [results, Try.f6, go_sem, e0, e1]) rfl ?_
      rw [Hf.out.1, Hf.out.2]
      exact ⟨_, rfl, ((Hown4.out.mono (by omega)).set_other Hne.out 0 _).set_other Hne.out 1 _, (Hb4.out.setCell (p := ⟨w.heap.size, 0, none⟩) (Nat.le_refl _) _).setCell (p := ⟨w.heap.size, 1, none⟩) (Nat.le_refl _) _⟩
    · rw [decide_eq_false hX] at hnm
      have Hnm := Lib.hid hnm; clear hnm
      have hrb : repB size need L x = false := by unfold repB; rw [decide_eq_false hX, Bool.and_false]
      have Hf := Lib.hid (And.intro hrb (rep_no hrb))
      clear hrb hj
      go_enter Try.func6, Try.ntmps6
      go_wp2_with fail
      generalize w.alloc (.cells #[.int .i64 0, .slice none 0 0] 28) = W1 at *
      refine Hj.out.mono ?_
      rintro e w2 ⟨u, rfl, hown, hb2⟩
      have hs2 : Str w2 w.heap.size 28 _ := (hb2.block _ Hs0.out.lt).trans Hs0.out
      have Hs2 := Lib.hid hs2; clear hs2
      have Hb2 := Lib.hid (below_step Hb0.out Hb0.out.size hb2)
      clear hown hb2
      go_wp2_with fail
      refine (Hnm.out _).mono ?_
      rintro e w' ⟨rfl, rfl⟩
      have f0 := Hs2.out.frozen 0
      have f1 := Hs2.out.frozen 1
      have k0 := Hs2.out.cell 0 rfl
      have k1 := Hs2.out.cell 1 rfl
      have sF := (Hs2.out.set 0 (.int .i64 0)).set 1 (.slice none 0 0)
      have e0 := sF.cell 0 (v := .int .i64 0) rfl
      have e1 := sF.cell 1 (v := .slice none 0 0) rfl
      clear sF
      go_wp2
      refine bodyPost_ret (v := .tuple #[.agg #[.int .i64 0, .slice none 0 0], .bool false]) (by simp [results, Try.f6, go_sem, e0, e1]) rfl ?_
      rw [Hf.out.1, Hf.out.2]
      exact ⟨_, rfl, Own.nil _ _ _, (Hb2.out.setCell (p := ⟨w.heap.size, 0, none⟩) (Nat.le_refl _) _).setCell (p := ⟨w.heap.size, 1, none⟩) (Nat.le_refl _) _⟩

end Go.Proofs.Ytnaeeemgehgdfab

/- The draws of committees and of members: what is drawn is a short list of small numbers in new memory; each by a walk of its text; condition: at most 2^40 picks. -/
namespace Go.Proofs.Ytnaeeemgehgdfab
open Go.RowKit

theorem TI' : IntT Try.prog 26 3 := ⟨Try.underlying26, by kernel_rfl⟩

def sizes9 : List Int := [4, 4, 4, 1, 2, 3, 5, 6, 7]
theorem sizes9_at (k : Nat) (hk : k < 9) : ∃ m : Nat, (#[Value.int .i64 4, .int .i64 4, .int .i64 4, .int .i64 1, .int .i64 2, .int .i64 3, .int .i64 5, .int .i64 6, .int .i64 7] : Array Value)[k]? = some (.int .i64 m) ∧ 1 ≤ m ∧ m ≤ 7 := by
  match k, hk with
  | 0, _ => exact ⟨4, rfl, by omega, by omega⟩
  | 1, _ => exact ⟨4, rfl, by omega, by omega⟩
  | 2, _ => exact ⟨4, rfl, by omega, by omega⟩
  | 3, _ => exact ⟨1, rfl, by omega, by omega⟩
  | 4, _ => exact ⟨2, rfl, by omega, by omega⟩
  | 5, _ => exact ⟨3, rfl, by omega, by omega⟩
  | 6, _ => exact ⟨5, rfl, by omega, by omega⟩
  | 7, _ => exact ⟨6, rfl, by omega, by omega⟩
  | 8, _ => exact ⟨7, rfl, by omega, by omega⟩

/-- Numbers between -1 and 10. -/
def Small (xs : List Int) : Prop := ∀ x ∈ xs, -1 ≤ x ∧ x ≤ 10

theorem small_push {xs : List Int} (h : Small xs) {z : Int} (h1 : -1 ≤ z) (h2 : z ≤ 10) : Small (xs ++ [z]) := by
  intro x hx
  rcases List.mem_append.1 hx with hx | hx
  · exact h x hx
  · simp at hx; subst hx; exact ⟨h1, h2⟩
theorem small_app {xs zs : List Int} (h : Small xs) (k : Small zs) : Small (xs ++ zs) := fun x hx => by
  rcases List.mem_append.1 hx with hx | hx
  · exact h x hx
  · exact k x hx
theorem small_set {xs : List Int} (h : Small xs) (j : Nat) {z : Int} (h1 : -1 ≤ z) (h2 : z ≤ 10) : Small (xs.set j z) := fun x hx => by
  rcases List.mem_or_eq_of_mem_set hx with hx | rfl
  · exact h x hx
  · exact ⟨h1, h2⟩
theorem lit4_at (k : Nat) (hk : k < 4) : ∃ z : Int, (#[Value.int .i64 0, .int .i64 9, .int .i64 10, .int .i64 (-1)] : Array Value)[k]? = some (.int .i64 z) ∧ -1 ≤ z ∧ z ≤ 10 := by
  match k, hk with
  | 0, _ => exact ⟨0, rfl, by omega, by omega⟩
  | 1, _ => exact ⟨9, rfl, by omega, by omega⟩
  | 2, _ => exact ⟨10, rfl, by omega, by omega⟩
  | 3, _ => exact ⟨-1, rfl, by omega, by omega⟩
theorem grown_row {w a b : World} {R : Nat} {row : Option Nat} (h : w.grownBy a (some R)) (k : a.grownBy b row) (hr : ∀ g, row = some g → w.heap.size ≤ g) : w.grownBy b (some R) :=
  ⟨k.os.trans h.os, k.tape.trans h.tape, k.output.trans h.output, Nat.le_trans h.size k.size, fun i hi hne => (k.block i (Nat.lt_of_lt_of_le hi h.size) (fun e => by have := hr i e.symm; omega)).trans (h.block i hi hne)⟩
theorem prod_bd {a b : Int} (h1 : 0 ≤ a) (h2 : a ≤ 3) (h3 : 0 ≤ b) (h4 : b ≤ 2) : 0 ≤ a * b ∧ a * b ≤ 6 :=
  ⟨Int.mul_nonneg h1 h3, Int.le_trans (Int.mul_le_mul h2 h4 h3 (by omega)) (by omega)⟩

end Go.Proofs.Ytnaeeemgehgdfab
