/- The draws of committees and of members: what is drawn is a short list of small numbers in new memory; each by a walk of its text; condition: at most 2^40 picks. -/
import Derived.Test.YtkndndcjchlpdabRows
import Derived.Test.YtkndndcjchlpdabBase
import Derived.Test.YtkndndcjchlpdabRd
namespace Go.Proofs.Ytkndndcjchlpdab
open Go.RowKit

theorem TI' : IntT Try.prog 30 3 := ⟨Try.underlying30, by kernel_rfl⟩

def sizes9 : List Int := [4, 4, 4, 1, 2, 3, 5, 6, 7]
theorem sizes9_at (k : Nat) (hk : k < 9) : ∃ m : Nat, (#[Value.int .i64 4, .int .i64 4, .int .i64 4, .int .i64 1, .int .i64 2, .int .i64 3, .int .i64 5, .int .i64 6, .int .i64 7] : Array Value)[k]? = some (.int .i64 m) ∧ 1 ≤ m ∧ m ≤ 7 := by
  match k, hk with
  | 0, _ => exact ⟨4, rfl, by omega, by omega⟩
  | 1, _ => exact ⟨4, rfl, by omega, by omega⟩
  | 2, _ => exact ⟨4, rfl, by omega, by omega⟩
  | 3, _ => exact ⟨1, rfl, by omega, by omega⟩
  | 4, _ => exact ⟨2, rfl, by omega, by omega⟩
  | 5, _ => exact ⟨3, rfl, by omega, by omega⟩
  | 6, _ => exact ⟨5, rfl, by omega, by omega⟩
  | 7, _ => exact ⟨6, rfl, by omega, by omega⟩
  | 8, _ => exact ⟨7, rfl, by omega, by omega⟩

/-- Numbers between -1 and 10. -/
def Small (xs : List Int) : Prop := ∀ x ∈ xs, -1 ≤ x ∧ x ≤ 10

theorem small_push {xs : List Int} (h : Small xs) {z : Int} (h1 : -1 ≤ z) (h2 : z ≤ 10) : Small (xs ++ [z]) := by
  intro x hx
  rcases List.mem_append.1 hx with hx | hx
  · exact h x hx
  · simp at hx; subst hx; exact ⟨h1, h2⟩
theorem small_app {xs zs : List Int} (h : Small xs) (k : Small zs) : Small (xs ++ zs) := fun x hx => by
  rcases List.mem_append.1 hx with hx | hx
  · exact h x hx
  · exact k x hx
theorem small_set {xs : List Int} (h : Small xs) (j : Nat) {z : Int} (h1 : -1 ≤ z) (h2 : z ≤ 10) : Small (xs.set j z) := fun x hx => by
  rcases List.mem_or_eq_of_mem_set hx with hx | rfl
  · exact h x hx
  · exact ⟨h1, h2⟩
theorem lit4_at (k : Nat) (hk : k < 4) : ∃ z : Int, (#[Value.int .i64 0, .int .i64 9, .int .i64 10, .int .i64 (-1)] : Array Value)[k]? = some (.int .i64 z) ∧ -1 ≤ z ∧ z ≤ 10 := by
  match k, hk with
  | 0, _ => exact ⟨0, rfl, by omega, by omega⟩
  | 1, _ => exact ⟨9, rfl, by omega, by omega⟩
  | 2, _ => exact ⟨10, rfl, by omega, by omega⟩
  | 3, _ => exact ⟨-1, rfl, by omega, by omega⟩
theorem grown_row {w a b : World} {R : Nat} {row : Option Nat} (h : w.grownBy a (some R)) (k : a.grownBy b row) (hr : ∀ g, row = some g → w.heap.size ≤ g) : w.grownBy b (some R) :=
  ⟨k.os.trans h.os, k.tape.trans h.tape, k.output.trans h.output, Nat.le_trans h.size k.size, fun i hi hne => (k.block i (Nat.lt_of_lt_of_le hi h.size) (fun e => by have := hr i e.symm; omega)).trans (h.block i hi hne)⟩
theorem prod_bd {a b : Int} (h1 : 0 ≤ a) (h2 : a ≤ 3) (h3 : 0 ≤ b) (h4 : b ≤ 2) : 0 ≤ a * b ∧ a * b ≤ 6 :=
  ⟨Int.mul_nonneg h1 h3, Int.le_trans (Int.mul_le_mul h2 h4 h3 (by omega)) (by omega)⟩

theorem drawCommittee (R p : Nat) (w : World) (hp : p ≤ 1000000) (hr : Rdr w R p) (hR : R < w.heap.size) :
    Calls Try.prog 39 #[.pointer (some ⟨R, 0, none⟩)] w fun e w' => ∃ v xs p', e = .returned v ∧ Own 3 w' w.heap.size v xs ∧ xs.length ≤ 11 ∧ Small xs ∧ Rdr w' R p' ∧ p' ≤ p + 20 ∧ w.grownBy w' (some R) := by
  have hr1 := (hr.alloc (.cells #[] 3)).alloc (.cells #[.int .i64 4, .int .i64 4, .int .i64 4, .int .i64 1, .int .i64 2, .int .i64 3, .int .i64 5, .int .i64 6, .int .i64 7] 3)
  have ho1 := (own_empty 3 w (Nat.le_refl _)).alloc (.cells #[.int .i64 4, .int .i64 4, .int .i64 4, .int .i64 1, .int .i64 2, .int .i64 3, .int .i64 5, .int .i64 6, .int .i64 7] 3)
  have Hr1 := Lib.hid hr1; clear hr1
  have Ho1 := Lib.hid ho1; clear ho1
  go_enter Try.func39, Try.ntmps39
  go_wp2_with fail
  refine (pick_any R 9 p _ (by omega) Hr1.out (by omega)).mono ?_
  rintro e w2 ⟨k, rfl, hk0, hk1, hr2, hg2⟩
  obtain ⟨k, rfl⟩ := Int.eq_ofNat_of_zero_le hk0
  obtain ⟨m, hm, hm1, hm2⟩ := sizes9_at k (by omega)
  have hcell := lit_cell hg2 (by simp; omega) hm
  simp only [World.size_alloc] at hcell
  have hk9 : k < 9 := by omega
  have Hg2 := Lib.hid (grownBy_trans (grownBy_trans (World.grownBy_alloc w _ (some R)) (World.grownBy_alloc _ _ (some R))) hg2)
  have Ho2 := Lib.hid (Ho1.out.kept hg2 (.inr (by simp [Value.ownBlock]; omega)))
  have Hr2 := Lib.hid hr2; clear hr2
  clear hm hk0 hk1 hg2
  go_wp2_with fail
  go_loopw [3, 5] (fun v i wr => ∃ xs q, xs.length ≤ m ∧ i = .int .i64 (List.length (α := Int) xs) ∧ Own 3 wr w.heap.size v xs ∧ Small xs ∧ Rdr wr R q ∧ q ≤ p + 1 + 2 * xs.length ∧ w.grownBy wr (some R)) (fun _ i _ => m - (intOf i).toNat)
  case atStart => exact ⟨[], p + 1, by simp, rfl, Ho2.out, by intro x hx; simp at hx, Hr2.out, by simp, Hg2.out⟩
  case round =>
    obtain ⟨xs, q, hxm, rfl, hown, hsm, hrd, hq, hgr⟩ := hrel
    by_cases hlt : xs.length < m
    · have Hrd := Lib.hid hrd; clear hrd
      have Hown := Lib.hid hown; clear hown
      go_wp2_with fail
      refine (pick_any R 4 q _ (by omega) Hrd.out (by omega)).mono ?_
      rintro e w3 ⟨x, rfl, hx0, hx1, hr3, hg3⟩
      have Hr3 := Lib.hid hr3; clear hr3
      have Hg3 := Lib.hid (grownBy_trans hgr hg3)
      have Ho3 := Lib.hid (Hown.out.kept hg3 (.inr (fun e => by have := (Hown.out.lt R e).1; omega)))
      clear hg3
      go_wp2_with fail
      refine (pick_any R 3 (q + 1) _ (by omega) Hr3.out (by omega)).mono ?_
      rintro e w4 ⟨y, rfl, hy0, hy1, hr4, hg4⟩
      have Hr4 := Lib.hid hr4; clear hr4
      have Hg4 := Lib.hid (grownBy_trans Hg3.out hg4)
      have Ho4 := Lib.hid (Ho3.out.kept hg4 (.inr (fun e => by have := (Ho3.out.lt R e).1; omega)))
      clear hg4
      obtain ⟨hxy0, hxy1⟩ := prod_bd hx0 (show x ≤ 3 by omega) hy0 (show y ≤ 2 by omega)
      have hB := Hg4.out.size
      go_wp2_with (at_builtin; refine wpList_push TI' rfl (.tmp 17) (.tmp 25) rfl w.heap.size _ xs _ rfl Ho4.out (by omega) rfl hB ?_; intro v' w5 hown5 hg5)
      have Hr5 := Lib.hid (Hr4.out.kept hg5 (fun g e => by have := (Ho4.out.lt g e).1; omega))
      have Hg5 := Lib.hid (grown_row Hg4.out hg5 (fun g e => (Ho4.out.lt g e).1))
      clear hg5
      go_wp2
      go_roundw
      case rel => exact ⟨_, q + 2, by simp; omega, by simp, hown5, small_push hsm (by omega) (by omega), Hr5.out, by simp; omega, Hg5.out⟩
      case measure => simp [intOf]; omega
    · have Hrd := Lib.hid hrd; clear hrd
      have hxm' : xs.length = m := by omega
      obtain ⟨g, cap, rfl, hgB, hgs, hcap, hcells, hfz⟩ := hown.row (by omega)
      have Hown := Lib.hid hown; clear hown
      have Hcells := Lib.hid hcells; clear hcells
      have Hfz := Lib.hid hfz; clear hfz
      have Hm := Lib.hid hxm'; clear hxm'
      go_wp2_with fail
      refine (pick_any R 24 q _ (by omega) Hrd.out (by omega)).mono ?_
      rintro e w3 ⟨x, rfl, hx0, hx1, hr3, hg3⟩
      have Hr3 := Lib.hid hr3; clear hr3
      have Hg3 := Lib.hid (grownBy_trans hgr hg3)
      have Ho3 := Lib.hid (Hown.out.kept hg3 (.inr (by simp [Value.ownBlock]; omega)))
      have hB := Hg3.out.size
      clear hg3 Hcells Hfz
      by_cases h0 : x = 0
      · subst h0
        go_wp2_with (at_builtin; refine wpList_pushes TI' rfl (.tmp 31) (.tmp 32) rfl w.heap.size _ xs [1, 1, 1, 1] 4 _ rfl rfl rfl Ho3.out (by simp; omega) rfl hB ?_; intro v' w5 hown5 hg5)
        go_ret
        exact ⟨_, _, _, rfl, hown5, by simp; omega, small_app hsm (by intro z hz; simp at hz; omega),
          Hr3.out.kept hg5 (fun g' e => by have := (Ho3.out.lt g' e).1; omega), by omega, grown_row Hg3.out hg5 (fun g' e => (Ho3.out.lt g' e).1)⟩
      have h0' : (x == 0) = false := by rw [beq_eq_false_iff_ne]; exact h0
      by_cases h1 : x = 1
      · subst h1
        have Hxl := Lib.hid (show (xs.length : Int) = m by omega)
        go_wp2_with fail
        refine (pick_any R m (q + 1) _ (by omega) Hr3.out (by omega)).mono ?_
        rintro e w4 ⟨y, rfl, hy0, hy1, hr4, hg4⟩
        obtain ⟨y, rfl⟩ := Int.eq_ofNat_of_zero_le hy0
        have Hr4 := Lib.hid (hr4.alloc (.cells #[.int .i64 0, .int .i64 9, .int .i64 10, .int .i64 (-1)] 3)); clear hr4
        have Hg4 := Lib.hid ((grownBy_trans Hg3.out hg4))
        have Ho4 := Lib.hid (Ho3.out.kept hg4 (.inr (by simp [Value.ownBlock]; omega)))
        have hs4 := Hg4.out.size
        clear hg4
        go_wp2_with fail
        refine (pick_any R 4 (q + 1 + 1) _ (by omega) Hr4.out (by omega)).mono ?_
        rintro e w5 ⟨u, rfl, hu0, hu1, hr5, hg5⟩
        obtain ⟨u, rfl⟩ := Int.eq_ofNat_of_zero_le hu0
        obtain ⟨z, hz, hz1, hz2⟩ := lit4_at u (by omega)
        have hcell := lit_cell hg5 (by simp; omega) hz
        have Ho5 := Lib.hid ((Ho4.out.alloc _).kept hg5 (.inr (by simp [Value.ownBlock]; omega)))
        have Hg5 := Lib.hid (grownBy_trans (grownBy_trans Hg4.out (World.grownBy_alloc _ _ _)) hg5)
        have Hr5 := Lib.hid hr5; clear hr5
        have hu4 : u < 4 := by omega
        have hyx : y < xs.length := by omega
        have hs5 := Hg5.out.size
        obtain ⟨g', cap', hv', hgB', hgs', hcap', hcells', hfz'⟩ := Ho5.out.row (by omega)
        simp only [Value.slice.injEq, Option.some.injEq, Addr.mk.injEq, and_true, true_and] at hv'
        obtain ⟨rfl, rfl⟩ := hv'
        have hold := hcells' y hyx
        have hfr := hfz' y
        clear hg5 hz hu0 hu1 hy0 hy1 hcells' hfz' hgs'
        go_wp2
        go_ret
        have hst := Ho5.out.store rfl y z
        exact ⟨_, _, _, rfl, hst.1, by simp; omega, small_set hsm y hz1 hz2, Hr5.out.kept hst.2 (fun g' e => by simp at e; omega), by omega, grown_row Hg5.out hst.2 (fun g' e => by simp at e; omega)⟩
      have h1' : (x == 1) = false := by rw [beq_eq_false_iff_ne]; exact h1
      by_cases h2 : x = 2
      · subst h2
        go_wp2
        go_ret
        exact ⟨_, _, _, rfl, Ho3.out.front 0 (by omega), by simp, by intro z hz; simp at hz, Hr3.out, by omega, Hg3.out⟩
      have h2' : (x == 2) = false := by rw [beq_eq_false_iff_ne]; exact h2
      go_wp2
      go_ret
      exact ⟨_, _, _, rfl, Ho3.out, by omega, hsm, Hr3.out, by omega, Hg3.out⟩

