/- The draws of symbols and shards: what is drawn is short and lies in new memory; each by a walk of its text; condition: at most 10^5 picks. -/
import Derived.Test.YtejpoeejhmgphacRows
import Derived.Test.YtejpoeejhmgphacBase
import Derived.Test.YtejpoeejhmgphacApp
import Derived.Test.YtejpoeejhmgphacRd
import Derived.Test.YtejpoeejhmgphacC3
namespace Go.Proofs.Ytejpoeejhmgphac
open Go.RowKit

/-- Numbers between -1 and 251. -/
def Syms (xs : List Int) : Prop := ∀ x ∈ xs, -1 ≤ x ∧ x ≤ 251
theorem syms_app {xs zs : List Int} (h : Syms xs) (k : Syms zs) : Syms (xs ++ zs) := fun x hx => by
  rcases List.mem_append.1 hx with hx | hx
  · exact h x hx
  · exact k x hx
theorem syms_one {z : Int} (h1 : -1 ≤ z) (h2 : z ≤ 251) : Syms [z] := fun x hx => by simp at hx; subst hx; exact ⟨h1, h2⟩
theorem syms_set {xs : List Int} (h : Syms xs) (j : Nat) {z : Int} (h1 : -1 ≤ z) (h2 : z ≤ 251) : Syms (xs.set j z) := fun x hx => by
  rcases List.mem_or_eq_of_mem_set hx with hx | rfl
  · exact h x hx
  · exact ⟨h1, h2⟩
theorem sym3_at (k : Nat) (hk : k < 3) : ∃ z : Int, (#[Value.int .i64 (-1), .int .i64 250, .int .i64 251] : Array Value)[k]? = some (.int .i64 z) ∧ -1 ≤ z ∧ z ≤ 251 := by
  match k, hk with
  | 0, _ => exact ⟨-1, rfl, by omega, by omega⟩
  | 1, _ => exact ⟨250, rfl, by omega, by omega⟩
  | 2, _ => exact ⟨251, rfl, by omega, by omega⟩
theorem grown_row' {w a b : World} {R : Nat} {row : Option Nat} (h : w.grownBy a (some R)) (k : a.grownBy b row) (hr : ∀ g, row = some g → w.heap.size ≤ g) : w.grownBy b (some R) :=
  ⟨k.os.trans h.os, k.tape.trans h.tape, k.output.trans h.output, Nat.le_trans h.size k.size, fun i hi hne => (k.block i (Nat.lt_of_lt_of_le hi h.size) (fun e => by have := hr i e.symm; omega)).trans (h.block i hi hne)⟩
theorem below_of_row' {w w' : World} {R B : Nat} (h : w.grownBy w' (some R)) (hR : B ≤ R) (hB : B ≤ w.heap.size) : Below B w w' :=
  ⟨h.os, h.tape, h.output, h.size, fun k hk => h.block k (by omega) (fun e => by injection e with e; omega)⟩

theorem drawData (R p : Nat) (w : World) (hp : p ≤ 100000) (hr : Rdr w R p) (hR : R < w.heap.size) :
    Calls Try.prog 20 #[.pointer (some ⟨R, 0, none⟩)] w fun e w' => ∃ v xs p', e = .returned v ∧ Own 3 w' w.heap.size v xs ∧ xs.length ≤ 24 ∧ Syms xs ∧ Rdr w' R p' ∧ p' ≤ p + 60 ∧ w.grownBy w' (some R) := by
  have Hr1 := Lib.hid (hr.alloc (.cells #[] 3)); clear hr
  go_enter Try.func20, Try.ntmps20
  go_wp2_with fail
  go_loopw [3, 4] (fun v i wr => ∃ xs q, xs.length ≤ 12 ∧ i = .int .i64 (List.length (α := Int) xs) ∧ Own 3 wr w.heap.size v xs ∧ Syms xs ∧ Rdr wr R q ∧ q ≤ p + 2 * xs.length ∧ w.grownBy wr (some R)) (fun _ i _ => 13 - (intOf i).toNat)
  case atStart => exact ⟨[], p, by simp, rfl, own_empty _ _ (Nat.le_refl _), by intro x hx; simp at hx, Hr1.out, by simp, World.grownBy_alloc _ _ _⟩
  case round =>
    obtain ⟨xs, q, hx12, rfl, hown, hsm, hrd, hq, hgr⟩ := hrel
    have Hrd := Lib.hid hrd; clear hrd
    have Hown := Lib.hid hown; clear hown
    go_wp2_with fail
    refine (pick_any R 12 q _ (by omega) Hrd.out (by omega)).mono ?_
    rintro e w2 ⟨m, rfl, hm0, hm1, hr2, hg2⟩
    have Hr2 := Lib.hid hr2; clear hr2
    have Hg2 := Lib.hid (grownBy_trans hgr hg2)
    have Ho2 := Lib.hid (Hown.out.kept hg2 (.inr (fun e => by have := (Hown.out.lt R e).1; omega)))
    clear hg2
    by_cases hlt : (xs.length : Int) < 1 + m
    · go_wp2_with fail
      refine (pick_any R 251 (q + 1) _ (by omega) Hr2.out (by omega)).mono ?_
      rintro e w3 ⟨x, rfl, hx0, hx1, hr3, hg3⟩
      have Hr3 := Lib.hid hr3; clear hr3
      have Hg3 := Lib.hid (grownBy_trans Hg2.out hg3)
      have Ho3 := Lib.hid (Ho2.out.kept hg3 (.inr (fun e => by have := (Ho2.out.lt R e).1; omega)))
      clear hg3
      have hB := Hg3.out.size
      go_wp2_with (at_builtin; refine wpList_push TI3 rfl (.tmp 13) (.tmp 16) rfl w.heap.size _ xs _ rfl Ho3.out (by omega) rfl hB ?_; intro v' w5 hown5 hg5)
      have Hr5 := Lib.hid (Hr3.out.kept hg5 (fun g e => by have := (Ho3.out.lt g e).1; omega))
      have Hg5 := Lib.hid (grown_row' Hg3.out hg5 (fun g e => (Ho3.out.lt g e).1))
      clear hg5
      go_roundw
      case rel => exact ⟨_, q + 2, by simp; omega, by simp, hown5, syms_app hsm (syms_one (by omega) (by omega)), Hr5.out, by simp; omega, Hg5.out⟩
      case measure => simp [intOf]; omega
    · obtain ⟨g, cap, rfl, hgB, hgs, hcap, hcells, hfz⟩ := Ho2.out.row (by omega)
      clear hcells hfz
      go_wp2_with fail
      refine (pick_any R 20 (q + 1) _ (by omega) Hr2.out (by omega)).mono ?_
      rintro e w3 ⟨x, rfl, hx0, hx1, hr3, hg3⟩
      have Hr3 := Lib.hid hr3; clear hr3
      have Hg3 := Lib.hid (grownBy_trans Hg2.out hg3)
      have Ho3 := Lib.hid (Ho2.out.kept hg3 (.inr (by simp [Value.ownBlock]; omega)))
      have hB := Hg3.out.size
      clear hg3
      by_cases h0 : x = 0
      · subst h0
        go_wp2_with fail
        refine (pick_any R xs.length (q + 2) _ (by omega) Hr3.out (by omega)).mono ?_
        rintro e w4 ⟨y, rfl, hy0, hy1, hr4, hg4⟩
        obtain ⟨y, rfl⟩ := Int.eq_ofNat_of_zero_le hy0
        have Hr4 := Lib.hid hr4; clear hr4
        have Hg4 := Lib.hid (grownBy_trans Hg3.out hg4)
        have Ho4 := Lib.hid (Ho3.out.kept hg4 (.inr (by simp [Value.ownBlock]; omega)))
        clear hg4
        go_wp2_with fail
        refine (pick_any R 3 (q + 3) _ (by omega) (Hr4.out.alloc (.cells #[.int .i64 (-1), .int .i64 250, .int .i64 251] 3)) (by omega)).mono ?_
        rintro e w5 ⟨u, rfl, hu0, hu1, hr5, hg5⟩
        obtain ⟨u, rfl⟩ := Int.eq_ofNat_of_zero_le hu0
        obtain ⟨z, hz, hz1, hz2⟩ := sym3_at u (by omega)
        have hRs4 := Hr4.out.lt
        have hlit := lit_cell hg5 (by simp; omega) hz
        have hg5 := grownBy_trans (World.grownBy_alloc w4 (.cells #[.int .i64 (-1), .int .i64 250, .int .i64 251] 3) _) hg5
        have hu3 : u < 3 := by omega
        have hu3' : (u : Int) < 3 := by omega
        have Hr5 := Lib.hid hr5; clear hr5 hz
        have Hg5 := Lib.hid (grownBy_trans Hg4.out hg5)
        have Ho5 := Lib.hid (Ho4.out.kept hg5 (.inr (by simp [Value.ownBlock]; omega)))
        have hyx : y < xs.length := by omega
        obtain ⟨g', cap', hv', hgB', hgs', hcap', hcells', hfz'⟩ := Ho5.out.row (by omega)
        simp only [Value.slice.injEq, Option.some.injEq, Addr.mk.injEq, and_true, true_and] at hv'
        obtain ⟨rfl, rfl⟩ := hv'
        have hold := hcells' y hyx
        have hfr := hfz' y
        clear hg5 hcells' hfz' hgs' hy0 hy1
        go_wp2
        go_ret
        have hst := Ho5.out.store rfl y z
        exact ⟨_, _, _, rfl, hst.1, by simp; omega, syms_set hsm y hz1 hz2, Hr5.out.kept hst.2 (fun g' e => by simp at e; omega), by omega, grown_row' Hg5.out hst.2 (fun g' e => by simp at e; omega)⟩
      have h0' : (x == 0) = false := by rw [beq_eq_false_iff_ne]; exact h0
      by_cases h1 : x = 1
      · subst h1
        obtain ⟨g', cap', hv', hgB', hgs', hcap', hcells', hfz'⟩ := Ho3.out.row (by omega)
        simp only [Value.slice.injEq, Option.some.injEq, Addr.mk.injEq, and_true, true_and] at hv'
        obtain ⟨rfl, rfl⟩ := hv'
        have Hcl := Lib.hid (show ∀ j (h : j < xs.length), w3.cell? ((⟨g, 0, none⟩ : Addr).add j) = some (.int .i64 xs[j]) from fun j hj => by rw [addr_add]; exact hcells' j hj)
        clear hcells' hfz' hgs'
        go_wp2_with (at_builtin; refine wpList_app TI3 rfl (.tmp 35) (.tmp 36) rfl w.heap.size _ xs xs ⟨g, 0, none⟩ _ _ rfl rfl Ho3.out rfl Hcl.out (by omega) hB ?_; intro v5 w5 hown5 hg5)
        go_ret
        exact ⟨_, _, _, rfl, hown5, by simp; omega, syms_app hsm hsm, Hr3.out.kept hg5 (fun g' e => by have := (Ho3.out.lt g' e).1; omega), by omega, grown_row' Hg3.out hg5 (fun g' e => (Ho3.out.lt g' e).1)⟩
      have h1' : (x == 1) = false := by rw [beq_eq_false_iff_ne]; exact h1
      by_cases h2 : x = 2
      · subst h2
        go_wp2
        go_ret
        exact ⟨_, _, _, rfl, Ho3.out.front 0 (by omega), by simp, by intro z hz; simp at hz, Hr3.out, by omega, Hg3.out⟩
      have h2' : (x == 2) = false := by rw [beq_eq_false_iff_ne]; exact h2
      go_wp2
      go_ret
      exact ⟨_, _, _, rfl, Ho3.out, by omega, hsm, Hr3.out, by omega, Hg3.out⟩

