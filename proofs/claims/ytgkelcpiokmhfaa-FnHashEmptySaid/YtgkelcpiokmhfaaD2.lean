/- The draws of digests, leaves and texts: what is drawn is short and lies in new memory; each by a walk of its text; condition: at most 2^40 picks. -/
import Derived.Test.YtgkelcpiokmhfaaRows
import Derived.Test.YtgkelcpiokmhfaaBase
import Derived.Test.YtgkelcpiokmhfaaApp
import Derived.Test.YtgkelcpiokmhfaaRd
import Derived.Test.YtgkelcpiokmhfaaC2
namespace Go.Proofs.Ytgkelcpiokmhfaa
open Go.RowKit

/-- Numbers between -1 and 991. -/
def Digs (xs : List Int) : Prop := ∀ x ∈ xs, -1 ≤ x ∧ x ≤ 991
theorem digs_app {xs zs : List Int} (h : Digs xs) (k : Digs zs) : Digs (xs ++ zs) := fun x hx => by
  rcases List.mem_append.1 hx with hx | hx
  · exact h x hx
  · exact k x hx
theorem digs_one {z : Int} (h1 : -1 ≤ z) (h2 : z ≤ 991) : Digs [z] := fun x hx => by simp at hx; subst hx; exact ⟨h1, h2⟩
theorem digs_set {xs : List Int} (h : Digs xs) (j : Nat) {z : Int} (h1 : -1 ≤ z) (h2 : z ≤ 991) : Digs (xs.set j z) := fun x hx => by
  rcases List.mem_or_eq_of_mem_set hx with hx | rfl
  · exact h x hx
  · exact ⟨h1, h2⟩
theorem grown_row' {w a b : World} {R : Nat} {row : Option Nat} (h : w.grownBy a (some R)) (k : a.grownBy b row) (hr : ∀ g, row = some g → w.heap.size ≤ g) : w.grownBy b (some R) :=
  ⟨k.os.trans h.os, k.tape.trans h.tape, k.output.trans h.output, Nat.le_trans h.size k.size, fun i hi hne => (k.block i (Nat.lt_of_lt_of_le hi h.size) (fun e => by have := hr i e.symm; omega)).trans (h.block i hi hne)⟩
theorem below_of_row' {w w' : World} {R B : Nat} (h : w.grownBy w' (some R)) (hR : B ≤ R) (hB : B ≤ w.heap.size) : Below B w w' :=
  ⟨h.os, h.tape, h.output, h.size, fun k hk => h.block k (by omega) (fun e => by injection e with e; omega)⟩
theorem dig4_at (k : Nat) (hk : k < 4) : ∃ z : Int, (#[Value.int .i64 (-1), .int .i64 0, .int .i64 990, .int .i64 991] : Array Value)[k]? = some (.int .i64 z) ∧ -1 ≤ z ∧ z ≤ 991 := by
  match k, hk with
  | 0, _ => exact ⟨-1, rfl, by omega, by omega⟩
  | 1, _ => exact ⟨0, rfl, by omega, by omega⟩
  | 2, _ => exact ⟨990, rfl, by omega, by omega⟩
  | 3, _ => exact ⟨991, rfl, by omega, by omega⟩

theorem drawDigest (R p : Nat) (w : World) (hp : p ≤ 1000000) (hr : Rdr w R p) :
    Calls Try.prog 27 #[.pointer (some ⟨R, 0, none⟩)] w fun e w' => ∃ (d : Int) (p' : Nat), e = .returned (.int .i64 d) ∧ -1 ≤ d ∧ d ≤ 991 ∧ Rdr w' R p' ∧ p' ≤ p + 3 ∧ w.grownBy w' (some R) := by
  have Hr := Lib.hid hr; clear hr
  go_enter Try.func27, Try.ntmps27
  go_wp2_with fail
  refine (pick_any R 16 p _ (by omega) Hr.out (by omega)).mono ?_
  rintro e w1 ⟨x, rfl, hx0, hx1, hr1, hg1⟩
  have Hr1 := Lib.hid (hr1.alloc (.cells #[.int .i64 (-1), .int .i64 0, .int .i64 990, .int .i64 991] 3))
  have Hr1' := Lib.hid hr1; clear hr1
  have Hg1 := Lib.hid hg1; clear hg1
  have hRs := Hr1'.out.lt
  by_cases h0 : x = 0
  · subst h0
    go_wp2_with fail
    refine (pick_any R 4 (p + 1) _ (by omega) Hr1.out (by omega)).mono ?_
    rintro e w2 ⟨u, rfl, hu0, hu1, hr2, hg2⟩
    obtain ⟨u, rfl⟩ := Int.eq_ofNat_of_zero_le hu0
    obtain ⟨z, hz, hz1, hz2⟩ := dig4_at u (by omega)
    have hcell := lit_cell hg2 (by simp; omega) hz
    have Hg2 := Lib.hid (grownBy_trans (grownBy_trans Hg1.out (World.grownBy_alloc _ _ _)) hg2)
    have hu4 : u < 4 := by omega
    have Hr2 := Lib.hid hr2
    clear hg2 hz hu0 hu1 hr2
    go_wp2
    go_ret
    exact ⟨z, _, rfl, hz1, hz2, Hr2.out, by omega, Hg2.out⟩
  · have h0' : (x == 0) = false := by rw [beq_eq_false_iff_ne]; exact h0
    go_wp2_with fail
    refine (pick_any R 99 (p + 1) _ (by omega) Hr1'.out (by omega)).mono ?_
    rintro e w2 ⟨u, rfl, hu0, hu1, hr2, hg2⟩
    have Hr2 := Lib.hid hr2
    have Hg2 := Lib.hid (grownBy_trans Hg1.out hg2)
    clear hr2 hg2
    go_wp2_with fail
    refine (pick_any R 10 (p + 2) _ (by omega) Hr2.out (by omega)).mono ?_
    rintro e w3 ⟨y, rfl, hy0, hy1, hr3, hg3⟩
    have Hr3 := Lib.hid hr3
    have Hg3 := Lib.hid (grownBy_trans Hg2.out hg3)
    clear hr3 hg3
    go_wp2
    go_ret
    exact ⟨_, _, rfl, by omega, by omega, Hr3.out, by omega, Hg3.out⟩

theorem spec_DrawHashPair (a : Option Addr) (cap : Nat) (zs : List Int) (w : World) (h : CodeAt w a cap zs) :
    Calls Try.prog 13 #[.slice a zs.length cap] w fun e w' => ∃ x y : Int, e = .returned (.tuple #[.int .i64 x, .int .i64 y]) ∧ -1 ≤ x ∧ x ≤ 991 ∧ -1 ≤ y ∧ y ≤ 991 ∧ Below w.heap.size w w' := by
  go_enter Try.func13, Try.ntmps13
  go_wp2_with fail
  refine (open_any a cap zs _ h).mono ?_
  rintro e w1 ⟨R, rfl, hR1, hR2, hr1, hb1⟩
  have Hr1 := Lib.hid hr1; clear hr1
  go_wp2_with fail
  refine (drawDigest R 0 _ (by omega) Hr1.out).mono ?_
  rintro e w2 ⟨x, p', rfl, hx0, hx1, hr2, hp', hg2⟩
  have Hr2 := Lib.hid hr2; clear hr2
  go_wp2_with fail
  refine (drawDigest R p' _ (by omega) Hr2.out).mono ?_
  rintro e w3 ⟨y, p'', rfl, hy0, hy1, hr3, hp'', hg3⟩
  have hsz := hb1.size
  have Hg := Lib.hid (hb1.trans (below_of_row' (grownBy_trans hg2 hg3) hR1 hsz))
  clear hr3 hg2 hg3
  go_wp2
  go_ret2
  exact ⟨x, y, rfl, hx0, hx1, hy0, hy1, Hg.out⟩

theorem drawLeaves (R p : Nat) (w : World) (hp : p ≤ 100000) (hr : Rdr w R p) (hR : R < w.heap.size) :
    Calls Try.prog 31 #[.pointer (some ⟨R, 0, none⟩)] w fun e w' => ∃ v xs p', e = .returned v ∧ Own 3 w' w.heap.size v xs ∧ xs.length ≤ 32 ∧ Digs xs ∧ Rdr w' R p' ∧ p' ≤ p + 60 ∧ w.grownBy w' (some R) := by
  have Hr1 := Lib.hid (hr.alloc (.cells #[] 3)); clear hr
  go_enter Try.func31, Try.ntmps31
  go_wp2_with fail
  go_loopw [3, 4] (fun v i wr => ∃ xs q, xs.length ≤ 16 ∧ i = .int .i64 (List.length (α := Int) xs) ∧ Own 3 wr w.heap.size v xs ∧ Digs xs ∧ Rdr wr R q ∧ q ≤ p + 3 * xs.length ∧ w.grownBy wr (some R)) (fun _ i _ => 17 - (intOf i).toNat)
  case atStart => exact ⟨[], p, by simp, rfl, own_empty _ _ (Nat.le_refl _), by intro x hx; simp at hx, Hr1.out, by simp, World.grownBy_alloc _ _ _⟩
  case round =>
    obtain ⟨xs, q, hx16, rfl, hown, hsm, hrd, hq, hgr⟩ := hrel
    have Hrd := Lib.hid hrd; clear hrd
    have Hown := Lib.hid hown; clear hown
    go_wp2_with fail
    refine (pick_any R 16 q _ (by omega) Hrd.out (by omega)).mono ?_
    rintro e w2 ⟨m, rfl, hm0, hm1, hr2, hg2⟩
    have Hr2 := Lib.hid hr2; clear hr2
    have Hg2 := Lib.hid (grownBy_trans hgr hg2)
    have Ho2 := Lib.hid (Hown.out.kept hg2 (.inr (fun e => by have := (Hown.out.lt R e).1; omega)))
    clear hg2
    by_cases hlt : (xs.length : Int) < 1 + m
    · go_wp2_with fail
      refine (pick_any R 99 (q + 1) _ (by omega) Hr2.out (by omega)).mono ?_
      rintro e w3 ⟨x, rfl, hx0, hx1, hr3, hg3⟩
      have Hr3 := Lib.hid hr3; clear hr3
      have Hg3 := Lib.hid (grownBy_trans Hg2.out hg3)
      have Ho3 := Lib.hid (Ho2.out.kept hg3 (.inr (fun e => by have := (Ho2.out.lt R e).1; omega)))
      clear hg3
      go_wp2_with fail
      refine (pick_any R 10 (q + 2) _ (by omega) Hr3.out (by omega)).mono ?_
      rintro e w4 ⟨y, rfl, hy0, hy1, hr4, hg4⟩
      have Hr4 := Lib.hid hr4; clear hr4
      have Hg4 := Lib.hid (grownBy_trans Hg3.out hg4)
      have Ho4 := Lib.hid (Ho3.out.kept hg4 (.inr (fun e => by have := (Ho3.out.lt R e).1; omega)))
      clear hg4
      have hB := Hg4.out.size
      go_wp2_with (at_builtin; refine wpList_push TI2 rfl (.tmp 13) (.tmp 20) rfl w.heap.size _ xs _ rfl Ho4.out (by omega) rfl hB ?_; intro v' w5 hown5 hg5)
      have Hr5 := Lib.hid (Hr4.out.kept hg5 (fun g e => by have := (Ho4.out.lt g e).1; omega))
      have Hg5 := Lib.hid (grown_row' Hg4.out hg5 (fun g e => (Ho4.out.lt g e).1))
      clear hg5
      go_roundw
      case rel => exact ⟨_, q + 3, by simp; omega, by simp, hown5, digs_app hsm (digs_one (by omega) (by omega)), Hr5.out, by simp; omega, Hg5.out⟩
      case measure => simp [intOf]; omega
    · obtain ⟨g, cap, rfl, hgB, hgs, hcap, hcells, hfz⟩ := Ho2.out.row (by omega)
      clear hcells hfz
      go_wp2_with fail
      refine (pick_any R 20 (q + 1) _ (by omega) Hr2.out (by omega)).mono ?_
      rintro e w3 ⟨x, rfl, hx0, hx1, hr3, hg3⟩
      have Hr3 := Lib.hid hr3; clear hr3
      have Hg3 := Lib.hid (grownBy_trans Hg2.out hg3)
      have Ho3 := Lib.hid (Ho2.out.kept hg3 (.inr (by simp [Value.ownBlock]; omega)))
      have hB := Hg3.out.size
      clear hg3
      by_cases h0 : x = 0
      · subst h0
        go_wp2_with fail
        refine (pick_any R xs.length (q + 2) _ (by omega) Hr3.out (by omega)).mono ?_
        rintro e w4 ⟨y, rfl, hy0, hy1, hr4, hg4⟩
        obtain ⟨y, rfl⟩ := Int.eq_ofNat_of_zero_le hy0
        have Hr4 := Lib.hid hr4; clear hr4
        have Hg4 := Lib.hid (grownBy_trans Hg3.out hg4)
        have Ho4 := Lib.hid (Ho3.out.kept hg4 (.inr (by simp [Value.ownBlock]; omega)))
        clear hg4
        go_wp2_with fail
        refine (drawDigest R (q + 3) _ (by omega) Hr4.out).mono ?_
        rintro e w5 ⟨z, p5, rfl, hz1, hz2, hr5, hp5, hg5⟩
        have Hr5 := Lib.hid hr5; clear hr5
        have Hg5 := Lib.hid (grownBy_trans Hg4.out hg5)
        have Ho5 := Lib.hid (Ho4.out.kept hg5 (.inr (by simp [Value.ownBlock]; omega)))
        have hyx : y < xs.length := by omega
        obtain ⟨g', cap', hv', hgB', hgs', hcap', hcells', hfz'⟩ := Ho5.out.row (by omega)
        simp only [Value.slice.injEq, Option.some.injEq, Addr.mk.injEq, and_true, true_and] at hv'
        obtain ⟨rfl, rfl⟩ := hv'
        have hold := hcells' y hyx
        have hfr := hfz' y
        clear hg5 hcells' hfz' hgs' hy0 hy1
        go_wp2
        go_ret
        have hst := Ho5.out.store rfl y z
        exact ⟨_, _, _, rfl, hst.1, by simp; omega, digs_set hsm y hz1 hz2, Hr5.out.kept hst.2 (fun g' e => by simp at e; omega), by omega, grown_row' Hg5.out hst.2 (fun g' e => by simp at e; omega)⟩
      have h0' : (x == 0) = false := by rw [beq_eq_false_iff_ne]; exact h0
      by_cases h1 : x = 1
      · subst h1
        obtain ⟨g', cap', hv', hgB', hgs', hcap', hcells', hfz'⟩ := Ho3.out.row (by omega)
        simp only [Value.slice.injEq, Option.some.injEq, Addr.mk.injEq, and_true, true_and] at hv'
        obtain ⟨rfl, rfl⟩ := hv'
        have Hcl := Lib.hid (show ∀ j (h : j < xs.length), w3.cell? ((⟨g, 0, none⟩ : Addr).add j) = some (.int .i64 xs[j]) from fun j hj => by rw [addr_add]; exact hcells' j hj)
        clear hcells' hfz' hgs'
        go_wp2_with (at_builtin; refine wpList_app TI2 rfl (.tmp 36) (.tmp 37) rfl w.heap.size _ xs xs ⟨g, 0, none⟩ _ _ rfl rfl Ho3.out rfl Hcl.out (by omega) hB ?_; intro v5 w5 hown5 hg5)
        go_ret
        exact ⟨_, _, _, rfl, hown5, by simp; omega, digs_app hsm hsm, Hr3.out.kept hg5 (fun g' e => by have := (Ho3.out.lt g' e).1; omega), by omega, grown_row' Hg3.out hg5 (fun g' e => (Ho3.out.lt g' e).1)⟩
      have h1' : (x == 1) = false := by rw [beq_eq_false_iff_ne]; exact h1
      by_cases h2 : x = 2
      · subst h2
        go_wp2
        go_ret
        exact ⟨_, _, _, rfl, Ho3.out.front 0 (by omega), by simp, by intro z hz; simp at hz, Hr3.out, by omega, Hg3.out⟩
      have h2' : (x == 2) = false := by rw [beq_eq_false_iff_ne]; exact h2
      go_wp2
      go_ret
      exact ⟨_, _, _, rfl, Ho3.out, by omega, hsm, Hr3.out, by omega, Hg3.out⟩

theorem spec_DrawMerkleRoot (a : Option Addr) (cap : Nat) (zs : List Int) (w : World) (h : CodeAt w a cap zs) :
    Calls Try.prog 23 #[.slice a zs.length cap] w fun e w' => ∃ v xs, e = .returned v ∧ Own 3 w' w.heap.size v xs ∧ xs.length ≤ 32 ∧ Digs xs ∧ Below w.heap.size w w' := by
  go_enter Try.func23, Try.ntmps23
  go_wp2_with fail
  refine (open_any a cap zs _ h).mono ?_
  rintro e w1 ⟨R, rfl, hR1, hR2, hr1, hb1⟩
  have Hr1 := Lib.hid hr1; clear hr1
  go_wp2_with fail
  refine (drawLeaves R 0 _ (by omega) Hr1.out hR2).mono ?_
  rintro e w2 ⟨v, xs, p', rfl, hown, hl, hs, hr2, hp', hg2⟩
  have hsz := hb1.size
  have Hown := Lib.hid (hown.mono (B' := w.heap.size) hsz); clear hown
  clear hr2 hp'
  go_wp2
  go_ret
  exact ⟨_, xs, rfl, Hown.out, hl, hs, hb1.trans (below_of_row' hg2 hR1 hsz)⟩

theorem prod13 {x y : Int} (h1 : 0 ≤ x) (h2 : x ≤ 13) (h3 : 0 ≤ y) (h4 : y ≤ 4) : -2 ≤ x / 13 * (y - 2) ∧ x / 13 * (y - 2) ≤ 2 := by
  have : x / 13 = 0 ∨ x / 13 = 1 := by omega
  rcases this with e | e <;> rw [e] <;> omega

theorem spec_DrawMerkleProof (a : Option Addr) (cap : Nat) (zs : List Int) (w : World) (h : CodeAt w a cap zs) :
    Calls Try.prog 16 #[.slice a zs.length cap] w fun e w' => ∃ v xs i, e = .returned (.tuple #[v, .int .i64 i]) ∧ Own 3 w' w.heap.size v xs ∧ xs.length ≤ 32 ∧ Digs xs ∧ -2 ≤ i ∧ i ≤ 40 ∧ Below w.heap.size w w' := by
  go_enter Try.func16, Try.ntmps16
  go_wp2_with fail
  refine (open_any a cap zs _ h).mono ?_
  rintro e w1 ⟨R, rfl, hR1, hR2, hr1, hb1⟩
  have Hr1 := Lib.hid hr1; clear hr1
  go_wp2_with fail
  refine (drawLeaves R 0 _ (by omega) Hr1.out hR2).mono ?_
  rintro e w2 ⟨v, xs, p', rfl, hown, hl, hs, hr2, hp', hg2⟩
  have hsz := hb1.size
  have hsz2 := hg2.size
  obtain ⟨ax, cx, rfl, hix, _⟩ := hown.ints
  clear hix
  have Hown := Lib.hid (hown.mono (B' := w.heap.size) hsz)
  have Hne := Lib.hid (show (Value.slice ax xs.length cx).ownBlock ≠ some R from fun e => by have := (hown.lt R e).1; omega)
  clear hown
  have Hr2 := Lib.hid hr2; clear hr2
  have Hg2 := Lib.hid hg2; clear hg2
  by_cases hx1 : 1 ≤ (xs.length : Int)
  all_goals
    go_wp2_with fail
    refine (pick_any R _ p' _ (by omega) Hr2.out (by omega)).mono ?_
    rintro e w3 ⟨k, rfl, hk0, hk1, hr3, hg3⟩
    have hk2 : k ≤ 32 := by omega
    have Hr3 := Lib.hid hr3; clear hr3 hk1
    have Ho3 := Lib.hid (Hown.out.kept hg3 (.inr Hne.out))
    have Hg3 := Lib.hid (grownBy_trans Hg2.out hg3)
    clear hg3
    go_wp2_with fail
    refine (pick_any R 14 (p' + 1) _ (by omega) Hr3.out (by omega)).mono ?_
    rintro e w4 ⟨x, rfl, hx0, hx1, hr4, hg4⟩
    have Hr4 := Lib.hid hr4; clear hr4
    have Ho4 := Lib.hid (Ho3.out.kept hg4 (.inr Hne.out))
    have Hg4 := Lib.hid (grownBy_trans Hg3.out hg4)
    clear hg4
    go_wp2_with fail
    refine (pick_any R 5 (p' + 2) _ (by omega) Hr4.out (by omega)).mono ?_
    rintro e w5 ⟨y, rfl, hy0, hy1, hr5, hg5⟩
    have Ho5 := Lib.hid (Ho4.out.kept hg5 (.inr Hne.out))
    have Hg5 := Lib.hid (grownBy_trans Hg4.out hg5)
    clear hr5 hg5
    obtain ⟨hp1, hp2⟩ := prod13 hx0 (show x ≤ 13 by omega) hy0 (show y ≤ 4 by omega)
    go_wp2
    go_ret2
    exact ⟨_, xs, _, rfl, Ho5.out, hl, hs, by omega, by omega, hb1.trans (below_of_row' Hg5.out hR1 hsz)⟩

