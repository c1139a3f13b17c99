/- The draws of digests, leaves and texts: what is drawn is short and lies in new memory; each by a walk of its text; condition: at most 2^40 picks. -/
import Derived.Test.YtgkelcpiokmhfabRows
import Derived.Test.YtgkelcpiokmhfabBase
import Derived.Test.YtgkelcpiokmhfabApp
import Derived.Test.YtgkelcpiokmhfabRd
import Derived.Test.YtgkelcpiokmhfabC2
namespace Go.Proofs.Ytgkelcpiokmhfab
open Go.RowKit

/-- Numbers between -1 and 991. -/
def Digs (xs : List Int) : Prop := ∀ x ∈ xs, -1 ≤ x ∧ x ≤ 991
theorem digs_app {xs zs : List Int} (h : Digs xs) (k : Digs zs) : Digs (xs ++ zs) := fun x hx => by
  rcases List.mem_append.1 hx with hx | hx
  · exact h x hx
  · exact k x hx
theorem digs_one {z : Int} (h1 : -1 ≤ z) (h2 : z ≤ 991) : Digs [z] := fun x hx => by simp at hx; subst hx; exact ⟨h1, h2⟩
theorem digs_set {xs : List Int} (h : Digs xs) (j : Nat) {z : Int} (h1 : -1 ≤ z) (h2 : z ≤ 991) : Digs (xs.set j z) := fun x hx => by
  rcases List.mem_or_eq_of_mem_set hx with hx | rfl
  · exact h x hx
  · exact ⟨h1, h2⟩
theorem grown_row' {w a b : World} {R : Nat} {row : Option Nat} (h : w.grownBy a (some R)) (k : a.grownBy b row) (hr : ∀ g, row = some g → w.heap.size ≤ g) : w.grownBy b (some R) :=
  ⟨k.os.trans h.os, k.tape.trans h.tape, k.output.trans h.output, Nat.le_trans h.size k.size, fun i hi hne => (k.block i (Nat.lt_of_lt_of_le hi h.size) (fun e => by have := hr i e.symm; omega)).trans (h.block i hi hne)⟩
theorem below_of_row' {w w' : World} {R B : Nat} (h : w.grownBy w' (some R)) (hR : B ≤ R) (hB : B ≤ w.heap.size) : Below B w w' :=
  ⟨h.os, h.tape, h.output, h.size, fun k hk => h.block k (by omega) (fun e => by injection e with e; omega)⟩
theorem dig4_at (k : Nat) (hk : k < 4) : ∃ z : Int, (#[Value.int .i64 (-1), .int .i64 0, .int .i64 990, .int .i64 991] : Array Value)[k]? = some (.int .i64 z) ∧ -1 ≤ z ∧ z ≤ 991 := by
  match k, hk with
  | 0, _ => exact ⟨-1, rfl, by omega, by omega⟩
  | 1, _ => exact ⟨0, rfl, by omega, by omega⟩
  | 2, _ => exact ⟨990, rfl, by omega, by omega⟩
  | 3, _ => exact ⟨991, rfl, by omega, by omega⟩

theorem drawDigest (R p : Nat) (w : World) (hp : p ≤ 1000000) (hr : Rdr w R p) :
    Calls Try.prog 28 #[.pointer (some ⟨R, 0, none⟩)] w fun e w' => ∃ (d : Int) (p' : Nat), e = .returned (.int .i64 d) ∧ -1 ≤ d ∧ d ≤ 991 ∧ Rdr w' R p' ∧ p' ≤ p + 3 ∧ w.grownBy w' (some R) := by
  have Hr := Lib.hid hr; clear hr
  go_enter Try.func28, Try.ntmps28
  go_wp2_with fail
  refine (pick_any R 16 p _ (by omega) Hr.out (by omega)).mono ?_
  rintro e w1 ⟨x, rfl, hx0, hx1, hr1, hg1⟩
  have Hr1 := Lib.hid (hr1.alloc (.cells #[.int .i64 (-1), .int .i64 0, .int .i64 990, .int .i64 991] 3))
  have Hr1' := Lib.hid hr1; clear hr1
  have Hg1 := Lib.hid hg1; clear hg1
  have hRs := Hr1'.out.lt
  by_cases h0 : x = 0
  · subst h0
    go_wp2_with fail
    refine (pick_any R 4 (p + 1) _ (by omega) Hr1.out (by omega)).mono ?_
    rintro e w2 ⟨u, rfl, hu0, hu1, hr2, hg2⟩
    obtain ⟨u, rfl⟩ := Int.eq_ofNat_of_zero_le hu0
    obtain ⟨z, hz, hz1, hz2⟩ := dig4_at u (by omega)
    have hcell := lit_cell hg2 (by simp; omega) hz
    have Hg2 := Lib.hid (grownBy_trans (grownBy_trans Hg1.out (World.grownBy_alloc _ _ _)) hg2)
    have hu4 : u < 4 := by omega
    have Hr2 := Lib.hid hr2
    clear hg2 hz hu0 hu1 hr2
    go_wp2
    go_ret
    exact ⟨z, _, rfl, hz1, hz2, Hr2.out, by omega, Hg2.out⟩
  · have h0' : (x == 0) = false := by rw [beq_eq_false_iff_ne]; exact h0
    go_wp2_with fail
    refine (pick_any R 99 (p + 1) _ (by omega) Hr1'.out (by omega)).mono ?_
    rintro e w2 ⟨u, rfl, hu0, hu1, hr2, hg2⟩
    have Hr2 := Lib.hid hr2
    have Hg2 := Lib.hid (grownBy_trans Hg1.out hg2)
    clear hr2 hg2
    go_wp2_with fail
    refine (pick_any R 10 (p + 2) _ (by omega) Hr2.out (by omega)).mono ?_
    rintro e w3 ⟨y, rfl, hy0, hy1, hr3, hg3⟩
    have Hr3 := Lib.hid hr3
    have Hg3 := Lib.hid (grownBy_trans Hg2.out hg3)
    clear hr3 hg3
    go_wp2
    go_ret
    exact ⟨_, _, rfl, by omega, by omega, Hr3.out, by omega, Hg3.out⟩

theorem drawLeaves (R p : Nat) (w : World) (hp : p ≤ 100000) (hr : Rdr w R p) (hR : R < w.heap.size) :
    Calls Try.prog 26 #[.pointer (some ⟨R, 0, none⟩)] w fun e w' => ∃ v xs p', e = .returned v ∧ Own 3 w' w.heap.size v xs ∧ xs.length ≤ 32 ∧ Digs xs ∧ Rdr w' R p' ∧ p' ≤ p + 60 ∧ w.grownBy w' (some R) := by
  have Hr1 := Lib.hid (hr.alloc (.cells #[] 3)); clear hr
  go_enter Try.func26, Try.ntmps26
  go_wp2_with fail
  go_loopw [3, 4] (fun v i wr => ∃ xs q, xs.length ≤ 16 ∧ i = .int .i64 (List.length (α := Int) xs) ∧ Own 3 wr w.heap.size v xs ∧ Digs xs ∧ Rdr wr R q ∧ q ≤ p + 3 * xs.length ∧ w.grownBy wr (some R)) (fun _ i _ => 17 - (intOf i).toNat)
  case atStart => exact ⟨[], p, by simp, rfl, own_empty _ _ (Nat.le_refl _), by intro x hx; simp at hx, Hr1.out, by simp, World.grownBy_alloc _ _ _⟩
  case round =>
    obtain ⟨xs, q, hx16, rfl, hown, hsm, hrd, hq, hgr⟩ := hrel
    have Hrd := Lib.hid hrd; clear hrd
    have Hown := Lib.hid hown; clear hown
    go_wp2_with fail
    refine (pick_any R 16 q _ (by omega) Hrd.out (by omega)).mono ?_
    rintro e w2 ⟨m, rfl, hm0, hm1, hr2, hg2⟩
    have Hr2 := Lib.hid hr2; clear hr2
    have Hg2 := Lib.hid (grownBy_trans hgr hg2)
    have Ho2 := Lib.hid (Hown.out.kept hg2 (.inr (fun e => by have := (Hown.out.lt R e).1; omega)))
    clear hg2
    by_cases hlt : (xs.length : Int) < 1 + m
    · go_wp2_with fail
      refine (pick_any R 99 (q + 1) _ (by omega) Hr2.out (by omega)).mono ?_
      rintro e w3 ⟨x, rfl, hx0, hx1, hr3, hg3⟩
      have Hr3 := Lib.hid hr3; clear hr3
      have Hg3 := Lib.hid (grownBy_trans Hg2.out hg3)
      have Ho3 := Lib.hid (Ho2.out.kept hg3 (.inr (fun e => by have := (Ho2.out.lt R e).1; omega)))
      clear hg3
      go_wp2_with fail
      refine (pick_any R 10 (q + 2) _ (by omega) Hr3.out (by omega)).mono ?_
      rintro e w4 ⟨y, rfl, hy0, hy1, hr4, hg4⟩
      have Hr4 := Lib.hid hr4; clear hr4
      have Hg4 := Lib.hid (grownBy_trans Hg3.out hg4)
      have Ho4 := Lib.hid (Ho3.out.kept hg4 (.inr (fun e => by have := (Ho3.out.lt R e).1; omega)))
      clear hg4
      have hB := Hg4.out.size
      go_wp2_with (at_builtin; refine wpList_push TI2 rfl (.tmp 13) (.tmp 20) rfl w.heap.size _ xs _ rfl Ho4.out (by omega) rfl hB ?_; intro v' w5 hown5 hg5)
      have Hr5 := Lib.hid (Hr4.out.kept hg5 (fun g e => by have := (Ho4.out.lt g e).1; omega))
      have Hg5 := Lib.hid (grown_row' Hg4.out hg5 (fun g e => (Ho4.out.lt g e).1))
      clear hg5
      go_roundw
      case rel => exact ⟨_, q + 3, by simp; omega, by simp, hown5, digs_app hsm (digs_one (by omega) (by omega)), Hr5.out, by simp; omega, Hg5.out⟩
      case measure => simp [intOf]; omega
    · obtain ⟨g, cap, rfl, hgB, hgs, hcap, hcells, hfz⟩ := Ho2.out.row (by omega)
      clear hcells hfz
      go_wp2_with fail
      refine (pick_any R 20 (q + 1) _ (by omega) Hr2.out (by omega)).mono ?_
      rintro e w3 ⟨x, rfl, hx0, hx1, hr3, hg3⟩
      have Hr3 := Lib.hid hr3; clear hr3
      have Hg3 := Lib.hid (grownBy_trans Hg2.out hg3)
      have Ho3 := Lib.hid (Ho2.out.kept hg3 (.inr (by simp [Value.ownBlock]; omega)))
      have hB := Hg3.out.size
      clear hg3
      by_cases h0 : x = 0
      · subst h0
        go_wp2_with fail
        refine (pick_any R xs.length (q + 2) _ (by omega) Hr3.out (by omega)).mono ?_
        rintro e w4 ⟨y, rfl, hy0, hy1, hr4, hg4⟩
        obtain ⟨y, rfl⟩ := Int.eq_ofNat_of_zero_le hy0
        have Hr4 := Lib.hid hr4; clear hr4
        have Hg4 := Lib.hid (grownBy_trans Hg3.out hg4)
        have Ho4 := Lib.hid (Ho3.out.kept hg4 (.inr (by simp [Value.ownBlock]; omega)))
        clear hg4
        go_wp2_with fail
        refine (drawDigest R (q + 3) _ (by omega) Hr4.out).mono ?_
        rintro e w5 ⟨z, p5, rfl, hz1, hz2, hr5, hp5, hg5⟩
        have Hr5 := Lib.hid hr5; clear hr5
        have Hg5 := Lib.hid (grownBy_trans Hg4.out hg5)
        have Ho5 := Lib.hid (Ho4.out.kept hg5 (.inr (by simp [Value.ownBlock]; omega)))
        have hyx : y < xs.length := by omega
        obtain ⟨g', cap', hv', hgB', hgs', hcap', hcells', hfz'⟩ := Ho5.out.row (by omega)
        simp only [Value.slice.injEq, Option.some.injEq, Addr.mk.injEq, and_true, true_and] at hv'
        obtain ⟨rfl, rfl⟩ := hv'
        have hold := hcells' y hyx
        have hfr := hfz' y
        clear hg5 hcells' hfz' hgs' hy0 hy1
        go_wp2
        go_ret
        have hst := Ho5.out.store rfl y z
        exact ⟨_, _, _, rfl, hst.1, by simp; omega, digs_set hsm y hz1 hz2, Hr5.out.kept hst.2 (fun g' e => by simp at e; omega), by omega, grown_row' Hg5.out hst.2 (fun g' e => by simp at e; omega)⟩
      have h0' : (x == 0) = false := by rw [beq_eq_false_iff_ne]; exact h0
      by_cases h1 : x = 1
      · subst h1
        obtain ⟨g', cap', hv', hgB', hgs', hcap', hcells', hfz'⟩ := Ho3.out.row (by omega)
        simp only [Value.slice.injEq, Option.some.injEq, Addr.mk.injEq, and_true, true_and] at hv'
        obtain ⟨rfl, rfl⟩ := hv'
        have Hcl := Lib.hid (show ∀ j (h : j < xs.length), w3.cell? ((⟨g, 0, none⟩ : Addr).add j) = some (.int .i64 xs[j]) from fun j hj => by rw [addr_add]; exact hcells' j hj)
        clear hcells' hfz' hgs'
        go_wp2_with (at_builtin; refine wpList_app TI2 rfl (.tmp 36) (.tmp 37) rfl w.heap.size _ xs xs ⟨g, 0, none⟩ _ _ rfl rfl Ho3.out rfl Hcl.out (by omega) hB ?_; intro v5 w5 hown5 hg5)
        go_ret
        exact ⟨_, _, _, rfl, hown5, by simp; omega, digs_app hsm hsm, Hr3.out.kept hg5 (fun g' e => by have := (Ho3.out.lt g' e).1; omega), by omega, grown_row' Hg3.out hg5 (fun g' e => (Ho3.out.lt g' e).1)⟩
      have h1' : (x == 1) = false := by rw [beq_eq_false_iff_ne]; exact h1
      by_cases h2 : x = 2
      · subst h2
        go_wp2
        go_ret
        exact ⟨_, _, _, rfl, Ho3.out.front 0 (by omega), by simp, by intro z hz; simp at hz, Hr3.out, by omega, Hg3.out⟩
      have h2' : (x == 2) = false := by rw [beq_eq_false_iff_ne]; exact h2
      go_wp2
      go_ret
      exact ⟨_, _, _, rfl, Ho3.out, by omega, hsm, Hr3.out, by omega, Hg3.out⟩

set_option maxHeartbeats 1600000 in
theorem spec_DrawMerkleCheck (a : Option Addr) (cap : Nat) (zs : List Int) (w : World) (h : CodeAt w a cap zs) :
    Calls Try.prog 10 #[.slice a zs.length cap] w fun e w' => ∃ (root size i leaf : Int) (v : Value) (ps : List Int), e = .returned (.tuple #[.int .i64 root, .int .i64 size, .int .i64 i, .int .i64 leaf, v]) ∧
      -1 ≤ root ∧ root ≤ 991 ∧ -1 ≤ size ∧ size ≤ 32 ∧ -1 ≤ i ∧ i ≤ 32 ∧ -1 ≤ leaf ∧ leaf ≤ 991 ∧ Own 3 w' w.heap.size v ps ∧ ps.length ≤ 5 ∧ Below w.heap.size w w' := by
  go_enter Try.func10, Try.ntmps10
  go_wp2_with fail
  refine (open_any a cap zs _ h).mono ?_
  rintro e w1 ⟨R, rfl, hR1, hR2, hr1, hb1⟩
  have Hr1 := Lib.hid hr1; clear hr1
  go_wp2_with fail
  refine (drawLeaves R 0 _ (by omega) Hr1.out hR2).mono ?_
  rintro e w2 ⟨v, xs, p', rfl, hown, hl, hs, hr2, hp', hg2⟩
  have hsz := hb1.size
  have hsz2 := hg2.size
  obtain ⟨ax, cx, rfl, hix, _⟩ := hown.ints
  have Hne := Lib.hid (show (Value.slice ax xs.length cx).ownBlock ≠ some R from fun e => by have := (hown.lt R e).1; omega)
  have Hnb := Lib.hid (show ∀ b, ax = some b → R ≠ b.block from fun b hb e => by have := (hown.lt _ (ownBlock_slice b hb)).1; omega)
  have Hix := Lib.hid hix; clear hix hown
  have Hr2 := Lib.hid hr2; clear hr2
  have Hg2 := Lib.hid hg2; clear hg2
  have Hs := Lib.hid hs; clear hs
  have hrb := mrZ_bd xs
  by_cases hx1 : 1 ≤ (xs.length : Int)
  all_goals
    go_wp2_with fail
    refine (pick_any R _ p' _ (by omega) Hr2.out (by omega)).mono ?_
    rintro e w3 ⟨k, rfl, hk0, hk1, hr3, hg3⟩
    obtain ⟨k, rfl⟩ := Int.eq_ofNat_of_zero_le hk0
    have hk2 : k ≤ 32 := by omega
    have Hr3 := Lib.hid hr3; clear hr3
    have Hi3 := Lib.hid (Hix.out.grown hg3 (fun b hb e => Hnb.out b hb (by simpa using e)))
    have Hg3 := Lib.hid (grownBy_trans Hg2.out hg3)
    clear hg3
    have hsz3 := Hg3.out.size
    go_wp2_with fail
    refine (spec_MerkleProof ax cx xs k _ (by omega) Hi3.out).mono ?_
    rintro e w4 ⟨v4, rfl, hown4, hb4⟩
    have hpl := mpZ_len xs k
    generalize mpZ xs k = ps at hown4 hpl
    have Hr4 := Lib.hid (Hr3.out.kept (below_grown hb4) (by simp))
    have Hi4 := Lib.hid (Hi3.out.below hb4)
    have hRr := Hr3.out.lt
    have Hgb4 := Lib.hid (grown_row' Hg3.out (below_grown hb4) (by simp))
    have Ho4 := Lib.hid (hown4.mono (B' := R + 1) (by omega))
    clear hown4 hb4
    go_wp2_with fail
    refine (spec_MerkleRoot ax cx xs _ (by omega) Hi4.out).mono ?_
    rintro e w5 ⟨rfl, hb5⟩
    generalize mrZ xs = rt at hrb
    have Hr5 := Lib.hid (Hr4.out.kept (below_grown hb5) (by simp))
    have Hi5 := Lib.hid (Hi4.out.below hb5)
    have Ho5 := Lib.hid (Ho4.out.below hb5)
    have Hg5 := Lib.hid (grown_row' Hgb4.out (below_grown hb5) (by simp))
    clear hb5
    have hR5 := Hr5.out.lt
    obtain ⟨ap, cp, rfl, hip, hsp, hpc⟩ := Ho5.out.src
    have Hsp := Lib.hid hsp; have hip6 := Lib.hid hip; clear hsp hip
    have hleaf : ∃ L : Int, (xs.length < 1 ∨ ∃ b off, ax = some ⟨b, off, none⟩ ∧ k < xs.length ∧ w5.cell? ⟨b, off + k, none⟩ = some (.int .i64 L)) ∧ -1 ≤ L ∧ L ≤ 991 := by
      by_cases hx0 : xs.length < 1
      · exact ⟨0, .inl hx0, by omega, by omega⟩
      · have hkl : k < xs.length := by omega
        obtain ⟨b, off, e, _, hc⟩ := Hi5.out.cell (by omega)
        exact ⟨xs[k], .inr ⟨b, off, e, hkl, hc k hkl⟩, Hs.out _ (List.getElem_mem hkl)⟩
    obtain ⟨L, hL, hL1, hL2⟩ := hleaf
    have Hw := Lib.hid hb1; clear hb1
    have hsz5 := Hg5.out.size
    have Ho5' := Lib.hid (Ho5.out.mono (B' := w.heap.size) (by omega))
    have Hnp := Lib.hid (show ∀ b, ap = some b → R ≠ b.block from fun b hb e => by have := (Ho5.out.lt _ (ownBlock_slice b hb)).1; omega)
    have Hnp' := Lib.hid (show (Value.slice ap ps.length cp).ownBlock ≠ some R from fun e => by have := (Ho5.out.lt R e).1; omega)
    clear Ho5
    rcases hL with hx0 | ⟨b, off, rfl, hkl, hcell⟩
    all_goals
      first
      | (exfalso; omega)
      | skip
    all_goals
      go_wp2_with fail
      refine (pick_any R 9 (p' + 1) _ (by omega) Hr5.out (by omega)).mono ?_
      rintro e w6 ⟨x, rfl, hx0', hx1', hr6, hg6⟩
      have Hr6 := Lib.hid hr6; clear hr6 Hr5
      have Hsp6 := Lib.hid (Hsp.out.grown hip6.out hg6 (fun b hb e => Hnp.out b hb (by simpa using e)))
      have hip7 := Lib.hid (hip6.out.grown hg6 (fun b hb e => Hnp.out b hb (by simpa using e)))
      have Ho6 := Lib.hid (Ho5'.out.kept hg6 (.inr Hnp'.out))
      have Hg6 := Lib.hid (grownBy_trans Hg5.out hg6)
      have hR6 := Hr6.out.lt
      clear hg6 Hg5 Ho5' Hsp
      by_cases c0 : x = 0
      · subst c0
        go_wp2_with fail
        refine (drawDigest R (p' + 2) _ (by omega) Hr6.out).mono ?_
        rintro e w7 ⟨d, p7, rfl, hd0, hd1, hr7, hp7, hg7⟩
        have Ho7 := Lib.hid (Ho6.out.kept hg7 (.inr Hnp'.out))
        have Hg7 := Lib.hid (grownBy_trans Hg6.out hg7)
        clear hr7 hg7
        go_wp2
        refine bodyPost_ret (results_tmp5 rfl _ _ _) rfl ?_
        exact ⟨_, _, _, _, _, ps, rfl, by omega, by omega, by omega, by omega, by omega, by omega, by omega, by omega, Ho7.out, by omega, Hw.out.trans (below_of_row' Hg7.out hR1 hsz)⟩
      have c0' : (x == 0) = false := by rw [beq_eq_false_iff_ne]; exact c0
      by_cases c1 : x = 1
      · subst c1
        go_wp2_with fail
        refine (pick_any R 18 (p' + 2) _ (by omega) Hr6.out (by omega)).mono ?_
        rintro e w7 ⟨d, rfl, hd0, hd1, hr7, hg7⟩
        have Ho7 := Lib.hid (Ho6.out.kept hg7 (.inr Hnp'.out))
        have Hg7 := Lib.hid (grownBy_trans Hg6.out hg7)
        clear hr7 hg7
        go_wp2
        refine bodyPost_ret (results_tmp5 rfl _ _ _) rfl ?_
        exact ⟨_, _, _, _, _, ps, rfl, by omega, by omega, by omega, by omega, by omega, by omega, by omega, by omega, Ho7.out, by omega, Hw.out.trans (below_of_row' Hg7.out hR1 hsz)⟩
      have c1' : (x == 1) = false := by rw [beq_eq_false_iff_ne]; exact c1
      by_cases c2 : x = 2
      · subst c2
        go_wp2_with fail
        refine (pick_any R 19 (p' + 2) _ (by omega) Hr6.out (by omega)).mono ?_
        rintro e w7 ⟨d, rfl, hd0, hd1, hr7, hg7⟩
        have Ho7 := Lib.hid (Ho6.out.kept hg7 (.inr Hnp'.out))
        have Hg7 := Lib.hid (grownBy_trans Hg6.out hg7)
        clear hr7 hg7
        go_wp2
        refine bodyPost_ret (results_tmp5 rfl _ _ _) rfl ?_
        exact ⟨_, _, _, _, _, ps, rfl, by omega, by omega, by omega, by omega, by omega, by omega, by omega, by omega, Ho7.out, by omega, Hw.out.trans (below_of_row' Hg7.out hR1 hsz)⟩
      have c2' : (x == 2) = false := by rw [beq_eq_false_iff_ne]; exact c2
      by_cases c3 : x = 3
      · subst c3
        have Hr6' := Lib.hid (Hr6.out.alloc (.cells #[] 3))
        have Hsp7 := Lib.hid (Hsp6.out.grown hip7.out (World.grownBy_alloc w6 (.cells #[] 3) none) (by simp))
        have Hg7 := Lib.hid (grownBy_trans Hg6.out (World.grownBy_alloc w6 (.cells #[] 3) _))
        have hsz6 := Hg6.out.size
        have Hoe := Lib.hid (own_empty 3 w6 (B := w6.heap.size) (Nat.le_refl _))
        go_wp2_with (at_builtin; refine wpList_appI TI2 rfl (.tmp 56) (.tmp 57) rfl w6.heap.size _ [] ps _ _ rfl Hoe.out rfl Hsp7.out (by simp; omega) (by simp) ?_; intro v8 w8 hown8 hg8)
        have Hr8 := Lib.hid (Hr6'.out.kept hg8 (fun g e => by have := (Hoe.out.lt g e).1; omega))
        have Hg8 := Lib.hid (grown_row' Hg7.out hg8 (fun g e => by have := (Hoe.out.lt g e).1; omega))
        have hsz8 := hg8.size
        clear hg8
        have Hn8 := Lib.hid (show v8.ownBlock ≠ some R from fun e => by have := (hown8.lt R e).1; omega)
        have Ho8 := Lib.hid hown8; clear hown8
        rw [List.nil_append] at Ho8
        go_wp2_with fail
        refine (drawDigest R (p' + 2) _ (by omega) Hr8.out).mono ?_
        rintro e w9 ⟨d, p9, rfl, hd0, hd1, hr9, hp9, hg9⟩
        have Ho9 := Lib.hid (Ho8.out.kept hg9 (.inr Hn8.out))
        have Hg9 := Lib.hid (grownBy_trans Hg8.out hg9)
        have hsz9 := hg9.size
        have hB : w6.heap.size ≤ w9.heap.size := by simp at hsz8; omega
        clear hr9 hg9
        go_wp2_with (at_builtin; refine wpList_push TI2 rfl (.tmp 58) (.tmp 61) rfl w6.heap.size _ ps _ rfl Ho9.out (by omega) rfl hB ?_; intro v' w10 hown10 hg10)
        refine bodyPost_ret (results_tmp5 rfl _ _ _) rfl ?_
        exact ⟨_, _, _, _, _, _, rfl, by omega, by omega, by omega, by omega, by omega, by omega, by omega, by omega, hown10.mono (by omega), by simp; omega, Hw.out.trans (below_of_row' (grown_row' Hg9.out hg10 (fun g e => by have := (Ho9.out.lt g e).1; omega)) hR1 hsz)⟩
      have c3' : (x == 3) = false := by rw [beq_eq_false_iff_ne]; exact c3
      by_cases c4 : x = 4
      · subst c4
        by_cases hp0 : 0 < (ps.length : Int)
        · go_wp2_with fail
          refine (pick_any R ps.length (p' + 2) _ (by omega) Hr6.out (by omega)).mono ?_
          rintro e w7 ⟨y, rfl, hy0, hy1, hr7, hg7⟩
          obtain ⟨y, rfl⟩ := Int.eq_ofNat_of_zero_le hy0
          have Hr7 := Lib.hid hr7
          have Ho7 := Lib.hid (Ho6.out.kept hg7 (.inr Hnp'.out))
          have Hg7 := Lib.hid (grownBy_trans Hg6.out hg7)
          clear hr7 hg7
          go_wp2_with fail
          refine (drawDigest R (p' + 3) _ (by omega) Hr7.out).mono ?_
          rintro e w8 ⟨d, p8, rfl, hd0, hd1, hr8, hp8, hg8⟩
          have Ho8 := Lib.hid (Ho7.out.kept hg8 (.inr Hnp'.out))
          have Hg8 := Lib.hid (grownBy_trans Hg7.out hg8)
          clear hr8 hg8
          have hyx : y < ps.length := by omega
          obtain ⟨g', cap', hv', hgB', hgs', hcap', hcells', hfz'⟩ := Ho8.out.row (by omega)
          simp only [Value.slice.injEq, true_and] at hv'
          obtain ⟨rfl, rfl⟩ := hv'
          have hold := hcells' y hyx
          have hfr := hfz' y
          clear hcells' hfz' hgs' hy0 hy1
          go_wp2
          refine bodyPost_ret (results_tmp5 rfl _ _ _) rfl ?_
          have hst := Ho8.out.store rfl y d
          exact ⟨_, _, _, _, _, _, rfl, by omega, by omega, by omega, by omega, by omega, by omega, by omega, by omega, hst.1, by simp; omega, Hw.out.trans ((below_of_row' Hg8.out hR1 hsz).trans (below_of_row' hst.2 hgB' (by have := Hg8.out.size; omega)))⟩
        · go_wp2
          refine bodyPost_ret (results_tmp5 rfl _ _ _) rfl ?_
          exact ⟨_, _, _, _, _, ps, rfl, by omega, by omega, by omega, by omega, by omega, by omega, by omega, by omega, Ho6.out, by omega, Hw.out.trans (below_of_row' Hg6.out hR1 hsz)⟩
      have c4' : (x == 4) = false := by rw [beq_eq_false_iff_ne]; exact c4
      by_cases c5 : x = 5
      · subst c5
        go_wp2_with fail
        refine (drawDigest R (p' + 2) _ (by omega) Hr6.out).mono ?_
        rintro e w7 ⟨d, p7, rfl, hd0, hd1, hr7, hp7, hg7⟩
        have Ho7 := Lib.hid (Ho6.out.kept hg7 (.inr Hnp'.out))
        have Hg7 := Lib.hid (grownBy_trans Hg6.out hg7)
        clear hr7 hg7
        go_wp2
        refine bodyPost_ret (results_tmp5 rfl _ _ _) rfl ?_
        exact ⟨_, _, _, _, _, ps, rfl, by omega, by omega, by omega, by omega, by omega, by omega, by omega, by omega, Ho7.out, by omega, Hw.out.trans (below_of_row' Hg7.out hR1 hsz)⟩
      have c5' : (x == 5) = false := by rw [beq_eq_false_iff_ne]; exact c5
      go_wp2
      refine bodyPost_ret (results_tmp5 rfl _ _ _) rfl ?_
      exact ⟨_, _, _, _, _, ps, rfl, by omega, by omega, by omega, by omega, by omega, by omega, by omega, by omega, Ho6.out, by omega, Hw.out.trans (below_of_row' Hg6.out hR1 hsz)⟩

end Go.Proofs.Ytgkelcpiokmhfab
