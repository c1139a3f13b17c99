/- The draws of votes and tallies: what is drawn is small and lies in new memory; each by a walk of its text; condition: at most 2^20 picks. -/
import Derived.Test.YtkndndcjchlpdaaRows
import Derived.Test.YtkndndcjchlpdaaBase
import Derived.Test.YtkndndcjchlpdaaApp
import Derived.Test.YtkndndcjchlpdaaRd
import Derived.Test.YtkndndcjchlpdaaD1
import Derived.Test.YtkndndcjchlpdaaD2
import Derived.Test.YtkndndcjchlpdaaDt
import Derived.Test.YtkndndcjchlpdaaVt1
import Derived.Test.YtkndndcjchlpdaaSched
import Derived.Deep.QuietTactic
import Derived.BigQuiet
namespace Go.Proofs.Ytkndndcjchlpdaa
open Go.RowKit

/-- A vote of small numbers. -/
def VtS (v : Vt) : Prop := (-1 ≤ v.r ∧ v.r ≤ 31) ∧ (-1 ≤ v.a ∧ v.a ≤ 7) ∧ (-1 ≤ v.d ∧ v.d ≤ 994)
theorem rnd3_at (k : Nat) (hk : k < 3) : ∃ z : Int, (#[Value.int .i64 (-1), .int .i64 30, .int .i64 31] : Array Value)[k]? = some (.int .i64 z) ∧ -1 ≤ z ∧ z ≤ 31 := by
  match k, hk with
  | 0, _ => exact ⟨-1, rfl, by omega, by omega⟩
  | 1, _ => exact ⟨30, rfl, by omega, by omega⟩
  | 2, _ => exact ⟨31, rfl, by omega, by omega⟩
theorem grown_set {w a : World} {R B : Nat} (h : w.grownBy a (some R)) (hB : w.heap.size ≤ B) (j : Nat) (v : Value) : w.grownBy (a.setCell ⟨B, j, none⟩ v) (some R) := grown_row h (grownBy_set a B j v) (fun g e => by cases e; exact hB)

set_option maxHeartbeats 2000000 in
theorem drawVote (R p : Nat) (w : World) (hp : p ≤ 900000) (hr : Rdr w R p) (hR : R < w.heap.size) :
    Calls Try.prog 37 #[.pointer (some ⟨R, 0, none⟩)] w fun e w' => ∃ (v : Vt) (p' : Nat), e = .returned (.agg #[.int .i64 v.r, .int .i64 v.a, .int .i64 v.d]) ∧ VtS v ∧ v.d ≤ 991 ∧ Rdr w' R p' ∧ p' ≤ p + 8 ∧ w.grownBy w' (some R) := by
  have Hr0 := Lib.hid (hr.alloc (.cells #[.int .i64 0, .int .i64 0, .int .i64 0] 27)); clear hr
  have SA := Lib.hid (Str.new w 27 #[.int .i64 0, .int .i64 0, .int .i64 0])
  have Hg0 := Lib.hid (World.grownBy_alloc w (.cells #[.int .i64 0, .int .i64 0, .int .i64 0] 27) (some R))
  have hz0 : (w.alloc (.cells #[.int .i64 0, .int .i64 0, .int .i64 0] 27)).heap.size = w.heap.size + 1 := by simp
  go_enter Try.func37, Try.ntmps37
  have Hr := Hr0; clear Hr0
  have Hg := Hg0; clear Hg0
  go_wp2_with fail
  generalize w.alloc (.cells #[.int .i64 0, .int .i64 0, .int .i64 0] 27) = W0 at *
  refine (pick_any R 6 (p) _ (by omega) Hr.out (by omega)).mono ?_
  rintro e w1 ⟨x, rfl, hx0, hx1, hr', hg'⟩
  have hsz' := hg'.size
  have Hr := Lib.hid hr'
  have Hg := Lib.hid (grownBy_trans Hg.out hg')
  have SA := Lib.hid (show Str w1 w.heap.size 27 #[.int .i64 0, .int .i64 0, .int .i64 0] from SA.out.kept hg' (by simp; omega))
  clear hr' hg'
  go_wp2_with fail
  refine (pick_any R 4 (p + 1) _ (by omega) Hr.out (by omega)).mono ?_
  rintro e w2 ⟨y, rfl, hy0, hy1, hr', hg'⟩
  have hsz' := hg'.size
  have Hr := Lib.hid hr'
  have Hg := Lib.hid (grownBy_trans Hg.out hg')
  have SA := Lib.hid (show Str w2 w.heap.size 27 #[.int .i64 0, .int .i64 0, .int .i64 0] from SA.out.kept hg' (by simp; omega))
  clear hr' hg'
  go_wp2_with fail
  refine (pick_any R 3 (p + 1 + 1) _ (by omega) Hr.out (by omega)).mono ?_
  rintro e w3 ⟨z, rfl, hz0, hz1, hr', hg'⟩
  have hsz' := hg'.size
  have Hr := Lib.hid hr'
  have Hg := Lib.hid (grownBy_trans Hg.out hg')
  have SA := Lib.hid (show Str w3 w.heap.size 27 #[.int .i64 0, .int .i64 0, .int .i64 0] from SA.out.kept hg' (by simp; omega))
  clear hr' hg'
  have hw3 : w.heap.size + 1 ≤ w3.heap.size := by omega
  have Hr := Lib.hid (Hr.out.alloc (.cells #[.int .i64 x, .int .i64 y, .int .i64 (1 + z)] 27))
  have SC := Lib.hid (Str.new w3 27 #[.int .i64 x, .int .i64 y, .int .i64 (1 + z)])
  have SA := Lib.hid (show Str (w3.alloc (.cells #[.int .i64 x, .int .i64 y, .int .i64 (1 + z)] 27)) w.heap.size 27 #[.int .i64 0, .int .i64 0, .int .i64 0] from SA.out.alloc _)
  have Hg := Lib.hid (grownBy_trans Hg.out (World.grownBy_alloc w3 (.cells #[.int .i64 x, .int .i64 y, .int .i64 (1 + z)] 27) (some R)))
  have hz3 : (w3.alloc (.cells #[.int .i64 x, .int .i64 y, .int .i64 (1 + z)] 27)).heap.size = w3.heap.size + 1 := by simp
  have hRC : R < w3.heap.size := by omega
  go_wp2_with fail
  generalize w3.alloc (.cells #[.int .i64 x, .int .i64 y, .int .i64 (1 + z)] 27) = W3 at *
  refine (pick_any R 24 (p + 1 + 1 + 1) _ (by omega) Hr.out (by omega)).mono ?_
  rintro e w4 ⟨q, rfl, hq0, hq1, hr', hg'⟩
  have hsz' := hg'.size
  have Hr := Lib.hid hr'
  have Hg := Lib.hid (grownBy_trans Hg.out hg')
  have SA := Lib.hid (show Str w4 w.heap.size 27 #[.int .i64 0, .int .i64 0, .int .i64 0] from SA.out.kept hg' (by simp; omega))
  have SC := Lib.hid (show Str w4 w3.heap.size 27 #[.int .i64 x, .int .i64 y, .int .i64 (1 + z)] from SC.out.kept hg' (by simp; omega))
  clear hr' hg'
  by_cases h0 : q = 0
  case pos =>
    subst h0
    have Hr := Lib.hid (Hr.out.alloc (.cells #[.int .i64 (-1), .int .i64 30, .int .i64 31] 3))
    have SA := Lib.hid (show Str (w4.alloc (.cells #[.int .i64 (-1), .int .i64 30, .int .i64 31] 3)) w.heap.size 27 #[.int .i64 0, .int .i64 0, .int .i64 0] from SA.out.alloc _)
    have SC := Lib.hid (show Str (w4.alloc (.cells #[.int .i64 (-1), .int .i64 30, .int .i64 31] 3)) w3.heap.size 27 #[.int .i64 x, .int .i64 y, .int .i64 (1 + z)] from SC.out.alloc _)
    have Hg := Lib.hid (grownBy_trans Hg.out (World.grownBy_alloc w4 (.cells #[.int .i64 (-1), .int .i64 30, .int .i64 31] 3) (some R)))
    go_wp2_with fail
    refine (pick_any R 3 (p + 1 + 1 + 1 + 1) _ (by omega) Hr.out (by omega)).mono ?_
    rintro e w5 ⟨u, rfl, hu0, hu1, hr', hg'⟩
    have hsz5 := hg'.size
    simp only [World.size_alloc] at hsz5
    obtain ⟨u, rfl⟩ := Int.eq_ofNat_of_zero_le hu0
    obtain ⟨t, ht, ht1, ht2⟩ := rnd3_at u (by omega)
    have hcell := lit_cell hg' (by simp; omega) ht
    have hu4 : u < 3 := by omega
    have Hr := Lib.hid hr'
    have Hg := Lib.hid (grownBy_trans Hg.out hg')
    have SA := Lib.hid (show Str w5 w.heap.size 27 #[.int .i64 0, .int .i64 0, .int .i64 0] from SA.out.kept hg' (by simp; omega))
    have SC := Lib.hid (show Str w5 w3.heap.size 27 #[.int .i64 x, .int .i64 y, .int .i64 (1 + z)] from SC.out.kept hg' (by simp; omega))
    clear hr' hg' ht hu0 hu1
    have fc := SC.out.frozen 0
    have cc := SC.out.cell 0 (v := .int .i64 (x)) rfl
    have SC := Lib.hid (show Str (w5.setCell ⟨w3.heap.size, 0, none⟩ (.int .i64 (t))) w3.heap.size 27 #[.int .i64 (t), .int .i64 (y), .int .i64 (1 + z)] from SC.out.set 0 _)
    have SA := Lib.hid (show Str (w5.setCell ⟨w3.heap.size, 0, none⟩ (.int .i64 (t))) w.heap.size 27 #[.int .i64 0, .int .i64 0, .int .i64 0] from SA.out.other (by omega) _ _)
    have Hr := Lib.hid (Hr.out.kept (grownBy_set w5 w3.heap.size 0 (.int .i64 (t))) (fun g e => by cases e; omega))
    have Hg := Lib.hid (grown_set Hg.out (B := w3.heap.size) (by omega) 0 (.int .i64 (t)))
    skip
    have a0 := SA.out.cell 0 (v := .int .i64 0) rfl
    have a1 := SA.out.cell 1 (v := .int .i64 0) rfl
    have a2 := SA.out.cell 2 (v := .int .i64 0) rfl
    have f0 := SA.out.frozen 0
    have f1 := SA.out.frozen 1
    have f2 := SA.out.frozen 2
    have c0 := SC.out.cell 0 (v := .int .i64 (t)) rfl
    have c1 := SC.out.cell 1 (v := .int .i64 (y)) rfl
    have c2 := SC.out.cell 2 (v := .int .i64 (1 + z)) rfl
    have sF := ((SA.out.set 0 (.int .i64 (t))).set 1 (.int .i64 (y))).set 2 (.int .i64 (1 + z))
    have e0 := sF.cell 0 (v := .int .i64 (t)) rfl
    have e1 := sF.cell 1 (v := .int .i64 (y)) rfl
    have e2 := sF.cell 2 (v := .int .i64 (1 + z)) rfl
    clear sF
    go_wp2
    refine bodyPost_ret (v := .agg #[.int .i64 (t), .int .i64 (y), .int .i64 (1 + z)]) (by simp [results, Try.f37, go_sem, e0, e1, e2]) rfl ?_
    exact ⟨⟨t, y, 1 + z⟩, _, rfl, ⟨by simp only; omega, by simp only; omega, by simp only; omega⟩, by simp only; omega, ((Hr.out.kept (grownBy_set _ w.heap.size 0 _) (fun g e => by cases e; omega)).kept (grownBy_set _ w.heap.size 1 _) (fun g e => by cases e; omega)).kept (grownBy_set _ w.heap.size 2 _) (fun g e => by cases e; omega), by omega, grown_set (grown_set (grown_set Hg.out (Nat.le_refl _) _ _) (Nat.le_refl _) _ _) (Nat.le_refl _) _ _⟩
  have h0' : (q == 0) = false := by rw [beq_eq_false_iff_ne]; exact h0
  by_cases h1 : q = 1
  case pos =>
    subst h1
    go_wp2_with fail
    refine (pick_any R 9 (p + 1 + 1 + 1 + 1) _ (by omega) Hr.out (by omega)).mono ?_
    rintro e w5 ⟨u, rfl, hu0, hu1, hr', hg'⟩
    have hsz' := hg'.size
    have Hr := Lib.hid hr'
    have Hg := Lib.hid (grownBy_trans Hg.out hg')
    have SA := Lib.hid (show Str w5 w.heap.size 27 #[.int .i64 0, .int .i64 0, .int .i64 0] from SA.out.kept hg' (by simp; omega))
    have SC := Lib.hid (show Str w5 w3.heap.size 27 #[.int .i64 x, .int .i64 y, .int .i64 (1 + z)] from SC.out.kept hg' (by simp; omega))
    clear hr' hg'
    have fc := SC.out.frozen 1
    have cc := SC.out.cell 1 (v := .int .i64 (y)) rfl
    have SC := Lib.hid (show Str (w5.setCell ⟨w3.heap.size, 1, none⟩ (.int .i64 (u - 1))) w3.heap.size 27 #[.int .i64 (x), .int .i64 (u - 1), .int .i64 (1 + z)] from SC.out.set 1 _)
    have SA := Lib.hid (show Str (w5.setCell ⟨w3.heap.size, 1, none⟩ (.int .i64 (u - 1))) w.heap.size 27 #[.int .i64 0, .int .i64 0, .int .i64 0] from SA.out.other (by omega) _ _)
    have Hr := Lib.hid (Hr.out.kept (grownBy_set w5 w3.heap.size 1 (.int .i64 (u - 1))) (fun g e => by cases e; omega))
    have Hg := Lib.hid (grown_set Hg.out (B := w3.heap.size) (by omega) 1 (.int .i64 (u - 1)))
    have a0 := SA.out.cell 0 (v := .int .i64 0) rfl
    have a1 := SA.out.cell 1 (v := .int .i64 0) rfl
    have a2 := SA.out.cell 2 (v := .int .i64 0) rfl
    have f0 := SA.out.frozen 0
    have f1 := SA.out.frozen 1
    have f2 := SA.out.frozen 2
    have c0 := SC.out.cell 0 (v := .int .i64 (x)) rfl
    have c1 := SC.out.cell 1 (v := .int .i64 (u - 1)) rfl
    have c2 := SC.out.cell 2 (v := .int .i64 (1 + z)) rfl
    have sF := ((SA.out.set 0 (.int .i64 (x))).set 1 (.int .i64 (u - 1))).set 2 (.int .i64 (1 + z))
    have e0 := sF.cell 0 (v := .int .i64 (x)) rfl
    have e1 := sF.cell 1 (v := .int .i64 (u - 1)) rfl
    have e2 := sF.cell 2 (v := .int .i64 (1 + z)) rfl
    clear sF
    go_wp2
    refine bodyPost_ret (v := .agg #[.int .i64 (x), .int .i64 (u - 1), .int .i64 (1 + z)]) (by simp [results, Try.f37, go_sem, e0, e1, e2]) rfl ?_
    exact ⟨⟨x, u - 1, 1 + z⟩, _, rfl, ⟨by simp only; omega, by simp only; omega, by simp only; omega⟩, by simp only; omega, ((Hr.out.kept (grownBy_set _ w.heap.size 0 _) (fun g e => by cases e; omega)).kept (grownBy_set _ w.heap.size 1 _) (fun g e => by cases e; omega)).kept (grownBy_set _ w.heap.size 2 _) (fun g e => by cases e; omega), by omega, grown_set (grown_set (grown_set Hg.out (Nat.le_refl _) _ _) (Nat.le_refl _) _ _) (Nat.le_refl _) _ _⟩
  have h1' : (q == 1) = false := by rw [beq_eq_false_iff_ne]; exact h1
  by_cases h2 : q = 2
  case pos =>
    subst h2
    go_wp2_with fail
    refine (drawDigest R (p + 1 + 1 + 1 + 1) _ (by omega) Hr.out).mono ?_
    rintro e w5 ⟨d, p', rfl, hd0, hd1, hr', hp', hg'⟩
    have hsz5 := hg'.size
    have Hr := Lib.hid hr'
    have Hg := Lib.hid (grownBy_trans Hg.out hg')
    have SA := Lib.hid (show Str w5 w.heap.size 27 #[.int .i64 0, .int .i64 0, .int .i64 0] from SA.out.kept hg' (by simp; omega))
    have SC := Lib.hid (show Str w5 w3.heap.size 27 #[.int .i64 x, .int .i64 y, .int .i64 (1 + z)] from SC.out.kept hg' (by simp; omega))
    clear hr' hg'
    have fc := SC.out.frozen 2
    have cc := SC.out.cell 2 (v := .int .i64 (1 + z)) rfl
    have SC := Lib.hid (show Str (w5.setCell ⟨w3.heap.size, 2, none⟩ (.int .i64 (d))) w3.heap.size 27 #[.int .i64 (x), .int .i64 (y), .int .i64 (d)] from SC.out.set 2 _)
    have SA := Lib.hid (show Str (w5.setCell ⟨w3.heap.size, 2, none⟩ (.int .i64 (d))) w.heap.size 27 #[.int .i64 0, .int .i64 0, .int .i64 0] from SA.out.other (by omega) _ _)
    have Hr := Lib.hid (Hr.out.kept (grownBy_set w5 w3.heap.size 2 (.int .i64 (d))) (fun g e => by cases e; omega))
    have Hg := Lib.hid (grown_set Hg.out (B := w3.heap.size) (by omega) 2 (.int .i64 (d)))
    have a0 := SA.out.cell 0 (v := .int .i64 0) rfl
    have a1 := SA.out.cell 1 (v := .int .i64 0) rfl
    have a2 := SA.out.cell 2 (v := .int .i64 0) rfl
    have f0 := SA.out.frozen 0
    have f1 := SA.out.frozen 1
    have f2 := SA.out.frozen 2
    have c0 := SC.out.cell 0 (v := .int .i64 (x)) rfl
    have c1 := SC.out.cell 1 (v := .int .i64 (y)) rfl
    have c2 := SC.out.cell 2 (v := .int .i64 (d)) rfl
    have sF := ((SA.out.set 0 (.int .i64 (x))).set 1 (.int .i64 (y))).set 2 (.int .i64 (d))
    have e0 := sF.cell 0 (v := .int .i64 (x)) rfl
    have e1 := sF.cell 1 (v := .int .i64 (y)) rfl
    have e2 := sF.cell 2 (v := .int .i64 (d)) rfl
    clear sF
    go_wp2
    refine bodyPost_ret (v := .agg #[.int .i64 (x), .int .i64 (y), .int .i64 (d)]) (by simp [results, Try.f37, go_sem, e0, e1, e2]) rfl ?_
    exact ⟨⟨x, y, d⟩, _, rfl, ⟨by simp only; omega, by simp only; omega, by simp only; omega⟩, by simp only; omega, ((Hr.out.kept (grownBy_set _ w.heap.size 0 _) (fun g e => by cases e; omega)).kept (grownBy_set _ w.heap.size 1 _) (fun g e => by cases e; omega)).kept (grownBy_set _ w.heap.size 2 _) (fun g e => by cases e; omega), by omega, grown_set (grown_set (grown_set Hg.out (Nat.le_refl _) _ _) (Nat.le_refl _) _ _) (Nat.le_refl _) _ _⟩
  have h2' : (q == 2) = false := by rw [beq_eq_false_iff_ne]; exact h2
  have a0 := SA.out.cell 0 (v := .int .i64 0) rfl
  have a1 := SA.out.cell 1 (v := .int .i64 0) rfl
  have a2 := SA.out.cell 2 (v := .int .i64 0) rfl
  have f0 := SA.out.frozen 0
  have f1 := SA.out.frozen 1
  have f2 := SA.out.frozen 2
  have c0 := SC.out.cell 0 (v := .int .i64 (x)) rfl
  have c1 := SC.out.cell 1 (v := .int .i64 (y)) rfl
  have c2 := SC.out.cell 2 (v := .int .i64 (1 + z)) rfl
  have sF := ((SA.out.set 0 (.int .i64 (x))).set 1 (.int .i64 (y))).set 2 (.int .i64 (1 + z))
  have e0 := sF.cell 0 (v := .int .i64 (x)) rfl
  have e1 := sF.cell 1 (v := .int .i64 (y)) rfl
  have e2 := sF.cell 2 (v := .int .i64 (1 + z)) rfl
  clear sF
  go_wp2
  refine bodyPost_ret (v := .agg #[.int .i64 (x), .int .i64 (y), .int .i64 (1 + z)]) (by simp [results, Try.f37, go_sem, e0, e1, e2]) rfl ?_
  exact ⟨⟨x, y, 1 + z⟩, _, rfl, ⟨by simp only; omega, by simp only; omega, by simp only; omega⟩, by simp only; omega, ((Hr.out.kept (grownBy_set _ w.heap.size 0 _) (fun g e => by cases e; omega)).kept (grownBy_set _ w.heap.size 1 _) (fun g e => by cases e; omega)).kept (grownBy_set _ w.heap.size 2 _) (fun g e => by cases e; omega), by omega, grown_set (grown_set (grown_set Hg.out (Nat.le_refl _) _ _) (Nat.le_refl _) _ _) (Nat.le_refl _) _ _⟩

end Go.Proofs.Ytkndndcjchlpdaa
