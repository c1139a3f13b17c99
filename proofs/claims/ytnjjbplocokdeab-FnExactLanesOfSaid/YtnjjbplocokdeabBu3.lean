/- Texts that the laws of this folder share, one behind another; no conditions. -/
import Derived.Test.YtnjjbplocokdeabRows
import Derived.Test.YtnjjbplocokdeabBu1
import Derived.Deep.QuietTactic
import Derived.BigQuiet
import Derived.Test.YtnjjbplocokdeabBu0
import Derived.WalkSpells
import Derived.Test.YtnjjbplocokdeabBu2

/- The program's functions on the balances that a ledger embeds (sum, allows, move), each by a walk of its text; conditions: the ledger and the transaction are valid. -/
namespace Go.Proofs.Ytnjjbplocokdeab
open Go.RowKit

theorem lg_drewN {B : Nat} {w W : World} (h : Below B w W) (k : Nat) : Below B w (W.drewN k) := ⟨h.os, h.tape, h.output, h.size, h.block⟩
/-- Block B is the program's ledger of these balances and fees. -/
abbrev Lg (T : TypeId) (W : World) (B : Nat) (l : List Int) (n : Int) : Prop := Str W B T (c7 l n)
theorem Lg.at {T : TypeId} {W : World} {B : Nat} {l : List Int} {n : Int} (h : Lg T W B l n) {i : Nat} (hi : i < 6) : W.cell? ⟨B, i, none⟩ = some (.int .i64 (gd l i)) := Str.cell h i (c7_at l n hi)
theorem Lg.fees {T : TypeId} {W : World} {B : Nat} {l : List Int} {n : Int} (h : Lg T W B l n) : W.cell? ⟨B, 6, none⟩ = some (.int .i64 n) := Str.cell h 6 rfl
theorem Lg.setb {T : TypeId} {W : World} {B : Nat} {l : List Int} {n : Int} (h : Lg T W B l n) (h6 : l.length = 6) {i : Nat} (hi : i < 6) (z : Int) : Lg T (W.setCell ⟨B, i, none⟩ (.int .i64 z)) B (l.set i z) n := by
  have := Str.set h i (.int .i64 z)
  rw [c7_set h6 n hi z] at this
  exact this
theorem Lg.setf {T : TypeId} {W : World} {B : Nat} {l : List Int} {n : Int} (h : Lg T W B l n) (z : Int) : Lg T (W.setCell ⟨B, 6, none⟩ (.int .i64 z)) B l z := Str.set h 6 (.int .i64 z)

set_option maxHeartbeats 2000000 in
theorem lg_allows (B : Nat) (l : List Int) (n : Int) (x : Tx) (w : World) (hv : ldB l n = true) (hx : txB x = true) (hs : Lg 63 w B l n) :
    Calls Try.prog 90 #[.pointer (some ⟨B, 0, none⟩), agT x] w fun e w' => e = .returned (.bool (okT l x)) ∧ Below w.heap.size w w' := by
  obtain ⟨hv1, hv2, hv3, hv4⟩ := ldB_iff.1 hv
  obtain ⟨hx1, hx2, hx3, hx4, hx5⟩ := txB_iff.1 hx
  have Hv := Lib.hid hv; have Hx := Lib.hid hx; clear hv hx
  obtain ⟨f, t, s, ee⟩ := x
  dsimp only at *
  obtain ⟨i, rfl⟩ : ∃ i : Nat, f = i := ⟨f.toNat, by omega⟩
  obtain ⟨j, rfl⟩ : ∃ j : Nat, t = j := ⟨t.toNat, by omega⟩
  have hi6 : i < 6 := by omega
  have hj6 : j < 6 := by omega
  have hi6' : (i : Int) < 6 := by omega
  have hj6' : (j : Int) < 6 := by omega
  have hij : i ≠ j := by omega
  have hbi := bal_bd (i := (i : Int)) Hv.out
  have hbj := bal_bd (i := (j : Int)) Hv.out
  rw [gd_bal] at hbi hbj
  have H6 := Lib.hid hv2; have Hx3 := Lib.hid hx3; clear hv1 hv2 hx3
  have Hok := Lib.hid (show okT l ⟨i, j, s, ee⟩ = (decide (s + ee ≤ gd l i) && decide (gd l j + s ≤ 999)) from by unfold okT; rw [Hx.out, gd_bal, gd_bal]; rfl)
  have hb0 : Below w.heap.size w (w.alloc (.cells #[.int .i64 i, .int .i64 j, .int .i64 s, .int .i64 ee] 25)) := (Below.refl _ _).alloc (Nat.le_refl _) _
  have s0 := Str.new w 25 #[.int .i64 i, .int .i64 j, .int .i64 s, .int .i64 ee]
  have s9 : Lg 63 (w.alloc (.cells #[.int .i64 i, .int .i64 j, .int .i64 s, .int .i64 ee] 25)) B l n := Str.alloc hs _
  have x0 := s0.cell 0 (v := .int .i64 i) rfl
  have x1 := s0.cell 1 (v := .int .i64 j) rfl
  have x2 := s0.cell 2 (v := .int .i64 s) rfl
  have x3 := s0.cell 3 (v := .int .i64 ee) rfl
  have ci := s9.at hi6
  have cj := s9.at hj6
  have Hb := Lib.hid hb0; clear hb0 s0 s9 hs
  generalize gd l i = bi at *
  generalize gd l j = bj at *
  have w1' : IntKind.i64.wrap (s + ee) = s + ee := IntWalk.i64_in _ (by omega)
  have w2' : IntKind.i64.wrap (bj + s) = bj + s := IntWalk.i64_in _ (by omega)
  unfold agT
  dsimp only
  go_enter Try.func90, Try.ntmps90
  go_wp2
  generalize (w.alloc (.cells #[.int .i64 i, .int .i64 j, .int .i64 s, .int .i64 ee] 25)) = W0 at *
  by_cases h1 : s + ee ≤ bi
  · have d1 : decide (s + ee ≤ bi) = true := decide_eq_true h1
    have Hok := Lib.hid (Hok.out.trans (by rw [d1, Bool.true_and]))
    go_quiet (fail)
    go_wp2
    go_ret
    exact ⟨ret_bool Hok.out.symm, lg_drewN Hb.out _⟩
  · have d1 : decide (s + ee ≤ bi) = false := decide_eq_false h1
    have Hok := Lib.hid (Hok.out.trans (by rw [d1, Bool.false_and]))
    go_quiet (fail)
    go_wp2
    go_ret
    exact ⟨ret_bool Hok.out.symm, lg_drewN Hb.out _⟩

theorem lg_drew {w W : World} {B : Nat} (h : w.grownBy W (some B)) : w.grownBy W.drew (some B) := grownBy_trans h ⟨rfl, rfl, rfl, Nat.le_refl _, fun _ _ _ => rfl⟩
set_option maxHeartbeats 4000000 in
theorem lg_move (B : Nat) (l : List Int) (n : Int) (x : Tx) (w : World) (hv : ldB l n = true) (hx : okT l x = true) (hs : Lg 63 w B l n) :
    Calls Try.prog 91 #[.pointer (some ⟨B, 0, none⟩), agT x] w fun e w' => e = .returned (.tuple #[]) ∧ Lg 63 w' B (apL l x) n ∧ w.grownBy w' (some B) := by
  have hok := hx
  obtain ⟨hx, hlow, hhigh⟩ := okT_iff.1 hok
  have Hok := Lib.hid hok; clear hok
  obtain ⟨hv1, hv2, hv3, hv4⟩ := ldB_iff.1 hv
  obtain ⟨hx1, hx2, hx3, hx4, hx5⟩ := txB_iff.1 hx
  have Hv := Lib.hid hv; have Hx := Lib.hid hx; clear hv hx
  obtain ⟨f, t, s, ee⟩ := x
  dsimp only at *
  obtain ⟨i, rfl⟩ : ∃ i : Nat, f = i := ⟨f.toNat, by omega⟩
  obtain ⟨j, rfl⟩ : ∃ j : Nat, t = j := ⟨t.toNat, by omega⟩
  have hi6 : i < 6 := by omega
  have hj6 : j < 6 := by omega
  have hi6' : (i : Int) < 6 := by omega
  have hj6' : (j : Int) < 6 := by omega
  have hij : i ≠ j := by omega
  have hbi := bal_bd (i := (i : Int)) Hv.out
  have hbj := bal_bd (i := (j : Int)) Hv.out
  rw [gd_bal] at hbi hbj
  rw [gd_bal] at hlow hhigh
  have H6 := Lib.hid hv2; have Hx3 := Lib.hid hx3; clear hv1 hv2 hx3
  have Hap := Lib.hid (show (l.set i (gd l i - (s + ee))).set j (gd l j + s) = apL l ⟨i, j, s, ee⟩ from by rw [(ap_yes (n := n) Hok.out).1, gd_bal, gd_bal]; simp only [Int.toNat_natCast]; congr 2; omega)
  have Hgj := Lib.hid (show gd (l.set i (gd l i - (s + ee))) j = gd l j from by rw [gd_at (l := l.set i (gd l i - (s + ee))) (by rw [List.length_set, H6.out]; exact hj6), List.getElem_set_ne hij, gd_at (l := l) (i := j) (by rw [H6.out]; exact hj6)])
  have hg0 := World.grownBy_alloc w (.cells #[.int .i64 i, .int .i64 j, .int .i64 s, .int .i64 ee] 25) (some B)
  have s0 := Str.new w 25 #[.int .i64 i, .int .i64 j, .int .i64 s, .int .i64 ee]
  have s9 : Lg 63 (w.alloc (.cells #[.int .i64 i, .int .i64 j, .int .i64 s, .int .i64 ee] 25)) B l n := Str.alloc hs _
  have hBw := hs.lt
  have Hg := Lib.hid hg0; have S0 := Lib.hid s0; have S9 := Lib.hid s9; clear hg0 s0 s9 hs
  obtain ⟨bi, hbie⟩ : ∃ z, z = gd l i := ⟨_, rfl⟩
  obtain ⟨bj, hbje⟩ : ∃ z, z = gd l j := ⟨_, rfl⟩
  rw [← hbie] at hbi hlow Hap Hgj
  rw [← hbje] at hbj hhigh Hap Hgj
  have Hbi := Lib.hid hbie; have Hbj := Lib.hid hbje; clear hbie hbje
  have w1' : IntKind.i64.wrap (s + ee) = s + ee := IntWalk.i64_in _ (by omega)
  have w2' : IntKind.i64.wrap (bj + s) = bj + s := IntWalk.i64_in _ (by omega)
  have w3' : IntKind.i64.wrap (bi - (s + ee)) = bi - (s + ee) := IntWalk.i64_in _ (by omega)
  unfold agT
  dsimp only
  go_enter Try.func91, Try.ntmps91
  go_wp2_with fail
  generalize (w.alloc (.cells #[.int .i64 i, .int .i64 j, .int .i64 s, .int .i64 ee] 25)) = W0 at *
  have hBne : w.heap.size ≠ B := by omega
  have c9 := Lib.hid (show W0.cell? ⟨B, i, none⟩ = some (.int .i64 bi) from by rw [Hbi.out]; exact S9.out.at hi6)
  refine wp_region_L 14 (fun w' => w'.cell? ⟨w.heap.size, 0, none⟩ = some (.int .i64 i) ∧ w'.cell? ⟨w.heap.size, 1, none⟩ = some (.int .i64 j) ∧ w'.cell? ⟨w.heap.size, 2, none⟩ = some (.int .i64 s) ∧ w'.cell? ⟨w.heap.size, 3, none⟩ = some (.int .i64 ee) ∧ w'.cell? ⟨B, i, none⟩ = some (.int .i64 bi)) (by kernel_rfl) ⟨S0.out.cell 0 (v := .int .i64 i) rfl, S0.out.cell 1 (v := .int .i64 j) rfl, S0.out.cell 2 (v := .int .i64 s) rfl, S0.out.cell 3 (v := .int .i64 ee) rfl, c9.out⟩ (fun hH => ?_)
  have S0 := Lib.hid (show Str W0.drew w.heap.size 25 #[.int .i64 i, .int .i64 j, .int .i64 s, .int .i64 ee] from S0.out)
  have S9 := Lib.hid (show Lg 63 W0.drew B (l) n from S9.out)
  have Hg := Lib.hid (lg_drew Hg.out)
  have c9 := Lib.hid (show W0.drew.cell? ⟨B, i, none⟩ = some (.int .i64 bi) from c9.out)
  generalize W0.drew = wd at *
  refine takeL 0 (v := ?vmv1) rfl (by kernel_rfl) (by kernel_rfl) (by kernel_rfl) (by kernel_rfl) (by kernel_rfl) (fun _ _ _ h => h) hH rfl ?ymv1 ?rmv1
  case ymv1 => intro W hSw; go_simp; try with_reducible rfl
  try simp only [Act.put, List.setIfInBounds_toArray, List.set_cons_zero, List.set_cons_succ]
  refine takeL 1 (v := ?vmv2) rfl (by kernel_rfl) (by kernel_rfl) (by kernel_rfl) (by kernel_rfl) (by kernel_rfl) (fun _ _ _ h => h) hH rfl ?ymv2 ?rmv2
  case ymv2 => intro W hSw; go_simp; try with_reducible rfl
  try simp only [Act.put, List.setIfInBounds_toArray, List.set_cons_zero, List.set_cons_succ]
  refine takeL 2 (v := ?vmv3) rfl (by kernel_rfl) (by kernel_rfl) (by kernel_rfl) (by kernel_rfl) (by kernel_rfl) (fun _ _ _ h => h) hH rfl ?ymv3 ?rmv3
  case ymv3 => intro W hSw; go_simp; try with_reducible rfl
  try simp only [Act.put, List.setIfInBounds_toArray, List.set_cons_zero, List.set_cons_succ]
  refine takeL 3 (v := ?vmv4) rfl (by kernel_rfl) (by kernel_rfl) (by kernel_rfl) (by kernel_rfl) (by kernel_rfl) (fun _ _ _ h => h) hH rfl ?ymv4 ?rmv4
  case ymv4 => intro W hSw; go_simp; try with_reducible rfl
  try simp only [Act.put, List.setIfInBounds_toArray, List.set_cons_zero, List.set_cons_succ]
  refine takeL 4 (v := ?vmv5) rfl (by kernel_rfl) (by kernel_rfl) (by kernel_rfl) (by kernel_rfl) (by kernel_rfl) (fun _ _ _ h => h) hH rfl ?ymv5 ?rmv5
  case ymv5 => intro W hSw; go_simp; try with_reducible rfl
  try simp only [Act.put, List.setIfInBounds_toArray, List.set_cons_zero, List.set_cons_succ]
  refine takeL 5 (v := ?vmv6) rfl (by kernel_rfl) (by kernel_rfl) (by kernel_rfl) (by kernel_rfl) (by kernel_rfl) (fun _ _ _ h => h) hH rfl ?ymv6 ?rmv6
  case ymv6 => intro W hSw; go_simp; try with_reducible rfl
  try simp only [Act.put, List.setIfInBounds_toArray, List.set_cons_zero, List.set_cons_succ]
  refine takeL 6 (v := ?vmv7) rfl (by kernel_rfl) (by kernel_rfl) (by kernel_rfl) (by kernel_rfl) (by kernel_rfl) (fun _ _ _ h => h) hH rfl ?ymv7 ?rmv7
  case ymv7 => intro W hSw; go_simp; try with_reducible rfl
  try simp only [Act.put, List.setIfInBounds_toArray, List.set_cons_zero, List.set_cons_succ]
  refine takeL 7 (v := ?vmv8) rfl (by kernel_rfl) (by kernel_rfl) (by kernel_rfl) (by kernel_rfl) (by kernel_rfl) (fun _ _ _ h => h) hH rfl ?ymv8 ?rmv8
  case ymv8 => intro W hSw; go_simp; try with_reducible rfl
  try simp only [Act.put, List.setIfInBounds_toArray, List.set_cons_zero, List.set_cons_succ]
  refine takeL 8 (v := ?vmv9) rfl (by kernel_rfl) (by kernel_rfl) (by kernel_rfl) (by kernel_rfl) (by kernel_rfl) (fun _ _ _ h => h) hH rfl ?ymv9 ?rmv9
  case ymv9 => intro W hSw; go_simp; try with_reducible rfl
  try simp only [Act.put, List.setIfInBounds_toArray, List.set_cons_zero, List.set_cons_succ]
  refine takeL 9 (v := ?vmv10) rfl (by kernel_rfl) (by kernel_rfl) (by kernel_rfl) (by kernel_rfl) (by kernel_rfl) (fun _ _ _ h => h) hH rfl ?ymv10 ?rmv10
  case ymv10 => intro W hSw; go_simp; try with_reducible rfl
  try simp only [Act.put, List.setIfInBounds_toArray, List.set_cons_zero, List.set_cons_succ]
  refine takeL 10 (v := .int .i64 (s + ee)) rfl (by kernel_rfl) (by kernel_rfl) (by kernel_rfl) (by kernel_rfl) (by kernel_rfl) (fun _ _ _ h => h) hH rfl ?ymv11 ?rmv11
  case ymv11 => intro W hSw; go_simp; first | done | (simp [w1'])
  try simp only [Act.put, List.setIfInBounds_toArray, List.set_cons_zero, List.set_cons_succ]
  refine takeL 11 (v := .int .i64 (bi - (s + ee))) rfl (by kernel_rfl) (by kernel_rfl) (by kernel_rfl) (by kernel_rfl) (by kernel_rfl) (fun _ _ _ h => h) hH rfl ?ymv12 ?rmv12
  case ymv12 => intro W hSw; go_simp; first | done | (simp [w3'])
  try simp only [Act.put, List.setIfInBounds_toArray, List.set_cons_zero, List.set_cons_succ]
  refine callL 12 rfl (by kernel_rfl) rfl (fun K hK => ?_)
  go_simp
  refine hK.out _ _ ⟨S0.out.cell 0 (v := .int .i64 i) rfl, S0.out.cell 1 (v := .int .i64 j) rfl, S0.out.cell 2 (v := .int .i64 s) rfl, S0.out.cell 3 (v := .int .i64 ee) rfl, c9.out⟩ (fun hH => ?_)
  clear hK K
  try simp only [Act.put, List.setIfInBounds_toArray, List.set_cons_zero, List.set_cons_succ]
  refine takeL 13 (v := ?vmv13) rfl (by kernel_rfl) (by kernel_rfl) (by kernel_rfl) (by kernel_rfl) (by kernel_rfl) (fun _ _ _ h => h) hH rfl ?ymv13 ?rmv13
  case ymv13 => intro W hSw; go_simp; try with_reducible rfl
  try simp only [Act.put, List.setIfInBounds_toArray, List.set_cons_zero, List.set_cons_succ]
  refine lastL rfl (by kernel_rfl) (by kernel_rfl) (by kernel_rfl) rfl (fun K hK => ?_)
  have y9 := S9.out.frozen i
  have q9 := c9.out
  go_simp
  clear y9 q9
  have S0 := Lib.hid (S0.out.other (B' := B) (by omega) i (.int .i64 (bi - (s + ee))))
  have S9 := Lib.hid (S9.out.setb (by first | exact H6.out | (rw [List.length_set]; exact H6.out)) hi6 (bi - (s + ee)))
  have Hg := Lib.hid (grownBy_trans Hg.out (grownBy_set wd B i (.int .i64 (bi - (s + ee)))))
  refine hK.out _ _ ?_
  clear hK K hH c9
  try simp only [Act.put]
  generalize (wd.setCell ⟨B, i, none⟩ (.int .i64 (bi - (s + ee)))) = W5 at *
  go_wp2_with fail
  have c9 := Lib.hid (show W5.cell? ⟨B, j, none⟩ = some (.int .i64 bj) from by rw [← Hgj.out]; exact S9.out.at hj6)
  refine wp_region_L 11 (fun w' => w'.cell? ⟨w.heap.size, 0, none⟩ = some (.int .i64 i) ∧ w'.cell? ⟨w.heap.size, 1, none⟩ = some (.int .i64 j) ∧ w'.cell? ⟨w.heap.size, 2, none⟩ = some (.int .i64 s) ∧ w'.cell? ⟨w.heap.size, 3, none⟩ = some (.int .i64 ee) ∧ w'.cell? ⟨B, j, none⟩ = some (.int .i64 bj)) (by kernel_rfl) ⟨S0.out.cell 0 (v := .int .i64 i) rfl, S0.out.cell 1 (v := .int .i64 j) rfl, S0.out.cell 2 (v := .int .i64 s) rfl, S0.out.cell 3 (v := .int .i64 ee) rfl, c9.out⟩ (fun hH => ?_)
  have S0 := Lib.hid (show Str W5.drew w.heap.size 25 #[.int .i64 i, .int .i64 j, .int .i64 s, .int .i64 ee] from S0.out)
  have S9 := Lib.hid (show Lg 63 W5.drew B (l.set i (bi - (s + ee))) n from S9.out)
  have Hg := Lib.hid (lg_drew Hg.out)
  have c9 := Lib.hid (show W5.drew.cell? ⟨B, j, none⟩ = some (.int .i64 bj) from c9.out)
  generalize W5.drew = wd at *
  refine takeL 0 (v := ?vmv14) rfl (by kernel_rfl) (by kernel_rfl) (by kernel_rfl) (by kernel_rfl) (by kernel_rfl) (fun _ _ _ h => h) hH rfl ?ymv14 ?rmv14
  case ymv14 => intro W hSw; go_simp; try with_reducible rfl
  try simp only [Act.put, List.setIfInBounds_toArray, List.set_cons_zero, List.set_cons_succ]
  refine takeL 1 (v := ?vmv15) rfl (by kernel_rfl) (by kernel_rfl) (by kernel_rfl) (by kernel_rfl) (by kernel_rfl) (fun _ _ _ h => h) hH rfl ?ymv15 ?rmv15
  case ymv15 => intro W hSw; go_simp; try with_reducible rfl
  try simp only [Act.put, List.setIfInBounds_toArray, List.set_cons_zero, List.set_cons_succ]
  refine takeL 2 (v := ?vmv16) rfl (by kernel_rfl) (by kernel_rfl) (by kernel_rfl) (by kernel_rfl) (by kernel_rfl) (fun _ _ _ h => h) hH rfl ?ymv16 ?rmv16
  case ymv16 => intro W hSw; go_simp; try with_reducible rfl
  try simp only [Act.put, List.setIfInBounds_toArray, List.set_cons_zero, List.set_cons_succ]
  refine takeL 3 (v := ?vmv17) rfl (by kernel_rfl) (by kernel_rfl) (by kernel_rfl) (by kernel_rfl) (by kernel_rfl) (fun _ _ _ h => h) hH rfl ?ymv17 ?rmv17
  case ymv17 => intro W hSw; go_simp; try with_reducible rfl
  try simp only [Act.put, List.setIfInBounds_toArray, List.set_cons_zero, List.set_cons_succ]
  refine takeL 4 (v := ?vmv18) rfl (by kernel_rfl) (by kernel_rfl) (by kernel_rfl) (by kernel_rfl) (by kernel_rfl) (fun _ _ _ h => h) hH rfl ?ymv18 ?rmv18
  case ymv18 => intro W hSw; go_simp; try with_reducible rfl
  try simp only [Act.put, List.setIfInBounds_toArray, List.set_cons_zero, List.set_cons_succ]
  refine takeL 5 (v := ?vmv19) rfl (by kernel_rfl) (by kernel_rfl) (by kernel_rfl) (by kernel_rfl) (by kernel_rfl) (fun _ _ _ h => h) hH rfl ?ymv19 ?rmv19
  case ymv19 => intro W hSw; go_simp; try with_reducible rfl
  try simp only [Act.put, List.setIfInBounds_toArray, List.set_cons_zero, List.set_cons_succ]
  refine takeL 6 (v := ?vmv20) rfl (by kernel_rfl) (by kernel_rfl) (by kernel_rfl) (by kernel_rfl) (by kernel_rfl) (fun _ _ _ h => h) hH rfl ?ymv20 ?rmv20
  case ymv20 => intro W hSw; go_simp; try with_reducible rfl
  try simp only [Act.put, List.setIfInBounds_toArray, List.set_cons_zero, List.set_cons_succ]
  refine takeL 7 (v := ?vmv21) rfl (by kernel_rfl) (by kernel_rfl) (by kernel_rfl) (by kernel_rfl) (by kernel_rfl) (fun _ _ _ h => h) hH rfl ?ymv21 ?rmv21
  case ymv21 => intro W hSw; go_simp; try with_reducible rfl
  try simp only [Act.put, List.setIfInBounds_toArray, List.set_cons_zero, List.set_cons_succ]
  refine takeL 8 (v := .int .i64 (bj + s)) rfl (by kernel_rfl) (by kernel_rfl) (by kernel_rfl) (by kernel_rfl) (by kernel_rfl) (fun _ _ _ h => h) hH rfl ?ymv22 ?rmv22
  case ymv22 => intro W hSw; go_simp; first | done | (simp [w2'])
  try simp only [Act.put, List.setIfInBounds_toArray, List.set_cons_zero, List.set_cons_succ]
  refine callL 9 rfl (by kernel_rfl) rfl (fun K hK => ?_)
  go_simp
  refine hK.out _ _ ⟨S0.out.cell 0 (v := .int .i64 i) rfl, S0.out.cell 1 (v := .int .i64 j) rfl, S0.out.cell 2 (v := .int .i64 s) rfl, S0.out.cell 3 (v := .int .i64 ee) rfl, c9.out⟩ (fun hH => ?_)
  clear hK K
  try simp only [Act.put, List.setIfInBounds_toArray, List.set_cons_zero, List.set_cons_succ]
  refine takeL 10 (v := ?vmv23) rfl (by kernel_rfl) (by kernel_rfl) (by kernel_rfl) (by kernel_rfl) (by kernel_rfl) (fun _ _ _ h => h) hH rfl ?ymv23 ?rmv23
  case ymv23 => intro W hSw; go_simp; try with_reducible rfl
  try simp only [Act.put, List.setIfInBounds_toArray, List.set_cons_zero, List.set_cons_succ]
  refine lastL rfl (by kernel_rfl) (by kernel_rfl) (by kernel_rfl) rfl (fun K hK => ?_)
  have y9 := S9.out.frozen j
  have q9 := c9.out
  go_simp
  clear y9 q9
  have S0 := Lib.hid (S0.out.other (B' := B) (by omega) j (.int .i64 (bj + s)))
  have S9 := Lib.hid (S9.out.setb (by first | exact H6.out | (rw [List.length_set]; exact H6.out)) hj6 (bj + s))
  have Hg := Lib.hid (grownBy_trans Hg.out (grownBy_set wd B j (.int .i64 (bj + s))))
  refine hK.out _ _ ?_
  clear hK K hH c9
  try simp only [Act.put]
  generalize (wd.setCell ⟨B, j, none⟩ (.int .i64 (bj + s))) = W6 at *
  go_wp2
  refine bodyPost_end (results_none rfl _ _ _) rfl ?_
  have h9 := S9.out
  rw [Hap.out] at h9
  exact ⟨rfl, h9, Hg.out⟩

end Go.Proofs.Ytnjjbplocokdeab

/- The library's test whether two lists of ints are the same, and its copy of a list of ints, by walks of their texts; conditions: the lists have fewer than 2^40 elements. -/
namespace Go.Proofs.Ytnjjbplocokdeab
open Go.RowKit

def EqTo (xs ys : List Int) (k : Nat) : Prop := ∀ j (h : j < xs.length) (h' : j < ys.length), j < k → xs[j] = ys[j]
theorem eqTo_step {xs ys : List Int} {k : Nat} (h : EqTo xs ys k) (hk : k < xs.length) (hk' : k < ys.length) (e : xs[k] = ys[k]) : EqTo xs ys (k + 1) := by
  intro j hj hj' hjk
  by_cases ej : j = k
  · subst ej; exact e
  · exact h j hj hj' (by omega)
theorem eqTo_all {xs ys : List Int} {k : Nat} (h : EqTo xs ys k) (hk : xs.length ≤ k) (hl : xs.length = ys.length) : xs = ys :=
  List.ext_getElem hl fun j h1 h2 => h j h1 h2 (by omega)

theorem lib_Clone (hT : IntT Try.prog 40 3) (pa : Option Addr) (pc : Nat) (ps : List Int) (w : World) (hbp : ps.length ≤ 1099511627776) (hs : SrcAt w pa pc ps) (hi : IntsAt w pa ps) :
    Calls Try.prog 60 #[.slice pa ps.length pc] w fun e w' => ∃ v, e = .returned v ∧ Own 3 w' w.heap.size v ps ∧ Below w.heap.size w w' := by
  have hq : ∀ (w : World) (a : Option Addr) (n c n' c' : Nat), (binOp .eql 40 (.slice a n c) (.slice none n' c')).run Try.prog w = .ok (.bool a.isNone) w := fun w a n c n' c' => Lib.run_eql_slice_nil w _ _ a n c n' c' Try.underlying40
  cases pa with
  | none =>
    have hp0 : ps = [] := by
      rcases hi with h | ⟨b, off, e, _⟩
      · exact h
      · cases e
    subst hp0
    clear hs hi
    go_enter Try.func60, Try.ntmps60
    go_wp2
    go_ret
    exact ⟨_, rfl, Own.nil _ _ _, Below.refl _ _⟩
  | some ad =>
    have hb2 : Below w.heap.size w (w.alloc (.cells #[] 3)) := (Below.refl _ _).alloc (Nat.le_refl _) _
    have ho := own_empty 3 w (Nat.le_refl _)
    have hsrc : SrcAt (w.alloc (.cells #[] 3)) (some ad) pc ps := by
      rcases hs with h | ⟨ad', e, hc⟩
      · exact .inl h
      · cases e
        refine .inr ⟨ad, rfl, fun j hj => ?_⟩
        obtain ⟨b, off, e, hb, _⟩ := hi.cell (by omega)
        cases e
        have := hc j hj
        rw [addr_add'] at this ⊢
        exact (hb2.cell (p := ⟨b, off + j, none⟩) hb).trans this
    have hzs : (w.alloc (.cells #[] 3)).heap.size = w.heap.size + 1 := by simp
    have Ho := Lib.hid ho; clear ho
    have Hsrc := Lib.hid hsrc; clear hsrc
    have Hb2 := Lib.hid hb2; clear hb2 hs hi
    go_enter Try.func60, Try.ntmps60
    go_wp2_with (at_builtin; refine wpList_appI hT rfl _ _ rfl w.heap.size (.slice (some ⟨w.heap.size, 0, none⟩) 0 0) [] ps _ _ rfl Ho.out rfl Hsrc.out (by simp; omega) (by rw [hzs]; omega) ?_; intro v5 w5 hown hg5; (rw [List.nil_append] at hown))
    go_ret
    exact ⟨_, rfl, hown, Hb2.out.grown hg5 (by omega) (fun g e => by cases e; exact Nat.le_refl _)⟩

end Go.Proofs.Ytnjjbplocokdeab

/- The program's ledger made of an argument, its space for fees, the execution of a transaction, and the answer's copy, each by a walk of its text; conditions: the ledger is valid where it says so. -/
namespace Go.Proofs.Ytnjjbplocokdeab
open Go.RowKit

set_option maxHeartbeats 2000000 in
theorem lg_ledgerOf (a : Option Addr) (cap : Nat) (l : List Int) (n : Int) (w : World) (hbig : l.length ≤ 1099511627776) (hl : IntsAt w a l) (hv : ldB l n = true) :
    Calls Try.prog 53 #[.agg #[.slice a l.length cap, .int .i64 n]] w fun e w' => ∃ B, e = .returned (.tuple #[.pointer (some ⟨B, 0, none⟩), .bool true]) ∧ w.heap.size ≤ B ∧ B < w'.heap.size ∧ Lg 63 w' B l n ∧ Below w.heap.size w w' := by
  obtain ⟨-, -, hn0, hn1⟩ := ldB_iff.1 hv
  have hb0 : Below w.heap.size w (w.alloc (.cells #[.slice a l.length cap, .int .i64 n] 44)) := (Below.refl _ _).alloc (Nat.le_refl _) _
  have s1 := Str.new w 44 #[.slice a l.length cap, .int .i64 n]
  have hl0 := hl.below hb0
  have hz : (w.alloc (.cells #[.slice a l.length cap, .int .i64 n] 44)).heap.size = w.heap.size + 1 := by simp
  have k0 := s1.cell 0 (v := .slice a l.length cap) rfl
  have k1 := s1.cell 1 (v := .int .i64 n) rfl
  have S1 := Lib.hid s1; have Hb := Lib.hid hb0; have Hl := Lib.hid hl0; clear s1 hb0 hl0 hl
  have HB := Lib.hid (fun W (h : IntsAt W a l) => lg_balancesOf a cap l W hbig h)
  unfold BoP c6 at HB
  obtain ⟨g0, h0⟩ : ∃ z, z = gd l 0 := ⟨_, rfl⟩
  obtain ⟨g1, h1⟩ : ∃ z, z = gd l 1 := ⟨_, rfl⟩
  obtain ⟨g2, h2⟩ : ∃ z, z = gd l 2 := ⟨_, rfl⟩
  obtain ⟨g3, h3⟩ : ∃ z, z = gd l 3 := ⟨_, rfl⟩
  obtain ⟨g4, h4⟩ : ∃ z, z = gd l 4 := ⟨_, rfl⟩
  obtain ⟨g5, h5⟩ : ∃ z, z = gd l 5 := ⟨_, rfl⟩
  have Hc7 := Lib.hid (show c7 l n = #[.int .i64 g0, .int .i64 g1, .int .i64 g2, .int .i64 g3, .int .i64 g4, .int .i64 g5, .int .i64 n] from by unfold c7; rw [h0, h1, h2, h3, h4, h5])
  rw [← h0, ← h1, ← h2, ← h3, ← h4, ← h5] at HB
  clear h0 h1 h2 h3 h4 h5
  have hld := okB_ld l n
  rw [hv] at hld
  have Hld := Lib.hid hld; clear hld hv
  go_enter Try.func53, Try.ntmps53
  go_wp2_with fail
  generalize (w.alloc (.cells #[.slice a l.length cap, .int .i64 n] 44)) = W0 at *
  refine (HB.out _ Hl.out).mono ?_
  rintro e w1 ⟨⟨h, rfl⟩ | ⟨h, rfl⟩, hb1⟩
  case inr =>
    have h9 := Hld.out
    rw [h] at h9
    cases h9
  clear h Hld
  have hal : Below w1.heap.size w1 (w1.alloc (.cells #[.int .i64 g0, .int .i64 g1, .int .i64 g2, .int .i64 g3, .int .i64 g4, .int .i64 g5] 61)) := (Below.refl _ _).alloc (Nat.le_refl _) _
  have Hb := Lib.hid (below_step (below_step Hb.out Hb.out.size hb1) (Nat.le_trans Hb.out.size hb1.size) hal)
  have S1 := Lib.hid (show Str (w1.alloc (.cells #[.int .i64 g0, .int .i64 g1, .int .i64 g2, .int .i64 g3, .int .i64 g4, .int .i64 g5] 61)) w.heap.size 44 #[.slice a l.length cap, .int .i64 n] from Str.alloc ((hb1.block _ S1.out.lt).trans S1.out) _)
  have S2 := Lib.hid (Str.new w1 61 #[.int .i64 g0, .int .i64 g1, .int .i64 g2, .int .i64 g3, .int .i64 g4, .int .i64 g5])
  clear hal hb1 k0 k1
  have k1 := S1.out.cell 1 (v := .int .i64 n) rfl
  have b0 := S2.out.cell 0 (v := .int .i64 g0) rfl
  have b1 := S2.out.cell 1 (v := .int .i64 g1) rfl
  have b2 := S2.out.cell 2 (v := .int .i64 g2) rfl
  have b3 := S2.out.cell 3 (v := .int .i64 g3) rfl
  have b4 := S2.out.cell 4 (v := .int .i64 g4) rfl
  have b5 := S2.out.cell 5 (v := .int .i64 g5) rfl
  have hex : w.heap.size ≤ w1.heap.size + 1 := by have := Hb.out.size; simp only [World.size_alloc] at this; omega
  have d1 : decide (n < 0) = false := decide_eq_false (by omega)
  have d2 : decide (5994 < n) = false := decide_eq_false (by omega)
  clear S1
  have sN := Str.new (w1.alloc (.cells #[.int .i64 g0, .int .i64 g1, .int .i64 g2, .int .i64 g3, .int .i64 g4, .int .i64 g5] 61)) 63 #[.int .i64 g0, .int .i64 g1, .int .i64 g2, .int .i64 g3, .int .i64 g4, .int .i64 g5, .int .i64 n]
  have bN : Below w.heap.size w ((w1.alloc (.cells #[.int .i64 g0, .int .i64 g1, .int .i64 g2, .int .i64 g3, .int .i64 g4, .int .i64 g5] 61)).alloc (.cells #[.int .i64 g0, .int .i64 g1, .int .i64 g2, .int .i64 g3, .int .i64 g4, .int .i64 g5, .int .i64 n] 63)) := Hb.out.alloc (by simp only [World.size_alloc]; omega) _
  simp only [World.size_alloc] at sN
  have hN : w1.heap.size + 1 < ((w1.alloc (.cells #[.int .i64 g0, .int .i64 g1, .int .i64 g2, .int .i64 g3, .int .i64 g4, .int .i64 g5] 61)).alloc (.cells #[.int .i64 g0, .int .i64 g1, .int .i64 g2, .int .i64 g3, .int .i64 g4, .int .i64 g5, .int .i64 n] 63)).heap.size := sN.lt
  have SN := Lib.hid sN; have BN := Lib.hid bN; have HN := Lib.hid hN; have HX := Lib.hid hex; clear sN bN hN hex
  go_wp2
  refine bodyPost_ret (results_tmp2 rfl _ _ _) rfl ?_
  have h9 := SN.out
  exact ⟨w1.heap.size + 1, rfl, HX.out, HN.out, by show Str _ _ _ (c7 l n); rw [Hc7.out]; exact h9, BN.out⟩

set_option maxHeartbeats 2000000 in
theorem lg_ledgerOf_no (a : Option Addr) (cap : Nat) (l : List Int) (n : Int) (w : World) (hbig : l.length ≤ 1099511627776) (hl : IntsAt w a l) (hv : ldB l n = false) :
    Calls Try.prog 53 #[.agg #[.slice a l.length cap, .int .i64 n]] w fun e w' => e = .returned (.tuple #[.pointer none, .bool false]) ∧ Below w.heap.size w w' := by
  have hb0 : Below w.heap.size w (w.alloc (.cells #[.slice a l.length cap, .int .i64 n] 44)) := (Below.refl _ _).alloc (Nat.le_refl _) _
  have s1 := Str.new w 44 #[.slice a l.length cap, .int .i64 n]
  have hl0 := hl.below hb0
  have hz : (w.alloc (.cells #[.slice a l.length cap, .int .i64 n] 44)).heap.size = w.heap.size + 1 := by simp
  have k0 := s1.cell 0 (v := .slice a l.length cap) rfl
  have k1 := s1.cell 1 (v := .int .i64 n) rfl
  have S1 := Lib.hid s1; have Hb := Lib.hid hb0; have Hl := Lib.hid hl0; clear s1 hb0 hl0 hl
  have HB := Lib.hid (fun W (h : IntsAt W a l) => lg_balancesOf a cap l W hbig h)
  unfold BoP c6 at HB
  obtain ⟨g0, h0⟩ : ∃ z, z = gd l 0 := ⟨_, rfl⟩
  obtain ⟨g1, h1⟩ : ∃ z, z = gd l 1 := ⟨_, rfl⟩
  obtain ⟨g2, h2⟩ : ∃ z, z = gd l 2 := ⟨_, rfl⟩
  obtain ⟨g3, h3⟩ : ∃ z, z = gd l 3 := ⟨_, rfl⟩
  obtain ⟨g4, h4⟩ : ∃ z, z = gd l 4 := ⟨_, rfl⟩
  obtain ⟨g5, h5⟩ : ∃ z, z = gd l 5 := ⟨_, rfl⟩
  have Hc7 := Lib.hid (show c7 l n = #[.int .i64 g0, .int .i64 g1, .int .i64 g2, .int .i64 g3, .int .i64 g4, .int .i64 g5, .int .i64 n] from by unfold c7; rw [h0, h1, h2, h3, h4, h5])
  rw [← h0, ← h1, ← h2, ← h3, ← h4, ← h5] at HB
  clear h0 h1 h2 h3 h4 h5
  have hld := okB_ld l n
  rw [hv] at hld
  have Hld := Lib.hid hld; clear hld hv
  go_enter Try.func53, Try.ntmps53
  go_wp2_with fail
  generalize (w.alloc (.cells #[.slice a l.length cap, .int .i64 n] 44)) = W0 at *
  refine (HB.out _ Hl.out).mono ?_
  rintro e w1 ⟨⟨h, rfl⟩ | ⟨h, rfl⟩, hb1⟩
  case inr =>
    clear h Hld
    have hal : Below w1.heap.size w1 (w1.alloc (.cells #[.int .i64 0, .int .i64 0, .int .i64 0, .int .i64 0, .int .i64 0, .int .i64 0] 61)) := (Below.refl _ _).alloc (Nat.le_refl _) _
    have Hb := Lib.hid (below_step (below_step Hb.out Hb.out.size hb1) (Nat.le_trans Hb.out.size hb1.size) hal)
    have S1 := Lib.hid (show Str (w1.alloc (.cells #[.int .i64 0, .int .i64 0, .int .i64 0, .int .i64 0, .int .i64 0, .int .i64 0] 61)) w.heap.size 44 #[.slice a l.length cap, .int .i64 n] from Str.alloc ((hb1.block _ S1.out.lt).trans S1.out) _)
    have S2 := Lib.hid (Str.new w1 61 #[.int .i64 0, .int .i64 0, .int .i64 0, .int .i64 0, .int .i64 0, .int .i64 0])
    clear hal hb1 k0 k1
    have k1 := S1.out.cell 1 (v := .int .i64 n) rfl
    clear S1 S2
    go_wp2
    refine bodyPost_ret (results_tmp2 rfl _ _ _) rfl ?_
    exact ⟨rfl, Hb.out⟩
  have h9 := Hld.out
  rw [h] at h9
  have hn : ¬ (0 ≤ n ∧ n ≤ 5994) := by
    intro h; rw [decide_eq_true h] at h9; cases h9
  clear h h9 Hld
  have hal : Below w1.heap.size w1 (w1.alloc (.cells #[.int .i64 g0, .int .i64 g1, .int .i64 g2, .int .i64 g3, .int .i64 g4, .int .i64 g5] 61)) := (Below.refl _ _).alloc (Nat.le_refl _) _
  have Hb := Lib.hid (below_step (below_step Hb.out Hb.out.size hb1) (Nat.le_trans Hb.out.size hb1.size) hal)
  have S1 := Lib.hid (show Str (w1.alloc (.cells #[.int .i64 g0, .int .i64 g1, .int .i64 g2, .int .i64 g3, .int .i64 g4, .int .i64 g5] 61)) w.heap.size 44 #[.slice a l.length cap, .int .i64 n] from Str.alloc ((hb1.block _ S1.out.lt).trans S1.out) _)
  have S2 := Lib.hid (Str.new w1 61 #[.int .i64 g0, .int .i64 g1, .int .i64 g2, .int .i64 g3, .int .i64 g4, .int .i64 g5])
  clear hal hb1 k0 k1
  have k1 := S1.out.cell 1 (v := .int .i64 n) rfl
  clear S1 S2
  by_cases h0 : n < 0
  · have d1 : decide (n < 0) = true := decide_eq_true h0
    go_wp2
    refine bodyPost_ret (results_tmp2 rfl _ _ _) rfl ?_
    exact ⟨rfl, Hb.out⟩
  · have d1 : decide (n < 0) = false := decide_eq_false h0
    have d2 : decide (5994 < n) = true := decide_eq_true (by omega)
    have d3 : 5994 < n := by omega
    clear hn
    go_wp2
    refine bodyPost_ret (results_tmp2 rfl _ _ _) rfl ?_
    exact ⟨rfl, Hb.out⟩

theorem lg_hasSpace (B : Nat) (l : List Int) (n m : Int) (w : World) (hn : 0 ≤ n ∧ n ≤ 5994) (hm : 0 ≤ m ∧ m ≤ 100) (hs : Lg 63 w B l n) :
    Calls Try.prog 54 #[.pointer (some ⟨B, 0, none⟩), .int .i64 m] w fun e w' => e = .returned (.bool (decide (n ≤ 5994 - 9 * m))) ∧ w = w' := by
  have c6 := hs.fees
  clear hs
  have hw1 : IntKind.i64.wrap (9 * m) = 9 * m := IntWalk.i64_in _ (by omega)
  have hw2 : IntKind.i64.wrap (n + 9 * m) = n + 9 * m := IntWalk.i64_in _ (by omega)
  have Hd := Lib.hid (show decide (n ≤ 5994 - 9 * m) = decide (n + 9 * m ≤ 5994) from decide_eq_decide.2 (by omega))
  generalize decide (n ≤ 5994 - 9 * m) = bb at *
  clear hn hm
  go_enter Try.func54, Try.ntmps54
  go_wp2
  go_ret
  exact ⟨ret_bool Hd.out.symm, rfl⟩

theorem lg_weak {w W : World} (h : Below w.heap.size w W) (B : Nat) : w.grownBy W (some B) := ⟨h.os, h.tape, h.output, h.size, fun k hk _ => h.block k hk⟩
set_option maxHeartbeats 4000000 in
theorem lg_execute (B : Nat) (l : List Int) (n : Int) (x : Tx) (w : World) (hv : ldB l n = true) (hs : Lg 63 w B l n) :
    Calls Try.prog 78 #[.pointer (some ⟨B, 0, none⟩), agT x] w fun e w' => e = .returned (.bool (okT l x)) ∧ Lg 63 w' B (apL l x) (apF l n x) ∧ w.grownBy w' (some B) := by
  obtain ⟨hv1, hv2, hn0, hn1⟩ := ldB_iff.1 hv
  have Hv := Lib.hid hv; clear hv hv1 hv2
  have hg0 := World.grownBy_alloc w (.cells #[.int .i64 x.f, .int .i64 x.t, .int .i64 x.s, .int .i64 x.e] 25) (some B)
  have s0 := Str.new w 25 #[.int .i64 x.f, .int .i64 x.t, .int .i64 x.s, .int .i64 x.e]
  have s9 : Lg 63 (w.alloc (.cells #[.int .i64 x.f, .int .i64 x.t, .int .i64 x.s, .int .i64 x.e] 25)) B l n := Str.alloc hs _
  have hBw := hs.lt
  have hBne : w.heap.size ≠ B := by omega
  have Hg := Lib.hid hg0; have S0 := Lib.hid s0; have S9 := Lib.hid s9; clear hg0 s0 s9 hs
  have HT := Lib.hid (fun W => lg_valid x W)
  have HA := Lib.hid (fun W (h : txB x = true) (hs : Lg 63 W B l n) => lg_allows B l n x W Hv.out h hs)
  have HM := Lib.hid (fun W (h : okT l x = true) (hs : Lg 63 W B l n) => lg_move B l n x W Hv.out h hs)
  unfold agT at HT HA HM ⊢
  go_enter Try.func78, Try.ntmps78
  go_wp2_with fail
  generalize (w.alloc (.cells #[.int .i64 x.f, .int .i64 x.t, .int .i64 x.s, .int .i64 x.e] 25)) = W0 at *
  refine wp_region_held_drew (S := fun w' => w'.cell? ⟨w.heap.size, 0, none⟩ = some (.int .i64 x.f) ∧ w'.cell? ⟨w.heap.size, 1, none⟩ = some (.int .i64 x.t) ∧ w'.cell? ⟨w.heap.size, 2, none⟩ = some (.int .i64 x.s) ∧ w'.cell? ⟨w.heap.size, 3, none⟩ = some (.int .i64 x.e)) (by kernel_rfl) ⟨S0.out.cell 0 (v := .int .i64 x.f) rfl, S0.out.cell 1 (v := .int .i64 x.t) rfl, S0.out.cell 2 (v := .int .i64 x.s) rfl, S0.out.cell 3 (v := .int .i64 x.e) rfl⟩ (fun hH => ?_)
  have S0 := Lib.hid (show Str W0.drew w.heap.size 25 #[.int .i64 x.f, .int .i64 x.t, .int .i64 x.s, .int .i64 x.e] from S0.out)
  have Hg := Lib.hid (lg_drew Hg.out)
  have S9 := Lib.hid (show Lg 63 W0.drew B l n from S9.out)
  generalize W0.drew = wd at *
  have hbt : txB x = true ∨ txB x = false := by cases txB x <;> simp
  have hbo : okT l x = true ∨ okT l x = false := by cases okT l x <;> simp
  refine takeH 0 (v := ?vex1) rfl (by kernel_rfl) (by kernel_rfl) (by kernel_rfl) (fun _ _ _ h => h) hH rfl ?yex1 ?rex1
  case yex1 => intro W hSw; go_simp; try with_reducible rfl
  try simp only [Act.put, List.setIfInBounds_toArray, List.set_cons_zero, List.set_cons_succ]
  rcases hbt with hbt | hbt
  case inr =>
    have h9 := HT.out
    rw [hbt] at h9
    have HT := Lib.hid h9; clear h9
    have Hno := Lib.hid (show okT l x = false by unfold okT; rw [hbt]; rfl)
    clear hbt hbo HA HM
    refine callH 1 rfl (by kernel_rfl) rfl (fun K hK => ?_)
    go_simp
    refine (HT.out _).mono ?_
    rintro e w5 ⟨rfl, hb⟩
    have S0 := Lib.hid (show Str w5 w.heap.size 25 #[.int .i64 x.f, .int .i64 x.t, .int .i64 x.s, .int .i64 x.e] from (hb.block _ S0.out.lt).trans S0.out)
    have S9 := Lib.hid (show Lg 63 w5 B l n from (hb.block _ S9.out.lt).trans S9.out)
    have Hg := Lib.hid (grownBy_trans Hg.out (lg_weak hb B))
    clear hb
    refine hK.out _ _ ⟨S0.out.cell 0 (v := .int .i64 x.f) rfl, S0.out.cell 1 (v := .int .i64 x.t) rfl, S0.out.cell 2 (v := .int .i64 x.s) rfl, S0.out.cell 3 (v := .int .i64 x.e) rfl⟩ (fun hH => ?_)
    clear hK K
    try simp only [Act.put, List.setIfInBounds_toArray, List.set_cons_zero, List.set_cons_succ]
    refine takeH 2 (v := ?vex2) rfl (by kernel_rfl) (by kernel_rfl) (by kernel_rfl) (fun _ _ _ h => h) hH rfl ?yex2 ?rex2
    case yex2 => intro W hSw; go_simp; try with_reducible rfl
    try simp only [Act.put, List.setIfInBounds_toArray, List.set_cons_zero, List.set_cons_succ]
    refine takeH 3 (v := ?vex3) rfl (by kernel_rfl) (by kernel_rfl) (by kernel_rfl) (fun _ _ _ h => h) hH rfl ?yex3 ?rex3
    case yex3 => intro W hSw; go_simp; try with_reducible rfl
    try simp only [Act.put, List.setIfInBounds_toArray, List.set_cons_zero, List.set_cons_succ]
    refine skipH 4 rfl (by kernel_rfl) (by kernel_rfl) (by kernel_rfl) (fun _ _ _ h => h) hH rfl ?_
    try simp only [Act.put, List.setIfInBounds_toArray, List.set_cons_zero, List.set_cons_succ]
    refine skipH 5 rfl (by kernel_rfl) (by kernel_rfl) (by kernel_rfl) (fun _ _ _ h => h) hH rfl ?_
    try simp only [Act.put, List.setIfInBounds_toArray, List.set_cons_zero, List.set_cons_succ]
    refine skipH 6 rfl (by kernel_rfl) (by kernel_rfl) (by kernel_rfl) (fun _ _ _ h => h) hH rfl ?_
    try simp only [Act.put, List.setIfInBounds_toArray, List.set_cons_zero, List.set_cons_succ]
    refine skipH 7 rfl (by kernel_rfl) (by kernel_rfl) (by kernel_rfl) (fun _ _ _ h => h) hH rfl ?_
    try simp only [Act.put, List.setIfInBounds_toArray, List.set_cons_zero, List.set_cons_succ]
    refine skipH 8 rfl (by kernel_rfl) (by kernel_rfl) (by kernel_rfl) (fun _ _ _ h => h) hH rfl ?_
    try simp only [Act.put, List.setIfInBounds_toArray, List.set_cons_zero, List.set_cons_succ]
    refine skipH 9 rfl (by kernel_rfl) (by kernel_rfl) (by kernel_rfl) (fun _ _ _ h => h) hH rfl ?_
    try simp only [Act.put, List.setIfInBounds_toArray, List.set_cons_zero, List.set_cons_succ]
    refine takeH 10 (v := ?vex4) rfl (by kernel_rfl) (by kernel_rfl) (by kernel_rfl) (fun _ _ _ h => h) hH rfl ?yex4 ?rex4
    case yex4 => intro W hSw; go_simp; try with_reducible rfl
    try simp only [Act.put, List.setIfInBounds_toArray, List.set_cons_zero, List.set_cons_succ]
    refine wpAnyH_done (by kernel_rfl) ?_ _
    try simp only [Act.put]
    clear hH
    have S9 := Lib.hid (show Lg 63 w5 B (apL l x) (apF l n x) from by rw [(ap_no (n := n) Hno.out).1, (ap_no (l := l) (n := n) Hno.out).2]; exact S9.out)
    go_wp2
    go_ret
    exact ⟨ret_bool Hno.out.symm, S9.out, Hg.out⟩
  have h9 := HT.out
  rw [hbt] at h9
  have HT := Lib.hid h9; clear h9
  have Hbt := Lib.hid hbt; clear hbt
  refine callH 1 rfl (by kernel_rfl) rfl (fun K hK => ?_)
  go_simp
  refine (HT.out _).mono ?_
  rintro e w4 ⟨rfl, hb⟩
  have S0 := Lib.hid (show Str w4 w.heap.size 25 #[.int .i64 x.f, .int .i64 x.t, .int .i64 x.s, .int .i64 x.e] from (hb.block _ S0.out.lt).trans S0.out)
  have S9 := Lib.hid (show Lg 63 w4 B l n from (hb.block _ S9.out.lt).trans S9.out)
  have Hg := Lib.hid (grownBy_trans Hg.out (lg_weak hb B))
  clear hb
  refine hK.out _ _ ⟨S0.out.cell 0 (v := .int .i64 x.f) rfl, S0.out.cell 1 (v := .int .i64 x.t) rfl, S0.out.cell 2 (v := .int .i64 x.s) rfl, S0.out.cell 3 (v := .int .i64 x.e) rfl⟩ (fun hH => ?_)
  clear hK K
  try simp only [Act.put, List.setIfInBounds_toArray, List.set_cons_zero, List.set_cons_succ]
  refine takeH 2 (v := ?vex5) rfl (by kernel_rfl) (by kernel_rfl) (by kernel_rfl) (fun _ _ _ h => h) hH rfl ?yex5 ?rex5
  case yex5 => intro W hSw; go_simp; try with_reducible rfl
  try simp only [Act.put, List.setIfInBounds_toArray, List.set_cons_zero, List.set_cons_succ]
  refine takeH 3 (v := ?vex6) rfl (by kernel_rfl) (by kernel_rfl) (by kernel_rfl) (fun _ _ _ h => h) hH rfl ?yex6 ?rex6
  case yex6 => intro W hSw; go_simp; try with_reducible rfl
  try simp only [Act.put, List.setIfInBounds_toArray, List.set_cons_zero, List.set_cons_succ]
  refine takeH 4 (v := ?vex7) rfl (by kernel_rfl) (by kernel_rfl) (by kernel_rfl) (fun _ _ _ h => h) hH rfl ?yex7 ?rex7
  case yex7 => intro W hSw; go_simp; try with_reducible rfl
  try simp only [Act.put, List.setIfInBounds_toArray, List.set_cons_zero, List.set_cons_succ]
  refine takeH 5 (v := ?vex8) rfl (by kernel_rfl) (by kernel_rfl) (by kernel_rfl) (fun _ _ _ h => h) hH rfl ?yex8 ?rex8
  case yex8 => intro W hSw; go_simp; try with_reducible rfl
  try simp only [Act.put, List.setIfInBounds_toArray, List.set_cons_zero, List.set_cons_succ]
  refine takeH 6 (v := ?vex9) rfl (by kernel_rfl) (by kernel_rfl) (by kernel_rfl) (fun _ _ _ h => h) hH rfl ?yex9 ?rex9
  case yex9 => intro W hSw; go_simp; try with_reducible rfl
  try simp only [Act.put, List.setIfInBounds_toArray, List.set_cons_zero, List.set_cons_succ]
  refine takeH 7 (v := ?vex10) rfl (by kernel_rfl) (by kernel_rfl) (by kernel_rfl) (fun _ _ _ h => h) hH rfl ?yex10 ?rex10
  case yex10 => intro W hSw; go_simp; try with_reducible rfl
  try simp only [Act.put, List.setIfInBounds_toArray, List.set_cons_zero, List.set_cons_succ]
  rcases hbo with hbo | hbo
  case inr =>
    have h9 := fun W => HA.out W Hbt.out
    rw [hbo] at h9
    have HA := Lib.hid h9; clear h9
    have Hno := Lib.hid hbo
    clear hbo HM
    refine callH 8 rfl (by kernel_rfl) rfl (fun K hK => ?_)
    go_simp
    refine (HA.out _ S9.out).mono ?_
    rintro e w5 ⟨rfl, hb⟩
    have S0 := Lib.hid (show Str w5 w.heap.size 25 #[.int .i64 x.f, .int .i64 x.t, .int .i64 x.s, .int .i64 x.e] from (hb.block _ S0.out.lt).trans S0.out)
    have S9 := Lib.hid (show Lg 63 w5 B l n from (hb.block _ S9.out.lt).trans S9.out)
    have Hg := Lib.hid (grownBy_trans Hg.out (lg_weak hb B))
    clear hb
    refine hK.out _ _ ⟨S0.out.cell 0 (v := .int .i64 x.f) rfl, S0.out.cell 1 (v := .int .i64 x.t) rfl, S0.out.cell 2 (v := .int .i64 x.s) rfl, S0.out.cell 3 (v := .int .i64 x.e) rfl⟩ (fun hH => ?_)
    clear hK K
    try simp only [Act.put, List.setIfInBounds_toArray, List.set_cons_zero, List.set_cons_succ]
    refine takeH 9 (v := ?vex11) rfl (by kernel_rfl) (by kernel_rfl) (by kernel_rfl) (fun _ _ _ h => h) hH rfl ?yex11 ?rex11
    case yex11 => intro W hSw; go_simp; try with_reducible rfl
    try simp only [Act.put, List.setIfInBounds_toArray, List.set_cons_zero, List.set_cons_succ]
    refine takeH 10 (v := ?vex12) rfl (by kernel_rfl) (by kernel_rfl) (by kernel_rfl) (fun _ _ _ h => h) hH rfl ?yex12 ?rex12
    case yex12 => intro W hSw; go_simp; try with_reducible rfl
    try simp only [Act.put, List.setIfInBounds_toArray, List.set_cons_zero, List.set_cons_succ]
    refine wpAnyH_done (by kernel_rfl) ?_ _
    try simp only [Act.put]
    clear hH
    have S9 := Lib.hid (show Lg 63 w5 B (apL l x) (apF l n x) from by rw [(ap_no (n := n) Hno.out).1, (ap_no (l := l) (n := n) Hno.out).2]; exact S9.out)
    go_wp2
    go_ret
    exact ⟨ret_bool Hno.out.symm, S9.out, Hg.out⟩
  have h9 := fun W => HA.out W Hbt.out
  rw [hbo] at h9
  have HA := Lib.hid h9; clear h9
  have Hyes := Lib.hid hbo
  clear hbo
  refine callH 8 rfl (by kernel_rfl) rfl (fun K hK => ?_)
  go_simp
  refine (HA.out _ S9.out).mono ?_
  rintro e w5 ⟨rfl, hb⟩
  have S0 := Lib.hid (show Str w5 w.heap.size 25 #[.int .i64 x.f, .int .i64 x.t, .int .i64 x.s, .int .i64 x.e] from (hb.block _ S0.out.lt).trans S0.out)
  have S9 := Lib.hid (show Lg 63 w5 B l n from (hb.block _ S9.out.lt).trans S9.out)
  have Hg := Lib.hid (grownBy_trans Hg.out (lg_weak hb B))
  clear hb
  refine hK.out _ _ ⟨S0.out.cell 0 (v := .int .i64 x.f) rfl, S0.out.cell 1 (v := .int .i64 x.t) rfl, S0.out.cell 2 (v := .int .i64 x.s) rfl, S0.out.cell 3 (v := .int .i64 x.e) rfl⟩ (fun hH => ?_)
  clear hK K
  try simp only [Act.put, List.setIfInBounds_toArray, List.set_cons_zero, List.set_cons_succ]
  refine takeH 9 (v := ?vex13) rfl (by kernel_rfl) (by kernel_rfl) (by kernel_rfl) (fun _ _ _ h => h) hH rfl ?yex13 ?rex13
  case yex13 => intro W hSw; go_simp; try with_reducible rfl
  try simp only [Act.put, List.setIfInBounds_toArray, List.set_cons_zero, List.set_cons_succ]
  refine takeH 10 (v := ?vex14) rfl (by kernel_rfl) (by kernel_rfl) (by kernel_rfl) (fun _ _ _ h => h) hH rfl ?yex14 ?rex14
  case yex14 => intro W hSw; go_simp; try with_reducible rfl
  try simp only [Act.put, List.setIfInBounds_toArray, List.set_cons_zero, List.set_cons_succ]
  refine wpAnyH_done (by kernel_rfl) ?_ _
  try simp only [Act.put]
  clear hH
  go_wp2_with fail
  refine wp_region_held_drew (S := fun w' => w'.cell? ⟨w.heap.size, 0, none⟩ = some (.int .i64 x.f) ∧ w'.cell? ⟨w.heap.size, 1, none⟩ = some (.int .i64 x.t) ∧ w'.cell? ⟨w.heap.size, 2, none⟩ = some (.int .i64 x.s) ∧ w'.cell? ⟨w.heap.size, 3, none⟩ = some (.int .i64 x.e)) (by kernel_rfl) ⟨S0.out.cell 0 (v := .int .i64 x.f) rfl, S0.out.cell 1 (v := .int .i64 x.t) rfl, S0.out.cell 2 (v := .int .i64 x.s) rfl, S0.out.cell 3 (v := .int .i64 x.e) rfl⟩ (fun hH => ?_)
  have S0 := Lib.hid (show Str w5.drew w.heap.size 25 #[.int .i64 x.f, .int .i64 x.t, .int .i64 x.s, .int .i64 x.e] from S0.out)
  have Hg := Lib.hid (lg_drew Hg.out)
  have S9 := Lib.hid (show Lg 63 w5.drew B l n from S9.out)
  generalize w5.drew = w6 at *
  refine takeH 0 (v := ?vex15) rfl (by kernel_rfl) (by kernel_rfl) (by kernel_rfl) (fun _ _ _ h => h) hH rfl ?yex15 ?rex15
  case yex15 => intro W hSw; go_simp; try with_reducible rfl
  try simp only [Act.put, List.setIfInBounds_toArray, List.set_cons_zero, List.set_cons_succ]
  refine takeH 1 (v := ?vex16) rfl (by kernel_rfl) (by kernel_rfl) (by kernel_rfl) (fun _ _ _ h => h) hH rfl ?yex16 ?rex16
  case yex16 => intro W hSw; go_simp; try with_reducible rfl
  try simp only [Act.put, List.setIfInBounds_toArray, List.set_cons_zero, List.set_cons_succ]
  refine takeH 2 (v := ?vex17) rfl (by kernel_rfl) (by kernel_rfl) (by kernel_rfl) (fun _ _ _ h => h) hH rfl ?yex17 ?rex17
  case yex17 => intro W hSw; go_simp; try with_reducible rfl
  try simp only [Act.put, List.setIfInBounds_toArray, List.set_cons_zero, List.set_cons_succ]
  refine takeH 3 (v := ?vex18) rfl (by kernel_rfl) (by kernel_rfl) (by kernel_rfl) (fun _ _ _ h => h) hH rfl ?yex18 ?rex18
  case yex18 => intro W hSw; go_simp; try with_reducible rfl
  try simp only [Act.put, List.setIfInBounds_toArray, List.set_cons_zero, List.set_cons_succ]
  refine callH 4 rfl (by kernel_rfl) rfl (fun K hK => ?_)
  go_simp
  refine (HM.out _ Hyes.out S9.out).mono ?_
  rintro e w7 ⟨rfl, s9, hg⟩
  have S0 := Lib.hid (show Str w7 w.heap.size 25 #[.int .i64 x.f, .int .i64 x.t, .int .i64 x.s, .int .i64 x.e] from S0.out.kept hg (by simp; omega))
  have S9 := Lib.hid s9
  have Hg := Lib.hid (grownBy_trans Hg.out hg)
  clear hg s9
  refine hK.out _ _ ⟨S0.out.cell 0 (v := .int .i64 x.f) rfl, S0.out.cell 1 (v := .int .i64 x.t) rfl, S0.out.cell 2 (v := .int .i64 x.s) rfl, S0.out.cell 3 (v := .int .i64 x.e) rfl⟩ (fun hH => ?_)
  clear hK K
  try simp only [Act.put, List.setIfInBounds_toArray, List.set_cons_zero, List.set_cons_succ]
  refine wpAnyH_done (by kernel_rfl) ?_ _
  try simp only [Act.put]
  clear hH
  have hx9 := (txB_iff.1 Hbt.out).2.2.2.2
  have hw9 : IntKind.i64.wrap (n + x.e) = n + x.e := IntWalk.i64_in _ (by omega)
  clear hx9
  go_wp2_with fail
  refine wp_region_L 9 (fun w' => w'.cell? ⟨w.heap.size, 0, none⟩ = some (.int .i64 x.f) ∧ w'.cell? ⟨w.heap.size, 1, none⟩ = some (.int .i64 x.t) ∧ w'.cell? ⟨w.heap.size, 2, none⟩ = some (.int .i64 x.s) ∧ w'.cell? ⟨w.heap.size, 3, none⟩ = some (.int .i64 x.e) ∧ w'.cell? ⟨B, 6, none⟩ = some (.int .i64 n)) (by kernel_rfl) ⟨S0.out.cell 0 (v := .int .i64 x.f) rfl, S0.out.cell 1 (v := .int .i64 x.t) rfl, S0.out.cell 2 (v := .int .i64 x.s) rfl, S0.out.cell 3 (v := .int .i64 x.e) rfl, S9.out.fees⟩ (fun hH => ?_)
  have S0 := Lib.hid (show Str w7.drew w.heap.size 25 #[.int .i64 x.f, .int .i64 x.t, .int .i64 x.s, .int .i64 x.e] from S0.out)
  have Hg := Lib.hid (lg_drew Hg.out)
  have S9 := Lib.hid (show Lg 63 w7.drew B (apL l x) n from S9.out)
  generalize w7.drew = w8 at *
  refine takeL 0 (v := ?vex19) rfl (by kernel_rfl) (by kernel_rfl) (by kernel_rfl) (by kernel_rfl) (by kernel_rfl) (fun _ _ _ h => h) hH rfl ?yex19 ?rex19
  case yex19 => intro W hSw; go_simp; try with_reducible rfl
  try simp only [Act.put, List.setIfInBounds_toArray, List.set_cons_zero, List.set_cons_succ]
  refine takeL 1 (v := ?vex20) rfl (by kernel_rfl) (by kernel_rfl) (by kernel_rfl) (by kernel_rfl) (by kernel_rfl) (fun _ _ _ h => h) hH rfl ?yex20 ?rex20
  case yex20 => intro W hSw; go_simp; try with_reducible rfl
  try simp only [Act.put, List.setIfInBounds_toArray, List.set_cons_zero, List.set_cons_succ]
  refine takeL 2 (v := ?vex21) rfl (by kernel_rfl) (by kernel_rfl) (by kernel_rfl) (by kernel_rfl) (by kernel_rfl) (fun _ _ _ h => h) hH rfl ?yex21 ?rex21
  case yex21 => intro W hSw; go_simp; try with_reducible rfl
  try simp only [Act.put, List.setIfInBounds_toArray, List.set_cons_zero, List.set_cons_succ]
  refine takeL 3 (v := ?vex22) rfl (by kernel_rfl) (by kernel_rfl) (by kernel_rfl) (by kernel_rfl) (by kernel_rfl) (fun _ _ _ h => h) hH rfl ?yex22 ?rex22
  case yex22 => intro W hSw; go_simp; try with_reducible rfl
  try simp only [Act.put, List.setIfInBounds_toArray, List.set_cons_zero, List.set_cons_succ]
  refine takeL 4 (v := ?vex23) rfl (by kernel_rfl) (by kernel_rfl) (by kernel_rfl) (by kernel_rfl) (by kernel_rfl) (fun _ _ _ h => h) hH rfl ?yex23 ?rex23
  case yex23 => intro W hSw; go_simp; try with_reducible rfl
  try simp only [Act.put, List.setIfInBounds_toArray, List.set_cons_zero, List.set_cons_succ]
  refine takeL 5 (v := ?vex24) rfl (by kernel_rfl) (by kernel_rfl) (by kernel_rfl) (by kernel_rfl) (by kernel_rfl) (fun _ _ _ h => h) hH rfl ?yex24 ?rex24
  case yex24 => intro W hSw; go_simp; try with_reducible rfl
  try simp only [Act.put, List.setIfInBounds_toArray, List.set_cons_zero, List.set_cons_succ]
  refine takeL 6 (v := .int .i64 (n + x.e)) rfl (by kernel_rfl) (by kernel_rfl) (by kernel_rfl) (by kernel_rfl) (by kernel_rfl) (fun _ _ _ h => h) hH rfl ?yex25 ?rex25
  case yex25 => intro W hSw; go_simp; first | done | (simp [hw9])
  try simp only [Act.put, List.setIfInBounds_toArray, List.set_cons_zero, List.set_cons_succ]
  refine callL 7 rfl (by kernel_rfl) rfl (fun K hK => ?_)
  go_simp
  refine hK.out _ _ ⟨S0.out.cell 0 (v := .int .i64 x.f) rfl, S0.out.cell 1 (v := .int .i64 x.t) rfl, S0.out.cell 2 (v := .int .i64 x.s) rfl, S0.out.cell 3 (v := .int .i64 x.e) rfl, S9.out.fees⟩ (fun hH => ?_)
  clear hK K
  try simp only [Act.put, List.setIfInBounds_toArray, List.set_cons_zero, List.set_cons_succ]
  refine takeL 8 (v := ?vex26) rfl (by kernel_rfl) (by kernel_rfl) (by kernel_rfl) (by kernel_rfl) (by kernel_rfl) (fun _ _ _ h => h) hH rfl ?yex26 ?rex26
  case yex26 => intro W hSw; go_simp; try with_reducible rfl
  try simp only [Act.put, List.setIfInBounds_toArray, List.set_cons_zero, List.set_cons_succ]
  refine lastL rfl (by kernel_rfl) (by kernel_rfl) (by kernel_rfl) rfl (fun K hK => ?_)
  have y9 := S9.out.frozen 6
  have q9 := S9.out.fees
  go_simp
  clear y9 q9
  have S9 := Lib.hid (S9.out.setf (n + x.e))
  have Hg := Lib.hid (grownBy_trans Hg.out (grownBy_set w8 B 6 (.int .i64 (n + x.e))))
  refine hK.out _ _ ?_
  clear hK K hH
  try simp only [Act.put]
  generalize (w8.setCell ⟨B, 6, none⟩ (.int .i64 (n + x.e))) = W9 at *
  have S9 := Lib.hid (show Lg 63 W9 B (apL l x) (apF l n x) from by rw [(ap_yes (l := l) (n := n) Hyes.out).2]; exact S9.out)
  go_wp2
  go_ret
  exact ⟨ret_bool Hyes.out.symm, S9.out, Hg.out⟩

set_option maxHeartbeats 2000000 in
theorem lg_copied (B : Nat) (l : List Int) (n : Int) (w : World) (h6 : l.length = 6) (hs : Lg 63 w B l n) :
    Calls Try.prog 48 #[.pointer (some ⟨B, 0, none⟩)] w fun e w' => ∃ v, e = .returned (.agg #[v, .int .i64 n]) ∧ Own 3 w' w.heap.size v l ∧ Below w.heap.size w w' := by
  have hb0 : Below w.heap.size w (w.alloc (.cells #[.slice none 0 0, .int .i64 0] 44)) := (Below.refl _ _).alloc (Nat.le_refl _) _
  have s1 := Str.new w 44 #[.slice none 0 0, .int .i64 0]
  have s9 : Lg 63 (w.alloc (.cells #[.slice none 0 0, .int .i64 0] 44)) B l n := Str.alloc hs _
  have hz : (w.alloc (.cells #[.slice none 0 0, .int .i64 0] 44)).heap.size = w.heap.size + 1 := by simp
  have hBw := hs.lt
  have hBne : w.heap.size ≠ B := by omega
  have S1 := Lib.hid s1; have S9 := Lib.hid s9; have Hb := Lib.hid hb0; have H6 := Lib.hid h6; clear s1 s9 hb0 hs
  have hC := fun W (h : Lg 63 W B l n) => lib_Clone TIl (some ⟨B, 0, none⟩) 6 l W (by omega) (.inr ⟨_, rfl, fun j hj => by rw [addr_add, ← gd_at hj]; exact h.at (by omega)⟩) (.inr ⟨B, 0, rfl, h.lt, fun j hj => by rw [Nat.zero_add, ← gd_at hj]; exact h.at (by omega)⟩)
  rw [h6] at hC
  have HC := Lib.hid hC; clear hC h6
  go_enter Try.func48, Try.ntmps48
  go_wp2_with fail
  generalize (w.alloc (.cells #[.slice none 0 0, .int .i64 0] 44)) = W0 at *
  refine wp_region_held_drew (S := fun w' => w'.cell? ⟨B, 6, none⟩ = some (.int .i64 n)) (by kernel_rfl) S9.out.fees (fun hH => ?_)
  have S1 := Lib.hid (show Str W0.drew w.heap.size 44 #[.slice none 0 0, .int .i64 0] from S1.out)
  have S9 := Lib.hid (show Lg 63 W0.drew B l n from S9.out)
  have Hb := Lib.hid Hb.out.drew
  have hzd : W0.drew.heap.size = w.heap.size + 1 := hz
  generalize W0.drew = wd at *
  refine takeH 0 (v := ?vcp1) rfl (by kernel_rfl) (by kernel_rfl) (by kernel_rfl) (fun _ _ _ h => h) hH rfl ?ycp1 ?rcp1
  case ycp1 => intro W hSw; go_simp; try with_reducible rfl
  try simp only [Act.put, List.setIfInBounds_toArray, List.set_cons_zero, List.set_cons_succ]
  refine takeH 1 (v := ?vcp2) rfl (by kernel_rfl) (by kernel_rfl) (by kernel_rfl) (fun _ _ _ h => h) hH rfl ?ycp2 ?rcp2
  case ycp2 => intro W hSw; go_simp; try with_reducible rfl
  try simp only [Act.put, List.setIfInBounds_toArray, List.set_cons_zero, List.set_cons_succ]
  refine takeH 2 (v := ?vcp3) rfl (by kernel_rfl) (by kernel_rfl) (by kernel_rfl) (fun _ _ _ h => h) hH rfl ?ycp3 ?rcp3
  case ycp3 => intro W hSw; go_simp; try with_reducible rfl
  try simp only [Act.put, List.setIfInBounds_toArray, List.set_cons_zero, List.set_cons_succ]
  refine takeH 3 (v := ?vcp4) rfl (by kernel_rfl) (by kernel_rfl) (by kernel_rfl) (fun _ _ _ h => h) hH rfl ?ycp4 ?rcp4
  case ycp4 => intro W hSw; go_simp; try with_reducible rfl
  try simp only [Act.put, List.setIfInBounds_toArray, List.set_cons_zero, List.set_cons_succ]
  refine takeH 5 (v := ?vcp5) rfl (by kernel_rfl) (by kernel_rfl) (by kernel_rfl) (fun _ _ _ h => h) hH rfl ?ycp5 ?rcp5
  case ycp5 => intro W hSw; go_simp; try with_reducible rfl
  try simp only [Act.put, List.setIfInBounds_toArray, List.set_cons_zero, List.set_cons_succ]
  refine takeH 6 (v := ?vcp6) rfl (by kernel_rfl) (by kernel_rfl) (by kernel_rfl) (fun _ _ _ h => h) hH rfl ?ycp6 ?rcp6
  case ycp6 => intro W hSw; go_simp; try with_reducible rfl
  try simp only [Act.put, List.setIfInBounds_toArray, List.set_cons_zero, List.set_cons_succ]
  refine takeH 7 (v := ?vcp7) rfl (by kernel_rfl) (by kernel_rfl) (by kernel_rfl) (fun _ _ _ h => h) hH rfl ?ycp7 ?rcp7
  case ycp7 => intro W hSw; go_simp; try with_reducible rfl
  try simp only [Act.put, List.setIfInBounds_toArray, List.set_cons_zero, List.set_cons_succ]
  refine takeH 8 (v := ?vcp8) rfl (by kernel_rfl) (by kernel_rfl) (by kernel_rfl) (fun _ _ _ h => h) hH rfl ?ycp8 ?rcp8
  case ycp8 => intro W hSw; go_simp; try with_reducible rfl
  try simp only [Act.put, List.setIfInBounds_toArray, List.set_cons_zero, List.set_cons_succ]
  refine callH 4 rfl (by kernel_rfl) rfl (fun K hK => ?_)
  go_simp
  refine (HC.out _ S9.out).mono ?_
  rintro e w5 ⟨v, rfl, ho, hb⟩
  have S1 := Lib.hid (show Str w5 w.heap.size 44 #[.slice none 0 0, .int .i64 0] from (hb.block _ S1.out.lt).trans S1.out)
  have S9 := Lib.hid (show Lg 63 w5 B l n from (hb.block _ S9.out.lt).trans S9.out)
  have Hb := Lib.hid (below_step Hb.out Hb.out.size hb)
  have OL := Lib.hid ho
  obtain ⟨va, vc, rfl, _, _⟩ := ho.ints
  skip
  clear hb ho
  refine hK.out _ _ S9.out.fees (fun hH => ?_)
  clear hK K
  try simp only [Act.put, List.setIfInBounds_toArray, List.set_cons_zero, List.set_cons_succ]
  refine takeH 9 (v := ?vcp9) rfl (by kernel_rfl) (by kernel_rfl) (by kernel_rfl) (fun _ _ _ h => h) hH rfl ?ycp9 ?rcp9
  case ycp9 => intro W hSw; go_simp; try with_reducible rfl
  try simp only [Act.put, List.setIfInBounds_toArray, List.set_cons_zero, List.set_cons_succ]
  refine callH 10 rfl (by kernel_rfl) rfl (fun K hK => ?_)
  have y0 := S1.out.frozen 0
  have y1 := S1.out.frozen 1
  have v0 := S1.out.cell 0 (v := .slice none 0 0) rfl
  have v1 := S1.out.cell 1 (v := .int .i64 0) rfl
  go_simp
  clear y0 y1 v0 v1
  have hne : (Value.slice va l.length vc).ownBlock ≠ some w.heap.size := fun e => by have := (OL.out.lt _ e).1; omega
  have SF := Lib.hid ((S1.out.set 0 (.slice va l.length vc)).set 1 (.int .i64 n))
  have S9 := Lib.hid ((S9.out.other (B' := w.heap.size) (by omega) 0 (.slice va l.length vc)).other (B' := w.heap.size) (by omega) 1 (.int .i64 n))
  have OL := Lib.hid ((OL.out.set_other hne 0 (.slice va l.length vc)).set_other hne 1 (.int .i64 n))
  have Hb := Lib.hid ((Hb.out.setCell (p := ⟨w.heap.size, 0, none⟩) (Nat.le_refl _) (.slice va l.length vc)).setCell (p := ⟨w.heap.size, 1, none⟩) (Nat.le_refl _) (.int .i64 n))
  refine hK.out _ _ (Str.cell S9.out 6 rfl) (fun hH => ?_)
  clear hK K hne
  try simp only [Act.put, List.setIfInBounds_toArray, List.set_cons_zero, List.set_cons_succ]
  generalize ((w5.setCell ⟨w.heap.size, 0, none⟩ (.slice va l.length vc)).setCell ⟨w.heap.size, 1, none⟩ (.int .i64 n)) = we at *
  refine wpAnyH_done (by kernel_rfl) ?_ _
  try simp only [Act.put]
  clear hH
  have e0 := SF.out.cell 0 (v := .slice va l.length vc) rfl
  have e1 := SF.out.cell 1 (v := .int .i64 n) rfl
  go_wp2
  refine bodyPost_ret (v := .agg #[.slice va l.length vc, .int .i64 n]) (by simp [results, Try.f48, go_sem, e0, e1]) rfl ?_
  exact ⟨_, rfl, OL.out.mono (by omega), Hb.out⟩

end Go.Proofs.Ytnjjbplocokdeab

/- The reference's LedgerTotal, by a walk of its text; condition: the list is shorter than 2^40. -/
namespace Go.Proofs.Ytnjjbplocokdeab
open Go.RowKit

end Go.Proofs.Ytnjjbplocokdeab

/- LedgerValid, LedgerTotal and LedgerApply of the program, and LedgerApply of the reference, each by a walk of its text; condition: the list is shorter than 2^40. -/
namespace Go.Proofs.Ytnjjbplocokdeab
open Go.RowKit

def laL (l : List Int) (n : Int) (x : Tx) : List Int := if roomB l n 1 then apL l x else []
def laF (l : List Int) (n : Int) (x : Tx) : Int := if roomB l n 1 then apF l n x else 0
def laO (l : List Int) (n : Int) (x : Tx) : Bool := roomB l n 1 && okT l x
theorem la_no {l : List Int} {n : Int} {x : Tx} (h : roomB l n 1 = false) : laL l n x = [] ∧ laF l n x = 0 ∧ laO l n x = false := by unfold laL laF laO; rw [h]; exact ⟨rfl, rfl, rfl⟩
theorem la_yes {l : List Int} {n : Int} {x : Tx} (h : roomB l n 1 = true) : laL l n x = apL l x ∧ laF l n x = apF l n x ∧ laO l n x = okT l x := by unfold laL laF laO; rw [h]; exact ⟨rfl, rfl, rfl⟩
theorem room_iff {l : List Int} {n m : Int} : roomB l n m = true ↔ ldB l n = true ∧ n ≤ 5994 - 9 * m := by unfold roomB; rw [Bool.and_eq_true, decide_eq_true_eq]
theorem la_len {l : List Int} {n : Int} {x : Tx} (h : l.length ≤ 6) : (laL l n x).length ≤ 6 := by
  unfold laL; split
  · rw [ap_len]; exact h
  · simp
theorem la_len6 (l : List Int) (n : Int) (x : Tx) : (laL l n x).length ≤ 6 := by
  unfold laL; split
  · rename_i h
    rw [ap_len, (ldB_iff.1 (room_iff.1 h).1).2.1]; exact Nat.le_refl 6
  · simp
theorem la_room {l : List Int} {n : Int} {x : Tx} (h : laO l n x = true) : roomB l n 1 = true := by unfold laO at h; rw [Bool.and_eq_true] at h; exact h.1
theorem la_true {l : List Int} {n : Int} {x : Tx} (h : laO l n x = true) : ldB l n = true ∧ okT l x = true ∧ laL l n x = apL l x ∧ laF l n x = n + x.e := by
  have hr := la_room h
  obtain ⟨h1, h2, h3⟩ := la_yes (x := x) hr
  have ho : okT l x = true := by rw [← h3]; exact h
  exact ⟨(room_iff.1 hr).1, ho, h1, by rw [h2]; exact (ap_yes ho).2⟩
theorem la_back {l G : List Int} {n F f t s : Int} (hr : roomB l n 1 = true) (hok : okT l ⟨f, t, s, 0⟩ = true) (hG : G = apL l ⟨f, t, s, 0⟩) (hF : F = laF l n ⟨f, t, s, 0⟩) :
    laL G F ⟨t, f, s, 0⟩ = l ∧ laF G F ⟨t, f, s, 0⟩ = n ∧ laO G F ⟨t, f, s, 0⟩ = true := by
  obtain ⟨hv, hn⟩ := room_iff.1 hr
  rw [(la_yes hr).2.1] at hF
  obtain ⟨q1, q2, q3⟩ := ap_back hv hok rfl
  have hFn : F = n := by rw [hF, (ap_yes hok).2]; simp
  have hr2 : roomB G F 1 = true := room_iff.2 ⟨by rw [hG, hF]; exact ap_valid _ hv (by omega), by omega⟩
  obtain ⟨h1, h2, h3⟩ := la_yes (x := ⟨t, f, s, 0⟩) hr2
  rw [h1, h2, h3, hG, hF]
  exact ⟨q2, q3, q1⟩
/-- What LedgerApply answers. -/
def LaP (E : TypeId) (w : World) (l : List Int) (n : Int) (x : Tx) (e : Ending) (w' : World) : Prop := ∃ v, e = .returned (.tuple #[.agg #[v, .int .i64 (laF l n x)], .bool (laO l n x)]) ∧ Own E w' w.heap.size v (laL l n x) ∧ Below w.heap.size w w'
theorem LaP.no {E : TypeId} {w w' : World} {l : List Int} {n : Int} {x : Tx} {e : Ending} (h : roomB l n 1 = false) (he : e = .returned (.tuple #[.agg #[.slice none 0 0, .int .i64 0], .bool false])) (hb : Below w.heap.size w w') : LaP E w l n x e w' := by
  obtain ⟨h1, h2, h3⟩ := la_no (x := x) h
  unfold LaP; rw [h1, h2, h3]
  exact ⟨_, he, Own.nil _ _ _, hb⟩
theorem LaP.yes {E : TypeId} {w w' : World} {l : List Int} {n : Int} {x : Tx} {e : Ending} {v : Value} (h : roomB l n 1 = true) (he : e = .returned (.tuple #[.agg #[v, .int .i64 (apF l n x)], .bool (okT l x)])) (ho : Own E w' w.heap.size v (apL l x)) (hb : Below w.heap.size w w') : LaP E w l n x e w' := by
  obtain ⟨h1, h2, h3⟩ := la_yes (x := x) h
  unfold LaP; rw [h1, h2, h3]
  exact ⟨_, he, ho, hb⟩

end Go.Proofs.Ytnjjbplocokdeab

/- What LedgerRun answers; the reference's LedgerRun, by a walk of its text; condition: the lists are shorter than 2^40. -/
namespace Go.Proofs.Ytnjjbplocokdeab
open Go.RowKit

def ruB (l : List Int) (n : Int) (xs : List Tx) : Bool := roomB l n 16 && decide (xs.length ≤ 16)
def ruL (l : List Int) (n : Int) (xs : List Tx) : List Int := if ruB l n xs then rnL l xs else []
def ruF (l : List Int) (n : Int) (xs : List Tx) : Int := if ruB l n xs then rnF l n xs else 0
def ruO (l : List Int) (n : Int) (xs : List Tx) : List Bool := if ruB l n xs then rnO l xs else []
theorem ru_no {l : List Int} {n : Int} {xs : List Tx} (h : ruB l n xs = false) : ruL l n xs = [] ∧ ruF l n xs = 0 ∧ ruO l n xs = [] := by unfold ruL ruF ruO; rw [h]; exact ⟨rfl, rfl, rfl⟩
theorem ru_yes {l : List Int} {n : Int} {xs : List Tx} (h : ruB l n xs = true) : ruL l n xs = rnL l xs ∧ ruF l n xs = rnF l n xs ∧ ruO l n xs = rnO l xs := by unfold ruL ruF ruO; rw [h]; exact ⟨rfl, rfl, rfl⟩
theorem ru_iff {l : List Int} {n : Int} {xs : List Tx} : ruB l n xs = true ↔ ldB l n = true ∧ n ≤ 5850 ∧ xs.length ≤ 16 := by unfold ruB; rw [Bool.and_eq_true, room_iff, decide_eq_true_eq]; exact ⟨fun ⟨⟨h1, h2⟩, h3⟩ => ⟨h1, by omega, h3⟩, fun ⟨h1, h2, h3⟩ => ⟨⟨h1, by omega⟩, h3⟩⟩
/-- What LedgerRun answers. -/
def RuP (E Eb : TypeId) (w : World) (l : List Int) (n : Int) (xs : List Tx) (e : Ending) (w' : World) : Prop := ∃ v u, e = .returned (.tuple #[.agg #[v, .int .i64 (ruF l n xs)], u]) ∧ Own E w' w.heap.size v (ruL l n xs) ∧ OwnB Eb w' w.heap.size u (ruO l n xs) ∧ Below w.heap.size w w'
theorem RuP.no {E Eb : TypeId} {w w' : World} {l : List Int} {n : Int} {xs : List Tx} {u : Value} (h : ruB l n xs = false) (ho : OwnB Eb w' w.heap.size u []) (hb : Below w.heap.size w w') : RuP E Eb w l n xs (.returned (.tuple #[.agg #[.slice none 0 0, .int .i64 0], u])) w' := by
  obtain ⟨h1, h2, h3⟩ := ru_no h
  unfold RuP; rw [h1, h2, h3]
  exact ⟨_, u, rfl, Own.nil _ _ _, ho, hb⟩
theorem RuP.yes {E Eb : TypeId} {w w' : World} {l : List Int} {n : Int} {xs : List Tx} {v u : Value} (h : ruB l n xs = true) (hv : Own E w' w.heap.size v (rnL l xs)) (ho : OwnB Eb w' w.heap.size u (rnO l xs)) (hb : Below w.heap.size w w') : RuP E Eb w l n xs (.returned (.tuple #[.agg #[v, .int .i64 (rnF l n xs)], u])) w' := by
  obtain ⟨h1, h2, h3⟩ := ru_yes h
  unfold RuP; rw [h1, h2, h3]
  exact ⟨v, u, rfl, hv, ho, hb⟩

end Go.Proofs.Ytnjjbplocokdeab

/- Plain facts on runs for the laws; nothing here is walked. -/
namespace Go.Proofs.Ytnjjbplocokdeab
open Go.RowKit

theorem ru_len (l : List Int) (n : Int) (xs : List Tx) : (ruL l n xs).length ≤ 6 := by
  unfold ruL; split
  · rename_i h
    rw [(rn_len _ _).1, (ldB_iff.1 (ru_iff.1 h).1).2.1]; exact Nat.le_refl 6
  · simp
theorem ru_lenO (l : List Int) (n : Int) (xs : List Tx) : (ruO l n xs).length ≤ 16 := by
  unfold ruO; split
  · rename_i h
    rw [(rn_len _ _).2]; exact (ru_iff.1 h).2.2
  · simp
/-- The transactions of a first part that succeed. -/
theorem suc_take {xs : List Tx} {k : Nat} (hk : k < xs.length) : ∀ (l : List Int), sucL l (xs.take (k + 1)) = sucL l (xs.take k) ++ (if okT (rnL l (xs.take k)) xs[k] then [xs[k]] else []) := by
  induction xs generalizing k with
  | nil => exact absurd hk (by simp)
  | cons x xs ih =>
    intro l
    cases k with
    | zero =>
      simp only [List.take_succ_cons, List.take_zero, sucL, rnL, List.getElem_cons_zero]
      split <;> rfl
    | succ k =>
      have hk' : k < xs.length := by simpa using hk
      simp only [List.take_succ_cons, sucL, rnL, List.getElem_cons_succ]
      cases ho : okT l x with
      | false => rw [(ap_no (n := 0) ho).1]; exact ih hk' l
      | true =>
        have := ih hk' (apL l x)
        simp only [if_true, List.cons_append]
        rw [this]
theorem suc_len : ∀ (xs : List Tx) (l : List Int), (sucL l xs).length ≤ xs.length
  | [], _ => by simp [sucL]
  | x :: xs, l => by
    have h1 := suc_len xs (apL l x)
    have h2 := suc_len xs l
    rw [sucL]; split <;> simp <;> omega
theorem ru_suc {l : List Int} {n : Int} {xs : List Tx} (h : ruB l n xs = true) : ruL l n (sucL l xs) = rnL l xs ∧ ruF l n (sucL l xs) = rnF l n xs ∧ ∀ b ∈ ruO l n (sucL l xs), b = true := by
  obtain ⟨h1, h2, h3⟩ := ru_iff.1 h
  have hr : ruB l n (sucL l xs) = true := ru_iff.2 ⟨h1, h2, Nat.le_trans (suc_len xs l) h3⟩
  obtain ⟨e1, e2, e3⟩ := ru_yes hr
  obtain ⟨s1, s2, s3⟩ := suc_run xs l n
  rw [e1, e2, e3]
  exact ⟨s1, s2, s3⟩
theorem rnO_at : ∀ (xs : List Tx) (l : List Int) (k : Nat) (h : k < (rnO l xs).length) (h' : k < xs.length), (rnO l xs)[k] = okT (rnL l (xs.take k)) xs[k]
  | x :: xs, l, 0, _, _ => rfl
  | x :: xs, l, k + 1, h, h' => by
    have := rnO_at xs (apL l x) k (by simpa [rnO] using h) (by simpa using h')
    simpa [rnO, rnL] using this
/-- A run in two parts. -/
theorem ru_parts {l : List Int} {n : Int} {xs : List Tx} (h : ruB l n xs = true) (k : Nat) (hk : k ≤ xs.length) :
    ruB l n (xs.take k) = true ∧ ldB (rnL l (xs.take k)) (rnF l n (xs.take k)) = true ∧ rnL (rnL l (xs.take k)) (xs.drop k) = rnL l xs ∧ rnF (rnL l (xs.take k)) (rnF l n (xs.take k)) (xs.drop k) = rnF l n xs ∧ rnO l (xs.take k) ++ rnO (rnL l (xs.take k)) (xs.drop k) = rnO l xs := by
  obtain ⟨h1, h2, h3⟩ := ru_iff.1 h
  obtain ⟨a1, a2, a3⟩ := rn_app (xs.take k) (xs.drop k) l n
  rw [List.take_append_drop] at a1 a2 a3
  have hl : (xs.take k).length ≤ xs.length := by rw [List.length_take]; omega
  exact ⟨ru_iff.2 ⟨h1, h2, by omega⟩, rn_valid _ _ _ h1 (by omega), a1.symm, a2.symm, a3.symm⟩

end Go.Proofs.Ytnjjbplocokdeab

/- Rows of transactions as the exact laws have them; nothing here is walked. -/
namespace Go.Proofs.Ytnjjbplocokdeab
open Go.RowKit

theorem rows_tx : ∀ {es : List (List Fd)}, (∀ e ∈ es, txnP e) → ∃ g : List Tx, es = g.map txF
  | [], _ => ⟨[], rfl⟩
  | e :: es, h => by
    obtain ⟨g, rfl⟩ := rows_tx (es := es) fun x hx => h x (List.mem_cons_of_mem _ hx)
    obtain ⟨x0, x1, x2, x3, rfl⟩ := h e List.mem_cons_self
    exact ⟨⟨x0, x1, x2, x3⟩ :: g, rfl⟩

end Go.Proofs.Ytnjjbplocokdeab

/- Lists of lists of numbers as the exact laws have them: equality, marks, what holds them, each by a walk of its text; conditions: the lists are shorter than 2^40. -/
namespace Go.Proofs.Ytnjjbplocokdeab
open Go.RowKit

def intSP (e : List Fd) : Prop := ∃ x : List Int, e = [.l x]
theorem intSP_len {es : List (List Fd)} (h : ∀ e ∈ es, intSP e) : ∀ e ∈ es, e.length = 1 := by
  intro e he; obtain ⟨x, rfl⟩ := h e he; rfl
theorem ln_intS (l : List Nat) : intSP (lnF l) := ⟨zs l, rfl⟩
theorem szE_lnF (l : List Nat) : szE (lnF l) = l.length := by simp [szE, lnF, Fd.sz, zs_len]
/-- What the exact laws ask of the rows of lanes. -/
theorem ln_answer {ls : List (List Nat)} (h1 : ls.length ≤ 16) (h2 : ∀ l ∈ ls, l.length ≤ 16) : (ls.map lnF).length ≤ 1048576 ∧ (∀ e ∈ ls.map lnF, intSP e) ∧ (∀ e ∈ ls.map lnF, lnE e ≤ 1099511627776) ∧ ∀ k, kTo (ls.map lnF) k (ls.map lnF).length ≤ k + 1048576 := by
  refine ⟨by rw [List.length_map]; omega, fun e he => ?_, fun e he => ?_, fun k => ?_⟩
  · obtain ⟨l, _, rfl⟩ := List.mem_map.1 he; exact ln_intS l
  · obtain ⟨l, hl, rfl⟩ := List.mem_map.1 he
    have := h2 l hl
    simp [lnE, lnF, Fd.ln, zs_len]; omega
  · unfold kTo
    rw [List.take_length]
    have key : ∀ ls : List (List Nat), (∀ l ∈ ls, l.length ≤ 16) → ((ls.map lnF).map szE).sum ≤ 16 * ls.length := by
      intro ls
      induction ls with
      | nil => intro _; simp
      | cons l ls ih =>
        intro h
        have e1 := ih fun x hx => h x (List.mem_cons_of_mem _ hx)
        have e2 := h l (by simp)
        rw [List.map_cons, List.map_cons, List.sum_cons, szE_lnF, List.length_cons]
        omega
    have := key ls h2
    omega

set_option maxHeartbeats 1000000 in
theorem laws_eqIntSSR (es : List (List Fd)) (v v' : Value) (fp fp' : List Nat) (w : World) (hbig : es.length ≤ 1099511627776) (hp : ∀ e ∈ es, intSP e) (hl : ∀ e ∈ es, lnE e ≤ 1099511627776) (hr : Rd w (rowsD es) v fp) (hr' : Rd w (rowsD es) v' fp') :
    Calls Try.prog 14 #[v, v'] w fun e w' => e = .returned (.bool true) ∧ Below w.heap.size w w' := by
  have Hm := Lib.hid (intSP_len hp)
  obtain ⟨a, cap, rfl⟩ := Rd.slice hr
  obtain ⟨a', cap', rfl⟩ := Rd.slice hr'
  rw [List.length_map] at *
  have Hr := Lib.hid hr; clear hr
  have Hr' := Lib.hid hr'; clear hr'
  have Hp := Lib.hid hp; clear hp
  have Hl := Lib.hid hl; clear hl
  go_enter Try.func14, Try.ntmps14
  go_wp2
  go_loopw [5] (fun i wr => ∃ k : Nat, k ≤ es.length ∧ i = .int .i64 k ∧ Drawn w wr) (fun i _ => es.length - (intOf i).toNat)
  case atStart => exact ⟨0, by omega, rfl, Drawn.refl _⟩
  case round =>
    obtain ⟨k, hk, rfl, hwr⟩ := hrel
    by_cases hlt : k < es.length
    · have hlt' : (k : Int) < (es.length : Int) := by omega
      obtain ⟨g, off, rfl, hg, hat⟩ := rows_at (Hr.out.under (hwr.below _)) (by omega) Hm.out
      obtain ⟨g', off', rfl, hg', hat'⟩ := rows_at (Hr'.out.under (hwr.below _)) (by omega) Hm.out
      obtain ⟨x0, he⟩ := Hp.out _ (List.getElem_mem hlt)
      have hle := Hl.out _ (List.getElem_mem hlt)
      rw [he] at hle
      obtain ⟨v0, f0, C0, R0⟩ := hat k hlt 0 (by rw [he]; simp)
      obtain ⟨pa, pc, rfl, i0, _⟩ := rd_ls (xs := x0) R0 (by simp only [he]; rfl)
      obtain ⟨v1, f1, C1, R1⟩ := hat' k hlt 0 (by rw [he]; simp)
      obtain ⟨qa, qc, rfl, i1, _⟩ := rd_ls (xs := x0) R1 (by simp only [he]; rfl)
      have hx0 : x0.length ≤ 1099511627776 := by simpa [lnE, Fd.ln] using hle
      have Hs := Lib.hid (fun m => laws_eqIntS' pa qa pc qc x0 (wr.drewN m) hx0 i0 i1)
      simp only [Nat.add_zero, Nat.mul_one] at C0 C1
      clear hat hat' R0 R1 i0 i1 hle he
      have Hwr := Lib.hid hwr; clear hwr
      go_wp2_with fail
      go_quiet ((go_at_call 35; exact Calls.quiet_of (Hs.out _)))
      clear C0 C1
      go_wp2
      go_roundw
      case rel => exact ⟨k + 1, by omega, by go_num, Hwr.out.drewN _⟩
      case measure => simp [intOf]; omega
    · have hlt' : ¬ (k : Int) < (es.length : Int) := by omega
      go_wp2
      go_ret
      exact ⟨rfl, hwr.below _⟩

set_option maxHeartbeats 2000000 in
theorem laws_markIntSSR (es : List (List Fd)) (v : Value) (k B hi : Nat) (w : World) (hk : kTo es k es.length ≤ 1099511627776) (hp : ∀ e ∈ es, intSP e) (hown : OwnR 40 3 1 w B hi v es) :
    Calls Try.prog 17 #[v, .int .i64 k] w fun e w' => e = .returned (.int .i64 ((kTo es k es.length : Nat) : Int)) ∧ OwnR 40 3 1 w' B hi v (mkTo es k es.length) ∧ Btw B hi w w' := by
  obtain ⟨a, cap, rfl, hml9⟩ := hown.slice
  unfold maxLen at hml9
  rw [← mkTo_zero es k, mkTo_len] at hown
  have Hown := Lib.hid hown; clear hown
  have Hp := Lib.hid hp; clear hp
  have Hk := Lib.hid (fun j (h : j ≤ es.length) => Nat.le_trans (kTo_le (es := es) (k := k) h) hk)
  have hk0 : k ≤ 1099511627776 := by have := Hk.out 0 (Nat.zero_le _); rwa [kTo_zero] at this
  clear hk
  go_enter Try.func17, Try.ntmps17
  go_wp2
  go_loopw [1, 5] (fun c i wr => ∃ j : Nat, j ≤ es.length ∧ i = .int .i64 j ∧ c = .int .i64 ((kTo es k j : Nat) : Int) ∧ OwnR 40 3 1 wr B hi (.slice a es.length cap) (mkTo es k j) ∧ Btw B hi w wr) (fun _ i _ => es.length - (intOf i).toNat)
  case atStart => exact ⟨0, by omega, rfl, by rw [kTo_zero], Hown.out, Btw.refl _ _ _⟩
  case round =>
    obtain ⟨j, hj, rfl, rfl, hrow, hbt⟩ := hrel
    by_cases hlt : j < es.length
    · have hlt' : (j : Int) < (es.length : Int) := by omega
      have hml := mkTo_len es k j
      obtain ⟨g, cap', hv, hBg, hgh, hgs⟩ := hrow.head (by rw [hml]; omega)
      simp only [Value.slice.injEq] at hv
      obtain ⟨rfl, hvl, rfl⟩ := hv
      clear hvl
      have hjm : j < (mkTo es k j).length := by omega
      obtain ⟨x0, he⟩ := Hp.out _ (List.getElem_mem hlt)
      have hset := mkTo_set (k := k) hlt
      have hnx := kTo_succ (k := k) hlt
      have hkb := Hk.out (j + 1) hlt
      have hkb0 := Hk.out j (by omega)
      have hr0 := hrow
      rw [← set_self' hjm ((mkTo_at hlt hjm).trans he)] at hr0
      rw [he] at hset hnx
      simp only [mkE, Fd.mk'] at hset
      simp only [nxE, Fd.nx] at hnx
      rw [hnx] at hkb
      generalize hes : mkTo es k j = rs at *
      have Hset := Lib.hid hset; clear hset
      have Hnx := Lib.hid hnx; clear hnx
      have Hes := Lib.hid hes; clear hes
      generalize hm0 : kTo es k j = m0 at *
      have Hm0 := Lib.hid hm0; clear hm0 hrow hml he
      obtain ⟨a2, c2, C2, O2, Z2, N2, R2⟩ := hr0.rcL hjm 0 (xs := x0) rfl
      have hcall := laws_markIntS (.slice a2 x0.length c2) x0 m0 B wr (by omega) (by omega) O2
      have HR0 := Lib.hid (fun W' (o : Own 3 W' B (.slice a2 x0.length c2) (markL m0 x0.length)) (hg' : World.grownBy wr W' (Value.slice a2 x0.length c2).ownBlock) => hr0.rowL hjm 0 (by omega) C2 o hg')
      have HBT0 := Lib.hid (fun W' (hg' : World.grownBy wr W' (Value.slice a2 x0.length c2).ownBlock) => hbt.trans (Btw.grown hg' R2))
      have Hcall := Lib.hid hcall; clear hcall
      clear hr0 hbt O2 N2 Z2 R2
      simp only [Nat.add_zero, Nat.mul_one] at C2
      go_wp2_with fail
      refine Hcall.out.mono ?_
      rintro e w1 ⟨rfl, ho, hg⟩
      have hr1 := HR0.out w1 ho hg
      simp only [List.set_cons_zero] at hr1
      have hbt1 := HBT0.out w1 hg
      have HR := Lib.hid hr1
      have HB := Lib.hid hbt1
      clear ho hg Hcall HR0 HBT0 C2 hr1 hbt1
      go_wp2
      go_roundw
      case rel =>
        have hn9 := Hnx.out
        have hs9 := Hset.out
        have hr9 := HR.out
        refine ⟨j + 1, by omega, by go_num, int_eq (by rw [hn9] <;> omega), ?_, HB.out⟩
        rw [← hs9]
        first | exact hr9 | simpa using hr9
      case measure => simp [intOf]; omega
    · have hje : j = es.length := by omega
      subst hje
      have hlt' : ¬ (es.length : Int) < (es.length : Int) := by omega
      go_wp2
      go_ret
      exact ⟨rfl, hrow, hbt⟩

set_option maxHeartbeats 2000000 in
theorem laws_heldIntSSR (es : List (List Fd)) (v : Value) (k B hi : Nat) (w : World) (hk : kTo es k es.length ≤ 1099511627776) (hp : ∀ e ∈ es, intSP e) (hown : OwnR 40 3 1 w B hi v (mkTo es k es.length)) :
    Calls Try.prog 18 #[v, .int .i64 k] w fun e w' => e = .returned (.int .i64 ((kTo es k es.length : Nat) : Int)) ∧ Drawn w w' := by
  obtain ⟨a, cap, rfl, hml9⟩ := hown.slice
  rw [mkTo_len] at *
  unfold maxLen at hml9
  have Hown := Lib.hid hown; clear hown
  have Hp := Lib.hid hp; clear hp
  have Hk := Lib.hid (fun j (h : j ≤ es.length) => Nat.le_trans (kTo_le (es := es) (k := k) h) hk)
  have hk0 : k ≤ 1099511627776 := by have := Hk.out 0 (Nat.zero_le _); rwa [kTo_zero] at this
  clear hk
  go_enter Try.func18, Try.ntmps18
  go_wp2
  go_loopw [1, 5] (fun c i wr => ∃ j : Nat, j ≤ es.length ∧ i = .int .i64 j ∧ c = .int .i64 ((kTo es k j : Nat) : Int) ∧ Drawn w wr) (fun _ i _ => es.length - (intOf i).toNat)
  case atStart => exact ⟨0, by omega, rfl, by rw [kTo_zero], Drawn.refl _⟩
  case round =>
    obtain ⟨j, hj, rfl, rfl, hdr⟩ := hrel
    by_cases hlt : j < es.length
    · have hlt' : (j : Int) < (es.length : Int) := by omega
      have hml := mkTo_len es k es.length
      obtain ⟨g, cap', hv, hBg, hgh, hgs⟩ := Hown.out.head (by rw [hml]; omega)
      simp only [Value.slice.injEq] at hv
      obtain ⟨rfl, hvl, rfl⟩ := hv
      clear hvl
      have hjm : j < (mkTo es k es.length).length := by omega
      obtain ⟨x0, he⟩ := Hp.out _ (List.getElem_mem hlt)
      have hnx := kTo_succ (k := k) hlt
      have hkb := Hk.out (j + 1) hlt
      have hkb0 := Hk.out j (by omega)
      have hr0 := Hown.out
      rw [← set_self' hjm (mkTo_all hlt hjm)] at hr0
      rw [he] at hr0 hnx
      simp only [mkE, Fd.mk'] at hr0
      simp only [nxE, Fd.nx] at hnx
      rw [hnx] at hkb
      have Hnx := Lib.hid hnx; clear hnx
      generalize hm0 : kTo es k j = m0 at *
      have Hm0 := Lib.hid hm0; clear hm0 he
      obtain ⟨a2, c2, D2, O2, _, _, _⟩ := hr0.rcL hjm 0 rfl
      rw [markL_len] at D2
      have C2 := (hdr.cell _).trans D2; clear D2
      obtain ⟨_, _, hv2, I2, _⟩ := O2.ints; rw [markL_len] at hv2; simp only [Value.slice.injEq] at hv2; obtain ⟨rfl, _, rfl⟩ := hv2; clear O2
      clear hr0
      simp only [Nat.add_zero, Nat.mul_one] at C2
      have H2 := fun W (h : Drawn w W) => laws_heldIntS a2 c2 m0 x0.length W (by omega) (by omega) (h.ints I2)
      obtain ⟨m1, hm1⟩ : ∃ x : Nat, m0 + x0.length = x := ⟨_, rfl⟩
      rw [hm1] at H2 hkb
      have Hm1 := Lib.hid hm1; clear hm1
      have H2 := Lib.hid H2; clear I2
      have g1 : decide ((m1 : Int) < 0) = false := decide_eq_false (by omega)
      have g2 : ¬ (m1 : Int) < 0 := by omega
      go_wp2_with fail
      refine (H2.out _ hdr).mono ?_
      rintro e w1 ⟨rfl, hd1⟩
      have hdr1 := hdr.trans hd1
      clear hd1 H2
      go_wp2
      go_roundw
      case rel =>
        have hn9 := Hnx.out
        have e1 := Hm1.out
        refine ⟨j + 1, by omega, by go_num, int_eq (by rw [hn9] <;> omega), hdr1⟩
      case measure => simp [intOf]; omega
    · have hje : j = es.length := by omega
      subst hje
      have hlt' : ¬ (es.length : Int) < (es.length : Int) := by omega
      go_wp2
      go_ret
      exact ⟨rfl, hdr⟩

end Go.Proofs.Ytnjjbplocokdeab

/- Two equal lists of lanes are found equal (laws.sameLanes), by a walk of its text; condition: the lists are shorter than 2^40. And what the laws of lanes read of them. -/
namespace Go.Proofs.Ytnjjbplocokdeab
open Go.RowKit

/-- What is read of a list of lanes. -/
theorem lns_read {w : World} {ls : List (List Nat)} {a : Option Addr} {n cap : Nat} {fp : List Nat} (h : Lns w ls (.slice a n cap) fp) (hne : 0 < ls.length) : ∃ b off, a = some ⟨b, off, none⟩ ∧ b < w.heap.size ∧ ∀ k (hk : k < ls.length),
    ∃ pa pc, w.cell? ⟨b, off + k, none⟩ = some (.slice pa (ls[k]).length pc) ∧ ((ls[k]).length = 0 ∨ ∃ rb ro, pa = some ⟨rb, ro, none⟩ ∧ rb < w.heap.size ∧ ∀ j (hj : j < (ls[k]).length), w.cell? ⟨rb, ro + j, none⟩ = some (.int .i64 (((ls[k])[j] : Nat) : Int))) := by
  obtain ⟨b, off, rfl, hbw, hat⟩ := h.at hne
  refine ⟨b, off, rfl, hbw, fun k hk => ?_⟩
  obtain ⟨pa, pc, c0, i0, _⟩ := hat k hk
  refine ⟨pa, pc, c0, ?_⟩
  by_cases h0 : (ls[k]).length = 0
  · exact .inl h0
  · obtain ⟨rb, ro, rfl, hrb, hc⟩ := i0.cell (by rw [zs_len]; omega)
    refine .inr ⟨rb, ro, rfl, hrb, fun j hj => ?_⟩
    have := hc j (by rw [zs_len]; exact hj)
    rwa [zs_at] at this
theorem lns_le {xs : List Tx} (h : vldB xs = true) : (lnsN xs).length ≤ 16 ∧ ∀ l ∈ lnsN xs, l.length ≤ 16 := by
  have hx := vld_len h
  rw [(lns_yes h).1]
  refine ⟨Nat.le_trans (lanes_cnt xs) hx, fun l hl => ?_⟩
  obtain ⟨m, _, rfl⟩ := List.mem_map.1 hl
  exact Nat.le_trans (lane_len xs m) hx
theorem lns_small (xs : List Tx) : (lnsN xs).length ≤ 16 ∧ ∀ l ∈ lnsN xs, l.length ≤ 16 := by
  cases h : vldB xs with
  | true => exact lns_le h
  | false => rw [(lns_no h).1]; exact ⟨Nat.zero_le _, fun _ h => by cases h⟩
theorem foldl_max (ls : List (List Nat)) : ∀ n : Nat, ls.foldl (fun n l => max n l.length) n = 0 ↔ n = 0 ∧ ∀ l ∈ ls, l.length = 0 := by
  intro n
  induction ls generalizing n with
  | nil => simp
  | cons l ls ih =>
    rw [List.foldl_cons, ih]
    simp only [List.mem_cons, forall_eq_or_imp]
    constructor
    · rintro ⟨h1, h2⟩; exact ⟨by omega, by omega, h2⟩
    · rintro ⟨h1, h2, h3⟩; exact ⟨by omega, h3⟩
/-- The longest lane is empty if and only if there is nothing. -/
theorem maxL_zero (xs : List Tx) : maxL (lanesN xs) = 0 ↔ xs.length = 0 := by
  unfold maxL
  rw [foldl_max]
  constructor
  · rintro ⟨-, h⟩
    have hs := lanes_sum xs
    apply Classical.byContradiction
    intro hne
    obtain ⟨m, hm, hin, _⟩ := lab_of (xs := xs) (i := 0) (by omega)
    have := h (laneN xs m) (List.mem_map.2 ⟨m, hm, rfl⟩)
    have := List.length_pos_of_mem hin
    omega
  · intro h
    refine ⟨rfl, fun l hl => ?_⟩
    obtain ⟨m, _, rfl⟩ := List.mem_map.1 hl
    have := lane_len xs m
    omega
/-- What is read of the lanes ls. -/
structure Lrd (w : World) (ls : List (List Nat)) (b off : Nat) (P : Nat → Value) (R O : Nat → Nat) : Prop where
  lb : b < w.heap.size
  row : ∀ k (hk : k < ls.length), w.cell? ⟨b, off + k, none⟩ = some (P k) ∧ ∃ c, P k = .slice (some ⟨R k, O k, none⟩) (ls[k]).length c
  lr : ∀ k, k < ls.length → R k < w.heap.size
  cell : ∀ k (hk : k < ls.length) j (hj : j < (ls[k]).length), w.cell? ⟨R k, O k + j, none⟩ = some (.int .i64 (((ls[k])[j] : Nat) : Int))
theorem lns_rd {w : World} {ls : List (List Nat)} {a : Option Addr} {n cap : Nat} {fp : List Nat} (h : Lns w ls (.slice a n cap) fp) (hne : 0 < ls.length) (hpos : ∀ k (hk : k < ls.length), 0 < (ls[k]).length) : ∃ b off P R O, a = some ⟨b, off, none⟩ ∧ Lrd w ls b off P R O := by
  obtain ⟨b, off, rfl, hb, hat⟩ := lns_read h hne
  have key : ∀ k, ∃ q : Value × Nat × Nat, ∀ (hk : k < ls.length), w.cell? ⟨b, off + k, none⟩ = some q.1 ∧ (∃ c, q.1 = .slice (some ⟨q.2.1, q.2.2, none⟩) (ls[k]).length c) ∧ q.2.1 < w.heap.size ∧ ∀ j (hj : j < (ls[k]).length), w.cell? ⟨q.2.1, q.2.2 + j, none⟩ = some (.int .i64 (((ls[k])[j] : Nat) : Int)) := by
    intro k
    by_cases hk : k < ls.length
    · obtain ⟨pa, pc, c0, h0 | ⟨rb, ro, rfl, hrb, hc⟩⟩ := hat k hk
      · have := hpos k hk; omega
      · exact ⟨(_, rb, ro), fun _ => ⟨c0, ⟨pc, rfl⟩, hrb, hc⟩⟩
    · exact ⟨(undef, 0, 0), fun h => absurd h hk⟩
  exact ⟨b, off, fun k => (key k).choose.1, fun k => (key k).choose.2.1, fun k => (key k).choose.2.2, rfl, hb, fun k hk => ⟨((key k).choose_spec hk).1, ((key k).choose_spec hk).2.1⟩, fun k hk => ((key k).choose_spec hk).2.2.1, fun k hk j hj => ((key k).choose_spec hk).2.2.2 j hj⟩
theorem Lrd.below {w w' : World} {ls : List (List Nat)} {b off : Nat} {P : Nat → Value} {R O : Nat → Nat} (h : Lrd w ls b off P R O) (hb : Below w.heap.size w w') : Lrd w' ls b off P R O :=
  ⟨Nat.lt_of_lt_of_le h.lb hb.size, fun k hk => ⟨(hb.cell (p := ⟨b, off + k, none⟩) h.lb).trans (h.row k hk).1, (h.row k hk).2⟩, fun k hk => Nat.lt_of_lt_of_le (h.lr k hk) hb.size, fun k hk j hj => (hb.cell (p := ⟨R k, O k + j, none⟩) (h.lr k hk)).trans (h.cell k hk j hj)⟩
def sumT (ls : List (List Nat)) (k : Nat) : Nat := ((ls.take k).map List.length).sum
theorem sumT_step {ls : List (List Nat)} {k : Nat} (h : k < ls.length) : sumT ls (k + 1) = sumT ls k + ls[k].length := by
  unfold sumT; rw [List.take_succ_eq_append_getElem h, List.map_append, List.sum_append]; simp
theorem sumT_le (ls : List (List Nat)) (k : Nat) : sumT ls k ≤ sumT ls ls.length := by
  unfold sumT
  rw [List.take_length]
  have h := List.take_append_drop k ls
  have : (ls.map List.length).sum = ((ls.take k).map List.length).sum + ((ls.drop k).map List.length).sum := by
    rw [← List.sum_append, ← List.map_append, h]
  omega
/-- What the laws ask of lanes that are not none. -/
structure Plw (xs : List Tx) (ls : List (List Nat)) : Prop where
  pos : ∀ i (hi : i < ls.length), 0 < (ls[i]).length
  asc : ∀ i (hi : i < ls.length), 0 < i → ∀ (h0 : 0 < (ls[i]).length) (h1 : 0 < (ls[i - 1]).length), (ls[i - 1])[0] < (ls[i])[0]
  lt : ∀ i (hi : i < ls.length) k (hk : k < (ls[i]).length), (ls[i])[k] < xs.length
  up : ∀ i (hi : i < ls.length) k (hk : k < (ls[i]).length), 0 < k → (ls[i])[k - 1] < (ls[i])[k]
  sum : sumT ls ls.length = xs.length
  apart : ∀ i (hi : i < ls.length) j (hj : j < ls.length), i ≠ j → ∀ a (ha : a < (ls[i]).length) b (hb : b < (ls[j]).length), cfB (xs.getD (ls[i])[a] tx0) (xs.getD (ls[j])[b] tx0) = false
  conn : ∀ i (hi : i < ls.length) a (ha : a < (ls[i]).length), 0 < a → ∃ b, ∃ (hb : b < (ls[i]).length), a ≠ b ∧ cfB (xs.getD (ls[i])[a] tx0) (xs.getD (ls[i])[b] tx0) = true
theorem plw_of {xs : List Tx} {ls : List (List Nat)} (hls : ls = lnsN xs) (h0 : 0 < ls.length) : vldB xs = true ∧ Plw xs ls := by
  have hv : vldB xs = true := by
    cases h : vldB xs with
    | true => rfl
    | false => rw [hls, (lns_no h).1] at h0; simp at h0
  refine ⟨hv, ?_⟩
  rw [(lns_yes hv).1] at hls
  subst hls
  have hl : (lanesN xs).length = (labsTo xs xs.length).length := by unfold lanesN lanesTo; rw [List.length_map]
  have hat : ∀ k (hk : k < (lanesN xs).length), (lanesN xs)[k] = laneN xs ((labsTo xs xs.length)[k]'(by omega)) := fun k hk => by
    obtain ⟨m, _, e1, e2, _⟩ := lanes_at hk
    rw [e2, e1]
  have hpos : ∀ k (hk : k < (lanesN xs).length), 0 < ((lanesN xs)[k]).length := fun k hk => by
    obtain ⟨m, _, _, e2, e3, _⟩ := lanes_at hk
    rw [e2]; exact e3
  have hhead : ∀ k (hk : k < (lanesN xs).length) (h : 0 < ((lanesN xs)[k]).length), ((lanesN xs)[k])[0] = (labsTo xs xs.length)[k]'(by omega) := fun k hk h => by
    have h2 : 0 < (laneN xs ((labsTo xs xs.length)[k]'(by omega))).length := by rw [← hat k hk]; exact h
    have := lane_head h2
    rw [← this]
    simp only [hat k hk]
  have hmem : ∀ k (hk : k < (lanesN xs).length) j (hj : j < ((lanesN xs)[k]).length), ((lanesN xs)[k])[j] ∈ laneN xs ((labsTo xs xs.length)[k]'(by omega)) := fun k hk j hj => by
    have := List.getElem_mem hj
    rw [← hat k hk]; exact this
  have hup : ∀ i (hi : i < (lanesN xs).length) k j (hk : k < ((lanesN xs)[i]).length), j < k → ∀ (hj : j < ((lanesN xs)[i]).length), ((lanesN xs)[i])[j] < ((lanesN xs)[i])[k] := fun i hi k j hk hjk hj => by
    have hp : ((lanesN xs)[i]).Pairwise (· < ·) := by rw [hat i hi]; exact lane_asc xs _
    exact List.pairwise_iff_getElem.1 hp j k hj hk hjk
  refine ⟨hpos, fun i hi h h1 h2 => ?_, fun i hi k hk => (mem_lane.1 (hmem i hi k hk)).1, fun i hi k hk h => hup i hi k (k - 1) hk (by omega) (by omega), ?_, fun i hi j hj hne a ha b hb => ?_, fun i hi a ha h => ?_⟩
  · rw [hhead i hi, hhead (i - 1) (by omega)]
    exact List.pairwise_iff_getElem.1 (labs_asc xs xs.length) (i - 1) i (by omega) (by omega) (by omega)
  · unfold sumT; rw [List.take_length]; exact lanes_sum xs
  · refine lanes_apart (fun e => hne ?_) (hmem i hi a ha) (hmem j hj b hb)
    rcases Nat.lt_trichotomy i j with h | h | h
    · have := List.pairwise_iff_getElem.1 (labs_asc xs xs.length) i j (by omega) (by omega) h; omega
    · exact h
    · have := List.pairwise_iff_getElem.1 (labs_asc xs xs.length) j i (by omega) (by omega) h; omega
  · have hne : ((lanesN xs)[i])[a] ≠ (labsTo xs xs.length)[i]'(by omega) := by
      rw [← hhead i hi (by omega)]
      have := hup i hi a 0 ha h (by omega)
      omega
    obtain ⟨k, hk, hne2, hc⟩ := lanes_conn (hmem i hi a ha) hne
    rw [← hat i hi] at hk
    obtain ⟨b, hb, rfl⟩ := List.mem_iff_getElem.1 hk
    exact ⟨b, hb, fun e => hne2 (by subst e; rfl), hc⟩
/-- Another transaction of the lane ahead of place k conflicts with this one. -/
def fndB (xs : List Tx) (l : List Nat) (a k : Nat) : Bool := (List.range k).any fun b => decide (a ≠ b) && cfB (xs.getD (l.getD a 0) tx0) (xs.getD (l.getD b 0) tx0)
theorem fnd_step (xs : List Tx) (l : List Nat) (a k : Nat) : fndB xs l a (k + 1) = (fndB xs l a k || (decide (a ≠ k) && cfB (xs.getD (l.getD a 0) tx0) (xs.getD (l.getD k 0) tx0))) := by
  unfold fndB; rw [List.range_succ, List.any_append]; simp
theorem fnd_yes {xs : List Tx} {ls : List (List Nat)} (h : Plw xs ls) {i a : Nat} (hi : i < ls.length) (ha : a < (ls[i]).length) (h0 : 0 < a) : fndB xs ls[i] a (ls[i]).length = true := by
  obtain ⟨b, hb, hne, hc⟩ := h.conn i hi a ha h0
  unfold fndB
  rw [List.any_eq_true]
  refine ⟨b, List.mem_range.2 hb, ?_⟩
  rw [Bool.and_eq_true, decide_eq_true_eq]
  refine ⟨hne, ?_⟩
  simpa [List.getD, ha, hb] using hc

end Go.Proofs.Ytnjjbplocokdeab
