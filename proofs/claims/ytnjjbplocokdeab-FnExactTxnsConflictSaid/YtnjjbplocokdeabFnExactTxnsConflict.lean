/- The exact law of TxnsConflict holds at every argument; no conditions of our own. -/
import Derived.Test.YtnjjbplocokdeabRows
import Derived.Test.YtnjjbplocokdeabBu0
import Derived.Test.YtnjjbplocokdeabBu1
namespace Go.Proofs.Ytnjjbplocokdeab
open Go.ChangeShapes Go.WideShapes Go.ChangeAt Go.RowKit

set_option maxHeartbeats 4000000 in
theorem fnExactTxnsConflict_walk (a0 : Int) (a1 : Int) (a2 : Int) (a3 : Int) (b0 : Int) (b1 : Int) (b2 : Int) (b3 : Int) (w : World) (_ha0 : -9223372036854775808 ≤ a0 ∧ a0 ≤ 9223372036854775807) (_ha1 : -9223372036854775808 ≤ a1 ∧ a1 ≤ 9223372036854775807) (_ha2 : -9223372036854775808 ≤ a2 ∧ a2 ≤ 9223372036854775807) (_ha3 : -9223372036854775808 ≤ a3 ∧ a3 ≤ 9223372036854775807) (_hb0 : -9223372036854775808 ≤ b0 ∧ b0 ≤ 9223372036854775807) (_hb1 : -9223372036854775808 ≤ b1 ∧ b1 ≤ 9223372036854775807) (_hb2 : -9223372036854775808 ≤ b2 ∧ b2 ≤ 9223372036854775807) (_hb3 : -9223372036854775808 ≤ b3 ∧ b3 ≤ 9223372036854775807) :
    Calls Try.prog 3 #[.agg #[.int .i64 a0, .int .i64 a1, .int .i64 a2, .int .i64 a3], .agg #[.int .i64 b0, .int .i64 b1, .int .i64 b2, .int .i64 b3]] w fun e w' => e = .returned (.bool true) ∧ Below w.heap.size w w' := by
  obtain ⟨_ha01, _ha02⟩ := _ha0
  obtain ⟨_ha11, _ha12⟩ := _ha1
  obtain ⟨_ha21, _ha22⟩ := _ha2
  obtain ⟨_ha31, _ha32⟩ := _ha3
  obtain ⟨_hb01, _hb02⟩ := _hb0
  obtain ⟨_hb11, _hb12⟩ := _hb1
  obtain ⟨_hb21, _hb22⟩ := _hb2
  obtain ⟨_hb31, _hb32⟩ := _hb3
  have hbx0 : Below w.heap.size w (w.alloc (.cells #[.int .i64 a0, .int .i64 a1, .int .i64 a2, .int .i64 a3] 23)) := (Below.refl w.heap.size w).alloc (by first | exact Nat.le_refl _ | (simp only [World.size_alloc]; omega)) _
  have hsx0 := Str.new (w) 23 #[.int .i64 a0, .int .i64 a1, .int .i64 a2, .int .i64 a3]
  have hbx1 : Below w.heap.size w ((w.alloc (.cells #[.int .i64 a0, .int .i64 a1, .int .i64 a2, .int .i64 a3] 23)).alloc (.cells #[.int .i64 b0, .int .i64 b1, .int .i64 b2, .int .i64 b3] 23)) := (hbx0).alloc (by first | exact Nat.le_refl _ | (simp only [World.size_alloc]; omega)) _
  have hsx1 := Str.new ((w.alloc (.cells #[.int .i64 a0, .int .i64 a1, .int .i64 a2, .int .i64 a3] 23))) 23 #[.int .i64 b0, .int .i64 b1, .int .i64 b2, .int .i64 b3]
  have hsx0 := hsx0.alloc (.cells #[.int .i64 b0, .int .i64 b1, .int .i64 b2, .int .i64 b3] 23)
  have hzx : ((w.alloc (.cells #[.int .i64 a0, .int .i64 a1, .int .i64 a2, .int .i64 a3] 23)).alloc (.cells #[.int .i64 b0, .int .i64 b1, .int .i64 b2, .int .i64 b3] 23)).heap.size = w.heap.size + 2 := by simp
  have Sab := Lib.hid (show Str ((w.alloc (.cells #[.int .i64 a0, .int .i64 a1, .int .i64 a2, .int .i64 a3] 23)).alloc (.cells #[.int .i64 b0, .int .i64 b1, .int .i64 b2, .int .i64 b3] 23)) (w.heap.size) 23 #[.int .i64 a0, .int .i64 a1, .int .i64 a2, .int .i64 a3] by simpa using hsx0)
  clear hsx0
  have Sbb := Lib.hid (show Str ((w.alloc (.cells #[.int .i64 a0, .int .i64 a1, .int .i64 a2, .int .i64 a3] 23)).alloc (.cells #[.int .i64 b0, .int .i64 b1, .int .i64 b2, .int .i64 b3] 23)) (w.heap.size + 1) 23 #[.int .i64 b0, .int .i64 b1, .int .i64 b2, .int .i64 b3] by simpa using hsx1)
  clear hsx1
  have Hb0 := Lib.hid hbx1
  clear hbx0 hbx1
  have Hspec := Lib.hid (fun w => spec_TxnsConflict ⟨a0, a1, a2, a3⟩ ⟨b0, b1, b2, b3⟩ w)
  have Himpl := Lib.hid (fun w => impl_TxnsConflict ⟨a0, a1, a2, a3⟩ ⟨b0, b1, b2, b3⟩ w)
  unfold agT at Hspec Himpl
  dsimp only at Hspec Himpl
  generalize cfB ⟨a0, a1, a2, a3⟩ ⟨b0, b1, b2, b3⟩ = ok at *
  go_enter Try.func3, Try.ntmps3
  have qab_0 := Sab.out.cell 0 (v := .int .i64 a0) rfl
  have qab_1 := Sab.out.cell 1 (v := .int .i64 a1) rfl
  have qab_2 := Sab.out.cell 2 (v := .int .i64 a2) rfl
  have qab_3 := Sab.out.cell 3 (v := .int .i64 a3) rfl
  have qbb_0 := Sbb.out.cell 0 (v := .int .i64 b0) rfl
  have qbb_1 := Sbb.out.cell 1 (v := .int .i64 b1) rfl
  have qbb_2 := Sbb.out.cell 2 (v := .int .i64 b2) rfl
  have qbb_3 := Sbb.out.cell 3 (v := .int .i64 b3) rfl
  go_wp2_with fail
  generalize ((w.alloc (.cells #[.int .i64 a0, .int .i64 a1, .int .i64 a2, .int .i64 a3] 23)).alloc (.cells #[.int .i64 b0, .int .i64 b1, .int .i64 b2, .int .i64 b3] 23)) = w0 at *
  clear qab_0 qab_1 qab_2 qab_3 qbb_0 qbb_1 qbb_2 qbb_3
  have hdr : Below w0.heap.size w0 w0.drew := (Below.refl _ _).drew
  refine wp_region_held_drew (S := fun w' => w'.cell? ⟨w.heap.size, 0, none⟩ = some (.int .i64 a0) ∧ w'.cell? ⟨w.heap.size, 1, none⟩ = some (.int .i64 a1) ∧ w'.cell? ⟨w.heap.size, 2, none⟩ = some (.int .i64 a2) ∧ w'.cell? ⟨w.heap.size, 3, none⟩ = some (.int .i64 a3) ∧ w'.cell? ⟨(w.heap.size + 1), 0, none⟩ = some (.int .i64 b0) ∧ w'.cell? ⟨(w.heap.size + 1), 1, none⟩ = some (.int .i64 b1) ∧ w'.cell? ⟨(w.heap.size + 1), 2, none⟩ = some (.int .i64 b2) ∧ w'.cell? ⟨(w.heap.size + 1), 3, none⟩ = some (.int .i64 b3)) (by kernel_rfl) ⟨Sab.out.cell 0 (v := .int .i64 a0) rfl, Sab.out.cell 1 (v := .int .i64 a1) rfl, Sab.out.cell 2 (v := .int .i64 a2) rfl, Sab.out.cell 3 (v := .int .i64 a3) rfl, Sbb.out.cell 0 (v := .int .i64 b0) rfl, Sbb.out.cell 1 (v := .int .i64 b1) rfl, Sbb.out.cell 2 (v := .int .i64 b2) rfl, Sbb.out.cell 3 (v := .int .i64 b3) rfl⟩ (fun hH => ?_)
  generalize w0.drew = w1 at *
  have Hb1 := Lib.hid (below_step Hb0.out Hb0.out.size hdr)
  have Sab := Lib.hid (show Str w1 w.heap.size 23 #[.int .i64 a0, .int .i64 a1, .int .i64 a2, .int .i64 a3] from ((hdr).block _ Sab.out.lt).trans Sab.out)
  have Sbb := Lib.hid (show Str w1 (w.heap.size + 1) 23 #[.int .i64 b0, .int .i64 b1, .int .i64 b2, .int .i64 b3] from ((hdr).block _ Sbb.out.lt).trans Sbb.out)
  have hz1 := (hdr).size
  clear hdr
  refine takeH 0 (v := ?vsw0) rfl (by kernel_rfl) (by kernel_rfl) (by kernel_rfl) (fun _ _ _ h => h) hH rfl ?ysw0 ?rsw0
  case ysw0 => intro W hSw; go_simp; try with_reducible rfl
  try simp only [Act.put, List.setIfInBounds_toArray, List.set_cons_zero, List.set_cons_succ]
  refine takeH 2 (v := ?vsw1) rfl (by kernel_rfl) (by kernel_rfl) (by kernel_rfl) (fun _ _ _ h => h) hH rfl ?ysw1 ?rsw1
  case ysw1 => intro W hSw; go_simp; try with_reducible rfl
  try simp only [Act.put, List.setIfInBounds_toArray, List.set_cons_zero, List.set_cons_succ]
  refine callH 1 rfl (by kernel_rfl) rfl (fun K hK => ?_)
  go_simp
  refine (laws_toTxnR a0 a1 a2 a3 _).mono ?_
  rintro e w2 ⟨rfl, hb2⟩
  have Hb2 := Lib.hid (below_step Hb1.out Hb1.out.size hb2)
  have Sab := Lib.hid (show Str w2 w.heap.size 23 #[.int .i64 a0, .int .i64 a1, .int .i64 a2, .int .i64 a3] from ((hb2).block _ Sab.out.lt).trans Sab.out)
  have Sbb := Lib.hid (show Str w2 (w.heap.size + 1) 23 #[.int .i64 b0, .int .i64 b1, .int .i64 b2, .int .i64 b3] from ((hb2).block _ Sbb.out.lt).trans Sbb.out)
  have hz2 := (hb2).size
  dsimp only
  refine hK.out _ _ ⟨Sab.out.cell 0 (v := .int .i64 a0) rfl, Sab.out.cell 1 (v := .int .i64 a1) rfl, Sab.out.cell 2 (v := .int .i64 a2) rfl, Sab.out.cell 3 (v := .int .i64 a3) rfl, Sbb.out.cell 0 (v := .int .i64 b0) rfl, Sbb.out.cell 1 (v := .int .i64 b1) rfl, Sbb.out.cell 2 (v := .int .i64 b2) rfl, Sbb.out.cell 3 (v := .int .i64 b3) rfl⟩ (fun hH => ?_)
  clear hK K
  try simp only [Act.put, List.setIfInBounds_toArray, List.set_cons_zero, List.set_cons_succ]
  refine callH 3 rfl (by kernel_rfl) rfl (fun K hK => ?_)
  go_simp
  refine (laws_toTxnR b0 b1 b2 b3 _).mono ?_
  rintro e w3 ⟨rfl, hb3⟩
  have Hb3 := Lib.hid (below_step Hb2.out Hb2.out.size hb3)
  have Sab := Lib.hid (show Str w3 w.heap.size 23 #[.int .i64 a0, .int .i64 a1, .int .i64 a2, .int .i64 a3] from ((hb3).block _ Sab.out.lt).trans Sab.out)
  have Sbb := Lib.hid (show Str w3 (w.heap.size + 1) 23 #[.int .i64 b0, .int .i64 b1, .int .i64 b2, .int .i64 b3] from ((hb3).block _ Sbb.out.lt).trans Sbb.out)
  have hz3 := (hb3).size
  dsimp only
  refine hK.out _ _ ⟨Sab.out.cell 0 (v := .int .i64 a0) rfl, Sab.out.cell 1 (v := .int .i64 a1) rfl, Sab.out.cell 2 (v := .int .i64 a2) rfl, Sab.out.cell 3 (v := .int .i64 a3) rfl, Sbb.out.cell 0 (v := .int .i64 b0) rfl, Sbb.out.cell 1 (v := .int .i64 b1) rfl, Sbb.out.cell 2 (v := .int .i64 b2) rfl, Sbb.out.cell 3 (v := .int .i64 b3) rfl⟩ (fun hH => ?_)
  clear hK K
  try simp only [Act.put, List.setIfInBounds_toArray, List.set_cons_zero, List.set_cons_succ]
  refine callH 4 rfl (by kernel_rfl) rfl (fun K hK => ?_)
  go_simp
  refine (Hspec.out  _ ).mono ?_
  rintro e w4 ⟨rfl, hb4⟩
  have Hb4 := Lib.hid (below_step Hb3.out Hb3.out.size hb4)
  have Sab := Lib.hid (show Str w4 w.heap.size 23 #[.int .i64 a0, .int .i64 a1, .int .i64 a2, .int .i64 a3] from ((hb4).block _ Sab.out.lt).trans Sab.out)
  have Sbb := Lib.hid (show Str w4 (w.heap.size + 1) 23 #[.int .i64 b0, .int .i64 b1, .int .i64 b2, .int .i64 b3] from ((hb4).block _ Sbb.out.lt).trans Sbb.out)
  have hz4 := (hb4).size
  dsimp only
  refine hK.out _ _ ⟨Sab.out.cell 0 (v := .int .i64 a0) rfl, Sab.out.cell 1 (v := .int .i64 a1) rfl, Sab.out.cell 2 (v := .int .i64 a2) rfl, Sab.out.cell 3 (v := .int .i64 a3) rfl, Sbb.out.cell 0 (v := .int .i64 b0) rfl, Sbb.out.cell 1 (v := .int .i64 b1) rfl, Sbb.out.cell 2 (v := .int .i64 b2) rfl, Sbb.out.cell 3 (v := .int .i64 b3) rfl⟩ (fun hH => ?_)
  clear hK K
  try simp only [Act.put, List.setIfInBounds_toArray, List.set_cons_zero, List.set_cons_succ]
  refine takeH 5 (v := ?vsw5) rfl (by kernel_rfl) (by kernel_rfl) (by kernel_rfl) (fun _ _ _ h => h) hH rfl ?ysw5 ?rsw5
  case ysw5 => intro W hSw; go_simp; try with_reducible rfl
  try simp only [Act.put, List.setIfInBounds_toArray, List.set_cons_zero, List.set_cons_succ]
  refine wpAnyH_done (by kernel_rfl) ?_ _
  try simp only [Act.put]
  clear hH
  have qab_0 := Sab.out.cell 0 (v := .int .i64 a0) rfl
  have qab_1 := Sab.out.cell 1 (v := .int .i64 a1) rfl
  have qab_2 := Sab.out.cell 2 (v := .int .i64 a2) rfl
  have qab_3 := Sab.out.cell 3 (v := .int .i64 a3) rfl
  have qbb_0 := Sbb.out.cell 0 (v := .int .i64 b0) rfl
  have qbb_1 := Sbb.out.cell 1 (v := .int .i64 b1) rfl
  have qbb_2 := Sbb.out.cell 2 (v := .int .i64 b2) rfl
  have qbb_3 := Sbb.out.cell 3 (v := .int .i64 b3) rfl
  go_wp2_with fail
  clear qab_0 qab_1 qab_2 qab_3 qbb_0 qbb_1 qbb_2 qbb_3
  have hdr : Below w4.heap.size w4 w4.drew := (Below.refl _ _).drew
  refine wp_region_held_drew (S := fun w' => w'.cell? ⟨w.heap.size, 0, none⟩ = some (.int .i64 a0) ∧ w'.cell? ⟨w.heap.size, 1, none⟩ = some (.int .i64 a1) ∧ w'.cell? ⟨w.heap.size, 2, none⟩ = some (.int .i64 a2) ∧ w'.cell? ⟨w.heap.size, 3, none⟩ = some (.int .i64 a3) ∧ w'.cell? ⟨(w.heap.size + 1), 0, none⟩ = some (.int .i64 b0) ∧ w'.cell? ⟨(w.heap.size + 1), 1, none⟩ = some (.int .i64 b1) ∧ w'.cell? ⟨(w.heap.size + 1), 2, none⟩ = some (.int .i64 b2) ∧ w'.cell? ⟨(w.heap.size + 1), 3, none⟩ = some (.int .i64 b3)) (by kernel_rfl) ⟨Sab.out.cell 0 (v := .int .i64 a0) rfl, Sab.out.cell 1 (v := .int .i64 a1) rfl, Sab.out.cell 2 (v := .int .i64 a2) rfl, Sab.out.cell 3 (v := .int .i64 a3) rfl, Sbb.out.cell 0 (v := .int .i64 b0) rfl, Sbb.out.cell 1 (v := .int .i64 b1) rfl, Sbb.out.cell 2 (v := .int .i64 b2) rfl, Sbb.out.cell 3 (v := .int .i64 b3) rfl⟩ (fun hH => ?_)
  generalize w4.drew = w5 at *
  have Hb5 := Lib.hid (below_step Hb4.out Hb4.out.size hdr)
  have Sab := Lib.hid (show Str w5 w.heap.size 23 #[.int .i64 a0, .int .i64 a1, .int .i64 a2, .int .i64 a3] from ((hdr).block _ Sab.out.lt).trans Sab.out)
  have Sbb := Lib.hid (show Str w5 (w.heap.size + 1) 23 #[.int .i64 b0, .int .i64 b1, .int .i64 b2, .int .i64 b3] from ((hdr).block _ Sbb.out.lt).trans Sbb.out)
  have hz5 := (hdr).size
  clear hdr
  refine takeH 0 (v := ?vig0) rfl (by kernel_rfl) (by kernel_rfl) (by kernel_rfl) (fun _ _ _ h => h) hH rfl ?yig0 ?rig0
  case yig0 => intro W hSw; go_simp; try with_reducible rfl
  try simp only [Act.put, List.setIfInBounds_toArray, List.set_cons_zero, List.set_cons_succ]
  refine takeH 2 (v := ?vig1) rfl (by kernel_rfl) (by kernel_rfl) (by kernel_rfl) (fun _ _ _ h => h) hH rfl ?yig1 ?rig1
  case yig1 => intro W hSw; go_simp; try with_reducible rfl
  try simp only [Act.put, List.setIfInBounds_toArray, List.set_cons_zero, List.set_cons_succ]
  refine callH 1 rfl (by kernel_rfl) rfl (fun K hK => ?_)
  go_simp
  refine (laws_toTxnR a0 a1 a2 a3 _).mono ?_
  rintro e w6 ⟨rfl, hb6⟩
  have Hb6 := Lib.hid (below_step Hb5.out Hb5.out.size hb6)
  have Sab := Lib.hid (show Str w6 w.heap.size 23 #[.int .i64 a0, .int .i64 a1, .int .i64 a2, .int .i64 a3] from ((hb6).block _ Sab.out.lt).trans Sab.out)
  have Sbb := Lib.hid (show Str w6 (w.heap.size + 1) 23 #[.int .i64 b0, .int .i64 b1, .int .i64 b2, .int .i64 b3] from ((hb6).block _ Sbb.out.lt).trans Sbb.out)
  have hz6 := (hb6).size
  dsimp only
  refine hK.out _ _ ⟨Sab.out.cell 0 (v := .int .i64 a0) rfl, Sab.out.cell 1 (v := .int .i64 a1) rfl, Sab.out.cell 2 (v := .int .i64 a2) rfl, Sab.out.cell 3 (v := .int .i64 a3) rfl, Sbb.out.cell 0 (v := .int .i64 b0) rfl, Sbb.out.cell 1 (v := .int .i64 b1) rfl, Sbb.out.cell 2 (v := .int .i64 b2) rfl, Sbb.out.cell 3 (v := .int .i64 b3) rfl⟩ (fun hH => ?_)
  clear hK K
  try simp only [Act.put, List.setIfInBounds_toArray, List.set_cons_zero, List.set_cons_succ]
  refine callH 3 rfl (by kernel_rfl) rfl (fun K hK => ?_)
  go_simp
  refine (laws_toTxnR b0 b1 b2 b3 _).mono ?_
  rintro e w7 ⟨rfl, hb7⟩
  have Hb7 := Lib.hid (below_step Hb6.out Hb6.out.size hb7)
  have Sab := Lib.hid (show Str w7 w.heap.size 23 #[.int .i64 a0, .int .i64 a1, .int .i64 a2, .int .i64 a3] from ((hb7).block _ Sab.out.lt).trans Sab.out)
  have Sbb := Lib.hid (show Str w7 (w.heap.size + 1) 23 #[.int .i64 b0, .int .i64 b1, .int .i64 b2, .int .i64 b3] from ((hb7).block _ Sbb.out.lt).trans Sbb.out)
  have hz7 := (hb7).size
  dsimp only
  refine hK.out _ _ ⟨Sab.out.cell 0 (v := .int .i64 a0) rfl, Sab.out.cell 1 (v := .int .i64 a1) rfl, Sab.out.cell 2 (v := .int .i64 a2) rfl, Sab.out.cell 3 (v := .int .i64 a3) rfl, Sbb.out.cell 0 (v := .int .i64 b0) rfl, Sbb.out.cell 1 (v := .int .i64 b1) rfl, Sbb.out.cell 2 (v := .int .i64 b2) rfl, Sbb.out.cell 3 (v := .int .i64 b3) rfl⟩ (fun hH => ?_)
  clear hK K
  try simp only [Act.put, List.setIfInBounds_toArray, List.set_cons_zero, List.set_cons_succ]
  refine callH 4 rfl (by kernel_rfl) rfl (fun K hK => ?_)
  go_simp
  refine (Himpl.out  _ ).mono ?_
  rintro e w8 ⟨rfl, hb8⟩
  have Hb8 := Lib.hid (below_step Hb7.out Hb7.out.size hb8)
  have Sab := Lib.hid (show Str w8 w.heap.size 23 #[.int .i64 a0, .int .i64 a1, .int .i64 a2, .int .i64 a3] from ((hb8).block _ Sab.out.lt).trans Sab.out)
  have Sbb := Lib.hid (show Str w8 (w.heap.size + 1) 23 #[.int .i64 b0, .int .i64 b1, .int .i64 b2, .int .i64 b3] from ((hb8).block _ Sbb.out.lt).trans Sbb.out)
  have hz8 := (hb8).size
  dsimp only
  refine hK.out _ _ ⟨Sab.out.cell 0 (v := .int .i64 a0) rfl, Sab.out.cell 1 (v := .int .i64 a1) rfl, Sab.out.cell 2 (v := .int .i64 a2) rfl, Sab.out.cell 3 (v := .int .i64 a3) rfl, Sbb.out.cell 0 (v := .int .i64 b0) rfl, Sbb.out.cell 1 (v := .int .i64 b1) rfl, Sbb.out.cell 2 (v := .int .i64 b2) rfl, Sbb.out.cell 3 (v := .int .i64 b3) rfl⟩ (fun hH => ?_)
  clear hK K
  try simp only [Act.put, List.setIfInBounds_toArray, List.set_cons_zero, List.set_cons_succ]
  refine takeH 5 (v := ?vig5) rfl (by kernel_rfl) (by kernel_rfl) (by kernel_rfl) (fun _ _ _ h => h) hH rfl ?yig5 ?rig5
  case yig5 => intro W hSw; go_simp; try with_reducible rfl
  try simp only [Act.put, List.setIfInBounds_toArray, List.set_cons_zero, List.set_cons_succ]
  refine wpAnyH_done (by kernel_rfl) ?_ _
  try simp only [Act.put]
  clear hH
  go_wp2
  go_ret
  exact ⟨by first | rfl | exact ret_bool (by simp), Hb8.out⟩

theorem fnExactTxnsConflict_own : ownKnob Try.prog.godebug = none := by kernel_rfl
theorem fnExactTxnsConflict_laidOut : laidOutB Try.prog = true := by kernel_rfl

set_option maxRecDepth 8000 in
theorem fnExactTxnsConflict_lifted (os : Os) (started : os.Started) (H : Type) (enc : TypeId × Value → H) :
    ReturnsInHanded {} Try.checked os 3 .any (Rows.fnExactTxnsConflictSpec.pre6 enc Try.prog Try.f3 Rows.fnExactTxnsConflictRow.domain false) (Rows.fnExactTxnsConflictSpec.post enc Try.prog Try.f3 false true false false) := by
  refine law_lifted (C := Try.checked) (tb := 4) fnExactTxnsConflict_own fnExactTxnsConflict_laidOut started (by kernel_rfl) Try.func3 rfl Try.underlying4 rfl (by rw [Try.params3]; exact of_decide_eq_true (by kernel_rfl)) ?_
    (ChangeSpec.witness6 (enc := enc) (C := Try.checked) false ⟨#[], #[.agg #[.int .i64 0, .int .i64 0, .int .i64 0, .int .i64 0], .agg #[.int .i64 0, .int .i64 0, .int .i64 0, .int .i64 0]], []⟩ 8 (by kernel_rfl) (by kernel_rfl) (by kernel_rfl) (by kernel_rfl)) ?_
  · intro ds hds
    rw [Try.params3] at hds
    match ds, hds with
    | [d0, d1], _ => rfl
  · intro W base args ds p hval0 hA0
    have hval : ∀ (j : Nat) t v, Try.f3.params[j]? = some t → args[j]? = some v → Value.okWide Try.prog W .any base t v := hval0
    have hA : DataW.TrodAll enc Try.prog W 0 (fun _ => true) true Try.f3.params.toList args.toList ds p := hA0
    rw [Try.params3] at hA hval
    obtain ⟨v0, vs0, d0, ds0, p0, q0, hargs0, rfl, rfl, h0, r0⟩ := trodAll_cons hA
    obtain ⟨v1, vs1, d1, ds1, p1, q1, hargs1, rfl, rfl, h1, r1⟩ := trodAll_cons r0
    obtain ⟨hnil, rfl, rfl⟩ := trodAll_nil r1
    subst hnil
    subst hargs1
    obtain rfl : args = #[v0, v1] := by cases args; simp_all
    obtain ⟨x0_0, x0_1, x0_2, x0_3, rfl, b0_0, b0_1, b0_2, b0_3⟩ := open_Txn (hval 0 23 v0 rfl rfl) h0
    obtain ⟨x1_0, x1_1, x1_2, x1_3, rfl, b1_0, b1_1, b1_2, b1_3⟩ := open_Txn (hval 1 23 v1 rfl rfl) h1
    exact fnExactTxnsConflict_walk x0_0 x0_1 x0_2 x0_3 x1_0 x1_1 x1_2 x1_3 W b0_0 b0_1 b0_2 b0_3 b1_0 b1_1 b1_2 b1_3

set_option maxRecDepth 8000 in
theorem fnExactTxnsConflict_holds : Rows.FnExactTxnsConflictSaid :=
  OpenClaim.holds_of_wide 3 Try.f3 rfl rfl rfl rfl rfl rfl rfl ⟨rfl, rfl, rfl, rfl, rfl⟩ rfl rfl rfl rfl rfl (by kernel_rfl) Try.func3 (by kernel_rfl)
    (of_decide_eq_true (by kernel_rfl)) (by unfold Func.isWrapper; first | (rw [if_pos (by decide +kernel)]; kernel_rfl) | (rw [if_neg (by decide +kernel)]; exact ⟨rfl, rfl⟩))
    (fun os started H enc _ => fnExactTxnsConflict_lifted os started H enc)

end Go.Proofs.Ytnjjbplocokdeab
