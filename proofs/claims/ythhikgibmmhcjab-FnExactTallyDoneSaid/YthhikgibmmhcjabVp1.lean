/- The members that two tallies have in common, as impl finds them with a closure, by a walk of its text; conditions: lists are shorter than 2^40. -/
import Derived.Test.YthhikgibmmhcjabRows
import Derived.Test.YthhikgibmmhcjabVp0
import Derived.Test.YthhikgibmmhcjabTwo
import Derived.Deep.QuietTactic
import Derived.BigQuiet
import Derived.Laws.StructEq
namespace Go.Proofs.Ythhikgibmmhcjab
open Go.RowKit

theorem contradiction1 (B : Nat) (C : Nat) (ok : Bool) (am : Option Addr) (cm : Nat) (ms : List Int) (n : Int) (w : World) (hbig : ms.length ≤ 1099511627776) (hB : w.cell? ⟨B, 0, none⟩ = some (.bool ok)) (hC : w.cell? ⟨C, 3, none⟩ = some (.slice am ms.length cm)) (hm : IntsAt w am ms) :
    Calls Try.prog 58 #[.int .i64 n, .pointer (some ⟨B, 0, none⟩), .pointer (some ⟨C, 0, none⟩)] w fun e w' => e = .returned (.bool (ok && hasB ms n)) ∧ w = w' := by
  have H := Lib.hid (slices_Contains am cm ms n w hbig hm)
  go_enter Try.func58, Try.ntmps58
  cases ok with
  | false =>
    go_wp2
    go_ret
    exact ⟨rfl, rfl⟩
  | true =>
  go_wp2_with fail
  refine H.out.mono ?_
  rintro e w1 ⟨rfl, rfl⟩
  go_wp2
  go_ret
  exact ⟨ret_bool (by simp), rfl⟩

theorem eq_place (x y : Int × Int) (w : World) : (binOp .eql 76 (.agg #[.int .i64 x.1, .int .i64 x.2]) (.agg #[.int .i64 y.1, .int .i64 y.2])).run Try.prog w = .ok (.bool (x.1 == y.1 && x.2 == y.2)) w := by
  have hS : Try.prog.underlying 76 = some (.struct (Try.prog.fieldsOf 76)) := by kernel_rfl
  have hp : Try.prog.stoodInHeld 76 = false := by kernel_rfl
  rw [run_eql_struct, show (10000 : Nat) = 9999 + 1 from rfl, run_equalIn_agg w 9999 76 _ _ hS hp]
  simp only [Program.fieldsOf, Try.underlying76]
  go_simp
  by_cases h1 : x.fst = y.fst <;> by_cases h2 : x.snd = y.snd <;> simp [h1, h2]

set_option maxHeartbeats 2000000 in
theorem contradiction (am : Option Addr) (cm : Nat) (v u : Vt) (ms : List Int) (w : World) :
    Calls Try.prog 33 #[.agg #[.int .i64 v.r, .int .i64 v.a, .int .i64 v.d, .slice am ms.length cm], .agg #[.int .i64 u.r, .int .i64 u.a, .int .i64 u.d]] w fun e w' => ∃ B, e = .returned (.func (.func 58) #[] #[.pointer (some ⟨B, 0, none⟩), .pointer (some ⟨w.heap.size, 0, none⟩)]) ∧ w.heap.size ≤ B ∧ B < w'.heap.size ∧ w.heap.size < w'.heap.size ∧ w'.cell? ⟨B, 0, none⟩ = some (.bool (decide (v.r = u.r) && (decide (v.a = u.a) && decide (v.d ≠ u.d)))) ∧ w'.cell? ⟨w.heap.size, 3, none⟩ = some (.slice am ms.length cm) ∧ Below w.heap.size w w' := by
  have hb0 : Below w.heap.size w ((w.alloc (.cells #[.int .i64 v.r, .int .i64 v.a, .int .i64 v.d, .slice am ms.length cm] 27)).alloc (.cells #[.int .i64 u.r, .int .i64 u.a, .int .i64 u.d] 25)) := ((Below.refl _ w).alloc (Nat.le_refl _) _).alloc (by simp) _
  have s0 := (Str.new w 27 #[.int .i64 v.r, .int .i64 v.a, .int .i64 v.d, .slice am ms.length cm]).alloc (.cells #[.int .i64 u.r, .int .i64 u.a, .int .i64 u.d] 25)
  have s1 := Str.new (w.alloc (.cells #[.int .i64 v.r, .int .i64 v.a, .int .i64 v.d, .slice am ms.length cm] 27)) 25 #[.int .i64 u.r, .int .i64 u.a, .int .i64 u.d]
  simp only [World.size_alloc] at s1
  have hsz0 : ((w.alloc (.cells #[.int .i64 v.r, .int .i64 v.a, .int .i64 v.d, .slice am ms.length cm] 27)).alloc (.cells #[.int .i64 u.r, .int .i64 u.a, .int .i64 u.d] 25)).heap.size = w.heap.size + 2 := by simp
  have k0 := s0.cell 0 (v := .int .i64 v.r) rfl
  have k1 := s0.cell 1 (v := .int .i64 v.a) rfl
  have k2 := s0.cell 2 (v := .int .i64 v.d) rfl
  have k3 := s0.cell 3 (v := .slice am ms.length cm) rfl
  have j0 := s1.cell 0 (v := .int .i64 u.r) rfl
  have j1 := s1.cell 1 (v := .int .i64 u.a) rfl
  have j2 := s1.cell 2 (v := .int .i64 u.d) rfl
  have Hb0 := Lib.hid hb0; clear hb0 s0 s1
  have H1 := Lib.hid (fun W => vote_place v.r v.a v.d W)
  have H2 := Lib.hid (fun W => vote_place u.r u.a u.d W)
  have Hres := Lib.hid (show ((v.r == u.r && v.a == u.a) && (v.d != u.d)) = (decide (v.r = u.r) && (decide (v.a = u.a) && decide (v.d ≠ u.d))) by by_cases h1 : v.r = u.r <;> by_cases h2 : v.a = u.a <;> by_cases h3 : v.d = u.d <;> simp [h1, h2, h3])
  have hq := fun W => eq_place (v.r, v.a) (u.r, u.a) W
  go_enter Try.func33, Try.ntmps33
  go_wp2_with fail
  generalize (w.alloc (.cells #[.int .i64 v.r, .int .i64 v.a, .int .i64 v.d, .slice am ms.length cm] 27)).alloc (.cells #[.int .i64 u.r, .int .i64 u.a, .int .i64 u.d] 25) = W0 at *
  have hd : Below W0.heap.size W0 W0.drew := (Below.refl _ _).drew
  have hz : W0.heap.size = w.heap.size + 2 := hsz0
  refine wp_region_L 15 (fun w' => Below W0.heap.size W0 w' ∧ w'.cell? ⟨w.heap.size, 0, none⟩ = some (.int .i64 v.r) ∧ w'.cell? ⟨w.heap.size, 1, none⟩ = some (.int .i64 v.a) ∧ w'.cell? ⟨w.heap.size, 2, none⟩ = some (.int .i64 v.d) ∧ w'.cell? ⟨w.heap.size, 3, none⟩ = some (.slice am ms.length cm) ∧ w'.cell? ⟨w.heap.size + 1, 0, none⟩ = some (.int .i64 u.r) ∧ w'.cell? ⟨w.heap.size + 1, 1, none⟩ = some (.int .i64 u.a) ∧ w'.cell? ⟨w.heap.size + 1, 2, none⟩ = some (.int .i64 u.d)) (by kernel_rfl) ⟨hd, k0, k1, k2, k3, j0, j1, j2⟩ (fun hH => ?_)
  generalize W0.drew = wa at *
  clear hd k0 k1 k2 k3 j0 j1 j2
  refine takeL 0 (v := ?va1) rfl (by kernel_rfl) (by kernel_rfl) (by kernel_rfl) (by kernel_rfl) (by kernel_rfl) (fun _ _ _ h => h) hH rfl ?ya1 ?ra1
  case ya1 => intro W hSw; go_simp; try with_reducible rfl
  try simp only [Act.put, List.setIfInBounds_toArray, List.set_cons_zero, List.set_cons_succ]
  refine takeL 1 (v := ?va2) rfl (by kernel_rfl) (by kernel_rfl) (by kernel_rfl) (by kernel_rfl) (by kernel_rfl) (fun _ _ _ h => h) hH rfl ?ya2 ?ra2
  case ya2 => intro W hSw; go_simp; try with_reducible rfl
  try simp only [Act.put, List.setIfInBounds_toArray, List.set_cons_zero, List.set_cons_succ]
  refine takeL 3 (v := ?va3) rfl (by kernel_rfl) (by kernel_rfl) (by kernel_rfl) (by kernel_rfl) (by kernel_rfl) (fun _ _ _ h => h) hH rfl ?ya3 ?ra3
  case ya3 => intro W hSw; go_simp; try with_reducible rfl
  try simp only [Act.put, List.setIfInBounds_toArray, List.set_cons_zero, List.set_cons_succ]
  refine twoL 2 14 rfl rfl (by kernel_rfl) rfl rfl (fun K hK => ?_) (fun K hK => ?_)
  · skip
    go_simp
    go_at_call 57
    refine (H1.out _).mono ?_
    rintro e wx1 ⟨rfl, hbx⟩
    have hlx := hH.1.size
    have hsx := hbx.size
    refine hK.out _ _ ⟨hH.1.trans (hbx.mono hH.1.size), (hbx.cell (p := ⟨w.heap.size, 0, none⟩) (by simp only; omega)).trans hH.2.1, (hbx.cell (p := ⟨w.heap.size, 1, none⟩) (by simp only; omega)).trans hH.2.2.1, (hbx.cell (p := ⟨w.heap.size, 2, none⟩) (by simp only; omega)).trans hH.2.2.2.1, (hbx.cell (p := ⟨w.heap.size, 3, none⟩) (by simp only; omega)).trans hH.2.2.2.2.1, (hbx.cell (p := ⟨w.heap.size + 1, 0, none⟩) (by simp only; omega)).trans hH.2.2.2.2.2.1, (hbx.cell (p := ⟨w.heap.size + 1, 1, none⟩) (by simp only; omega)).trans hH.2.2.2.2.2.2.1, (hbx.cell (p := ⟨w.heap.size + 1, 2, none⟩) (by simp only; omega)).trans hH.2.2.2.2.2.2.2⟩ (fun hH => ?_)
    clear hK K hlx hsx hbx
    try simp only [Act.put, List.setIfInBounds_toArray, List.set_cons_zero, List.set_cons_succ]
    refine twoL 4 14 rfl rfl (by kernel_rfl) rfl rfl (fun K hK => ?_) (fun K hK => ?_)
    · skip
      go_simp
      go_at_call 57
      refine (H2.out _).mono ?_
      rintro e wx2 ⟨rfl, hbx⟩
      have hlx := hH.1.size
      have hsx := hbx.size
      refine hK.out _ _ ⟨hH.1.trans (hbx.mono hH.1.size), (hbx.cell (p := ⟨w.heap.size, 0, none⟩) (by simp only; omega)).trans hH.2.1, (hbx.cell (p := ⟨w.heap.size, 1, none⟩) (by simp only; omega)).trans hH.2.2.1, (hbx.cell (p := ⟨w.heap.size, 2, none⟩) (by simp only; omega)).trans hH.2.2.2.1, (hbx.cell (p := ⟨w.heap.size, 3, none⟩) (by simp only; omega)).trans hH.2.2.2.2.1, (hbx.cell (p := ⟨w.heap.size + 1, 0, none⟩) (by simp only; omega)).trans hH.2.2.2.2.2.1, (hbx.cell (p := ⟨w.heap.size + 1, 1, none⟩) (by simp only; omega)).trans hH.2.2.2.2.2.2.1, (hbx.cell (p := ⟨w.heap.size + 1, 2, none⟩) (by simp only; omega)).trans hH.2.2.2.2.2.2.2⟩ (fun hH => ?_)
      clear hK K hlx hsx hbx
      try simp only [Act.put, List.setIfInBounds_toArray, List.set_cons_zero, List.set_cons_succ]
      refine takeL 5 (v := ?va4) rfl (by kernel_rfl) (by kernel_rfl) (by kernel_rfl) (by kernel_rfl) (by kernel_rfl) (fun _ _ _ h => h) hH rfl ?ya4 ?ra4
      case ya4 => intro W hSw; go_simp; try with_reducible rfl
      try simp only [Act.put, List.setIfInBounds_toArray, List.set_cons_zero, List.set_cons_succ]
      refine takeL 6 (v := ?va5) rfl (by kernel_rfl) (by kernel_rfl) (by kernel_rfl) (by kernel_rfl) (by kernel_rfl) (fun _ _ _ h => h) hH rfl ?ya5 ?ra5
      case ya5 => intro W hSw; go_simp; try with_reducible rfl
      try simp only [Act.put, List.setIfInBounds_toArray, List.set_cons_zero, List.set_cons_succ]
      cases hqv : (v.r == u.r && v.a == u.a) with
      | false =>
        refine skipL 7 rfl (by kernel_rfl) (by kernel_rfl) (by kernel_rfl) (by kernel_rfl) (by kernel_rfl) (fun _ _ _ h => h) hH rfl ?_
        try simp only [Act.put, List.setIfInBounds_toArray, List.set_cons_zero, List.set_cons_succ]
        refine skipL 8 rfl (by kernel_rfl) (by kernel_rfl) (by kernel_rfl) (by kernel_rfl) (by kernel_rfl) (fun _ _ _ h => h) hH rfl ?_
        try simp only [Act.put, List.setIfInBounds_toArray, List.set_cons_zero, List.set_cons_succ]
        refine skipL 9 rfl (by kernel_rfl) (by kernel_rfl) (by kernel_rfl) (by kernel_rfl) (by kernel_rfl) (fun _ _ _ h => h) hH rfl ?_
        try simp only [Act.put, List.setIfInBounds_toArray, List.set_cons_zero, List.set_cons_succ]
        refine skipL 10 rfl (by kernel_rfl) (by kernel_rfl) (by kernel_rfl) (by kernel_rfl) (by kernel_rfl) (fun _ _ _ h => h) hH rfl ?_
        try simp only [Act.put, List.setIfInBounds_toArray, List.set_cons_zero, List.set_cons_succ]
        refine skipL 11 rfl (by kernel_rfl) (by kernel_rfl) (by kernel_rfl) (by kernel_rfl) (by kernel_rfl) (fun _ _ _ h => h) hH rfl ?_
        try simp only [Act.put, List.setIfInBounds_toArray, List.set_cons_zero, List.set_cons_succ]
        refine skipL 12 rfl (by kernel_rfl) (by kernel_rfl) (by kernel_rfl) (by kernel_rfl) (by kernel_rfl) (fun _ _ _ h => h) hH rfl ?_
        try simp only [Act.put, List.setIfInBounds_toArray, List.set_cons_zero, List.set_cons_succ]
        refine takeL 13 (v := ?va6) rfl (by kernel_rfl) (by kernel_rfl) (by kernel_rfl) (by kernel_rfl) (by kernel_rfl) (fun _ _ _ h => h) hH rfl ?ya6 ?ra6
        case ya6 => intro W hSw; go_simp; try with_reducible rfl
        try simp only [Act.put, List.setIfInBounds_toArray, List.set_cons_zero, List.set_cons_succ]
        refine callL 14 rfl (by kernel_rfl) rfl (fun K hK => ?_)
        go_simp
        have hlx := hH.1.size
        have sB := Str.new wx2 4 #[.bool false]
        have hBx : wx2.heap.size < (wx2.alloc (.cells #[.bool false] 4)).heap.size := by simp
        have hB0 : W0.heap.size ≤ wx2.heap.size := hlx
        have hal : Below wx2.heap.size wx2 (wx2.alloc (.cells #[.bool false] 4)) := (Below.refl _ _).alloc (Nat.le_refl _) _
        refine hK.out _ _ ⟨hH.1.trans (hal.mono hH.1.size), (hal.cell (p := ⟨w.heap.size, 0, none⟩) (by simp only; omega)).trans hH.2.1, (hal.cell (p := ⟨w.heap.size, 1, none⟩) (by simp only; omega)).trans hH.2.2.1, (hal.cell (p := ⟨w.heap.size, 2, none⟩) (by simp only; omega)).trans hH.2.2.2.1, (hal.cell (p := ⟨w.heap.size, 3, none⟩) (by simp only; omega)).trans hH.2.2.2.2.1, (hal.cell (p := ⟨w.heap.size + 1, 0, none⟩) (by simp only; omega)).trans hH.2.2.2.2.2.1, (hal.cell (p := ⟨w.heap.size + 1, 1, none⟩) (by simp only; omega)).trans hH.2.2.2.2.2.2.1, (hal.cell (p := ⟨w.heap.size + 1, 2, none⟩) (by simp only; omega)).trans hH.2.2.2.2.2.2.2⟩ (fun hH => ?_)
        clear hK K hlx hal
        try simp only [Act.put, List.setIfInBounds_toArray, List.set_cons_zero, List.set_cons_succ]
        generalize (wx2.alloc (.cells #[.bool false] 4)) = wy3 at *
        generalize wx2.heap.size = B at *
        refine lastL rfl (by kernel_rfl) (by kernel_rfl) (by kernel_rfl) rfl (fun K hK => ?_)
        have f0 := sB.frozen 0
        have c0 := sB.cell 0 (v := .bool false) rfl
        have sB2 := sB.set 0 (.bool false)
        go_simp
        refine hK.out _ _ ?_
        clear hK K
        try simp only [Act.put]
        have d0 := sB2.cell 0 (v := (.bool false)) rfl
        have Hd0 := Lib.hid d0
        have Hb := Lib.hid hH.1
        have Hz := Lib.hid ((wy3.cell?_setCell_other ⟨B, 0, none⟩ ⟨w.heap.size, 3, none⟩ (.bool false) (by simp)).trans hH.2.2.2.2.1)
        clear hH sB sB2 f0 c0 d0
        go_wp2
        go_ret
        refine ⟨B, rfl, by omega, by simp only [World.size_setCell]; omega, by have := Hb.out.size; simp only [World.size_setCell]; omega, ?_, Hz.out, (below_step Hb0.out Hb0.out.size Hb.out).setCell (p := ⟨B, 0, none⟩) (by simp only; omega) _⟩
        rw [Hd0.out, ← Hres.out, hqv]
        simp
      | true =>
        refine takeL 7 (v := ?va7) rfl (by kernel_rfl) (by kernel_rfl) (by kernel_rfl) (by kernel_rfl) (by kernel_rfl) (fun _ _ _ h => h) hH rfl ?ya7 ?ra7
        case ya7 => intro W hSw; go_simp; try with_reducible rfl
        try simp only [Act.put, List.setIfInBounds_toArray, List.set_cons_zero, List.set_cons_succ]
        refine takeL 8 (v := ?va8) rfl (by kernel_rfl) (by kernel_rfl) (by kernel_rfl) (by kernel_rfl) (by kernel_rfl) (fun _ _ _ h => h) hH rfl ?ya8 ?ra8
        case ya8 => intro W hSw; go_simp; try with_reducible rfl
        try simp only [Act.put, List.setIfInBounds_toArray, List.set_cons_zero, List.set_cons_succ]
        refine takeL 9 (v := ?va9) rfl (by kernel_rfl) (by kernel_rfl) (by kernel_rfl) (by kernel_rfl) (by kernel_rfl) (fun _ _ _ h => h) hH rfl ?ya9 ?ra9
        case ya9 => intro W hSw; go_simp; try with_reducible rfl
        try simp only [Act.put, List.setIfInBounds_toArray, List.set_cons_zero, List.set_cons_succ]
        refine takeL 10 (v := ?va10) rfl (by kernel_rfl) (by kernel_rfl) (by kernel_rfl) (by kernel_rfl) (by kernel_rfl) (fun _ _ _ h => h) hH rfl ?ya10 ?ra10
        case ya10 => intro W hSw; go_simp; try with_reducible rfl
        try simp only [Act.put, List.setIfInBounds_toArray, List.set_cons_zero, List.set_cons_succ]
        refine takeL 11 (v := ?va11) rfl (by kernel_rfl) (by kernel_rfl) (by kernel_rfl) (by kernel_rfl) (by kernel_rfl) (fun _ _ _ h => h) hH rfl ?ya11 ?ra11
        case ya11 => intro W hSw; go_simp; try with_reducible rfl
        try simp only [Act.put, List.setIfInBounds_toArray, List.set_cons_zero, List.set_cons_succ]
        refine takeL 12 (v := ?va12) rfl (by kernel_rfl) (by kernel_rfl) (by kernel_rfl) (by kernel_rfl) (by kernel_rfl) (fun _ _ _ h => h) hH rfl ?ya12 ?ra12
        case ya12 => intro W hSw; go_simp; try with_reducible rfl
        try simp only [Act.put, List.setIfInBounds_toArray, List.set_cons_zero, List.set_cons_succ]
        refine takeL 13 (v := ?va13) rfl (by kernel_rfl) (by kernel_rfl) (by kernel_rfl) (by kernel_rfl) (by kernel_rfl) (fun _ _ _ h => h) hH rfl ?ya13 ?ra13
        case ya13 => intro W hSw; go_simp; try with_reducible rfl
        try simp only [Act.put, List.setIfInBounds_toArray, List.set_cons_zero, List.set_cons_succ]
        refine callL 14 rfl (by kernel_rfl) rfl (fun K hK => ?_)
        go_simp
        have hlx := hH.1.size
        have sB := Str.new wx2 4 #[.bool false]
        have hBx : wx2.heap.size < (wx2.alloc (.cells #[.bool false] 4)).heap.size := by simp
        have hB0 : W0.heap.size ≤ wx2.heap.size := hlx
        have hal : Below wx2.heap.size wx2 (wx2.alloc (.cells #[.bool false] 4)) := (Below.refl _ _).alloc (Nat.le_refl _) _
        refine hK.out _ _ ⟨hH.1.trans (hal.mono hH.1.size), (hal.cell (p := ⟨w.heap.size, 0, none⟩) (by simp only; omega)).trans hH.2.1, (hal.cell (p := ⟨w.heap.size, 1, none⟩) (by simp only; omega)).trans hH.2.2.1, (hal.cell (p := ⟨w.heap.size, 2, none⟩) (by simp only; omega)).trans hH.2.2.2.1, (hal.cell (p := ⟨w.heap.size, 3, none⟩) (by simp only; omega)).trans hH.2.2.2.2.1, (hal.cell (p := ⟨w.heap.size + 1, 0, none⟩) (by simp only; omega)).trans hH.2.2.2.2.2.1, (hal.cell (p := ⟨w.heap.size + 1, 1, none⟩) (by simp only; omega)).trans hH.2.2.2.2.2.2.1, (hal.cell (p := ⟨w.heap.size + 1, 2, none⟩) (by simp only; omega)).trans hH.2.2.2.2.2.2.2⟩ (fun hH => ?_)
        clear hK K hlx hal
        try simp only [Act.put, List.setIfInBounds_toArray, List.set_cons_zero, List.set_cons_succ]
        generalize (wx2.alloc (.cells #[.bool false] 4)) = wy4 at *
        generalize wx2.heap.size = B at *
        refine lastL rfl (by kernel_rfl) (by kernel_rfl) (by kernel_rfl) rfl (fun K hK => ?_)
        have f0 := sB.frozen 0
        have c0 := sB.cell 0 (v := .bool false) rfl
        have sB2 := sB.set 0 (.bool (v.d != u.d))
        go_simp
        refine hK.out _ _ ?_
        clear hK K
        try simp only [Act.put]
        have d0 := sB2.cell 0 (v := (.bool (v.d != u.d))) rfl
        have Hd0 := Lib.hid d0
        have Hb := Lib.hid hH.1
        have Hz := Lib.hid ((wy4.cell?_setCell_other ⟨B, 0, none⟩ ⟨w.heap.size, 3, none⟩ (.bool (v.d != u.d)) (by simp)).trans hH.2.2.2.2.1)
        clear hH sB sB2 f0 c0 d0
        go_wp2
        go_ret
        refine ⟨B, rfl, by omega, by simp only [World.size_setCell]; omega, by have := Hb.out.size; simp only [World.size_setCell]; omega, ?_, Hz.out, (below_step Hb0.out Hb0.out.size Hb.out).setCell (p := ⟨B, 0, none⟩) (by simp only; omega) _⟩
        rw [Hd0.out, ← Hres.out, hqv]
        simp
    · skip
      go_simp
      have hlx := hH.1.size
      have sB := Str.new wx1 4 #[.bool false]
      have hBx : wx1.heap.size < (wx1.alloc (.cells #[.bool false] 4)).heap.size := by simp
      have hB0 : W0.heap.size ≤ wx1.heap.size := hlx
      have hal : Below wx1.heap.size wx1 (wx1.alloc (.cells #[.bool false] 4)) := (Below.refl _ _).alloc (Nat.le_refl _) _
      refine hK.out _ _ ⟨hH.1.trans (hal.mono hH.1.size), (hal.cell (p := ⟨w.heap.size, 0, none⟩) (by simp only; omega)).trans hH.2.1, (hal.cell (p := ⟨w.heap.size, 1, none⟩) (by simp only; omega)).trans hH.2.2.1, (hal.cell (p := ⟨w.heap.size, 2, none⟩) (by simp only; omega)).trans hH.2.2.2.1, (hal.cell (p := ⟨w.heap.size, 3, none⟩) (by simp only; omega)).trans hH.2.2.2.2.1, (hal.cell (p := ⟨w.heap.size + 1, 0, none⟩) (by simp only; omega)).trans hH.2.2.2.2.2.1, (hal.cell (p := ⟨w.heap.size + 1, 1, none⟩) (by simp only; omega)).trans hH.2.2.2.2.2.2.1, (hal.cell (p := ⟨w.heap.size + 1, 2, none⟩) (by simp only; omega)).trans hH.2.2.2.2.2.2.2⟩ (fun hH => ?_)
      clear hK K hlx hal
      try simp only [Act.put, List.setIfInBounds_toArray, List.set_cons_zero, List.set_cons_succ]
      generalize (wx1.alloc (.cells #[.bool false] 4)) = wy5 at *
      generalize wx1.heap.size = B at *
      refine callL 4 rfl (by kernel_rfl) rfl (fun K hK => ?_)
      go_simp
      go_at_call 57
      refine (H2.out _).mono ?_
      rintro e wx6 ⟨rfl, hbx⟩
      have hlx := hH.1.size
      have hsx := hbx.size
      have sB : Str wx6 B 4 #[.bool false] := (hbx.block _ sB.lt).trans sB
      have hBx := Nat.lt_of_lt_of_le hBx hsx
      refine hK.out _ _ ⟨hH.1.trans (hbx.mono hH.1.size), (hbx.cell (p := ⟨w.heap.size, 0, none⟩) (by simp only; omega)).trans hH.2.1, (hbx.cell (p := ⟨w.heap.size, 1, none⟩) (by simp only; omega)).trans hH.2.2.1, (hbx.cell (p := ⟨w.heap.size, 2, none⟩) (by simp only; omega)).trans hH.2.2.2.1, (hbx.cell (p := ⟨w.heap.size, 3, none⟩) (by simp only; omega)).trans hH.2.2.2.2.1, (hbx.cell (p := ⟨w.heap.size + 1, 0, none⟩) (by simp only; omega)).trans hH.2.2.2.2.2.1, (hbx.cell (p := ⟨w.heap.size + 1, 1, none⟩) (by simp only; omega)).trans hH.2.2.2.2.2.2.1, (hbx.cell (p := ⟨w.heap.size + 1, 2, none⟩) (by simp only; omega)).trans hH.2.2.2.2.2.2.2⟩ (fun hH => ?_)
      clear hK K hlx hsx hbx
      try simp only [Act.put, List.setIfInBounds_toArray, List.set_cons_zero, List.set_cons_succ]
      refine takeL 5 (v := ?va14) rfl (by kernel_rfl) (by kernel_rfl) (by kernel_rfl) (by kernel_rfl) (by kernel_rfl) (fun _ _ _ h => h) hH rfl ?ya14 ?ra14
      case ya14 => intro W hSw; go_simp; try with_reducible rfl
      try simp only [Act.put, List.setIfInBounds_toArray, List.set_cons_zero, List.set_cons_succ]
      refine takeL 6 (v := ?va15) rfl (by kernel_rfl) (by kernel_rfl) (by kernel_rfl) (by kernel_rfl) (by kernel_rfl) (fun _ _ _ h => h) hH rfl ?ya15 ?ra15
      case ya15 => intro W hSw; go_simp; try with_reducible rfl
      try simp only [Act.put, List.setIfInBounds_toArray, List.set_cons_zero, List.set_cons_succ]
      cases hqv : (v.r == u.r && v.a == u.a) with
      | false =>
        refine skipL 7 rfl (by kernel_rfl) (by kernel_rfl) (by kernel_rfl) (by kernel_rfl) (by kernel_rfl) (fun _ _ _ h => h) hH rfl ?_
        try simp only [Act.put, List.setIfInBounds_toArray, List.set_cons_zero, List.set_cons_succ]
        refine skipL 8 rfl (by kernel_rfl) (by kernel_rfl) (by kernel_rfl) (by kernel_rfl) (by kernel_rfl) (fun _ _ _ h => h) hH rfl ?_
        try simp only [Act.put, List.setIfInBounds_toArray, List.set_cons_zero, List.set_cons_succ]
        refine skipL 9 rfl (by kernel_rfl) (by kernel_rfl) (by kernel_rfl) (by kernel_rfl) (by kernel_rfl) (fun _ _ _ h => h) hH rfl ?_
        try simp only [Act.put, List.setIfInBounds_toArray, List.set_cons_zero, List.set_cons_succ]
        refine skipL 10 rfl (by kernel_rfl) (by kernel_rfl) (by kernel_rfl) (by kernel_rfl) (by kernel_rfl) (fun _ _ _ h => h) hH rfl ?_
        try simp only [Act.put, List.setIfInBounds_toArray, List.set_cons_zero, List.set_cons_succ]
        refine skipL 11 rfl (by kernel_rfl) (by kernel_rfl) (by kernel_rfl) (by kernel_rfl) (by kernel_rfl) (fun _ _ _ h => h) hH rfl ?_
        try simp only [Act.put, List.setIfInBounds_toArray, List.set_cons_zero, List.set_cons_succ]
        refine skipL 12 rfl (by kernel_rfl) (by kernel_rfl) (by kernel_rfl) (by kernel_rfl) (by kernel_rfl) (fun _ _ _ h => h) hH rfl ?_
        try simp only [Act.put, List.setIfInBounds_toArray, List.set_cons_zero, List.set_cons_succ]
        refine takeL 13 (v := ?va16) rfl (by kernel_rfl) (by kernel_rfl) (by kernel_rfl) (by kernel_rfl) (by kernel_rfl) (fun _ _ _ h => h) hH rfl ?ya16 ?ra16
        case ya16 => intro W hSw; go_simp; try with_reducible rfl
        try simp only [Act.put, List.setIfInBounds_toArray, List.set_cons_zero, List.set_cons_succ]
        refine lastL rfl (by kernel_rfl) (by kernel_rfl) (by kernel_rfl) rfl (fun K hK => ?_)
        have f0 := sB.frozen 0
        have c0 := sB.cell 0 (v := .bool false) rfl
        have sB2 := sB.set 0 (.bool false)
        go_simp
        refine hK.out _ _ ?_
        clear hK K
        try simp only [Act.put]
        have d0 := sB2.cell 0 (v := (.bool false)) rfl
        have Hd0 := Lib.hid d0
        have Hb := Lib.hid hH.1
        have Hz := Lib.hid ((wx6.cell?_setCell_other ⟨B, 0, none⟩ ⟨w.heap.size, 3, none⟩ (.bool false) (by simp)).trans hH.2.2.2.2.1)
        clear hH sB sB2 f0 c0 d0
        go_wp2
        go_ret
        refine ⟨B, rfl, by omega, by simp only [World.size_setCell]; omega, by have := Hb.out.size; simp only [World.size_setCell]; omega, ?_, Hz.out, (below_step Hb0.out Hb0.out.size Hb.out).setCell (p := ⟨B, 0, none⟩) (by simp only; omega) _⟩
        rw [Hd0.out, ← Hres.out, hqv]
        simp
      | true =>
        refine takeL 7 (v := ?va17) rfl (by kernel_rfl) (by kernel_rfl) (by kernel_rfl) (by kernel_rfl) (by kernel_rfl) (fun _ _ _ h => h) hH rfl ?ya17 ?ra17
        case ya17 => intro W hSw; go_simp; try with_reducible rfl
        try simp only [Act.put, List.setIfInBounds_toArray, List.set_cons_zero, List.set_cons_succ]
        refine takeL 8 (v := ?va18) rfl (by kernel_rfl) (by kernel_rfl) (by kernel_rfl) (by kernel_rfl) (by kernel_rfl) (fun _ _ _ h => h) hH rfl ?ya18 ?ra18
        case ya18 => intro W hSw; go_simp; try with_reducible rfl
        try simp only [Act.put, List.setIfInBounds_toArray, List.set_cons_zero, List.set_cons_succ]
        refine takeL 9 (v := ?va19) rfl (by kernel_rfl) (by kernel_rfl) (by kernel_rfl) (by kernel_rfl) (by kernel_rfl) (fun _ _ _ h => h) hH rfl ?ya19 ?ra19
        case ya19 => intro W hSw; go_simp; try with_reducible rfl
        try simp only [Act.put, List.setIfInBounds_toArray, List.set_cons_zero, List.set_cons_succ]
        refine takeL 10 (v := ?va20) rfl (by kernel_rfl) (by kernel_rfl) (by kernel_rfl) (by kernel_rfl) (by kernel_rfl) (fun _ _ _ h => h) hH rfl ?ya20 ?ra20
        case ya20 => intro W hSw; go_simp; try with_reducible rfl
        try simp only [Act.put, List.setIfInBounds_toArray, List.set_cons_zero, List.set_cons_succ]
        refine takeL 11 (v := ?va21) rfl (by kernel_rfl) (by kernel_rfl) (by kernel_rfl) (by kernel_rfl) (by kernel_rfl) (fun _ _ _ h => h) hH rfl ?ya21 ?ra21
        case ya21 => intro W hSw; go_simp; try with_reducible rfl
        try simp only [Act.put, List.setIfInBounds_toArray, List.set_cons_zero, List.set_cons_succ]
        refine takeL 12 (v := ?va22) rfl (by kernel_rfl) (by kernel_rfl) (by kernel_rfl) (by kernel_rfl) (by kernel_rfl) (fun _ _ _ h => h) hH rfl ?ya22 ?ra22
        case ya22 => intro W hSw; go_simp; try with_reducible rfl
        try simp only [Act.put, List.setIfInBounds_toArray, List.set_cons_zero, List.set_cons_succ]
        refine takeL 13 (v := ?va23) rfl (by kernel_rfl) (by kernel_rfl) (by kernel_rfl) (by kernel_rfl) (by kernel_rfl) (fun _ _ _ h => h) hH rfl ?ya23 ?ra23
        case ya23 => intro W hSw; go_simp; try with_reducible rfl
        try simp only [Act.put, List.setIfInBounds_toArray, List.set_cons_zero, List.set_cons_succ]
        refine lastL rfl (by kernel_rfl) (by kernel_rfl) (by kernel_rfl) rfl (fun K hK => ?_)
        have f0 := sB.frozen 0
        have c0 := sB.cell 0 (v := .bool false) rfl
        have sB2 := sB.set 0 (.bool (v.d != u.d))
        go_simp
        refine hK.out _ _ ?_
        clear hK K
        try simp only [Act.put]
        have d0 := sB2.cell 0 (v := (.bool (v.d != u.d))) rfl
        have Hd0 := Lib.hid d0
        have Hb := Lib.hid hH.1
        have Hz := Lib.hid ((wx6.cell?_setCell_other ⟨B, 0, none⟩ ⟨w.heap.size, 3, none⟩ (.bool (v.d != u.d)) (by simp)).trans hH.2.2.2.2.1)
        clear hH sB sB2 f0 c0 d0
        go_wp2
        go_ret
        refine ⟨B, rfl, by omega, by simp only [World.size_setCell]; omega, by have := Hb.out.size; simp only [World.size_setCell]; omega, ?_, Hz.out, (below_step Hb0.out Hb0.out.size Hb.out).setCell (p := ⟨B, 0, none⟩) (by simp only; omega) _⟩
        rw [Hd0.out, ← Hres.out, hqv]
        simp
  · skip
    go_simp
    have hlx := hH.1.size
    have sB := Str.new wa 4 #[.bool false]
    have hBx : wa.heap.size < (wa.alloc (.cells #[.bool false] 4)).heap.size := by simp
    have hB0 : W0.heap.size ≤ wa.heap.size := hlx
    have hal : Below wa.heap.size wa (wa.alloc (.cells #[.bool false] 4)) := (Below.refl _ _).alloc (Nat.le_refl _) _
    refine hK.out _ _ ⟨hH.1.trans (hal.mono hH.1.size), (hal.cell (p := ⟨w.heap.size, 0, none⟩) (by simp only; omega)).trans hH.2.1, (hal.cell (p := ⟨w.heap.size, 1, none⟩) (by simp only; omega)).trans hH.2.2.1, (hal.cell (p := ⟨w.heap.size, 2, none⟩) (by simp only; omega)).trans hH.2.2.2.1, (hal.cell (p := ⟨w.heap.size, 3, none⟩) (by simp only; omega)).trans hH.2.2.2.2.1, (hal.cell (p := ⟨w.heap.size + 1, 0, none⟩) (by simp only; omega)).trans hH.2.2.2.2.2.1, (hal.cell (p := ⟨w.heap.size + 1, 1, none⟩) (by simp only; omega)).trans hH.2.2.2.2.2.2.1, (hal.cell (p := ⟨w.heap.size + 1, 2, none⟩) (by simp only; omega)).trans hH.2.2.2.2.2.2.2⟩ (fun hH => ?_)
    clear hK K hlx hal
    try simp only [Act.put, List.setIfInBounds_toArray, List.set_cons_zero, List.set_cons_succ]
    generalize (wa.alloc (.cells #[.bool false] 4)) = wy7 at *
    generalize wa.heap.size = B at *
    refine callL 2 rfl (by kernel_rfl) rfl (fun K hK => ?_)
    go_simp
    go_at_call 57
    refine (H1.out _).mono ?_
    rintro e wx8 ⟨rfl, hbx⟩
    have hlx := hH.1.size
    have hsx := hbx.size
    have sB : Str wx8 B 4 #[.bool false] := (hbx.block _ sB.lt).trans sB
    have hBx := Nat.lt_of_lt_of_le hBx hsx
    refine hK.out _ _ ⟨hH.1.trans (hbx.mono hH.1.size), (hbx.cell (p := ⟨w.heap.size, 0, none⟩) (by simp only; omega)).trans hH.2.1, (hbx.cell (p := ⟨w.heap.size, 1, none⟩) (by simp only; omega)).trans hH.2.2.1, (hbx.cell (p := ⟨w.heap.size, 2, none⟩) (by simp only; omega)).trans hH.2.2.2.1, (hbx.cell (p := ⟨w.heap.size, 3, none⟩) (by simp only; omega)).trans hH.2.2.2.2.1, (hbx.cell (p := ⟨w.heap.size + 1, 0, none⟩) (by simp only; omega)).trans hH.2.2.2.2.2.1, (hbx.cell (p := ⟨w.heap.size + 1, 1, none⟩) (by simp only; omega)).trans hH.2.2.2.2.2.2.1, (hbx.cell (p := ⟨w.heap.size + 1, 2, none⟩) (by simp only; omega)).trans hH.2.2.2.2.2.2.2⟩ (fun hH => ?_)
    clear hK K hlx hsx hbx
    try simp only [Act.put, List.setIfInBounds_toArray, List.set_cons_zero, List.set_cons_succ]
    refine callL 4 rfl (by kernel_rfl) rfl (fun K hK => ?_)
    go_simp
    go_at_call 57
    refine (H2.out _).mono ?_
    rintro e wx9 ⟨rfl, hbx⟩
    have hlx := hH.1.size
    have hsx := hbx.size
    have sB : Str wx9 B 4 #[.bool false] := (hbx.block _ sB.lt).trans sB
    have hBx := Nat.lt_of_lt_of_le hBx hsx
    refine hK.out _ _ ⟨hH.1.trans (hbx.mono hH.1.size), (hbx.cell (p := ⟨w.heap.size, 0, none⟩) (by simp only; omega)).trans hH.2.1, (hbx.cell (p := ⟨w.heap.size, 1, none⟩) (by simp only; omega)).trans hH.2.2.1, (hbx.cell (p := ⟨w.heap.size, 2, none⟩) (by simp only; omega)).trans hH.2.2.2.1, (hbx.cell (p := ⟨w.heap.size, 3, none⟩) (by simp only; omega)).trans hH.2.2.2.2.1, (hbx.cell (p := ⟨w.heap.size + 1, 0, none⟩) (by simp only; omega)).trans hH.2.2.2.2.2.1, (hbx.cell (p := ⟨w.heap.size + 1, 1, none⟩) (by simp only; omega)).trans hH.2.2.2.2.2.2.1, (hbx.cell (p := ⟨w.heap.size + 1, 2, none⟩) (by simp only; omega)).trans hH.2.2.2.2.2.2.2⟩ (fun hH => ?_)
    clear hK K hlx hsx hbx
    try simp only [Act.put, List.setIfInBounds_toArray, List.set_cons_zero, List.set_cons_succ]
    refine takeL 5 (v := ?va24) rfl (by kernel_rfl) (by kernel_rfl) (by kernel_rfl) (by kernel_rfl) (by kernel_rfl) (fun _ _ _ h => h) hH rfl ?ya24 ?ra24
    case ya24 => intro W hSw; go_simp; try with_reducible rfl
    try simp only [Act.put, List.setIfInBounds_toArray, List.set_cons_zero, List.set_cons_succ]
    refine takeL 6 (v := ?va25) rfl (by kernel_rfl) (by kernel_rfl) (by kernel_rfl) (by kernel_rfl) (by kernel_rfl) (fun _ _ _ h => h) hH rfl ?ya25 ?ra25
    case ya25 => intro W hSw; go_simp; try with_reducible rfl
    try simp only [Act.put, List.setIfInBounds_toArray, List.set_cons_zero, List.set_cons_succ]
    cases hqv : (v.r == u.r && v.a == u.a) with
    | false =>
      refine skipL 7 rfl (by kernel_rfl) (by kernel_rfl) (by kernel_rfl) (by kernel_rfl) (by kernel_rfl) (fun _ _ _ h => h) hH rfl ?_
      try simp only [Act.put, List.setIfInBounds_toArray, List.set_cons_zero, List.set_cons_succ]
      refine skipL 8 rfl (by kernel_rfl) (by kernel_rfl) (by kernel_rfl) (by kernel_rfl) (by kernel_rfl) (fun _ _ _ h => h) hH rfl ?_
      try simp only [Act.put, List.setIfInBounds_toArray, List.set_cons_zero, List.set_cons_succ]
      refine skipL 9 rfl (by kernel_rfl) (by kernel_rfl) (by kernel_rfl) (by kernel_rfl) (by kernel_rfl) (fun _ _ _ h => h) hH rfl ?_
      try simp only [Act.put, List.setIfInBounds_toArray, List.set_cons_zero, List.set_cons_succ]
      refine skipL 10 rfl (by kernel_rfl) (by kernel_rfl) (by kernel_rfl) (by kernel_rfl) (by kernel_rfl) (fun _ _ _ h => h) hH rfl ?_
      try simp only [Act.put, List.setIfInBounds_toArray, List.set_cons_zero, List.set_cons_succ]
      refine skipL 11 rfl (by kernel_rfl) (by kernel_rfl) (by kernel_rfl) (by kernel_rfl) (by kernel_rfl) (fun _ _ _ h => h) hH rfl ?_
      try simp only [Act.put, List.setIfInBounds_toArray, List.set_cons_zero, List.set_cons_succ]
      refine skipL 12 rfl (by kernel_rfl) (by kernel_rfl) (by kernel_rfl) (by kernel_rfl) (by kernel_rfl) (fun _ _ _ h => h) hH rfl ?_
      try simp only [Act.put, List.setIfInBounds_toArray, List.set_cons_zero, List.set_cons_succ]
      refine takeL 13 (v := ?va26) rfl (by kernel_rfl) (by kernel_rfl) (by kernel_rfl) (by kernel_rfl) (by kernel_rfl) (fun _ _ _ h => h) hH rfl ?ya26 ?ra26
      case ya26 => intro W hSw; go_simp; try with_reducible rfl
      try simp only [Act.put, List.setIfInBounds_toArray, List.set_cons_zero, List.set_cons_succ]
      refine lastL rfl (by kernel_rfl) (by kernel_rfl) (by kernel_rfl) rfl (fun K hK => ?_)
      have f0 := sB.frozen 0
      have c0 := sB.cell 0 (v := .bool false) rfl
      have sB2 := sB.set 0 (.bool false)
      go_simp
      refine hK.out _ _ ?_
      clear hK K
      try simp only [Act.put]
      have d0 := sB2.cell 0 (v := (.bool false)) rfl
      have Hd0 := Lib.hid d0
      have Hb := Lib.hid hH.1
      have Hz := Lib.hid ((wx9.cell?_setCell_other ⟨B, 0, none⟩ ⟨w.heap.size, 3, none⟩ (.bool false) (by simp)).trans hH.2.2.2.2.1)
      clear hH sB sB2 f0 c0 d0
      go_wp2
      go_ret
      refine ⟨B, rfl, by omega, by simp only [World.size_setCell]; omega, by have := Hb.out.size; simp only [World.size_setCell]; omega, ?_, Hz.out, (below_step Hb0.out Hb0.out.size Hb.out).setCell (p := ⟨B, 0, none⟩) (by simp only; omega) _⟩
      rw [Hd0.out, ← Hres.out, hqv]
      simp
    | true =>
      refine takeL 7 (v := ?va27) rfl (by kernel_rfl) (by kernel_rfl) (by kernel_rfl) (by kernel_rfl) (by kernel_rfl) (fun _ _ _ h => h) hH rfl ?ya27 ?ra27
      case ya27 => intro W hSw; go_simp; try with_reducible rfl
      try simp only [Act.put, List.setIfInBounds_toArray, List.set_cons_zero, List.set_cons_succ]
      refine takeL 8 (v := ?va28) rfl (by kernel_rfl) (by kernel_rfl) (by kernel_rfl) (by kernel_rfl) (by kernel_rfl) (fun _ _ _ h => h) hH rfl ?ya28 ?ra28
      case ya28 => intro W hSw; go_simp; try with_reducible rfl
      try simp only [Act.put, List.setIfInBounds_toArray, List.set_cons_zero, List.set_cons_succ]
      refine takeL 9 (v := ?va29) rfl (by kernel_rfl) (by kernel_rfl) (by kernel_rfl) (by kernel_rfl) (by kernel_rfl) (fun _ _ _ h => h) hH rfl ?ya29 ?ra29
      case ya29 => intro W hSw; go_simp; try with_reducible rfl
      try simp only [Act.put, List.setIfInBounds_toArray, List.set_cons_zero, List.set_cons_succ]
      refine takeL 10 (v := ?va30) rfl (by kernel_rfl) (by kernel_rfl) (by kernel_rfl) (by kernel_rfl) (by kernel_rfl) (fun _ _ _ h => h) hH rfl ?ya30 ?ra30
      case ya30 => intro W hSw; go_simp; try with_reducible rfl
      try simp only [Act.put, List.setIfInBounds_toArray, List.set_cons_zero, List.set_cons_succ]
      refine takeL 11 (v := ?va31) rfl (by kernel_rfl) (by kernel_rfl) (by kernel_rfl) (by kernel_rfl) (by kernel_rfl) (fun _ _ _ h => h) hH rfl ?ya31 ?ra31
      case ya31 => intro W hSw; go_simp; try with_reducible rfl
      try simp only [Act.put, List.setIfInBounds_toArray, List.set_cons_zero, List.set_cons_succ]
      refine takeL 12 (v := ?va32) rfl (by kernel_rfl) (by kernel_rfl) (by kernel_rfl) (by kernel_rfl) (by kernel_rfl) (fun _ _ _ h => h) hH rfl ?ya32 ?ra32
      case ya32 => intro W hSw; go_simp; try with_reducible rfl
      try simp only [Act.put, List.setIfInBounds_toArray, List.set_cons_zero, List.set_cons_succ]
      refine takeL 13 (v := ?va33) rfl (by kernel_rfl) (by kernel_rfl) (by kernel_rfl) (by kernel_rfl) (by kernel_rfl) (fun _ _ _ h => h) hH rfl ?ya33 ?ra33
      case ya33 => intro W hSw; go_simp; try with_reducible rfl
      try simp only [Act.put, List.setIfInBounds_toArray, List.set_cons_zero, List.set_cons_succ]
      refine lastL rfl (by kernel_rfl) (by kernel_rfl) (by kernel_rfl) rfl (fun K hK => ?_)
      have f0 := sB.frozen 0
      have c0 := sB.cell 0 (v := .bool false) rfl
      have sB2 := sB.set 0 (.bool (v.d != u.d))
      go_simp
      refine hK.out _ _ ?_
      clear hK K
      try simp only [Act.put]
      have d0 := sB2.cell 0 (v := (.bool (v.d != u.d))) rfl
      have Hd0 := Lib.hid d0
      have Hb := Lib.hid hH.1
      have Hz := Lib.hid ((wx9.cell?_setCell_other ⟨B, 0, none⟩ ⟨w.heap.size, 3, none⟩ (.bool (v.d != u.d)) (by simp)).trans hH.2.2.2.2.1)
      clear hH sB sB2 f0 c0 d0
      go_wp2
      go_ret
      refine ⟨B, rfl, by omega, by simp only [World.size_setCell]; omega, by have := Hb.out.size; simp only [World.size_setCell]; omega, ?_, Hz.out, (below_step Hb0.out Hb0.out.size Hb.out).setCell (p := ⟨B, 0, none⟩) (by simp only; omega) _⟩
      rw [Hd0.out, ← Hres.out, hqv]
      simp

end Go.Proofs.Ythhikgibmmhcjab
