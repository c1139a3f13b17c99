/- The exact law of TallyGuilty holds at every argument; no conditions of our own. -/
import Derived.Test.YtgpbogalknmcmabRows
import Derived.Test.YtgpbogalknmcmabBu0
import Derived.Test.YtgpbogalknmcmabBu1
import Derived.Test.YtgpbogalknmcmabBu3
import Derived.Test.YtgpbogalknmcmabBu2
namespace Go.Proofs.Ytgpbogalknmcmab
open Go.ChangeShapes Go.WideShapes Go.ChangeAt Go.RowKit

set_option maxHeartbeats 2000000 in
theorem fnExactTallyGuilty_walk (ac : Option Addr) (capc : Nat) (xc : List Int) (a0 : Int) (a1 : Int) (a2 : Int) (aa3 : Option Addr) (capa3 : Nat) (xa3 : List Int) (b0 : Int) (b1 : Int) (b2 : Int) (ab3 : Option Addr) (capb3 : Nat) (xb3 : List Int) (w : World) (_hkc : xc.length ≤ capc) (hmc : xc.length ≤ maxLen) (hic : IntsAt w ac xc) (_hwc : ∀ z ∈ xc, (Lit.int .i64 z).wf = true) (_ha0 : -9223372036854775808 ≤ a0 ∧ a0 ≤ 9223372036854775807) (_ha1 : -9223372036854775808 ≤ a1 ∧ a1 ≤ 9223372036854775807) (_ha2 : -9223372036854775808 ≤ a2 ∧ a2 ≤ 9223372036854775807) (hmxa3 : xa3.length ≤ maxLen ∧ ∀ x ∈ xa3, -9223372036854775808 ≤ x ∧ x ≤ 9223372036854775807) (hixa3 : IntsAt w aa3 xa3) (_hb0 : -9223372036854775808 ≤ b0 ∧ b0 ≤ 9223372036854775807) (_hb1 : -9223372036854775808 ≤ b1 ∧ b1 ≤ 9223372036854775807) (_hb2 : -9223372036854775808 ≤ b2 ∧ b2 ≤ 9223372036854775807) (hmxb3 : xb3.length ≤ maxLen ∧ ∀ x ∈ xb3, -9223372036854775808 ≤ x ∧ x ≤ 9223372036854775807) (hixb3 : IntsAt w ab3 xb3) :
    Calls Try.prog 9 #[.slice ac xc.length capc, .agg #[.int .i64 a0, .int .i64 a1, .int .i64 a2, .slice aa3 xa3.length capa3], .agg #[.int .i64 b0, .int .i64 b1, .int .i64 b2, .slice ab3 xb3.length capb3]] w fun e w' => e = .returned (.bool true) ∧ Below w.heap.size w w' := by
  unfold maxLen at hmc
  obtain ⟨_ha01, _ha02⟩ := _ha0
  obtain ⟨_ha11, _ha12⟩ := _ha1
  obtain ⟨_ha21, _ha22⟩ := _ha2
  obtain ⟨hmxa3, _hbxa3⟩ := hmxa3
  unfold maxLen at hmxa3
  obtain ⟨_hb01, _hb02⟩ := _hb0
  obtain ⟨_hb11, _hb12⟩ := _hb1
  obtain ⟨_hb21, _hb22⟩ := _hb2
  obtain ⟨hmxb3, _hbxb3⟩ := hmxb3
  unfold maxLen at hmxb3
  have hbx0 : Below w.heap.size w (w.alloc (.cells #[.int .i64 a0, .int .i64 a1, .int .i64 a2, .slice aa3 xa3.length capa3] 48)) := (Below.refl w.heap.size w).alloc (by first | exact Nat.le_refl _ | (simp only [World.size_alloc]; omega)) _
  have hsx0 := Str.new (w) 48 #[.int .i64 a0, .int .i64 a1, .int .i64 a2, .slice aa3 xa3.length capa3]
  have hbx1 : Below w.heap.size w ((w.alloc (.cells #[.int .i64 a0, .int .i64 a1, .int .i64 a2, .slice aa3 xa3.length capa3] 48)).alloc (.cells #[.int .i64 b0, .int .i64 b1, .int .i64 b2, .slice ab3 xb3.length capb3] 48)) := (hbx0).alloc (by first | exact Nat.le_refl _ | (simp only [World.size_alloc]; omega)) _
  have hsx1 := Str.new ((w.alloc (.cells #[.int .i64 a0, .int .i64 a1, .int .i64 a2, .slice aa3 xa3.length capa3] 48))) 48 #[.int .i64 b0, .int .i64 b1, .int .i64 b2, .slice ab3 xb3.length capb3]
  have hsx0 := hsx0.alloc (.cells #[.int .i64 b0, .int .i64 b1, .int .i64 b2, .slice ab3 xb3.length capb3] 48)
  by_cases hlc : xc.length ≤ 1048576
  case neg =>
    go_enter Try.func9, Try.ntmps9
    go_wp2
    go_ret
    exact ⟨rfl, hbx1⟩
  have Hic := Lib.hid hic; clear hic
  have Hixa3 := Lib.hid hixa3; clear hixa3
  have Hixb3 := Lib.hid hixb3; clear hixb3
  have hzx : ((w.alloc (.cells #[.int .i64 a0, .int .i64 a1, .int .i64 a2, .slice aa3 xa3.length capa3] 48)).alloc (.cells #[.int .i64 b0, .int .i64 b1, .int .i64 b2, .slice ab3 xb3.length capb3] 48)).heap.size = w.heap.size + 2 := by simp
  have Sab := Lib.hid (show Str ((w.alloc (.cells #[.int .i64 a0, .int .i64 a1, .int .i64 a2, .slice aa3 xa3.length capa3] 48)).alloc (.cells #[.int .i64 b0, .int .i64 b1, .int .i64 b2, .slice ab3 xb3.length capb3] 48)) (w.heap.size) 48 #[.int .i64 a0, .int .i64 a1, .int .i64 a2, .slice aa3 xa3.length capa3] by simpa using hsx0)
  clear hsx0
  have Sbb := Lib.hid (show Str ((w.alloc (.cells #[.int .i64 a0, .int .i64 a1, .int .i64 a2, .slice aa3 xa3.length capa3] 48)).alloc (.cells #[.int .i64 b0, .int .i64 b1, .int .i64 b2, .slice ab3 xb3.length capb3] 48)) (w.heap.size + 1) 48 #[.int .i64 b0, .int .i64 b1, .int .i64 b2, .slice ab3 xb3.length capb3] by simpa using hsx1)
  clear hsx1
  have Hb0 := Lib.hid hbx1
  clear hbx0 hbx1
  have Hsza := Lib.hid (fun w => laws_szTallyR a0 a1 a2 aa3 capa3 xa3 (1048576) w (by omega) (by omega))
  go_enter Try.func9, Try.ntmps9
  have qab_0 := Sab.out.cell 0 (v := .int .i64 a0) rfl
  have qab_1 := Sab.out.cell 1 (v := .int .i64 a1) rfl
  have qab_2 := Sab.out.cell 2 (v := .int .i64 a2) rfl
  have qab_3 := Sab.out.cell 3 (v := .slice aa3 xa3.length capa3) rfl
  go_wp2_with fail
  generalize ((w.alloc (.cells #[.int .i64 a0, .int .i64 a1, .int .i64 a2, .slice aa3 xa3.length capa3] 48)).alloc (.cells #[.int .i64 b0, .int .i64 b1, .int .i64 b2, .slice ab3 xb3.length capb3] 48)) = w0 at *
  refine (Hsza.out _).mono ?_
  rintro e w1 ⟨rfl, hb1⟩
  have Hb1 := Lib.hid (below_step Hb0.out Hb0.out.size hb1)
  have Sab := Lib.hid (show Str w1 w.heap.size 48 #[.int .i64 a0, .int .i64 a1, .int .i64 a2, .slice aa3 xa3.length capa3] from ((hb1).block _ Sab.out.lt).trans Sab.out)
  have Sbb := Lib.hid (show Str w1 (w.heap.size + 1) 48 #[.int .i64 b0, .int .i64 b1, .int .i64 b2, .slice ab3 xb3.length capb3] from ((hb1).block _ Sbb.out.lt).trans Sbb.out)
  have hz1 := (hb1).size
  clear qab_0 qab_1 qab_2 qab_3
  by_cases hlxa3 : xa3.length ≤ 1048576
  case neg =>
    rw [if_neg hlxa3]
    go_wp2
    go_ret
    exact ⟨rfl, Hb1.out⟩
  rw [if_pos hlxa3]
  have hnega : decide ((((1048576 - xa3.length : Nat)) : Int) < 0) = false := decide_eq_false (by omega)
  have hngea : ¬ (((1048576 - xa3.length : Nat) : Int) < 0) := by omega
  have Hszb := Lib.hid (fun w => laws_szTallyR b0 b1 b2 ab3 capb3 xb3 (1048576 - xa3.length) w (by omega) (by omega))
  have qbb_0 := Sbb.out.cell 0 (v := .int .i64 b0) rfl
  have qbb_1 := Sbb.out.cell 1 (v := .int .i64 b1) rfl
  have qbb_2 := Sbb.out.cell 2 (v := .int .i64 b2) rfl
  have qbb_3 := Sbb.out.cell 3 (v := .slice ab3 xb3.length capb3) rfl
  go_wp2_with fail
  refine (Hszb.out _).mono ?_
  rintro e w2 ⟨rfl, hb2⟩
  have Hb2 := Lib.hid (below_step Hb1.out Hb1.out.size hb2)
  have Sab := Lib.hid (show Str w2 w.heap.size 48 #[.int .i64 a0, .int .i64 a1, .int .i64 a2, .slice aa3 xa3.length capa3] from ((hb2).block _ Sab.out.lt).trans Sab.out)
  have Sbb := Lib.hid (show Str w2 (w.heap.size + 1) 48 #[.int .i64 b0, .int .i64 b1, .int .i64 b2, .slice ab3 xb3.length capb3] from ((hb2).block _ Sbb.out.lt).trans Sbb.out)
  have hz2 := (hb2).size
  clear qbb_0 qbb_1 qbb_2 qbb_3
  by_cases hlxb3 : xb3.length ≤ 1048576 - xa3.length
  case neg =>
    rw [if_neg hlxb3]
    go_wp2
    go_ret
    exact ⟨rfl, Hb2.out⟩
  rw [if_pos hlxb3]
  have hnegb : decide ((((1048576 - xa3.length - xb3.length : Nat)) : Int) < 0) = false := decide_eq_false (by omega)
  have hngeb : ¬ (((1048576 - xa3.length - xb3.length : Nat) : Int) < 0) := by omega
  have hL2 : (guiltyZ xc ⟨a0, a1, a2⟩ ⟨b0, b1, b2⟩ xa3 xb3).length ≤ 1048576 := by unfold guiltyZ; split; exact Nat.le_trans (commonTo_len _ _ _) (by omega); simp
  have Hspec := Lib.hid (fun ac cc aa_ ca ab_ cb w (_hcc : xc.length ≤ cc) (h : IntsAt w ac xc) (_hca : xa3.length ≤ ca) (h' : IntsAt w aa_ xa3) (_hs : SrcAt w aa_ ca xa3) (_hcb : xb3.length ≤ cb) (h'' : IntsAt w ab_ xb3) (_hs' : SrcAt w ab_ cb xb3) => spec_TallyGuilty ac cc xc a0 a1 a2 b0 b1 b2 aa_ ab_ ca cb xa3 xb3 w (by omega) (by omega) (by omega) h h' h'')
  have Himpl := Lib.hid (fun ac cc aa_ ca ab_ cb w (_hcc : xc.length ≤ cc) (h : IntsAt w ac xc) (_hca : xa3.length ≤ ca) (h' : IntsAt w aa_ xa3) (_hs : SrcAt w aa_ ca xa3) (_hcb : xb3.length ≤ cb) (h'' : IntsAt w ab_ xb3) (_hs' : SrcAt w ab_ cb xb3) => impl_TallyGuilty ac cc xc a0 a1 a2 b0 b1 b2 aa_ ab_ ca cb xa3 xb3 w (by omega) (by omega) (by omega) h h' h'')
  generalize guiltyZ xc ⟨a0, a1, a2⟩ ⟨b0, b1, b2⟩ xa3 xb3 = L at *
  have qab_0 := Sab.out.cell 0 (v := .int .i64 a0) rfl
  have qab_1 := Sab.out.cell 1 (v := .int .i64 a1) rfl
  have qab_2 := Sab.out.cell 2 (v := .int .i64 a2) rfl
  have qab_3 := Sab.out.cell 3 (v := .slice aa3 xa3.length capa3) rfl
  have qbb_0 := Sbb.out.cell 0 (v := .int .i64 b0) rfl
  have qbb_1 := Sbb.out.cell 1 (v := .int .i64 b1) rfl
  have qbb_2 := Sbb.out.cell 2 (v := .int .i64 b2) rfl
  have qbb_3 := Sbb.out.cell 3 (v := .slice ab3 xb3.length capb3) rfl
  go_wp2_with fail
  clear qab_0 qab_1 qab_2 qab_3 qbb_0 qbb_1 qbb_2 qbb_3
  have hdr : Below w2.heap.size w2 w2.drew := (Below.refl _ _).drew
  refine wp_region_held_drew (S := fun w' => w'.cell? ⟨w.heap.size, 0, none⟩ = some (.int .i64 a0) ∧ w'.cell? ⟨w.heap.size, 1, none⟩ = some (.int .i64 a1) ∧ w'.cell? ⟨w.heap.size, 2, none⟩ = some (.int .i64 a2) ∧ w'.cell? ⟨w.heap.size, 3, none⟩ = some (.slice aa3 xa3.length capa3) ∧ w'.cell? ⟨(w.heap.size + 1), 0, none⟩ = some (.int .i64 b0) ∧ w'.cell? ⟨(w.heap.size + 1), 1, none⟩ = some (.int .i64 b1) ∧ w'.cell? ⟨(w.heap.size + 1), 2, none⟩ = some (.int .i64 b2) ∧ w'.cell? ⟨(w.heap.size + 1), 3, none⟩ = some (.slice ab3 xb3.length capb3)) (by kernel_rfl) ⟨Sab.out.cell 0 (v := .int .i64 a0) rfl, Sab.out.cell 1 (v := .int .i64 a1) rfl, Sab.out.cell 2 (v := .int .i64 a2) rfl, Sab.out.cell 3 (v := .slice aa3 xa3.length capa3) rfl, Sbb.out.cell 0 (v := .int .i64 b0) rfl, Sbb.out.cell 1 (v := .int .i64 b1) rfl, Sbb.out.cell 2 (v := .int .i64 b2) rfl, Sbb.out.cell 3 (v := .slice ab3 xb3.length capb3) rfl⟩ (fun hH => ?_)
  generalize w2.drew = w3 at *
  have Hb3 := Lib.hid (below_step Hb2.out Hb2.out.size hdr)
  have Sab := Lib.hid (show Str w3 w.heap.size 48 #[.int .i64 a0, .int .i64 a1, .int .i64 a2, .slice aa3 xa3.length capa3] from ((hdr).block _ Sab.out.lt).trans Sab.out)
  have Sbb := Lib.hid (show Str w3 (w.heap.size + 1) 48 #[.int .i64 b0, .int .i64 b1, .int .i64 b2, .slice ab3 xb3.length capb3] from ((hdr).block _ Sbb.out.lt).trans Sbb.out)
  have hz3 := (hdr).size
  clear hdr
  refine takeH 0 (v := ?vsw0) rfl (by kernel_rfl) (by kernel_rfl) (by kernel_rfl) (fun _ _ _ h => h) hH rfl ?ysw0 ?rsw0
  case ysw0 => intro W hSw; go_simp; try with_reducible rfl
  try simp only [Act.put, List.setIfInBounds_toArray, List.set_cons_zero, List.set_cons_succ]
  refine takeH 2 (v := ?vsw1) rfl (by kernel_rfl) (by kernel_rfl) (by kernel_rfl) (fun _ _ _ h => h) hH rfl ?ysw1 ?rsw1
  case ysw1 => intro W hSw; go_simp; try with_reducible rfl
  try simp only [Act.put, List.setIfInBounds_toArray, List.set_cons_zero, List.set_cons_succ]
  refine takeH 4 (v := ?vsw2) rfl (by kernel_rfl) (by kernel_rfl) (by kernel_rfl) (fun _ _ _ h => h) hH rfl ?ysw2 ?rsw2
  case ysw2 => intro W hSw; go_simp; try with_reducible rfl
  try simp only [Act.put, List.setIfInBounds_toArray, List.set_cons_zero, List.set_cons_succ]
  refine callH 1 rfl (by kernel_rfl) rfl (fun K hK => ?_)
  go_simp
  refine (laws_toIntS ac capc xc _ (by omega) (Hic.out.below Hb3.out)).mono ?_
  rintro e w4 ⟨vcs, rfl, hocs, hb4⟩
  have Hb4 := Lib.hid (below_step Hb3.out Hb3.out.size hb4)
  have Sab := Lib.hid (show Str w4 w.heap.size 48 #[.int .i64 a0, .int .i64 a1, .int .i64 a2, .slice aa3 xa3.length capa3] from ((hb4).block _ Sab.out.lt).trans Sab.out)
  have Sbb := Lib.hid (show Str w4 (w.heap.size + 1) 48 #[.int .i64 b0, .int .i64 b1, .int .i64 b2, .slice ab3 xb3.length capb3] from ((hb4).block _ Sbb.out.lt).trans Sbb.out)
  have hz4 := (hb4).size
  have Hcs := Lib.hid (OwnI.of hocs); clear hocs
  obtain ⟨acs, ccs, rfl, _, _⟩ := Hcs.out.ints
  have hccs := Hcs.out.cap
  have hhcs : w3.heap.size ≤ w3.heap.size := Nat.le_refl _
  have hjcs : w4.heap.size ≤ w4.heap.size := Nat.le_refl _
  dsimp only
  refine hK.out _ _ ⟨Sab.out.cell 0 (v := .int .i64 a0) rfl, Sab.out.cell 1 (v := .int .i64 a1) rfl, Sab.out.cell 2 (v := .int .i64 a2) rfl, Sab.out.cell 3 (v := .slice aa3 xa3.length capa3) rfl, Sbb.out.cell 0 (v := .int .i64 b0) rfl, Sbb.out.cell 1 (v := .int .i64 b1) rfl, Sbb.out.cell 2 (v := .int .i64 b2) rfl, Sbb.out.cell 3 (v := .slice ab3 xb3.length capb3) rfl⟩ (fun hH => ?_)
  clear hK K
  try simp only [Act.put, List.setIfInBounds_toArray, List.set_cons_zero, List.set_cons_succ]
  refine callH 3 rfl (by kernel_rfl) rfl (fun K hK => ?_)
  go_simp
  refine (laws_toTallyR a0 a1 a2 aa3 capa3 xa3 _ (by omega) (Hixa3.out.below Hb4.out)).mono ?_
  rintro e w5 ⟨vas, rfl, hoas, hb5⟩
  have Hb5 := Lib.hid (below_step Hb4.out Hb4.out.size hb5)
  have Hcs := Lib.hid (Hcs.out.below hb5)
  have Sab := Lib.hid (show Str w5 w.heap.size 48 #[.int .i64 a0, .int .i64 a1, .int .i64 a2, .slice aa3 xa3.length capa3] from ((hb5).block _ Sab.out.lt).trans Sab.out)
  have Sbb := Lib.hid (show Str w5 (w.heap.size + 1) 48 #[.int .i64 b0, .int .i64 b1, .int .i64 b2, .slice ab3 xb3.length capb3] from ((hb5).block _ Sbb.out.lt).trans Sbb.out)
  have hz5 := (hb5).size
  have Has := Lib.hid (OwnI.of hoas); clear hoas
  obtain ⟨aas, cas, rfl, _, _⟩ := Has.out.ints
  have hcas := Has.out.cap
  have hhas : w4.heap.size ≤ w4.heap.size := Nat.le_refl _
  have hjas : w5.heap.size ≤ w5.heap.size := Nat.le_refl _
  dsimp only
  refine hK.out _ _ ⟨Sab.out.cell 0 (v := .int .i64 a0) rfl, Sab.out.cell 1 (v := .int .i64 a1) rfl, Sab.out.cell 2 (v := .int .i64 a2) rfl, Sab.out.cell 3 (v := .slice aa3 xa3.length capa3) rfl, Sbb.out.cell 0 (v := .int .i64 b0) rfl, Sbb.out.cell 1 (v := .int .i64 b1) rfl, Sbb.out.cell 2 (v := .int .i64 b2) rfl, Sbb.out.cell 3 (v := .slice ab3 xb3.length capb3) rfl⟩ (fun hH => ?_)
  clear hK K
  try simp only [Act.put, List.setIfInBounds_toArray, List.set_cons_zero, List.set_cons_succ]
  refine callH 5 rfl (by kernel_rfl) rfl (fun K hK => ?_)
  go_simp
  refine (laws_toTallyR b0 b1 b2 ab3 capb3 xb3 _ (by omega) (Hixb3.out.below Hb5.out)).mono ?_
  rintro e w6 ⟨vbs, rfl, hobs, hb6⟩
  have Hb6 := Lib.hid (below_step Hb5.out Hb5.out.size hb6)
  have Hcs := Lib.hid (Hcs.out.below hb6)
  have Has := Lib.hid (Has.out.below hb6)
  have Sab := Lib.hid (show Str w6 w.heap.size 48 #[.int .i64 a0, .int .i64 a1, .int .i64 a2, .slice aa3 xa3.length capa3] from ((hb6).block _ Sab.out.lt).trans Sab.out)
  have Sbb := Lib.hid (show Str w6 (w.heap.size + 1) 48 #[.int .i64 b0, .int .i64 b1, .int .i64 b2, .slice ab3 xb3.length capb3] from ((hb6).block _ Sbb.out.lt).trans Sbb.out)
  have hz6 := (hb6).size
  have Hbs := Lib.hid (OwnI.of hobs); clear hobs
  obtain ⟨abs, cbs, rfl, _, _⟩ := Hbs.out.ints
  have hcbs := Hbs.out.cap
  have hhbs : w5.heap.size ≤ w5.heap.size := Nat.le_refl _
  have hjbs : w6.heap.size ≤ w6.heap.size := Nat.le_refl _
  dsimp only
  refine hK.out _ _ ⟨Sab.out.cell 0 (v := .int .i64 a0) rfl, Sab.out.cell 1 (v := .int .i64 a1) rfl, Sab.out.cell 2 (v := .int .i64 a2) rfl, Sab.out.cell 3 (v := .slice aa3 xa3.length capa3) rfl, Sbb.out.cell 0 (v := .int .i64 b0) rfl, Sbb.out.cell 1 (v := .int .i64 b1) rfl, Sbb.out.cell 2 (v := .int .i64 b2) rfl, Sbb.out.cell 3 (v := .slice ab3 xb3.length capb3) rfl⟩ (fun hH => ?_)
  clear hK K
  try simp only [Act.put, List.setIfInBounds_toArray, List.set_cons_zero, List.set_cons_succ]
  refine callH 6 rfl (by kernel_rfl) rfl (fun K hK => ?_)
  go_simp
  refine (Hspec.out acs ccs aas cas abs cbs _ hccs Hcs.out.at hcas Has.out.at (own_src Has.out.own) hcbs Hbs.out.at (own_src Hbs.out.own)).mono ?_
  rintro e w7 ⟨vw0, rfl, how0, hb7⟩
  have Hb7 := Lib.hid (below_step Hb6.out Hb6.out.size hb7)
  have Hcs := Lib.hid (Hcs.out.below hb7)
  have Has := Lib.hid (Has.out.below hb7)
  have Hbs := Lib.hid (Hbs.out.below hb7)
  have Sab := Lib.hid (show Str w7 w.heap.size 48 #[.int .i64 a0, .int .i64 a1, .int .i64 a2, .slice aa3 xa3.length capa3] from ((hb7).block _ Sab.out.lt).trans Sab.out)
  have Sbb := Lib.hid (show Str w7 (w.heap.size + 1) 48 #[.int .i64 b0, .int .i64 b1, .int .i64 b2, .slice ab3 xb3.length capb3] from ((hb7).block _ Sbb.out.lt).trans Sbb.out)
  have hz7 := (hb7).size
  have Hw0 := Lib.hid (OwnI.of how0); clear how0
  obtain ⟨aw0, cw0, rfl, _, _⟩ := Hw0.out.ints
  have hcw0 := Hw0.out.cap
  have hhw0 : w6.heap.size ≤ w6.heap.size := Nat.le_refl _
  have hjw0 : w7.heap.size ≤ w7.heap.size := Nat.le_refl _
  dsimp only
  refine hK.out _ _ ⟨Sab.out.cell 0 (v := .int .i64 a0) rfl, Sab.out.cell 1 (v := .int .i64 a1) rfl, Sab.out.cell 2 (v := .int .i64 a2) rfl, Sab.out.cell 3 (v := .slice aa3 xa3.length capa3) rfl, Sbb.out.cell 0 (v := .int .i64 b0) rfl, Sbb.out.cell 1 (v := .int .i64 b1) rfl, Sbb.out.cell 2 (v := .int .i64 b2) rfl, Sbb.out.cell 3 (v := .slice ab3 xb3.length capb3) rfl⟩ (fun hH => ?_)
  clear hK K
  try simp only [Act.put, List.setIfInBounds_toArray, List.set_cons_zero, List.set_cons_succ]
  refine takeH 7 (v := ?vsw7) rfl (by kernel_rfl) (by kernel_rfl) (by kernel_rfl) (fun _ _ _ h => h) hH rfl ?ysw7 ?rsw7
  case ysw7 => intro W hSw; go_simp; try with_reducible rfl
  try simp only [Act.put, List.setIfInBounds_toArray, List.set_cons_zero, List.set_cons_succ]
  refine wpAnyH_done (by kernel_rfl) ?_ _
  try simp only [Act.put]
  clear hH
  clear Hcs
  clear Has
  clear Hbs
  go_wp2_with fail
  refine (laws_toIntS ac capc xc _ (by omega) (Hic.out.below Hb7.out)).mono ?_
  rintro e w8 ⟨vcx, rfl, hocx, hb8⟩
  have Hb8 := Lib.hid (below_step Hb7.out Hb7.out.size hb8)
  have Hw0 := Lib.hid (Hw0.out.below hb8)
  have Sab := Lib.hid (show Str w8 w.heap.size 48 #[.int .i64 a0, .int .i64 a1, .int .i64 a2, .slice aa3 xa3.length capa3] from ((hb8).block _ Sab.out.lt).trans Sab.out)
  have Sbb := Lib.hid (show Str w8 (w.heap.size + 1) 48 #[.int .i64 b0, .int .i64 b1, .int .i64 b2, .slice ab3 xb3.length capb3] from ((hb8).block _ Sbb.out.lt).trans Sbb.out)
  have hz8 := (hb8).size
  have Hcx := Lib.hid (OwnI.of hocx); clear hocx
  obtain ⟨acx, ccx, rfl, _, _⟩ := Hcx.out.ints
  have hccx := Hcx.out.cap
  have hhcx : w7.heap.size ≤ w7.heap.size := Nat.le_refl _
  have hjcx : w8.heap.size ≤ w8.heap.size := Nat.le_refl _
  have qab_0 := Sab.out.cell 0 (v := .int .i64 a0) rfl
  have qab_1 := Sab.out.cell 1 (v := .int .i64 a1) rfl
  have qab_2 := Sab.out.cell 2 (v := .int .i64 a2) rfl
  have qab_3 := Sab.out.cell 3 (v := .slice aa3 xa3.length capa3) rfl
  go_wp2_with fail
  refine (laws_toTallyR a0 a1 a2 aa3 capa3 xa3 _ (by omega) (Hixa3.out.below Hb8.out)).mono ?_
  rintro e w9 ⟨vax, rfl, hoax, hb9⟩
  have Hb9 := Lib.hid (below_step Hb8.out Hb8.out.size hb9)
  have Hw0 := Lib.hid (Hw0.out.below hb9)
  have Hcx := Lib.hid (Hcx.out.below hb9)
  have Sab := Lib.hid (show Str w9 w.heap.size 48 #[.int .i64 a0, .int .i64 a1, .int .i64 a2, .slice aa3 xa3.length capa3] from ((hb9).block _ Sab.out.lt).trans Sab.out)
  have Sbb := Lib.hid (show Str w9 (w.heap.size + 1) 48 #[.int .i64 b0, .int .i64 b1, .int .i64 b2, .slice ab3 xb3.length capb3] from ((hb9).block _ Sbb.out.lt).trans Sbb.out)
  have hz9 := (hb9).size
  have Hax := Lib.hid (OwnI.of hoax); clear hoax
  obtain ⟨aax, cax, rfl, _, _⟩ := Hax.out.ints
  have hcax := Hax.out.cap
  have hhax : w8.heap.size ≤ w8.heap.size := Nat.le_refl _
  have hjax : w9.heap.size ≤ w9.heap.size := Nat.le_refl _
  clear qab_0 qab_1 qab_2 qab_3
  have hAaxv : Below w9.heap.size w9 (w9.alloc (.cells #[.int .i64 a0, .int .i64 a1, .int .i64 a2, .slice aax xa3.length cax] 27)) := (Below.refl _ _).alloc (Nat.le_refl _) _
  have sNaxv := Str.new w9 27 #[.int .i64 a0, .int .i64 a1, .int .i64 a2, .slice aax xa3.length cax]
  have hzAaxv : (w9.alloc (.cells #[.int .i64 a0, .int .i64 a1, .int .i64 a2, .slice aax xa3.length cax] 27)).heap.size = w9.heap.size + 1 := by simp
  have hbsaxv : w9.heap.size ≤ w9.heap.size := Nat.le_refl _
  have Hb10 := Lib.hid (below_step Hb9.out Hb9.out.size hAaxv)
  have Hw0 := Lib.hid (Hw0.out.below hAaxv)
  have Hcx := Lib.hid (Hcx.out.below hAaxv)
  have Hax := Lib.hid (Hax.out.below hAaxv)
  have Sab := Lib.hid (show Str (w9.alloc (.cells #[.int .i64 a0, .int .i64 a1, .int .i64 a2, .slice aax xa3.length cax] 27)) w.heap.size 48 #[.int .i64 a0, .int .i64 a1, .int .i64 a2, .slice aa3 xa3.length capa3] from (hAaxv.block _ Sab.out.lt).trans Sab.out)
  have Sbb := Lib.hid (show Str (w9.alloc (.cells #[.int .i64 a0, .int .i64 a1, .int .i64 a2, .slice aax xa3.length cax] 27)) (w.heap.size + 1) 48 #[.int .i64 b0, .int .i64 b1, .int .i64 b2, .slice ab3 xb3.length capb3] from (hAaxv.block _ Sbb.out.lt).trans Sbb.out)
  have Saxv := Lib.hid sNaxv; clear sNaxv
  clear hAaxv
  have qab_0 := Sab.out.cell 0 (v := .int .i64 a0) rfl
  have qab_1 := Sab.out.cell 1 (v := .int .i64 a1) rfl
  have qab_2 := Sab.out.cell 2 (v := .int .i64 a2) rfl
  have qab_3 := Sab.out.cell 3 (v := .slice aa3 xa3.length capa3) rfl
  have qbb_0 := Sbb.out.cell 0 (v := .int .i64 b0) rfl
  have qbb_1 := Sbb.out.cell 1 (v := .int .i64 b1) rfl
  have qbb_2 := Sbb.out.cell 2 (v := .int .i64 b2) rfl
  have qbb_3 := Sbb.out.cell 3 (v := .slice ab3 xb3.length capb3) rfl
  have qaxv_0 := Saxv.out.cell 0 (v := .int .i64 a0) rfl
  have qaxv_1 := Saxv.out.cell 1 (v := .int .i64 a1) rfl
  have qaxv_2 := Saxv.out.cell 2 (v := .int .i64 a2) rfl
  have qaxv_3 := Saxv.out.cell 3 (v := .slice aax xa3.length cax) rfl
  go_wp2_with fail
  generalize w9.alloc (.cells #[.int .i64 a0, .int .i64 a1, .int .i64 a2, .slice aax xa3.length cax] 27) = w10 at *
  have qbb_0 := Sbb.out.cell 0 (v := .int .i64 b0) rfl
  have qbb_1 := Sbb.out.cell 1 (v := .int .i64 b1) rfl
  have qbb_2 := Sbb.out.cell 2 (v := .int .i64 b2) rfl
  have qbb_3 := Sbb.out.cell 3 (v := .slice ab3 xb3.length capb3) rfl
  refine (laws_toTallyR b0 b1 b2 ab3 capb3 xb3 _ (by omega) (Hixb3.out.below Hb10.out)).mono ?_
  rintro e w11 ⟨vbx, rfl, hobx, hb11⟩
  have Hb11 := Lib.hid (below_step Hb10.out Hb10.out.size hb11)
  have Hw0 := Lib.hid (Hw0.out.below hb11)
  have Hcx := Lib.hid (Hcx.out.below hb11)
  have Hax := Lib.hid (Hax.out.below hb11)
  have Sab := Lib.hid (show Str w11 w.heap.size 48 #[.int .i64 a0, .int .i64 a1, .int .i64 a2, .slice aa3 xa3.length capa3] from ((hb11).block _ Sab.out.lt).trans Sab.out)
  have Sbb := Lib.hid (show Str w11 (w.heap.size + 1) 48 #[.int .i64 b0, .int .i64 b1, .int .i64 b2, .slice ab3 xb3.length capb3] from ((hb11).block _ Sbb.out.lt).trans Sbb.out)
  have Saxv := Lib.hid (show Str w11 w9.heap.size 27 #[.int .i64 a0, .int .i64 a1, .int .i64 a2, .slice aax xa3.length cax] from ((hb11).block _ Saxv.out.lt).trans Saxv.out)
  have hz11 := (hb11).size
  have Hbx := Lib.hid (OwnI.of hobx); clear hobx
  obtain ⟨abx, cbx, rfl, _, _⟩ := Hbx.out.ints
  have hcbx := Hbx.out.cap
  have hhbx : w10.heap.size ≤ w10.heap.size := Nat.le_refl _
  have hjbx : w11.heap.size ≤ w11.heap.size := Nat.le_refl _
  clear qbb_0 qbb_1 qbb_2 qbb_3
  have hAbxv : Below w11.heap.size w11 (w11.alloc (.cells #[.int .i64 b0, .int .i64 b1, .int .i64 b2, .slice abx xb3.length cbx] 27)) := (Below.refl _ _).alloc (Nat.le_refl _) _
  have sNbxv := Str.new w11 27 #[.int .i64 b0, .int .i64 b1, .int .i64 b2, .slice abx xb3.length cbx]
  have hzAbxv : (w11.alloc (.cells #[.int .i64 b0, .int .i64 b1, .int .i64 b2, .slice abx xb3.length cbx] 27)).heap.size = w11.heap.size + 1 := by simp
  have hbsbxv : w11.heap.size ≤ w11.heap.size := Nat.le_refl _
  have Hb12 := Lib.hid (below_step Hb11.out Hb11.out.size hAbxv)
  have Hw0 := Lib.hid (Hw0.out.below hAbxv)
  have Hcx := Lib.hid (Hcx.out.below hAbxv)
  have Hax := Lib.hid (Hax.out.below hAbxv)
  have Hbx := Lib.hid (Hbx.out.below hAbxv)
  have Sab := Lib.hid (show Str (w11.alloc (.cells #[.int .i64 b0, .int .i64 b1, .int .i64 b2, .slice abx xb3.length cbx] 27)) w.heap.size 48 #[.int .i64 a0, .int .i64 a1, .int .i64 a2, .slice aa3 xa3.length capa3] from (hAbxv.block _ Sab.out.lt).trans Sab.out)
  have Sbb := Lib.hid (show Str (w11.alloc (.cells #[.int .i64 b0, .int .i64 b1, .int .i64 b2, .slice abx xb3.length cbx] 27)) (w.heap.size + 1) 48 #[.int .i64 b0, .int .i64 b1, .int .i64 b2, .slice ab3 xb3.length capb3] from (hAbxv.block _ Sbb.out.lt).trans Sbb.out)
  have Saxv := Lib.hid (show Str (w11.alloc (.cells #[.int .i64 b0, .int .i64 b1, .int .i64 b2, .slice abx xb3.length cbx] 27)) w9.heap.size 27 #[.int .i64 a0, .int .i64 a1, .int .i64 a2, .slice aax xa3.length cax] from (hAbxv.block _ Saxv.out.lt).trans Saxv.out)
  have Sbxv := Lib.hid sNbxv; clear sNbxv
  clear hAbxv
  have qab_0 := Sab.out.cell 0 (v := .int .i64 a0) rfl
  have qab_1 := Sab.out.cell 1 (v := .int .i64 a1) rfl
  have qab_2 := Sab.out.cell 2 (v := .int .i64 a2) rfl
  have qab_3 := Sab.out.cell 3 (v := .slice aa3 xa3.length capa3) rfl
  have qbb_0 := Sbb.out.cell 0 (v := .int .i64 b0) rfl
  have qbb_1 := Sbb.out.cell 1 (v := .int .i64 b1) rfl
  have qbb_2 := Sbb.out.cell 2 (v := .int .i64 b2) rfl
  have qbb_3 := Sbb.out.cell 3 (v := .slice ab3 xb3.length capb3) rfl
  have qaxv_0 := Saxv.out.cell 0 (v := .int .i64 a0) rfl
  have qaxv_1 := Saxv.out.cell 1 (v := .int .i64 a1) rfl
  have qaxv_2 := Saxv.out.cell 2 (v := .int .i64 a2) rfl
  have qaxv_3 := Saxv.out.cell 3 (v := .slice aax xa3.length cax) rfl
  have qbxv_0 := Sbxv.out.cell 0 (v := .int .i64 b0) rfl
  have qbxv_1 := Sbxv.out.cell 1 (v := .int .i64 b1) rfl
  have qbxv_2 := Sbxv.out.cell 2 (v := .int .i64 b2) rfl
  have qbxv_3 := Sbxv.out.cell 3 (v := .slice abx xb3.length cbx) rfl
  go_wp2_with fail
  generalize w11.alloc (.cells #[.int .i64 b0, .int .i64 b1, .int .i64 b2, .slice abx xb3.length cbx] 27) = w12 at *
  refine (Himpl.out acx ccx aax cax abx cbx _ hccx Hcx.out.at hcax Hax.out.at (own_src Hax.out.own) hcbx Hbx.out.at (own_src Hbx.out.own)).mono ?_
  rintro e w13 ⟨vg0, rfl, hog0, hb13⟩
  have Hb13 := Lib.hid (below_step Hb12.out Hb12.out.size hb13)
  have Hw0 := Lib.hid (Hw0.out.below hb13)
  have Hcx := Lib.hid (Hcx.out.below hb13)
  have Hax := Lib.hid (Hax.out.below hb13)
  have Hbx := Lib.hid (Hbx.out.below hb13)
  have Sab := Lib.hid (show Str w13 w.heap.size 48 #[.int .i64 a0, .int .i64 a1, .int .i64 a2, .slice aa3 xa3.length capa3] from ((hb13).block _ Sab.out.lt).trans Sab.out)
  have Sbb := Lib.hid (show Str w13 (w.heap.size + 1) 48 #[.int .i64 b0, .int .i64 b1, .int .i64 b2, .slice ab3 xb3.length capb3] from ((hb13).block _ Sbb.out.lt).trans Sbb.out)
  have Saxv := Lib.hid (show Str w13 w9.heap.size 27 #[.int .i64 a0, .int .i64 a1, .int .i64 a2, .slice aax xa3.length cax] from ((hb13).block _ Saxv.out.lt).trans Saxv.out)
  have Sbxv := Lib.hid (show Str w13 w11.heap.size 27 #[.int .i64 b0, .int .i64 b1, .int .i64 b2, .slice abx xb3.length cbx] from ((hb13).block _ Sbxv.out.lt).trans Sbxv.out)
  have hz13 := (hb13).size
  have Hg0 := Lib.hid (OwnI.of hog0); clear hog0
  obtain ⟨ag0, cg0, rfl, _, _⟩ := Hg0.out.ints
  have hcg0 := Hg0.out.cap
  have hhg0 : w12.heap.size ≤ w12.heap.size := Nat.le_refl _
  have hjg0 : w13.heap.size ≤ w13.heap.size := Nat.le_refl _
  clear qab_0 qab_1 qab_2 qab_3 qbb_0 qbb_1 qbb_2 qbb_3 qaxv_0 qaxv_1 qaxv_2 qaxv_3 qbxv_0 qbxv_1 qbxv_2 qbxv_3
  go_wp2_with fail
  refine (laws_eqIntS' ag0 aw0 cg0 cw0 L w13 (by omega) Hg0.out.at Hw0.out.at).mono ?_
  rintro e w14 ⟨rfl, hb14⟩
  have Hb14 := Lib.hid (below_step Hb13.out Hb13.out.size (hb14.below w13.heap.size))
  have Hw0 := Lib.hid (Hw0.out.below (hb14.below w13.heap.size))
  have Hcx := Lib.hid (Hcx.out.below (hb14.below w13.heap.size))
  have Hax := Lib.hid (Hax.out.below (hb14.below w13.heap.size))
  have Hbx := Lib.hid (Hbx.out.below (hb14.below w13.heap.size))
  have Hg0 := Lib.hid (Hg0.out.below (hb14.below w13.heap.size))
  have Sab := Lib.hid (show Str w14 w.heap.size 48 #[.int .i64 a0, .int .i64 a1, .int .i64 a2, .slice aa3 xa3.length capa3] from (((hb14.below w13.heap.size)).block _ Sab.out.lt).trans Sab.out)
  have Sbb := Lib.hid (show Str w14 (w.heap.size + 1) 48 #[.int .i64 b0, .int .i64 b1, .int .i64 b2, .slice ab3 xb3.length capb3] from (((hb14.below w13.heap.size)).block _ Sbb.out.lt).trans Sbb.out)
  have Saxv := Lib.hid (show Str w14 w9.heap.size 27 #[.int .i64 a0, .int .i64 a1, .int .i64 a2, .slice aax xa3.length cax] from (((hb14.below w13.heap.size)).block _ Saxv.out.lt).trans Saxv.out)
  have Sbxv := Lib.hid (show Str w14 w11.heap.size 27 #[.int .i64 b0, .int .i64 b1, .int .i64 b2, .slice abx xb3.length cbx] from (((hb14.below w13.heap.size)).block _ Sbxv.out.lt).trans Sbxv.out)
  have hz14 := ((hb14.below w13.heap.size)).size
  go_wp2_with fail
  refine (laws_toIntS ac capc xc _ (by omega) (Hic.out.below Hb14.out)).mono ?_
  rintro e w15 ⟨vcy, rfl, hocy, hb15⟩
  have Hb15 := Lib.hid (below_step Hb14.out Hb14.out.size hb15)
  have Hw0 := Lib.hid (Hw0.out.below hb15)
  have Hcx := Lib.hid (Hcx.out.below hb15)
  have Hax := Lib.hid (Hax.out.below hb15)
  have Hbx := Lib.hid (Hbx.out.below hb15)
  have Hg0 := Lib.hid (Hg0.out.below hb15)
  have Sab := Lib.hid (show Str w15 w.heap.size 48 #[.int .i64 a0, .int .i64 a1, .int .i64 a2, .slice aa3 xa3.length capa3] from ((hb15).block _ Sab.out.lt).trans Sab.out)
  have Sbb := Lib.hid (show Str w15 (w.heap.size + 1) 48 #[.int .i64 b0, .int .i64 b1, .int .i64 b2, .slice ab3 xb3.length capb3] from ((hb15).block _ Sbb.out.lt).trans Sbb.out)
  have Saxv := Lib.hid (show Str w15 w9.heap.size 27 #[.int .i64 a0, .int .i64 a1, .int .i64 a2, .slice aax xa3.length cax] from ((hb15).block _ Saxv.out.lt).trans Saxv.out)
  have Sbxv := Lib.hid (show Str w15 w11.heap.size 27 #[.int .i64 b0, .int .i64 b1, .int .i64 b2, .slice abx xb3.length cbx] from ((hb15).block _ Sbxv.out.lt).trans Sbxv.out)
  have hz15 := (hb15).size
  have Hcy := Lib.hid (OwnI.of hocy); clear hocy
  obtain ⟨acy, ccy, rfl, _, _⟩ := Hcy.out.ints
  have hccy := Hcy.out.cap
  have hhcy : w14.heap.size ≤ w14.heap.size := Nat.le_refl _
  have hjcy : w15.heap.size ≤ w15.heap.size := Nat.le_refl _
  go_wp2_with fail
  refine (laws_eqIntS' acx acy ccx ccy xc w15 (by omega) Hcx.out.at Hcy.out.at).mono ?_
  rintro e w16 ⟨rfl, hb16⟩
  have Hb16 := Lib.hid (below_step Hb15.out Hb15.out.size (hb16.below w15.heap.size))
  have Hw0 := Lib.hid (Hw0.out.below (hb16.below w15.heap.size))
  have Hcx := Lib.hid (Hcx.out.below (hb16.below w15.heap.size))
  have Hax := Lib.hid (Hax.out.below (hb16.below w15.heap.size))
  have Hbx := Lib.hid (Hbx.out.below (hb16.below w15.heap.size))
  have Hg0 := Lib.hid (Hg0.out.below (hb16.below w15.heap.size))
  have Hcy := Lib.hid (Hcy.out.below (hb16.below w15.heap.size))
  have Sab := Lib.hid (show Str w16 w.heap.size 48 #[.int .i64 a0, .int .i64 a1, .int .i64 a2, .slice aa3 xa3.length capa3] from (((hb16.below w15.heap.size)).block _ Sab.out.lt).trans Sab.out)
  have Sbb := Lib.hid (show Str w16 (w.heap.size + 1) 48 #[.int .i64 b0, .int .i64 b1, .int .i64 b2, .slice ab3 xb3.length capb3] from (((hb16.below w15.heap.size)).block _ Sbb.out.lt).trans Sbb.out)
  have Saxv := Lib.hid (show Str w16 w9.heap.size 27 #[.int .i64 a0, .int .i64 a1, .int .i64 a2, .slice aax xa3.length cax] from (((hb16.below w15.heap.size)).block _ Saxv.out.lt).trans Saxv.out)
  have Sbxv := Lib.hid (show Str w16 w11.heap.size 27 #[.int .i64 b0, .int .i64 b1, .int .i64 b2, .slice abx xb3.length cbx] from (((hb16.below w15.heap.size)).block _ Sbxv.out.lt).trans Sbxv.out)
  have hz16 := ((hb16.below w15.heap.size)).size
  clear Hcy
  have qaxv_0 := Saxv.out.cell 0 (v := .int .i64 a0) rfl
  have qaxv_1 := Saxv.out.cell 1 (v := .int .i64 a1) rfl
  have qaxv_2 := Saxv.out.cell 2 (v := .int .i64 a2) rfl
  have qaxv_3 := Saxv.out.cell 3 (v := .slice aax xa3.length cax) rfl
  have qab_0 := Sab.out.cell 0 (v := .int .i64 a0) rfl
  have qab_1 := Sab.out.cell 1 (v := .int .i64 a1) rfl
  have qab_2 := Sab.out.cell 2 (v := .int .i64 a2) rfl
  have qab_3 := Sab.out.cell 3 (v := .slice aa3 xa3.length capa3) rfl
  go_wp2_with fail
  clear qaxv_0 qaxv_1 qaxv_2 qaxv_3 qab_0 qab_1 qab_2 qab_3
  have hdr : Below w16.heap.size w16 w16.drew := (Below.refl _ _).drew
  refine wp_region_held_drew (S := fun w' => w'.cell? ⟨w9.heap.size, 0, none⟩ = some (.int .i64 a0) ∧ w'.cell? ⟨w9.heap.size, 1, none⟩ = some (.int .i64 a1) ∧ w'.cell? ⟨w9.heap.size, 2, none⟩ = some (.int .i64 a2) ∧ w'.cell? ⟨w9.heap.size, 3, none⟩ = some (.slice aax xa3.length cax) ∧ w'.cell? ⟨w.heap.size, 0, none⟩ = some (.int .i64 a0) ∧ w'.cell? ⟨w.heap.size, 1, none⟩ = some (.int .i64 a1) ∧ w'.cell? ⟨w.heap.size, 2, none⟩ = some (.int .i64 a2) ∧ w'.cell? ⟨w.heap.size, 3, none⟩ = some (.slice aa3 xa3.length capa3)) (by kernel_rfl) ⟨Saxv.out.cell 0 (v := .int .i64 a0) rfl, Saxv.out.cell 1 (v := .int .i64 a1) rfl, Saxv.out.cell 2 (v := .int .i64 a2) rfl, Saxv.out.cell 3 (v := .slice aax xa3.length cax) rfl, Sab.out.cell 0 (v := .int .i64 a0) rfl, Sab.out.cell 1 (v := .int .i64 a1) rfl, Sab.out.cell 2 (v := .int .i64 a2) rfl, Sab.out.cell 3 (v := .slice aa3 xa3.length capa3) rfl⟩ (fun hH => ?_)
  generalize w16.drew = w17 at *
  have Hb17 := Lib.hid (below_step Hb16.out Hb16.out.size hdr)
  have Hw0 := Lib.hid (Hw0.out.below hdr)
  have Hcx := Lib.hid (Hcx.out.below hdr)
  have Hax := Lib.hid (Hax.out.below hdr)
  have Hbx := Lib.hid (Hbx.out.below hdr)
  have Hg0 := Lib.hid (Hg0.out.below hdr)
  have Sab := Lib.hid (show Str w17 w.heap.size 48 #[.int .i64 a0, .int .i64 a1, .int .i64 a2, .slice aa3 xa3.length capa3] from ((hdr).block _ Sab.out.lt).trans Sab.out)
  have Sbb := Lib.hid (show Str w17 (w.heap.size + 1) 48 #[.int .i64 b0, .int .i64 b1, .int .i64 b2, .slice ab3 xb3.length capb3] from ((hdr).block _ Sbb.out.lt).trans Sbb.out)
  have Saxv := Lib.hid (show Str w17 w9.heap.size 27 #[.int .i64 a0, .int .i64 a1, .int .i64 a2, .slice aax xa3.length cax] from ((hdr).block _ Saxv.out.lt).trans Saxv.out)
  have Sbxv := Lib.hid (show Str w17 w11.heap.size 27 #[.int .i64 b0, .int .i64 b1, .int .i64 b2, .slice abx xb3.length cbx] from ((hdr).block _ Sbxv.out.lt).trans Sbxv.out)
  have hz17 := (hdr).size
  clear hdr
  refine takeH 0 (v := ?vqa0) rfl (by kernel_rfl) (by kernel_rfl) (by kernel_rfl) (fun _ _ _ h => h) hH rfl ?yqa0 ?rqa0
  case yqa0 => intro W hSw; go_simp; try with_reducible rfl
  try simp only [Act.put, List.setIfInBounds_toArray, List.set_cons_zero, List.set_cons_succ]
  refine takeH 1 (v := ?vqa1) rfl (by kernel_rfl) (by kernel_rfl) (by kernel_rfl) (fun _ _ _ h => h) hH rfl ?yqa1 ?rqa1
  case yqa1 => intro W hSw; go_simp; try with_reducible rfl
  try simp only [Act.put, List.setIfInBounds_toArray, List.set_cons_zero, List.set_cons_succ]
  refine callH 2 rfl (by kernel_rfl) rfl (fun K hK => ?_)
  go_simp
  refine (laws_toTallyR a0 a1 a2 aa3 capa3 xa3 _ (by omega) (Hixa3.out.below Hb17.out)).mono ?_
  rintro e w18 ⟨vay, rfl, hoay, hb18⟩
  have Hb18 := Lib.hid (below_step Hb17.out Hb17.out.size hb18)
  have Hw0 := Lib.hid (Hw0.out.below hb18)
  have Hcx := Lib.hid (Hcx.out.below hb18)
  have Hax := Lib.hid (Hax.out.below hb18)
  have Hbx := Lib.hid (Hbx.out.below hb18)
  have Hg0 := Lib.hid (Hg0.out.below hb18)
  have Sab := Lib.hid (show Str w18 w.heap.size 48 #[.int .i64 a0, .int .i64 a1, .int .i64 a2, .slice aa3 xa3.length capa3] from ((hb18).block _ Sab.out.lt).trans Sab.out)
  have Sbb := Lib.hid (show Str w18 (w.heap.size + 1) 48 #[.int .i64 b0, .int .i64 b1, .int .i64 b2, .slice ab3 xb3.length capb3] from ((hb18).block _ Sbb.out.lt).trans Sbb.out)
  have Saxv := Lib.hid (show Str w18 w9.heap.size 27 #[.int .i64 a0, .int .i64 a1, .int .i64 a2, .slice aax xa3.length cax] from ((hb18).block _ Saxv.out.lt).trans Saxv.out)
  have Sbxv := Lib.hid (show Str w18 w11.heap.size 27 #[.int .i64 b0, .int .i64 b1, .int .i64 b2, .slice abx xb3.length cbx] from ((hb18).block _ Sbxv.out.lt).trans Sbxv.out)
  have hz18 := (hb18).size
  have Hay := Lib.hid (OwnI.of hoay); clear hoay
  obtain ⟨aay, cay, rfl, _, _⟩ := Hay.out.ints
  have hcay := Hay.out.cap
  have hhay : w17.heap.size ≤ w17.heap.size := Nat.le_refl _
  have hjay : w18.heap.size ≤ w18.heap.size := Nat.le_refl _
  dsimp only
  refine hK.out _ _ ⟨Saxv.out.cell 0 (v := .int .i64 a0) rfl, Saxv.out.cell 1 (v := .int .i64 a1) rfl, Saxv.out.cell 2 (v := .int .i64 a2) rfl, Saxv.out.cell 3 (v := .slice aax xa3.length cax) rfl, Sab.out.cell 0 (v := .int .i64 a0) rfl, Sab.out.cell 1 (v := .int .i64 a1) rfl, Sab.out.cell 2 (v := .int .i64 a2) rfl, Sab.out.cell 3 (v := .slice aa3 xa3.length capa3) rfl⟩ (fun hH => ?_)
  clear hK K
  try simp only [Act.put, List.setIfInBounds_toArray, List.set_cons_zero, List.set_cons_succ]
  refine callH 3 rfl (by kernel_rfl) rfl (fun K hK => ?_)
  go_simp
  refine (laws_eqTallyR a0 a1 a2 aax aay cax cay xa3 w18 (by omega) Hax.out.at Hay.out.at).mono ?_
  rintro e w19 ⟨rfl, hb19⟩
  have Hb19 := Lib.hid (below_step Hb18.out Hb18.out.size hb19)
  have Hw0 := Lib.hid (Hw0.out.below hb19)
  have Hcx := Lib.hid (Hcx.out.below hb19)
  have Hax := Lib.hid (Hax.out.below hb19)
  have Hbx := Lib.hid (Hbx.out.below hb19)
  have Hg0 := Lib.hid (Hg0.out.below hb19)
  have Hay := Lib.hid (Hay.out.below hb19)
  have Sab := Lib.hid (show Str w19 w.heap.size 48 #[.int .i64 a0, .int .i64 a1, .int .i64 a2, .slice aa3 xa3.length capa3] from ((hb19).block _ Sab.out.lt).trans Sab.out)
  have Sbb := Lib.hid (show Str w19 (w.heap.size + 1) 48 #[.int .i64 b0, .int .i64 b1, .int .i64 b2, .slice ab3 xb3.length capb3] from ((hb19).block _ Sbb.out.lt).trans Sbb.out)
  have Saxv := Lib.hid (show Str w19 w9.heap.size 27 #[.int .i64 a0, .int .i64 a1, .int .i64 a2, .slice aax xa3.length cax] from ((hb19).block _ Saxv.out.lt).trans Saxv.out)
  have Sbxv := Lib.hid (show Str w19 w11.heap.size 27 #[.int .i64 b0, .int .i64 b1, .int .i64 b2, .slice abx xb3.length cbx] from ((hb19).block _ Sbxv.out.lt).trans Sbxv.out)
  have hz19 := (hb19).size
  dsimp only
  refine hK.out _ _ ⟨Saxv.out.cell 0 (v := .int .i64 a0) rfl, Saxv.out.cell 1 (v := .int .i64 a1) rfl, Saxv.out.cell 2 (v := .int .i64 a2) rfl, Saxv.out.cell 3 (v := .slice aax xa3.length cax) rfl, Sab.out.cell 0 (v := .int .i64 a0) rfl, Sab.out.cell 1 (v := .int .i64 a1) rfl, Sab.out.cell 2 (v := .int .i64 a2) rfl, Sab.out.cell 3 (v := .slice aa3 xa3.length capa3) rfl⟩ (fun hH => ?_)
  clear hK K
  try simp only [Act.put, List.setIfInBounds_toArray, List.set_cons_zero, List.set_cons_succ]
  refine takeH 4 (v := ?vqa4) rfl (by kernel_rfl) (by kernel_rfl) (by kernel_rfl) (fun _ _ _ h => h) hH rfl ?yqa4 ?rqa4
  case yqa4 => intro W hSw; go_simp; try with_reducible rfl
  try simp only [Act.put, List.setIfInBounds_toArray, List.set_cons_zero, List.set_cons_succ]
  refine wpAnyH_done (by kernel_rfl) ?_ _
  try simp only [Act.put]
  clear hH
  clear Hay
  have qbxv_0 := Sbxv.out.cell 0 (v := .int .i64 b0) rfl
  have qbxv_1 := Sbxv.out.cell 1 (v := .int .i64 b1) rfl
  have qbxv_2 := Sbxv.out.cell 2 (v := .int .i64 b2) rfl
  have qbxv_3 := Sbxv.out.cell 3 (v := .slice abx xb3.length cbx) rfl
  have qbb_0 := Sbb.out.cell 0 (v := .int .i64 b0) rfl
  have qbb_1 := Sbb.out.cell 1 (v := .int .i64 b1) rfl
  have qbb_2 := Sbb.out.cell 2 (v := .int .i64 b2) rfl
  have qbb_3 := Sbb.out.cell 3 (v := .slice ab3 xb3.length capb3) rfl
  go_wp2_with fail
  clear qbxv_0 qbxv_1 qbxv_2 qbxv_3 qbb_0 qbb_1 qbb_2 qbb_3
  have hdr : Below w19.heap.size w19 w19.drew := (Below.refl _ _).drew
  refine wp_region_held_drew (S := fun w' => w'.cell? ⟨w11.heap.size, 0, none⟩ = some (.int .i64 b0) ∧ w'.cell? ⟨w11.heap.size, 1, none⟩ = some (.int .i64 b1) ∧ w'.cell? ⟨w11.heap.size, 2, none⟩ = some (.int .i64 b2) ∧ w'.cell? ⟨w11.heap.size, 3, none⟩ = some (.slice abx xb3.length cbx) ∧ w'.cell? ⟨(w.heap.size + 1), 0, none⟩ = some (.int .i64 b0) ∧ w'.cell? ⟨(w.heap.size + 1), 1, none⟩ = some (.int .i64 b1) ∧ w'.cell? ⟨(w.heap.size + 1), 2, none⟩ = some (.int .i64 b2) ∧ w'.cell? ⟨(w.heap.size + 1), 3, none⟩ = some (.slice ab3 xb3.length capb3)) (by kernel_rfl) ⟨Sbxv.out.cell 0 (v := .int .i64 b0) rfl, Sbxv.out.cell 1 (v := .int .i64 b1) rfl, Sbxv.out.cell 2 (v := .int .i64 b2) rfl, Sbxv.out.cell 3 (v := .slice abx xb3.length cbx) rfl, Sbb.out.cell 0 (v := .int .i64 b0) rfl, Sbb.out.cell 1 (v := .int .i64 b1) rfl, Sbb.out.cell 2 (v := .int .i64 b2) rfl, Sbb.out.cell 3 (v := .slice ab3 xb3.length capb3) rfl⟩ (fun hH => ?_)
  generalize w19.drew = w20 at *
  have Hb20 := Lib.hid (below_step Hb19.out Hb19.out.size hdr)
  have Hw0 := Lib.hid (Hw0.out.below hdr)
  have Hcx := Lib.hid (Hcx.out.below hdr)
  have Hax := Lib.hid (Hax.out.below hdr)
  have Hbx := Lib.hid (Hbx.out.below hdr)
  have Hg0 := Lib.hid (Hg0.out.below hdr)
  have Sab := Lib.hid (show Str w20 w.heap.size 48 #[.int .i64 a0, .int .i64 a1, .int .i64 a2, .slice aa3 xa3.length capa3] from ((hdr).block _ Sab.out.lt).trans Sab.out)
  have Sbb := Lib.hid (show Str w20 (w.heap.size + 1) 48 #[.int .i64 b0, .int .i64 b1, .int .i64 b2, .slice ab3 xb3.length capb3] from ((hdr).block _ Sbb.out.lt).trans Sbb.out)
  have Saxv := Lib.hid (show Str w20 w9.heap.size 27 #[.int .i64 a0, .int .i64 a1, .int .i64 a2, .slice aax xa3.length cax] from ((hdr).block _ Saxv.out.lt).trans Saxv.out)
  have Sbxv := Lib.hid (show Str w20 w11.heap.size 27 #[.int .i64 b0, .int .i64 b1, .int .i64 b2, .slice abx xb3.length cbx] from ((hdr).block _ Sbxv.out.lt).trans Sbxv.out)
  have hz20 := (hdr).size
  clear hdr
  refine takeH 0 (v := ?vqb0) rfl (by kernel_rfl) (by kernel_rfl) (by kernel_rfl) (fun _ _ _ h => h) hH rfl ?yqb0 ?rqb0
  case yqb0 => intro W hSw; go_simp; try with_reducible rfl
  try simp only [Act.put, List.setIfInBounds_toArray, List.set_cons_zero, List.set_cons_succ]
  refine takeH 1 (v := ?vqb1) rfl (by kernel_rfl) (by kernel_rfl) (by kernel_rfl) (fun _ _ _ h => h) hH rfl ?yqb1 ?rqb1
  case yqb1 => intro W hSw; go_simp; try with_reducible rfl
  try simp only [Act.put, List.setIfInBounds_toArray, List.set_cons_zero, List.set_cons_succ]
  refine callH 2 rfl (by kernel_rfl) rfl (fun K hK => ?_)
  go_simp
  refine (laws_toTallyR b0 b1 b2 ab3 capb3 xb3 _ (by omega) (Hixb3.out.below Hb20.out)).mono ?_
  rintro e w21 ⟨vby, rfl, hoby, hb21⟩
  have Hb21 := Lib.hid (below_step Hb20.out Hb20.out.size hb21)
  have Hw0 := Lib.hid (Hw0.out.below hb21)
  have Hcx := Lib.hid (Hcx.out.below hb21)
  have Hax := Lib.hid (Hax.out.below hb21)
  have Hbx := Lib.hid (Hbx.out.below hb21)
  have Hg0 := Lib.hid (Hg0.out.below hb21)
  have Sab := Lib.hid (show Str w21 w.heap.size 48 #[.int .i64 a0, .int .i64 a1, .int .i64 a2, .slice aa3 xa3.length capa3] from ((hb21).block _ Sab.out.lt).trans Sab.out)
  have Sbb := Lib.hid (show Str w21 (w.heap.size + 1) 48 #[.int .i64 b0, .int .i64 b1, .int .i64 b2, .slice ab3 xb3.length capb3] from ((hb21).block _ Sbb.out.lt).trans Sbb.out)
  have Saxv := Lib.hid (show Str w21 w9.heap.size 27 #[.int .i64 a0, .int .i64 a1, .int .i64 a2, .slice aax xa3.length cax] from ((hb21).block _ Saxv.out.lt).trans Saxv.out)
  have Sbxv := Lib.hid (show Str w21 w11.heap.size 27 #[.int .i64 b0, .int .i64 b1, .int .i64 b2, .slice abx xb3.length cbx] from ((hb21).block _ Sbxv.out.lt).trans Sbxv.out)
  have hz21 := (hb21).size
  have Hby := Lib.hid (OwnI.of hoby); clear hoby
  obtain ⟨aby, cby, rfl, _, _⟩ := Hby.out.ints
  have hcby := Hby.out.cap
  have hhby : w20.heap.size ≤ w20.heap.size := Nat.le_refl _
  have hjby : w21.heap.size ≤ w21.heap.size := Nat.le_refl _
  dsimp only
  refine hK.out _ _ ⟨Sbxv.out.cell 0 (v := .int .i64 b0) rfl, Sbxv.out.cell 1 (v := .int .i64 b1) rfl, Sbxv.out.cell 2 (v := .int .i64 b2) rfl, Sbxv.out.cell 3 (v := .slice abx xb3.length cbx) rfl, Sbb.out.cell 0 (v := .int .i64 b0) rfl, Sbb.out.cell 1 (v := .int .i64 b1) rfl, Sbb.out.cell 2 (v := .int .i64 b2) rfl, Sbb.out.cell 3 (v := .slice ab3 xb3.length capb3) rfl⟩ (fun hH => ?_)
  clear hK K
  try simp only [Act.put, List.setIfInBounds_toArray, List.set_cons_zero, List.set_cons_succ]
  refine callH 3 rfl (by kernel_rfl) rfl (fun K hK => ?_)
  go_simp
  refine (laws_eqTallyR b0 b1 b2 abx aby cbx cby xb3 w21 (by omega) Hbx.out.at Hby.out.at).mono ?_
  rintro e w22 ⟨rfl, hb22⟩
  have Hb22 := Lib.hid (below_step Hb21.out Hb21.out.size hb22)
  have Hw0 := Lib.hid (Hw0.out.below hb22)
  have Hcx := Lib.hid (Hcx.out.below hb22)
  have Hax := Lib.hid (Hax.out.below hb22)
  have Hbx := Lib.hid (Hbx.out.below hb22)
  have Hg0 := Lib.hid (Hg0.out.below hb22)
  have Hby := Lib.hid (Hby.out.below hb22)
  have Sab := Lib.hid (show Str w22 w.heap.size 48 #[.int .i64 a0, .int .i64 a1, .int .i64 a2, .slice aa3 xa3.length capa3] from ((hb22).block _ Sab.out.lt).trans Sab.out)
  have Sbb := Lib.hid (show Str w22 (w.heap.size + 1) 48 #[.int .i64 b0, .int .i64 b1, .int .i64 b2, .slice ab3 xb3.length capb3] from ((hb22).block _ Sbb.out.lt).trans Sbb.out)
  have Saxv := Lib.hid (show Str w22 w9.heap.size 27 #[.int .i64 a0, .int .i64 a1, .int .i64 a2, .slice aax xa3.length cax] from ((hb22).block _ Saxv.out.lt).trans Saxv.out)
  have Sbxv := Lib.hid (show Str w22 w11.heap.size 27 #[.int .i64 b0, .int .i64 b1, .int .i64 b2, .slice abx xb3.length cbx] from ((hb22).block _ Sbxv.out.lt).trans Sbxv.out)
  have hz22 := (hb22).size
  dsimp only
  refine hK.out _ _ ⟨Sbxv.out.cell 0 (v := .int .i64 b0) rfl, Sbxv.out.cell 1 (v := .int .i64 b1) rfl, Sbxv.out.cell 2 (v := .int .i64 b2) rfl, Sbxv.out.cell 3 (v := .slice abx xb3.length cbx) rfl, Sbb.out.cell 0 (v := .int .i64 b0) rfl, Sbb.out.cell 1 (v := .int .i64 b1) rfl, Sbb.out.cell 2 (v := .int .i64 b2) rfl, Sbb.out.cell 3 (v := .slice ab3 xb3.length capb3) rfl⟩ (fun hH => ?_)
  clear hK K
  try simp only [Act.put, List.setIfInBounds_toArray, List.set_cons_zero, List.set_cons_succ]
  refine takeH 4 (v := ?vqb4) rfl (by kernel_rfl) (by kernel_rfl) (by kernel_rfl) (fun _ _ _ h => h) hH rfl ?yqb4 ?rqb4
  case yqb4 => intro W hSw; go_simp; try with_reducible rfl
  try simp only [Act.put, List.setIfInBounds_toArray, List.set_cons_zero, List.set_cons_succ]
  refine wpAnyH_done (by kernel_rfl) ?_ _
  try simp only [Act.put]
  clear hH
  clear Hby
  go_wp2_with fail
  refine (laws_markIntS _ xc (1) w7.heap.size w22 (by omega) (by omega) Hcx.out.own).mono ?_
  rintro e w23 ⟨rfl, ho, hg⟩
  have hbt := Hcx.out.marks hg
  have Hb23 := Lib.hid ((hbt).below Hb22.out Hb22.out.size (by omega))
  have hz23 := (hbt).size
  have Hw0 := Lib.hid (Hw0.out.btw (hbt) (by first | exact .inl (by omega) | exact .inr (by omega) | omega))
  have Hax := Lib.hid (Hax.out.btw (hbt) (by first | exact .inl (by omega) | exact .inr (by omega) | omega))
  have Hbx := Lib.hid (Hbx.out.btw (hbt) (by first | exact .inl (by omega) | exact .inr (by omega) | omega))
  have Hg0 := Lib.hid (Hg0.out.btw (hbt) (by first | exact .inl (by omega) | exact .inr (by omega) | omega))
  have Sab := Lib.hid (Sab.out.btw (hbt) (by first | exact .inl (by omega) | exact .inr (by omega) | omega))
  have Sbb := Lib.hid (Sbb.out.btw (hbt) (by first | exact .inl (by omega) | exact .inr (by omega) | omega))
  have Saxv := Lib.hid (Saxv.out.btw (hbt) (by first | exact .inl (by omega) | exact .inr (by omega) | omega))
  have Sbxv := Lib.hid (Sbxv.out.btw (hbt) (by first | exact .inl (by omega) | exact .inr (by omega) | omega))
  have Hcx := Lib.hid (Hcx.out.mark ho)
  clear ho hg hbt
  have qaxv_0 := Saxv.out.cell 0 (v := .int .i64 a0) rfl
  have qaxv_1 := Saxv.out.cell 1 (v := .int .i64 a1) rfl
  have qaxv_2 := Saxv.out.cell 2 (v := .int .i64 a2) rfl
  have qaxv_3 := Saxv.out.cell 3 (v := .slice aax xa3.length cax) rfl
  go_wp2_with fail
  refine (laws_markTallyR a0 a1 a2 _ xa3 (1 + xc.length) w8.heap.size w23 (by omega) (by omega) Hax.out.own).mono ?_
  rintro e w24 ⟨rfl, ho, hg⟩
  have hbt := Hax.out.marks (grownBy_trans (World.grownBy_alloc w23 (.cells #[.int .i64 a0, .int .i64 a1, .int .i64 a2, .slice aax xa3.length cax] 27) _) hg)
  clear qaxv_0 qaxv_1 qaxv_2 qaxv_3
  have Hb24 := Lib.hid ((hbt).below Hb23.out Hb23.out.size (by omega))
  have hz24 := (hbt).size
  have Hw0 := Lib.hid (Hw0.out.btw (hbt) (by first | exact .inl (by omega) | exact .inr (by omega) | omega))
  have Hcx := Lib.hid (Hcx.out.btw (hbt) (by first | exact .inl (by omega) | exact .inr (by omega) | omega))
  have Hbx := Lib.hid (Hbx.out.btw (hbt) (by first | exact .inl (by omega) | exact .inr (by omega) | omega))
  have Hg0 := Lib.hid (Hg0.out.btw (hbt) (by first | exact .inl (by omega) | exact .inr (by omega) | omega))
  have Sab := Lib.hid (Sab.out.btw (hbt) (by first | exact .inl (by omega) | exact .inr (by omega) | omega))
  have Sbb := Lib.hid (Sbb.out.btw (hbt) (by first | exact .inl (by omega) | exact .inr (by omega) | omega))
  have Saxv := Lib.hid (Saxv.out.btw (hbt) (by first | exact .inl (by omega) | exact .inr (by omega) | omega))
  have Sbxv := Lib.hid (Sbxv.out.btw (hbt) (by first | exact .inl (by omega) | exact .inr (by omega) | omega))
  have Hax := Lib.hid (Hax.out.mark ho)
  clear ho hg hbt
  have qbxv_0 := Sbxv.out.cell 0 (v := .int .i64 b0) rfl
  have qbxv_1 := Sbxv.out.cell 1 (v := .int .i64 b1) rfl
  have qbxv_2 := Sbxv.out.cell 2 (v := .int .i64 b2) rfl
  have qbxv_3 := Sbxv.out.cell 3 (v := .slice abx xb3.length cbx) rfl
  go_wp2_with fail
  refine (laws_markTallyR b0 b1 b2 _ xb3 (1 + xc.length + xa3.length) w10.heap.size w24 (by omega) (by omega) Hbx.out.own).mono ?_
  rintro e w25 ⟨rfl, ho, hg⟩
  have hbt := Hbx.out.marks (grownBy_trans (World.grownBy_alloc w24 (.cells #[.int .i64 b0, .int .i64 b1, .int .i64 b2, .slice abx xb3.length cbx] 27) _) hg)
  clear qbxv_0 qbxv_1 qbxv_2 qbxv_3
  have Hb25 := Lib.hid ((hbt).below Hb24.out Hb24.out.size (by omega))
  have hz25 := (hbt).size
  have Hw0 := Lib.hid (Hw0.out.btw (hbt) (by first | exact .inl (by omega) | exact .inr (by omega) | omega))
  have Hcx := Lib.hid (Hcx.out.btw (hbt) (by first | exact .inl (by omega) | exact .inr (by omega) | omega))
  have Hax := Lib.hid (Hax.out.btw (hbt) (by first | exact .inl (by omega) | exact .inr (by omega) | omega))
  have Hg0 := Lib.hid (Hg0.out.btw (hbt) (by first | exact .inl (by omega) | exact .inr (by omega) | omega))
  have Sab := Lib.hid (Sab.out.btw (hbt) (by first | exact .inl (by omega) | exact .inr (by omega) | omega))
  have Sbb := Lib.hid (Sbb.out.btw (hbt) (by first | exact .inl (by omega) | exact .inr (by omega) | omega))
  have Saxv := Lib.hid (Saxv.out.btw (hbt) (by first | exact .inl (by omega) | exact .inr (by omega) | omega))
  have Sbxv := Lib.hid (Sbxv.out.btw (hbt) (by first | exact .inl (by omega) | exact .inr (by omega) | omega))
  have Hbx := Lib.hid (Hbx.out.mark ho)
  clear ho hg hbt
  have hkn : decide (((1 + xc.length + xa3.length + xb3.length : Nat) : Int) < 0) = false := decide_eq_false (by omega)
  have hkn' : ¬ ((1 + xc.length + xa3.length + xb3.length : Nat) : Int) < 0 := by omega
  go_wp2_with fail
  refine (laws_eqIntS' ag0 aw0 cg0 cw0 L w25 (by omega) Hg0.out.at Hw0.out.at).mono ?_
  rintro e w26 ⟨rfl, hb26⟩
  have Hb26 := Lib.hid (below_step Hb25.out Hb25.out.size (hb26.below w25.heap.size))
  have Hw0 := Lib.hid (Hw0.out.below (hb26.below w25.heap.size))
  have Hcx := Lib.hid (Hcx.out.below (hb26.below w25.heap.size))
  have Hax := Lib.hid (Hax.out.below (hb26.below w25.heap.size))
  have Hbx := Lib.hid (Hbx.out.below (hb26.below w25.heap.size))
  have Hg0 := Lib.hid (Hg0.out.below (hb26.below w25.heap.size))
  have Sab := Lib.hid (show Str w26 w.heap.size 48 #[.int .i64 a0, .int .i64 a1, .int .i64 a2, .slice aa3 xa3.length capa3] from (((hb26.below w25.heap.size)).block _ Sab.out.lt).trans Sab.out)
  have Sbb := Lib.hid (show Str w26 (w.heap.size + 1) 48 #[.int .i64 b0, .int .i64 b1, .int .i64 b2, .slice ab3 xb3.length capb3] from (((hb26.below w25.heap.size)).block _ Sbb.out.lt).trans Sbb.out)
  have Saxv := Lib.hid (show Str w26 w9.heap.size 27 #[.int .i64 a0, .int .i64 a1, .int .i64 a2, .slice aax xa3.length cax] from (((hb26.below w25.heap.size)).block _ Saxv.out.lt).trans Saxv.out)
  have Sbxv := Lib.hid (show Str w26 w11.heap.size 27 #[.int .i64 b0, .int .i64 b1, .int .i64 b2, .slice abx xb3.length cbx] from (((hb26.below w25.heap.size)).block _ Sbxv.out.lt).trans Sbxv.out)
  have hz26 := ((hb26.below w25.heap.size)).size
  go_wp2_with fail
  refine (laws_markIntS _ L (1) w12.heap.size w26 (by omega) (by omega) Hg0.out.own).mono ?_
  rintro e w27 ⟨rfl, ho, hg⟩
  have hbt := Hg0.out.marks hg
  have Hb27 := Lib.hid ((hbt).below Hb26.out Hb26.out.size (by omega))
  have hz27 := (hbt).size
  have Hw0 := Lib.hid (Hw0.out.btw (hbt) (by first | exact .inl (by omega) | exact .inr (by omega) | omega))
  have Hcx := Lib.hid (Hcx.out.btw (hbt) (by first | exact .inl (by omega) | exact .inr (by omega) | omega))
  have Hax := Lib.hid (Hax.out.btw (hbt) (by first | exact .inl (by omega) | exact .inr (by omega) | omega))
  have Hbx := Lib.hid (Hbx.out.btw (hbt) (by first | exact .inl (by omega) | exact .inr (by omega) | omega))
  have Sab := Lib.hid (Sab.out.btw (hbt) (by first | exact .inl (by omega) | exact .inr (by omega) | omega))
  have Sbb := Lib.hid (Sbb.out.btw (hbt) (by first | exact .inl (by omega) | exact .inr (by omega) | omega))
  have Saxv := Lib.hid (Saxv.out.btw (hbt) (by first | exact .inl (by omega) | exact .inr (by omega) | omega))
  have Sbxv := Lib.hid (Sbxv.out.btw (hbt) (by first | exact .inl (by omega) | exact .inr (by omega) | omega))
  have Hg0 := Lib.hid (Hg0.out.mark ho)
  clear ho hg hbt
  have hmn : decide (((1 + L.length : Nat) : Int) < 0) = false := decide_eq_false (by omega)
  have hmn' : ¬ ((1 + L.length : Nat) : Int) < 0 := by omega
  go_wp2_with fail
  refine (laws_heldIntS ag0 cg0 (1) L.length w27 (by omega) (by omega) Hg0.out.at).mono ?_
  rintro e w28 ⟨rfl, hb28⟩
  have Hb28 := Lib.hid (below_step Hb27.out Hb27.out.size (hb28.below w27.heap.size))
  have Hw0 := Lib.hid (Hw0.out.below (hb28.below w27.heap.size))
  have Hcx := Lib.hid (Hcx.out.below (hb28.below w27.heap.size))
  have Hax := Lib.hid (Hax.out.below (hb28.below w27.heap.size))
  have Hbx := Lib.hid (Hbx.out.below (hb28.below w27.heap.size))
  have Hg0 := Lib.hid (Hg0.out.below (hb28.below w27.heap.size))
  have Sab := Lib.hid (show Str w28 w.heap.size 48 #[.int .i64 a0, .int .i64 a1, .int .i64 a2, .slice aa3 xa3.length capa3] from (((hb28.below w27.heap.size)).block _ Sab.out.lt).trans Sab.out)
  have Sbb := Lib.hid (show Str w28 (w.heap.size + 1) 48 #[.int .i64 b0, .int .i64 b1, .int .i64 b2, .slice ab3 xb3.length capb3] from (((hb28.below w27.heap.size)).block _ Sbb.out.lt).trans Sbb.out)
  have Saxv := Lib.hid (show Str w28 w9.heap.size 27 #[.int .i64 a0, .int .i64 a1, .int .i64 a2, .slice aax xa3.length cax] from (((hb28.below w27.heap.size)).block _ Saxv.out.lt).trans Saxv.out)
  have Sbxv := Lib.hid (show Str w28 w11.heap.size 27 #[.int .i64 b0, .int .i64 b1, .int .i64 b2, .slice abx xb3.length cbx] from (((hb28.below w27.heap.size)).block _ Sbxv.out.lt).trans Sbxv.out)
  have hz28 := ((hb28.below w27.heap.size)).size
  clear Hcx
  clear Hax
  clear Hbx
  have qab_0 := Sab.out.cell 0 (v := .int .i64 a0) rfl
  have qab_1 := Sab.out.cell 1 (v := .int .i64 a1) rfl
  have qab_2 := Sab.out.cell 2 (v := .int .i64 a2) rfl
  have qab_3 := Sab.out.cell 3 (v := .slice aa3 xa3.length capa3) rfl
  have qbb_0 := Sbb.out.cell 0 (v := .int .i64 b0) rfl
  have qbb_1 := Sbb.out.cell 1 (v := .int .i64 b1) rfl
  have qbb_2 := Sbb.out.cell 2 (v := .int .i64 b2) rfl
  have qbb_3 := Sbb.out.cell 3 (v := .slice ab3 xb3.length capb3) rfl
  go_wp2_with fail
  clear qab_0 qab_1 qab_2 qab_3 qbb_0 qbb_1 qbb_2 qbb_3
  have hdr : Below w28.heap.size w28 w28.drew := (Below.refl _ _).drew
  refine wp_region_held_drew (S := fun w' => w'.cell? ⟨w.heap.size, 0, none⟩ = some (.int .i64 a0) ∧ w'.cell? ⟨w.heap.size, 1, none⟩ = some (.int .i64 a1) ∧ w'.cell? ⟨w.heap.size, 2, none⟩ = some (.int .i64 a2) ∧ w'.cell? ⟨w.heap.size, 3, none⟩ = some (.slice aa3 xa3.length capa3) ∧ w'.cell? ⟨(w.heap.size + 1), 0, none⟩ = some (.int .i64 b0) ∧ w'.cell? ⟨(w.heap.size + 1), 1, none⟩ = some (.int .i64 b1) ∧ w'.cell? ⟨(w.heap.size + 1), 2, none⟩ = some (.int .i64 b2) ∧ w'.cell? ⟨(w.heap.size + 1), 3, none⟩ = some (.slice ab3 xb3.length capb3)) (by kernel_rfl) ⟨Sab.out.cell 0 (v := .int .i64 a0) rfl, Sab.out.cell 1 (v := .int .i64 a1) rfl, Sab.out.cell 2 (v := .int .i64 a2) rfl, Sab.out.cell 3 (v := .slice aa3 xa3.length capa3) rfl, Sbb.out.cell 0 (v := .int .i64 b0) rfl, Sbb.out.cell 1 (v := .int .i64 b1) rfl, Sbb.out.cell 2 (v := .int .i64 b2) rfl, Sbb.out.cell 3 (v := .slice ab3 xb3.length capb3) rfl⟩ (fun hH => ?_)
  generalize w28.drew = w29 at *
  have Hb29 := Lib.hid (below_step Hb28.out Hb28.out.size hdr)
  have Hw0 := Lib.hid (Hw0.out.below hdr)
  have Hg0 := Lib.hid (Hg0.out.below hdr)
  have Sab := Lib.hid (show Str w29 w.heap.size 48 #[.int .i64 a0, .int .i64 a1, .int .i64 a2, .slice aa3 xa3.length capa3] from ((hdr).block _ Sab.out.lt).trans Sab.out)
  have Sbb := Lib.hid (show Str w29 (w.heap.size + 1) 48 #[.int .i64 b0, .int .i64 b1, .int .i64 b2, .slice ab3 xb3.length capb3] from ((hdr).block _ Sbb.out.lt).trans Sbb.out)
  have Saxv := Lib.hid (show Str w29 w9.heap.size 27 #[.int .i64 a0, .int .i64 a1, .int .i64 a2, .slice aax xa3.length cax] from ((hdr).block _ Saxv.out.lt).trans Saxv.out)
  have Sbxv := Lib.hid (show Str w29 w11.heap.size 27 #[.int .i64 b0, .int .i64 b1, .int .i64 b2, .slice abx xb3.length cbx] from ((hdr).block _ Sbxv.out.lt).trans Sbxv.out)
  have hz29 := (hdr).size
  clear hdr
  refine takeH 0 (v := ?vih0) rfl (by kernel_rfl) (by kernel_rfl) (by kernel_rfl) (fun _ _ _ h => h) hH rfl ?yih0 ?rih0
  case yih0 => intro W hSw; go_simp; try with_reducible rfl
  try simp only [Act.put, List.setIfInBounds_toArray, List.set_cons_zero, List.set_cons_succ]
  refine takeH 2 (v := ?vih1) rfl (by kernel_rfl) (by kernel_rfl) (by kernel_rfl) (fun _ _ _ h => h) hH rfl ?yih1 ?rih1
  case yih1 => intro W hSw; go_simp; try with_reducible rfl
  try simp only [Act.put, List.setIfInBounds_toArray, List.set_cons_zero, List.set_cons_succ]
  refine takeH 4 (v := ?vih2) rfl (by kernel_rfl) (by kernel_rfl) (by kernel_rfl) (fun _ _ _ h => h) hH rfl ?yih2 ?rih2
  case yih2 => intro W hSw; go_simp; try with_reducible rfl
  try simp only [Act.put, List.setIfInBounds_toArray, List.set_cons_zero, List.set_cons_succ]
  refine callH 1 rfl (by kernel_rfl) rfl (fun K hK => ?_)
  go_simp
  refine (laws_toIntS ac capc xc _ (by omega) (Hic.out.below Hb29.out)).mono ?_
  rintro e w30 ⟨vcz, rfl, hocz, hb30⟩
  have Hb30 := Lib.hid (below_step Hb29.out Hb29.out.size hb30)
  have Hw0 := Lib.hid (Hw0.out.below hb30)
  have Hg0 := Lib.hid (Hg0.out.below hb30)
  have Sab := Lib.hid (show Str w30 w.heap.size 48 #[.int .i64 a0, .int .i64 a1, .int .i64 a2, .slice aa3 xa3.length capa3] from ((hb30).block _ Sab.out.lt).trans Sab.out)
  have Sbb := Lib.hid (show Str w30 (w.heap.size + 1) 48 #[.int .i64 b0, .int .i64 b1, .int .i64 b2, .slice ab3 xb3.length capb3] from ((hb30).block _ Sbb.out.lt).trans Sbb.out)
  have Saxv := Lib.hid (show Str w30 w9.heap.size 27 #[.int .i64 a0, .int .i64 a1, .int .i64 a2, .slice aax xa3.length cax] from ((hb30).block _ Saxv.out.lt).trans Saxv.out)
  have Sbxv := Lib.hid (show Str w30 w11.heap.size 27 #[.int .i64 b0, .int .i64 b1, .int .i64 b2, .slice abx xb3.length cbx] from ((hb30).block _ Sbxv.out.lt).trans Sbxv.out)
  have hz30 := (hb30).size
  have Hcz := Lib.hid (OwnI.of hocz); clear hocz
  obtain ⟨acz, ccz, rfl, _, _⟩ := Hcz.out.ints
  have hccz := Hcz.out.cap
  have hhcz : w29.heap.size ≤ w29.heap.size := Nat.le_refl _
  have hjcz : w30.heap.size ≤ w30.heap.size := Nat.le_refl _
  dsimp only
  refine hK.out _ _ ⟨Sab.out.cell 0 (v := .int .i64 a0) rfl, Sab.out.cell 1 (v := .int .i64 a1) rfl, Sab.out.cell 2 (v := .int .i64 a2) rfl, Sab.out.cell 3 (v := .slice aa3 xa3.length capa3) rfl, Sbb.out.cell 0 (v := .int .i64 b0) rfl, Sbb.out.cell 1 (v := .int .i64 b1) rfl, Sbb.out.cell 2 (v := .int .i64 b2) rfl, Sbb.out.cell 3 (v := .slice ab3 xb3.length capb3) rfl⟩ (fun hH => ?_)
  clear hK K
  try simp only [Act.put, List.setIfInBounds_toArray, List.set_cons_zero, List.set_cons_succ]
  refine callH 3 rfl (by kernel_rfl) rfl (fun K hK => ?_)
  go_simp
  refine (laws_toTallyR a0 a1 a2 aa3 capa3 xa3 _ (by omega) (Hixa3.out.below Hb30.out)).mono ?_
  rintro e w31 ⟨vaz, rfl, hoaz, hb31⟩
  have Hb31 := Lib.hid (below_step Hb30.out Hb30.out.size hb31)
  have Hw0 := Lib.hid (Hw0.out.below hb31)
  have Hg0 := Lib.hid (Hg0.out.below hb31)
  have Hcz := Lib.hid (Hcz.out.below hb31)
  have Sab := Lib.hid (show Str w31 w.heap.size 48 #[.int .i64 a0, .int .i64 a1, .int .i64 a2, .slice aa3 xa3.length capa3] from ((hb31).block _ Sab.out.lt).trans Sab.out)
  have Sbb := Lib.hid (show Str w31 (w.heap.size + 1) 48 #[.int .i64 b0, .int .i64 b1, .int .i64 b2, .slice ab3 xb3.length capb3] from ((hb31).block _ Sbb.out.lt).trans Sbb.out)
  have Saxv := Lib.hid (show Str w31 w9.heap.size 27 #[.int .i64 a0, .int .i64 a1, .int .i64 a2, .slice aax xa3.length cax] from ((hb31).block _ Saxv.out.lt).trans Saxv.out)
  have Sbxv := Lib.hid (show Str w31 w11.heap.size 27 #[.int .i64 b0, .int .i64 b1, .int .i64 b2, .slice abx xb3.length cbx] from ((hb31).block _ Sbxv.out.lt).trans Sbxv.out)
  have hz31 := (hb31).size
  have Haz := Lib.hid (OwnI.of hoaz); clear hoaz
  obtain ⟨aaz, caz, rfl, _, _⟩ := Haz.out.ints
  have hcaz := Haz.out.cap
  have hhaz : w30.heap.size ≤ w30.heap.size := Nat.le_refl _
  have hjaz : w31.heap.size ≤ w31.heap.size := Nat.le_refl _
  dsimp only
  refine hK.out _ _ ⟨Sab.out.cell 0 (v := .int .i64 a0) rfl, Sab.out.cell 1 (v := .int .i64 a1) rfl, Sab.out.cell 2 (v := .int .i64 a2) rfl, Sab.out.cell 3 (v := .slice aa3 xa3.length capa3) rfl, Sbb.out.cell 0 (v := .int .i64 b0) rfl, Sbb.out.cell 1 (v := .int .i64 b1) rfl, Sbb.out.cell 2 (v := .int .i64 b2) rfl, Sbb.out.cell 3 (v := .slice ab3 xb3.length capb3) rfl⟩ (fun hH => ?_)
  clear hK K
  try simp only [Act.put, List.setIfInBounds_toArray, List.set_cons_zero, List.set_cons_succ]
  refine callH 5 rfl (by kernel_rfl) rfl (fun K hK => ?_)
  go_simp
  refine (laws_toTallyR b0 b1 b2 ab3 capb3 xb3 _ (by omega) (Hixb3.out.below Hb31.out)).mono ?_
  rintro e w32 ⟨vbz, rfl, hobz, hb32⟩
  have Hb32 := Lib.hid (below_step Hb31.out Hb31.out.size hb32)
  have Hw0 := Lib.hid (Hw0.out.below hb32)
  have Hg0 := Lib.hid (Hg0.out.below hb32)
  have Hcz := Lib.hid (Hcz.out.below hb32)
  have Haz := Lib.hid (Haz.out.below hb32)
  have Sab := Lib.hid (show Str w32 w.heap.size 48 #[.int .i64 a0, .int .i64 a1, .int .i64 a2, .slice aa3 xa3.length capa3] from ((hb32).block _ Sab.out.lt).trans Sab.out)
  have Sbb := Lib.hid (show Str w32 (w.heap.size + 1) 48 #[.int .i64 b0, .int .i64 b1, .int .i64 b2, .slice ab3 xb3.length capb3] from ((hb32).block _ Sbb.out.lt).trans Sbb.out)
  have Saxv := Lib.hid (show Str w32 w9.heap.size 27 #[.int .i64 a0, .int .i64 a1, .int .i64 a2, .slice aax xa3.length cax] from ((hb32).block _ Saxv.out.lt).trans Saxv.out)
  have Sbxv := Lib.hid (show Str w32 w11.heap.size 27 #[.int .i64 b0, .int .i64 b1, .int .i64 b2, .slice abx xb3.length cbx] from ((hb32).block _ Sbxv.out.lt).trans Sbxv.out)
  have hz32 := (hb32).size
  have Hbz := Lib.hid (OwnI.of hobz); clear hobz
  obtain ⟨abz, cbz, rfl, _, _⟩ := Hbz.out.ints
  have hcbz := Hbz.out.cap
  have hhbz : w31.heap.size ≤ w31.heap.size := Nat.le_refl _
  have hjbz : w32.heap.size ≤ w32.heap.size := Nat.le_refl _
  dsimp only
  refine hK.out _ _ ⟨Sab.out.cell 0 (v := .int .i64 a0) rfl, Sab.out.cell 1 (v := .int .i64 a1) rfl, Sab.out.cell 2 (v := .int .i64 a2) rfl, Sab.out.cell 3 (v := .slice aa3 xa3.length capa3) rfl, Sbb.out.cell 0 (v := .int .i64 b0) rfl, Sbb.out.cell 1 (v := .int .i64 b1) rfl, Sbb.out.cell 2 (v := .int .i64 b2) rfl, Sbb.out.cell 3 (v := .slice ab3 xb3.length capb3) rfl⟩ (fun hH => ?_)
  clear hK K
  try simp only [Act.put, List.setIfInBounds_toArray, List.set_cons_zero, List.set_cons_succ]
  refine callH 6 rfl (by kernel_rfl) rfl (fun K hK => ?_)
  go_simp
  refine (Himpl.out acz ccz aaz caz abz cbz _ hccz Hcz.out.at hcaz Haz.out.at (own_src Haz.out.own) hcbz Hbz.out.at (own_src Hbz.out.own)).mono ?_
  rintro e w33 ⟨vh0, rfl, hoh0, hb33⟩
  have Hb33 := Lib.hid (below_step Hb32.out Hb32.out.size hb33)
  have Hw0 := Lib.hid (Hw0.out.below hb33)
  have Hg0 := Lib.hid (Hg0.out.below hb33)
  have Hcz := Lib.hid (Hcz.out.below hb33)
  have Haz := Lib.hid (Haz.out.below hb33)
  have Hbz := Lib.hid (Hbz.out.below hb33)
  have Sab := Lib.hid (show Str w33 w.heap.size 48 #[.int .i64 a0, .int .i64 a1, .int .i64 a2, .slice aa3 xa3.length capa3] from ((hb33).block _ Sab.out.lt).trans Sab.out)
  have Sbb := Lib.hid (show Str w33 (w.heap.size + 1) 48 #[.int .i64 b0, .int .i64 b1, .int .i64 b2, .slice ab3 xb3.length capb3] from ((hb33).block _ Sbb.out.lt).trans Sbb.out)
  have Saxv := Lib.hid (show Str w33 w9.heap.size 27 #[.int .i64 a0, .int .i64 a1, .int .i64 a2, .slice aax xa3.length cax] from ((hb33).block _ Saxv.out.lt).trans Saxv.out)
  have Sbxv := Lib.hid (show Str w33 w11.heap.size 27 #[.int .i64 b0, .int .i64 b1, .int .i64 b2, .slice abx xb3.length cbx] from ((hb33).block _ Sbxv.out.lt).trans Sbxv.out)
  have hz33 := (hb33).size
  have Hh0 := Lib.hid (OwnI.of hoh0); clear hoh0
  obtain ⟨ah0, ch0, rfl, _, _⟩ := Hh0.out.ints
  have hch0 := Hh0.out.cap
  have hhh0 : w32.heap.size ≤ w32.heap.size := Nat.le_refl _
  have hjh0 : w33.heap.size ≤ w33.heap.size := Nat.le_refl _
  dsimp only
  refine hK.out _ _ ⟨Sab.out.cell 0 (v := .int .i64 a0) rfl, Sab.out.cell 1 (v := .int .i64 a1) rfl, Sab.out.cell 2 (v := .int .i64 a2) rfl, Sab.out.cell 3 (v := .slice aa3 xa3.length capa3) rfl, Sbb.out.cell 0 (v := .int .i64 b0) rfl, Sbb.out.cell 1 (v := .int .i64 b1) rfl, Sbb.out.cell 2 (v := .int .i64 b2) rfl, Sbb.out.cell 3 (v := .slice ab3 xb3.length capb3) rfl⟩ (fun hH => ?_)
  clear hK K
  try simp only [Act.put, List.setIfInBounds_toArray, List.set_cons_zero, List.set_cons_succ]
  refine takeH 7 (v := ?vih7) rfl (by kernel_rfl) (by kernel_rfl) (by kernel_rfl) (fun _ _ _ h => h) hH rfl ?yih7 ?rih7
  case yih7 => intro W hSw; go_simp; try with_reducible rfl
  try simp only [Act.put, List.setIfInBounds_toArray, List.set_cons_zero, List.set_cons_succ]
  refine wpAnyH_done (by kernel_rfl) ?_ _
  try simp only [Act.put]
  clear hH
  clear Hcz
  clear Haz
  clear Hbz
  go_wp2_with fail
  refine (laws_eqIntS' ah0 aw0 ch0 cw0 L w33 (by omega) Hh0.out.at Hw0.out.at).mono ?_
  rintro e w34 ⟨rfl, hb34⟩
  have Hb34 := Lib.hid (below_step Hb33.out Hb33.out.size (hb34.below w33.heap.size))
  have Hw0 := Lib.hid (Hw0.out.below (hb34.below w33.heap.size))
  have Hg0 := Lib.hid (Hg0.out.below (hb34.below w33.heap.size))
  have Hh0 := Lib.hid (Hh0.out.below (hb34.below w33.heap.size))
  have Sab := Lib.hid (show Str w34 w.heap.size 48 #[.int .i64 a0, .int .i64 a1, .int .i64 a2, .slice aa3 xa3.length capa3] from (((hb34.below w33.heap.size)).block _ Sab.out.lt).trans Sab.out)
  have Sbb := Lib.hid (show Str w34 (w.heap.size + 1) 48 #[.int .i64 b0, .int .i64 b1, .int .i64 b2, .slice ab3 xb3.length capb3] from (((hb34.below w33.heap.size)).block _ Sbb.out.lt).trans Sbb.out)
  have Saxv := Lib.hid (show Str w34 w9.heap.size 27 #[.int .i64 a0, .int .i64 a1, .int .i64 a2, .slice aax xa3.length cax] from (((hb34.below w33.heap.size)).block _ Saxv.out.lt).trans Saxv.out)
  have Sbxv := Lib.hid (show Str w34 w11.heap.size 27 #[.int .i64 b0, .int .i64 b1, .int .i64 b2, .slice abx xb3.length cbx] from (((hb34.below w33.heap.size)).block _ Sbxv.out.lt).trans Sbxv.out)
  have hz34 := ((hb34.below w33.heap.size)).size
  go_wp2_with fail
  refine (laws_heldIntS ag0 cg0 (1) L.length w34 (by omega) (by omega) Hg0.out.at).mono ?_
  rintro e w35 ⟨rfl, hb35⟩
  have Hb35 := Lib.hid (below_step Hb34.out Hb34.out.size (hb35.below w34.heap.size))
  have Hw0 := Lib.hid (Hw0.out.below (hb35.below w34.heap.size))
  have Hg0 := Lib.hid (Hg0.out.below (hb35.below w34.heap.size))
  have Hh0 := Lib.hid (Hh0.out.below (hb35.below w34.heap.size))
  have Sab := Lib.hid (show Str w35 w.heap.size 48 #[.int .i64 a0, .int .i64 a1, .int .i64 a2, .slice aa3 xa3.length capa3] from (((hb35.below w34.heap.size)).block _ Sab.out.lt).trans Sab.out)
  have Sbb := Lib.hid (show Str w35 (w.heap.size + 1) 48 #[.int .i64 b0, .int .i64 b1, .int .i64 b2, .slice ab3 xb3.length capb3] from (((hb35.below w34.heap.size)).block _ Sbb.out.lt).trans Sbb.out)
  have Saxv := Lib.hid (show Str w35 w9.heap.size 27 #[.int .i64 a0, .int .i64 a1, .int .i64 a2, .slice aax xa3.length cax] from (((hb35.below w34.heap.size)).block _ Saxv.out.lt).trans Saxv.out)
  have Sbxv := Lib.hid (show Str w35 w11.heap.size 27 #[.int .i64 b0, .int .i64 b1, .int .i64 b2, .slice abx xb3.length cbx] from (((hb35.below w34.heap.size)).block _ Sbxv.out.lt).trans Sbxv.out)
  have hz35 := ((hb35.below w34.heap.size)).size
  go_wp2
  go_ret
  exact ⟨by first | rfl | exact ret_bool (by simp), Hb35.out⟩

theorem fnExactTallyGuilty_own : ownKnob Try.prog.godebug = none := by kernel_rfl
theorem fnExactTallyGuilty_laidOut : laidOutB Try.prog = true := by kernel_rfl

set_option maxRecDepth 8000 in
theorem fnExactTallyGuilty_lifted (os : Os) (started : os.Started) (H : Type) (enc : TypeId × Value → H) :
    ReturnsInHanded {} Try.checked os 9 .any (Rows.fnExactTallyGuiltySpec.pre6 enc Try.prog Try.f9 Rows.fnExactTallyGuiltyRow.domain false) (Rows.fnExactTallyGuiltySpec.post enc Try.prog Try.f9 false true false false) := by
  refine law_lifted (C := Try.checked) (tb := 4) fnExactTallyGuilty_own fnExactTallyGuilty_laidOut started (by kernel_rfl) Try.func9 rfl Try.underlying4 rfl (by rw [Try.params9]; exact of_decide_eq_true (by kernel_rfl)) ?_
    (ChangeSpec.witness6 (enc := enc) (C := Try.checked) false ⟨#[], #[.slice none 0 0, .agg #[.int .i64 0, .int .i64 0, .int .i64 0, .slice none 0 0], .agg #[.int .i64 0, .int .i64 0, .int .i64 0, .slice none 0 0]], []⟩ 8 (by kernel_rfl) (by kernel_rfl) (by kernel_rfl) (by kernel_rfl)) ?_
  · intro ds hds
    rw [Try.params9] at hds
    match ds, hds with
    | [d0, d1, d2], _ => rfl
  · intro W base args ds p hval0 hA0
    have hval : ∀ (j : Nat) t v, Try.f9.params[j]? = some t → args[j]? = some v → Value.okWide Try.prog W .any base t v := hval0
    have hA : DataW.TrodAll enc Try.prog W 0 (fun _ => true) true Try.f9.params.toList args.toList ds p := hA0
    rw [Try.params9] at hA hval
    obtain ⟨v0, vs0, d0, ds0, p0, q0, hargs0, rfl, rfl, h0, r0⟩ := trodAll_cons hA
    obtain ⟨v1, vs1, d1, ds1, p1, q1, hargs1, rfl, rfl, h1, r1⟩ := trodAll_cons r0
    obtain ⟨v2, vs2, d2, ds2, p2, q2, hargs2, rfl, rfl, h2, r2⟩ := trodAll_cons r1
    obtain ⟨hnil, rfl, rfl⟩ := trodAll_nil r2
    subst hnil
    subst hargs2
    subst hargs1
    obtain rfl : args = #[v0, v1, v2] := by cases args; simp_all
    obtain ⟨a0, cap0, zs0, rfl, hk0, hm0, hi0, hw0⟩ := open_slice_ints Try.underlying23 Try.underlying3 (by kernel_rfl) (hval 0 23 v0 rfl rfl) h0
    obtain ⟨x1_0, x1_1, x1_2, a1_3, c1_3, x1_3, rfl, b1_0, b1_1, b1_2, b1_3, i1_3⟩ := open_Tally (hval 1 48 v1 rfl rfl) h1
    obtain ⟨x2_0, x2_1, x2_2, a2_3, c2_3, x2_3, rfl, b2_0, b2_1, b2_2, b2_3, i2_3⟩ := open_Tally (hval 2 48 v2 rfl rfl) h2
    exact fnExactTallyGuilty_walk a0 cap0 zs0 x1_0 x1_1 x1_2 a1_3 c1_3 x1_3 x2_0 x2_1 x2_2 a2_3 c2_3 x2_3 W hk0 hm0 hi0 hw0 b1_0 b1_1 b1_2 b1_3 i1_3 b2_0 b2_1 b2_2 b2_3 i2_3

theorem fnExactTallyGuilty_holds : Rows.FnExactTallyGuiltySaid :=
  OpenClaim.holds_of_wide 9 Try.f9 rfl rfl rfl rfl rfl rfl rfl ⟨rfl, rfl, rfl, rfl, rfl⟩ rfl rfl rfl rfl rfl (by kernel_rfl) Try.func9 (by kernel_rfl)
    (of_decide_eq_true (by kernel_rfl)) (by unfold Func.isWrapper; first | (rw [if_pos (by decide +kernel)]; kernel_rfl) | (rw [if_neg (by decide +kernel)]; exact ⟨rfl, rfl⟩))
    (fun os started H enc _ => fnExactTallyGuilty_lifted os started H enc)

end Go.Proofs.Ytgpbogalknmcmab
