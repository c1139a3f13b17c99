/- The exact law of OrderWave holds at every argument; no conditions of our own. -/
import Derived.Test.YtjaacdapibokiabDoorRows
import Derived.Test.YtjaacdapibokiabDoorBu0
import Derived.Test.YtjaacdapibokiabDoorBu1
import Derived.Test.YtjaacdapibokiabDoorBu5
import Derived.Test.YtjaacdapibokiabDoorBu4
namespace Go.Proofs.YtjaacdapibokiabDoor
open Go.ChangeShapes Go.WideShapes Go.ChangeAt Go.RowKit

set_option maxHeartbeats 2000000 in
theorem fnExactOrderWave_walk (ac : Option Addr) (capc : Nat) (xc : List Int) (vg : Value) (esg : List (List Fd)) (fpg : List Nat) (al : Option Addr) (capl : Nat) (xl : List Int) (s0 : Int) (s1 : Int) (w : World) (_hkc : xc.length ≤ capc) (hmc : xc.length ≤ maxLen) (hic : IntsAt w ac xc) (_hwc : ∀ z ∈ xc, (Lit.int .i64 z).wf = true) (hrg : Rd w (rowsD esg) vg fpg) (hmg : esg.length ≤ maxLen) (hpg : ∀ e ∈ esg, vertexP e ∧ fitE e) (_hkl : xl.length ≤ capl) (hml : xl.length ≤ maxLen) (hil : IntsAt w al xl) (_hwl : ∀ z ∈ xl, (Lit.int .i64 z).wf = true) (_hs0 : -9223372036854775808 ≤ s0 ∧ s0 ≤ 9223372036854775807) (_hs1 : -9223372036854775808 ≤ s1 ∧ s1 ≤ 9223372036854775807) (eN eI : Addr) (hs : Sen w eN eI) :
    Calls Tryd.prog 4 #[.slice ac xc.length capc, vg, .slice al xl.length capl, .agg #[.int .i64 s0, .int .i64 s1]] w fun e w' => e = .returned (.bool true) ∧ Below w.heap.size w w' := by
  have Hs := Lib.hid hs; clear hs
  unfold maxLen at hmc
  unfold maxLen at hmg
  unfold maxLen at hml
  obtain ⟨_hs01, _hs02⟩ := _hs0
  obtain ⟨_hs11, _hs12⟩ := _hs1
  have hbx0 : Below w.heap.size w (w.alloc (.cells #[.int .i64 s0, .int .i64 s1] 35)) := (Below.refl w.heap.size w).alloc (by first | exact Nat.le_refl _ | (simp only [World.size_alloc]; omega)) _
  have hsx0 := Str.new (w) 35 #[.int .i64 s0, .int .i64 s1]
  by_cases hlc : xc.length ≤ 1048576
  case neg =>
    go_enter Tryd.func4, Tryd.ntmps4
    go_wp2
    go_ret
    exact ⟨rfl, hbx0⟩
  by_cases hll : xl.length ≤ 1048576
  case neg =>
    go_enter Tryd.func4, Tryd.ntmps4
    go_wp2
    go_ret
    exact ⟨rfl, hbx0⟩
  have Hic := Lib.hid hic; clear hic
  have Hil := Lib.hid hil; clear hil
  have Hrg := Lib.hid hrg; clear hrg
  have hpg1 : ∀ e ∈ esg, vertexP e := fun e he => (hpg e he).1
  have Hfg := Lib.hid (fun e he => (hpg e he).2); clear hpg
  have hzx : (w.alloc (.cells #[.int .i64 s0, .int .i64 s1] 35)).heap.size = w.heap.size + 1 := by simp
  have Ssb := Lib.hid (show Str (w.alloc (.cells #[.int .i64 s0, .int .i64 s1] 35)) (w.heap.size) 35 #[.int .i64 s0, .int .i64 s1] by simpa using hsx0)
  clear hsx0
  have Hb0 := Lib.hid hbx0
  clear hbx0
  have Hszg := Lib.hid (fun w (hr : Rd w (rowsD esg) vg fpg) => laws_szVertexSR esg vg fpg (1048576) w (by omega) (by omega) hpg1 (fun e he xs hx => by have := ((Hfg.out e he).2 xs hx).1; unfold maxLen at this; omega) hr)
  go_enter Tryd.func4, Tryd.ntmps4
  go_wp2_with fail
  generalize (w.alloc (.cells #[.int .i64 s0, .int .i64 s1] 35)) = w0 at *
  refine (Hszg.out _ (Hrg.out.under Hb0.out)).mono ?_
  rintro e w1 ⟨rfl, hb1⟩
  have Hb1 := Lib.hid (below_step Hb0.out Hb0.out.size hb1)
  have Ssb := Lib.hid (show Str w1 w.heap.size 35 #[.int .i64 s0, .int .i64 s1] from ((hb1).block _ Ssb.out.lt).trans Ssb.out)
  have hz1 := (hb1).size
  have hklg := kTo_bd (vertexP_len hpg1) 1 esg.length (Nat.le_refl _)
  clear hklg
  by_cases hlg : esg.length + lnTo esg esg.length ≤ 1048576
  case neg =>
    rw [if_neg hlg]
    go_wp2
    go_ret
    exact ⟨rfl, Hb1.out⟩
  rw [if_pos hlg]
  have hnegg : decide ((((1048576 - esg.length - lnTo esg esg.length : Nat)) : Int) < 0) = false := decide_eq_false (by omega)
  have hngeg : ¬ (((1048576 - esg.length - lnTo esg esg.length : Nat) : Int) < 0) := by omega
  have hing := lnTo_in (es := esg) (m := 1048576) (by omega)
  have hkbg := fun k => kTo_bd (vertexP_len hpg1) k esg.length (Nat.le_refl _)
  have Hlng := Lib.hid (show ∀ e ∈ esg, lnE e ≤ 1099511627776 from fun e he => Nat.le_trans (hing e he) (by omega))
  obtain ⟨g, rfl⟩ := rows_vx hpg1
  have hL : (g.map Vx.fd).length = g.length := by simp
  have hlg' : ∀ x ∈ g, x.ps.length ≤ 1048576 := vx_lens hing
  have hP : ∀ x ∈ g, x.ps.length ≤ 1099511627776 := fun x hx => Nat.le_trans (hlg' x hx) (by omega)
  have Hspec := Lib.hid (fun ac cc vg fg al cl W (_hcc : xc.length ≤ cc) (h : IntsAt W ac xc) (h' : Rd W (rowsD (g.map Vx.fd)) vg fg) (_hlc : xl.length ≤ cl) (h'' : IntsAt W al xl) => spec_OrderWave ac cc xc g vg fg al cl xl s0 s1 W (by omega) (by omega) hP (by omega) h h' h'')
  have Himpl := Lib.hid (fun ac cc vg fg al cl W (_hcc : xc.length ≤ cc) (h : IntsAt W ac xc) (h' : Rd W (rowsD (g.map Vx.fd)) vg fg) (_hlc : xl.length ≤ cl) (h'' : IntsAt W al xl) (hb : Below w.heap.size w W) => impl_OrderWave ac cc xc g vg fg al cl xl s0 s1 eN eI W (by omega) (by omega) hP (by omega) h h' h'' (Hs.out.below hb))
  generalize owZ xc g xl s0 s1 = N at *
  clear hP hlg' hL
  generalize g.map Vx.fd = esg at *
  have Hing := Lib.hid hing; clear hing
  have Hkbg := Lib.hid hkbg; clear hkbg
  have Hpg := Lib.hid hpg1; clear hpg1
  have qsb_0 := Ssb.out.cell 0 (v := .int .i64 s0) rfl
  have qsb_1 := Ssb.out.cell 1 (v := .int .i64 s1) rfl
  go_wp2_with fail
  clear qsb_0 qsb_1
  have hdr : Below w1.heap.size w1 w1.drew := (Below.refl _ _).drew
  refine wp_region_held_drew (S := fun w' => w'.cell? ⟨w.heap.size, 0, none⟩ = some (.int .i64 s0) ∧ w'.cell? ⟨w.heap.size, 1, none⟩ = some (.int .i64 s1)) (by kernel_rfl) ⟨Ssb.out.cell 0 (v := .int .i64 s0) rfl, Ssb.out.cell 1 (v := .int .i64 s1) rfl⟩ (fun hH => ?_)
  generalize w1.drew = w2 at *
  have Hb2 := Lib.hid (below_step Hb1.out Hb1.out.size hdr)
  have Ssb := Lib.hid (show Str w2 w.heap.size 35 #[.int .i64 s0, .int .i64 s1] from ((hdr).block _ Ssb.out.lt).trans Ssb.out)
  have hz2 := (hdr).size
  clear hdr
  refine takeH 0 (v := ?vsw0) rfl (by kernel_rfl) (by kernel_rfl) (by kernel_rfl) (fun _ _ _ h => h) hH rfl ?ysw0 ?rsw0
  case ysw0 => intro W hSw; go_simp; try with_reducible rfl
  try simp only [Act.put, List.setIfInBounds_toArray, List.set_cons_zero, List.set_cons_succ]
  refine takeH 2 (v := ?vsw1) rfl (by kernel_rfl) (by kernel_rfl) (by kernel_rfl) (fun _ _ _ h => h) hH rfl ?ysw1 ?rsw1
  case ysw1 => intro W hSw; go_simp; try with_reducible rfl
  try simp only [Act.put, List.setIfInBounds_toArray, List.set_cons_zero, List.set_cons_succ]
  refine takeH 4 (v := ?vsw2) rfl (by kernel_rfl) (by kernel_rfl) (by kernel_rfl) (fun _ _ _ h => h) hH rfl ?ysw2 ?rsw2
  case ysw2 => intro W hSw; go_simp; try with_reducible rfl
  try simp only [Act.put, List.setIfInBounds_toArray, List.set_cons_zero, List.set_cons_succ]
  refine takeH 6 (v := ?vsw3) rfl (by kernel_rfl) (by kernel_rfl) (by kernel_rfl) (fun _ _ _ h => h) hH rfl ?ysw3 ?rsw3
  case ysw3 => intro W hSw; go_simp; try with_reducible rfl
  try simp only [Act.put, List.setIfInBounds_toArray, List.set_cons_zero, List.set_cons_succ]
  refine callH 1 rfl (by kernel_rfl) rfl (fun K hK => ?_)
  go_simp
  refine (laws_toIntS ac capc xc _ (by omega) (Hic.out.below Hb2.out)).mono ?_
  rintro e w3 ⟨vcs, rfl, hocs, hb3⟩
  have Hb3 := Lib.hid (below_step Hb2.out Hb2.out.size hb3)
  have Ssb := Lib.hid (show Str w3 w.heap.size 35 #[.int .i64 s0, .int .i64 s1] from ((hb3).block _ Ssb.out.lt).trans Ssb.out)
  have hz3 := (hb3).size
  have Hcs := Lib.hid (OwnI.of hocs); clear hocs
  obtain ⟨acs, ccs, rfl, _, _⟩ := Hcs.out.ints
  have hccs := Hcs.out.cap
  have hhcs : w2.heap.size ≤ w2.heap.size := Nat.le_refl _
  have hjcs : w3.heap.size ≤ w3.heap.size := Nat.le_refl _
  dsimp only
  refine hK.out _ _ ⟨Ssb.out.cell 0 (v := .int .i64 s0) rfl, Ssb.out.cell 1 (v := .int .i64 s1) rfl⟩ (fun hH => ?_)
  clear hK K
  try simp only [Act.put, List.setIfInBounds_toArray, List.set_cons_zero, List.set_cons_succ]
  refine callH 3 rfl (by kernel_rfl) rfl (fun K hK => ?_)
  go_simp
  refine (laws_toVertexSR esg vg fpg _ (by omega) Hpg.out Hing.out (Hrg.out.under Hb3.out)).mono ?_
  rintro e w4 ⟨vgs, rfl, hogs, hb4⟩
  have Hb4 := Lib.hid (below_step Hb3.out Hb3.out.size hb4)
  have Hcs := Lib.hid (Hcs.out.below hb4)
  have Ssb := Lib.hid (show Str w4 w.heap.size 35 #[.int .i64 s0, .int .i64 s1] from ((hb4).block _ Ssb.out.lt).trans Ssb.out)
  have hz4 := (hb4).size
  have Hgs := Lib.hid hogs; clear hogs
  have hhgs : w3.heap.size ≤ w3.heap.size := Nat.le_refl _
  have hjgs : w4.heap.size ≤ w4.heap.size := Nat.le_refl _
  dsimp only
  refine hK.out _ _ ⟨Ssb.out.cell 0 (v := .int .i64 s0) rfl, Ssb.out.cell 1 (v := .int .i64 s1) rfl⟩ (fun hH => ?_)
  clear hK K
  try simp only [Act.put, List.setIfInBounds_toArray, List.set_cons_zero, List.set_cons_succ]
  refine callH 5 rfl (by kernel_rfl) rfl (fun K hK => ?_)
  go_simp
  refine (laws_toIntS al capl xl _ (by omega) (Hil.out.below Hb4.out)).mono ?_
  rintro e w5 ⟨vls, rfl, hols, hb5⟩
  have Hb5 := Lib.hid (below_step Hb4.out Hb4.out.size hb5)
  have Hcs := Lib.hid (Hcs.out.below hb5)
  have Hgs := Lib.hid (Hgs.out.below hb5 (by omega))
  have Ssb := Lib.hid (show Str w5 w.heap.size 35 #[.int .i64 s0, .int .i64 s1] from ((hb5).block _ Ssb.out.lt).trans Ssb.out)
  have hz5 := (hb5).size
  have Hls := Lib.hid (OwnI.of hols); clear hols
  obtain ⟨als, cls, rfl, _, _⟩ := Hls.out.ints
  have hcls := Hls.out.cap
  have hhls : w4.heap.size ≤ w4.heap.size := Nat.le_refl _
  have hjls : w5.heap.size ≤ w5.heap.size := Nat.le_refl _
  dsimp only
  refine hK.out _ _ ⟨Ssb.out.cell 0 (v := .int .i64 s0) rfl, Ssb.out.cell 1 (v := .int .i64 s1) rfl⟩ (fun hH => ?_)
  clear hK K
  try simp only [Act.put, List.setIfInBounds_toArray, List.set_cons_zero, List.set_cons_succ]
  refine callH 7 rfl (by kernel_rfl) rfl (fun K hK => ?_)
  go_simp
  refine (laws_toSlotR s0 s1 _).mono ?_
  rintro e w6 ⟨rfl, hb6⟩
  have Hb6 := Lib.hid (below_step Hb5.out Hb5.out.size hb6)
  have Hcs := Lib.hid (Hcs.out.below hb6)
  have Hgs := Lib.hid (Hgs.out.below hb6 (by omega))
  have Hls := Lib.hid (Hls.out.below hb6)
  have Ssb := Lib.hid (show Str w6 w.heap.size 35 #[.int .i64 s0, .int .i64 s1] from ((hb6).block _ Ssb.out.lt).trans Ssb.out)
  have hz6 := (hb6).size
  dsimp only
  refine hK.out _ _ ⟨Ssb.out.cell 0 (v := .int .i64 s0) rfl, Ssb.out.cell 1 (v := .int .i64 s1) rfl⟩ (fun hH => ?_)
  clear hK K
  try simp only [Act.put, List.setIfInBounds_toArray, List.set_cons_zero, List.set_cons_succ]
  refine callH 8 rfl (by kernel_rfl) rfl (fun K hK => ?_)
  go_simp
  obtain ⟨fgs, hrgs⟩ := Hgs.out.reads
  refine (Hspec.out acs ccs vgs fgs als cls _ hccs Hcs.out.at hrgs hcls Hls.out.at).mono ?_
  rintro e w7 ⟨rfl, hb7⟩
  have Hb7 := Lib.hid (below_step Hb6.out Hb6.out.size hb7)
  have Hcs := Lib.hid (Hcs.out.below hb7)
  have Hgs := Lib.hid (Hgs.out.below hb7 (by omega))
  have Hls := Lib.hid (Hls.out.below hb7)
  have Ssb := Lib.hid (show Str w7 w.heap.size 35 #[.int .i64 s0, .int .i64 s1] from ((hb7).block _ Ssb.out.lt).trans Ssb.out)
  have hz7 := (hb7).size
  clear hrgs
  dsimp only
  refine hK.out _ _ ⟨Ssb.out.cell 0 (v := .int .i64 s0) rfl, Ssb.out.cell 1 (v := .int .i64 s1) rfl⟩ (fun hH => ?_)
  clear hK K
  try simp only [Act.put, List.setIfInBounds_toArray, List.set_cons_zero, List.set_cons_succ]
  refine takeH 9 (v := ?vsw9) rfl (by kernel_rfl) (by kernel_rfl) (by kernel_rfl) (fun _ _ _ h => h) hH rfl ?ysw9 ?rsw9
  case ysw9 => intro W hSw; go_simp; try with_reducible rfl
  try simp only [Act.put, List.setIfInBounds_toArray, List.set_cons_zero, List.set_cons_succ]
  refine wpAnyH_done (by kernel_rfl) ?_ _
  try simp only [Act.put]
  clear hH
  clear Hcs
  clear Hgs
  clear Hls
  go_wp2_with fail
  refine (laws_toIntS ac capc xc _ (by omega) (Hic.out.below Hb7.out)).mono ?_
  rintro e w8 ⟨vcx, rfl, hocx, hb8⟩
  have Hb8 := Lib.hid (below_step Hb7.out Hb7.out.size hb8)
  have Ssb := Lib.hid (show Str w8 w.heap.size 35 #[.int .i64 s0, .int .i64 s1] from ((hb8).block _ Ssb.out.lt).trans Ssb.out)
  have hz8 := (hb8).size
  have Hcx := Lib.hid (OwnI.of hocx); clear hocx
  obtain ⟨acx, ccx, rfl, _, _⟩ := Hcx.out.ints
  have hccx := Hcx.out.cap
  have hhcx : w7.heap.size ≤ w7.heap.size := Nat.le_refl _
  have hjcx : w8.heap.size ≤ w8.heap.size := Nat.le_refl _
  go_wp2_with fail
  refine (laws_toVertexSR esg vg fpg _ (by omega) Hpg.out Hing.out (Hrg.out.under Hb8.out)).mono ?_
  rintro e w9 ⟨vgx, rfl, hogx, hb9⟩
  have Hb9 := Lib.hid (below_step Hb8.out Hb8.out.size hb9)
  have Hcx := Lib.hid (Hcx.out.below hb9)
  have Ssb := Lib.hid (show Str w9 w.heap.size 35 #[.int .i64 s0, .int .i64 s1] from ((hb9).block _ Ssb.out.lt).trans Ssb.out)
  have hz9 := (hb9).size
  have Hgx := Lib.hid hogx; clear hogx
  have hhgx : w8.heap.size ≤ w8.heap.size := Nat.le_refl _
  have hjgx : w9.heap.size ≤ w9.heap.size := Nat.le_refl _
  go_wp2_with fail
  refine (laws_toIntS al capl xl _ (by omega) (Hil.out.below Hb9.out)).mono ?_
  rintro e w10 ⟨vlx, rfl, holx, hb10⟩
  have Hb10 := Lib.hid (below_step Hb9.out Hb9.out.size hb10)
  have Hcx := Lib.hid (Hcx.out.below hb10)
  have Hgx := Lib.hid (Hgx.out.below hb10 (by omega))
  have Ssb := Lib.hid (show Str w10 w.heap.size 35 #[.int .i64 s0, .int .i64 s1] from ((hb10).block _ Ssb.out.lt).trans Ssb.out)
  have hz10 := (hb10).size
  have Hlx := Lib.hid (OwnI.of holx); clear holx
  obtain ⟨alx, clx, rfl, _, _⟩ := Hlx.out.ints
  have hclx := Hlx.out.cap
  have hhlx : w9.heap.size ≤ w9.heap.size := Nat.le_refl _
  have hjlx : w10.heap.size ≤ w10.heap.size := Nat.le_refl _
  have qsb_0 := Ssb.out.cell 0 (v := .int .i64 s0) rfl
  have qsb_1 := Ssb.out.cell 1 (v := .int .i64 s1) rfl
  go_wp2_with fail
  refine (laws_toSlotR s0 s1 _).mono ?_
  rintro e w11 ⟨rfl, hb11⟩
  have Hb11 := Lib.hid (below_step Hb10.out Hb10.out.size hb11)
  have Hcx := Lib.hid (Hcx.out.below hb11)
  have Hgx := Lib.hid (Hgx.out.below hb11 (by omega))
  have Hlx := Lib.hid (Hlx.out.below hb11)
  have Ssb := Lib.hid (show Str w11 w.heap.size 35 #[.int .i64 s0, .int .i64 s1] from ((hb11).block _ Ssb.out.lt).trans Ssb.out)
  have hz11 := (hb11).size
  clear qsb_0 qsb_1
  obtain ⟨fgx, hrgx⟩ := Hgx.out.reads
  go_wp2_with fail
  refine (Himpl.out acx ccx vgx fgx alx clx _ hccx Hcx.out.at hrgx hclx Hlx.out.at Hb11.out).mono ?_
  rintro e w12 ⟨rfl, hb12⟩
  have Hb12 := Lib.hid (below_step Hb11.out Hb11.out.size hb12)
  have Hcx := Lib.hid (Hcx.out.below hb12)
  have Hgx := Lib.hid (Hgx.out.below hb12 (by omega))
  have Hlx := Lib.hid (Hlx.out.below hb12)
  have Ssb := Lib.hid (show Str w12 w.heap.size 35 #[.int .i64 s0, .int .i64 s1] from ((hb12).block _ Ssb.out.lt).trans Ssb.out)
  have hz12 := (hb12).size
  clear hrgx
  go_wp2_with fail
  refine (laws_toIntS ac capc xc _ (by omega) (Hic.out.below Hb12.out)).mono ?_
  rintro e w13 ⟨vcy, rfl, hocy, hb13⟩
  have Hb13 := Lib.hid (below_step Hb12.out Hb12.out.size hb13)
  have Hcx := Lib.hid (Hcx.out.below hb13)
  have Hgx := Lib.hid (Hgx.out.below hb13 (by omega))
  have Hlx := Lib.hid (Hlx.out.below hb13)
  have Ssb := Lib.hid (show Str w13 w.heap.size 35 #[.int .i64 s0, .int .i64 s1] from ((hb13).block _ Ssb.out.lt).trans Ssb.out)
  have hz13 := (hb13).size
  have Hcy := Lib.hid (OwnI.of hocy); clear hocy
  obtain ⟨acy, ccy, rfl, _, _⟩ := Hcy.out.ints
  have hccy := Hcy.out.cap
  have hhcy : w12.heap.size ≤ w12.heap.size := Nat.le_refl _
  have hjcy : w13.heap.size ≤ w13.heap.size := Nat.le_refl _
  go_wp2_with fail
  refine (laws_eqIntS' acx acy ccx ccy xc w13 (by omega) Hcx.out.at Hcy.out.at).mono ?_
  rintro e w14 ⟨rfl, hb14⟩
  have Hb14 := Lib.hid (below_step Hb13.out Hb13.out.size (hb14.below w13.heap.size))
  have Hcx := Lib.hid (Hcx.out.below (hb14.below w13.heap.size))
  have Hgx := Lib.hid (Hgx.out.below (hb14.below w13.heap.size) (by omega))
  have Hlx := Lib.hid (Hlx.out.below (hb14.below w13.heap.size))
  have Hcy := Lib.hid (Hcy.out.below (hb14.below w13.heap.size))
  have Ssb := Lib.hid (show Str w14 w.heap.size 35 #[.int .i64 s0, .int .i64 s1] from (((hb14.below w13.heap.size)).block _ Ssb.out.lt).trans Ssb.out)
  have hz14 := ((hb14.below w13.heap.size)).size
  clear Hcy
  go_wp2_with fail
  refine (laws_toVertexSR esg vg fpg _ (by omega) Hpg.out Hing.out (Hrg.out.under Hb14.out)).mono ?_
  rintro e w15 ⟨vgy, rfl, hogy, hb15⟩
  have Hb15 := Lib.hid (below_step Hb14.out Hb14.out.size hb15)
  have Hcx := Lib.hid (Hcx.out.below hb15)
  have Hgx := Lib.hid (Hgx.out.below hb15 (by omega))
  have Hlx := Lib.hid (Hlx.out.below hb15)
  have Ssb := Lib.hid (show Str w15 w.heap.size 35 #[.int .i64 s0, .int .i64 s1] from ((hb15).block _ Ssb.out.lt).trans Ssb.out)
  have hz15 := (hb15).size
  have Hgy := Lib.hid hogy; clear hogy
  have hhgy : w14.heap.size ≤ w14.heap.size := Nat.le_refl _
  have hjgy : w15.heap.size ≤ w15.heap.size := Nat.le_refl _
  obtain ⟨fgx, hrgx⟩ := Hgx.out.reads
  obtain ⟨fgy, hrgy⟩ := Hgy.out.reads
  go_wp2_with fail
  refine (laws_eqVertexSR esg _ _ fgx fgy w15 (by omega) Hpg.out Hlng.out hrgx hrgy).mono ?_
  rintro e w16 ⟨rfl, hb16⟩
  have Hb16 := Lib.hid (below_step Hb15.out Hb15.out.size hb16)
  have Hcx := Lib.hid (Hcx.out.below hb16)
  have Hgx := Lib.hid (Hgx.out.below hb16 (by omega))
  have Hlx := Lib.hid (Hlx.out.below hb16)
  have Hgy := Lib.hid (Hgy.out.below hb16 (by omega))
  have Ssb := Lib.hid (show Str w16 w.heap.size 35 #[.int .i64 s0, .int .i64 s1] from ((hb16).block _ Ssb.out.lt).trans Ssb.out)
  have hz16 := (hb16).size
  clear hrgx hrgy
  clear Hgy
  go_wp2_with fail
  refine (laws_toIntS al capl xl _ (by omega) (Hil.out.below Hb16.out)).mono ?_
  rintro e w17 ⟨vly, rfl, holy, hb17⟩
  have Hb17 := Lib.hid (below_step Hb16.out Hb16.out.size hb17)
  have Hcx := Lib.hid (Hcx.out.below hb17)
  have Hgx := Lib.hid (Hgx.out.below hb17 (by omega))
  have Hlx := Lib.hid (Hlx.out.below hb17)
  have Ssb := Lib.hid (show Str w17 w.heap.size 35 #[.int .i64 s0, .int .i64 s1] from ((hb17).block _ Ssb.out.lt).trans Ssb.out)
  have hz17 := (hb17).size
  have Hly := Lib.hid (OwnI.of holy); clear holy
  obtain ⟨aly, cly, rfl, _, _⟩ := Hly.out.ints
  have hcly := Hly.out.cap
  have hhly : w16.heap.size ≤ w16.heap.size := Nat.le_refl _
  have hjly : w17.heap.size ≤ w17.heap.size := Nat.le_refl _
  go_wp2_with fail
  refine (laws_eqIntS' alx aly clx cly xl w17 (by omega) Hlx.out.at Hly.out.at).mono ?_
  rintro e w18 ⟨rfl, hb18⟩
  have Hb18 := Lib.hid (below_step Hb17.out Hb17.out.size (hb18.below w17.heap.size))
  have Hcx := Lib.hid (Hcx.out.below (hb18.below w17.heap.size))
  have Hgx := Lib.hid (Hgx.out.below (hb18.below w17.heap.size) (by omega))
  have Hlx := Lib.hid (Hlx.out.below (hb18.below w17.heap.size))
  have Hly := Lib.hid (Hly.out.below (hb18.below w17.heap.size))
  have Ssb := Lib.hid (show Str w18 w.heap.size 35 #[.int .i64 s0, .int .i64 s1] from (((hb18.below w17.heap.size)).block _ Ssb.out.lt).trans Ssb.out)
  have hz18 := ((hb18.below w17.heap.size)).size
  clear Hly
  go_wp2
  go_ret
  exact ⟨by first | rfl | exact ret_bool (by simp), Hb18.out⟩

theorem fnExactOrderWave_own : ownKnob Tryd.prog.godebug = none := by kernel_rfl
theorem fnExactOrderWave_laidOut : laidOutB Tryd.prog = true := by kernel_rfl

set_option maxRecDepth 8000 in
theorem fnExactOrderWave_lifted (os : Os) (started : os.Started) (H : Type) (enc : TypeId × Value → H) :
    ReturnsInHanded {} Tryd.checked os 4 .any (fun w args => (Rows.fnExactOrderWaveSpec.pre enc Tryd.prog Tryd.f4 [] false w args ∧ laidMetH Tryd.prog laidE w) ∧ sizedMet enc Tryd.prog Tryd.f4 (OpenSpec.ofChange Rows.fnExactOrderWaveSpec) false w args) (Rows.fnExactOrderWaveSpec.post enc Tryd.prog Tryd.f4 false true false false) := by
  refine law_lifted_tied (C := Tryd.checked) (tb := 4) laidE fnExactOrderWave_own fnExactOrderWave_laidOut started (by kernel_rfl) Tryd.func4 rfl Tryd.underlying4 (by kernel_rfl) (by rw [Tryd.params4]; exact of_decide_eq_true (by kernel_rfl)) ?_
    (ChangeSpec.witness_shaped (enc := enc) (C := Tryd.checked) (os := os) (X := fun w _ => laidMetH Tryd.prog laidE w) false (World.laidAll Tryd.prog os laidE) #[.slice none 0 0, .slice none 0 0, .slice none 0 0, .agg #[.int .i64 0, .int .i64 0]] 8 (World.laidAll_os _ _ _) (World.shaped_of_ZipB (by kernel_rfl) (by kernel_rfl)) (by kernel_rfl) (by kernel_rfl) (by kernel_rfl) (laid_witness os _)) ?_
  · intro ds gs hds hgs
    rw [Tryd.params4] at hds
    match ds, hds, gs, hgs with
    | [d0, d1, d2, d3], _, [g0, g1], _ => rfl
  · intro W base args ds p hval0 hA0 hL0
    have hval : ∀ (j : Nat) t v, Tryd.f4.params[j]? = some t → args[j]? = some v → Value.okWide Tryd.prog W .any base t v := hval0
    have hA : DataW.TrodAll enc Tryd.prog W 0 (fun _ => true) true Tryd.f4.params.toList args.toList ds p := hA0
    rw [Tryd.params4] at hA hval
    obtain ⟨v0, vs0, d0, ds0, p0, q0, hargs0, rfl, rfl, h0, r0⟩ := trodAll_cons hA
    obtain ⟨v1, vs1, d1, ds1, p1, q1, hargs1, rfl, rfl, h1, r1⟩ := trodAll_cons r0
    obtain ⟨v2, vs2, d2, ds2, p2, q2, hargs2, rfl, rfl, h2, r2⟩ := trodAll_cons r1
    obtain ⟨v3, vs3, d3, ds3, p3, q3, hargs3, rfl, rfl, h3, r3⟩ := trodAll_cons r2
    obtain ⟨hnil, rfl, rfl⟩ := trodAll_nil r3
    subst hnil
    subst hargs3
    subst hargs2
    subst hargs1
    obtain rfl : args = #[v0, v1, v2, v3] := by cases args; simp_all
    obtain ⟨a0, cap0, zs0, rfl, hk0, hm0, hi0, hw0⟩ := open_slice_ints Tryd.underlying22 Tryd.underlying3 (by kernel_rfl) (hval 0 22 v0 rfl rfl) h0
    obtain ⟨es1, fp1, hr1, hm1, hp1⟩ := open_VertexS (hval 1 23 v1 rfl rfl) h1
    obtain ⟨a2, cap2, zs2, rfl, hk2, hm2, hi2, hw2⟩ := open_slice_ints Tryd.underlying22 Tryd.underlying3 (by kernel_rfl) (hval 2 22 v2 rfl rfl) h2
    obtain ⟨x3_0, x3_1, rfl, b3_0, b3_1⟩ := open_Slot (hval 3 35 v3 rfl rfl) h3
    obtain ⟨eN, eI, hS⟩ := sen_of hL0
    exact fnExactOrderWave_walk a0 cap0 zs0 v1 es1 fp1 a2 cap2 zs2 x3_0 x3_1 W hk0 hm0 hi0 hw0 hr1 hm1 hp1 hk2 hm2 hi2 hw2 b3_0 b3_1 eN eI hS

set_option maxRecDepth 8000 in
theorem fnExactOrderWave_holds : Rows.FnExactOrderWaveSaid :=
  OpenClaim.holds_of_wide 4 Tryd.f4 rfl rfl rfl rfl rfl rfl rfl ⟨rfl, rfl, rfl, rfl, rfl⟩ rfl rfl rfl rfl rfl (by kernel_rfl) Tryd.func4 (by kernel_rfl)
    (of_decide_eq_true (by kernel_rfl)) (by unfold Func.isWrapper; first | (rw [if_pos (by decide +kernel)]; kernel_rfl) | (rw [if_neg (by decide +kernel)]; exact ⟨rfl, rfl⟩))
    (fun os started H enc _ => fnExactOrderWave_lifted os started H enc)

theorem fnExactOrderWave_card : Rows.FnExactOrderWaveCardSaid :=
  Claim7.holds_tied_plain_at .later [] _ _ _ _ fnExactOrderWave_holds (fun _ h => by cases h) (by kernel_rfl) (fun _ h => by cases h) fnExactOrderWave_row_tie rfl ⟨rfl, rfl⟩ (by kernel_rfl) rfl
    (plain_of (f0 := 4) (fn0 := Tryd.f4) (ts := [22, 23, 22, 35]) (by kernel_rfl) Tryd.func4 (by rw [Tryd.params4]) (by kernel_rfl) (by kernel_rfl)) (by kernel_rfl)

end Go.Proofs.YtjaacdapibokiabDoor
