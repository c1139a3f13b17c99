/- The exact law of GraphAdd holds at every argument; no conditions of our own. -/
import Derived.Test.YtejpoeejhmgphabRows
import Derived.Test.YtejpoeejhmgphabBase
import Derived.Test.YtejpoeejhmgphabLift
import Derived.Test.YtejpoeejhmgphabApp
import Derived.Test.YtejpoeejhmgphabDt
import Derived.Test.YtejpoeejhmgphabOwR
import Derived.Test.YtejpoeejhmgphabOwS
import Derived.Test.YtejpoeejhmgphabRow
import Derived.Test.YtejpoeejhmgphabEx
import Derived.Test.YtejpoeejhmgphabL1
import Derived.Test.YtejpoeejhmgphabL2
import Derived.Test.YtejpoeejhmgphabM2
import Derived.Test.YtejpoeejhmgphabC1
import Derived.Test.YtejpoeejhmgphabC2
import Derived.Test.YtejpoeejhmgphabRVertex
import Derived.Test.YtejpoeejhmgphabHeld
import Derived.Test.YtejpoeejhmgphabGv1
import Derived.Test.YtejpoeejhmgphabGv2
import Derived.Test.YtejpoeejhmgphabGv3
import Derived.Test.YtejpoeejhmgphabExg
import Derived.Test.YtejpoeejhmgphabGv6
import Derived.Test.YtejpoeejhmgphabExh
import Derived.Test.YtejpoeejhmgphabGvi
namespace Go.Proofs.Ytejpoeejhmgphab
open Go.ChangeShapes Go.WideShapes Go.ChangeAt Go.RowKit

set_option maxHeartbeats 2000000 in
theorem fnExactGraphAdd_walk (ac : Option Addr) (capc : Nat) (xc : List Int) (vg : Value) (esg : List (List Fd)) (fpg : List Nat) (v0 : Int) (v1 : Int) (av2 : Option Addr) (capv2 : Nat) (xv2 : List Int) (v3 : Int) (w : World) (_hkc : xc.length ≤ capc) (hmc : xc.length ≤ maxLen) (hic : IntsAt w ac xc) (_hwc : ∀ z ∈ xc, (Lit.int .i64 z).wf = true) (hrg : Rd w (rowsD esg) vg fpg) (hmg : esg.length ≤ maxLen) (hpg : ∀ e ∈ esg, vertexP e ∧ fitE e) (_hv0 : -9223372036854775808 ≤ v0 ∧ v0 ≤ 9223372036854775807) (_hv1 : -9223372036854775808 ≤ v1 ∧ v1 ≤ 9223372036854775807) (hmxv2 : xv2.length ≤ maxLen ∧ ∀ x ∈ xv2, -9223372036854775808 ≤ x ∧ x ≤ 9223372036854775807) (hixv2 : IntsAt w av2 xv2) (_hv3 : -9223372036854775808 ≤ v3 ∧ v3 ≤ 9223372036854775807) :
    Calls Try.prog 6 #[.slice ac xc.length capc, vg, .agg #[.int .i64 v0, .int .i64 v1, .slice av2 xv2.length capv2, .int .i64 v3]] w fun e w' => e = .returned (.bool true) ∧ Below w.heap.size w w' := by
  unfold maxLen at hmc
  unfold maxLen at hmg
  obtain ⟨_hv01, _hv02⟩ := _hv0
  obtain ⟨_hv11, _hv12⟩ := _hv1
  obtain ⟨hmxv2, _hbxv2⟩ := hmxv2
  unfold maxLen at hmxv2
  obtain ⟨_hv31, _hv32⟩ := _hv3
  have hbx0 : Below w.heap.size w (w.alloc (.cells #[.int .i64 v0, .int .i64 v1, .slice av2 xv2.length capv2, .int .i64 v3] 24)) := (Below.refl w.heap.size w).alloc (by simp) _
  have hsx0 := Str.new (w) 24 #[.int .i64 v0, .int .i64 v1, .slice av2 xv2.length capv2, .int .i64 v3]
  by_cases hlc : xc.length ≤ 1048576
  case neg =>
    go_enter Try.func6, Try.ntmps6
    go_wp2
    go_ret
    exact ⟨rfl, hbx0⟩
  have Hic := Lib.hid hic; clear hic
  have Hrg := Lib.hid hrg; clear hrg
  have hpg1 : ∀ e ∈ esg, vertexP e := fun e he => (hpg e he).1
  have Hfg := Lib.hid (fun e he => (hpg e he).2); clear hpg
  have Hixv2 := Lib.hid hixv2; clear hixv2
  have hzx : (w.alloc (.cells #[.int .i64 v0, .int .i64 v1, .slice av2 xv2.length capv2, .int .i64 v3] 24)).heap.size = w.heap.size + 1 := by simp
  have Svb := Lib.hid (show Str (w.alloc (.cells #[.int .i64 v0, .int .i64 v1, .slice av2 xv2.length capv2, .int .i64 v3] 24)) (w.heap.size) 24 #[.int .i64 v0, .int .i64 v1, .slice av2 xv2.length capv2, .int .i64 v3] by simpa using hsx0)
  clear hsx0
  have Hb0 := Lib.hid hbx0
  clear hbx0
  have Hszg := Lib.hid (fun w (hr : Rd w (rowsD esg) vg fpg) => laws_szVertexSR esg vg fpg (1048576) w (by omega) (by omega) hpg1 (fun e he xs hx => by have := ((Hfg.out e he).2 xs hx).1; unfold maxLen at this; omega) hr)
  go_enter Try.func6, Try.ntmps6
  go_wp2_with fail
  generalize (w.alloc (.cells #[.int .i64 v0, .int .i64 v1, .slice av2 xv2.length capv2, .int .i64 v3] 24)) = w0 at *
  refine (Hszg.out _ (Hrg.out.under Hb0.out)).mono ?_
  rintro e w1 ⟨rfl, hb1⟩
  have Hb1 := Lib.hid (below_step Hb0.out Hb0.out.size hb1)
  have Svb := Lib.hid (show Str w1 w.heap.size 24 #[.int .i64 v0, .int .i64 v1, .slice av2 xv2.length capv2, .int .i64 v3] from ((hb1).block _ Svb.out.lt).trans Svb.out)
  have hz1 := (hb1).size
  have hklg := kTo_bd (vertexP_len hpg1) 1 esg.length (Nat.le_refl _)
  clear hklg
  by_cases hlg : esg.length + lnTo esg esg.length ≤ 1048576
  case neg =>
    rw [if_neg hlg]
    go_wp2
    go_ret
    exact ⟨rfl, Hb1.out⟩
  rw [if_pos hlg]
  have hnegg : decide ((((1048576 - esg.length - lnTo esg esg.length : Nat)) : Int) < 0) = false := decide_eq_false (by omega)
  have hngeg : ¬ (((1048576 - esg.length - lnTo esg esg.length : Nat) : Int) < 0) := by omega
  have hing := lnTo_in (es := esg) (m := 1048576) (by omega)
  have hkbg := fun k => kTo_bd (vertexP_len hpg1) k esg.length (Nat.le_refl _)
  have Hlng := Lib.hid (show ∀ e ∈ esg, lnE e ≤ 1099511627776 from fun e he => Nat.le_trans (hing e he) (by omega))
  have Hszv := Lib.hid (fun w => laws_szVertexR v0 v1 av2 capv2 xv2 v3 (1048576 - esg.length - lnTo esg esg.length) w (by omega) (by omega))
  have qvb_0 := Svb.out.cell 0 (v := .int .i64 v0) rfl
  have qvb_1 := Svb.out.cell 1 (v := .int .i64 v1) rfl
  have qvb_2 := Svb.out.cell 2 (v := .slice av2 xv2.length capv2) rfl
  have qvb_3 := Svb.out.cell 3 (v := .int .i64 v3) rfl
  go_wp2_with fail
  refine (Hszv.out _).mono ?_
  rintro e w2 ⟨rfl, hb2⟩
  have Hb2 := Lib.hid (below_step Hb1.out Hb1.out.size hb2)
  have Svb := Lib.hid (show Str w2 w.heap.size 24 #[.int .i64 v0, .int .i64 v1, .slice av2 xv2.length capv2, .int .i64 v3] from ((hb2).block _ Svb.out.lt).trans Svb.out)
  have hz2 := (hb2).size
  clear qvb_0 qvb_1 qvb_2 qvb_3
  by_cases hlxv2 : xv2.length ≤ 1048576 - esg.length - lnTo esg esg.length
  case neg =>
    rw [if_neg hlxv2]
    go_wp2
    go_ret
    exact ⟨rfl, Hb2.out⟩
  rw [if_pos hlxv2]
  have hnegv : decide ((((1048576 - esg.length - lnTo esg esg.length - xv2.length : Nat)) : Int) < 0) = false := decide_eq_false (by omega)
  have hngev : ¬ (((1048576 - esg.length - lnTo esg esg.length - xv2.length : Nat) : Int) < 0) := by omega
  obtain ⟨g, rfl⟩ := rows_vx hpg1
  have hLg : (g.map Vx.fd).length = g.length := by simp
  have hlg' : ∀ x ∈ g, x.ps.length ≤ 1048576 := vx_lens hing
  have hPg : ∀ x ∈ g, x.ps.length ≤ 1099511627776 := fun x hx => Nat.le_trans (hlg' x hx) (by omega)
  have Hspec := Lib.hid (fun ac cc vg fg av cv w (hcc : xc.length ≤ cc) (h : IntsAt w ac xc) (h' : Rd w (rowsD (g.map Vx.fd)) vg fg) (hcv : xv2.length ≤ cv) (hi : IntsAt w av xv2) (hs : SrcAt w av cv xv2) => spec_GraphAdd ac cc xc g vg fg ⟨v0, v1, xv2, v3⟩ av cv w (by omega) (by omega) hPg (by simp only; omega) h h' hs hi)
  have Himpl := Lib.hid (fun ac cc vg fg av cv w (hcc : xc.length ≤ cc) (h : IntsAt w ac xc) (h' : Rd w (rowsD (g.map Vx.fd)) vg fg) (hcv : xv2.length ≤ cv) (hi : IntsAt w av xv2) (hs : SrcAt w av cv xv2) => impl_GraphAdd ac cc xc g vg fg ⟨v0, v1, xv2, v3⟩ av cv w (by omega) (by omega) hPg (by simp only; omega) hcc h h' hcv hs hi)
  have hvg := lnTo_vx g
  have hsz := gaG_size xc g ⟨v0, v1, xv2, v3⟩
  simp only at hsz
  obtain ⟨hR1, hR2⟩ := hsz
  obtain ⟨hRa, hRb, hRc, hRd⟩ := vx_answer (n := 1048577) (m := 2097152) (Nat.le_trans hR1 (by omega)) (Nat.le_trans hR2 (by omega)) (by omega)
  clear hR1 hR2
  generalize (gaG xc g ⟨v0, v1, xv2, v3⟩).map Vx.fd = R at *
  have Hrp0 := Lib.hid hRb; clear hRb
  have Hrl0 := Lib.hid hRc; clear hRc
  have Hrk0 := Lib.hid hRd; clear hRd
  generalize gaN xc g ⟨v0, v1, xv2, v3⟩ = N at *
  clear hPg hlg' hLg
  generalize g.map Vx.fd = esg at *
  have Hing := Lib.hid hing; clear hing
  have Hkbg := Lib.hid hkbg; clear hkbg
  have Hpg := Lib.hid hpg1; clear hpg1
  have qvb_0 := Svb.out.cell 0 (v := .int .i64 v0) rfl
  have qvb_1 := Svb.out.cell 1 (v := .int .i64 v1) rfl
  have qvb_2 := Svb.out.cell 2 (v := .slice av2 xv2.length capv2) rfl
  have qvb_3 := Svb.out.cell 3 (v := .int .i64 v3) rfl
  go_wp2_with fail
  clear qvb_0 qvb_1 qvb_2 qvb_3
  have hdr : Below w2.heap.size w2 w2.drew := (Below.refl _ _).drew
  refine wp_region_held_drew (S := fun w' => w'.cell? ⟨w.heap.size, 0, none⟩ = some (.int .i64 v0) ∧ w'.cell? ⟨w.heap.size, 1, none⟩ = some (.int .i64 v1) ∧ w'.cell? ⟨w.heap.size, 2, none⟩ = some (.slice av2 xv2.length capv2) ∧ w'.cell? ⟨w.heap.size, 3, none⟩ = some (.int .i64 v3)) (by kernel_rfl) ⟨Svb.out.cell 0 (v := .int .i64 v0) rfl, Svb.out.cell 1 (v := .int .i64 v1) rfl, Svb.out.cell 2 (v := .slice av2 xv2.length capv2) rfl, Svb.out.cell 3 (v := .int .i64 v3) rfl⟩ (fun hH => ?_)
  generalize w2.drew = w3 at *
  have Hb3 := Lib.hid (below_step Hb2.out Hb2.out.size hdr)
  have Svb := Lib.hid (show Str w3 w.heap.size 24 #[.int .i64 v0, .int .i64 v1, .slice av2 xv2.length capv2, .int .i64 v3] from ((hdr).block _ Svb.out.lt).trans Svb.out)
  have hz3 := (hdr).size
  clear hdr
  refine takeH 0 (v := ?vsw0) rfl (by kernel_rfl) (by kernel_rfl) (by kernel_rfl) (fun _ _ _ h => h) hH rfl ?ysw0 ?rsw0
  case ysw0 => intro W hSw; go_simp; try with_reducible rfl
  try simp only [Act.put, List.setIfInBounds_toArray, List.set_cons_zero, List.set_cons_succ]
  refine takeH 2 (v := ?vsw1) rfl (by kernel_rfl) (by kernel_rfl) (by kernel_rfl) (fun _ _ _ h => h) hH rfl ?ysw1 ?rsw1
  case ysw1 => intro W hSw; go_simp; try with_reducible rfl
  try simp only [Act.put, List.setIfInBounds_toArray, List.set_cons_zero, List.set_cons_succ]
  refine takeH 4 (v := ?vsw2) rfl (by kernel_rfl) (by kernel_rfl) (by kernel_rfl) (fun _ _ _ h => h) hH rfl ?ysw2 ?rsw2
  case ysw2 => intro W hSw; go_simp; try with_reducible rfl
  try simp only [Act.put, List.setIfInBounds_toArray, List.set_cons_zero, List.set_cons_succ]
  refine callH 1 rfl (by kernel_rfl) rfl (fun K hK => ?_)
  go_simp
  refine (laws_toIntS ac capc xc _ (by omega) (Hic.out.below Hb3.out)).mono ?_
  rintro e w4 ⟨vcs, rfl, hocs, hb4⟩
  have Hb4 := Lib.hid (below_step Hb3.out Hb3.out.size hb4)
  have Svb := Lib.hid (show Str w4 w.heap.size 24 #[.int .i64 v0, .int .i64 v1, .slice av2 xv2.length capv2, .int .i64 v3] from ((hb4).block _ Svb.out.lt).trans Svb.out)
  have hz4 := (hb4).size
  have Hcs := Lib.hid (OwnI.of hocs); clear hocs
  obtain ⟨acs, ccs, rfl, _, _⟩ := Hcs.out.ints
  have hccs := Hcs.out.cap
  have hhcs : w3.heap.size ≤ w3.heap.size := Nat.le_refl _
  have hjcs : w4.heap.size ≤ w4.heap.size := Nat.le_refl _
  dsimp only
  refine hK.out _ _ ⟨Svb.out.cell 0 (v := .int .i64 v0) rfl, Svb.out.cell 1 (v := .int .i64 v1) rfl, Svb.out.cell 2 (v := .slice av2 xv2.length capv2) rfl, Svb.out.cell 3 (v := .int .i64 v3) rfl⟩ (fun hH => ?_)
  clear hK K
  try simp only [Act.put, List.setIfInBounds_toArray, List.set_cons_zero, List.set_cons_succ]
  refine callH 3 rfl (by kernel_rfl) rfl (fun K hK => ?_)
  go_simp
  refine (laws_toVertexSR esg vg fpg _ (by omega) Hpg.out Hing.out (Hrg.out.under Hb4.out)).mono ?_
  rintro e w5 ⟨vgs, rfl, hogs, hb5⟩
  have Hb5 := Lib.hid (below_step Hb4.out Hb4.out.size hb5)
  have Hcs := Lib.hid (Hcs.out.below hb5)
  have Svb := Lib.hid (show Str w5 w.heap.size 24 #[.int .i64 v0, .int .i64 v1, .slice av2 xv2.length capv2, .int .i64 v3] from ((hb5).block _ Svb.out.lt).trans Svb.out)
  have hz5 := (hb5).size
  have Hgs := Lib.hid hogs; clear hogs
  have hhgs : w4.heap.size ≤ w4.heap.size := Nat.le_refl _
  have hjgs : w5.heap.size ≤ w5.heap.size := Nat.le_refl _
  dsimp only
  refine hK.out _ _ ⟨Svb.out.cell 0 (v := .int .i64 v0) rfl, Svb.out.cell 1 (v := .int .i64 v1) rfl, Svb.out.cell 2 (v := .slice av2 xv2.length capv2) rfl, Svb.out.cell 3 (v := .int .i64 v3) rfl⟩ (fun hH => ?_)
  clear hK K
  try simp only [Act.put, List.setIfInBounds_toArray, List.set_cons_zero, List.set_cons_succ]
  refine callH 5 rfl (by kernel_rfl) rfl (fun K hK => ?_)
  go_simp
  refine (laws_toVertexR v0 v1 av2 capv2 xv2 v3 _ (by omega) (Hixv2.out.below Hb5.out)).mono ?_
  rintro e w6 ⟨vvs, rfl, hovs, hb6⟩
  have Hb6 := Lib.hid (below_step Hb5.out Hb5.out.size hb6)
  have Hcs := Lib.hid (Hcs.out.below hb6)
  have Hgs := Lib.hid (Hgs.out.below hb6 (by omega))
  have Svb := Lib.hid (show Str w6 w.heap.size 24 #[.int .i64 v0, .int .i64 v1, .slice av2 xv2.length capv2, .int .i64 v3] from ((hb6).block _ Svb.out.lt).trans Svb.out)
  have hz6 := (hb6).size
  have Hvs := Lib.hid (OwnI.of hovs); clear hovs
  obtain ⟨avs, cvs, rfl, _, _⟩ := Hvs.out.ints
  have hcvs := Hvs.out.cap
  have hhvs : w5.heap.size ≤ w5.heap.size := Nat.le_refl _
  have hjvs : w6.heap.size ≤ w6.heap.size := Nat.le_refl _
  dsimp only
  refine hK.out _ _ ⟨Svb.out.cell 0 (v := .int .i64 v0) rfl, Svb.out.cell 1 (v := .int .i64 v1) rfl, Svb.out.cell 2 (v := .slice av2 xv2.length capv2) rfl, Svb.out.cell 3 (v := .int .i64 v3) rfl⟩ (fun hH => ?_)
  clear hK K
  try simp only [Act.put, List.setIfInBounds_toArray, List.set_cons_zero, List.set_cons_succ]
  refine callH 6 rfl (by kernel_rfl) rfl (fun K hK => ?_)
  go_simp
  obtain ⟨fgs, hrgs⟩ := Hgs.out.reads
  refine (Hspec.out acs ccs vgs fgs avs cvs _ hccs Hcs.out.at hrgs hcvs Hvs.out.at (own_src Hvs.out.own)).mono ?_
  rintro e w7 ⟨vw0, rfl, how0, hb7⟩
  have Hb7 := Lib.hid (below_step Hb6.out Hb6.out.size hb7)
  have Hcs := Lib.hid (Hcs.out.below hb7)
  have Hgs := Lib.hid (Hgs.out.below hb7 (by omega))
  have Hvs := Lib.hid (Hvs.out.below hb7)
  have Svb := Lib.hid (show Str w7 w.heap.size 24 #[.int .i64 v0, .int .i64 v1, .slice av2 xv2.length capv2, .int .i64 v3] from ((hb7).block _ Svb.out.lt).trans Svb.out)
  have hz7 := (hb7).size
  have Hw0 := Lib.hid how0; clear how0
  have hhw0 : w6.heap.size ≤ w6.heap.size := Nat.le_refl _
  have hjw0 : w7.heap.size ≤ w7.heap.size := Nat.le_refl _
  clear hrgs
  dsimp only
  refine hK.out _ _ ⟨Svb.out.cell 0 (v := .int .i64 v0) rfl, Svb.out.cell 1 (v := .int .i64 v1) rfl, Svb.out.cell 2 (v := .slice av2 xv2.length capv2) rfl, Svb.out.cell 3 (v := .int .i64 v3) rfl⟩ (fun hH => ?_)
  clear hK K
  try simp only [Act.put, List.setIfInBounds_toArray, List.set_cons_zero, List.set_cons_succ]
  refine takeH 7 (v := ?vsw7) rfl (by kernel_rfl) (by kernel_rfl) (by kernel_rfl) (fun _ _ _ h => h) hH rfl ?ysw7 ?rsw7
  case ysw7 => intro W hSw; go_simp; try with_reducible rfl
  try simp only [Act.put, List.setIfInBounds_toArray, List.set_cons_zero, List.set_cons_succ]
  refine takeH 8 (v := ?vsw8) rfl (by kernel_rfl) (by kernel_rfl) (by kernel_rfl) (fun _ _ _ h => h) hH rfl ?ysw8 ?rsw8
  case ysw8 => intro W hSw; go_simp; try with_reducible rfl
  try simp only [Act.put, List.setIfInBounds_toArray, List.set_cons_zero, List.set_cons_succ]
  refine takeH 9 (v := ?vsw9) rfl (by kernel_rfl) (by kernel_rfl) (by kernel_rfl) (fun _ _ _ h => h) hH rfl ?ysw9 ?rsw9
  case ysw9 => intro W hSw; go_simp; try with_reducible rfl
  try simp only [Act.put, List.setIfInBounds_toArray, List.set_cons_zero, List.set_cons_succ]
  refine takeH 10 (v := ?vsw10) rfl (by kernel_rfl) (by kernel_rfl) (by kernel_rfl) (fun _ _ _ h => h) hH rfl ?ysw10 ?rsw10
  case ysw10 => intro W hSw; go_simp; try with_reducible rfl
  try simp only [Act.put, List.setIfInBounds_toArray, List.set_cons_zero, List.set_cons_succ]
  refine takeH 11 (v := ?vsw11) rfl (by kernel_rfl) (by kernel_rfl) (by kernel_rfl) (fun _ _ _ h => h) hH rfl ?ysw11 ?rsw11
  case ysw11 => intro W hSw; go_simp; try with_reducible rfl
  try simp only [Act.put, List.setIfInBounds_toArray, List.set_cons_zero, List.set_cons_succ]
  refine wpAnyH_done (by kernel_rfl) ?_ _
  try simp only [Act.put]
  clear hH
  clear Hcs
  clear Hgs
  clear Hvs
  go_wp2_with fail
  refine (laws_toIntS ac capc xc _ (by omega) (Hic.out.below Hb7.out)).mono ?_
  rintro e w8 ⟨vcx, rfl, hocx, hb8⟩
  have Hb8 := Lib.hid (below_step Hb7.out Hb7.out.size hb8)
  have Hw0 := Lib.hid (Hw0.out.below hb8 (by omega))
  have Svb := Lib.hid (show Str w8 w.heap.size 24 #[.int .i64 v0, .int .i64 v1, .slice av2 xv2.length capv2, .int .i64 v3] from ((hb8).block _ Svb.out.lt).trans Svb.out)
  have hz8 := (hb8).size
  have Hcx := Lib.hid (OwnI.of hocx); clear hocx
  obtain ⟨acx, ccx, rfl, _, _⟩ := Hcx.out.ints
  have hccx := Hcx.out.cap
  have hhcx : w7.heap.size ≤ w7.heap.size := Nat.le_refl _
  have hjcx : w8.heap.size ≤ w8.heap.size := Nat.le_refl _
  go_wp2_with fail
  refine (laws_toVertexSR esg vg fpg _ (by omega) Hpg.out Hing.out (Hrg.out.under Hb8.out)).mono ?_
  rintro e w9 ⟨vgx, rfl, hogx, hb9⟩
  have Hb9 := Lib.hid (below_step Hb8.out Hb8.out.size hb9)
  have Hw0 := Lib.hid (Hw0.out.below hb9 (by omega))
  have Hcx := Lib.hid (Hcx.out.below hb9)
  have Svb := Lib.hid (show Str w9 w.heap.size 24 #[.int .i64 v0, .int .i64 v1, .slice av2 xv2.length capv2, .int .i64 v3] from ((hb9).block _ Svb.out.lt).trans Svb.out)
  have hz9 := (hb9).size
  have Hgx := Lib.hid hogx; clear hogx
  have hhgx : w8.heap.size ≤ w8.heap.size := Nat.le_refl _
  have hjgx : w9.heap.size ≤ w9.heap.size := Nat.le_refl _
  have qvb_0 := Svb.out.cell 0 (v := .int .i64 v0) rfl
  have qvb_1 := Svb.out.cell 1 (v := .int .i64 v1) rfl
  have qvb_2 := Svb.out.cell 2 (v := .slice av2 xv2.length capv2) rfl
  have qvb_3 := Svb.out.cell 3 (v := .int .i64 v3) rfl
  go_wp2_with fail
  refine (laws_toVertexR v0 v1 av2 capv2 xv2 v3 _ (by omega) (Hixv2.out.below Hb9.out)).mono ?_
  rintro e w10 ⟨vvx, rfl, hovx, hb10⟩
  have Hb10 := Lib.hid (below_step Hb9.out Hb9.out.size hb10)
  have Hw0 := Lib.hid (Hw0.out.below hb10 (by omega))
  have Hcx := Lib.hid (Hcx.out.below hb10)
  have Hgx := Lib.hid (Hgx.out.below hb10 (by omega))
  have Svb := Lib.hid (show Str w10 w.heap.size 24 #[.int .i64 v0, .int .i64 v1, .slice av2 xv2.length capv2, .int .i64 v3] from ((hb10).block _ Svb.out.lt).trans Svb.out)
  have hz10 := (hb10).size
  have Hvx := Lib.hid (OwnI.of hovx); clear hovx
  obtain ⟨avx, cvx, rfl, _, _⟩ := Hvx.out.ints
  have hcvx := Hvx.out.cap
  have hhvx : w9.heap.size ≤ w9.heap.size := Nat.le_refl _
  have hjvx : w10.heap.size ≤ w10.heap.size := Nat.le_refl _
  clear qvb_0 qvb_1 qvb_2 qvb_3
  have hAvxv : Below w10.heap.size w10 (w10.alloc (.cells #[.int .i64 v0, .int .i64 v1, .slice avx xv2.length cvx, .int .i64 v3] 28)) := (Below.refl _ _).alloc (Nat.le_refl _) _
  have sNvxv := Str.new w10 28 #[.int .i64 v0, .int .i64 v1, .slice avx xv2.length cvx, .int .i64 v3]
  have hzAvxv : (w10.alloc (.cells #[.int .i64 v0, .int .i64 v1, .slice avx xv2.length cvx, .int .i64 v3] 28)).heap.size = w10.heap.size + 1 := by simp
  have hbsvxv : w10.heap.size ≤ w10.heap.size := Nat.le_refl _
  have Hb11 := Lib.hid (below_step Hb10.out Hb10.out.size hAvxv)
  have Hw0 := Lib.hid (Hw0.out.below hAvxv (by omega))
  have Hcx := Lib.hid (Hcx.out.below hAvxv)
  have Hgx := Lib.hid (Hgx.out.below hAvxv (by omega))
  have Hvx := Lib.hid (Hvx.out.below hAvxv)
  have Svb := Lib.hid (show Str (w10.alloc (.cells #[.int .i64 v0, .int .i64 v1, .slice avx xv2.length cvx, .int .i64 v3] 28)) w.heap.size 24 #[.int .i64 v0, .int .i64 v1, .slice av2 xv2.length capv2, .int .i64 v3] from (hAvxv.block _ Svb.out.lt).trans Svb.out)
  have Svxv := Lib.hid sNvxv; clear sNvxv
  clear hAvxv
  have qvb_0 := Svb.out.cell 0 (v := .int .i64 v0) rfl
  have qvb_1 := Svb.out.cell 1 (v := .int .i64 v1) rfl
  have qvb_2 := Svb.out.cell 2 (v := .slice av2 xv2.length capv2) rfl
  have qvb_3 := Svb.out.cell 3 (v := .int .i64 v3) rfl
  have qvxv_0 := Svxv.out.cell 0 (v := .int .i64 v0) rfl
  have qvxv_1 := Svxv.out.cell 1 (v := .int .i64 v1) rfl
  have qvxv_2 := Svxv.out.cell 2 (v := .slice avx xv2.length cvx) rfl
  have qvxv_3 := Svxv.out.cell 3 (v := .int .i64 v3) rfl
  go_wp2_with fail
  generalize w10.alloc (.cells #[.int .i64 v0, .int .i64 v1, .slice avx xv2.length cvx, .int .i64 v3] 28) = w11 at *
  obtain ⟨fgx, hrgx⟩ := Hgx.out.reads
  refine (Himpl.out acx ccx vgx fgx avx cvx _ hccx Hcx.out.at hrgx hcvx Hvx.out.at (own_src Hvx.out.own)).mono ?_
  rintro e w12 ⟨vg0, rfl, hog0, hb12⟩
  have Hb12 := Lib.hid (below_step Hb11.out Hb11.out.size hb12)
  have Hw0 := Lib.hid (Hw0.out.below hb12 (by omega))
  have Hcx := Lib.hid (Hcx.out.below hb12)
  have Hgx := Lib.hid (Hgx.out.below hb12 (by omega))
  have Hvx := Lib.hid (Hvx.out.below hb12)
  have Svb := Lib.hid (show Str w12 w.heap.size 24 #[.int .i64 v0, .int .i64 v1, .slice av2 xv2.length capv2, .int .i64 v3] from ((hb12).block _ Svb.out.lt).trans Svb.out)
  have Svxv := Lib.hid (show Str w12 w10.heap.size 28 #[.int .i64 v0, .int .i64 v1, .slice avx xv2.length cvx, .int .i64 v3] from ((hb12).block _ Svxv.out.lt).trans Svxv.out)
  have hz12 := (hb12).size
  have Hg0 := Lib.hid hog0; clear hog0
  have hhg0 : w11.heap.size ≤ w11.heap.size := Nat.le_refl _
  have hjg0 : w12.heap.size ≤ w12.heap.size := Nat.le_refl _
  clear qvb_0 qvb_1 qvb_2 qvb_3 qvxv_0 qvxv_1 qvxv_2 qvxv_3
  clear hrgx
  obtain ⟨fg0, hrg0⟩ := Hg0.out.reads
  obtain ⟨fw0, hrw0⟩ := Hw0.out.reads
  go_wp2_with fail
  refine (laws_eqVertexSR R _ _ fg0 fw0 w12 (by omega) Hrp0.out Hrl0.out hrg0 hrw0).mono ?_
  rintro e w13 ⟨rfl, hb13⟩
  have Hb13 := Lib.hid (below_step Hb12.out Hb12.out.size hb13)
  have Hw0 := Lib.hid (Hw0.out.below hb13 (by omega))
  have Hcx := Lib.hid (Hcx.out.below hb13)
  have Hgx := Lib.hid (Hgx.out.below hb13 (by omega))
  have Hvx := Lib.hid (Hvx.out.below hb13)
  have Hg0 := Lib.hid (Hg0.out.below hb13 (by omega))
  have Svb := Lib.hid (show Str w13 w.heap.size 24 #[.int .i64 v0, .int .i64 v1, .slice av2 xv2.length capv2, .int .i64 v3] from ((hb13).block _ Svb.out.lt).trans Svb.out)
  have Svxv := Lib.hid (show Str w13 w10.heap.size 28 #[.int .i64 v0, .int .i64 v1, .slice avx xv2.length cvx, .int .i64 v3] from ((hb13).block _ Svxv.out.lt).trans Svxv.out)
  have hz13 := (hb13).size
  clear hrg0 hrw0
  go_wp2_with fail
  refine (laws_toIntS ac capc xc _ (by omega) (Hic.out.below Hb13.out)).mono ?_
  rintro e w14 ⟨vcy, rfl, hocy, hb14⟩
  have Hb14 := Lib.hid (below_step Hb13.out Hb13.out.size hb14)
  have Hw0 := Lib.hid (Hw0.out.below hb14 (by omega))
  have Hcx := Lib.hid (Hcx.out.below hb14)
  have Hgx := Lib.hid (Hgx.out.below hb14 (by omega))
  have Hvx := Lib.hid (Hvx.out.below hb14)
  have Hg0 := Lib.hid (Hg0.out.below hb14 (by omega))
  have Svb := Lib.hid (show Str w14 w.heap.size 24 #[.int .i64 v0, .int .i64 v1, .slice av2 xv2.length capv2, .int .i64 v3] from ((hb14).block _ Svb.out.lt).trans Svb.out)
  have Svxv := Lib.hid (show Str w14 w10.heap.size 28 #[.int .i64 v0, .int .i64 v1, .slice avx xv2.length cvx, .int .i64 v3] from ((hb14).block _ Svxv.out.lt).trans Svxv.out)
  have hz14 := (hb14).size
  have Hcy := Lib.hid (OwnI.of hocy); clear hocy
  obtain ⟨acy, ccy, rfl, _, _⟩ := Hcy.out.ints
  have hccy := Hcy.out.cap
  have hhcy : w13.heap.size ≤ w13.heap.size := Nat.le_refl _
  have hjcy : w14.heap.size ≤ w14.heap.size := Nat.le_refl _
  go_wp2_with fail
  refine (laws_eqIntS' acx acy ccx ccy xc w14 (by omega) Hcx.out.at Hcy.out.at).mono ?_
  rintro e w15 ⟨rfl, hb15⟩
  have Hb15 := Lib.hid (below_step Hb14.out Hb14.out.size (hb15.below w14.heap.size))
  have Hw0 := Lib.hid (Hw0.out.below (hb15.below w14.heap.size) (by omega))
  have Hcx := Lib.hid (Hcx.out.below (hb15.below w14.heap.size))
  have Hgx := Lib.hid (Hgx.out.below (hb15.below w14.heap.size) (by omega))
  have Hvx := Lib.hid (Hvx.out.below (hb15.below w14.heap.size))
  have Hg0 := Lib.hid (Hg0.out.below (hb15.below w14.heap.size) (by omega))
  have Hcy := Lib.hid (Hcy.out.below (hb15.below w14.heap.size))
  have Svb := Lib.hid (show Str w15 w.heap.size 24 #[.int .i64 v0, .int .i64 v1, .slice av2 xv2.length capv2, .int .i64 v3] from (((hb15.below w14.heap.size)).block _ Svb.out.lt).trans Svb.out)
  have Svxv := Lib.hid (show Str w15 w10.heap.size 28 #[.int .i64 v0, .int .i64 v1, .slice avx xv2.length cvx, .int .i64 v3] from (((hb15.below w14.heap.size)).block _ Svxv.out.lt).trans Svxv.out)
  have hz15 := ((hb15.below w14.heap.size)).size
  clear Hcy
  go_wp2_with fail
  refine (laws_toVertexSR esg vg fpg _ (by omega) Hpg.out Hing.out (Hrg.out.under Hb15.out)).mono ?_
  rintro e w16 ⟨vgy, rfl, hogy, hb16⟩
  have Hb16 := Lib.hid (below_step Hb15.out Hb15.out.size hb16)
  have Hw0 := Lib.hid (Hw0.out.below hb16 (by omega))
  have Hcx := Lib.hid (Hcx.out.below hb16)
  have Hgx := Lib.hid (Hgx.out.below hb16 (by omega))
  have Hvx := Lib.hid (Hvx.out.below hb16)
  have Hg0 := Lib.hid (Hg0.out.below hb16 (by omega))
  have Svb := Lib.hid (show Str w16 w.heap.size 24 #[.int .i64 v0, .int .i64 v1, .slice av2 xv2.length capv2, .int .i64 v3] from ((hb16).block _ Svb.out.lt).trans Svb.out)
  have Svxv := Lib.hid (show Str w16 w10.heap.size 28 #[.int .i64 v0, .int .i64 v1, .slice avx xv2.length cvx, .int .i64 v3] from ((hb16).block _ Svxv.out.lt).trans Svxv.out)
  have hz16 := (hb16).size
  have Hgy := Lib.hid hogy; clear hogy
  have hhgy : w15.heap.size ≤ w15.heap.size := Nat.le_refl _
  have hjgy : w16.heap.size ≤ w16.heap.size := Nat.le_refl _
  obtain ⟨fgx, hrgx⟩ := Hgx.out.reads
  obtain ⟨fgy, hrgy⟩ := Hgy.out.reads
  go_wp2_with fail
  refine (laws_eqVertexSR esg _ _ fgx fgy w16 (by omega) Hpg.out Hlng.out hrgx hrgy).mono ?_
  rintro e w17 ⟨rfl, hb17⟩
  have Hb17 := Lib.hid (below_step Hb16.out Hb16.out.size hb17)
  have Hw0 := Lib.hid (Hw0.out.below hb17 (by omega))
  have Hcx := Lib.hid (Hcx.out.below hb17)
  have Hgx := Lib.hid (Hgx.out.below hb17 (by omega))
  have Hvx := Lib.hid (Hvx.out.below hb17)
  have Hg0 := Lib.hid (Hg0.out.below hb17 (by omega))
  have Hgy := Lib.hid (Hgy.out.below hb17 (by omega))
  have Svb := Lib.hid (show Str w17 w.heap.size 24 #[.int .i64 v0, .int .i64 v1, .slice av2 xv2.length capv2, .int .i64 v3] from ((hb17).block _ Svb.out.lt).trans Svb.out)
  have Svxv := Lib.hid (show Str w17 w10.heap.size 28 #[.int .i64 v0, .int .i64 v1, .slice avx xv2.length cvx, .int .i64 v3] from ((hb17).block _ Svxv.out.lt).trans Svxv.out)
  have hz17 := (hb17).size
  clear hrgx hrgy
  clear Hgy
  have qvxv_0 := Svxv.out.cell 0 (v := .int .i64 v0) rfl
  have qvxv_1 := Svxv.out.cell 1 (v := .int .i64 v1) rfl
  have qvxv_2 := Svxv.out.cell 2 (v := .slice avx xv2.length cvx) rfl
  have qvxv_3 := Svxv.out.cell 3 (v := .int .i64 v3) rfl
  have qvb_0 := Svb.out.cell 0 (v := .int .i64 v0) rfl
  have qvb_1 := Svb.out.cell 1 (v := .int .i64 v1) rfl
  have qvb_2 := Svb.out.cell 2 (v := .slice av2 xv2.length capv2) rfl
  have qvb_3 := Svb.out.cell 3 (v := .int .i64 v3) rfl
  go_wp2_with fail
  clear qvxv_0 qvxv_1 qvxv_2 qvxv_3 qvb_0 qvb_1 qvb_2 qvb_3
  have hdr : Below w17.heap.size w17 w17.drew := (Below.refl _ _).drew
  refine wp_region_held_drew (S := fun w' => w'.cell? ⟨w10.heap.size, 0, none⟩ = some (.int .i64 v0) ∧ w'.cell? ⟨w10.heap.size, 1, none⟩ = some (.int .i64 v1) ∧ w'.cell? ⟨w10.heap.size, 2, none⟩ = some (.slice avx xv2.length cvx) ∧ w'.cell? ⟨w10.heap.size, 3, none⟩ = some (.int .i64 v3) ∧ w'.cell? ⟨w.heap.size, 0, none⟩ = some (.int .i64 v0) ∧ w'.cell? ⟨w.heap.size, 1, none⟩ = some (.int .i64 v1) ∧ w'.cell? ⟨w.heap.size, 2, none⟩ = some (.slice av2 xv2.length capv2) ∧ w'.cell? ⟨w.heap.size, 3, none⟩ = some (.int .i64 v3)) (by kernel_rfl) ⟨Svxv.out.cell 0 (v := .int .i64 v0) rfl, Svxv.out.cell 1 (v := .int .i64 v1) rfl, Svxv.out.cell 2 (v := .slice avx xv2.length cvx) rfl, Svxv.out.cell 3 (v := .int .i64 v3) rfl, Svb.out.cell 0 (v := .int .i64 v0) rfl, Svb.out.cell 1 (v := .int .i64 v1) rfl, Svb.out.cell 2 (v := .slice av2 xv2.length capv2) rfl, Svb.out.cell 3 (v := .int .i64 v3) rfl⟩ (fun hH => ?_)
  generalize w17.drew = w18 at *
  have Hb18 := Lib.hid (below_step Hb17.out Hb17.out.size hdr)
  have Hw0 := Lib.hid (Hw0.out.below hdr (by omega))
  have Hcx := Lib.hid (Hcx.out.below hdr)
  have Hgx := Lib.hid (Hgx.out.below hdr (by omega))
  have Hvx := Lib.hid (Hvx.out.below hdr)
  have Hg0 := Lib.hid (Hg0.out.below hdr (by omega))
  have Svb := Lib.hid (show Str w18 w.heap.size 24 #[.int .i64 v0, .int .i64 v1, .slice av2 xv2.length capv2, .int .i64 v3] from ((hdr).block _ Svb.out.lt).trans Svb.out)
  have Svxv := Lib.hid (show Str w18 w10.heap.size 28 #[.int .i64 v0, .int .i64 v1, .slice avx xv2.length cvx, .int .i64 v3] from ((hdr).block _ Svxv.out.lt).trans Svxv.out)
  have hz18 := (hdr).size
  clear hdr
  refine takeH 0 (v := ?vqv0) rfl (by kernel_rfl) (by kernel_rfl) (by kernel_rfl) (fun _ _ _ h => h) hH rfl ?yqv0 ?rqv0
  case yqv0 => intro W hSw; go_simp; try with_reducible rfl
  try simp only [Act.put, List.setIfInBounds_toArray, List.set_cons_zero, List.set_cons_succ]
  refine takeH 1 (v := ?vqv1) rfl (by kernel_rfl) (by kernel_rfl) (by kernel_rfl) (fun _ _ _ h => h) hH rfl ?yqv1 ?rqv1
  case yqv1 => intro W hSw; go_simp; try with_reducible rfl
  try simp only [Act.put, List.setIfInBounds_toArray, List.set_cons_zero, List.set_cons_succ]
  refine callH 2 rfl (by kernel_rfl) rfl (fun K hK => ?_)
  go_simp
  refine (laws_toVertexR v0 v1 av2 capv2 xv2 v3 _ (by omega) (Hixv2.out.below Hb18.out)).mono ?_
  rintro e w19 ⟨vvy, rfl, hovy, hb19⟩
  have Hb19 := Lib.hid (below_step Hb18.out Hb18.out.size hb19)
  have Hw0 := Lib.hid (Hw0.out.below hb19 (by omega))
  have Hcx := Lib.hid (Hcx.out.below hb19)
  have Hgx := Lib.hid (Hgx.out.below hb19 (by omega))
  have Hvx := Lib.hid (Hvx.out.below hb19)
  have Hg0 := Lib.hid (Hg0.out.below hb19 (by omega))
  have Svb := Lib.hid (show Str w19 w.heap.size 24 #[.int .i64 v0, .int .i64 v1, .slice av2 xv2.length capv2, .int .i64 v3] from ((hb19).block _ Svb.out.lt).trans Svb.out)
  have Svxv := Lib.hid (show Str w19 w10.heap.size 28 #[.int .i64 v0, .int .i64 v1, .slice avx xv2.length cvx, .int .i64 v3] from ((hb19).block _ Svxv.out.lt).trans Svxv.out)
  have hz19 := (hb19).size
  have Hvy := Lib.hid (OwnI.of hovy); clear hovy
  obtain ⟨avy, cvy, rfl, _, _⟩ := Hvy.out.ints
  have hcvy := Hvy.out.cap
  have hhvy : w18.heap.size ≤ w18.heap.size := Nat.le_refl _
  have hjvy : w19.heap.size ≤ w19.heap.size := Nat.le_refl _
  dsimp only
  refine hK.out _ _ ⟨Svxv.out.cell 0 (v := .int .i64 v0) rfl, Svxv.out.cell 1 (v := .int .i64 v1) rfl, Svxv.out.cell 2 (v := .slice avx xv2.length cvx) rfl, Svxv.out.cell 3 (v := .int .i64 v3) rfl, Svb.out.cell 0 (v := .int .i64 v0) rfl, Svb.out.cell 1 (v := .int .i64 v1) rfl, Svb.out.cell 2 (v := .slice av2 xv2.length capv2) rfl, Svb.out.cell 3 (v := .int .i64 v3) rfl⟩ (fun hH => ?_)
  clear hK K
  try simp only [Act.put, List.setIfInBounds_toArray, List.set_cons_zero, List.set_cons_succ]
  refine callH 3 rfl (by kernel_rfl) rfl (fun K hK => ?_)
  go_simp
  refine (laws_eqVertexR v0 v1 avx avy cvx cvy xv2 v3 w19 (by omega) Hvx.out.at Hvy.out.at).mono ?_
  rintro e w20 ⟨rfl, hb20⟩
  have Hb20 := Lib.hid (below_step Hb19.out Hb19.out.size hb20)
  have Hw0 := Lib.hid (Hw0.out.below hb20 (by omega))
  have Hcx := Lib.hid (Hcx.out.below hb20)
  have Hgx := Lib.hid (Hgx.out.below hb20 (by omega))
  have Hvx := Lib.hid (Hvx.out.below hb20)
  have Hg0 := Lib.hid (Hg0.out.below hb20 (by omega))
  have Hvy := Lib.hid (Hvy.out.below hb20)
  have Svb := Lib.hid (show Str w20 w.heap.size 24 #[.int .i64 v0, .int .i64 v1, .slice av2 xv2.length capv2, .int .i64 v3] from ((hb20).block _ Svb.out.lt).trans Svb.out)
  have Svxv := Lib.hid (show Str w20 w10.heap.size 28 #[.int .i64 v0, .int .i64 v1, .slice avx xv2.length cvx, .int .i64 v3] from ((hb20).block _ Svxv.out.lt).trans Svxv.out)
  have hz20 := (hb20).size
  dsimp only
  refine hK.out _ _ ⟨Svxv.out.cell 0 (v := .int .i64 v0) rfl, Svxv.out.cell 1 (v := .int .i64 v1) rfl, Svxv.out.cell 2 (v := .slice avx xv2.length cvx) rfl, Svxv.out.cell 3 (v := .int .i64 v3) rfl, Svb.out.cell 0 (v := .int .i64 v0) rfl, Svb.out.cell 1 (v := .int .i64 v1) rfl, Svb.out.cell 2 (v := .slice av2 xv2.length capv2) rfl, Svb.out.cell 3 (v := .int .i64 v3) rfl⟩ (fun hH => ?_)
  clear hK K
  try simp only [Act.put, List.setIfInBounds_toArray, List.set_cons_zero, List.set_cons_succ]
  refine takeH 4 (v := ?vqv4) rfl (by kernel_rfl) (by kernel_rfl) (by kernel_rfl) (fun _ _ _ h => h) hH rfl ?yqv4 ?rqv4
  case yqv4 => intro W hSw; go_simp; try with_reducible rfl
  try simp only [Act.put, List.setIfInBounds_toArray, List.set_cons_zero, List.set_cons_succ]
  refine wpAnyH_done (by kernel_rfl) ?_ _
  try simp only [Act.put]
  clear hH
  clear Hvy
  go_wp2_with fail
  refine (laws_markIntS _ xc (1) w7.heap.size w20 (by omega) (by omega) Hcx.out.own).mono ?_
  rintro e w21 ⟨rfl, ho, hg⟩
  have hbt := Hcx.out.marks hg
  have Hb21 := Lib.hid ((hbt).below Hb20.out Hb20.out.size (by omega))
  have hz21 := (hbt).size
  have Hw0 := Lib.hid ((hbt).ownR Hw0.out (by omega) (by first | exact .inl (by omega) | exact .inr (by omega)))
  have Hgx := Lib.hid ((hbt).ownR Hgx.out (by omega) (by first | exact .inl (by omega) | exact .inr (by omega)))
  have Hvx := Lib.hid (Hvx.out.btw (hbt) (by first | exact .inl (by omega) | exact .inr (by omega)))
  have Hg0 := Lib.hid ((hbt).ownR Hg0.out (by omega) (by first | exact .inl (by omega) | exact .inr (by omega)))
  have Svb := Lib.hid (Svb.out.btw (hbt) (by first | exact .inl (by omega) | exact .inr (by omega)))
  have Svxv := Lib.hid (Svxv.out.btw (hbt) (by first | exact .inl (by omega) | exact .inr (by omega)))
  have Hcx := Lib.hid (Hcx.out.mark ho)
  clear ho hg hbt
  go_wp2_with fail
  have hkk := Hkbg.out (1 + xc.length)
  refine (laws_markVertexSR esg _ (1 + xc.length) w8.heap.size w9.heap.size w21 (by omega) Hpg.out Hgx.out).mono ?_
  rintro e w22 ⟨rfl, ho, hbt⟩
  have Hb22 := Lib.hid ((hbt).below Hb21.out Hb21.out.size (by omega))
  have hz22 := (hbt).size
  have Hw0 := Lib.hid ((hbt).ownR Hw0.out (by omega) (by first | exact .inl (by omega) | exact .inr (by omega)))
  have Hcx := Lib.hid (Hcx.out.btw (hbt) (by first | exact .inl (by omega) | exact .inr (by omega)))
  have Hvx := Lib.hid (Hvx.out.btw (hbt) (by first | exact .inl (by omega) | exact .inr (by omega)))
  have Hg0 := Lib.hid ((hbt).ownR Hg0.out (by omega) (by first | exact .inl (by omega) | exact .inr (by omega)))
  have Svb := Lib.hid (Svb.out.btw (hbt) (by first | exact .inl (by omega) | exact .inr (by omega)))
  have Svxv := Lib.hid (Svxv.out.btw (hbt) (by first | exact .inl (by omega) | exact .inr (by omega)))
  have Hgx := Lib.hid (ho)
  clear ho hbt
  generalize kTo esg (1 + xc.length) esg.length = k1 at *
  have qvxv_0 := Svxv.out.cell 0 (v := .int .i64 v0) rfl
  have qvxv_1 := Svxv.out.cell 1 (v := .int .i64 v1) rfl
  have qvxv_2 := Svxv.out.cell 2 (v := .slice avx xv2.length cvx) rfl
  have qvxv_3 := Svxv.out.cell 3 (v := .int .i64 v3) rfl
  go_wp2_with fail
  refine (laws_markVertexR v0 v1 v3 _ xv2 (k1) w9.heap.size w22 (by omega) (by omega) Hvx.out.own).mono ?_
  rintro e w23 ⟨rfl, ho, hg⟩
  have hbt := Hvx.out.marks (grownBy_trans (World.grownBy_alloc w22 (.cells #[.int .i64 v0, .int .i64 v1, .slice avx xv2.length cvx, .int .i64 v3] 28) _) hg)
  clear qvxv_0 qvxv_1 qvxv_2 qvxv_3
  have Hb23 := Lib.hid ((hbt).below Hb22.out Hb22.out.size (by omega))
  have hz23 := (hbt).size
  have Hw0 := Lib.hid ((hbt).ownR Hw0.out (by omega) (by first | exact .inl (by omega) | exact .inr (by omega)))
  have Hcx := Lib.hid (Hcx.out.btw (hbt) (by first | exact .inl (by omega) | exact .inr (by omega)))
  have Hgx := Lib.hid ((hbt).ownR Hgx.out (by omega) (by first | exact .inl (by omega) | exact .inr (by omega)))
  have Hg0 := Lib.hid ((hbt).ownR Hg0.out (by omega) (by first | exact .inl (by omega) | exact .inr (by omega)))
  have Svb := Lib.hid (Svb.out.btw (hbt) (by first | exact .inl (by omega) | exact .inr (by omega)))
  have Svxv := Lib.hid (Svxv.out.btw (hbt) (by first | exact .inl (by omega) | exact .inr (by omega)))
  have Hvx := Lib.hid (Hvx.out.mark ho)
  clear ho hg hbt
  have hkn : decide (((k1 + xv2.length : Nat) : Int) < 0) = false := decide_eq_false (by omega)
  have hkn' : ¬ ((k1 + xv2.length : Nat) : Int) < 0 := by omega
  obtain ⟨fg0, hrg0⟩ := Hg0.out.reads
  obtain ⟨fw0, hrw0⟩ := Hw0.out.reads
  go_wp2_with fail
  refine (laws_eqVertexSR R _ _ fg0 fw0 w23 (by omega) Hrp0.out Hrl0.out hrg0 hrw0).mono ?_
  rintro e w24 ⟨rfl, hb24⟩
  have Hb24 := Lib.hid (below_step Hb23.out Hb23.out.size hb24)
  have Hw0 := Lib.hid (Hw0.out.below hb24 (by omega))
  have Hcx := Lib.hid (Hcx.out.below hb24)
  have Hgx := Lib.hid (Hgx.out.below hb24 (by omega))
  have Hvx := Lib.hid (Hvx.out.below hb24)
  have Hg0 := Lib.hid (Hg0.out.below hb24 (by omega))
  have Svb := Lib.hid (show Str w24 w.heap.size 24 #[.int .i64 v0, .int .i64 v1, .slice av2 xv2.length capv2, .int .i64 v3] from ((hb24).block _ Svb.out.lt).trans Svb.out)
  have Svxv := Lib.hid (show Str w24 w10.heap.size 28 #[.int .i64 v0, .int .i64 v1, .slice avx xv2.length cvx, .int .i64 v3] from ((hb24).block _ Svxv.out.lt).trans Svxv.out)
  have hz24 := (hb24).size
  clear hrg0 hrw0
  go_wp2_with fail
  have hkk := Hrk0.out (1)
  refine (laws_markVertexSR R _ (1) w11.heap.size w12.heap.size w24 (by omega) Hrp0.out Hg0.out).mono ?_
  rintro e w25 ⟨rfl, ho, hbt⟩
  have Hb25 := Lib.hid ((hbt).below Hb24.out Hb24.out.size (by omega))
  have hz25 := (hbt).size
  have Hw0 := Lib.hid ((hbt).ownR Hw0.out (by omega) (by first | exact .inl (by omega) | exact .inr (by omega)))
  have Hcx := Lib.hid (Hcx.out.btw (hbt) (by first | exact .inl (by omega) | exact .inr (by omega)))
  have Hgx := Lib.hid ((hbt).ownR Hgx.out (by omega) (by first | exact .inl (by omega) | exact .inr (by omega)))
  have Hvx := Lib.hid (Hvx.out.btw (hbt) (by first | exact .inl (by omega) | exact .inr (by omega)))
  have Svb := Lib.hid (Svb.out.btw (hbt) (by first | exact .inl (by omega) | exact .inr (by omega)))
  have Svxv := Lib.hid (Svxv.out.btw (hbt) (by first | exact .inl (by omega) | exact .inr (by omega)))
  have Hg0 := Lib.hid (ho)
  clear ho hbt
  generalize hm1 : kTo R (1) R.length = m1 at *
  have Hm1 := Lib.hid hm1; clear hm1
  have hmn : decide (((m1 : Nat) : Int) < 0) = false := decide_eq_false (by omega)
  have hmn' : ¬ ((m1 : Nat) : Int) < 0 := by omega
  have hhe := laws_heldVertexSR R _ (1) _ _ w25 (by have := Hrk0.out (1); omega) Hrp0.out Hg0.out
  rw [Hm1.out] at hhe
  have Hhe := Lib.hid hhe; clear hhe
  go_wp2_with fail
  refine (Hhe.out).mono ?_
  rintro e w26 ⟨rfl, hb26⟩
  have Hb26 := Lib.hid (below_step Hb25.out Hb25.out.size (hb26.below w25.heap.size))
  have Hw0 := Lib.hid (Hw0.out.below (hb26.below w25.heap.size) (by omega))
  have Hcx := Lib.hid (Hcx.out.below (hb26.below w25.heap.size))
  have Hgx := Lib.hid (Hgx.out.below (hb26.below w25.heap.size) (by omega))
  have Hvx := Lib.hid (Hvx.out.below (hb26.below w25.heap.size))
  have Hg0 := Lib.hid (Hg0.out.below (hb26.below w25.heap.size) (by omega))
  have Svb := Lib.hid (show Str w26 w.heap.size 24 #[.int .i64 v0, .int .i64 v1, .slice av2 xv2.length capv2, .int .i64 v3] from (((hb26.below w25.heap.size)).block _ Svb.out.lt).trans Svb.out)
  have Svxv := Lib.hid (show Str w26 w10.heap.size 28 #[.int .i64 v0, .int .i64 v1, .slice avx xv2.length cvx, .int .i64 v3] from (((hb26.below w25.heap.size)).block _ Svxv.out.lt).trans Svxv.out)
  have hz26 := ((hb26.below w25.heap.size)).size
  clear Hhe
  clear Hcx
  clear Hgx
  clear Hvx
  have qvb_0 := Svb.out.cell 0 (v := .int .i64 v0) rfl
  have qvb_1 := Svb.out.cell 1 (v := .int .i64 v1) rfl
  have qvb_2 := Svb.out.cell 2 (v := .slice av2 xv2.length capv2) rfl
  have qvb_3 := Svb.out.cell 3 (v := .int .i64 v3) rfl
  go_wp2_with fail
  clear qvb_0 qvb_1 qvb_2 qvb_3
  have hdr : Below w26.heap.size w26 w26.drew := (Below.refl _ _).drew
  refine wp_region_held_drew (S := fun w' => w'.cell? ⟨w.heap.size, 0, none⟩ = some (.int .i64 v0) ∧ w'.cell? ⟨w.heap.size, 1, none⟩ = some (.int .i64 v1) ∧ w'.cell? ⟨w.heap.size, 2, none⟩ = some (.slice av2 xv2.length capv2) ∧ w'.cell? ⟨w.heap.size, 3, none⟩ = some (.int .i64 v3)) (by kernel_rfl) ⟨Svb.out.cell 0 (v := .int .i64 v0) rfl, Svb.out.cell 1 (v := .int .i64 v1) rfl, Svb.out.cell 2 (v := .slice av2 xv2.length capv2) rfl, Svb.out.cell 3 (v := .int .i64 v3) rfl⟩ (fun hH => ?_)
  generalize w26.drew = w27 at *
  have Hb27 := Lib.hid (below_step Hb26.out Hb26.out.size hdr)
  have Hw0 := Lib.hid (Hw0.out.below hdr (by omega))
  have Hg0 := Lib.hid (Hg0.out.below hdr (by omega))
  have Svb := Lib.hid (show Str w27 w.heap.size 24 #[.int .i64 v0, .int .i64 v1, .slice av2 xv2.length capv2, .int .i64 v3] from ((hdr).block _ Svb.out.lt).trans Svb.out)
  have Svxv := Lib.hid (show Str w27 w10.heap.size 28 #[.int .i64 v0, .int .i64 v1, .slice avx xv2.length cvx, .int .i64 v3] from ((hdr).block _ Svxv.out.lt).trans Svxv.out)
  have hz27 := (hdr).size
  clear hdr
  refine takeH 0 (v := ?vih0) rfl (by kernel_rfl) (by kernel_rfl) (by kernel_rfl) (fun _ _ _ h => h) hH rfl ?yih0 ?rih0
  case yih0 => intro W hSw; go_simp; try with_reducible rfl
  try simp only [Act.put, List.setIfInBounds_toArray, List.set_cons_zero, List.set_cons_succ]
  refine takeH 2 (v := ?vih1) rfl (by kernel_rfl) (by kernel_rfl) (by kernel_rfl) (fun _ _ _ h => h) hH rfl ?yih1 ?rih1
  case yih1 => intro W hSw; go_simp; try with_reducible rfl
  try simp only [Act.put, List.setIfInBounds_toArray, List.set_cons_zero, List.set_cons_succ]
  refine takeH 4 (v := ?vih2) rfl (by kernel_rfl) (by kernel_rfl) (by kernel_rfl) (fun _ _ _ h => h) hH rfl ?yih2 ?rih2
  case yih2 => intro W hSw; go_simp; try with_reducible rfl
  try simp only [Act.put, List.setIfInBounds_toArray, List.set_cons_zero, List.set_cons_succ]
  refine callH 1 rfl (by kernel_rfl) rfl (fun K hK => ?_)
  go_simp
  refine (laws_toIntS ac capc xc _ (by omega) (Hic.out.below Hb27.out)).mono ?_
  rintro e w28 ⟨vcz, rfl, hocz, hb28⟩
  have Hb28 := Lib.hid (below_step Hb27.out Hb27.out.size hb28)
  have Hw0 := Lib.hid (Hw0.out.below hb28 (by omega))
  have Hg0 := Lib.hid (Hg0.out.below hb28 (by omega))
  have Svb := Lib.hid (show Str w28 w.heap.size 24 #[.int .i64 v0, .int .i64 v1, .slice av2 xv2.length capv2, .int .i64 v3] from ((hb28).block _ Svb.out.lt).trans Svb.out)
  have Svxv := Lib.hid (show Str w28 w10.heap.size 28 #[.int .i64 v0, .int .i64 v1, .slice avx xv2.length cvx, .int .i64 v3] from ((hb28).block _ Svxv.out.lt).trans Svxv.out)
  have hz28 := (hb28).size
  have Hcz := Lib.hid (OwnI.of hocz); clear hocz
  obtain ⟨acz, ccz, rfl, _, _⟩ := Hcz.out.ints
  have hccz := Hcz.out.cap
  have hhcz : w27.heap.size ≤ w27.heap.size := Nat.le_refl _
  have hjcz : w28.heap.size ≤ w28.heap.size := Nat.le_refl _
  dsimp only
  refine hK.out _ _ ⟨Svb.out.cell 0 (v := .int .i64 v0) rfl, Svb.out.cell 1 (v := .int .i64 v1) rfl, Svb.out.cell 2 (v := .slice av2 xv2.length capv2) rfl, Svb.out.cell 3 (v := .int .i64 v3) rfl⟩ (fun hH => ?_)
  clear hK K
  try simp only [Act.put, List.setIfInBounds_toArray, List.set_cons_zero, List.set_cons_succ]
  refine callH 3 rfl (by kernel_rfl) rfl (fun K hK => ?_)
  go_simp
  refine (laws_toVertexSR esg vg fpg _ (by omega) Hpg.out Hing.out (Hrg.out.under Hb28.out)).mono ?_
  rintro e w29 ⟨vgz, rfl, hogz, hb29⟩
  have Hb29 := Lib.hid (below_step Hb28.out Hb28.out.size hb29)
  have Hw0 := Lib.hid (Hw0.out.below hb29 (by omega))
  have Hg0 := Lib.hid (Hg0.out.below hb29 (by omega))
  have Hcz := Lib.hid (Hcz.out.below hb29)
  have Svb := Lib.hid (show Str w29 w.heap.size 24 #[.int .i64 v0, .int .i64 v1, .slice av2 xv2.length capv2, .int .i64 v3] from ((hb29).block _ Svb.out.lt).trans Svb.out)
  have Svxv := Lib.hid (show Str w29 w10.heap.size 28 #[.int .i64 v0, .int .i64 v1, .slice avx xv2.length cvx, .int .i64 v3] from ((hb29).block _ Svxv.out.lt).trans Svxv.out)
  have hz29 := (hb29).size
  have Hgz := Lib.hid hogz; clear hogz
  have hhgz : w28.heap.size ≤ w28.heap.size := Nat.le_refl _
  have hjgz : w29.heap.size ≤ w29.heap.size := Nat.le_refl _
  dsimp only
  refine hK.out _ _ ⟨Svb.out.cell 0 (v := .int .i64 v0) rfl, Svb.out.cell 1 (v := .int .i64 v1) rfl, Svb.out.cell 2 (v := .slice av2 xv2.length capv2) rfl, Svb.out.cell 3 (v := .int .i64 v3) rfl⟩ (fun hH => ?_)
  clear hK K
  try simp only [Act.put, List.setIfInBounds_toArray, List.set_cons_zero, List.set_cons_succ]
  refine callH 5 rfl (by kernel_rfl) rfl (fun K hK => ?_)
  go_simp
  refine (laws_toVertexR v0 v1 av2 capv2 xv2 v3 _ (by omega) (Hixv2.out.below Hb29.out)).mono ?_
  rintro e w30 ⟨vvz, rfl, hovz, hb30⟩
  have Hb30 := Lib.hid (below_step Hb29.out Hb29.out.size hb30)
  have Hw0 := Lib.hid (Hw0.out.below hb30 (by omega))
  have Hg0 := Lib.hid (Hg0.out.below hb30 (by omega))
  have Hcz := Lib.hid (Hcz.out.below hb30)
  have Hgz := Lib.hid (Hgz.out.below hb30 (by omega))
  have Svb := Lib.hid (show Str w30 w.heap.size 24 #[.int .i64 v0, .int .i64 v1, .slice av2 xv2.length capv2, .int .i64 v3] from ((hb30).block _ Svb.out.lt).trans Svb.out)
  have Svxv := Lib.hid (show Str w30 w10.heap.size 28 #[.int .i64 v0, .int .i64 v1, .slice avx xv2.length cvx, .int .i64 v3] from ((hb30).block _ Svxv.out.lt).trans Svxv.out)
  have hz30 := (hb30).size
  have Hvz := Lib.hid (OwnI.of hovz); clear hovz
  obtain ⟨avz, cvz, rfl, _, _⟩ := Hvz.out.ints
  have hcvz := Hvz.out.cap
  have hhvz : w29.heap.size ≤ w29.heap.size := Nat.le_refl _
  have hjvz : w30.heap.size ≤ w30.heap.size := Nat.le_refl _
  dsimp only
  refine hK.out _ _ ⟨Svb.out.cell 0 (v := .int .i64 v0) rfl, Svb.out.cell 1 (v := .int .i64 v1) rfl, Svb.out.cell 2 (v := .slice av2 xv2.length capv2) rfl, Svb.out.cell 3 (v := .int .i64 v3) rfl⟩ (fun hH => ?_)
  clear hK K
  try simp only [Act.put, List.setIfInBounds_toArray, List.set_cons_zero, List.set_cons_succ]
  refine callH 6 rfl (by kernel_rfl) rfl (fun K hK => ?_)
  go_simp
  obtain ⟨fgz, hrgz⟩ := Hgz.out.reads
  refine (Himpl.out acz ccz vgz fgz avz cvz _ hccz Hcz.out.at hrgz hcvz Hvz.out.at (own_src Hvz.out.own)).mono ?_
  rintro e w31 ⟨vh0, rfl, hoh0, hb31⟩
  have Hb31 := Lib.hid (below_step Hb30.out Hb30.out.size hb31)
  have Hw0 := Lib.hid (Hw0.out.below hb31 (by omega))
  have Hg0 := Lib.hid (Hg0.out.below hb31 (by omega))
  have Hcz := Lib.hid (Hcz.out.below hb31)
  have Hgz := Lib.hid (Hgz.out.below hb31 (by omega))
  have Hvz := Lib.hid (Hvz.out.below hb31)
  have Svb := Lib.hid (show Str w31 w.heap.size 24 #[.int .i64 v0, .int .i64 v1, .slice av2 xv2.length capv2, .int .i64 v3] from ((hb31).block _ Svb.out.lt).trans Svb.out)
  have Svxv := Lib.hid (show Str w31 w10.heap.size 28 #[.int .i64 v0, .int .i64 v1, .slice avx xv2.length cvx, .int .i64 v3] from ((hb31).block _ Svxv.out.lt).trans Svxv.out)
  have hz31 := (hb31).size
  have Hh0 := Lib.hid hoh0; clear hoh0
  have hhh0 : w30.heap.size ≤ w30.heap.size := Nat.le_refl _
  have hjh0 : w31.heap.size ≤ w31.heap.size := Nat.le_refl _
  clear hrgz
  dsimp only
  refine hK.out _ _ ⟨Svb.out.cell 0 (v := .int .i64 v0) rfl, Svb.out.cell 1 (v := .int .i64 v1) rfl, Svb.out.cell 2 (v := .slice av2 xv2.length capv2) rfl, Svb.out.cell 3 (v := .int .i64 v3) rfl⟩ (fun hH => ?_)
  clear hK K
  try simp only [Act.put, List.setIfInBounds_toArray, List.set_cons_zero, List.set_cons_succ]
  refine takeH 7 (v := ?vih7) rfl (by kernel_rfl) (by kernel_rfl) (by kernel_rfl) (fun _ _ _ h => h) hH rfl ?yih7 ?rih7
  case yih7 => intro W hSw; go_simp; try with_reducible rfl
  try simp only [Act.put, List.setIfInBounds_toArray, List.set_cons_zero, List.set_cons_succ]
  refine takeH 8 (v := ?vih8) rfl (by kernel_rfl) (by kernel_rfl) (by kernel_rfl) (fun _ _ _ h => h) hH rfl ?yih8 ?rih8
  case yih8 => intro W hSw; go_simp; try with_reducible rfl
  try simp only [Act.put, List.setIfInBounds_toArray, List.set_cons_zero, List.set_cons_succ]
  refine takeH 9 (v := ?vih9) rfl (by kernel_rfl) (by kernel_rfl) (by kernel_rfl) (fun _ _ _ h => h) hH rfl ?yih9 ?rih9
  case yih9 => intro W hSw; go_simp; try with_reducible rfl
  try simp only [Act.put, List.setIfInBounds_toArray, List.set_cons_zero, List.set_cons_succ]
  refine takeH 10 (v := ?vih10) rfl (by kernel_rfl) (by kernel_rfl) (by kernel_rfl) (fun _ _ _ h => h) hH rfl ?yih10 ?rih10
  case yih10 => intro W hSw; go_simp; try with_reducible rfl
  try simp only [Act.put, List.setIfInBounds_toArray, List.set_cons_zero, List.set_cons_succ]
  refine takeH 11 (v := ?vih11) rfl (by kernel_rfl) (by kernel_rfl) (by kernel_rfl) (fun _ _ _ h => h) hH rfl ?yih11 ?rih11
  case yih11 => intro W hSw; go_simp; try with_reducible rfl
  try simp only [Act.put, List.setIfInBounds_toArray, List.set_cons_zero, List.set_cons_succ]
  refine wpAnyH_done (by kernel_rfl) ?_ _
  try simp only [Act.put]
  clear hH
  clear Hcz
  clear Hgz
  clear Hvz
  obtain ⟨fh0, hrh0⟩ := Hh0.out.reads
  obtain ⟨fw0, hrw0⟩ := Hw0.out.reads
  go_wp2_with fail
  refine (laws_eqVertexSR R _ _ fh0 fw0 w31 (by omega) Hrp0.out Hrl0.out hrh0 hrw0).mono ?_
  rintro e w32 ⟨rfl, hb32⟩
  have Hb32 := Lib.hid (below_step Hb31.out Hb31.out.size hb32)
  have Hw0 := Lib.hid (Hw0.out.below hb32 (by omega))
  have Hg0 := Lib.hid (Hg0.out.below hb32 (by omega))
  have Hh0 := Lib.hid (Hh0.out.below hb32 (by omega))
  have Svb := Lib.hid (show Str w32 w.heap.size 24 #[.int .i64 v0, .int .i64 v1, .slice av2 xv2.length capv2, .int .i64 v3] from ((hb32).block _ Svb.out.lt).trans Svb.out)
  have Svxv := Lib.hid (show Str w32 w10.heap.size 28 #[.int .i64 v0, .int .i64 v1, .slice avx xv2.length cvx, .int .i64 v3] from ((hb32).block _ Svxv.out.lt).trans Svxv.out)
  have hz32 := (hb32).size
  clear hrh0 hrw0
  have hhe := laws_heldVertexSR R _ (1) _ _ w32 (by have := Hrk0.out (1); omega) Hrp0.out Hg0.out
  rw [Hm1.out] at hhe
  have Hhe := Lib.hid hhe; clear hhe
  go_wp2_with fail
  refine (Hhe.out).mono ?_
  rintro e w33 ⟨rfl, hb33⟩
  have Hb33 := Lib.hid (below_step Hb32.out Hb32.out.size (hb33.below w32.heap.size))
  have Hw0 := Lib.hid (Hw0.out.below (hb33.below w32.heap.size) (by omega))
  have Hg0 := Lib.hid (Hg0.out.below (hb33.below w32.heap.size) (by omega))
  have Hh0 := Lib.hid (Hh0.out.below (hb33.below w32.heap.size) (by omega))
  have Svb := Lib.hid (show Str w33 w.heap.size 24 #[.int .i64 v0, .int .i64 v1, .slice av2 xv2.length capv2, .int .i64 v3] from (((hb33.below w32.heap.size)).block _ Svb.out.lt).trans Svb.out)
  have Svxv := Lib.hid (show Str w33 w10.heap.size 28 #[.int .i64 v0, .int .i64 v1, .slice avx xv2.length cvx, .int .i64 v3] from (((hb33.below w32.heap.size)).block _ Svxv.out.lt).trans Svxv.out)
  have hz33 := ((hb33.below w32.heap.size)).size
  clear Hhe
  go_wp2
  go_ret
  exact ⟨by first | rfl | exact ret_bool (by simp), Hb33.out⟩

theorem fnExactGraphAdd_own : ownKnob Try.prog.godebug = none := by kernel_rfl
theorem fnExactGraphAdd_laidOut : laidOutB Try.prog = true := by kernel_rfl

theorem fnExactGraphAdd_lifted (os : Os) (started : os.Started) (H : Type) (enc : TypeId × Value → H) :
    ReturnsInHanded {} Try.checked os 6 .any (Rows.fnExactGraphAddSpec.pre6 enc Try.prog Try.f6 Rows.fnExactGraphAddRow.domain false) (Rows.fnExactGraphAddSpec.post enc Try.prog Try.f6 false true false false) := by
  refine law_lifted (C := Try.checked) (tb := 4) fnExactGraphAdd_own fnExactGraphAdd_laidOut started (by kernel_rfl) Try.func6 rfl Try.underlying4 rfl (by rw [Try.params6]; exact of_decide_eq_true (by kernel_rfl)) ?_
    (ChangeSpec.witness6 (enc := enc) (C := Try.checked) false ⟨#[], #[.slice none 0 0, .slice none 0 0, .agg #[.int .i64 0, .int .i64 0, .slice none 0 0, .int .i64 0]], []⟩ 8 (by kernel_rfl) (by kernel_rfl) (by kernel_rfl) (by kernel_rfl)) ?_
  · intro ds hds
    rw [Try.params6] at hds
    match ds, hds with
    | [d0, d1, d2], _ => rfl
  · intro W base args ds p hval0 hA0
    have hval : ∀ (j : Nat) t v, Try.f6.params[j]? = some t → args[j]? = some v → Value.okWide Try.prog W .any base t v := hval0
    have hA : DataW.TrodAll enc Try.prog W 0 (fun _ => true) true Try.f6.params.toList args.toList ds p := hA0
    rw [Try.params6] at hA hval
    obtain ⟨v0, vs0, d0, ds0, p0, q0, hargs0, rfl, rfl, h0, r0⟩ := trodAll_cons hA
    obtain ⟨v1, vs1, d1, ds1, p1, q1, hargs1, rfl, rfl, h1, r1⟩ := trodAll_cons r0
    obtain ⟨v2, vs2, d2, ds2, p2, q2, hargs2, rfl, rfl, h2, r2⟩ := trodAll_cons r1
    obtain ⟨hnil, rfl, rfl⟩ := trodAll_nil r2
    subst hnil
    subst hargs2
    subst hargs1
    obtain rfl : args = #[v0, v1, v2] := by cases args; simp_all
    obtain ⟨a0, cap0, zs0, rfl, hk0, hm0, hi0, hw0⟩ := open_slice_ints Try.underlying22 Try.underlying3 (by kernel_rfl) (hval 0 22 v0 rfl rfl) h0
    obtain ⟨es1, fp1, hr1, hm1, hp1⟩ := open_VertexS (hval 1 33 v1 rfl rfl) h1
    obtain ⟨x2_0, x2_1, a2_2, c2_2, x2_2, x2_3, rfl, b2_0, b2_1, b2_2, i2_2, b2_3⟩ := open_Vertex (hval 2 24 v2 rfl rfl) h2
    exact fnExactGraphAdd_walk a0 cap0 zs0 v1 es1 fp1 x2_0 x2_1 a2_2 c2_2 x2_2 x2_3 W hk0 hm0 hi0 hw0 hr1 hm1 hp1 b2_0 b2_1 b2_2 i2_2 b2_3

theorem fnExactGraphAdd_holds : Rows.FnExactGraphAddSaid :=
  OpenClaim.holds_of_wide 6 Try.f6 rfl rfl rfl rfl rfl rfl rfl ⟨rfl, rfl, rfl, rfl, rfl⟩ rfl rfl rfl rfl rfl (by kernel_rfl) Try.func6 (by kernel_rfl)
    (of_decide_eq_true (by kernel_rfl)) (by unfold Func.isWrapper; first | (rw [if_pos (by decide +kernel)]; kernel_rfl) | (rw [if_neg (by decide +kernel)]; exact ⟨rfl, rfl⟩))
    (fun os started H enc _ => fnExactGraphAdd_lifted os started H enc)

end Go.Proofs.Ytejpoeejhmgphab
