/- The exact law of VertexValid holds at every argument; no conditions of our own. -/
import Derived.Test.YtejpoeejhmgphabRows
import Derived.Test.YtejpoeejhmgphabBase
import Derived.Test.YtejpoeejhmgphabLift
import Derived.Test.YtejpoeejhmgphabApp
import Derived.Test.YtejpoeejhmgphabDt
import Derived.Test.YtejpoeejhmgphabOwR
import Derived.Test.YtejpoeejhmgphabOwS
import Derived.Test.YtejpoeejhmgphabRow
import Derived.Test.YtejpoeejhmgphabEx
import Derived.Test.YtejpoeejhmgphabL1
import Derived.Test.YtejpoeejhmgphabL2
import Derived.Test.YtejpoeejhmgphabM2
import Derived.Test.YtejpoeejhmgphabC1
import Derived.Test.YtejpoeejhmgphabC2
import Derived.Test.YtejpoeejhmgphabRVertex
import Derived.Test.YtejpoeejhmgphabHeld
import Derived.Test.YtejpoeejhmgphabGv1
import Derived.Test.YtejpoeejhmgphabGv2
import Derived.Test.YtejpoeejhmgphabGv3
import Derived.Test.YtejpoeejhmgphabExg
import Derived.Test.YtejpoeejhmgphabGv4
import Derived.Test.YtejpoeejhmgphabGvi
namespace Go.Proofs.Ytejpoeejhmgphab
open Go.ChangeShapes Go.WideShapes Go.ChangeAt Go.RowKit

set_option maxHeartbeats 2000000 in
theorem fnExactVertexValid_walk (ac : Option Addr) (capc : Nat) (xc : List Int) (v0 : Int) (v1 : Int) (av2 : Option Addr) (capv2 : Nat) (xv2 : List Int) (v3 : Int) (w : World) (_hkc : xc.length ≤ capc) (hmc : xc.length ≤ maxLen) (hic : IntsAt w ac xc) (_hwc : ∀ z ∈ xc, (Lit.int .i64 z).wf = true) (_hv0 : -9223372036854775808 ≤ v0 ∧ v0 ≤ 9223372036854775807) (_hv1 : -9223372036854775808 ≤ v1 ∧ v1 ≤ 9223372036854775807) (hmxv2 : xv2.length ≤ maxLen ∧ ∀ x ∈ xv2, -9223372036854775808 ≤ x ∧ x ≤ 9223372036854775807) (hixv2 : IntsAt w av2 xv2) (_hv3 : -9223372036854775808 ≤ v3 ∧ v3 ≤ 9223372036854775807) :
    Calls Try.prog 3 #[.slice ac xc.length capc, .agg #[.int .i64 v0, .int .i64 v1, .slice av2 xv2.length capv2, .int .i64 v3]] w fun e w' => e = .returned (.bool true) ∧ Below w.heap.size w w' := by
  unfold maxLen at hmc
  obtain ⟨_hv01, _hv02⟩ := _hv0
  obtain ⟨_hv11, _hv12⟩ := _hv1
  obtain ⟨hmxv2, _hbxv2⟩ := hmxv2
  unfold maxLen at hmxv2
  obtain ⟨_hv31, _hv32⟩ := _hv3
  have hbx0 : Below w.heap.size w (w.alloc (.cells #[.int .i64 v0, .int .i64 v1, .slice av2 xv2.length capv2, .int .i64 v3] 24)) := (Below.refl w.heap.size w).alloc (by simp) _
  have hsx0 := Str.new (w) 24 #[.int .i64 v0, .int .i64 v1, .slice av2 xv2.length capv2, .int .i64 v3]
  by_cases hlc : xc.length ≤ 1048576
  case neg =>
    go_enter Try.func3, Try.ntmps3
    go_wp2
    go_ret
    exact ⟨rfl, hbx0⟩
  have Hic := Lib.hid hic; clear hic
  have Hixv2 := Lib.hid hixv2; clear hixv2
  have hzx : (w.alloc (.cells #[.int .i64 v0, .int .i64 v1, .slice av2 xv2.length capv2, .int .i64 v3] 24)).heap.size = w.heap.size + 1 := by simp
  have Svb := Lib.hid (show Str (w.alloc (.cells #[.int .i64 v0, .int .i64 v1, .slice av2 xv2.length capv2, .int .i64 v3] 24)) (w.heap.size) 24 #[.int .i64 v0, .int .i64 v1, .slice av2 xv2.length capv2, .int .i64 v3] by simpa using hsx0)
  clear hsx0
  have Hb0 := Lib.hid hbx0
  clear hbx0
  have Hszv := Lib.hid (fun w => laws_szVertexR v0 v1 av2 capv2 xv2 v3 (1048576) w (by omega) (by omega))
  go_enter Try.func3, Try.ntmps3
  have qvb_0 := Svb.out.cell 0 (v := .int .i64 v0) rfl
  have qvb_1 := Svb.out.cell 1 (v := .int .i64 v1) rfl
  have qvb_2 := Svb.out.cell 2 (v := .slice av2 xv2.length capv2) rfl
  have qvb_3 := Svb.out.cell 3 (v := .int .i64 v3) rfl
  go_wp2_with fail
  generalize (w.alloc (.cells #[.int .i64 v0, .int .i64 v1, .slice av2 xv2.length capv2, .int .i64 v3] 24)) = w0 at *
  refine (Hszv.out _).mono ?_
  rintro e w1 ⟨rfl, hb1⟩
  have Hb1 := Lib.hid (below_step Hb0.out Hb0.out.size hb1)
  have Svb := Lib.hid (show Str w1 w.heap.size 24 #[.int .i64 v0, .int .i64 v1, .slice av2 xv2.length capv2, .int .i64 v3] from ((hb1).block _ Svb.out.lt).trans Svb.out)
  have hz1 := (hb1).size
  clear qvb_0 qvb_1 qvb_2 qvb_3
  by_cases hlxv2 : xv2.length ≤ 1048576
  case neg =>
    rw [if_neg hlxv2]
    go_wp2
    go_ret
    exact ⟨rfl, Hb1.out⟩
  rw [if_pos hlxv2]
  have hnegv : decide ((((1048576 - xv2.length : Nat)) : Int) < 0) = false := decide_eq_false (by omega)
  have hngev : ¬ (((1048576 - xv2.length : Nat) : Int) < 0) := by omega
  have Hspec := Lib.hid (fun ac cc av cv w (hcc : xc.length ≤ cc) (h : IntsAt w ac xc) (hcv : xv2.length ≤ cv) (h' : IntsAt w av xv2) (hs : SrcAt w av cv xv2) => spec_VertexValid ac cc xc ⟨v0, v1, xv2, v3⟩ av cv w (by omega) (by simp only; omega) h h')
  have Himpl := Lib.hid (fun ac cc av cv w (hcc : xc.length ≤ cc) (h : IntsAt w ac xc) (hcv : xv2.length ≤ cv) (h' : IntsAt w av xv2) (hs : SrcAt w av cv xv2) => impl_VertexValid ac cc xc ⟨v0, v1, xv2, v3⟩ av cv w (by omega) (by simp only; omega) hcc h hcv h' hs)
  generalize vvB xc ⟨v0, v1, xv2, v3⟩ = ok at *
  have qvb_0 := Svb.out.cell 0 (v := .int .i64 v0) rfl
  have qvb_1 := Svb.out.cell 1 (v := .int .i64 v1) rfl
  have qvb_2 := Svb.out.cell 2 (v := .slice av2 xv2.length capv2) rfl
  have qvb_3 := Svb.out.cell 3 (v := .int .i64 v3) rfl
  go_wp2_with fail
  clear qvb_0 qvb_1 qvb_2 qvb_3
  have hdr : Below w1.heap.size w1 w1.drew := (Below.refl _ _).drew
  refine wp_region_held_drew (S := fun w' => w'.cell? ⟨w.heap.size, 0, none⟩ = some (.int .i64 v0) ∧ w'.cell? ⟨w.heap.size, 1, none⟩ = some (.int .i64 v1) ∧ w'.cell? ⟨w.heap.size, 2, none⟩ = some (.slice av2 xv2.length capv2) ∧ w'.cell? ⟨w.heap.size, 3, none⟩ = some (.int .i64 v3)) (by kernel_rfl) ⟨Svb.out.cell 0 (v := .int .i64 v0) rfl, Svb.out.cell 1 (v := .int .i64 v1) rfl, Svb.out.cell 2 (v := .slice av2 xv2.length capv2) rfl, Svb.out.cell 3 (v := .int .i64 v3) rfl⟩ (fun hH => ?_)
  generalize w1.drew = w2 at *
  have Hb2 := Lib.hid (below_step Hb1.out Hb1.out.size hdr)
  have Svb := Lib.hid (show Str w2 w.heap.size 24 #[.int .i64 v0, .int .i64 v1, .slice av2 xv2.length capv2, .int .i64 v3] from ((hdr).block _ Svb.out.lt).trans Svb.out)
  have hz2 := (hdr).size
  clear hdr
  refine takeH 0 (v := ?vsw0) rfl (by kernel_rfl) (by kernel_rfl) (by kernel_rfl) (fun _ _ _ h => h) hH rfl ?ysw0 ?rsw0
  case ysw0 => intro W hSw; go_simp; try with_reducible rfl
  try simp only [Act.put, List.setIfInBounds_toArray, List.set_cons_zero, List.set_cons_succ]
  refine takeH 2 (v := ?vsw1) rfl (by kernel_rfl) (by kernel_rfl) (by kernel_rfl) (fun _ _ _ h => h) hH rfl ?ysw1 ?rsw1
  case ysw1 => intro W hSw; go_simp; try with_reducible rfl
  try simp only [Act.put, List.setIfInBounds_toArray, List.set_cons_zero, List.set_cons_succ]
  refine callH 1 rfl (by kernel_rfl) rfl (fun K hK => ?_)
  go_simp
  refine (laws_toIntS ac capc xc _ (by omega) (Hic.out.below Hb2.out)).mono ?_
  rintro e w3 ⟨vcs, rfl, hocs, hb3⟩
  have Hb3 := Lib.hid (below_step Hb2.out Hb2.out.size hb3)
  have Svb := Lib.hid (show Str w3 w.heap.size 24 #[.int .i64 v0, .int .i64 v1, .slice av2 xv2.length capv2, .int .i64 v3] from ((hb3).block _ Svb.out.lt).trans Svb.out)
  have hz3 := (hb3).size
  have Hcs := Lib.hid (OwnI.of hocs); clear hocs
  obtain ⟨acs, ccs, rfl, _, _⟩ := Hcs.out.ints
  have hccs := Hcs.out.cap
  have hhcs : w2.heap.size ≤ w2.heap.size := Nat.le_refl _
  have hjcs : w3.heap.size ≤ w3.heap.size := Nat.le_refl _
  dsimp only
  refine hK.out _ _ ⟨Svb.out.cell 0 (v := .int .i64 v0) rfl, Svb.out.cell 1 (v := .int .i64 v1) rfl, Svb.out.cell 2 (v := .slice av2 xv2.length capv2) rfl, Svb.out.cell 3 (v := .int .i64 v3) rfl⟩ (fun hH => ?_)
  clear hK K
  try simp only [Act.put, List.setIfInBounds_toArray, List.set_cons_zero, List.set_cons_succ]
  refine callH 3 rfl (by kernel_rfl) rfl (fun K hK => ?_)
  go_simp
  refine (laws_toVertexR v0 v1 av2 capv2 xv2 v3 _ (by omega) (Hixv2.out.below Hb3.out)).mono ?_
  rintro e w4 ⟨vvs, rfl, hovs, hb4⟩
  have Hb4 := Lib.hid (below_step Hb3.out Hb3.out.size hb4)
  have Hcs := Lib.hid (Hcs.out.below hb4)
  have Svb := Lib.hid (show Str w4 w.heap.size 24 #[.int .i64 v0, .int .i64 v1, .slice av2 xv2.length capv2, .int .i64 v3] from ((hb4).block _ Svb.out.lt).trans Svb.out)
  have hz4 := (hb4).size
  have Hvs := Lib.hid (OwnI.of hovs); clear hovs
  obtain ⟨avs, cvs, rfl, _, _⟩ := Hvs.out.ints
  have hcvs := Hvs.out.cap
  have hhvs : w3.heap.size ≤ w3.heap.size := Nat.le_refl _
  have hjvs : w4.heap.size ≤ w4.heap.size := Nat.le_refl _
  dsimp only
  refine hK.out _ _ ⟨Svb.out.cell 0 (v := .int .i64 v0) rfl, Svb.out.cell 1 (v := .int .i64 v1) rfl, Svb.out.cell 2 (v := .slice av2 xv2.length capv2) rfl, Svb.out.cell 3 (v := .int .i64 v3) rfl⟩ (fun hH => ?_)
  clear hK K
  try simp only [Act.put, List.setIfInBounds_toArray, List.set_cons_zero, List.set_cons_succ]
  refine callH 4 rfl (by kernel_rfl) rfl (fun K hK => ?_)
  go_simp
  refine (Hspec.out acs ccs avs cvs _ hccs Hcs.out.at hcvs Hvs.out.at (own_src Hvs.out.own)).mono ?_
  rintro e w5 ⟨rfl, hb5⟩
  have Hb5 := Lib.hid (below_step Hb4.out Hb4.out.size hb5)
  have Hcs := Lib.hid (Hcs.out.below hb5)
  have Hvs := Lib.hid (Hvs.out.below hb5)
  have Svb := Lib.hid (show Str w5 w.heap.size 24 #[.int .i64 v0, .int .i64 v1, .slice av2 xv2.length capv2, .int .i64 v3] from ((hb5).block _ Svb.out.lt).trans Svb.out)
  have hz5 := (hb5).size
  dsimp only
  refine hK.out _ _ ⟨Svb.out.cell 0 (v := .int .i64 v0) rfl, Svb.out.cell 1 (v := .int .i64 v1) rfl, Svb.out.cell 2 (v := .slice av2 xv2.length capv2) rfl, Svb.out.cell 3 (v := .int .i64 v3) rfl⟩ (fun hH => ?_)
  clear hK K
  try simp only [Act.put, List.setIfInBounds_toArray, List.set_cons_zero, List.set_cons_succ]
  refine takeH 5 (v := ?vsw5) rfl (by kernel_rfl) (by kernel_rfl) (by kernel_rfl) (fun _ _ _ h => h) hH rfl ?ysw5 ?rsw5
  case ysw5 => intro W hSw; go_simp; try with_reducible rfl
  try simp only [Act.put, List.setIfInBounds_toArray, List.set_cons_zero, List.set_cons_succ]
  refine wpAnyH_done (by kernel_rfl) ?_ _
  try simp only [Act.put]
  clear hH
  clear Hcs
  clear Hvs
  go_wp2_with fail
  refine (laws_toIntS ac capc xc _ (by omega) (Hic.out.below Hb5.out)).mono ?_
  rintro e w6 ⟨vcx, rfl, hocx, hb6⟩
  have Hb6 := Lib.hid (below_step Hb5.out Hb5.out.size hb6)
  have Svb := Lib.hid (show Str w6 w.heap.size 24 #[.int .i64 v0, .int .i64 v1, .slice av2 xv2.length capv2, .int .i64 v3] from ((hb6).block _ Svb.out.lt).trans Svb.out)
  have hz6 := (hb6).size
  have Hcx := Lib.hid (OwnI.of hocx); clear hocx
  obtain ⟨acx, ccx, rfl, _, _⟩ := Hcx.out.ints
  have hccx := Hcx.out.cap
  have hhcx : w5.heap.size ≤ w5.heap.size := Nat.le_refl _
  have hjcx : w6.heap.size ≤ w6.heap.size := Nat.le_refl _
  have qvb_0 := Svb.out.cell 0 (v := .int .i64 v0) rfl
  have qvb_1 := Svb.out.cell 1 (v := .int .i64 v1) rfl
  have qvb_2 := Svb.out.cell 2 (v := .slice av2 xv2.length capv2) rfl
  have qvb_3 := Svb.out.cell 3 (v := .int .i64 v3) rfl
  go_wp2_with fail
  refine (laws_toVertexR v0 v1 av2 capv2 xv2 v3 _ (by omega) (Hixv2.out.below Hb6.out)).mono ?_
  rintro e w7 ⟨vvx, rfl, hovx, hb7⟩
  have Hb7 := Lib.hid (below_step Hb6.out Hb6.out.size hb7)
  have Hcx := Lib.hid (Hcx.out.below hb7)
  have Svb := Lib.hid (show Str w7 w.heap.size 24 #[.int .i64 v0, .int .i64 v1, .slice av2 xv2.length capv2, .int .i64 v3] from ((hb7).block _ Svb.out.lt).trans Svb.out)
  have hz7 := (hb7).size
  have Hvx := Lib.hid (OwnI.of hovx); clear hovx
  obtain ⟨avx, cvx, rfl, _, _⟩ := Hvx.out.ints
  have hcvx := Hvx.out.cap
  have hhvx : w6.heap.size ≤ w6.heap.size := Nat.le_refl _
  have hjvx : w7.heap.size ≤ w7.heap.size := Nat.le_refl _
  clear qvb_0 qvb_1 qvb_2 qvb_3
  have hAvxv : Below w7.heap.size w7 (w7.alloc (.cells #[.int .i64 v0, .int .i64 v1, .slice avx xv2.length cvx, .int .i64 v3] 28)) := (Below.refl _ _).alloc (Nat.le_refl _) _
  have sNvxv := Str.new w7 28 #[.int .i64 v0, .int .i64 v1, .slice avx xv2.length cvx, .int .i64 v3]
  have hzAvxv : (w7.alloc (.cells #[.int .i64 v0, .int .i64 v1, .slice avx xv2.length cvx, .int .i64 v3] 28)).heap.size = w7.heap.size + 1 := by simp
  have hbsvxv : w7.heap.size ≤ w7.heap.size := Nat.le_refl _
  have Hb8 := Lib.hid (below_step Hb7.out Hb7.out.size hAvxv)
  have Hcx := Lib.hid (Hcx.out.below hAvxv)
  have Hvx := Lib.hid (Hvx.out.below hAvxv)
  have Svb := Lib.hid (show Str (w7.alloc (.cells #[.int .i64 v0, .int .i64 v1, .slice avx xv2.length cvx, .int .i64 v3] 28)) w.heap.size 24 #[.int .i64 v0, .int .i64 v1, .slice av2 xv2.length capv2, .int .i64 v3] from (hAvxv.block _ Svb.out.lt).trans Svb.out)
  have Svxv := Lib.hid sNvxv; clear sNvxv
  clear hAvxv
  have qvb_0 := Svb.out.cell 0 (v := .int .i64 v0) rfl
  have qvb_1 := Svb.out.cell 1 (v := .int .i64 v1) rfl
  have qvb_2 := Svb.out.cell 2 (v := .slice av2 xv2.length capv2) rfl
  have qvb_3 := Svb.out.cell 3 (v := .int .i64 v3) rfl
  have qvxv_0 := Svxv.out.cell 0 (v := .int .i64 v0) rfl
  have qvxv_1 := Svxv.out.cell 1 (v := .int .i64 v1) rfl
  have qvxv_2 := Svxv.out.cell 2 (v := .slice avx xv2.length cvx) rfl
  have qvxv_3 := Svxv.out.cell 3 (v := .int .i64 v3) rfl
  go_wp2_with fail
  generalize w7.alloc (.cells #[.int .i64 v0, .int .i64 v1, .slice avx xv2.length cvx, .int .i64 v3] 28) = w8 at *
  refine (Himpl.out acx ccx avx cvx _ hccx Hcx.out.at hcvx Hvx.out.at (own_src Hvx.out.own)).mono ?_
  rintro e w9 ⟨rfl, hb9⟩
  have Hb9 := Lib.hid (below_step Hb8.out Hb8.out.size hb9)
  have Hcx := Lib.hid (Hcx.out.below hb9)
  have Hvx := Lib.hid (Hvx.out.below hb9)
  have Svb := Lib.hid (show Str w9 w.heap.size 24 #[.int .i64 v0, .int .i64 v1, .slice av2 xv2.length capv2, .int .i64 v3] from ((hb9).block _ Svb.out.lt).trans Svb.out)
  have Svxv := Lib.hid (show Str w9 w7.heap.size 28 #[.int .i64 v0, .int .i64 v1, .slice avx xv2.length cvx, .int .i64 v3] from ((hb9).block _ Svxv.out.lt).trans Svxv.out)
  have hz9 := (hb9).size
  clear qvb_0 qvb_1 qvb_2 qvb_3 qvxv_0 qvxv_1 qvxv_2 qvxv_3
  go_wp2_with fail
  refine (laws_toIntS ac capc xc _ (by omega) (Hic.out.below Hb9.out)).mono ?_
  rintro e w10 ⟨vcy, rfl, hocy, hb10⟩
  have Hb10 := Lib.hid (below_step Hb9.out Hb9.out.size hb10)
  have Hcx := Lib.hid (Hcx.out.below hb10)
  have Hvx := Lib.hid (Hvx.out.below hb10)
  have Svb := Lib.hid (show Str w10 w.heap.size 24 #[.int .i64 v0, .int .i64 v1, .slice av2 xv2.length capv2, .int .i64 v3] from ((hb10).block _ Svb.out.lt).trans Svb.out)
  have Svxv := Lib.hid (show Str w10 w7.heap.size 28 #[.int .i64 v0, .int .i64 v1, .slice avx xv2.length cvx, .int .i64 v3] from ((hb10).block _ Svxv.out.lt).trans Svxv.out)
  have hz10 := (hb10).size
  have Hcy := Lib.hid (OwnI.of hocy); clear hocy
  obtain ⟨acy, ccy, rfl, _, _⟩ := Hcy.out.ints
  have hccy := Hcy.out.cap
  have hhcy : w9.heap.size ≤ w9.heap.size := Nat.le_refl _
  have hjcy : w10.heap.size ≤ w10.heap.size := Nat.le_refl _
  go_wp2_with fail
  refine (laws_eqIntS' acx acy ccx ccy xc w10 (by omega) Hcx.out.at Hcy.out.at).mono ?_
  rintro e w11 ⟨rfl, hb11⟩
  have Hb11 := Lib.hid (below_step Hb10.out Hb10.out.size (hb11.below w10.heap.size))
  have Hcx := Lib.hid (Hcx.out.below (hb11.below w10.heap.size))
  have Hvx := Lib.hid (Hvx.out.below (hb11.below w10.heap.size))
  have Hcy := Lib.hid (Hcy.out.below (hb11.below w10.heap.size))
  have Svb := Lib.hid (show Str w11 w.heap.size 24 #[.int .i64 v0, .int .i64 v1, .slice av2 xv2.length capv2, .int .i64 v3] from (((hb11.below w10.heap.size)).block _ Svb.out.lt).trans Svb.out)
  have Svxv := Lib.hid (show Str w11 w7.heap.size 28 #[.int .i64 v0, .int .i64 v1, .slice avx xv2.length cvx, .int .i64 v3] from (((hb11.below w10.heap.size)).block _ Svxv.out.lt).trans Svxv.out)
  have hz11 := ((hb11.below w10.heap.size)).size
  clear Hcy
  have qvxv_0 := Svxv.out.cell 0 (v := .int .i64 v0) rfl
  have qvxv_1 := Svxv.out.cell 1 (v := .int .i64 v1) rfl
  have qvxv_2 := Svxv.out.cell 2 (v := .slice avx xv2.length cvx) rfl
  have qvxv_3 := Svxv.out.cell 3 (v := .int .i64 v3) rfl
  have qvb_0 := Svb.out.cell 0 (v := .int .i64 v0) rfl
  have qvb_1 := Svb.out.cell 1 (v := .int .i64 v1) rfl
  have qvb_2 := Svb.out.cell 2 (v := .slice av2 xv2.length capv2) rfl
  have qvb_3 := Svb.out.cell 3 (v := .int .i64 v3) rfl
  go_wp2_with fail
  clear qvxv_0 qvxv_1 qvxv_2 qvxv_3 qvb_0 qvb_1 qvb_2 qvb_3
  have hdr : Below w11.heap.size w11 w11.drew := (Below.refl _ _).drew
  refine wp_region_held_drew (S := fun w' => w'.cell? ⟨w7.heap.size, 0, none⟩ = some (.int .i64 v0) ∧ w'.cell? ⟨w7.heap.size, 1, none⟩ = some (.int .i64 v1) ∧ w'.cell? ⟨w7.heap.size, 2, none⟩ = some (.slice avx xv2.length cvx) ∧ w'.cell? ⟨w7.heap.size, 3, none⟩ = some (.int .i64 v3) ∧ w'.cell? ⟨w.heap.size, 0, none⟩ = some (.int .i64 v0) ∧ w'.cell? ⟨w.heap.size, 1, none⟩ = some (.int .i64 v1) ∧ w'.cell? ⟨w.heap.size, 2, none⟩ = some (.slice av2 xv2.length capv2) ∧ w'.cell? ⟨w.heap.size, 3, none⟩ = some (.int .i64 v3)) (by kernel_rfl) ⟨Svxv.out.cell 0 (v := .int .i64 v0) rfl, Svxv.out.cell 1 (v := .int .i64 v1) rfl, Svxv.out.cell 2 (v := .slice avx xv2.length cvx) rfl, Svxv.out.cell 3 (v := .int .i64 v3) rfl, Svb.out.cell 0 (v := .int .i64 v0) rfl, Svb.out.cell 1 (v := .int .i64 v1) rfl, Svb.out.cell 2 (v := .slice av2 xv2.length capv2) rfl, Svb.out.cell 3 (v := .int .i64 v3) rfl⟩ (fun hH => ?_)
  generalize w11.drew = w12 at *
  have Hb12 := Lib.hid (below_step Hb11.out Hb11.out.size hdr)
  have Hcx := Lib.hid (Hcx.out.below hdr)
  have Hvx := Lib.hid (Hvx.out.below hdr)
  have Svb := Lib.hid (show Str w12 w.heap.size 24 #[.int .i64 v0, .int .i64 v1, .slice av2 xv2.length capv2, .int .i64 v3] from ((hdr).block _ Svb.out.lt).trans Svb.out)
  have Svxv := Lib.hid (show Str w12 w7.heap.size 28 #[.int .i64 v0, .int .i64 v1, .slice avx xv2.length cvx, .int .i64 v3] from ((hdr).block _ Svxv.out.lt).trans Svxv.out)
  have hz12 := (hdr).size
  clear hdr
  refine takeH 0 (v := ?vqv0) rfl (by kernel_rfl) (by kernel_rfl) (by kernel_rfl) (fun _ _ _ h => h) hH rfl ?yqv0 ?rqv0
  case yqv0 => intro W hSw; go_simp; try with_reducible rfl
  try simp only [Act.put, List.setIfInBounds_toArray, List.set_cons_zero, List.set_cons_succ]
  refine takeH 1 (v := ?vqv1) rfl (by kernel_rfl) (by kernel_rfl) (by kernel_rfl) (fun _ _ _ h => h) hH rfl ?yqv1 ?rqv1
  case yqv1 => intro W hSw; go_simp; try with_reducible rfl
  try simp only [Act.put, List.setIfInBounds_toArray, List.set_cons_zero, List.set_cons_succ]
  refine callH 2 rfl (by kernel_rfl) rfl (fun K hK => ?_)
  go_simp
  refine (laws_toVertexR v0 v1 av2 capv2 xv2 v3 _ (by omega) (Hixv2.out.below Hb12.out)).mono ?_
  rintro e w13 ⟨vvy, rfl, hovy, hb13⟩
  have Hb13 := Lib.hid (below_step Hb12.out Hb12.out.size hb13)
  have Hcx := Lib.hid (Hcx.out.below hb13)
  have Hvx := Lib.hid (Hvx.out.below hb13)
  have Svb := Lib.hid (show Str w13 w.heap.size 24 #[.int .i64 v0, .int .i64 v1, .slice av2 xv2.length capv2, .int .i64 v3] from ((hb13).block _ Svb.out.lt).trans Svb.out)
  have Svxv := Lib.hid (show Str w13 w7.heap.size 28 #[.int .i64 v0, .int .i64 v1, .slice avx xv2.length cvx, .int .i64 v3] from ((hb13).block _ Svxv.out.lt).trans Svxv.out)
  have hz13 := (hb13).size
  have Hvy := Lib.hid (OwnI.of hovy); clear hovy
  obtain ⟨avy, cvy, rfl, _, _⟩ := Hvy.out.ints
  have hcvy := Hvy.out.cap
  have hhvy : w12.heap.size ≤ w12.heap.size := Nat.le_refl _
  have hjvy : w13.heap.size ≤ w13.heap.size := Nat.le_refl _
  dsimp only
  refine hK.out _ _ ⟨Svxv.out.cell 0 (v := .int .i64 v0) rfl, Svxv.out.cell 1 (v := .int .i64 v1) rfl, Svxv.out.cell 2 (v := .slice avx xv2.length cvx) rfl, Svxv.out.cell 3 (v := .int .i64 v3) rfl, Svb.out.cell 0 (v := .int .i64 v0) rfl, Svb.out.cell 1 (v := .int .i64 v1) rfl, Svb.out.cell 2 (v := .slice av2 xv2.length capv2) rfl, Svb.out.cell 3 (v := .int .i64 v3) rfl⟩ (fun hH => ?_)
  clear hK K
  try simp only [Act.put, List.setIfInBounds_toArray, List.set_cons_zero, List.set_cons_succ]
  refine callH 3 rfl (by kernel_rfl) rfl (fun K hK => ?_)
  go_simp
  refine (laws_eqVertexR v0 v1 avx avy cvx cvy xv2 v3 w13 (by omega) Hvx.out.at Hvy.out.at).mono ?_
  rintro e w14 ⟨rfl, hb14⟩
  have Hb14 := Lib.hid (below_step Hb13.out Hb13.out.size hb14)
  have Hcx := Lib.hid (Hcx.out.below hb14)
  have Hvx := Lib.hid (Hvx.out.below hb14)
  have Hvy := Lib.hid (Hvy.out.below hb14)
  have Svb := Lib.hid (show Str w14 w.heap.size 24 #[.int .i64 v0, .int .i64 v1, .slice av2 xv2.length capv2, .int .i64 v3] from ((hb14).block _ Svb.out.lt).trans Svb.out)
  have Svxv := Lib.hid (show Str w14 w7.heap.size 28 #[.int .i64 v0, .int .i64 v1, .slice avx xv2.length cvx, .int .i64 v3] from ((hb14).block _ Svxv.out.lt).trans Svxv.out)
  have hz14 := (hb14).size
  dsimp only
  refine hK.out _ _ ⟨Svxv.out.cell 0 (v := .int .i64 v0) rfl, Svxv.out.cell 1 (v := .int .i64 v1) rfl, Svxv.out.cell 2 (v := .slice avx xv2.length cvx) rfl, Svxv.out.cell 3 (v := .int .i64 v3) rfl, Svb.out.cell 0 (v := .int .i64 v0) rfl, Svb.out.cell 1 (v := .int .i64 v1) rfl, Svb.out.cell 2 (v := .slice av2 xv2.length capv2) rfl, Svb.out.cell 3 (v := .int .i64 v3) rfl⟩ (fun hH => ?_)
  clear hK K
  try simp only [Act.put, List.setIfInBounds_toArray, List.set_cons_zero, List.set_cons_succ]
  refine takeH 4 (v := ?vqv4) rfl (by kernel_rfl) (by kernel_rfl) (by kernel_rfl) (fun _ _ _ h => h) hH rfl ?yqv4 ?rqv4
  case yqv4 => intro W hSw; go_simp; try with_reducible rfl
  try simp only [Act.put, List.setIfInBounds_toArray, List.set_cons_zero, List.set_cons_succ]
  refine wpAnyH_done (by kernel_rfl) ?_ _
  try simp only [Act.put]
  clear hH
  clear Hvy
  go_wp2
  go_ret
  exact ⟨by first | rfl | exact ret_bool (by simp), Hb14.out⟩

theorem fnExactVertexValid_own : ownKnob Try.prog.godebug = none := by kernel_rfl
theorem fnExactVertexValid_laidOut : laidOutB Try.prog = true := by kernel_rfl

theorem fnExactVertexValid_lifted (os : Os) (started : os.Started) (H : Type) (enc : TypeId × Value → H) :
    ReturnsInHanded {} Try.checked os 3 .any (Rows.fnExactVertexValidSpec.pre6 enc Try.prog Try.f3 Rows.fnExactVertexValidRow.domain false) (Rows.fnExactVertexValidSpec.post enc Try.prog Try.f3 false true false false) := by
  refine law_lifted (C := Try.checked) (tb := 4) fnExactVertexValid_own fnExactVertexValid_laidOut started (by kernel_rfl) Try.func3 rfl Try.underlying4 rfl (by rw [Try.params3]; exact of_decide_eq_true (by kernel_rfl)) ?_
    (ChangeSpec.witness6 (enc := enc) (C := Try.checked) false ⟨#[], #[.slice none 0 0, .agg #[.int .i64 0, .int .i64 0, .slice none 0 0, .int .i64 0]], []⟩ 8 (by kernel_rfl) (by kernel_rfl) (by kernel_rfl) (by kernel_rfl)) ?_
  · intro ds hds
    rw [Try.params3] at hds
    match ds, hds with
    | [d0, d1], _ => rfl
  · intro W base args ds p hval0 hA0
    have hval : ∀ (j : Nat) t v, Try.f3.params[j]? = some t → args[j]? = some v → Value.okWide Try.prog W .any base t v := hval0
    have hA : DataW.TrodAll enc Try.prog W 0 (fun _ => true) true Try.f3.params.toList args.toList ds p := hA0
    rw [Try.params3] at hA hval
    obtain ⟨v0, vs0, d0, ds0, p0, q0, hargs0, rfl, rfl, h0, r0⟩ := trodAll_cons hA
    obtain ⟨v1, vs1, d1, ds1, p1, q1, hargs1, rfl, rfl, h1, r1⟩ := trodAll_cons r0
    obtain ⟨hnil, rfl, rfl⟩ := trodAll_nil r1
    subst hnil
    subst hargs1
    obtain rfl : args = #[v0, v1] := by cases args; simp_all
    obtain ⟨a0, cap0, zs0, rfl, hk0, hm0, hi0, hw0⟩ := open_slice_ints Try.underlying22 Try.underlying3 (by kernel_rfl) (hval 0 22 v0 rfl rfl) h0
    obtain ⟨x1_0, x1_1, a1_2, c1_2, x1_2, x1_3, rfl, b1_0, b1_1, b1_2, i1_2, b1_3⟩ := open_Vertex (hval 1 24 v1 rfl rfl) h1
    exact fnExactVertexValid_walk a0 cap0 zs0 x1_0 x1_1 a1_2 c1_2 x1_2 x1_3 W hk0 hm0 hi0 hw0 b1_0 b1_1 b1_2 i1_2 b1_3

theorem fnExactVertexValid_holds : Rows.FnExactVertexValidSaid :=
  OpenClaim.holds_of_wide 3 Try.f3 rfl rfl rfl rfl rfl rfl rfl ⟨rfl, rfl, rfl, rfl, rfl⟩ rfl rfl rfl rfl rfl (by kernel_rfl) Try.func3 (by kernel_rfl)
    (of_decide_eq_true (by kernel_rfl)) (by unfold Func.isWrapper; first | (rw [if_pos (by decide +kernel)]; kernel_rfl) | (rw [if_neg (by decide +kernel)]; exact ⟨rfl, rfl⟩))
    (fun os started H enc _ => fnExactVertexValid_lifted os started H enc)

end Go.Proofs.Ytejpoeejhmgphab
