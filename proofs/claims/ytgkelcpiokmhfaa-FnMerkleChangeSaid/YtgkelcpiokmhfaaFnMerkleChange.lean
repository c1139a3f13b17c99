/- Law FnMerkleChange holds for every input; no conditions of our own. -/
import Derived.Test.YtgkelcpiokmhfaaRows
import Derived.Test.YtgkelcpiokmhfaaBase
import Derived.Test.YtgkelcpiokmhfaaLift
import Derived.Test.YtgkelcpiokmhfaaApp
import Derived.Test.YtgkelcpiokmhfaaM2
import Derived.Test.YtgkelcpiokmhfaaC1
import Derived.Test.YtgkelcpiokmhfaaC2
import Derived.Test.YtgkelcpiokmhfaaP2
import Derived.Test.YtgkelcpiokmhfaaL1
import Derived.Test.YtgkelcpiokmhfaaL2
import Derived.Test.YtgkelcpiokmhfaaRd
import Derived.Test.YtgkelcpiokmhfaaD2
import Derived.Test.YtgkelcpiokmhfaaT2
import Derived.Test.YtgkelcpiokmhfaaHeld
namespace Go.Proofs.Ytgkelcpiokmhfaa
open Go.ChangeShapes Go.WideShapes Go.ChangeAt Go.RowKit

set_option maxHeartbeats 400000 in
theorem fnMerkleChange_walk (a : Option Addr) (cap : Nat) (zs : List Int) (a' : Option Addr) (cap' : Nat) (ms : List Int) (w : World) (hk : zs.length ≤ cap) (_hm : zs.length ≤ maxLen) (hi : zs = [] ∨ ∃ b off, a = some ⟨b, off, none⟩ ∧ b < w.heap.size ∧ ∀ j (h : j < zs.length), w.cell? ⟨b, off + j, none⟩ = some (.int .u8 zs[j])) (hw : ∀ z ∈ zs, (Lit.int .u8 z).wf = true)
    (_hk' : ms.length ≤ cap') (hm' : ms.length ≤ maxLen) (_hi' : ms = [] ∨ ∃ b off, a' = some ⟨b, off, none⟩ ∧ b < w.heap.size ∧ ∀ j (h : j < ms.length), w.cell? ⟨b, off + j, none⟩ = some (.int .u8 ms[j])) (_hw' : ∀ z ∈ ms, (Lit.int .u8 z).wf = true) :
    Calls Try.prog 8 #[.slice a zs.length cap, .slice a' ms.length cap'] w fun e w' => e = .returned (.bool true) ∧ Below w.heap.size w w' := by
  unfold maxLen at hm'
  by_cases hl : 1048576 < zs.length
  · go_enter Try.func8, Try.ntmps8
    go_wp2
    go_ret
    exact ⟨rfl, Below.refl _ _⟩
  by_cases hl' : 1048576 < ms.length
  · go_enter Try.func8, Try.ntmps8
    go_wp2
    go_ret
    exact ⟨rfl, Below.refl _ _⟩
  have hcode := codeAt_of hk (by omega) hi hw
  have Hcode := Lib.hid hcode; clear hcode hi hw
  go_enter Try.func8, Try.ntmps8
  go_wp2_with fail
  refine (spec_DrawMerkleRoot a cap zs _ Hcode.out).mono ?_
  rintro e w1 ⟨v, xs, rfl, hown, hxl, hdg, hb1⟩
  clear hdg
  have Hb1 := Lib.hid hb1; clear hb1
  obtain ⟨al, cl, rfl, _, _⟩ := hown.ints
  have hBl := Nat.le_refl w.heap.size
  have Hl := Lib.hid hown; clear hown
  have hcl := Hl.out.cap
  have hI := impl_MerkleRoot al cl xs w1 (by omega) hcl Hl.out.at
  have hS := fun w h => spec_MerkleRoot al cl xs w (by omega) h
  by_cases hv : leavesB xs = true
  · have hrt := mrZ_pos hv
    obtain ⟨⟨hlen1, hlen2⟩, hdig⟩ := leavesB_iff hv
    generalize hr' : mrZ xs = rt at hI hS hrt
    have Hr' := Lib.hid hr'; clear hr'
    have HI := Lib.hid hI; clear hI
    have HS := Lib.hid hS; clear hS
    have Hdig := Lib.hid hdig; clear hdig
    have Hv := Lib.hid hv; clear hv
    have d0 : decide (rt < 0) = false := decide_eq_false (by omega)
    go_wp2_with fail
    refine (HI.out).mono ?_
    rintro e w2 ⟨rfl, hb2⟩
    have Hb2 := Lib.hid (below_step Hb1.out Hb1.out.size hb2)
    have Hl := Lib.hid (Hl.out.below hb2)
    have hz2 := (hb2).size
    go_wp2_with fail
    refine (HS.out _ Hl.out.at).mono ?_
    rintro e w3 ⟨rfl, hb3⟩
    have Hb3 := Lib.hid (below_step Hb2.out Hb2.out.size hb3)
    have Hl := Lib.hid (Hl.out.below hb3)
    have hz3 := (hb3).size
    obtain ⟨k, hkm⟩ : ∃ k : Nat, k = ms.length % xs.length := ⟨_, rfl⟩
    have hks : k < xs.length := by rw [hkm]; exact Nat.mod_lt _ (by omega)
    have hmod : (ms.length : Int) % (xs.length : Int) = (k : Int) := by rw [hkm]; exact (Int.natCast_emod _ _).symm
    clear hkm
    have hyb := digB_bd (Hdig.out _ (List.getElem_mem hks))
    obtain ⟨y, hy⟩ : ∃ y, xs[k] = y := ⟨_, rfl⟩
    rw [hy] at hyb
    obtain ⟨gl, _, hvl, hglB, hgls, _, hcl3, _⟩ := Hl.out.row (by omega)
    simp only [Value.slice.injEq, true_and] at hvl
    obtain ⟨rfl, rfl⟩ := hvl
    have hcly := hcl3 k hks
    rw [hy] at hcly
    clear hcl3
    have Hy := Lib.hid hy; clear hy
    have Hoe := Lib.hid (own_empty 3 w3 (B := w3.heap.size) (Nat.le_refl _))
    have Hr1 := Lib.hid (World.grownBy_alloc w3 (.cells #[] 3) none)
    have Hl2 := Lib.hid (Hl.out.kept Hr1.out (by cases hv : (Value.slice (some ⟨gl, 0, none⟩) xs.length cl).ownBlock <;> simp))
    obtain ⟨_, _, e0, _, hsrc, _⟩ := Hl2.out.src
    simp only [Value.slice.injEq] at e0
    obtain ⟨rfl, _, rfl⟩ := e0
    have Hs := Lib.hid hsrc; clear hsrc
    have hk0 : 0 ≤ (k : Int) := by omega
    have hk1 : (k : Int) < xs.length := by omega
    obtain ⟨z, hz⟩ : ∃ z, (y + 1 + (zs.length : Int) % 990) % 991 = z := ⟨_, rfl⟩
    have hzy : z ≠ y := by omega
    have hzb : digB z = true := digB_yes (by omega) (by omega)
    have hbeq : (z == y) = false := by rw [beq_eq_false_iff_ne]; exact hzy
    have hwr : IntKind.i64.wrap (y + 1) = y + 1 := IntWalk.i64_in _ (by omega)
    go_wp2_with (at_builtin; refine wpList_appI TI2 rfl (.tmp 39) (.tmp 40) rfl w3.heap.size _ [] xs _ _ rfl Hoe.out rfl Hs.out (by simp; omega) (by simp) ?_; intro v4 w4 hown4 hg4; rw [List.nil_append] at hown4; have hsz4 := hg4.size; have Hx4 := Lib.hid (below_row ((Below.refl w3.heap.size w3).alloc (Nat.le_refl _) _) (by simp) hg4 Hoe.out (Nat.le_refl _)); obtain ⟨g, c4, rfl, hgB, hgs, hc4, hcells, hfz⟩ := hown4.row (by omega); have hcg := hcells k hks; have hfg := hfz k; rw [Hy.out] at hcg; clear hcells hfz hg4)
    have hne := mr_change Hv.out hks hzb (by rw [Hy.out]; exact hzy)
    rw [Hr'.out] at hne
    have Hst := Lib.hid (hown4.store rfl k z).1
    have hx5 := Hx4.out.setCell (p := ⟨g, k, none⟩) hgB (.int .i64 z)
    have hc5 : (w4.setCell ⟨g, k, none⟩ (.int .i64 z)).cell? ⟨g, k, none⟩ = some (.int .i64 z) := World.cell?_setCell_same' _ _ _ (by rw [hcg]; rfl)
    have hc6 := (hx5.cell (p := ⟨gl, k, none⟩) hgls).trans hcly
    have hs5 : (w4.setCell ⟨g, k, none⟩ (.int .i64 z)).heap.size = w4.heap.size := by simp [World.setCell]
    clear hcg hfg hcly hown4
    generalize w4.setCell ⟨g, k, none⟩ (.int .i64 z) = w5 at *
    have HR := Lib.hid (fun w' (h : Below w5.heap.size w5 w') => (impl_MerkleRoot (some ⟨g, 0, none⟩) c4 (xs.set k z) w' (by rw [List.length_set]; omega) (by rw [List.length_set]; omega) ((Hst.out.below h).at)).mono (fun e w'' (q : _ ∧ _) => (⟨q.1, below_step h h.size q.2⟩ : e = .returned (.int .i64 (mrZ (xs.set k z))) ∧ Below w5.heap.size w5 w'')))
    rw [List.length_set] at HR
    generalize mrZ (xs.set k z) = r2 at HR hne
    have hbne : (r2 != rt) = true := by rw [bne_iff_ne]; exact hne
    have HC1 := Lib.hid (fun w' (h : Below w5.heap.size w5 w') => (h.cell (p := ⟨g, k, none⟩) (by simp only; omega)).trans hc5)
    have HC2 := Lib.hid (fun w' (h : Below w5.heap.size w5 w') => (h.cell (p := ⟨gl, k, none⟩) (by simp only; have := hx5.size; omega)).trans hc6)
    have Hb5 := Lib.hid (below_step Hb3.out Hb3.out.size hx5)
    clear hc5 hc6 hne
    have hb0 : Below w5.heap.size w5 w5.drew := (Below.refl _ _).drew
    refine wp_region_held_drew (S := fun w' => Below w5.heap.size w5 w' ∧ w'.cell? ⟨g, k, none⟩ = some (.int .i64 z) ∧ w'.cell? ⟨gl, k, none⟩ = some (.int .i64 y)) (by kernel_rfl) ⟨hb0, HC1.out _ hb0, HC2.out _ hb0⟩ (fun hH => ?_)
    refine takeH 0 (v := ?vc1) rfl (by kernel_rfl) (by kernel_rfl) (by kernel_rfl) (fun _ _ _ h => h) hH rfl ?yc1 ?rc1
    case yc1 => intro w hSw; go_simp; try with_reducible rfl
    try simp only [Act.put, List.setIfInBounds_toArray, List.set_cons_zero, List.set_cons_succ]
    refine takeH 1 (v := ?vc2) rfl (by kernel_rfl) (by kernel_rfl) (by kernel_rfl) (fun _ _ _ h => h) hH rfl ?yc2 ?rc2
    case yc2 => intro w hSw; go_simp; try with_reducible rfl
    try simp only [Act.put, List.setIfInBounds_toArray, List.set_cons_zero, List.set_cons_succ]
    refine takeH 2 (v := ?vc3) rfl (by kernel_rfl) (by kernel_rfl) (by kernel_rfl) (fun _ _ _ h => h) hH rfl ?yc3 ?rc3
    case yc3 => intro w hSw; go_simp; try with_reducible rfl
    try simp only [Act.put, List.setIfInBounds_toArray, List.set_cons_zero, List.set_cons_succ]
    refine takeH 3 (v := ?vc4) rfl (by kernel_rfl) (by kernel_rfl) (by kernel_rfl) (fun _ _ _ h => h) hH rfl ?yc4 ?rc4
    case yc4 => intro w hSw; go_simp; try with_reducible rfl
    try simp only [Act.put, List.setIfInBounds_toArray, List.set_cons_zero, List.set_cons_succ]
    refine takeH 4 (v := ?vc5) rfl (by kernel_rfl) (by kernel_rfl) (by kernel_rfl) (fun _ _ _ h => h) hH rfl ?yc5 ?rc5
    case yc5 => intro w hSw; go_simp; try with_reducible rfl
    try simp only [Act.put, List.setIfInBounds_toArray, List.set_cons_zero, List.set_cons_succ]
    refine takeH 5 (v := ?vc6) rfl (by kernel_rfl) (by kernel_rfl) (by kernel_rfl) (fun _ _ _ h => h) hH rfl ?yc6 ?rc6
    case yc6 => intro w hSw; go_simp; try with_reducible rfl
    try simp only [Act.put, List.setIfInBounds_toArray, List.set_cons_zero, List.set_cons_succ]
    refine takeH 6 (v := ?vc7) rfl (by kernel_rfl) (by kernel_rfl) (by kernel_rfl) (fun _ _ _ h => h) hH rfl ?yc7 ?rc7
    case yc7 => intro w hSw; go_simp; try with_reducible rfl
    try simp only [Act.put, List.setIfInBounds_toArray, List.set_cons_zero, List.set_cons_succ]
    refine takeH 7 (v := ?vc8) rfl (by kernel_rfl) (by kernel_rfl) (by kernel_rfl) (fun _ _ _ h => h) hH rfl ?yc8 ?rc8
    case yc8 => intro w hSw; go_simp; try with_reducible rfl
    try simp only [Act.put, List.setIfInBounds_toArray, List.set_cons_zero, List.set_cons_succ]
    refine takeH 8 (v := ?vc9) rfl (by kernel_rfl) (by kernel_rfl) (by kernel_rfl) (fun _ _ _ h => h) hH rfl ?yc9 ?rc9
    case yc9 => intro w hSw; go_simp; try with_reducible rfl
    try simp only [Act.put, List.setIfInBounds_toArray, List.set_cons_zero, List.set_cons_succ]
    refine takeH 9 (v := ?vc10) rfl (by kernel_rfl) (by kernel_rfl) (by kernel_rfl) (fun _ _ _ h => h) hH rfl ?yc10 ?rc10
    case yc10 => intro w hSw; go_simp; try with_reducible rfl
    try simp only [Act.put, List.setIfInBounds_toArray, List.set_cons_zero, List.set_cons_succ]
    refine takeH 10 (v := ?vc11) rfl (by kernel_rfl) (by kernel_rfl) (by kernel_rfl) (fun _ _ _ h => h) hH rfl ?yc11 ?rc11
    case yc11 => intro w hSw; go_simp; try with_reducible rfl
    try simp only [Act.put, List.setIfInBounds_toArray, List.set_cons_zero, List.set_cons_succ]
    refine takeH 12 (v := ?vc12) rfl (by kernel_rfl) (by kernel_rfl) (by kernel_rfl) (fun _ _ _ h => h) hH rfl ?yc12 ?rc12
    case yc12 => intro w hSw; go_simp; try with_reducible rfl
    try simp only [Act.put, List.setIfInBounds_toArray, List.set_cons_zero, List.set_cons_succ]
    refine callH 11 rfl (by kernel_rfl) rfl (fun K hK => ?_)
    go_simp
    go_at_call 20
    refine (HR.out _ hH.1).mono ?_
    rintro e wx ⟨rfl, hbx⟩
    refine hK.out _ _ ⟨hbx, HC1.out _ hbx, HC2.out _ hbx⟩ (fun hH => ?_)
    clear hK K
    try simp only [Act.put, List.setIfInBounds_toArray, List.set_cons_zero, List.set_cons_succ]
    refine takeH 13 (v := ?vc14) rfl (by kernel_rfl) (by kernel_rfl) (by kernel_rfl) (fun _ _ _ h => h) hH rfl ?yc14 ?rc14
    case yc14 => intro w hSw; go_simp; try with_reducible rfl
    try simp only [Act.put, List.setIfInBounds_toArray, List.set_cons_zero, List.set_cons_succ]
    refine takeH 14 (v := ?vc15) rfl (by kernel_rfl) (by kernel_rfl) (by kernel_rfl) (fun _ _ _ h => h) hH rfl ?yc15 ?rc15
    case yc15 => intro w hSw; go_simp; try with_reducible rfl
    try simp only [Act.put, List.setIfInBounds_toArray, List.set_cons_zero, List.set_cons_succ]
    refine takeH 15 (v := ?vc16) rfl (by kernel_rfl) (by kernel_rfl) (by kernel_rfl) (fun _ _ _ h => h) hH rfl ?yc16 ?rc16
    case yc16 => intro w hSw; go_simp; try with_reducible rfl
    try simp only [Act.put, List.setIfInBounds_toArray, List.set_cons_zero, List.set_cons_succ]
    refine wpAnyH_done (by kernel_rfl) ?_ _
    go_wp2
    go_ret
    exact ⟨rfl, below_step Hb5.out Hb5.out.size hbx⟩
  · rw [Bool.not_eq_true] at hv
    rw [mrZ_no hv] at hI hS
    have HI := Lib.hid hI; clear hI
    have HS := Lib.hid hS; clear hS
    clear hv
    go_wp2_with fail
    refine (HI.out).mono ?_
    rintro e w2 ⟨rfl, hb2⟩
    have Hb2 := Lib.hid (below_step Hb1.out Hb1.out.size hb2)
    have Hl := Lib.hid (Hl.out.below hb2)
    have hz2 := (hb2).size
    go_wp2_with fail
    refine (HS.out _ Hl.out.at).mono ?_
    rintro e w3 ⟨rfl, hb3⟩
    have Hb3 := Lib.hid (below_step Hb2.out Hb2.out.size hb3)
    have Hl := Lib.hid (Hl.out.below hb3)
    have hz3 := (hb3).size
    go_wp2
    go_ret
    exact ⟨rfl, Hb3.out⟩

theorem fnMerkleChange_own : ownKnob Try.prog.godebug = none := by kernel_rfl
theorem fnMerkleChange_laidOut : laidOutB Try.prog = true := by kernel_rfl

theorem fnMerkleChange_lifted (os : Os) (started : os.Started) (H : Type) (enc : TypeId × Value → H) :
    ReturnsInHanded {} Try.checked os 8 .any (Rows.fnMerkleChangeSpec.pre6 enc Try.prog Try.f8 Rows.fnMerkleChangeRow.domain false) (Rows.fnMerkleChangeSpec.post enc Try.prog Try.f8 false true false false) := by
  refine law_lifted (C := Try.checked) (tb := 4) fnMerkleChange_own fnMerkleChange_laidOut started (by kernel_rfl) Try.func8 rfl Try.underlying4 rfl (by rw [Try.params8]; exact of_decide_eq_true (by kernel_rfl)) ?_
    (ChangeSpec.witness6 (enc := enc) (C := Try.checked) false ⟨#[], #[.slice none 0 0, .slice none 0 0], []⟩ 8 (by kernel_rfl) (by kernel_rfl) (by kernel_rfl) (by kernel_rfl)) ?_
  · intro ds hds
    rw [Try.params8] at hds
    match ds, hds with
    | [d0, d1], _ => rfl
  · intro W base args ds p hval0 hA0
    have hval : ∀ (j : Nat) t v, Try.f8.params[j]? = some t → args[j]? = some v → Value.okWide Try.prog W .any base t v := hval0
    have hA : DataW.TrodAll enc Try.prog W 0 (fun _ => true) true Try.f8.params.toList args.toList ds p := hA0
    rw [Try.params8] at hA hval
    obtain ⟨v0, vs0, d0, ds0, p0, q0, hargs0, rfl, rfl, h0, r0⟩ := trodAll_cons hA
    obtain ⟨v1, vs1, d1, ds1, p1, q1, hargs1, rfl, rfl, h1, r1⟩ := trodAll_cons r0
    obtain ⟨hnil, rfl, rfl⟩ := trodAll_nil r1
    subst hnil
    subst hargs1
    obtain rfl : args = #[v0, v1] := by cases args; simp_all
    obtain ⟨a0, cap0, zs0, rfl, hk0, hm0, hi0, hw0⟩ := open_slice_ints Try.underlying22 Try.underlying5 (by kernel_rfl) (hval 0 22 v0 rfl rfl) h0
    obtain ⟨a1, cap1, zs1, rfl, hk1, hm1, hi1, hw1⟩ := open_slice_ints Try.underlying22 Try.underlying5 (by kernel_rfl) (hval 1 22 v1 rfl rfl) h1
    exact fnMerkleChange_walk a0 cap0 zs0 a1 cap1 zs1 W hk0 hm0 hi0 hw0 hk1 hm1 hi1 hw1

theorem fnMerkleChange_holds : Rows.FnMerkleChangeSaid :=
  OpenClaim.holds_of_wide 8 Try.f8 rfl rfl rfl rfl rfl rfl rfl ⟨rfl, rfl, rfl, rfl, rfl⟩ rfl rfl rfl rfl rfl (by kernel_rfl) Try.func8 (by kernel_rfl)
    (of_decide_eq_true (by kernel_rfl)) (by unfold Func.isWrapper; first | (rw [if_pos (by decide +kernel)]; kernel_rfl) | (rw [if_neg (by decide +kernel)]; exact ⟨rfl, rfl⟩))
    (fun os started H enc _ => fnMerkleChange_lifted os started H enc)

end Go.Proofs.Ytgkelcpiokmhfaa
