/- Law FnCoinJoinRange holds for every input; no conditions of our own. -/
import Derived.Test.YtkndndcjchlpdabRows
import Derived.Test.YtkndndcjchlpdabBase
import Derived.Test.YtkndndcjchlpdabLift
import Derived.Test.YtkndndcjchlpdabC1
import Derived.Test.YtkndndcjchlpdabL1
import Derived.Test.YtkndndcjchlpdabM1
import Derived.Test.YtkndndcjchlpdabRd
import Derived.Test.YtkndndcjchlpdabD1
import Derived.Test.YtkndndcjchlpdabM3
import Derived.Test.YtkndndcjchlpdabBe
import Derived.Test.YtkndndcjchlpdabBa
import Derived.Test.YtkndndcjchlpdabCut
import Derived.Test.YtkndndcjchlpdabCo7
import Derived.Test.YtkndndcjchlpdabCo8
import Derived.Test.YtkndndcjchlpdabCo9
import Derived.Test.YtkndndcjchlpdabCoa
import Derived.Test.YtkndndcjchlpdabCob
import Derived.Test.YtkndndcjchlpdabHeld
namespace Go.Proofs.Ytkndndcjchlpdab
open Go.ChangeShapes Go.WideShapes Go.ChangeAt Go.RowKit

set_option maxHeartbeats 2000000 in
theorem fnCoinJoinRange_walk (a : Option Addr) (cap : Nat) (zs : List Int) (a' : Option Addr) (cap' : Nat) (ms : List Int) (w : World) (hk : zs.length ≤ cap) (_hm : zs.length ≤ maxLen) (hi : zs = [] ∨ ∃ b off, a = some ⟨b, off, none⟩ ∧ b < w.heap.size ∧ ∀ j (h : j < zs.length), w.cell? ⟨b, off + j, none⟩ = some (.int .u8 zs[j])) (hw : ∀ z ∈ zs, (Lit.int .u8 z).wf = true)
    (_hk' : ms.length ≤ cap') (hm' : ms.length ≤ maxLen) (_hi' : ms = [] ∨ ∃ b off, a' = some ⟨b, off, none⟩ ∧ b < w.heap.size ∧ ∀ j (h : j < ms.length), w.cell? ⟨b, off + j, none⟩ = some (.int .u8 ms[j])) (_hw' : ∀ z ∈ ms, (Lit.int .u8 z).wf = true) :
    Calls Try.prog 3 #[.slice a zs.length cap, .slice a' ms.length cap'] w fun e w' => e = .returned (.bool true) ∧ Below w.heap.size w w' := by
  unfold maxLen at hm'
  by_cases hl : 1048576 < zs.length
  · go_enter Try.func3, Try.ntmps3
    go_wp2
    go_ret
    exact ⟨rfl, Below.refl _ _⟩
  by_cases hl' : 1048576 < ms.length
  · go_enter Try.func3, Try.ntmps3
    go_wp2
    go_ret
    exact ⟨rfl, Below.refl _ _⟩
  have hcode := codeAt_of hk (by omega) hi hw
  have Hcode := Lib.hid hcode; clear hcode hi hw
  go_enter Try.func3, Try.ntmps3
  go_wp2_with fail
  refine (spec_DrawCoinJoin a cap zs _ Hcode.out).mono ?_
  rintro e w1 ⟨need, l, v, fp, rfl, hr, hl7, hb1⟩
  obtain ⟨va, vc, rfl⟩ := hr.slice
  have hlen := cjB_len (need := need) (l := l)
  have hrng := cj_range (need := need) (l := l)
  have Hsub := Lib.hid (fun (l' : List Cp) (h : cjB need l = true) (h1 : l'.Sublist l) (h2 : need ≤ l'.length) => cj_sub h h1 h2)
  have Hno := Lib.hid (fun h => cj_no (need := need) (l := l) h)
  have Hr := Lib.hid hr; clear hr
  have Hb1 := Lib.hid hb1; clear hb1
  go_wp2_with fail
  refine (impl_CoinJoin need l _ fp w1 (by omega) Hr.out).mono ?_
  rintro e w2 ⟨rfl, hb2⟩
  have hs2 := hb2.size
  have Hr2 := Lib.hid (Hr.out.under hb2)
  have Hb2 := Lib.hid (below_step Hb1.out Hb1.out.size hb2); clear hb2
  go_wp2_with fail
  refine (spec_CoinJoin need l _ fp w2 (by omega) Hr2.out).mono ?_
  rintro e w3 ⟨rfl, hb3⟩
  have hs3 := hb3.size
  have Hr3 := Lib.hid (Hr2.out.under hb3)
  have Hb3 := Lib.hid (below_step Hb2.out Hb2.out.size hb3); clear hb3 Hr Hr2
  cases hok : cjB need l with
  | false =>
    rw [Hno.out hok]
    go_wp2
    go_ret
    exact ⟨by first | rfl | exact ret_bool (by simp), Hb3.out⟩
  | true =>
  obtain ⟨hn1, hn2⟩ := hlen hok
  obtain ⟨hv0, hv1⟩ := hrng hok
  have Hsub := Lib.hid (fun l' => Hsub.out l' hok)
  clear hlen hrng hok Hno
  generalize hV : cjV need l = V at *
  clear hV
  obtain ⟨n, rfl⟩ := Int.eq_ofNat_of_zero_le (show 0 ≤ need by omega)
  by_cases heq : l.length = n
  case pos =>
    have h1 : ((l.length : Int) == (n : Int)) = true := by rw [beq_iff_eq]; omega
    clear heq
    have hv2 : V < 251 := by omega
    go_wp2
    go_ret
    exact ⟨by first | rfl | exact ret_bool (by simp [hv2]) | exact ret_bool (by simp; omega), Hb3.out⟩
  have h1 : ((l.length : Int) == (n : Int)) = false := by rw [beq_eq_false_iff_ne]; omega
  have h1' : ¬ (l.length : Int) = (n : Int) := by omega
  have hl0 : 0 < l.length := by omega
  have hcap := cps_cap Hr3.out hl0
  obtain ⟨b, off, rfl, hbw, _⟩ := Hr3.out.at hl0
  have hm0 : (ms.length : Int) % (l.length : Int) = ((ms.length % l.length : Nat) : Int) := (Int.natCast_emod _ _).symm
  have hk := Nat.mod_lt ms.length hl0
  generalize hK : ms.length % l.length = k at *
  clear hK
  have hsz2 : ∀ e ∈ (l.map cpF).map (fun e => e.map Fd.dt), e.length = 2 := by intro e he; obtain ⟨e', he', rfl⟩ := List.mem_map.1 he; obtain ⟨y, _, rfl⟩ := List.mem_map.1 he'; rfl
  have hfl := Rd.lt Hr3.out
  obtain ⟨fpA, hA, hAf⟩ := Rd.cut Hr3.out hsz2 0 k off vc (by simp; omega) (fun _ => by simp) (fun _ => by omega)
  obtain ⟨o2, hif, fpB, hB, hBf⟩ := Rd.tail Hr3.out hsz2 (k + 1) (by simp; omega)
  rw [List.drop_zero] at hA
  simp only [List.length_map] at hB
  have HA := Lib.hid hA; clear hA
  have HB := Lib.hid hB; clear hB
  have HAf := Lib.hid (show ∀ r ∈ fpA, r < w3.heap.size from fun r hr => hfl r (hAf r hr))
  have HBf := Lib.hid (show ∀ r ∈ fpB, r < w3.heap.size from fun r hr => hfl r (hBf r hr))
  have Hszs := Lib.hid hsz2; clear hsz2 hfl hAf hBf
  have hwk : IntKind.i64.wrap ((k : Int) + 1) = (k : Int) + 1 := IntWalk.i64_in _ (by omega)
  have e1 : ((k : Int) + 1).toNat = k + 1 := by omega
  have e2 : 0 ≤ (k : Int) + 1 := by omega
  have e3' : (k : Int) + 1 ≤ (l.length : Int) := by omega
  have e4' : (k : Int) ≤ (vc : Int) := by omega
  have e5' : k ≤ vc := by omega
  have e6' : k + 1 ≤ l.length := by omega
  have e7' : (l.length : Int) ≤ (vc : Int) := by omega
  have htm : (ms.length : Int).tmod (l.length : Int) = (k : Int) := by rw [Int.tmod_eq_emod_of_nonneg (by omega)]; exact hm0
  have Hbw := Lib.hid hbw; clear hbw
  go_wp2_with fail
  clear htm hm0
  refine wp_region_held_drew (S := fun _ => True) (by kernel_rfl) trivial (fun hH => ?_)
  refine takeH 1 (v := ?vva1) rfl (by kernel_rfl) (by kernel_rfl) (by kernel_rfl) (fun _ _ _ h => h) hH rfl ?yva1 ?rva1
  case yva1 => intro W hSw; go_simp; try with_reducible rfl
  try simp only [Act.put, List.setIfInBounds_toArray, List.set_cons_zero, List.set_cons_succ]
  refine takeH 2 (v := ?vva2) rfl (by kernel_rfl) (by kernel_rfl) (by kernel_rfl) (fun _ _ _ h => h) hH rfl ?yva2 ?rva2
  case yva2 => intro W hSw; go_simp; try with_reducible rfl
  try simp only [Act.put, List.setIfInBounds_toArray, List.set_cons_zero, List.set_cons_succ]
  refine takeH 3 (v := ?vva3) rfl (by kernel_rfl) (by kernel_rfl) (by kernel_rfl) (fun _ _ _ h => h) hH rfl ?yva3 ?rva3
  case yva3 => intro W hSw; go_simp; try with_reducible rfl
  try simp only [Act.put, List.setIfInBounds_toArray, List.set_cons_zero, List.set_cons_succ]
  refine takeH 5 (v := ?vva4) rfl (by kernel_rfl) (by kernel_rfl) (by kernel_rfl) (fun _ _ _ h => h) hH rfl ?yva4 ?rva4
  case yva4 => intro W hSw; go_simp; try with_reducible rfl
  try simp only [Act.put, List.setIfInBounds_toArray, List.set_cons_zero, List.set_cons_succ]
  refine takeH 6 (v := ?vva5) rfl (by kernel_rfl) (by kernel_rfl) (by kernel_rfl) (fun _ _ _ h => h) hH rfl ?yva5 ?rva5
  case yva5 => intro W hSw; go_simp; try with_reducible rfl
  try simp only [Act.put, List.setIfInBounds_toArray, List.set_cons_zero, List.set_cons_succ]
  refine takeH 7 (v := ?vva6) rfl (by kernel_rfl) (by kernel_rfl) (by kernel_rfl) (fun _ _ _ h => h) hH rfl ?yva6 ?rva6
  case yva6 => intro W hSw; go_simp; try with_reducible rfl
  try simp only [Act.put, List.setIfInBounds_toArray, List.set_cons_zero, List.set_cons_succ]
  refine takeH 8 (v := ?vva7) rfl (by kernel_rfl) (by kernel_rfl) (by kernel_rfl) (fun _ _ _ h => h) hH rfl ?yva7 ?rva7
  case yva7 => intro W hSw; go_simp; try with_reducible rfl
  try simp only [Act.put, List.setIfInBounds_toArray, List.set_cons_zero, List.set_cons_succ]
  refine callH 0 rfl (by kernel_rfl) rfl (fun K hK => ?_)
  go_simp
  refine hK.out _ _ trivial (fun hH => ?_)
  clear hK K
  try simp only [Act.put, List.setIfInBounds_toArray, List.set_cons_zero, List.set_cons_succ]
  have hga : w3.grownBy ((w3.alloc (.cells #[] 50)).drew) none := grownBy_drewN (World.grownBy_alloc w3 (.cells #[] 50) none) 1
  have hbn : Bld 50 2 ((w3.alloc (.cells #[] 50)).drew) w3.heap.size (.slice (some ⟨w3.heap.size, 0, none⟩) 0 0) [] := Bld.nil (World.ownsRow_made w3 #[] 0 (Nat.le_refl _) (by simp) (by simp))
  have hza : ((w3.alloc (.cells #[] 50)).drew).heap.size = w3.heap.size + 1 := by show (w3.alloc (.cells #[] 50)).heap.size = _; rw [World.size_alloc]
  have hA1 := HA.out.grown hga (fun r e => by cases e)
  have hB1 := HB.out.grown hga (fun r e => by cases e)
  have Hr5 := Lib.hid (Hr3.out.grown hga (fun r e => by cases e))
  have Hb5 := Lib.hid (Hb3.out.grown hga Hb3.out.size (fun r e => by cases e))
  generalize ((w3.alloc (.cells #[] 50)).drew) = w5 at *
  have Hza := Lib.hid hza; clear hza
  refine callH 4 rfl (by kernel_rfl) rfl (fun K hK => ?_)
  refine op_app_rows Try.underlying23 TCp rfl (by decide) (by decide) w5 (.tmp 75) (.tmp 78) rfl 0 (.slice (some ⟨w3.heap.size, 0, none⟩) 0 0) (.slice (some ⟨b, off, none⟩) k vc) [] _ fpA rfl (hbn.from0) rfl hA1 (fun e he => Hszs.out e (List.mem_of_mem_take he)) (fun r hr => ⟨Nat.zero_le _, fun e => by have := HAf.out r hr; simp [Value.ownBlock] at e; omega⟩) (by simp; omega) (by omega) ?_
  intro v6 w6 hbl6 hg6 hlo6
  rw [List.nil_append] at hbl6
  have hB2 := hB1.grown hg6 (fun r e hm => by have := HBf.out r hm; simp [Value.ownBlock] at e; omega)
  have hs6 := hg6.size
  have Hr6 := Lib.hid (Hr5.out.grown hg6 (fun r e hm => by have := Rd.lt Hr3.out r hm; simp [Value.ownBlock] at e; omega))
  have Hb6 := Lib.hid (Hb5.out.grown hg6 Hb5.out.size (fun q e => by have h : w3.heap.size = q := (by simpa [Value.ownBlock] using e); have := Hb3.out.size; omega))
  have hs5 : w3.heap.size ≤ w5.heap.size := by have := Hza.out; omega
  refine hK.out _ _ trivial (fun hH => ?_)
  clear hK K
  try simp only [Act.put, List.setIfInBounds_toArray, List.set_cons_zero, List.set_cons_succ]
  refine callH 9 rfl (by kernel_rfl) rfl (fun K hK => ?_)
  have hv6 : ∀ q, v6.ownBlock = some q → w3.heap.size ≤ q := fun q e => by
    rcases hlo6 q e with h | h
    · simp [Value.ownBlock] at h; omega
    · omega
  refine op_app_rows Try.underlying23 TCp rfl (by decide) (by decide) w6 (.tmp 79) (.tmp 83) rfl 0 v6 (.slice (some ⟨b, o2, none⟩) (l.length - (k + 1)) (vc - (k + 1))) _ _ fpB rfl hbl6 (by first | rfl | (rw [← hif]; rfl)) hB2 (fun e he => Hszs.out e (List.mem_of_mem_drop he)) (fun r hr => ⟨Nat.zero_le _, fun e => by have h1 := HBf.out r hr; have h2 := hv6 r e; omega⟩) (by simp; omega) (by omega) ?_
  intro v7 w7 hbl7 hg7 hlo7
  have Hr7 := Lib.hid (Hr6.out.grown hg7 (fun r e hm => by have h1 := Rd.lt Hr3.out r hm; have h2 := hv6 r e; omega))
  have Hb7 := Lib.hid (Hb6.out.grown hg7 Hb6.out.size (fun q e => by have h2 := hv6 q e; have := Hb3.out.size; omega))
  refine hK.out _ _ trivial (fun hH => ?_)
  clear hK K
  try simp only [Act.put, List.setIfInBounds_toArray, List.set_cons_zero, List.set_cons_succ]
  refine takeH 10 (v := ?vva8) rfl (by kernel_rfl) (by kernel_rfl) (by kernel_rfl) (fun _ _ _ h => h) hH rfl ?yva8 ?rva8
  case yva8 => intro W hSw; go_simp; try with_reducible rfl
  try simp only [Act.put, List.setIfInBounds_toArray, List.set_cons_zero, List.set_cons_succ]
  refine wpAnyH_done (by kernel_rfl) ?_ _
  try simp only [Act.put]
  obtain ⟨fpC, hC, _⟩ := hbl7.rd
  have hcc : Cps w7 (l.take k ++ l.drop (k + 1)) v7 fpC := by unfold Cps rowsD; rw [List.map_append, List.map_append, List.map_take, List.map_take, List.map_drop, List.map_drop]; exact hC
  obtain ⟨a7, c7, rfl⟩ := hcc.slice
  have hl' : (l.take k ++ l.drop (k + 1)).length = l.length - 1 := by rw [List.length_append, List.length_take, List.length_drop]; omega
  obtain ⟨hsb, hsv⟩ := Hsub.out (l.take k ++ l.drop (k + 1)) (sub_omit l k) (by rw [hl']; omega)
  have hc7 := cps_cap hcc (by omega)
  have htk : (l.take k ++ l.drop (k + 1)).take k = l.take k := by rw [List.take_append_of_le_length (by rw [List.length_take]; omega), List.take_take, Nat.min_self]
  generalize l.take k ++ l.drop (k + 1) = l' at *
  have hlk : k ≤ l'.length := by omega
  have hkc : k ≤ c7 := by omega
  have hkc' : (k : Int) ≤ (c7 : Int) := by omega
  have Hcc := Lib.hid hcc; have Htk := Lib.hid htk; have Hl' := Lib.hid hl'
  have Hsb := Lib.hid hsb; have Hsv := Lib.hid hsv
  have hlb : l'.length ≤ 7 := by omega
  clear hbl7 hbl6 hB2 hA1 hB1 hg7 hg6 hga hC hcc htk hl' hsb hsv hwk e1 hv6
  have HJ := impl_CoinJoin (n : Int) l' _ fpC w7 (by omega) Hcc.out
  rw [Hsb.out, Hsv.out] at HJ
  have HJ := Lib.hid HJ
  go_wp2_with fail
  refine HJ.out.mono ?_
  rintro e w8 ⟨rfl, hb8⟩
  have Hr8 := Lib.hid (Hr7.out.under hb8)
  have Hc8 := Lib.hid (Hcc.out.under hb8)
  have Hb8 := Lib.hid (below_step Hb7.out Hb7.out.size hb8); clear hb8
  have hvv : (V == V) = true := by simp
  obtain ⟨fq, hq⟩ := cp_cut Hr8.out (k := k) (by omega)
  obtain ⟨fq2, hq2⟩ := cp_cut Hc8.out (k := k) (by omega)
  rw [Htk.out] at hq2
  have Hq := Lib.hid hq; have Hq2 := Lib.hid hq2; clear hq hq2
  have hlt : (l.take k).length = k := by rw [List.length_take]; omega
  have Hlt := Lib.hid hlt; clear hlt
  go_wp2_with fail
  refine wp_region_held_drew (S := fun _ => True) (by kernel_rfl) trivial (fun hH => ?_)
  have Hq := Lib.hid (show Cps w8.drew _ _ fq from Hq.out.under (Below.refl _ _).drew)
  have Hq2 := Lib.hid (show Cps w8.drew _ _ fq2 from Hq2.out.under (Below.refl _ _).drew)
  have Hb9 := Lib.hid Hb8.out.drew
  have HSP := Lib.hid (laws_sameParts (l.take k) _ _ fq fq2 w8.drew (by have := Hlt.out; omega) Hq.out Hq2.out)
  clear Hq Hq2
  generalize w8.drew = w9 at *
  refine takeH 0 (v := ?vvb1) rfl (by kernel_rfl) (by kernel_rfl) (by kernel_rfl) (fun _ _ _ h => h) hH rfl ?yvb1 ?rvb1
  case yvb1 => intro W hSw; go_simp; try with_reducible rfl
  try simp only [Act.put, List.setIfInBounds_toArray, List.set_cons_zero, List.set_cons_succ]
  refine takeH 1 (v := ?vvb2) rfl (by kernel_rfl) (by kernel_rfl) (by kernel_rfl) (fun _ _ _ h => h) hH rfl ?yvb2 ?rvb2
  case yvb2 => intro W hSw; go_simp; try with_reducible rfl
  try simp only [Act.put, List.setIfInBounds_toArray, List.set_cons_zero, List.set_cons_succ]
  refine takeH 2 (v := ?vvb3) rfl (by kernel_rfl) (by kernel_rfl) (by kernel_rfl) (fun _ _ _ h => h) hH rfl ?yvb3 ?rvb3
  case yvb3 => intro W hSw; go_simp; try with_reducible rfl
  try simp only [Act.put, List.setIfInBounds_toArray, List.set_cons_zero, List.set_cons_succ]
  refine takeH 3 (v := ?vvb4) rfl (by kernel_rfl) (by kernel_rfl) (by kernel_rfl) (fun _ _ _ h => h) hH rfl ?yvb4 ?rvb4
  case yvb4 => intro W hSw; go_simp; try with_reducible rfl
  try simp only [Act.put, List.setIfInBounds_toArray, List.set_cons_zero, List.set_cons_succ]
  refine takeH 4 (v := ?vvb5) rfl (by kernel_rfl) (by kernel_rfl) (by kernel_rfl) (fun _ _ _ h => h) hH rfl ?yvb5 ?rvb5
  case yvb5 => intro W hSw; go_simp; try with_reducible rfl
  try simp only [Act.put, List.setIfInBounds_toArray, List.set_cons_zero, List.set_cons_succ]
  refine takeH 5 (v := ?vvb6) rfl (by kernel_rfl) (by kernel_rfl) (by kernel_rfl) (fun _ _ _ h => h) hH rfl ?yvb6 ?rvb6
  case yvb6 => intro W hSw; go_simp; try with_reducible rfl
  try simp only [Act.put, List.setIfInBounds_toArray, List.set_cons_zero, List.set_cons_succ]
  refine takeH 6 (v := ?vvb7) rfl (by kernel_rfl) (by kernel_rfl) (by kernel_rfl) (fun _ _ _ h => h) hH rfl ?yvb7 ?rvb7
  case yvb7 => intro W hSw; go_simp; try with_reducible rfl
  try simp only [Act.put, List.setIfInBounds_toArray, List.set_cons_zero, List.set_cons_succ]
  refine takeH 7 (v := ?vvb8) rfl (by kernel_rfl) (by kernel_rfl) (by kernel_rfl) (fun _ _ _ h => h) hH rfl ?yvb8 ?rvb8
  case yvb8 => intro W hSw; go_simp; try with_reducible rfl
  try simp only [Act.put, List.setIfInBounds_toArray, List.set_cons_zero, List.set_cons_succ]
  refine takeH 8 (v := ?vvb9) rfl (by kernel_rfl) (by kernel_rfl) (by kernel_rfl) (fun _ _ _ h => h) hH rfl ?yvb9 ?rvb9
  case yvb9 => intro W hSw; go_simp; try with_reducible rfl
  try simp only [Act.put, List.setIfInBounds_toArray, List.set_cons_zero, List.set_cons_succ]
  refine takeH 9 (v := ?vvb10) rfl (by kernel_rfl) (by kernel_rfl) (by kernel_rfl) (fun _ _ _ h => h) hH rfl ?yvb10 ?rvb10
  case yvb10 => intro W hSw; go_simp; try with_reducible rfl
  try simp only [Act.put, List.setIfInBounds_toArray, List.set_cons_zero, List.set_cons_succ]
  refine takeH 10 (v := ?vvb11) rfl (by kernel_rfl) (by kernel_rfl) (by kernel_rfl) (fun _ _ _ h => h) hH rfl ?yvb11 ?rvb11
  case yvb11 => intro W hSw; go_simp; try with_reducible rfl
  try simp only [Act.put, List.setIfInBounds_toArray, List.set_cons_zero, List.set_cons_succ]
  refine takeH 11 (v := ?vvb12) rfl (by kernel_rfl) (by kernel_rfl) (by kernel_rfl) (fun _ _ _ h => h) hH rfl ?yvb12 ?rvb12
  case yvb12 => intro W hSw; go_simp; try with_reducible rfl
  try simp only [Act.put, List.setIfInBounds_toArray, List.set_cons_zero, List.set_cons_succ]
  refine takeH 12 (v := ?vvb13) rfl (by kernel_rfl) (by kernel_rfl) (by kernel_rfl) (fun _ _ _ h => h) hH rfl ?yvb13 ?rvb13
  case yvb13 => intro W hSw; go_simp; try with_reducible rfl
  try simp only [Act.put, List.setIfInBounds_toArray, List.set_cons_zero, List.set_cons_succ]
  refine callH 13 rfl (by kernel_rfl) rfl (fun K hK => ?_)
  go_simp
  refine HSP.out.mono ?_
  rintro e w10 ⟨rfl, hd10⟩
  have Hb10 := Lib.hid (below_step Hb9.out Hb9.out.size (hd10.below _)); clear hd10
  refine hK.out _ _ trivial (fun hH => ?_)
  clear hK K
  try simp only [Act.put, List.setIfInBounds_toArray, List.set_cons_zero, List.set_cons_succ]
  refine takeH 14 (v := ?vvb14) rfl (by kernel_rfl) (by kernel_rfl) (by kernel_rfl) (fun _ _ _ h => h) hH rfl ?yvb14 ?rvb14
  case yvb14 => intro W hSw; go_simp; try with_reducible rfl
  try simp only [Act.put, List.setIfInBounds_toArray, List.set_cons_zero, List.set_cons_succ]
  refine takeH 15 (v := ?vvb15) rfl (by kernel_rfl) (by kernel_rfl) (by kernel_rfl) (fun _ _ _ h => h) hH rfl ?yvb15 ?rvb15
  case yvb15 => intro W hSw; go_simp; try with_reducible rfl
  try simp only [Act.put, List.setIfInBounds_toArray, List.set_cons_zero, List.set_cons_succ]
  refine wpAnyH_done (by kernel_rfl) ?_ _
  try simp only [Act.put]
  go_wp2
  go_ret
  exact ⟨by first | rfl | exact ret_bool (by simp), Hb10.out⟩

theorem fnCoinJoinRange_own : ownKnob Try.prog.godebug = none := by kernel_rfl
theorem fnCoinJoinRange_laidOut : laidOutB Try.prog = true := by kernel_rfl

set_option maxRecDepth 8000 in
theorem fnCoinJoinRange_lifted (os : Os) (started : os.Started) (H : Type) (enc : TypeId × Value → H) :
    ReturnsInHanded {} Try.checked os 3 .any (Rows.fnCoinJoinRangeSpec.pre6 enc Try.prog Try.f3 Rows.fnCoinJoinRangeRow.domain false) (Rows.fnCoinJoinRangeSpec.post enc Try.prog Try.f3 false true false false) := by
  refine law_lifted (C := Try.checked) (tb := 4) fnCoinJoinRange_own fnCoinJoinRange_laidOut started (by kernel_rfl) Try.func3 rfl Try.underlying4 rfl (by rw [Try.params3]; exact of_decide_eq_true (by kernel_rfl)) ?_
    (ChangeSpec.witness6 (enc := enc) (C := Try.checked) false ⟨#[], #[.slice none 0 0, .slice none 0 0], []⟩ 8 (by kernel_rfl) (by kernel_rfl) (by kernel_rfl) (by kernel_rfl)) ?_
  · intro ds hds
    rw [Try.params3] at hds
    match ds, hds with
    | [d0, d1], _ => rfl
  · intro W base args ds p hval0 hA0
    have hval : ∀ (j : Nat) t v, Try.f3.params[j]? = some t → args[j]? = some v → Value.okWide Try.prog W .any base t v := hval0
    have hA : DataW.TrodAll enc Try.prog W 0 (fun _ => true) true Try.f3.params.toList args.toList ds p := hA0
    rw [Try.params3] at hA hval
    obtain ⟨v0, vs0, d0, ds0, p0, q0, hargs0, rfl, rfl, h0, r0⟩ := trodAll_cons hA
    obtain ⟨v1, vs1, d1, ds1, p1, q1, hargs1, rfl, rfl, h1, r1⟩ := trodAll_cons r0
    obtain ⟨hnil, rfl, rfl⟩ := trodAll_nil r1
    subst hnil
    subst hargs1
    obtain rfl : args = #[v0, v1] := by cases args; simp_all
    obtain ⟨a0, cap0, zs0, rfl, hk0, hm0, hi0, hw0⟩ := open_slice_ints Try.underlying22 Try.underlying5 (by kernel_rfl) (hval 0 22 v0 rfl rfl) h0
    obtain ⟨a1, cap1, zs1, rfl, hk1, hm1, hi1, hw1⟩ := open_slice_ints Try.underlying22 Try.underlying5 (by kernel_rfl) (hval 1 22 v1 rfl rfl) h1
    exact fnCoinJoinRange_walk a0 cap0 zs0 a1 cap1 zs1 W hk0 hm0 hi0 hw0 hk1 hm1 hi1 hw1

theorem fnCoinJoinRange_holds : Rows.FnCoinJoinRangeSaid :=
  OpenClaim.holds_of_wide 3 Try.f3 rfl rfl rfl rfl rfl rfl rfl ⟨rfl, rfl, rfl, rfl, rfl⟩ rfl rfl rfl rfl rfl (by kernel_rfl) Try.func3 (by kernel_rfl)
    (of_decide_eq_true (by kernel_rfl)) (by unfold Func.isWrapper; first | (rw [if_pos (by decide +kernel)]; kernel_rfl) | (rw [if_neg (by decide +kernel)]; exact ⟨rfl, rfl⟩))
    (fun os started H enc _ => fnCoinJoinRange_lifted os started H enc)

end Go.Proofs.Ytkndndcjchlpdab
