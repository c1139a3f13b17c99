/- Law FnCoinAll holds for every input; no conditions of our own. -/
import Derived.Test.YtekpapodepachaaRows
import Derived.Test.YtekpapodepachaaBu0
import Derived.Test.YtekpapodepachaaBu2
import Derived.Test.YtekpapodepachaaBu1
import Derived.Deep.QuietTactic
import Derived.BigQuiet
namespace Go.Proofs.Ytekpapodepachaa
open Go.ChangeShapes Go.WideShapes Go.ChangeAt Go.RowKit

set_option maxHeartbeats 4000000 in
theorem fnCoinAll_walk (a : Option Addr) (cap : Nat) (zs : List Int) (a' : Option Addr) (cap' : Nat) (ms : List Int) (w : World) (hk : zs.length ≤ cap) (_hm : zs.length ≤ maxLen) (hi : zs = [] ∨ ∃ b off, a = some ⟨b, off, none⟩ ∧ b < w.heap.size ∧ ∀ j (h : j < zs.length), w.cell? ⟨b, off + j, none⟩ = some (.int .u8 zs[j])) (hw : ∀ z ∈ zs, (Lit.int .u8 z).wf = true)
    (_hk' : ms.length ≤ cap') (hm' : ms.length ≤ maxLen) (_hi' : ms = [] ∨ ∃ b off, a' = some ⟨b, off, none⟩ ∧ b < w.heap.size ∧ ∀ j (h : j < ms.length), w.cell? ⟨b, off + j, none⟩ = some (.int .u8 ms[j])) (_hw' : ∀ z ∈ ms, (Lit.int .u8 z).wf = true) :
    Calls Try.prog 4 #[.slice a zs.length cap, .slice a' ms.length cap'] w fun e w' => e = .returned (.bool true) ∧ Below w.heap.size w w' := by
  unfold maxLen at hm'
  by_cases hl : 1048576 < zs.length
  · go_enter Try.func4, Try.ntmps4
    go_wp2
    go_ret
    exact ⟨rfl, Below.refl _ _⟩
  by_cases hl' : 1048576 < ms.length
  · go_enter Try.func4, Try.ntmps4
    go_wp2
    go_ret
    exact ⟨rfl, Below.refl _ _⟩
  have hcode := codeAt_of hk (by omega) hi hw
  have Hcode := Lib.hid hcode; clear hcode hi hw
  go_enter Try.func4, Try.ntmps4
  go_wp2_with fail
  refine (spec_DrawCoinDeal a cap zs _ Hcode.out).mono ?_
  rintro e1 w1 ⟨d, ud, many, rfl, ho, hd5, hb1⟩
  obtain ⟨ad, cd, rfl, _, _⟩ := ho.ints
  have hw0 := hb1.size
  have Td := Lib.hid ho; have Hb := Lib.hid hb1
  clear ho hb1
  obtain ⟨S, hS⟩ : ∃ S, S = cdL d many := ⟨_, rfl⟩
  have hS7 : S.length ≤ 7 := by rw [hS]; exact cdL_len d many
  have HI := Lib.hid (fun W (h : IntsAt W ad d) => impl_CoinDeal ad cd d many W (by omega) h)
  have HS := Lib.hid (fun W (h : IntsAt W ad d) => spec_CoinDeal ad cd d many W (by omega) h)
  rw [← hS] at HI HS
  have HSe := Lib.hid hS; have Hd5 := Lib.hid hd5; have HS7 := Lib.hid hS7
  clear hS
  go_wp2_with fail
  refine (HI.out _ Td.out.at).mono ?_
  rintro e w2 ⟨v, rfl, ho, hb⟩
  have hwb := Hb.out.size
  obtain ⟨ao, co, rfl, _, _⟩ := ho.ints
  have ho' := Lib.hid (ho.mono (show w.heap.size ≤ _ by omega))
  clear ho
  have Td := Lib.hid (show Own 3 w2 w.heap.size (.slice ad d.length cd) (d) from Td.out.below hb)
  have hsw2 := hb.size
  have Hb := Lib.hid (below_step Hb.out Hb.out.size hb)
  have To := Lib.hid (show Own 3 w2 w.heap.size (.slice ao (S).length co) (S) from ho'.out)
  clear ho' hb hwb
  go_wp2_with fail
  refine (HS.out _ Td.out.at).mono ?_
  rintro e w3 ⟨v, rfl, ho, hb⟩
  have hwb := Hb.out.size
  obtain ⟨ak, ck, rfl, _, _⟩ := ho.ints
  have ho' := Lib.hid (ho.mono (show w.heap.size ≤ _ by omega))
  clear ho
  have Td := Lib.hid (show Own 3 w3 w.heap.size (.slice ad d.length cd) (d) from Td.out.below hb)
  have To := Lib.hid (show Own 3 w3 w.heap.size (.slice ao (S).length co) (S) from To.out.below hb)
  have hsw3 := hb.size
  have Hb := Lib.hid (below_step Hb.out Hb.out.size hb)
  have Tk := Lib.hid (show Own 3 w3 w.heap.size (.slice ak (S).length ck) (S) from ho'.out)
  clear ho' hb hwb
  clear HI HS
  go_wp2_with fail
  refine (same_ints _ _ _ _ S _ (by omega) To.out.at Tk.out.at).mono ?_
  rintro e w4 ⟨rfl, hb⟩
  have Td := Lib.hid (show Own 3 w4 w.heap.size (.slice ad d.length cd) (d) from Td.out.below hb)
  have To := Lib.hid (show Own 3 w4 w.heap.size (.slice ao (S).length co) (S) from To.out.below hb)
  have Tk := Lib.hid (show Own 3 w4 w.heap.size (.slice ak (S).length ck) (S) from Tk.out.below hb)
  have hsw4 := hb.size
  have Hb := Lib.hid (below_step Hb.out Hb.out.size hb)
  clear hb
  have hcb : cdB d many = true ∨ cdB d many = false := by cases cdB d many <;> simp
  rcases hcb with hcb | hcb
  case inr =>
    have hS0 : S.length = 0 := by rw [HSe.out, cdL_no hcb]; rfl
    have hz : ((S.length : Int) == 0) = true := by rw [beq_iff_eq]; omega
    clear hcb hS0
    go_wp2_with fail
    refine (same_ints _ _ _ _ S _ (by omega) To.out.at Tk.out.at).mono ?_
    rintro e w5 ⟨rfl, hb⟩
    have Td := Lib.hid (show Own 3 w5 w.heap.size (.slice ad d.length cd) (d) from Td.out.below hb)
    have To := Lib.hid (show Own 3 w5 w.heap.size (.slice ao (S).length co) (S) from To.out.below hb)
    have Tk := Lib.hid (show Own 3 w5 w.heap.size (.slice ak (S).length ck) (S) from Tk.out.below hb)
    have hsw5 := hb.size
    have Hb := Lib.hid (below_step Hb.out Hb.out.size hb)
    clear hb
    go_wp2
    go_ret
    exact ⟨by first | rfl | exact ret_bool (by simp) | exact ret_bool (by simp; omega), Hb.out⟩
  obtain ⟨hp, hc1, hc2⟩ : polyB d = true ∧ (d.length : Int) ≤ many ∧ many ≤ 7 := by unfold cdB at hcb; rw [Bool.and_eq_true, decide_eq_true_eq] at hcb; exact hcb
  obtain ⟨m, rfl⟩ : ∃ m : Nat, many = m := ⟨many.toNat, by omega⟩
  obtain ⟨hpa, hd1, hd7⟩ := polyB_at hp
  have hSc : S = cdS d m := HSe.out.trans (cdL_yes hp (by omega) (by omega))
  have hSm : S.length = m := by rw [hSc, cdS_len]
  have hz : ((S.length : Int) == 0) = false := by rw [beq_eq_false_iff_ne]; omega
  have Hp := Lib.hid hp; have HSc := Lib.hid hSc; have HSm := Lib.hid hSm; clear hcb hp hpa hSc hSm hS7
  have hS7 := HS7.out
  have hm7 : m ≤ 7 := by omega
  have hdm : d.length ≤ m := by omega
  have hmpos : 0 < m := by omega
  have hml : ms.length ≤ 1048576 := by omega
  clear Tk
  obtain ⟨t, ht⟩ : ∃ t : Nat, t = ms.length % 15 := ⟨_, rfl⟩
  have ht15 : t < 15 := by rw [ht]; exact Nat.mod_lt _ (by omega)
  have v1 : ((ms.length : Int)).tmod 15 = (t : Int) := by rw [Int.tmod_eq_emod_of_nonneg (by omega), ht]; simp
  have v2 : IntKind.i64.wrap (1 + (t : Int)) = 1 + (t : Int) := IntWalk.i64_in _ (by omega)
  clear ht
  have hP := fun W (h : IntsAt W ao S) => laws_partsOf ao co S (1 + (t : Int)) 0 m W hS7 (by omega) (by omega) h
  rw [show pzL S (1 + (t : Int)) 0 m S.length = ptL d (1 + (t : Int)) (selN m 0 m) from by rw [HSm.out, HSc.out]; exact pz_deal d _ m _ _] at hP
  rw [show ((0 : Nat) : Int) = 0 from rfl] at hP
  obtain ⟨Pp, hPp⟩ : ∃ P, P = ptL d (1 + (t : Int)) (selN m 0 m) := ⟨_, rfl⟩
  rw [← hPp] at hP
  have HP := Lib.hid hP; clear hP
  have HPep := Lib.hid hPp; clear hPp
  go_wp2_with fail
  refine (HP.out _ To.out.at).mono ?_
  rintro e1 w5 ⟨up, rfl, ho, hb⟩
  have hwb := Hb.out.size
  obtain ⟨ap, cp, rfl, _⟩ := OwnC.sl (l := Pp) ho
  have ho' := Lib.hid (OwnN.mono ho (show w.heap.size ≤ _ by omega))
  clear ho
  have Td := Lib.hid (show Own 3 w5 w.heap.size (.slice ad d.length cd) (d) from Td.out.below hb)
  have To := Lib.hid (show Own 3 w5 w.heap.size (.slice ao (S).length co) (S) from To.out.below hb)
  have hsw5 := hb.size
  have Hb := Lib.hid (below_step Hb.out Hb.out.size hb)
  have Tp := Lib.hid (show OwnC 35 w5 w.heap.size (.slice ap Pp.length cp) Pp from ho'.out)
  clear ho' hb hwb HP
  have HPlp := Lib.hid (show Pp.length = m from by rw [HPep.out, ptL_len]; exact selN_len hmpos hm7 (by omega))
  obtain ⟨fp, hrp⟩ := OwnC.cps (l := Pp) Tp.out
  have hJ := impl_CoinJoin (d.length : Int) Pp _ fp w5 (by have := HPlp.out; omega) hrp
  obtain ⟨j1, j2⟩ : cjB (d.length : Int) Pp = true ∧ cjV (d.length : Int) Pp = cmZ (d.getD 0 0) (1 + (t : Int)) := by rw [HPep.out]; exact pt_join Hp.out (by omega) (by omega) (selN_asc _ _ _) (fun i hi => by have := selN_lt i hi; omega) (by rw [selN_len hmpos hm7 (by omega)]; omega)
  rw [j1, j2] at hJ
  clear j1 j2
  have HJ := Lib.hid hJ; clear hJ
  clear hrp
  go_wp2_with fail
  refine (HJ.out).mono ?_
  rintro e w6 ⟨rfl, hb⟩
  have Td := Lib.hid (show Own 3 w6 w.heap.size (.slice ad d.length cd) (d) from Td.out.below hb)
  have To := Lib.hid (show Own 3 w6 w.heap.size (.slice ao (S).length co) (S) from To.out.below hb)
  have Tp := Lib.hid (show OwnC 35 w6 w.heap.size (.slice ap Pp.length cp) (Pp) from OwnN.below Tp.out hb)
  have hsw6 := hb.size
  have Hb := Lib.hid (below_step Hb.out Hb.out.size hb)
  clear hb
  clear HJ
  have hP := fun W (h : IntsAt W ao S) => laws_partsOf ao co S (1 + (t : Int)) ms.length d.length W hS7 (by omega) (by omega) h
  rw [show pzL S (1 + (t : Int)) ms.length d.length S.length = ptL d (1 + (t : Int)) (selN m ms.length d.length) from by rw [HSm.out, HSc.out]; exact pz_deal d _ m _ _] at hP
  obtain ⟨Pq, hPq⟩ : ∃ P, P = ptL d (1 + (t : Int)) (selN m ms.length d.length) := ⟨_, rfl⟩
  rw [← hPq] at hP
  have HP := Lib.hid hP; clear hP
  have HPeq := Lib.hid hPq; clear hPq
  go_wp2_with fail
  refine (HP.out _ To.out.at).mono ?_
  rintro e1 w7 ⟨up, rfl, ho, hb⟩
  have hwb := Hb.out.size
  obtain ⟨aq, cq, rfl, _⟩ := OwnC.sl (l := Pq) ho
  have ho' := Lib.hid (OwnN.mono ho (show w.heap.size ≤ _ by omega))
  clear ho
  have Td := Lib.hid (show Own 3 w7 w.heap.size (.slice ad d.length cd) (d) from Td.out.below hb)
  have To := Lib.hid (show Own 3 w7 w.heap.size (.slice ao (S).length co) (S) from To.out.below hb)
  have Tp := Lib.hid (show OwnC 35 w7 w.heap.size (.slice ap Pp.length cp) (Pp) from OwnN.below Tp.out hb)
  have hsw7 := hb.size
  have Hb := Lib.hid (below_step Hb.out Hb.out.size hb)
  have Tq := Lib.hid (show OwnC 35 w7 w.heap.size (.slice aq Pq.length cq) Pq from ho'.out)
  clear ho' hb hwb HP
  have HPlq := Lib.hid (show Pq.length = d.length from by rw [HPeq.out, ptL_len]; exact selN_len hmpos hm7 (by omega))
  obtain ⟨fq, hrq⟩ := OwnC.cps (l := Pq) Tq.out
  have hJ := impl_CoinJoin (d.length : Int) Pq _ fq w7 (by have := HPlq.out; omega) hrq
  obtain ⟨j1, j2⟩ : cjB (d.length : Int) Pq = true ∧ cjV (d.length : Int) Pq = cmZ (d.getD 0 0) (1 + (t : Int)) := by rw [HPeq.out]; exact pt_join Hp.out (by omega) (by omega) (selN_asc _ _ _) (fun i hi => by have := selN_lt i hi; omega) (by rw [selN_len hmpos hm7 (by omega)]; omega)
  rw [j1, j2] at hJ
  clear j1 j2
  have HJ := Lib.hid hJ; clear hJ
  clear hrq
  go_wp2_with fail
  refine (HJ.out).mono ?_
  rintro e w8 ⟨rfl, hb⟩
  have Td := Lib.hid (show Own 3 w8 w.heap.size (.slice ad d.length cd) (d) from Td.out.below hb)
  have To := Lib.hid (show Own 3 w8 w.heap.size (.slice ao (S).length co) (S) from To.out.below hb)
  have Tp := Lib.hid (show OwnC 35 w8 w.heap.size (.slice ap Pp.length cp) (Pp) from OwnN.below Tp.out hb)
  have Tq := Lib.hid (show OwnC 35 w8 w.heap.size (.slice aq Pq.length cq) (Pq) from OwnN.below Tq.out hb)
  have hsw8 := hb.size
  have Hb := Lib.hid (below_step Hb.out Hb.out.size hb)
  clear hb
  clear HJ
  go_wp2
  go_ret
  exact ⟨by first | rfl | exact ret_bool (by simp) | exact ret_bool (by simp; omega), Hb.out⟩

theorem fnCoinAll_own : ownKnob Try.prog.godebug = none := by kernel_rfl
theorem fnCoinAll_laidOut : laidOutB Try.prog = true := by kernel_rfl

set_option maxRecDepth 8000 in
theorem fnCoinAll_lifted (os : Os) (started : os.Started) (H : Type) (enc : TypeId × Value → H) :
    ReturnsInHanded {} Try.checked os 4 .any (Rows.fnCoinAllSpec.pre6 enc Try.prog Try.f4 Rows.fnCoinAllRow.domain false) (Rows.fnCoinAllSpec.post enc Try.prog Try.f4 false true false false) := by
  refine law_lifted (C := Try.checked) (tb := 4) fnCoinAll_own fnCoinAll_laidOut started (by kernel_rfl) Try.func4 rfl Try.underlying4 rfl (by rw [Try.params4]; exact of_decide_eq_true (by kernel_rfl)) ?_
    (ChangeSpec.witness6 (enc := enc) (C := Try.checked) false ⟨#[], #[.slice none 0 0, .slice none 0 0], []⟩ 8 (by kernel_rfl) (by kernel_rfl) (by kernel_rfl) (by kernel_rfl)) ?_
  · intro ds hds
    rw [Try.params4] at hds
    match ds, hds with
    | [d0, d1], _ => rfl
  · intro W base args ds p hval0 hA0
    have hval : ∀ (j : Nat) t v, Try.f4.params[j]? = some t → args[j]? = some v → Value.okWide Try.prog W .any base t v := hval0
    have hA : DataW.TrodAll enc Try.prog W 0 (fun _ => true) true Try.f4.params.toList args.toList ds p := hA0
    rw [Try.params4] at hA hval
    obtain ⟨v0, vs0, d0, ds0, p0, q0, hargs0, rfl, rfl, h0, r0⟩ := trodAll_cons hA
    obtain ⟨v1, vs1, d1, ds1, p1, q1, hargs1, rfl, rfl, h1, r1⟩ := trodAll_cons r0
    obtain ⟨hnil, rfl, rfl⟩ := trodAll_nil r1
    subst hnil
    subst hargs1
    obtain rfl : args = #[v0, v1] := by cases args; simp_all
    obtain ⟨a0, cap0, zs0, rfl, hk0, hm0, hi0, hw0⟩ := open_slice_ints Try.underlying22 Try.underlying5 (by kernel_rfl) (hval 0 22 v0 rfl rfl) h0
    obtain ⟨a1, cap1, zs1, rfl, hk1, hm1, hi1, hw1⟩ := open_slice_ints Try.underlying22 Try.underlying5 (by kernel_rfl) (hval 1 22 v1 rfl rfl) h1
    exact fnCoinAll_walk a0 cap0 zs0 a1 cap1 zs1 W hk0 hm0 hi0 hw0 hk1 hm1 hi1 hw1

set_option maxRecDepth 8000 in
theorem fnCoinAll_holds : Rows.FnCoinAllSaid :=
  OpenClaim.holds_of_wide 4 Try.f4 rfl rfl rfl rfl rfl rfl rfl ⟨rfl, rfl, rfl, rfl, rfl⟩ rfl rfl rfl rfl rfl (by kernel_rfl) Try.func4 (by kernel_rfl)
    (of_decide_eq_true (by kernel_rfl)) (by unfold Func.isWrapper; first | (rw [if_pos (by decide +kernel)]; kernel_rfl) | (rw [if_neg (by decide +kernel)]; exact ⟨rfl, rfl⟩))
    (fun os started H enc _ => fnCoinAll_lifted os started H enc)

end Go.Proofs.Ytekpapodepachaa
