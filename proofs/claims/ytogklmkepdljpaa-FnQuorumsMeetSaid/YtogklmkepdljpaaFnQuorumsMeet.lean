/- Law FnQuorumsMeet holds for every input; no conditions of our own. -/
import Derived.Test.YtogklmkepdljpaaRows
import Derived.Test.YtogklmkepdljpaaBase
import Derived.Test.YtogklmkepdljpaaLift
import Derived.Test.YtogklmkepdljpaaC1
import Derived.Test.YtogklmkepdljpaaL1
import Derived.Test.YtogklmkepdljpaaM1
import Derived.Test.YtogklmkepdljpaaRd
import Derived.Test.YtogklmkepdljpaaD1
namespace Go.Proofs.Ytogklmkepdljpaa
open Go.ChangeShapes Go.WideShapes Go.ChangeAt Go.RowKit

theorem fnQuorumsMeet_walk (a : Option Addr) (cap : Nat) (zs : List Int) (a' : Option Addr) (cap' : Nat) (ms : List Int) (w : World) (hk : zs.length ≤ cap) (_hm : zs.length ≤ maxLen) (hi : zs = [] ∨ ∃ b off, a = some ⟨b, off, none⟩ ∧ b < w.heap.size ∧ ∀ j (h : j < zs.length), w.cell? ⟨b, off + j, none⟩ = some (.int .u8 zs[j])) (hw : ∀ z ∈ zs, (Lit.int .u8 z).wf = true)
    (_hk' : ms.length ≤ cap') (hm' : ms.length ≤ maxLen) (_hi' : ms = [] ∨ ∃ b off, a' = some ⟨b, off, none⟩ ∧ b < w.heap.size ∧ ∀ j (h : j < ms.length), w.cell? ⟨b, off + j, none⟩ = some (.int .u8 ms[j])) (_hw' : ∀ z ∈ ms, (Lit.int .u8 z).wf = true) :
    Calls Try.prog 7 #[.slice a zs.length cap, .slice a' ms.length cap'] w fun e w' => e = .returned (.bool true) ∧ Below w.heap.size w w' := by
  unfold maxLen at hm'
  by_cases hl : 1048576 < zs.length
  · go_enter Try.func7, Try.ntmps7
    go_wp2
    go_ret
    exact ⟨rfl, Below.refl _ _⟩
  by_cases hl' : 1048576 < ms.length
  · go_enter Try.func7, Try.ntmps7
    go_wp2
    go_ret
    exact ⟨rfl, Below.refl _ _⟩
  have hcode := codeAt_of hk (by omega) hi hw
  have Hcode := Lib.hid hcode; clear hcode hi hw
  go_enter Try.func7, Try.ntmps7
  go_wp2_with fail
  refine (spec_DrawCommitteeQuorum a cap zs _ Hcode.out).mono ?_
  rintro e w1 ⟨v, xs, rfl, hown, hxl, hsm, hb1⟩
  obtain ⟨ac, cc, rfl, hic, _⟩ := hown.ints
  have Hc := Lib.hid hic; clear hic
  have Hown := Lib.hid hown; clear hown
  clear hsm
  have hI := impl_CommitteeQuorum ac cc xs w1 (by omega) Hc.out
  have hS := spec_CommitteeQuorum ac cc xs w1 (by omega) Hc.out
  cases hv : validB xs with
  | false =>
    rw [orNo_no hv] at hI hS
    have HI := Lib.hid hI; clear hI
    have HS := Lib.hid hS; clear hS
    clear hv
    go_wp2_with fail
    refine HI.out.mono ?_
    rintro e w2 ⟨rfl, rfl⟩
    go_wp2_with fail
    refine HS.out.mono ?_
    rintro e w2 ⟨rfl, rfl⟩
    go_wp2
    go_ret
    exact ⟨rfl, hb1⟩
  | true =>
    rw [orNo_yes hv] at hI hS
    have hbd := totalZ_bd hv
    have Hv := Lib.hid hv; clear hv
    have HI := Lib.hid hI; clear hI
    have HS := Lib.hid hS; clear hS
    go_wp2_with fail
    refine HI.out.mono ?_
    rintro e w2 ⟨rfl, rfl⟩
    go_wp2_with fail
    refine HS.out.mono ?_
    rintro e w2 ⟨rfl, rfl⟩
    go_wp2_with fail
    refine (laws_subset' xs.length ((zs.length : Int) * 37 + ms.length * 11) _ (by omega) (by omega) (by omega)).mono ?_
    rintro e s2 ⟨v2, rfl, hown2, hb2⟩
    generalize ((zs.length : Int) * 37 + ms.length * 11).toNat = n2 at hown2
    have hl2 := rangeF_len (bitB n2) xs.length
    obtain ⟨a2, c2, rfl, hi2, _⟩ := hown2.ints
    have Hi2 := Lib.hid hi2; clear hi2 hown2
    go_wp2_with fail
    refine (laws_subset' xs.length ((ms.length : Int) * 53 + zs.length) _ (by omega) (by omega) (by omega)).mono ?_
    rintro e s3 ⟨v3, rfl, hown3, hb3⟩
    generalize ((ms.length : Int) * 53 + zs.length).toNat = n3 at hown3
    have hl3 := rangeF_len (bitB n3) xs.length
    obtain ⟨a3, c3, rfl, hi3, _⟩ := hown3.ints
    have Hi3 := Lib.hid hi3; clear hi3 hown3
    have hA := ascP_rangeF (bitB n2) xs.length
    have hB := ascP_rangeF (bitB n3) xs.length
    have hmeet := weights_meet Hv.out hA hB
    have hwa := weight_bd Hv.out hA
    have hwb := weight_bd Hv.out hB
    have hwc := weight_bd Hv.out (ascP_common (b := rangeF (bitB n3) xs.length) hA)
    have hb2' := below_step hb1 hb1.size hb2
    have hb3' := below_step hb2' hb2'.size hb3
    have Hc3 := Lib.hid ((Hc.out.below hb2).below hb3)
    have Hi23 := Lib.hid (Hi2.out.below hb3)
    have hMa := impl_MembersWeight ac cc xs a2 c2 _ s3 (by omega) (by omega) Hc3.out Hi23.out
    have hMb := impl_MembersWeight ac cc xs a3 c3 _ s3 (by omega) (by omega) Hc3.out Hi3.out
    rw [mwZ_of Hv.out hA] at hMa
    rw [mwZ_of Hv.out hB] at hMb
    have hcl : (commonZ (rangeF (bitB n2) xs.length) (rangeF (bitB n3) xs.length)).length ≤ 11 := Nat.le_trans (commonTo_len _ _ _) (by omega)
    have hCm := laws_common a2 a3 c2 c3 _ _ s3 (by omega) (by omega) Hi23.out Hi3.out
    have hmc := mwZ_of Hv.out (ascP_common (b := rangeF (bitB n3) xs.length) hA)
    have hF := impl_CommitteeFaults ac cc xs
    have hcp := True.intro
    rw [orNo_yes Hv.out] at hF
    have HF := Lib.hid hF; clear hF
    have Hmc := Lib.hid hmc; clear hmc
    generalize weightZ xs (commonZ _ _) = wc at hmeet hwc Hmc
    generalize weightZ xs (rangeF _ _) = wa at hmeet hwa hMa
    generalize weightZ xs (rangeF _ _) = wb at hmeet hwb hMb
    clear hcp
    generalize totalZ xs = t at *
    have HMa := Lib.hid hMa; clear hMa
    have HMb := Lib.hid hMb; clear hMb
    have HCm := Lib.hid hCm; clear hCm
    have Hb3 := Lib.hid hb3'; clear hb3'
    go_wp2_with fail
    refine HMa.out.mono ?_
    rintro e w2 ⟨rfl, rfl⟩
    by_cases ha : wa < 2 * t / 3 + 1
    · go_wp2
      go_ret
      exact ⟨rfl, Hb3.out⟩
    go_wp2_with fail
    refine HMb.out.mono ?_
    rintro e w2 ⟨rfl, rfl⟩
    by_cases hb : wb < 2 * t / 3 + 1
    · go_wp2
      go_ret
      exact ⟨rfl, Hb3.out⟩
    go_wp2_with fail
    refine HCm.out.mono ?_
    rintro e s4 ⟨v4, rfl, hown4, hb4⟩
    obtain ⟨a4, c4, rfl, hi4, _⟩ := hown4.ints
    have Hi4 := Lib.hid hi4; clear hi4 hown4
    have Hc4 := Lib.hid (Hc3.out.below hb4)
    have hMc := impl_MembersWeight ac cc xs a4 c4 _ s4 (by omega) (by omega) Hc4.out Hi4.out
    rw [Hmc.out] at hMc
    have HMc := Lib.hid hMc; clear hMc
    go_wp2_with fail
    refine HMc.out.mono ?_
    rintro e w2 ⟨rfl, rfl⟩
    go_wp2_with fail
    refine (HF.out s4 (by omega) Hc4.out).mono ?_
    rintro e w2 ⟨rfl, rfl⟩
    go_wp2
    go_ret
    exact ⟨ret_bool (by simp only [Bool.or_eq_true, decide_eq_true_eq]; omega), below_step Hb3.out Hb3.out.size hb4⟩

theorem fnQuorumsMeet_own : ownKnob Try.prog.godebug = none := by kernel_rfl
theorem fnQuorumsMeet_laidOut : laidOutB Try.prog = true := by kernel_rfl

theorem fnQuorumsMeet_lifted (os : Os) (started : os.Started) (H : Type) (enc : TypeId × Value → H) :
    ReturnsInHanded {} Try.checked os 7 .any (Rows.fnQuorumsMeetSpec.pre6 enc Try.prog Try.f7 Rows.fnQuorumsMeetRow.domain false) (Rows.fnQuorumsMeetSpec.post enc Try.prog Try.f7 false true false false) := by
  refine law_lifted (C := Try.checked) (tb := 4) fnQuorumsMeet_own fnQuorumsMeet_laidOut started (by kernel_rfl) Try.func7 rfl Try.underlying4 rfl (by rw [Try.params7]; exact of_decide_eq_true (by kernel_rfl)) ?_
    (ChangeSpec.witness6 (enc := enc) (C := Try.checked) false ⟨#[], #[.slice none 0 0, .slice none 0 0], []⟩ 8 (by kernel_rfl) (by kernel_rfl) (by kernel_rfl) (by kernel_rfl)) ?_
  · intro ds hds
    rw [Try.params7] at hds
    match ds, hds with
    | [d0, d1], _ => rfl
  · intro W base args ds p hval0 hA0
    have hval : ∀ (j : Nat) t v, Try.f7.params[j]? = some t → args[j]? = some v → Value.okWide Try.prog W .any base t v := hval0
    have hA : DataW.TrodAll enc Try.prog W 0 (fun _ => true) true Try.f7.params.toList args.toList ds p := hA0
    rw [Try.params7] at hA hval
    obtain ⟨v0, vs0, d0, ds0, p0, q0, hargs0, rfl, rfl, h0, r0⟩ := trodAll_cons hA
    obtain ⟨v1, vs1, d1, ds1, p1, q1, hargs1, rfl, rfl, h1, r1⟩ := trodAll_cons r0
    obtain ⟨hnil, rfl, rfl⟩ := trodAll_nil r1
    subst hnil
    subst hargs1
    obtain rfl : args = #[v0, v1] := by cases args; simp_all
    obtain ⟨a0, cap0, zs0, rfl, hk0, hm0, hi0, hw0⟩ := open_slice_ints Try.underlying22 Try.underlying5 (by kernel_rfl) (hval 0 22 v0 rfl rfl) h0
    obtain ⟨a1, cap1, zs1, rfl, hk1, hm1, hi1, hw1⟩ := open_slice_ints Try.underlying22 Try.underlying5 (by kernel_rfl) (hval 1 22 v1 rfl rfl) h1
    exact fnQuorumsMeet_walk a0 cap0 zs0 a1 cap1 zs1 W hk0 hm0 hi0 hw0 hk1 hm1 hi1 hw1

theorem fnQuorumsMeet_holds : Rows.FnQuorumsMeetSaid :=
  OpenClaim.holds_of_wide 7 Try.f7 rfl rfl rfl rfl rfl rfl rfl ⟨rfl, rfl, rfl, rfl, rfl⟩ rfl rfl rfl rfl rfl (by kernel_rfl) Try.func7 (by kernel_rfl)
    (of_decide_eq_true (by kernel_rfl)) (by unfold Func.isWrapper; first | (rw [if_pos (by decide +kernel)]; kernel_rfl) | (rw [if_neg (by decide +kernel)]; exact ⟨rfl, rfl⟩))
    (fun os started H enc _ => fnQuorumsMeet_lifted os started H enc)

end Go.Proofs.Ytogklmkepdljpaa
