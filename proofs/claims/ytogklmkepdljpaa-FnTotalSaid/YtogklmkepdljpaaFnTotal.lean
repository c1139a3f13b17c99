/- Law FnTotal holds for every input; no conditions of our own. -/
import Derived.Test.YtogklmkepdljpaaRows
import Derived.Test.YtogklmkepdljpaaBase
import Derived.Test.YtogklmkepdljpaaLift
import Derived.Test.YtogklmkepdljpaaC1
import Derived.Test.YtogklmkepdljpaaL1
import Derived.Test.YtogklmkepdljpaaM1
import Derived.Test.YtogklmkepdljpaaRd
import Derived.Test.YtogklmkepdljpaaD1
namespace Go.Proofs.Ytogklmkepdljpaa
open Go.ChangeShapes Go.WideShapes Go.ChangeAt Go.RowKit

theorem fnTotal_walk (a : Option Addr) (cap : Nat) (zs : List Int) (w : World) (hk : zs.length ≤ cap) (_hm : zs.length ≤ maxLen) (hi : zs = [] ∨ ∃ b off, a = some ⟨b, off, none⟩ ∧ b < w.heap.size ∧ ∀ j (h : j < zs.length), w.cell? ⟨b, off + j, none⟩ = some (.int .u8 zs[j])) (hw : ∀ z ∈ zs, (Lit.int .u8 z).wf = true) :
    Calls Try.prog 3 #[.slice a zs.length cap] w fun e w' => e = .returned (.bool true) ∧ Below w.heap.size w w' := by
  by_cases hl : 1048576 < zs.length
  · go_enter Try.func3, Try.ntmps3
    go_wp2
    go_ret
    exact ⟨rfl, Below.refl _ _⟩
  have hcode := codeAt_of hk (by omega) hi hw
  have Hcode := Lib.hid hcode; clear hcode hi hw
  go_enter Try.func3, Try.ntmps3
  go_wp2_with fail
  refine (spec_DrawCommitteeTotal a cap zs _ Hcode.out).mono ?_
  rintro e w1 ⟨v, xs, rfl, hown, hxl, hsm, hb1⟩
  obtain ⟨ac, cc, rfl, hic, _⟩ := hown.ints
  have Hc := Lib.hid hic; clear hic
  have Hown := Lib.hid hown; clear hown
  clear hsm
  have hI := impl_CommitteeTotal ac cc xs w1 (by omega) Hc.out
  have hS := spec_CommitteeTotal ac cc xs w1 (by omega) Hc.out
  have hV := impl_CommitteeValid ac cc xs
  cases hv : validB xs with
  | false =>
    rw [orNo_no hv] at hI hS
    rw [hv] at hV
    have HI := Lib.hid hI; clear hI
    have HS := Lib.hid hS; clear hS
    have HV := Lib.hid hV; clear hV
    have Hm := Lib.hid (mwZ_no (mvB_no hv (rangeF (bitB 127) xs.length))); clear hv
    go_wp2_with fail
    refine HI.out.mono ?_
    rintro e w2 ⟨rfl, rfl⟩
    go_wp2_with fail
    refine HS.out.mono ?_
    rintro e w2 ⟨rfl, rfl⟩
    go_wp2_with fail
    refine (laws_subset xs.length 127 _ (by omega) (by omega)).mono ?_
    rintro e w3 ⟨v3, rfl, hown3, hb3⟩
    have hl3 := rangeF_len (bitB 127) xs.length
    obtain ⟨a3, c3, rfl, hi3, _⟩ := hown3.ints
    have Hi3 := Lib.hid hi3; clear hi3
    have hM := impl_MembersWeight ac cc xs a3 c3 _ w3 (by omega) (by omega) (Hc.out.below hb3) Hi3.out
    rw [Hm.out] at hM
    have HM := Lib.hid hM; clear hM
    go_wp2_with fail
    refine HM.out.mono ?_
    rintro e w4 ⟨rfl, rfl⟩
    go_wp2_with fail
    refine (HV.out w3 (by omega) (Hc.out.below hb3)).mono ?_
    rintro e w4 ⟨rfl, rfl⟩
    go_wp2
    go_ret
    exact ⟨rfl, below_step hb1 hb1.size hb3⟩
  | true =>
    rw [orNo_yes hv] at hI hS
    rw [hv] at hV
    have hbd := totalZ_bd hv
    have HI := Lib.hid hI; clear hI
    have HS := Lib.hid hS; clear hS
    have HV := Lib.hid hV; clear hV
    have Hm := Lib.hid ((mwZ_rangeF hv (bitB 127)).trans (weight_all hv)); clear hv
    go_wp2_with fail
    refine HI.out.mono ?_
    rintro e w2 ⟨rfl, rfl⟩
    go_wp2_with fail
    refine HS.out.mono ?_
    rintro e w2 ⟨rfl, rfl⟩
    go_wp2_with fail
    refine (laws_subset xs.length 127 _ (by omega) (by omega)).mono ?_
    rintro e w3 ⟨v3, rfl, hown3, hb3⟩
    have hl3 := rangeF_len (bitB 127) xs.length
    obtain ⟨a3, c3, rfl, hi3, _⟩ := hown3.ints
    have Hi3 := Lib.hid hi3; clear hi3
    have hM := impl_MembersWeight ac cc xs a3 c3 _ w3 (by omega) (by omega) (Hc.out.below hb3) Hi3.out
    rw [Hm.out] at hM
    have HM := Lib.hid hM; clear hM
    go_wp2_with fail
    refine HM.out.mono ?_
    rintro e w4 ⟨rfl, rfl⟩
    go_wp2_with fail
    refine (HV.out w3 (by omega) (Hc.out.below hb3)).mono ?_
    rintro e w4 ⟨rfl, rfl⟩
    go_wp2
    go_ret
    exact ⟨ret_bool (decide_eq_true (by omega)), below_step hb1 hb1.size hb3⟩

theorem fnTotal_own : ownKnob Try.prog.godebug = none := by kernel_rfl
theorem fnTotal_laidOut : laidOutB Try.prog = true := by kernel_rfl

theorem fnTotal_lifted (os : Os) (started : os.Started) (H : Type) (enc : TypeId × Value → H) :
    ReturnsInHanded {} Try.checked os 3 .any (Rows.fnTotalSpec.pre6 enc Try.prog Try.f3 Rows.fnTotalRow.domain false) (Rows.fnTotalSpec.post enc Try.prog Try.f3 false true false false) := by
  refine law_lifted (C := Try.checked) (tb := 4) fnTotal_own fnTotal_laidOut started (by kernel_rfl) Try.func3 rfl Try.underlying4 rfl (by rw [Try.params3]; exact of_decide_eq_true (by kernel_rfl)) ?_
    (ChangeSpec.witness6 (enc := enc) (C := Try.checked) false ⟨#[], #[.slice none 0 0], []⟩ 8 (by kernel_rfl) (by kernel_rfl) (by kernel_rfl) (by kernel_rfl)) ?_
  · intro ds hds
    rw [Try.params3] at hds
    match ds, hds with
    | [d0], _ => rfl
  · intro W base args ds p hval0 hA0
    have hval : ∀ (j : Nat) t v, Try.f3.params[j]? = some t → args[j]? = some v → Value.okWide Try.prog W .any base t v := hval0
    have hA : DataW.TrodAll enc Try.prog W 0 (fun _ => true) true Try.f3.params.toList args.toList ds p := hA0
    rw [Try.params3] at hA hval
    obtain ⟨v0, vs0, d0, ds0, p0, q0, hargs0, rfl, rfl, h0, r0⟩ := trodAll_cons hA
    obtain ⟨hnil, rfl, rfl⟩ := trodAll_nil r0
    subst hnil
    obtain rfl : args = #[v0] := by cases args; simp_all
    obtain ⟨a0, cap0, zs0, rfl, hk0, hm0, hi0, hw0⟩ := open_slice_ints Try.underlying22 Try.underlying5 (by kernel_rfl) (hval 0 22 v0 rfl rfl) h0
    exact fnTotal_walk a0 cap0 zs0 W hk0 hm0 hi0 hw0

theorem fnTotal_holds : Rows.FnTotalSaid :=
  OpenClaim.holds_of_wide 3 Try.f3 rfl rfl rfl rfl rfl rfl rfl ⟨rfl, rfl, rfl, rfl, rfl⟩ rfl rfl rfl rfl rfl (by kernel_rfl) Try.func3 (by kernel_rfl)
    (of_decide_eq_true (by kernel_rfl)) (by unfold Func.isWrapper; first | (rw [if_pos (by decide +kernel)]; kernel_rfl) | (rw [if_neg (by decide +kernel)]; exact ⟨rfl, rfl⟩))
    (fun os started H enc _ => fnTotal_lifted os started H enc)

end Go.Proofs.Ytogklmkepdljpaa
