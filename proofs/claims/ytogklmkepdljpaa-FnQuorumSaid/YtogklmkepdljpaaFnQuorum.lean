/- Law FnQuorum holds for every input; no conditions of our own. -/
import Derived.Test.YtogklmkepdljpaaRows
import Derived.Test.YtogklmkepdljpaaBase
import Derived.Test.YtogklmkepdljpaaLift
import Derived.Test.YtogklmkepdljpaaC1
import Derived.Test.YtogklmkepdljpaaL1
import Derived.Test.YtogklmkepdljpaaM1
import Derived.Test.YtogklmkepdljpaaRd
import Derived.Test.YtogklmkepdljpaaD1
namespace Go.Proofs.Ytogklmkepdljpaa
open Go.ChangeShapes Go.WideShapes Go.ChangeAt Go.RowKit

theorem fnQuorum_walk (a : Option Addr) (cap : Nat) (zs : List Int) (w : World) (hk : zs.length ≤ cap) (_hm : zs.length ≤ maxLen) (hi : zs = [] ∨ ∃ b off, a = some ⟨b, off, none⟩ ∧ b < w.heap.size ∧ ∀ j (h : j < zs.length), w.cell? ⟨b, off + j, none⟩ = some (.int .u8 zs[j])) (hw : ∀ z ∈ zs, (Lit.int .u8 z).wf = true) :
    Calls Try.prog 5 #[.slice a zs.length cap] w fun e w' => e = .returned (.bool true) ∧ Below w.heap.size w w' := by
  by_cases hl : 1048576 < zs.length
  · go_enter Try.func5, Try.ntmps5
    go_wp2
    go_ret
    exact ⟨rfl, Below.refl _ _⟩
  have hcode := codeAt_of hk (by omega) hi hw
  have Hcode := Lib.hid hcode; clear hcode hi hw
  go_enter Try.func5, Try.ntmps5
  go_wp2_with fail
  refine (spec_DrawCommitteeQuorum a cap zs _ Hcode.out).mono ?_
  rintro e w1 ⟨v, xs, rfl, hown, hxl, hsm, hb1⟩
  obtain ⟨ac, cc, rfl, hic, _⟩ := hown.ints
  have Hc := Lib.hid hic; clear hic
  have Hown := Lib.hid hown; clear hown
  clear hsm
  have hI := impl_CommitteeQuorum ac cc xs w1 (by omega) Hc.out
  have hS := spec_CommitteeQuorum ac cc xs w1 (by omega) Hc.out
  have hG0 := impl_CommitteeTotal ac cc xs w1 (by omega) Hc.out
  have hG1 := impl_CommitteeFaults ac cc xs w1 (by omega) Hc.out
  cases hv : validB xs with
  | false =>
    rw [orNo_no hv] at hI hS
    have HI := Lib.hid hI; clear hI
    have HS := Lib.hid hS; clear hS
    clear hv hG0 hG1
    go_wp2_with fail
    refine HI.out.mono ?_
    rintro e w2 ⟨rfl, rfl⟩
    go_wp2_with fail
    refine HS.out.mono ?_
    rintro e w2 ⟨rfl, rfl⟩
    go_wp2
    go_ret
    exact ⟨rfl, hb1⟩
  | true =>
    rw [orNo_yes hv] at hI hS
    rw [orNo_yes hv] at hG0
    rw [orNo_yes hv] at hG1
    have hbd := totalZ_bd hv
    have HI := Lib.hid hI; clear hI
    have HS := Lib.hid hS; clear hS
    have HG0 := Lib.hid hG0; clear hG0
    have HG1 := Lib.hid hG1; clear hG1
    clear hv
    generalize totalZ xs = t at *
    obtain ⟨hbd1, hbd2⟩ := hbd
    have he : (2 * t / 3 + 1 == t - (t - 1) / 3) = true := by rw [beq_iff_eq]; omega
    go_wp2_with fail
    refine HI.out.mono ?_
    rintro e w2 ⟨rfl, rfl⟩
    go_wp2_with fail
    refine HS.out.mono ?_
    rintro e w2 ⟨rfl, rfl⟩
    go_wp2_with fail
    refine HG0.out.mono ?_
    rintro e w2 ⟨rfl, rfl⟩
    go_wp2_with fail
    refine HG1.out.mono ?_
    rintro e w2 ⟨rfl, rfl⟩
    go_wp2
    go_ret
    exact ⟨ret_bool (decide_eq_true (by omega)), hb1⟩

theorem fnQuorum_own : ownKnob Try.prog.godebug = none := by kernel_rfl
theorem fnQuorum_laidOut : laidOutB Try.prog = true := by kernel_rfl

theorem fnQuorum_lifted (os : Os) (started : os.Started) (H : Type) (enc : TypeId × Value → H) :
    ReturnsInHanded {} Try.checked os 5 .any (Rows.fnQuorumSpec.pre6 enc Try.prog Try.f5 Rows.fnQuorumRow.domain false) (Rows.fnQuorumSpec.post enc Try.prog Try.f5 false true false false) := by
  refine law_lifted (C := Try.checked) (tb := 4) fnQuorum_own fnQuorum_laidOut started (by kernel_rfl) Try.func5 rfl Try.underlying4 rfl (by rw [Try.params5]; exact of_decide_eq_true (by kernel_rfl)) ?_
    (ChangeSpec.witness6 (enc := enc) (C := Try.checked) false ⟨#[], #[.slice none 0 0], []⟩ 8 (by kernel_rfl) (by kernel_rfl) (by kernel_rfl) (by kernel_rfl)) ?_
  · intro ds hds
    rw [Try.params5] at hds
    match ds, hds with
    | [d0], _ => rfl
  · intro W base args ds p hval0 hA0
    have hval : ∀ (j : Nat) t v, Try.f5.params[j]? = some t → args[j]? = some v → Value.okWide Try.prog W .any base t v := hval0
    have hA : DataW.TrodAll enc Try.prog W 0 (fun _ => true) true Try.f5.params.toList args.toList ds p := hA0
    rw [Try.params5] at hA hval
    obtain ⟨v0, vs0, d0, ds0, p0, q0, hargs0, rfl, rfl, h0, r0⟩ := trodAll_cons hA
    obtain ⟨hnil, rfl, rfl⟩ := trodAll_nil r0
    subst hnil
    obtain rfl : args = #[v0] := by cases args; simp_all
    obtain ⟨a0, cap0, zs0, rfl, hk0, hm0, hi0, hw0⟩ := open_slice_ints Try.underlying22 Try.underlying5 (by kernel_rfl) (hval 0 22 v0 rfl rfl) h0
    exact fnQuorum_walk a0 cap0 zs0 W hk0 hm0 hi0 hw0

theorem fnQuorum_holds : Rows.FnQuorumSaid :=
  OpenClaim.holds_of_wide 5 Try.f5 rfl rfl rfl rfl rfl rfl rfl ⟨rfl, rfl, rfl, rfl, rfl⟩ rfl rfl rfl rfl rfl (by kernel_rfl) Try.func5 (by kernel_rfl)
    (of_decide_eq_true (by kernel_rfl)) (by unfold Func.isWrapper; first | (rw [if_pos (by decide +kernel)]; kernel_rfl) | (rw [if_neg (by decide +kernel)]; exact ⟨rfl, rfl⟩))
    (fun os started H enc _ => fnQuorum_lifted os started H enc)

end Go.Proofs.Ytogklmkepdljpaa
