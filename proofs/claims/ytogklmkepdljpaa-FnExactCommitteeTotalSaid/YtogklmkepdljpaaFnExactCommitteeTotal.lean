/- The exact law of CommitteeTotal holds at every argument; no conditions of our own. -/
import Derived.Test.YtogklmkepdljpaaRows
import Derived.Test.YtogklmkepdljpaaBase
import Derived.Test.YtogklmkepdljpaaLift
import Derived.Test.YtogklmkepdljpaaC1
import Derived.Test.YtogklmkepdljpaaL1
namespace Go.Proofs.Ytogklmkepdljpaa
open Go.ChangeShapes Go.WideShapes Go.ChangeAt Go.RowKit

theorem fnExactCommitteeTotal_walk (a : Option Addr) (cap : Nat) (xs : List Int) (w : World) (hbig : xs.length ≤ maxLen) (hc : IntsAt w a xs) (_hw : ∀ z ∈ xs, (Lit.int .i64 z).wf = true) :
    Calls Try.prog 13 #[.slice a xs.length cap] w fun e w' => e = .returned (.bool true) ∧ Below w.heap.size w w' := by
  unfold maxLen at hbig
  by_cases hl : xs.length ≤ 1048576
  · have Hc := Lib.hid hc; clear hc
    go_enter Try.func13, Try.ntmps13
    go_wp2_with fail
    refine (laws_toIntS a cap xs _ (by omega) Hc.out).mono ?_
    rintro e w1 ⟨v1, rfl, hown1, hb1⟩
    obtain ⟨a1, c1, rfl, hi1, _⟩ := hown1.ints
    have Hi1 := Lib.hid hi1; clear hi1
    go_wp2_with fail
    refine (spec_CommitteeTotal a1 c1 xs _ (by omega) Hi1.out).mono ?_
    rintro e w1' ⟨rfl, rfl⟩
    go_wp2_with fail
    refine (laws_toIntS a cap xs _ (by omega) (Hc.out.below hb1)).mono ?_
    rintro e w2 ⟨v2, rfl, hown2, hb2⟩
    obtain ⟨a2, c2, rfl, hi2, _⟩ := hown2.ints
    have Hi2 := Lib.hid hi2; clear hi2
    go_wp2_with fail
    refine (impl_CommitteeTotal a2 c2 xs _ (by omega) Hi2.out).mono ?_
    rintro e w2' ⟨rfl, rfl⟩
    go_wp2_with fail
    refine (laws_toIntS a cap xs _ (by omega) ((Hc.out.below hb1).below hb2)).mono ?_
    rintro e w3 ⟨v3, rfl, hown3, hb3⟩
    obtain ⟨a3, c3, rfl, hi3, _⟩ := hown3.ints
    have Hi3 := Lib.hid hi3; clear hi3
    have heq : eqB xs xs = true := decide_eq_true rfl
    have hfin := laws_eqIntS a2 a3 c2 c3 xs xs w3 (by omega) (by omega) (Hi2.out.below hb3) Hi3.out
    rw [heq] at hfin
    go_wp2_with fail
    refine hfin.mono ?_
    rintro e w4 ⟨rfl, hd⟩
    go_wp2
    go_ret
    exact ⟨rfl, below_step (below_step (below_step hb1 hb1.size hb2) (by have := hb1.size; have := hb2.size; omega) hb3) (by have := hb1.size; have := hb2.size; have := hb3.size; omega) (hd.below _)⟩
  · go_enter Try.func13, Try.ntmps13
    go_wp2
    go_ret
    exact ⟨rfl, Below.refl _ _⟩

theorem fnExactCommitteeTotal_own : ownKnob Try.prog.godebug = none := by kernel_rfl
theorem fnExactCommitteeTotal_laidOut : laidOutB Try.prog = true := by kernel_rfl

theorem fnExactCommitteeTotal_lifted (os : Os) (started : os.Started) (H : Type) (enc : TypeId × Value → H) :
    ReturnsInHanded {} Try.checked os 13 .any (Rows.fnExactCommitteeTotalSpec.pre6 enc Try.prog Try.f13 Rows.fnExactCommitteeTotalRow.domain false) (Rows.fnExactCommitteeTotalSpec.post enc Try.prog Try.f13 false true false false) := by
  refine law_lifted (C := Try.checked) (tb := 4) fnExactCommitteeTotal_own fnExactCommitteeTotal_laidOut started (by kernel_rfl) Try.func13 rfl Try.underlying4 rfl (by rw [Try.params13]; exact of_decide_eq_true (by kernel_rfl)) ?_
    (ChangeSpec.witness6 (enc := enc) (C := Try.checked) false ⟨#[], #[.slice none 0 0], []⟩ 8 (by kernel_rfl) (by kernel_rfl) (by kernel_rfl) (by kernel_rfl)) ?_
  · intro ds hds
    rw [Try.params13] at hds
    match ds, hds with
    | [d0], _ => rfl
  · intro W base args ds p hval0 hA0
    have hval : ∀ (j : Nat) t v, Try.f13.params[j]? = some t → args[j]? = some v → Value.okWide Try.prog W .any base t v := hval0
    have hA : DataW.TrodAll enc Try.prog W 0 (fun _ => true) true Try.f13.params.toList args.toList ds p := hA0
    rw [Try.params13] at hA hval
    obtain ⟨v0, vs0, d0, ds0, p0, q0, hargs0, rfl, rfl, h0, r0⟩ := trodAll_cons hA
    obtain ⟨hnil, rfl, rfl⟩ := trodAll_nil r0
    subst hnil
    obtain rfl : args = #[v0] := by cases args; simp_all
    obtain ⟨a0, cap0, zs0, rfl, hm0, hi0, hw0⟩ := open_slice_ints Try.underlying23 Try.underlying3 (by kernel_rfl) (hval 0 23 v0 rfl rfl) h0
    exact fnExactCommitteeTotal_walk a0 cap0 zs0 W hm0 hi0 hw0

theorem fnExactCommitteeTotal_holds : Rows.FnExactCommitteeTotalSaid :=
  OpenClaim.holds_of_wide 13 Try.f13 rfl rfl rfl rfl rfl rfl rfl ⟨rfl, rfl, rfl, rfl, rfl⟩ rfl rfl rfl rfl rfl (by kernel_rfl) Try.func13 (by kernel_rfl)
    (of_decide_eq_true (by kernel_rfl)) (by unfold Func.isWrapper; first | (rw [if_pos (by decide +kernel)]; kernel_rfl) | (rw [if_neg (by decide +kernel)]; exact ⟨rfl, rfl⟩))
    (fun os started H enc _ => fnExactCommitteeTotal_lifted os started H enc)

end Go.Proofs.Ytogklmkepdljpaa
