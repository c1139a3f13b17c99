/- The exact law of MembersWeight holds at every argument; no conditions of our own. -/
import Derived.Test.YtogklmkepdljpabRows
import Derived.Test.YtogklmkepdljpabBase
import Derived.Test.YtogklmkepdljpabLift
import Derived.Test.YtogklmkepdljpabC1
import Derived.Test.YtogklmkepdljpabL1
namespace Go.Proofs.Ytogklmkepdljpab
open Go.ChangeShapes Go.WideShapes Go.ChangeAt Go.RowKit

theorem fnExactMembersWeight_walk (a : Option Addr) (cap : Nat) (xs : List Int) (b : Option Addr) (capb : Nat) (ys : List Int) (w : World) (hbig : xs.length ≤ maxLen) (hc : IntsAt w a xs) (_hw : ∀ z ∈ xs, (Lit.int .i64 z).wf = true)
    (hbig' : ys.length ≤ maxLen) (hc' : IntsAt w b ys) (_hw' : ∀ z ∈ ys, (Lit.int .i64 z).wf = true) :
    Calls Try.prog 6 #[.slice a xs.length cap, .slice b ys.length capb] w fun e w' => e = .returned (.bool true) ∧ Below w.heap.size w w' := by
  unfold maxLen at hbig hbig'
  by_cases hl : xs.length ≤ 1048576
  · by_cases hl' : ys.length ≤ 1048576
    · have Hc := Lib.hid hc; clear hc
      have Hc' := Lib.hid hc'; clear hc'
      go_enter Try.func6, Try.ntmps6
      go_wp2_with fail
      refine (laws_toIntS a cap xs _ (by omega) Hc.out).mono ?_
      rintro e w1 ⟨v1, rfl, hown1, hb1⟩
      obtain ⟨a1, c1, rfl, hi1, _⟩ := hown1.ints
      have Hi1 := Lib.hid hi1; clear hi1
      go_wp2_with fail
      refine (laws_toIntS b capb ys _ (by omega) (Hc'.out.below hb1)).mono ?_
      rintro e w2 ⟨v2, rfl, hown2, hb2⟩
      obtain ⟨a2, c2, rfl, hi2, _⟩ := hown2.ints
      have Hi2 := Lib.hid hi2; clear hi2
      have Hs1 := Lib.hid hb1.size
      have Hb2 := Lib.hid (below_step hb1 hb1.size hb2)
      go_wp2_with fail
      refine (spec_MembersWeight a1 c1 xs a2 c2 ys _ (by omega) (by omega) (Hi1.out.below hb2) Hi2.out).mono ?_
      rintro e w3 ⟨rfl, hd3⟩
      have Hb3 := Lib.hid (below_step Hb2.out Hb2.out.size (hd3.below _))
      have Hx := Lib.hid (Hc.out.below Hb3.out)
      have Hy := Lib.hid (Hc'.out.below Hb3.out)
      go_wp2_with fail
      refine (laws_toIntS a cap xs _ (by omega) Hx.out).mono ?_
      rintro e w4 ⟨v4, rfl, hown4, hb4⟩
      obtain ⟨a4, c4, rfl, hi4, _⟩ := hown4.ints
      have Hi4 := Lib.hid hi4; clear hi4
      have Hb4 := Lib.hid (below_step Hb3.out Hb3.out.size hb4)
      go_wp2_with fail
      refine (laws_toIntS b capb ys _ (by omega) (Hy.out.below hb4)).mono ?_
      rintro e w5 ⟨v5, rfl, hown5, hb5⟩
      obtain ⟨a5, c5, rfl, hi5, _⟩ := hown5.ints
      have Hi5 := Lib.hid hi5; clear hi5
      have Hb5 := Lib.hid (below_step Hb4.out Hb4.out.size hb5)
      have Hi4' := Lib.hid (Hi4.out.below hb5)
      go_wp2_with fail
      refine (impl_MembersWeight a4 c4 xs a5 c5 ys _ (by omega) (by omega) Hi4'.out Hi5.out).mono ?_
      rintro e w5' ⟨rfl, rfl⟩
      have Hx5 := Lib.hid (Hc.out.below Hb5.out)
      go_wp2_with fail
      refine (laws_toIntS a cap xs _ (by omega) Hx5.out).mono ?_
      rintro e w6 ⟨v6, rfl, hown6, hb6⟩
      obtain ⟨a6, c6, rfl, hi6, _⟩ := hown6.ints
      have Hi6 := Lib.hid hi6; clear hi6
      have Hb6 := Lib.hid (below_step Hb5.out Hb5.out.size hb6)
      have heq : eqB xs xs = true := decide_eq_true rfl
      have hfin := laws_eqIntS a4 a6 c4 c6 xs xs w6 (by omega) (by omega) (Hi4'.out.below hb6) Hi6.out
      rw [heq] at hfin
      have Hfin := Lib.hid hfin; clear hfin
      go_wp2_with fail
      refine Hfin.out.mono ?_
      rintro e w7 ⟨rfl, hd7⟩
      have Hb7 := Lib.hid (below_step Hb6.out Hb6.out.size (hd7.below _))
      have Hy7 := Lib.hid (Hc'.out.below Hb7.out)
      have Hi57 := Lib.hid ((Hi5.out.below hb6).below (hd7.below _))
      go_wp2_with fail
      refine (laws_toIntS b capb ys _ (by omega) Hy7.out).mono ?_
      rintro e w8 ⟨v8, rfl, hown8, hb8⟩
      obtain ⟨a8, c8, rfl, hi8, _⟩ := hown8.ints
      have Hi8 := Lib.hid hi8; clear hi8
      have Hb8 := Lib.hid (below_step Hb7.out Hb7.out.size hb8)
      have heq2 : eqB ys ys = true := decide_eq_true rfl
      have hfin2 := laws_eqIntS a5 a8 c5 c8 ys ys w8 (by omega) (by omega) (Hi57.out.below hb8) Hi8.out
      rw [heq2] at hfin2
      have Hfin2 := Lib.hid hfin2; clear hfin2
      go_wp2_with fail
      refine Hfin2.out.mono ?_
      rintro e w9 ⟨rfl, hd9⟩
      go_wp2
      go_ret
      exact ⟨rfl, below_step Hb8.out Hb8.out.size (hd9.below _)⟩
    · go_enter Try.func6, Try.ntmps6
      go_wp2
      go_ret
      exact ⟨rfl, Below.refl _ _⟩
  · go_enter Try.func6, Try.ntmps6
    go_wp2
    go_ret
    exact ⟨rfl, Below.refl _ _⟩

theorem fnExactMembersWeight_own : ownKnob Try.prog.godebug = none := by kernel_rfl
theorem fnExactMembersWeight_laidOut : laidOutB Try.prog = true := by kernel_rfl

theorem fnExactMembersWeight_lifted (os : Os) (started : os.Started) (H : Type) (enc : TypeId × Value → H) :
    ReturnsInHanded {} Try.checked os 6 .any (Rows.fnExactMembersWeightSpec.pre6 enc Try.prog Try.f6 Rows.fnExactMembersWeightRow.domain false) (Rows.fnExactMembersWeightSpec.post enc Try.prog Try.f6 false true false false) := by
  refine law_lifted (C := Try.checked) (tb := 4) fnExactMembersWeight_own fnExactMembersWeight_laidOut started (by kernel_rfl) Try.func6 rfl Try.underlying4 rfl (by rw [Try.params6]; exact of_decide_eq_true (by kernel_rfl)) ?_
    (ChangeSpec.witness6 (enc := enc) (C := Try.checked) false ⟨#[], #[.slice none 0 0, .slice none 0 0], []⟩ 8 (by kernel_rfl) (by kernel_rfl) (by kernel_rfl) (by kernel_rfl)) ?_
  · intro ds hds
    rw [Try.params6] at hds
    match ds, hds with
    | [d0, d1], _ => rfl
  · intro W base args ds p hval0 hA0
    have hval : ∀ (j : Nat) t v, Try.f6.params[j]? = some t → args[j]? = some v → Value.okWide Try.prog W .any base t v := hval0
    have hA : DataW.TrodAll enc Try.prog W 0 (fun _ => true) true Try.f6.params.toList args.toList ds p := hA0
    rw [Try.params6] at hA hval
    obtain ⟨v0, vs0, d0, ds0, p0, q0, hargs0, rfl, rfl, h0, r0⟩ := trodAll_cons hA
    obtain ⟨v1, vs1, d1, ds1, p1, q1, hargs1, rfl, rfl, h1, r1⟩ := trodAll_cons r0
    obtain ⟨hnil, rfl, rfl⟩ := trodAll_nil r1
    subst hnil
    subst hargs1
    obtain rfl : args = #[v0, v1] := by cases args; simp_all
    obtain ⟨a0, cap0, zs0, rfl, hm0, hi0, hw0⟩ := open_slice_ints Try.underlying22 Try.underlying3 (by kernel_rfl) (hval 0 22 v0 rfl rfl) h0
    obtain ⟨a1, cap1, zs1, rfl, hm1, hi1, hw1⟩ := open_slice_ints Try.underlying22 Try.underlying3 (by kernel_rfl) (hval 1 22 v1 rfl rfl) h1
    exact fnExactMembersWeight_walk a0 cap0 zs0 a1 cap1 zs1 W hm0 hi0 hw0 hm1 hi1 hw1

theorem fnExactMembersWeight_holds : Rows.FnExactMembersWeightSaid :=
  OpenClaim.holds_of_wide 6 Try.f6 rfl rfl rfl rfl rfl rfl rfl ⟨rfl, rfl, rfl, rfl, rfl⟩ rfl rfl rfl rfl rfl (by kernel_rfl) Try.func6 (by kernel_rfl)
    (of_decide_eq_true (by kernel_rfl)) (by unfold Func.isWrapper; first | (rw [if_pos (by decide +kernel)]; kernel_rfl) | (rw [if_neg (by decide +kernel)]; exact ⟨rfl, rfl⟩))
    (fun os started H enc _ => fnExactMembersWeight_lifted os started H enc)

end Go.Proofs.Ytogklmkepdljpab
