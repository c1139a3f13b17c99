/- Law FnWeightAdds holds for every input; no conditions of our own. -/
import Derived.Test.YtogklmkepdljpaaRows
import Derived.Test.YtogklmkepdljpaaBase
import Derived.Test.YtogklmkepdljpaaLift
import Derived.Test.YtogklmkepdljpaaC1
import Derived.Test.YtogklmkepdljpaaL1
import Derived.Test.YtogklmkepdljpaaM1
import Derived.Test.YtogklmkepdljpaaRd
import Derived.Test.YtogklmkepdljpaaD1
namespace Go.Proofs.Ytogklmkepdljpaa
open Go.ChangeShapes Go.WideShapes Go.ChangeAt Go.RowKit

theorem fnWeightAdds_walk (a : Option Addr) (cap : Nat) (zs : List Int) (a' : Option Addr) (cap' : Nat) (ms : List Int) (w : World) (hk : zs.length ≤ cap) (_hm : zs.length ≤ maxLen) (hi : zs = [] ∨ ∃ b off, a = some ⟨b, off, none⟩ ∧ b < w.heap.size ∧ ∀ j (h : j < zs.length), w.cell? ⟨b, off + j, none⟩ = some (.int .u8 zs[j])) (hw : ∀ z ∈ zs, (Lit.int .u8 z).wf = true)
    (_hk' : ms.length ≤ cap') (hm' : ms.length ≤ maxLen) (_hi' : ms = [] ∨ ∃ b off, a' = some ⟨b, off, none⟩ ∧ b < w.heap.size ∧ ∀ j (h : j < ms.length), w.cell? ⟨b, off + j, none⟩ = some (.int .u8 ms[j])) (_hw' : ∀ z ∈ ms, (Lit.int .u8 z).wf = true) :
    Calls Try.prog 9 #[.slice a zs.length cap, .slice a' ms.length cap'] w fun e w' => e = .returned (.bool true) ∧ Below w.heap.size w w' := by
  unfold maxLen at hm'
  by_cases hl : 1048576 < zs.length
  · go_enter Try.func9, Try.ntmps9
    go_wp2
    go_ret
    exact ⟨rfl, Below.refl _ _⟩
  by_cases hl' : 1048576 < ms.length
  · go_enter Try.func9, Try.ntmps9
    go_wp2
    go_ret
    exact ⟨rfl, Below.refl _ _⟩
  have hcode := codeAt_of hk (by omega) hi hw
  have Hcode := Lib.hid hcode; clear hcode hi hw
  go_enter Try.func9, Try.ntmps9
  go_wp2_with fail
  refine (spec_DrawMembersWeight a cap zs _ Hcode.out).mono ?_
  rintro e w1 ⟨v, xs, v', ys, rfl, hown, hxl, hsm, hown', hyl, hb1⟩
  obtain ⟨ac, cc, rfl, hic, _⟩ := hown.ints
  obtain ⟨ay, cy, rfl, hiy, _⟩ := hown'.ints
  have Hc := Lib.hid hic; clear hic hown
  have Hy := Lib.hid hiy; clear hiy
  have Hyo := Lib.hid hown'; clear hown'
  clear hsm
  have hI := impl_MembersWeight ac cc xs ay cy ys w1 (by omega) (by omega) Hc.out Hy.out
  have hS := spec_MembersWeight ac cc xs ay cy ys w1 (by omega) (by omega) Hc.out Hy.out
  cases hv : mvB xs ys with
  | false =>
    rw [mwZ_no hv] at hI hS
    have HI := Lib.hid hI; clear hI
    have HS := Lib.hid hS; clear hS
    clear hv
    go_wp2_with fail
    refine HI.out.mono ?_
    rintro e w2 ⟨rfl, rfl⟩
    go_wp2_with fail
    refine HS.out.mono ?_
    rintro e w2 ⟨rfl, hd2⟩
    have Hd := Lib.hid (below_step hb1 hb1.size (hd2.below _)); clear hd2
    go_wp2
    go_ret
    exact ⟨rfl, Hd.out⟩
  | true =>
    rw [mwZ_yes hv] at hI hS
    have hva := mvB_valid hv
    have hA := ascP_of (mvB_members hv)
    clear hv
    have hwa := weight_bd hva hA
    have hbd := totalZ_bd hva
    have hlx := validB_len hva
    have Hva := Lib.hid hva; clear hva
    have HA := Lib.hid hA; clear hA
    have HI := Lib.hid hI; clear hI
    have HS := Lib.hid hS; clear hS
    go_wp2_with fail
    refine HI.out.mono ?_
    rintro e w2 ⟨rfl, rfl⟩
    go_wp2_with fail
    refine HS.out.mono ?_
    rintro e w2 ⟨rfl, hd2⟩
    have Hc2 := Lib.hid (hd2.ints Hc.out)
    have Hy2 := Lib.hid (hd2.ints Hy.out)
    have hb2 := below_step hb1 hb1.size (hd2.below _)
    clear hd2
    go_wp2_with fail
    refine (laws_subset' xs.length ((ms.length : Int) * 7 + zs.length) _ (by omega) (by omega) (by omega)).mono ?_
    rintro e w3 ⟨v3, rfl, hown3, hb3⟩
    generalize ((ms.length : Int) * 7 + zs.length).toNat = n3 at hown3
    have hl3 := rangeF_len (bitB n3) xs.length
    obtain ⟨a3, c3, rfl, hi3, _⟩ := hown3.ints
    have Hi3 := Lib.hid hi3; clear hi3 hown3
    have Hc3 := Lib.hid (Hc2.out.below hb3)
    have Hy3 := Lib.hid (Hy2.out.below hb3)
    have hb3' := below_step hb2 hb2.size hb3
    have HB := Lib.hid (ascP_rangeF (bitB n3) xs.length)
    have Hadd := Lib.hid (weights_add HA.out HB.out)
    generalize hBe : rangeF (bitB n3) xs.length = bs at *
    clear hBe
    go_wp2_with fail
    go_loopw [10, 11] (fun v i wr => ∃ k : Nat, k ≤ xs.length ∧ i = .int .i64 k ∧ Own 3 wr w3.heap.size v (rangeF (fun i => hasB ys i || hasB bs i) k) ∧ Below w3.heap.size w3 wr) (fun _ i _ => xs.length - (intOf i).toNat)
    case atStart => exact ⟨0, by omega, rfl, own_empty _ _ (Nat.le_refl _), (Below.refl _ _).alloc (Nat.le_refl _) _⟩
    case round =>
      obtain ⟨k, hk, rfl, hown, hbel⟩ := hrel
      have hlen := rangeF_len (fun i => hasB ys (i : Int) || hasB bs (i : Int)) k
      have hB := hbel.size
      have Hown := Lib.hid hown; clear hown
      by_cases hlt : k < xs.length
      · have h1 := laws_hasInt ay cy ys (k : Int) _ (by omega) (Hy3.out.below hbel)
        have h2 := laws_hasInt a3 c3 bs (k : Int) _ (by omega) (Hi3.out.below hbel)
        by_cases e1 : hasB ys (k : Int) = true
        · have Hp := Lib.hid (show (fun i : Nat => hasB ys i || hasB bs i) k = true by simp [e1])
          rw [e1] at h1
          have H1 := Lib.hid h1; clear h1 h2 e1
          go_wp2_with fail
          refine H1.out.mono ?_
          rintro e w' ⟨rfl, rfl⟩
          go_wp2_with (at_builtin; refine wpList_push TI' rfl (.tmp 65) (.tmp 67) rfl w3.heap.size _ _ _ rfl Hown.out (by omega) rfl hB ?_; intro v' w5 hown5 hg5)
          go_roundw
          case rel => exact ⟨k + 1, by omega, by go_num, by rw [rangeF_yes Hp.out]; exact hown5, hbel.grown hg5 hB (fun g e => (Hown.out.lt g e).1)⟩
          case measure => simp [intOf]; omega
        · rw [Bool.not_eq_true] at e1
          rw [e1] at h1
          by_cases e2 : hasB bs (k : Int) = true
          · have Hp := Lib.hid (show (fun i : Nat => hasB ys i || hasB bs i) k = true by simp [e2])
            rw [e2] at h2
            have H1 := Lib.hid h1; clear h1 e1
            have H2 := Lib.hid h2; clear h2 e2
            go_wp2_with fail
            refine H1.out.mono ?_
            rintro e w' ⟨rfl, rfl⟩
            go_wp2_with fail
            refine H2.out.mono ?_
            rintro e w' ⟨rfl, rfl⟩
            go_wp2_with (at_builtin; refine wpList_push TI' rfl (.tmp 65) (.tmp 67) rfl w3.heap.size _ _ _ rfl Hown.out (by omega) rfl hB ?_; intro v' w5 hown5 hg5)
            go_roundw
            case rel => exact ⟨k + 1, by omega, by go_num, by rw [rangeF_yes Hp.out]; exact hown5, hbel.grown hg5 hB (fun g e => (Hown.out.lt g e).1)⟩
            case measure => simp [intOf]; omega
          · rw [Bool.not_eq_true] at e2
            have Hp := Lib.hid (show (fun i : Nat => hasB ys i || hasB bs i) k = false by simp [e1, e2])
            rw [e2] at h2
            have H1 := Lib.hid h1; clear h1 e1
            have H2 := Lib.hid h2; clear h2 e2
            go_wp2_with fail
            refine H1.out.mono ?_
            rintro e w' ⟨rfl, rfl⟩
            go_wp2_with fail
            refine H2.out.mono ?_
            rintro e w' ⟨rfl, rfl⟩
            go_wp2
            go_roundw
            case rel => exact ⟨k + 1, by omega, by go_num, by rw [rangeF_no Hp.out]; exact Hown.out, hbel⟩
            case measure => simp [intOf]; omega
      · have hkn : k = xs.length := by omega
        subst hkn
        obtain ⟨au, cu, rfl, hiu, _⟩ := Hown.out.ints
        have Hiu := Lib.hid hiu; clear hiu
        have Hcr := Lib.hid (Hc3.out.below hbel)
        have Hyr := Lib.hid (Hy3.out.below hbel)
        have Hir := Lib.hid (Hi3.out.below hbel)
        have hbr := below_step hb3' hb3'.size hbel
        have hU := ascP_rangeF (fun i => hasB ys i || hasB bs i) xs.length
        have hM1 := impl_MembersWeight ac cc xs a3 c3 bs wr (by omega) (by omega) Hcr.out Hir.out
        have hM2 := impl_MembersWeight ac cc xs au cu _ wr (by omega) (by omega) Hcr.out Hiu.out
        rw [mwZ_of Hva.out HB.out] at hM1
        rw [mwZ_of Hva.out hU] at hM2
        have hCm := laws_common ay a3 cy c3 ys bs wr (by omega) (by omega) Hyr.out Hir.out
        have hcl : (commonZ ys bs).length ≤ 12 := Nat.le_trans (commonTo_len _ _ _) (by omega)
        have hmc := mwZ_of Hva.out (ascP_common (b := bs) HA.out)
        have hw1 := weight_bd Hva.out HB.out
        have hw2 := weight_bd Hva.out hU
        have hw3 := weight_bd Hva.out (ascP_common (b := bs) HA.out)
        have Hmc := Lib.hid hmc; clear hmc hU
        have HM1 := Lib.hid hM1; clear hM1
        have HM2 := Lib.hid hM2; clear hM2
        have HCm := Lib.hid hCm; clear hCm
        go_wp2_with fail
        refine HM1.out.mono ?_
        rintro e w2 ⟨rfl, rfl⟩
        go_wp2_with fail
        refine HM2.out.mono ?_
        rintro e w2 ⟨rfl, rfl⟩
        go_wp2_with fail
        refine HCm.out.mono ?_
        rintro e s4 ⟨v4, rfl, hown4, hb4⟩
        obtain ⟨a4, c4, rfl, hi4, _⟩ := hown4.ints
        have Hi4 := Lib.hid hi4; clear hi4 hown4
        have hMc := impl_MembersWeight ac cc xs a4 c4 _ s4 (by omega) (by omega) (Hcr.out.below hb4) Hi4.out
        rw [Hmc.out] at hMc
        have HMc := Lib.hid hMc; clear hMc
        go_wp2_with fail
        refine HMc.out.mono ?_
        rintro e w2 ⟨rfl, rfl⟩
        go_wp2
        go_ret
        exact ⟨ret_bool (by have := Hadd.out; simp only [beq_iff_eq]; omega), below_step hbr hbr.size hb4⟩

theorem fnWeightAdds_own : ownKnob Try.prog.godebug = none := by kernel_rfl
theorem fnWeightAdds_laidOut : laidOutB Try.prog = true := by kernel_rfl

theorem fnWeightAdds_lifted (os : Os) (started : os.Started) (H : Type) (enc : TypeId × Value → H) :
    ReturnsInHanded {} Try.checked os 9 .any (Rows.fnWeightAddsSpec.pre6 enc Try.prog Try.f9 Rows.fnWeightAddsRow.domain false) (Rows.fnWeightAddsSpec.post enc Try.prog Try.f9 false true false false) := by
  refine law_lifted (C := Try.checked) (tb := 4) fnWeightAdds_own fnWeightAdds_laidOut started (by kernel_rfl) Try.func9 rfl Try.underlying4 rfl (by rw [Try.params9]; exact of_decide_eq_true (by kernel_rfl)) ?_
    (ChangeSpec.witness6 (enc := enc) (C := Try.checked) false ⟨#[], #[.slice none 0 0, .slice none 0 0], []⟩ 8 (by kernel_rfl) (by kernel_rfl) (by kernel_rfl) (by kernel_rfl)) ?_
  · intro ds hds
    rw [Try.params9] at hds
    match ds, hds with
    | [d0, d1], _ => rfl
  · intro W base args ds p hval0 hA0
    have hval : ∀ (j : Nat) t v, Try.f9.params[j]? = some t → args[j]? = some v → Value.okWide Try.prog W .any base t v := hval0
    have hA : DataW.TrodAll enc Try.prog W 0 (fun _ => true) true Try.f9.params.toList args.toList ds p := hA0
    rw [Try.params9] at hA hval
    obtain ⟨v0, vs0, d0, ds0, p0, q0, hargs0, rfl, rfl, h0, r0⟩ := trodAll_cons hA
    obtain ⟨v1, vs1, d1, ds1, p1, q1, hargs1, rfl, rfl, h1, r1⟩ := trodAll_cons r0
    obtain ⟨hnil, rfl, rfl⟩ := trodAll_nil r1
    subst hnil
    subst hargs1
    obtain rfl : args = #[v0, v1] := by cases args; simp_all
    obtain ⟨a0, cap0, zs0, rfl, hk0, hm0, hi0, hw0⟩ := open_slice_ints Try.underlying22 Try.underlying5 (by kernel_rfl) (hval 0 22 v0 rfl rfl) h0
    obtain ⟨a1, cap1, zs1, rfl, hk1, hm1, hi1, hw1⟩ := open_slice_ints Try.underlying22 Try.underlying5 (by kernel_rfl) (hval 1 22 v1 rfl rfl) h1
    exact fnWeightAdds_walk a0 cap0 zs0 a1 cap1 zs1 W hk0 hm0 hi0 hw0 hk1 hm1 hi1 hw1

theorem fnWeightAdds_holds : Rows.FnWeightAddsSaid :=
  OpenClaim.holds_of_wide 9 Try.f9 rfl rfl rfl rfl rfl rfl rfl ⟨rfl, rfl, rfl, rfl, rfl⟩ rfl rfl rfl rfl rfl (by kernel_rfl) Try.func9 (by kernel_rfl)
    (of_decide_eq_true (by kernel_rfl)) (by unfold Func.isWrapper; first | (rw [if_pos (by decide +kernel)]; kernel_rfl) | (rw [if_neg (by decide +kernel)]; exact ⟨rfl, rfl⟩))
    (fun os started H enc _ => fnWeightAdds_lifted os started H enc)

end Go.Proofs.Ytogklmkepdljpaa
