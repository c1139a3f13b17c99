/- Law FnSlotsPrefix holds for every input; no conditions of our own. -/
import Derived.Test.YtjaacdapibokiabRows
import Derived.Test.YtjaacdapibokiabBu0
namespace Go.Proofs.Ytjaacdapibokiab
open Go.ChangeShapes Go.WideShapes Go.ChangeAt Go.RowKit

set_option maxHeartbeats 2000000 in
theorem fnSlotsPrefix_walk (a : Option Addr) (cap : Nat) (zs : List Int) (a' : Option Addr) (cap' : Nat) (ms : List Int) (w : World) (hk : zs.length ≤ cap) (_hm : zs.length ≤ maxLen) (hi : zs = [] ∨ ∃ b off, a = some ⟨b, off, none⟩ ∧ b < w.heap.size ∧ ∀ j (h : j < zs.length), w.cell? ⟨b, off + j, none⟩ = some (.int .u8 zs[j])) (hw : ∀ z ∈ zs, (Lit.int .u8 z).wf = true)
    (_hk' : ms.length ≤ cap') (hm' : ms.length ≤ maxLen) (_hi' : ms = [] ∨ ∃ b off, a' = some ⟨b, off, none⟩ ∧ b < w.heap.size ∧ ∀ j (h : j < ms.length), w.cell? ⟨b, off + j, none⟩ = some (.int .u8 ms[j])) (_hw' : ∀ z ∈ ms, (Lit.int .u8 z).wf = true) :
    Calls Try.prog 3 #[.slice a zs.length cap, .slice a' ms.length cap'] w fun e w' => e = .returned (.bool true) ∧ Below w.heap.size w w' := by
  unfold maxLen at hm'
  by_cases hl : 1048576 < zs.length
  · go_enter Try.func3, Try.ntmps3
    go_wp2
    go_ret
    exact ⟨rfl, Below.refl _ _⟩
  by_cases hl' : 1048576 < ms.length
  · go_enter Try.func3, Try.ntmps3
    go_wp2
    go_ret
    exact ⟨rfl, Below.refl _ _⟩
  have hcode := codeAt_of hk (by omega) hi hw
  have Hcode := Lib.hid hcode; clear hcode hi hw
  go_enter Try.func3, Try.ntmps3
  go_wp2_with fail
  refine (spec_DrawSlotsPrefix a cap zs w Hcode.out).mono ?_
  rintro e w1 ⟨aa, la, ca, fa, ab, lb, cb, fb, rfl, hla, hlb, hca, hcb, hsa, hsb, hb⟩
  have HA := Lib.hid hsa; have HB := Lib.hid hsb; have Hb1 := Lib.hid hb
  clear hsa hsb hb
  have HP := Lib.hid (fun W (hb : Below w1.heap.size w1 W) => impl_SlotsPrefix la lb aa ab ca cb fa fb W (by omega) (by omega) hcb (HA.out.under hb) (HB.out.under hb))
  have HQ := Lib.hid (fun W (hb : Below w1.heap.size w1 W) => spec_SlotsPrefix la lb aa ab ca cb fa fb W (by omega) (by omega) (HA.out.under hb) (HB.out.under hb))
  unfold spB at HQ
  have HR := Lib.hid (fun W (hb : Below w1.heap.size w1 W) => impl_SlotsPrefix lb la ab aa cb ca fb fa W (by omega) (by omega) hca (HB.out.under hb) (HA.out.under hb))
  have HS := Lib.hid (fun W (hb : Below w1.heap.size w1 W) => laws_sameSlots la lb aa ab ca cb fa fb W (by omega) (by omega) (HA.out.under hb) (HB.out.under hb))
  obtain ⟨k, hkd⟩ : ∃ k : Nat, ms.length % (lb.length + 1) = k := ⟨_, rfl⟩
  have hkl : k ≤ lb.length := by have := Nat.mod_lt ms.length (show 0 < lb.length + 1 by omega); omega
  have hidx : (ms.length : Int).tmod ((lb.length : Int) + 1) = (k : Int) := by rw [Int.tmod_eq_emod_of_nonneg (by omega), ← hkd]; exact (Int.natCast_emod ms.length (lb.length + 1)).symm
  have e1 : IntKind.i64.wrap ((lb.length : Int) + 1) = (lb.length : Int) + 1 := IntWalk.i64_in _ (by omega)
  have hne : ((lb.length : Int) + 1 == 0) = false := by rw [beq_eq_false_iff_ne]; omega
  have hne' : ¬ (lb.length : Int) + 1 = 0 := by omega
  have hidx2 : (ms.length : Int) % ((lb.length : Int) + 1) = (k : Int) := by rw [← hkd]; exact (Int.natCast_emod ms.length (lb.length + 1)).symm
  have hk1 : (k : Int) ≤ (lb.length : Int) := by omega
  have hk0 : (0 : Int) ≤ (k : Int) := by omega
  have hk2 : (k : Int) ≤ (cb : Int) := by omega
  have hk3 : k ≤ cb := by omega
  obtain ⟨fk, hcut⟩ := sl_cut (k := k) HB.out hkl
  have hlen : (lb.take k).length = k := by rw [List.length_take]; omega
  have HK := Lib.hid (fun W (hb : Below w1.heap.size w1 W) => impl_SlotsPrefix (lb.take k) lb ab ab cb cb fk fb W (by omega) (by omega) hcb (hcut.under hb) (HB.out.under hb))
  rw [decide_eq_true (List.take_prefix k lb), hlen] at HK
  have HE := Lib.hid (fun W aE cE (hE : Sls W [] (.slice aE 0 cE) []) (hb : Below w1.heap.size w1 W) => impl_SlotsPrefix [] lb aE ab cE cb [] fb W (by simp) (by omega) hcb hE (HB.out.under hb))
  rw [decide_eq_true (List.nil_prefix (l := lb))] at HE
  have HEn := Lib.hid (fun (W : World) => show Sls (W.alloc (.cells #[] 36)) [] (.slice (some ⟨W.heap.size, 0, none⟩) 0 0) [] from .nil _ _ fun e => by cases e)
  clear hkd hcut hlen
  by_cases hp : la <+: lb
  · rw [decide_eq_true hp] at HP HQ
    by_cases hr : lb <+: la
    · have he : la = lb := hp.eq_of_length (by have := hp.length_le; have := hr.length_le; omega)
      rw [decide_eq_true hr] at HR
      rw [decide_eq_true he] at HS
      clear hp hr he
      go_wp2_with fail
      refine (HP.out w1 (Below.refl _ _)).mono ?_
      rintro e w2 ⟨rfl, hd⟩
      have Hd2 := Lib.hid (hd.below w1.heap.size)
      go_wp2_with fail
      refine (HQ.out w2 Hd2.out).mono ?_
      rintro e w3 ⟨rfl, hd⟩
      have Hd3 := Lib.hid (below_step Hd2.out Hd2.out.size (hd.below _))
      clear hd
      have hal : Below w3.heap.size w3 (w3.alloc (.cells #[] 36)) := (Below.refl _ _).alloc (Nat.le_refl _) _
      have Hd4 := Lib.hid (below_step Hd3.out Hd3.out.size hal)
      clear hal
      go_wp2_with fail
      refine (HE.out _ _ _ (HEn.out w3) Hd4.out).mono ?_
      generalize w3.alloc (.cells #[] 36) = w4 at *
      rintro e w5 ⟨rfl, hd⟩
      have Hd5 := Lib.hid (below_step Hd4.out Hd4.out.size (hd.below _))
      clear hd
      go_wp2_with fail
      refine (HK.out w5 Hd5.out).mono ?_
      rintro e w6 ⟨rfl, hd⟩
      have Hd := Lib.hid (below_step Hd5.out Hd5.out.size (hd.below _))
      clear hd
      go_wp2_with fail
      refine (HR.out w6 Hd.out).mono ?_
      rintro e w7 ⟨rfl, hd⟩
      have Hd := Lib.hid (below_step Hd.out Hd.out.size (hd.below _))
      clear hd
      go_wp2_with fail
      refine (HS.out w7 Hd.out).mono ?_
      rintro e w8 ⟨rfl, hd⟩
      have Hd := Lib.hid (below_step Hd.out Hd.out.size (hd.below _))
      clear hd
      go_wp2
      go_ret
      exact ⟨by first | rfl | exact ret_bool (by simp), below_step Hb1.out Hb1.out.size Hd.out⟩
    · have he : ¬ la = lb := fun e => hr (by rw [e]; exact List.prefix_refl _)
      rw [decide_eq_false hr] at HR
      rw [decide_eq_false he] at HS
      clear hp hr he
      go_wp2_with fail
      refine (HP.out w1 (Below.refl _ _)).mono ?_
      rintro e w2 ⟨rfl, hd⟩
      have Hd2 := Lib.hid (hd.below w1.heap.size)
      go_wp2_with fail
      refine (HQ.out w2 Hd2.out).mono ?_
      rintro e w3 ⟨rfl, hd⟩
      have Hd3 := Lib.hid (below_step Hd2.out Hd2.out.size (hd.below _))
      clear hd
      have hal : Below w3.heap.size w3 (w3.alloc (.cells #[] 36)) := (Below.refl _ _).alloc (Nat.le_refl _) _
      have Hd4 := Lib.hid (below_step Hd3.out Hd3.out.size hal)
      clear hal
      go_wp2_with fail
      refine (HE.out _ _ _ (HEn.out w3) Hd4.out).mono ?_
      generalize w3.alloc (.cells #[] 36) = w4 at *
      rintro e w5 ⟨rfl, hd⟩
      have Hd5 := Lib.hid (below_step Hd4.out Hd4.out.size (hd.below _))
      clear hd
      go_wp2_with fail
      refine (HK.out w5 Hd5.out).mono ?_
      rintro e w6 ⟨rfl, hd⟩
      have Hd := Lib.hid (below_step Hd5.out Hd5.out.size (hd.below _))
      clear hd
      go_wp2_with fail
      refine (HR.out w6 Hd.out).mono ?_
      rintro e w7 ⟨rfl, hd⟩
      have Hd := Lib.hid (below_step Hd.out Hd.out.size (hd.below _))
      clear hd
      go_wp2_with fail
      refine (HS.out w7 Hd.out).mono ?_
      rintro e w8 ⟨rfl, hd⟩
      have Hd := Lib.hid (below_step Hd.out Hd.out.size (hd.below _))
      clear hd
      go_wp2
      go_ret
      exact ⟨by first | rfl | exact ret_bool (by simp), below_step Hb1.out Hb1.out.size Hd.out⟩
  · have he : ¬ la = lb := fun e => hp (by rw [e]; exact List.prefix_refl _)
    rw [decide_eq_false hp] at HP HQ
    rw [decide_eq_false he] at HS
    clear hp he
    go_wp2_with fail
    refine (HP.out w1 (Below.refl _ _)).mono ?_
    rintro e w2 ⟨rfl, hd⟩
    have Hd2 := Lib.hid (hd.below w1.heap.size)
    go_wp2_with fail
    refine (HQ.out w2 Hd2.out).mono ?_
    rintro e w3 ⟨rfl, hd⟩
    have Hd3 := Lib.hid (below_step Hd2.out Hd2.out.size (hd.below _))
    clear hd
    have hal : Below w3.heap.size w3 (w3.alloc (.cells #[] 36)) := (Below.refl _ _).alloc (Nat.le_refl _) _
    have Hd4 := Lib.hid (below_step Hd3.out Hd3.out.size hal)
    clear hal
    go_wp2_with fail
    refine (HE.out _ _ _ (HEn.out w3) Hd4.out).mono ?_
    generalize w3.alloc (.cells #[] 36) = w4 at *
    rintro e w5 ⟨rfl, hd⟩
    have Hd5 := Lib.hid (below_step Hd4.out Hd4.out.size (hd.below _))
    clear hd
    go_wp2_with fail
    refine (HK.out w5 Hd5.out).mono ?_
    rintro e w6 ⟨rfl, hd⟩
    have Hd := Lib.hid (below_step Hd5.out Hd5.out.size (hd.below _))
    clear hd
    go_wp2_with fail
    refine (HS.out w6 Hd.out).mono ?_
    rintro e w8 ⟨rfl, hd⟩
    have Hd := Lib.hid (below_step Hd.out Hd.out.size (hd.below _))
    clear hd
    go_wp2
    go_ret
    exact ⟨by first | rfl | exact ret_bool (by simp), below_step Hb1.out Hb1.out.size Hd.out⟩

theorem fnSlotsPrefix_own : ownKnob Try.prog.godebug = none := by kernel_rfl
theorem fnSlotsPrefix_laidOut : laidOutB Try.prog = true := by kernel_rfl

set_option maxRecDepth 8000 in
theorem fnSlotsPrefix_lifted (os : Os) (started : os.Started) (H : Type) (enc : TypeId × Value → H) :
    ReturnsInHanded {} Try.checked os 3 .any (Rows.fnSlotsPrefixSpec.pre6 enc Try.prog Try.f3 Rows.fnSlotsPrefixRow.domain false) (Rows.fnSlotsPrefixSpec.post enc Try.prog Try.f3 false true false false) := by
  refine law_lifted (C := Try.checked) (tb := 4) fnSlotsPrefix_own fnSlotsPrefix_laidOut started (by kernel_rfl) Try.func3 rfl Try.underlying4 rfl (by rw [Try.params3]; exact of_decide_eq_true (by kernel_rfl)) ?_
    (ChangeSpec.witness6 (enc := enc) (C := Try.checked) false ⟨#[], #[.slice none 0 0, .slice none 0 0], []⟩ 8 (by kernel_rfl) (by kernel_rfl) (by kernel_rfl) (by kernel_rfl)) ?_
  · intro ds hds
    rw [Try.params3] at hds
    match ds, hds with
    | [d0, d1], _ => rfl
  · intro W base args ds p hval0 hA0
    have hval : ∀ (j : Nat) t v, Try.f3.params[j]? = some t → args[j]? = some v → Value.okWide Try.prog W .any base t v := hval0
    have hA : DataW.TrodAll enc Try.prog W 0 (fun _ => true) true Try.f3.params.toList args.toList ds p := hA0
    rw [Try.params3] at hA hval
    obtain ⟨v0, vs0, d0, ds0, p0, q0, hargs0, rfl, rfl, h0, r0⟩ := trodAll_cons hA
    obtain ⟨v1, vs1, d1, ds1, p1, q1, hargs1, rfl, rfl, h1, r1⟩ := trodAll_cons r0
    obtain ⟨hnil, rfl, rfl⟩ := trodAll_nil r1
    subst hnil
    subst hargs1
    obtain rfl : args = #[v0, v1] := by cases args; simp_all
    obtain ⟨a0, cap0, zs0, rfl, hk0, hm0, hi0, hw0⟩ := open_slice_ints Try.underlying22 Try.underlying5 (by kernel_rfl) (hval 0 22 v0 rfl rfl) h0
    obtain ⟨a1, cap1, zs1, rfl, hk1, hm1, hi1, hw1⟩ := open_slice_ints Try.underlying22 Try.underlying5 (by kernel_rfl) (hval 1 22 v1 rfl rfl) h1
    exact fnSlotsPrefix_walk a0 cap0 zs0 a1 cap1 zs1 W hk0 hm0 hi0 hw0 hk1 hm1 hi1 hw1

set_option maxRecDepth 8000 in
theorem fnSlotsPrefix_holds : Rows.FnSlotsPrefixSaid :=
  OpenClaim.holds_of_wide 3 Try.f3 rfl rfl rfl rfl rfl rfl rfl ⟨rfl, rfl, rfl, rfl, rfl⟩ rfl rfl rfl rfl rfl (by kernel_rfl) Try.func3 (by kernel_rfl)
    (of_decide_eq_true (by kernel_rfl)) (by unfold Func.isWrapper; first | (rw [if_pos (by decide +kernel)]; kernel_rfl) | (rw [if_neg (by decide +kernel)]; exact ⟨rfl, rfl⟩))
    (fun os started H enc _ => fnSlotsPrefix_lifted os started H enc)

end Go.Proofs.Ytjaacdapibokiab
