/- The exact law of CoinDeal holds at every argument; no conditions of our own. -/
import Derived.Test.YtkndndcjchlpdabRows
import Derived.Test.YtkndndcjchlpdabBase
import Derived.Test.YtkndndcjchlpdabLift
import Derived.Test.YtkndndcjchlpdabApp
import Derived.Test.YtkndndcjchlpdabDt
import Derived.Test.YtkndndcjchlpdabOwR
import Derived.Test.YtkndndcjchlpdabOwS
import Derived.Test.YtkndndcjchlpdabRow
import Derived.Test.YtkndndcjchlpdabEx
import Derived.Test.YtkndndcjchlpdabL1
import Derived.Test.YtkndndcjchlpdabL2
import Derived.Test.YtkndndcjchlpdabC1
import Derived.Test.YtkndndcjchlpdabC2
import Derived.Test.YtkndndcjchlpdabM3
import Derived.Test.YtkndndcjchlpdabCo5
import Derived.Test.YtkndndcjchlpdabCo6
import Derived.Test.YtkndndcjchlpdabHeld
namespace Go.Proofs.Ytkndndcjchlpdab
open Go.ChangeShapes Go.WideShapes Go.ChangeAt Go.RowKit

set_option maxHeartbeats 2000000 in
theorem fnExactCoinDeal_walk (ad : Option Addr) (capd : Nat) (xd : List Int) (m : Int) (w : World) (_hkd : xd.length ≤ capd) (hmd : xd.length ≤ maxLen) (hid : IntsAt w ad xd) (_hwd : ∀ z ∈ xd, (Lit.int .i64 z).wf = true) (_hm : -9223372036854775808 ≤ m ∧ m ≤ 9223372036854775807) :
    Calls Try.prog 5 #[.slice ad xd.length capd, .int .i64 m] w fun e w' => e = .returned (.bool true) ∧ Below w.heap.size w w' := by
  unfold maxLen at hmd
  obtain ⟨_hm1, _hm2⟩ := _hm
  by_cases hld : xd.length ≤ 1048576
  case neg =>
    go_enter Try.func5, Try.ntmps5
    go_wp2
    go_ret
    exact ⟨rfl, Below.refl _ _⟩
  have Hid := Lib.hid hid; clear hid
  have Hb0 := Lib.hid (Below.refl w.heap.size w)
  have hL2 := Nat.le_trans (cdL_len xd m) (show 7 ≤ 1048576 by omega)
  have Hspec := Lib.hid (fun a_ cc w (_hcc : xd.length ≤ cc) (h : IntsAt w a_ xd) => spec_CoinDeal a_ cc xd m w (by omega) h)
  have Himpl := Lib.hid (fun a_ cc w (_hcc : xd.length ≤ cc) (h : IntsAt w a_ xd) => impl_CoinDeal a_ cc xd m w (by omega) h)
  generalize cdL xd m = L at *
  go_enter Try.func5, Try.ntmps5
  go_wp2_with fail
  refine (laws_toIntS ad capd xd _ (by omega) (Hid.out.below Hb0.out)).mono ?_
  rintro e w1 ⟨vds, rfl, hods, hb1⟩
  have Hb1 := Lib.hid (below_step Hb0.out Hb0.out.size hb1)
  have hz1 := (hb1).size
  have Hds := Lib.hid (OwnI.of hods); clear hods
  obtain ⟨ads, cds, rfl, _, _⟩ := Hds.out.ints
  have hcds := Hds.out.cap
  have hhds : w.heap.size ≤ w.heap.size := Nat.le_refl _
  have hjds : w1.heap.size ≤ w1.heap.size := Nat.le_refl _
  go_wp2_with fail
  refine (Hspec.out ads cds _ hcds Hds.out.at).mono ?_
  rintro e w2 ⟨vw0, rfl, how0, hb2⟩
  have Hb2 := Lib.hid (below_step Hb1.out Hb1.out.size hb2)
  have Hds := Lib.hid (Hds.out.below hb2)
  have hz2 := (hb2).size
  have Hw0 := Lib.hid (OwnI.of how0); clear how0
  obtain ⟨aw0, cw0, rfl, _, _⟩ := Hw0.out.ints
  have hcw0 := Hw0.out.cap
  have hhw0 : w1.heap.size ≤ w1.heap.size := Nat.le_refl _
  have hjw0 : w2.heap.size ≤ w2.heap.size := Nat.le_refl _
  clear Hds
  go_wp2_with fail
  refine (laws_toIntS ad capd xd _ (by omega) (Hid.out.below Hb2.out)).mono ?_
  rintro e w3 ⟨vdx, rfl, hodx, hb3⟩
  have Hb3 := Lib.hid (below_step Hb2.out Hb2.out.size hb3)
  have Hw0 := Lib.hid (Hw0.out.below hb3)
  have hz3 := (hb3).size
  have Hdx := Lib.hid (OwnI.of hodx); clear hodx
  obtain ⟨adx, cdx, rfl, _, _⟩ := Hdx.out.ints
  have hcdx := Hdx.out.cap
  have hhdx : w2.heap.size ≤ w2.heap.size := Nat.le_refl _
  have hjdx : w3.heap.size ≤ w3.heap.size := Nat.le_refl _
  go_wp2_with fail
  refine (Himpl.out adx cdx _ hcdx Hdx.out.at).mono ?_
  rintro e w4 ⟨vg0, rfl, hog0, hb4⟩
  have Hb4 := Lib.hid (below_step Hb3.out Hb3.out.size hb4)
  have Hw0 := Lib.hid (Hw0.out.below hb4)
  have Hdx := Lib.hid (Hdx.out.below hb4)
  have hz4 := (hb4).size
  have Hg0 := Lib.hid (OwnI.of hog0); clear hog0
  obtain ⟨ag0, cg0, rfl, _, _⟩ := Hg0.out.ints
  have hcg0 := Hg0.out.cap
  have hhg0 : w3.heap.size ≤ w3.heap.size := Nat.le_refl _
  have hjg0 : w4.heap.size ≤ w4.heap.size := Nat.le_refl _
  go_wp2_with fail
  refine (laws_eqIntS' ag0 aw0 cg0 cw0 L w4 (by omega) Hg0.out.at Hw0.out.at).mono ?_
  rintro e w5 ⟨rfl, hb5⟩
  have Hb5 := Lib.hid (below_step Hb4.out Hb4.out.size (hb5.below w4.heap.size))
  have Hw0 := Lib.hid (Hw0.out.below (hb5.below w4.heap.size))
  have Hdx := Lib.hid (Hdx.out.below (hb5.below w4.heap.size))
  have Hg0 := Lib.hid (Hg0.out.below (hb5.below w4.heap.size))
  have hz5 := ((hb5.below w4.heap.size)).size
  go_wp2_with fail
  refine (laws_toIntS ad capd xd _ (by omega) (Hid.out.below Hb5.out)).mono ?_
  rintro e w6 ⟨vdy, rfl, hody, hb6⟩
  have Hb6 := Lib.hid (below_step Hb5.out Hb5.out.size hb6)
  have Hw0 := Lib.hid (Hw0.out.below hb6)
  have Hdx := Lib.hid (Hdx.out.below hb6)
  have Hg0 := Lib.hid (Hg0.out.below hb6)
  have hz6 := (hb6).size
  have Hdy := Lib.hid (OwnI.of hody); clear hody
  obtain ⟨ady, cdy, rfl, _, _⟩ := Hdy.out.ints
  have hcdy := Hdy.out.cap
  have hhdy : w5.heap.size ≤ w5.heap.size := Nat.le_refl _
  have hjdy : w6.heap.size ≤ w6.heap.size := Nat.le_refl _
  go_wp2_with fail
  refine (laws_eqIntS' adx ady cdx cdy xd w6 (by omega) Hdx.out.at Hdy.out.at).mono ?_
  rintro e w7 ⟨rfl, hb7⟩
  have Hb7 := Lib.hid (below_step Hb6.out Hb6.out.size (hb7.below w6.heap.size))
  have Hw0 := Lib.hid (Hw0.out.below (hb7.below w6.heap.size))
  have Hdx := Lib.hid (Hdx.out.below (hb7.below w6.heap.size))
  have Hg0 := Lib.hid (Hg0.out.below (hb7.below w6.heap.size))
  have Hdy := Lib.hid (Hdy.out.below (hb7.below w6.heap.size))
  have hz7 := ((hb7.below w6.heap.size)).size
  clear Hdy
  go_wp2_with fail
  refine (laws_markIntS _ xd (1) w2.heap.size w7 (by omega) (by omega) Hdx.out.own).mono ?_
  rintro e w8 ⟨rfl, ho, hg⟩
  have hbt := Hdx.out.marks hg
  have Hb8 := Lib.hid ((hbt).below Hb7.out Hb7.out.size (by omega))
  have hz8 := (hbt).size
  have Hw0 := Lib.hid (Hw0.out.btw (hbt) (by first | exact .inl (by omega) | exact .inr (by omega)))
  have Hg0 := Lib.hid (Hg0.out.btw (hbt) (by first | exact .inl (by omega) | exact .inr (by omega)))
  have Hdx := Lib.hid (Hdx.out.mark ho)
  clear ho hg hbt
  have hkn : decide (((1 + xd.length : Nat) : Int) < 0) = false := decide_eq_false (by omega)
  have hkn' : ¬ ((1 + xd.length : Nat) : Int) < 0 := by omega
  go_wp2_with fail
  refine (laws_eqIntS' ag0 aw0 cg0 cw0 L w8 (by omega) Hg0.out.at Hw0.out.at).mono ?_
  rintro e w9 ⟨rfl, hb9⟩
  have Hb9 := Lib.hid (below_step Hb8.out Hb8.out.size (hb9.below w8.heap.size))
  have Hw0 := Lib.hid (Hw0.out.below (hb9.below w8.heap.size))
  have Hdx := Lib.hid (Hdx.out.below (hb9.below w8.heap.size))
  have Hg0 := Lib.hid (Hg0.out.below (hb9.below w8.heap.size))
  have hz9 := ((hb9.below w8.heap.size)).size
  go_wp2_with fail
  refine (laws_markIntS _ L (1) w3.heap.size w9 (by omega) (by omega) Hg0.out.own).mono ?_
  rintro e w10 ⟨rfl, ho, hg⟩
  have hbt := Hg0.out.marks hg
  have Hb10 := Lib.hid ((hbt).below Hb9.out Hb9.out.size (by omega))
  have hz10 := (hbt).size
  have Hw0 := Lib.hid (Hw0.out.btw (hbt) (by first | exact .inl (by omega) | exact .inr (by omega)))
  have Hdx := Lib.hid (Hdx.out.btw (hbt) (by first | exact .inl (by omega) | exact .inr (by omega)))
  have Hg0 := Lib.hid (Hg0.out.mark ho)
  clear ho hg hbt
  have hmn : decide (((1 + L.length : Nat) : Int) < 0) = false := decide_eq_false (by omega)
  have hmn' : ¬ ((1 + L.length : Nat) : Int) < 0 := by omega
  go_wp2_with fail
  refine (laws_heldIntS ag0 cg0 (1) L.length w10 (by omega) (by omega) Hg0.out.at).mono ?_
  rintro e w11 ⟨rfl, hb11⟩
  have Hb11 := Lib.hid (below_step Hb10.out Hb10.out.size (hb11.below w10.heap.size))
  have Hw0 := Lib.hid (Hw0.out.below (hb11.below w10.heap.size))
  have Hdx := Lib.hid (Hdx.out.below (hb11.below w10.heap.size))
  have Hg0 := Lib.hid (Hg0.out.below (hb11.below w10.heap.size))
  have hz11 := ((hb11.below w10.heap.size)).size
  clear Hdx
  go_wp2_with fail
  refine (laws_toIntS ad capd xd _ (by omega) (Hid.out.below Hb11.out)).mono ?_
  rintro e w12 ⟨vdz, rfl, hodz, hb12⟩
  have Hb12 := Lib.hid (below_step Hb11.out Hb11.out.size hb12)
  have Hw0 := Lib.hid (Hw0.out.below hb12)
  have Hg0 := Lib.hid (Hg0.out.below hb12)
  have hz12 := (hb12).size
  have Hdz := Lib.hid (OwnI.of hodz); clear hodz
  obtain ⟨adz, cdz, rfl, _, _⟩ := Hdz.out.ints
  have hcdz := Hdz.out.cap
  have hhdz : w11.heap.size ≤ w11.heap.size := Nat.le_refl _
  have hjdz : w12.heap.size ≤ w12.heap.size := Nat.le_refl _
  go_wp2_with fail
  refine (Himpl.out adz cdz _ hcdz Hdz.out.at).mono ?_
  rintro e w13 ⟨vh0, rfl, hoh0, hb13⟩
  have Hb13 := Lib.hid (below_step Hb12.out Hb12.out.size hb13)
  have Hw0 := Lib.hid (Hw0.out.below hb13)
  have Hg0 := Lib.hid (Hg0.out.below hb13)
  have Hdz := Lib.hid (Hdz.out.below hb13)
  have hz13 := (hb13).size
  have Hh0 := Lib.hid (OwnI.of hoh0); clear hoh0
  obtain ⟨ah0, ch0, rfl, _, _⟩ := Hh0.out.ints
  have hch0 := Hh0.out.cap
  have hhh0 : w12.heap.size ≤ w12.heap.size := Nat.le_refl _
  have hjh0 : w13.heap.size ≤ w13.heap.size := Nat.le_refl _
  go_wp2_with fail
  refine (laws_eqIntS' ah0 aw0 ch0 cw0 L w13 (by omega) Hh0.out.at Hw0.out.at).mono ?_
  rintro e w14 ⟨rfl, hb14⟩
  have Hb14 := Lib.hid (below_step Hb13.out Hb13.out.size (hb14.below w13.heap.size))
  have Hw0 := Lib.hid (Hw0.out.below (hb14.below w13.heap.size))
  have Hg0 := Lib.hid (Hg0.out.below (hb14.below w13.heap.size))
  have Hdz := Lib.hid (Hdz.out.below (hb14.below w13.heap.size))
  have Hh0 := Lib.hid (Hh0.out.below (hb14.below w13.heap.size))
  have hz14 := ((hb14.below w13.heap.size)).size
  go_wp2_with fail
  refine (laws_heldIntS ag0 cg0 (1) L.length w14 (by omega) (by omega) Hg0.out.at).mono ?_
  rintro e w15 ⟨rfl, hb15⟩
  have Hb15 := Lib.hid (below_step Hb14.out Hb14.out.size (hb15.below w14.heap.size))
  have Hw0 := Lib.hid (Hw0.out.below (hb15.below w14.heap.size))
  have Hg0 := Lib.hid (Hg0.out.below (hb15.below w14.heap.size))
  have Hdz := Lib.hid (Hdz.out.below (hb15.below w14.heap.size))
  have Hh0 := Lib.hid (Hh0.out.below (hb15.below w14.heap.size))
  have hz15 := ((hb15.below w14.heap.size)).size
  go_wp2
  go_ret
  exact ⟨by first | rfl | exact ret_bool (by simp), Hb15.out⟩

theorem fnExactCoinDeal_own : ownKnob Try.prog.godebug = none := by kernel_rfl
theorem fnExactCoinDeal_laidOut : laidOutB Try.prog = true := by kernel_rfl

set_option maxRecDepth 8000 in
theorem fnExactCoinDeal_lifted (os : Os) (started : os.Started) (H : Type) (enc : TypeId × Value → H) :
    ReturnsInHanded {} Try.checked os 5 .any (Rows.fnExactCoinDealSpec.pre6 enc Try.prog Try.f5 Rows.fnExactCoinDealRow.domain false) (Rows.fnExactCoinDealSpec.post enc Try.prog Try.f5 false true false false) := by
  refine law_lifted (C := Try.checked) (tb := 4) fnExactCoinDeal_own fnExactCoinDeal_laidOut started (by kernel_rfl) Try.func5 rfl Try.underlying4 rfl (by rw [Try.params5]; exact of_decide_eq_true (by kernel_rfl)) ?_
    (ChangeSpec.witness6 (enc := enc) (C := Try.checked) false ⟨#[], #[.slice none 0 0, .int .i64 0], []⟩ 8 (by kernel_rfl) (by kernel_rfl) (by kernel_rfl) (by kernel_rfl)) ?_
  · intro ds hds
    rw [Try.params5] at hds
    match ds, hds with
    | [d0, d1], _ => rfl
  · intro W base args ds p hval0 hA0
    have hval : ∀ (j : Nat) t v, Try.f5.params[j]? = some t → args[j]? = some v → Value.okWide Try.prog W .any base t v := hval0
    have hA : DataW.TrodAll enc Try.prog W 0 (fun _ => true) true Try.f5.params.toList args.toList ds p := hA0
    rw [Try.params5] at hA hval
    obtain ⟨v0, vs0, d0, ds0, p0, q0, hargs0, rfl, rfl, h0, r0⟩ := trodAll_cons hA
    obtain ⟨v1, vs1, d1, ds1, p1, q1, hargs1, rfl, rfl, h1, r1⟩ := trodAll_cons r0
    obtain ⟨hnil, rfl, rfl⟩ := trodAll_nil r1
    subst hnil
    subst hargs1
    obtain rfl : args = #[v0, v1] := by cases args; simp_all
    obtain ⟨a0, cap0, zs0, rfl, hk0, hm0, hi0, hw0⟩ := open_slice_ints Try.underlying30 Try.underlying3 (by kernel_rfl) (hval 0 30 v0 rfl rfl) h0
    obtain ⟨n1, rfl, _, _, hw1⟩ := open_int Try.underlying3 (hval 1 3 v1 rfl rfl) h1
    exact fnExactCoinDeal_walk a0 cap0 zs0 n1 W hk0 hm0 hi0 hw0 (wf_i64 hw1)

theorem fnExactCoinDeal_holds : Rows.FnExactCoinDealSaid :=
  OpenClaim.holds_of_wide 5 Try.f5 rfl rfl rfl rfl rfl rfl rfl ⟨rfl, rfl, rfl, rfl, rfl⟩ rfl rfl rfl rfl rfl (by kernel_rfl) Try.func5 (by kernel_rfl)
    (of_decide_eq_true (by kernel_rfl)) (by unfold Func.isWrapper; first | (rw [if_pos (by decide +kernel)]; kernel_rfl) | (rw [if_neg (by decide +kernel)]; exact ⟨rfl, rfl⟩))
    (fun os started H enc _ => fnExactCoinDeal_lifted os started H enc)

end Go.Proofs.Ytkndndcjchlpdab
