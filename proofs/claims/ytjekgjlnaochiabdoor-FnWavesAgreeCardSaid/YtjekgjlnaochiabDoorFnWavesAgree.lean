/- Law FnWavesAgree holds for every input; no conditions of our own (its card: the two sentinels of impl are tied to the program's text). -/
import Derived.Test.YtjekgjlnaochiabDoorRows
import Derived.Test.YtjekgjlnaochiabDoorBu0
import Derived.Test.YtjekgjlnaochiabDoorBu3
import Derived.Test.YtjekgjlnaochiabDoorBu4
import Derived.Test.YtjekgjlnaochiabDoorBu1
namespace Go.Proofs.YtjekgjlnaochiabDoor
open Go.ChangeShapes Go.WideShapes Go.ChangeAt Go.RowKit

set_option maxHeartbeats 2000000 in
theorem fnWavesAgree_walk (a : Option Addr) (cap : Nat) (zs : List Int) (a' : Option Addr) (cap' : Nat) (ms : List Int) (w : World) (hk : zs.length ≤ cap) (_hm : zs.length ≤ maxLen) (hi : zs = [] ∨ ∃ b off, a = some ⟨b, off, none⟩ ∧ b < w.heap.size ∧ ∀ j (h : j < zs.length), w.cell? ⟨b, off + j, none⟩ = some (.int .u8 zs[j])) (hw : ∀ z ∈ zs, (Lit.int .u8 z).wf = true)
    (_hk' : ms.length ≤ cap') (hm' : ms.length ≤ maxLen) (_hi' : ms = [] ∨ ∃ b off, a' = some ⟨b, off, none⟩ ∧ b < w.heap.size ∧ ∀ j (h : j < ms.length), w.cell? ⟨b, off + j, none⟩ = some (.int .u8 ms[j])) (_hw' : ∀ z ∈ ms, (Lit.int .u8 z).wf = true) (eN eI : Addr) (hs : Sen w eN eI) :
    Calls Tryd.prog 3 #[.slice a zs.length cap, .slice a' ms.length cap'] w fun e w' => e = .returned (.bool true) ∧ Below w.heap.size w w' := by
  unfold maxLen at hm'
  by_cases hl : 1048576 < zs.length
  · go_enter Tryd.func3, Tryd.ntmps3
    go_wp2
    go_ret
    exact ⟨rfl, Below.refl _ _⟩
  by_cases hl' : 1048576 < ms.length
  · go_enter Tryd.func3, Tryd.ntmps3
    go_wp2
    go_ret
    exact ⟨rfl, Below.refl _ _⟩
  have hcode := codeAt_of hk (by omega) hi hw
  have Hcode := Lib.hid hcode; clear hcode hi hw
  have Hs := Lib.hid hs; clear hs
  go_enter Tryd.func3, Tryd.ntmps3
  go_wp2_with fail
  refine (spec_DrawCommitWaves a cap zs w Hcode.out).mono ?_
  rintro e w1 ⟨ac, cc, c, vg, g, fp, al, cl, ls, rfl, hoc, hcl, hgr, hfp, hgl, hps, hol, hll, hb1⟩
  have hcc := hoc.cap
  have hlc := hol.cap
  obtain ⟨ag, cg, rfl⟩ := hgr.slice
  have Hps := Lib.hid (show ∀ x ∈ g, x.ps.length ≤ 1099511627776 from fun x hx => Nat.le_trans (hps x hx) (by omega)); clear hps
  have Hb1 := Lib.hid hb1
  have HS := Lib.hid (Hs.out.below hb1)
  have Hc := Lib.hid hoc.at; have Hl := Lib.hid hol.at; have Hg := Lib.hid hgr
  clear hoc hol hgr hb1 hfp Hs
  go_wp2_with fail
  refine (impl_CommitWaves ac cc c g (.slice ag g.length cg) fp al cl ls eN eI w1 (by omega) (by omega) Hps.out (by omega) hcc Hc.out Hg.out hlc Hl.out HS.out).mono ?_
  rintro e w2 ⟨uo, rfl, hoo, hb⟩
  obtain ⟨ao, co, rfl, _, _⟩ := hoo.ints
  have HO := Lib.hid (show IntsAt w2 ao (cwZ c g ls) from hoo.at)
  have hoc := hoo.cap
  clear hoo
  have Hc := Lib.hid (show IntsAt w2 ac c from Hc.out.below hb)
  have Hl := Lib.hid (show IntsAt w2 al ls from Hl.out.below hb)
  have Hg := Lib.hid (show Gr w2 g (.slice ag g.length cg) fp from Hg.out.under hb)
  have HS := Lib.hid (show Sen w2 eN eI from HS.out.below hb)
  have Hb2 := Lib.hid (below_step Hb1.out Hb1.out.size hb)
  clear hb
  go_wp2_with fail
  refine (spec_CommitWaves ac cc c g (.slice ag g.length cg) fp al cl ls w2 (by omega) (by omega) Hps.out (by omega) Hc.out Hg.out Hl.out).mono ?_
  rintro e w3 ⟨uw, rfl, how, hb⟩
  obtain ⟨aw, cw, rfl, _, _⟩ := how.ints
  have HW := Lib.hid (show IntsAt w3 aw (cwZ c g ls) from how.at)
  clear how
  have Hc := Lib.hid (show IntsAt w3 ac c from Hc.out.below hb)
  have Hl := Lib.hid (show IntsAt w3 al ls from Hl.out.below hb)
  have Hg := Lib.hid (show Gr w3 g (.slice ag g.length cg) fp from Hg.out.under hb)
  have HS := Lib.hid (show Sen w3 eN eI from HS.out.below hb)
  have HO := Lib.hid (show IntsAt w3 ao (cwZ c g ls) from HO.out.below hb)
  have Hb3 := Lib.hid (below_step Hb2.out Hb2.out.size hb)
  clear hb
  have hO22 : (cwZ c g ls).length ≤ 22 := Nat.le_trans (cwZ_len c g ls) hll
  go_wp2_with fail
  refine (laws_sameInts' ao aw co cw (cwZ c g ls) w3 (by omega) HO.out HW.out).mono ?_
  rintro e w4 ⟨rfl, hd⟩
  have hb : Below w3.heap.size w3 w4 := hd.below _
  clear hd
  have Hc := Lib.hid (show IntsAt w4 ac c from Hc.out.below hb)
  have Hl := Lib.hid (show IntsAt w4 al ls from Hl.out.below hb)
  have Hg := Lib.hid (show Gr w4 g (.slice ag g.length cg) fp from Hg.out.under hb)
  have HS := Lib.hid (show Sen w4 eN eI from HS.out.below hb)
  have HO := Lib.hid (show IntsAt w4 ao (cwZ c g ls) from HO.out.below hb)
  have HW := Lib.hid (show IntsAt w4 aw (cwZ c g ls) from HW.out.below hb)
  have Hb4 := Lib.hid (below_step Hb3.out Hb3.out.size hb)
  clear hb
  go_wp2_with fail
  refine (spec_GraphValid ac cc c g (.slice ag g.length cg) fp w4 (by omega) (by omega) Hps.out Hc.out Hg.out).mono ?_
  rintro e w5 ⟨rfl, hb⟩
  have Hc := Lib.hid (show IntsAt w5 ac c from Hc.out.below hb)
  have Hl := Lib.hid (show IntsAt w5 al ls from Hl.out.below hb)
  have Hg := Lib.hid (show Gr w5 g (.slice ag g.length cg) fp from Hg.out.under hb)
  have HS := Lib.hid (show Sen w5 eN eI from HS.out.below hb)
  have HO := Lib.hid (show IntsAt w5 ao (cwZ c g ls) from HO.out.below hb)
  have HW := Lib.hid (show IntsAt w5 aw (cwZ c g ls) from HW.out.below hb)
  have Hb5 := Lib.hid (below_step Hb4.out Hb4.out.size hb)
  clear hb
  have HSI := Lib.hid (laws_sameInts' ao aw co cw (cwZ c g ls) w5 (by omega) HO.out HW.out)
  cases hgb : graphB c g with
  | false =>
    generalize cwZ c g ls = OL at *
    go_wp2_with fail
    refine HSI.out.mono ?_
    rintro e w6 ⟨rfl, hd6⟩
    go_wp2
    go_ret
    exact ⟨rfl, below_step Hb5.out Hb5.out.size (hd6.below _)⟩
  | true =>
  clear HSI HW
  have Hgb := Lib.hid hgb; clear hgb
  have HV := Lib.hid (laws_view ac cc c g ag cg fp ms.length w5 Hgb.out (by omega) (by omega) Hps.out (by omega) (by omega) Hc.out Hg.out)
  go_wp2_with fail
  refine HV.out.mono ?_
  rintro e w6 ⟨gA, uA, fpA, rfl, hgA, hsub, hglA, hb⟩
  clear HV
  obtain ⟨agA, cgA, rfl⟩ := hgA.slice
  have HgA := Lib.hid hgA; clear hgA
  have HpsA := Lib.hid (fun x hx => Hps.out x (hsub x hx))
  have HprA := Lib.hid (cw_part (ls := ls) Hgb.out Hps.out hsub)
  clear hsub
  have Hc := Lib.hid (show IntsAt w6 ac c from Hc.out.below hb)
  have Hl := Lib.hid (show IntsAt w6 al ls from Hl.out.below hb)
  have Hg := Lib.hid (show Gr w6 g (.slice ag g.length cg) fp from Hg.out.under hb)
  have HS := Lib.hid (show Sen w6 eN eI from HS.out.below hb)
  have HO := Lib.hid (show IntsAt w6 ao (cwZ c g ls) from HO.out.below hb)
  have Hb6 := Lib.hid (below_step Hb5.out Hb5.out.size hb)
  clear hb
  have HC := Lib.hid (impl_CommitWaves ac cc c gA (.slice agA gA.length cgA) fpA al cl ls eN eI w6 (by omega) (by omega) HpsA.out (by omega) hcc Hc.out HgA.out hlc Hl.out HS.out)
  have hlA := cwZ_len c gA ls
  go_wp2_with fail
  refine HC.out.mono ?_
  rintro e w7 ⟨uA, rfl, hoA, hb⟩
  clear HC
  obtain ⟨aA, cA, rfl, _, _⟩ := hoA.ints
  have hcA := hoA.cap
  have HA := Lib.hid (show IntsAt w7 aA (cwZ c gA ls) from hoA.at)
  clear hoA HpsA HgA
  have Hc := Lib.hid (show IntsAt w7 ac c from Hc.out.below hb)
  have Hl := Lib.hid (show IntsAt w7 al ls from Hl.out.below hb)
  have Hg := Lib.hid (show Gr w7 g (.slice ag g.length cg) fp from Hg.out.under hb)
  have HS := Lib.hid (show Sen w7 eN eI from HS.out.below hb)
  have HO := Lib.hid (show IntsAt w7 ao (cwZ c g ls) from HO.out.below hb)
  have Hb7 := Lib.hid (below_step Hb6.out Hb6.out.size hb)
  clear hb
  have e1 : IntKind.i64.wrap (3 * (ms.length : Int)) = 3 * (ms.length : Int) := IntWalk.i64_in _ (by omega)
  have e2 : IntKind.i64.wrap (3 * (ms.length : Int) + (zs.length : Int)) = 3 * (ms.length : Int) + (zs.length : Int) := IntWalk.i64_in _ (by omega)
  have HV := Lib.hid (laws_view ac cc c g ag cg fp (3 * (ms.length : Int) + (zs.length : Int)) w7 Hgb.out (by omega) (by omega) Hps.out (by omega) (by omega) Hc.out Hg.out)
  go_wp2_with fail
  refine HV.out.mono ?_
  rintro e w8 ⟨gB, uB, fpB, rfl, hgB, hsub, hglB, hb⟩
  clear HV
  obtain ⟨agB, cgB, rfl⟩ := hgB.slice
  have HgB := Lib.hid hgB; clear hgB
  have HpsB := Lib.hid (fun x hx => Hps.out x (hsub x hx))
  have HprB := Lib.hid (cw_part (ls := ls) Hgb.out Hps.out hsub)
  clear hsub
  have Hc := Lib.hid (show IntsAt w8 ac c from Hc.out.below hb)
  have Hl := Lib.hid (show IntsAt w8 al ls from Hl.out.below hb)
  have Hg := Lib.hid (show Gr w8 g (.slice ag g.length cg) fp from Hg.out.under hb)
  have HS := Lib.hid (show Sen w8 eN eI from HS.out.below hb)
  have HO := Lib.hid (show IntsAt w8 ao (cwZ c g ls) from HO.out.below hb)
  have HA := Lib.hid (show IntsAt w8 aA (cwZ c gA ls) from HA.out.below hb)
  have Hb8 := Lib.hid (below_step Hb7.out Hb7.out.size hb)
  clear hb
  have HC := Lib.hid (impl_CommitWaves ac cc c gB (.slice agB gB.length cgB) fpB al cl ls eN eI w8 (by omega) (by omega) HpsB.out (by omega) hcc Hc.out HgB.out hlc Hl.out HS.out)
  have hlB := cwZ_len c gB ls
  go_wp2_with fail
  refine HC.out.mono ?_
  rintro e w9 ⟨uB, rfl, hoB, hb⟩
  clear HC
  obtain ⟨aB, cB, rfl, _, _⟩ := hoB.ints
  have hcB := hoB.cap
  have HB := Lib.hid (show IntsAt w9 aB (cwZ c gB ls) from hoB.at)
  clear hoB HpsB HgB
  have Hc := Lib.hid (show IntsAt w9 ac c from Hc.out.below hb)
  have Hl := Lib.hid (show IntsAt w9 al ls from Hl.out.below hb)
  have Hg := Lib.hid (show Gr w9 g (.slice ag g.length cg) fp from Hg.out.under hb)
  have HS := Lib.hid (show Sen w9 eN eI from HS.out.below hb)
  have HO := Lib.hid (show IntsAt w9 ao (cwZ c g ls) from HO.out.below hb)
  have HA := Lib.hid (show IntsAt w9 aA (cwZ c gA ls) from HA.out.below hb)
  have Hb9 := Lib.hid (below_step Hb8.out Hb8.out.size hb)
  clear hb
  have Hor := Lib.hid (preB_two HprA.out HprB.out)
  have HAO := Lib.hid (preB_of HprA.out)
  generalize hOL : cwZ c g ls = OL at *
  generalize hAL : cwZ c gA ls = AL at *
  generalize hBL : cwZ c gB ls = BL at *
  clear hOL hAL hBL HprA HprB Hgb
  have HQ := Lib.hid (fun W (hb : Below w9.heap.size w9 W) => laws_prefixInts aA aB cA cB AL BL W (by omega) (by omega) hcB (HA.out.below hb) (HB.out.below hb))
  have HR := Lib.hid (fun W (hb : Below w9.heap.size w9 W) => laws_prefixInts aB aA cB cA BL AL W (by omega) (by omega) hcA (HB.out.below hb) (HA.out.below hb))
  have HO1 := Lib.hid (fun W (hb : Below w9.heap.size w9 W) => laws_prefixInts aA ao cA co AL OL W (by omega) (by omega) hoc (HA.out.below hb) (HO.out.below hb))
  cases hab : preB AL BL with
  | true =>
    rw [hab] at HQ
    go_wp2_with fail
    refine (HQ.out _ (Below.refl _ _)).mono ?_
    rintro e wx ⟨rfl, hdx⟩
    have Hbf := Lib.hid (below_step Hb9.out Hb9.out.size (hdx.below _))
    go_wp2_with fail
    refine (HO1.out _ (hdx.below _)).mono ?_
    rintro e wz ⟨rfl, hdz⟩
    rw [HAO.out]
    have Hbz := Lib.hid (below_step Hbf.out Hbf.out.size (hdz.below _))
    clear hdz
    go_wp2
    go_ret
    exact ⟨by first | rfl | exact ret_bool (by simp), Hbz.out⟩
  | false =>
    rw [hab] at HQ
    have hba : preB BL AL = true := by
      rcases Hor.out with h | h
      · rw [hab] at h; cases h
      · exact h
    rw [hba] at HR
    go_wp2_with fail
    refine (HQ.out _ (Below.refl _ _)).mono ?_
    rintro e wx ⟨rfl, hdx⟩
    have Hdx := Lib.hid hdx; clear hdx
    go_wp2_with fail
    refine (HR.out _ (Hdx.out.below _)).mono ?_
    rintro e wy ⟨rfl, hdy⟩
    have Hdy := Lib.hid (Hdx.out.trans hdy); clear hdy
    have Hbf := Lib.hid (below_step Hb9.out Hb9.out.size (Hdy.out.below _))
    go_wp2_with fail
    refine (HO1.out _ (Hdy.out.below _)).mono ?_
    rintro e wz ⟨rfl, hdz⟩
    rw [HAO.out]
    have Hbz := Lib.hid (below_step Hbf.out Hbf.out.size (hdz.below _))
    clear hdz
    go_wp2
    go_ret
    exact ⟨by first | rfl | exact ret_bool (by simp), Hbz.out⟩

theorem fnWavesAgree_own : ownKnob Tryd.prog.godebug = none := by kernel_rfl
theorem fnWavesAgree_laidOut : laidOutB Tryd.prog = true := by kernel_rfl

set_option maxRecDepth 8000 in
theorem fnWavesAgree_lifted (os : Os) (started : os.Started) (H : Type) (enc : TypeId × Value → H) :
    ReturnsInHanded {} Tryd.checked os 3 .any (fun w args => (Rows.fnWavesAgreeSpec.pre enc Tryd.prog Tryd.f3 [] false w args ∧ laidMetH Tryd.prog laidE w) ∧ sizedMet enc Tryd.prog Tryd.f3 (OpenSpec.ofChange Rows.fnWavesAgreeSpec) false w args) (Rows.fnWavesAgreeSpec.post enc Tryd.prog Tryd.f3 false true false false) := by
  refine law_lifted_tied (C := Tryd.checked) (tb := 4) laidE fnWavesAgree_own fnWavesAgree_laidOut started (by kernel_rfl) Tryd.func3 rfl Tryd.underlying4 (by kernel_rfl) (by rw [Tryd.params3]; exact of_decide_eq_true (by kernel_rfl)) ?_
    (ChangeSpec.witness_shaped (enc := enc) (C := Tryd.checked) (os := os) (X := fun w _ => laidMetH Tryd.prog laidE w) false (World.laidAll Tryd.prog os laidE) #[.slice none 0 0, .slice none 0 0] 8 (World.laidAll_os _ _ _) (World.shaped_of_ZipB (by kernel_rfl) (by kernel_rfl)) (by kernel_rfl) (by kernel_rfl) (by kernel_rfl) (laid_witness os _)) ?_
  · intro ds gs hds hgs
    rw [Tryd.params3] at hds
    match ds, hds, gs, hgs with
    | [d0, d1], _, [g0, g1], _ => rfl
  · intro W base args ds p hval0 hA0 hL0
    have hval : ∀ (j : Nat) t v, Tryd.f3.params[j]? = some t → args[j]? = some v → Value.okWide Tryd.prog W .any base t v := hval0
    have hA : DataW.TrodAll enc Tryd.prog W 0 (fun _ => true) true Tryd.f3.params.toList args.toList ds p := hA0
    rw [Tryd.params3] at hA hval
    obtain ⟨v0, vs0, d0, ds0, p0, q0, hargs0, rfl, rfl, h0, r0⟩ := trodAll_cons hA
    obtain ⟨v1, vs1, d1, ds1, p1, q1, hargs1, rfl, rfl, h1, r1⟩ := trodAll_cons r0
    obtain ⟨hnil, rfl, rfl⟩ := trodAll_nil r1
    subst hnil
    subst hargs1
    obtain rfl : args = #[v0, v1] := by cases args; simp_all
    obtain ⟨a0, cap0, zs0, rfl, hk0, hm0, hi0, hw0⟩ := open_slice_ints Tryd.underlying22 Tryd.underlying5 (by kernel_rfl) (hval 0 22 v0 rfl rfl) h0
    obtain ⟨a1, cap1, zs1, rfl, hk1, hm1, hi1, hw1⟩ := open_slice_ints Tryd.underlying22 Tryd.underlying5 (by kernel_rfl) (hval 1 22 v1 rfl rfl) h1
    obtain ⟨eN, eI, hS⟩ := sen_of hL0
    exact fnWavesAgree_walk a0 cap0 zs0 a1 cap1 zs1 W hk0 hm0 hi0 hw0 hk1 hm1 hi1 hw1 eN eI hS

set_option maxRecDepth 8000 in
theorem fnWavesAgree_holds : Rows.FnWavesAgreeSaid :=
  OpenClaim.holds_of_wide 3 Tryd.f3 rfl rfl rfl rfl rfl rfl rfl ⟨rfl, rfl, rfl, rfl, rfl⟩ rfl rfl rfl rfl rfl (by kernel_rfl) Tryd.func3 (by kernel_rfl)
    (of_decide_eq_true (by kernel_rfl)) (by unfold Func.isWrapper; first | (rw [if_pos (by decide +kernel)]; kernel_rfl) | (rw [if_neg (by decide +kernel)]; exact ⟨rfl, rfl⟩))
    (fun os started H enc _ => fnWavesAgree_lifted os started H enc)

theorem fnWavesAgree_card : Rows.FnWavesAgreeCardSaid :=
  Claim7.holds_tied_plain_at .later [] _ _ _ _ fnWavesAgree_holds (fun _ h => by cases h) (by kernel_rfl) (fun _ h => by cases h) fnWavesAgree_row_tie rfl ⟨rfl, rfl⟩ (by kernel_rfl) rfl
    (plain_of (f0 := 3) (fn0 := Tryd.f3) (ts := [22, 22]) (by kernel_rfl) Tryd.func3 (by rw [Tryd.params3]) (by kernel_rfl) (by kernel_rfl)) (by kernel_rfl)

end Go.Proofs.YtjekgjlnaochiabDoor
