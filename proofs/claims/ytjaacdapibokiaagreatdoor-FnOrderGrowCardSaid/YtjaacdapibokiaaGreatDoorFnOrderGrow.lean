/- Law FnOrderGrow holds for every input; no conditions of our own (its card: the two sentinels of impl are tied to the program's text). -/
import Derived.Test.YtjaacdapibokiaaGreatDoorRows
import Derived.Test.YtjaacdapibokiaaGreatDoorBu0
import Derived.Test.YtjaacdapibokiaaGreatDoorBu1
import Derived.Test.YtjaacdapibokiaaGreatDoorBu2
import Derived.Test.YtjaacdapibokiaaGreatDoorBu5
import Derived.Test.YtjaacdapibokiaaGreatDoorBu4
namespace Go.Proofs.YtjaacdapibokiaaGreatDoor
open Go.ChangeShapes Go.WideShapes Go.ChangeAt Go.RowKit

set_option maxHeartbeats 2000000 in
theorem fnOrderGrow_walk (a : Option Addr) (cap : Nat) (zs : List Int) (a' : Option Addr) (cap' : Nat) (ms : List Int) (w : World) (hk : zs.length ≤ cap) (_hm : zs.length ≤ maxLen) (hi : zs = [] ∨ ∃ b off, a = some ⟨b, off, none⟩ ∧ b < w.heap.size ∧ ∀ j (h : j < zs.length), w.cell? ⟨b, off + j, none⟩ = some (.int .u8 zs[j])) (hw : ∀ z ∈ zs, (Lit.int .u8 z).wf = true)
    (_hk' : ms.length ≤ cap') (hm' : ms.length ≤ maxLen) (_hi' : ms = [] ∨ ∃ b off, a' = some ⟨b, off, none⟩ ∧ b < w.heap.size ∧ ∀ j (h : j < ms.length), w.cell? ⟨b, off + j, none⟩ = some (.int .u8 ms[j])) (_hw' : ∀ z ∈ ms, (Lit.int .u8 z).wf = true) (eN eI : Addr) (hs : Sen w eN eI) :
    Calls Tryz.prog 5 #[.slice a zs.length cap, .slice a' ms.length cap'] w fun e w' => e = .returned (.bool true) ∧ Below w.heap.size w w' := by
  unfold maxLen at hm'
  by_cases hl : 1048576 < zs.length
  · go_enter Tryz.func5, Tryz.ntmps5
    go_wp2
    go_ret
    exact ⟨rfl, Below.refl _ _⟩
  by_cases hl' : 1048576 < ms.length
  · go_enter Tryz.func5, Tryz.ntmps5
    go_wp2
    go_ret
    exact ⟨rfl, Below.refl _ _⟩
  have hcode := codeAt_of hk (by omega) hi hw
  have Hcode := Lib.hid hcode; clear hcode hi hw
  have Hs := Lib.hid hs; clear hs
  go_enter Tryz.func5, Tryz.ntmps5
  go_wp2_with fail
  refine (spec_DrawOrderSlots a cap zs w Hcode.out).mono ?_
  rintro e w1 ⟨ac, cc, c, vg, g, fp, al, cl, ls, rfl, hoc, hcl, hgr, hfp, hgl, hps, hol, hll, hb1⟩
  have hcc := hoc.cap
  have hlc := hol.cap
  obtain ⟨ag, cg, rfl⟩ := hgr.slice
  have Hps := Lib.hid (show ∀ x ∈ g, x.ps.length ≤ 1099511627776 from fun x hx => Nat.le_trans (hps x hx) (by omega)); clear hps
  have Hb1 := Lib.hid hb1
  have HS := Lib.hid (Hs.out.below hb1)
  have Hc := Lib.hid hoc.at; have Hl := Lib.hid hol.at; have Hg := Lib.hid hgr
  clear hoc hol hgr hb1 hfp Hs
  go_wp2_with fail
  refine (impl_OrderSlots ac cc c g (.slice ag g.length cg) fp al cl ls eN eI w1 (by omega) (by omega) Hps.out (by omega) Hc.out Hg.out Hl.out HS.out).mono ?_
  rintro e w2 ⟨uo, rfl, hoo, hb⟩
  obtain ⟨ao, co, fo, rfl, hcpo, hso⟩ := sls_of hoo
  have Ho := Lib.hid hso
  clear hoo hso
  have Hc := Lib.hid (show IntsAt w2 ac c from Hc.out.below hb)
  have Hl := Lib.hid (show IntsAt w2 al ls from Hl.out.below hb)
  have Hg := Lib.hid (show Gr w2 g (.slice ag g.length cg) fp from Hg.out.under hb)
  have HS := Lib.hid (show Sen w2 eN eI from HS.out.below hb)
  have Hb2 := Lib.hid (below_step Hb1.out Hb1.out.size hb)
  clear hb
  go_wp2_with fail
  refine (spec_OrderSlots ac cc c g (.slice ag g.length cg) fp al cl ls w2 (by omega) (by omega) Hps.out (by omega) Hc.out Hg.out Hl.out).mono ?_
  rintro e w3 ⟨uw, rfl, how, hb⟩
  obtain ⟨aw, cw, fw, rfl, hcpw, hsw⟩ := sls_of how
  have Hw := Lib.hid hsw
  clear how hsw
  have Hc := Lib.hid (show IntsAt w3 ac c from Hc.out.below hb)
  have Hl := Lib.hid (show IntsAt w3 al ls from Hl.out.below hb)
  have Hg := Lib.hid (show Gr w3 g (.slice ag g.length cg) fp from Hg.out.under hb)
  have HS := Lib.hid (show Sen w3 eN eI from HS.out.below hb)
  have Ho := Lib.hid (show Sls w3 (osS c g ls) (.slice ao (osS c g ls).length co) fo from Ho.out.under hb)
  have Hb3 := Lib.hid (below_step Hb2.out Hb2.out.size hb)
  clear hb
  have hO := Nat.le_trans (Nat.le_of_eq (osS_len c g ls)) (osI_len (c := c) (ls := ls) Hps.out)
  have HSS := Lib.hid (laws_sameSlots (osS c g ls) (osS c g ls) ao aw co cw fo fw w3 (by omega) (by omega) Ho.out Hw.out)
  rw [decide_eq_true rfl] at HSS
  go_wp2_with fail
  refine (HSS.out).mono ?_
  rintro e w4 ⟨rfl, hd⟩
  have hb : Below w3.heap.size w3 w4 := hd.below _
  clear hd
  have Hc := Lib.hid (show IntsAt w4 ac c from Hc.out.below hb)
  have Hl := Lib.hid (show IntsAt w4 al ls from Hl.out.below hb)
  have Hg := Lib.hid (show Gr w4 g (.slice ag g.length cg) fp from Hg.out.under hb)
  have HS := Lib.hid (show Sen w4 eN eI from HS.out.below hb)
  have Ho := Lib.hid (show Sls w4 (osS c g ls) (.slice ao (osS c g ls).length co) fo from Ho.out.under hb)
  have Hw := Lib.hid (show Sls w4 (osS c g ls) (.slice aw (osS c g ls).length cw) fw from Hw.out.under hb)
  have Hb4 := Lib.hid (below_step Hb3.out Hb3.out.size hb)
  clear hb
  go_wp2_with fail
  refine (spec_GraphValid ac cc c g (.slice ag g.length cg) fp w4 (by omega) (by omega) Hps.out Hc.out Hg.out).mono ?_
  rintro e w5 ⟨rfl, hb⟩
  have Hc := Lib.hid (show IntsAt w5 ac c from Hc.out.below hb)
  have Hl := Lib.hid (show IntsAt w5 al ls from Hl.out.below hb)
  have Hg := Lib.hid (show Gr w5 g (.slice ag g.length cg) fp from Hg.out.under hb)
  have HS := Lib.hid (show Sen w5 eN eI from HS.out.below hb)
  have Ho := Lib.hid (show Sls w5 (osS c g ls) (.slice ao (osS c g ls).length co) fo from Ho.out.under hb)
  have Hw := Lib.hid (show Sls w5 (osS c g ls) (.slice aw (osS c g ls).length cw) fw from Hw.out.under hb)
  have Hb5 := Lib.hid (below_step Hb4.out Hb4.out.size hb)
  clear hb
  cases hgb : graphB c g with
  | false =>
    have HSS5 := Lib.hid (laws_sameSlots (osS c g ls) (osS c g ls) ao aw co cw fo fw w5 (by omega) (by omega) Ho.out Hw.out)
    rw [decide_eq_true rfl] at HSS5
    generalize osS c g ls = OL at *
    go_wp2_with fail
    refine HSS5.out.mono ?_
    rintro e wx ⟨rfl, hdx⟩
    go_wp2
    go_ret
    exact ⟨rfl, below_step Hb5.out Hb5.out.size (hdx.below _)⟩
  | true =>
  have Hgb := Lib.hid hgb; clear hgb
  clear Hw
  have HV := Lib.hid (laws_view ac cc c g ag cg fp ms.length w5 Hgb.out (by omega) (by omega) Hps.out (by omega) (by omega) Hc.out Hg.out)
  go_wp2_with fail
  refine HV.out.mono ?_
  rintro e w6 ⟨gA, uA, fpA, rfl, hgA, hsub, hglA, hb⟩
  clear HV
  obtain ⟨agA, cgA, rfl⟩ := hgA.slice
  have HgA := Lib.hid hgA; clear hgA
  have HpsA := Lib.hid (fun x hx => Hps.out x (hsub x hx))
  have HprA := Lib.hid (os_part (ls := ls) Hgb.out Hps.out hsub)
  clear hsub
  have Hc := Lib.hid (show IntsAt w6 ac c from Hc.out.below hb)
  have Hl := Lib.hid (show IntsAt w6 al ls from Hl.out.below hb)
  have Hg := Lib.hid (show Gr w6 g (.slice ag g.length cg) fp from Hg.out.under hb)
  have HS := Lib.hid (show Sen w6 eN eI from HS.out.below hb)
  have Ho := Lib.hid (show Sls w6 (osS c g ls) (.slice ao (osS c g ls).length co) fo from Ho.out.under hb)
  have Hb6 := Lib.hid (below_step Hb5.out Hb5.out.size hb)
  clear hb
  have hlA := Nat.le_trans (Nat.le_of_eq (osS_len c gA ls)) (osI_len (c := c) (ls := ls) HpsA.out)
  have HC := Lib.hid (impl_OrderSlots ac cc c gA (.slice agA gA.length cgA) fpA al cl ls eN eI w6 (by omega) (by omega) HpsA.out (by omega) Hc.out HgA.out Hl.out HS.out)
  go_wp2_with fail
  refine HC.out.mono ?_
  rintro e w7 ⟨uA, rfl, hoA, hb⟩
  clear HC
  obtain ⟨aA, cA, fA, rfl, hcpA, hsA⟩ := sls_of hoA
  have HA := Lib.hid hsA
  clear hoA hsA HpsA HgA
  have Hc := Lib.hid (show IntsAt w7 ac c from Hc.out.below hb)
  have Hl := Lib.hid (show IntsAt w7 al ls from Hl.out.below hb)
  have Hg := Lib.hid (show Gr w7 g (.slice ag g.length cg) fp from Hg.out.under hb)
  have HS := Lib.hid (show Sen w7 eN eI from HS.out.below hb)
  have Ho := Lib.hid (show Sls w7 (osS c g ls) (.slice ao (osS c g ls).length co) fo from Ho.out.under hb)
  have Hb7 := Lib.hid (below_step Hb6.out Hb6.out.size hb)
  clear hb
  have HQ := Lib.hid (impl_SlotsPrefix (osS c gA ls) (osS c g ls) aA ao cA co fA fo w7 (by omega) (by omega) hcpo HA.out Ho.out)
  rw [decide_eq_true HprA.out] at HQ
  go_wp2_with fail
  refine (HQ.out).mono ?_
  rintro e w8 ⟨rfl, hd⟩
  have hb : Below w7.heap.size w7 w8 := hd.below _
  clear hd
  have Hb8 := Lib.hid (below_step Hb7.out Hb7.out.size hb)
  clear hb
  go_wp2
  go_ret
  exact ⟨rfl, Hb8.out⟩

theorem fnOrderGrow_own : ownKnob Tryz.prog.godebug = none := by kernel_rfl
theorem fnOrderGrow_laidOut : laidOutB Tryz.prog = true := by kernel_rfl

set_option maxRecDepth 8000 in
theorem fnOrderGrow_lifted (os : Os) (started : os.Started) (H : Type) (enc : TypeId × Value → H) :
    ReturnsInHanded {} Tryz.checked os 5 .any (fun w args => (Rows.fnOrderGrowSpec.pre enc Tryz.prog Tryz.f5 [] false w args ∧ laidMetH Tryz.prog laidE w) ∧ sizedMet enc Tryz.prog Tryz.f5 (OpenSpec.ofChange Rows.fnOrderGrowSpec) false w args) (Rows.fnOrderGrowSpec.post enc Tryz.prog Tryz.f5 false true false false) := by
  refine law_lifted_tied (C := Tryz.checked) (tb := 4) laidE fnOrderGrow_own fnOrderGrow_laidOut started (by kernel_rfl) Tryz.func5 rfl Tryz.underlying4 (by kernel_rfl) (by rw [Tryz.params5]; exact of_decide_eq_true (by kernel_rfl)) ?_
    (ChangeSpec.witness_shaped (enc := enc) (C := Tryz.checked) (os := os) (X := fun w _ => laidMetH Tryz.prog laidE w) false (World.laidAll Tryz.prog os laidE) #[.slice none 0 0, .slice none 0 0] 8 (World.laidAll_os _ _ _) (World.shaped_of_ZipB (by kernel_rfl) (by kernel_rfl)) (by kernel_rfl) (by kernel_rfl) (by kernel_rfl) (laid_witness os _)) ?_
  · intro ds gs hds hgs
    rw [Tryz.params5] at hds
    match ds, hds, gs, hgs with
    | [d0, d1], _, [g0, g1], _ => rfl
  · intro W base args ds p hval0 hA0 hL0
    have hval : ∀ (j : Nat) t v, Tryz.f5.params[j]? = some t → args[j]? = some v → Value.okWide Tryz.prog W .any base t v := hval0
    have hA : DataW.TrodAll enc Tryz.prog W 0 (fun _ => true) true Tryz.f5.params.toList args.toList ds p := hA0
    rw [Tryz.params5] at hA hval
    obtain ⟨v0, vs0, d0, ds0, p0, q0, hargs0, rfl, rfl, h0, r0⟩ := trodAll_cons hA
    obtain ⟨v1, vs1, d1, ds1, p1, q1, hargs1, rfl, rfl, h1, r1⟩ := trodAll_cons r0
    obtain ⟨hnil, rfl, rfl⟩ := trodAll_nil r1
    subst hnil
    subst hargs1
    obtain rfl : args = #[v0, v1] := by cases args; simp_all
    obtain ⟨a0, cap0, zs0, rfl, hk0, hm0, hi0, hw0⟩ := open_slice_ints Tryz.underlying22 Tryz.underlying5 (by kernel_rfl) (hval 0 22 v0 rfl rfl) h0
    obtain ⟨a1, cap1, zs1, rfl, hk1, hm1, hi1, hw1⟩ := open_slice_ints Tryz.underlying22 Tryz.underlying5 (by kernel_rfl) (hval 1 22 v1 rfl rfl) h1
    obtain ⟨eN, eI, hS⟩ := sen_of hL0
    exact fnOrderGrow_walk a0 cap0 zs0 a1 cap1 zs1 W hk0 hm0 hi0 hw0 hk1 hm1 hi1 hw1 eN eI hS

set_option maxRecDepth 8000 in
theorem fnOrderGrow_holds : Rows.FnOrderGrowSaid :=
  OpenClaim.holds_of_wide 5 Tryz.f5 rfl rfl rfl rfl rfl rfl rfl ⟨rfl, rfl, rfl, rfl, rfl⟩ rfl rfl rfl rfl rfl (by kernel_rfl) Tryz.func5 (by kernel_rfl)
    (of_decide_eq_true (by kernel_rfl)) (by unfold Func.isWrapper; first | (rw [if_pos (by decide +kernel)]; kernel_rfl) | (rw [if_neg (by decide +kernel)]; exact ⟨rfl, rfl⟩))
    (fun os started H enc _ => fnOrderGrow_lifted os started H enc)

theorem fnOrderGrow_card : Rows.FnOrderGrowCardSaid :=
  Claim7.holds_tied_plain_at .later [] _ _ _ _ fnOrderGrow_holds (fun _ h => by cases h) (by kernel_rfl) (fun _ h => by cases h) fnOrderGrow_row_tie rfl ⟨rfl, rfl⟩ (by kernel_rfl) rfl
    (plain_of (f0 := 5) (fn0 := Tryz.f5) (ts := [22, 22]) (by kernel_rfl) Tryz.func5 (by rw [Tryz.params5]) (by kernel_rfl) (by kernel_rfl)) (by kernel_rfl)

end Go.Proofs.YtjaacdapibokiaaGreatDoor
