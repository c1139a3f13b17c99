/- Law FnOrderAgree holds for every input; no conditions of our own (its card: the two sentinels of impl are tied to the program's text). -/
import Derived.Test.YtjaacdapibokiaaGreatDoorRows
import Derived.Test.YtjaacdapibokiaaGreatDoorBu0
import Derived.Test.YtjaacdapibokiaaGreatDoorBu1
import Derived.Test.YtjaacdapibokiaaGreatDoorBu2
import Derived.Test.YtjaacdapibokiaaGreatDoorBu5
import Derived.Test.YtjaacdapibokiaaGreatDoorBu4
namespace Go.Proofs.YtjaacdapibokiaaGreatDoor
open Go.ChangeShapes Go.WideShapes Go.ChangeAt Go.RowKit

set_option maxHeartbeats 2000000 in
theorem fnOrderAgree_walk (a : Option Addr) (cap : Nat) (zs : List Int) (a' : Option Addr) (cap' : Nat) (ms : List Int) (w : World) (hk : zs.length ≤ cap) (_hm : zs.length ≤ maxLen) (hi : zs = [] ∨ ∃ b off, a = some ⟨b, off, none⟩ ∧ b < w.heap.size ∧ ∀ j (h : j < zs.length), w.cell? ⟨b, off + j, none⟩ = some (.int .u8 zs[j])) (hw : ∀ z ∈ zs, (Lit.int .u8 z).wf = true)
    (_hk' : ms.length ≤ cap') (hm' : ms.length ≤ maxLen) (_hi' : ms = [] ∨ ∃ b off, a' = some ⟨b, off, none⟩ ∧ b < w.heap.size ∧ ∀ j (h : j < ms.length), w.cell? ⟨b, off + j, none⟩ = some (.int .u8 ms[j])) (_hw' : ∀ z ∈ ms, (Lit.int .u8 z).wf = true) (eN eI : Addr) (hs : Sen w eN eI) :
    Calls Tryz.prog 4 #[.slice a zs.length cap, .slice a' ms.length cap'] w fun e w' => e = .returned (.bool true) ∧ Below w.heap.size w w' := by
  unfold maxLen at hm'
  by_cases hl : 1048576 < zs.length
  · go_enter Tryz.func4, Tryz.ntmps4
    go_wp2
    go_ret
    exact ⟨rfl, Below.refl _ _⟩
  by_cases hl' : 1048576 < ms.length
  · go_enter Tryz.func4, Tryz.ntmps4
    go_wp2
    go_ret
    exact ⟨rfl, Below.refl _ _⟩
  have hcode := codeAt_of hk (by omega) hi hw
  have Hcode := Lib.hid hcode; clear hcode hi hw
  have Hs := Lib.hid hs; clear hs
  go_enter Tryz.func4, Tryz.ntmps4
  go_wp2_with fail
  refine (spec_DrawOrderSlots a cap zs w Hcode.out).mono ?_
  rintro e w1 ⟨ac, cc, c, vg, g, fp, al, cl, ls, rfl, hoc, hcl, hgr, hfp, hgl, hps, hol, hll, hb1⟩
  have hcc := hoc.cap
  have hlc := hol.cap
  obtain ⟨ag, cg, rfl⟩ := hgr.slice
  have Hps := Lib.hid (show ∀ x ∈ g, x.ps.length ≤ 1099511627776 from fun x hx => Nat.le_trans (hps x hx) (by omega)); clear hps
  have Hb1 := Lib.hid hb1
  have HS := Lib.hid (Hs.out.below hb1)
  have Hc := Lib.hid hoc.at; have Hl := Lib.hid hol.at; have Hg := Lib.hid hgr
  clear hoc hol hgr hb1 hfp Hs
  go_wp2_with fail
  refine (impl_OrderSlots ac cc c g (.slice ag g.length cg) fp al cl ls eN eI w1 (by omega) (by omega) Hps.out (by omega) Hc.out Hg.out Hl.out HS.out).mono ?_
  rintro e w2 ⟨uo, rfl, hoo, hb⟩
  obtain ⟨ao, co, fo, rfl, hcpo, hso⟩ := sls_of hoo
  have Ho := Lib.hid hso
  clear hoo hso
  have Hc := Lib.hid (show IntsAt w2 ac c from Hc.out.below hb)
  have Hl := Lib.hid (show IntsAt w2 al ls from Hl.out.below hb)
  have Hg := Lib.hid (show Gr w2 g (.slice ag g.length cg) fp from Hg.out.under hb)
  have HS := Lib.hid (show Sen w2 eN eI from HS.out.below hb)
  have Hb2 := Lib.hid (below_step Hb1.out Hb1.out.size hb)
  clear hb
  go_wp2_with fail
  refine (spec_OrderSlots ac cc c g (.slice ag g.length cg) fp al cl ls w2 (by omega) (by omega) Hps.out (by omega) Hc.out Hg.out Hl.out).mono ?_
  rintro e w3 ⟨uw, rfl, how, hb⟩
  obtain ⟨aw, cw, fw, rfl, hcpw, hsw⟩ := sls_of how
  have Hw := Lib.hid hsw
  clear how hsw
  have Hc := Lib.hid (show IntsAt w3 ac c from Hc.out.below hb)
  have Hl := Lib.hid (show IntsAt w3 al ls from Hl.out.below hb)
  have Hg := Lib.hid (show Gr w3 g (.slice ag g.length cg) fp from Hg.out.under hb)
  have HS := Lib.hid (show Sen w3 eN eI from HS.out.below hb)
  have Ho := Lib.hid (show Sls w3 (osS c g ls) (.slice ao (osS c g ls).length co) fo from Ho.out.under hb)
  have Hb3 := Lib.hid (below_step Hb2.out Hb2.out.size hb)
  clear hb
  have hO := Nat.le_trans (Nat.le_of_eq (osS_len c g ls)) (osI_len (c := c) (ls := ls) Hps.out)
  have HSS := Lib.hid (laws_sameSlots (osS c g ls) (osS c g ls) ao aw co cw fo fw w3 (by omega) (by omega) Ho.out Hw.out)
  rw [decide_eq_true rfl] at HSS
  go_wp2_with fail
  refine (HSS.out).mono ?_
  rintro e w4 ⟨rfl, hd⟩
  have hb : Below w3.heap.size w3 w4 := hd.below _
  clear hd
  have Hc := Lib.hid (show IntsAt w4 ac c from Hc.out.below hb)
  have Hl := Lib.hid (show IntsAt w4 al ls from Hl.out.below hb)
  have Hg := Lib.hid (show Gr w4 g (.slice ag g.length cg) fp from Hg.out.under hb)
  have HS := Lib.hid (show Sen w4 eN eI from HS.out.below hb)
  have Ho := Lib.hid (show Sls w4 (osS c g ls) (.slice ao (osS c g ls).length co) fo from Ho.out.under hb)
  have Hw := Lib.hid (show Sls w4 (osS c g ls) (.slice aw (osS c g ls).length cw) fw from Hw.out.under hb)
  have Hb4 := Lib.hid (below_step Hb3.out Hb3.out.size hb)
  clear hb
  go_wp2_with fail
  refine (spec_GraphValid ac cc c g (.slice ag g.length cg) fp w4 (by omega) (by omega) Hps.out Hc.out Hg.out).mono ?_
  rintro e w5 ⟨rfl, hb⟩
  have Hc := Lib.hid (show IntsAt w5 ac c from Hc.out.below hb)
  have Hl := Lib.hid (show IntsAt w5 al ls from Hl.out.below hb)
  have Hg := Lib.hid (show Gr w5 g (.slice ag g.length cg) fp from Hg.out.under hb)
  have HS := Lib.hid (show Sen w5 eN eI from HS.out.below hb)
  have Ho := Lib.hid (show Sls w5 (osS c g ls) (.slice ao (osS c g ls).length co) fo from Ho.out.under hb)
  have Hw := Lib.hid (show Sls w5 (osS c g ls) (.slice aw (osS c g ls).length cw) fw from Hw.out.under hb)
  have Hb5 := Lib.hid (below_step Hb4.out Hb4.out.size hb)
  clear hb
  cases hgb : graphB c g with
  | false =>
    have HSS5 := Lib.hid (laws_sameSlots (osS c g ls) (osS c g ls) ao aw co cw fo fw w5 (by omega) (by omega) Ho.out Hw.out)
    rw [decide_eq_true rfl] at HSS5
    generalize osS c g ls = OL at *
    go_wp2_with fail
    refine HSS5.out.mono ?_
    rintro e wx ⟨rfl, hdx⟩
    go_wp2
    go_ret
    exact ⟨rfl, below_step Hb5.out Hb5.out.size (hdx.below _)⟩
  | true =>
  have Hgb := Lib.hid hgb; clear hgb
  clear Hw
  have HV := Lib.hid (laws_view ac cc c g ag cg fp ms.length w5 Hgb.out (by omega) (by omega) Hps.out (by omega) (by omega) Hc.out Hg.out)
  go_wp2_with fail
  refine HV.out.mono ?_
  rintro e w6 ⟨gA, uA, fpA, rfl, hgA, hsub, hglA, hb⟩
  clear HV
  obtain ⟨agA, cgA, rfl⟩ := hgA.slice
  have HgA := Lib.hid hgA; clear hgA
  have HpsA := Lib.hid (fun x hx => Hps.out x (hsub x hx))
  have HprA := Lib.hid (os_part (ls := ls) Hgb.out Hps.out hsub)
  clear hsub
  have Hc := Lib.hid (show IntsAt w6 ac c from Hc.out.below hb)
  have Hl := Lib.hid (show IntsAt w6 al ls from Hl.out.below hb)
  have Hg := Lib.hid (show Gr w6 g (.slice ag g.length cg) fp from Hg.out.under hb)
  have HS := Lib.hid (show Sen w6 eN eI from HS.out.below hb)
  have Ho := Lib.hid (show Sls w6 (osS c g ls) (.slice ao (osS c g ls).length co) fo from Ho.out.under hb)
  have Hb6 := Lib.hid (below_step Hb5.out Hb5.out.size hb)
  clear hb
  have hlA := Nat.le_trans (Nat.le_of_eq (osS_len c gA ls)) (osI_len (c := c) (ls := ls) HpsA.out)
  have HC := Lib.hid (impl_OrderSlots ac cc c gA (.slice agA gA.length cgA) fpA al cl ls eN eI w6 (by omega) (by omega) HpsA.out (by omega) Hc.out HgA.out Hl.out HS.out)
  go_wp2_with fail
  refine HC.out.mono ?_
  rintro e w7 ⟨uA, rfl, hoA, hb⟩
  clear HC
  obtain ⟨aA, cA, fA, rfl, hcpA, hsA⟩ := sls_of hoA
  have HA := Lib.hid hsA
  clear hoA hsA HpsA HgA
  have Hc := Lib.hid (show IntsAt w7 ac c from Hc.out.below hb)
  have Hl := Lib.hid (show IntsAt w7 al ls from Hl.out.below hb)
  have Hg := Lib.hid (show Gr w7 g (.slice ag g.length cg) fp from Hg.out.under hb)
  have HS := Lib.hid (show Sen w7 eN eI from HS.out.below hb)
  have Ho := Lib.hid (show Sls w7 (osS c g ls) (.slice ao (osS c g ls).length co) fo from Ho.out.under hb)
  have Hb7 := Lib.hid (below_step Hb6.out Hb6.out.size hb)
  clear hb
  have e1 : IntKind.i64.wrap (5 * (ms.length : Int)) = 5 * (ms.length : Int) := IntWalk.i64_in _ (by omega)
  have e2 : IntKind.i64.wrap (5 * (ms.length : Int) + (zs.length : Int)) = 5 * (ms.length : Int) + (zs.length : Int) := IntWalk.i64_in _ (by omega)
  have HV := Lib.hid (laws_view ac cc c g ag cg fp (5 * (ms.length : Int) + (zs.length : Int)) w7 Hgb.out (by omega) (by omega) Hps.out (by omega) (by omega) Hc.out Hg.out)
  go_wp2_with fail
  refine HV.out.mono ?_
  rintro e w8 ⟨gB, uB, fpB, rfl, hgB, hsub, hglB, hb⟩
  clear HV
  obtain ⟨agB, cgB, rfl⟩ := hgB.slice
  have HgB := Lib.hid hgB; clear hgB
  have HpsB := Lib.hid (fun x hx => Hps.out x (hsub x hx))
  have HprB := Lib.hid (os_part (ls := ls) Hgb.out Hps.out hsub)
  clear hsub
  have Hc := Lib.hid (show IntsAt w8 ac c from Hc.out.below hb)
  have Hl := Lib.hid (show IntsAt w8 al ls from Hl.out.below hb)
  have Hg := Lib.hid (show Gr w8 g (.slice ag g.length cg) fp from Hg.out.under hb)
  have HS := Lib.hid (show Sen w8 eN eI from HS.out.below hb)
  have Ho := Lib.hid (show Sls w8 (osS c g ls) (.slice ao (osS c g ls).length co) fo from Ho.out.under hb)
  have HA := Lib.hid (show Sls w8 (osS c gA ls) (.slice aA (osS c gA ls).length cA) fA from HA.out.under hb)
  have Hb8 := Lib.hid (below_step Hb7.out Hb7.out.size hb)
  clear hb
  have hlB := Nat.le_trans (Nat.le_of_eq (osS_len c gB ls)) (osI_len (c := c) (ls := ls) HpsB.out)
  have HC := Lib.hid (impl_OrderSlots ac cc c gB (.slice agB gB.length cgB) fpB al cl ls eN eI w8 (by omega) (by omega) HpsB.out (by omega) Hc.out HgB.out Hl.out HS.out)
  go_wp2_with fail
  refine HC.out.mono ?_
  rintro e w9 ⟨uB, rfl, hoB, hb⟩
  clear HC
  obtain ⟨aB, cB, fB, rfl, hcpB, hsB⟩ := sls_of hoB
  have HB := Lib.hid hsB
  clear hoB hsB HpsB HgB
  have Hc := Lib.hid (show IntsAt w9 ac c from Hc.out.below hb)
  have Hl := Lib.hid (show IntsAt w9 al ls from Hl.out.below hb)
  have Hg := Lib.hid (show Gr w9 g (.slice ag g.length cg) fp from Hg.out.under hb)
  have HS := Lib.hid (show Sen w9 eN eI from HS.out.below hb)
  have Ho := Lib.hid (show Sls w9 (osS c g ls) (.slice ao (osS c g ls).length co) fo from Ho.out.under hb)
  have HA := Lib.hid (show Sls w9 (osS c gA ls) (.slice aA (osS c gA ls).length cA) fA from HA.out.under hb)
  have Hb9 := Lib.hid (below_step Hb8.out Hb8.out.size hb)
  clear hb
  have Hor := Lib.hid (pre_two HprA.out HprB.out)
  generalize osS c gA ls = AL at *
  generalize osS c gB ls = BL at *
  clear HprA HprB Hgb
  have HQ := Lib.hid (impl_SlotsPrefix AL BL aA aB cA cB fA fB w9 (by omega) (by omega) hcpB HA.out HB.out)
  have HR := Lib.hid (fun W (hb : Below w9.heap.size w9 W) => impl_SlotsPrefix BL AL aB aA cB cA fB fA W (by omega) (by omega) hcpA (HB.out.under hb) (HA.out.under hb))
  by_cases hab : AL <+: BL
  · rw [decide_eq_true hab] at HQ
    clear Hor hab
    go_wp2_with fail
    refine HQ.out.mono ?_
    rintro e wx ⟨rfl, hdx⟩
    go_wp2
    go_ret
    exact ⟨rfl, below_step Hb9.out Hb9.out.size (hdx.below _)⟩
  · rw [decide_eq_false hab] at HQ
    have hba : BL <+: AL := by
      rcases Hor.out with h | h
      · exact absurd h hab
      · exact h
    rw [decide_eq_true hba] at HR
    clear Hor hab hba
    go_wp2_with fail
    refine HQ.out.mono ?_
    rintro e wx ⟨rfl, hdx⟩
    have Hdx := Lib.hid hdx; clear hdx
    go_wp2_with fail
    refine (HR.out _ (Hdx.out.below _)).mono ?_
    rintro e wy ⟨rfl, hdy⟩
    have Hdy := Lib.hid (Hdx.out.trans hdy); clear hdy
    go_wp2
    go_ret
    exact ⟨rfl, below_step Hb9.out Hb9.out.size (Hdy.out.below _)⟩

theorem fnOrderAgree_own : ownKnob Tryz.prog.godebug = none := by kernel_rfl
theorem fnOrderAgree_laidOut : laidOutB Tryz.prog = true := by kernel_rfl

set_option maxRecDepth 8000 in
theorem fnOrderAgree_lifted (os : Os) (started : os.Started) (H : Type) (enc : TypeId × Value → H) :
    ReturnsInHanded {} Tryz.checked os 4 .any (fun w args => (Rows.fnOrderAgreeSpec.pre enc Tryz.prog Tryz.f4 [] false w args ∧ laidMetH Tryz.prog laidE w) ∧ sizedMet enc Tryz.prog Tryz.f4 (OpenSpec.ofChange Rows.fnOrderAgreeSpec) false w args) (Rows.fnOrderAgreeSpec.post enc Tryz.prog Tryz.f4 false true false false) := by
  refine law_lifted_tied (C := Tryz.checked) (tb := 4) laidE fnOrderAgree_own fnOrderAgree_laidOut started (by kernel_rfl) Tryz.func4 rfl Tryz.underlying4 (by kernel_rfl) (by rw [Tryz.params4]; exact of_decide_eq_true (by kernel_rfl)) ?_
    (ChangeSpec.witness_shaped (enc := enc) (C := Tryz.checked) (os := os) (X := fun w _ => laidMetH Tryz.prog laidE w) false (World.laidAll Tryz.prog os laidE) #[.slice none 0 0, .slice none 0 0] 8 (World.laidAll_os _ _ _) (World.shaped_of_ZipB (by kernel_rfl) (by kernel_rfl)) (by kernel_rfl) (by kernel_rfl) (by kernel_rfl) (laid_witness os _)) ?_
  · intro ds gs hds hgs
    rw [Tryz.params4] at hds
    match ds, hds, gs, hgs with
    | [d0, d1], _, [g0, g1], _ => rfl
  · intro W base args ds p hval0 hA0 hL0
    have hval : ∀ (j : Nat) t v, Tryz.f4.params[j]? = some t → args[j]? = some v → Value.okWide Tryz.prog W .any base t v := hval0
    have hA : DataW.TrodAll enc Tryz.prog W 0 (fun _ => true) true Tryz.f4.params.toList args.toList ds p := hA0
    rw [Tryz.params4] at hA hval
    obtain ⟨v0, vs0, d0, ds0, p0, q0, hargs0, rfl, rfl, h0, r0⟩ := trodAll_cons hA
    obtain ⟨v1, vs1, d1, ds1, p1, q1, hargs1, rfl, rfl, h1, r1⟩ := trodAll_cons r0
    obtain ⟨hnil, rfl, rfl⟩ := trodAll_nil r1
    subst hnil
    subst hargs1
    obtain rfl : args = #[v0, v1] := by cases args; simp_all
    obtain ⟨a0, cap0, zs0, rfl, hk0, hm0, hi0, hw0⟩ := open_slice_ints Tryz.underlying22 Tryz.underlying5 (by kernel_rfl) (hval 0 22 v0 rfl rfl) h0
    obtain ⟨a1, cap1, zs1, rfl, hk1, hm1, hi1, hw1⟩ := open_slice_ints Tryz.underlying22 Tryz.underlying5 (by kernel_rfl) (hval 1 22 v1 rfl rfl) h1
    obtain ⟨eN, eI, hS⟩ := sen_of hL0
    exact fnOrderAgree_walk a0 cap0 zs0 a1 cap1 zs1 W hk0 hm0 hi0 hw0 hk1 hm1 hi1 hw1 eN eI hS

set_option maxRecDepth 8000 in
theorem fnOrderAgree_holds : Rows.FnOrderAgreeSaid :=
  OpenClaim.holds_of_wide 4 Tryz.f4 rfl rfl rfl rfl rfl rfl rfl ⟨rfl, rfl, rfl, rfl, rfl⟩ rfl rfl rfl rfl rfl (by kernel_rfl) Tryz.func4 (by kernel_rfl)
    (of_decide_eq_true (by kernel_rfl)) (by unfold Func.isWrapper; first | (rw [if_pos (by decide +kernel)]; kernel_rfl) | (rw [if_neg (by decide +kernel)]; exact ⟨rfl, rfl⟩))
    (fun os started H enc _ => fnOrderAgree_lifted os started H enc)

theorem fnOrderAgree_card : Rows.FnOrderAgreeCardSaid :=
  Claim7.holds_tied_plain_at .later [] _ _ _ _ fnOrderAgree_holds (fun _ h => by cases h) (by kernel_rfl) (fun _ h => by cases h) fnOrderAgree_row_tie rfl ⟨rfl, rfl⟩ (by kernel_rfl) rfl
    (plain_of (f0 := 4) (fn0 := Tryz.f4) (ts := [22, 22]) (by kernel_rfl) Tryz.func4 (by rw [Tryz.params4]) (by kernel_rfl) (by kernel_rfl)) (by kernel_rfl)

end Go.Proofs.YtjaacdapibokiaaGreatDoor
