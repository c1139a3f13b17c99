/- Law FnWaveDirect holds for every input; no conditions of our own (its card: the two sentinels of impl are tied to the program's text). -/
import Derived.Test.YtjekgjlnaochiaaDoorRows
import Derived.Test.YtjekgjlnaochiaaDoorBu0
import Derived.Test.YtjekgjlnaochiaaDoorBu1
import Derived.Test.YtjekgjlnaochiaaDoorBu2
import Derived.Test.YtjekgjlnaochiaaDoorBu4
namespace Go.Proofs.YtjekgjlnaochiaaDoor
open Go.ChangeShapes Go.WideShapes Go.ChangeAt Go.RowKit

set_option maxHeartbeats 2000000 in
theorem fnWaveDirect_walk (a : Option Addr) (cap : Nat) (zs : List Int) (w : World) (hk : zs.length ≤ cap) (_hm : zs.length ≤ maxLen) (hi : zs = [] ∨ ∃ b off, a = some ⟨b, off, none⟩ ∧ b < w.heap.size ∧ ∀ j (h : j < zs.length), w.cell? ⟨b, off + j, none⟩ = some (.int .u8 zs[j])) (hw : ∀ z ∈ zs, (Lit.int .u8 z).wf = true) (eN eI : Addr) (hs : Sen w eN eI) :
    Calls Tryd.prog 5 #[.slice a zs.length cap] w fun e w' => e = .returned (.bool true) ∧ Below w.heap.size w w' := by
  by_cases hl : 1048576 < zs.length
  · go_enter Tryd.func5, Tryd.ntmps5
    go_wp2
    go_ret
    exact ⟨rfl, Below.refl _ _⟩
  have hcode := codeAt_of hk (by omega) hi hw
  have Hcode := Lib.hid hcode; clear hcode hi hw
  have Hs := Lib.hid hs; clear hs
  go_enter Tryd.func5, Tryd.ntmps5
  go_wp2_with fail
  refine (spec_DrawWaveDirect a cap zs w Hcode.out).mono ?_
  rintro e w1 ⟨ac, cc, c, vg, g, fp, al, cl, ls, wave, rfl, hoc, hcl, hgr, hfp, hgl, hps, hol, hll, hw0, hw1, hb1⟩
  have hcc := hoc.cap
  have hlc := hol.cap
  obtain ⟨ag, cg, rfl⟩ := hgr.slice
  have Hps := Lib.hid (show ∀ x ∈ g, x.ps.length ≤ 1099511627776 from fun x hx => Nat.le_trans (hps x hx) (by omega)); clear hps
  have Hb1 := Lib.hid hb1
  have HS := Lib.hid (Hs.out.below hb1)
  have Hc := Lib.hid hoc.at; have Hl := Lib.hid hol.at; have Hg := Lib.hid hgr
  clear hoc hol hgr hb1 hfp Hs
  go_wp2_with fail
  refine (impl_WaveDirect ac cc c g (.slice ag g.length cg) fp al cl ls wave eN eI w1 (by omega) (by omega) Hps.out (by omega) hcc Hc.out Hg.out hlc Hl.out HS.out).mono ?_
  rintro e w2 ⟨rfl, hb⟩
  have Hc := Lib.hid (show IntsAt w2 ac c from Hc.out.below hb)
  have Hl := Lib.hid (show IntsAt w2 al ls from Hl.out.below hb)
  have Hg := Lib.hid (show Gr w2 g (.slice ag g.length cg) fp from Hg.out.under hb)
  have HS := Lib.hid (show Sen w2 eN eI from HS.out.below hb)
  have Hb2 := Lib.hid (below_step Hb1.out Hb1.out.size hb)
  clear hb
  go_wp2_with fail
  refine (spec_WaveDirect ac cc c g (.slice ag g.length cg) fp al cl ls wave w2 (by omega) (by omega) Hps.out (by omega) Hc.out Hg.out Hl.out).mono ?_
  rintro e w3 ⟨rfl, hb⟩
  have Hc := Lib.hid (show IntsAt w3 ac c from Hc.out.below hb)
  have Hl := Lib.hid (show IntsAt w3 al ls from Hl.out.below hb)
  have Hg := Lib.hid (show Gr w3 g (.slice ag g.length cg) fp from Hg.out.under hb)
  have HS := Lib.hid (show Sen w3 eN eI from HS.out.below hb)
  have Hb3 := Lib.hid (below_step Hb2.out Hb2.out.size hb)
  clear hb
  go_wp2_with fail
  refine (impl_WaveVotes ac cc c g (.slice ag g.length cg) fp al cl ls wave eN eI w3 (by omega) (by omega) Hps.out (by omega) hcc Hc.out Hg.out hlc Hl.out HS.out).mono ?_
  rintro e w4 ⟨rfl, hb⟩
  have Hc := Lib.hid (show IntsAt w4 ac c from Hc.out.below hb)
  have Hl := Lib.hid (show IntsAt w4 al ls from Hl.out.below hb)
  have Hg := Lib.hid (show Gr w4 g (.slice ag g.length cg) fp from Hg.out.under hb)
  have HS := Lib.hid (show Sen w4 eN eI from HS.out.below hb)
  have Hb4 := Lib.hid (below_step Hb3.out Hb3.out.size hb)
  clear hb
  have hwd := Lib.hid (show wdB c g ls wave = (decide (0 ≤ wvZ c g ls wave) && decide (orNo c (totalZ c / 3 + 1) ≤ wvZ c g ls wave)) from wd_votes c g ls wave)
  generalize wdB c g ls wave = D at *
  generalize wvZ c g ls wave = V at *
  have HCS := Lib.hid (impl_CommitteeSupport ac cc c w4 (by omega) Hc.out)
  generalize orNo c (totalZ c / 3 + 1) = S at *
  by_cases hv : 0 ≤ V
  · have hvd : decide (0 ≤ V) = true := decide_eq_true hv
    go_wp2_with fail
    refine HCS.out.mono ?_
    rintro e w5 ⟨rfl, rfl⟩
    have hr := hwd.out
    rw [hvd, Bool.true_and] at hr
    subst hr
    clear hvd hwd
    go_wp2
    go_ret
    exact ⟨by first | rfl | exact ret_bool (by simp), Hb4.out⟩
  · have hvd : decide (0 ≤ V) = false := decide_eq_false hv
    have hr := hwd.out
    rw [hvd, Bool.false_and] at hr
    subst hr
    clear hwd
    go_wp2
    go_ret
    exact ⟨by first | rfl | exact ret_bool (by simp), Hb4.out⟩

theorem fnWaveDirect_own : ownKnob Tryd.prog.godebug = none := by kernel_rfl
theorem fnWaveDirect_laidOut : laidOutB Tryd.prog = true := by kernel_rfl

set_option maxRecDepth 8000 in
theorem fnWaveDirect_lifted (os : Os) (started : os.Started) (H : Type) (enc : TypeId × Value → H) :
    ReturnsInHanded {} Tryd.checked os 5 .any (fun w args => (Rows.fnWaveDirectSpec.pre enc Tryd.prog Tryd.f5 [] false w args ∧ laidMetH Tryd.prog laidE w) ∧ sizedMet enc Tryd.prog Tryd.f5 (OpenSpec.ofChange Rows.fnWaveDirectSpec) false w args) (Rows.fnWaveDirectSpec.post enc Tryd.prog Tryd.f5 false true false false) := by
  refine law_lifted_tied (C := Tryd.checked) (tb := 4) laidE fnWaveDirect_own fnWaveDirect_laidOut started (by kernel_rfl) Tryd.func5 rfl Tryd.underlying4 (by kernel_rfl) (by rw [Tryd.params5]; exact of_decide_eq_true (by kernel_rfl)) ?_
    (ChangeSpec.witness_shaped (enc := enc) (C := Tryd.checked) (os := os) (X := fun w _ => laidMetH Tryd.prog laidE w) false (World.laidAll Tryd.prog os laidE) #[.slice none 0 0] 8 (World.laidAll_os _ _ _) (World.shaped_of_ZipB (by kernel_rfl) (by kernel_rfl)) (by kernel_rfl) (by kernel_rfl) (by kernel_rfl) (laid_witness os _)) ?_
  · intro ds gs hds hgs
    rw [Tryd.params5] at hds
    match ds, hds, gs, hgs with
    | [d0], _, [g0, g1], _ => rfl
  · intro W base args ds p hval0 hA0 hL0
    have hval : ∀ (j : Nat) t v, Tryd.f5.params[j]? = some t → args[j]? = some v → Value.okWide Tryd.prog W .any base t v := hval0
    have hA : DataW.TrodAll enc Tryd.prog W 0 (fun _ => true) true Tryd.f5.params.toList args.toList ds p := hA0
    rw [Tryd.params5] at hA hval
    obtain ⟨v0, vs0, d0, ds0, p0, q0, hargs0, rfl, rfl, h0, r0⟩ := trodAll_cons hA
    obtain ⟨hnil, rfl, rfl⟩ := trodAll_nil r0
    subst hnil
    obtain rfl : args = #[v0] := by cases args; simp_all
    obtain ⟨a0, cap0, zs0, rfl, hk0, hm0, hi0, hw0⟩ := open_slice_ints Tryd.underlying22 Tryd.underlying5 (by kernel_rfl) (hval 0 22 v0 rfl rfl) h0
    obtain ⟨eN, eI, hS⟩ := sen_of hL0
    exact fnWaveDirect_walk a0 cap0 zs0 W hk0 hm0 hi0 hw0 eN eI hS

set_option maxRecDepth 8000 in
theorem fnWaveDirect_holds : Rows.FnWaveDirectSaid :=
  OpenClaim.holds_of_wide 5 Tryd.f5 rfl rfl rfl rfl rfl rfl rfl ⟨rfl, rfl, rfl, rfl, rfl⟩ rfl rfl rfl rfl rfl (by kernel_rfl) Tryd.func5 (by kernel_rfl)
    (of_decide_eq_true (by kernel_rfl)) (by unfold Func.isWrapper; first | (rw [if_pos (by decide +kernel)]; kernel_rfl) | (rw [if_neg (by decide +kernel)]; exact ⟨rfl, rfl⟩))
    (fun os started H enc _ => fnWaveDirect_lifted os started H enc)

theorem fnWaveDirect_card : Rows.FnWaveDirectCardSaid :=
  Claim7.holds_tied_plain_at .later [] _ _ _ _ fnWaveDirect_holds (fun _ h => by cases h) (by kernel_rfl) (fun _ h => by cases h) fnWaveDirect_row_tie rfl ⟨rfl, rfl⟩ (by kernel_rfl) rfl
    (plain_of (f0 := 5) (fn0 := Tryd.f5) (ts := [22]) (by kernel_rfl) Tryd.func5 (by rw [Tryd.params5]) (by kernel_rfl) (by kernel_rfl)) (by kernel_rfl)

end Go.Proofs.YtjekgjlnaochiaaDoor
