/- Law FnWaveVotes holds for every input; no conditions of our own (its card: the two sentinels of impl are tied to the program's text). -/
import Derived.Test.YtjekgjlnaochiaaDoorRows
import Derived.Test.YtjekgjlnaochiaaDoorBu0
import Derived.Test.YtjekgjlnaochiaaDoorBu1
import Derived.Test.YtjekgjlnaochiaaDoorBu2
import Derived.Test.YtjekgjlnaochiaaDoorBu4
namespace Go.Proofs.YtjekgjlnaochiaaDoor
open Go.ChangeShapes Go.WideShapes Go.ChangeAt Go.RowKit

set_option maxHeartbeats 2000000 in
theorem fnWaveVotes_walk (a : Option Addr) (cap : Nat) (zs : List Int) (w : World) (hk : zs.length ≤ cap) (_hm : zs.length ≤ maxLen) (hi : zs = [] ∨ ∃ b off, a = some ⟨b, off, none⟩ ∧ b < w.heap.size ∧ ∀ j (h : j < zs.length), w.cell? ⟨b, off + j, none⟩ = some (.int .u8 zs[j])) (hw : ∀ z ∈ zs, (Lit.int .u8 z).wf = true) (eN eI : Addr) (hs : Sen w eN eI) :
    Calls Tryd.prog 4 #[.slice a zs.length cap] w fun e w' => e = .returned (.bool true) ∧ Below w.heap.size w w' := by
  by_cases hl : 1048576 < zs.length
  · go_enter Tryd.func4, Tryd.ntmps4
    go_wp2
    go_ret
    exact ⟨rfl, Below.refl _ _⟩
  have hcode := codeAt_of hk (by omega) hi hw
  have Hcode := Lib.hid hcode; clear hcode hi hw
  have Hs := Lib.hid hs; clear hs
  go_enter Tryd.func4, Tryd.ntmps4
  go_wp2_with fail
  refine (spec_DrawWaveVotes a cap zs w Hcode.out).mono ?_
  rintro e w1 ⟨ac, cc, c, vg, g, fp, al, cl, ls, wave, rfl, hoc, hcl, hgr, hfp, hgl, hps, hol, hll, hw0, hw1, hb1⟩
  have hcc := hoc.cap
  have hlc := hol.cap
  obtain ⟨ag, cg, rfl⟩ := hgr.slice
  have Hps := Lib.hid (show ∀ x ∈ g, x.ps.length ≤ 1099511627776 from fun x hx => Nat.le_trans (hps x hx) (by omega)); clear hps
  have Hb1 := Lib.hid hb1
  have HS := Lib.hid (Hs.out.below hb1)
  have Hc := Lib.hid hoc.at; have Hl := Lib.hid hol.at; have Hg := Lib.hid hgr
  clear hoc hol hgr hb1 hfp Hs
  go_wp2_with fail
  refine (impl_WaveVotes ac cc c g (.slice ag g.length cg) fp al cl ls wave eN eI w1 (by omega) (by omega) Hps.out (by omega) hcc Hc.out Hg.out hlc Hl.out HS.out).mono ?_
  rintro e w2 ⟨rfl, hb⟩
  have Hc := Lib.hid (show IntsAt w2 ac c from Hc.out.below hb)
  have Hl := Lib.hid (show IntsAt w2 al ls from Hl.out.below hb)
  have Hg := Lib.hid (show Gr w2 g (.slice ag g.length cg) fp from Hg.out.under hb)
  have HS := Lib.hid (show Sen w2 eN eI from HS.out.below hb)
  have Hb2 := Lib.hid (below_step Hb1.out Hb1.out.size hb)
  clear hb
  go_wp2_with fail
  refine (spec_WaveVotes ac cc c g (.slice ag g.length cg) fp al cl ls wave w2 (by omega) (by omega) Hps.out (by omega) Hc.out Hg.out Hl.out).mono ?_
  rintro e w3 ⟨rfl, hb⟩
  have Hc := Lib.hid (show IntsAt w3 ac c from Hc.out.below hb)
  have Hl := Lib.hid (show IntsAt w3 al ls from Hl.out.below hb)
  have Hg := Lib.hid (show Gr w3 g (.slice ag g.length cg) fp from Hg.out.under hb)
  have HS := Lib.hid (show Sen w3 eN eI from HS.out.below hb)
  have Hb3 := Lib.hid (below_step Hb2.out Hb2.out.size hb)
  clear hb
  have HWL := Lib.hid (fun W (hb : Below w3.heap.size w3 W) => impl_WaveLeader ac cc c g (.slice ag g.length cg) fp al cl ls wave eN eI W (by omega) (by omega) Hps.out (by omega) hcc (Hc.out.below hb) (Hg.out.under hb) hlc (Hl.out.below hb) (HS.out.below hb))
  by_cases hz : 0 ≤ wvZ c g ls wave
  case neg =>
    generalize wvZ c g ls wave = Z at *
    have hz' : decide (Z < 0) = true := decide_eq_true (by omega)
    have hz'' : Z < 0 := by omega
    go_wp2
    go_ret
    exact ⟨by first | rfl | exact ret_bool (by simp), Hb3.out⟩
  obtain ⟨hok, hw1', hw2'⟩ : waB c g ls = true ∧ 1 ≤ wave ∧ wave ≤ ls.length := wl_ok (by
    cases h : wlB c g ls wave with
    | true => rfl
    | false => unfold wvZ at hz; rw [h] at hz; simp at hz)
  obtain ⟨k, rfl⟩ : ∃ k : Nat, wave = k := ⟨wave.toNat, by omega⟩
  have hwl : wlB c g ls (k : Int) = true := by unfold wlB; rw [hok, decide_eq_true ⟨hw1', hw2'⟩]; rfl
  have hwz : wlZ c g ls (k : Int) = ldZ g ls k := by unfold wlZ; rw [hwl]; simp
  have hwv : wvZ c g ls (k : Int) = voZ c g ls k := by unfold wvZ; rw [hwl]; simp
  have ok := good21 hok Hps.out
  have Hok := Lib.hid ok
  have hl15 := ok.l15
  have Hvo := Lib.hid (vo_all ok k)
  have Hpos := Lib.hid (show voZ c g ls k ≠ 0 → 0 ≤ ldZ g ls k from fun h => by
    by_cases h0 : 0 ≤ ldZ g ls k
    · exact h0
    · unfold voZ at h; rw [if_neg h0] at h; exact absurd rfl h)
  rw [hwz] at HWL
  rw [hwv] at hz
  rw [hwv]
  have HB := Lib.hid (fun j hj => votTo_bd (c := c) (L := ls.getD (k - 1) 0) (r := 2 * (k : Int)) (g := g) ok.hv j hj)
  obtain ⟨bl, ol, rfl, hbl, hal⟩ := Hl.out.cell (by omega)
  have hlc9 := hal (k - 1) (by omega)
  have hgd : ls.getD (k - 1) 0 = ls[k - 1]'(by omega) := getD_get (by omega)
  rw [← hgd] at hlc9
  clear hal hgd hwz hwv hwl hok ok
  generalize ls.getD (k - 1) 0 = L at *
  generalize voZ c g ls k = V at *
  generalize ldZ g ls k = Z at *
  have e1 : IntKind.i64.wrap ((k : Int) - 1) = k - 1 := IntWalk.i64_in _ (by omega)
  have e2 : ((k : Int) - 1).toNat = k - 1 := by omega
  have e3 : 0 ≤ (k : Int) - 1 := by omega
  have e4 : (k : Int) - 1 < ls.length := by omega
  have e5 : 1 ≤ (k : Int) := by omega
  have e6 : (k : Int) ≤ 15 := by omega
  have e7 : IntKind.i64.wrap (2 * (k : Int)) = 2 * (k : Int) := IntWalk.i64_in _ (by omega)
  have hzd : decide (V < 0) = false := decide_eq_false (by omega)
  have hzd' : ¬ V < 0 := by omega
  go_wp2
  go_loopw [9, 10] (fun n i wr => ∃ j : Nat, j ≤ g.length ∧ i = .int .i64 j ∧ n = .int .i64 (votTo c L (2 * (k : Int)) g j) ∧ Drawn w3 wr) (fun _ i _ => g.length - (intOf i).toNat)
  case atStart => exact ⟨0, by omega, rfl, rfl, Drawn.refl _⟩
  case round =>
    obtain ⟨j, hj, rfl, rfl, hd⟩ := hrel
    have hbd := HB.out j hj
    have Hd := Lib.hid hd
    clear hd
    by_cases hlt : j < g.length
    · obtain ⟨b, off, hag, hb, hat⟩ := Hg.out.at (by omega)
      subst hag
      obtain ⟨c0, c1, ⟨pa, pc, c2, hia, _⟩, _⟩ := hat j hlt
      have hau := Hok.out.aut _ (List.getElem_mem hlt)
      have hpl := Hps.out _ (List.getElem_mem hlt)
      have Hsu := Lib.hid (votTo_succ (c := c) (L := L) (r := 2 * (k : Int)) hlt)
      have Hs0 := Lib.hid (show votC c L (2 * (k : Int)) g[j] = if g[j].r = 2 * (k : Int) ∧ hasB g[j].ps L = true then c.getD g[j].a.toNat 0 else 0 from rfl)
      have d0 := (Hd.out.cell _).trans c0
      have d1 := (Hd.out.cell _).trans c1
      have d2 := (Hd.out.cell _).trans c2
      have Hia := Lib.hid (hia.below (Hd.out.below _))
      clear hat c0 c1 c2 hia
      generalize g[j] = x at *
      obtain ⟨xr, xa, xp, xd⟩ := x
      dsimp only at *
      have HH := Lib.hid (fun W (h : IntsAt W pa xp) => laws_hasInt pa pc xp L W hpl h)
      have hlc := (Hd.out.cell _).trans hlc9
      obtain ⟨A, rfl⟩ : ∃ A : Nat, xa = A := ⟨xa.toNat, by omega⟩
      obtain ⟨bc, oc, rfl, hbc, hac⟩ := Hc.out.cell (by omega)
      have hcc9 := (Hd.out.cell _).trans (hac A (by omega))
      have hcg : c.getD A 0 = c[A]'(by omega) := getD_get (by omega)
      rw [← hcg] at hcc9
      have hcb : 0 ≤ c.getD A 0 ∧ c.getD A 0 ≤ 9 := by rw [hcg]; have := validB_good Hok.out.hv A (by omega); omega
      have hA : (A : Int) < c.length := hau.2
      rw [Int.toNat_natCast] at Hs0
      clear hac hcg hau hpl
      generalize c.getD A 0 = cA at *
      generalize votTo c L (2 * (k : Int)) g j = N at *
      generalize votC c L (2 * (k : Int)) _ = VC at *
      by_cases h1 : xr = 2 * (k : Int)
      · have h1' : (xr == 2 * (k : Int)) = true := by rw [beq_iff_eq]; exact h1
        have H1 := Lib.hid h1; clear h1
        cases hh : hasB xp L with
        | true =>
          have HsN := Lib.hid (show votTo c L (2 * (k : Int)) g (j + 1) = N + cA by rw [Hsu.out, Hs0.out, if_pos ⟨H1.out, hh⟩])
          rw [hh] at HH
          clear hh Hsu Hs0
          go_wp2_with fail
          go_quiet ((go_at_call 17; exact Calls.quiet_of_same (turned (HH.out _ Hia.out))))
          go_wp2
          go_roundw
          case rel => exact ⟨j + 1, by omega, by go_num, by rw [HsN.out], Hd.out.drewN _⟩
          case measure => simp [intOf]; omega
        | false =>
          have HsN := Lib.hid (show votTo c L (2 * (k : Int)) g (j + 1) = N by rw [Hsu.out, Hs0.out, if_neg (fun h => by rw [hh] at h; cases h.2)]; omega)
          rw [hh] at HH
          clear hh Hsu Hs0
          go_wp2_with fail
          go_quiet ((go_at_call 17; exact Calls.quiet_of_same (turned (HH.out _ Hia.out))))
          go_wp2
          go_roundw
          case rel => exact ⟨j + 1, by omega, by go_num, by rw [HsN.out], Hd.out.drewN _⟩
          case measure => simp [intOf]; omega
      · have h1' : (xr == 2 * (k : Int)) = false := by rw [beq_eq_false_iff_ne]; exact h1
        have HsN := Lib.hid (show votTo c L (2 * (k : Int)) g (j + 1) = N by rw [Hsu.out, Hs0.out, if_neg (fun h => h1 h.1)]; omega)
        clear h1 Hsu Hs0
        go_wp2_with fail
        go_quiet (fail)
        go_wp2
        go_roundw
        case rel => exact ⟨j + 1, by omega, by go_num, by rw [HsN.out], Hd.out.drewN _⟩
        case measure => simp [intOf]; omega
    · have hjl : j = g.length := by omega
      have hvv := Hvo.out
      rw [← hjl] at hvv
      rw [← hvv]
      have HWLr := Lib.hid (HWL.out wr (Hd.out.below _))
      have Hbr := Lib.hid (below_step Hb3.out Hb3.out.size (Hd.out.below _))
      clear hjl hvv hbd
      by_cases hV0 : V = 0
      · subst hV0
        go_wp2
        go_ret
        exact ⟨by first | rfl | exact ret_bool (by simp), Hbr.out⟩
      · have hV' : (V == 0) = false := by rw [beq_eq_false_iff_ne]; exact hV0
        have hZ := Hpos.out hV0
        have hZ' : decide (0 ≤ Z) = true := decide_eq_true hZ
        clear hV0
        go_wp2_with fail
        refine HWLr.out.mono ?_
        rintro e w5 ⟨rfl, hb5⟩
        have Hb5 := Lib.hid (below_step Hbr.out Hbr.out.size hb5)
        clear hb5
        go_wp2
        go_ret
        exact ⟨by first | rfl | exact ret_bool (by simp), Hb5.out⟩

theorem fnWaveVotes_own : ownKnob Tryd.prog.godebug = none := by kernel_rfl
theorem fnWaveVotes_laidOut : laidOutB Tryd.prog = true := by kernel_rfl

set_option maxRecDepth 8000 in
theorem fnWaveVotes_lifted (os : Os) (started : os.Started) (H : Type) (enc : TypeId × Value → H) :
    ReturnsInHanded {} Tryd.checked os 4 .any (fun w args => (Rows.fnWaveVotesSpec.pre enc Tryd.prog Tryd.f4 [] false w args ∧ laidMetH Tryd.prog laidE w) ∧ sizedMet enc Tryd.prog Tryd.f4 (OpenSpec.ofChange Rows.fnWaveVotesSpec) false w args) (Rows.fnWaveVotesSpec.post enc Tryd.prog Tryd.f4 false true false false) := by
  refine law_lifted_tied (C := Tryd.checked) (tb := 4) laidE fnWaveVotes_own fnWaveVotes_laidOut started (by kernel_rfl) Tryd.func4 rfl Tryd.underlying4 (by kernel_rfl) (by rw [Tryd.params4]; exact of_decide_eq_true (by kernel_rfl)) ?_
    (ChangeSpec.witness_shaped (enc := enc) (C := Tryd.checked) (os := os) (X := fun w _ => laidMetH Tryd.prog laidE w) false (World.laidAll Tryd.prog os laidE) #[.slice none 0 0] 8 (World.laidAll_os _ _ _) (World.shaped_of_ZipB (by kernel_rfl) (by kernel_rfl)) (by kernel_rfl) (by kernel_rfl) (by kernel_rfl) (laid_witness os _)) ?_
  · intro ds gs hds hgs
    rw [Tryd.params4] at hds
    match ds, hds, gs, hgs with
    | [d0], _, [g0, g1], _ => rfl
  · intro W base args ds p hval0 hA0 hL0
    have hval : ∀ (j : Nat) t v, Tryd.f4.params[j]? = some t → args[j]? = some v → Value.okWide Tryd.prog W .any base t v := hval0
    have hA : DataW.TrodAll enc Tryd.prog W 0 (fun _ => true) true Tryd.f4.params.toList args.toList ds p := hA0
    rw [Tryd.params4] at hA hval
    obtain ⟨v0, vs0, d0, ds0, p0, q0, hargs0, rfl, rfl, h0, r0⟩ := trodAll_cons hA
    obtain ⟨hnil, rfl, rfl⟩ := trodAll_nil r0
    subst hnil
    obtain rfl : args = #[v0] := by cases args; simp_all
    obtain ⟨a0, cap0, zs0, rfl, hk0, hm0, hi0, hw0⟩ := open_slice_ints Tryd.underlying22 Tryd.underlying5 (by kernel_rfl) (hval 0 22 v0 rfl rfl) h0
    obtain ⟨eN, eI, hS⟩ := sen_of hL0
    exact fnWaveVotes_walk a0 cap0 zs0 W hk0 hm0 hi0 hw0 eN eI hS

set_option maxRecDepth 8000 in
theorem fnWaveVotes_holds : Rows.FnWaveVotesSaid :=
  OpenClaim.holds_of_wide 4 Tryd.f4 rfl rfl rfl rfl rfl rfl rfl ⟨rfl, rfl, rfl, rfl, rfl⟩ rfl rfl rfl rfl rfl (by kernel_rfl) Tryd.func4 (by kernel_rfl)
    (of_decide_eq_true (by kernel_rfl)) (by unfold Func.isWrapper; first | (rw [if_pos (by decide +kernel)]; kernel_rfl) | (rw [if_neg (by decide +kernel)]; exact ⟨rfl, rfl⟩))
    (fun os started H enc _ => fnWaveVotes_lifted os started H enc)

theorem fnWaveVotes_card : Rows.FnWaveVotesCardSaid :=
  Claim7.holds_tied_plain_at .later [] _ _ _ _ fnWaveVotes_holds (fun _ h => by cases h) (by kernel_rfl) (fun _ h => by cases h) fnWaveVotes_row_tie rfl ⟨rfl, rfl⟩ (by kernel_rfl) rfl
    (plain_of (f0 := 4) (fn0 := Tryd.f4) (ts := [22]) (by kernel_rfl) Tryd.func4 (by rw [Tryd.params4]) (by kernel_rfl) (by kernel_rfl)) (by kernel_rfl)

end Go.Proofs.YtjekgjlnaochiaaDoor
