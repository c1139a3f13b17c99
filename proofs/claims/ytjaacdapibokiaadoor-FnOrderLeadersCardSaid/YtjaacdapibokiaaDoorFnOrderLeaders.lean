/- Law FnOrderLeaders holds for every input; no conditions of our own (its card: the two sentinels of impl are tied to the program's text). -/
import Derived.Test.YtjaacdapibokiaaDoorRows
import Derived.Test.YtjaacdapibokiaaDoorBu0
import Derived.Test.YtjaacdapibokiaaDoorBu1
import Derived.Test.YtjaacdapibokiaaDoorBu2
import Derived.Test.YtjaacdapibokiaaDoorBu5
import Derived.Test.YtjaacdapibokiaaDoorBu3
namespace Go.Proofs.YtjaacdapibokiaaDoor
open Go.ChangeShapes Go.WideShapes Go.ChangeAt Go.RowKit

set_option maxHeartbeats 2000000 in
theorem fnOrderLeaders_walk (a : Option Addr) (cap : Nat) (zs : List Int) (w : World) (hk : zs.length ≤ cap) (_hm : zs.length ≤ maxLen) (hi : zs = [] ∨ ∃ b off, a = some ⟨b, off, none⟩ ∧ b < w.heap.size ∧ ∀ j (h : j < zs.length), w.cell? ⟨b, off + j, none⟩ = some (.int .u8 zs[j])) (hw : ∀ z ∈ zs, (Lit.int .u8 z).wf = true) (eN eI : Addr) (hs : Sen w eN eI) :
    Calls Tryd.prog 3 #[.slice a zs.length cap] w fun e w' => e = .returned (.bool true) ∧ Below w.heap.size w w' := by
  by_cases hl : 1048576 < zs.length
  · go_enter Tryd.func3, Tryd.ntmps3
    go_wp2
    go_ret
    exact ⟨rfl, Below.refl _ _⟩
  have hcode := codeAt_of hk (by omega) hi hw
  have Hcode := Lib.hid hcode; clear hcode hi hw
  have Hs := Lib.hid hs; clear hs
  go_enter Tryd.func3, Tryd.ntmps3
  go_wp2_with fail
  refine (spec_DrawOrderSlots a cap zs w Hcode.out).mono ?_
  rintro e w1 ⟨ac, cc, c, vg, g, fp, al, cl, ls, rfl, hoc, hcl, hgr, hfp, hgl, hps, hol, hll, hb1⟩
  have hcc := hoc.cap
  have hlc := hol.cap
  obtain ⟨ag, cg, rfl⟩ := hgr.slice
  have Hps := Lib.hid (show ∀ x ∈ g, x.ps.length ≤ 1099511627776 from fun x hx => Nat.le_trans (hps x hx) (by omega)); clear hps
  have Hb1 := Lib.hid hb1
  have HS := Lib.hid (Hs.out.below hb1)
  have Hc := Lib.hid hoc.at; have Hl := Lib.hid hol.at; have Hg := Lib.hid hgr
  clear hoc hol hgr hb1 hfp Hs
  go_wp2_with fail
  refine (impl_OrderSlots ac cc c g (.slice ag g.length cg) fp al cl ls eN eI w1 (by omega) (by omega) Hps.out (by omega) Hc.out Hg.out Hl.out HS.out).mono ?_
  rintro e w2 ⟨uo, rfl, hoo, hb⟩
  obtain ⟨ao, co, fo, rfl, hcpo, hso⟩ := sls_of hoo
  have Ho := Lib.hid hso
  clear hoo hso
  have Hc := Lib.hid (show IntsAt w2 ac c from Hc.out.below hb)
  have Hl := Lib.hid (show IntsAt w2 al ls from Hl.out.below hb)
  have Hg := Lib.hid (show Gr w2 g (.slice ag g.length cg) fp from Hg.out.under hb)
  have HS := Lib.hid (show Sen w2 eN eI from HS.out.below hb)
  have Hb2 := Lib.hid (below_step Hb1.out Hb1.out.size hb)
  clear hb
  go_wp2_with fail
  refine (spec_OrderSlots ac cc c g (.slice ag g.length cg) fp al cl ls w2 (by omega) (by omega) Hps.out (by omega) Hc.out Hg.out Hl.out).mono ?_
  rintro e w3 ⟨uw, rfl, how, hb⟩
  obtain ⟨aw, cw, fw, rfl, hcpw, hsw⟩ := sls_of how
  have Hw := Lib.hid hsw
  clear how hsw
  have Hc := Lib.hid (show IntsAt w3 ac c from Hc.out.below hb)
  have Hl := Lib.hid (show IntsAt w3 al ls from Hl.out.below hb)
  have Hg := Lib.hid (show Gr w3 g (.slice ag g.length cg) fp from Hg.out.under hb)
  have HS := Lib.hid (show Sen w3 eN eI from HS.out.below hb)
  have Ho := Lib.hid (show Sls w3 (osS c g ls) (.slice ao (osS c g ls).length co) fo from Ho.out.under hb)
  have Hb3 := Lib.hid (below_step Hb2.out Hb2.out.size hb)
  clear hb
  have hO := Nat.le_trans (Nat.le_of_eq (osS_len c g ls)) (osI_len (c := c) (ls := ls) Hps.out)
  have HSS := Lib.hid (laws_sameSlots (osS c g ls) (osS c g ls) ao aw co cw fo fw w3 (by omega) (by omega) Ho.out Hw.out)
  rw [decide_eq_true rfl] at HSS
  go_wp2_with fail
  refine (HSS.out).mono ?_
  rintro e w4 ⟨rfl, hd⟩
  have hb : Below w3.heap.size w3 w4 := hd.below _
  clear hd
  have Hc := Lib.hid (show IntsAt w4 ac c from Hc.out.below hb)
  have Hl := Lib.hid (show IntsAt w4 al ls from Hl.out.below hb)
  have Hg := Lib.hid (show Gr w4 g (.slice ag g.length cg) fp from Hg.out.under hb)
  have HS := Lib.hid (show Sen w4 eN eI from HS.out.below hb)
  have Ho := Lib.hid (show Sls w4 (osS c g ls) (.slice ao (osS c g ls).length co) fo from Ho.out.under hb)
  have Hw := Lib.hid (show Sls w4 (osS c g ls) (.slice aw (osS c g ls).length cw) fw from Hw.out.under hb)
  have Hb4 := Lib.hid (below_step Hb3.out Hb3.out.size hb)
  clear hb
  clear Hw
  go_wp2_with fail
  refine (impl_CommitWaves ac cc c g (.slice ag g.length cg) fp al cl ls eN eI w4 (by omega) (by omega) Hps.out (by omega) hcc Hc.out Hg.out hlc Hl.out HS.out).mono ?_
  rintro e w5 ⟨uv, rfl, hov, hb⟩
  obtain ⟨av, cv, rfl, _, _⟩ := hov.ints
  have Hv := Lib.hid (show IntsAt w5 av (cwZ c g ls) from hov.at)
  clear hov
  have Hc := Lib.hid (show IntsAt w5 ac c from Hc.out.below hb)
  have Hl := Lib.hid (show IntsAt w5 al ls from Hl.out.below hb)
  have Hg := Lib.hid (show Gr w5 g (.slice ag g.length cg) fp from Hg.out.under hb)
  have HS := Lib.hid (show Sen w5 eN eI from HS.out.below hb)
  have Ho := Lib.hid (show Sls w5 (osS c g ls) (.slice ao (osS c g ls).length co) fo from Ho.out.under hb)
  have Hb5 := Lib.hid (below_step Hb4.out Hb4.out.size hb)
  clear hb
  have hO22 : (cwZ c g ls).length ≤ 22 := Nat.le_trans (cwZ_len c g ls) hll
  have HC0 := Lib.hid (cs_zero c g ls)
  have HCs := Lib.hid (fun n i => cs_step (c := c) (g := g) (ls := ls) (n := n) (i := i) Hps.out)
  have HCe := Lib.hid (fun n => cs_end (c := c) (g := g) (ls := ls) (n := n) Hps.out)
  have hOL : (osS c g ls).length ≤ 281 := by omega
  generalize cnS c g ls = CN at *
  generalize osS c g ls = OL at *
  generalize cwZ c g ls = CW at *
  go_wp2
  go_loopw [9, 10] (fun k i wr => ∃ n m : Nat, m ≤ OL.length ∧ n ≤ 22 ∧ k = .int .i64 n ∧ i = .int .i64 m ∧ CN n m ∧ Below w5.heap.size w5 wr) (fun _ i _ => OL.length - (intOf i).toNat)
  case atStart => exact ⟨0, 0, by omega, by omega, rfl, rfl, HC0.out, Below.refl _ _⟩
  case round =>
    obtain ⟨n, m, hm, hn22, rfl, rfl, hcn, hb⟩ := hrel
    have Hbr := Lib.hid hb
    have Hcn := Lib.hid hcn
    clear hcn
    by_cases hlt : m < OL.length
    · have hlt' : (m : Int) < (OL.length : Int) := by omega
      obtain ⟨hnl, hno, hyes⟩ := HCs.out n m Hcn.out hlt
      by_cases hn : n < CW.length
      · have hn' : (n : Int) < (CW.length : Int) := by omega
        have hnd : decide ((n : Int) < (CW.length : Int)) = true := decide_eq_true hn'
        obtain ⟨k, hk, hk1, hk2, hk15, hy, hz⟩ := hyes hn
        obtain ⟨bo, oo, rfl, hbo, hat⟩ := (Ho.out.under hb).at (by omega)
        obtain ⟨c0, c1⟩ := hat m hlt
        obtain ⟨bv, ov, rfl, hbv, hvat⟩ := (Hv.out.below hb).cell (by omega)
        have cm := hvat n hn
        rw [← getD_get hn, hk] at cm
        obtain ⟨bl, ol, rfl, hbl, hal⟩ := (Hl.out.below hb).cell (by omega)
        have hlc := hal (k - 1) (by omega)
        have hgd : ls.getD (k - 1) 0 = ls[k - 1]'(by omega) := getD_get (by omega)
        rw [← hgd] at hlc
        have Hy := Lib.hid hy; have Hz := Lib.hid hz
        clear hat hvat hal hgd hy hz hk hb hno hyes
        generalize ls.getD (k - 1) 0 = L at *
        generalize OL[m] = x at *
        obtain ⟨xr, xa⟩ := x
        dsimp only at *
        have e1 : IntKind.i64.wrap ((k : Int) - 1) = k - 1 := IntWalk.i64_in _ (by omega)
        have e2 : ((k : Int) - 1).toNat = k - 1 := by omega
        have e3 : 0 ≤ (k : Int) - 1 := by omega
        have e4 : (k : Int) - 1 < ls.length := by omega
        have e7 : IntKind.i64.wrap (2 * (k : Int)) = 2 * (k : Int) := IntWalk.i64_in _ (by omega)
        have e8 : IntKind.i64.wrap (2 * (k : Int) - 1) = 2 * (k : Int) - 1 := IntWalk.i64_in _ (by omega)
        by_cases hr : xr = 2 * (k : Int) - 1
        · have hr' : (xr == 2 * (k : Int) - 1) = true := by rw [beq_iff_eq]; exact hr
          by_cases ha : xa = L
          · have ha' : (xa == L) = true := by rw [beq_iff_eq]; exact ha
            have Hn := Lib.hid (Hy.out hr ha)
            clear ha hr Hy Hz
            go_wp2_with fail
            go_quiet (fail)
            go_wp2
            go_roundw
            case rel => exact ⟨n + 1, m + 1, by omega, by omega, by go_num, by go_num, Hn.out, below_step Hbr.out Hbr.out.size (below_drewN (Below.refl _ _) _)⟩
            case measure => simp [intOf]; omega
          · have ha' : (xa == L) = false := by rw [beq_eq_false_iff_ne]; exact ha
            have Hn := Lib.hid (Hz.out (fun _ => ha))
            clear ha hr Hy Hz
            go_wp2_with fail
            go_quiet (fail)
            go_wp2
            go_roundw
            case rel => exact ⟨n, m + 1, by omega, by omega, by go_num, by go_num, Hn.out, below_step Hbr.out Hbr.out.size (below_drewN (Below.refl _ _) _)⟩
            case measure => simp [intOf]; omega
        · have hr' : (xr == 2 * (k : Int) - 1) = false := by rw [beq_eq_false_iff_ne]; exact hr
          have Hn := Lib.hid (Hz.out (fun h => absurd h hr))
          clear hr Hy Hz
          go_wp2_with fail
          go_quiet (fail)
          go_wp2
          go_roundw
          case rel => exact ⟨n, m + 1, by omega, by omega, by go_num, by go_num, Hn.out, below_step Hbr.out Hbr.out.size (below_drewN (Below.refl _ _) _)⟩
          case measure => simp [intOf]; omega
      · have hn' : ¬ (n : Int) < (CW.length : Int) := by omega
        have hnd : decide ((n : Int) < (CW.length : Int)) = false := decide_eq_false hn'
        have Hn := Lib.hid (hno hn)
        clear hno hyes hb
        go_wp2_with fail
        go_quiet (fail)
        go_wp2
        go_roundw
        case rel => exact ⟨n, m + 1, by omega, by omega, by go_num, by go_num, Hn.out, below_step Hbr.out Hbr.out.size (below_drewN (Below.refl _ _) _)⟩
        case measure => simp [intOf]; omega
    · obtain rfl : m = OL.length := by omega
      obtain rfl := HCe.out n Hcn.out
      clear hb
      go_wp2
      go_ret
      exact ⟨by first | rfl | exact ret_bool (by simp), below_step Hb5.out Hb5.out.size Hbr.out⟩

theorem fnOrderLeaders_own : ownKnob Tryd.prog.godebug = none := by kernel_rfl
theorem fnOrderLeaders_laidOut : laidOutB Tryd.prog = true := by kernel_rfl

set_option maxRecDepth 8000 in
theorem fnOrderLeaders_lifted (os : Os) (started : os.Started) (H : Type) (enc : TypeId × Value → H) :
    ReturnsInHanded {} Tryd.checked os 3 .any (fun w args => (Rows.fnOrderLeadersSpec.pre enc Tryd.prog Tryd.f3 [] false w args ∧ laidMetH Tryd.prog laidE w) ∧ sizedMet enc Tryd.prog Tryd.f3 (OpenSpec.ofChange Rows.fnOrderLeadersSpec) false w args) (Rows.fnOrderLeadersSpec.post enc Tryd.prog Tryd.f3 false true false false) := by
  refine law_lifted_tied (C := Tryd.checked) (tb := 4) laidE fnOrderLeaders_own fnOrderLeaders_laidOut started (by kernel_rfl) Tryd.func3 rfl Tryd.underlying4 (by kernel_rfl) (by rw [Tryd.params3]; exact of_decide_eq_true (by kernel_rfl)) ?_
    (ChangeSpec.witness_shaped (enc := enc) (C := Tryd.checked) (os := os) (X := fun w _ => laidMetH Tryd.prog laidE w) false (World.laidAll Tryd.prog os laidE) #[.slice none 0 0] 8 (World.laidAll_os _ _ _) (World.shaped_of_ZipB (by kernel_rfl) (by kernel_rfl)) (by kernel_rfl) (by kernel_rfl) (by kernel_rfl) (laid_witness os _)) ?_
  · intro ds gs hds hgs
    rw [Tryd.params3] at hds
    match ds, hds, gs, hgs with
    | [d0], _, [g0, g1], _ => rfl
  · intro W base args ds p hval0 hA0 hL0
    have hval : ∀ (j : Nat) t v, Tryd.f3.params[j]? = some t → args[j]? = some v → Value.okWide Tryd.prog W .any base t v := hval0
    have hA : DataW.TrodAll enc Tryd.prog W 0 (fun _ => true) true Tryd.f3.params.toList args.toList ds p := hA0
    rw [Tryd.params3] at hA hval
    obtain ⟨v0, vs0, d0, ds0, p0, q0, hargs0, rfl, rfl, h0, r0⟩ := trodAll_cons hA
    obtain ⟨hnil, rfl, rfl⟩ := trodAll_nil r0
    subst hnil
    obtain rfl : args = #[v0] := by cases args; simp_all
    obtain ⟨a0, cap0, zs0, rfl, hk0, hm0, hi0, hw0⟩ := open_slice_ints Tryd.underlying22 Tryd.underlying5 (by kernel_rfl) (hval 0 22 v0 rfl rfl) h0
    obtain ⟨eN, eI, hS⟩ := sen_of hL0
    exact fnOrderLeaders_walk a0 cap0 zs0 W hk0 hm0 hi0 hw0 eN eI hS

set_option maxRecDepth 8000 in
theorem fnOrderLeaders_holds : Rows.FnOrderLeadersSaid :=
  OpenClaim.holds_of_wide 3 Tryd.f3 rfl rfl rfl rfl rfl rfl rfl ⟨rfl, rfl, rfl, rfl, rfl⟩ rfl rfl rfl rfl rfl (by kernel_rfl) Tryd.func3 (by kernel_rfl)
    (of_decide_eq_true (by kernel_rfl)) (by unfold Func.isWrapper; first | (rw [if_pos (by decide +kernel)]; kernel_rfl) | (rw [if_neg (by decide +kernel)]; exact ⟨rfl, rfl⟩))
    (fun os started H enc _ => fnOrderLeaders_lifted os started H enc)

theorem fnOrderLeaders_card : Rows.FnOrderLeadersCardSaid :=
  Claim7.holds_tied_plain_at .later [] _ _ _ _ fnOrderLeaders_holds (fun _ h => by cases h) (by kernel_rfl) (fun _ h => by cases h) fnOrderLeaders_row_tie rfl ⟨rfl, rfl⟩ (by kernel_rfl) rfl
    (plain_of (f0 := 3) (fn0 := Tryd.f3) (ts := [22]) (by kernel_rfl) Tryd.func3 (by rw [Tryd.params3]) (by kernel_rfl) (by kernel_rfl)) (by kernel_rfl)

end Go.Proofs.YtjaacdapibokiaaDoor
