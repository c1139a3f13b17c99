/- Law FnOrderQuorum holds for every input; no conditions of our own (its card: the two sentinels of impl are tied to the program's text). -/
import Derived.Test.YtjaacdapibokiabGreatDoorRows
import Derived.Test.YtjaacdapibokiabGreatDoorBu0
import Derived.Test.YtjaacdapibokiabGreatDoorBu2
import Derived.Test.YtjaacdapibokiabGreatDoorBu5
import Derived.Test.YtjaacdapibokiabGreatDoorBu3
import Derived.Test.YtjaacdapibokiabGreatDoorBu1
import Derived.Test.YtjaacdapibokiabGreatDoorBu4
namespace Go.Proofs.YtjaacdapibokiabGreatDoor
open Go.ChangeShapes Go.WideShapes Go.ChangeAt Go.RowKit

set_option maxHeartbeats 2000000 in
theorem fnOrderQuorum_walk (a : Option Addr) (cap : Nat) (zs : List Int) (w : World) (hk : zs.length ≤ cap) (_hm : zs.length ≤ maxLen) (hi : zs = [] ∨ ∃ b off, a = some ⟨b, off, none⟩ ∧ b < w.heap.size ∧ ∀ j (h : j < zs.length), w.cell? ⟨b, off + j, none⟩ = some (.int .u8 zs[j])) (hw : ∀ z ∈ zs, (Lit.int .u8 z).wf = true) (eN eI : Addr) (hs : Sen w eN eI) :
    Calls Tryz.prog 4 #[.slice a zs.length cap] w fun e w' => e = .returned (.bool true) ∧ Below w.heap.size w w' := by
  by_cases hl : 1048576 < zs.length
  · go_enter Tryz.func4, Tryz.ntmps4
    go_wp2
    go_ret
    exact ⟨rfl, Below.refl _ _⟩
  have hcode := codeAt_of hk (by omega) hi hw
  have Hcode := Lib.hid hcode; clear hcode hi hw
  have Hs := Lib.hid hs; clear hs
  go_enter Tryz.func4, Tryz.ntmps4
  go_wp2_with fail
  refine (spec_DrawOrderSlots a cap zs w Hcode.out).mono ?_
  rintro e w1 ⟨ac, cc, c, vg, g, fp, al, cl, ls, rfl, hoc, hcl, hgr, hfp, hgl, hps, hol, hll, hb1⟩
  have hcc := hoc.cap
  have hlc := hol.cap
  obtain ⟨ag, cg, rfl⟩ := hgr.slice
  have Hps := Lib.hid (show ∀ x ∈ g, x.ps.length ≤ 1099511627776 from fun x hx => Nat.le_trans (hps x hx) (by omega)); clear hps
  have Hb1 := Lib.hid hb1
  have HS := Lib.hid (Hs.out.below hb1)
  have Hc := Lib.hid hoc.at; have Hl := Lib.hid hol.at; have Hg := Lib.hid hgr
  clear hoc hol hgr hb1 hfp Hs
  go_wp2_with fail
  refine (impl_OrderSlots ac cc c g (.slice ag g.length cg) fp al cl ls eN eI w1 (by omega) (by omega) Hps.out (by omega) Hc.out Hg.out Hl.out HS.out).mono ?_
  rintro e w2 ⟨uo, rfl, hoo, hb⟩
  obtain ⟨ao, co, fo, rfl, hcpo, hso⟩ := sls_of hoo
  have Ho := Lib.hid hso
  clear hoo hso
  have Hc := Lib.hid (show IntsAt w2 ac c from Hc.out.below hb)
  have Hl := Lib.hid (show IntsAt w2 al ls from Hl.out.below hb)
  have Hg := Lib.hid (show Gr w2 g (.slice ag g.length cg) fp from Hg.out.under hb)
  have HS := Lib.hid (show Sen w2 eN eI from HS.out.below hb)
  have Hb2 := Lib.hid (below_step Hb1.out Hb1.out.size hb)
  clear hb
  go_wp2_with fail
  refine (spec_OrderSlots ac cc c g (.slice ag g.length cg) fp al cl ls w2 (by omega) (by omega) Hps.out (by omega) Hc.out Hg.out Hl.out).mono ?_
  rintro e w3 ⟨uw, rfl, how, hb⟩
  obtain ⟨aw, cw, fw, rfl, hcpw, hsw⟩ := sls_of how
  have Hw := Lib.hid hsw
  clear how hsw
  have Hc := Lib.hid (show IntsAt w3 ac c from Hc.out.below hb)
  have Hl := Lib.hid (show IntsAt w3 al ls from Hl.out.below hb)
  have Hg := Lib.hid (show Gr w3 g (.slice ag g.length cg) fp from Hg.out.under hb)
  have HS := Lib.hid (show Sen w3 eN eI from HS.out.below hb)
  have Ho := Lib.hid (show Sls w3 (osS c g ls) (.slice ao (osS c g ls).length co) fo from Ho.out.under hb)
  have Hb3 := Lib.hid (below_step Hb2.out Hb2.out.size hb)
  clear hb
  have hO := Nat.le_trans (Nat.le_of_eq (osS_len c g ls)) (osI_len (c := c) (ls := ls) Hps.out)
  have HSS := Lib.hid (laws_sameSlots (osS c g ls) (osS c g ls) ao aw co cw fo fw w3 (by omega) (by omega) Ho.out Hw.out)
  rw [decide_eq_true rfl] at HSS
  go_wp2_with fail
  refine (HSS.out).mono ?_
  rintro e w4 ⟨rfl, hd⟩
  have hb : Below w3.heap.size w3 w4 := hd.below _
  clear hd
  have Hc := Lib.hid (show IntsAt w4 ac c from Hc.out.below hb)
  have Hl := Lib.hid (show IntsAt w4 al ls from Hl.out.below hb)
  have Hg := Lib.hid (show Gr w4 g (.slice ag g.length cg) fp from Hg.out.under hb)
  have HS := Lib.hid (show Sen w4 eN eI from HS.out.below hb)
  have Ho := Lib.hid (show Sls w4 (osS c g ls) (.slice ao (osS c g ls).length co) fo from Ho.out.under hb)
  have Hw := Lib.hid (show Sls w4 (osS c g ls) (.slice aw (osS c g ls).length cw) fw from Hw.out.under hb)
  have Hb4 := Lib.hid (below_step Hb3.out Hb3.out.size hb)
  clear hb
  clear Hw
  go_wp2_with fail
  refine (impl_CommitWaves ac cc c g (.slice ag g.length cg) fp al cl ls eN eI w4 (by omega) (by omega) Hps.out (by omega) hcc Hc.out Hg.out hlc Hl.out HS.out).mono ?_
  rintro e w5 ⟨uv, rfl, hov, hb⟩
  obtain ⟨av, cv, rfl, _, _⟩ := hov.ints
  have Hv := Lib.hid (show IntsAt w5 av (cwZ c g ls) from hov.at)
  clear hov
  have Hc := Lib.hid (show IntsAt w5 ac c from Hc.out.below hb)
  have Hl := Lib.hid (show IntsAt w5 al ls from Hl.out.below hb)
  have Hg := Lib.hid (show Gr w5 g (.slice ag g.length cg) fp from Hg.out.under hb)
  have HS := Lib.hid (show Sen w5 eN eI from HS.out.below hb)
  have Ho := Lib.hid (show Sls w5 (osS c g ls) (.slice ao (osS c g ls).length co) fo from Ho.out.under hb)
  have Hb5 := Lib.hid (below_step Hb4.out Hb4.out.size hb)
  clear hb
  have hO22 : (cwZ c g ls).length ≤ 22 := Nat.le_trans (cwZ_len c g ls) hll
  have HOn := Lib.hid (fun m => os_quorum (c := c) (g := g) (ls := ls) (m := m) Hps.out)
  have HHS := Lib.hid (fun W (hb : Below w5.heap.size w5 W) (s t : Int) => laws_hasSlot (osS c g ls) ao co fo s t W (by omega) (Ho.out.under hb))
  have HMW := Lib.hid (fun W (hb : Below w5.heap.size w5 W) a' c' l (hl : l.length ≤ 11) (hi : IntsAt W a' l) => impl_MembersWeight ac cc c a' c' l W (by omega) (by omega) (Hc.out.below hb) hi)
  have HCQ := Lib.hid (fun W (hb : Below w5.heap.size w5 W) => impl_CommitteeQuorum ac cc c W (by omega) (Hc.out.below hb))
  have Hqa := Lib.hid (show ∀ k a : Nat, quA c g ls k a = decide (((2 * (k : Int) - 2, (a : Int)) : Sl) ∈ osS c g ls) from fun k a => rfl)
  have hOL : (osS c g ls).length ≤ 281 := by omega
  generalize hq0 : quA c g ls = qa at *
  clear hq0
  generalize osS c g ls = OL at *
  generalize cwZ c g ls = CW at *
  go_wp2
  go_loopw [9, 10, 11] (fun i _ _ wr => ∃ m : Nat, m ≤ CW.length ∧ i = .int .i64 m ∧ Below w5.heap.size w5 wr) (fun i _ _ _ => CW.length - (intOf i).toNat)
  case atStart => exact ⟨0, by omega, rfl, Below.refl _ _⟩
  case round =>
    obtain ⟨m, hm, rfl, hb⟩ := hrel
    have Hbr := Lib.hid hb
    by_cases hlt : m < CW.length
    · have hlt' : (m : Int) < (CW.length : Int) := by omega
      obtain ⟨k, hk, hk1, hk2, hk15, hquo⟩ := HOn.out m hlt
      have Hquo := Lib.hid hquo
      obtain ⟨bv, ov, rfl, hbv, hvat⟩ := Hv.out.cell (by omega)
      have cm := hvat m hlt
      rw [← getD_get hlt, hk] at cm
      have Hqk := Lib.hid (Hqa.out k)
      generalize qa k = Q at *
      have e5 : 1 ≤ (k : Int) := by omega
      have e6 : (k : Int) ≤ 15 := by omega
      have e7 : IntKind.i64.wrap (2 * (k : Int)) = 2 * (k : Int) := IntWalk.i64_in _ (by omega)
      have e8 : IntKind.i64.wrap (2 * (k : Int) - 2) = 2 * (k : Int) - 2 := IntWalk.i64_in _ (by omega)
      have hbA : Below wr.heap.size wr (wr.alloc (.cells #[] 3)) := (Below.refl _ _).alloc (Nat.le_refl _) _
      have HoA := Lib.hid (own_empty 3 wr (Nat.le_refl wr.heap.size))
      have HbA := Lib.hid (below_step Hbr.out hb.size hbA)
      have hwr := hb.size
      have HbA2 := Lib.hid hbA
      clear hvat hk hquo hb hbA
      go_wp2_with fail
      obtain ⟨Wo, hWo⟩ : ∃ Wo, Wo = wr := ⟨_, rfl⟩
      subst hWo
      go_loopw [10, 11] (fun u i wr => ∃ a : Nat, a ≤ c.length ∧ i = .int .i64 a ∧ Own 3 wr Wo.heap.size u (rangeF Q a) ∧ Below Wo.heap.size Wo wr ∧ Below w5.heap.size w5 wr) (fun _ i _ => c.length - (intOf i).toNat)
      case atStart => exact ⟨0, by omega, rfl, HoA.out, HbA2.out, HbA.out⟩
      case round =>
        obtain ⟨a, ha, rfl, hu, hbo, hb⟩ := hrel
        have Hu := Lib.hid hu; have Hbo := Lib.hid hbo; have Hb := Lib.hid hb
        have hrl := rangeF_len Q a
        clear hu hbo hb
        by_cases hla : a < c.length
        · have hla' : (a : Int) < (c.length : Int) := by omega
          have cm2 := (Hb.out.cell (p := ⟨bv, ov + m, none⟩) hbv).trans cm
          have HHm := Lib.hid (HHS.out wr Hb.out (2 * (k : Int) - 2) (a : Int))
          rw [← Hqk.out a] at HHm
          go_wp2_with fail
          refine HHm.out.mono ?_
          rintro e w7 ⟨rfl, hb7⟩
          have Hu7 := Lib.hid (Hu.out.below hb7)
          have hs7 := hb7.size
          have Hbo7 := Lib.hid (below_step Hbo.out Hbo.out.size hb7)
          have Hb7 := Lib.hid (below_step Hb.out Hb.out.size hb7)
          have hwz := Hbo7.out.size
          clear hb7 cm2
          cases hqa : Q a with
          | true =>
            have Hy := Lib.hid (rangeF_yes hqa)
            clear hqa
            generalize rangeF Q a = es at *
            have hel : es.length ≤ 1099511627776 := by omega
            go_wp2_with (at_builtin; refine wpList_push_at TIw rfl (.tmp 63) (.tmp 65) rfl Wo.heap.size u10 es _ rfl Hu7.out hel rfl hwz ?_; intro v8 w8 hown8 hg8 hloc8)
            have Ho8 := Lib.hid hown8
            have Hbo8 := Lib.hid (Hbo7.out.grown hg8 hwz (fun p e => (Hu7.out.lt p e).1))
            have Hb8 := Lib.hid (Hb7.out.grown hg8 (by omega) (fun p e => by have := (Hu7.out.lt p e).1; omega))
            clear hown8 hg8 hloc8
            go_roundw
            case rel => exact ⟨a + 1, by omega, by go_num, by rw [Hy.out]; exact Ho8.out, Hbo8.out, Hb8.out⟩
            case measure => simp [intOf]; omega
          | false =>
            have Hn := Lib.hid (rangeF_no hqa)
            clear hqa
            go_wp2
            go_roundw
            case rel => exact ⟨a + 1, by omega, by go_num, by rw [Hn.out]; exact Hu7.out, Hbo7.out, Hb7.out⟩
            case measure => simp [intOf]; omega
        · obtain rfl : a = c.length := by omega
          obtain ⟨ar, cr, rfl, har, _⟩ := Hu.out.ints
          have HMm := Lib.hid (HMW.out wr Hb.out ar cr (rangeF Q c.length) (by omega) har)
          have HCm := Lib.hid (HCQ.out wr Hb.out)
          have hge := Hquo.out
          have hd : decide (mwZ c (rangeF Q c.length) < orNo c (2 * totalZ c / 3 + 1)) = false := decide_eq_false (by omega)
          clear har cm
          generalize mwZ c (rangeF Q c.length) = MW at *
          generalize orNo c (2 * totalZ c / 3 + 1) = CQ at *
          generalize (rangeF Q c.length).length = rl at *
          go_wp2_with fail
          refine HMm.out.mono ?_
          rintro e w7 ⟨rfl, rfl⟩
          go_wp2_with fail
          refine HCm.out.mono ?_
          rintro e w8 ⟨rfl, rfl⟩
          go_wp2
          go_roundw
          case rel => exact ⟨m + 1, by omega, by go_num, Hb.out⟩
          case measure => simp [intOf]; omega
    · clear hb
      go_wp2
      go_ret
      exact ⟨rfl, below_step Hb5.out Hb5.out.size Hbr.out⟩

theorem fnOrderQuorum_own : ownKnob Tryz.prog.godebug = none := by kernel_rfl
theorem fnOrderQuorum_laidOut : laidOutB Tryz.prog = true := by kernel_rfl

set_option maxRecDepth 8000 in
theorem fnOrderQuorum_lifted (os : Os) (started : os.Started) (H : Type) (enc : TypeId × Value → H) :
    ReturnsInHanded {} Tryz.checked os 4 .any (fun w args => (Rows.fnOrderQuorumSpec.pre enc Tryz.prog Tryz.f4 [] false w args ∧ laidMetH Tryz.prog laidE w) ∧ sizedMet enc Tryz.prog Tryz.f4 (OpenSpec.ofChange Rows.fnOrderQuorumSpec) false w args) (Rows.fnOrderQuorumSpec.post enc Tryz.prog Tryz.f4 false true false false) := by
  refine law_lifted_tied (C := Tryz.checked) (tb := 4) laidE fnOrderQuorum_own fnOrderQuorum_laidOut started (by kernel_rfl) Tryz.func4 rfl Tryz.underlying4 (by kernel_rfl) (by rw [Tryz.params4]; exact of_decide_eq_true (by kernel_rfl)) ?_
    (ChangeSpec.witness_shaped (enc := enc) (C := Tryz.checked) (os := os) (X := fun w _ => laidMetH Tryz.prog laidE w) false (World.laidAll Tryz.prog os laidE) #[.slice none 0 0] 8 (World.laidAll_os _ _ _) (World.shaped_of_ZipB (by kernel_rfl) (by kernel_rfl)) (by kernel_rfl) (by kernel_rfl) (by kernel_rfl) (laid_witness os _)) ?_
  · intro ds gs hds hgs
    rw [Tryz.params4] at hds
    match ds, hds, gs, hgs with
    | [d0], _, [g0, g1], _ => rfl
  · intro W base args ds p hval0 hA0 hL0
    have hval : ∀ (j : Nat) t v, Tryz.f4.params[j]? = some t → args[j]? = some v → Value.okWide Tryz.prog W .any base t v := hval0
    have hA : DataW.TrodAll enc Tryz.prog W 0 (fun _ => true) true Tryz.f4.params.toList args.toList ds p := hA0
    rw [Tryz.params4] at hA hval
    obtain ⟨v0, vs0, d0, ds0, p0, q0, hargs0, rfl, rfl, h0, r0⟩ := trodAll_cons hA
    obtain ⟨hnil, rfl, rfl⟩ := trodAll_nil r0
    subst hnil
    obtain rfl : args = #[v0] := by cases args; simp_all
    obtain ⟨a0, cap0, zs0, rfl, hk0, hm0, hi0, hw0⟩ := open_slice_ints Tryz.underlying22 Tryz.underlying5 (by kernel_rfl) (hval 0 22 v0 rfl rfl) h0
    obtain ⟨eN, eI, hS⟩ := sen_of hL0
    exact fnOrderQuorum_walk a0 cap0 zs0 W hk0 hm0 hi0 hw0 eN eI hS

set_option maxRecDepth 8000 in
theorem fnOrderQuorum_holds : Rows.FnOrderQuorumSaid :=
  OpenClaim.holds_of_wide 4 Tryz.f4 rfl rfl rfl rfl rfl rfl rfl ⟨rfl, rfl, rfl, rfl, rfl⟩ rfl rfl rfl rfl rfl (by kernel_rfl) Tryz.func4 (by kernel_rfl)
    (of_decide_eq_true (by kernel_rfl)) (by unfold Func.isWrapper; first | (rw [if_pos (by decide +kernel)]; kernel_rfl) | (rw [if_neg (by decide +kernel)]; exact ⟨rfl, rfl⟩))
    (fun os started H enc _ => fnOrderQuorum_lifted os started H enc)

theorem fnOrderQuorum_card : Rows.FnOrderQuorumCardSaid :=
  Claim7.holds_tied_plain_at .later [] _ _ _ _ fnOrderQuorum_holds (fun _ h => by cases h) (by kernel_rfl) (fun _ h => by cases h) fnOrderQuorum_row_tie rfl ⟨rfl, rfl⟩ (by kernel_rfl) rfl
    (plain_of (f0 := 4) (fn0 := Tryz.f4) (ts := [22]) (by kernel_rfl) Tryz.func4 (by rw [Tryz.params4]) (by kernel_rfl) (by kernel_rfl)) (by kernel_rfl)

end Go.Proofs.YtjaacdapibokiabGreatDoor
