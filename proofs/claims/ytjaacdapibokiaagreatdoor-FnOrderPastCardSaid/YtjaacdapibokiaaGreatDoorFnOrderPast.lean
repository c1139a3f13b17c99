/- Law FnOrderPast holds for every input; no conditions of our own (its card: the two sentinels of impl are tied to the program's text). -/
import Derived.Test.YtjaacdapibokiaaGreatDoorRows
import Derived.Test.YtjaacdapibokiaaGreatDoorBu0
import Derived.Test.YtjaacdapibokiaaGreatDoorBu1
import Derived.Test.YtjaacdapibokiaaGreatDoorBu2
import Derived.Test.YtjaacdapibokiaaGreatDoorBu5
import Derived.Test.YtjaacdapibokiaaGreatDoorBu3
namespace Go.Proofs.YtjaacdapibokiaaGreatDoor
open Go.ChangeShapes Go.WideShapes Go.ChangeAt Go.RowKit

set_option maxHeartbeats 2000000 in
theorem fnOrderPast_walk (a : Option Addr) (cap : Nat) (zs : List Int) (w : World) (hk : zs.length ≤ cap) (_hm : zs.length ≤ maxLen) (hi : zs = [] ∨ ∃ b off, a = some ⟨b, off, none⟩ ∧ b < w.heap.size ∧ ∀ j (h : j < zs.length), w.cell? ⟨b, off + j, none⟩ = some (.int .u8 zs[j])) (hw : ∀ z ∈ zs, (Lit.int .u8 z).wf = true) (eN eI : Addr) (hs : Sen w eN eI) :
    Calls Tryz.prog 7 #[.slice a zs.length cap] w fun e w' => e = .returned (.bool true) ∧ Below w.heap.size w w' := by
  by_cases hl : 1048576 < zs.length
  · go_enter Tryz.func7, Tryz.ntmps7
    go_wp2
    go_ret
    exact ⟨rfl, Below.refl _ _⟩
  have hcode := codeAt_of hk (by omega) hi hw
  have Hcode := Lib.hid hcode; clear hcode hi hw
  have Hs := Lib.hid hs; clear hs
  go_enter Tryz.func7, Tryz.ntmps7
  go_wp2_with fail
  refine (spec_DrawOrderSlots a cap zs w Hcode.out).mono ?_
  rintro e w1 ⟨ac, cc, c, vg, g, fp, al, cl, ls, rfl, hoc, hcl, hgr, hfp, hgl, hps, hol, hll, hb1⟩
  have hcc := hoc.cap
  have hlc := hol.cap
  obtain ⟨ag, cg, rfl⟩ := hgr.slice
  have Hps := Lib.hid (show ∀ x ∈ g, x.ps.length ≤ 1099511627776 from fun x hx => Nat.le_trans (hps x hx) (by omega)); clear hps
  have Hb1 := Lib.hid hb1
  have HS := Lib.hid (Hs.out.below hb1)
  have Hc := Lib.hid hoc.at; have Hl := Lib.hid hol.at; have Hg := Lib.hid hgr
  clear hoc hol hgr hb1 hfp Hs
  go_wp2_with fail
  refine (impl_OrderSlots ac cc c g (.slice ag g.length cg) fp al cl ls eN eI w1 (by omega) (by omega) Hps.out (by omega) Hc.out Hg.out Hl.out HS.out).mono ?_
  rintro e w2 ⟨uo, rfl, hoo, hb⟩
  obtain ⟨ao, co, fo, rfl, hcpo, hso⟩ := sls_of hoo
  have Ho := Lib.hid hso
  clear hoo hso
  have Hc := Lib.hid (show IntsAt w2 ac c from Hc.out.below hb)
  have Hl := Lib.hid (show IntsAt w2 al ls from Hl.out.below hb)
  have Hg := Lib.hid (show Gr w2 g (.slice ag g.length cg) fp from Hg.out.under hb)
  have HS := Lib.hid (show Sen w2 eN eI from HS.out.below hb)
  have Hb2 := Lib.hid (below_step Hb1.out Hb1.out.size hb)
  clear hb
  go_wp2_with fail
  refine (spec_OrderSlots ac cc c g (.slice ag g.length cg) fp al cl ls w2 (by omega) (by omega) Hps.out (by omega) Hc.out Hg.out Hl.out).mono ?_
  rintro e w3 ⟨uw, rfl, how, hb⟩
  obtain ⟨aw, cw, fw, rfl, hcpw, hsw⟩ := sls_of how
  have Hw := Lib.hid hsw
  clear how hsw
  have Hc := Lib.hid (show IntsAt w3 ac c from Hc.out.below hb)
  have Hl := Lib.hid (show IntsAt w3 al ls from Hl.out.below hb)
  have Hg := Lib.hid (show Gr w3 g (.slice ag g.length cg) fp from Hg.out.under hb)
  have HS := Lib.hid (show Sen w3 eN eI from HS.out.below hb)
  have Ho := Lib.hid (show Sls w3 (osS c g ls) (.slice ao (osS c g ls).length co) fo from Ho.out.under hb)
  have Hb3 := Lib.hid (below_step Hb2.out Hb2.out.size hb)
  clear hb
  have hO := Nat.le_trans (Nat.le_of_eq (osS_len c g ls)) (osI_len (c := c) (ls := ls) Hps.out)
  have HSS := Lib.hid (laws_sameSlots (osS c g ls) (osS c g ls) ao aw co cw fo fw w3 (by omega) (by omega) Ho.out Hw.out)
  rw [decide_eq_true rfl] at HSS
  go_wp2_with fail
  refine (HSS.out).mono ?_
  rintro e w4 ⟨rfl, hd⟩
  have hb : Below w3.heap.size w3 w4 := hd.below _
  clear hd
  have Hc := Lib.hid (show IntsAt w4 ac c from Hc.out.below hb)
  have Hl := Lib.hid (show IntsAt w4 al ls from Hl.out.below hb)
  have Hg := Lib.hid (show Gr w4 g (.slice ag g.length cg) fp from Hg.out.under hb)
  have HS := Lib.hid (show Sen w4 eN eI from HS.out.below hb)
  have Ho := Lib.hid (show Sls w4 (osS c g ls) (.slice ao (osS c g ls).length co) fo from Ho.out.under hb)
  have Hw := Lib.hid (show Sls w4 (osS c g ls) (.slice aw (osS c g ls).length cw) fw from Hw.out.under hb)
  have Hb4 := Lib.hid (below_step Hb3.out Hb3.out.size hb)
  clear hb
  clear Hw
  go_wp2_with fail
  refine (impl_CommitWaves ac cc c g (.slice ag g.length cg) fp al cl ls eN eI w4 (by omega) (by omega) Hps.out (by omega) hcc Hc.out Hg.out hlc Hl.out HS.out).mono ?_
  rintro e w5 ⟨uv, rfl, hov, hb⟩
  obtain ⟨av, cv, rfl, _, _⟩ := hov.ints
  have Hv := Lib.hid (show IntsAt w5 av (cwZ c g ls) from hov.at)
  clear hov
  have Hc := Lib.hid (show IntsAt w5 ac c from Hc.out.below hb)
  have Hl := Lib.hid (show IntsAt w5 al ls from Hl.out.below hb)
  have Hg := Lib.hid (show Gr w5 g (.slice ag g.length cg) fp from Hg.out.under hb)
  have HS := Lib.hid (show Sen w5 eN eI from HS.out.below hb)
  have Ho := Lib.hid (show Sls w5 (osS c g ls) (.slice ao (osS c g ls).length co) fo from Ho.out.under hb)
  have Hb5 := Lib.hid (below_step Hb4.out Hb4.out.size hb)
  clear hb
  have hO22 : (cwZ c g ls).length ≤ 22 := Nat.le_trans (cwZ_len c g ls) hll
  have HGP := Lib.hid (fun W (hb : Below w5.heap.size w5 W) (r b : Int) => impl_GraphPast' ac cc c g (.slice ag g.length cg) fp r b W (by omega) (by omega) Hps.out (Hc.out.below hb) (Hg.out.under hb))
  have HOn := Lib.hid (fun m => os_past (c := c) (g := g) (ls := ls) (m := m) Hps.out)
  have HHS := Lib.hid (fun W (s t : Int) (hr : Sls W (osS c g ls) (.slice ao (osS c g ls).length co) fo) => laws_hasSlot (osS c g ls) ao co fo s t W (by omega) hr)
  have hOL : (osS c g ls).length ≤ 281 := by omega
  generalize osS c g ls = OL at *
  generalize cwZ c g ls = CW at *
  go_wp2
  go_loopw [9, 10, 11, 12, 13] (fun i _ _ _ _ wr => ∃ m : Nat, m ≤ CW.length ∧ i = .int .i64 m ∧ Below w5.heap.size w5 wr) (fun i _ _ _ _ _ => CW.length - (intOf i).toNat)
  case atStart => exact ⟨0, by omega, rfl, Below.refl _ _⟩
  case round =>
    obtain ⟨m, hm, rfl, hb⟩ := hrel
    have Hbr := Lib.hid hb
    by_cases hlt : m < CW.length
    · have hlt' : (m : Int) < (CW.length : Int) := by omega
      obtain ⟨k, hk, hk1, hk2, hk15, hall⟩ := HOn.out m hlt
      obtain ⟨bv, ov, rfl, hbv, hvat⟩ := Hv.out.cell (by omega)
      have cm := (hb.cell (p := ⟨bv, ov + m, none⟩) hbv).trans (hvat m hlt)
      rw [← getD_get hlt, hk] at cm
      obtain ⟨bl, ol, rfl, hbl, hal⟩ := Hl.out.cell (by omega)
      have hlc9 := (hb.cell (p := ⟨bl, ol + (k - 1), none⟩) hbl).trans (hal (k - 1) (by omega))
      have hgd : ls.getD (k - 1) 0 = ls[k - 1]'(by omega) := getD_get (by omega)
      rw [← hgd] at hlc9
      have HGm := Lib.hid (HGP.out wr hb (2 * (k : Int) - 1) (ls.getD (k - 1) 0))
      have hpl := gpZ_len c g (2 * (k : Int) - 1) (ls.getD (k - 1) 0)
      have Hall := Lib.hid hall
      clear hvat hal hgd hk hall hb
      generalize gpZ c g (2 * (k : Int) - 1) (ls.getD (k - 1) 0) = PL at *
      generalize ls.getD (k - 1) 0 = L at *
      have e1 : IntKind.i64.wrap ((k : Int) - 1) = k - 1 := IntWalk.i64_in _ (by omega)
      have e2 : ((k : Int) - 1).toNat = k - 1 := by omega
      have e3 : 0 ≤ (k : Int) - 1 := by omega
      have e4 : (k : Int) - 1 < ls.length := by omega
      have e5 : 1 ≤ (k : Int) := by omega
      have e6 : (k : Int) ≤ 15 := by omega
      have e7 : IntKind.i64.wrap (2 * (k : Int)) = 2 * (k : Int) := IntWalk.i64_in _ (by omega)
      have e8 : IntKind.i64.wrap (2 * (k : Int) - 1) = 2 * (k : Int) - 1 := IntWalk.i64_in _ (by omega)
      have e9 : IntKind.i64.wrap (2 * (k : Int) - 1 - 6) = 2 * (k : Int) - 7 := by rw [IntWalk.i64_in _ (by omega)]; omega
      go_wp2_with fail
      refine HGm.out.mono ?_
      rintro e w6 ⟨up, rfl, hou, hb6⟩
      obtain ⟨ap, cp, rfl, _, _⟩ := hou.ints
      have Hpo := Lib.hid (show IntsAt w6 ap PL from hou.at)
      have Hb6 := Lib.hid (below_step Hbr.out Hbr.out.size hb6)
      clear hou hb6 cm hlc9 e1 e2 e3 e4
      go_wp2
      go_loopw [12, 13] (fun i _ wr => ∃ q : Nat, q ≤ PL.length ∧ i = .int .i64 q ∧ Below w6.heap.size w6 wr) (fun i _ _ => PL.length - (intOf i).toNat)
      case atStart => exact ⟨0, by omega, rfl, Below.refl _ _⟩
      case round =>
        obtain ⟨q, hq, rfl, hbq⟩ := hrel
        have Hbq := Lib.hid hbq
        by_cases hlq : q < PL.length
        · have hlq' : (q : Int) < (PL.length : Int) := by omega
          obtain ⟨bp, op, rfl, hbp, hpat⟩ := (Hpo.out.below hbq).cell (by omega)
          have cq := hpat q hlq
          obtain ⟨j, hj, ej, hin⟩ := Hall.out _ (List.getElem_mem hlq)
          rw [ej] at cq
          have H5q := Lib.hid (below_step Hb6.out Hb6.out.size hbq)
          have Hoq := Lib.hid (Ho.out.under H5q.out)
          obtain ⟨b, off, hag, hbg, hgt⟩ := (Hg.out.under H5q.out).at (by omega)
          subst hag
          obtain ⟨c0, c1, ⟨pa, pc, c2, _⟩, c3⟩ := hgt j hj
          have hjl : (j : Int) < (g.length : Int) := by omega
          have Hin := Lib.hid hin
          clear hpat hgt ej hin hbq
          generalize g[j] = x at *
          obtain ⟨xr, xa, xp, xd⟩ := x
          dsimp only at *
          have hbA : Below wr.heap.size wr (wr.alloc (.cells #[.int .i64 xr, .int .i64 xa, .slice pa xp.length pc, .int .i64 xd] 39)) := (Below.refl _ _).alloc (Nat.le_refl _) _
          have s0 := Str.new wr 39 #[.int .i64 xr, .int .i64 xa, .slice pa xp.length pc, .int .i64 xd]
          have k0 := s0.cell 0 (v := .int .i64 xr) rfl
          have k1 := s0.cell 1 (v := .int .i64 xa) rfl
          have Hs0 := Lib.hid s0
          have HbA := Lib.hid hbA
          have HoA := Lib.hid (Hoq.out.under hbA)
          clear hbA s0
          by_cases hr : 2 * (k : Int) - 7 ≤ xr
          · have hmem := Hin.out hr
            have HHm := Lib.hid (HHS.out _ xr xa HoA.out)
            rw [decide_eq_true (show ((xr, xa) : Sl) ∈ OL from hmem)] at HHm
            clear hmem
            go_wp2_with fail
            generalize wr.alloc (.cells #[.int .i64 xr, .int .i64 xa, .slice pa xp.length pc, .int .i64 xd] 39) = wA at *
            refine HHm.out.mono ?_
            rintro e w8 ⟨rfl, hb8⟩
            have Hb8 := Lib.hid (below_step (below_step Hbq.out Hbq.out.size HbA.out) (Nat.le_trans Hbq.out.size HbA.out.size) hb8)
            clear hb8 cq c0 c1 c2 c3 k0 k1
            go_wp2
            go_roundw
            case rel => exact ⟨q + 1, by omega, by go_num, Hb8.out⟩
            case measure => simp [intOf]; omega
          · have hr' : decide (2 * (k : Int) - 7 ≤ xr) = false := decide_eq_false hr
            go_wp2
            go_roundw
            case rel => exact ⟨q + 1, by omega, by go_num, below_step Hbq.out Hbq.out.size HbA.out⟩
            case measure => simp [intOf]; omega
        · have H5q := Lib.hid (below_step Hb6.out Hb6.out.size hbq)
          clear hbq
          go_wp2
          go_roundw
          case rel => exact ⟨m + 1, by omega, by go_num, H5q.out⟩
          case measure => simp [intOf]; omega
    · clear hb
      go_wp2
      go_ret
      exact ⟨rfl, below_step Hb5.out Hb5.out.size Hbr.out⟩

theorem fnOrderPast_own : ownKnob Tryz.prog.godebug = none := by kernel_rfl
theorem fnOrderPast_laidOut : laidOutB Tryz.prog = true := by kernel_rfl

set_option maxRecDepth 8000 in
theorem fnOrderPast_lifted (os : Os) (started : os.Started) (H : Type) (enc : TypeId × Value → H) :
    ReturnsInHanded {} Tryz.checked os 7 .any (fun w args => (Rows.fnOrderPastSpec.pre enc Tryz.prog Tryz.f7 [] false w args ∧ laidMetH Tryz.prog laidE w) ∧ sizedMet enc Tryz.prog Tryz.f7 (OpenSpec.ofChange Rows.fnOrderPastSpec) false w args) (Rows.fnOrderPastSpec.post enc Tryz.prog Tryz.f7 false true false false) := by
  refine law_lifted_tied (C := Tryz.checked) (tb := 4) laidE fnOrderPast_own fnOrderPast_laidOut started (by kernel_rfl) Tryz.func7 rfl Tryz.underlying4 (by kernel_rfl) (by rw [Tryz.params7]; exact of_decide_eq_true (by kernel_rfl)) ?_
    (ChangeSpec.witness_shaped (enc := enc) (C := Tryz.checked) (os := os) (X := fun w _ => laidMetH Tryz.prog laidE w) false (World.laidAll Tryz.prog os laidE) #[.slice none 0 0] 8 (World.laidAll_os _ _ _) (World.shaped_of_ZipB (by kernel_rfl) (by kernel_rfl)) (by kernel_rfl) (by kernel_rfl) (by kernel_rfl) (laid_witness os _)) ?_
  · intro ds gs hds hgs
    rw [Tryz.params7] at hds
    match ds, hds, gs, hgs with
    | [d0], _, [g0, g1], _ => rfl
  · intro W base args ds p hval0 hA0 hL0
    have hval : ∀ (j : Nat) t v, Tryz.f7.params[j]? = some t → args[j]? = some v → Value.okWide Tryz.prog W .any base t v := hval0
    have hA : DataW.TrodAll enc Tryz.prog W 0 (fun _ => true) true Tryz.f7.params.toList args.toList ds p := hA0
    rw [Tryz.params7] at hA hval
    obtain ⟨v0, vs0, d0, ds0, p0, q0, hargs0, rfl, rfl, h0, r0⟩ := trodAll_cons hA
    obtain ⟨hnil, rfl, rfl⟩ := trodAll_nil r0
    subst hnil
    obtain rfl : args = #[v0] := by cases args; simp_all
    obtain ⟨a0, cap0, zs0, rfl, hk0, hm0, hi0, hw0⟩ := open_slice_ints Tryz.underlying22 Tryz.underlying5 (by kernel_rfl) (hval 0 22 v0 rfl rfl) h0
    obtain ⟨eN, eI, hS⟩ := sen_of hL0
    exact fnOrderPast_walk a0 cap0 zs0 W hk0 hm0 hi0 hw0 eN eI hS

set_option maxRecDepth 8000 in
theorem fnOrderPast_holds : Rows.FnOrderPastSaid :=
  OpenClaim.holds_of_wide 7 Tryz.f7 rfl rfl rfl rfl rfl rfl rfl ⟨rfl, rfl, rfl, rfl, rfl⟩ rfl rfl rfl rfl rfl (by kernel_rfl) Tryz.func7 (by kernel_rfl)
    (of_decide_eq_true (by kernel_rfl)) (by unfold Func.isWrapper; first | (rw [if_pos (by decide +kernel)]; kernel_rfl) | (rw [if_neg (by decide +kernel)]; exact ⟨rfl, rfl⟩))
    (fun os started H enc _ => fnOrderPast_lifted os started H enc)

theorem fnOrderPast_card : Rows.FnOrderPastCardSaid :=
  Claim7.holds_tied_plain_at .later [] _ _ _ _ fnOrderPast_holds (fun _ h => by cases h) (by kernel_rfl) (fun _ h => by cases h) fnOrderPast_row_tie rfl ⟨rfl, rfl⟩ (by kernel_rfl) rfl
    (plain_of (f0 := 7) (fn0 := Tryz.f7) (ts := [22]) (by kernel_rfl) Tryz.func7 (by rw [Tryz.params7]) (by kernel_rfl) (by kernel_rfl)) (by kernel_rfl)

end Go.Proofs.YtjaacdapibokiaaGreatDoor
