/- Law FnOrderWaves holds for every input; no conditions of our own (its card: the two sentinels of impl are tied to the program's text). -/
import Derived.Test.YtjaacdapibokiabGreatDoorRows
import Derived.Test.YtjaacdapibokiabGreatDoorBu0
import Derived.Test.YtjaacdapibokiabGreatDoorBu2
import Derived.Test.YtjaacdapibokiabGreatDoorBu5
import Derived.Test.YtjaacdapibokiabGreatDoorBu3
namespace Go.Proofs.YtjaacdapibokiabGreatDoor
open Go.ChangeShapes Go.WideShapes Go.ChangeAt Go.RowKit

set_option maxHeartbeats 2000000 in
theorem fnOrderWaves_walk (a : Option Addr) (cap : Nat) (zs : List Int) (w : World) (hk : zs.length ≤ cap) (_hm : zs.length ≤ maxLen) (hi : zs = [] ∨ ∃ b off, a = some ⟨b, off, none⟩ ∧ b < w.heap.size ∧ ∀ j (h : j < zs.length), w.cell? ⟨b, off + j, none⟩ = some (.int .u8 zs[j])) (hw : ∀ z ∈ zs, (Lit.int .u8 z).wf = true) (eN eI : Addr) (hs : Sen w eN eI) :
    Calls Tryz.prog 3 #[.slice a zs.length cap] w fun e w' => e = .returned (.bool true) ∧ Below w.heap.size w w' := by
  by_cases hl : 1048576 < zs.length
  · go_enter Tryz.func3, Tryz.ntmps3
    go_wp2
    go_ret
    exact ⟨rfl, Below.refl _ _⟩
  have hcode := codeAt_of hk (by omega) hi hw
  have Hcode := Lib.hid hcode; clear hcode hi hw
  have Hs := Lib.hid hs; clear hs
  go_enter Tryz.func3, Tryz.ntmps3
  go_wp2_with fail
  refine (spec_DrawOrderSlots a cap zs w Hcode.out).mono ?_
  rintro e w1 ⟨ac, cc, c, vg, g, fp, al, cl, ls, rfl, hoc, hcl, hgr, hfp, hgl, hps, hol, hll, hb1⟩
  have hcc := hoc.cap
  have hlc := hol.cap
  obtain ⟨ag, cg, rfl⟩ := hgr.slice
  have Hps := Lib.hid (show ∀ x ∈ g, x.ps.length ≤ 1099511627776 from fun x hx => Nat.le_trans (hps x hx) (by omega)); clear hps
  have Hb1 := Lib.hid hb1
  have HS := Lib.hid (Hs.out.below hb1)
  have Hc := Lib.hid hoc.at; have Hl := Lib.hid hol.at; have Hg := Lib.hid hgr
  clear hoc hol hgr hb1 hfp Hs
  go_wp2_with fail
  refine (impl_OrderSlots ac cc c g (.slice ag g.length cg) fp al cl ls eN eI w1 (by omega) (by omega) Hps.out (by omega) Hc.out Hg.out Hl.out HS.out).mono ?_
  rintro e w2 ⟨uo, rfl, hoo, hb⟩
  obtain ⟨ao, co, fo, rfl, hcpo, hso⟩ := sls_of hoo
  have Ho := Lib.hid hso
  clear hoo hso
  have Hc := Lib.hid (show IntsAt w2 ac c from Hc.out.below hb)
  have Hl := Lib.hid (show IntsAt w2 al ls from Hl.out.below hb)
  have Hg := Lib.hid (show Gr w2 g (.slice ag g.length cg) fp from Hg.out.under hb)
  have HS := Lib.hid (show Sen w2 eN eI from HS.out.below hb)
  have Hb2 := Lib.hid (below_step Hb1.out Hb1.out.size hb)
  clear hb
  go_wp2_with fail
  refine (spec_OrderSlots ac cc c g (.slice ag g.length cg) fp al cl ls w2 (by omega) (by omega) Hps.out (by omega) Hc.out Hg.out Hl.out).mono ?_
  rintro e w3 ⟨uw, rfl, how, hb⟩
  obtain ⟨aw, cw, fw, rfl, hcpw, hsw⟩ := sls_of how
  have Hw := Lib.hid hsw
  clear how hsw
  have Hc := Lib.hid (show IntsAt w3 ac c from Hc.out.below hb)
  have Hl := Lib.hid (show IntsAt w3 al ls from Hl.out.below hb)
  have Hg := Lib.hid (show Gr w3 g (.slice ag g.length cg) fp from Hg.out.under hb)
  have HS := Lib.hid (show Sen w3 eN eI from HS.out.below hb)
  have Ho := Lib.hid (show Sls w3 (osS c g ls) (.slice ao (osS c g ls).length co) fo from Ho.out.under hb)
  have Hb3 := Lib.hid (below_step Hb2.out Hb2.out.size hb)
  clear hb
  have hO := Nat.le_trans (Nat.le_of_eq (osS_len c g ls)) (osI_len (c := c) (ls := ls) Hps.out)
  have HSS := Lib.hid (laws_sameSlots (osS c g ls) (osS c g ls) ao aw co cw fo fw w3 (by omega) (by omega) Ho.out Hw.out)
  rw [decide_eq_true rfl] at HSS
  go_wp2_with fail
  refine (HSS.out).mono ?_
  rintro e w4 ⟨rfl, hd⟩
  have hb : Below w3.heap.size w3 w4 := hd.below _
  clear hd
  have Hc := Lib.hid (show IntsAt w4 ac c from Hc.out.below hb)
  have Hl := Lib.hid (show IntsAt w4 al ls from Hl.out.below hb)
  have Hg := Lib.hid (show Gr w4 g (.slice ag g.length cg) fp from Hg.out.under hb)
  have HS := Lib.hid (show Sen w4 eN eI from HS.out.below hb)
  have Ho := Lib.hid (show Sls w4 (osS c g ls) (.slice ao (osS c g ls).length co) fo from Ho.out.under hb)
  have Hw := Lib.hid (show Sls w4 (osS c g ls) (.slice aw (osS c g ls).length cw) fw from Hw.out.under hb)
  have Hb4 := Lib.hid (below_step Hb3.out Hb3.out.size hb)
  clear hb
  clear Hw
  have HOn := Lib.hid (fun m x y => os_asc' (c := c) (g := g) (ls := ls) (m := m) (x := x) (y := y) Hps.out)
  have HOW := Lib.hid (fun W (hb : Below w4.heap.size w4 W) (sr sa : Int) => impl_OrderWave ac cc c g (.slice ag g.length cg) fp al cl ls sr sa eN eI W (by omega) (by omega) Hps.out (by omega) (Hc.out.below hb) (Hg.out.under hb) (Hl.out.below hb) (HS.out.below hb))
  have hOL : (osS c g ls).length ≤ 281 := by omega
  generalize osS c g ls = OL at *
  generalize owZ c g ls = OZ at *
  go_wp2
  go_loopw [8, 9, 10] (fun i _ _ wr => ∃ m : Nat, 1 ≤ m ∧ m ≤ OL.length + 1 ∧ i = .int .i64 m ∧ Below w4.heap.size w4 wr) (fun i _ _ _ => OL.length + 1 - (intOf i).toNat)
  case atStart => exact ⟨1, by omega, by omega, rfl, Below.refl _ _⟩
  case round =>
    obtain ⟨m, hm1, hm, rfl, hb⟩ := hrel
    have Hbr := Lib.hid hb
    by_cases hlt : m < OL.length
    · obtain ⟨q, rfl⟩ : ∃ q, m = q + 1 := ⟨m - 1, by omega⟩
      have hlt' : (q : Int) + 1 < (OL.length : Int) := by omega
      have hq0 : 0 ≤ (q : Int) + 1 := by omega
      have hqn : ((q : Int) + 1).toNat = q + 1 := by omega
      have Hor := Lib.hid (Ho.out.under hb)
      obtain ⟨bo, oo, rfl, hbo, hat⟩ := Hor.out.at (by omega)
      obtain ⟨c0, c1⟩ := hat q (by omega)
      obtain ⟨d0, d1⟩ := hat (q + 1) (by omega)
      have hall := HOn.out q OL[q] OL[q + 1] (List.getElem?_eq_getElem (by omega)) (List.getElem?_eq_getElem (by omega))
      have HAx := Lib.hid (fun W hb => HOW.out W hb OL[q].1 OL[q].2)
      have HAy := Lib.hid (fun W hb => HOW.out W hb OL[q + 1].1 OL[q + 1].2)
      clear hat hb Hor
      generalize hx : OL[q] = x at *
      generalize hy : OL[q + 1] = y at *
      obtain ⟨xr, xa⟩ := x
      obtain ⟨yr, ya⟩ := y
      dsimp only at *
      clear hx hy
      have Hall := Lib.hid hall; clear hall
      generalize OZ xr xa = A at *
      generalize OZ yr ya = B at *
      have e1 : IntKind.i64.wrap (q : Int) = q := IntWalk.i64_in _ (by omega)
      have e2 : IntKind.i64.wrap ((q : Int) + 1 - 1) = q := by rw [IntWalk.i64_in _ (by omega)]; omega
      have hq1 : q < OL.length := by omega
      have hq1' : (q : Int) < (OL.length : Int) := by omega
      go_wp2_with fail
      refine (HAx.out _ Hbr.out).mono ?_
      rintro e w6 ⟨rfl, hb⟩
      have Hb6 := Lib.hid (below_step Hbr.out Hbr.out.size hb)
      have c0 := (hb.cell (p := ⟨bo, oo + q * 2, none⟩) hbo).trans c0
      have c1 := (hb.cell (p := ⟨bo, oo + q * 2 + 1, none⟩) hbo).trans c1
      have d0 := (hb.cell (p := ⟨bo, oo + (q + 1) * 2, none⟩) hbo).trans d0
      have d1 := (hb.cell (p := ⟨bo, oo + (q + 1) * 2 + 1, none⟩) hbo).trans d1
      have hbo := Nat.lt_of_lt_of_le hbo hb.size
      clear hb
      go_wp2_with fail
      refine (HAy.out _ Hb6.out).mono ?_
      rintro e w7 ⟨rfl, hb⟩
      have Hb7 := Lib.hid (below_step Hb6.out Hb6.out.size hb)
      have c0 := (hb.cell (p := ⟨bo, oo + q * 2, none⟩) hbo).trans c0
      have c1 := (hb.cell (p := ⟨bo, oo + q * 2 + 1, none⟩) hbo).trans c1
      have d0 := (hb.cell (p := ⟨bo, oo + (q + 1) * 2, none⟩) hbo).trans d0
      have d1 := (hb.cell (p := ⟨bo, oo + (q + 1) * 2 + 1, none⟩) hbo).trans d1
      clear hb
      obtain ⟨hAB, hEQ⟩ := Hall.out
      clear Hall
      have hg1 : decide (B < A) = false := decide_eq_false (by omega)
      by_cases hab : A = B
      · obtain ⟨h1, h2⟩ := hEQ hab
        subst hab
        have hg2 : decide (yr < xr) = false := decide_eq_false (by omega)
        by_cases hr : xr = yr
        · have hg3 : decide (ya ≤ xa) = false := decide_eq_false (by have := h2 hr; omega)
          subst hr
          clear h1 h2 hAB hEQ
          go_wp2_with fail
          go_quiet (fail)
          set_option maxRecDepth 8000 in go_wp2
          go_roundw
          case rel => exact ⟨q + 1 + 1, by omega, by omega, by go_num, below_step Hb7.out Hb7.out.size (below_drewN (Below.refl _ _) _)⟩
          case measure => simp [intOf]; omega
        · have hr' : (xr == yr) = false := by rw [beq_eq_false_iff_ne]; exact hr
          clear h1 h2 hr hAB hEQ
          go_wp2_with fail
          go_quiet (fail)
          set_option maxRecDepth 8000 in go_wp2
          go_roundw
          case rel => exact ⟨q + 1 + 1, by omega, by omega, by go_num, below_step Hb7.out Hb7.out.size (below_drewN (Below.refl _ _) _)⟩
          case measure => simp [intOf]; omega
      · have hab' : (A == B) = false := by rw [beq_eq_false_iff_ne]; exact hab
        clear hab hAB hEQ
        go_wp2_with fail
        go_quiet (fail)
        set_option maxRecDepth 8000 in go_wp2
        go_roundw
        case rel => exact ⟨q + 1 + 1, by omega, by omega, by go_num, below_step Hb7.out Hb7.out.size (below_drewN (Below.refl _ _) _)⟩
        case measure => simp [intOf]; omega
    · clear hb
      go_wp2
      go_ret
      exact ⟨rfl, below_step Hb4.out Hb4.out.size Hbr.out⟩

theorem fnOrderWaves_own : ownKnob Tryz.prog.godebug = none := by kernel_rfl
theorem fnOrderWaves_laidOut : laidOutB Tryz.prog = true := by kernel_rfl

set_option maxRecDepth 8000 in
theorem fnOrderWaves_lifted (os : Os) (started : os.Started) (H : Type) (enc : TypeId × Value → H) :
    ReturnsInHanded {} Tryz.checked os 3 .any (fun w args => (Rows.fnOrderWavesSpec.pre enc Tryz.prog Tryz.f3 [] false w args ∧ laidMetH Tryz.prog laidE w) ∧ sizedMet enc Tryz.prog Tryz.f3 (OpenSpec.ofChange Rows.fnOrderWavesSpec) false w args) (Rows.fnOrderWavesSpec.post enc Tryz.prog Tryz.f3 false true false false) := by
  refine law_lifted_tied (C := Tryz.checked) (tb := 4) laidE fnOrderWaves_own fnOrderWaves_laidOut started (by kernel_rfl) Tryz.func3 rfl Tryz.underlying4 (by kernel_rfl) (by rw [Tryz.params3]; exact of_decide_eq_true (by kernel_rfl)) ?_
    (ChangeSpec.witness_shaped (enc := enc) (C := Tryz.checked) (os := os) (X := fun w _ => laidMetH Tryz.prog laidE w) false (World.laidAll Tryz.prog os laidE) #[.slice none 0 0] 8 (World.laidAll_os _ _ _) (World.shaped_of_ZipB (by kernel_rfl) (by kernel_rfl)) (by kernel_rfl) (by kernel_rfl) (by kernel_rfl) (laid_witness os _)) ?_
  · intro ds gs hds hgs
    rw [Tryz.params3] at hds
    match ds, hds, gs, hgs with
    | [d0], _, [g0, g1], _ => rfl
  · intro W base args ds p hval0 hA0 hL0
    have hval : ∀ (j : Nat) t v, Tryz.f3.params[j]? = some t → args[j]? = some v → Value.okWide Tryz.prog W .any base t v := hval0
    have hA : DataW.TrodAll enc Tryz.prog W 0 (fun _ => true) true Tryz.f3.params.toList args.toList ds p := hA0
    rw [Tryz.params3] at hA hval
    obtain ⟨v0, vs0, d0, ds0, p0, q0, hargs0, rfl, rfl, h0, r0⟩ := trodAll_cons hA
    obtain ⟨hnil, rfl, rfl⟩ := trodAll_nil r0
    subst hnil
    obtain rfl : args = #[v0] := by cases args; simp_all
    obtain ⟨a0, cap0, zs0, rfl, hk0, hm0, hi0, hw0⟩ := open_slice_ints Tryz.underlying22 Tryz.underlying5 (by kernel_rfl) (hval 0 22 v0 rfl rfl) h0
    obtain ⟨eN, eI, hS⟩ := sen_of hL0
    exact fnOrderWaves_walk a0 cap0 zs0 W hk0 hm0 hi0 hw0 eN eI hS

set_option maxRecDepth 8000 in
theorem fnOrderWaves_holds : Rows.FnOrderWavesSaid :=
  OpenClaim.holds_of_wide 3 Tryz.f3 rfl rfl rfl rfl rfl rfl rfl ⟨rfl, rfl, rfl, rfl, rfl⟩ rfl rfl rfl rfl rfl (by kernel_rfl) Tryz.func3 (by kernel_rfl)
    (of_decide_eq_true (by kernel_rfl)) (by unfold Func.isWrapper; first | (rw [if_pos (by decide +kernel)]; kernel_rfl) | (rw [if_neg (by decide +kernel)]; exact ⟨rfl, rfl⟩))
    (fun os started H enc _ => fnOrderWaves_lifted os started H enc)

theorem fnOrderWaves_card : Rows.FnOrderWavesCardSaid :=
  Claim7.holds_tied_plain_at .later [] _ _ _ _ fnOrderWaves_holds (fun _ h => by cases h) (by kernel_rfl) (fun _ h => by cases h) fnOrderWaves_row_tie rfl ⟨rfl, rfl⟩ (by kernel_rfl) rfl
    (plain_of (f0 := 3) (fn0 := Tryz.f3) (ts := [22]) (by kernel_rfl) Tryz.func3 (by rw [Tryz.params3]) (by kernel_rfl) (by kernel_rfl)) (by kernel_rfl)

end Go.Proofs.YtjaacdapibokiabGreatDoor
