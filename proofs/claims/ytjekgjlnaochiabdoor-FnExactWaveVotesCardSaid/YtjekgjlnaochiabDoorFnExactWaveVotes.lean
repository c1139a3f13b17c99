/- The exact law of WaveVotes holds at every argument; no conditions of our own. -/
import Derived.Test.YtjekgjlnaochiabDoorRows
import Derived.Test.YtjekgjlnaochiabDoorBu0
import Derived.Test.YtjekgjlnaochiabDoorBu1
import Derived.Test.YtjekgjlnaochiabDoorBu3
namespace Go.Proofs.YtjekgjlnaochiabDoor
open Go.ChangeShapes Go.WideShapes Go.ChangeAt Go.RowKit

set_option maxHeartbeats 2000000 in
theorem fnExactWaveVotes_walk (ac : Option Addr) (capc : Nat) (xc : List Int) (vg : Value) (esg : List (List Fd)) (fpg : List Nat) (al : Option Addr) (capl : Nat) (xl : List Int) (x : Int) (w : World) (_hkc : xc.length ≤ capc) (hmc : xc.length ≤ maxLen) (hic : IntsAt w ac xc) (_hwc : ∀ z ∈ xc, (Lit.int .i64 z).wf = true) (hrg : Rd w (rowsD esg) vg fpg) (hmg : esg.length ≤ maxLen) (hpg : ∀ e ∈ esg, vertexP e ∧ fitE e) (_hkl : xl.length ≤ capl) (hml : xl.length ≤ maxLen) (hil : IntsAt w al xl) (_hwl : ∀ z ∈ xl, (Lit.int .i64 z).wf = true) (_hx : -9223372036854775808 ≤ x ∧ x ≤ 9223372036854775807) (eN eI : Addr) (hs : Sen w eN eI) :
    Calls Tryd.prog 7 #[.slice ac xc.length capc, vg, .slice al xl.length capl, .int .i64 x] w fun e w' => e = .returned (.bool true) ∧ Below w.heap.size w w' := by
  have Hs := Lib.hid hs; clear hs
  unfold maxLen at hmc
  unfold maxLen at hmg
  unfold maxLen at hml
  obtain ⟨_hx1, _hx2⟩ := _hx
  by_cases hlc : xc.length ≤ 1048576
  case neg =>
    go_enter Tryd.func7, Tryd.ntmps7
    go_wp2
    go_ret
    exact ⟨rfl, Below.refl _ _⟩
  by_cases hll : xl.length ≤ 1048576
  case neg =>
    go_enter Tryd.func7, Tryd.ntmps7
    go_wp2
    go_ret
    exact ⟨rfl, Below.refl _ _⟩
  have Hic := Lib.hid hic; clear hic
  have Hil := Lib.hid hil; clear hil
  have Hrg := Lib.hid hrg; clear hrg
  have hpg1 : ∀ e ∈ esg, vertexP e := fun e he => (hpg e he).1
  have Hfg := Lib.hid (fun e he => (hpg e he).2); clear hpg
  have Hb0 := Lib.hid (Below.refl w.heap.size w)
  have Hszg := Lib.hid (fun w (hr : Rd w (rowsD esg) vg fpg) => laws_szVertexSR esg vg fpg (1048576) w (by omega) (by omega) hpg1 (fun e he xs hx => by have := ((Hfg.out e he).2 xs hx).1; unfold maxLen at this; omega) hr)
  go_enter Tryd.func7, Tryd.ntmps7
  go_wp2_with fail
  refine (Hszg.out _ (Hrg.out.under Hb0.out)).mono ?_
  rintro e w1 ⟨rfl, hb1⟩
  have Hb1 := Lib.hid (below_step Hb0.out Hb0.out.size hb1)
  have hz1 := (hb1).size
  have hklg := kTo_bd (vertexP_len hpg1) 1 esg.length (Nat.le_refl _)
  clear hklg
  by_cases hlg : esg.length + lnTo esg esg.length ≤ 1048576
  case neg =>
    rw [if_neg hlg]
    go_wp2
    go_ret
    exact ⟨rfl, Hb1.out⟩
  rw [if_pos hlg]
  have hnegg : decide ((((1048576 - esg.length - lnTo esg esg.length : Nat)) : Int) < 0) = false := decide_eq_false (by omega)
  have hngeg : ¬ (((1048576 - esg.length - lnTo esg esg.length : Nat) : Int) < 0) := by omega
  have hing := lnTo_in (es := esg) (m := 1048576) (by omega)
  have hkbg := fun k => kTo_bd (vertexP_len hpg1) k esg.length (Nat.le_refl _)
  have Hlng := Lib.hid (show ∀ e ∈ esg, lnE e ≤ 1099511627776 from fun e he => Nat.le_trans (hing e he) (by omega))
  obtain ⟨g, rfl⟩ := rows_vx hpg1
  have hL : (g.map Vx.fd).length = g.length := by simp
  have hlg' : ∀ x ∈ g, x.ps.length ≤ 1048576 := vx_lens hing
  have hP : ∀ x ∈ g, x.ps.length ≤ 1099511627776 := fun x hx => Nat.le_trans (hlg' x hx) (by omega)
  have Hspec := Lib.hid (fun ac cc vg fg al cl W (_hcc : xc.length ≤ cc) (h : IntsAt W ac xc) (h' : Rd W (rowsD (g.map Vx.fd)) vg fg) (_hlc : xl.length ≤ cl) (h'' : IntsAt W al xl) => spec_WaveVotes ac cc xc g vg fg al cl xl x W (by omega) (by omega) hP (by omega) h h' h'')
  have Himpl := Lib.hid (fun ac cc vg fg al cl W (hcc : xc.length ≤ cc) (h : IntsAt W ac xc) (h' : Rd W (rowsD (g.map Vx.fd)) vg fg) (hlc : xl.length ≤ cl) (h'' : IntsAt W al xl) (hb : Below w.heap.size w W) => impl_WaveVotes ac cc xc g vg fg al cl xl x eN eI W (by omega) (by omega) hP (by omega) hcc h h' hlc h'' (Hs.out.below hb))
  generalize wvZ xc g xl x = N at *
  clear hP hlg' hL
  generalize g.map Vx.fd = esg at *
  have Hing := Lib.hid hing; clear hing
  have Hkbg := Lib.hid hkbg; clear hkbg
  have Hpg := Lib.hid hpg1; clear hpg1
  go_wp2_with fail
  refine (laws_toIntS ac capc xc _ (by omega) (Hic.out.below Hb1.out)).mono ?_
  rintro e w2 ⟨vcs, rfl, hocs, hb2⟩
  have Hb2 := Lib.hid (below_step Hb1.out Hb1.out.size hb2)
  have hz2 := (hb2).size
  have Hcs := Lib.hid (OwnI.of hocs); clear hocs
  obtain ⟨acs, ccs, rfl, _, _⟩ := Hcs.out.ints
  have hccs := Hcs.out.cap
  have hhcs : w1.heap.size ≤ w1.heap.size := Nat.le_refl _
  have hjcs : w2.heap.size ≤ w2.heap.size := Nat.le_refl _
  go_wp2_with fail
  refine (laws_toVertexSR esg vg fpg _ (by omega) Hpg.out Hing.out (Hrg.out.under Hb2.out)).mono ?_
  rintro e w3 ⟨vgs, rfl, hogs, hb3⟩
  have Hb3 := Lib.hid (below_step Hb2.out Hb2.out.size hb3)
  have Hcs := Lib.hid (Hcs.out.below hb3)
  have hz3 := (hb3).size
  have Hgs := Lib.hid hogs; clear hogs
  have hhgs : w2.heap.size ≤ w2.heap.size := Nat.le_refl _
  have hjgs : w3.heap.size ≤ w3.heap.size := Nat.le_refl _
  go_wp2_with fail
  refine (laws_toIntS al capl xl _ (by omega) (Hil.out.below Hb3.out)).mono ?_
  rintro e w4 ⟨vls, rfl, hols, hb4⟩
  have Hb4 := Lib.hid (below_step Hb3.out Hb3.out.size hb4)
  have Hcs := Lib.hid (Hcs.out.below hb4)
  have Hgs := Lib.hid (Hgs.out.below hb4 (by omega))
  have hz4 := (hb4).size
  have Hls := Lib.hid (OwnI.of hols); clear hols
  obtain ⟨als, cls, rfl, _, _⟩ := Hls.out.ints
  have hcls := Hls.out.cap
  have hhls : w3.heap.size ≤ w3.heap.size := Nat.le_refl _
  have hjls : w4.heap.size ≤ w4.heap.size := Nat.le_refl _
  obtain ⟨fgs, hrgs⟩ := Hgs.out.reads
  go_wp2_with fail
  refine (Hspec.out acs ccs vgs fgs als cls _ hccs Hcs.out.at hrgs hcls Hls.out.at).mono ?_
  rintro e w5 ⟨rfl, hb5⟩
  have Hb5 := Lib.hid (below_step Hb4.out Hb4.out.size hb5)
  have Hcs := Lib.hid (Hcs.out.below hb5)
  have Hgs := Lib.hid (Hgs.out.below hb5 (by omega))
  have Hls := Lib.hid (Hls.out.below hb5)
  have hz5 := (hb5).size
  clear hrgs
  clear Hcs
  clear Hgs
  clear Hls
  go_wp2_with fail
  refine (laws_toIntS ac capc xc _ (by omega) (Hic.out.below Hb5.out)).mono ?_
  rintro e w6 ⟨vcx, rfl, hocx, hb6⟩
  have Hb6 := Lib.hid (below_step Hb5.out Hb5.out.size hb6)
  have hz6 := (hb6).size
  have Hcx := Lib.hid (OwnI.of hocx); clear hocx
  obtain ⟨acx, ccx, rfl, _, _⟩ := Hcx.out.ints
  have hccx := Hcx.out.cap
  have hhcx : w5.heap.size ≤ w5.heap.size := Nat.le_refl _
  have hjcx : w6.heap.size ≤ w6.heap.size := Nat.le_refl _
  go_wp2_with fail
  refine (laws_toVertexSR esg vg fpg _ (by omega) Hpg.out Hing.out (Hrg.out.under Hb6.out)).mono ?_
  rintro e w7 ⟨vgx, rfl, hogx, hb7⟩
  have Hb7 := Lib.hid (below_step Hb6.out Hb6.out.size hb7)
  have Hcx := Lib.hid (Hcx.out.below hb7)
  have hz7 := (hb7).size
  have Hgx := Lib.hid hogx; clear hogx
  have hhgx : w6.heap.size ≤ w6.heap.size := Nat.le_refl _
  have hjgx : w7.heap.size ≤ w7.heap.size := Nat.le_refl _
  go_wp2_with fail
  refine (laws_toIntS al capl xl _ (by omega) (Hil.out.below Hb7.out)).mono ?_
  rintro e w8 ⟨vlx, rfl, holx, hb8⟩
  have Hb8 := Lib.hid (below_step Hb7.out Hb7.out.size hb8)
  have Hcx := Lib.hid (Hcx.out.below hb8)
  have Hgx := Lib.hid (Hgx.out.below hb8 (by omega))
  have hz8 := (hb8).size
  have Hlx := Lib.hid (OwnI.of holx); clear holx
  obtain ⟨alx, clx, rfl, _, _⟩ := Hlx.out.ints
  have hclx := Hlx.out.cap
  have hhlx : w7.heap.size ≤ w7.heap.size := Nat.le_refl _
  have hjlx : w8.heap.size ≤ w8.heap.size := Nat.le_refl _
  obtain ⟨fgx, hrgx⟩ := Hgx.out.reads
  go_wp2_with fail
  refine (Himpl.out acx ccx vgx fgx alx clx _ hccx Hcx.out.at hrgx hclx Hlx.out.at Hb8.out).mono ?_
  rintro e w9 ⟨rfl, hb9⟩
  have Hb9 := Lib.hid (below_step Hb8.out Hb8.out.size hb9)
  have Hcx := Lib.hid (Hcx.out.below hb9)
  have Hgx := Lib.hid (Hgx.out.below hb9 (by omega))
  have Hlx := Lib.hid (Hlx.out.below hb9)
  have hz9 := (hb9).size
  clear hrgx
  go_wp2_with fail
  refine (laws_toIntS ac capc xc _ (by omega) (Hic.out.below Hb9.out)).mono ?_
  rintro e w10 ⟨vcy, rfl, hocy, hb10⟩
  have Hb10 := Lib.hid (below_step Hb9.out Hb9.out.size hb10)
  have Hcx := Lib.hid (Hcx.out.below hb10)
  have Hgx := Lib.hid (Hgx.out.below hb10 (by omega))
  have Hlx := Lib.hid (Hlx.out.below hb10)
  have hz10 := (hb10).size
  have Hcy := Lib.hid (OwnI.of hocy); clear hocy
  obtain ⟨acy, ccy, rfl, _, _⟩ := Hcy.out.ints
  have hccy := Hcy.out.cap
  have hhcy : w9.heap.size ≤ w9.heap.size := Nat.le_refl _
  have hjcy : w10.heap.size ≤ w10.heap.size := Nat.le_refl _
  go_wp2_with fail
  refine (laws_eqIntS' acx acy ccx ccy xc w10 (by omega) Hcx.out.at Hcy.out.at).mono ?_
  rintro e w11 ⟨rfl, hb11⟩
  have Hb11 := Lib.hid (below_step Hb10.out Hb10.out.size (hb11.below w10.heap.size))
  have Hcx := Lib.hid (Hcx.out.below (hb11.below w10.heap.size))
  have Hgx := Lib.hid (Hgx.out.below (hb11.below w10.heap.size) (by omega))
  have Hlx := Lib.hid (Hlx.out.below (hb11.below w10.heap.size))
  have Hcy := Lib.hid (Hcy.out.below (hb11.below w10.heap.size))
  have hz11 := ((hb11.below w10.heap.size)).size
  clear Hcy
  go_wp2_with fail
  refine (laws_toVertexSR esg vg fpg _ (by omega) Hpg.out Hing.out (Hrg.out.under Hb11.out)).mono ?_
  rintro e w12 ⟨vgy, rfl, hogy, hb12⟩
  have Hb12 := Lib.hid (below_step Hb11.out Hb11.out.size hb12)
  have Hcx := Lib.hid (Hcx.out.below hb12)
  have Hgx := Lib.hid (Hgx.out.below hb12 (by omega))
  have Hlx := Lib.hid (Hlx.out.below hb12)
  have hz12 := (hb12).size
  have Hgy := Lib.hid hogy; clear hogy
  have hhgy : w11.heap.size ≤ w11.heap.size := Nat.le_refl _
  have hjgy : w12.heap.size ≤ w12.heap.size := Nat.le_refl _
  obtain ⟨fgx, hrgx⟩ := Hgx.out.reads
  obtain ⟨fgy, hrgy⟩ := Hgy.out.reads
  go_wp2_with fail
  refine (laws_eqVertexSR esg _ _ fgx fgy w12 (by omega) Hpg.out Hlng.out hrgx hrgy).mono ?_
  rintro e w13 ⟨rfl, hb13⟩
  have Hb13 := Lib.hid (below_step Hb12.out Hb12.out.size hb13)
  have Hcx := Lib.hid (Hcx.out.below hb13)
  have Hgx := Lib.hid (Hgx.out.below hb13 (by omega))
  have Hlx := Lib.hid (Hlx.out.below hb13)
  have Hgy := Lib.hid (Hgy.out.below hb13 (by omega))
  have hz13 := (hb13).size
  clear hrgx hrgy
  clear Hgy
  go_wp2_with fail
  refine (laws_toIntS al capl xl _ (by omega) (Hil.out.below Hb13.out)).mono ?_
  rintro e w14 ⟨vly, rfl, holy, hb14⟩
  have Hb14 := Lib.hid (below_step Hb13.out Hb13.out.size hb14)
  have Hcx := Lib.hid (Hcx.out.below hb14)
  have Hgx := Lib.hid (Hgx.out.below hb14 (by omega))
  have Hlx := Lib.hid (Hlx.out.below hb14)
  have hz14 := (hb14).size
  have Hly := Lib.hid (OwnI.of holy); clear holy
  obtain ⟨aly, cly, rfl, _, _⟩ := Hly.out.ints
  have hcly := Hly.out.cap
  have hhly : w13.heap.size ≤ w13.heap.size := Nat.le_refl _
  have hjly : w14.heap.size ≤ w14.heap.size := Nat.le_refl _
  go_wp2_with fail
  refine (laws_eqIntS' alx aly clx cly xl w14 (by omega) Hlx.out.at Hly.out.at).mono ?_
  rintro e w15 ⟨rfl, hb15⟩
  have Hb15 := Lib.hid (below_step Hb14.out Hb14.out.size (hb15.below w14.heap.size))
  have Hcx := Lib.hid (Hcx.out.below (hb15.below w14.heap.size))
  have Hgx := Lib.hid (Hgx.out.below (hb15.below w14.heap.size) (by omega))
  have Hlx := Lib.hid (Hlx.out.below (hb15.below w14.heap.size))
  have Hly := Lib.hid (Hly.out.below (hb15.below w14.heap.size))
  have hz15 := ((hb15.below w14.heap.size)).size
  clear Hly
  go_wp2
  go_ret
  exact ⟨by first | rfl | exact ret_bool (by simp), Hb15.out⟩

theorem fnExactWaveVotes_own : ownKnob Tryd.prog.godebug = none := by kernel_rfl
theorem fnExactWaveVotes_laidOut : laidOutB Tryd.prog = true := by kernel_rfl

set_option maxRecDepth 8000 in
theorem fnExactWaveVotes_lifted (os : Os) (started : os.Started) (H : Type) (enc : TypeId × Value → H) :
    ReturnsInHanded {} Tryd.checked os 7 .any (fun w args => (Rows.fnExactWaveVotesSpec.pre enc Tryd.prog Tryd.f7 [] false w args ∧ laidMetH Tryd.prog laidE w) ∧ sizedMet enc Tryd.prog Tryd.f7 (OpenSpec.ofChange Rows.fnExactWaveVotesSpec) false w args) (Rows.fnExactWaveVotesSpec.post enc Tryd.prog Tryd.f7 false true false false) := by
  refine law_lifted_tied (C := Tryd.checked) (tb := 4) laidE fnExactWaveVotes_own fnExactWaveVotes_laidOut started (by kernel_rfl) Tryd.func7 rfl Tryd.underlying4 (by kernel_rfl) (by rw [Tryd.params7]; exact of_decide_eq_true (by kernel_rfl)) ?_
    (ChangeSpec.witness_shaped (enc := enc) (C := Tryd.checked) (os := os) (X := fun w _ => laidMetH Tryd.prog laidE w) false (World.laidAll Tryd.prog os laidE) #[.slice none 0 0, .slice none 0 0, .slice none 0 0, .int .i64 0] 8 (World.laidAll_os _ _ _) (World.shaped_of_ZipB (by kernel_rfl) (by kernel_rfl)) (by kernel_rfl) (by kernel_rfl) (by kernel_rfl) (laid_witness os _)) ?_
  · intro ds gs hds hgs
    rw [Tryd.params7] at hds
    match ds, hds, gs, hgs with
    | [d0, d1, d2, d3], _, [g0, g1], _ => rfl
  · intro W base args ds p hval0 hA0 hL0
    have hval : ∀ (j : Nat) t v, Tryd.f7.params[j]? = some t → args[j]? = some v → Value.okWide Tryd.prog W .any base t v := hval0
    have hA : DataW.TrodAll enc Tryd.prog W 0 (fun _ => true) true Tryd.f7.params.toList args.toList ds p := hA0
    rw [Tryd.params7] at hA hval
    obtain ⟨v0, vs0, d0, ds0, p0, q0, hargs0, rfl, rfl, h0, r0⟩ := trodAll_cons hA
    obtain ⟨v1, vs1, d1, ds1, p1, q1, hargs1, rfl, rfl, h1, r1⟩ := trodAll_cons r0
    obtain ⟨v2, vs2, d2, ds2, p2, q2, hargs2, rfl, rfl, h2, r2⟩ := trodAll_cons r1
    obtain ⟨v3, vs3, d3, ds3, p3, q3, hargs3, rfl, rfl, h3, r3⟩ := trodAll_cons r2
    obtain ⟨hnil, rfl, rfl⟩ := trodAll_nil r3
    subst hnil
    subst hargs3
    subst hargs2
    subst hargs1
    obtain rfl : args = #[v0, v1, v2, v3] := by cases args; simp_all
    obtain ⟨a0, cap0, zs0, rfl, hk0, hm0, hi0, hw0⟩ := open_slice_ints Tryd.underlying23 Tryd.underlying3 (by kernel_rfl) (hval 0 23 v0 rfl rfl) h0
    obtain ⟨es1, fp1, hr1, hm1, hp1⟩ := open_VertexS (hval 1 32 v1 rfl rfl) h1
    obtain ⟨a2, cap2, zs2, rfl, hk2, hm2, hi2, hw2⟩ := open_slice_ints Tryd.underlying23 Tryd.underlying3 (by kernel_rfl) (hval 2 23 v2 rfl rfl) h2
    obtain ⟨n3, rfl, _, _, hw3⟩ := open_int Tryd.underlying3 (hval 3 3 v3 rfl rfl) h3
    obtain ⟨eN, eI, hS⟩ := sen_of hL0
    exact fnExactWaveVotes_walk a0 cap0 zs0 v1 es1 fp1 a2 cap2 zs2 n3 W hk0 hm0 hi0 hw0 hr1 hm1 hp1 hk2 hm2 hi2 hw2 (wf_i64 hw3) eN eI hS

set_option maxRecDepth 8000 in
theorem fnExactWaveVotes_holds : Rows.FnExactWaveVotesSaid :=
  OpenClaim.holds_of_wide 7 Tryd.f7 rfl rfl rfl rfl rfl rfl rfl ⟨rfl, rfl, rfl, rfl, rfl⟩ rfl rfl rfl rfl rfl (by kernel_rfl) Tryd.func7 (by kernel_rfl)
    (of_decide_eq_true (by kernel_rfl)) (by unfold Func.isWrapper; first | (rw [if_pos (by decide +kernel)]; kernel_rfl) | (rw [if_neg (by decide +kernel)]; exact ⟨rfl, rfl⟩))
    (fun os started H enc _ => fnExactWaveVotes_lifted os started H enc)

theorem fnExactWaveVotes_card : Rows.FnExactWaveVotesCardSaid :=
  Claim7.holds_tied_plain_at .later [] _ _ _ _ fnExactWaveVotes_holds (fun _ h => by cases h) (by kernel_rfl) (fun _ h => by cases h) fnExactWaveVotes_row_tie rfl ⟨rfl, rfl⟩ (by kernel_rfl) rfl
    (plain_of (f0 := 7) (fn0 := Tryd.f7) (ts := [23, 32, 23, 3]) (by kernel_rfl) Tryd.func7 (by rw [Tryd.params7]) (by kernel_rfl) (by kernel_rfl)) (by kernel_rfl)

end Go.Proofs.YtjekgjlnaochiabDoor
