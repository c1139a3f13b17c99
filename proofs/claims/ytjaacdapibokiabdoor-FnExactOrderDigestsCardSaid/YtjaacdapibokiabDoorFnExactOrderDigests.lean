/- The exact law of OrderDigests holds at every argument; no conditions of our own. -/
import Derived.Test.YtjaacdapibokiabDoorRows
import Derived.Test.YtjaacdapibokiabDoorBu0
import Derived.Test.YtjaacdapibokiabDoorBu1
import Derived.Test.YtjaacdapibokiabDoorBu5
import Derived.Test.YtjaacdapibokiabDoorBu4
namespace Go.Proofs.YtjaacdapibokiabDoor
open Go.ChangeShapes Go.WideShapes Go.ChangeAt Go.RowKit

set_option maxHeartbeats 2000000 in
theorem fnExactOrderDigests_walk (ac : Option Addr) (capc : Nat) (xc : List Int) (vg : Value) (esg : List (List Fd)) (fpg : List Nat) (al : Option Addr) (capl : Nat) (xl : List Int) (w : World) (_hkc : xc.length ≤ capc) (hmc : xc.length ≤ maxLen) (hic : IntsAt w ac xc) (_hwc : ∀ z ∈ xc, (Lit.int .i64 z).wf = true) (hrg : Rd w (rowsD esg) vg fpg) (hmg : esg.length ≤ maxLen) (hpg : ∀ e ∈ esg, vertexP e ∧ fitE e) (_hkl : xl.length ≤ capl) (hml : xl.length ≤ maxLen) (hil : IntsAt w al xl) (_hwl : ∀ z ∈ xl, (Lit.int .i64 z).wf = true) (eN eI : Addr) (hs : Sen w eN eI) :
    Calls Tryd.prog 3 #[.slice ac xc.length capc, vg, .slice al xl.length capl] w fun e w' => e = .returned (.bool true) ∧ Below w.heap.size w w' := by
  have Hs := Lib.hid hs; clear hs
  unfold maxLen at hmc
  unfold maxLen at hmg
  unfold maxLen at hml
  by_cases hlc : xc.length ≤ 1048576
  case neg =>
    go_enter Tryd.func3, Tryd.ntmps3
    go_wp2
    go_ret
    exact ⟨rfl, Below.refl _ _⟩
  by_cases hll : xl.length ≤ 1048576
  case neg =>
    go_enter Tryd.func3, Tryd.ntmps3
    go_wp2
    go_ret
    exact ⟨rfl, Below.refl _ _⟩
  have Hic := Lib.hid hic; clear hic
  have Hil := Lib.hid hil; clear hil
  have Hrg := Lib.hid hrg; clear hrg
  have hpg1 : ∀ e ∈ esg, vertexP e := fun e he => (hpg e he).1
  have Hfg := Lib.hid (fun e he => (hpg e he).2); clear hpg
  have Hb0 := Lib.hid (Below.refl w.heap.size w)
  have Hszg := Lib.hid (fun w (hr : Rd w (rowsD esg) vg fpg) => laws_szVertexSR esg vg fpg (1048576) w (by omega) (by omega) hpg1 (fun e he xs hx => by have := ((Hfg.out e he).2 xs hx).1; unfold maxLen at this; omega) hr)
  go_enter Tryd.func3, Tryd.ntmps3
  go_wp2_with fail
  refine (Hszg.out _ (Hrg.out.under Hb0.out)).mono ?_
  rintro e w1 ⟨rfl, hb1⟩
  have Hb1 := Lib.hid (below_step Hb0.out Hb0.out.size hb1)
  have hz1 := (hb1).size
  have hklg := kTo_bd (vertexP_len hpg1) 1 esg.length (Nat.le_refl _)
  clear hklg
  by_cases hlg : esg.length + lnTo esg esg.length ≤ 1048576
  case neg =>
    rw [if_neg hlg]
    go_wp2
    go_ret
    exact ⟨rfl, Hb1.out⟩
  rw [if_pos hlg]
  have hnegg : decide ((((1048576 - esg.length - lnTo esg esg.length : Nat)) : Int) < 0) = false := decide_eq_false (by omega)
  have hngeg : ¬ (((1048576 - esg.length - lnTo esg esg.length : Nat) : Int) < 0) := by omega
  have hing := lnTo_in (es := esg) (m := 1048576) (by omega)
  have hkbg := fun k => kTo_bd (vertexP_len hpg1) k esg.length (Nat.le_refl _)
  have Hlng := Lib.hid (show ∀ e ∈ esg, lnE e ≤ 1099511627776 from fun e he => Nat.le_trans (hing e he) (by omega))
  obtain ⟨g, rfl⟩ := rows_vx hpg1
  have hL : (g.map Vx.fd).length = g.length := by simp
  have hlg' : ∀ x ∈ g, x.ps.length ≤ 1048576 := vx_lens hing
  have hP : ∀ x ∈ g, x.ps.length ≤ 1099511627776 := fun x hx => Nat.le_trans (hlg' x hx) (by omega)
  have hO2 := Nat.le_trans (osI_len (c := xc) (g := g) (ls := xl) hP) (show g.length ≤ 1048576 by omega)
  rw [← osD_len] at hO2
  have Hspec := Lib.hid (fun ac cc vg fg al cl W (_hcc : xc.length ≤ cc) (h : IntsAt W ac xc) (h' : Rd W (rowsD (g.map Vx.fd)) vg fg) (_hlc : xl.length ≤ cl) (h'' : IntsAt W al xl) => spec_OrderDigests ac cc xc g vg fg al cl xl W (by omega) (by omega) hP (by omega) h h' h'')
  have Himpl := Lib.hid (fun ac cc vg fg al cl W (_hcc : xc.length ≤ cc) (h : IntsAt W ac xc) (h' : Rd W (rowsD (g.map Vx.fd)) vg fg) (_hlc : xl.length ≤ cl) (h'' : IntsAt W al xl) (hb : Below w.heap.size w W) => impl_OrderDigests ac cc xc g vg fg al cl xl eN eI W (by omega) (by omega) hP (by omega) h h' h'' (Hs.out.below hb))
  unfold DigPost at Hspec Himpl
  generalize osD xc g xl = O at *
  clear hP hlg' hL
  generalize g.map Vx.fd = esg at *
  have Hing := Lib.hid hing; clear hing
  have Hkbg := Lib.hid hkbg; clear hkbg
  have Hpg := Lib.hid hpg1; clear hpg1
  go_wp2_with fail
  refine (laws_toIntS ac capc xc _ (by omega) (Hic.out.below Hb1.out)).mono ?_
  rintro e w2 ⟨vcs, rfl, hocs, hb2⟩
  have Hb2 := Lib.hid (below_step Hb1.out Hb1.out.size hb2)
  have hz2 := (hb2).size
  have Hcs := Lib.hid (OwnI.of hocs); clear hocs
  obtain ⟨acs, ccs, rfl, _, _⟩ := Hcs.out.ints
  have hccs := Hcs.out.cap
  have hhcs : w1.heap.size ≤ w1.heap.size := Nat.le_refl _
  have hjcs : w2.heap.size ≤ w2.heap.size := Nat.le_refl _
  go_wp2_with fail
  refine (laws_toVertexSR esg vg fpg _ (by omega) Hpg.out Hing.out (Hrg.out.under Hb2.out)).mono ?_
  rintro e w3 ⟨vgs, rfl, hogs, hb3⟩
  have Hb3 := Lib.hid (below_step Hb2.out Hb2.out.size hb3)
  have Hcs := Lib.hid (Hcs.out.below hb3)
  have hz3 := (hb3).size
  have Hgs := Lib.hid hogs; clear hogs
  have hhgs : w2.heap.size ≤ w2.heap.size := Nat.le_refl _
  have hjgs : w3.heap.size ≤ w3.heap.size := Nat.le_refl _
  go_wp2_with fail
  refine (laws_toIntS al capl xl _ (by omega) (Hil.out.below Hb3.out)).mono ?_
  rintro e w4 ⟨vls, rfl, hols, hb4⟩
  have Hb4 := Lib.hid (below_step Hb3.out Hb3.out.size hb4)
  have Hcs := Lib.hid (Hcs.out.below hb4)
  have Hgs := Lib.hid (Hgs.out.below hb4 (by omega))
  have hz4 := (hb4).size
  have Hls := Lib.hid (OwnI.of hols); clear hols
  obtain ⟨als, cls, rfl, _, _⟩ := Hls.out.ints
  have hcls := Hls.out.cap
  have hhls : w3.heap.size ≤ w3.heap.size := Nat.le_refl _
  have hjls : w4.heap.size ≤ w4.heap.size := Nat.le_refl _
  obtain ⟨fgs, hrgs⟩ := Hgs.out.reads
  go_wp2_with fail
  refine (Hspec.out acs ccs vgs fgs als cls _ hccs Hcs.out.at hrgs hcls Hls.out.at).mono ?_
  rintro e w5 ⟨vw0, rfl, how0, hb5⟩
  have Hb5 := Lib.hid (below_step Hb4.out Hb4.out.size hb5)
  have Hcs := Lib.hid (Hcs.out.below hb5)
  have Hgs := Lib.hid (Hgs.out.below hb5 (by omega))
  have Hls := Lib.hid (Hls.out.below hb5)
  have hz5 := (hb5).size
  have Hw0 := Lib.hid (OwnI.of how0); clear how0
  obtain ⟨aw0, cw0, rfl, _, _⟩ := Hw0.out.ints
  have hcw0 := Hw0.out.cap
  have hhw0 : w4.heap.size ≤ w4.heap.size := Nat.le_refl _
  have hjw0 : w5.heap.size ≤ w5.heap.size := Nat.le_refl _
  clear hrgs
  clear Hcs
  clear Hgs
  clear Hls
  go_wp2_with fail
  refine (laws_toIntS ac capc xc _ (by omega) (Hic.out.below Hb5.out)).mono ?_
  rintro e w6 ⟨vcx, rfl, hocx, hb6⟩
  have Hb6 := Lib.hid (below_step Hb5.out Hb5.out.size hb6)
  have Hw0 := Lib.hid (Hw0.out.below hb6)
  have hz6 := (hb6).size
  have Hcx := Lib.hid (OwnI.of hocx); clear hocx
  obtain ⟨acx, ccx, rfl, _, _⟩ := Hcx.out.ints
  have hccx := Hcx.out.cap
  have hhcx : w5.heap.size ≤ w5.heap.size := Nat.le_refl _
  have hjcx : w6.heap.size ≤ w6.heap.size := Nat.le_refl _
  go_wp2_with fail
  refine (laws_toVertexSR esg vg fpg _ (by omega) Hpg.out Hing.out (Hrg.out.under Hb6.out)).mono ?_
  rintro e w7 ⟨vgx, rfl, hogx, hb7⟩
  have Hb7 := Lib.hid (below_step Hb6.out Hb6.out.size hb7)
  have Hw0 := Lib.hid (Hw0.out.below hb7)
  have Hcx := Lib.hid (Hcx.out.below hb7)
  have hz7 := (hb7).size
  have Hgx := Lib.hid hogx; clear hogx
  have hhgx : w6.heap.size ≤ w6.heap.size := Nat.le_refl _
  have hjgx : w7.heap.size ≤ w7.heap.size := Nat.le_refl _
  go_wp2_with fail
  refine (laws_toIntS al capl xl _ (by omega) (Hil.out.below Hb7.out)).mono ?_
  rintro e w8 ⟨vlx, rfl, holx, hb8⟩
  have Hb8 := Lib.hid (below_step Hb7.out Hb7.out.size hb8)
  have Hw0 := Lib.hid (Hw0.out.below hb8)
  have Hcx := Lib.hid (Hcx.out.below hb8)
  have Hgx := Lib.hid (Hgx.out.below hb8 (by omega))
  have hz8 := (hb8).size
  have Hlx := Lib.hid (OwnI.of holx); clear holx
  obtain ⟨alx, clx, rfl, _, _⟩ := Hlx.out.ints
  have hclx := Hlx.out.cap
  have hhlx : w7.heap.size ≤ w7.heap.size := Nat.le_refl _
  have hjlx : w8.heap.size ≤ w8.heap.size := Nat.le_refl _
  obtain ⟨fgx, hrgx⟩ := Hgx.out.reads
  go_wp2_with fail
  refine (Himpl.out acx ccx vgx fgx alx clx _ hccx Hcx.out.at hrgx hclx Hlx.out.at Hb8.out).mono ?_
  rintro e w9 ⟨vg0, rfl, hog0, hb9⟩
  have Hb9 := Lib.hid (below_step Hb8.out Hb8.out.size hb9)
  have Hw0 := Lib.hid (Hw0.out.below hb9)
  have Hcx := Lib.hid (Hcx.out.below hb9)
  have Hgx := Lib.hid (Hgx.out.below hb9 (by omega))
  have Hlx := Lib.hid (Hlx.out.below hb9)
  have hz9 := (hb9).size
  have Hg0 := Lib.hid (OwnI.of hog0); clear hog0
  obtain ⟨ag0, cg0, rfl, _, _⟩ := Hg0.out.ints
  have hcg0 := Hg0.out.cap
  have hhg0 : w8.heap.size ≤ w8.heap.size := Nat.le_refl _
  have hjg0 : w9.heap.size ≤ w9.heap.size := Nat.le_refl _
  clear hrgx
  go_wp2_with fail
  refine (laws_eqIntS' ag0 aw0 cg0 cw0 O w9 (by omega) Hg0.out.at Hw0.out.at).mono ?_
  rintro e w10 ⟨rfl, hb10⟩
  have Hb10 := Lib.hid (below_step Hb9.out Hb9.out.size (hb10.below w9.heap.size))
  have Hw0 := Lib.hid (Hw0.out.below (hb10.below w9.heap.size))
  have Hcx := Lib.hid (Hcx.out.below (hb10.below w9.heap.size))
  have Hgx := Lib.hid (Hgx.out.below (hb10.below w9.heap.size) (by omega))
  have Hlx := Lib.hid (Hlx.out.below (hb10.below w9.heap.size))
  have Hg0 := Lib.hid (Hg0.out.below (hb10.below w9.heap.size))
  have hz10 := ((hb10.below w9.heap.size)).size
  go_wp2_with fail
  refine (laws_toIntS ac capc xc _ (by omega) (Hic.out.below Hb10.out)).mono ?_
  rintro e w11 ⟨vcy, rfl, hocy, hb11⟩
  have Hb11 := Lib.hid (below_step Hb10.out Hb10.out.size hb11)
  have Hw0 := Lib.hid (Hw0.out.below hb11)
  have Hcx := Lib.hid (Hcx.out.below hb11)
  have Hgx := Lib.hid (Hgx.out.below hb11 (by omega))
  have Hlx := Lib.hid (Hlx.out.below hb11)
  have Hg0 := Lib.hid (Hg0.out.below hb11)
  have hz11 := (hb11).size
  have Hcy := Lib.hid (OwnI.of hocy); clear hocy
  obtain ⟨acy, ccy, rfl, _, _⟩ := Hcy.out.ints
  have hccy := Hcy.out.cap
  have hhcy : w10.heap.size ≤ w10.heap.size := Nat.le_refl _
  have hjcy : w11.heap.size ≤ w11.heap.size := Nat.le_refl _
  go_wp2_with fail
  refine (laws_eqIntS' acx acy ccx ccy xc w11 (by omega) Hcx.out.at Hcy.out.at).mono ?_
  rintro e w12 ⟨rfl, hb12⟩
  have Hb12 := Lib.hid (below_step Hb11.out Hb11.out.size (hb12.below w11.heap.size))
  have Hw0 := Lib.hid (Hw0.out.below (hb12.below w11.heap.size))
  have Hcx := Lib.hid (Hcx.out.below (hb12.below w11.heap.size))
  have Hgx := Lib.hid (Hgx.out.below (hb12.below w11.heap.size) (by omega))
  have Hlx := Lib.hid (Hlx.out.below (hb12.below w11.heap.size))
  have Hg0 := Lib.hid (Hg0.out.below (hb12.below w11.heap.size))
  have Hcy := Lib.hid (Hcy.out.below (hb12.below w11.heap.size))
  have hz12 := ((hb12.below w11.heap.size)).size
  clear Hcy
  go_wp2_with fail
  refine (laws_toVertexSR esg vg fpg _ (by omega) Hpg.out Hing.out (Hrg.out.under Hb12.out)).mono ?_
  rintro e w13 ⟨vgy, rfl, hogy, hb13⟩
  have Hb13 := Lib.hid (below_step Hb12.out Hb12.out.size hb13)
  have Hw0 := Lib.hid (Hw0.out.below hb13)
  have Hcx := Lib.hid (Hcx.out.below hb13)
  have Hgx := Lib.hid (Hgx.out.below hb13 (by omega))
  have Hlx := Lib.hid (Hlx.out.below hb13)
  have Hg0 := Lib.hid (Hg0.out.below hb13)
  have hz13 := (hb13).size
  have Hgy := Lib.hid hogy; clear hogy
  have hhgy : w12.heap.size ≤ w12.heap.size := Nat.le_refl _
  have hjgy : w13.heap.size ≤ w13.heap.size := Nat.le_refl _
  obtain ⟨fgx, hrgx⟩ := Hgx.out.reads
  obtain ⟨fgy, hrgy⟩ := Hgy.out.reads
  go_wp2_with fail
  refine (laws_eqVertexSR esg _ _ fgx fgy w13 (by omega) Hpg.out Hlng.out hrgx hrgy).mono ?_
  rintro e w14 ⟨rfl, hb14⟩
  have Hb14 := Lib.hid (below_step Hb13.out Hb13.out.size hb14)
  have Hw0 := Lib.hid (Hw0.out.below hb14)
  have Hcx := Lib.hid (Hcx.out.below hb14)
  have Hgx := Lib.hid (Hgx.out.below hb14 (by omega))
  have Hlx := Lib.hid (Hlx.out.below hb14)
  have Hg0 := Lib.hid (Hg0.out.below hb14)
  have Hgy := Lib.hid (Hgy.out.below hb14 (by omega))
  have hz14 := (hb14).size
  clear hrgx hrgy
  clear Hgy
  go_wp2_with fail
  refine (laws_toIntS al capl xl _ (by omega) (Hil.out.below Hb14.out)).mono ?_
  rintro e w15 ⟨vly, rfl, holy, hb15⟩
  have Hb15 := Lib.hid (below_step Hb14.out Hb14.out.size hb15)
  have Hw0 := Lib.hid (Hw0.out.below hb15)
  have Hcx := Lib.hid (Hcx.out.below hb15)
  have Hgx := Lib.hid (Hgx.out.below hb15 (by omega))
  have Hlx := Lib.hid (Hlx.out.below hb15)
  have Hg0 := Lib.hid (Hg0.out.below hb15)
  have hz15 := (hb15).size
  have Hly := Lib.hid (OwnI.of holy); clear holy
  obtain ⟨aly, cly, rfl, _, _⟩ := Hly.out.ints
  have hcly := Hly.out.cap
  have hhly : w14.heap.size ≤ w14.heap.size := Nat.le_refl _
  have hjly : w15.heap.size ≤ w15.heap.size := Nat.le_refl _
  go_wp2_with fail
  refine (laws_eqIntS' alx aly clx cly xl w15 (by omega) Hlx.out.at Hly.out.at).mono ?_
  rintro e w16 ⟨rfl, hb16⟩
  have Hb16 := Lib.hid (below_step Hb15.out Hb15.out.size (hb16.below w15.heap.size))
  have Hw0 := Lib.hid (Hw0.out.below (hb16.below w15.heap.size))
  have Hcx := Lib.hid (Hcx.out.below (hb16.below w15.heap.size))
  have Hgx := Lib.hid (Hgx.out.below (hb16.below w15.heap.size) (by omega))
  have Hlx := Lib.hid (Hlx.out.below (hb16.below w15.heap.size))
  have Hg0 := Lib.hid (Hg0.out.below (hb16.below w15.heap.size))
  have Hly := Lib.hid (Hly.out.below (hb16.below w15.heap.size))
  have hz16 := ((hb16.below w15.heap.size)).size
  clear Hly
  go_wp2_with fail
  refine (laws_markIntS _ xc (1) w5.heap.size w16 (by omega) (by omega) Hcx.out.own).mono ?_
  rintro e w17 ⟨rfl, ho, hg⟩
  have hbt := Hcx.out.marks hg
  have Hb17 := Lib.hid ((hbt).below Hb16.out Hb16.out.size (by omega))
  have hz17 := (hbt).size
  have Hw0 := Lib.hid (Hw0.out.btw (hbt) (by first | exact .inl (by omega) | exact .inr (by omega) | omega))
  have Hgx := Lib.hid ((hbt).ownR Hgx.out (by omega) (by first | exact .inl (by omega) | exact .inr (by omega) | omega))
  have Hlx := Lib.hid (Hlx.out.btw (hbt) (by first | exact .inl (by omega) | exact .inr (by omega) | omega))
  have Hg0 := Lib.hid (Hg0.out.btw (hbt) (by first | exact .inl (by omega) | exact .inr (by omega) | omega))
  have Hcx := Lib.hid (Hcx.out.mark ho)
  clear ho hg hbt
  go_wp2_with fail
  have hkk := Hkbg.out (1 + xc.length)
  refine (laws_markVertexSR esg _ (1 + xc.length) w6.heap.size w7.heap.size w17 (by omega) Hpg.out Hgx.out).mono ?_
  rintro e w18 ⟨rfl, ho, hbt⟩
  have Hb18 := Lib.hid ((hbt).below Hb17.out Hb17.out.size (by omega))
  have hz18 := (hbt).size
  have Hw0 := Lib.hid (Hw0.out.btw (hbt) (by first | exact .inl (by omega) | exact .inr (by omega) | omega))
  have Hcx := Lib.hid (Hcx.out.btw (hbt) (by first | exact .inl (by omega) | exact .inr (by omega) | omega))
  have Hlx := Lib.hid (Hlx.out.btw (hbt) (by first | exact .inl (by omega) | exact .inr (by omega) | omega))
  have Hg0 := Lib.hid (Hg0.out.btw (hbt) (by first | exact .inl (by omega) | exact .inr (by omega) | omega))
  have Hgx := Lib.hid (ho)
  clear ho hbt
  generalize kTo esg (1 + xc.length) esg.length = k1 at *
  go_wp2_with fail
  refine (laws_markIntS _ xl (k1) w7.heap.size w18 (by omega) (by omega) Hlx.out.own).mono ?_
  rintro e w19 ⟨rfl, ho, hg⟩
  have hbt := Hlx.out.marks hg
  have Hb19 := Lib.hid ((hbt).below Hb18.out Hb18.out.size (by omega))
  have hz19 := (hbt).size
  have Hw0 := Lib.hid (Hw0.out.btw (hbt) (by first | exact .inl (by omega) | exact .inr (by omega) | omega))
  have Hcx := Lib.hid (Hcx.out.btw (hbt) (by first | exact .inl (by omega) | exact .inr (by omega) | omega))
  have Hgx := Lib.hid ((hbt).ownR Hgx.out (by omega) (by first | exact .inl (by omega) | exact .inr (by omega) | omega))
  have Hg0 := Lib.hid (Hg0.out.btw (hbt) (by first | exact .inl (by omega) | exact .inr (by omega) | omega))
  have Hlx := Lib.hid (Hlx.out.mark ho)
  clear ho hg hbt
  have hkn : decide (((k1 + xl.length : Nat) : Int) < 0) = false := decide_eq_false (by omega)
  have hkn' : ¬ ((k1 + xl.length : Nat) : Int) < 0 := by omega
  go_wp2_with fail
  refine (laws_eqIntS' ag0 aw0 cg0 cw0 O w19 (by omega) Hg0.out.at Hw0.out.at).mono ?_
  rintro e w20 ⟨rfl, hb20⟩
  have Hb20 := Lib.hid (below_step Hb19.out Hb19.out.size (hb20.below w19.heap.size))
  have Hw0 := Lib.hid (Hw0.out.below (hb20.below w19.heap.size))
  have Hcx := Lib.hid (Hcx.out.below (hb20.below w19.heap.size))
  have Hgx := Lib.hid (Hgx.out.below (hb20.below w19.heap.size) (by omega))
  have Hlx := Lib.hid (Hlx.out.below (hb20.below w19.heap.size))
  have Hg0 := Lib.hid (Hg0.out.below (hb20.below w19.heap.size))
  have hz20 := ((hb20.below w19.heap.size)).size
  go_wp2_with fail
  refine (laws_markIntS _ O (1) w8.heap.size w20 (by omega) (by omega) Hg0.out.own).mono ?_
  rintro e w21 ⟨rfl, ho, hg⟩
  have hbt := Hg0.out.marks hg
  have Hb21 := Lib.hid ((hbt).below Hb20.out Hb20.out.size (by omega))
  have hz21 := (hbt).size
  have Hw0 := Lib.hid (Hw0.out.btw (hbt) (by first | exact .inl (by omega) | exact .inr (by omega) | omega))
  have Hcx := Lib.hid (Hcx.out.btw (hbt) (by first | exact .inl (by omega) | exact .inr (by omega) | omega))
  have Hgx := Lib.hid ((hbt).ownR Hgx.out (by omega) (by first | exact .inl (by omega) | exact .inr (by omega) | omega))
  have Hlx := Lib.hid (Hlx.out.btw (hbt) (by first | exact .inl (by omega) | exact .inr (by omega) | omega))
  have Hg0 := Lib.hid (Hg0.out.mark ho)
  clear ho hg hbt
  have hmn : decide (((1 + O.length : Nat) : Int) < 0) = false := decide_eq_false (by omega)
  have hmn' : ¬ ((1 + O.length : Nat) : Int) < 0 := by omega
  go_wp2_with fail
  refine (laws_heldIntS ag0 cg0 (1) O.length w21 (by omega) (by omega) Hg0.out.at).mono ?_
  rintro e w22 ⟨rfl, hb22⟩
  have Hb22 := Lib.hid (below_step Hb21.out Hb21.out.size (hb22.below w21.heap.size))
  have Hw0 := Lib.hid (Hw0.out.below (hb22.below w21.heap.size))
  have Hcx := Lib.hid (Hcx.out.below (hb22.below w21.heap.size))
  have Hgx := Lib.hid (Hgx.out.below (hb22.below w21.heap.size) (by omega))
  have Hlx := Lib.hid (Hlx.out.below (hb22.below w21.heap.size))
  have Hg0 := Lib.hid (Hg0.out.below (hb22.below w21.heap.size))
  have hz22 := ((hb22.below w21.heap.size)).size
  clear Hcx
  clear Hgx
  clear Hlx
  go_wp2_with fail
  refine (laws_toIntS ac capc xc _ (by omega) (Hic.out.below Hb22.out)).mono ?_
  rintro e w23 ⟨vcz, rfl, hocz, hb23⟩
  have Hb23 := Lib.hid (below_step Hb22.out Hb22.out.size hb23)
  have Hw0 := Lib.hid (Hw0.out.below hb23)
  have Hg0 := Lib.hid (Hg0.out.below hb23)
  have hz23 := (hb23).size
  have Hcz := Lib.hid (OwnI.of hocz); clear hocz
  obtain ⟨acz, ccz, rfl, _, _⟩ := Hcz.out.ints
  have hccz := Hcz.out.cap
  have hhcz : w22.heap.size ≤ w22.heap.size := Nat.le_refl _
  have hjcz : w23.heap.size ≤ w23.heap.size := Nat.le_refl _
  go_wp2_with fail
  refine (laws_toVertexSR esg vg fpg _ (by omega) Hpg.out Hing.out (Hrg.out.under Hb23.out)).mono ?_
  rintro e w24 ⟨vgz, rfl, hogz, hb24⟩
  have Hb24 := Lib.hid (below_step Hb23.out Hb23.out.size hb24)
  have Hw0 := Lib.hid (Hw0.out.below hb24)
  have Hg0 := Lib.hid (Hg0.out.below hb24)
  have Hcz := Lib.hid (Hcz.out.below hb24)
  have hz24 := (hb24).size
  have Hgz := Lib.hid hogz; clear hogz
  have hhgz : w23.heap.size ≤ w23.heap.size := Nat.le_refl _
  have hjgz : w24.heap.size ≤ w24.heap.size := Nat.le_refl _
  go_wp2_with fail
  refine (laws_toIntS al capl xl _ (by omega) (Hil.out.below Hb24.out)).mono ?_
  rintro e w25 ⟨vlz, rfl, holz, hb25⟩
  have Hb25 := Lib.hid (below_step Hb24.out Hb24.out.size hb25)
  have Hw0 := Lib.hid (Hw0.out.below hb25)
  have Hg0 := Lib.hid (Hg0.out.below hb25)
  have Hcz := Lib.hid (Hcz.out.below hb25)
  have Hgz := Lib.hid (Hgz.out.below hb25 (by omega))
  have hz25 := (hb25).size
  have Hlz := Lib.hid (OwnI.of holz); clear holz
  obtain ⟨alz, clz, rfl, _, _⟩ := Hlz.out.ints
  have hclz := Hlz.out.cap
  have hhlz : w24.heap.size ≤ w24.heap.size := Nat.le_refl _
  have hjlz : w25.heap.size ≤ w25.heap.size := Nat.le_refl _
  obtain ⟨fgz, hrgz⟩ := Hgz.out.reads
  go_wp2_with fail
  refine (Himpl.out acz ccz vgz fgz alz clz _ hccz Hcz.out.at hrgz hclz Hlz.out.at Hb25.out).mono ?_
  rintro e w26 ⟨vh0, rfl, hoh0, hb26⟩
  have Hb26 := Lib.hid (below_step Hb25.out Hb25.out.size hb26)
  have Hw0 := Lib.hid (Hw0.out.below hb26)
  have Hg0 := Lib.hid (Hg0.out.below hb26)
  have Hcz := Lib.hid (Hcz.out.below hb26)
  have Hgz := Lib.hid (Hgz.out.below hb26 (by omega))
  have Hlz := Lib.hid (Hlz.out.below hb26)
  have hz26 := (hb26).size
  have Hh0 := Lib.hid (OwnI.of hoh0); clear hoh0
  obtain ⟨ah0, ch0, rfl, _, _⟩ := Hh0.out.ints
  have hch0 := Hh0.out.cap
  have hhh0 : w25.heap.size ≤ w25.heap.size := Nat.le_refl _
  have hjh0 : w26.heap.size ≤ w26.heap.size := Nat.le_refl _
  clear hrgz
  go_wp2_with fail
  refine (laws_eqIntS' ah0 aw0 ch0 cw0 O w26 (by omega) Hh0.out.at Hw0.out.at).mono ?_
  rintro e w27 ⟨rfl, hb27⟩
  have Hb27 := Lib.hid (below_step Hb26.out Hb26.out.size (hb27.below w26.heap.size))
  have Hw0 := Lib.hid (Hw0.out.below (hb27.below w26.heap.size))
  have Hg0 := Lib.hid (Hg0.out.below (hb27.below w26.heap.size))
  have Hcz := Lib.hid (Hcz.out.below (hb27.below w26.heap.size))
  have Hgz := Lib.hid (Hgz.out.below (hb27.below w26.heap.size) (by omega))
  have Hlz := Lib.hid (Hlz.out.below (hb27.below w26.heap.size))
  have Hh0 := Lib.hid (Hh0.out.below (hb27.below w26.heap.size))
  have hz27 := ((hb27.below w26.heap.size)).size
  go_wp2_with fail
  refine (laws_heldIntS ag0 cg0 (1) O.length w27 (by omega) (by omega) Hg0.out.at).mono ?_
  rintro e w28 ⟨rfl, hb28⟩
  have Hb28 := Lib.hid (below_step Hb27.out Hb27.out.size (hb28.below w27.heap.size))
  have Hw0 := Lib.hid (Hw0.out.below (hb28.below w27.heap.size))
  have Hg0 := Lib.hid (Hg0.out.below (hb28.below w27.heap.size))
  have Hcz := Lib.hid (Hcz.out.below (hb28.below w27.heap.size))
  have Hgz := Lib.hid (Hgz.out.below (hb28.below w27.heap.size) (by omega))
  have Hlz := Lib.hid (Hlz.out.below (hb28.below w27.heap.size))
  have Hh0 := Lib.hid (Hh0.out.below (hb28.below w27.heap.size))
  have hz28 := ((hb28.below w27.heap.size)).size
  go_wp2
  go_ret
  exact ⟨by first | rfl | exact ret_bool (by simp), Hb28.out⟩

theorem fnExactOrderDigests_own : ownKnob Tryd.prog.godebug = none := by kernel_rfl
theorem fnExactOrderDigests_laidOut : laidOutB Tryd.prog = true := by kernel_rfl

set_option maxRecDepth 8000 in
theorem fnExactOrderDigests_lifted (os : Os) (started : os.Started) (H : Type) (enc : TypeId × Value → H) :
    ReturnsInHanded {} Tryd.checked os 3 .any (fun w args => (Rows.fnExactOrderDigestsSpec.pre enc Tryd.prog Tryd.f3 [] false w args ∧ laidMetH Tryd.prog laidE w) ∧ sizedMet enc Tryd.prog Tryd.f3 (OpenSpec.ofChange Rows.fnExactOrderDigestsSpec) false w args) (Rows.fnExactOrderDigestsSpec.post enc Tryd.prog Tryd.f3 false true false false) := by
  refine law_lifted_tied (C := Tryd.checked) (tb := 4) laidE fnExactOrderDigests_own fnExactOrderDigests_laidOut started (by kernel_rfl) Tryd.func3 rfl Tryd.underlying4 (by kernel_rfl) (by rw [Tryd.params3]; exact of_decide_eq_true (by kernel_rfl)) ?_
    (ChangeSpec.witness_shaped (enc := enc) (C := Tryd.checked) (os := os) (X := fun w _ => laidMetH Tryd.prog laidE w) false (World.laidAll Tryd.prog os laidE) #[.slice none 0 0, .slice none 0 0, .slice none 0 0] 8 (World.laidAll_os _ _ _) (World.shaped_of_ZipB (by kernel_rfl) (by kernel_rfl)) (by kernel_rfl) (by kernel_rfl) (by kernel_rfl) (laid_witness os _)) ?_
  · intro ds gs hds hgs
    rw [Tryd.params3] at hds
    match ds, hds, gs, hgs with
    | [d0, d1, d2], _, [g0, g1], _ => rfl
  · intro W base args ds p hval0 hA0 hL0
    have hval : ∀ (j : Nat) t v, Tryd.f3.params[j]? = some t → args[j]? = some v → Value.okWide Tryd.prog W .any base t v := hval0
    have hA : DataW.TrodAll enc Tryd.prog W 0 (fun _ => true) true Tryd.f3.params.toList args.toList ds p := hA0
    rw [Tryd.params3] at hA hval
    obtain ⟨v0, vs0, d0, ds0, p0, q0, hargs0, rfl, rfl, h0, r0⟩ := trodAll_cons hA
    obtain ⟨v1, vs1, d1, ds1, p1, q1, hargs1, rfl, rfl, h1, r1⟩ := trodAll_cons r0
    obtain ⟨v2, vs2, d2, ds2, p2, q2, hargs2, rfl, rfl, h2, r2⟩ := trodAll_cons r1
    obtain ⟨hnil, rfl, rfl⟩ := trodAll_nil r2
    subst hnil
    subst hargs2
    subst hargs1
    obtain rfl : args = #[v0, v1, v2] := by cases args; simp_all
    obtain ⟨a0, cap0, zs0, rfl, hk0, hm0, hi0, hw0⟩ := open_slice_ints Tryd.underlying22 Tryd.underlying3 (by kernel_rfl) (hval 0 22 v0 rfl rfl) h0
    obtain ⟨es1, fp1, hr1, hm1, hp1⟩ := open_VertexS (hval 1 23 v1 rfl rfl) h1
    obtain ⟨a2, cap2, zs2, rfl, hk2, hm2, hi2, hw2⟩ := open_slice_ints Tryd.underlying22 Tryd.underlying3 (by kernel_rfl) (hval 2 22 v2 rfl rfl) h2
    obtain ⟨eN, eI, hS⟩ := sen_of hL0
    exact fnExactOrderDigests_walk a0 cap0 zs0 v1 es1 fp1 a2 cap2 zs2 W hk0 hm0 hi0 hw0 hr1 hm1 hp1 hk2 hm2 hi2 hw2 eN eI hS

set_option maxRecDepth 8000 in
theorem fnExactOrderDigests_holds : Rows.FnExactOrderDigestsSaid :=
  OpenClaim.holds_of_wide 3 Tryd.f3 rfl rfl rfl rfl rfl rfl rfl ⟨rfl, rfl, rfl, rfl, rfl⟩ rfl rfl rfl rfl rfl (by kernel_rfl) Tryd.func3 (by kernel_rfl)
    (of_decide_eq_true (by kernel_rfl)) (by unfold Func.isWrapper; first | (rw [if_pos (by decide +kernel)]; kernel_rfl) | (rw [if_neg (by decide +kernel)]; exact ⟨rfl, rfl⟩))
    (fun os started H enc _ => fnExactOrderDigests_lifted os started H enc)

theorem fnExactOrderDigests_card : Rows.FnExactOrderDigestsCardSaid :=
  Claim7.holds_tied_plain_at .later [] _ _ _ _ fnExactOrderDigests_holds (fun _ h => by cases h) (by kernel_rfl) (fun _ h => by cases h) fnExactOrderDigests_row_tie rfl ⟨rfl, rfl⟩ (by kernel_rfl) rfl
    (plain_of (f0 := 3) (fn0 := Tryd.f3) (ts := [22, 23, 22]) (by kernel_rfl) Tryd.func3 (by rw [Tryd.params3]) (by kernel_rfl) (by kernel_rfl)) (by kernel_rfl)

end Go.Proofs.YtjaacdapibokiabDoor
