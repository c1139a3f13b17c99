/- The exact law of GraphAuthors holds at every argument; no conditions of our own. -/
import Derived.Test.YtejpoeejhmgphabRows
import Derived.Test.YtejpoeejhmgphabBase
import Derived.Test.YtejpoeejhmgphabLift
import Derived.Test.YtejpoeejhmgphabApp
import Derived.Test.YtejpoeejhmgphabDt
import Derived.Test.YtejpoeejhmgphabOwR
import Derived.Test.YtejpoeejhmgphabOwS
import Derived.Test.YtejpoeejhmgphabRow
import Derived.Test.YtejpoeejhmgphabEx
import Derived.Test.YtejpoeejhmgphabL1
import Derived.Test.YtejpoeejhmgphabL2
import Derived.Test.YtejpoeejhmgphabM2
import Derived.Test.YtejpoeejhmgphabC1
import Derived.Test.YtejpoeejhmgphabC2
import Derived.Test.YtejpoeejhmgphabRVertex
import Derived.Test.YtejpoeejhmgphabHeld
import Derived.Test.YtejpoeejhmgphabGv1
import Derived.Test.YtejpoeejhmgphabGv2
import Derived.Test.YtejpoeejhmgphabGv3
import Derived.Test.YtejpoeejhmgphabExg
import Derived.Test.YtejpoeejhmgphabGvi
namespace Go.Proofs.Ytejpoeejhmgphab
open Go.ChangeShapes Go.WideShapes Go.ChangeAt Go.RowKit

set_option maxHeartbeats 2000000 in
theorem fnExactGraphAuthors_walk (ac : Option Addr) (capc : Nat) (xc : List Int) (vg : Value) (esg : List (List Fd)) (fpg : List Nat) (r : Int) (w : World) (_hkc : xc.length ≤ capc) (hmc : xc.length ≤ maxLen) (hic : IntsAt w ac xc) (_hwc : ∀ z ∈ xc, (Lit.int .i64 z).wf = true) (hrg : Rd w (rowsD esg) vg fpg) (hmg : esg.length ≤ maxLen) (hpg : ∀ e ∈ esg, vertexP e ∧ fitE e) (_hr : -9223372036854775808 ≤ r ∧ r ≤ 9223372036854775807) :
    Calls Try.prog 8 #[.slice ac xc.length capc, vg, .int .i64 r] w fun e w' => e = .returned (.bool true) ∧ Below w.heap.size w w' := by
  unfold maxLen at hmc
  unfold maxLen at hmg
  obtain ⟨_hr1, _hr2⟩ := _hr
  by_cases hlc : xc.length ≤ 1048576
  case neg =>
    go_enter Try.func8, Try.ntmps8
    go_wp2
    go_ret
    exact ⟨rfl, Below.refl _ _⟩
  have Hic := Lib.hid hic; clear hic
  have Hrg := Lib.hid hrg; clear hrg
  have hpg1 : ∀ e ∈ esg, vertexP e := fun e he => (hpg e he).1
  have Hfg := Lib.hid (fun e he => (hpg e he).2); clear hpg
  have Hb0 := Lib.hid (Below.refl w.heap.size w)
  have Hszg := Lib.hid (fun w (hr : Rd w (rowsD esg) vg fpg) => laws_szVertexSR esg vg fpg (1048576) w (by omega) (by omega) hpg1 (fun e he xs hx => by have := ((Hfg.out e he).2 xs hx).1; unfold maxLen at this; omega) hr)
  go_enter Try.func8, Try.ntmps8
  go_wp2_with fail
  refine (Hszg.out _ (Hrg.out.under Hb0.out)).mono ?_
  rintro e w1 ⟨rfl, hb1⟩
  have Hb1 := Lib.hid (below_step Hb0.out Hb0.out.size hb1)
  have hz1 := (hb1).size
  have hklg := kTo_bd (vertexP_len hpg1) 1 esg.length (Nat.le_refl _)
  clear hklg
  by_cases hlg : esg.length + lnTo esg esg.length ≤ 1048576
  case neg =>
    rw [if_neg hlg]
    go_wp2
    go_ret
    exact ⟨rfl, Hb1.out⟩
  rw [if_pos hlg]
  have hnegg : decide ((((1048576 - esg.length - lnTo esg esg.length : Nat)) : Int) < 0) = false := decide_eq_false (by omega)
  have hngeg : ¬ (((1048576 - esg.length - lnTo esg esg.length : Nat) : Int) < 0) := by omega
  have hing := lnTo_in (es := esg) (m := 1048576) (by omega)
  have hkbg := fun k => kTo_bd (vertexP_len hpg1) k esg.length (Nat.le_refl _)
  have Hlng := Lib.hid (show ∀ e ∈ esg, lnE e ≤ 1099511627776 from fun e he => Nat.le_trans (hing e he) (by omega))
  obtain ⟨g, rfl⟩ := rows_vx hpg1
  have hLg : (g.map Vx.fd).length = g.length := by simp
  have hlg' : ∀ x ∈ g, x.ps.length ≤ 1048576 := vx_lens hing
  have hPg : ∀ x ∈ g, x.ps.length ≤ 1099511627776 := fun x hx => Nat.le_trans (hlg' x hx) (by omega)
  have hL := gaZ_len xc g r
  have Hspec := Lib.hid (fun ac cc vg fg w (hcc : xc.length ≤ cc) (h : IntsAt w ac xc) (h' : Rd w (rowsD (g.map Vx.fd)) vg fg) => spec_GraphAuthors ac cc xc g vg fg r w (by omega) (by omega) hPg h h')
  have Himpl := Lib.hid (fun ac cc vg fg w (hcc : xc.length ≤ cc) (h : IntsAt w ac xc) (h' : Rd w (rowsD (g.map Vx.fd)) vg fg) => impl_GraphAuthors ac cc xc g vg fg r w (by omega) (by omega) hPg hcc h h')
  generalize gaZ xc g r = L at *
  have hL2 : L.length ≤ 1048576 := by omega
  clear hL
  clear hPg hlg' hLg
  generalize g.map Vx.fd = esg at *
  have Hing := Lib.hid hing; clear hing
  have Hkbg := Lib.hid hkbg; clear hkbg
  have Hpg := Lib.hid hpg1; clear hpg1
  go_wp2_with fail
  refine (laws_toIntS ac capc xc _ (by omega) (Hic.out.below Hb1.out)).mono ?_
  rintro e w2 ⟨vcs, rfl, hocs, hb2⟩
  have Hb2 := Lib.hid (below_step Hb1.out Hb1.out.size hb2)
  have hz2 := (hb2).size
  have Hcs := Lib.hid (OwnI.of hocs); clear hocs
  obtain ⟨acs, ccs, rfl, _, _⟩ := Hcs.out.ints
  have hccs := Hcs.out.cap
  have hhcs : w1.heap.size ≤ w1.heap.size := Nat.le_refl _
  have hjcs : w2.heap.size ≤ w2.heap.size := Nat.le_refl _
  go_wp2_with fail
  refine (laws_toVertexSR esg vg fpg _ (by omega) Hpg.out Hing.out (Hrg.out.under Hb2.out)).mono ?_
  rintro e w3 ⟨vgs, rfl, hogs, hb3⟩
  have Hb3 := Lib.hid (below_step Hb2.out Hb2.out.size hb3)
  have Hcs := Lib.hid (Hcs.out.below hb3)
  have hz3 := (hb3).size
  have Hgs := Lib.hid hogs; clear hogs
  have hhgs : w2.heap.size ≤ w2.heap.size := Nat.le_refl _
  have hjgs : w3.heap.size ≤ w3.heap.size := Nat.le_refl _
  obtain ⟨fgs, hrgs⟩ := Hgs.out.reads
  go_wp2_with fail
  refine (Hspec.out acs ccs vgs fgs _ hccs Hcs.out.at hrgs).mono ?_
  rintro e w4 ⟨vw0, rfl, how0, hb4⟩
  have Hb4 := Lib.hid (below_step Hb3.out Hb3.out.size hb4)
  have Hcs := Lib.hid (Hcs.out.below hb4)
  have Hgs := Lib.hid (Hgs.out.below hb4 (by omega))
  have hz4 := (hb4).size
  have Hw0 := Lib.hid (OwnI.of how0); clear how0
  obtain ⟨aw0, cw0, rfl, _, _⟩ := Hw0.out.ints
  have hcw0 := Hw0.out.cap
  have hhw0 : w3.heap.size ≤ w3.heap.size := Nat.le_refl _
  have hjw0 : w4.heap.size ≤ w4.heap.size := Nat.le_refl _
  clear hrgs
  clear Hcs
  clear Hgs
  go_wp2_with fail
  refine (laws_toIntS ac capc xc _ (by omega) (Hic.out.below Hb4.out)).mono ?_
  rintro e w5 ⟨vcx, rfl, hocx, hb5⟩
  have Hb5 := Lib.hid (below_step Hb4.out Hb4.out.size hb5)
  have Hw0 := Lib.hid (Hw0.out.below hb5)
  have hz5 := (hb5).size
  have Hcx := Lib.hid (OwnI.of hocx); clear hocx
  obtain ⟨acx, ccx, rfl, _, _⟩ := Hcx.out.ints
  have hccx := Hcx.out.cap
  have hhcx : w4.heap.size ≤ w4.heap.size := Nat.le_refl _
  have hjcx : w5.heap.size ≤ w5.heap.size := Nat.le_refl _
  go_wp2_with fail
  refine (laws_toVertexSR esg vg fpg _ (by omega) Hpg.out Hing.out (Hrg.out.under Hb5.out)).mono ?_
  rintro e w6 ⟨vgx, rfl, hogx, hb6⟩
  have Hb6 := Lib.hid (below_step Hb5.out Hb5.out.size hb6)
  have Hw0 := Lib.hid (Hw0.out.below hb6)
  have Hcx := Lib.hid (Hcx.out.below hb6)
  have hz6 := (hb6).size
  have Hgx := Lib.hid hogx; clear hogx
  have hhgx : w5.heap.size ≤ w5.heap.size := Nat.le_refl _
  have hjgx : w6.heap.size ≤ w6.heap.size := Nat.le_refl _
  obtain ⟨fgx, hrgx⟩ := Hgx.out.reads
  go_wp2_with fail
  refine (Himpl.out acx ccx vgx fgx _ hccx Hcx.out.at hrgx).mono ?_
  rintro e w7 ⟨vg0, rfl, hog0, hb7⟩
  have Hb7 := Lib.hid (below_step Hb6.out Hb6.out.size hb7)
  have Hw0 := Lib.hid (Hw0.out.below hb7)
  have Hcx := Lib.hid (Hcx.out.below hb7)
  have Hgx := Lib.hid (Hgx.out.below hb7 (by omega))
  have hz7 := (hb7).size
  have Hg0 := Lib.hid (OwnI.of hog0); clear hog0
  obtain ⟨ag0, cg0, rfl, _, _⟩ := Hg0.out.ints
  have hcg0 := Hg0.out.cap
  have hhg0 : w6.heap.size ≤ w6.heap.size := Nat.le_refl _
  have hjg0 : w7.heap.size ≤ w7.heap.size := Nat.le_refl _
  clear hrgx
  go_wp2_with fail
  refine (laws_eqIntS' ag0 aw0 cg0 cw0 L w7 (by omega) Hg0.out.at Hw0.out.at).mono ?_
  rintro e w8 ⟨rfl, hb8⟩
  have Hb8 := Lib.hid (below_step Hb7.out Hb7.out.size (hb8.below w7.heap.size))
  have Hw0 := Lib.hid (Hw0.out.below (hb8.below w7.heap.size))
  have Hcx := Lib.hid (Hcx.out.below (hb8.below w7.heap.size))
  have Hgx := Lib.hid (Hgx.out.below (hb8.below w7.heap.size) (by omega))
  have Hg0 := Lib.hid (Hg0.out.below (hb8.below w7.heap.size))
  have hz8 := ((hb8.below w7.heap.size)).size
  go_wp2_with fail
  refine (laws_toIntS ac capc xc _ (by omega) (Hic.out.below Hb8.out)).mono ?_
  rintro e w9 ⟨vcy, rfl, hocy, hb9⟩
  have Hb9 := Lib.hid (below_step Hb8.out Hb8.out.size hb9)
  have Hw0 := Lib.hid (Hw0.out.below hb9)
  have Hcx := Lib.hid (Hcx.out.below hb9)
  have Hgx := Lib.hid (Hgx.out.below hb9 (by omega))
  have Hg0 := Lib.hid (Hg0.out.below hb9)
  have hz9 := (hb9).size
  have Hcy := Lib.hid (OwnI.of hocy); clear hocy
  obtain ⟨acy, ccy, rfl, _, _⟩ := Hcy.out.ints
  have hccy := Hcy.out.cap
  have hhcy : w8.heap.size ≤ w8.heap.size := Nat.le_refl _
  have hjcy : w9.heap.size ≤ w9.heap.size := Nat.le_refl _
  go_wp2_with fail
  refine (laws_eqIntS' acx acy ccx ccy xc w9 (by omega) Hcx.out.at Hcy.out.at).mono ?_
  rintro e w10 ⟨rfl, hb10⟩
  have Hb10 := Lib.hid (below_step Hb9.out Hb9.out.size (hb10.below w9.heap.size))
  have Hw0 := Lib.hid (Hw0.out.below (hb10.below w9.heap.size))
  have Hcx := Lib.hid (Hcx.out.below (hb10.below w9.heap.size))
  have Hgx := Lib.hid (Hgx.out.below (hb10.below w9.heap.size) (by omega))
  have Hg0 := Lib.hid (Hg0.out.below (hb10.below w9.heap.size))
  have Hcy := Lib.hid (Hcy.out.below (hb10.below w9.heap.size))
  have hz10 := ((hb10.below w9.heap.size)).size
  clear Hcy
  go_wp2_with fail
  refine (laws_toVertexSR esg vg fpg _ (by omega) Hpg.out Hing.out (Hrg.out.under Hb10.out)).mono ?_
  rintro e w11 ⟨vgy, rfl, hogy, hb11⟩
  have Hb11 := Lib.hid (below_step Hb10.out Hb10.out.size hb11)
  have Hw0 := Lib.hid (Hw0.out.below hb11)
  have Hcx := Lib.hid (Hcx.out.below hb11)
  have Hgx := Lib.hid (Hgx.out.below hb11 (by omega))
  have Hg0 := Lib.hid (Hg0.out.below hb11)
  have hz11 := (hb11).size
  have Hgy := Lib.hid hogy; clear hogy
  have hhgy : w10.heap.size ≤ w10.heap.size := Nat.le_refl _
  have hjgy : w11.heap.size ≤ w11.heap.size := Nat.le_refl _
  obtain ⟨fgx, hrgx⟩ := Hgx.out.reads
  obtain ⟨fgy, hrgy⟩ := Hgy.out.reads
  go_wp2_with fail
  refine (laws_eqVertexSR esg _ _ fgx fgy w11 (by omega) Hpg.out Hlng.out hrgx hrgy).mono ?_
  rintro e w12 ⟨rfl, hb12⟩
  have Hb12 := Lib.hid (below_step Hb11.out Hb11.out.size hb12)
  have Hw0 := Lib.hid (Hw0.out.below hb12)
  have Hcx := Lib.hid (Hcx.out.below hb12)
  have Hgx := Lib.hid (Hgx.out.below hb12 (by omega))
  have Hg0 := Lib.hid (Hg0.out.below hb12)
  have Hgy := Lib.hid (Hgy.out.below hb12 (by omega))
  have hz12 := (hb12).size
  clear hrgx hrgy
  clear Hgy
  go_wp2_with fail
  refine (laws_markIntS _ xc (1) w4.heap.size w12 (by omega) (by omega) Hcx.out.own).mono ?_
  rintro e w13 ⟨rfl, ho, hg⟩
  have hbt := Hcx.out.marks hg
  have Hb13 := Lib.hid ((hbt).below Hb12.out Hb12.out.size (by omega))
  have hz13 := (hbt).size
  have Hw0 := Lib.hid (Hw0.out.btw (hbt) (by first | exact .inl (by omega) | exact .inr (by omega)))
  have Hgx := Lib.hid ((hbt).ownR Hgx.out (by omega) (by first | exact .inl (by omega) | exact .inr (by omega)))
  have Hg0 := Lib.hid (Hg0.out.btw (hbt) (by first | exact .inl (by omega) | exact .inr (by omega)))
  have Hcx := Lib.hid (Hcx.out.mark ho)
  clear ho hg hbt
  go_wp2_with fail
  have hkk := Hkbg.out (1 + xc.length)
  refine (laws_markVertexSR esg _ (1 + xc.length) w5.heap.size w6.heap.size w13 (by omega) Hpg.out Hgx.out).mono ?_
  rintro e w14 ⟨rfl, ho, hbt⟩
  have Hb14 := Lib.hid ((hbt).below Hb13.out Hb13.out.size (by omega))
  have hz14 := (hbt).size
  have Hw0 := Lib.hid (Hw0.out.btw (hbt) (by first | exact .inl (by omega) | exact .inr (by omega)))
  have Hcx := Lib.hid (Hcx.out.btw (hbt) (by first | exact .inl (by omega) | exact .inr (by omega)))
  have Hg0 := Lib.hid (Hg0.out.btw (hbt) (by first | exact .inl (by omega) | exact .inr (by omega)))
  have Hgx := Lib.hid (ho)
  clear ho hbt
  generalize kTo esg (1 + xc.length) esg.length = k1 at *
  have hkn : decide (((k1 : Nat) : Int) < 0) = false := decide_eq_false (by omega)
  have hkn' : ¬ ((k1 : Nat) : Int) < 0 := by omega
  go_wp2_with fail
  refine (laws_eqIntS' ag0 aw0 cg0 cw0 L w14 (by omega) Hg0.out.at Hw0.out.at).mono ?_
  rintro e w15 ⟨rfl, hb15⟩
  have Hb15 := Lib.hid (below_step Hb14.out Hb14.out.size (hb15.below w14.heap.size))
  have Hw0 := Lib.hid (Hw0.out.below (hb15.below w14.heap.size))
  have Hcx := Lib.hid (Hcx.out.below (hb15.below w14.heap.size))
  have Hgx := Lib.hid (Hgx.out.below (hb15.below w14.heap.size) (by omega))
  have Hg0 := Lib.hid (Hg0.out.below (hb15.below w14.heap.size))
  have hz15 := ((hb15.below w14.heap.size)).size
  go_wp2_with fail
  refine (laws_markIntS _ L (1) w6.heap.size w15 (by omega) (by omega) Hg0.out.own).mono ?_
  rintro e w16 ⟨rfl, ho, hg⟩
  have hbt := Hg0.out.marks hg
  have Hb16 := Lib.hid ((hbt).below Hb15.out Hb15.out.size (by omega))
  have hz16 := (hbt).size
  have Hw0 := Lib.hid (Hw0.out.btw (hbt) (by first | exact .inl (by omega) | exact .inr (by omega)))
  have Hcx := Lib.hid (Hcx.out.btw (hbt) (by first | exact .inl (by omega) | exact .inr (by omega)))
  have Hgx := Lib.hid ((hbt).ownR Hgx.out (by omega) (by first | exact .inl (by omega) | exact .inr (by omega)))
  have Hg0 := Lib.hid (Hg0.out.mark ho)
  clear ho hg hbt
  have hmn : decide (((1 + L.length : Nat) : Int) < 0) = false := decide_eq_false (by omega)
  have hmn' : ¬ ((1 + L.length : Nat) : Int) < 0 := by omega
  go_wp2_with fail
  refine (laws_heldIntS ag0 cg0 (1) L.length w16 (by omega) (by omega) Hg0.out.at).mono ?_
  rintro e w17 ⟨rfl, hb17⟩
  have Hb17 := Lib.hid (below_step Hb16.out Hb16.out.size (hb17.below w16.heap.size))
  have Hw0 := Lib.hid (Hw0.out.below (hb17.below w16.heap.size))
  have Hcx := Lib.hid (Hcx.out.below (hb17.below w16.heap.size))
  have Hgx := Lib.hid (Hgx.out.below (hb17.below w16.heap.size) (by omega))
  have Hg0 := Lib.hid (Hg0.out.below (hb17.below w16.heap.size))
  have hz17 := ((hb17.below w16.heap.size)).size
  clear Hcx
  clear Hgx
  go_wp2_with fail
  refine (laws_toIntS ac capc xc _ (by omega) (Hic.out.below Hb17.out)).mono ?_
  rintro e w18 ⟨vcz, rfl, hocz, hb18⟩
  have Hb18 := Lib.hid (below_step Hb17.out Hb17.out.size hb18)
  have Hw0 := Lib.hid (Hw0.out.below hb18)
  have Hg0 := Lib.hid (Hg0.out.below hb18)
  have hz18 := (hb18).size
  have Hcz := Lib.hid (OwnI.of hocz); clear hocz
  obtain ⟨acz, ccz, rfl, _, _⟩ := Hcz.out.ints
  have hccz := Hcz.out.cap
  have hhcz : w17.heap.size ≤ w17.heap.size := Nat.le_refl _
  have hjcz : w18.heap.size ≤ w18.heap.size := Nat.le_refl _
  go_wp2_with fail
  refine (laws_toVertexSR esg vg fpg _ (by omega) Hpg.out Hing.out (Hrg.out.under Hb18.out)).mono ?_
  rintro e w19 ⟨vgz, rfl, hogz, hb19⟩
  have Hb19 := Lib.hid (below_step Hb18.out Hb18.out.size hb19)
  have Hw0 := Lib.hid (Hw0.out.below hb19)
  have Hg0 := Lib.hid (Hg0.out.below hb19)
  have Hcz := Lib.hid (Hcz.out.below hb19)
  have hz19 := (hb19).size
  have Hgz := Lib.hid hogz; clear hogz
  have hhgz : w18.heap.size ≤ w18.heap.size := Nat.le_refl _
  have hjgz : w19.heap.size ≤ w19.heap.size := Nat.le_refl _
  obtain ⟨fgz, hrgz⟩ := Hgz.out.reads
  go_wp2_with fail
  refine (Himpl.out acz ccz vgz fgz _ hccz Hcz.out.at hrgz).mono ?_
  rintro e w20 ⟨vh0, rfl, hoh0, hb20⟩
  have Hb20 := Lib.hid (below_step Hb19.out Hb19.out.size hb20)
  have Hw0 := Lib.hid (Hw0.out.below hb20)
  have Hg0 := Lib.hid (Hg0.out.below hb20)
  have Hcz := Lib.hid (Hcz.out.below hb20)
  have Hgz := Lib.hid (Hgz.out.below hb20 (by omega))
  have hz20 := (hb20).size
  have Hh0 := Lib.hid (OwnI.of hoh0); clear hoh0
  obtain ⟨ah0, ch0, rfl, _, _⟩ := Hh0.out.ints
  have hch0 := Hh0.out.cap
  have hhh0 : w19.heap.size ≤ w19.heap.size := Nat.le_refl _
  have hjh0 : w20.heap.size ≤ w20.heap.size := Nat.le_refl _
  clear hrgz
  go_wp2_with fail
  refine (laws_eqIntS' ah0 aw0 ch0 cw0 L w20 (by omega) Hh0.out.at Hw0.out.at).mono ?_
  rintro e w21 ⟨rfl, hb21⟩
  have Hb21 := Lib.hid (below_step Hb20.out Hb20.out.size (hb21.below w20.heap.size))
  have Hw0 := Lib.hid (Hw0.out.below (hb21.below w20.heap.size))
  have Hg0 := Lib.hid (Hg0.out.below (hb21.below w20.heap.size))
  have Hcz := Lib.hid (Hcz.out.below (hb21.below w20.heap.size))
  have Hgz := Lib.hid (Hgz.out.below (hb21.below w20.heap.size) (by omega))
  have Hh0 := Lib.hid (Hh0.out.below (hb21.below w20.heap.size))
  have hz21 := ((hb21.below w20.heap.size)).size
  go_wp2_with fail
  refine (laws_heldIntS ag0 cg0 (1) L.length w21 (by omega) (by omega) Hg0.out.at).mono ?_
  rintro e w22 ⟨rfl, hb22⟩
  have Hb22 := Lib.hid (below_step Hb21.out Hb21.out.size (hb22.below w21.heap.size))
  have Hw0 := Lib.hid (Hw0.out.below (hb22.below w21.heap.size))
  have Hg0 := Lib.hid (Hg0.out.below (hb22.below w21.heap.size))
  have Hcz := Lib.hid (Hcz.out.below (hb22.below w21.heap.size))
  have Hgz := Lib.hid (Hgz.out.below (hb22.below w21.heap.size) (by omega))
  have Hh0 := Lib.hid (Hh0.out.below (hb22.below w21.heap.size))
  have hz22 := ((hb22.below w21.heap.size)).size
  go_wp2
  go_ret
  exact ⟨by first | rfl | exact ret_bool (by simp), Hb22.out⟩

theorem fnExactGraphAuthors_own : ownKnob Try.prog.godebug = none := by kernel_rfl
theorem fnExactGraphAuthors_laidOut : laidOutB Try.prog = true := by kernel_rfl

theorem fnExactGraphAuthors_lifted (os : Os) (started : os.Started) (H : Type) (enc : TypeId × Value → H) :
    ReturnsInHanded {} Try.checked os 8 .any (Rows.fnExactGraphAuthorsSpec.pre6 enc Try.prog Try.f8 Rows.fnExactGraphAuthorsRow.domain false) (Rows.fnExactGraphAuthorsSpec.post enc Try.prog Try.f8 false true false false) := by
  refine law_lifted (C := Try.checked) (tb := 4) fnExactGraphAuthors_own fnExactGraphAuthors_laidOut started (by kernel_rfl) Try.func8 rfl Try.underlying4 rfl (by rw [Try.params8]; exact of_decide_eq_true (by kernel_rfl)) ?_
    (ChangeSpec.witness6 (enc := enc) (C := Try.checked) false ⟨#[], #[.slice none 0 0, .slice none 0 0, .int .i64 0], []⟩ 8 (by kernel_rfl) (by kernel_rfl) (by kernel_rfl) (by kernel_rfl)) ?_
  · intro ds hds
    rw [Try.params8] at hds
    match ds, hds with
    | [d0, d1, d2], _ => rfl
  · intro W base args ds p hval0 hA0
    have hval : ∀ (j : Nat) t v, Try.f8.params[j]? = some t → args[j]? = some v → Value.okWide Try.prog W .any base t v := hval0
    have hA : DataW.TrodAll enc Try.prog W 0 (fun _ => true) true Try.f8.params.toList args.toList ds p := hA0
    rw [Try.params8] at hA hval
    obtain ⟨v0, vs0, d0, ds0, p0, q0, hargs0, rfl, rfl, h0, r0⟩ := trodAll_cons hA
    obtain ⟨v1, vs1, d1, ds1, p1, q1, hargs1, rfl, rfl, h1, r1⟩ := trodAll_cons r0
    obtain ⟨v2, vs2, d2, ds2, p2, q2, hargs2, rfl, rfl, h2, r2⟩ := trodAll_cons r1
    obtain ⟨hnil, rfl, rfl⟩ := trodAll_nil r2
    subst hnil
    subst hargs2
    subst hargs1
    obtain rfl : args = #[v0, v1, v2] := by cases args; simp_all
    obtain ⟨a0, cap0, zs0, rfl, hk0, hm0, hi0, hw0⟩ := open_slice_ints Try.underlying22 Try.underlying3 (by kernel_rfl) (hval 0 22 v0 rfl rfl) h0
    obtain ⟨es1, fp1, hr1, hm1, hp1⟩ := open_VertexS (hval 1 33 v1 rfl rfl) h1
    obtain ⟨n2, rfl, _, _, hw2⟩ := open_int Try.underlying3 (hval 2 3 v2 rfl rfl) h2
    exact fnExactGraphAuthors_walk a0 cap0 zs0 v1 es1 fp1 n2 W hk0 hm0 hi0 hw0 hr1 hm1 hp1 (wf_i64 hw2)

theorem fnExactGraphAuthors_holds : Rows.FnExactGraphAuthorsSaid :=
  OpenClaim.holds_of_wide 8 Try.f8 rfl rfl rfl rfl rfl rfl rfl ⟨rfl, rfl, rfl, rfl, rfl⟩ rfl rfl rfl rfl rfl (by kernel_rfl) Try.func8 (by kernel_rfl)
    (of_decide_eq_true (by kernel_rfl)) (by unfold Func.isWrapper; first | (rw [if_pos (by decide +kernel)]; kernel_rfl) | (rw [if_neg (by decide +kernel)]; exact ⟨rfl, rfl⟩))
    (fun os started H enc _ => fnExactGraphAuthors_lifted os started H enc)

end Go.Proofs.Ytejpoeejhmgphab
