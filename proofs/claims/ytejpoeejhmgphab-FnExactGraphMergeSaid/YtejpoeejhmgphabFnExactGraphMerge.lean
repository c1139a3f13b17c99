/- The exact law of GraphMerge holds at every argument; no conditions of our own. -/
import Derived.Test.YtejpoeejhmgphabRows
import Derived.Test.YtejpoeejhmgphabBase
import Derived.Test.YtejpoeejhmgphabLift
import Derived.Test.YtejpoeejhmgphabApp
import Derived.Test.YtejpoeejhmgphabDt
import Derived.Test.YtejpoeejhmgphabOwR
import Derived.Test.YtejpoeejhmgphabOwS
import Derived.Test.YtejpoeejhmgphabRow
import Derived.Test.YtejpoeejhmgphabEx
import Derived.Test.YtejpoeejhmgphabL1
import Derived.Test.YtejpoeejhmgphabL2
import Derived.Test.YtejpoeejhmgphabM2
import Derived.Test.YtejpoeejhmgphabC1
import Derived.Test.YtejpoeejhmgphabC2
import Derived.Test.YtejpoeejhmgphabRVertex
import Derived.Test.YtejpoeejhmgphabHeld
import Derived.Test.YtejpoeejhmgphabGv1
import Derived.Test.YtejpoeejhmgphabGv2
import Derived.Test.YtejpoeejhmgphabGv3
import Derived.Test.YtejpoeejhmgphabExg
import Derived.Test.YtejpoeejhmgphabGv6
import Derived.Test.YtejpoeejhmgphabExh
import Derived.Test.YtejpoeejhmgphabGvi
namespace Go.Proofs.Ytejpoeejhmgphab
open Go.ChangeShapes Go.WideShapes Go.ChangeAt Go.RowKit

set_option maxHeartbeats 2000000 in
theorem fnExactGraphMerge_walk (ac : Option Addr) (capc : Nat) (xc : List Int) (va : Value) (esa : List (List Fd)) (fpa : List Nat) (vb : Value) (esb : List (List Fd)) (fpb : List Nat) (w : World) (_hkc : xc.length ≤ capc) (hmc : xc.length ≤ maxLen) (hic : IntsAt w ac xc) (_hwc : ∀ z ∈ xc, (Lit.int .i64 z).wf = true) (hra : Rd w (rowsD esa) va fpa) (hma : esa.length ≤ maxLen) (hpa : ∀ e ∈ esa, vertexP e ∧ fitE e) (hrb : Rd w (rowsD esb) vb fpb) (hmb : esb.length ≤ maxLen) (hpb : ∀ e ∈ esb, vertexP e ∧ fitE e) :
    Calls Try.prog 10 #[.slice ac xc.length capc, va, vb] w fun e w' => e = .returned (.bool true) ∧ Below w.heap.size w w' := by
  unfold maxLen at hmc
  unfold maxLen at hma
  unfold maxLen at hmb
  by_cases hlc : xc.length ≤ 1048576
  case neg =>
    go_enter Try.func10, Try.ntmps10
    go_wp2
    go_ret
    exact ⟨rfl, Below.refl _ _⟩
  have Hic := Lib.hid hic; clear hic
  have Hra := Lib.hid hra; clear hra
  have hpa1 : ∀ e ∈ esa, vertexP e := fun e he => (hpa e he).1
  have Hfa := Lib.hid (fun e he => (hpa e he).2); clear hpa
  have Hrb := Lib.hid hrb; clear hrb
  have hpb1 : ∀ e ∈ esb, vertexP e := fun e he => (hpb e he).1
  have Hfb := Lib.hid (fun e he => (hpb e he).2); clear hpb
  have Hb0 := Lib.hid (Below.refl w.heap.size w)
  have Hsza := Lib.hid (fun w (hr : Rd w (rowsD esa) va fpa) => laws_szVertexSR esa va fpa (1048576) w (by omega) (by omega) hpa1 (fun e he xs hx => by have := ((Hfa.out e he).2 xs hx).1; unfold maxLen at this; omega) hr)
  go_enter Try.func10, Try.ntmps10
  go_wp2_with fail
  refine (Hsza.out _ (Hra.out.under Hb0.out)).mono ?_
  rintro e w1 ⟨rfl, hb1⟩
  have Hb1 := Lib.hid (below_step Hb0.out Hb0.out.size hb1)
  have hz1 := (hb1).size
  have hkla := kTo_bd (vertexP_len hpa1) 1 esa.length (Nat.le_refl _)
  clear hkla
  by_cases hla : esa.length + lnTo esa esa.length ≤ 1048576
  case neg =>
    rw [if_neg hla]
    go_wp2
    go_ret
    exact ⟨rfl, Hb1.out⟩
  rw [if_pos hla]
  have hnega : decide ((((1048576 - esa.length - lnTo esa esa.length : Nat)) : Int) < 0) = false := decide_eq_false (by omega)
  have hngea : ¬ (((1048576 - esa.length - lnTo esa esa.length : Nat) : Int) < 0) := by omega
  have hina := lnTo_in (es := esa) (m := 1048576) (by omega)
  have hkba := fun k => kTo_bd (vertexP_len hpa1) k esa.length (Nat.le_refl _)
  have Hlna := Lib.hid (show ∀ e ∈ esa, lnE e ≤ 1099511627776 from fun e he => Nat.le_trans (hina e he) (by omega))
  have Hszb := Lib.hid (fun w (hr : Rd w (rowsD esb) vb fpb) => laws_szVertexSR esb vb fpb (1048576 - esa.length - lnTo esa esa.length) w (by omega) (by omega) hpb1 (fun e he xs hx => by have := ((Hfb.out e he).2 xs hx).1; unfold maxLen at this; omega) hr)
  go_wp2_with fail
  refine (Hszb.out _ (Hrb.out.under Hb1.out)).mono ?_
  rintro e w2 ⟨rfl, hb2⟩
  have Hb2 := Lib.hid (below_step Hb1.out Hb1.out.size hb2)
  have hz2 := (hb2).size
  have hklb := kTo_bd (vertexP_len hpb1) 1 esb.length (Nat.le_refl _)
  clear hklb
  by_cases hlb : esb.length + lnTo esb esb.length ≤ 1048576 - esa.length - lnTo esa esa.length
  case neg =>
    rw [if_neg hlb]
    go_wp2
    go_ret
    exact ⟨rfl, Hb2.out⟩
  rw [if_pos hlb]
  have hnegb : decide ((((1048576 - esa.length - lnTo esa esa.length - esb.length - lnTo esb esb.length : Nat)) : Int) < 0) = false := decide_eq_false (by omega)
  have hngeb : ¬ (((1048576 - esa.length - lnTo esa esa.length - esb.length - lnTo esb esb.length : Nat) : Int) < 0) := by omega
  have hinb := lnTo_in (es := esb) (m := 1048576) (by omega)
  have hkbb := fun k => kTo_bd (vertexP_len hpb1) k esb.length (Nat.le_refl _)
  have Hlnb := Lib.hid (show ∀ e ∈ esb, lnE e ≤ 1099511627776 from fun e he => Nat.le_trans (hinb e he) (by omega))
  obtain ⟨a, rfl⟩ := rows_vx hpa1
  have hLa : (a.map Vx.fd).length = a.length := by simp
  have hla' : ∀ x ∈ a, x.ps.length ≤ 1048576 := vx_lens hina
  have hPa : ∀ x ∈ a, x.ps.length ≤ 1099511627776 := fun x hx => Nat.le_trans (hla' x hx) (by omega)
  obtain ⟨b, rfl⟩ := rows_vx hpb1
  have hLb : (b.map Vx.fd).length = b.length := by simp
  have hlb' : ∀ x ∈ b, x.ps.length ≤ 1048576 := vx_lens hinb
  have hPb : ∀ x ∈ b, x.ps.length ≤ 1099511627776 := fun x hx => Nat.le_trans (hlb' x hx) (by omega)
  have Hspec := Lib.hid (fun ac cc va fa vb fb w (hcc : xc.length ≤ cc) (h : IntsAt w ac xc) (h' : Rd w (rowsD (a.map Vx.fd)) va fa) (h'' : Rd w (rowsD (b.map Vx.fd)) vb fb) => spec_GraphMerge ac cc xc a b va vb fa fb w (by omega) (by omega) hPa hPb h h' h'')
  have Himpl := Lib.hid (fun ac cc va fa vb fb w (hcc : xc.length ≤ cc) (h : IntsAt w ac xc) (h' : Rd w (rowsD (a.map Vx.fd)) va fa) (h'' : Rd w (rowsD (b.map Vx.fd)) vb fb) => impl_GraphMerge ac cc xc a b va vb fa fb w (by omega) (by omega) hPa hPb hcc h h' h'')
  have hva := lnTo_vx a
  have hvb := lnTo_vx b
  have hsz := mgG_size xc a b
  obtain ⟨hR1, hR2⟩ := hsz
  obtain ⟨hRa, hRb, hRc, hRd⟩ := vx_answer (n := 1048576) (m := 1048576) (Nat.le_trans hR1 (by omega)) (Nat.le_trans hR2 (by omega)) (by omega)
  clear hR1 hR2
  generalize (mgG xc a b).map Vx.fd = R at *
  have Hrp0 := Lib.hid hRb; clear hRb
  have Hrl0 := Lib.hid hRc; clear hRc
  have Hrk0 := Lib.hid hRd; clear hRd
  generalize mgB xc a b = ok at *
  clear hPa hla' hLa
  generalize a.map Vx.fd = esa at *
  clear hPb hlb' hLb
  generalize b.map Vx.fd = esb at *
  have Hina := Lib.hid hina; clear hina
  have Hkba := Lib.hid hkba; clear hkba
  have Hpa := Lib.hid hpa1; clear hpa1
  have Hinb := Lib.hid hinb; clear hinb
  have Hkbb := Lib.hid hkbb; clear hkbb
  have Hpb := Lib.hid hpb1; clear hpb1
  go_wp2_with fail
  refine (laws_toIntS ac capc xc _ (by omega) (Hic.out.below Hb2.out)).mono ?_
  rintro e w3 ⟨vcs, rfl, hocs, hb3⟩
  have Hb3 := Lib.hid (below_step Hb2.out Hb2.out.size hb3)
  have hz3 := (hb3).size
  have Hcs := Lib.hid (OwnI.of hocs); clear hocs
  obtain ⟨acs, ccs, rfl, _, _⟩ := Hcs.out.ints
  have hccs := Hcs.out.cap
  have hhcs : w2.heap.size ≤ w2.heap.size := Nat.le_refl _
  have hjcs : w3.heap.size ≤ w3.heap.size := Nat.le_refl _
  go_wp2_with fail
  refine (laws_toVertexSR esa va fpa _ (by omega) Hpa.out Hina.out (Hra.out.under Hb3.out)).mono ?_
  rintro e w4 ⟨vas, rfl, hoas, hb4⟩
  have Hb4 := Lib.hid (below_step Hb3.out Hb3.out.size hb4)
  have Hcs := Lib.hid (Hcs.out.below hb4)
  have hz4 := (hb4).size
  have Has := Lib.hid hoas; clear hoas
  have hhas : w3.heap.size ≤ w3.heap.size := Nat.le_refl _
  have hjas : w4.heap.size ≤ w4.heap.size := Nat.le_refl _
  go_wp2_with fail
  refine (laws_toVertexSR esb vb fpb _ (by omega) Hpb.out Hinb.out (Hrb.out.under Hb4.out)).mono ?_
  rintro e w5 ⟨vbs, rfl, hobs, hb5⟩
  have Hb5 := Lib.hid (below_step Hb4.out Hb4.out.size hb5)
  have Hcs := Lib.hid (Hcs.out.below hb5)
  have Has := Lib.hid (Has.out.below hb5 (by omega))
  have hz5 := (hb5).size
  have Hbs := Lib.hid hobs; clear hobs
  have hhbs : w4.heap.size ≤ w4.heap.size := Nat.le_refl _
  have hjbs : w5.heap.size ≤ w5.heap.size := Nat.le_refl _
  obtain ⟨fas, hras⟩ := Has.out.reads
  obtain ⟨fbs, hrbs⟩ := Hbs.out.reads
  go_wp2_with fail
  refine (Hspec.out acs ccs vas fas vbs fbs _ hccs Hcs.out.at hras hrbs).mono ?_
  rintro e w6 ⟨vw0, rfl, how0, hb6⟩
  have Hb6 := Lib.hid (below_step Hb5.out Hb5.out.size hb6)
  have Hcs := Lib.hid (Hcs.out.below hb6)
  have Has := Lib.hid (Has.out.below hb6 (by omega))
  have Hbs := Lib.hid (Hbs.out.below hb6 (by omega))
  have hz6 := (hb6).size
  have Hw0 := Lib.hid how0; clear how0
  have hhw0 : w5.heap.size ≤ w5.heap.size := Nat.le_refl _
  have hjw0 : w6.heap.size ≤ w6.heap.size := Nat.le_refl _
  clear hras hrbs
  clear Hcs
  clear Has
  clear Hbs
  go_wp2_with fail
  refine (laws_toIntS ac capc xc _ (by omega) (Hic.out.below Hb6.out)).mono ?_
  rintro e w7 ⟨vcx, rfl, hocx, hb7⟩
  have Hb7 := Lib.hid (below_step Hb6.out Hb6.out.size hb7)
  have Hw0 := Lib.hid (Hw0.out.below hb7 (by omega))
  have hz7 := (hb7).size
  have Hcx := Lib.hid (OwnI.of hocx); clear hocx
  obtain ⟨acx, ccx, rfl, _, _⟩ := Hcx.out.ints
  have hccx := Hcx.out.cap
  have hhcx : w6.heap.size ≤ w6.heap.size := Nat.le_refl _
  have hjcx : w7.heap.size ≤ w7.heap.size := Nat.le_refl _
  go_wp2_with fail
  refine (laws_toVertexSR esa va fpa _ (by omega) Hpa.out Hina.out (Hra.out.under Hb7.out)).mono ?_
  rintro e w8 ⟨vax, rfl, hoax, hb8⟩
  have Hb8 := Lib.hid (below_step Hb7.out Hb7.out.size hb8)
  have Hw0 := Lib.hid (Hw0.out.below hb8 (by omega))
  have Hcx := Lib.hid (Hcx.out.below hb8)
  have hz8 := (hb8).size
  have Hax := Lib.hid hoax; clear hoax
  have hhax : w7.heap.size ≤ w7.heap.size := Nat.le_refl _
  have hjax : w8.heap.size ≤ w8.heap.size := Nat.le_refl _
  go_wp2_with fail
  refine (laws_toVertexSR esb vb fpb _ (by omega) Hpb.out Hinb.out (Hrb.out.under Hb8.out)).mono ?_
  rintro e w9 ⟨vbx, rfl, hobx, hb9⟩
  have Hb9 := Lib.hid (below_step Hb8.out Hb8.out.size hb9)
  have Hw0 := Lib.hid (Hw0.out.below hb9 (by omega))
  have Hcx := Lib.hid (Hcx.out.below hb9)
  have Hax := Lib.hid (Hax.out.below hb9 (by omega))
  have hz9 := (hb9).size
  have Hbx := Lib.hid hobx; clear hobx
  have hhbx : w8.heap.size ≤ w8.heap.size := Nat.le_refl _
  have hjbx : w9.heap.size ≤ w9.heap.size := Nat.le_refl _
  obtain ⟨fax, hrax⟩ := Hax.out.reads
  obtain ⟨fbx, hrbx⟩ := Hbx.out.reads
  go_wp2_with fail
  refine (Himpl.out acx ccx vax fax vbx fbx _ hccx Hcx.out.at hrax hrbx).mono ?_
  rintro e w10 ⟨vg0, rfl, hog0, hb10⟩
  have Hb10 := Lib.hid (below_step Hb9.out Hb9.out.size hb10)
  have Hw0 := Lib.hid (Hw0.out.below hb10 (by omega))
  have Hcx := Lib.hid (Hcx.out.below hb10)
  have Hax := Lib.hid (Hax.out.below hb10 (by omega))
  have Hbx := Lib.hid (Hbx.out.below hb10 (by omega))
  have hz10 := (hb10).size
  have Hg0 := Lib.hid hog0; clear hog0
  have hhg0 : w9.heap.size ≤ w9.heap.size := Nat.le_refl _
  have hjg0 : w10.heap.size ≤ w10.heap.size := Nat.le_refl _
  clear hrax hrbx
  obtain ⟨fg0, hrg0⟩ := Hg0.out.reads
  obtain ⟨fw0, hrw0⟩ := Hw0.out.reads
  go_wp2_with fail
  refine (laws_eqVertexSR R _ _ fg0 fw0 w10 (by omega) Hrp0.out Hrl0.out hrg0 hrw0).mono ?_
  rintro e w11 ⟨rfl, hb11⟩
  have Hb11 := Lib.hid (below_step Hb10.out Hb10.out.size hb11)
  have Hw0 := Lib.hid (Hw0.out.below hb11 (by omega))
  have Hcx := Lib.hid (Hcx.out.below hb11)
  have Hax := Lib.hid (Hax.out.below hb11 (by omega))
  have Hbx := Lib.hid (Hbx.out.below hb11 (by omega))
  have Hg0 := Lib.hid (Hg0.out.below hb11 (by omega))
  have hz11 := (hb11).size
  clear hrg0 hrw0
  go_wp2_with fail
  refine (laws_toIntS ac capc xc _ (by omega) (Hic.out.below Hb11.out)).mono ?_
  rintro e w12 ⟨vcy, rfl, hocy, hb12⟩
  have Hb12 := Lib.hid (below_step Hb11.out Hb11.out.size hb12)
  have Hw0 := Lib.hid (Hw0.out.below hb12 (by omega))
  have Hcx := Lib.hid (Hcx.out.below hb12)
  have Hax := Lib.hid (Hax.out.below hb12 (by omega))
  have Hbx := Lib.hid (Hbx.out.below hb12 (by omega))
  have Hg0 := Lib.hid (Hg0.out.below hb12 (by omega))
  have hz12 := (hb12).size
  have Hcy := Lib.hid (OwnI.of hocy); clear hocy
  obtain ⟨acy, ccy, rfl, _, _⟩ := Hcy.out.ints
  have hccy := Hcy.out.cap
  have hhcy : w11.heap.size ≤ w11.heap.size := Nat.le_refl _
  have hjcy : w12.heap.size ≤ w12.heap.size := Nat.le_refl _
  go_wp2_with fail
  refine (laws_eqIntS' acx acy ccx ccy xc w12 (by omega) Hcx.out.at Hcy.out.at).mono ?_
  rintro e w13 ⟨rfl, hb13⟩
  have Hb13 := Lib.hid (below_step Hb12.out Hb12.out.size (hb13.below w12.heap.size))
  have Hw0 := Lib.hid (Hw0.out.below (hb13.below w12.heap.size) (by omega))
  have Hcx := Lib.hid (Hcx.out.below (hb13.below w12.heap.size))
  have Hax := Lib.hid (Hax.out.below (hb13.below w12.heap.size) (by omega))
  have Hbx := Lib.hid (Hbx.out.below (hb13.below w12.heap.size) (by omega))
  have Hg0 := Lib.hid (Hg0.out.below (hb13.below w12.heap.size) (by omega))
  have Hcy := Lib.hid (Hcy.out.below (hb13.below w12.heap.size))
  have hz13 := ((hb13.below w12.heap.size)).size
  clear Hcy
  go_wp2_with fail
  refine (laws_toVertexSR esa va fpa _ (by omega) Hpa.out Hina.out (Hra.out.under Hb13.out)).mono ?_
  rintro e w14 ⟨vay, rfl, hoay, hb14⟩
  have Hb14 := Lib.hid (below_step Hb13.out Hb13.out.size hb14)
  have Hw0 := Lib.hid (Hw0.out.below hb14 (by omega))
  have Hcx := Lib.hid (Hcx.out.below hb14)
  have Hax := Lib.hid (Hax.out.below hb14 (by omega))
  have Hbx := Lib.hid (Hbx.out.below hb14 (by omega))
  have Hg0 := Lib.hid (Hg0.out.below hb14 (by omega))
  have hz14 := (hb14).size
  have Hay := Lib.hid hoay; clear hoay
  have hhay : w13.heap.size ≤ w13.heap.size := Nat.le_refl _
  have hjay : w14.heap.size ≤ w14.heap.size := Nat.le_refl _
  obtain ⟨fax, hrax⟩ := Hax.out.reads
  obtain ⟨fay, hray⟩ := Hay.out.reads
  go_wp2_with fail
  refine (laws_eqVertexSR esa _ _ fax fay w14 (by omega) Hpa.out Hlna.out hrax hray).mono ?_
  rintro e w15 ⟨rfl, hb15⟩
  have Hb15 := Lib.hid (below_step Hb14.out Hb14.out.size hb15)
  have Hw0 := Lib.hid (Hw0.out.below hb15 (by omega))
  have Hcx := Lib.hid (Hcx.out.below hb15)
  have Hax := Lib.hid (Hax.out.below hb15 (by omega))
  have Hbx := Lib.hid (Hbx.out.below hb15 (by omega))
  have Hg0 := Lib.hid (Hg0.out.below hb15 (by omega))
  have Hay := Lib.hid (Hay.out.below hb15 (by omega))
  have hz15 := (hb15).size
  clear hrax hray
  clear Hay
  go_wp2_with fail
  refine (laws_toVertexSR esb vb fpb _ (by omega) Hpb.out Hinb.out (Hrb.out.under Hb15.out)).mono ?_
  rintro e w16 ⟨vby, rfl, hoby, hb16⟩
  have Hb16 := Lib.hid (below_step Hb15.out Hb15.out.size hb16)
  have Hw0 := Lib.hid (Hw0.out.below hb16 (by omega))
  have Hcx := Lib.hid (Hcx.out.below hb16)
  have Hax := Lib.hid (Hax.out.below hb16 (by omega))
  have Hbx := Lib.hid (Hbx.out.below hb16 (by omega))
  have Hg0 := Lib.hid (Hg0.out.below hb16 (by omega))
  have hz16 := (hb16).size
  have Hby := Lib.hid hoby; clear hoby
  have hhby : w15.heap.size ≤ w15.heap.size := Nat.le_refl _
  have hjby : w16.heap.size ≤ w16.heap.size := Nat.le_refl _
  obtain ⟨fbx, hrbx⟩ := Hbx.out.reads
  obtain ⟨fby, hrby⟩ := Hby.out.reads
  go_wp2_with fail
  refine (laws_eqVertexSR esb _ _ fbx fby w16 (by omega) Hpb.out Hlnb.out hrbx hrby).mono ?_
  rintro e w17 ⟨rfl, hb17⟩
  have Hb17 := Lib.hid (below_step Hb16.out Hb16.out.size hb17)
  have Hw0 := Lib.hid (Hw0.out.below hb17 (by omega))
  have Hcx := Lib.hid (Hcx.out.below hb17)
  have Hax := Lib.hid (Hax.out.below hb17 (by omega))
  have Hbx := Lib.hid (Hbx.out.below hb17 (by omega))
  have Hg0 := Lib.hid (Hg0.out.below hb17 (by omega))
  have Hby := Lib.hid (Hby.out.below hb17 (by omega))
  have hz17 := (hb17).size
  clear hrbx hrby
  clear Hby
  go_wp2_with fail
  refine (laws_markIntS _ xc (1) w6.heap.size w17 (by omega) (by omega) Hcx.out.own).mono ?_
  rintro e w18 ⟨rfl, ho, hg⟩
  have hbt := Hcx.out.marks hg
  have Hb18 := Lib.hid ((hbt).below Hb17.out Hb17.out.size (by omega))
  have hz18 := (hbt).size
  have Hw0 := Lib.hid ((hbt).ownR Hw0.out (by omega) (by first | exact .inl (by omega) | exact .inr (by omega)))
  have Hax := Lib.hid ((hbt).ownR Hax.out (by omega) (by first | exact .inl (by omega) | exact .inr (by omega)))
  have Hbx := Lib.hid ((hbt).ownR Hbx.out (by omega) (by first | exact .inl (by omega) | exact .inr (by omega)))
  have Hg0 := Lib.hid ((hbt).ownR Hg0.out (by omega) (by first | exact .inl (by omega) | exact .inr (by omega)))
  have Hcx := Lib.hid (Hcx.out.mark ho)
  clear ho hg hbt
  go_wp2_with fail
  have hkk := Hkba.out (1 + xc.length)
  refine (laws_markVertexSR esa _ (1 + xc.length) w7.heap.size w8.heap.size w18 (by omega) Hpa.out Hax.out).mono ?_
  rintro e w19 ⟨rfl, ho, hbt⟩
  have Hb19 := Lib.hid ((hbt).below Hb18.out Hb18.out.size (by omega))
  have hz19 := (hbt).size
  have Hw0 := Lib.hid ((hbt).ownR Hw0.out (by omega) (by first | exact .inl (by omega) | exact .inr (by omega)))
  have Hcx := Lib.hid (Hcx.out.btw (hbt) (by first | exact .inl (by omega) | exact .inr (by omega)))
  have Hbx := Lib.hid ((hbt).ownR Hbx.out (by omega) (by first | exact .inl (by omega) | exact .inr (by omega)))
  have Hg0 := Lib.hid ((hbt).ownR Hg0.out (by omega) (by first | exact .inl (by omega) | exact .inr (by omega)))
  have Hax := Lib.hid (ho)
  clear ho hbt
  generalize kTo esa (1 + xc.length) esa.length = k1 at *
  go_wp2_with fail
  have hkk := Hkbb.out (k1)
  refine (laws_markVertexSR esb _ (k1) w8.heap.size w9.heap.size w19 (by omega) Hpb.out Hbx.out).mono ?_
  rintro e w20 ⟨rfl, ho, hbt⟩
  have Hb20 := Lib.hid ((hbt).below Hb19.out Hb19.out.size (by omega))
  have hz20 := (hbt).size
  have Hw0 := Lib.hid ((hbt).ownR Hw0.out (by omega) (by first | exact .inl (by omega) | exact .inr (by omega)))
  have Hcx := Lib.hid (Hcx.out.btw (hbt) (by first | exact .inl (by omega) | exact .inr (by omega)))
  have Hax := Lib.hid ((hbt).ownR Hax.out (by omega) (by first | exact .inl (by omega) | exact .inr (by omega)))
  have Hg0 := Lib.hid ((hbt).ownR Hg0.out (by omega) (by first | exact .inl (by omega) | exact .inr (by omega)))
  have Hbx := Lib.hid (ho)
  clear ho hbt
  generalize kTo esb (k1) esb.length = k2 at *
  have hkn : decide (((k2 : Nat) : Int) < 0) = false := decide_eq_false (by omega)
  have hkn' : ¬ ((k2 : Nat) : Int) < 0 := by omega
  obtain ⟨fg0, hrg0⟩ := Hg0.out.reads
  obtain ⟨fw0, hrw0⟩ := Hw0.out.reads
  go_wp2_with fail
  refine (laws_eqVertexSR R _ _ fg0 fw0 w20 (by omega) Hrp0.out Hrl0.out hrg0 hrw0).mono ?_
  rintro e w21 ⟨rfl, hb21⟩
  have Hb21 := Lib.hid (below_step Hb20.out Hb20.out.size hb21)
  have Hw0 := Lib.hid (Hw0.out.below hb21 (by omega))
  have Hcx := Lib.hid (Hcx.out.below hb21)
  have Hax := Lib.hid (Hax.out.below hb21 (by omega))
  have Hbx := Lib.hid (Hbx.out.below hb21 (by omega))
  have Hg0 := Lib.hid (Hg0.out.below hb21 (by omega))
  have hz21 := (hb21).size
  clear hrg0 hrw0
  go_wp2_with fail
  have hkk := Hrk0.out (1)
  refine (laws_markVertexSR R _ (1) w9.heap.size w10.heap.size w21 (by omega) Hrp0.out Hg0.out).mono ?_
  rintro e w22 ⟨rfl, ho, hbt⟩
  have Hb22 := Lib.hid ((hbt).below Hb21.out Hb21.out.size (by omega))
  have hz22 := (hbt).size
  have Hw0 := Lib.hid ((hbt).ownR Hw0.out (by omega) (by first | exact .inl (by omega) | exact .inr (by omega)))
  have Hcx := Lib.hid (Hcx.out.btw (hbt) (by first | exact .inl (by omega) | exact .inr (by omega)))
  have Hax := Lib.hid ((hbt).ownR Hax.out (by omega) (by first | exact .inl (by omega) | exact .inr (by omega)))
  have Hbx := Lib.hid ((hbt).ownR Hbx.out (by omega) (by first | exact .inl (by omega) | exact .inr (by omega)))
  have Hg0 := Lib.hid (ho)
  clear ho hbt
  generalize hm1 : kTo R (1) R.length = m1 at *
  have Hm1 := Lib.hid hm1; clear hm1
  have hmn : decide (((m1 : Nat) : Int) < 0) = false := decide_eq_false (by omega)
  have hmn' : ¬ ((m1 : Nat) : Int) < 0 := by omega
  have hhe := laws_heldVertexSR R _ (1) _ _ w22 (by have := Hrk0.out (1); omega) Hrp0.out Hg0.out
  rw [Hm1.out] at hhe
  have Hhe := Lib.hid hhe; clear hhe
  go_wp2_with fail
  refine (Hhe.out).mono ?_
  rintro e w23 ⟨rfl, hb23⟩
  have Hb23 := Lib.hid (below_step Hb22.out Hb22.out.size (hb23.below w22.heap.size))
  have Hw0 := Lib.hid (Hw0.out.below (hb23.below w22.heap.size) (by omega))
  have Hcx := Lib.hid (Hcx.out.below (hb23.below w22.heap.size))
  have Hax := Lib.hid (Hax.out.below (hb23.below w22.heap.size) (by omega))
  have Hbx := Lib.hid (Hbx.out.below (hb23.below w22.heap.size) (by omega))
  have Hg0 := Lib.hid (Hg0.out.below (hb23.below w22.heap.size) (by omega))
  have hz23 := ((hb23.below w22.heap.size)).size
  clear Hhe
  clear Hcx
  clear Hax
  clear Hbx
  go_wp2_with fail
  refine (laws_toIntS ac capc xc _ (by omega) (Hic.out.below Hb23.out)).mono ?_
  rintro e w24 ⟨vcz, rfl, hocz, hb24⟩
  have Hb24 := Lib.hid (below_step Hb23.out Hb23.out.size hb24)
  have Hw0 := Lib.hid (Hw0.out.below hb24 (by omega))
  have Hg0 := Lib.hid (Hg0.out.below hb24 (by omega))
  have hz24 := (hb24).size
  have Hcz := Lib.hid (OwnI.of hocz); clear hocz
  obtain ⟨acz, ccz, rfl, _, _⟩ := Hcz.out.ints
  have hccz := Hcz.out.cap
  have hhcz : w23.heap.size ≤ w23.heap.size := Nat.le_refl _
  have hjcz : w24.heap.size ≤ w24.heap.size := Nat.le_refl _
  go_wp2_with fail
  refine (laws_toVertexSR esa va fpa _ (by omega) Hpa.out Hina.out (Hra.out.under Hb24.out)).mono ?_
  rintro e w25 ⟨vaz, rfl, hoaz, hb25⟩
  have Hb25 := Lib.hid (below_step Hb24.out Hb24.out.size hb25)
  have Hw0 := Lib.hid (Hw0.out.below hb25 (by omega))
  have Hg0 := Lib.hid (Hg0.out.below hb25 (by omega))
  have Hcz := Lib.hid (Hcz.out.below hb25)
  have hz25 := (hb25).size
  have Haz := Lib.hid hoaz; clear hoaz
  have hhaz : w24.heap.size ≤ w24.heap.size := Nat.le_refl _
  have hjaz : w25.heap.size ≤ w25.heap.size := Nat.le_refl _
  go_wp2_with fail
  refine (laws_toVertexSR esb vb fpb _ (by omega) Hpb.out Hinb.out (Hrb.out.under Hb25.out)).mono ?_
  rintro e w26 ⟨vbz, rfl, hobz, hb26⟩
  have Hb26 := Lib.hid (below_step Hb25.out Hb25.out.size hb26)
  have Hw0 := Lib.hid (Hw0.out.below hb26 (by omega))
  have Hg0 := Lib.hid (Hg0.out.below hb26 (by omega))
  have Hcz := Lib.hid (Hcz.out.below hb26)
  have Haz := Lib.hid (Haz.out.below hb26 (by omega))
  have hz26 := (hb26).size
  have Hbz := Lib.hid hobz; clear hobz
  have hhbz : w25.heap.size ≤ w25.heap.size := Nat.le_refl _
  have hjbz : w26.heap.size ≤ w26.heap.size := Nat.le_refl _
  obtain ⟨faz, hraz⟩ := Haz.out.reads
  obtain ⟨fbz, hrbz⟩ := Hbz.out.reads
  go_wp2_with fail
  refine (Himpl.out acz ccz vaz faz vbz fbz _ hccz Hcz.out.at hraz hrbz).mono ?_
  rintro e w27 ⟨vh0, rfl, hoh0, hb27⟩
  have Hb27 := Lib.hid (below_step Hb26.out Hb26.out.size hb27)
  have Hw0 := Lib.hid (Hw0.out.below hb27 (by omega))
  have Hg0 := Lib.hid (Hg0.out.below hb27 (by omega))
  have Hcz := Lib.hid (Hcz.out.below hb27)
  have Haz := Lib.hid (Haz.out.below hb27 (by omega))
  have Hbz := Lib.hid (Hbz.out.below hb27 (by omega))
  have hz27 := (hb27).size
  have Hh0 := Lib.hid hoh0; clear hoh0
  have hhh0 : w26.heap.size ≤ w26.heap.size := Nat.le_refl _
  have hjh0 : w27.heap.size ≤ w27.heap.size := Nat.le_refl _
  clear hraz hrbz
  obtain ⟨fh0, hrh0⟩ := Hh0.out.reads
  obtain ⟨fw0, hrw0⟩ := Hw0.out.reads
  go_wp2_with fail
  refine (laws_eqVertexSR R _ _ fh0 fw0 w27 (by omega) Hrp0.out Hrl0.out hrh0 hrw0).mono ?_
  rintro e w28 ⟨rfl, hb28⟩
  have Hb28 := Lib.hid (below_step Hb27.out Hb27.out.size hb28)
  have Hw0 := Lib.hid (Hw0.out.below hb28 (by omega))
  have Hg0 := Lib.hid (Hg0.out.below hb28 (by omega))
  have Hcz := Lib.hid (Hcz.out.below hb28)
  have Haz := Lib.hid (Haz.out.below hb28 (by omega))
  have Hbz := Lib.hid (Hbz.out.below hb28 (by omega))
  have Hh0 := Lib.hid (Hh0.out.below hb28 (by omega))
  have hz28 := (hb28).size
  clear hrh0 hrw0
  have hhe := laws_heldVertexSR R _ (1) _ _ w28 (by have := Hrk0.out (1); omega) Hrp0.out Hg0.out
  rw [Hm1.out] at hhe
  have Hhe := Lib.hid hhe; clear hhe
  go_wp2_with fail
  refine (Hhe.out).mono ?_
  rintro e w29 ⟨rfl, hb29⟩
  have Hb29 := Lib.hid (below_step Hb28.out Hb28.out.size (hb29.below w28.heap.size))
  have Hw0 := Lib.hid (Hw0.out.below (hb29.below w28.heap.size) (by omega))
  have Hg0 := Lib.hid (Hg0.out.below (hb29.below w28.heap.size) (by omega))
  have Hcz := Lib.hid (Hcz.out.below (hb29.below w28.heap.size))
  have Haz := Lib.hid (Haz.out.below (hb29.below w28.heap.size) (by omega))
  have Hbz := Lib.hid (Hbz.out.below (hb29.below w28.heap.size) (by omega))
  have Hh0 := Lib.hid (Hh0.out.below (hb29.below w28.heap.size) (by omega))
  have hz29 := ((hb29.below w28.heap.size)).size
  clear Hhe
  go_wp2
  go_ret
  exact ⟨by first | rfl | exact ret_bool (by simp), Hb29.out⟩

theorem fnExactGraphMerge_own : ownKnob Try.prog.godebug = none := by kernel_rfl
theorem fnExactGraphMerge_laidOut : laidOutB Try.prog = true := by kernel_rfl

theorem fnExactGraphMerge_lifted (os : Os) (started : os.Started) (H : Type) (enc : TypeId × Value → H) :
    ReturnsInHanded {} Try.checked os 10 .any (Rows.fnExactGraphMergeSpec.pre6 enc Try.prog Try.f10 Rows.fnExactGraphMergeRow.domain false) (Rows.fnExactGraphMergeSpec.post enc Try.prog Try.f10 false true false false) := by
  refine law_lifted (C := Try.checked) (tb := 4) fnExactGraphMerge_own fnExactGraphMerge_laidOut started (by kernel_rfl) Try.func10 rfl Try.underlying4 rfl (by rw [Try.params10]; exact of_decide_eq_true (by kernel_rfl)) ?_
    (ChangeSpec.witness6 (enc := enc) (C := Try.checked) false ⟨#[], #[.slice none 0 0, .slice none 0 0, .slice none 0 0], []⟩ 8 (by kernel_rfl) (by kernel_rfl) (by kernel_rfl) (by kernel_rfl)) ?_
  · intro ds hds
    rw [Try.params10] at hds
    match ds, hds with
    | [d0, d1, d2], _ => rfl
  · intro W base args ds p hval0 hA0
    have hval : ∀ (j : Nat) t v, Try.f10.params[j]? = some t → args[j]? = some v → Value.okWide Try.prog W .any base t v := hval0
    have hA : DataW.TrodAll enc Try.prog W 0 (fun _ => true) true Try.f10.params.toList args.toList ds p := hA0
    rw [Try.params10] at hA hval
    obtain ⟨v0, vs0, d0, ds0, p0, q0, hargs0, rfl, rfl, h0, r0⟩ := trodAll_cons hA
    obtain ⟨v1, vs1, d1, ds1, p1, q1, hargs1, rfl, rfl, h1, r1⟩ := trodAll_cons r0
    obtain ⟨v2, vs2, d2, ds2, p2, q2, hargs2, rfl, rfl, h2, r2⟩ := trodAll_cons r1
    obtain ⟨hnil, rfl, rfl⟩ := trodAll_nil r2
    subst hnil
    subst hargs2
    subst hargs1
    obtain rfl : args = #[v0, v1, v2] := by cases args; simp_all
    obtain ⟨a0, cap0, zs0, rfl, hk0, hm0, hi0, hw0⟩ := open_slice_ints Try.underlying22 Try.underlying3 (by kernel_rfl) (hval 0 22 v0 rfl rfl) h0
    obtain ⟨es1, fp1, hr1, hm1, hp1⟩ := open_VertexS (hval 1 33 v1 rfl rfl) h1
    obtain ⟨es2, fp2, hr2, hm2, hp2⟩ := open_VertexS (hval 2 33 v2 rfl rfl) h2
    exact fnExactGraphMerge_walk a0 cap0 zs0 v1 es1 fp1 v2 es2 fp2 W hk0 hm0 hi0 hw0 hr1 hm1 hp1 hr2 hm2 hp2

theorem fnExactGraphMerge_holds : Rows.FnExactGraphMergeSaid :=
  OpenClaim.holds_of_wide 10 Try.f10 rfl rfl rfl rfl rfl rfl rfl ⟨rfl, rfl, rfl, rfl, rfl⟩ rfl rfl rfl rfl rfl (by kernel_rfl) Try.func10 (by kernel_rfl)
    (of_decide_eq_true (by kernel_rfl)) (by unfold Func.isWrapper; first | (rw [if_pos (by decide +kernel)]; kernel_rfl) | (rw [if_neg (by decide +kernel)]; exact ⟨rfl, rfl⟩))
    (fun os started H enc _ => fnExactGraphMerge_lifted os started H enc)

end Go.Proofs.Ytejpoeejhmgphab
