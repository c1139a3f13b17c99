/- The exact law of CertMake holds at every argument; no conditions of our own. -/
import Derived.Test.YteglefchkecfjaaRows
import Derived.Test.YteglefchkecfjaaBu0
import Derived.Test.YteglefchkecfjaaBu1
namespace Go.Proofs.Yteglefchkecfjaa
open Go.ChangeShapes Go.WideShapes Go.ChangeAt Go.RowKit

set_option maxHeartbeats 2000000 in
theorem fnExactCertMake_walk (ac : Option Addr) (capc : Nat) (xc : List Int) (ak : Option Addr) (capk : Nat) (xk : List Int) (d : Int) (an : Option Addr) (capn : Nat) (xn : List Int) (w : World) (_hkc : xc.length ≤ capc) (hmc : xc.length ≤ maxLen) (hic : IntsAt w ac xc) (_hwc : ∀ z ∈ xc, (Lit.int .i64 z).wf = true) (_hkk : xk.length ≤ capk) (hmk : xk.length ≤ maxLen) (hik : IntsAt w ak xk) (_hwk : ∀ z ∈ xk, (Lit.int .i64 z).wf = true) (_hd : -9223372036854775808 ≤ d ∧ d ≤ 9223372036854775807) (_hkn : xn.length ≤ capn) (hmn : xn.length ≤ maxLen) (hin : IntsAt w an xn) (_hwn : ∀ z ∈ xn, (Lit.int .i64 z).wf = true) :
    Calls Try.prog 9 #[.slice ac xc.length capc, .slice ak xk.length capk, .int .i64 d, .slice an xn.length capn] w fun e w' => e = .returned (.bool true) ∧ Below w.heap.size w w' := by
  unfold maxLen at hmc hmk hmn
  by_cases hlc : xc.length ≤ 1048576
  case neg =>
    go_enter Try.func9, Try.ntmps9
    go_wp2
    go_ret
    exact ⟨rfl, Below.refl _ _⟩
  by_cases hlk : xk.length ≤ 1048576
  case neg =>
    go_enter Try.func9, Try.ntmps9
    go_wp2
    go_ret
    exact ⟨rfl, Below.refl _ _⟩
  by_cases hln : xn.length ≤ 1048576
  case neg =>
    go_enter Try.func9, Try.ntmps9
    go_wp2
    go_ret
    exact ⟨rfl, Below.refl _ _⟩
  have Hic := Lib.hid hic; clear hic
  have Hik := Lib.hid hik; clear hik
  have Hin := Lib.hid hin; clear hin
  have Hb0 := Lib.hid (Below.refl w.heap.size w)
  have hpl := cmL_len xc xk d xn
  have Hspec := Lib.hid (fun a cc b ck e cs w h1 h2 h3 => spec_CertMake a cc xc b ck xk d e cs xn w (by omega) (by omega) (by omega) h1 h2 h3)
  have Himpl := Lib.hid (fun a cc b ck e cs w h1 h2 h3 => impl_CertMake a cc xc b ck xk d e cs xn w (by omega) (by omega) (by omega) h1 h2 h3)
  generalize cmD xc xk d xn = D at *
  generalize cmL xc xk d xn = L at *
  generalize cmS xc xk d xn = S at *
  generalize cmB xc xk d xn = ok at *
  go_enter Try.func9, Try.ntmps9
  go_wp2_with fail
  refine (laws_toIntS ac capc xc _ (by omega) (Hic.out.below Hb0.out)).mono ?_
  rintro e w1 ⟨vcs, rfl, hocs, hb1⟩
  have hBcs := Hb0.out.size
  have hlocs : w.heap.size ≤ w.heap.size := Nat.le_refl _
  have Hltcs := Lib.hid hocs.lt
  have Hb1 := Lib.hid (below_step Hb0.out Hb0.out.size hb1)
  have hz1 := (hb1).size
  have Hcs := Lib.hid hocs; clear hocs
  obtain ⟨acs, ccs, rfl, _, _⟩ := Hcs.out.ints
  have hccs := Hcs.out.cap
  go_wp2_with fail
  refine (laws_toIntS ak capk xk _ (by omega) (Hik.out.below Hb1.out)).mono ?_
  rintro e w2 ⟨vks, rfl, hoks, hb2⟩
  have Hncs_ks := Lib.hid (own_apart Hcs.out hoks (Nat.le_refl _))
  have hBks := Hb1.out.size
  have hloks : w1.heap.size ≤ w1.heap.size := Nat.le_refl _
  have Hltks := Lib.hid hoks.lt
  have Hb2 := Lib.hid (below_step Hb1.out Hb1.out.size hb2)
  have Hcs := Lib.hid (Hcs.out.below hb2)
  have hz2 := (hb2).size
  have Hks := Lib.hid hoks; clear hoks
  obtain ⟨aks, cks, rfl, _, _⟩ := Hks.out.ints
  have hcks := Hks.out.cap
  go_wp2_with fail
  refine (laws_toIntS an capn xn _ (by omega) (Hin.out.below Hb2.out)).mono ?_
  rintro e w3 ⟨vns, rfl, hons, hb3⟩
  have Hncs_ns := Lib.hid (own_apart Hcs.out hons (Nat.le_refl _))
  have Hnks_ns := Lib.hid (own_apart Hks.out hons (Nat.le_refl _))
  have hBns := Hb2.out.size
  have hlons : w2.heap.size ≤ w2.heap.size := Nat.le_refl _
  have Hltns := Lib.hid hons.lt
  have Hb3 := Lib.hid (below_step Hb2.out Hb2.out.size hb3)
  have Hcs := Lib.hid (Hcs.out.below hb3)
  have Hks := Lib.hid (Hks.out.below hb3)
  have hz3 := (hb3).size
  have Hns := Lib.hid hons; clear hons
  obtain ⟨ans, cns, rfl, _, _⟩ := Hns.out.ints
  have hcns := Hns.out.cap
  go_wp2_with fail
  refine (Hspec.out acs ccs aks cks ans cns _ Hcs.out.at Hks.out.at Hns.out.at).mono ?_
  rintro e w4 ⟨vw0, rfl, how0, hb4⟩
  have Hncs_w0 := Lib.hid (own_apart Hcs.out how0 (Nat.le_refl _))
  have Hnks_w0 := Lib.hid (own_apart Hks.out how0 (Nat.le_refl _))
  have Hnns_w0 := Lib.hid (own_apart Hns.out how0 (Nat.le_refl _))
  have hBw0 := Hb3.out.size
  have hlow0 : w3.heap.size ≤ w3.heap.size := Nat.le_refl _
  have Hltw0 := Lib.hid how0.lt
  have Hb4 := Lib.hid (below_step Hb3.out Hb3.out.size hb4)
  have Hcs := Lib.hid (Hcs.out.below hb4)
  have Hks := Lib.hid (Hks.out.below hb4)
  have Hns := Lib.hid (Hns.out.below hb4)
  have hz4 := (hb4).size
  have Hw0 := Lib.hid how0; clear how0
  obtain ⟨aw0, cw0, rfl, _, _⟩ := Hw0.out.ints
  have hcw0 := Hw0.out.cap
  clear Hcs
  clear Hks
  clear Hns
  have hAw : Below w4.heap.size w4 (w4.alloc (.cells #[.int .i64 D, .slice aw0 L.length cw0, .int .i64 S] 37)) := (Below.refl _ _).alloc (Nat.le_refl _) _
  have sNw := Str.new w4 37 #[.int .i64 D, .slice aw0 L.length cw0, .int .i64 S]
  have hzAw : (w4.alloc (.cells #[.int .i64 D, .slice aw0 L.length cw0, .int .i64 S] 37)).heap.size = w4.heap.size + 1 := by simp
  have hbsw : w4.heap.size ≤ w4.heap.size := Nat.le_refl _
  have Hb5 := Lib.hid (below_step Hb4.out Hb4.out.size hAw)
  have Hw0 := Lib.hid (Hw0.out.below hAw)
  have Sw := Lib.hid sNw; clear sNw
  clear hAw
  go_wp2_with fail
  generalize w4.alloc (.cells #[.int .i64 D, .slice aw0 L.length cw0, .int .i64 S] 37) = w5 at *
  refine (laws_toIntS ac capc xc _ (by omega) (Hic.out.below Hb5.out)).mono ?_
  rintro e w6 ⟨vcx, rfl, hocx, hb6⟩
  have Hnw0_cx := Lib.hid (own_apart Hw0.out hocx (Nat.le_refl _))
  have hBcx := Hb5.out.size
  have hlocx : w5.heap.size ≤ w5.heap.size := Nat.le_refl _
  have Hltcx := Lib.hid hocx.lt
  have Hb6 := Lib.hid (below_step Hb5.out Hb5.out.size hb6)
  have Hw0 := Lib.hid (Hw0.out.below hb6)
  have hz6 := (hb6).size
  have Sw := Lib.hid (show Str w6 w4.heap.size 37 #[.int .i64 D, .slice aw0 L.length cw0, .int .i64 S] from ((hb6).block _ Sw.out.lt).trans Sw.out)
  have Hcx := Lib.hid hocx; clear hocx
  obtain ⟨acx, ccx, rfl, _, _⟩ := Hcx.out.ints
  have hccx := Hcx.out.cap
  go_wp2_with fail
  refine (laws_toIntS ak capk xk _ (by omega) (Hik.out.below Hb6.out)).mono ?_
  rintro e w7 ⟨vkx, rfl, hokx, hb7⟩
  have Hnw0_kx := Lib.hid (own_apart Hw0.out hokx (Nat.le_refl _))
  have Hncx_kx := Lib.hid (own_apart Hcx.out hokx (Nat.le_refl _))
  have hBkx := Hb6.out.size
  have hlokx : w6.heap.size ≤ w6.heap.size := Nat.le_refl _
  have Hltkx := Lib.hid hokx.lt
  have Hb7 := Lib.hid (below_step Hb6.out Hb6.out.size hb7)
  have Hw0 := Lib.hid (Hw0.out.below hb7)
  have Hcx := Lib.hid (Hcx.out.below hb7)
  have hz7 := (hb7).size
  have Sw := Lib.hid (show Str w7 w4.heap.size 37 #[.int .i64 D, .slice aw0 L.length cw0, .int .i64 S] from ((hb7).block _ Sw.out.lt).trans Sw.out)
  have Hkx := Lib.hid hokx; clear hokx
  obtain ⟨akx, ckx, rfl, _, _⟩ := Hkx.out.ints
  have hckx := Hkx.out.cap
  go_wp2_with fail
  refine (laws_toIntS an capn xn _ (by omega) (Hin.out.below Hb7.out)).mono ?_
  rintro e w8 ⟨vnx, rfl, honx, hb8⟩
  have Hnw0_nx := Lib.hid (own_apart Hw0.out honx (Nat.le_refl _))
  have Hncx_nx := Lib.hid (own_apart Hcx.out honx (Nat.le_refl _))
  have Hnkx_nx := Lib.hid (own_apart Hkx.out honx (Nat.le_refl _))
  have hBnx := Hb7.out.size
  have hlonx : w7.heap.size ≤ w7.heap.size := Nat.le_refl _
  have Hltnx := Lib.hid honx.lt
  have Hb8 := Lib.hid (below_step Hb7.out Hb7.out.size hb8)
  have Hw0 := Lib.hid (Hw0.out.below hb8)
  have Hcx := Lib.hid (Hcx.out.below hb8)
  have Hkx := Lib.hid (Hkx.out.below hb8)
  have hz8 := (hb8).size
  have Sw := Lib.hid (show Str w8 w4.heap.size 37 #[.int .i64 D, .slice aw0 L.length cw0, .int .i64 S] from ((hb8).block _ Sw.out.lt).trans Sw.out)
  have Hnx := Lib.hid honx; clear honx
  obtain ⟨anx, cnx, rfl, _, _⟩ := Hnx.out.ints
  have hcnx := Hnx.out.cap
  go_wp2_with fail
  refine (Himpl.out acx ccx akx ckx anx cnx _ Hcx.out.at Hkx.out.at Hnx.out.at).mono ?_
  rintro e w9 ⟨vg0, rfl, hog0, hb9⟩
  have Hnw0_g0 := Lib.hid (own_apart Hw0.out hog0 (Nat.le_refl _))
  have Hncx_g0 := Lib.hid (own_apart Hcx.out hog0 (Nat.le_refl _))
  have Hnkx_g0 := Lib.hid (own_apart Hkx.out hog0 (Nat.le_refl _))
  have Hnnx_g0 := Lib.hid (own_apart Hnx.out hog0 (Nat.le_refl _))
  have hBg0 := Hb8.out.size
  have hlog0 : w8.heap.size ≤ w8.heap.size := Nat.le_refl _
  have Hltg0 := Lib.hid hog0.lt
  have Hb9 := Lib.hid (below_step Hb8.out Hb8.out.size hb9)
  have Hw0 := Lib.hid (Hw0.out.below hb9)
  have Hcx := Lib.hid (Hcx.out.below hb9)
  have Hkx := Lib.hid (Hkx.out.below hb9)
  have Hnx := Lib.hid (Hnx.out.below hb9)
  have hz9 := (hb9).size
  have Sw := Lib.hid (show Str w9 w4.heap.size 37 #[.int .i64 D, .slice aw0 L.length cw0, .int .i64 S] from ((hb9).block _ Sw.out.lt).trans Sw.out)
  have Hg0 := Lib.hid hog0; clear hog0
  obtain ⟨ag0, cg0, rfl, _, _⟩ := Hg0.out.ints
  have hcg0 := Hg0.out.cap
  have hAg : Below w9.heap.size w9 (w9.alloc (.cells #[.int .i64 D, .slice ag0 L.length cg0, .int .i64 S] 37)) := (Below.refl _ _).alloc (Nat.le_refl _) _
  have sNg := Str.new w9 37 #[.int .i64 D, .slice ag0 L.length cg0, .int .i64 S]
  have hzAg : (w9.alloc (.cells #[.int .i64 D, .slice ag0 L.length cg0, .int .i64 S] 37)).heap.size = w9.heap.size + 1 := by simp
  have hbsg : w9.heap.size ≤ w9.heap.size := Nat.le_refl _
  have Hb10 := Lib.hid (below_step Hb9.out Hb9.out.size hAg)
  have Hw0 := Lib.hid (Hw0.out.below hAg)
  have Hcx := Lib.hid (Hcx.out.below hAg)
  have Hkx := Lib.hid (Hkx.out.below hAg)
  have Hnx := Lib.hid (Hnx.out.below hAg)
  have Hg0 := Lib.hid (Hg0.out.below hAg)
  have Sw := Lib.hid (show Str (w9.alloc (.cells #[.int .i64 D, .slice ag0 L.length cg0, .int .i64 S] 37)) w4.heap.size 37 #[.int .i64 D, .slice aw0 L.length cw0, .int .i64 S] from (hAg.block _ Sw.out.lt).trans Sw.out)
  have Sg := Lib.hid sNg; clear sNg
  clear hAg
  have qg_0 := Sg.out.cell 0 (v := .int .i64 D) rfl
  have qg_1 := Sg.out.cell 1 (v := .slice ag0 L.length cg0) rfl
  have qg_2 := Sg.out.cell 2 (v := .int .i64 S) rfl
  have qw_0 := Sw.out.cell 0 (v := .int .i64 D) rfl
  have qw_1 := Sw.out.cell 1 (v := .slice aw0 L.length cw0) rfl
  have qw_2 := Sw.out.cell 2 (v := .int .i64 S) rfl
  go_wp2_with fail
  generalize w9.alloc (.cells #[.int .i64 D, .slice ag0 L.length cg0, .int .i64 S] 37) = w10 at *
  refine (laws_eqCert' D S ag0 aw0 cg0 cw0 L w10 (by omega) Hg0.out.at Hw0.out.at).mono ?_
  rintro e w11 ⟨rfl, hb11⟩
  have Hb11 := Lib.hid (below_step Hb10.out Hb10.out.size hb11)
  have Hw0 := Lib.hid (Hw0.out.below hb11)
  have Hcx := Lib.hid (Hcx.out.below hb11)
  have Hkx := Lib.hid (Hkx.out.below hb11)
  have Hnx := Lib.hid (Hnx.out.below hb11)
  have Hg0 := Lib.hid (Hg0.out.below hb11)
  have hz11 := (hb11).size
  have Sw := Lib.hid (show Str w11 w4.heap.size 37 #[.int .i64 D, .slice aw0 L.length cw0, .int .i64 S] from ((hb11).block _ Sw.out.lt).trans Sw.out)
  have Sg := Lib.hid (show Str w11 w9.heap.size 37 #[.int .i64 D, .slice ag0 L.length cg0, .int .i64 S] from ((hb11).block _ Sg.out.lt).trans Sg.out)
  clear qg_0 qg_1 qg_2 qw_0 qw_1 qw_2
  go_wp2_with fail
  refine (laws_toIntS ac capc xc _ (by omega) (Hic.out.below Hb11.out)).mono ?_
  rintro e w12 ⟨vcy, rfl, hocy, hb12⟩
  have Hnw0_cy := Lib.hid (own_apart Hw0.out hocy (Nat.le_refl _))
  have Hncx_cy := Lib.hid (own_apart Hcx.out hocy (Nat.le_refl _))
  have Hnkx_cy := Lib.hid (own_apart Hkx.out hocy (Nat.le_refl _))
  have Hnnx_cy := Lib.hid (own_apart Hnx.out hocy (Nat.le_refl _))
  have Hng0_cy := Lib.hid (own_apart Hg0.out hocy (Nat.le_refl _))
  have hBcy := Hb11.out.size
  have hlocy : w11.heap.size ≤ w11.heap.size := Nat.le_refl _
  have Hltcy := Lib.hid hocy.lt
  have Hb12 := Lib.hid (below_step Hb11.out Hb11.out.size hb12)
  have Hw0 := Lib.hid (Hw0.out.below hb12)
  have Hcx := Lib.hid (Hcx.out.below hb12)
  have Hkx := Lib.hid (Hkx.out.below hb12)
  have Hnx := Lib.hid (Hnx.out.below hb12)
  have Hg0 := Lib.hid (Hg0.out.below hb12)
  have hz12 := (hb12).size
  have Sw := Lib.hid (show Str w12 w4.heap.size 37 #[.int .i64 D, .slice aw0 L.length cw0, .int .i64 S] from ((hb12).block _ Sw.out.lt).trans Sw.out)
  have Sg := Lib.hid (show Str w12 w9.heap.size 37 #[.int .i64 D, .slice ag0 L.length cg0, .int .i64 S] from ((hb12).block _ Sg.out.lt).trans Sg.out)
  have Hcy := Lib.hid hocy; clear hocy
  obtain ⟨acy, ccy, rfl, _, _⟩ := Hcy.out.ints
  have hccy := Hcy.out.cap
  go_wp2_with fail
  refine (laws_eqIntS' acx acy ccx ccy xc w12 (by omega) Hcx.out.at Hcy.out.at).mono ?_
  rintro e w13 ⟨rfl, hb13⟩
  have Hb13 := Lib.hid (below_step Hb12.out Hb12.out.size (hb13.below w12.heap.size))
  have Hw0 := Lib.hid (Hw0.out.below (hb13.below w12.heap.size))
  have Hcx := Lib.hid (Hcx.out.below (hb13.below w12.heap.size))
  have Hkx := Lib.hid (Hkx.out.below (hb13.below w12.heap.size))
  have Hnx := Lib.hid (Hnx.out.below (hb13.below w12.heap.size))
  have Hg0 := Lib.hid (Hg0.out.below (hb13.below w12.heap.size))
  have Hcy := Lib.hid (Hcy.out.below (hb13.below w12.heap.size))
  have hz13 := ((hb13.below w12.heap.size)).size
  have Sw := Lib.hid (show Str w13 w4.heap.size 37 #[.int .i64 D, .slice aw0 L.length cw0, .int .i64 S] from (((hb13.below w12.heap.size)).block _ Sw.out.lt).trans Sw.out)
  have Sg := Lib.hid (show Str w13 w9.heap.size 37 #[.int .i64 D, .slice ag0 L.length cg0, .int .i64 S] from (((hb13.below w12.heap.size)).block _ Sg.out.lt).trans Sg.out)
  clear Hcy
  go_wp2_with fail
  refine (laws_toIntS ak capk xk _ (by omega) (Hik.out.below Hb13.out)).mono ?_
  rintro e w14 ⟨vky, rfl, hoky, hb14⟩
  have Hnw0_ky := Lib.hid (own_apart Hw0.out hoky (Nat.le_refl _))
  have Hncx_ky := Lib.hid (own_apart Hcx.out hoky (Nat.le_refl _))
  have Hnkx_ky := Lib.hid (own_apart Hkx.out hoky (Nat.le_refl _))
  have Hnnx_ky := Lib.hid (own_apart Hnx.out hoky (Nat.le_refl _))
  have Hng0_ky := Lib.hid (own_apart Hg0.out hoky (Nat.le_refl _))
  have hBky := Hb13.out.size
  have hloky : w13.heap.size ≤ w13.heap.size := Nat.le_refl _
  have Hltky := Lib.hid hoky.lt
  have Hb14 := Lib.hid (below_step Hb13.out Hb13.out.size hb14)
  have Hw0 := Lib.hid (Hw0.out.below hb14)
  have Hcx := Lib.hid (Hcx.out.below hb14)
  have Hkx := Lib.hid (Hkx.out.below hb14)
  have Hnx := Lib.hid (Hnx.out.below hb14)
  have Hg0 := Lib.hid (Hg0.out.below hb14)
  have hz14 := (hb14).size
  have Sw := Lib.hid (show Str w14 w4.heap.size 37 #[.int .i64 D, .slice aw0 L.length cw0, .int .i64 S] from ((hb14).block _ Sw.out.lt).trans Sw.out)
  have Sg := Lib.hid (show Str w14 w9.heap.size 37 #[.int .i64 D, .slice ag0 L.length cg0, .int .i64 S] from ((hb14).block _ Sg.out.lt).trans Sg.out)
  have Hky := Lib.hid hoky; clear hoky
  obtain ⟨aky, cky, rfl, _, _⟩ := Hky.out.ints
  have hcky := Hky.out.cap
  go_wp2_with fail
  refine (laws_eqIntS' akx aky ckx cky xk w14 (by omega) Hkx.out.at Hky.out.at).mono ?_
  rintro e w15 ⟨rfl, hb15⟩
  have Hb15 := Lib.hid (below_step Hb14.out Hb14.out.size (hb15.below w14.heap.size))
  have Hw0 := Lib.hid (Hw0.out.below (hb15.below w14.heap.size))
  have Hcx := Lib.hid (Hcx.out.below (hb15.below w14.heap.size))
  have Hkx := Lib.hid (Hkx.out.below (hb15.below w14.heap.size))
  have Hnx := Lib.hid (Hnx.out.below (hb15.below w14.heap.size))
  have Hg0 := Lib.hid (Hg0.out.below (hb15.below w14.heap.size))
  have Hky := Lib.hid (Hky.out.below (hb15.below w14.heap.size))
  have hz15 := ((hb15.below w14.heap.size)).size
  have Sw := Lib.hid (show Str w15 w4.heap.size 37 #[.int .i64 D, .slice aw0 L.length cw0, .int .i64 S] from (((hb15.below w14.heap.size)).block _ Sw.out.lt).trans Sw.out)
  have Sg := Lib.hid (show Str w15 w9.heap.size 37 #[.int .i64 D, .slice ag0 L.length cg0, .int .i64 S] from (((hb15.below w14.heap.size)).block _ Sg.out.lt).trans Sg.out)
  clear Hky
  go_wp2_with fail
  refine (laws_toIntS an capn xn _ (by omega) (Hin.out.below Hb15.out)).mono ?_
  rintro e w16 ⟨vny, rfl, hony, hb16⟩
  have Hnw0_ny := Lib.hid (own_apart Hw0.out hony (Nat.le_refl _))
  have Hncx_ny := Lib.hid (own_apart Hcx.out hony (Nat.le_refl _))
  have Hnkx_ny := Lib.hid (own_apart Hkx.out hony (Nat.le_refl _))
  have Hnnx_ny := Lib.hid (own_apart Hnx.out hony (Nat.le_refl _))
  have Hng0_ny := Lib.hid (own_apart Hg0.out hony (Nat.le_refl _))
  have hBny := Hb15.out.size
  have hlony : w15.heap.size ≤ w15.heap.size := Nat.le_refl _
  have Hltny := Lib.hid hony.lt
  have Hb16 := Lib.hid (below_step Hb15.out Hb15.out.size hb16)
  have Hw0 := Lib.hid (Hw0.out.below hb16)
  have Hcx := Lib.hid (Hcx.out.below hb16)
  have Hkx := Lib.hid (Hkx.out.below hb16)
  have Hnx := Lib.hid (Hnx.out.below hb16)
  have Hg0 := Lib.hid (Hg0.out.below hb16)
  have hz16 := (hb16).size
  have Sw := Lib.hid (show Str w16 w4.heap.size 37 #[.int .i64 D, .slice aw0 L.length cw0, .int .i64 S] from ((hb16).block _ Sw.out.lt).trans Sw.out)
  have Sg := Lib.hid (show Str w16 w9.heap.size 37 #[.int .i64 D, .slice ag0 L.length cg0, .int .i64 S] from ((hb16).block _ Sg.out.lt).trans Sg.out)
  have Hny := Lib.hid hony; clear hony
  obtain ⟨any, cny, rfl, _, _⟩ := Hny.out.ints
  have hcny := Hny.out.cap
  go_wp2_with fail
  refine (laws_eqIntS' anx any cnx cny xn w16 (by omega) Hnx.out.at Hny.out.at).mono ?_
  rintro e w17 ⟨rfl, hb17⟩
  have Hb17 := Lib.hid (below_step Hb16.out Hb16.out.size (hb17.below w16.heap.size))
  have Hw0 := Lib.hid (Hw0.out.below (hb17.below w16.heap.size))
  have Hcx := Lib.hid (Hcx.out.below (hb17.below w16.heap.size))
  have Hkx := Lib.hid (Hkx.out.below (hb17.below w16.heap.size))
  have Hnx := Lib.hid (Hnx.out.below (hb17.below w16.heap.size))
  have Hg0 := Lib.hid (Hg0.out.below (hb17.below w16.heap.size))
  have Hny := Lib.hid (Hny.out.below (hb17.below w16.heap.size))
  have hz17 := ((hb17.below w16.heap.size)).size
  have Sw := Lib.hid (show Str w17 w4.heap.size 37 #[.int .i64 D, .slice aw0 L.length cw0, .int .i64 S] from (((hb17.below w16.heap.size)).block _ Sw.out.lt).trans Sw.out)
  have Sg := Lib.hid (show Str w17 w9.heap.size 37 #[.int .i64 D, .slice ag0 L.length cg0, .int .i64 S] from (((hb17.below w16.heap.size)).block _ Sg.out.lt).trans Sg.out)
  clear Hny
  go_wp2_with fail
  refine (laws_markIntS _ xc (1) w5.heap.size w17 (by omega) (by omega) Hcx.out).mono ?_
  rintro e w18 ⟨rfl, ho, hg18⟩
  have hz18 := hg18.size
  have Hb18 := Lib.hid (below_row Hb17.out Hb17.out.size hg18 Hcx.out (by first | exact hBcx | omega))
  have Hw0 := Lib.hid (Hw0.out.kept hg18 Hnw0_cx.out.1)
  have Hkx := Lib.hid (Hkx.out.kept hg18 Hncx_kx.out.2)
  have Hnx := Lib.hid (Hnx.out.kept hg18 Hncx_nx.out.2)
  have Hg0 := Lib.hid (Hg0.out.kept hg18 Hncx_g0.out.2)
  have Sw := Lib.hid (Sw.out.kept hg18 (fun e => by have h1 := (Hcx.out.lt _ e.symm).1; have h2 := Hltcx.out _ e.symm; omega))
  have Sg := Lib.hid (Sg.out.kept hg18 (fun e => by have h1 := (Hcx.out.lt _ e.symm).1; have h2 := Hltcx.out _ e.symm; omega))
  have Hcx := Lib.hid ho; clear ho
  go_wp2_with fail
  refine (laws_markIntS _ xk (1 + xc.length) w6.heap.size w18 (by omega) (by omega) Hkx.out).mono ?_
  rintro e w19 ⟨rfl, ho, hg19⟩
  have hz19 := hg19.size
  have Hb19 := Lib.hid (below_row Hb18.out Hb18.out.size hg19 Hkx.out (by first | exact hBkx | omega))
  have Hw0 := Lib.hid (Hw0.out.kept hg19 Hnw0_kx.out.1)
  have Hcx := Lib.hid (Hcx.out.kept hg19 Hncx_kx.out.1)
  have Hnx := Lib.hid (Hnx.out.kept hg19 Hnkx_nx.out.2)
  have Hg0 := Lib.hid (Hg0.out.kept hg19 Hnkx_g0.out.2)
  have Sw := Lib.hid (Sw.out.kept hg19 (fun e => by have h1 := (Hkx.out.lt _ e.symm).1; have h2 := Hltkx.out _ e.symm; omega))
  have Sg := Lib.hid (Sg.out.kept hg19 (fun e => by have h1 := (Hkx.out.lt _ e.symm).1; have h2 := Hltkx.out _ e.symm; omega))
  have Hkx := Lib.hid ho; clear ho
  go_wp2_with fail
  refine (laws_markIntS _ xn (1 + xc.length + xk.length) w7.heap.size w19 (by omega) (by omega) Hnx.out).mono ?_
  rintro e w20 ⟨rfl, ho, hg20⟩
  have hz20 := hg20.size
  have Hb20 := Lib.hid (below_row Hb19.out Hb19.out.size hg20 Hnx.out (by first | exact hBnx | omega))
  have Hw0 := Lib.hid (Hw0.out.kept hg20 Hnw0_nx.out.1)
  have Hcx := Lib.hid (Hcx.out.kept hg20 Hncx_nx.out.1)
  have Hkx := Lib.hid (Hkx.out.kept hg20 Hnkx_nx.out.1)
  have Hg0 := Lib.hid (Hg0.out.kept hg20 Hnnx_g0.out.2)
  have Sw := Lib.hid (Sw.out.kept hg20 (fun e => by have h1 := (Hnx.out.lt _ e.symm).1; have h2 := Hltnx.out _ e.symm; omega))
  have Sg := Lib.hid (Sg.out.kept hg20 (fun e => by have h1 := (Hnx.out.lt _ e.symm).1; have h2 := Hltnx.out _ e.symm; omega))
  have Hnx := Lib.hid ho; clear ho
  have qg_0 := Sg.out.cell 0 (v := .int .i64 D) rfl
  have qg_1 := Sg.out.cell 1 (v := .slice ag0 L.length cg0) rfl
  have qg_2 := Sg.out.cell 2 (v := .int .i64 S) rfl
  have qw_0 := Sw.out.cell 0 (v := .int .i64 D) rfl
  have qw_1 := Sw.out.cell 1 (v := .slice aw0 L.length cw0) rfl
  have qw_2 := Sw.out.cell 2 (v := .int .i64 S) rfl
  have hkn : decide ((((1 + xc.length + xk.length + xn.length) : Nat) : Int) < 0) = false := decide_eq_false (by omega)
  go_wp2_with fail
  refine (laws_eqCert' D S ag0 aw0 cg0 cw0 L w20 (by omega) Hg0.out.at Hw0.out.at).mono ?_
  rintro e w21 ⟨rfl, hb21⟩
  have Hb21 := Lib.hid (below_step Hb20.out Hb20.out.size hb21)
  have Hw0 := Lib.hid (Hw0.out.below hb21)
  have Hcx := Lib.hid (Hcx.out.below hb21)
  have Hkx := Lib.hid (Hkx.out.below hb21)
  have Hnx := Lib.hid (Hnx.out.below hb21)
  have Hg0 := Lib.hid (Hg0.out.below hb21)
  have hz21 := (hb21).size
  have Sw := Lib.hid (show Str w21 w4.heap.size 37 #[.int .i64 D, .slice aw0 L.length cw0, .int .i64 S] from ((hb21).block _ Sw.out.lt).trans Sw.out)
  have Sg := Lib.hid (show Str w21 w9.heap.size 37 #[.int .i64 D, .slice ag0 L.length cg0, .int .i64 S] from ((hb21).block _ Sg.out.lt).trans Sg.out)
  clear qg_0 qg_1 qg_2 qw_0 qw_1 qw_2
  have qg_0 := Sg.out.cell 0 (v := .int .i64 D) rfl
  have qg_1 := Sg.out.cell 1 (v := .slice ag0 L.length cg0) rfl
  have qg_2 := Sg.out.cell 2 (v := .int .i64 S) rfl
  go_wp2_with fail
  refine (laws_markCert D S _ L 1 w8.heap.size w21 (by omega) (by omega) Hg0.out).mono ?_
  rintro e w22 ⟨rfl, ho, hg22⟩
  have hg22' := grownBy_trans (World.grownBy_alloc w21 (.cells #[.int .i64 D, .slice ag0 L.length cg0, .int .i64 S] 37) (Value.slice ag0 L.length cg0).ownBlock) hg22
  have hz22 := hg22'.size
  clear qg_0 qg_1 qg_2
  have Hb22 := Lib.hid (below_row Hb21.out Hb21.out.size hg22' Hg0.out (by first | exact hBg0 | omega))
  have Hw0 := Lib.hid (Hw0.out.kept hg22' Hnw0_g0.out.1)
  have Hcx := Lib.hid (Hcx.out.kept hg22' Hncx_g0.out.1)
  have Hkx := Lib.hid (Hkx.out.kept hg22' Hnkx_g0.out.1)
  have Hnx := Lib.hid (Hnx.out.kept hg22' Hnnx_g0.out.1)
  have Sw := Lib.hid (Sw.out.kept hg22' (fun e => by have h1 := (Hg0.out.lt _ e.symm).1; have h2 := Hltg0.out _ e.symm; omega))
  have Sg := Lib.hid (Sg.out.kept hg22' (fun e => by have h1 := (Hg0.out.lt _ e.symm).1; have h2 := Hltg0.out _ e.symm; omega))
  have Hg0 := Lib.hid ho; clear ho
  clear hg22
  have hmm : decide (((1 + L.length : Nat) : Int) < 0) = false := decide_eq_false (by omega)
  have qg_0 := Sg.out.cell 0 (v := .int .i64 D) rfl
  have qg_1 := Sg.out.cell 1 (v := .slice ag0 L.length cg0) rfl
  have qg_2 := Sg.out.cell 2 (v := .int .i64 S) rfl
  go_wp2_with fail
  refine (laws_heldCert D S ag0 cg0 1 L.length w22 (by omega) (by omega) Hg0.out.at).mono ?_
  rintro e w23 ⟨rfl, hb23⟩
  have Hb23 := Lib.hid (below_step Hb22.out Hb22.out.size hb23)
  have Hw0 := Lib.hid (Hw0.out.below hb23)
  have Hcx := Lib.hid (Hcx.out.below hb23)
  have Hkx := Lib.hid (Hkx.out.below hb23)
  have Hnx := Lib.hid (Hnx.out.below hb23)
  have Hg0 := Lib.hid (Hg0.out.below hb23)
  have hz23 := (hb23).size
  have Sw := Lib.hid (show Str w23 w4.heap.size 37 #[.int .i64 D, .slice aw0 L.length cw0, .int .i64 S] from ((hb23).block _ Sw.out.lt).trans Sw.out)
  have Sg := Lib.hid (show Str w23 w9.heap.size 37 #[.int .i64 D, .slice ag0 L.length cg0, .int .i64 S] from ((hb23).block _ Sg.out.lt).trans Sg.out)
  clear qg_0 qg_1 qg_2
  clear Hcx
  clear Hkx
  clear Hnx
  go_wp2_with fail
  refine (laws_toIntS ac capc xc _ (by omega) (Hic.out.below Hb23.out)).mono ?_
  rintro e w24 ⟨vcz, rfl, hocz, hb24⟩
  have Hnw0_cz := Lib.hid (own_apart Hw0.out hocz (Nat.le_refl _))
  have Hng0_cz := Lib.hid (own_apart Hg0.out hocz (Nat.le_refl _))
  have hBcz := Hb23.out.size
  have hlocz : w23.heap.size ≤ w23.heap.size := Nat.le_refl _
  have Hltcz := Lib.hid hocz.lt
  have Hb24 := Lib.hid (below_step Hb23.out Hb23.out.size hb24)
  have Hw0 := Lib.hid (Hw0.out.below hb24)
  have Hg0 := Lib.hid (Hg0.out.below hb24)
  have hz24 := (hb24).size
  have Sw := Lib.hid (show Str w24 w4.heap.size 37 #[.int .i64 D, .slice aw0 L.length cw0, .int .i64 S] from ((hb24).block _ Sw.out.lt).trans Sw.out)
  have Sg := Lib.hid (show Str w24 w9.heap.size 37 #[.int .i64 D, .slice ag0 L.length cg0, .int .i64 S] from ((hb24).block _ Sg.out.lt).trans Sg.out)
  have Hcz := Lib.hid hocz; clear hocz
  obtain ⟨acz, ccz, rfl, _, _⟩ := Hcz.out.ints
  have hccz := Hcz.out.cap
  go_wp2_with fail
  refine (laws_toIntS ak capk xk _ (by omega) (Hik.out.below Hb24.out)).mono ?_
  rintro e w25 ⟨vkz, rfl, hokz, hb25⟩
  have Hnw0_kz := Lib.hid (own_apart Hw0.out hokz (Nat.le_refl _))
  have Hng0_kz := Lib.hid (own_apart Hg0.out hokz (Nat.le_refl _))
  have Hncz_kz := Lib.hid (own_apart Hcz.out hokz (Nat.le_refl _))
  have hBkz := Hb24.out.size
  have hlokz : w24.heap.size ≤ w24.heap.size := Nat.le_refl _
  have Hltkz := Lib.hid hokz.lt
  have Hb25 := Lib.hid (below_step Hb24.out Hb24.out.size hb25)
  have Hw0 := Lib.hid (Hw0.out.below hb25)
  have Hg0 := Lib.hid (Hg0.out.below hb25)
  have Hcz := Lib.hid (Hcz.out.below hb25)
  have hz25 := (hb25).size
  have Sw := Lib.hid (show Str w25 w4.heap.size 37 #[.int .i64 D, .slice aw0 L.length cw0, .int .i64 S] from ((hb25).block _ Sw.out.lt).trans Sw.out)
  have Sg := Lib.hid (show Str w25 w9.heap.size 37 #[.int .i64 D, .slice ag0 L.length cg0, .int .i64 S] from ((hb25).block _ Sg.out.lt).trans Sg.out)
  have Hkz := Lib.hid hokz; clear hokz
  obtain ⟨akz, ckz, rfl, _, _⟩ := Hkz.out.ints
  have hckz := Hkz.out.cap
  go_wp2_with fail
  refine (laws_toIntS an capn xn _ (by omega) (Hin.out.below Hb25.out)).mono ?_
  rintro e w26 ⟨vnz, rfl, honz, hb26⟩
  have Hnw0_nz := Lib.hid (own_apart Hw0.out honz (Nat.le_refl _))
  have Hng0_nz := Lib.hid (own_apart Hg0.out honz (Nat.le_refl _))
  have Hncz_nz := Lib.hid (own_apart Hcz.out honz (Nat.le_refl _))
  have Hnkz_nz := Lib.hid (own_apart Hkz.out honz (Nat.le_refl _))
  have hBnz := Hb25.out.size
  have hlonz : w25.heap.size ≤ w25.heap.size := Nat.le_refl _
  have Hltnz := Lib.hid honz.lt
  have Hb26 := Lib.hid (below_step Hb25.out Hb25.out.size hb26)
  have Hw0 := Lib.hid (Hw0.out.below hb26)
  have Hg0 := Lib.hid (Hg0.out.below hb26)
  have Hcz := Lib.hid (Hcz.out.below hb26)
  have Hkz := Lib.hid (Hkz.out.below hb26)
  have hz26 := (hb26).size
  have Sw := Lib.hid (show Str w26 w4.heap.size 37 #[.int .i64 D, .slice aw0 L.length cw0, .int .i64 S] from ((hb26).block _ Sw.out.lt).trans Sw.out)
  have Sg := Lib.hid (show Str w26 w9.heap.size 37 #[.int .i64 D, .slice ag0 L.length cg0, .int .i64 S] from ((hb26).block _ Sg.out.lt).trans Sg.out)
  have Hnz := Lib.hid honz; clear honz
  obtain ⟨anz, cnz, rfl, _, _⟩ := Hnz.out.ints
  have hcnz := Hnz.out.cap
  go_wp2_with fail
  refine (Himpl.out acz ccz akz ckz anz cnz _ Hcz.out.at Hkz.out.at Hnz.out.at).mono ?_
  rintro e w27 ⟨vh0, rfl, hoh0, hb27⟩
  have Hnw0_h0 := Lib.hid (own_apart Hw0.out hoh0 (Nat.le_refl _))
  have Hng0_h0 := Lib.hid (own_apart Hg0.out hoh0 (Nat.le_refl _))
  have Hncz_h0 := Lib.hid (own_apart Hcz.out hoh0 (Nat.le_refl _))
  have Hnkz_h0 := Lib.hid (own_apart Hkz.out hoh0 (Nat.le_refl _))
  have Hnnz_h0 := Lib.hid (own_apart Hnz.out hoh0 (Nat.le_refl _))
  have hBh0 := Hb26.out.size
  have hloh0 : w26.heap.size ≤ w26.heap.size := Nat.le_refl _
  have Hlth0 := Lib.hid hoh0.lt
  have Hb27 := Lib.hid (below_step Hb26.out Hb26.out.size hb27)
  have Hw0 := Lib.hid (Hw0.out.below hb27)
  have Hg0 := Lib.hid (Hg0.out.below hb27)
  have Hcz := Lib.hid (Hcz.out.below hb27)
  have Hkz := Lib.hid (Hkz.out.below hb27)
  have Hnz := Lib.hid (Hnz.out.below hb27)
  have hz27 := (hb27).size
  have Sw := Lib.hid (show Str w27 w4.heap.size 37 #[.int .i64 D, .slice aw0 L.length cw0, .int .i64 S] from ((hb27).block _ Sw.out.lt).trans Sw.out)
  have Sg := Lib.hid (show Str w27 w9.heap.size 37 #[.int .i64 D, .slice ag0 L.length cg0, .int .i64 S] from ((hb27).block _ Sg.out.lt).trans Sg.out)
  have Hh0 := Lib.hid hoh0; clear hoh0
  obtain ⟨ah0, ch0, rfl, _, _⟩ := Hh0.out.ints
  have hch0 := Hh0.out.cap
  have hAh : Below w27.heap.size w27 (w27.alloc (.cells #[.int .i64 D, .slice ah0 L.length ch0, .int .i64 S] 37)) := (Below.refl _ _).alloc (Nat.le_refl _) _
  have sNh := Str.new w27 37 #[.int .i64 D, .slice ah0 L.length ch0, .int .i64 S]
  have hzAh : (w27.alloc (.cells #[.int .i64 D, .slice ah0 L.length ch0, .int .i64 S] 37)).heap.size = w27.heap.size + 1 := by simp
  have hbsh : w27.heap.size ≤ w27.heap.size := Nat.le_refl _
  have Hb28 := Lib.hid (below_step Hb27.out Hb27.out.size hAh)
  have Hw0 := Lib.hid (Hw0.out.below hAh)
  have Hg0 := Lib.hid (Hg0.out.below hAh)
  have Hcz := Lib.hid (Hcz.out.below hAh)
  have Hkz := Lib.hid (Hkz.out.below hAh)
  have Hnz := Lib.hid (Hnz.out.below hAh)
  have Hh0 := Lib.hid (Hh0.out.below hAh)
  have Sw := Lib.hid (show Str (w27.alloc (.cells #[.int .i64 D, .slice ah0 L.length ch0, .int .i64 S] 37)) w4.heap.size 37 #[.int .i64 D, .slice aw0 L.length cw0, .int .i64 S] from (hAh.block _ Sw.out.lt).trans Sw.out)
  have Sg := Lib.hid (show Str (w27.alloc (.cells #[.int .i64 D, .slice ah0 L.length ch0, .int .i64 S] 37)) w9.heap.size 37 #[.int .i64 D, .slice ag0 L.length cg0, .int .i64 S] from (hAh.block _ Sg.out.lt).trans Sg.out)
  have Sh := Lib.hid sNh; clear sNh
  clear hAh
  have qh_0 := Sh.out.cell 0 (v := .int .i64 D) rfl
  have qh_1 := Sh.out.cell 1 (v := .slice ah0 L.length ch0) rfl
  have qh_2 := Sh.out.cell 2 (v := .int .i64 S) rfl
  have qw_0 := Sw.out.cell 0 (v := .int .i64 D) rfl
  have qw_1 := Sw.out.cell 1 (v := .slice aw0 L.length cw0) rfl
  have qw_2 := Sw.out.cell 2 (v := .int .i64 S) rfl
  go_wp2_with fail
  generalize w27.alloc (.cells #[.int .i64 D, .slice ah0 L.length ch0, .int .i64 S] 37) = w28 at *
  refine (laws_eqCert' D S ah0 aw0 ch0 cw0 L w28 (by omega) Hh0.out.at Hw0.out.at).mono ?_
  rintro e w29 ⟨rfl, hb29⟩
  have Hb29 := Lib.hid (below_step Hb28.out Hb28.out.size hb29)
  have Hw0 := Lib.hid (Hw0.out.below hb29)
  have Hg0 := Lib.hid (Hg0.out.below hb29)
  have Hcz := Lib.hid (Hcz.out.below hb29)
  have Hkz := Lib.hid (Hkz.out.below hb29)
  have Hnz := Lib.hid (Hnz.out.below hb29)
  have Hh0 := Lib.hid (Hh0.out.below hb29)
  have hz29 := (hb29).size
  have Sw := Lib.hid (show Str w29 w4.heap.size 37 #[.int .i64 D, .slice aw0 L.length cw0, .int .i64 S] from ((hb29).block _ Sw.out.lt).trans Sw.out)
  have Sg := Lib.hid (show Str w29 w9.heap.size 37 #[.int .i64 D, .slice ag0 L.length cg0, .int .i64 S] from ((hb29).block _ Sg.out.lt).trans Sg.out)
  have Sh := Lib.hid (show Str w29 w27.heap.size 37 #[.int .i64 D, .slice ah0 L.length ch0, .int .i64 S] from ((hb29).block _ Sh.out.lt).trans Sh.out)
  clear qh_0 qh_1 qh_2 qw_0 qw_1 qw_2
  have qg_0 := Sg.out.cell 0 (v := .int .i64 D) rfl
  have qg_1 := Sg.out.cell 1 (v := .slice ag0 L.length cg0) rfl
  have qg_2 := Sg.out.cell 2 (v := .int .i64 S) rfl
  go_wp2_with fail
  refine (laws_heldCert D S ag0 cg0 1 L.length w29 (by omega) (by omega) Hg0.out.at).mono ?_
  rintro e w30 ⟨rfl, hb30⟩
  have Hb30 := Lib.hid (below_step Hb29.out Hb29.out.size hb30)
  have Hw0 := Lib.hid (Hw0.out.below hb30)
  have Hg0 := Lib.hid (Hg0.out.below hb30)
  have Hcz := Lib.hid (Hcz.out.below hb30)
  have Hkz := Lib.hid (Hkz.out.below hb30)
  have Hnz := Lib.hid (Hnz.out.below hb30)
  have Hh0 := Lib.hid (Hh0.out.below hb30)
  have hz30 := (hb30).size
  have Sw := Lib.hid (show Str w30 w4.heap.size 37 #[.int .i64 D, .slice aw0 L.length cw0, .int .i64 S] from ((hb30).block _ Sw.out.lt).trans Sw.out)
  have Sg := Lib.hid (show Str w30 w9.heap.size 37 #[.int .i64 D, .slice ag0 L.length cg0, .int .i64 S] from ((hb30).block _ Sg.out.lt).trans Sg.out)
  have Sh := Lib.hid (show Str w30 w27.heap.size 37 #[.int .i64 D, .slice ah0 L.length ch0, .int .i64 S] from ((hb30).block _ Sh.out.lt).trans Sh.out)
  clear qg_0 qg_1 qg_2
  go_wp2
  go_ret
  exact ⟨by first | rfl | exact ret_bool (by simp), Hb30.out⟩

theorem fnExactCertMake_own : ownKnob Try.prog.godebug = none := by kernel_rfl
theorem fnExactCertMake_laidOut : laidOutB Try.prog = true := by kernel_rfl

set_option maxRecDepth 8000 in
theorem fnExactCertMake_lifted (os : Os) (started : os.Started) (H : Type) (enc : TypeId × Value → H) :
    ReturnsInHanded {} Try.checked os 9 .any (Rows.fnExactCertMakeSpec.pre6 enc Try.prog Try.f9 Rows.fnExactCertMakeRow.domain false) (Rows.fnExactCertMakeSpec.post enc Try.prog Try.f9 false true false false) := by
  refine law_lifted (C := Try.checked) (tb := 4) fnExactCertMake_own fnExactCertMake_laidOut started (by kernel_rfl) Try.func9 rfl Try.underlying4 rfl (by rw [Try.params9]; exact of_decide_eq_true (by kernel_rfl)) ?_
    (ChangeSpec.witness6 (enc := enc) (C := Try.checked) false ⟨#[], #[.slice none 0 0, .slice none 0 0, .int .i64 0, .slice none 0 0], []⟩ 8 (by kernel_rfl) (by kernel_rfl) (by kernel_rfl) (by kernel_rfl)) ?_
  · intro ds hds
    rw [Try.params9] at hds
    match ds, hds with
    | [d0, d1, d2, d3], _ => rfl
  · intro W base args ds p hval0 hA0
    have hval : ∀ (j : Nat) t v, Try.f9.params[j]? = some t → args[j]? = some v → Value.okWide Try.prog W .any base t v := hval0
    have hA : DataW.TrodAll enc Try.prog W 0 (fun _ => true) true Try.f9.params.toList args.toList ds p := hA0
    rw [Try.params9] at hA hval
    obtain ⟨v0, vs0, d0, ds0, p0, q0, hargs0, rfl, rfl, h0, r0⟩ := trodAll_cons hA
    obtain ⟨v1, vs1, d1, ds1, p1, q1, hargs1, rfl, rfl, h1, r1⟩ := trodAll_cons r0
    obtain ⟨v2, vs2, d2, ds2, p2, q2, hargs2, rfl, rfl, h2, r2⟩ := trodAll_cons r1
    obtain ⟨v3, vs3, d3, ds3, p3, q3, hargs3, rfl, rfl, h3, r3⟩ := trodAll_cons r2
    obtain ⟨hnil, rfl, rfl⟩ := trodAll_nil r3
    subst hnil
    subst hargs3
    subst hargs2
    subst hargs1
    obtain rfl : args = #[v0, v1, v2, v3] := by cases args; simp_all
    obtain ⟨a0, cap0, zs0, rfl, hk0, hm0, hi0, hw0⟩ := open_slice_ints Try.underlying26 Try.underlying3 (by kernel_rfl) (hval 0 26 v0 rfl rfl) h0
    obtain ⟨a1, cap1, zs1, rfl, hk1, hm1, hi1, hw1⟩ := open_slice_ints Try.underlying26 Try.underlying3 (by kernel_rfl) (hval 1 26 v1 rfl rfl) h1
    obtain ⟨n2, rfl, _, _, hw2⟩ := open_int Try.underlying3 (hval 2 3 v2 rfl rfl) h2
    obtain ⟨a3, cap3, zs3, rfl, hk3, hm3, hi3, hw3⟩ := open_slice_ints Try.underlying26 Try.underlying3 (by kernel_rfl) (hval 3 26 v3 rfl rfl) h3
    exact fnExactCertMake_walk a0 cap0 zs0 a1 cap1 zs1 n2 a3 cap3 zs3 W hk0 hm0 hi0 hw0 hk1 hm1 hi1 hw1 (wf_i64 hw2) hk3 hm3 hi3 hw3

set_option maxRecDepth 8000 in
theorem fnExactCertMake_holds : Rows.FnExactCertMakeSaid :=
  OpenClaim.holds_of_wide 9 Try.f9 rfl rfl rfl rfl rfl rfl rfl ⟨rfl, rfl, rfl, rfl, rfl⟩ rfl rfl rfl rfl rfl (by kernel_rfl) Try.func9 (by kernel_rfl)
    (of_decide_eq_true (by kernel_rfl)) (by unfold Func.isWrapper; first | (rw [if_pos (by decide +kernel)]; kernel_rfl) | (rw [if_neg (by decide +kernel)]; exact ⟨rfl, rfl⟩))
    (fun os started H enc _ => fnExactCertMake_lifted os started H enc)

end Go.Proofs.Yteglefchkecfjaa
