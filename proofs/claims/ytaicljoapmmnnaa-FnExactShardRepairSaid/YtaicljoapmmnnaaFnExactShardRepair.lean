/- The exact law of ShardRepair holds at every argument; no conditions of our own. -/
import Derived.Test.YtaicljoapmmnnaaRows
import Derived.Test.YtaicljoapmmnnaaBase
import Derived.Test.YtaicljoapmmnnaaLift
import Derived.Test.YtaicljoapmmnnaaApp
import Derived.Test.YtaicljoapmmnnaaDt
import Derived.Test.YtaicljoapmmnnaaOwR
import Derived.Test.YtaicljoapmmnnaaOwS
import Derived.Test.YtaicljoapmmnnaaRow
import Derived.Test.YtaicljoapmmnnaaEx
import Derived.Test.YtaicljoapmmnnaaL1
import Derived.Test.YtaicljoapmmnnaaL2
import Derived.Test.YtaicljoapmmnnaaM3
import Derived.Test.YtaicljoapmmnnaaM5
import Derived.Test.YtaicljoapmmnnaaC1
import Derived.Test.YtaicljoapmmnnaaX3
import Derived.Test.YtaicljoapmmnnaaRShard
import Derived.Test.YtaicljoapmmnnaaZ3
import Derived.Test.YtaicljoapmmnnaaR3
import Derived.Test.YtaicljoapmmnnaaEx3
namespace Go.Proofs.Ytaicljoapmmnnaa
open Go.ChangeShapes Go.WideShapes Go.ChangeAt Go.RowKit

set_option maxHeartbeats 2000000 in
theorem fnExactShardRepair_walk (size : Int) (need : Int) (vlist : Value) (eslist : List (List Fd)) (fplist : List Nat) (x : Int) (w : World) (_hsize : -9223372036854775808 ≤ size ∧ size ≤ 9223372036854775807) (_hneed : -9223372036854775808 ≤ need ∧ need ≤ 9223372036854775807) (hrlist : Rd w (rowsD eslist) vlist fplist) (hmlist : eslist.length ≤ maxLen) (hplist : ∀ e ∈ eslist, shardP e ∧ fitE e) (_hx : -9223372036854775808 ≤ x ∧ x ≤ 9223372036854775807) :
    Calls Try.prog 5 #[.int .i64 size, .int .i64 need, vlist, .int .i64 x] w fun e w' => e = .returned (.bool true) ∧ Below w.heap.size w w' := by
  obtain ⟨_hsize1, _hsize2⟩ := _hsize
  obtain ⟨_hneed1, _hneed2⟩ := _hneed
  unfold maxLen at hmlist
  obtain ⟨_hx1, _hx2⟩ := _hx
  have Hrlist := Lib.hid hrlist; clear hrlist
  have hplist1 : ∀ e ∈ eslist, shardP e := fun e he => (hplist e he).1
  have Hflist := Lib.hid (fun e he => (hplist e he).2); clear hplist
  have Hb0 := Lib.hid (Below.refl w.heap.size w)
  have Hszlist := Lib.hid (fun w (hr : Rd w (rowsD eslist) vlist fplist) => laws_szShardSR eslist vlist fplist (1048576) w (by omega) (by omega) hplist1 (fun e he xs hx => by have := ((Hflist.out e he).2 xs hx).1; unfold maxLen at this; omega) hr)
  go_enter Try.func5, Try.ntmps5
  go_wp2_with fail
  refine (Hszlist.out _ (Hrlist.out.under Hb0.out)).mono ?_
  rintro e w1 ⟨rfl, hb1⟩
  have Hb1 := Lib.hid (below_step Hb0.out Hb0.out.size hb1)
  have hz1 := (hb1).size
  have hkllist := kTo_bd (shardP_len hplist1) 1 eslist.length (Nat.le_refl _)
  clear hkllist
  by_cases hllist : eslist.length + lnTo eslist eslist.length ≤ 1048576
  case neg =>
    rw [if_neg hllist]
    go_wp2
    go_ret
    exact ⟨rfl, Hb1.out⟩
  rw [if_pos hllist]
  have hneglist : decide ((((1048576 - eslist.length - lnTo eslist eslist.length : Nat)) : Int) < 0) = false := decide_eq_false (by omega)
  have hngelist : ¬ (((1048576 - eslist.length - lnTo eslist eslist.length : Nat) : Int) < 0) := by omega
  have hinlist := lnTo_in (es := eslist) (m := 1048576) (by omega)
  have hkblist := fun k => kTo_bd (shardP_len hplist1) k eslist.length (Nat.le_refl _)
  have Hlnlist := Lib.hid (show ∀ e ∈ eslist, lnE e ≤ 1099511627776 from fun e he => Nat.le_trans (hinlist e he) (by omega))
  obtain ⟨L, rfl⟩ := rows_shards hplist1
  have hLn : (L.map shardF).length = L.length := by simp
  have hLl : ∀ s ∈ L, s.2.length ≤ 1048576 := fun s hs => Nat.le_trans (ln_in (e := shardF s) (Nat.le_refl _) (by simp [shardF])) (hinlist _ (List.mem_map_of_mem hs))
  have hD12 := repS_len size need L x
  have Hspec := Lib.hid (fun v f w (h : Rd w (rowsD (L.map shardF)) v f) => spec_ShardRepair size need L v x f w (by omega) hLl (rowsD_shards L ▸ h))
  have Himpl := Lib.hid (fun v f w (h : Rd w (rowsD (L.map shardF)) v f) => impl_ShardRepair size need L v x f w (by omega) hLl (rowsD_shards L ▸ h))
  generalize (repS size need L x).2 = D at *
  generalize (repS size need L x).1 = N at *
  generalize repB size need L x = ok at *
  clear hLl hLn
  generalize L.map shardF = eslist at *
  have Hinlist := Lib.hid hinlist; clear hinlist
  have Hkblist := Lib.hid hkblist; clear hkblist
  have Hplist := Lib.hid hplist1; clear hplist1
  go_wp2_with fail
  refine (laws_toShardSR eslist vlist fplist _ (by omega) Hplist.out Hinlist.out (Hrlist.out.under Hb1.out)).mono ?_
  rintro e w2 ⟨vlists, rfl, holists, hb2⟩
  have Hb2 := Lib.hid (below_step Hb1.out Hb1.out.size hb2)
  have hz2 := (hb2).size
  have Hlists := Lib.hid holists; clear holists
  have hhlists : w1.heap.size ≤ w1.heap.size := Nat.le_refl _
  have hjlists : w2.heap.size ≤ w2.heap.size := Nat.le_refl _
  obtain ⟨flists, hrlists⟩ := Hlists.out.reads
  go_wp2_with fail
  refine (Hspec.out vlists flists _ hrlists).mono ?_
  rintro e w3 ⟨vw0_1, rfl, how0_1, hb3⟩
  have Hb3 := Lib.hid (below_step Hb2.out Hb2.out.size hb3)
  have Hlists := Lib.hid (Hlists.out.below hb3 (by omega))
  have hz3 := (hb3).size
  have Hw0_1 := Lib.hid (OwnI.of how0_1); clear how0_1
  obtain ⟨aw0_1, cw0_1, rfl, _, _⟩ := Hw0_1.out.ints
  have hcw0_1 := Hw0_1.out.cap
  have hhw0_1 : w2.heap.size ≤ w2.heap.size := Nat.le_refl _
  have hjw0_1 : w3.heap.size ≤ w3.heap.size := Nat.le_refl _
  clear hrlists
  clear Hlists
  have hAw0 : Below w3.heap.size w3 (w3.alloc (.cells #[.int .i64 N, .slice aw0_1 D.length cw0_1] 30)) := (Below.refl _ _).alloc (Nat.le_refl _) _
  have sNw0 := Str.new w3 30 #[.int .i64 N, .slice aw0_1 D.length cw0_1]
  have hzAw0 : (w3.alloc (.cells #[.int .i64 N, .slice aw0_1 D.length cw0_1] 30)).heap.size = w3.heap.size + 1 := by simp
  have hbsw0 : w3.heap.size ≤ w3.heap.size := Nat.le_refl _
  have Hb4 := Lib.hid (below_step Hb3.out Hb3.out.size hAw0)
  have Hw0_1 := Lib.hid (Hw0_1.out.below hAw0)
  have Sw0 := Lib.hid sNw0; clear sNw0
  clear hAw0
  go_wp2_with fail
  generalize w3.alloc (.cells #[.int .i64 N, .slice aw0_1 D.length cw0_1] 30) = w4 at *
  refine (laws_toShardSR eslist vlist fplist _ (by omega) Hplist.out Hinlist.out (Hrlist.out.under Hb4.out)).mono ?_
  rintro e w5 ⟨vlistx, rfl, holistx, hb5⟩
  have Hb5 := Lib.hid (below_step Hb4.out Hb4.out.size hb5)
  have Hw0_1 := Lib.hid (Hw0_1.out.below hb5)
  have Sw0 := Lib.hid (show Str w5 w3.heap.size 30 #[.int .i64 N, .slice aw0_1 D.length cw0_1] from ((hb5).block _ Sw0.out.lt).trans Sw0.out)
  have hz5 := (hb5).size
  have Hlistx := Lib.hid holistx; clear holistx
  have hhlistx : w4.heap.size ≤ w4.heap.size := Nat.le_refl _
  have hjlistx : w5.heap.size ≤ w5.heap.size := Nat.le_refl _
  obtain ⟨flistx, hrlistx⟩ := Hlistx.out.reads
  go_wp2_with fail
  refine (Himpl.out vlistx flistx _ hrlistx).mono ?_
  rintro e w6 ⟨vg0_1, rfl, hog0_1, hb6⟩
  have Hb6 := Lib.hid (below_step Hb5.out Hb5.out.size hb6)
  have Hw0_1 := Lib.hid (Hw0_1.out.below hb6)
  have Hlistx := Lib.hid (Hlistx.out.below hb6 (by omega))
  have Sw0 := Lib.hid (show Str w6 w3.heap.size 30 #[.int .i64 N, .slice aw0_1 D.length cw0_1] from ((hb6).block _ Sw0.out.lt).trans Sw0.out)
  have hz6 := (hb6).size
  have Hg0_1 := Lib.hid (OwnI.of hog0_1); clear hog0_1
  obtain ⟨ag0_1, cg0_1, rfl, _, _⟩ := Hg0_1.out.ints
  have hcg0_1 := Hg0_1.out.cap
  have hhg0_1 : w5.heap.size ≤ w5.heap.size := Nat.le_refl _
  have hjg0_1 : w6.heap.size ≤ w6.heap.size := Nat.le_refl _
  clear hrlistx
  have hAg0 : Below w6.heap.size w6 (w6.alloc (.cells #[.int .i64 N, .slice ag0_1 D.length cg0_1] 30)) := (Below.refl _ _).alloc (Nat.le_refl _) _
  have sNg0 := Str.new w6 30 #[.int .i64 N, .slice ag0_1 D.length cg0_1]
  have hzAg0 : (w6.alloc (.cells #[.int .i64 N, .slice ag0_1 D.length cg0_1] 30)).heap.size = w6.heap.size + 1 := by simp
  have hbsg0 : w6.heap.size ≤ w6.heap.size := Nat.le_refl _
  have Hb7 := Lib.hid (below_step Hb6.out Hb6.out.size hAg0)
  have Hw0_1 := Lib.hid (Hw0_1.out.below hAg0)
  have Hlistx := Lib.hid (Hlistx.out.below hAg0 (by omega))
  have Hg0_1 := Lib.hid (Hg0_1.out.below hAg0)
  have Sw0 := Lib.hid (show Str (w6.alloc (.cells #[.int .i64 N, .slice ag0_1 D.length cg0_1] 30)) w3.heap.size 30 #[.int .i64 N, .slice aw0_1 D.length cw0_1] from (hAg0.block _ Sw0.out.lt).trans Sw0.out)
  have Sg0 := Lib.hid sNg0; clear sNg0
  clear hAg0
  have qg0_0 := Sg0.out.cell 0 (v := .int .i64 N) rfl
  have qg0_1 := Sg0.out.cell 1 (v := .slice ag0_1 D.length cg0_1) rfl
  have qw0_0 := Sw0.out.cell 0 (v := .int .i64 N) rfl
  have qw0_1 := Sw0.out.cell 1 (v := .slice aw0_1 D.length cw0_1) rfl
  go_wp2_with fail
  generalize w6.alloc (.cells #[.int .i64 N, .slice ag0_1 D.length cg0_1] 30) = w7 at *
  refine (laws_eqShardR ( N) ag0_1 aw0_1 cg0_1 cw0_1 D w7 (by omega) Hg0_1.out.at Hw0_1.out.at).mono ?_
  rintro e w8 ⟨rfl, hb8⟩
  have Hb8 := Lib.hid (below_step Hb7.out Hb7.out.size hb8)
  have Hw0_1 := Lib.hid (Hw0_1.out.below hb8)
  have Hlistx := Lib.hid (Hlistx.out.below hb8 (by omega))
  have Hg0_1 := Lib.hid (Hg0_1.out.below hb8)
  have Sw0 := Lib.hid (show Str w8 w3.heap.size 30 #[.int .i64 N, .slice aw0_1 D.length cw0_1] from ((hb8).block _ Sw0.out.lt).trans Sw0.out)
  have Sg0 := Lib.hid (show Str w8 w6.heap.size 30 #[.int .i64 N, .slice ag0_1 D.length cg0_1] from ((hb8).block _ Sg0.out.lt).trans Sg0.out)
  have hz8 := (hb8).size
  clear qg0_0 qg0_1 qw0_0 qw0_1
  go_wp2_with fail
  refine (laws_toShardSR eslist vlist fplist _ (by omega) Hplist.out Hinlist.out (Hrlist.out.under Hb8.out)).mono ?_
  rintro e w9 ⟨vlisty, rfl, holisty, hb9⟩
  have Hb9 := Lib.hid (below_step Hb8.out Hb8.out.size hb9)
  have Hw0_1 := Lib.hid (Hw0_1.out.below hb9)
  have Hlistx := Lib.hid (Hlistx.out.below hb9 (by omega))
  have Hg0_1 := Lib.hid (Hg0_1.out.below hb9)
  have Sw0 := Lib.hid (show Str w9 w3.heap.size 30 #[.int .i64 N, .slice aw0_1 D.length cw0_1] from ((hb9).block _ Sw0.out.lt).trans Sw0.out)
  have Sg0 := Lib.hid (show Str w9 w6.heap.size 30 #[.int .i64 N, .slice ag0_1 D.length cg0_1] from ((hb9).block _ Sg0.out.lt).trans Sg0.out)
  have hz9 := (hb9).size
  have Hlisty := Lib.hid holisty; clear holisty
  have hhlisty : w8.heap.size ≤ w8.heap.size := Nat.le_refl _
  have hjlisty : w9.heap.size ≤ w9.heap.size := Nat.le_refl _
  obtain ⟨flistx, hrlistx⟩ := Hlistx.out.reads
  obtain ⟨flisty, hrlisty⟩ := Hlisty.out.reads
  go_wp2_with fail
  refine (laws_eqShardSR eslist _ _ flistx flisty w9 (by omega) Hplist.out Hlnlist.out hrlistx hrlisty).mono ?_
  rintro e w10 ⟨rfl, hb10⟩
  have Hb10 := Lib.hid (below_step Hb9.out Hb9.out.size hb10)
  have Hw0_1 := Lib.hid (Hw0_1.out.below hb10)
  have Hlistx := Lib.hid (Hlistx.out.below hb10 (by omega))
  have Hg0_1 := Lib.hid (Hg0_1.out.below hb10)
  have Hlisty := Lib.hid (Hlisty.out.below hb10 (by omega))
  have Sw0 := Lib.hid (show Str w10 w3.heap.size 30 #[.int .i64 N, .slice aw0_1 D.length cw0_1] from ((hb10).block _ Sw0.out.lt).trans Sw0.out)
  have Sg0 := Lib.hid (show Str w10 w6.heap.size 30 #[.int .i64 N, .slice ag0_1 D.length cg0_1] from ((hb10).block _ Sg0.out.lt).trans Sg0.out)
  have hz10 := (hb10).size
  clear hrlistx hrlisty
  clear Hlisty
  go_wp2_with fail
  have hkk := Hkblist.out (1)
  refine (laws_markShardSR eslist _ (1) w4.heap.size w5.heap.size w10 (by omega) Hplist.out Hlistx.out).mono ?_
  rintro e w11 ⟨rfl, ho, hbt⟩
  have Hb11 := Lib.hid ((hbt).below Hb10.out Hb10.out.size (by omega))
  have hz11 := (hbt).size
  have Hw0_1 := Lib.hid (Hw0_1.out.btw (hbt) (by first | exact .inl (by omega) | exact .inr (by omega)))
  have Hg0_1 := Lib.hid (Hg0_1.out.btw (hbt) (by first | exact .inl (by omega) | exact .inr (by omega)))
  have Sw0 := Lib.hid (Sw0.out.btw (hbt) (by first | exact .inl (by omega) | exact .inr (by omega)))
  have Sg0 := Lib.hid (Sg0.out.btw (hbt) (by first | exact .inl (by omega) | exact .inr (by omega)))
  have Hlistx := Lib.hid (ho)
  clear ho hbt
  generalize kTo eslist (1) eslist.length = k1 at *
  have hkn : decide (((k1 : Nat) : Int) < 0) = false := decide_eq_false (by omega)
  have hkn' : ¬ ((k1 : Nat) : Int) < 0 := by omega
  have qg0_0 := Sg0.out.cell 0 (v := .int .i64 N) rfl
  have qg0_1 := Sg0.out.cell 1 (v := .slice ag0_1 D.length cg0_1) rfl
  have qw0_0 := Sw0.out.cell 0 (v := .int .i64 N) rfl
  have qw0_1 := Sw0.out.cell 1 (v := .slice aw0_1 D.length cw0_1) rfl
  go_wp2_with fail
  refine (laws_eqShardR ( N) ag0_1 aw0_1 cg0_1 cw0_1 D w11 (by omega) Hg0_1.out.at Hw0_1.out.at).mono ?_
  rintro e w12 ⟨rfl, hb12⟩
  have Hb12 := Lib.hid (below_step Hb11.out Hb11.out.size hb12)
  have Hw0_1 := Lib.hid (Hw0_1.out.below hb12)
  have Hlistx := Lib.hid (Hlistx.out.below hb12 (by omega))
  have Hg0_1 := Lib.hid (Hg0_1.out.below hb12)
  have Sw0 := Lib.hid (show Str w12 w3.heap.size 30 #[.int .i64 N, .slice aw0_1 D.length cw0_1] from ((hb12).block _ Sw0.out.lt).trans Sw0.out)
  have Sg0 := Lib.hid (show Str w12 w6.heap.size 30 #[.int .i64 N, .slice ag0_1 D.length cg0_1] from ((hb12).block _ Sg0.out.lt).trans Sg0.out)
  have hz12 := (hb12).size
  clear qg0_0 qg0_1 qw0_0 qw0_1
  have qg0_0 := Sg0.out.cell 0 (v := .int .i64 N) rfl
  have qg0_1 := Sg0.out.cell 1 (v := .slice ag0_1 D.length cg0_1) rfl
  go_wp2_with fail
  refine (laws_markShardR ( N) _ D (1) w5.heap.size w12 (by omega) (by omega) Hg0_1.out.own).mono ?_
  rintro e w13 ⟨rfl, ho, hg⟩
  have hbt := Hg0_1.out.marks (grownBy_trans (World.grownBy_alloc w12 (.cells #[.int .i64 N, .slice ag0_1 D.length cg0_1] 30) _) hg)
  clear qg0_0 qg0_1
  have Hb13 := Lib.hid ((hbt).below Hb12.out Hb12.out.size (by omega))
  have hz13 := (hbt).size
  have Hw0_1 := Lib.hid (Hw0_1.out.btw (hbt) (by first | exact .inl (by omega) | exact .inr (by omega)))
  have Hlistx := Lib.hid ((hbt).ownR Hlistx.out (by omega) (by first | exact .inl (by omega) | exact .inr (by omega)))
  have Sw0 := Lib.hid (Sw0.out.btw (hbt) (by first | exact .inl (by omega) | exact .inr (by omega)))
  have Sg0 := Lib.hid (Sg0.out.btw (hbt) (by first | exact .inl (by omega) | exact .inr (by omega)))
  have Hg0_1 := Lib.hid (Hg0_1.out.mark ho)
  clear ho hg hbt
  have hmn : decide (((1 + D.length : Nat) : Int) < 0) = false := decide_eq_false (by omega)
  have hmn' : ¬ ((1 + D.length : Nat) : Int) < 0 := by omega
  have qg0_0 := Sg0.out.cell 0 (v := .int .i64 N) rfl
  have qg0_1 := Sg0.out.cell 1 (v := .slice ag0_1 D.length cg0_1) rfl
  go_wp2_with fail
  refine (laws_heldShardR ( N) ag0_1 cg0_1 (1) D.length w13 (by omega) (by omega) Hg0_1.out.at).mono ?_
  rintro e w14 ⟨rfl, hb14⟩
  have Hb14 := Lib.hid (below_step Hb13.out Hb13.out.size hb14)
  have Hw0_1 := Lib.hid (Hw0_1.out.below hb14)
  have Hlistx := Lib.hid (Hlistx.out.below hb14 (by omega))
  have Hg0_1 := Lib.hid (Hg0_1.out.below hb14)
  have Sw0 := Lib.hid (show Str w14 w3.heap.size 30 #[.int .i64 N, .slice aw0_1 D.length cw0_1] from ((hb14).block _ Sw0.out.lt).trans Sw0.out)
  have Sg0 := Lib.hid (show Str w14 w6.heap.size 30 #[.int .i64 N, .slice ag0_1 D.length cg0_1] from ((hb14).block _ Sg0.out.lt).trans Sg0.out)
  have hz14 := (hb14).size
  clear qg0_0 qg0_1
  clear Hlistx
  go_wp2_with fail
  refine (laws_toShardSR eslist vlist fplist _ (by omega) Hplist.out Hinlist.out (Hrlist.out.under Hb14.out)).mono ?_
  rintro e w15 ⟨vlistz, rfl, holistz, hb15⟩
  have Hb15 := Lib.hid (below_step Hb14.out Hb14.out.size hb15)
  have Hw0_1 := Lib.hid (Hw0_1.out.below hb15)
  have Hg0_1 := Lib.hid (Hg0_1.out.below hb15)
  have Sw0 := Lib.hid (show Str w15 w3.heap.size 30 #[.int .i64 N, .slice aw0_1 D.length cw0_1] from ((hb15).block _ Sw0.out.lt).trans Sw0.out)
  have Sg0 := Lib.hid (show Str w15 w6.heap.size 30 #[.int .i64 N, .slice ag0_1 D.length cg0_1] from ((hb15).block _ Sg0.out.lt).trans Sg0.out)
  have hz15 := (hb15).size
  have Hlistz := Lib.hid holistz; clear holistz
  have hhlistz : w14.heap.size ≤ w14.heap.size := Nat.le_refl _
  have hjlistz : w15.heap.size ≤ w15.heap.size := Nat.le_refl _
  obtain ⟨flistz, hrlistz⟩ := Hlistz.out.reads
  go_wp2_with fail
  refine (Himpl.out vlistz flistz _ hrlistz).mono ?_
  rintro e w16 ⟨vh0_1, rfl, hoh0_1, hb16⟩
  have Hb16 := Lib.hid (below_step Hb15.out Hb15.out.size hb16)
  have Hw0_1 := Lib.hid (Hw0_1.out.below hb16)
  have Hg0_1 := Lib.hid (Hg0_1.out.below hb16)
  have Hlistz := Lib.hid (Hlistz.out.below hb16 (by omega))
  have Sw0 := Lib.hid (show Str w16 w3.heap.size 30 #[.int .i64 N, .slice aw0_1 D.length cw0_1] from ((hb16).block _ Sw0.out.lt).trans Sw0.out)
  have Sg0 := Lib.hid (show Str w16 w6.heap.size 30 #[.int .i64 N, .slice ag0_1 D.length cg0_1] from ((hb16).block _ Sg0.out.lt).trans Sg0.out)
  have hz16 := (hb16).size
  have Hh0_1 := Lib.hid (OwnI.of hoh0_1); clear hoh0_1
  obtain ⟨ah0_1, ch0_1, rfl, _, _⟩ := Hh0_1.out.ints
  have hch0_1 := Hh0_1.out.cap
  have hhh0_1 : w15.heap.size ≤ w15.heap.size := Nat.le_refl _
  have hjh0_1 : w16.heap.size ≤ w16.heap.size := Nat.le_refl _
  clear hrlistz
  have hAh0 : Below w16.heap.size w16 (w16.alloc (.cells #[.int .i64 N, .slice ah0_1 D.length ch0_1] 30)) := (Below.refl _ _).alloc (Nat.le_refl _) _
  have sNh0 := Str.new w16 30 #[.int .i64 N, .slice ah0_1 D.length ch0_1]
  have hzAh0 : (w16.alloc (.cells #[.int .i64 N, .slice ah0_1 D.length ch0_1] 30)).heap.size = w16.heap.size + 1 := by simp
  have hbsh0 : w16.heap.size ≤ w16.heap.size := Nat.le_refl _
  have Hb17 := Lib.hid (below_step Hb16.out Hb16.out.size hAh0)
  have Hw0_1 := Lib.hid (Hw0_1.out.below hAh0)
  have Hg0_1 := Lib.hid (Hg0_1.out.below hAh0)
  have Hlistz := Lib.hid (Hlistz.out.below hAh0 (by omega))
  have Hh0_1 := Lib.hid (Hh0_1.out.below hAh0)
  have Sw0 := Lib.hid (show Str (w16.alloc (.cells #[.int .i64 N, .slice ah0_1 D.length ch0_1] 30)) w3.heap.size 30 #[.int .i64 N, .slice aw0_1 D.length cw0_1] from (hAh0.block _ Sw0.out.lt).trans Sw0.out)
  have Sg0 := Lib.hid (show Str (w16.alloc (.cells #[.int .i64 N, .slice ah0_1 D.length ch0_1] 30)) w6.heap.size 30 #[.int .i64 N, .slice ag0_1 D.length cg0_1] from (hAh0.block _ Sg0.out.lt).trans Sg0.out)
  have Sh0 := Lib.hid sNh0; clear sNh0
  clear hAh0
  have qh0_0 := Sh0.out.cell 0 (v := .int .i64 N) rfl
  have qh0_1 := Sh0.out.cell 1 (v := .slice ah0_1 D.length ch0_1) rfl
  have qw0_0 := Sw0.out.cell 0 (v := .int .i64 N) rfl
  have qw0_1 := Sw0.out.cell 1 (v := .slice aw0_1 D.length cw0_1) rfl
  go_wp2_with fail
  generalize w16.alloc (.cells #[.int .i64 N, .slice ah0_1 D.length ch0_1] 30) = w17 at *
  refine (laws_eqShardR ( N) ah0_1 aw0_1 ch0_1 cw0_1 D w17 (by omega) Hh0_1.out.at Hw0_1.out.at).mono ?_
  rintro e w18 ⟨rfl, hb18⟩
  have Hb18 := Lib.hid (below_step Hb17.out Hb17.out.size hb18)
  have Hw0_1 := Lib.hid (Hw0_1.out.below hb18)
  have Hg0_1 := Lib.hid (Hg0_1.out.below hb18)
  have Hlistz := Lib.hid (Hlistz.out.below hb18 (by omega))
  have Hh0_1 := Lib.hid (Hh0_1.out.below hb18)
  have Sw0 := Lib.hid (show Str w18 w3.heap.size 30 #[.int .i64 N, .slice aw0_1 D.length cw0_1] from ((hb18).block _ Sw0.out.lt).trans Sw0.out)
  have Sg0 := Lib.hid (show Str w18 w6.heap.size 30 #[.int .i64 N, .slice ag0_1 D.length cg0_1] from ((hb18).block _ Sg0.out.lt).trans Sg0.out)
  have Sh0 := Lib.hid (show Str w18 w16.heap.size 30 #[.int .i64 N, .slice ah0_1 D.length ch0_1] from ((hb18).block _ Sh0.out.lt).trans Sh0.out)
  have hz18 := (hb18).size
  clear qh0_0 qh0_1 qw0_0 qw0_1
  have qg0_0 := Sg0.out.cell 0 (v := .int .i64 N) rfl
  have qg0_1 := Sg0.out.cell 1 (v := .slice ag0_1 D.length cg0_1) rfl
  go_wp2_with fail
  refine (laws_heldShardR ( N) ag0_1 cg0_1 (1) D.length w18 (by omega) (by omega) Hg0_1.out.at).mono ?_
  rintro e w19 ⟨rfl, hb19⟩
  have Hb19 := Lib.hid (below_step Hb18.out Hb18.out.size hb19)
  have Hw0_1 := Lib.hid (Hw0_1.out.below hb19)
  have Hg0_1 := Lib.hid (Hg0_1.out.below hb19)
  have Hlistz := Lib.hid (Hlistz.out.below hb19 (by omega))
  have Hh0_1 := Lib.hid (Hh0_1.out.below hb19)
  have Sw0 := Lib.hid (show Str w19 w3.heap.size 30 #[.int .i64 N, .slice aw0_1 D.length cw0_1] from ((hb19).block _ Sw0.out.lt).trans Sw0.out)
  have Sg0 := Lib.hid (show Str w19 w6.heap.size 30 #[.int .i64 N, .slice ag0_1 D.length cg0_1] from ((hb19).block _ Sg0.out.lt).trans Sg0.out)
  have Sh0 := Lib.hid (show Str w19 w16.heap.size 30 #[.int .i64 N, .slice ah0_1 D.length ch0_1] from ((hb19).block _ Sh0.out.lt).trans Sh0.out)
  have hz19 := (hb19).size
  clear qg0_0 qg0_1
  go_wp2
  go_ret
  exact ⟨by first | rfl | exact ret_bool (by simp), Hb19.out⟩

theorem fnExactShardRepair_own : ownKnob Try.prog.godebug = none := by kernel_rfl
theorem fnExactShardRepair_laidOut : laidOutB Try.prog = true := by kernel_rfl

theorem fnExactShardRepair_lifted (os : Os) (started : os.Started) (H : Type) (enc : TypeId × Value → H) :
    ReturnsInHanded {} Try.checked os 5 .any (Rows.fnExactShardRepairSpec.pre6 enc Try.prog Try.f5 Rows.fnExactShardRepairRow.domain false) (Rows.fnExactShardRepairSpec.post enc Try.prog Try.f5 false true false false) := by
  refine law_lifted (C := Try.checked) (tb := 4) fnExactShardRepair_own fnExactShardRepair_laidOut started (by kernel_rfl) Try.func5 rfl Try.underlying4 rfl (by rw [Try.params5]; exact of_decide_eq_true (by kernel_rfl)) ?_
    (ChangeSpec.witness6 (enc := enc) (C := Try.checked) false ⟨#[], #[.int .i64 0, .int .i64 0, .slice none 0 0, .int .i64 0], []⟩ 8 (by kernel_rfl) (by kernel_rfl) (by kernel_rfl) (by kernel_rfl)) ?_
  · intro ds hds
    rw [Try.params5] at hds
    match ds, hds with
    | [d0, d1, d2, d3], _ => rfl
  · intro W base args ds p hval0 hA0
    have hval : ∀ (j : Nat) t v, Try.f5.params[j]? = some t → args[j]? = some v → Value.okWide Try.prog W .any base t v := hval0
    have hA : DataW.TrodAll enc Try.prog W 0 (fun _ => true) true Try.f5.params.toList args.toList ds p := hA0
    rw [Try.params5] at hA hval
    obtain ⟨v0, vs0, d0, ds0, p0, q0, hargs0, rfl, rfl, h0, r0⟩ := trodAll_cons hA
    obtain ⟨v1, vs1, d1, ds1, p1, q1, hargs1, rfl, rfl, h1, r1⟩ := trodAll_cons r0
    obtain ⟨v2, vs2, d2, ds2, p2, q2, hargs2, rfl, rfl, h2, r2⟩ := trodAll_cons r1
    obtain ⟨v3, vs3, d3, ds3, p3, q3, hargs3, rfl, rfl, h3, r3⟩ := trodAll_cons r2
    obtain ⟨hnil, rfl, rfl⟩ := trodAll_nil r3
    subst hnil
    subst hargs3
    subst hargs2
    subst hargs1
    obtain rfl : args = #[v0, v1, v2, v3] := by cases args; simp_all
    obtain ⟨n0, rfl, _, _, hw0⟩ := open_int Try.underlying3 (hval 0 3 v0 rfl rfl) h0
    obtain ⟨n1, rfl, _, _, hw1⟩ := open_int Try.underlying3 (hval 1 3 v1 rfl rfl) h1
    obtain ⟨es2, fp2, hr2, hm2, hp2⟩ := open_ShardS (hval 2 35 v2 rfl rfl) h2
    obtain ⟨n3, rfl, _, _, hw3⟩ := open_int Try.underlying3 (hval 3 3 v3 rfl rfl) h3
    exact fnExactShardRepair_walk n0 n1 v2 es2 fp2 n3 W (wf_i64 hw0) (wf_i64 hw1) hr2 hm2 hp2 (wf_i64 hw3)

theorem fnExactShardRepair_holds : Rows.FnExactShardRepairSaid :=
  OpenClaim.holds_of_wide 5 Try.f5 rfl rfl rfl rfl rfl rfl rfl ⟨rfl, rfl, rfl, rfl, rfl⟩ rfl rfl rfl rfl rfl (by kernel_rfl) Try.func5 (by kernel_rfl)
    (of_decide_eq_true (by kernel_rfl)) (by unfold Func.isWrapper; first | (rw [if_pos (by decide +kernel)]; kernel_rfl) | (rw [if_neg (by decide +kernel)]; exact ⟨rfl, rfl⟩))
    (fun os started H enc _ => fnExactShardRepair_lifted os started H enc)

end Go.Proofs.Ytaicljoapmmnnaa
