/- The exact law of ShardJoin holds at every argument; no conditions of our own. -/
import Derived.Test.YtaicljoapmmnnaaRows
import Derived.Test.YtaicljoapmmnnaaBase
import Derived.Test.YtaicljoapmmnnaaLift
import Derived.Test.YtaicljoapmmnnaaApp
import Derived.Test.YtaicljoapmmnnaaDt
import Derived.Test.YtaicljoapmmnnaaOwR
import Derived.Test.YtaicljoapmmnnaaOwS
import Derived.Test.YtaicljoapmmnnaaRow
import Derived.Test.YtaicljoapmmnnaaEx
import Derived.Test.YtaicljoapmmnnaaL1
import Derived.Test.YtaicljoapmmnnaaL2
import Derived.Test.YtaicljoapmmnnaaM3
import Derived.Test.YtaicljoapmmnnaaM5
import Derived.Test.YtaicljoapmmnnaaC1
import Derived.Test.YtaicljoapmmnnaaX3
import Derived.Test.YtaicljoapmmnnaaRShard
import Derived.Test.YtaicljoapmmnnaaV3
import Derived.Test.YtaicljoapmmnnaaQ3
import Derived.Test.YtaicljoapmmnnaaEx3
namespace Go.Proofs.Ytaicljoapmmnnaa
open Go.ChangeShapes Go.WideShapes Go.ChangeAt Go.RowKit

set_option maxHeartbeats 2000000 in
theorem fnExactShardJoin_walk (size : Int) (need : Int) (vlist : Value) (eslist : List (List Fd)) (fplist : List Nat) (w : World) (_hsize : -9223372036854775808 ≤ size ∧ size ≤ 9223372036854775807) (_hneed : -9223372036854775808 ≤ need ∧ need ≤ 9223372036854775807) (hrlist : Rd w (rowsD eslist) vlist fplist) (hmlist : eslist.length ≤ maxLen) (hplist : ∀ e ∈ eslist, shardP e ∧ fitE e) :
    Calls Try.prog 4 #[.int .i64 size, .int .i64 need, vlist] w fun e w' => e = .returned (.bool true) ∧ Below w.heap.size w w' := by
  obtain ⟨_hsize1, _hsize2⟩ := _hsize
  obtain ⟨_hneed1, _hneed2⟩ := _hneed
  unfold maxLen at hmlist
  have Hrlist := Lib.hid hrlist; clear hrlist
  have hplist1 : ∀ e ∈ eslist, shardP e := fun e he => (hplist e he).1
  have Hflist := Lib.hid (fun e he => (hplist e he).2); clear hplist
  have Hb0 := Lib.hid (Below.refl w.heap.size w)
  have Hszlist := Lib.hid (fun w (hr : Rd w (rowsD eslist) vlist fplist) => laws_szShardSR eslist vlist fplist (1048576) w (by omega) (by omega) hplist1 (fun e he xs hx => by have := ((Hflist.out e he).2 xs hx).1; unfold maxLen at this; omega) hr)
  go_enter Try.func4, Try.ntmps4
  go_wp2_with fail
  refine (Hszlist.out _ (Hrlist.out.under Hb0.out)).mono ?_
  rintro e w1 ⟨rfl, hb1⟩
  have Hb1 := Lib.hid (below_step Hb0.out Hb0.out.size hb1)
  have hz1 := (hb1).size
  have hkllist := kTo_bd (shardP_len hplist1) 1 eslist.length (Nat.le_refl _)
  clear hkllist
  by_cases hllist : eslist.length + lnTo eslist eslist.length ≤ 1048576
  case neg =>
    rw [if_neg hllist]
    go_wp2
    go_ret
    exact ⟨rfl, Hb1.out⟩
  rw [if_pos hllist]
  have hneglist : decide ((((1048576 - eslist.length - lnTo eslist eslist.length : Nat)) : Int) < 0) = false := decide_eq_false (by omega)
  have hngelist : ¬ (((1048576 - eslist.length - lnTo eslist eslist.length : Nat) : Int) < 0) := by omega
  have hinlist := lnTo_in (es := eslist) (m := 1048576) (by omega)
  have hkblist := fun k => kTo_bd (shardP_len hplist1) k eslist.length (Nat.le_refl _)
  have Hlnlist := Lib.hid (show ∀ e ∈ eslist, lnE e ≤ 1099511627776 from fun e he => Nat.le_trans (hinlist e he) (by omega))
  obtain ⟨L, rfl⟩ := rows_shards hplist1
  have hLn : (L.map shardF).length = L.length := by simp
  have hLl : ∀ s ∈ L, s.2.length ≤ 1048576 := fun s hs => Nat.le_trans (ln_in (e := shardF s) (Nat.le_refl _) (by simp [shardF])) (hinlist _ (List.mem_map_of_mem hs))
  have hD12 := joinD_len size need L
  have Hspec := Lib.hid (fun v f w (h : Rd w (rowsD (L.map shardF)) v f) => spec_ShardJoin size need L v f w (by omega) hLl (rowsD_shards L ▸ h))
  have Himpl := Lib.hid (fun v f w (h : Rd w (rowsD (L.map shardF)) v f) => impl_ShardJoin size need L v f w (by omega) hLl (rowsD_shards L ▸ h))
  generalize joinD size need L = D at *
  generalize joinB size need L = ok at *
  clear hLl hLn
  generalize L.map shardF = eslist at *
  have Hinlist := Lib.hid hinlist; clear hinlist
  have Hkblist := Lib.hid hkblist; clear hkblist
  have Hplist := Lib.hid hplist1; clear hplist1
  go_wp2_with fail
  refine (laws_toShardSR eslist vlist fplist _ (by omega) Hplist.out Hinlist.out (Hrlist.out.under Hb1.out)).mono ?_
  rintro e w2 ⟨vlists, rfl, holists, hb2⟩
  have Hb2 := Lib.hid (below_step Hb1.out Hb1.out.size hb2)
  have hz2 := (hb2).size
  have Hlists := Lib.hid holists; clear holists
  have hhlists : w1.heap.size ≤ w1.heap.size := Nat.le_refl _
  have hjlists : w2.heap.size ≤ w2.heap.size := Nat.le_refl _
  obtain ⟨flists, hrlists⟩ := Hlists.out.reads
  go_wp2_with fail
  refine (Hspec.out vlists flists _ hrlists).mono ?_
  rintro e w3 ⟨vw0, rfl, how0, hb3⟩
  have Hb3 := Lib.hid (below_step Hb2.out Hb2.out.size hb3)
  have Hlists := Lib.hid (Hlists.out.below hb3 (by omega))
  have hz3 := (hb3).size
  have Hw0 := Lib.hid (OwnI.of how0); clear how0
  obtain ⟨aw0, cw0, rfl, _, _⟩ := Hw0.out.ints
  have hcw0 := Hw0.out.cap
  have hhw0 : w2.heap.size ≤ w2.heap.size := Nat.le_refl _
  have hjw0 : w3.heap.size ≤ w3.heap.size := Nat.le_refl _
  clear hrlists
  clear Hlists
  go_wp2_with fail
  refine (laws_toShardSR eslist vlist fplist _ (by omega) Hplist.out Hinlist.out (Hrlist.out.under Hb3.out)).mono ?_
  rintro e w4 ⟨vlistx, rfl, holistx, hb4⟩
  have Hb4 := Lib.hid (below_step Hb3.out Hb3.out.size hb4)
  have Hw0 := Lib.hid (Hw0.out.below hb4)
  have hz4 := (hb4).size
  have Hlistx := Lib.hid holistx; clear holistx
  have hhlistx : w3.heap.size ≤ w3.heap.size := Nat.le_refl _
  have hjlistx : w4.heap.size ≤ w4.heap.size := Nat.le_refl _
  obtain ⟨flistx, hrlistx⟩ := Hlistx.out.reads
  go_wp2_with fail
  refine (Himpl.out vlistx flistx _ hrlistx).mono ?_
  rintro e w5 ⟨vg0, rfl, hog0, hb5⟩
  have Hb5 := Lib.hid (below_step Hb4.out Hb4.out.size hb5)
  have Hw0 := Lib.hid (Hw0.out.below hb5)
  have Hlistx := Lib.hid (Hlistx.out.below hb5 (by omega))
  have hz5 := (hb5).size
  have Hg0 := Lib.hid (OwnI.of hog0); clear hog0
  obtain ⟨ag0, cg0, rfl, _, _⟩ := Hg0.out.ints
  have hcg0 := Hg0.out.cap
  have hhg0 : w4.heap.size ≤ w4.heap.size := Nat.le_refl _
  have hjg0 : w5.heap.size ≤ w5.heap.size := Nat.le_refl _
  clear hrlistx
  go_wp2_with fail
  refine (laws_eqIntS' ag0 aw0 cg0 cw0 D w5 (by omega) Hg0.out.at Hw0.out.at).mono ?_
  rintro e w6 ⟨rfl, hb6⟩
  have Hb6 := Lib.hid (below_step Hb5.out Hb5.out.size (hb6.below w5.heap.size))
  have Hw0 := Lib.hid (Hw0.out.below (hb6.below w5.heap.size))
  have Hlistx := Lib.hid (Hlistx.out.below (hb6.below w5.heap.size) (by omega))
  have Hg0 := Lib.hid (Hg0.out.below (hb6.below w5.heap.size))
  have hz6 := ((hb6.below w5.heap.size)).size
  go_wp2_with fail
  refine (laws_toShardSR eslist vlist fplist _ (by omega) Hplist.out Hinlist.out (Hrlist.out.under Hb6.out)).mono ?_
  rintro e w7 ⟨vlisty, rfl, holisty, hb7⟩
  have Hb7 := Lib.hid (below_step Hb6.out Hb6.out.size hb7)
  have Hw0 := Lib.hid (Hw0.out.below hb7)
  have Hlistx := Lib.hid (Hlistx.out.below hb7 (by omega))
  have Hg0 := Lib.hid (Hg0.out.below hb7)
  have hz7 := (hb7).size
  have Hlisty := Lib.hid holisty; clear holisty
  have hhlisty : w6.heap.size ≤ w6.heap.size := Nat.le_refl _
  have hjlisty : w7.heap.size ≤ w7.heap.size := Nat.le_refl _
  obtain ⟨flistx, hrlistx⟩ := Hlistx.out.reads
  obtain ⟨flisty, hrlisty⟩ := Hlisty.out.reads
  go_wp2_with fail
  refine (laws_eqShardSR eslist _ _ flistx flisty w7 (by omega) Hplist.out Hlnlist.out hrlistx hrlisty).mono ?_
  rintro e w8 ⟨rfl, hb8⟩
  have Hb8 := Lib.hid (below_step Hb7.out Hb7.out.size hb8)
  have Hw0 := Lib.hid (Hw0.out.below hb8)
  have Hlistx := Lib.hid (Hlistx.out.below hb8 (by omega))
  have Hg0 := Lib.hid (Hg0.out.below hb8)
  have Hlisty := Lib.hid (Hlisty.out.below hb8 (by omega))
  have hz8 := (hb8).size
  clear hrlistx hrlisty
  clear Hlisty
  go_wp2_with fail
  have hkk := Hkblist.out (1)
  refine (laws_markShardSR eslist _ (1) w3.heap.size w4.heap.size w8 (by omega) Hplist.out Hlistx.out).mono ?_
  rintro e w9 ⟨rfl, ho, hbt⟩
  have Hb9 := Lib.hid ((hbt).below Hb8.out Hb8.out.size (by omega))
  have hz9 := (hbt).size
  have Hw0 := Lib.hid (Hw0.out.btw (hbt) (by first | exact .inl (by omega) | exact .inr (by omega)))
  have Hg0 := Lib.hid (Hg0.out.btw (hbt) (by first | exact .inl (by omega) | exact .inr (by omega)))
  have Hlistx := Lib.hid (ho)
  clear ho hbt
  generalize kTo eslist (1) eslist.length = k1 at *
  have hkn : decide (((k1 : Nat) : Int) < 0) = false := decide_eq_false (by omega)
  have hkn' : ¬ ((k1 : Nat) : Int) < 0 := by omega
  go_wp2_with fail
  refine (laws_eqIntS' ag0 aw0 cg0 cw0 D w9 (by omega) Hg0.out.at Hw0.out.at).mono ?_
  rintro e w10 ⟨rfl, hb10⟩
  have Hb10 := Lib.hid (below_step Hb9.out Hb9.out.size (hb10.below w9.heap.size))
  have Hw0 := Lib.hid (Hw0.out.below (hb10.below w9.heap.size))
  have Hlistx := Lib.hid (Hlistx.out.below (hb10.below w9.heap.size) (by omega))
  have Hg0 := Lib.hid (Hg0.out.below (hb10.below w9.heap.size))
  have hz10 := ((hb10.below w9.heap.size)).size
  go_wp2_with fail
  refine (laws_markIntS _ D (1) w4.heap.size w10 (by omega) (by omega) Hg0.out.own).mono ?_
  rintro e w11 ⟨rfl, ho, hg⟩
  have hbt := Hg0.out.marks hg
  have Hb11 := Lib.hid ((hbt).below Hb10.out Hb10.out.size (by omega))
  have hz11 := (hbt).size
  have Hw0 := Lib.hid (Hw0.out.btw (hbt) (by first | exact .inl (by omega) | exact .inr (by omega)))
  have Hlistx := Lib.hid ((hbt).ownR Hlistx.out (by omega) (by first | exact .inl (by omega) | exact .inr (by omega)))
  have Hg0 := Lib.hid (Hg0.out.mark ho)
  clear ho hg hbt
  have hmn : decide (((1 + D.length : Nat) : Int) < 0) = false := decide_eq_false (by omega)
  have hmn' : ¬ ((1 + D.length : Nat) : Int) < 0 := by omega
  go_wp2_with fail
  refine (laws_heldIntS ag0 cg0 (1) D.length w11 (by omega) (by omega) Hg0.out.at).mono ?_
  rintro e w12 ⟨rfl, hb12⟩
  have Hb12 := Lib.hid (below_step Hb11.out Hb11.out.size (hb12.below w11.heap.size))
  have Hw0 := Lib.hid (Hw0.out.below (hb12.below w11.heap.size))
  have Hlistx := Lib.hid (Hlistx.out.below (hb12.below w11.heap.size) (by omega))
  have Hg0 := Lib.hid (Hg0.out.below (hb12.below w11.heap.size))
  have hz12 := ((hb12.below w11.heap.size)).size
  clear Hlistx
  go_wp2_with fail
  refine (laws_toShardSR eslist vlist fplist _ (by omega) Hplist.out Hinlist.out (Hrlist.out.under Hb12.out)).mono ?_
  rintro e w13 ⟨vlistz, rfl, holistz, hb13⟩
  have Hb13 := Lib.hid (below_step Hb12.out Hb12.out.size hb13)
  have Hw0 := Lib.hid (Hw0.out.below hb13)
  have Hg0 := Lib.hid (Hg0.out.below hb13)
  have hz13 := (hb13).size
  have Hlistz := Lib.hid holistz; clear holistz
  have hhlistz : w12.heap.size ≤ w12.heap.size := Nat.le_refl _
  have hjlistz : w13.heap.size ≤ w13.heap.size := Nat.le_refl _
  obtain ⟨flistz, hrlistz⟩ := Hlistz.out.reads
  go_wp2_with fail
  refine (Himpl.out vlistz flistz _ hrlistz).mono ?_
  rintro e w14 ⟨vh0, rfl, hoh0, hb14⟩
  have Hb14 := Lib.hid (below_step Hb13.out Hb13.out.size hb14)
  have Hw0 := Lib.hid (Hw0.out.below hb14)
  have Hg0 := Lib.hid (Hg0.out.below hb14)
  have Hlistz := Lib.hid (Hlistz.out.below hb14 (by omega))
  have hz14 := (hb14).size
  have Hh0 := Lib.hid (OwnI.of hoh0); clear hoh0
  obtain ⟨ah0, ch0, rfl, _, _⟩ := Hh0.out.ints
  have hch0 := Hh0.out.cap
  have hhh0 : w13.heap.size ≤ w13.heap.size := Nat.le_refl _
  have hjh0 : w14.heap.size ≤ w14.heap.size := Nat.le_refl _
  clear hrlistz
  go_wp2_with fail
  refine (laws_eqIntS' ah0 aw0 ch0 cw0 D w14 (by omega) Hh0.out.at Hw0.out.at).mono ?_
  rintro e w15 ⟨rfl, hb15⟩
  have Hb15 := Lib.hid (below_step Hb14.out Hb14.out.size (hb15.below w14.heap.size))
  have Hw0 := Lib.hid (Hw0.out.below (hb15.below w14.heap.size))
  have Hg0 := Lib.hid (Hg0.out.below (hb15.below w14.heap.size))
  have Hlistz := Lib.hid (Hlistz.out.below (hb15.below w14.heap.size) (by omega))
  have Hh0 := Lib.hid (Hh0.out.below (hb15.below w14.heap.size))
  have hz15 := ((hb15.below w14.heap.size)).size
  go_wp2_with fail
  refine (laws_heldIntS ag0 cg0 (1) D.length w15 (by omega) (by omega) Hg0.out.at).mono ?_
  rintro e w16 ⟨rfl, hb16⟩
  have Hb16 := Lib.hid (below_step Hb15.out Hb15.out.size (hb16.below w15.heap.size))
  have Hw0 := Lib.hid (Hw0.out.below (hb16.below w15.heap.size))
  have Hg0 := Lib.hid (Hg0.out.below (hb16.below w15.heap.size))
  have Hlistz := Lib.hid (Hlistz.out.below (hb16.below w15.heap.size) (by omega))
  have Hh0 := Lib.hid (Hh0.out.below (hb16.below w15.heap.size))
  have hz16 := ((hb16.below w15.heap.size)).size
  go_wp2
  go_ret
  exact ⟨by first | rfl | exact ret_bool (by simp), Hb16.out⟩

theorem fnExactShardJoin_own : ownKnob Try.prog.godebug = none := by kernel_rfl
theorem fnExactShardJoin_laidOut : laidOutB Try.prog = true := by kernel_rfl

theorem fnExactShardJoin_lifted (os : Os) (started : os.Started) (H : Type) (enc : TypeId × Value → H) :
    ReturnsInHanded {} Try.checked os 4 .any (Rows.fnExactShardJoinSpec.pre6 enc Try.prog Try.f4 Rows.fnExactShardJoinRow.domain false) (Rows.fnExactShardJoinSpec.post enc Try.prog Try.f4 false true false false) := by
  refine law_lifted (C := Try.checked) (tb := 4) fnExactShardJoin_own fnExactShardJoin_laidOut started (by kernel_rfl) Try.func4 rfl Try.underlying4 rfl (by rw [Try.params4]; exact of_decide_eq_true (by kernel_rfl)) ?_
    (ChangeSpec.witness6 (enc := enc) (C := Try.checked) false ⟨#[], #[.int .i64 0, .int .i64 0, .slice none 0 0], []⟩ 8 (by kernel_rfl) (by kernel_rfl) (by kernel_rfl) (by kernel_rfl)) ?_
  · intro ds hds
    rw [Try.params4] at hds
    match ds, hds with
    | [d0, d1, d2], _ => rfl
  · intro W base args ds p hval0 hA0
    have hval : ∀ (j : Nat) t v, Try.f4.params[j]? = some t → args[j]? = some v → Value.okWide Try.prog W .any base t v := hval0
    have hA : DataW.TrodAll enc Try.prog W 0 (fun _ => true) true Try.f4.params.toList args.toList ds p := hA0
    rw [Try.params4] at hA hval
    obtain ⟨v0, vs0, d0, ds0, p0, q0, hargs0, rfl, rfl, h0, r0⟩ := trodAll_cons hA
    obtain ⟨v1, vs1, d1, ds1, p1, q1, hargs1, rfl, rfl, h1, r1⟩ := trodAll_cons r0
    obtain ⟨v2, vs2, d2, ds2, p2, q2, hargs2, rfl, rfl, h2, r2⟩ := trodAll_cons r1
    obtain ⟨hnil, rfl, rfl⟩ := trodAll_nil r2
    subst hnil
    subst hargs2
    subst hargs1
    obtain rfl : args = #[v0, v1, v2] := by cases args; simp_all
    obtain ⟨n0, rfl, _, _, hw0⟩ := open_int Try.underlying3 (hval 0 3 v0 rfl rfl) h0
    obtain ⟨n1, rfl, _, _, hw1⟩ := open_int Try.underlying3 (hval 1 3 v1 rfl rfl) h1
    obtain ⟨es2, fp2, hr2, hm2, hp2⟩ := open_ShardS (hval 2 35 v2 rfl rfl) h2
    exact fnExactShardJoin_walk n0 n1 v2 es2 fp2 W (wf_i64 hw0) (wf_i64 hw1) hr2 hm2 hp2

theorem fnExactShardJoin_holds : Rows.FnExactShardJoinSaid :=
  OpenClaim.holds_of_wide 4 Try.f4 rfl rfl rfl rfl rfl rfl rfl ⟨rfl, rfl, rfl, rfl, rfl⟩ rfl rfl rfl rfl rfl (by kernel_rfl) Try.func4 (by kernel_rfl)
    (of_decide_eq_true (by kernel_rfl)) (by unfold Func.isWrapper; first | (rw [if_pos (by decide +kernel)]; kernel_rfl) | (rw [if_neg (by decide +kernel)]; exact ⟨rfl, rfl⟩))
    (fun os started H enc _ => fnExactShardJoin_lifted os started H enc)

end Go.Proofs.Ytaicljoapmmnnaa
