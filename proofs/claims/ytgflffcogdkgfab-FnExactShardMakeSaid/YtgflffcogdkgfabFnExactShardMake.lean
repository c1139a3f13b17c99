/- The exact law of ShardMake holds at every argument; no conditions of our own. -/
import Derived.Test.YtgflffcogdkgfabRows
import Derived.Test.YtgflffcogdkgfabBase
import Derived.Test.YtgflffcogdkgfabLift
import Derived.Test.YtgflffcogdkgfabApp
import Derived.Test.YtgflffcogdkgfabM3
import Derived.Test.YtgflffcogdkgfabC1
import Derived.Test.YtgflffcogdkgfabC3
import Derived.Test.YtgflffcogdkgfabX3
import Derived.Test.YtgflffcogdkgfabL1
import Derived.Test.YtgflffcogdkgfabL2
namespace Go.Proofs.Ytgflffcogdkgfab
open Go.ChangeShapes Go.WideShapes Go.ChangeAt Go.RowKit

set_option maxHeartbeats 2000000 in
theorem fnExactShardMake_walk (al : Option Addr) (capl : Nat) (xl : List Int) (need many : Int) (w : World) (_hkl : xl.length ≤ capl) (hml : xl.length ≤ maxLen) (hil : IntsAt w al xl) (_hwl : ∀ z ∈ xl, (Lit.int .i64 z).wf = true) (_h1 : -9223372036854775808 ≤ need ∧ need ≤ 9223372036854775807) (_h2 : -9223372036854775808 ≤ many ∧ many ≤ 9223372036854775807) :
    Calls Try.prog 4 #[.slice al xl.length capl, .int .i64 need, .int .i64 many] w fun e w' => e = .returned (.bool true) ∧ Below w.heap.size w w' := by
  unfold maxLen at hml
  by_cases hl0 : xl.length ≤ 1048576
  · have Hil := Lib.hid hil; clear hil
    obtain ⟨_h11, _h12⟩ := _h1
    obtain ⟨_h21, _h22⟩ := _h2
    have Hb0 := Lib.hid (Below.refl w.heap.size w)
    have hlL := makeZ_len (d := xl) (need := need) (many := many)
    have hin := makeZ_in (d := xl) (need := need) (many := many)
    have Hspec := Lib.hid (fun a cap w => spec_ShardMakeO a cap xl need many w (by omega))
    have Himpl := Lib.hid (fun a cap w h => impl_ShardMakeO a cap xl need many w (by omega) h)
    generalize makeZ xl need many = L at *
    have Hin9 := Lib.hid (show ∀ s ∈ L, s.2.length ≤ 1000 from fun s hs => Nat.le_trans (hin s hs) (by omega))
    have Hin := Lib.hid (show ∀ s ∈ L, s.2.length ≤ 1000000 from fun s hs => Nat.le_trans (hin s hs) (by omega)); clear hin
    have hkm := kAt_le Hin9.out 1 L.length (Nat.le_refl _)
    have hkm2 : L.length * (1000 + 1) ≤ 8 * 1001 := Nat.mul_le_mul hlL (Nat.le_refl _)
    have hkN : kAt L 1 L.length ≤ 10000 := by omega
    clear hkm hkm2
    go_enter Try.func4, Try.ntmps4
    go_wp2_with fail
    refine (laws_toIntS al capl xl _ (by omega) (Hil.out.below Hb0.out)).mono ?_
    rintro e w1 ⟨vls, rfl, hols, hb1⟩
    have hBls := Hb0.out.size
    have Hb1 := Lib.hid (below_step Hb0.out Hb0.out.size hb1)
    have hz1 := (hb1).size
    have Hls := Lib.hid hols; clear hols
    obtain ⟨als, cls, rfl, _, _⟩ := Hls.out.ints
    have hcls := Hls.out.cap
    go_wp2_with fail
    refine (Hspec.out als cls _ Hls.out.at).mono ?_
    rintro e w2 ⟨vw0, rfl, how0, hb2⟩
    have Hb2 := Lib.hid (below_step Hb1.out Hb1.out.size hb2)
    have Hls := Lib.hid (Hls.out.below hb2)
    have hz2 := (hb2).size
    have Hw0 := Lib.hid how0; clear how0
    have hhw0 : w2.heap.size ≤ w2.heap.size := Nat.le_refl _
    clear Hls
    go_wp2_with fail
    refine (laws_toIntS al capl xl _ (by omega) (Hil.out.below Hb2.out)).mono ?_
    rintro e w3 ⟨vlx, rfl, holx, hb3⟩
    have hBlx := Hb2.out.size
    have Hb3 := Lib.hid (below_step Hb2.out Hb2.out.size hb3)
    have Hw0 := Lib.hid (Hw0.out.below hb3 (by omega))
    have hz3 := (hb3).size
    have Hlx := Lib.hid holx; clear holx
    obtain ⟨alx, clx, rfl, _, _⟩ := Hlx.out.ints
    have hclx := Hlx.out.cap
    have Hlxk := Lib.hid Hlx.out.lt
    go_wp2_with fail
    refine (Himpl.out alx clx _ hclx Hlx.out.at).mono ?_
    rintro e w4 ⟨vg0, rfl, hog0, hb4⟩
    have Hb4 := Lib.hid (below_step Hb3.out Hb3.out.size hb4)
    have Hlx := Lib.hid (Hlx.out.below hb4)
    have Hw0 := Lib.hid (Hw0.out.below hb4 (by omega))
    have hz4 := (hb4).size
    have Hg0 := Lib.hid hog0; clear hog0
    have hhg0 : w4.heap.size ≤ w4.heap.size := Nat.le_refl _
    obtain ⟨fg0, hrg0, _⟩ := Hg0.out.bld.rd
    rw [List.map_map, show (fun e => List.map Fd.dt e) ∘ shardF = shardD from rfl] at hrg0
    obtain ⟨fw0, hrw0, _⟩ := Hw0.out.bld.rd
    rw [List.map_map, show (fun e => List.map Fd.dt e) ∘ shardF = shardD from rfl] at hrw0
    go_wp2_with fail
    refine (laws_eqShardS' L _ _ fg0 fw0 w4 (by omega) Hin.out hrg0 hrw0).mono ?_
    rintro e w5 ⟨rfl, hb5⟩
    have Hb5 := Lib.hid (below_step Hb4.out Hb4.out.size hb5)
    have Hlx := Lib.hid (Hlx.out.below hb5)
    have Hw0 := Lib.hid (Hw0.out.below hb5 (by omega))
    have Hg0 := Lib.hid (Hg0.out.below hb5 (by omega))
    have hz5 := (hb5).size
    clear hrg0 hrw0
    go_wp2_with fail
    refine (laws_toIntS al capl xl _ (by omega) (Hil.out.below Hb5.out)).mono ?_
    rintro e w6 ⟨vly, rfl, holy, hb6⟩
    have Hnlx_ly := Lib.hid (own_apart Hlx.out holy (Nat.le_refl _))
    have hBly := Hb5.out.size
    have Hb6 := Lib.hid (below_step Hb5.out Hb5.out.size hb6)
    have Hlx := Lib.hid (Hlx.out.below hb6)
    have Hw0 := Lib.hid (Hw0.out.below hb6 (by omega))
    have Hg0 := Lib.hid (Hg0.out.below hb6 (by omega))
    have hz6 := (hb6).size
    have Hly := Lib.hid holy; clear holy
    obtain ⟨aly, cly, rfl, _, _⟩ := Hly.out.ints
    have hcly := Hly.out.cap
    go_wp2_with fail
    refine (laws_eqIntS' alx aly clx cly xl w6 (by omega) Hlx.out.at Hly.out.at).mono ?_
    rintro e w7 ⟨rfl, hb7⟩
    have Hb7 := Lib.hid (below_step Hb6.out Hb6.out.size (hb7.below w6.heap.size))
    have Hlx := Lib.hid (Hlx.out.below (hb7.below w6.heap.size))
    have Hly := Lib.hid (Hly.out.below (hb7.below w6.heap.size))
    have Hw0 := Lib.hid (Hw0.out.below (hb7.below w6.heap.size) (by omega))
    have Hg0 := Lib.hid (Hg0.out.below (hb7.below w6.heap.size) (by omega))
    have hz7 := ((hb7.below w6.heap.size)).size
    clear Hly
    go_wp2_with fail
    refine (laws_markIntS _ xl 1 w2.heap.size w7 (by omega) (by omega) Hlx.out).mono ?_
    rintro e w8 ⟨rfl, ho, hg8⟩
    have hz8 := hg8.size
    have Hb8 := Lib.hid (below_row Hb7.out Hb7.out.size hg8 Hlx.out (by first | exact hBlx | omega))
    have Hw0 := Lib.hid (Hw0.out.same fun b h1 h2 => hg8.block b (by omega) (fun e => by have := Hlxk.out b e.symm; omega))
    have Hg0 := Lib.hid (Hg0.out.same fun b h1 h2 => hg8.block b (by omega) (fun e => by have := Hlxk.out b e.symm; omega))
    clear ho
    clear Hlx
    obtain ⟨fg0, hrg0, _⟩ := Hg0.out.bld.rd
    rw [List.map_map, show (fun e => List.map Fd.dt e) ∘ shardF = shardD from rfl] at hrg0
    obtain ⟨fw0, hrw0, _⟩ := Hw0.out.bld.rd
    rw [List.map_map, show (fun e => List.map Fd.dt e) ∘ shardF = shardD from rfl] at hrw0
    go_wp2_with fail
    refine (laws_eqShardS' L _ _ fg0 fw0 w8 (by omega) Hin.out hrg0 hrw0).mono ?_
    rintro e w9 ⟨rfl, hb9⟩
    have Hb9 := Lib.hid (below_step Hb8.out Hb8.out.size hb9)
    have Hw0 := Lib.hid (Hw0.out.below hb9 (by omega))
    have Hg0 := Lib.hid (Hg0.out.below hb9 (by omega))
    have hz9 := (hb9).size
    clear hrg0 hrw0
    go_wp2_with fail
    refine (laws_markShardS L _ 1 w3.heap.size w4.heap.size w9 (by omega) Hin9.out (by omega) Hg0.out).mono ?_
    rintro e w10 ⟨rfl, ho, hbt⟩
    have hz10 := hbt.size
    have Hb10 := Lib.hid (hbt.below Hb9.out Hb9.out.size (by omega))
    have Hw0 := Lib.hid (hbt.ownR Hw0.out (by omega) (.inl (by omega)))
    have Hg0 := Lib.hid ho; clear ho hbt
    generalize hkT : kAt L 1 L.length = T at *
    have HkT := Lib.hid hkT; clear hkT
    have hTn : decide ((T : Int) < 0) = false := decide_eq_false (by omega)
    have hhe := laws_heldShardS L _ 1 _ _ w10 (by omega) Hin9.out (by omega) Hg0.out
    rw [HkT.out] at hhe
    have Hhe := Lib.hid hhe; clear hhe
    go_wp2_with fail
    refine (Hhe.out).mono ?_
    rintro e w11 ⟨rfl, hb11⟩
    have Hb11 := Lib.hid (below_step Hb10.out Hb10.out.size (hb11.below w10.heap.size))
    have Hw0 := Lib.hid (Hw0.out.below (hb11.below w10.heap.size) (by omega))
    have Hg0 := Lib.hid (Hg0.out.below (hb11.below w10.heap.size) (by omega))
    have hz11 := ((hb11.below w10.heap.size)).size
    go_wp2_with fail
    refine (laws_toIntS al capl xl _ (by omega) (Hil.out.below Hb11.out)).mono ?_
    rintro e w12 ⟨vlz, rfl, holz, hb12⟩
    have hBlz := Hb11.out.size
    have Hb12 := Lib.hid (below_step Hb11.out Hb11.out.size hb12)
    have Hw0 := Lib.hid (Hw0.out.below hb12 (by omega))
    have Hg0 := Lib.hid (Hg0.out.below hb12 (by omega))
    have hz12 := (hb12).size
    have Hlz := Lib.hid holz; clear holz
    obtain ⟨alz, clz, rfl, _, _⟩ := Hlz.out.ints
    have hclz := Hlz.out.cap
    go_wp2_with fail
    refine (Himpl.out alz clz _ hclz Hlz.out.at).mono ?_
    rintro e w13 ⟨vh0, rfl, hoh0, hb13⟩
    have Hb13 := Lib.hid (below_step Hb12.out Hb12.out.size hb13)
    have Hlz := Lib.hid (Hlz.out.below hb13)
    have Hw0 := Lib.hid (Hw0.out.below hb13 (by omega))
    have Hg0 := Lib.hid (Hg0.out.below hb13 (by omega))
    have hz13 := (hb13).size
    have Hh0 := Lib.hid hoh0; clear hoh0
    have hhh0 : w13.heap.size ≤ w13.heap.size := Nat.le_refl _
    obtain ⟨fh0, hrh0, _⟩ := Hh0.out.bld.rd
    rw [List.map_map, show (fun e => List.map Fd.dt e) ∘ shardF = shardD from rfl] at hrh0
    obtain ⟨fw0, hrw0, _⟩ := Hw0.out.bld.rd
    rw [List.map_map, show (fun e => List.map Fd.dt e) ∘ shardF = shardD from rfl] at hrw0
    go_wp2_with fail
    refine (laws_eqShardS' L _ _ fh0 fw0 w13 (by omega) Hin.out hrh0 hrw0).mono ?_
    rintro e w14 ⟨rfl, hb14⟩
    have Hb14 := Lib.hid (below_step Hb13.out Hb13.out.size hb14)
    have Hlz := Lib.hid (Hlz.out.below hb14)
    have Hw0 := Lib.hid (Hw0.out.below hb14 (by omega))
    have Hg0 := Lib.hid (Hg0.out.below hb14 (by omega))
    have Hh0 := Lib.hid (Hh0.out.below hb14 (by omega))
    have hz14 := (hb14).size
    clear hrh0 hrw0
    have hhe := laws_heldShardS L _ 1 _ _ w14 (by omega) Hin9.out (by omega) Hg0.out
    rw [HkT.out] at hhe
    have Hhe := Lib.hid hhe; clear hhe
    go_wp2_with fail
    refine (Hhe.out).mono ?_
    rintro e w15 ⟨rfl, hb15⟩
    have Hb15 := Lib.hid (below_step Hb14.out Hb14.out.size (hb15.below w14.heap.size))
    have Hlz := Lib.hid (Hlz.out.below (hb15.below w14.heap.size))
    have Hw0 := Lib.hid (Hw0.out.below (hb15.below w14.heap.size) (by omega))
    have Hg0 := Lib.hid (Hg0.out.below (hb15.below w14.heap.size) (by omega))
    have Hh0 := Lib.hid (Hh0.out.below (hb15.below w14.heap.size) (by omega))
    have hz15 := ((hb15.below w14.heap.size)).size
    go_wp2
    go_ret
    exact ⟨rfl, Hb15.out⟩
  · go_enter Try.func4, Try.ntmps4
    go_wp2
    go_ret
    exact ⟨rfl, Below.refl _ _⟩

theorem fnExactShardMake_own : ownKnob Try.prog.godebug = none := by kernel_rfl
theorem fnExactShardMake_laidOut : laidOutB Try.prog = true := by kernel_rfl

theorem fnExactShardMake_lifted (os : Os) (started : os.Started) (H : Type) (enc : TypeId × Value → H) :
    ReturnsInHanded {} Try.checked os 4 .any (Rows.fnExactShardMakeSpec.pre6 enc Try.prog Try.f4 Rows.fnExactShardMakeRow.domain false) (Rows.fnExactShardMakeSpec.post enc Try.prog Try.f4 false true false false) := by
  refine law_lifted (C := Try.checked) (tb := 4) fnExactShardMake_own fnExactShardMake_laidOut started (by kernel_rfl) Try.func4 rfl Try.underlying4 rfl (by rw [Try.params4]; exact of_decide_eq_true (by kernel_rfl)) ?_
    (ChangeSpec.witness6 (enc := enc) (C := Try.checked) false ⟨#[], #[.slice none 0 0, .int .i64 0, .int .i64 0], []⟩ 8 (by kernel_rfl) (by kernel_rfl) (by kernel_rfl) (by kernel_rfl)) ?_
  · intro ds hds
    rw [Try.params4] at hds
    match ds, hds with
    | [d0, d1, d2], _ => rfl
  · intro W base args ds p hval0 hA0
    have hval : ∀ (j : Nat) t v, Try.f4.params[j]? = some t → args[j]? = some v → Value.okWide Try.prog W .any base t v := hval0
    have hA : DataW.TrodAll enc Try.prog W 0 (fun _ => true) true Try.f4.params.toList args.toList ds p := hA0
    rw [Try.params4] at hA hval
    obtain ⟨v0, vs0, d0, ds0, p0, q0, hargs0, rfl, rfl, h0, r0⟩ := trodAll_cons hA
    obtain ⟨v1, vs1, d1, ds1, p1, q1, hargs1, rfl, rfl, h1, r1⟩ := trodAll_cons r0
    obtain ⟨v2, vs2, d2, ds2, p2, q2, hargs2, rfl, rfl, h2, r2⟩ := trodAll_cons r1
    obtain ⟨hnil, rfl, rfl⟩ := trodAll_nil r2
    subst hnil
    subst hargs2
    subst hargs1
    obtain rfl : args = #[v0, v1, v2] := by cases args; simp_all
    obtain ⟨a0, cap0, zs0, rfl, hk0, hm0, hi0, hw0⟩ := open_slice_ints Try.underlying23 Try.underlying3 (by kernel_rfl) (hval 0 23 v0 rfl rfl) h0
    obtain ⟨n1, rfl, _, _, hw1⟩ := open_int Try.underlying3 (hval 1 3 v1 rfl rfl) h1
    obtain ⟨n2, rfl, _, _, hw2⟩ := open_int Try.underlying3 (hval 2 3 v2 rfl rfl) h2
    exact fnExactShardMake_walk a0 cap0 zs0 n1 n2 W hk0 hm0 hi0 hw0 (wf_i64 hw1) (wf_i64 hw2)

theorem fnExactShardMake_holds : Rows.FnExactShardMakeSaid :=
  OpenClaim.holds_of_wide 4 Try.f4 rfl rfl rfl rfl rfl rfl rfl ⟨rfl, rfl, rfl, rfl, rfl⟩ rfl rfl rfl rfl rfl (by kernel_rfl) Try.func4 (by kernel_rfl)
    (of_decide_eq_true (by kernel_rfl)) (by unfold Func.isWrapper; first | (rw [if_pos (by decide +kernel)]; kernel_rfl) | (rw [if_neg (by decide +kernel)]; exact ⟨rfl, rfl⟩))
    (fun os started H enc _ => fnExactShardMake_lifted os started H enc)

end Go.Proofs.Ytgflffcogdkgfab
