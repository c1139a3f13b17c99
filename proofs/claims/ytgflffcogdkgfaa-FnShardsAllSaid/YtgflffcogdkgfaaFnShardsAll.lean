/- Law FnShardsAll holds for every input; no conditions of our own. -/
import Derived.Test.YtgflffcogdkgfaaRows
import Derived.Test.YtgflffcogdkgfaaBase
import Derived.Test.YtgflffcogdkgfaaLift
import Derived.Test.YtgflffcogdkgfaaApp
import Derived.Test.YtgflffcogdkgfaaM3
import Derived.Test.YtgflffcogdkgfaaDt
import Derived.Test.YtgflffcogdkgfaaBld
import Derived.Test.YtgflffcogdkgfaaC1
import Derived.Test.YtgflffcogdkgfaaC3
import Derived.Test.YtgflffcogdkgfaaW3
import Derived.Test.YtgflffcogdkgfaaL1
import Derived.Test.YtgflffcogdkgfaaL3
import Derived.Test.YtgflffcogdkgfaaRd
import Derived.Test.YtgflffcogdkgfaaD3
import Derived.Test.YtgflffcogdkgfaaHeld
namespace Go.Proofs.Ytgflffcogdkgfaa
open Go.ChangeShapes Go.WideShapes Go.ChangeAt Go.RowKit

set_option maxHeartbeats 2000000 in
theorem fnShardsAll_walk (a : Option Addr) (cap : Nat) (zs : List Int) (w : World) (hk : zs.length ≤ cap) (_hm : zs.length ≤ maxLen) (hi : zs = [] ∨ ∃ b off, a = some ⟨b, off, none⟩ ∧ b < w.heap.size ∧ ∀ j (h : j < zs.length), w.cell? ⟨b, off + j, none⟩ = some (.int .u8 zs[j])) (hw : ∀ z ∈ zs, (Lit.int .u8 z).wf = true) :
    Calls Try.prog 4 #[.slice a zs.length cap] w fun e w' => e = .returned (.bool true) ∧ Below w.heap.size w w' := by
  by_cases hl : 1048576 < zs.length
  · go_enter Try.func4, Try.ntmps4
    go_wp2
    go_ret
    exact ⟨rfl, Below.refl _ _⟩
  have hcode := codeAt_of hk (by omega) hi hw
  have Hcode := Lib.hid hcode; clear hcode hi hw
  go_enter Try.func4, Try.ntmps4
  go_wp2_with fail
  refine (spec_DrawShardMake a cap zs _ Hcode.out).mono ?_
  rintro e w1 ⟨v, xs, need, many, rfl, hown, hxl, hsm, hn0, hn1, hm0, hm1, hb1⟩
  clear hsm
  obtain ⟨al, cl, rfl, _, _, hxc⟩ := hown.src
  have Hl1 := Lib.hid hown; clear hown
  have Hb1 := Lib.hid hb1; clear hb1
  have hs1 := Hb1.out.size
  have hI := impl_ShardMake al cl xs need many w1 (by omega) hxc (IntsAt_own Hl1.out)
  have hS := fun w h => spec_ShardMake al cl xs need many w (by omega) h
  have hln := makeZ_len (d := xs) (need := need) (many := many)
  have hinn := makeZ_in (d := xs) (need := need) (many := many)
  have hmk : makeZ xs need many = makeZ xs need many := rfl
  generalize hL : makeZ xs need many = L at hI hS hln hinn
  clear hmk
  have HI := Lib.hid hI; clear hI
  have HS := Lib.hid hS; clear hS
  have HL := Lib.hid hL; clear hL
  have Hin := Lib.hid (show ∀ s ∈ L, s.2.length ≤ 1000000 from fun s hs => Nat.le_trans (hinn s hs) (by omega)); clear hinn
  go_wp2_with fail
  refine HI.out.mono ?_
  rintro e w2 ⟨vo, rfl, hbo, hb2⟩
  obtain ⟨ao, co, rfl, _⟩ := hbo.slice
  obtain ⟨fo, hro, hfo⟩ := hbo.rd
  have Hfo := Lib.hid hfo; clear hfo
  rw [List.length_map] at hbo hro
  have Hb2 := Lib.hid (below_step Hb1.out Hb1.out.size hb2)
  have Hl2 := Lib.hid (Hl1.out.below hb2)
  have Ho2 := Lib.hid hro; clear hro hbo
  have hs2 := hb2.size
  go_wp2_with fail
  refine (HS.out _ (IntsAt_own Hl2.out)).mono ?_
  rintro e w3 ⟨vu, rfl, hbu, hb3⟩
  obtain ⟨fu, hru, _⟩ := hbu.rd
  have Hb3 := Lib.hid (below_step Hb2.out Hb2.out.size hb3)
  have Hl3 := Lib.hid (Hl2.out.below hb3)
  have Ho3 := Lib.hid (Ho2.out.under hb3)
  have Hu3 := Lib.hid hru; clear hru hbu
  have hs3 := hb3.size
  go_wp2_with fail
  refine (laws_sameShards' L _ _ _ _ _ (by omega) Hin.out Ho3.out Hu3.out).mono ?_
  rintro e w4 ⟨rfl, hb4⟩
  have Hb4 := Lib.hid (below_step Hb3.out Hb3.out.size hb4)
  have Hl4 := Lib.hid (Hl3.out.below hb4)
  have Ho4 := Lib.hid (Ho3.out.under hb4)
  have Hu4 := Lib.hid (Hu3.out.under hb4)
  have hs4 := hb4.size
  cases hv : makeB xs need many with
  | false =>
    have hL0 : L = [] := by rw [← HL.out]; exact makeZ_no hv
    subst hL0
    go_wp2_with fail
    refine (laws_sameShards' [] _ _ _ _ _ (by simp) (by simp) Ho4.out Hu4.out).mono ?_
    rintro e w5 ⟨rfl, hb5⟩
    go_wp2
    go_ret
    exact ⟨rfl, below_step Hb4.out Hb4.out.size hb5⟩
  | true =>
    obtain ⟨hd, hnm, hm8⟩ := makeB_iff hv
    obtain ⟨hsy, ⟨hx1, hx2⟩, hn1', hn8⟩ := dataB_iff hd
    obtain ⟨need, rfl⟩ := Int.eq_ofNat_of_zero_le (show 0 ≤ need by omega)
    obtain ⟨many, rfl⟩ := Int.eq_ofNat_of_zero_le (show 0 ≤ many by omega)
    have hLe : L = (List.range many).map (shardZ xs need) := by rw [← HL.out]; exact makeZ_yes hv
    have hLl : L.length = many := by rw [hLe]; simp
    have Hget := Lib.hid (show ∀ k (hk : k < L.length), L[k] = shardZ xs need k from fun k hk => by subst hLe; simp)
    have Hsy := Lib.hid hsy; clear hsy hd hv hLe
    have hmz0 : ((many : Int) == 0) = false := by rw [beq_eq_false_iff_ne]; omega
    have hdB : dataB xs (need : Int) = true := by unfold dataB; simp only [Bool.and_eq_true, List.all_eq_true, decide_eq_true_eq]; exact ⟨⟨fun x hx => symB_yes (Hsy.out x hx), by omega⟩, by omega⟩
    clear hn0 hn1 hm0 hm1
    obtain ⟨gA, oA, rfl, hgA, hat⟩ := row_of_list Ho4.out (by omega)
    have Hat := Lib.hid hat; clear hat
    have Hfl := Lib.hid (show ∀ r ∈ fo, w1.heap.size ≤ r ∧ r < w4.heap.size from fun r hr => ⟨Hfo.out r hr, Ho4.out.lt r hr⟩)
    obtain ⟨sel, hsel⟩ : ∃ sel : Nat → Nat, sel = fun k => many - 1 - k := ⟨_, rfl⟩
    have Hsel := Lib.hid (show ∀ k, sel k = many - 1 - k from fun k => by rw [hsel]); clear hsel
    have Hsm := Lib.hid (show ∀ k, k < many → sel k < many from fun k hk => by rw [Hsel.out]; omega)
    have Hsi := Lib.hid (show ∀ j k, j < k → k < many → sel j ≠ sel k from fun j k h1 h2 => by rw [Hsel.out, Hsel.out]; omega)
    have hj := join_of (d := xs) (need := need) (L := (List.range many).map fun j => shardZ xs need (sel j)) hdB (by simp; try omega) (by simp; omega) (fun k hk => by have hk' : k < many := (by simpa using hk); have := Hsm.out k hk'; rw [List.getElem_map, List.getElem_range]; exact ⟨(by show 1 ≤ (sel k : Int) + 1 ∧ (sel k : Int) + 1 ≤ 8; omega), rfl⟩) (fun j k hj hk hjk => by have hk' : k < many := (by simpa using hk); have := Hsi.out j k hjk hk'; simp only [List.getElem_map, List.getElem_range, shardZ]; omega)
    have Hj := Lib.hid hj; clear hj hdB
    have hbn : Bld 30 2 (w4.alloc (.cells #[] 30)) w1.heap.size (.slice (some ⟨w4.heap.size, 0, none⟩) 0 0) [] := .nil (World.ownsRow_made w4 #[] 0 (by omega) (by simp) (by simp))
    have Hbn := Lib.hid hbn; clear hbn
    have Hba := Lib.hid ((Below.refl w4.heap.size w4).alloc (Nat.le_refl _) (.cells #[] 30))
    go_wp2_with fail
    go_loopw [8, 9] (fun v i wr => ∃ k : Nat, k ≤ many ∧ i = .int .i64 ((many : Int) - 1 - (k : Int)) ∧ Bld 30 2 wr w1.heap.size v (((List.range k).map fun j => shardZ xs need (sel j)).map shardD) ∧ (∀ g, v.ownBlock = some g → w4.heap.size ≤ g) ∧ Below w4.heap.size w4 wr) (fun _ i _ => (intOf i + 1).toNat)
    case atStart => exact ⟨0, by omega, int_eq (by omega), Hbn.out, fun g e => by cases e; exact Nat.le_refl _, Hba.out⟩
    case round =>
      obtain ⟨k, hk, rfl, hbld, hvb, hbel⟩ := hrel
      have hB := hbel.size
      by_cases hlt : k < many
      · obtain ⟨av, cv, fv, C0, C1, hiL, hrv, hfv⟩ := Hat.out (sel k) (by have := Hsm.out k hlt; omega)
        clear hiL
        have hsm := Hsm.out k hlt
        rw [Hget.out _ (by omega)] at C0 C1 hrv
        simp only [shardZ] at C0 C1 hrv
        have D0 := (hbel.cell (p := ⟨gA, oA + sel k * 2, none⟩) hgA).trans C0
        have D1 := (hbel.cell (p := ⟨gA, oA + sel k * 2 + 1, none⟩) hgA).trans C1
        have Hrv := Lib.hid (Rd.underB hbel hrv fun r hr => (Hfl.out r (hfv r hr)).2)
        have Hfv := Lib.hid (show ∀ r ∈ fv, w1.heap.size ≤ r ∧ r < w4.heap.size from fun r hr => Hfl.out r (hfv r hr))
        have Hex := Lib.hid (show ((List.range (k + 1)).map fun j => shardZ xs need (sel j)).map shardD = (((List.range k).map fun j => shardZ xs need (sel j)).map shardD) ++ [[.i ((sel k : Int) + 1), intsD (shardV xs need ((sel k : Int) + 1))]] by rw [List.range_succ, List.map_append, List.map_append]; rfl)
        have hel : (((List.range k).map fun j => shardZ xs need (sel j)).map shardD).length ≤ 1000000 := by simp; omega
        generalize ((List.range k).map fun j => shardZ xs need (sel j)).map shardD = es at *
        generalize shardV xs need ((sel k : Int) + 1) = vs at *
        have hskL : sel k < L.length := by omega
        have hme : (many : Int) - 1 - (k : Int) = ((sel k : Nat) : Int) := by rw [Hsel.out]; omega
        rw [hme]
        have Hme := Lib.hid hme; clear hme
        have Hse := Lib.hid (show sel k + k + 1 = many by rw [Hsel.out]; omega)
        generalize sel k = s at *
        have Hbld := Lib.hid hbld; clear hbld C0 C1 hrv hfv
        have Hbel := Lib.hid hbel; clear hbel
        have Hvb := Lib.hid hvb; clear hvb
        have hB1 : w1.heap.size ≤ wr.heap.size := by omega
        have Hcr := Lib.hid (cells_of_row (B := w1.heap.size) (blk := _) (x := (s : Int) + 1) Hrv.out (fun r hr => ⟨(Hfv.out r hr).1, fun e => by have := Hvb.out r e; have := (Hfv.out r hr).2; omega⟩))
        go_wp2_with (at_builtin; refine wpList_push_row Try.underlying26 sh_info rfl (by decide) (by decide) rfl (.tmp 48) (.tmp 53) rfl w1.heap.size _ es _ _ _ rfl rfl (by intro u hu; simp at hu; rcases hu with rfl | rfl <;> rfl) rfl Hbld.out rfl Hcr.out hel rfl hB1 ?_; intro v8 w8 hbld8 hg8 hat8)
        have Hb8 := Lib.hid (Hbel.out.grown hg8 hB (fun g e => Hvb.out g e))
        have Hv8 := Lib.hid (show ∀ g, v8.ownBlock = some g → w4.heap.size ≤ g from fun g e => (hat8 g e).elim (fun h => Hvb.out g h) (fun h => by omega))
        go_roundw
        case rel => exact ⟨k + 1, by omega, int_eq (by have := Hse.out; omega), by rw [Hex.out]; exact hbld8, Hv8.out, Hb8.out⟩
        case measure => simp [intOf]; try omega
      · obtain rfl : many = k := by omega
        obtain ⟨fs, hrs, _⟩ := hbld.rd
        obtain ⟨aS, cS, rfl, _⟩ := hbld.slice
        have hij := impl_ShardJoin xs.length need _ _ fs _ (by simp; omega) (fun s hs => by obtain ⟨j, _, rfl⟩ := List.mem_map.1 hs; show (shardV _ _ _).length ≤ _; rw [shardV_len]; exact Nat.le_trans (cols_le (by omega) hx2) (by omega)) hrs
        rw [Hj.out.1, Hj.out.2] at hij
        have Hx5 := Lib.hid (Hl4.out.below hbel)
        have Hb5 := Lib.hid (below_step Hb4.out Hb4.out.size hbel)
        simp only [List.length_map, List.length_range] at hij ⊢
        have Hij := Lib.hid hij; clear hij hrs hbld hbel Hj Hbn Hba
        go_wp2_with fail
        refine Hij.out.mono ?_
        rintro e w6 ⟨u, rfl, hownu, hb6⟩
        obtain ⟨au, cu, rfl, hiu, _⟩ := hownu.ints
        have Hiu := Lib.hid hiu
        have Hx6 := Lib.hid (IntsAt_own (Hx5.out.below hb6))
        have Hb6 := Lib.hid (below_step Hb5.out Hb5.out.size hb6)
        clear hiu hownu hb6
        go_wp2_with fail
        refine (laws_sameInts' au al cu cl xs _ (by omega) Hiu.out Hx6.out).mono ?_
        rintro e w7 ⟨rfl, hdr⟩
        go_wp2
        go_ret
        exact ⟨rfl, below_step Hb6.out Hb6.out.size (hdr.below _)⟩

theorem fnShardsAll_own : ownKnob Try.prog.godebug = none := by kernel_rfl
theorem fnShardsAll_laidOut : laidOutB Try.prog = true := by kernel_rfl

theorem fnShardsAll_lifted (os : Os) (started : os.Started) (H : Type) (enc : TypeId × Value → H) :
    ReturnsInHanded {} Try.checked os 4 .any (Rows.fnShardsAllSpec.pre6 enc Try.prog Try.f4 Rows.fnShardsAllRow.domain false) (Rows.fnShardsAllSpec.post enc Try.prog Try.f4 false true false false) := by
  refine law_lifted (C := Try.checked) (tb := 4) fnShardsAll_own fnShardsAll_laidOut started (by kernel_rfl) Try.func4 rfl Try.underlying4 rfl (by rw [Try.params4]; exact of_decide_eq_true (by kernel_rfl)) ?_
    (ChangeSpec.witness6 (enc := enc) (C := Try.checked) false ⟨#[], #[.slice none 0 0], []⟩ 8 (by kernel_rfl) (by kernel_rfl) (by kernel_rfl) (by kernel_rfl)) ?_
  · intro ds hds
    rw [Try.params4] at hds
    match ds, hds with
    | [d0], _ => rfl
  · intro W base args ds p hval0 hA0
    have hval : ∀ (j : Nat) t v, Try.f4.params[j]? = some t → args[j]? = some v → Value.okWide Try.prog W .any base t v := hval0
    have hA : DataW.TrodAll enc Try.prog W 0 (fun _ => true) true Try.f4.params.toList args.toList ds p := hA0
    rw [Try.params4] at hA hval
    obtain ⟨v0, vs0, d0, ds0, p0, q0, hargs0, rfl, rfl, h0, r0⟩ := trodAll_cons hA
    obtain ⟨hnil, rfl, rfl⟩ := trodAll_nil r0
    subst hnil
    obtain rfl : args = #[v0] := by cases args; simp_all
    obtain ⟨a0, cap0, zs0, rfl, hk0, hm0, hi0, hw0⟩ := open_slice_ints Try.underlying22 Try.underlying5 (by kernel_rfl) (hval 0 22 v0 rfl rfl) h0
    exact fnShardsAll_walk a0 cap0 zs0 W hk0 hm0 hi0 hw0

theorem fnShardsAll_holds : Rows.FnShardsAllSaid :=
  OpenClaim.holds_of_wide 4 Try.f4 rfl rfl rfl rfl rfl rfl rfl ⟨rfl, rfl, rfl, rfl, rfl⟩ rfl rfl rfl rfl rfl (by kernel_rfl) Try.func4 (by kernel_rfl)
    (of_decide_eq_true (by kernel_rfl)) (by unfold Func.isWrapper; first | (rw [if_pos (by decide +kernel)]; kernel_rfl) | (rw [if_neg (by decide +kernel)]; exact ⟨rfl, rfl⟩))
    (fun os started H enc _ => fnShardsAll_lifted os started H enc)

end Go.Proofs.Ytgflffcogdkgfaa
