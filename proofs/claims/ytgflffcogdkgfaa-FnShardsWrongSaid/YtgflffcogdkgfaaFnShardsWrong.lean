/- Law FnShardsWrong holds for every input; no conditions of our own. -/
import Derived.Test.YtgflffcogdkgfaaRows
import Derived.Test.YtgflffcogdkgfaaBase
import Derived.Test.YtgflffcogdkgfaaLift
import Derived.Test.YtgflffcogdkgfaaApp
import Derived.Test.YtgflffcogdkgfaaM3
import Derived.Test.YtgflffcogdkgfaaDt
import Derived.Test.YtgflffcogdkgfaaBld
import Derived.Test.YtgflffcogdkgfaaC1
import Derived.Test.YtgflffcogdkgfaaC3
import Derived.Test.YtgflffcogdkgfaaW3
import Derived.Test.YtgflffcogdkgfaaL1
import Derived.Test.YtgflffcogdkgfaaL3
import Derived.Test.YtgflffcogdkgfaaRd
import Derived.Test.YtgflffcogdkgfaaD3
import Derived.Test.YtgflffcogdkgfaaHeld
namespace Go.Proofs.Ytgflffcogdkgfaa
open Go.ChangeShapes Go.WideShapes Go.ChangeAt Go.RowKit

set_option maxHeartbeats 3000000 in
theorem fnShardsWrong_walk (a : Option Addr) (cap : Nat) (zs : List Int) (a' : Option Addr) (cap' : Nat) (ms : List Int) (w : World) (hk : zs.length ≤ cap) (_hm : zs.length ≤ maxLen) (hi : zs = [] ∨ ∃ b off, a = some ⟨b, off, none⟩ ∧ b < w.heap.size ∧ ∀ j (h : j < zs.length), w.cell? ⟨b, off + j, none⟩ = some (.int .u8 zs[j])) (hw : ∀ z ∈ zs, (Lit.int .u8 z).wf = true)
    (_hk' : ms.length ≤ cap') (hm' : ms.length ≤ maxLen) (_hi' : ms = [] ∨ ∃ b off, a' = some ⟨b, off, none⟩ ∧ b < w.heap.size ∧ ∀ j (h : j < ms.length), w.cell? ⟨b, off + j, none⟩ = some (.int .u8 ms[j])) (_hw' : ∀ z ∈ ms, (Lit.int .u8 z).wf = true) :
    Calls Try.prog 6 #[.slice a zs.length cap, .slice a' ms.length cap'] w fun e w' => e = .returned (.bool true) ∧ Below w.heap.size w w' := by
  unfold maxLen at hm'
  by_cases hl : 1048576 < zs.length
  · go_enter Try.func6, Try.ntmps6
    go_wp2
    go_ret
    exact ⟨rfl, Below.refl _ _⟩
  by_cases hl' : 1048576 < ms.length
  · go_enter Try.func6, Try.ntmps6
    go_wp2
    go_ret
    exact ⟨rfl, Below.refl _ _⟩
  have hcode := codeAt_of hk (by omega) hi hw
  have Hcode := Lib.hid hcode; clear hcode hi hw
  go_enter Try.func6, Try.ntmps6
  go_wp2_with fail
  refine (spec_DrawShardMake a cap zs _ Hcode.out).mono ?_
  rintro e w1 ⟨v, xs, need, many, rfl, hown, hxl, hsm, hn0, hn1, hm0, hm1, hb1⟩
  clear hsm
  obtain ⟨al, cl, rfl, _, _, hxc⟩ := hown.src
  have Hl1 := Lib.hid hown; clear hown
  have Hb1 := Lib.hid hb1; clear hb1
  have hs1 := Hb1.out.size
  have hI := impl_ShardMake al cl xs need many w1 (by omega) hxc (IntsAt_own Hl1.out)
  have hS := fun w h => spec_ShardMake al cl xs need many w (by omega) h
  have hln := makeZ_len (d := xs) (need := need) (many := many)
  have hinn := makeZ_in (d := xs) (need := need) (many := many)
  have hmk : makeZ xs need many = makeZ xs need many := rfl
  generalize hL : makeZ xs need many = L at hI hS hln hinn
  clear hmk
  have HI := Lib.hid hI; clear hI
  have HS := Lib.hid hS; clear hS
  have HL := Lib.hid hL; clear hL
  have Hin := Lib.hid (show ∀ s ∈ L, s.2.length ≤ 1000000 from fun s hs => Nat.le_trans (hinn s hs) (by omega)); clear hinn
  go_wp2_with fail
  refine HI.out.mono ?_
  rintro e w2 ⟨vo, rfl, hbo, hb2⟩
  obtain ⟨ao, co, rfl, _⟩ := hbo.slice
  obtain ⟨fo, hro, hfo⟩ := hbo.rd
  have Hfo := Lib.hid hfo; clear hfo
  rw [List.length_map] at hbo hro
  have Hb2 := Lib.hid (below_step Hb1.out Hb1.out.size hb2)
  have Hl2 := Lib.hid (Hl1.out.below hb2)
  have Ho2 := Lib.hid hro; clear hro hbo
  have hs2 := hb2.size
  go_wp2_with fail
  refine (HS.out _ (IntsAt_own Hl2.out)).mono ?_
  rintro e w3 ⟨vu, rfl, hbu, hb3⟩
  obtain ⟨fu, hru, _⟩ := hbu.rd
  have Hb3 := Lib.hid (below_step Hb2.out Hb2.out.size hb3)
  have Hl3 := Lib.hid (Hl2.out.below hb3)
  have Ho3 := Lib.hid (Ho2.out.under hb3)
  have Hu3 := Lib.hid hru; clear hru hbu
  have hs3 := hb3.size
  go_wp2_with fail
  refine (laws_sameShards' L _ _ _ _ _ (by omega) Hin.out Ho3.out Hu3.out).mono ?_
  rintro e w4 ⟨rfl, hb4⟩
  have Hb4 := Lib.hid (below_step Hb3.out Hb3.out.size hb4)
  have Hl4 := Lib.hid (Hl3.out.below hb4)
  have Ho4 := Lib.hid (Ho3.out.under hb4)
  have Hu4 := Lib.hid (Hu3.out.under hb4)
  have hs4 := hb4.size
  cases hv : makeB xs need many with
  | false =>
    have hL0 : L = [] := by rw [← HL.out]; exact makeZ_no hv
    subst hL0
    go_wp2_with fail
    refine (laws_sameShards' [] _ _ _ _ _ (by simp) (by simp) Ho4.out Hu4.out).mono ?_
    rintro e w5 ⟨rfl, hb5⟩
    go_wp2
    go_ret
    exact ⟨rfl, below_step Hb4.out Hb4.out.size hb5⟩
  | true =>
    obtain ⟨hd, hnm, hm8⟩ := makeB_iff hv
    obtain ⟨hsy, ⟨hx1, hx2⟩, hn1', hn8⟩ := dataB_iff hd
    obtain ⟨need, rfl⟩ := Int.eq_ofNat_of_zero_le (show 0 ≤ need by omega)
    obtain ⟨many, rfl⟩ := Int.eq_ofNat_of_zero_le (show 0 ≤ many by omega)
    have hLe : L = (List.range many).map (shardZ xs need) := by rw [← HL.out]; exact makeZ_yes hv
    have hLl : L.length = many := by rw [hLe]; simp
    have Hget := Lib.hid (show ∀ k (hk : k < L.length), L[k] = shardZ xs need k from fun k hk => by subst hLe; simp)
    have Hsy := Lib.hid hsy; clear hsy hd hv hLe
    have hmz0 : ((many : Int) == 0) = false := by rw [beq_eq_false_iff_ne]; omega
    have hdB : dataB xs (need : Int) = true := by unfold dataB; simp only [Bool.and_eq_true, List.all_eq_true, decide_eq_true_eq]; exact ⟨⟨fun x hx => symB_yes (Hsy.out x hx), by omega⟩, by omega⟩
    clear hn0 hn1 hm0 hm1
    by_cases hmn : many ≤ need
    · have hdl : decide (many ≤ need) = true := decide_eq_true hmn
      clear hdB
      have ho4 := Ho4.out
      rw [hLl] at ho4
      have Ho4' := Lib.hid ho4; clear ho4
      go_wp2_with fail
      refine (laws_sameShards' L _ _ _ _ _ (by omega) Hin.out Ho4'.out Hu4.out).mono ?_
      rintro e w5 ⟨rfl, hb5⟩
      go_wp2
      go_ret
      exact ⟨rfl, below_step Hb4.out Hb4.out.size hb5⟩
    obtain ⟨gA, oA, rfl, hgA, hat⟩ := row_of_list Ho4.out (by omega)
    have Hat := Lib.hid hat; clear hat
    have hco : L.length ≤ co := by
      obtain ⟨gA', oA', eA, _, _, _, hco, _⟩ := Rd.at Ho4.out (by rw [List.length_map]; omega) (sz := 2) (by intro e he; obtain ⟨s, _, rfl⟩ := List.mem_map.1 he; rfl)
      exact hco
    have hex : ∀ k, ∃ p : Option Addr × Nat × List Nat, ∀ (_ : k < many), w4.cell? ⟨gA, oA + k * 2, none⟩ = some (.int .i64 ((k : Int) + 1)) ∧ w4.cell? ⟨gA, oA + k * 2 + 1, none⟩ = some (.slice p.1 (colsN xs need) p.2.1) ∧ IntsAt w4 p.1 (shardV xs need ((k : Int) + 1)) ∧ Rd w4 (intsD (shardV xs need ((k : Int) + 1))) (.slice p.1 (colsN xs need) p.2.1) p.2.2 ∧ ∀ r ∈ p.2.2, r < w4.heap.size := by
      intro k
      by_cases hk : k < many
      · obtain ⟨av, cv, fv, C0, C1, hi, hr, hf⟩ := Hat.out k (by omega)
        have hi' := hi
        rw [Hget.out k (by omega)] at C0 C1 hr
        simp only [shardZ] at C0 C1 hr
        rw [shardV_len] at C1 hr
        refine ⟨(av, cv, fv), fun _ => ⟨C0, C1, ?_, hr, fun r h => Ho4.out.lt r (hf r h)⟩⟩
        have : L[k].2 = shardV xs need ((k : Int) + 1) := by rw [Hget.out k (by omega)]; rfl
        rw [← this]; exact hi'
      · exact ⟨(none, 0, []), fun h => absurd h hk⟩
    obtain ⟨F, hF⟩ : ∃ F : Nat → Option Addr × Nat × List Nat, ∀ k (_ : k < many), w4.cell? ⟨gA, oA + k * 2, none⟩ = some (.int .i64 ((k : Int) + 1)) ∧ w4.cell? ⟨gA, oA + k * 2 + 1, none⟩ = some (.slice (F k).1 (colsN xs need) (F k).2.1) ∧ IntsAt w4 (F k).1 (shardV xs need ((k : Int) + 1)) ∧ Rd w4 (intsD (shardV xs need ((k : Int) + 1))) (.slice (F k).1 (colsN xs need) (F k).2.1) (F k).2.2 ∧ ∀ r ∈ (F k).2.2, r < w4.heap.size := ⟨fun k => Classical.choose (hex k), fun k => Classical.choose_spec (hex k)⟩
    have HF := Lib.hid hF; clear hF hex
    obtain ⟨vals, hvals⟩ : ∃ vals : List Value, vals = (List.range ((need + 1) * 2)).map fun j => if j % 2 = 0 then .int .i64 (((j / 2 : Nat) : Int) + 1) else .slice (F (j / 2)).1 (colsN xs need) (F (j / 2)).2.1 := ⟨_, rfl⟩
    have Hvl := Lib.hid (show vals.length = (need + 1) * 2 by rw [hvals]; simp)
    have Hv0 := Lib.hid (show ∀ k, k < need + 1 → vals[k * 2]? = some (.int .i64 ((k : Int) + 1)) from fun k hk => by rw [hvals]; simp [show k * 2 < (need + 1) * 2 by omega])
    have Hv1 := Lib.hid (show ∀ k, k < need + 1 → vals[k * 2 + 1]? = some (.slice (F k).1 (colsN xs need) (F k).2.1) from fun k hk => by rw [hvals]; simp [show k * 2 + 1 < (need + 1) * 2 by omega, show (k * 2 + 1) / 2 = k by omega, show (k * 2 + 1) % 2 = 1 by omega])
    have Hvc := Lib.hid (show ∀ j u, vals[j]? = some u → w4.cell? ⟨gA, oA + j, none⟩ = some u from fun j u hu => by
      have hj : j < (need + 1) * 2 := by have := Hvl.out; obtain ⟨h, _⟩ := List.getElem?_eq_some_iff.1 hu; omega
      have hm2 : j / 2 < many := by omega
      obtain ⟨c0, c1, _⟩ := HF.out (j / 2) hm2
      by_cases he : j % 2 = 0
      · have hje : j / 2 * 2 = j := by omega
        have := Hv0.out (j / 2) (by omega)
        rw [hje, hu] at this
        rw [hje] at c0
        rw [c0, ← this]
      · have hje : j / 2 * 2 + 1 = j := by omega
        have := Hv1.out (j / 2) (by omega)
        rw [hje, hu] at this
        rw [Nat.add_assoc, hje] at c1
        rw [c1, ← this])
    have Hvo := Lib.hid (show ∀ u ∈ vals, u.oneCell' = true from fun u hu => by rw [hvals] at hu; obtain ⟨j, _, rfl⟩ := List.mem_map.1 hu; split <;> rfl)
    clear hvals
    have hkk : ms.length % (need + 1) < need + 1 := Nat.mod_lt _ (by omega)
    have hme : ((ms.length : Int)) % ((need : Int) + 1) = ((ms.length % (need + 1) : Nat) : Int) := by rw [Int.natCast_emod, Int.natCast_add]; rfl
    generalize ms.length % (need + 1) = kk at *
    have hcols1 : 1 ≤ colsN xs need := (cols_lt (by omega)).2 (by omega)
    have hcols2 := cols_le (d := xs) (need := need) (by omega) hx2
    have hmc : need + 1 ≤ co := by omega
    have hmc2 : ((need : Int) + 1) ≤ (co : Int) := by omega
    have hmn2 : decide (many ≤ need) = false := decide_eq_false hmn
    have hc00 : ¬ co = 0 := by omega
    have hoE : (w4.alloc (.cells #[] 30)).ownsRow w4.heap.size 30 2 (.slice (some ⟨w4.heap.size, 0, none⟩) 0 0) 0 [] := World.ownsRow_made w4 #[] 0 (Nat.le_refl _) (by simp) (by simp)
    have HoE := Lib.hid hoE; clear hoE
    have hcE : ∀ j u, vals[j]? = some u → (w4.alloc (.cells #[] 30)).cell? ((⟨gA, oA, none⟩ : Addr).add j) = some u := fun j u hu => by rw [addr_add']; exact (World.grownBy_alloc w4 _ none).cell (Hvc.out j u hu) (by simp)
    have HcE := Lib.hid hcE; clear hcE
    have Hba := Lib.hid ((Below.refl w4.heap.size w4).alloc (Nat.le_refl _) (.cells #[] 30))
    obtain ⟨cA0, cA1, hik, _, _⟩ := HF.out kk (by omega)
    obtain ⟨bk, ok, hFk, hbk, hck⟩ := hik.cell (by rw [shardV_len]; omega)
    have hvk := Hv1.out kk hkk
    rw [hFk] at hvk cA1 hik
    have Hik := Lib.hid hik
    have HcA := Lib.hid (And.intro cA0 cA1)
    clear cA0 cA1
    generalize (F kk).2.1 = ck at *
    clear hFk hik
    have hxl := shardV_len xs need ((kk : Int) + 1)
    have Hw := Lib.hid (fun ys => wrong_shard (d := xs) (need := need) (many := many) (kk := kk) (ys := ys) hdB (by omega) (by omega) hkk)
    have hxd := shardV_bd (d := xs) (need := need) (x := (kk : Int) + 1)
    have HL2 := Lib.hid (show ∀ ys, (((List.range (need + 1)).map (shardZ xs need)).set kk ((kk : Int) + 1, ys)).length = need + 1 from fun ys => by simp)
    have HLg := Lib.hid (show ∀ ys k (h : k < (((List.range (need + 1)).map (shardZ xs need)).set kk ((kk : Int) + 1, ys)).length), (((List.range (need + 1)).map (shardZ xs need)).set kk ((kk : Int) + 1, ys))[k] = if k = kk then ((kk : Int) + 1, ys) else ((k : Int) + 1, shardV xs need ((k : Int) + 1)) from fun ys k h => by
      by_cases e : k = kk
      · subst e; simp
      · rw [if_neg e, List.getElem_set_ne (fun h => e h.symm)]; simp [shardZ])
    generalize shardV xs need ((kk : Int) + 1) = xs0 at *
    generalize hcn : colsN xs need = cn at *
    subst hxl
    have Hcn := Lib.hid hcn
    clear hcn hdB
    have HckG := Lib.hid (show ∀ w5, Below w4.heap.size w4 w5 → ∀ j (h : j < xs0.length), (w5.alloc (.cells #[] 3)).cell? ((⟨bk, ok, none⟩ : Addr).add j) = some (.int .i64 xs0[j]) from fun w5 hB5 j h => by rw [addr_add']; exact (World.grownBy_alloc w5 _ none).cell ((hB5.cell (p := ⟨bk, ok + j, none⟩) hbk).trans (hck j h)) (by simp)); clear hck
    have Hvk := Lib.hid hvk; clear hvk
    have Hxd := Lib.hid hxd; clear hxd
    have hil : zs.length % xs0.length < xs0.length := Nat.mod_lt _ (by omega)
    go_wp2_with (first | (at_builtin; refine wpList_spread Try.underlying26 sh_info rfl (by decide) (by decide) rfl (.tmp 60) (.tmp 64) rfl w4.heap.size _ rfl HoE.out ⟨gA, oA, none⟩ (need + 1) co rfl vals Hvl.out HcE.out Hvo.out (by omega) (by simp) ?_; intro v5 w5 ho5 hg5 hl5; obtain ⟨gs, cS, rfl, hgs, hgs2, hcS⟩ := row_form ho5 (by omega); have hB5 := Hba.out.grown hg5 Hba.out.size (fun g e => by cases e; exact Nat.le_refl _); have hs5 := hB5.size; have k5 := World.ownsRow.cells ho5 (g := gs) rfl _ _ Hvk.out; rw [addr_add] at k5; have Hg5 := Lib.hid hg5; have HB5 := Lib.hid hB5; have Ho5 := Lib.hid ho5; clear hg5 hB5 ho5 hl5) | (at_builtin; refine wpList_app TI3 rfl (.tmp 66) (.tmp 71) rfl w5.heap.size _ [] xs0 ⟨bk, ok, none⟩ xs0.length ck rfl rfl (own_empty 3 w5 (Nat.le_refl _)) rfl (HckG.out _ HB5.out) (by simp; omega) (by simp) ?_; intro v6 w6 ho6 hg6; rw [List.nil_append] at ho6; have Ho6 := Lib.hid ho6; have Hg6 := Lib.hid hg6; obtain ⟨gv, cv6, rfl, hgv, hgv2, _, hcv6, _⟩ := ho6.row (by omega); have q6 := hcv6 _ hil; clear ho6 hg6 hcv6))
    have hi0 : ((zs.length : Int)).tmod (xs0.length : Int) = ((zs.length % xs0.length : Nat) : Int) := by rw [Int.tmod_eq_emod_of_nonneg (by omega)]; exact (Int.natCast_emod _ _).symm
    have hm2 : ((ms.length : Int)).tmod 250 = ((ms.length % 250 : Nat) : Int) := by rw [Int.tmod_eq_emod_of_nonneg (by omega)]; omega
    have hm2l : ms.length % 250 < 250 := Nat.mod_lt _ (by omega)
    have hx0 := Hxd.out _ (List.getElem_mem hil)
    have f6 : w6.frozen? ⟨gv, zs.length % xs0.length, none⟩ = false := by
      obtain ⟨g', c', e', _, _, _, _, hf⟩ := Ho6.out.row (by omega)
      simp only [Value.slice.injEq, Option.some.injEq, Addr.mk.injEq] at e'
      rw [e'.1.1]; exact hf _
    generalize hie : zs.length % xs0.length = i0 at *
    generalize hx0e : xs0[i0] = x0 at *
    generalize ms.length % 250 = m2 at *
    clear hie hx0e
    have hw1 : IntKind.i64.wrap (x0 + 1) = x0 + 1 := IntWalk.i64_in _ (by omega)
    have hw2 : IntKind.i64.wrap (x0 + 1 + (m2 : Int)) = x0 + 1 + (m2 : Int) := IntWalk.i64_in _ (by omega)
    obtain ⟨z, hz⟩ : ∃ z, (x0 + 1 + (m2 : Int)).tmod 251 = z := ⟨_, rfl⟩
    have hil' : (i0 : Int) < (xs0.length : Int) := by omega
    refine wp_region_L 21 (fun w' => w'.cell? ⟨gv, i0, none⟩ = some (.int .i64 x0)) (by kernel_rfl) q6 (fun hH => ?_)
    refine takeL 0 (v := ?vw0) rfl (by kernel_rfl) (by kernel_rfl) (by kernel_rfl) (by kernel_rfl) (by kernel_rfl) (fun _ _ _ h => h) hH rfl ?yw0 ?rw0
    case yw0 => intro W hSw; go_simp; try with_reducible rfl
    try simp only [Act.put, List.setIfInBounds_toArray, List.set_cons_zero, List.set_cons_succ]
    refine takeL 1 (v := ?vw1) rfl (by kernel_rfl) (by kernel_rfl) (by kernel_rfl) (by kernel_rfl) (by kernel_rfl) (fun _ _ _ h => h) hH rfl ?yw1 ?rw1
    case yw1 => intro W hSw; go_simp; try with_reducible rfl
    try simp only [Act.put, List.setIfInBounds_toArray, List.set_cons_zero, List.set_cons_succ]
    refine takeL 2 (v := ?vw2) rfl (by kernel_rfl) (by kernel_rfl) (by kernel_rfl) (by kernel_rfl) (by kernel_rfl) (fun _ _ _ h => h) hH rfl ?yw2 ?rw2
    case yw2 => intro W hSw; go_simp; try with_reducible rfl
    try simp only [Act.put, List.setIfInBounds_toArray, List.set_cons_zero, List.set_cons_succ]
    refine takeL 3 (v := ?vw3) rfl (by kernel_rfl) (by kernel_rfl) (by kernel_rfl) (by kernel_rfl) (by kernel_rfl) (fun _ _ _ h => h) hH rfl ?yw3 ?rw3
    case yw3 => intro W hSw; go_simp; try with_reducible rfl
    try simp only [Act.put, List.setIfInBounds_toArray, List.set_cons_zero, List.set_cons_succ]
    refine takeL 4 (v := ?vw4) rfl (by kernel_rfl) (by kernel_rfl) (by kernel_rfl) (by kernel_rfl) (by kernel_rfl) (fun _ _ _ h => h) hH rfl ?yw4 ?rw4
    case yw4 => intro W hSw; go_simp; try with_reducible rfl
    try simp only [Act.put, List.setIfInBounds_toArray, List.set_cons_zero, List.set_cons_succ]
    refine takeL 5 (v := ?vw5) rfl (by kernel_rfl) (by kernel_rfl) (by kernel_rfl) (by kernel_rfl) (by kernel_rfl) (fun _ _ _ h => h) hH rfl ?yw5 ?rw5
    case yw5 => intro W hSw; go_simp; rw [if_neg (fun e => by rw [e] at hil; simp at hil)]
    try simp only [Act.put, List.setIfInBounds_toArray, List.set_cons_zero, List.set_cons_succ]
    refine takeL 6 (v := ?vw6) rfl (by kernel_rfl) (by kernel_rfl) (by kernel_rfl) (by kernel_rfl) (by kernel_rfl) (fun _ _ _ h => h) hH rfl ?yw6 ?rw6
    case yw6 => intro W hSw; go_simp; try with_reducible rfl
    try simp only [Act.put, List.setIfInBounds_toArray, List.set_cons_zero, List.set_cons_succ]
    refine takeL 7 (v := ?vw7) rfl (by kernel_rfl) (by kernel_rfl) (by kernel_rfl) (by kernel_rfl) (by kernel_rfl) (fun _ _ _ h => h) hH rfl ?yw7 ?rw7
    case yw7 => intro W hSw; go_simp; try with_reducible rfl
    try simp only [Act.put, List.setIfInBounds_toArray, List.set_cons_zero, List.set_cons_succ]
    refine takeL 8 (v := ?vw8) rfl (by kernel_rfl) (by kernel_rfl) (by kernel_rfl) (by kernel_rfl) (by kernel_rfl) (fun _ _ _ h => h) hH rfl ?yw8 ?rw8
    case yw8 => intro W hSw; go_simp; try with_reducible rfl
    try simp only [Act.put, List.setIfInBounds_toArray, List.set_cons_zero, List.set_cons_succ]
    refine takeL 9 (v := ?vw9) rfl (by kernel_rfl) (by kernel_rfl) (by kernel_rfl) (by kernel_rfl) (by kernel_rfl) (fun _ _ _ h => h) hH rfl ?yw9 ?rw9
    case yw9 => intro W hSw; go_simp; try with_reducible rfl
    try simp only [Act.put, List.setIfInBounds_toArray, List.set_cons_zero, List.set_cons_succ]
    refine takeL 10 (v := ?vw10) rfl (by kernel_rfl) (by kernel_rfl) (by kernel_rfl) (by kernel_rfl) (by kernel_rfl) (fun _ _ _ h => h) hH rfl ?yw10 ?rw10
    case yw10 => intro W hSw; go_simp; try with_reducible rfl
    try simp only [Act.put, List.setIfInBounds_toArray, List.set_cons_zero, List.set_cons_succ]
    refine takeL 11 (v := ?vw11) rfl (by kernel_rfl) (by kernel_rfl) (by kernel_rfl) (by kernel_rfl) (by kernel_rfl) (fun _ _ _ h => h) hH rfl ?yw11 ?rw11
    case yw11 => intro W hSw; go_simp; rw [if_neg (fun e => by rw [e] at hil; simp at hil)]
    try simp only [Act.put, List.setIfInBounds_toArray, List.set_cons_zero, List.set_cons_succ]
    refine takeL 12 (v := ?vw12) rfl (by kernel_rfl) (by kernel_rfl) (by kernel_rfl) (by kernel_rfl) (by kernel_rfl) (fun _ _ _ h => h) hH rfl ?yw12 ?rw12
    case yw12 => intro W hSw; go_simp; try with_reducible rfl
    try simp only [Act.put, List.setIfInBounds_toArray, List.set_cons_zero, List.set_cons_succ]
    refine takeL 13 (v := ?vw13) rfl (by kernel_rfl) (by kernel_rfl) (by kernel_rfl) (by kernel_rfl) (by kernel_rfl) (fun _ _ _ h => h) hH rfl ?yw13 ?rw13
    case yw13 => intro W hSw; go_simp; try with_reducible rfl
    try simp only [Act.put, List.setIfInBounds_toArray, List.set_cons_zero, List.set_cons_succ]
    refine takeL 14 (v := ?vw14) rfl (by kernel_rfl) (by kernel_rfl) (by kernel_rfl) (by kernel_rfl) (by kernel_rfl) (fun _ _ _ h => h) hH rfl ?yw14 ?rw14
    case yw14 => intro W hSw; go_simp; try with_reducible rfl
    try simp only [Act.put, List.setIfInBounds_toArray, List.set_cons_zero, List.set_cons_succ]
    refine takeL 15 (v := ?vw15) rfl (by kernel_rfl) (by kernel_rfl) (by kernel_rfl) (by kernel_rfl) (by kernel_rfl) (fun _ _ _ h => h) hH rfl ?yw15 ?rw15
    case yw15 => intro W hSw; go_simp; try with_reducible rfl
    try simp only [Act.put, List.setIfInBounds_toArray, List.set_cons_zero, List.set_cons_succ]
    refine takeL 16 (v := ?vw16) rfl (by kernel_rfl) (by kernel_rfl) (by kernel_rfl) (by kernel_rfl) (by kernel_rfl) (fun _ _ _ h => h) hH rfl ?yw16 ?rw16
    case yw16 => intro W hSw; go_simp; try with_reducible rfl
    try simp only [Act.put, List.setIfInBounds_toArray, List.set_cons_zero, List.set_cons_succ]
    refine takeL 17 (v := ?vw17) rfl (by kernel_rfl) (by kernel_rfl) (by kernel_rfl) (by kernel_rfl) (by kernel_rfl) (fun _ _ _ h => h) hH rfl ?yw17 ?rw17
    case yw17 => intro W hSw; go_simp; try with_reducible rfl
    try simp only [Act.put, List.setIfInBounds_toArray, List.set_cons_zero, List.set_cons_succ]
    refine takeL 18 (v := ?vw18) rfl (by kernel_rfl) (by kernel_rfl) (by kernel_rfl) (by kernel_rfl) (by kernel_rfl) (fun _ _ _ h => h) hH rfl ?yw18 ?rw18
    case yw18 => intro W hSw; go_simp; try with_reducible rfl
    try simp only [Act.put, List.setIfInBounds_toArray, List.set_cons_zero, List.set_cons_succ]
    refine takeL 19 (v := ?vw19) rfl (by kernel_rfl) (by kernel_rfl) (by kernel_rfl) (by kernel_rfl) (by kernel_rfl) (fun _ _ _ h => h) hH rfl ?yw19 ?rw19
    case yw19 => intro W hSw; go_simp; try with_reducible rfl
    try simp only [Act.put, List.setIfInBounds_toArray, List.set_cons_zero, List.set_cons_succ]
    refine takeL 20 (v := ?vw20) rfl (by kernel_rfl) (by kernel_rfl) (by kernel_rfl) (by kernel_rfl) (by kernel_rfl) (fun _ _ _ h => h) hH rfl ?yw20 ?rw20
    case yw20 => intro W hSw; go_simp; try with_reducible rfl
    try simp only [Act.put, List.setIfInBounds_toArray, List.set_cons_zero, List.set_cons_succ]
    refine lastL rfl (by kernel_rfl) (by kernel_rfl) (by kernel_rfl) rfl (fun K hK => ?_)
    go_simp
    refine hK.out _ _ ?_
    clear hK K
    try simp only [Act.put]
    have hB6 : Below w5.heap.size w5 w6 := ((Below.refl _ w5).alloc (Nat.le_refl _) _).grown Hg6.out (by simp) (fun g e => by cases e; exact Nat.le_refl _)
    have hB7 : Below w4.heap.size w4 (w6.setCell ⟨gv, i0, none⟩ (.int .i64 z)).drew := ((below_step HB5.out hs5 hB6).setCell (p := ⟨gv, i0, none⟩) (by simp only; omega) _).drew
    have hs6 := hB6.size
    have r6 := row_same Ho5.out (fun g e => hB6.block g (by cases e; exact hgs2))
    have r7a := World.ownsRow.kept r6 (grownBy_set w6 gv i0 (.int .i64 z)) (.inr (fun e => by have : gs = gv := Option.some.inj e; omega))
    have r7 : (w6.setCell ⟨gv, i0, none⟩ (.int .i64 z)).drew.ownsRow w4.heap.size 30 2 (.slice (some ⟨gs, 0, none⟩) (need + 1) cS) (need + 1) vals := r7a
    have o7 : Own 3 (w6.setCell ⟨gv, i0, none⟩ (.int .i64 z)).drew w5.heap.size (.slice (some ⟨gv, 0, none⟩) xs0.length cv6) (xs0.set i0 z) := (Ho6.out.store rfl i0 z).1
    have hs7 : w5.heap.size ≤ (w6.setCell ⟨gv, i0, none⟩ (.int .i64 z)).drew.heap.size := Nat.le_trans hs6 (grownBy_set w6 gv i0 (.int .i64 z)).size
    clear hH q6 f6 hB6 r6 r7a
    generalize (w6.setCell ⟨gv, i0, none⟩ (.int .i64 z)).drew = W7 at *
    have c70 := World.ownsRow.cells r7 (g := gs) rfl _ _ (Hv0.out kk hkk)
    have c71 := World.ownsRow.cells r7 (g := gs) rfl _ _ Hvk.out
    rw [addr_add] at c70 c71
    have f70 := World.ownsRow.frozenAt r7 (kk * 2)
    have f71 := World.ownsRow.frozenAt r7 (kk * 2 + 1)
    have r8 := (World.ownsRow.stored (World.ownsRow.stored r7 (kk * 2) (.int .i64 ((kk : Int) + 1))).1 (kk * 2 + 1) (.slice (some ⟨gv, 0, none⟩) xs0.length cv6)).1
    have hne8 : (Value.slice (some ⟨gv, 0, none⟩) xs0.length cv6).ownBlock ≠ some gs := fun e => by have : gv = gs := Option.some.inj e; omega
    have o8 := (o7.set_other hne8 (kk * 2) (.int .i64 ((kk : Int) + 1))).set_other hne8 (kk * 2 + 1) (.slice (some ⟨gv, 0, none⟩) xs0.length cv6)
    have hB8 := (hB7.setCell (p := ⟨gs, kk * 2, none⟩) hgs (.int .i64 ((kk : Int) + 1))).setCell (p := ⟨gs, kk * 2 + 1, none⟩) hgs (.slice (some ⟨gv, 0, none⟩) xs0.length cv6)
    have hs8 : w5.heap.size ≤ ((W7.setCell ⟨gs, kk * 2, none⟩ (.int .i64 ((kk : Int) + 1))).setCell ⟨gs, kk * 2 + 1, none⟩ (.slice (some ⟨gv, 0, none⟩) xs0.length cv6)).heap.size := by simp [World.setCell]; exact hs7
    have R8 := Lib.hid r8; clear r8 r7
    have O8 := Lib.hid o8; clear o8 o7 hne8
    have B8 := Lib.hid hB8; clear hB8 hB7
    clear HoE HcE Ho5 Ho6 Hg6 Hg5 HckG
    go_wp2_with fail
    clear c70 c71 f70 f71
    generalize ((W7.setCell ⟨gs, kk * 2, none⟩ (.int .i64 ((kk : Int) + 1))).setCell ⟨gs, kk * 2 + 1, none⟩ (.slice (some ⟨gv, 0, none⟩) xs0.length cv6)) = W8 at *
    generalize hys : xs0.set i0 z = ys at *
    have hyl : ys.length = xs0.length := by rw [← hys]; simp
    clear hys
    have hvl := Hvl.out
    have g0 : ∀ k, k < need + 1 → ((vals.set (kk * 2) (.int .i64 ((kk : Int) + 1))).set (kk * 2 + 1) (.slice (some ⟨gv, 0, none⟩) xs0.length cv6))[k * 2]? = some (.int .i64 ((k : Int) + 1)) := by
      intro k hk
      rw [List.getElem?_set_ne (by omega)]
      by_cases e : k = kk
      · subst e; rw [List.getElem?_set_self (by omega)]
      · rw [List.getElem?_set_ne (by omega)]; exact Hv0.out k hk
    have g1 : ∀ k, k < need + 1 → k ≠ kk → ((vals.set (kk * 2) (.int .i64 ((kk : Int) + 1))).set (kk * 2 + 1) (.slice (some ⟨gv, 0, none⟩) xs0.length cv6))[k * 2 + 1]? = some (.slice (F k).1 xs0.length (F k).2.1) := by
      intro k hk e
      rw [List.getElem?_set_ne (by omega), List.getElem?_set_ne (by omega)]; exact Hv1.out k hk
    have g2 : ((vals.set (kk * 2) (.int .i64 ((kk : Int) + 1))).set (kk * 2 + 1) (.slice (some ⟨gv, 0, none⟩) xs0.length cv6))[kk * 2 + 1]? = some (.slice (some ⟨gv, 0, none⟩) xs0.length cv6) := by
      rw [List.getElem?_set_self (by rw [List.length_set]; omega)]
    obtain ⟨fj, hrj⟩ := rd_of_row R8.out (L := ((List.range (need + 1)).map (shardZ xs need)).set kk ((kk : Int) + 1, ys)) (HL2.out ys).symm (by omega) hcS (fun k hk => by
      have hk' : k < need + 1 := by rw [HL2.out] at hk; exact hk
      rw [HLg.out ys k hk]
      by_cases e : k = kk
      · subst e; rw [if_pos rfl]; obtain ⟨fo9, ro9, _⟩ := Rd.of_own O8.out; exact ⟨g0 k hk', _, fo9, g2, ro9⟩
      · rw [if_neg e]; obtain ⟨_, _, _, hrk, hfk⟩ := HF.out k (by omega); exact ⟨g0 k hk', _, _, g1 k hk' e, Rd.underB B8.out hrk hfk⟩)
    clear g0 g1 g2
    have hij := impl_ShardJoin xs.length need _ _ fj W8 (by rw [HL2.out]; omega) (fun s hs => by
      obtain ⟨k, hk, rfl⟩ := List.mem_iff_getElem.1 hs
      rw [HLg.out ys k hk]
      by_cases e : k = kk
      · rw [if_pos e]; show ys.length ≤ _; omega
      · rw [if_neg e]; show (shardV _ _ _).length ≤ _; rw [shardV_len, Hcn.out]; omega) hrj
    rw [HL2.out] at hij
    clear hrj
    cases hj : joinB xs.length need (((List.range (need + 1)).map (shardZ xs need)).set kk ((kk : Int) + 1, ys)) with
    | false =>
      rw [hj] at hij
      have Hij := Lib.hid hij; clear hij hj
      refine Hij.out.mono ?_
      rintro e w9 ⟨u, rfl, _, hb9⟩
      have Hb9 := Lib.hid (below_step (below_step Hb4.out Hb4.out.size B8.out) (by omega) hb9)
      go_wp2_with fail
      refine wp_region_held_drew (S := fun _ => True) (by kernel_rfl) trivial (fun hH => ?_)
      refine takeH 0 (v := ?vu0) rfl (by kernel_rfl) (by kernel_rfl) (by kernel_rfl) (fun _ _ _ h => h) hH rfl ?yu0 ?ru0
      case yu0 => intro W hSw; go_simp; try with_reducible rfl
      try simp only [Act.put, List.setIfInBounds_toArray, List.set_cons_zero, List.set_cons_succ]
      refine takeH 1 (v := ?vu1) rfl (by kernel_rfl) (by kernel_rfl) (by kernel_rfl) (fun _ _ _ h => h) hH rfl ?yu1 ?ru1
      case yu1 => intro W hSw; go_simp; try with_reducible rfl
      try simp only [Act.put, List.setIfInBounds_toArray, List.set_cons_zero, List.set_cons_succ]
      refine takeH 2 (v := ?vu2) rfl (by kernel_rfl) (by kernel_rfl) (by kernel_rfl) (fun _ _ _ h => h) hH rfl ?yu2 ?ru2
      case yu2 => intro W hSw; go_simp; try with_reducible rfl
      try simp only [Act.put, List.setIfInBounds_toArray, List.set_cons_zero, List.set_cons_succ]
      refine skipH 3 rfl (by kernel_rfl) (by kernel_rfl) (by kernel_rfl) (fun _ _ _ h => h) hH rfl ?_
      try simp only [Act.put, List.setIfInBounds_toArray, List.set_cons_zero, List.set_cons_succ]
      refine skipH 4 rfl (by kernel_rfl) (by kernel_rfl) (by kernel_rfl) (fun _ _ _ h => h) hH rfl ?_
      try simp only [Act.put, List.setIfInBounds_toArray, List.set_cons_zero, List.set_cons_succ]
      refine skipH 5 rfl (by kernel_rfl) (by kernel_rfl) (by kernel_rfl) (fun _ _ _ h => h) hH rfl ?_
      try simp only [Act.put, List.setIfInBounds_toArray, List.set_cons_zero, List.set_cons_succ]
      refine skipH 6 rfl (by kernel_rfl) (by kernel_rfl) (by kernel_rfl) (fun _ _ _ h => h) hH rfl ?_
      try simp only [Act.put, List.setIfInBounds_toArray, List.set_cons_zero, List.set_cons_succ]
      refine skipH 7 rfl (by kernel_rfl) (by kernel_rfl) (by kernel_rfl) (fun _ _ _ h => h) hH rfl ?_
      try simp only [Act.put, List.setIfInBounds_toArray, List.set_cons_zero, List.set_cons_succ]
      refine skipH 8 rfl (by kernel_rfl) (by kernel_rfl) (by kernel_rfl) (fun _ _ _ h => h) hH rfl ?_
      try simp only [Act.put, List.setIfInBounds_toArray, List.set_cons_zero, List.set_cons_succ]
      refine skipH 9 rfl (by kernel_rfl) (by kernel_rfl) (by kernel_rfl) (fun _ _ _ h => h) hH rfl ?_
      try simp only [Act.put, List.setIfInBounds_toArray, List.set_cons_zero, List.set_cons_succ]
      refine skipH 10 rfl (by kernel_rfl) (by kernel_rfl) (by kernel_rfl) (fun _ _ _ h => h) hH rfl ?_
      try simp only [Act.put, List.setIfInBounds_toArray, List.set_cons_zero, List.set_cons_succ]
      refine skipH 11 rfl (by kernel_rfl) (by kernel_rfl) (by kernel_rfl) (fun _ _ _ h => h) hH rfl ?_
      try simp only [Act.put, List.setIfInBounds_toArray, List.set_cons_zero, List.set_cons_succ]
      refine takeH 12 (v := ?vu12) rfl (by kernel_rfl) (by kernel_rfl) (by kernel_rfl) (fun _ _ _ h => h) hH rfl ?yu12 ?ru12
      case yu12 => intro W hSw; go_simp; try with_reducible rfl
      try simp only [Act.put, List.setIfInBounds_toArray, List.set_cons_zero, List.set_cons_succ]
      refine takeH 13 (v := ?vu13) rfl (by kernel_rfl) (by kernel_rfl) (by kernel_rfl) (fun _ _ _ h => h) hH rfl ?yu13 ?ru13
      case yu13 => intro W hSw; go_simp; try with_reducible rfl
      try simp only [Act.put, List.setIfInBounds_toArray, List.set_cons_zero, List.set_cons_succ]
      refine wpAnyH_done (by kernel_rfl) ?_ _
      try simp only [Act.put]
      go_wp2
      go_ret
      exact ⟨rfl, Hb9.out.drew⟩
    | true =>
      obtain rfl := Hw.out ys hj
      rw [hj] at hij
      have Hij := Lib.hid hij; clear hij hj
      have k8 := World.ownsRow.cells R8.out (g := gs) rfl (kk * 2) (.int .i64 ((kk : Int) + 1)) (by rw [List.getElem?_set_ne (by omega), List.getElem?_set_self (by omega)])
      have l8 := World.ownsRow.cells R8.out (g := gs) rfl (kk * 2 + 1) (.slice (some ⟨gv, 0, none⟩) ys.length cv6) (by rw [List.getElem?_set_self (by rw [List.length_set]; omega)])
      rw [addr_add] at k8 l8
      have hsz8 : w5.heap.size ≤ W8.heap.size := hs8
      refine Hij.out.mono ?_
      rintro e w9 ⟨u, rfl, _, hb9⟩
      have Hb9 := Lib.hid (below_step (below_step Hb4.out Hb4.out.size B8.out) (by omega) hb9)
      have k9 := (hb9.cell (p := ⟨gs, kk * 2, none⟩) (by simp only; omega)).trans k8
      have l9 := (hb9.cell (p := ⟨gs, kk * 2 + 1, none⟩) (by simp only; omega)).trans l8
      have hB49 := below_step B8.out (by omega) hb9
      have hz9 := hb9.size
      have m9 := (hB49.cell (p := ⟨gA, oA + kk * 2, none⟩) hgA).trans HcA.out.1
      have n9 := (hB49.cell (p := ⟨gA, oA + kk * 2 + 1, none⟩) hgA).trans HcA.out.2
      have O9 := Lib.hid (IntsAt_own (O8.out.below hb9))
      have I9 := Lib.hid (Hik.out.below hB49)
      have hkL : kk < many := by omega
      have hkI : (kk : Int) < (need : Int) + 1 := by omega
      have hkI2 : (kk : Int) < (many : Int) := by omega
      clear k8 l8 hb9 hB49
      go_wp2_with fail
      refine wp_region_held_drew (S := fun w' => w'.cell? ⟨gs, kk * 2, none⟩ = some (.int .i64 ((kk : Int) + 1)) ∧ w'.cell? ⟨gs, kk * 2 + 1, none⟩ = some (.slice (some ⟨gv, 0, none⟩) ys.length cv6) ∧ w'.cell? ⟨gA, oA + kk * 2, none⟩ = some (.int .i64 ((kk : Int) + 1)) ∧ w'.cell? ⟨gA, oA + kk * 2 + 1, none⟩ = some (.slice (some ⟨bk, ok, none⟩) ys.length ck)) (by kernel_rfl) ⟨k9, l9, m9, n9⟩ (fun hH => ?_)
      refine takeH 0 (v := ?vz0) rfl (by kernel_rfl) (by kernel_rfl) (by kernel_rfl) (fun _ _ _ h => h) hH rfl ?yz0 ?rz0
      case yz0 => intro W hSw; go_simp; try with_reducible rfl
      try simp only [Act.put, List.setIfInBounds_toArray, List.set_cons_zero, List.set_cons_succ]
      refine takeH 1 (v := ?vz1) rfl (by kernel_rfl) (by kernel_rfl) (by kernel_rfl) (fun _ _ _ h => h) hH rfl ?yz1 ?rz1
      case yz1 => intro W hSw; go_simp; try with_reducible rfl
      try simp only [Act.put, List.setIfInBounds_toArray, List.set_cons_zero, List.set_cons_succ]
      refine takeH 2 (v := ?vz2) rfl (by kernel_rfl) (by kernel_rfl) (by kernel_rfl) (fun _ _ _ h => h) hH rfl ?yz2 ?rz2
      case yz2 => intro W hSw; go_simp; try with_reducible rfl
      try simp only [Act.put, List.setIfInBounds_toArray, List.set_cons_zero, List.set_cons_succ]
      refine takeH 3 (v := ?vz3) rfl (by kernel_rfl) (by kernel_rfl) (by kernel_rfl) (fun _ _ _ h => h) hH rfl ?yz3 ?rz3
      case yz3 => intro W hSw; go_simp; try with_reducible rfl
      try simp only [Act.put, List.setIfInBounds_toArray, List.set_cons_zero, List.set_cons_succ]
      refine takeH 4 (v := ?vz4) rfl (by kernel_rfl) (by kernel_rfl) (by kernel_rfl) (fun _ _ _ h => h) hH rfl ?yz4 ?rz4
      case yz4 => intro W hSw; go_simp; try with_reducible rfl
      try simp only [Act.put, List.setIfInBounds_toArray, List.set_cons_zero, List.set_cons_succ]
      refine takeH 5 (v := ?vz5) rfl (by kernel_rfl) (by kernel_rfl) (by kernel_rfl) (fun _ _ _ h => h) hH rfl ?yz5 ?rz5
      case yz5 => intro W hSw; go_simp; try with_reducible rfl
      try simp only [Act.put, List.setIfInBounds_toArray, List.set_cons_zero, List.set_cons_succ]
      refine takeH 6 (v := ?vz6) rfl (by kernel_rfl) (by kernel_rfl) (by kernel_rfl) (fun _ _ _ h => h) hH rfl ?yz6 ?rz6
      case yz6 => intro W hSw; go_simp; try with_reducible rfl
      try simp only [Act.put, List.setIfInBounds_toArray, List.set_cons_zero, List.set_cons_succ]
      refine takeH 7 (v := ?vz7) rfl (by kernel_rfl) (by kernel_rfl) (by kernel_rfl) (fun _ _ _ h => h) hH rfl ?yz7 ?rz7
      case yz7 => intro W hSw; go_simp; try with_reducible rfl
      try simp only [Act.put, List.setIfInBounds_toArray, List.set_cons_zero, List.set_cons_succ]
      refine takeH 8 (v := ?vz8) rfl (by kernel_rfl) (by kernel_rfl) (by kernel_rfl) (fun _ _ _ h => h) hH rfl ?yz8 ?rz8
      case yz8 => intro W hSw; go_simp; try with_reducible rfl
      try simp only [Act.put, List.setIfInBounds_toArray, List.set_cons_zero, List.set_cons_succ]
      refine takeH 9 (v := ?vz9) rfl (by kernel_rfl) (by kernel_rfl) (by kernel_rfl) (fun _ _ _ h => h) hH rfl ?yz9 ?rz9
      case yz9 => intro W hSw; go_simp; try with_reducible rfl
      try simp only [Act.put, List.setIfInBounds_toArray, List.set_cons_zero, List.set_cons_succ]
      refine takeH 10 (v := ?vz10) rfl (by kernel_rfl) (by kernel_rfl) (by kernel_rfl) (fun _ _ _ h => h) hH rfl ?yz10 ?rz10
      case yz10 => intro W hSw; go_simp; try with_reducible rfl
      try simp only [Act.put, List.setIfInBounds_toArray, List.set_cons_zero, List.set_cons_succ]
      refine callH 11 rfl (by kernel_rfl) rfl (fun K hK => ?_)
      go_simp
      refine (laws_sameShard' ((kk : Int) + 1) (some ⟨gv, 0, none⟩) (some ⟨bk, ok, none⟩) cv6 ck ys w9.drew (by omega) O9.out I9.out).mono ?_
      rintro e w10 ⟨rfl, hb10⟩
      dsimp only
      have hwd : w9.drew.heap.size = w9.heap.size := rfl
      refine hK.out _ _ ⟨(hb10.cell (p := ⟨gs, kk * 2, none⟩) (by simp only; omega)).trans hH.1, (hb10.cell (p := ⟨gs, kk * 2 + 1, none⟩) (by simp only; omega)).trans hH.2.1, (hb10.cell (p := ⟨gA, oA + kk * 2, none⟩) (by simp only; omega)).trans hH.2.2.1, (hb10.cell (p := ⟨gA, oA + kk * 2 + 1, none⟩) (by simp only; omega)).trans hH.2.2.2⟩ (fun hH => ?_)
      clear hK K
      try simp only [Act.put, List.setIfInBounds_toArray, List.set_cons_zero, List.set_cons_succ]
      refine takeH 12 (v := ?vz12) rfl (by kernel_rfl) (by kernel_rfl) (by kernel_rfl) (fun _ _ _ h => h) hH rfl ?yz12 ?rz12
      case yz12 => intro W hSw; go_simp; try with_reducible rfl
      try simp only [Act.put, List.setIfInBounds_toArray, List.set_cons_zero, List.set_cons_succ]
      refine takeH 13 (v := ?vz13) rfl (by kernel_rfl) (by kernel_rfl) (by kernel_rfl) (fun _ _ _ h => h) hH rfl ?yz13 ?rz13
      case yz13 => intro W hSw; go_simp; try with_reducible rfl
      try simp only [Act.put, List.setIfInBounds_toArray, List.set_cons_zero, List.set_cons_succ]
      refine wpAnyH_done (by kernel_rfl) ?_ _
      try simp only [Act.put]
      go_wp2
      go_ret
      exact ⟨rfl, below_step Hb9.out.drew Hb9.out.size hb10⟩

theorem fnShardsWrong_own : ownKnob Try.prog.godebug = none := by kernel_rfl
theorem fnShardsWrong_laidOut : laidOutB Try.prog = true := by kernel_rfl

theorem fnShardsWrong_lifted (os : Os) (started : os.Started) (H : Type) (enc : TypeId × Value → H) :
    ReturnsInHanded {} Try.checked os 6 .any (Rows.fnShardsWrongSpec.pre6 enc Try.prog Try.f6 Rows.fnShardsWrongRow.domain false) (Rows.fnShardsWrongSpec.post enc Try.prog Try.f6 false true false false) := by
  refine law_lifted (C := Try.checked) (tb := 4) fnShardsWrong_own fnShardsWrong_laidOut started (by kernel_rfl) Try.func6 rfl Try.underlying4 rfl (by rw [Try.params6]; exact of_decide_eq_true (by kernel_rfl)) ?_
    (ChangeSpec.witness6 (enc := enc) (C := Try.checked) false ⟨#[], #[.slice none 0 0, .slice none 0 0], []⟩ 8 (by kernel_rfl) (by kernel_rfl) (by kernel_rfl) (by kernel_rfl)) ?_
  · intro ds hds
    rw [Try.params6] at hds
    match ds, hds with
    | [d0, d1], _ => rfl
  · intro W base args ds p hval0 hA0
    have hval : ∀ (j : Nat) t v, Try.f6.params[j]? = some t → args[j]? = some v → Value.okWide Try.prog W .any base t v := hval0
    have hA : DataW.TrodAll enc Try.prog W 0 (fun _ => true) true Try.f6.params.toList args.toList ds p := hA0
    rw [Try.params6] at hA hval
    obtain ⟨v0, vs0, d0, ds0, p0, q0, hargs0, rfl, rfl, h0, r0⟩ := trodAll_cons hA
    obtain ⟨v1, vs1, d1, ds1, p1, q1, hargs1, rfl, rfl, h1, r1⟩ := trodAll_cons r0
    obtain ⟨hnil, rfl, rfl⟩ := trodAll_nil r1
    subst hnil
    subst hargs1
    obtain rfl : args = #[v0, v1] := by cases args; simp_all
    obtain ⟨a0, cap0, zs0, rfl, hk0, hm0, hi0, hw0⟩ := open_slice_ints Try.underlying22 Try.underlying5 (by kernel_rfl) (hval 0 22 v0 rfl rfl) h0
    obtain ⟨a1, cap1, zs1, rfl, hk1, hm1, hi1, hw1⟩ := open_slice_ints Try.underlying22 Try.underlying5 (by kernel_rfl) (hval 1 22 v1 rfl rfl) h1
    exact fnShardsWrong_walk a0 cap0 zs0 a1 cap1 zs1 W hk0 hm0 hi0 hw0 hk1 hm1 hi1 hw1

theorem fnShardsWrong_holds : Rows.FnShardsWrongSaid :=
  OpenClaim.holds_of_wide 6 Try.f6 rfl rfl rfl rfl rfl rfl rfl ⟨rfl, rfl, rfl, rfl, rfl⟩ rfl rfl rfl rfl rfl (by kernel_rfl) Try.func6 (by kernel_rfl)
    (of_decide_eq_true (by kernel_rfl)) (by unfold Func.isWrapper; first | (rw [if_pos (by decide +kernel)]; kernel_rfl) | (rw [if_neg (by decide +kernel)]; exact ⟨rfl, rfl⟩))
    (fun os started H enc _ => fnShardsWrong_lifted os started H enc)

end Go.Proofs.Ytgflffcogdkgfaa
