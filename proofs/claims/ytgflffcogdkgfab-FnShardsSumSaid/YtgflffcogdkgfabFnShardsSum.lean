/- Law FnShardsSum holds for every input; no conditions of our own. -/
import Derived.Test.YtgflffcogdkgfabRows
import Derived.Test.YtgflffcogdkgfabBase
import Derived.Test.YtgflffcogdkgfabLift
import Derived.Test.YtgflffcogdkgfabApp
import Derived.Test.YtgflffcogdkgfabM3
import Derived.Test.YtgflffcogdkgfabDt
import Derived.Test.YtgflffcogdkgfabBld
import Derived.Test.YtgflffcogdkgfabC1
import Derived.Test.YtgflffcogdkgfabC3
import Derived.Test.YtgflffcogdkgfabW3
import Derived.Test.YtgflffcogdkgfabL1
import Derived.Test.YtgflffcogdkgfabL3
import Derived.Test.YtgflffcogdkgfabRd
import Derived.Test.YtgflffcogdkgfabD3
import Derived.Test.YtgflffcogdkgfabHeld
namespace Go.Proofs.Ytgflffcogdkgfab
open Go.ChangeShapes Go.WideShapes Go.ChangeAt Go.RowKit

set_option maxHeartbeats 1000000 in
theorem fnShardsSum_walk (a : Option Addr) (cap : Nat) (zs : List Int) (w : World) (hk : zs.length ≤ cap) (_hm : zs.length ≤ maxLen) (hi : zs = [] ∨ ∃ b off, a = some ⟨b, off, none⟩ ∧ b < w.heap.size ∧ ∀ j (h : j < zs.length), w.cell? ⟨b, off + j, none⟩ = some (.int .u8 zs[j])) (hw : ∀ z ∈ zs, (Lit.int .u8 z).wf = true) :
    Calls Try.prog 3 #[.slice a zs.length cap] w fun e w' => e = .returned (.bool true) ∧ Below w.heap.size w w' := by
  by_cases hl : 1048576 < zs.length
  · go_enter Try.func3, Try.ntmps3
    go_wp2
    go_ret
    exact ⟨rfl, Below.refl _ _⟩
  have hcode := codeAt_of hk (by omega) hi hw
  have Hcode := Lib.hid hcode; clear hcode hi hw
  go_enter Try.func3, Try.ntmps3
  go_wp2_with fail
  refine (spec_DrawShardMake a cap zs _ Hcode.out).mono ?_
  rintro e w1 ⟨v, xs, need, many, rfl, hown, hxl, hsm, hn0, hn1, hm0, hm1, hb1⟩
  clear hsm
  obtain ⟨al, cl, rfl, _, _, hxc⟩ := hown.src
  have Hl1 := Lib.hid hown; clear hown
  have Hb1 := Lib.hid hb1; clear hb1
  have hs1 := Hb1.out.size
  have hI := impl_ShardMake al cl xs need many w1 (by omega) hxc (IntsAt_own Hl1.out)
  have hS := fun w h => spec_ShardMake al cl xs need many w (by omega) h
  have hln := makeZ_len (d := xs) (need := need) (many := many)
  have hinn := makeZ_in (d := xs) (need := need) (many := many)
  have hmk : makeZ xs need many = makeZ xs need many := rfl
  generalize hL : makeZ xs need many = L at hI hS hln hinn
  clear hmk
  have HI := Lib.hid hI; clear hI
  have HS := Lib.hid hS; clear hS
  have HL := Lib.hid hL; clear hL
  have Hin := Lib.hid (show ∀ s ∈ L, s.2.length ≤ 1000000 from fun s hs => Nat.le_trans (hinn s hs) (by omega)); clear hinn
  go_wp2_with fail
  refine HI.out.mono ?_
  rintro e w2 ⟨vo, rfl, hbo, hb2⟩
  obtain ⟨ao, co, rfl, _⟩ := hbo.slice
  obtain ⟨fo, hro, hfo⟩ := hbo.rd
  have Hfo := Lib.hid hfo; clear hfo
  rw [List.length_map] at hbo hro
  have Hb2 := Lib.hid (below_step Hb1.out Hb1.out.size hb2)
  have Hl2 := Lib.hid (Hl1.out.below hb2)
  have Ho2 := Lib.hid hro; clear hro hbo
  have hs2 := hb2.size
  go_wp2_with fail
  refine (HS.out _ (IntsAt_own Hl2.out)).mono ?_
  rintro e w3 ⟨vu, rfl, hbu, hb3⟩
  obtain ⟨fu, hru, _⟩ := hbu.rd
  have Hb3 := Lib.hid (below_step Hb2.out Hb2.out.size hb3)
  have Hl3 := Lib.hid (Hl2.out.below hb3)
  have Ho3 := Lib.hid (Ho2.out.under hb3)
  have Hu3 := Lib.hid hru; clear hru hbu
  have hs3 := hb3.size
  go_wp2_with fail
  refine (laws_sameShards' L _ _ _ _ _ (by omega) Hin.out Ho3.out Hu3.out).mono ?_
  rintro e w4 ⟨rfl, hb4⟩
  have Hb4 := Lib.hid (below_step Hb3.out Hb3.out.size hb4)
  have Hl4 := Lib.hid (Hl3.out.below hb4)
  have Ho4 := Lib.hid (Ho3.out.under hb4)
  have Hu4 := Lib.hid (Hu3.out.under hb4)
  have hs4 := hb4.size
  cases hv : makeB xs need many with
  | false =>
    have hL0 : L = [] := by rw [← HL.out]; exact makeZ_no hv
    subst hL0
    go_wp2_with fail
    refine (laws_sameShards' [] _ _ _ _ _ (by simp) (by simp) Ho4.out Hu4.out).mono ?_
    rintro e w5 ⟨rfl, hb5⟩
    go_wp2
    go_ret
    exact ⟨rfl, below_step Hb4.out Hb4.out.size hb5⟩
  | true =>
    obtain ⟨hd, hnm, hm8⟩ := makeB_iff hv
    obtain ⟨hsy, ⟨hx1, hx2⟩, hn1', hn8⟩ := dataB_iff hd
    obtain ⟨need, rfl⟩ := Int.eq_ofNat_of_zero_le (show 0 ≤ need by omega)
    obtain ⟨many, rfl⟩ := Int.eq_ofNat_of_zero_le (show 0 ≤ many by omega)
    have hLe : L = (List.range many).map (shardZ xs need) := by rw [← HL.out]; exact makeZ_yes hv
    have hLl : L.length = many := by rw [hLe]; simp
    have Hget := Lib.hid (show ∀ k (hk : k < L.length), L[k] = shardZ xs need k from fun k hk => by subst hLe; simp)
    have Hsy := Lib.hid hsy; clear hsy hd hv hLe
    have hmz0 : ((many : Int) == 0) = false := by rw [beq_eq_false_iff_ne]; omega
    have hcl := cols_le (d := xs) (need := need) (by omega) hx2
    clear hn0 hn1 hm0 hm1
    have hdd := dbl_data (d := xs) (need := (need : Int)) (by unfold dataB; simp only [Bool.and_eq_true, List.all_eq_true, decide_eq_true_eq]; exact ⟨⟨fun x hx => symB_yes (Hsy.out x hx), by omega⟩, by omega⟩)
    have hmz := makeZ_yes (d := xs.map dblZ) (need := need) (many := many) (by unfold makeB; rw [hdd, decide_eq_true (by omega)]; rfl)
    have Hmz := Lib.hid hmz; clear hmz hdd
    have hoe := Lib.hid (own_empty 3 w4 (B := w4.heap.size) (Nat.le_refl _))
    have Hle := Lib.hid (Hl4.out.kept (World.grownBy_alloc w4 (.cells #[] 3) none) (by cases hv : (Value.slice al xs.length cl).ownBlock <;> simp))
    have hba := Lib.hid ((Below.refl w4.heap.size w4).alloc (Nat.le_refl _) (.cells #[] 3))
    obtain ⟨gl, _, hvl, hglB, hgls, _, hcl3, _⟩ := Hl4.out.row (by omega)
    simp only [Value.slice.injEq, true_and] at hvl
    obtain ⟨rfl, rfl⟩ := hvl
    have Hcl3 := Lib.hid hcl3; clear hcl3
    go_wp2_with fail
    go_loopw [8, 9] (fun v i wr => ∃ k : Nat, k ≤ xs.length ∧ i = .int .i64 k ∧ Own 3 wr w4.heap.size v ((xs.map dblZ).take k) ∧ Below w4.heap.size w4 wr) (fun _ i _ => xs.length - (intOf i).toNat)
    case atStart => exact ⟨0, by omega, rfl, hoe.out, hba.out⟩
    case round =>
      obtain ⟨k, hk, rfl, hown, hbel⟩ := hrel
      have Hbel := Lib.hid hbel; clear hbel
      have hB := Hbel.out.size
      by_cases hlt : k < xs.length
      · have hcell := (Hbel.out.cell (p := ⟨gl, k, none⟩) hgls).trans (Hcl3.out k hlt)
        have hxk := Hsy.out _ (List.getElem_mem hlt)
        have Htk := Lib.hid (show (xs.map dblZ).take (k + 1) = (xs.map dblZ).take k ++ [dblZ xs[k]] by rw [List.take_succ_eq_append_getElem (by simpa using hlt)]; simp)
        have hlk : ((xs.map dblZ).take k).length ≤ 1099511627776 := by rw [List.length_take]; omega
        have hdb : dblZ xs[k] = 2 * xs[k] % 251 := rfl
        generalize xs[k] = x at *
        generalize (xs.map dblZ).take k = ys at hown hlk Htk
        have Hdb := Lib.hid hdb; clear hdb
        rw [Hdb.out] at Htk
        go_wp2_with (at_builtin; refine wpList_push TI3 rfl (.tmp 49) (.tmp 56) rfl w4.heap.size _ ys _ rfl hown hlk rfl hB ?_; intro v2 w5 hown2 hg2)
        go_roundw
        case rel => exact ⟨k + 1, by omega, by go_num, by rw [Htk.out]; exact hown2, Hbel.out.grown hg2 hB (fun g e => (hown.lt g e).1)⟩
        case measure => simp [intOf]; omega
      · rw [List.take_of_length_le (by simp; omega)] at hown
        obtain ⟨a5, c5, rfl, hi5, _, hc5⟩ := hown.src
        rw [List.length_map] at hown
        have hI5 := impl_ShardMake a5 c5 (xs.map dblZ) need many _ (by rw [List.length_map]; omega) hc5 hi5
        rw [Hmz.out, List.length_map] at hI5
        have HI5 := Lib.hid hI5; clear hI5 hown
        have hle5 : ((List.range many).map (shardZ (xs.map dblZ) need)).length = many := by simp
        have hget5 := Lib.hid (show ∀ k (hk : k < ((List.range many).map (shardZ (xs.map dblZ) need)).length), ((List.range many).map (shardZ (xs.map dblZ) need))[k] = shardZ (xs.map dblZ) need k from fun k hk => by simp)
        generalize (List.range many).map (shardZ (xs.map dblZ) need) = L5 at *
        simp only [List.length_map]
        go_wp2_with fail
        refine HI5.out.mono ?_
        rintro e w6 ⟨vb, rfl, hbb, hb6⟩
        obtain ⟨ab, cb, rfl, _⟩ := hbb.slice
        obtain ⟨fb, hrb, _⟩ := hbb.rd
        rw [List.length_map] at hbb hrb
        have Hb6 := Lib.hid (Hbel.out.trans (hb6.mono hB))
        have Ho6 := Lib.hid ((Ho4.out.under Hb6.out))
        have Hrb := Lib.hid hrb; clear hrb hbb
        go_wp2_with fail
        go_loopw [11] (fun i wr => ∃ k : Nat, k ≤ many ∧ i = .int .i64 k ∧ Drawn w6 wr) (fun i _ => many - (intOf i).toNat)
        case atStart => exact ⟨0, by omega, rfl, Drawn.refl _⟩
        case round =>
          obtain ⟨i, hi, rfl, hdr⟩ := hrel
          by_cases hilt : i < many
          · obtain ⟨g, off, rfl, hg, hat⟩ := shards_at Ho6.out (by omega)
            obtain ⟨g', off', rfl, hg', hat'⟩ := shards_at Hrb.out (by omega)
            obtain ⟨av, cv, _, C1, I1⟩ := hat i (by omega)
            obtain ⟨av', cv', _, C2, I2⟩ := hat' i (by omega)
            rw [Hget.out i (by omega)] at C1 I1
            rw [hget5.out i (by omega)] at C2 I2
            simp only [shardZ] at C1 I1 C2 I2
            rw [shardV_len] at C1 C2
            rw [colsN_map] at C2
            clear hat hat'
            have hiL : i < L.length := by omega
            have hiL5 : i < L5.length := by omega
            have D1 := (hdr.cell _).trans C1
            have HC1 := Lib.hid C1
            have HC2 := Lib.hid C2
            clear C1 C2
            go_wp2_with fail
            clear D1
            go_loopw [12] (fun j wi => ∃ c : Nat, c ≤ colsN xs need ∧ j = .int .i64 c ∧ Drawn w6 wi) (fun j _ => colsN xs need - (intOf j).toNat)
            case atStart => exact ⟨0, by omega, rfl, hdr⟩
            case round =>
              rename_i wi
              obtain ⟨c, hc, rfl, hdi⟩ := hrel
              have D1 := (hdi.cell _).trans HC1.out
              by_cases hct : c < colsN xs need
              · obtain ⟨b1, o1, rfl, _, hv1⟩ := I1.cell (by rw [shardV_len]; omega)
                obtain ⟨b2, o2, rfl, _, hv2⟩ := I2.cell (by rw [shardV_len, colsN_map]; omega)
                have e1 := hv1 c (by rw [shardV_len]; omega)
                have e2 := hv2 c (by rw [shardV_len, colsN_map]; omega)
                rw [shardV_get] at e1 e2
                rw [valZ_dbl] at e2
                have hV := valTo_bd xs need c ((i : Int) + 1) need
                change 0 ≤ valZ xs need c ((i : Int) + 1) ∧ valZ xs need c ((i : Int) + 1) ≤ 250 at hV
                have D2 := (hdi.cell _).trans HC2.out
                have e1 := (hdi.cell _).trans e1
                have e2 := (hdi.cell _).trans e2
                clear hv1 hv2
                generalize valZ xs need c ((i : Int) + 1) = V at *
                go_wp2_with fail
                go_quiet (fail)
                go_wp2
                go_roundw
                case rel => exact ⟨c + 1, by omega, by go_num, hdi.drewN _⟩
                case measure => simp [intOf]; omega
              · go_wp2
                go_roundw
                case rel => exact ⟨i + 1, by omega, by go_num, hdi⟩
                case measure => simp [intOf]; omega
          · have hie : i = many := by omega
            subst hie
            go_wp2
            go_ret
            exact ⟨rfl, below_step Hb4.out Hb4.out.size (Hb6.out.trans (hdr.below _))⟩

theorem fnShardsSum_own : ownKnob Try.prog.godebug = none := by kernel_rfl
theorem fnShardsSum_laidOut : laidOutB Try.prog = true := by kernel_rfl

theorem fnShardsSum_lifted (os : Os) (started : os.Started) (H : Type) (enc : TypeId × Value → H) :
    ReturnsInHanded {} Try.checked os 3 .any (Rows.fnShardsSumSpec.pre6 enc Try.prog Try.f3 Rows.fnShardsSumRow.domain false) (Rows.fnShardsSumSpec.post enc Try.prog Try.f3 false true false false) := by
  refine law_lifted (C := Try.checked) (tb := 4) fnShardsSum_own fnShardsSum_laidOut started (by kernel_rfl) Try.func3 rfl Try.underlying4 rfl (by rw [Try.params3]; exact of_decide_eq_true (by kernel_rfl)) ?_
    (ChangeSpec.witness6 (enc := enc) (C := Try.checked) false ⟨#[], #[.slice none 0 0], []⟩ 8 (by kernel_rfl) (by kernel_rfl) (by kernel_rfl) (by kernel_rfl)) ?_
  · intro ds hds
    rw [Try.params3] at hds
    match ds, hds with
    | [d0], _ => rfl
  · intro W base args ds p hval0 hA0
    have hval : ∀ (j : Nat) t v, Try.f3.params[j]? = some t → args[j]? = some v → Value.okWide Try.prog W .any base t v := hval0
    have hA : DataW.TrodAll enc Try.prog W 0 (fun _ => true) true Try.f3.params.toList args.toList ds p := hA0
    rw [Try.params3] at hA hval
    obtain ⟨v0, vs0, d0, ds0, p0, q0, hargs0, rfl, rfl, h0, r0⟩ := trodAll_cons hA
    obtain ⟨hnil, rfl, rfl⟩ := trodAll_nil r0
    subst hnil
    obtain rfl : args = #[v0] := by cases args; simp_all
    obtain ⟨a0, cap0, zs0, rfl, hk0, hm0, hi0, hw0⟩ := open_slice_ints Try.underlying22 Try.underlying5 (by kernel_rfl) (hval 0 22 v0 rfl rfl) h0
    exact fnShardsSum_walk a0 cap0 zs0 W hk0 hm0 hi0 hw0

theorem fnShardsSum_holds : Rows.FnShardsSumSaid :=
  OpenClaim.holds_of_wide 3 Try.f3 rfl rfl rfl rfl rfl rfl rfl ⟨rfl, rfl, rfl, rfl, rfl⟩ rfl rfl rfl rfl rfl (by kernel_rfl) Try.func3 (by kernel_rfl)
    (of_decide_eq_true (by kernel_rfl)) (by unfold Func.isWrapper; first | (rw [if_pos (by decide +kernel)]; kernel_rfl) | (rw [if_neg (by decide +kernel)]; exact ⟨rfl, rfl⟩))
    (fun os started H enc _ => fnShardsSum_lifted os started H enc)

end Go.Proofs.Ytgflffcogdkgfab
