/- Law FnShardJoinMatches holds for every input; no conditions of our own. -/
import Derived.Test.YteglefchkecfjaaRows
import Derived.Test.YteglefchkecfjaaBu0
import Derived.Test.YteglefchkecfjaaBu2
import Derived.Test.YteglefchkecfjaaBu1
import Derived.Test.YteglefchkecfjaaBu3
namespace Go.Proofs.Yteglefchkecfjaa
open Go.ChangeShapes Go.WideShapes Go.ChangeAt Go.RowKit

set_option maxHeartbeats 4000000 in
theorem fnShardJoinMatches_walk (a : Option Addr) (cap : Nat) (zs : List Int) (w : World) (hk : zs.length ≤ cap) (_hm : zs.length ≤ maxLen) (hi : zs = [] ∨ ∃ b off, a = some ⟨b, off, none⟩ ∧ b < w.heap.size ∧ ∀ j (h : j < zs.length), w.cell? ⟨b, off + j, none⟩ = some (.int .u8 zs[j])) (hw : ∀ z ∈ zs, (Lit.int .u8 z).wf = true) :
    Calls Try.prog 3 #[.slice a zs.length cap] w fun e w' => e = .returned (.bool true) ∧ Below w.heap.size w w' := by
  by_cases hl : 1048576 < zs.length
  · go_enter Try.func3, Try.ntmps3
    go_wp2
    go_ret
    exact ⟨rfl, Below.refl _ _⟩
  have hcode := codeAt_of hk (by omega) hi hw
  have Hcode := Lib.hid hcode; clear hcode hi hw
  go_enter Try.func3, Try.ntmps3
  go_wp2_with fail
  refine (spec_DrawShardJoin a cap zs w Hcode.out).mono ?_
  rintro e w1 ⟨size, need, v, L, fp, rfl, hr, hL, hS, hz1, hz2, hb1⟩
  have hin : ∀ s ∈ L, s.2.length ≤ 1048576 := fun s hs => Nat.le_trans (hS s hs) (by omega)
  have HI := Lib.hid (impl_ShardJoin size need L v fp w1 (by omega) hin hr)
  have HS := Lib.hid (fun W h => spec_ShardJoin size need L v fp W (by omega) hin h)
  have Hr := Lib.hid hr
  have Hb1 := Lib.hid hb1
  have HSl := Lib.hid hS
  clear hr hb1 hin hS
  have Hjd := Lib.hid (show joinB size need L = true → (∀ s ∈ L, matB (joinD size need L) need s = true) ∧ ((joinD size need L).length : Int) = size from fun h => by
    have hd : joinD size need L = dataI size.toNat need.toNat L := by unfold joinD; rw [if_pos h]
    have h2 := h
    unfold joinB at h2
    simp only [Bool.and_eq_true, List.all_eq_true] at h2
    rw [hd]
    obtain ⟨⟨q1, q2⟩, _⟩ := joinOk_iff h2.1
    refine ⟨h2.2, ?_⟩
    rw [dataI_len]
    omega)
  have hjl := joinD_len size need L
  go_wp2_with fail
  refine HI.out.mono ?_
  rintro e w2 ⟨u2, rfl, ho2, hb2⟩
  obtain ⟨a2, c2, rfl, _, _⟩ := ho2.ints
  have hcap2 := ho2.cap
  have HO := Lib.hid (show IntsAt w2 a2 (joinD size need L) from ho2.at)
  have Hr2 := Lib.hid (Hr.out.under hb2)
  have HS2 := Lib.hid (HS.out w2 Hr2.out)
  have Hb2 := Lib.hid (below_step Hb1.out Hb1.out.size hb2)
  clear hb2 ho2
  go_wp2_with fail
  refine HS2.out.mono ?_
  rintro e w3 ⟨u3, rfl, ho3, hb3⟩
  obtain ⟨a3, c3, rfl, _, _⟩ := ho3.ints
  have HW := Lib.hid (show IntsAt w3 a3 (joinD size need L) from ho3.at)
  have HO := Lib.hid (HO.out.below hb3)
  have Hr3 := Lib.hid (Hr2.out.under hb3)
  have Hb3 := Lib.hid (below_step Hb2.out Hb2.out.size hb3)
  clear hb3 ho3 HS2 HS HI
  generalize joinD size need L = D at *
  have HSI := Lib.hid (fun W (hb : Below w3.heap.size w3 W) => laws_sameInts' a2 a3 c2 c3 D W (by omega) (HO.out.below hb) (HW.out.below hb))
  go_wp2_with fail
  refine (HSI.out w3 (Below.refl _ _)).mono ?_
  rintro e w4 ⟨rfl, hd4⟩
  have H34 := Lib.hid (hd4.below w3.heap.size)
  have Hb4 := Lib.hid (below_step Hb3.out Hb3.out.size (hd4.below _))
  clear hd4
  cases hJ : joinB size need L with
  | false =>
    clear Hjd
    go_wp2_with fail
    refine (HSI.out w4 H34.out).mono ?_
    rintro e w5 ⟨rfl, hd5⟩
    have Hb5 := Lib.hid (below_step Hb4.out Hb4.out.size (hd5.below _))
    clear hd5
    go_wp2
    go_ret
    exact ⟨by first | rfl | exact ret_bool (by simp), Hb5.out⟩
  | true =>
  obtain ⟨hall, hlen⟩ := Hjd.out hJ
  have Hall := Lib.hid hall
  clear hall hJ Hjd HSI HW
  obtain ⟨av0, cv0, rfl⟩ := Rd.slice Hr3.out
  rw [List.length_map] at Hr3 Hr2 Hr ⊢
  have HO4 := Lib.hid (HO.out.below H34.out)
  have Hr4 := Lib.hid (Hr3.out.under H34.out)
  clear HO Hr3 Hr2 Hr H34
  go_wp2
  go_loopw [10] (fun i wr => ∃ k : Nat, k ≤ L.length ∧ i = .int .i64 k ∧ Below w4.heap.size w4 wr) (fun i _ => L.length - (intOf i).toNat)
  case atStart => exact ⟨0, by omega, rfl, Below.refl _ _⟩
  case round =>
    obtain ⟨k, hk, rfl, hb⟩ := hrel
    have Hbr := Lib.hid hb; clear hb
    by_cases hlt : k < L.length
    · have hlt' : (k : Int) < (L.length : Int) := by omega
      obtain ⟨gO, oO, rfl, hgO, hat⟩ := shards_at (Hr4.out.under Hbr.out) (by omega)
      obtain ⟨av, cv, c0, c1, hiv⟩ := hat k hlt
      have hmt := Hall.out _ (List.getElem_mem hlt)
      have hSv := HSl.out _ (List.getElem_mem hlt)
      clear hat
      generalize L[k] = S at *
      obtain ⟨Sn, Sv⟩ := S
      dsimp only at *
      have HM := impl_ShardMatches a2 c2 D need Sn av cv Sv wr (by omega) hcap2 (by omega) (HO4.out.below Hbr.out) hiv
      rw [hmt] at HM
      have HM := Lib.hid HM
      clear hmt hiv
      go_wp2_with fail
      refine HM.out.mono ?_
      rintro e w6 ⟨rfl, hb⟩
      have Hb6 := Lib.hid (below_step Hbr.out Hbr.out.size hb)
      clear hb c0 c1
      go_wp2
      go_roundw
      case rel => exact ⟨k + 1, by omega, by go_num, Hb6.out⟩
      case measure => simp [intOf]; omega
    · have hl1 : ((D.length : Int) == size) = true := by rw [beq_iff_eq]; exact hlen
      go_wp2
      go_ret
      exact ⟨by first | rfl | exact ret_bool (by simp) | exact ret_bool (by simp; omega), below_step Hb4.out Hb4.out.size Hbr.out⟩

theorem fnShardJoinMatches_own : ownKnob Try.prog.godebug = none := by kernel_rfl
theorem fnShardJoinMatches_laidOut : laidOutB Try.prog = true := by kernel_rfl

set_option maxRecDepth 8000 in
theorem fnShardJoinMatches_lifted (os : Os) (started : os.Started) (H : Type) (enc : TypeId × Value → H) :
    ReturnsInHanded {} Try.checked os 3 .any (Rows.fnShardJoinMatchesSpec.pre6 enc Try.prog Try.f3 Rows.fnShardJoinMatchesRow.domain false) (Rows.fnShardJoinMatchesSpec.post enc Try.prog Try.f3 false true false false) := by
  refine law_lifted (C := Try.checked) (tb := 4) fnShardJoinMatches_own fnShardJoinMatches_laidOut started (by kernel_rfl) Try.func3 rfl Try.underlying4 rfl (by rw [Try.params3]; exact of_decide_eq_true (by kernel_rfl)) ?_
    (ChangeSpec.witness6 (enc := enc) (C := Try.checked) false ⟨#[], #[.slice none 0 0], []⟩ 8 (by kernel_rfl) (by kernel_rfl) (by kernel_rfl) (by kernel_rfl)) ?_
  · intro ds hds
    rw [Try.params3] at hds
    match ds, hds with
    | [d0], _ => rfl
  · intro W base args ds p hval0 hA0
    have hval : ∀ (j : Nat) t v, Try.f3.params[j]? = some t → args[j]? = some v → Value.okWide Try.prog W .any base t v := hval0
    have hA : DataW.TrodAll enc Try.prog W 0 (fun _ => true) true Try.f3.params.toList args.toList ds p := hA0
    rw [Try.params3] at hA hval
    obtain ⟨v0, vs0, d0, ds0, p0, q0, hargs0, rfl, rfl, h0, r0⟩ := trodAll_cons hA
    obtain ⟨hnil, rfl, rfl⟩ := trodAll_nil r0
    subst hnil
    obtain rfl : args = #[v0] := by cases args; simp_all
    obtain ⟨a0, cap0, zs0, rfl, hk0, hm0, hi0, hw0⟩ := open_slice_ints Try.underlying22 Try.underlying5 (by kernel_rfl) (hval 0 22 v0 rfl rfl) h0
    exact fnShardJoinMatches_walk a0 cap0 zs0 W hk0 hm0 hi0 hw0

set_option maxRecDepth 8000 in
theorem fnShardJoinMatches_holds : Rows.FnShardJoinMatchesSaid :=
  OpenClaim.holds_of_wide 3 Try.f3 rfl rfl rfl rfl rfl rfl rfl ⟨rfl, rfl, rfl, rfl, rfl⟩ rfl rfl rfl rfl rfl (by kernel_rfl) Try.func3 (by kernel_rfl)
    (of_decide_eq_true (by kernel_rfl)) (by unfold Func.isWrapper; first | (rw [if_pos (by decide +kernel)]; kernel_rfl) | (rw [if_neg (by decide +kernel)]; exact ⟨rfl, rfl⟩))
    (fun os started H enc _ => fnShardJoinMatches_lifted os started H enc)

end Go.Proofs.Yteglefchkecfjaa
