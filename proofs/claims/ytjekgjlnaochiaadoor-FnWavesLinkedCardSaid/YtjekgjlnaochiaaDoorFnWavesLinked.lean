/- Law FnWavesLinked holds for every input; no conditions of our own (its card: the two sentinels of impl are tied to the program's text). -/
import Derived.Test.YtjekgjlnaochiaaDoorRows
import Derived.Test.YtjekgjlnaochiaaDoorBu0
import Derived.Test.YtjekgjlnaochiaaDoorBu1
import Derived.Test.YtjekgjlnaochiaaDoorBu2
import Derived.Test.YtjekgjlnaochiaaDoorBu4
import Derived.Test.YtjekgjlnaochiaaDoorBu3
namespace Go.Proofs.YtjekgjlnaochiaaDoor
open Go.ChangeShapes Go.WideShapes Go.ChangeAt Go.RowKit

set_option maxHeartbeats 2000000 in
theorem fnWavesLinked_walk (a : Option Addr) (cap : Nat) (zs : List Int) (w : World) (hk : zs.length ≤ cap) (_hm : zs.length ≤ maxLen) (hi : zs = [] ∨ ∃ b off, a = some ⟨b, off, none⟩ ∧ b < w.heap.size ∧ ∀ j (h : j < zs.length), w.cell? ⟨b, off + j, none⟩ = some (.int .u8 zs[j])) (hw : ∀ z ∈ zs, (Lit.int .u8 z).wf = true) (eN eI : Addr) (hs : Sen w eN eI) :
    Calls Tryd.prog 8 #[.slice a zs.length cap] w fun e w' => e = .returned (.bool true) ∧ Below w.heap.size w w' := by
  by_cases hl : 1048576 < zs.length
  · go_enter Tryd.func8, Tryd.ntmps8
    go_wp2
    go_ret
    exact ⟨rfl, Below.refl _ _⟩
  have hcode := codeAt_of hk (by omega) hi hw
  have Hcode := Lib.hid hcode; clear hcode hi hw
  have Hs := Lib.hid hs; clear hs
  go_enter Tryd.func8, Tryd.ntmps8
  go_wp2_with fail
  refine (spec_DrawCommitWaves a cap zs w Hcode.out).mono ?_
  rintro e w1 ⟨ac, cc, c, vg, g, fp, al, cl, ls, rfl, hoc, hcl, hgr, hfp, hgl, hps, hol, hll, hb1⟩
  have hcc := hoc.cap
  have hlc := hol.cap
  obtain ⟨ag, cg, rfl⟩ := hgr.slice
  have Hps := Lib.hid (show ∀ x ∈ g, x.ps.length ≤ 1099511627776 from fun x hx => Nat.le_trans (hps x hx) (by omega)); clear hps
  have Hb1 := Lib.hid hb1
  have HS := Lib.hid (Hs.out.below hb1)
  have Hc := Lib.hid hoc.at; have Hl := Lib.hid hol.at; have Hg := Lib.hid hgr
  clear hoc hol hgr hb1 hfp Hs
  go_wp2_with fail
  refine (impl_CommitWaves ac cc c g (.slice ag g.length cg) fp al cl ls eN eI w1 (by omega) (by omega) Hps.out (by omega) hcc Hc.out Hg.out hlc Hl.out HS.out).mono ?_
  rintro e w2 ⟨uo, rfl, hoo, hb⟩
  obtain ⟨ao, co, rfl, _, _⟩ := hoo.ints
  have HO := Lib.hid (show IntsAt w2 ao (cwZ c g ls) from hoo.at)
  have hoc := hoo.cap
  clear hoo
  have Hc := Lib.hid (show IntsAt w2 ac c from Hc.out.below hb)
  have Hl := Lib.hid (show IntsAt w2 al ls from Hl.out.below hb)
  have Hg := Lib.hid (show Gr w2 g (.slice ag g.length cg) fp from Hg.out.under hb)
  have HS := Lib.hid (show Sen w2 eN eI from HS.out.below hb)
  have Hb2 := Lib.hid (below_step Hb1.out Hb1.out.size hb)
  clear hb
  go_wp2_with fail
  refine (spec_CommitWaves ac cc c g (.slice ag g.length cg) fp al cl ls w2 (by omega) (by omega) Hps.out (by omega) Hc.out Hg.out Hl.out).mono ?_
  rintro e w3 ⟨uw, rfl, how, hb⟩
  obtain ⟨aw, cw, rfl, _, _⟩ := how.ints
  have HW := Lib.hid (show IntsAt w3 aw (cwZ c g ls) from how.at)
  clear how
  have Hc := Lib.hid (show IntsAt w3 ac c from Hc.out.below hb)
  have Hl := Lib.hid (show IntsAt w3 al ls from Hl.out.below hb)
  have Hg := Lib.hid (show Gr w3 g (.slice ag g.length cg) fp from Hg.out.under hb)
  have HS := Lib.hid (show Sen w3 eN eI from HS.out.below hb)
  have HO := Lib.hid (show IntsAt w3 ao (cwZ c g ls) from HO.out.below hb)
  have Hb3 := Lib.hid (below_step Hb2.out Hb2.out.size hb)
  clear hb
  have hO22 : (cwZ c g ls).length ≤ 22 := Nat.le_trans (cwZ_len c g ls) hll
  go_wp2_with fail
  refine (laws_sameInts' ao aw co cw (cwZ c g ls) w3 (by omega) HO.out HW.out).mono ?_
  rintro e w4 ⟨rfl, hd⟩
  have hb : Below w3.heap.size w3 w4 := hd.below _
  clear hd
  have Hc := Lib.hid (show IntsAt w4 ac c from Hc.out.below hb)
  have Hl := Lib.hid (show IntsAt w4 al ls from Hl.out.below hb)
  have Hg := Lib.hid (show Gr w4 g (.slice ag g.length cg) fp from Hg.out.under hb)
  have HS := Lib.hid (show Sen w4 eN eI from HS.out.below hb)
  have HO := Lib.hid (show IntsAt w4 ao (cwZ c g ls) from HO.out.below hb)
  have HW := Lib.hid (show IntsAt w4 aw (cwZ c g ls) from HW.out.below hb)
  have Hb4 := Lib.hid (below_step Hb3.out Hb3.out.size hb)
  clear hb
  have HLk := Lib.hid (cw_links (c := c) (g := g) (ls := ls) Hps.out)
  have HWL := Lib.hid (fun W (hb : Below w4.heap.size w4 W) (x : Int) => impl_WaveLeader ac cc c g (.slice ag g.length cg) fp al cl ls x eN eI W (by omega) (by omega) Hps.out (by omega) hcc (Hc.out.below hb) (Hg.out.under hb) hlc (Hl.out.below hb) (HS.out.below hb))
  have HGP := Lib.hid (fun W (hb : Below w4.heap.size w4 W) (r b : Int) => impl_GraphPast' ac cc c g (.slice ag g.length cg) fp r b W (by omega) (by omega) Hps.out (Hc.out.below hb) (Hg.out.under hb))
  generalize cwZ c g ls = OL at *
  go_wp2
  go_loopw [8] (fun i wr => ∃ m : Nat, 1 ≤ m ∧ (m ≤ OL.length ∨ m = 1) ∧ i = .int .i64 m ∧ Below w4.heap.size w4 wr) (fun i _ => OL.length - (intOf i).toNat)
  case atStart => exact ⟨1, by omega, .inr rfl, rfl, Below.refl _ _⟩
  case round =>
    obtain ⟨m, hm0, hm, rfl, hb⟩ := hrel
    have Hbr := Lib.hid hb; clear hb
    by_cases hlt : m < OL.length
    · have hlt' : (m : Int) < (OL.length : Int) := by omega
      obtain ⟨k, hk, hk1, hk2, hk15, hhas⟩ := HLk.out m hlt hm0
      obtain ⟨bo, oo, rfl, hbo, hao⟩ := HO.out.cell (by omega)
      have hcm := (Hbr.out.cell (p := ⟨bo, oo + m, none⟩) hbo).trans (hao m hlt)
      rw [← getD_get hlt, hk] at hcm
      have hcp := (Hbr.out.cell (p := ⟨bo, oo + (m - 1), none⟩) hbo).trans (hao (m - 1) (by omega))
      rw [← getD_get (show m - 1 < OL.length by omega)] at hcp
      obtain ⟨bl, ol, rfl, hbl, hal⟩ := Hl.out.cell (by omega)
      have hlc9 := (Hbr.out.cell (p := ⟨bl, ol + (k - 1), none⟩) hbl).trans (hal (k - 1) (by omega))
      have hgd : ls.getD (k - 1) 0 = ls[k - 1]'(by omega) := getD_get (by omega)
      rw [← hgd] at hlc9
      have HGm := Lib.hid (fun W hb => HGP.out W hb (2 * (k : Int) - 1) (ls.getD (k - 1) 0))
      have HWm := Lib.hid (fun W hb => HWL.out W hb (OL.getD (m - 1) 0))
      have hpl := gpZ_len c g (2 * (k : Int) - 1) (ls.getD (k - 1) 0)
      clear hao hal hgd hk
      generalize gpZ c g (2 * (k : Int) - 1) (ls.getD (k - 1) 0) = PL at *
      generalize ls.getD (k - 1) 0 = L at *
      generalize hZ : wlZ c g ls (OL.getD (m - 1) 0) = Z at *
      generalize OL.getD (m - 1) 0 = y at *
      clear hZ
      have e1 : IntKind.i64.wrap ((k : Int) - 1) = k - 1 := IntWalk.i64_in _ (by omega)
      have e2 : ((k : Int) - 1).toNat = k - 1 := by omega
      have e3 : 0 ≤ (k : Int) - 1 := by omega
      have e4 : (k : Int) - 1 < ls.length := by omega
      have e5 : 1 ≤ (k : Int) := by omega
      have e6 : (k : Int) ≤ 15 := by omega
      have e7 : IntKind.i64.wrap (2 * (k : Int)) = 2 * (k : Int) := IntWalk.i64_in _ (by omega)
      have e8 : IntKind.i64.wrap (2 * (k : Int) - 1) = 2 * (k : Int) - 1 := IntWalk.i64_in _ (by omega)
      have f1 : IntKind.i64.wrap ((m : Int) - 1) = m - 1 := IntWalk.i64_in _ (by omega)
      have f2 : ((m : Int) - 1).toNat = m - 1 := by omega
      have f3 : 0 ≤ (m : Int) - 1 := by omega
      have f4 : (m : Int) - 1 < OL.length := by omega
      have f5 : 1 ≤ (m : Int) := by omega
      go_wp2_with fail
      refine wp_region_held_drew (S := fun W => Below w4.heap.size w4 W ∧ W.cell? ⟨bo, oo + m, none⟩ = some (.int .i64 k) ∧ W.cell? ⟨bo, oo + (m - 1), none⟩ = some (.int .i64 y) ∧ W.cell? ⟨bl, ol + (k - 1), none⟩ = some (.int .i64 L)) (by kernel_rfl) ⟨Hbr.out.drew, hcm, hcp, hlc9⟩ (fun hH => ?_)
      refine takeH 0 (v := ?vk1) rfl (by kernel_rfl) (by kernel_rfl) (by kernel_rfl) (fun _ _ _ h => h) hH rfl ?yk1 ?rk1
      case yk1 => intro W hSw; go_simp; try with_reducible rfl
      try simp only [Act.put, List.setIfInBounds_toArray, List.set_cons_zero, List.set_cons_succ]
      refine takeH 1 (v := ?vk2) rfl (by kernel_rfl) (by kernel_rfl) (by kernel_rfl) (fun _ _ _ h => h) hH rfl ?yk2 ?rk2
      case yk2 => intro W hSw; go_simp; try with_reducible rfl
      try simp only [Act.put, List.setIfInBounds_toArray, List.set_cons_zero, List.set_cons_succ]
      refine takeH 2 (v := ?vk3) rfl (by kernel_rfl) (by kernel_rfl) (by kernel_rfl) (fun _ _ _ h => h) hH rfl ?yk3 ?rk3
      case yk3 => intro W hSw; go_simp; try with_reducible rfl
      try simp only [Act.put, List.setIfInBounds_toArray, List.set_cons_zero, List.set_cons_succ]
      refine takeH 3 (v := ?vk4) rfl (by kernel_rfl) (by kernel_rfl) (by kernel_rfl) (fun _ _ _ h => h) hH rfl ?yk4 ?rk4
      case yk4 => intro W hSw; go_simp; try with_reducible rfl
      try simp only [Act.put, List.setIfInBounds_toArray, List.set_cons_zero, List.set_cons_succ]
      refine takeH 4 (v := ?vk5) rfl (by kernel_rfl) (by kernel_rfl) (by kernel_rfl) (fun _ _ _ h => h) hH rfl ?yk5 ?rk5
      case yk5 => intro W hSw; go_simp; try with_reducible rfl
      try simp only [Act.put, List.setIfInBounds_toArray, List.set_cons_zero, List.set_cons_succ]
      refine takeH 5 (v := ?vk6) rfl (by kernel_rfl) (by kernel_rfl) (by kernel_rfl) (fun _ _ _ h => h) hH rfl ?yk6 ?rk6
      case yk6 => intro W hSw; go_simp; try with_reducible rfl
      try simp only [Act.put, List.setIfInBounds_toArray, List.set_cons_zero, List.set_cons_succ]
      refine takeH 6 (v := ?vk7) rfl (by kernel_rfl) (by kernel_rfl) (by kernel_rfl) (fun _ _ _ h => h) hH rfl ?yk7 ?rk7
      case yk7 => intro W hSw; go_simp; try with_reducible rfl
      try simp only [Act.put, List.setIfInBounds_toArray, List.set_cons_zero, List.set_cons_succ]
      refine takeH 7 (v := ?vk8) rfl (by kernel_rfl) (by kernel_rfl) (by kernel_rfl) (fun _ _ _ h => h) hH rfl ?yk8 ?rk8
      case yk8 => intro W hSw; go_simp; try with_reducible rfl
      try simp only [Act.put, List.setIfInBounds_toArray, List.set_cons_zero, List.set_cons_succ]
      refine takeH 8 (v := ?vk9) rfl (by kernel_rfl) (by kernel_rfl) (by kernel_rfl) (fun _ _ _ h => h) hH rfl ?yk9 ?rk9
      case yk9 => intro W hSw; go_simp; try with_reducible rfl
      try simp only [Act.put, List.setIfInBounds_toArray, List.set_cons_zero, List.set_cons_succ]
      refine takeH 9 (v := ?vk10) rfl (by kernel_rfl) (by kernel_rfl) (by kernel_rfl) (fun _ _ _ h => h) hH rfl ?yk10 ?rk10
      case yk10 => intro W hSw; go_simp; try with_reducible rfl
      try simp only [Act.put, List.setIfInBounds_toArray, List.set_cons_zero, List.set_cons_succ]
      refine takeH 10 (v := ?vk11) rfl (by kernel_rfl) (by kernel_rfl) (by kernel_rfl) (fun _ _ _ h => h) hH rfl ?yk11 ?rk11
      case yk11 => intro W hSw; go_simp; try with_reducible rfl
      try simp only [Act.put, List.setIfInBounds_toArray, List.set_cons_zero, List.set_cons_succ]
      refine takeH 11 (v := ?vk12) rfl (by kernel_rfl) (by kernel_rfl) (by kernel_rfl) (fun _ _ _ h => h) hH rfl ?yk12 ?rk12
      case yk12 => intro W hSw; go_simp; try with_reducible rfl
      try simp only [Act.put, List.setIfInBounds_toArray, List.set_cons_zero, List.set_cons_succ]
      refine takeH 12 (v := ?vk13) rfl (by kernel_rfl) (by kernel_rfl) (by kernel_rfl) (fun _ _ _ h => h) hH rfl ?yk13 ?rk13
      case yk13 => intro W hSw; go_simp; try with_reducible rfl
      try simp only [Act.put, List.setIfInBounds_toArray, List.set_cons_zero, List.set_cons_succ]
      refine takeH 13 (v := ?vk14) rfl (by kernel_rfl) (by kernel_rfl) (by kernel_rfl) (fun _ _ _ h => h) hH rfl ?yk14 ?rk14
      case yk14 => intro W hSw; go_simp; try with_reducible rfl
      try simp only [Act.put, List.setIfInBounds_toArray, List.set_cons_zero, List.set_cons_succ]
      refine takeH 14 (v := ?vk15) rfl (by kernel_rfl) (by kernel_rfl) (by kernel_rfl) (fun _ _ _ h => h) hH rfl ?yk15 ?rk15
      case yk15 => intro W hSw; go_simp; try with_reducible rfl
      try simp only [Act.put, List.setIfInBounds_toArray, List.set_cons_zero, List.set_cons_succ]
      refine takeH 15 (v := ?vk16) rfl (by kernel_rfl) (by kernel_rfl) (by kernel_rfl) (fun _ _ _ h => h) hH rfl ?yk16 ?rk16
      case yk16 => intro W hSw; go_simp; try with_reducible rfl
      try simp only [Act.put, List.setIfInBounds_toArray, List.set_cons_zero, List.set_cons_succ]
      refine callH 16 rfl (by kernel_rfl) rfl (fun K hK => ?_)
      go_simp
      go_at_call 26
      refine (HGm.out _ hH.1).mono ?_
      rintro e wz ⟨up, rfl, hou, hbz⟩
      obtain ⟨ap, cp, rfl, _, _⟩ := hou.ints
      have Hpo := Lib.hid (show IntsAt wz ap PL from hou.at)
      clear hou
      refine hK.out _ _ ⟨below_step hH.1 hH.1.size hbz, (hbz.cell (p := ⟨bo, oo + m, none⟩) (Nat.lt_of_lt_of_le hbo hH.1.size)).trans hH.2.1, (hbz.cell (p := ⟨bo, oo + (m - 1), none⟩) (Nat.lt_of_lt_of_le hbo hH.1.size)).trans hH.2.2.1, (hbz.cell (p := ⟨bl, ol + (k - 1), none⟩) (Nat.lt_of_lt_of_le hbl hH.1.size)).trans hH.2.2.2⟩ (fun hH => ?_)
      clear hK K
      try simp only [Act.put, List.setIfInBounds_toArray, List.set_cons_zero, List.set_cons_succ]
      refine takeH 17 (v := ?vk17) rfl (by kernel_rfl) (by kernel_rfl) (by kernel_rfl) (fun _ _ _ h => h) hH rfl ?yk17 ?rk17
      case yk17 => intro W hSw; go_simp; try with_reducible rfl
      try simp only [Act.put, List.setIfInBounds_toArray, List.set_cons_zero, List.set_cons_succ]
      have Hbz := Lib.hid hH.1
      have hcp := hH.2.2.1
      refine wpAnyH_done (by kernel_rfl) ?_ _
      try simp only [Act.put]
      clear hH hcm hlc9
      go_wp2_with fail
      refine (HWm.out wz Hbz.out).mono ?_
      rintro e wy ⟨rfl, hby⟩
      have Hby := Lib.hid (below_step Hbz.out Hbz.out.size hby)
      have HHI := Lib.hid (laws_hasInt ap cp PL Z wy (by omega) (Hpo.out.below hby))
      rw [hhas] at HHI
      clear hby hhas
      go_wp2_with fail
      refine HHI.out.mono ?_
      rintro e wx ⟨rfl, rfl⟩
      go_wp2
      go_roundw
      case rel => exact ⟨m + 1, by omega, .inl (by omega), by go_num, Hby.out⟩
      case measure => simp [intOf]; omega
    · go_wp2
      go_ret
      exact ⟨rfl, below_step Hb4.out Hb4.out.size Hbr.out⟩

theorem fnWavesLinked_own : ownKnob Tryd.prog.godebug = none := by kernel_rfl
theorem fnWavesLinked_laidOut : laidOutB Tryd.prog = true := by kernel_rfl

set_option maxRecDepth 8000 in
theorem fnWavesLinked_lifted (os : Os) (started : os.Started) (H : Type) (enc : TypeId × Value → H) :
    ReturnsInHanded {} Tryd.checked os 8 .any (fun w args => (Rows.fnWavesLinkedSpec.pre enc Tryd.prog Tryd.f8 [] false w args ∧ laidMetH Tryd.prog laidE w) ∧ sizedMet enc Tryd.prog Tryd.f8 (OpenSpec.ofChange Rows.fnWavesLinkedSpec) false w args) (Rows.fnWavesLinkedSpec.post enc Tryd.prog Tryd.f8 false true false false) := by
  refine law_lifted_tied (C := Tryd.checked) (tb := 4) laidE fnWavesLinked_own fnWavesLinked_laidOut started (by kernel_rfl) Tryd.func8 rfl Tryd.underlying4 (by kernel_rfl) (by rw [Tryd.params8]; exact of_decide_eq_true (by kernel_rfl)) ?_
    (ChangeSpec.witness_shaped (enc := enc) (C := Tryd.checked) (os := os) (X := fun w _ => laidMetH Tryd.prog laidE w) false (World.laidAll Tryd.prog os laidE) #[.slice none 0 0] 8 (World.laidAll_os _ _ _) (World.shaped_of_ZipB (by kernel_rfl) (by kernel_rfl)) (by kernel_rfl) (by kernel_rfl) (by kernel_rfl) (laid_witness os _)) ?_
  · intro ds gs hds hgs
    rw [Tryd.params8] at hds
    match ds, hds, gs, hgs with
    | [d0], _, [g0, g1], _ => rfl
  · intro W base args ds p hval0 hA0 hL0
    have hval : ∀ (j : Nat) t v, Tryd.f8.params[j]? = some t → args[j]? = some v → Value.okWide Tryd.prog W .any base t v := hval0
    have hA : DataW.TrodAll enc Tryd.prog W 0 (fun _ => true) true Tryd.f8.params.toList args.toList ds p := hA0
    rw [Tryd.params8] at hA hval
    obtain ⟨v0, vs0, d0, ds0, p0, q0, hargs0, rfl, rfl, h0, r0⟩ := trodAll_cons hA
    obtain ⟨hnil, rfl, rfl⟩ := trodAll_nil r0
    subst hnil
    obtain rfl : args = #[v0] := by cases args; simp_all
    obtain ⟨a0, cap0, zs0, rfl, hk0, hm0, hi0, hw0⟩ := open_slice_ints Tryd.underlying22 Tryd.underlying5 (by kernel_rfl) (hval 0 22 v0 rfl rfl) h0
    obtain ⟨eN, eI, hS⟩ := sen_of hL0
    exact fnWavesLinked_walk a0 cap0 zs0 W hk0 hm0 hi0 hw0 eN eI hS

set_option maxRecDepth 8000 in
theorem fnWavesLinked_holds : Rows.FnWavesLinkedSaid :=
  OpenClaim.holds_of_wide 8 Tryd.f8 rfl rfl rfl rfl rfl rfl rfl ⟨rfl, rfl, rfl, rfl, rfl⟩ rfl rfl rfl rfl rfl (by kernel_rfl) Tryd.func8 (by kernel_rfl)
    (of_decide_eq_true (by kernel_rfl)) (by unfold Func.isWrapper; first | (rw [if_pos (by decide +kernel)]; kernel_rfl) | (rw [if_neg (by decide +kernel)]; exact ⟨rfl, rfl⟩))
    (fun os started H enc _ => fnWavesLinked_lifted os started H enc)

theorem fnWavesLinked_card : Rows.FnWavesLinkedCardSaid :=
  Claim7.holds_tied_plain_at .later [] _ _ _ _ fnWavesLinked_holds (fun _ h => by cases h) (by kernel_rfl) (fun _ h => by cases h) fnWavesLinked_row_tie rfl ⟨rfl, rfl⟩ (by kernel_rfl) rfl
    (plain_of (f0 := 8) (fn0 := Tryd.f8) (ts := [22]) (by kernel_rfl) Tryd.func8 (by rw [Tryd.params8]) (by kernel_rfl) (by kernel_rfl)) (by kernel_rfl)

end Go.Proofs.YtjekgjlnaochiaaDoor
