/- Law FnOrderWave holds for every input; no conditions of our own (its card: the two sentinels of impl are tied to the program's text). -/
import Derived.Test.YtjaacdapibokiaaGreatDoorRows
import Derived.Test.YtjaacdapibokiaaGreatDoorBu0
import Derived.Test.YtjaacdapibokiaaGreatDoorBu1
import Derived.Test.YtjaacdapibokiaaGreatDoorBu2
import Derived.Test.YtjaacdapibokiaaGreatDoorBu5
import Derived.Test.YtjaacdapibokiaaGreatDoorBu3
namespace Go.Proofs.YtjaacdapibokiaaGreatDoor
open Go.ChangeShapes Go.WideShapes Go.ChangeAt Go.RowKit

set_option maxHeartbeats 2000000 in
theorem fnOrderWave_walk (a : Option Addr) (cap : Nat) (zs : List Int) (w : World) (hk : zs.length ≤ cap) (_hm : zs.length ≤ maxLen) (hi : zs = [] ∨ ∃ b off, a = some ⟨b, off, none⟩ ∧ b < w.heap.size ∧ ∀ j (h : j < zs.length), w.cell? ⟨b, off + j, none⟩ = some (.int .u8 zs[j])) (hw : ∀ z ∈ zs, (Lit.int .u8 z).wf = true) (eN eI : Addr) (hs : Sen w eN eI) :
    Calls Tryz.prog 9 #[.slice a zs.length cap] w fun e w' => e = .returned (.bool true) ∧ Below w.heap.size w w' := by
  by_cases hl : 1048576 < zs.length
  · go_enter Tryz.func9, Tryz.ntmps9
    go_wp2
    go_ret
    exact ⟨rfl, Below.refl _ _⟩
  have hcode := codeAt_of hk (by omega) hi hw
  have Hcode := Lib.hid hcode; clear hcode hi hw
  have Hs := Lib.hid hs; clear hs
  go_enter Tryz.func9, Tryz.ntmps9
  go_wp2_with fail
  refine (spec_DrawOrderWave a cap zs w Hcode.out).mono ?_
  rintro e w1 ⟨ac, cc, c, vg, g, fp, al, cl, ls, sr, sa, rfl, hoc, hcl, hgr, hfp, hgl, hps, hol, hll, ⟨hsr0, hsr1, hsa0, hsa1⟩, hb1⟩
  have hcc := hoc.cap
  have hlc := hol.cap
  obtain ⟨ag, cg, rfl⟩ := hgr.slice
  have Hps := Lib.hid (show ∀ x ∈ g, x.ps.length ≤ 1099511627776 from fun x hx => Nat.le_trans (hps x hx) (by omega)); clear hps
  have Hb1 := Lib.hid hb1
  have HS := Lib.hid (Hs.out.below hb1)
  have Hc := Lib.hid hoc.at; have Hl := Lib.hid hol.at; have Hg := Lib.hid hgr
  clear hoc hol hgr hb1 hfp Hs
  have hbv : Below w1.heap.size w1 (w1.alloc (.cells #[.int .i64 sr, .int .i64 sa] 32)) := (Below.refl _ _).alloc (Nat.le_refl _) _
  have HsV := Lib.hid (Str.new w1 32 #[.int .i64 sr, .int .i64 sa])
  have hws : (w1.alloc (.cells #[.int .i64 sr, .int .i64 sa] 32)).heap.size = w1.heap.size + 1 := by simp
  have Hc := Lib.hid (Hc.out.below hbv); have Hl := Lib.hid (Hl.out.below hbv); have Hg := Lib.hid (Hg.out.under hbv); have HS := Lib.hid (HS.out.below hbv)
  have Hb2 := Lib.hid (below_step Hb1.out Hb1.out.size hbv)
  have k0 := HsV.out.cell 0 (v := .int .i64 sr) rfl
  have k1 := HsV.out.cell 1 (v := .int .i64 sa) rfl
  clear hbv Hb1
  go_wp2_with fail
  generalize w1.alloc (.cells #[.int .i64 sr, .int .i64 sa] 32) = w2 at *
  generalize hVB : w1.heap.size = VB at *
  refine (impl_OrderWave ac cc c g (.slice ag g.length cg) fp al cl ls sr sa eN eI w2 (by omega) (by omega) Hps.out (by omega) Hc.out Hg.out Hl.out HS.out).mono ?_
  rintro e w3 ⟨rfl, hb⟩
  have Hc := Lib.hid (show IntsAt w3 ac c from Hc.out.below hb)
  have Hl := Lib.hid (show IntsAt w3 al ls from Hl.out.below hb)
  have Hg := Lib.hid (show Gr w3 g (.slice ag g.length cg) fp from Hg.out.under hb)
  have HS := Lib.hid (show Sen w3 eN eI from HS.out.below hb)
  have HsV := Lib.hid (show Str w3 VB 32 #[.int .i64 sr, .int .i64 sa] from (hb.block _ HsV.out.lt).trans HsV.out)
  have Hb3 := Lib.hid (below_step Hb2.out Hb2.out.size hb)
  clear hb
  have k0 := HsV.out.cell 0 (v := .int .i64 sr) rfl
  have k1 := HsV.out.cell 1 (v := .int .i64 sa) rfl
  go_wp2_with fail
  refine (spec_OrderWave ac cc c g (.slice ag g.length cg) fp al cl ls sr sa w3 (by omega) (by omega) Hps.out (by omega) Hc.out Hg.out Hl.out).mono ?_
  rintro e w4 ⟨rfl, hb⟩
  have Hc := Lib.hid (show IntsAt w4 ac c from Hc.out.below hb)
  have Hl := Lib.hid (show IntsAt w4 al ls from Hl.out.below hb)
  have Hg := Lib.hid (show Gr w4 g (.slice ag g.length cg) fp from Hg.out.under hb)
  have HS := Lib.hid (show Sen w4 eN eI from HS.out.below hb)
  have HsV := Lib.hid (show Str w4 VB 32 #[.int .i64 sr, .int .i64 sa] from (hb.block _ HsV.out.lt).trans HsV.out)
  have Hb4 := Lib.hid (below_step Hb3.out Hb3.out.size hb)
  clear hb
  have k0 := HsV.out.cell 0 (v := .int .i64 sr) rfl
  have k1 := HsV.out.cell 1 (v := .int .i64 sa) rfl
  have hVl := HsV.out.lt
  by_cases hz : owZ c g ls sr sa < 0
  · have Hlv := Lib.hid (fun h => ow_neg hz h)
    have HF := Lib.hid (impl_GraphFind' ac cc c g (.slice ag g.length cg) fp sr sa w4 (by omega) (by omega) Hps.out Hc.out Hg.out)
    generalize owZ c g ls sr sa = Z at *
    generalize gfZ c g sr sa = F at *
    by_cases hf : F < 0
    · go_wp2_with fail
      refine HF.out.mono ?_
      rintro e w5 ⟨rfl, hb⟩
      go_wp2
      go_ret
      exact ⟨by first | rfl | exact ret_bool (by simp), below_step Hb4.out Hb4.out.size hb⟩
    · have hlv := Hlv.out (by omega)
      have HLV := Lib.hid (fun W (hb : Below w4.heap.size w4 W) => impl_LeadersValid ac cc c al cl ls W (by omega) (by omega) (Hc.out.below hb) (Hl.out.below hb))
      rw [hlv] at HLV
      clear hlv
      go_wp2_with fail
      refine HF.out.mono ?_
      rintro e w5 ⟨rfl, hb⟩
      have Hb5 := Lib.hid (below_step Hb4.out Hb4.out.size hb)
      go_wp2_with fail
      refine (HLV.out w5 hb).mono ?_
      rintro e w6 ⟨rfl, rfl⟩
      clear hb
      go_wp2
      go_ret
      exact ⟨by first | rfl | exact ret_bool (by simp), Hb5.out⟩
  obtain ⟨hmem, hhas⟩ := ow_pos (c := c) (g := g) (ls := ls) (sr := sr) (sa := sa) Hps.out (by omega)
  have hO := Nat.le_trans (Nat.le_of_eq (osS_len c g ls)) (osI_len (c := c) (ls := ls) Hps.out)
  have hO22 : (cwZ c g ls).length ≤ 22 := Nat.le_trans (cwZ_len c g ls) hll
  have HOS := Lib.hid (fun W (hb : Below w4.heap.size w4 W) => impl_OrderSlots ac cc c g (.slice ag g.length cg) fp al cl ls eN eI W (by omega) (by omega) Hps.out (by omega) (Hc.out.below hb) (Hg.out.under hb) (Hl.out.below hb) (HS.out.below hb))
  have HCW := Lib.hid (fun W (hb : Below w4.heap.size w4 W) => impl_CommitWaves ac cc c g (.slice ag g.length cg) fp al cl ls eN eI W (by omega) (by omega) Hps.out (by omega) hcc (Hc.out.below hb) (Hg.out.under hb) hlc (Hl.out.below hb) (HS.out.below hb))
  unfold SlotsPost at HOS
  generalize osS c g ls = OL at *
  generalize cwZ c g ls = CW at *
  generalize owZ c g ls sr sa = Z at *
  have hz' : ¬ Z < 0 := hz
  have HHS := Lib.hid (fun W a' c' f' (hr : Sls W OL (.slice a' OL.length c') f') => laws_hasSlot OL a' c' f' sr sa W (by omega) hr)
  have HHI := Lib.hid (fun W a' c' (hr : IntsAt W a' CW) => laws_hasInt a' c' CW Z W (by omega) hr)
  by_cases hp : 0 < Z
  · have hmd : decide (((sr, sa) : Sl) ∈ OL) = true := decide_eq_true (hmem.1 hp)
    have hp' : decide (0 < Z) = true := decide_eq_true hp
    have hhb := hhas hp
    have hz0 : (Z == 0) = false := by rw [beq_eq_false_iff_ne]; omega
    go_wp2_with fail
    refine wp_region_held_drew (S := fun W => Below w4.heap.size w4 W ∧ W.cell? ⟨VB, 0, none⟩ = some (.int .i64 sr) ∧ W.cell? ⟨VB, 1, none⟩ = some (.int .i64 sa) ∧ VB < W.heap.size) (by kernel_rfl) ⟨(Below.refl _ _).drew, k0, k1, hVl⟩ (fun hH => ?_)
    refine takeH 0 (v := ?vwp1) rfl (by kernel_rfl) (by kernel_rfl) (by kernel_rfl) (fun _ _ _ h => h) hH rfl ?ywp1 ?rwp1
    case ywp1 => intro W hSw; go_simp; try with_reducible rfl
    try simp only [Act.put, List.setIfInBounds_toArray, List.set_cons_zero, List.set_cons_succ]
    refine takeH 1 (v := .bool true) rfl (by kernel_rfl) (by kernel_rfl) (by kernel_rfl) (fun _ _ _ h => h) hH rfl ?ywp2 ?rwp2
    case ywp2 => intro W hSw; go_simp; first | done | simp only [hp'] | omega | (simp; omega)
    try simp only [Act.put, List.setIfInBounds_toArray, List.set_cons_zero, List.set_cons_succ]
    refine takeH 2 (v := ?vwp3) rfl (by kernel_rfl) (by kernel_rfl) (by kernel_rfl) (fun _ _ _ h => h) hH rfl ?ywp3 ?rwp3
    case ywp3 => intro W hSw; go_simp; try with_reducible rfl
    try simp only [Act.put, List.setIfInBounds_toArray, List.set_cons_zero, List.set_cons_succ]
    refine takeH 3 (v := ?vwp4) rfl (by kernel_rfl) (by kernel_rfl) (by kernel_rfl) (fun _ _ _ h => h) hH rfl ?ywp4 ?rwp4
    case ywp4 => intro W hSw; go_simp; try with_reducible rfl
    try simp only [Act.put, List.setIfInBounds_toArray, List.set_cons_zero, List.set_cons_succ]
    refine takeH 4 (v := ?vwp5) rfl (by kernel_rfl) (by kernel_rfl) (by kernel_rfl) (fun _ _ _ h => h) hH rfl ?ywp5 ?rwp5
    case ywp5 => intro W hSw; go_simp; try with_reducible rfl
    try simp only [Act.put, List.setIfInBounds_toArray, List.set_cons_zero, List.set_cons_succ]
    refine takeH 6 (v := ?vwp6) rfl (by kernel_rfl) (by kernel_rfl) (by kernel_rfl) (fun _ _ _ h => h) hH rfl ?ywp6 ?rwp6
    case ywp6 => intro W hSw; go_simp; try with_reducible rfl
    try simp only [Act.put, List.setIfInBounds_toArray, List.set_cons_zero, List.set_cons_succ]
    refine callH 5 rfl (by kernel_rfl) rfl (fun K hK => ?_)
    go_simp
    go_at_call 11
    refine (HOS.out _ hH.1).mono ?_
    rintro e wz ⟨uz, rfl, hoz, hbz⟩
    obtain ⟨az, cz, fz, rfl, hcpz, hsz⟩ := sls_of hoz
    have Hsz := Lib.hid hsz
    refine hK.out _ _ ⟨below_step hH.1 hH.1.size hbz, (hbz.cell (p := ⟨VB, 0, none⟩) hH.2.2.2).trans hH.2.1, (hbz.cell (p := ⟨VB, 1, none⟩) hH.2.2.2).trans hH.2.2.1, Nat.lt_of_lt_of_le hH.2.2.2 hbz.size⟩ (fun hH => ?_)
    clear hK K
    try simp only [Act.put, List.setIfInBounds_toArray, List.set_cons_zero, List.set_cons_succ]
    clear hoz hbz hsz
    refine callH 7 rfl (by kernel_rfl) rfl (fun K hK => ?_)
    go_simp
    go_at_call 15
    refine (HHS.out _ az cz fz Hsz.out).mono ?_
    rintro e wz ⟨rfl, hbz⟩
    rw [hmd]
    refine hK.out _ _ ⟨below_step hH.1 hH.1.size hbz, (hbz.cell (p := ⟨VB, 0, none⟩) hH.2.2.2).trans hH.2.1, (hbz.cell (p := ⟨VB, 1, none⟩) hH.2.2.2).trans hH.2.2.1, Nat.lt_of_lt_of_le hH.2.2.2 hbz.size⟩ (fun hH => ?_)
    clear hK K
    try simp only [Act.put, List.setIfInBounds_toArray, List.set_cons_zero, List.set_cons_succ]
    refine takeH 8 (v := ?vwp7) rfl (by kernel_rfl) (by kernel_rfl) (by kernel_rfl) (fun _ _ _ h => h) hH rfl ?ywp7 ?rwp7
    case ywp7 => intro W hSw; go_simp; try with_reducible rfl
    try simp only [Act.put, List.setIfInBounds_toArray, List.set_cons_zero, List.set_cons_succ]
    refine takeH 9 (v := ?vwp8) rfl (by kernel_rfl) (by kernel_rfl) (by kernel_rfl) (fun _ _ _ h => h) hH rfl ?ywp8 ?rwp8
    case ywp8 => intro W hSw; go_simp; try with_reducible rfl
    try simp only [Act.put, List.setIfInBounds_toArray, List.set_cons_zero, List.set_cons_succ]
    refine takeH 10 (v := ?vwp9) rfl (by kernel_rfl) (by kernel_rfl) (by kernel_rfl) (fun _ _ _ h => h) hH rfl ?ywp9 ?rwp9
    case ywp9 => intro W hSw; go_simp; try with_reducible rfl
    try simp only [Act.put, List.setIfInBounds_toArray, List.set_cons_zero, List.set_cons_succ]
    refine takeH 11 (v := .bool false) rfl (by kernel_rfl) (by kernel_rfl) (by kernel_rfl) (fun _ _ _ h => h) hH rfl ?ywp10 ?rwp10
    case ywp10 => intro W hSw; go_simp; first | done | simp only [hz0] | omega | (simp; omega)
    try simp only [Act.put, List.setIfInBounds_toArray, List.set_cons_zero, List.set_cons_succ]
    refine takeH 12 (v := ?vwp11) rfl (by kernel_rfl) (by kernel_rfl) (by kernel_rfl) (fun _ _ _ h => h) hH rfl ?ywp11 ?rwp11
    case ywp11 => intro W hSw; go_simp; try with_reducible rfl
    try simp only [Act.put, List.setIfInBounds_toArray, List.set_cons_zero, List.set_cons_succ]
    refine takeH 13 (v := ?vwp12) rfl (by kernel_rfl) (by kernel_rfl) (by kernel_rfl) (fun _ _ _ h => h) hH rfl ?ywp12 ?rwp12
    case ywp12 => intro W hSw; go_simp; try with_reducible rfl
    try simp only [Act.put, List.setIfInBounds_toArray, List.set_cons_zero, List.set_cons_succ]
    refine takeH 14 (v := ?vwp13) rfl (by kernel_rfl) (by kernel_rfl) (by kernel_rfl) (fun _ _ _ h => h) hH rfl ?ywp13 ?rwp13
    case ywp13 => intro W hSw; go_simp; try with_reducible rfl
    try simp only [Act.put, List.setIfInBounds_toArray, List.set_cons_zero, List.set_cons_succ]
    refine takeH 15 (v := ?vwp14) rfl (by kernel_rfl) (by kernel_rfl) (by kernel_rfl) (fun _ _ _ h => h) hH rfl ?ywp14 ?rwp14
    case ywp14 => intro W hSw; go_simp; try with_reducible rfl
    try simp only [Act.put, List.setIfInBounds_toArray, List.set_cons_zero, List.set_cons_succ]
    refine takeH 17 (v := ?vwp15) rfl (by kernel_rfl) (by kernel_rfl) (by kernel_rfl) (fun _ _ _ h => h) hH rfl ?ywp15 ?rwp15
    case ywp15 => intro W hSw; go_simp; try with_reducible rfl
    try simp only [Act.put, List.setIfInBounds_toArray, List.set_cons_zero, List.set_cons_succ]
    refine callH 16 rfl (by kernel_rfl) rfl (fun K hK => ?_)
    go_simp
    go_at_call 19
    refine (HCW.out _ hH.1).mono ?_
    rintro e wy ⟨uy, rfl, hoy, hbz⟩
    obtain ⟨ay, cy, rfl, _, _⟩ := hoy.ints
    have Hoy := Lib.hid (show IntsAt wy ay CW from hoy.at)
    refine hK.out _ _ ⟨below_step hH.1 hH.1.size hbz, (hbz.cell (p := ⟨VB, 0, none⟩) hH.2.2.2).trans hH.2.1, (hbz.cell (p := ⟨VB, 1, none⟩) hH.2.2.2).trans hH.2.2.1, Nat.lt_of_lt_of_le hH.2.2.2 hbz.size⟩ (fun hH => ?_)
    clear hK K
    try simp only [Act.put, List.setIfInBounds_toArray, List.set_cons_zero, List.set_cons_succ]
    clear hoy hbz
    refine callH 18 rfl (by kernel_rfl) rfl (fun K hK => ?_)
    go_simp
    go_at_call 29
    refine (HHI.out _ ay cy Hoy.out).mono ?_
    rintro e wx ⟨rfl, rfl⟩
    rw [hhb]
    refine hK.out _ _ hH (fun hH => ?_)
    clear hK K
    try simp only [Act.put, List.setIfInBounds_toArray, List.set_cons_zero, List.set_cons_succ]
    refine takeH 19 (v := ?vwp16) rfl (by kernel_rfl) (by kernel_rfl) (by kernel_rfl) (fun _ _ _ h => h) hH rfl ?ywp16 ?rwp16
    case ywp16 => intro W hSw; go_simp; try with_reducible rfl
    try simp only [Act.put, List.setIfInBounds_toArray, List.set_cons_zero, List.set_cons_succ]
    refine takeH 20 (v := ?vwp17) rfl (by kernel_rfl) (by kernel_rfl) (by kernel_rfl) (fun _ _ _ h => h) hH rfl ?ywp17 ?rwp17
    case ywp17 => intro W hSw; go_simp; try with_reducible rfl
    try simp only [Act.put, List.setIfInBounds_toArray, List.set_cons_zero, List.set_cons_succ]
    refine takeH 21 (v := ?vwp18) rfl (by kernel_rfl) (by kernel_rfl) (by kernel_rfl) (fun _ _ _ h => h) hH rfl ?ywp18 ?rwp18
    case ywp18 => intro W hSw; go_simp; try with_reducible rfl
    try simp only [Act.put, List.setIfInBounds_toArray, List.set_cons_zero, List.set_cons_succ]
    have Hbz := Lib.hid hH.1
    refine wpAnyH_done (by kernel_rfl) ?_ _
    try simp only [Act.put]
    clear hH
    go_wp2
    go_ret
    exact ⟨by first | rfl | exact ret_bool (by simp), below_step Hb4.out Hb4.out.size Hbz.out⟩
  · have hmd : decide (((sr, sa) : Sl) ∈ OL) = false := decide_eq_false (fun h => hp (hmem.2 h))
    have hp' : decide (0 < Z) = false := decide_eq_false hp
    obtain rfl : Z = 0 := by omega
    go_wp2_with fail
    refine wp_region_held_drew (S := fun W => Below w4.heap.size w4 W ∧ W.cell? ⟨VB, 0, none⟩ = some (.int .i64 sr) ∧ W.cell? ⟨VB, 1, none⟩ = some (.int .i64 sa) ∧ VB < W.heap.size) (by kernel_rfl) ⟨(Below.refl _ _).drew, k0, k1, hVl⟩ (fun hH => ?_)
    refine takeH 0 (v := ?vwn1) rfl (by kernel_rfl) (by kernel_rfl) (by kernel_rfl) (fun _ _ _ h => h) hH rfl ?ywn1 ?rwn1
    case ywn1 => intro W hSw; go_simp; try with_reducible rfl
    try simp only [Act.put, List.setIfInBounds_toArray, List.set_cons_zero, List.set_cons_succ]
    refine takeH 1 (v := .bool false) rfl (by kernel_rfl) (by kernel_rfl) (by kernel_rfl) (fun _ _ _ h => h) hH rfl ?ywn2 ?rwn2
    case ywn2 => intro W hSw; go_simp; first | done | simp only [hp'] | omega | (simp; omega)
    try simp only [Act.put, List.setIfInBounds_toArray, List.set_cons_zero, List.set_cons_succ]
    refine takeH 2 (v := ?vwn3) rfl (by kernel_rfl) (by kernel_rfl) (by kernel_rfl) (fun _ _ _ h => h) hH rfl ?ywn3 ?rwn3
    case ywn3 => intro W hSw; go_simp; try with_reducible rfl
    try simp only [Act.put, List.setIfInBounds_toArray, List.set_cons_zero, List.set_cons_succ]
    refine takeH 3 (v := ?vwn4) rfl (by kernel_rfl) (by kernel_rfl) (by kernel_rfl) (fun _ _ _ h => h) hH rfl ?ywn4 ?rwn4
    case ywn4 => intro W hSw; go_simp; try with_reducible rfl
    try simp only [Act.put, List.setIfInBounds_toArray, List.set_cons_zero, List.set_cons_succ]
    refine takeH 4 (v := ?vwn5) rfl (by kernel_rfl) (by kernel_rfl) (by kernel_rfl) (fun _ _ _ h => h) hH rfl ?ywn5 ?rwn5
    case ywn5 => intro W hSw; go_simp; try with_reducible rfl
    try simp only [Act.put, List.setIfInBounds_toArray, List.set_cons_zero, List.set_cons_succ]
    refine takeH 6 (v := ?vwn6) rfl (by kernel_rfl) (by kernel_rfl) (by kernel_rfl) (fun _ _ _ h => h) hH rfl ?ywn6 ?rwn6
    case ywn6 => intro W hSw; go_simp; try with_reducible rfl
    try simp only [Act.put, List.setIfInBounds_toArray, List.set_cons_zero, List.set_cons_succ]
    refine callH 5 rfl (by kernel_rfl) rfl (fun K hK => ?_)
    go_simp
    go_at_call 11
    refine (HOS.out _ hH.1).mono ?_
    rintro e wz ⟨uz, rfl, hoz, hbz⟩
    obtain ⟨az, cz, fz, rfl, hcpz, hsz⟩ := sls_of hoz
    have Hsz := Lib.hid hsz
    refine hK.out _ _ ⟨below_step hH.1 hH.1.size hbz, (hbz.cell (p := ⟨VB, 0, none⟩) hH.2.2.2).trans hH.2.1, (hbz.cell (p := ⟨VB, 1, none⟩) hH.2.2.2).trans hH.2.2.1, Nat.lt_of_lt_of_le hH.2.2.2 hbz.size⟩ (fun hH => ?_)
    clear hK K
    try simp only [Act.put, List.setIfInBounds_toArray, List.set_cons_zero, List.set_cons_succ]
    clear hoz hbz hsz
    refine callH 7 rfl (by kernel_rfl) rfl (fun K hK => ?_)
    go_simp
    go_at_call 15
    refine (HHS.out _ az cz fz Hsz.out).mono ?_
    rintro e wz ⟨rfl, hbz⟩
    rw [hmd]
    refine hK.out _ _ ⟨below_step hH.1 hH.1.size hbz, (hbz.cell (p := ⟨VB, 0, none⟩) hH.2.2.2).trans hH.2.1, (hbz.cell (p := ⟨VB, 1, none⟩) hH.2.2.2).trans hH.2.2.1, Nat.lt_of_lt_of_le hH.2.2.2 hbz.size⟩ (fun hH => ?_)
    clear hK K
    try simp only [Act.put, List.setIfInBounds_toArray, List.set_cons_zero, List.set_cons_succ]
    refine takeH 8 (v := ?vwn7) rfl (by kernel_rfl) (by kernel_rfl) (by kernel_rfl) (fun _ _ _ h => h) hH rfl ?ywn7 ?rwn7
    case ywn7 => intro W hSw; go_simp; try with_reducible rfl
    try simp only [Act.put, List.setIfInBounds_toArray, List.set_cons_zero, List.set_cons_succ]
    refine takeH 9 (v := ?vwn8) rfl (by kernel_rfl) (by kernel_rfl) (by kernel_rfl) (fun _ _ _ h => h) hH rfl ?ywn8 ?rwn8
    case ywn8 => intro W hSw; go_simp; try with_reducible rfl
    try simp only [Act.put, List.setIfInBounds_toArray, List.set_cons_zero, List.set_cons_succ]
    refine takeH 10 (v := ?vwn9) rfl (by kernel_rfl) (by kernel_rfl) (by kernel_rfl) (fun _ _ _ h => h) hH rfl ?ywn9 ?rwn9
    case ywn9 => intro W hSw; go_simp; try with_reducible rfl
    try simp only [Act.put, List.setIfInBounds_toArray, List.set_cons_zero, List.set_cons_succ]
    refine takeH 11 (v := ?vwn10) rfl (by kernel_rfl) (by kernel_rfl) (by kernel_rfl) (fun _ _ _ h => h) hH rfl ?ywn10 ?rwn10
    case ywn10 => intro W hSw; go_simp; try with_reducible rfl
    try simp only [Act.put, List.setIfInBounds_toArray, List.set_cons_zero, List.set_cons_succ]
    refine takeH 12 (v := ?vwn11) rfl (by kernel_rfl) (by kernel_rfl) (by kernel_rfl) (fun _ _ _ h => h) hH rfl ?ywn11 ?rwn11
    case ywn11 => intro W hSw; go_simp; try with_reducible rfl
    try simp only [Act.put, List.setIfInBounds_toArray, List.set_cons_zero, List.set_cons_succ]
    refine skipH 13 rfl (by kernel_rfl) (by kernel_rfl) (by kernel_rfl) (fun _ _ _ h => h) hH rfl ?_
    try simp only [Act.put, List.setIfInBounds_toArray, List.set_cons_zero, List.set_cons_succ]
    refine skipH 14 rfl (by kernel_rfl) (by kernel_rfl) (by kernel_rfl) (fun _ _ _ h => h) hH rfl ?_
    try simp only [Act.put, List.setIfInBounds_toArray, List.set_cons_zero, List.set_cons_succ]
    refine skipH 15 rfl (by kernel_rfl) (by kernel_rfl) (by kernel_rfl) (fun _ _ _ h => h) hH rfl ?_
    try simp only [Act.put, List.setIfInBounds_toArray, List.set_cons_zero, List.set_cons_succ]
    refine skipH 16 rfl (by kernel_rfl) (by kernel_rfl) (by kernel_rfl) (fun _ _ _ h => h) hH rfl ?_
    try simp only [Act.put, List.setIfInBounds_toArray, List.set_cons_zero, List.set_cons_succ]
    refine skipH 17 rfl (by kernel_rfl) (by kernel_rfl) (by kernel_rfl) (fun _ _ _ h => h) hH rfl ?_
    try simp only [Act.put, List.setIfInBounds_toArray, List.set_cons_zero, List.set_cons_succ]
    refine skipH 18 rfl (by kernel_rfl) (by kernel_rfl) (by kernel_rfl) (fun _ _ _ h => h) hH rfl ?_
    try simp only [Act.put, List.setIfInBounds_toArray, List.set_cons_zero, List.set_cons_succ]
    refine takeH 19 (v := ?vwn12) rfl (by kernel_rfl) (by kernel_rfl) (by kernel_rfl) (fun _ _ _ h => h) hH rfl ?ywn12 ?rwn12
    case ywn12 => intro W hSw; go_simp; try with_reducible rfl
    try simp only [Act.put, List.setIfInBounds_toArray, List.set_cons_zero, List.set_cons_succ]
    refine takeH 20 (v := ?vwn13) rfl (by kernel_rfl) (by kernel_rfl) (by kernel_rfl) (fun _ _ _ h => h) hH rfl ?ywn13 ?rwn13
    case ywn13 => intro W hSw; go_simp; try with_reducible rfl
    try simp only [Act.put, List.setIfInBounds_toArray, List.set_cons_zero, List.set_cons_succ]
    refine takeH 21 (v := ?vwn14) rfl (by kernel_rfl) (by kernel_rfl) (by kernel_rfl) (fun _ _ _ h => h) hH rfl ?ywn14 ?rwn14
    case ywn14 => intro W hSw; go_simp; try with_reducible rfl
    try simp only [Act.put, List.setIfInBounds_toArray, List.set_cons_zero, List.set_cons_succ]
    have Hbz := Lib.hid hH.1
    refine wpAnyH_done (by kernel_rfl) ?_ _
    try simp only [Act.put]
    clear hH
    go_wp2
    go_ret
    exact ⟨by first | rfl | exact ret_bool (by simp), below_step Hb4.out Hb4.out.size Hbz.out⟩

theorem fnOrderWave_own : ownKnob Tryz.prog.godebug = none := by kernel_rfl
theorem fnOrderWave_laidOut : laidOutB Tryz.prog = true := by kernel_rfl

set_option maxRecDepth 8000 in
theorem fnOrderWave_lifted (os : Os) (started : os.Started) (H : Type) (enc : TypeId × Value → H) :
    ReturnsInHanded {} Tryz.checked os 9 .any (fun w args => (Rows.fnOrderWaveSpec.pre enc Tryz.prog Tryz.f9 [] false w args ∧ laidMetH Tryz.prog laidE w) ∧ sizedMet enc Tryz.prog Tryz.f9 (OpenSpec.ofChange Rows.fnOrderWaveSpec) false w args) (Rows.fnOrderWaveSpec.post enc Tryz.prog Tryz.f9 false true false false) := by
  refine law_lifted_tied (C := Tryz.checked) (tb := 4) laidE fnOrderWave_own fnOrderWave_laidOut started (by kernel_rfl) Tryz.func9 rfl Tryz.underlying4 (by kernel_rfl) (by rw [Tryz.params9]; exact of_decide_eq_true (by kernel_rfl)) ?_
    (ChangeSpec.witness_shaped (enc := enc) (C := Tryz.checked) (os := os) (X := fun w _ => laidMetH Tryz.prog laidE w) false (World.laidAll Tryz.prog os laidE) #[.slice none 0 0] 8 (World.laidAll_os _ _ _) (World.shaped_of_ZipB (by kernel_rfl) (by kernel_rfl)) (by kernel_rfl) (by kernel_rfl) (by kernel_rfl) (laid_witness os _)) ?_
  · intro ds gs hds hgs
    rw [Tryz.params9] at hds
    match ds, hds, gs, hgs with
    | [d0], _, [g0, g1], _ => rfl
  · intro W base args ds p hval0 hA0 hL0
    have hval : ∀ (j : Nat) t v, Tryz.f9.params[j]? = some t → args[j]? = some v → Value.okWide Tryz.prog W .any base t v := hval0
    have hA : DataW.TrodAll enc Tryz.prog W 0 (fun _ => true) true Tryz.f9.params.toList args.toList ds p := hA0
    rw [Tryz.params9] at hA hval
    obtain ⟨v0, vs0, d0, ds0, p0, q0, hargs0, rfl, rfl, h0, r0⟩ := trodAll_cons hA
    obtain ⟨hnil, rfl, rfl⟩ := trodAll_nil r0
    subst hnil
    obtain rfl : args = #[v0] := by cases args; simp_all
    obtain ⟨a0, cap0, zs0, rfl, hk0, hm0, hi0, hw0⟩ := open_slice_ints Tryz.underlying22 Tryz.underlying5 (by kernel_rfl) (hval 0 22 v0 rfl rfl) h0
    obtain ⟨eN, eI, hS⟩ := sen_of hL0
    exact fnOrderWave_walk a0 cap0 zs0 W hk0 hm0 hi0 hw0 eN eI hS

set_option maxRecDepth 8000 in
theorem fnOrderWave_holds : Rows.FnOrderWaveSaid :=
  OpenClaim.holds_of_wide 9 Tryz.f9 rfl rfl rfl rfl rfl rfl rfl ⟨rfl, rfl, rfl, rfl, rfl⟩ rfl rfl rfl rfl rfl (by kernel_rfl) Tryz.func9 (by kernel_rfl)
    (of_decide_eq_true (by kernel_rfl)) (by unfold Func.isWrapper; first | (rw [if_pos (by decide +kernel)]; kernel_rfl) | (rw [if_neg (by decide +kernel)]; exact ⟨rfl, rfl⟩))
    (fun os started H enc _ => fnOrderWave_lifted os started H enc)

theorem fnOrderWave_card : Rows.FnOrderWaveCardSaid :=
  Claim7.holds_tied_plain_at .later [] _ _ _ _ fnOrderWave_holds (fun _ h => by cases h) (by kernel_rfl) (fun _ h => by cases h) fnOrderWave_row_tie rfl ⟨rfl, rfl⟩ (by kernel_rfl) rfl
    (plain_of (f0 := 9) (fn0 := Tryz.f9) (ts := [22]) (by kernel_rfl) Tryz.func9 (by rw [Tryz.params9]) (by kernel_rfl) (by kernel_rfl)) (by kernel_rfl)

end Go.Proofs.YtjaacdapibokiaaGreatDoor
