/- Law FnWavesReach holds for every input; no conditions of our own (its card: the two sentinels of impl are tied to the program's text). -/
import Derived.Test.YtjekgjlnaochiaaDoorRows
import Derived.Test.YtjekgjlnaochiaaDoorBu0
import Derived.Test.YtjekgjlnaochiaaDoorBu1
import Derived.Test.YtjekgjlnaochiaaDoorBu2
import Derived.Test.YtjekgjlnaochiaaDoorBu4
import Derived.Test.YtjekgjlnaochiaaDoorBu3
namespace Go.Proofs.YtjekgjlnaochiaaDoor
open Go.ChangeShapes Go.WideShapes Go.ChangeAt Go.RowKit

set_option maxHeartbeats 2000000 in
theorem fnWavesReach_walk (a : Option Addr) (cap : Nat) (zs : List Int) (a' : Option Addr) (cap' : Nat) (ms : List Int) (w : World) (hk : zs.length ≤ cap) (_hm : zs.length ≤ maxLen) (hi : zs = [] ∨ ∃ b off, a = some ⟨b, off, none⟩ ∧ b < w.heap.size ∧ ∀ j (h : j < zs.length), w.cell? ⟨b, off + j, none⟩ = some (.int .u8 zs[j])) (hw : ∀ z ∈ zs, (Lit.int .u8 z).wf = true)
    (_hk' : ms.length ≤ cap') (hm' : ms.length ≤ maxLen) (_hi' : ms = [] ∨ ∃ b off, a' = some ⟨b, off, none⟩ ∧ b < w.heap.size ∧ ∀ j (h : j < ms.length), w.cell? ⟨b, off + j, none⟩ = some (.int .u8 ms[j])) (_hw' : ∀ z ∈ ms, (Lit.int .u8 z).wf = true) (eN eI : Addr) (hs : Sen w eN eI) :
    Calls Tryd.prog 9 #[.slice a zs.length cap, .slice a' ms.length cap'] w fun e w' => e = .returned (.bool true) ∧ Below w.heap.size w w' := by
  unfold maxLen at hm'
  by_cases hl : 1048576 < zs.length
  · go_enter Tryd.func9, Tryd.ntmps9
    go_wp2
    go_ret
    exact ⟨rfl, Below.refl _ _⟩
  by_cases hl' : 1048576 < ms.length
  · go_enter Tryd.func9, Tryd.ntmps9
    go_wp2
    go_ret
    exact ⟨rfl, Below.refl _ _⟩
  have hcode := codeAt_of hk (by omega) hi hw
  have Hcode := Lib.hid hcode; clear hcode hi hw
  have Hs := Lib.hid hs; clear hs
  go_enter Tryd.func9, Tryd.ntmps9
  go_wp2_with fail
  refine (spec_DrawCommitWaves a cap zs w Hcode.out).mono ?_
  rintro e w1 ⟨ac, cc, c, vg, g, fp, al, cl, ls, rfl, hoc, hcl, hgr, hfp, hgl, hps, hol, hll, hb1⟩
  have hcc := hoc.cap
  have hlc := hol.cap
  obtain ⟨ag, cg, rfl⟩ := hgr.slice
  have Hps := Lib.hid (show ∀ x ∈ g, x.ps.length ≤ 1099511627776 from fun x hx => Nat.le_trans (hps x hx) (by omega)); clear hps
  have Hb1 := Lib.hid hb1
  have HS := Lib.hid (Hs.out.below hb1)
  have Hc := Lib.hid hoc.at; have Hl := Lib.hid hol.at; have Hg := Lib.hid hgr
  clear hoc hol hgr hb1 hfp Hs
  go_wp2_with fail
  refine (impl_CommitWaves ac cc c g (.slice ag g.length cg) fp al cl ls eN eI w1 (by omega) (by omega) Hps.out (by omega) hcc Hc.out Hg.out hlc Hl.out HS.out).mono ?_
  rintro e w2 ⟨uo, rfl, hoo, hb⟩
  obtain ⟨ao, co, rfl, _, _⟩ := hoo.ints
  have HO := Lib.hid (show IntsAt w2 ao (cwZ c g ls) from hoo.at)
  have hoc := hoo.cap
  clear hoo
  have Hc := Lib.hid (show IntsAt w2 ac c from Hc.out.below hb)
  have Hl := Lib.hid (show IntsAt w2 al ls from Hl.out.below hb)
  have Hg := Lib.hid (show Gr w2 g (.slice ag g.length cg) fp from Hg.out.under hb)
  have HS := Lib.hid (show Sen w2 eN eI from HS.out.below hb)
  have Hb2 := Lib.hid (below_step Hb1.out Hb1.out.size hb)
  clear hb
  go_wp2_with fail
  refine (spec_CommitWaves ac cc c g (.slice ag g.length cg) fp al cl ls w2 (by omega) (by omega) Hps.out (by omega) Hc.out Hg.out Hl.out).mono ?_
  rintro e w3 ⟨uw, rfl, how, hb⟩
  obtain ⟨aw, cw, rfl, _, _⟩ := how.ints
  have HW := Lib.hid (show IntsAt w3 aw (cwZ c g ls) from how.at)
  clear how
  have Hc := Lib.hid (show IntsAt w3 ac c from Hc.out.below hb)
  have Hl := Lib.hid (show IntsAt w3 al ls from Hl.out.below hb)
  have Hg := Lib.hid (show Gr w3 g (.slice ag g.length cg) fp from Hg.out.under hb)
  have HS := Lib.hid (show Sen w3 eN eI from HS.out.below hb)
  have HO := Lib.hid (show IntsAt w3 ao (cwZ c g ls) from HO.out.below hb)
  have Hb3 := Lib.hid (below_step Hb2.out Hb2.out.size hb)
  clear hb
  have hO22 : (cwZ c g ls).length ≤ 22 := Nat.le_trans (cwZ_len c g ls) hll
  go_wp2_with fail
  refine (laws_sameInts' ao aw co cw (cwZ c g ls) w3 (by omega) HO.out HW.out).mono ?_
  rintro e w4 ⟨rfl, hd⟩
  have hb : Below w3.heap.size w3 w4 := hd.below _
  clear hd
  have Hc := Lib.hid (show IntsAt w4 ac c from Hc.out.below hb)
  have Hl := Lib.hid (show IntsAt w4 al ls from Hl.out.below hb)
  have Hg := Lib.hid (show Gr w4 g (.slice ag g.length cg) fp from Hg.out.under hb)
  have HS := Lib.hid (show Sen w4 eN eI from HS.out.below hb)
  have HO := Lib.hid (show IntsAt w4 ao (cwZ c g ls) from HO.out.below hb)
  have HW := Lib.hid (show IntsAt w4 aw (cwZ c g ls) from HW.out.below hb)
  have Hb4 := Lib.hid (below_step Hb3.out Hb3.out.size hb)
  clear hb
  go_wp2_with fail
  refine (spec_GraphValid ac cc c g (.slice ag g.length cg) fp w4 (by omega) (by omega) Hps.out Hc.out Hg.out).mono ?_
  rintro e w5 ⟨rfl, hb⟩
  have Hc := Lib.hid (show IntsAt w5 ac c from Hc.out.below hb)
  have Hl := Lib.hid (show IntsAt w5 al ls from Hl.out.below hb)
  have Hg := Lib.hid (show Gr w5 g (.slice ag g.length cg) fp from Hg.out.under hb)
  have HS := Lib.hid (show Sen w5 eN eI from HS.out.below hb)
  have HO := Lib.hid (show IntsAt w5 ao (cwZ c g ls) from HO.out.below hb)
  have HW := Lib.hid (show IntsAt w5 aw (cwZ c g ls) from HW.out.below hb)
  have Hb5 := Lib.hid (below_step Hb4.out Hb4.out.size hb)
  clear hb
  have HSI := Lib.hid (laws_sameInts' ao aw co cw (cwZ c g ls) w5 (by omega) HO.out HW.out)
  cases hgb : graphB c g with
  | false =>
    generalize cwZ c g ls = OL at *
    go_wp2_with fail
    refine HSI.out.mono ?_
    rintro e w6 ⟨rfl, hd6⟩
    go_wp2
    go_ret
    exact ⟨rfl, below_step Hb5.out Hb5.out.size (hd6.below _)⟩
  | true =>
  by_cases hg0 : g.length = 0
  · have hs' : ((g.length : Int) == 0) = true := by rw [beq_iff_eq]; omega
    have hs : (g.length : Int) = 0 := by omega
    generalize cwZ c g ls = OL at *
    clear hg0
    go_wp2_with fail
    refine HSI.out.mono ?_
    rintro e w6 ⟨rfl, hd6⟩
    go_wp2
    go_ret
    exact ⟨rfl, below_step Hb5.out Hb5.out.size (hd6.below _)⟩
  have hs' : ((g.length : Int) == 0) = false := by rw [beq_eq_false_iff_ne]; omega
  obtain ⟨k, hkd⟩ : ∃ k : Nat, ms.length % g.length = k := ⟨_, rfl⟩
  have hk : k < g.length := by rw [← hkd]; exact Nat.mod_lt _ (by omega)
  have hidx : (ms.length : Int) % (g.length : Int) = (k : Int) := by rw [← hkd]; exact (Int.natCast_emod ms.length g.length).symm
  have HR := Lib.hid (cw_reach (c := c) (g := g) (ls := ls) hgb Hps.out k hk)
  have HWL := Lib.hid (fun W (hb : Below w5.heap.size w5 W) (x : Int) => impl_WaveLeader ac cc c g (.slice ag g.length cg) fp al cl ls x eN eI W (by omega) (by omega) Hps.out (by omega) hcc (Hc.out.below hb) (Hg.out.under hb) hlc (Hl.out.below hb) (HS.out.below hb))
  have HWD := Lib.hid (fun W (hb : Below w5.heap.size w5 W) (x : Int) => impl_WaveDirect ac cc c g (.slice ag g.length cg) fp al cl ls x eN eI W (by omega) (by omega) Hps.out (by omega) hcc (Hc.out.below hb) (Hg.out.under hb) hlc (Hl.out.below hb) (HS.out.below hb))
  have HGP := Lib.hid (fun W (hb : Below w5.heap.size w5 W) => impl_GraphPast' ac cc c g (.slice ag g.length cg) fp g[k].r g[k].a W (by omega) (by omega) Hps.out (Hc.out.below hb) (Hg.out.under hb))
  have hpl := gpZ_len c g g[k].r g[k].a
  generalize gpZ c g g[k].r g[k].a = PL at *
  obtain ⟨b, off, hag, hb9, hat⟩ := Hg.out.at (by omega)
  subst hag
  obtain ⟨c0, c1, ⟨pa, pc, c2, _, _⟩, c3⟩ := hat k hk
  have hvr : 0 ≤ g[k].r ∧ g[k].r ≤ 30 := by
    have h := vtx_pl (validB_of_graph hgb) (graph_vtx hgb _ (List.getElem_mem hk))
    exact ⟨h.1, h.2.1⟩
  clear hat hkd hgb
  generalize g[k] = v at *
  obtain ⟨vr, va, vp, vd⟩ := v
  dsimp only at *
  generalize cwZ c g ls = OL at *
  have hbA : Below w5.heap.size w5 (w5.alloc (.cells #[.int .i64 vr, .int .i64 va, .slice pa vp.length pc, .int .i64 vd] 29)) := (Below.refl _ _).alloc (Nat.le_refl _) _
  have s0 := Str.new w5 29 #[.int .i64 vr, .int .i64 va, .slice pa vp.length pc, .int .i64 vd]
  have k0 := s0.cell 0 (v := .int .i64 vr) rfl
  have k1 := s0.cell 1 (v := .int .i64 va) rfl
  have Hs0 := Lib.hid s0
  have HbA := Lib.hid hbA
  have hzA : (w5.alloc (.cells #[.int .i64 vr, .int .i64 va, .slice pa vp.length pc, .int .i64 vd] 29)).heap.size = w5.heap.size + 1 := by simp
  have HzA := Lib.hid hzA
  clear hbA s0 hzA
  go_wp2_with fail
  generalize w5.alloc (.cells #[.int .i64 vr, .int .i64 va, .slice pa vp.length pc, .int .i64 vd] 29) = wA at *
  generalize hVB : w5.heap.size = VB at *
  refine (HGP.out wA HbA.out).mono ?_
  rintro e w6 ⟨up, rfl, hou, hb6⟩
  obtain ⟨ap, cp, rfl, _, _⟩ := hou.ints
  have Hpo := Lib.hid (show IntsAt w6 ap PL from hou.at)
  have Hs6 := Lib.hid (show Str w6 VB 29 #[.int .i64 vr, .int .i64 va, .slice pa vp.length pc, .int .i64 vd] from (hb6.block _ Hs0.out.lt).trans Hs0.out)
  have Hb6 := Lib.hid (below_step HbA.out (by rw [← hVB]; exact HbA.out.size) hb6)
  clear hou hb6 k0 k1 c0 c1 c2 c3
  go_wp2
  go_loopw [12] (fun i wr => ∃ m : Nat, 1 ≤ m ∧ m ≤ ls.length + 1 ∧ i = .int .i64 m ∧ Below w6.heap.size w6 wr) (fun i _ => ls.length + 1 - (intOf i).toNat)
  case atStart => exact ⟨1, by omega, by omega, rfl, Below.refl _ _⟩
  case round =>
    obtain ⟨m, hm1, hm2, rfl, hb⟩ := hrel
    have Hbr := Lib.hid hb; clear hb
    by_cases hlt : m ≤ ls.length
    · have hlt' : (m : Int) ≤ (ls.length : Int) := by omega
      have hmb : (m : Int) ≤ 22 := by omega
      have hm1' : 1 ≤ (m : Int) := by omega
      have hcv := Str.cell (show Str wr VB 29 #[.int .i64 vr, .int .i64 va, .slice pa vp.length pc, .int .i64 vd] from (Hbr.out.block _ Hs6.out.lt).trans Hs6.out) 0 (v := .int .i64 vr) rfl
      have HR1 := Lib.hid (HR.out m hm1 hlt)
      have H5r := Lib.hid (show Below VB w5 wr from below_step Hb6.out (Nat.le_trans (by rw [← hVB]; exact Hb6.out.size) (Nat.le_refl _)) Hbr.out)
      by_cases hgt : 2 * (m : Int) < vr
      case neg =>
        go_wp2
        go_roundw
        case rel => exact ⟨m + 1, by omega, by omega, by go_num, Hbr.out⟩
        case measure => simp [intOf]; omega
      have HD1 := Lib.hid (HWD.out wr H5r.out (m : Int))
      have HR2 := Lib.hid (HR1.out hgt)
      go_wp2_with fail
      refine HD1.out.mono ?_
      rintro e w7 ⟨rfl, hb7⟩
      have Hb7 := Lib.hid (below_step Hbr.out Hbr.out.size hb7)
      have H57 := Lib.hid (below_step H5r.out (Nat.le_trans (by rw [← hVB]; exact Hb6.out.size) Hbr.out.size) hb7)
      clear hb7
      cases hd : wdB c g ls (m : Int) with
      | false =>
        go_wp2
        go_roundw
        case rel => exact ⟨m + 1, by omega, by omega, by go_num, Hb7.out⟩
        case measure => simp [intOf]; omega
      | true =>
        have hh := HR2.out hd
        have HL1 := Lib.hid (HWL.out w7 H57.out (m : Int))
        generalize wlZ c g ls (m : Int) = Z at *
        clear hd
        go_wp2_with fail
        refine HL1.out.mono ?_
        rintro e w8 ⟨rfl, hb8⟩
        have Hb8 := Lib.hid (below_step Hb7.out Hb7.out.size hb8)
        clear hb8
        have HHI := Lib.hid (laws_hasInt ap cp PL Z w8 (by omega) (Hpo.out.below Hb8.out))
        rw [hh] at HHI
        clear hh
        go_wp2_with fail
        refine HHI.out.mono ?_
        rintro e w9 ⟨rfl, rfl⟩
        go_wp2
        go_roundw
        case rel => exact ⟨m + 1, by omega, by omega, by go_num, Hb8.out⟩
        case measure => simp [intOf]; omega
    · go_wp2
      go_ret
      exact ⟨rfl, below_step Hb5.out Hb5.out.size (by rw [hVB]; exact below_step Hb6.out (by rw [← hVB]; exact Hb6.out.size) Hbr.out)⟩

theorem fnWavesReach_own : ownKnob Tryd.prog.godebug = none := by kernel_rfl
theorem fnWavesReach_laidOut : laidOutB Tryd.prog = true := by kernel_rfl

set_option maxRecDepth 8000 in
theorem fnWavesReach_lifted (os : Os) (started : os.Started) (H : Type) (enc : TypeId × Value → H) :
    ReturnsInHanded {} Tryd.checked os 9 .any (fun w args => (Rows.fnWavesReachSpec.pre enc Tryd.prog Tryd.f9 [] false w args ∧ laidMetH Tryd.prog laidE w) ∧ sizedMet enc Tryd.prog Tryd.f9 (OpenSpec.ofChange Rows.fnWavesReachSpec) false w args) (Rows.fnWavesReachSpec.post enc Tryd.prog Tryd.f9 false true false false) := by
  refine law_lifted_tied (C := Tryd.checked) (tb := 4) laidE fnWavesReach_own fnWavesReach_laidOut started (by kernel_rfl) Tryd.func9 rfl Tryd.underlying4 (by kernel_rfl) (by rw [Tryd.params9]; exact of_decide_eq_true (by kernel_rfl)) ?_
    (ChangeSpec.witness_shaped (enc := enc) (C := Tryd.checked) (os := os) (X := fun w _ => laidMetH Tryd.prog laidE w) false (World.laidAll Tryd.prog os laidE) #[.slice none 0 0, .slice none 0 0] 8 (World.laidAll_os _ _ _) (World.shaped_of_ZipB (by kernel_rfl) (by kernel_rfl)) (by kernel_rfl) (by kernel_rfl) (by kernel_rfl) (laid_witness os _)) ?_
  · intro ds gs hds hgs
    rw [Tryd.params9] at hds
    match ds, hds, gs, hgs with
    | [d0, d1], _, [g0, g1], _ => rfl
  · intro W base args ds p hval0 hA0 hL0
    have hval : ∀ (j : Nat) t v, Tryd.f9.params[j]? = some t → args[j]? = some v → Value.okWide Tryd.prog W .any base t v := hval0
    have hA : DataW.TrodAll enc Tryd.prog W 0 (fun _ => true) true Tryd.f9.params.toList args.toList ds p := hA0
    rw [Tryd.params9] at hA hval
    obtain ⟨v0, vs0, d0, ds0, p0, q0, hargs0, rfl, rfl, h0, r0⟩ := trodAll_cons hA
    obtain ⟨v1, vs1, d1, ds1, p1, q1, hargs1, rfl, rfl, h1, r1⟩ := trodAll_cons r0
    obtain ⟨hnil, rfl, rfl⟩ := trodAll_nil r1
    subst hnil
    subst hargs1
    obtain rfl : args = #[v0, v1] := by cases args; simp_all
    obtain ⟨a0, cap0, zs0, rfl, hk0, hm0, hi0, hw0⟩ := open_slice_ints Tryd.underlying22 Tryd.underlying5 (by kernel_rfl) (hval 0 22 v0 rfl rfl) h0
    obtain ⟨a1, cap1, zs1, rfl, hk1, hm1, hi1, hw1⟩ := open_slice_ints Tryd.underlying22 Tryd.underlying5 (by kernel_rfl) (hval 1 22 v1 rfl rfl) h1
    obtain ⟨eN, eI, hS⟩ := sen_of hL0
    exact fnWavesReach_walk a0 cap0 zs0 a1 cap1 zs1 W hk0 hm0 hi0 hw0 hk1 hm1 hi1 hw1 eN eI hS

set_option maxRecDepth 8000 in
theorem fnWavesReach_holds : Rows.FnWavesReachSaid :=
  OpenClaim.holds_of_wide 9 Tryd.f9 rfl rfl rfl rfl rfl rfl rfl ⟨rfl, rfl, rfl, rfl, rfl⟩ rfl rfl rfl rfl rfl (by kernel_rfl) Tryd.func9 (by kernel_rfl)
    (of_decide_eq_true (by kernel_rfl)) (by unfold Func.isWrapper; first | (rw [if_pos (by decide +kernel)]; kernel_rfl) | (rw [if_neg (by decide +kernel)]; exact ⟨rfl, rfl⟩))
    (fun os started H enc _ => fnWavesReach_lifted os started H enc)

theorem fnWavesReach_card : Rows.FnWavesReachCardSaid :=
  Claim7.holds_tied_plain_at .later [] _ _ _ _ fnWavesReach_holds (fun _ h => by cases h) (by kernel_rfl) (fun _ h => by cases h) fnWavesReach_row_tie rfl ⟨rfl, rfl⟩ (by kernel_rfl) rfl
    (plain_of (f0 := 9) (fn0 := Tryd.f9) (ts := [22, 22]) (by kernel_rfl) Tryd.func9 (by rw [Tryd.params9]) (by kernel_rfl) (by kernel_rfl)) (by kernel_rfl)

end Go.Proofs.YtjekgjlnaochiaaDoor
