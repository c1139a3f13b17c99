/- Law FnGraphPastRounds holds for every input; no conditions of our own. -/
import Derived.Test.YtejpoeejhmgphaaRows
import Derived.Test.YtejpoeejhmgphaaBase
import Derived.Test.YtejpoeejhmgphaaLift
import Derived.Test.YtejpoeejhmgphaaApp
import Derived.Test.YtejpoeejhmgphaaDt
import Derived.Test.YtejpoeejhmgphaaGv11
import Derived.Test.YtejpoeejhmgphaaGvi
import Derived.Test.YtejpoeejhmgphaaGq2
namespace Go.Proofs.Ytejpoeejhmgphaa
open Go.ChangeShapes Go.WideShapes Go.ChangeAt Go.RowKit

set_option maxHeartbeats 4000000 in
theorem fnGraphPastRounds_walk (a : Option Addr) (cap : Nat) (zs : List Int) (w : World) (hk : zs.length ≤ cap) (_hm : zs.length ≤ maxLen) (hi : zs = [] ∨ ∃ b off, a = some ⟨b, off, none⟩ ∧ b < w.heap.size ∧ ∀ j (h : j < zs.length), w.cell? ⟨b, off + j, none⟩ = some (.int .u8 zs[j])) (hw : ∀ z ∈ zs, (Lit.int .u8 z).wf = true) :
    Calls Try.prog 10 #[.slice a zs.length cap] w fun e w' => e = .returned (.bool true) ∧ Below w.heap.size w w' := by
  by_cases hl : 1048576 < zs.length
  · go_enter Try.func10, Try.ntmps10
    go_wp2
    go_ret
    exact ⟨rfl, Below.refl _ _⟩
  have hcode := codeAt_of hk (by omega) hi hw
  have Hcode := Lib.hid hcode; clear hcode hi hw
  go_enter Try.func10, Try.ntmps10
  go_wp2_with fail
  refine (spec_DrawGraphPast a cap zs w Hcode.out).mono ?_
  rintro e w1 ⟨vc, c, vg, g, fp, r, b, rfl, hoc, hcl, hgr, hfp, hgl, hps, hb1⟩
  have hcc := hoc.cap'
  obtain ⟨ac, cc, rfl, _, _⟩ := hoc.ints
  obtain ⟨ag, cg, rfl⟩ := hgr.slice
  have hcc := hcc _ _ _ rfl
  have Hps := Lib.hid (show ∀ x ∈ g, x.ps.length ≤ 1099511627776 from fun x hx => Nat.le_trans (hps x hx) (by omega)); clear hps
  have HI := Lib.hid (impl_GraphPast ac cc c g _ fp r b w1 (by omega) (by omega) Hps.out hcc hoc.at hgr)
  have HS := Lib.hid (fun W h h' => spec_GraphPast ac cc c g (.slice ag g.length cg) fp r b W (by omega) (by omega) Hps.out h h')
  have Hoc := Lib.hid hoc; clear hoc
  have Hgr := Lib.hid hgr; clear hgr
  have Hb1 := Lib.hid hb1; clear hb1 hfp
  have hLl := gpZ_len c g r b
  have Hlaw := Lib.hid (fun hne q h0 hq => rounds_law (c := c) (g := g) (r := r) (a := b) hne q h0 hq)
  have Hat := Lib.hid (fun i hi => psV_at (c := c) (g := g) (r := r) (a := b) i hi)
  have Hpl := Lib.hid (psV_len c g r b)
  have Hrb := Lib.hid (fun hne => rounds_bd (c := c) (g := g) (r := r) (a := b) hne)
  obtain ⟨V, hV⟩ : ∃ V, psV c g r b = V := ⟨_, rfl⟩
  obtain ⟨L, hL⟩ : ∃ L, gpZ c g r b = L := ⟨_, rfl⟩
  rw [hL] at HI HS hLl
  simp only [hL, hV] at Hlaw Hpl Hrb
  have hat' : ∀ i (hi : i < L.length), ∃ m : Nat, ∃ hm : m < g.length, ∃ hi' : i < V.length, L[i] = m ∧ V[i] = g[m] := by
    subst hL hV
    exact Hat.out
  have Hat := Lib.hid hat'
  clear hL hV hat'
  go_wp2_with fail
  refine HI.out.mono ?_
  rintro e w2 ⟨vo, rfl, hoo, hb2⟩
  obtain ⟨ao, co, rfl, _, _⟩ := hoo.ints
  have Hoc2 := Lib.hid (Hoc.out.below hb2)
  have Hgr2 := Lib.hid (Hgr.out.under hb2)
  have Hoo2 := Lib.hid hoo; clear hoo
  have Hb2 := Lib.hid (below_step Hb1.out Hb1.out.size hb2); clear hb2
  go_wp2_with fail
  refine (HS.out w2 Hoc2.out.at Hgr2.out).mono ?_
  rintro e w3 ⟨vt, rfl, hot, hb3⟩
  obtain ⟨at', ct, rfl, _, _⟩ := hot.ints
  have Hoc3 := Lib.hid (Hoc2.out.below hb3)
  have Hgr3 := Lib.hid (Hgr2.out.under hb3)
  have Hoo3 := Lib.hid (Hoo2.out.below hb3)
  have Hot3 := Lib.hid hot; clear hot
  have Hb3 := Lib.hid (below_step Hb2.out Hb2.out.size hb3); clear hb3
  go_wp2_with fail
  refine (laws_sameInts' ao at' co ct L w3 (by omega) Hoo3.out.at Hot3.out.at).mono ?_
  rintro e w4 ⟨rfl, hd4⟩
  have Hoc4 := Lib.hid (Hoc3.out.below (hd4.below w3.heap.size))
  have Hgr4 := Lib.hid (Hgr3.out.under (hd4.below w3.heap.size))
  have Hoo4 := Lib.hid (Hoo3.out.below (hd4.below w3.heap.size))
  have Hot4 := Lib.hid (Hot3.out.below (hd4.below w3.heap.size))
  have Hb4 := Lib.hid (below_step Hb3.out Hb3.out.size (hd4.below w3.heap.size)); clear hd4
  by_cases h0 : L.length = 0
  · have e0 : ((L.length : Int) == 0) = true := by rw [beq_iff_eq]; omega
    clear h0
    go_wp2_with fail
    refine (laws_sameInts' ao at' co ct L w4 (by omega) Hoo4.out.at Hot4.out.at).mono ?_
    rintro e w5 ⟨rfl, hd5⟩
    have Hb5 := Lib.hid (below_step Hb4.out Hb4.out.size (hd5.below w4.heap.size)); clear hd5
    go_wp2
    go_ret
    exact ⟨by first | rfl | exact ret_bool (by simp), Hb5.out⟩
  have e0 : ((L.length : Int) == 0) = false := by rw [beq_eq_false_iff_ne]; omega
  have Hlaw := Lib.hid (Hlaw.out (by omega))
  have Hrb := Lib.hid (Hrb.out (by omega))
  clear h0
  go_wp2_with fail
  go_loopw [9] (fun i wr => ∃ k : Nat, i = .int .i64 k ∧ ((k : Int) ≤ r ∨ k = 0) ∧ Below w4.heap.size w4 wr) (fun i _ => (r - intOf i).toNat)
  case atStart => exact ⟨0, rfl, .inr rfl, Below.refl _ _⟩
  case round =>
    obtain ⟨k, rfl, hkr, hbel⟩ := hrel
    obtain ⟨Wo, hWo⟩ : ∃ Wo, Wo = wr := ⟨_, rfl⟩
    subst hWo
    have Hbel := Lib.hid hbel; clear hbel
    by_cases hlt : (k : Int) < r
    case neg =>
      have Hend := Lib.hid (Hb4.out.trans (Hbel.out.mono Hb4.out.size))
      go_wp2
      go_ret
      exact ⟨rfl, Hend.out⟩
    obtain ⟨hvc, hq⟩ := Hlaw.out k (by omega) hlt
    have Hvc := Lib.hid hvc
    have Hq := Lib.hid hq
    have hr30 : (k : Int) ≤ 30 := by have := Hrb.out; omega
    clear hvc hq hkr
    have hbE : Below Wo.heap.size Wo (Wo.alloc (.cells #[] 3)) := (Below.refl _ _).alloc (Nat.le_refl _) _
    have HoE := Lib.hid (own_empty 3 Wo (Nat.le_refl Wo.heap.size))
    have HbE := Lib.hid hbE; clear hbE
    go_wp2_with fail
    go_loopw [10, 11] (fun u i wr => ∃ n : Nat, n ≤ L.length ∧ i = .int .i64 n ∧ Own 3 wr Wo.heap.size u (authZ (V.take n) k) ∧ Below Wo.heap.size Wo wr) (fun _ i _ => L.length - (intOf i).toNat)
    case atStart => exact ⟨0, Nat.zero_le _, rfl, HoE.out, HbE.out⟩
    case round =>
      obtain ⟨n, hn, rfl, hown, hbel2⟩ := hrel
      have Hown := Lib.hid hown; clear hown
      have Hbel2 := Lib.hid hbel2; clear hbel2
      have Hbw := Lib.hid (below_step Hbel.out Hbel.out.size Hbel2.out)
      by_cases hnl : n < L.length
      · obtain ⟨m, hm, hi', em, ev⟩ := Hat.out n hnl
        obtain ⟨bo, oo, rfl, hbo, hcells⟩ := (Hoo4.out.at.below Hbw.out).cell (by omega)
        have q0 := hcells n hnl
        rw [em] at q0
        obtain ⟨gb, go, rfl, hgb, hat⟩ := (Hgr4.out.under Hbw.out).at (by omega)
        obtain ⟨c0, c1, _, _⟩ := hat m hm
        have hmz : (m : Int) < g.length := by omega
        have hB := Hbel2.out.size
        have hal := authZ_len (V.take n) k
        rw [List.length_take] at hal
        by_cases hr : g[m].r = k
        · have Hs := Lib.hid (authZ_yes (g := V) (r := k) hi' (by rw [ev]; exact hr))
          rw [ev] at Hs
          have e1 : (g[m].r == (k : Int)) = true := by rw [beq_iff_eq]; exact hr
          clear hat hcells em ev hr
          generalize authZ (V.take n) k = out at *
          generalize g[m].a = ya at *
          generalize g[m].r = yr at *
          go_wp2_with (at_builtin; refine wpList_push TIg rfl (.tmp 66) (.tmp 75) rfl Wo.heap.size _ out _ rfl Hown.out (by omega) rfl hB ?_; intro v8 w8 hown8 hg8)
          go_roundw
          case rel => exact ⟨n + 1, by omega, by go_num, by rw [Hs.out]; exact hown8, Hbel2.out.grown hg8 hB (fun g e => (Hown.out.lt g e).1)⟩
          case measure => simp [intOf]; omega
        · have Hs := Lib.hid (authZ_no (g := V) (r := k) hi' (by rw [ev]; exact hr))
          have e1 : (g[m].r == (k : Int)) = false := by rw [beq_eq_false_iff_ne]; exact hr
          clear hat hcells em ev hr c1
          generalize g[m].r = yr at *
          go_wp2
          go_roundw
          case rel => exact ⟨n + 1, by omega, by go_num, by rw [Hs.out]; exact Hown.out, Hbel2.out⟩
          case measure => simp [intOf]; omega
      · have hnv : V.length ≤ n := by have := Hpl.out; omega
        rw [List.take_of_length_le hnv] at Hown
        obtain ⟨aw, cw, rfl, hiw, hlw⟩ := Hown.out.ints
        have hal := authZ_len V k
        have hvl : V.length ≤ 1099511627776 := by have := Hpl.out; omega
        have HM := Lib.hid (impl_MembersWeight ac cc c aw cw (authZ V k) wr (by omega) (by omega) (Hoc4.out.at.below Hbw.out) hiw)
        have HQ := Lib.hid (impl_CommitteeQuorum ac cc c wr (by omega) (Hoc4.out.at.below Hbw.out))
        have hqz : orNo c (2 * totalZ c / 3 + 1) = quorumZ c := orNo_yes Hvc.out _
        rw [hqz] at HQ
        have hge : ¬ mwZ c (authZ V k) < quorumZ c := by have := Hq.out; omega
        have hgd : decide (mwZ c (authZ V k) < quorumZ c) = false := decide_eq_false hge
        clear hiw hlw hal hqz
        generalize mwZ c (authZ V k) = MW at *
        generalize quorumZ c = QZ at *
        go_wp2_with fail
        refine HM.out.mono ?_
        rintro e w6 ⟨rfl, rfl⟩
        go_wp2_with fail
        refine HQ.out.mono ?_
        rintro e w6 ⟨rfl, rfl⟩
        go_wp2
        go_roundw
        case rel => exact ⟨k + 1, by go_num, .inl (by omega), Hbw.out⟩
        case measure => simp [intOf]; omega

theorem fnGraphPastRounds_own : ownKnob Try.prog.godebug = none := by kernel_rfl
theorem fnGraphPastRounds_laidOut : laidOutB Try.prog = true := by kernel_rfl

theorem fnGraphPastRounds_lifted (os : Os) (started : os.Started) (H : Type) (enc : TypeId × Value → H) :
    ReturnsInHanded {} Try.checked os 10 .any (Rows.fnGraphPastRoundsSpec.pre6 enc Try.prog Try.f10 Rows.fnGraphPastRoundsRow.domain false) (Rows.fnGraphPastRoundsSpec.post enc Try.prog Try.f10 false true false false) := by
  refine law_lifted (C := Try.checked) (tb := 4) fnGraphPastRounds_own fnGraphPastRounds_laidOut started (by kernel_rfl) Try.func10 rfl Try.underlying4 rfl (by rw [Try.params10]; exact of_decide_eq_true (by kernel_rfl)) ?_
    (ChangeSpec.witness6 (enc := enc) (C := Try.checked) false ⟨#[], #[.slice none 0 0], []⟩ 8 (by kernel_rfl) (by kernel_rfl) (by kernel_rfl) (by kernel_rfl)) ?_
  · intro ds hds
    rw [Try.params10] at hds
    match ds, hds with
    | [d0], _ => rfl
  · intro W base args ds p hval0 hA0
    have hval : ∀ (j : Nat) t v, Try.f10.params[j]? = some t → args[j]? = some v → Value.okWide Try.prog W .any base t v := hval0
    have hA : DataW.TrodAll enc Try.prog W 0 (fun _ => true) true Try.f10.params.toList args.toList ds p := hA0
    rw [Try.params10] at hA hval
    obtain ⟨v0, vs0, d0, ds0, p0, q0, hargs0, rfl, rfl, h0, r0⟩ := trodAll_cons hA
    obtain ⟨hnil, rfl, rfl⟩ := trodAll_nil r0
    subst hnil
    obtain rfl : args = #[v0] := by cases args; simp_all
    obtain ⟨a0, cap0, zs0, rfl, hk0, hm0, hi0, hw0⟩ := open_slice_ints Try.underlying22 Try.underlying5 (by kernel_rfl) (hval 0 22 v0 rfl rfl) h0
    exact fnGraphPastRounds_walk a0 cap0 zs0 W hk0 hm0 hi0 hw0

theorem fnGraphPastRounds_holds : Rows.FnGraphPastRoundsSaid :=
  OpenClaim.holds_of_wide 10 Try.f10 rfl rfl rfl rfl rfl rfl rfl ⟨rfl, rfl, rfl, rfl, rfl⟩ rfl rfl rfl rfl rfl (by kernel_rfl) Try.func10 (by kernel_rfl)
    (of_decide_eq_true (by kernel_rfl)) (by unfold Func.isWrapper; first | (rw [if_pos (by decide +kernel)]; kernel_rfl) | (rw [if_neg (by decide +kernel)]; exact ⟨rfl, rfl⟩))
    (fun os started H enc _ => fnGraphPastRounds_lifted os started H enc)

end Go.Proofs.Ytejpoeejhmgphaa
