/- Law FnGraphMerge holds for every input; no conditions of our own. -/
import Derived.Test.YthnbjdijcpcafaaRows
import Derived.Test.YthnbjdijcpcafaaBu0
import Derived.Test.YthnbjdijcpcafaaBu5
import Derived.Test.YthnbjdijcpcafaaBu1
import Derived.Test.YthnbjdijcpcafaaBu2
import Derived.Deep.QuietTactic
import Derived.BigQuiet
namespace Go.Proofs.Ythnbjdijcpcafaa
open Go.ChangeShapes Go.WideShapes Go.ChangeAt Go.RowKit

set_option maxHeartbeats 4000000 in
theorem fnGraphMerge_walk (a : Option Addr) (cap : Nat) (zs : List Int) (w : World) (hk : zs.length ≤ cap) (_hm : zs.length ≤ maxLen) (hi : zs = [] ∨ ∃ b off, a = some ⟨b, off, none⟩ ∧ b < w.heap.size ∧ ∀ j (h : j < zs.length), w.cell? ⟨b, off + j, none⟩ = some (.int .u8 zs[j])) (hw : ∀ z ∈ zs, (Lit.int .u8 z).wf = true) :
    Calls Try.prog 4 #[.slice a zs.length cap] w fun e w' => e = .returned (.bool true) ∧ Below w.heap.size w w' := by
  by_cases hl : 1048576 < zs.length
  · go_enter Try.func4, Try.ntmps4
    go_wp2
    go_ret
    exact ⟨rfl, Below.refl _ _⟩
  have hcode := codeAt_of hk (by omega) hi hw
  have Hcode := Lib.hid hcode; clear hcode hi hw
  go_enter Try.func4, Try.ntmps4
  go_wp2_with fail
  refine (spec_DrawGraphMerge a cap zs _ Hcode.out).mono ?_
  rintro e1 w1 ⟨uc, c, ua, ga, fa, ub, gb, fb, rfl, ho, hc11, hga, hga2, hpa, hgb, hgb2, hpb, hb1⟩
  obtain ⟨ac, cc, rfl, _, _⟩ := ho.ints
  obtain ⟨aa, ca, rfl⟩ := hga.slice
  obtain ⟨ab, cb, rfl⟩ := hgb.slice
  have hw0 := hb1.size
  have Tc := Lib.hid ho; have Ta := Lib.hid hga; have Tb := Lib.hid hgb
  have Hb := Lib.hid hb1
  have HPa := Lib.hid (show ∀ y ∈ ga, y.ps.length ≤ 1099511627776 from fun y hy => Nat.le_trans (hpa y hy) (by omega))
  have HPb := Lib.hid (show ∀ y ∈ gb, y.ps.length ≤ 1099511627776 from fun y hy => Nat.le_trans (hpb y hy) (by omega))
  clear ho hga hgb hb1 hpa hpb
  obtain ⟨G, hG⟩ : ∃ G, G = mgG c ga gb := ⟨_, rfl⟩
  obtain ⟨K, hK⟩ : ∃ K, K = mgB c ga gb := ⟨_, rfl⟩
  have HI := Lib.hid (fun W (h : IntsAt W ac c) (h2 : Gr W ga (.slice aa ga.length ca) fa) (h3 : Gr W gb (.slice ab gb.length cb) fb) => impl_GraphMerge' ac cc c ga gb _ _ fa fb W (by omega) (by omega) HPa.out HPb.out h h2 h3)
  have HS := Lib.hid (fun W (h : IntsAt W ac c) (h2 : Gr W ga (.slice aa ga.length ca) fa) (h3 : Gr W gb (.slice ab gb.length cb) fb) => spec_GraphMerge ac cc c ga gb _ _ fa fb W (by omega) (by omega) HPa.out HPb.out h h2 h3)
  rw [← hG, ← hK] at HI HS
  have HGl := Lib.hid (show G.length ≤ 562 by rw [hG]; exact Nat.le_trans mg_len (by omega))
  have HGp := Lib.hid (show ∀ y ∈ G, y.ps.length ≤ 1099511627776 by rw [hG]; exact mg_ps HPa.out HPb.out)
  have HG := Lib.hid hG; have HK := Lib.hid hK; clear hG hK
  go_wp2_with fail
  refine (HI.out _ Tc.out.at Ta.out Tb.out).mono ?_
  rintro e1 w2 ⟨u, rfl, ho, hb⟩
  obtain ⟨fo, hgr, _⟩ := ownR_gr ho
  obtain ⟨ao, co, rfl⟩ := hgr.slice
  have hgr := Lib.hid hgr
  have Tc := Lib.hid (show Own 3 w2 w.heap.size (.slice ac c.length cc) (c) from Tc.out.below hb)
  have Ta := Lib.hid (show Gr w2 (ga) (.slice aa ga.length ca) fa from Ta.out.under hb)
  have Tb := Lib.hid (show Gr w2 (gb) (.slice ab gb.length cb) fb from Tb.out.under hb)
  have hsw2 := hb.size
  have Hb := Lib.hid (below_step Hb.out Hb.out.size hb)
  have To := Lib.hid (show Gr w2 G (.slice ao G.length co) fo from hgr.out)
  clear hgr ho hb
  go_wp2_with fail
  refine (HS.out _ Tc.out.at Ta.out Tb.out).mono ?_
  rintro e1 w3 ⟨u, rfl, ho, hb⟩
  obtain ⟨fk, hgr, _⟩ := ownR_gr ho
  obtain ⟨ak, ck, rfl⟩ := hgr.slice
  have hgr := Lib.hid hgr
  have Tc := Lib.hid (show Own 3 w3 w.heap.size (.slice ac c.length cc) (c) from Tc.out.below hb)
  have Ta := Lib.hid (show Gr w3 (ga) (.slice aa ga.length ca) fa from Ta.out.under hb)
  have Tb := Lib.hid (show Gr w3 (gb) (.slice ab gb.length cb) fb from Tb.out.under hb)
  have To := Lib.hid (show Gr w3 (G) (.slice ao G.length co) fo from To.out.under hb)
  have hsw3 := hb.size
  have Hb := Lib.hid (below_step Hb.out Hb.out.size hb)
  have Tk := Lib.hid (show Gr w3 G (.slice ak G.length ck) fk from hgr.out)
  clear hgr ho hb
  clear HI HS
  go_wp2_with fail
  refine (laws_sameGraph G _ _ fo fk _ (by have := HGl.out; omega) HGp.out To.out Tk.out).mono ?_
  rintro e w4 ⟨rfl, hb⟩
  have Tc := Lib.hid (show Own 3 w4 w.heap.size (.slice ac c.length cc) (c) from Tc.out.below hb)
  have Ta := Lib.hid (show Gr w4 (ga) (.slice aa ga.length ca) fa from Ta.out.under hb)
  have Tb := Lib.hid (show Gr w4 (gb) (.slice ab gb.length cb) fb from Tb.out.under hb)
  have To := Lib.hid (show Gr w4 (G) (.slice ao G.length co) fo from To.out.under hb)
  have Tk := Lib.hid (show Gr w4 (G) (.slice ak G.length ck) fk from Tk.out.under hb)
  have hsw4 := hb.size
  have Hb := Lib.hid (below_step Hb.out Hb.out.size hb)
  clear hb
  cases K with
  | false =>
    go_wp2_with fail
    refine (laws_sameGraph G _ _ fo fk _ (by have := HGl.out; omega) HGp.out To.out Tk.out).mono ?_
    rintro e w5 ⟨rfl, hb⟩
    have Tc := Lib.hid (show Own 3 w5 w.heap.size (.slice ac c.length cc) (c) from Tc.out.below hb)
    have Ta := Lib.hid (show Gr w5 (ga) (.slice aa ga.length ca) fa from Ta.out.under hb)
    have Tb := Lib.hid (show Gr w5 (gb) (.slice ab gb.length cb) fb from Tb.out.under hb)
    have To := Lib.hid (show Gr w5 (G) (.slice ao G.length co) fo from To.out.under hb)
    have Tk := Lib.hid (show Gr w5 (G) (.slice ak G.length ck) fk from Tk.out.under hb)
    have hsw5 := hb.size
    have Hb := Lib.hid (below_step Hb.out Hb.out.size hb)
    clear hb
    go_wp2
    go_ret
    exact ⟨by first | rfl | exact ret_bool (by simp) | exact ret_bool (by simp; omega), Hb.out⟩
  | true =>
    obtain ⟨-, -, g3, g4, -⟩ := mg_yes HK.out.symm
    rw [← HG.out] at g3 g4
    have Hga := Lib.hid (fun y (hy : y ∈ ga) => hasVx_yes ((g4 y).2 (.inl hy)))
    have Hgb := Lib.hid (fun y (hy : y ∈ gb) => hasVx_yes ((g4 y).2 (.inr hy)))
    have Hgo := Lib.hid (show ∀ y ∈ G, hasVx ga y = false → hasVx gb y = true from fun y hy h => by
      rcases (g4 y).1 hy with h1 | h1
      · rw [hasVx_yes h1] at h; cases h
      · exact hasVx_yes h1)
    have Hgv := Lib.hid g3; clear g3 g4
    clear Tk
    go_wp2
    go_loopw [10] (fun i wr => ∃ k : Nat, k ≤ ga.length ∧ i = .int .i64 k ∧ Below w4.heap.size w4 wr) (fun i _ => ga.length - (intOf i).toNat)
    case atStart => exact ⟨0, by omega, rfl, Below.refl _ _⟩
    case round =>
      obtain ⟨k, hk, rfl, hbr⟩ := hrel
      have Tc := Lib.hid (show Own 3 wr w.heap.size (.slice ac c.length cc) (c) from Tc.out.below hbr)
      have Ta := Lib.hid (show Gr wr (ga) (.slice aa ga.length ca) fa from Ta.out.under hbr)
      have Tb := Lib.hid (show Gr wr (gb) (.slice ab gb.length cb) fb from Tb.out.under hbr)
      have To := Lib.hid (show Gr wr (G) (.slice ao G.length co) fo from To.out.under hbr)
      have hswr := hbr.size
      have Hb := Lib.hid (below_step Hb.out Hb.out.size hbr)
      have Hbr := Lib.hid hbr; clear hbr
      have hGl := HGl.out
      by_cases hlt : k < ga.length
      case neg =>
        skip
        obtain ⟨v11, hv11⟩ : ∃ v, v = wr := ⟨wr, rfl⟩
        subst hv11
        go_wp2
        go_loopw [11] (fun i wr => ∃ k : Nat, k ≤ gb.length ∧ i = .int .i64 k ∧ Below v11.heap.size v11 wr) (fun i _ => gb.length - (intOf i).toNat)
        case atStart => exact ⟨0, by omega, rfl, Below.refl _ _⟩
        case round =>
          obtain ⟨k, hk, rfl, hbr⟩ := hrel
          have Tc := Lib.hid (show Own 3 wr w.heap.size (.slice ac c.length cc) (c) from Tc.out.below hbr)
          have Ta := Lib.hid (show Gr wr (ga) (.slice aa ga.length ca) fa from Ta.out.under hbr)
          have Tb := Lib.hid (show Gr wr (gb) (.slice ab gb.length cb) fb from Tb.out.under hbr)
          have To := Lib.hid (show Gr wr (G) (.slice ao G.length co) fo from To.out.under hbr)
          have hswr := hbr.size
          have Hb := Lib.hid (below_step Hb.out Hb.out.size hbr)
          have Hbr := Lib.hid hbr; clear hbr
          have hGl := HGl.out
          by_cases hlt : k < gb.length
          case neg =>
            skip
            have Hb0 := Hb
            obtain ⟨v12, hv12⟩ : ∃ v, v = wr := ⟨wr, rfl⟩
            subst hv12
            go_wp2
            go_loopw [12] (fun i wr => ∃ k : Nat, k ≤ G.length ∧ i = .int .i64 k ∧ Below v12.heap.size v12 wr) (fun i _ => G.length - (intOf i).toNat)
            case atStart => exact ⟨0, by omega, rfl, Below.refl _ _⟩
            case round =>
              obtain ⟨k, hk, rfl, hbr⟩ := hrel
              have Tc := Lib.hid (show Own 3 wr w.heap.size (.slice ac c.length cc) (c) from Tc.out.below hbr)
              have Ta := Lib.hid (show Gr wr (ga) (.slice aa ga.length ca) fa from Ta.out.under hbr)
              have Tb := Lib.hid (show Gr wr (gb) (.slice ab gb.length cb) fb from Tb.out.under hbr)
              have To := Lib.hid (show Gr wr (G) (.slice ao G.length co) fo from To.out.under hbr)
              have hswr := hbr.size
              have Hb := Lib.hid (below_step Hb.out Hb.out.size hbr)
              have Hbr := Lib.hid hbr; clear hbr
              have hGl := HGl.out
              by_cases hlt : k < G.length
              case neg =>
                skip
                have HV := impl_GraphValid' ac cc c G _ fo wr (by omega) (by omega) HGp.out Tc.out.at To.out
                rw [Hgv.out] at HV
                have HV := Lib.hid HV
                go_wp2_with fail
                refine (HV.out).mono ?_
                rintro e w5 ⟨rfl, hb⟩
                have Tc := Lib.hid (show Own 3 w5 w.heap.size (.slice ac c.length cc) (c) from Tc.out.below hb)
                have Ta := Lib.hid (show Gr w5 (ga) (.slice aa ga.length ca) fa from Ta.out.under hb)
                have Tb := Lib.hid (show Gr w5 (gb) (.slice ab gb.length cb) fb from Tb.out.under hb)
                have To := Lib.hid (show Gr w5 (G) (.slice ao G.length co) fo from To.out.under hb)
                have hsw5 := hb.size
                have Hb := Lib.hid (below_step Hb.out Hb.out.size hb)
                clear hb
                go_wp2
                go_ret
                exact ⟨by first | rfl | exact ret_bool (by simp) | exact ret_bool (by simp; omega), Hb.out⟩
              case pos =>
                have hlt' : (k : Int) < (G.length : Int) := by omega
                obtain ⟨b, off, hab, hb9, hat⟩ := To.out.at (by omega)
                obtain ⟨c0, c1, ⟨qa, qc, c2, i2, _⟩, c3⟩ := hat k hlt
                have hmem := List.getElem_mem hlt
                clear hat
                rw [hab]
                have HY := Lib.hid (HGp.out _ hmem)
                have Hor := Lib.hid (Hgo.out _ hmem)
                have HH := laws_hasVertex ga aa ca fa G[k] qa qc wr (by omega) HPa.out HY.out Ta.out i2
                have HH2 := Lib.hid (fun W (hW : Below wr.heap.size wr W) => laws_hasVertex gb ab cb fb G[k] qa qc W (by omega) HPb.out HY.out (Tb.out.under hW) (i2.below hW))
                obtain ⟨h, hh⟩ : ∃ h, h = hasVx ga G[k] := ⟨_, rfl⟩
                rw [← hh] at HH Hor
                clear hh hmem i2
                have HH := Lib.hid HH
                have Hk2 := Lib.hid (fun W (hW : Below wr.heap.size wr W) => (show W.cell? ⟨b, off + k * 4, none⟩ = some (.int .i64 G[k].r) ∧ W.cell? ⟨b, off + k * 4 + 1, none⟩ = some (.int .i64 G[k].a) ∧ W.cell? ⟨b, off + k * 4 + 2, none⟩ = some (.slice qa G[k].ps.length qc) ∧ W.cell? ⟨b, off + k * 4 + 3, none⟩ = some (.int .i64 G[k].d) from ⟨(below_grown hW).cell c0 (by simp), (below_grown hW).cell c1 (by simp), (below_grown hW).cell c2 (by simp), (below_grown hW).cell c3 (by simp)⟩))
                generalize G[k] = y at *
                obtain ⟨yr, ya, yp, yd⟩ := y
                dsimp only at *
                subst hab
                go_wp2_with fail
                refine HH.out.mono ?_
                rintro e w6 ⟨rfl, hb⟩
                have Hbr := Lib.hid (below_step Hbr.out Hbr.out.size hb)
                have Hb6 := Lib.hid hb
                clear hb c0 c1 c2 c3
                cases h with
                | true =>
                  go_wp2
                  go_roundw
                  case rel => exact ⟨k + 1, by omega, by go_num, Hbr.out⟩
                  case measure => simp [intOf]; omega
                | false =>
                  have HH2 := HH2.out w6 Hb6.out
                  rw [Hor.out rfl] at HH2
                  have HH2 := Lib.hid HH2
                  obtain ⟨c0, c1, c2, c3⟩ := Hk2.out w6 Hb6.out
                  go_wp2_with fail
                  refine HH2.out.mono ?_
                  rintro e w7 ⟨rfl, hb⟩
                  have Hbr := Lib.hid (below_step Hbr.out Hbr.out.size hb)
                  clear hb c0 c1 c2 c3
                  go_wp2
                  go_roundw
                  case rel => exact ⟨k + 1, by omega, by go_num, Hbr.out⟩
                  case measure => simp [intOf]; omega
          case pos =>
            have hlt' : (k : Int) < (gb.length : Int) := by omega
            obtain ⟨b, off, hab, hb9, hat⟩ := Tb.out.at (by omega)
            obtain ⟨c0, c1, ⟨qa, qc, c2, i2, _⟩, c3⟩ := hat k hlt
            have hmem := List.getElem_mem hlt
            clear hat
            rw [hab]
            have HY := Lib.hid (HPb.out _ hmem)
            have HH := laws_hasVertex G ao co fo gb[k] qa qc wr (by omega) HGp.out HY.out To.out i2
            rw [Hgb.out _ hmem] at HH
            have HH := Lib.hid HH
            clear i2 hmem HY
            generalize gb[k] = y at *
            obtain ⟨yr, ya, yp, yd⟩ := y
            dsimp only at *
            subst hab
            go_wp2_with fail
            refine HH.out.mono ?_
            rintro e w6 ⟨rfl, hb⟩
            have Hbr := Lib.hid (below_step Hbr.out Hbr.out.size hb)
            clear hb c0 c1 c2 c3
            go_wp2
            go_roundw
            case rel => exact ⟨k + 1, by omega, by go_num, Hbr.out⟩
            case measure => simp [intOf]; omega
      case pos =>
        have hlt' : (k : Int) < (ga.length : Int) := by omega
        obtain ⟨b, off, hab, hb9, hat⟩ := Ta.out.at (by omega)
        obtain ⟨c0, c1, ⟨qa, qc, c2, i2, _⟩, c3⟩ := hat k hlt
        have hmem := List.getElem_mem hlt
        clear hat
        rw [hab]
        have HY := Lib.hid (HPa.out _ hmem)
        have HH := laws_hasVertex G ao co fo ga[k] qa qc wr (by omega) HGp.out HY.out To.out i2
        rw [Hga.out _ hmem] at HH
        have HH := Lib.hid HH
        clear i2 hmem HY
        generalize ga[k] = y at *
        obtain ⟨yr, ya, yp, yd⟩ := y
        dsimp only at *
        subst hab
        go_wp2_with fail
        refine HH.out.mono ?_
        rintro e w6 ⟨rfl, hb⟩
        have Hbr := Lib.hid (below_step Hbr.out Hbr.out.size hb)
        clear hb c0 c1 c2 c3
        go_wp2
        go_roundw
        case rel => exact ⟨k + 1, by omega, by go_num, Hbr.out⟩
        case measure => simp [intOf]; omega

theorem fnGraphMerge_own : ownKnob Try.prog.godebug = none := by kernel_rfl
theorem fnGraphMerge_laidOut : laidOutB Try.prog = true := by kernel_rfl

set_option maxRecDepth 8000 in
theorem fnGraphMerge_lifted (os : Os) (started : os.Started) (H : Type) (enc : TypeId × Value → H) :
    ReturnsInHanded {} Try.checked os 4 .any (Rows.fnGraphMergeSpec.pre6 enc Try.prog Try.f4 Rows.fnGraphMergeRow.domain false) (Rows.fnGraphMergeSpec.post enc Try.prog Try.f4 false true false false) := by
  refine law_lifted (C := Try.checked) (tb := 4) fnGraphMerge_own fnGraphMerge_laidOut started (by kernel_rfl) Try.func4 rfl Try.underlying4 rfl (by rw [Try.params4]; exact of_decide_eq_true (by kernel_rfl)) ?_
    (ChangeSpec.witness6 (enc := enc) (C := Try.checked) false ⟨#[], #[.slice none 0 0], []⟩ 8 (by kernel_rfl) (by kernel_rfl) (by kernel_rfl) (by kernel_rfl)) ?_
  · intro ds hds
    rw [Try.params4] at hds
    match ds, hds with
    | [d0], _ => rfl
  · intro W base args ds p hval0 hA0
    have hval : ∀ (j : Nat) t v, Try.f4.params[j]? = some t → args[j]? = some v → Value.okWide Try.prog W .any base t v := hval0
    have hA : DataW.TrodAll enc Try.prog W 0 (fun _ => true) true Try.f4.params.toList args.toList ds p := hA0
    rw [Try.params4] at hA hval
    obtain ⟨v0, vs0, d0, ds0, p0, q0, hargs0, rfl, rfl, h0, r0⟩ := trodAll_cons hA
    obtain ⟨hnil, rfl, rfl⟩ := trodAll_nil r0
    subst hnil
    obtain rfl : args = #[v0] := by cases args; simp_all
    obtain ⟨a0, cap0, zs0, rfl, hk0, hm0, hi0, hw0⟩ := open_slice_ints Try.underlying22 Try.underlying5 (by kernel_rfl) (hval 0 22 v0 rfl rfl) h0
    exact fnGraphMerge_walk a0 cap0 zs0 W hk0 hm0 hi0 hw0

set_option maxRecDepth 8000 in
theorem fnGraphMerge_holds : Rows.FnGraphMergeSaid :=
  OpenClaim.holds_of_wide 4 Try.f4 rfl rfl rfl rfl rfl rfl rfl ⟨rfl, rfl, rfl, rfl, rfl⟩ rfl rfl rfl rfl rfl (by kernel_rfl) Try.func4 (by kernel_rfl)
    (of_decide_eq_true (by kernel_rfl)) (by unfold Func.isWrapper; first | (rw [if_pos (by decide +kernel)]; kernel_rfl) | (rw [if_neg (by decide +kernel)]; exact ⟨rfl, rfl⟩))
    (fun os started H enc _ => fnGraphMerge_lifted os started H enc)

end Go.Proofs.Ythnbjdijcpcafaa
