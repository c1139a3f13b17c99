/- Law FnGraphMergeFail holds for every input; no conditions of our own. -/
import Derived.Test.YthnbjdijcpcafaaRows
import Derived.Test.YthnbjdijcpcafaaBu0
import Derived.Test.YthnbjdijcpcafaaBu5
import Derived.Test.YthnbjdijcpcafaaBu1
import Derived.Test.YthnbjdijcpcafaaBu2
import Derived.Deep.QuietTactic
import Derived.BigQuiet
namespace Go.Proofs.Ythnbjdijcpcafaa
open Go.ChangeShapes Go.WideShapes Go.ChangeAt Go.RowKit

set_option maxHeartbeats 4000000 in
theorem fnGraphMergeFail_walk (a : Option Addr) (cap : Nat) (zs : List Int) (w : World) (hk : zs.length ≤ cap) (_hm : zs.length ≤ maxLen) (hi : zs = [] ∨ ∃ b off, a = some ⟨b, off, none⟩ ∧ b < w.heap.size ∧ ∀ j (h : j < zs.length), w.cell? ⟨b, off + j, none⟩ = some (.int .u8 zs[j])) (hw : ∀ z ∈ zs, (Lit.int .u8 z).wf = true) :
    Calls Try.prog 6 #[.slice a zs.length cap] w fun e w' => e = .returned (.bool true) ∧ Below w.heap.size w w' := by
  by_cases hl : 1048576 < zs.length
  · go_enter Try.func6, Try.ntmps6
    go_wp2
    go_ret
    exact ⟨rfl, Below.refl _ _⟩
  have hcode := codeAt_of hk (by omega) hi hw
  have Hcode := Lib.hid hcode; clear hcode hi hw
  go_enter Try.func6, Try.ntmps6
  go_wp2_with fail
  refine (spec_DrawGraphMerge a cap zs _ Hcode.out).mono ?_
  rintro e1 w1 ⟨uc, c, ua, ga, fa, ub, gb, fb, rfl, ho, hc11, hga, hga2, hpa, hgb, hgb2, hpb, hb1⟩
  obtain ⟨ac, cc, rfl, _, _⟩ := ho.ints
  obtain ⟨aa, ca, rfl⟩ := hga.slice
  obtain ⟨ab, cb, rfl⟩ := hgb.slice
  have hw0 := hb1.size
  have Tc := Lib.hid ho; have Ta := Lib.hid hga; have Tb := Lib.hid hgb
  have Hb := Lib.hid hb1
  have HPa := Lib.hid (show ∀ y ∈ ga, y.ps.length ≤ 1099511627776 from fun y hy => Nat.le_trans (hpa y hy) (by omega))
  have HPb := Lib.hid (show ∀ y ∈ gb, y.ps.length ≤ 1099511627776 from fun y hy => Nat.le_trans (hpb y hy) (by omega))
  clear ho hga hgb hb1 hpa hpb
  obtain ⟨G, hG⟩ : ∃ G, G = mgG c ga gb := ⟨_, rfl⟩
  obtain ⟨K, hK⟩ : ∃ K, K = mgB c ga gb := ⟨_, rfl⟩
  have HI := Lib.hid (fun W (h : IntsAt W ac c) (h2 : Gr W ga (.slice aa ga.length ca) fa) (h3 : Gr W gb (.slice ab gb.length cb) fb) => impl_GraphMerge' ac cc c ga gb _ _ fa fb W (by omega) (by omega) HPa.out HPb.out h h2 h3)
  have HS := Lib.hid (fun W (h : IntsAt W ac c) (h2 : Gr W ga (.slice aa ga.length ca) fa) (h3 : Gr W gb (.slice ab gb.length cb) fb) => spec_GraphMerge ac cc c ga gb _ _ fa fb W (by omega) (by omega) HPa.out HPb.out h h2 h3)
  rw [← hG, ← hK] at HI HS
  have HGl := Lib.hid (show G.length ≤ 562 by rw [hG]; exact Nat.le_trans mg_len (by omega))
  have HGp := Lib.hid (show ∀ y ∈ G, y.ps.length ≤ 1099511627776 by rw [hG]; exact mg_ps HPa.out HPb.out)
  have HG := Lib.hid hG; have HK := Lib.hid hK; clear hG hK
  go_wp2_with fail
  refine (HI.out _ Tc.out.at Ta.out Tb.out).mono ?_
  rintro e1 w2 ⟨u, rfl, ho, hb⟩
  obtain ⟨fo, hgr, _⟩ := ownR_gr ho
  obtain ⟨ao, co, rfl⟩ := hgr.slice
  have hgr := Lib.hid hgr
  have Tc := Lib.hid (show Own 3 w2 w.heap.size (.slice ac c.length cc) (c) from Tc.out.below hb)
  have Ta := Lib.hid (show Gr w2 (ga) (.slice aa ga.length ca) fa from Ta.out.under hb)
  have Tb := Lib.hid (show Gr w2 (gb) (.slice ab gb.length cb) fb from Tb.out.under hb)
  have hsw2 := hb.size
  have Hb := Lib.hid (below_step Hb.out Hb.out.size hb)
  have To := Lib.hid (show Gr w2 G (.slice ao G.length co) fo from hgr.out)
  clear hgr ho hb
  go_wp2_with fail
  refine (HS.out _ Tc.out.at Ta.out Tb.out).mono ?_
  rintro e1 w3 ⟨u, rfl, ho, hb⟩
  obtain ⟨fk, hgr, _⟩ := ownR_gr ho
  obtain ⟨ak, ck, rfl⟩ := hgr.slice
  have hgr := Lib.hid hgr
  have Tc := Lib.hid (show Own 3 w3 w.heap.size (.slice ac c.length cc) (c) from Tc.out.below hb)
  have Ta := Lib.hid (show Gr w3 (ga) (.slice aa ga.length ca) fa from Ta.out.under hb)
  have Tb := Lib.hid (show Gr w3 (gb) (.slice ab gb.length cb) fb from Tb.out.under hb)
  have To := Lib.hid (show Gr w3 (G) (.slice ao G.length co) fo from To.out.under hb)
  have hsw3 := hb.size
  have Hb := Lib.hid (below_step Hb.out Hb.out.size hb)
  have Tk := Lib.hid (show Gr w3 G (.slice ak G.length ck) fk from hgr.out)
  clear hgr ho hb
  clear HI HS
  go_wp2_with fail
  refine (laws_sameGraph G _ _ fo fk _ (by have := HGl.out; omega) HGp.out To.out Tk.out).mono ?_
  rintro e w4 ⟨rfl, hb⟩
  have Tc := Lib.hid (show Own 3 w4 w.heap.size (.slice ac c.length cc) (c) from Tc.out.below hb)
  have Ta := Lib.hid (show Gr w4 (ga) (.slice aa ga.length ca) fa from Ta.out.under hb)
  have Tb := Lib.hid (show Gr w4 (gb) (.slice ab gb.length cb) fb from Tb.out.under hb)
  have To := Lib.hid (show Gr w4 (G) (.slice ao G.length co) fo from To.out.under hb)
  have Tk := Lib.hid (show Gr w4 (G) (.slice ak G.length ck) fk from Tk.out.under hb)
  have hsw4 := hb.size
  have Hb := Lib.hid (below_step Hb.out Hb.out.size hb)
  clear hb
  have HVa := Lib.hid (fun W (h : IntsAt W ac c) (h2 : Gr W ga (.slice aa ga.length ca) fa) => spec_GraphValid ac cc c ga _ fa W (by omega) (by omega) HPa.out h h2)
  have HVb := Lib.hid (fun W (h : IntsAt W ac c) (h2 : Gr W gb (.slice ab gb.length cb) fb) => spec_GraphValid ac cc c gb _ fb W (by omega) (by omega) HPb.out h h2)
  have Hbad := Lib.hid (fun h1 h2 => (show K = !badB ga gb from HK.out.trans (mg_bad (c := c) h1 h2)))
  obtain ⟨va, hva⟩ : ∃ v, v = graphB c ga := ⟨_, rfl⟩
  obtain ⟨vb, hvb⟩ : ∃ v, v = graphB c gb := ⟨_, rfl⟩
  rw [← hva] at HVa Hbad
  rw [← hvb] at HVb Hbad
  clear hva hvb
  have hKK : (K == K) = true := by simp
  cases va with
  | false =>
    go_wp2_with fail
    refine (HVa.out _ Tc.out.at Ta.out).mono ?_
    rintro e w5 ⟨rfl, hb⟩
    have Tc := Lib.hid (show Own 3 w5 w.heap.size (.slice ac c.length cc) (c) from Tc.out.below hb)
    have Ta := Lib.hid (show Gr w5 (ga) (.slice aa ga.length ca) fa from Ta.out.under hb)
    have Tb := Lib.hid (show Gr w5 (gb) (.slice ab gb.length cb) fb from Tb.out.under hb)
    have To := Lib.hid (show Gr w5 (G) (.slice ao G.length co) fo from To.out.under hb)
    have Tk := Lib.hid (show Gr w5 (G) (.slice ak G.length ck) fk from Tk.out.under hb)
    have hsw5 := hb.size
    have Hb := Lib.hid (below_step Hb.out Hb.out.size hb)
    clear hb
    go_wp2_with fail
    refine (laws_sameGraph G _ _ fo fk _ (by have := HGl.out; omega) HGp.out To.out Tk.out).mono ?_
    rintro e w6 ⟨rfl, hb⟩
    have Tc := Lib.hid (show Own 3 w6 w.heap.size (.slice ac c.length cc) (c) from Tc.out.below hb)
    have Ta := Lib.hid (show Gr w6 (ga) (.slice aa ga.length ca) fa from Ta.out.under hb)
    have Tb := Lib.hid (show Gr w6 (gb) (.slice ab gb.length cb) fb from Tb.out.under hb)
    have To := Lib.hid (show Gr w6 (G) (.slice ao G.length co) fo from To.out.under hb)
    have Tk := Lib.hid (show Gr w6 (G) (.slice ak G.length ck) fk from Tk.out.under hb)
    have hsw6 := hb.size
    have Hb := Lib.hid (below_step Hb.out Hb.out.size hb)
    clear hb
    go_wp2
    go_ret
    exact ⟨by first | rfl | exact ret_bool (by simp) | exact ret_bool (by simp; omega), Hb.out⟩
  | true =>
    go_wp2_with fail
    refine (HVa.out _ Tc.out.at Ta.out).mono ?_
    rintro e w5 ⟨rfl, hb⟩
    have Tc := Lib.hid (show Own 3 w5 w.heap.size (.slice ac c.length cc) (c) from Tc.out.below hb)
    have Ta := Lib.hid (show Gr w5 (ga) (.slice aa ga.length ca) fa from Ta.out.under hb)
    have Tb := Lib.hid (show Gr w5 (gb) (.slice ab gb.length cb) fb from Tb.out.under hb)
    have To := Lib.hid (show Gr w5 (G) (.slice ao G.length co) fo from To.out.under hb)
    have Tk := Lib.hid (show Gr w5 (G) (.slice ak G.length ck) fk from Tk.out.under hb)
    have hsw5 := hb.size
    have Hb := Lib.hid (below_step Hb.out Hb.out.size hb)
    clear hb
    cases vb with
    | false =>
      go_wp2_with fail
      refine (HVb.out _ Tc.out.at Tb.out).mono ?_
      rintro e w6 ⟨rfl, hb⟩
      have Tc := Lib.hid (show Own 3 w6 w.heap.size (.slice ac c.length cc) (c) from Tc.out.below hb)
      have Ta := Lib.hid (show Gr w6 (ga) (.slice aa ga.length ca) fa from Ta.out.under hb)
      have Tb := Lib.hid (show Gr w6 (gb) (.slice ab gb.length cb) fb from Tb.out.under hb)
      have To := Lib.hid (show Gr w6 (G) (.slice ao G.length co) fo from To.out.under hb)
      have Tk := Lib.hid (show Gr w6 (G) (.slice ak G.length ck) fk from Tk.out.under hb)
      have hsw6 := hb.size
      have Hb := Lib.hid (below_step Hb.out Hb.out.size hb)
      clear hb
      go_wp2_with fail
      refine (laws_sameGraph G _ _ fo fk _ (by have := HGl.out; omega) HGp.out To.out Tk.out).mono ?_
      rintro e w7 ⟨rfl, hb⟩
      have Tc := Lib.hid (show Own 3 w7 w.heap.size (.slice ac c.length cc) (c) from Tc.out.below hb)
      have Ta := Lib.hid (show Gr w7 (ga) (.slice aa ga.length ca) fa from Ta.out.under hb)
      have Tb := Lib.hid (show Gr w7 (gb) (.slice ab gb.length cb) fb from Tb.out.under hb)
      have To := Lib.hid (show Gr w7 (G) (.slice ao G.length co) fo from To.out.under hb)
      have Tk := Lib.hid (show Gr w7 (G) (.slice ak G.length ck) fk from Tk.out.under hb)
      have hsw7 := hb.size
      have Hb := Lib.hid (below_step Hb.out Hb.out.size hb)
      clear hb
      go_wp2
      go_ret
      exact ⟨by first | rfl | exact ret_bool (by simp) | exact ret_bool (by simp; omega), Hb.out⟩
    | true =>
      go_wp2_with fail
      refine (HVb.out _ Tc.out.at Tb.out).mono ?_
      rintro e w6 ⟨rfl, hb⟩
      have Tc := Lib.hid (show Own 3 w6 w.heap.size (.slice ac c.length cc) (c) from Tc.out.below hb)
      have Ta := Lib.hid (show Gr w6 (ga) (.slice aa ga.length ca) fa from Ta.out.under hb)
      have Tb := Lib.hid (show Gr w6 (gb) (.slice ab gb.length cb) fb from Tb.out.under hb)
      have To := Lib.hid (show Gr w6 (G) (.slice ao G.length co) fo from To.out.under hb)
      have Tk := Lib.hid (show Gr w6 (G) (.slice ak G.length ck) fk from Tk.out.under hb)
      have hsw6 := hb.size
      have Hb := Lib.hid (below_step Hb.out Hb.out.size hb)
      clear hb
      clear Tk
      clear To
      have Hbad := Lib.hid (Hbad.out (by first | rfl | trivial) (by first | rfl | trivial))
      clear HVa HVb hKK
      have h0 : badB (ga.take 0) gb = false := rfl
      go_wp2
      go_loopw [10, 11] (fun f i wr => ∃ k : Nat, k ≤ ga.length ∧ i = .int .i64 k ∧ f = .bool (badB (ga.take k) gb) ∧ Below w6.heap.size w6 wr) (fun _ i _ => ga.length - (intOf i).toNat)
      case atStart => exact ⟨0, by omega, rfl, by rw [h0], Below.refl _ _⟩
      case round =>
        clear h0
        obtain ⟨k, hk, rfl, rfl, hbr⟩ := hrel
        have Hbr := Lib.hid hbr; clear hbr
        by_cases hlt : k < ga.length
        case neg =>
          have Tc := Lib.hid (show Own 3 wr w.heap.size (.slice ac c.length cc) (c) from Tc.out.below Hbr.out)
          have Ta := Lib.hid (show Gr wr (ga) (.slice aa ga.length ca) fa from Ta.out.under Hbr.out)
          have Tb := Lib.hid (show Gr wr (gb) (.slice ab gb.length cb) fb from Tb.out.under Hbr.out)
          have hswr := Hbr.out.size
          have Hb := Lib.hid (below_step Hb.out Hb.out.size Hbr.out)
          have e : ga.take k = ga := List.take_of_length_le (by omega)
          have hlt' : ¬ (k : Int) < (ga.length : Int) := by omega
          rw [e]
          clear e
          have Hk := Lib.hid Hbad.out
          generalize badB ga gb = bad at *
          have hkb : (K != bad) = true := by rw [Hk.out]; cases bad <;> rfl
          go_wp2
          go_ret
          exact ⟨ret_bool (by first | exact hkb | simpa using hkb | (rw [Hk.out]; cases bad <;> rfl)), Hb.out⟩
        case pos =>
          have hlt' : (k : Int) < (ga.length : Int) := by omega
          have Hst := Lib.hid (badB_step (b := gb) hlt)
          have h0 : badR ga[k] (gb.take 0) = false := rfl
          generalize badB (ga.take k) gb = F at *
          go_wp2
          go_loopw [10, 12] (fun f i wr => ∃ j : Nat, j ≤ gb.length ∧ i = .int .i64 j ∧ f = .bool (F || badR ga[k] (gb.take j)) ∧ Below w6.heap.size w6 wr) (fun _ i _ => gb.length - (intOf i).toNat)
          case atStart => exact ⟨0, by omega, rfl, by rw [h0, Bool.or_false], Hbr.out⟩
          case round =>
            clear h0 Hbr
            obtain ⟨j, hj, rfl, rfl, hbr⟩ := hrel
            have Hbr := Lib.hid hbr; clear hbr
            by_cases hlt2 : j < gb.length
            case neg =>
              have e : gb.take j = gb := List.take_of_length_le (by omega)
              rw [e]
              clear e
              go_wp2
              go_roundw
              case rel => exact ⟨k + 1, by omega, by go_num, by rw [Hst.out], Hbr.out⟩
              case measure => simp [intOf]; omega
            case pos =>
              have hltb : (j : Int) < (gb.length : Int) := by omega
              obtain ⟨b1, off1, hA, hA9, hatA⟩ := (Ta.out.under Hbr.out).at (by omega)
              obtain ⟨c0, c1, ⟨qa, qc, c2, i2, _⟩, c3⟩ := hatA k hlt
              obtain ⟨b2, off2, hB, hB9, hatB⟩ := (Tb.out.under Hbr.out).at (by omega)
              obtain ⟨d0, d1, ⟨pa, pc, d2, i3, _⟩, d3⟩ := hatB j hlt2
              have hpx := HPa.out _ (List.getElem_mem hlt)
              have hpy := HPb.out _ (List.getElem_mem hlt2)
              have Hst2 := Lib.hid (badR_step (x := ga[k]) hlt2)
              have HH := Lib.hid (fun W (hW : Below wr.heap.size wr W) => laws_sameVertex ga[k] gb[j] qa pa qc pc W hpx hpy (i2.below hW) (i3.below hW))
              clear hatA hatB hpx hpy i2 i3
              have Hnx := Lib.hid (show (F || badR ga[k] (gb.take (j + 1))) = ((F || badR ga[k] (gb.take j)) || cnB ga[k] gb[j]) from by rw [Hst2.out, Bool.or_assoc])
              clear Hst2
              obtain ⟨N, hN⟩ : ∃ N, N = (F || badR ga[k] (gb.take (j + 1))) := ⟨_, rfl⟩
              rw [← hN] at Hnx
              have HN := Lib.hid hN; clear hN
              generalize (F || badR ga[k] (gb.take j)) = fl at *
              obtain ⟨x, hx⟩ : ∃ x, x = ga[k] := ⟨_, rfl⟩
              obtain ⟨y, hy⟩ : ∃ y, y = gb[j] := ⟨_, rfl⟩
              rw [← hx] at c0 c1 c2 c3
              rw [← hy] at d0 d1 d2 d3
              rw [← hx, ← hy] at HH Hnx
              have Hx := Lib.hid hx; clear hx hy
              obtain ⟨xr, xa, xp, xd⟩ := x
              obtain ⟨yr, ya, yp, yd⟩ := y
              dsimp only at c0 c1 c2 c3 d0 d1 d2 d3 HH
              subst hA hB
              have hdr : Below wr.heap.size wr wr.drew := (Below.refl _ _).drew
              have HC := Lib.hid (fun W (hW : Below wr.heap.size wr W) => (show W.cell? ⟨b1, off1 + k * 4, none⟩ = some (.int .i64 xr) ∧ W.cell? ⟨b1, off1 + k * 4 + 1, none⟩ = some (.int .i64 xa) ∧ W.cell? ⟨b1, off1 + k * 4 + 2, none⟩ = some (.slice qa xp.length qc) ∧ W.cell? ⟨b1, off1 + k * 4 + 3, none⟩ = some (.int .i64 xd) ∧ W.cell? ⟨b2, off2 + j * 4, none⟩ = some (.int .i64 yr) ∧ W.cell? ⟨b2, off2 + j * 4 + 1, none⟩ = some (.int .i64 ya) ∧ W.cell? ⟨b2, off2 + j * 4 + 2, none⟩ = some (.slice pa yp.length pc) ∧ W.cell? ⟨b2, off2 + j * 4 + 3, none⟩ = some (.int .i64 yd) from ⟨(below_grown hW).cell c0 (by simp), (below_grown hW).cell c1 (by simp), (below_grown hW).cell c2 (by simp), (below_grown hW).cell c3 (by simp), (below_grown hW).cell d0 (by simp), (below_grown hW).cell d1 (by simp), (below_grown hW).cell d2 (by simp), (below_grown hW).cell d3 (by simp)⟩))
              clear c0 c1 c2 c3 d0 d1 d2 d3
              go_wp2_with fail
              refine wp_region_held_drew (S := fun W' => W'.cell? ⟨b1, off1 + k * 4, none⟩ = some (.int .i64 xr) ∧ W'.cell? ⟨b1, off1 + k * 4 + 1, none⟩ = some (.int .i64 xa) ∧ W'.cell? ⟨b1, off1 + k * 4 + 2, none⟩ = some (.slice qa xp.length qc) ∧ W'.cell? ⟨b1, off1 + k * 4 + 3, none⟩ = some (.int .i64 xd) ∧ W'.cell? ⟨b2, off2 + j * 4, none⟩ = some (.int .i64 yr) ∧ W'.cell? ⟨b2, off2 + j * 4 + 1, none⟩ = some (.int .i64 ya) ∧ W'.cell? ⟨b2, off2 + j * 4 + 2, none⟩ = some (.slice pa yp.length pc) ∧ W'.cell? ⟨b2, off2 + j * 4 + 3, none⟩ = some (.int .i64 yd)) (by kernel_rfl) (HC.out _ hdr) (fun hH => ?_)
              have Hbr := Lib.hid (below_step Hbr.out Hbr.out.size hdr)
              have HH := Lib.hid (HH.out _ hdr)
              have Hdr := Lib.hid hdr; clear hdr
              refine takeH 0 (v := ?vq1) rfl (by kernel_rfl) (by kernel_rfl) (by kernel_rfl) (fun _ _ _ h => h) hH rfl ?yq1 ?rq1
              case yq1 => intro W hSw; go_simp; try with_reducible rfl
              try simp only [Act.put, List.setIfInBounds_toArray, List.set_cons_zero, List.set_cons_succ]
              refine takeH 1 (v := ?vq2) rfl (by kernel_rfl) (by kernel_rfl) (by kernel_rfl) (fun _ _ _ h => h) hH rfl ?yq2 ?rq2
              case yq2 => intro W hSw; go_simp; try with_reducible rfl
              try simp only [Act.put, List.setIfInBounds_toArray, List.set_cons_zero, List.set_cons_succ]
              cases fl with
              | true =>
                refine skipH 2 rfl (by kernel_rfl) (by kernel_rfl) (by kernel_rfl) (fun _ _ _ h => h) hH rfl ?_
                try simp only [Act.put, List.setIfInBounds_toArray, List.set_cons_zero, List.set_cons_succ]
                refine skipH 3 rfl (by kernel_rfl) (by kernel_rfl) (by kernel_rfl) (fun _ _ _ h => h) hH rfl ?_
                try simp only [Act.put, List.setIfInBounds_toArray, List.set_cons_zero, List.set_cons_succ]
                refine skipH 4 rfl (by kernel_rfl) (by kernel_rfl) (by kernel_rfl) (fun _ _ _ h => h) hH rfl ?_
                try simp only [Act.put, List.setIfInBounds_toArray, List.set_cons_zero, List.set_cons_succ]
                refine skipH 5 rfl (by kernel_rfl) (by kernel_rfl) (by kernel_rfl) (fun _ _ _ h => h) hH rfl ?_
                try simp only [Act.put, List.setIfInBounds_toArray, List.set_cons_zero, List.set_cons_succ]
                refine skipH 6 rfl (by kernel_rfl) (by kernel_rfl) (by kernel_rfl) (fun _ _ _ h => h) hH rfl ?_
                try simp only [Act.put, List.setIfInBounds_toArray, List.set_cons_zero, List.set_cons_succ]
                refine skipH 7 rfl (by kernel_rfl) (by kernel_rfl) (by kernel_rfl) (fun _ _ _ h => h) hH rfl ?_
                try simp only [Act.put, List.setIfInBounds_toArray, List.set_cons_zero, List.set_cons_succ]
                refine skipH 8 rfl (by kernel_rfl) (by kernel_rfl) (by kernel_rfl) (fun _ _ _ h => h) hH rfl ?_
                try simp only [Act.put, List.setIfInBounds_toArray, List.set_cons_zero, List.set_cons_succ]
                refine skipH 9 rfl (by kernel_rfl) (by kernel_rfl) (by kernel_rfl) (fun _ _ _ h => h) hH rfl ?_
                try simp only [Act.put, List.setIfInBounds_toArray, List.set_cons_zero, List.set_cons_succ]
                refine skipH 10 rfl (by kernel_rfl) (by kernel_rfl) (by kernel_rfl) (fun _ _ _ h => h) hH rfl ?_
                try simp only [Act.put, List.setIfInBounds_toArray, List.set_cons_zero, List.set_cons_succ]
                refine skipH 11 rfl (by kernel_rfl) (by kernel_rfl) (by kernel_rfl) (fun _ _ _ h => h) hH rfl ?_
                try simp only [Act.put, List.setIfInBounds_toArray, List.set_cons_zero, List.set_cons_succ]
                refine skipH 12 rfl (by kernel_rfl) (by kernel_rfl) (by kernel_rfl) (fun _ _ _ h => h) hH rfl ?_
                try simp only [Act.put, List.setIfInBounds_toArray, List.set_cons_zero, List.set_cons_succ]
                refine skipH 13 rfl (by kernel_rfl) (by kernel_rfl) (by kernel_rfl) (fun _ _ _ h => h) hH rfl ?_
                try simp only [Act.put, List.setIfInBounds_toArray, List.set_cons_zero, List.set_cons_succ]
                refine skipH 14 rfl (by kernel_rfl) (by kernel_rfl) (by kernel_rfl) (fun _ _ _ h => h) hH rfl ?_
                try simp only [Act.put, List.setIfInBounds_toArray, List.set_cons_zero, List.set_cons_succ]
                refine skipH 15 rfl (by kernel_rfl) (by kernel_rfl) (by kernel_rfl) (fun _ _ _ h => h) hH rfl ?_
                try simp only [Act.put, List.setIfInBounds_toArray, List.set_cons_zero, List.set_cons_succ]
                refine skipH 16 rfl (by kernel_rfl) (by kernel_rfl) (by kernel_rfl) (fun _ _ _ h => h) hH rfl ?_
                try simp only [Act.put, List.setIfInBounds_toArray, List.set_cons_zero, List.set_cons_succ]
                refine skipH 17 rfl (by kernel_rfl) (by kernel_rfl) (by kernel_rfl) (fun _ _ _ h => h) hH rfl ?_
                try simp only [Act.put, List.setIfInBounds_toArray, List.set_cons_zero, List.set_cons_succ]
                refine skipH 18 rfl (by kernel_rfl) (by kernel_rfl) (by kernel_rfl) (fun _ _ _ h => h) hH rfl ?_
                try simp only [Act.put, List.setIfInBounds_toArray, List.set_cons_zero, List.set_cons_succ]
                refine skipH 19 rfl (by kernel_rfl) (by kernel_rfl) (by kernel_rfl) (fun _ _ _ h => h) hH rfl ?_
                try simp only [Act.put, List.setIfInBounds_toArray, List.set_cons_zero, List.set_cons_succ]
                refine skipH 20 rfl (by kernel_rfl) (by kernel_rfl) (by kernel_rfl) (fun _ _ _ h => h) hH rfl ?_
                try simp only [Act.put, List.setIfInBounds_toArray, List.set_cons_zero, List.set_cons_succ]
                refine skipH 21 rfl (by kernel_rfl) (by kernel_rfl) (by kernel_rfl) (fun _ _ _ h => h) hH rfl ?_
                try simp only [Act.put, List.setIfInBounds_toArray, List.set_cons_zero, List.set_cons_succ]
                refine skipH 22 rfl (by kernel_rfl) (by kernel_rfl) (by kernel_rfl) (fun _ _ _ h => h) hH rfl ?_
                try simp only [Act.put, List.setIfInBounds_toArray, List.set_cons_zero, List.set_cons_succ]
                refine skipH 23 rfl (by kernel_rfl) (by kernel_rfl) (by kernel_rfl) (fun _ _ _ h => h) hH rfl ?_
                try simp only [Act.put, List.setIfInBounds_toArray, List.set_cons_zero, List.set_cons_succ]
                refine skipH 24 rfl (by kernel_rfl) (by kernel_rfl) (by kernel_rfl) (fun _ _ _ h => h) hH rfl ?_
                try simp only [Act.put, List.setIfInBounds_toArray, List.set_cons_zero, List.set_cons_succ]
                refine skipH 25 rfl (by kernel_rfl) (by kernel_rfl) (by kernel_rfl) (fun _ _ _ h => h) hH rfl ?_
                try simp only [Act.put, List.setIfInBounds_toArray, List.set_cons_zero, List.set_cons_succ]
                refine skipH 26 rfl (by kernel_rfl) (by kernel_rfl) (by kernel_rfl) (fun _ _ _ h => h) hH rfl ?_
                try simp only [Act.put, List.setIfInBounds_toArray, List.set_cons_zero, List.set_cons_succ]
                refine skipH 27 rfl (by kernel_rfl) (by kernel_rfl) (by kernel_rfl) (fun _ _ _ h => h) hH rfl ?_
                try simp only [Act.put, List.setIfInBounds_toArray, List.set_cons_zero, List.set_cons_succ]
                refine skipH 28 rfl (by kernel_rfl) (by kernel_rfl) (by kernel_rfl) (fun _ _ _ h => h) hH rfl ?_
                try simp only [Act.put, List.setIfInBounds_toArray, List.set_cons_zero, List.set_cons_succ]
                refine skipH 29 rfl (by kernel_rfl) (by kernel_rfl) (by kernel_rfl) (fun _ _ _ h => h) hH rfl ?_
                try simp only [Act.put, List.setIfInBounds_toArray, List.set_cons_zero, List.set_cons_succ]
                refine skipH 30 rfl (by kernel_rfl) (by kernel_rfl) (by kernel_rfl) (fun _ _ _ h => h) hH rfl ?_
                try simp only [Act.put, List.setIfInBounds_toArray, List.set_cons_zero, List.set_cons_succ]
                refine skipH 31 rfl (by kernel_rfl) (by kernel_rfl) (by kernel_rfl) (fun _ _ _ h => h) hH rfl ?_
                try simp only [Act.put, List.setIfInBounds_toArray, List.set_cons_zero, List.set_cons_succ]
                refine skipH 32 rfl (by kernel_rfl) (by kernel_rfl) (by kernel_rfl) (fun _ _ _ h => h) hH rfl ?_
                try simp only [Act.put, List.setIfInBounds_toArray, List.set_cons_zero, List.set_cons_succ]
                refine skipH 33 rfl (by kernel_rfl) (by kernel_rfl) (by kernel_rfl) (fun _ _ _ h => h) hH rfl ?_
                try simp only [Act.put, List.setIfInBounds_toArray, List.set_cons_zero, List.set_cons_succ]
                refine skipH 34 rfl (by kernel_rfl) (by kernel_rfl) (by kernel_rfl) (fun _ _ _ h => h) hH rfl ?_
                try simp only [Act.put, List.setIfInBounds_toArray, List.set_cons_zero, List.set_cons_succ]
                refine skipH 35 rfl (by kernel_rfl) (by kernel_rfl) (by kernel_rfl) (fun _ _ _ h => h) hH rfl ?_
                try simp only [Act.put, List.setIfInBounds_toArray, List.set_cons_zero, List.set_cons_succ]
                refine skipH 36 rfl (by kernel_rfl) (by kernel_rfl) (by kernel_rfl) (fun _ _ _ h => h) hH rfl ?_
                try simp only [Act.put, List.setIfInBounds_toArray, List.set_cons_zero, List.set_cons_succ]
                refine skipH 37 rfl (by kernel_rfl) (by kernel_rfl) (by kernel_rfl) (fun _ _ _ h => h) hH rfl ?_
                try simp only [Act.put, List.setIfInBounds_toArray, List.set_cons_zero, List.set_cons_succ]
                refine takeH 38 (v := ?vq3) rfl (by kernel_rfl) (by kernel_rfl) (by kernel_rfl) (fun _ _ _ h => h) hH rfl ?yq3 ?rq3
                case yq3 => intro W hSw; go_simp; try with_reducible rfl
                try simp only [Act.put, List.setIfInBounds_toArray, List.set_cons_zero, List.set_cons_succ]
                refine takeH 39 (v := ?vq4) rfl (by kernel_rfl) (by kernel_rfl) (by kernel_rfl) (fun _ _ _ h => h) hH rfl ?yq4 ?rq4
                case yq4 => intro W hSw; go_simp; try with_reducible rfl
                try simp only [Act.put, List.setIfInBounds_toArray, List.set_cons_zero, List.set_cons_succ]
                refine wpAnyH_done (by kernel_rfl) ?_ _
                try simp only [Act.put]
                have Hnx := Lib.hid (Hnx.out.trans (Bool.true_or _))
                clear hH
                skip
                go_wp2
                go_roundw
                case rel => exact ⟨j + 1, by omega, by go_num, by rw [← HN.out, Hnx.out], Hbr.out⟩
                case measure => simp [intOf]; omega
              | false =>
                have Hnx := Lib.hid (Hnx.out.trans (Bool.false_or _))
                by_cases hr : xr = yr
                case neg =>
                  have hrb : (xr == yr) = false := by rw [beq_eq_false_iff_ne]; exact hr
                  have Hnx := Lib.hid (show N = false from Hnx.out.trans (by unfold cnB; rw [decide_eq_false (show ¬ xr = yr from hr), Bool.false_and]))
                  clear hr
                  refine takeH 2 (v := ?vq5) rfl (by kernel_rfl) (by kernel_rfl) (by kernel_rfl) (fun _ _ _ h => h) hH rfl ?yq5 ?rq5
                  case yq5 => intro W hSw; go_simp; try with_reducible rfl
                  try simp only [Act.put, List.setIfInBounds_toArray, List.set_cons_zero, List.set_cons_succ]
                  refine takeH 3 (v := ?vq6) rfl (by kernel_rfl) (by kernel_rfl) (by kernel_rfl) (fun _ _ _ h => h) hH rfl ?yq6 ?rq6
                  case yq6 => intro W hSw; go_simp; try with_reducible rfl
                  try simp only [Act.put, List.setIfInBounds_toArray, List.set_cons_zero, List.set_cons_succ]
                  refine takeH 4 (v := ?vq7) rfl (by kernel_rfl) (by kernel_rfl) (by kernel_rfl) (fun _ _ _ h => h) hH rfl ?yq7 ?rq7
                  case yq7 => intro W hSw; go_simp; try with_reducible rfl
                  try simp only [Act.put, List.setIfInBounds_toArray, List.set_cons_zero, List.set_cons_succ]
                  refine takeH 5 (v := ?vq8) rfl (by kernel_rfl) (by kernel_rfl) (by kernel_rfl) (fun _ _ _ h => h) hH rfl ?yq8 ?rq8
                  case yq8 => intro W hSw; go_simp; try with_reducible rfl
                  try simp only [Act.put, List.setIfInBounds_toArray, List.set_cons_zero, List.set_cons_succ]
                  refine takeH 6 (v := ?vq9) rfl (by kernel_rfl) (by kernel_rfl) (by kernel_rfl) (fun _ _ _ h => h) hH rfl ?yq9 ?rq9
                  case yq9 => intro W hSw; go_simp; try with_reducible rfl
                  try simp only [Act.put, List.setIfInBounds_toArray, List.set_cons_zero, List.set_cons_succ]
                  refine takeH 7 (v := ?vq10) rfl (by kernel_rfl) (by kernel_rfl) (by kernel_rfl) (fun _ _ _ h => h) hH rfl ?yq10 ?rq10
                  case yq10 => intro W hSw; go_simp; try with_reducible rfl
                  try simp only [Act.put, List.setIfInBounds_toArray, List.set_cons_zero, List.set_cons_succ]
                  refine takeH 8 (v := ?vq11) rfl (by kernel_rfl) (by kernel_rfl) (by kernel_rfl) (fun _ _ _ h => h) hH rfl ?yq11 ?rq11
                  case yq11 => intro W hSw; go_simp; try with_reducible rfl
                  try simp only [Act.put, List.setIfInBounds_toArray, List.set_cons_zero, List.set_cons_succ]
                  refine takeH 9 (v := ?vq12) rfl (by kernel_rfl) (by kernel_rfl) (by kernel_rfl) (fun _ _ _ h => h) hH rfl ?yq12 ?rq12
                  case yq12 => intro W hSw; go_simp; try with_reducible rfl
                  try simp only [Act.put, List.setIfInBounds_toArray, List.set_cons_zero, List.set_cons_succ]
                  refine takeH 10 (v := ?vq13) rfl (by kernel_rfl) (by kernel_rfl) (by kernel_rfl) (fun _ _ _ h => h) hH rfl ?yq13 ?rq13
                  case yq13 => intro W hSw; go_simp; try with_reducible rfl
                  try simp only [Act.put, List.setIfInBounds_toArray, List.set_cons_zero, List.set_cons_succ]
                  refine takeH 11 (v := ?vq14) rfl (by kernel_rfl) (by kernel_rfl) (by kernel_rfl) (fun _ _ _ h => h) hH rfl ?yq14 ?rq14
                  case yq14 => intro W hSw; go_simp; try with_reducible rfl
                  try simp only [Act.put, List.setIfInBounds_toArray, List.set_cons_zero, List.set_cons_succ]
                  refine takeH 12 (v := ?vq15) rfl (by kernel_rfl) (by kernel_rfl) (by kernel_rfl) (fun _ _ _ h => h) hH rfl ?yq15 ?rq15
                  case yq15 => intro W hSw; go_simp; try with_reducible rfl
                  try simp only [Act.put, List.setIfInBounds_toArray, List.set_cons_zero, List.set_cons_succ]
                  refine takeH 13 (v := ?vq16) rfl (by kernel_rfl) (by kernel_rfl) (by kernel_rfl) (fun _ _ _ h => h) hH rfl ?yq16 ?rq16
                  case yq16 => intro W hSw; go_simp; try with_reducible rfl
                  try simp only [Act.put, List.setIfInBounds_toArray, List.set_cons_zero, List.set_cons_succ]
                  refine skipH 14 rfl (by kernel_rfl) (by kernel_rfl) (by kernel_rfl) (fun _ _ _ h => h) hH rfl ?_
                  try simp only [Act.put, List.setIfInBounds_toArray, List.set_cons_zero, List.set_cons_succ]
                  refine skipH 15 rfl (by kernel_rfl) (by kernel_rfl) (by kernel_rfl) (fun _ _ _ h => h) hH rfl ?_
                  try simp only [Act.put, List.setIfInBounds_toArray, List.set_cons_zero, List.set_cons_succ]
                  refine skipH 16 rfl (by kernel_rfl) (by kernel_rfl) (by kernel_rfl) (fun _ _ _ h => h) hH rfl ?_
                  try simp only [Act.put, List.setIfInBounds_toArray, List.set_cons_zero, List.set_cons_succ]
                  refine skipH 17 rfl (by kernel_rfl) (by kernel_rfl) (by kernel_rfl) (fun _ _ _ h => h) hH rfl ?_
                  try simp only [Act.put, List.setIfInBounds_toArray, List.set_cons_zero, List.set_cons_succ]
                  refine skipH 18 rfl (by kernel_rfl) (by kernel_rfl) (by kernel_rfl) (fun _ _ _ h => h) hH rfl ?_
                  try simp only [Act.put, List.setIfInBounds_toArray, List.set_cons_zero, List.set_cons_succ]
                  refine skipH 19 rfl (by kernel_rfl) (by kernel_rfl) (by kernel_rfl) (fun _ _ _ h => h) hH rfl ?_
                  try simp only [Act.put, List.setIfInBounds_toArray, List.set_cons_zero, List.set_cons_succ]
                  refine skipH 20 rfl (by kernel_rfl) (by kernel_rfl) (by kernel_rfl) (fun _ _ _ h => h) hH rfl ?_
                  try simp only [Act.put, List.setIfInBounds_toArray, List.set_cons_zero, List.set_cons_succ]
                  refine skipH 21 rfl (by kernel_rfl) (by kernel_rfl) (by kernel_rfl) (fun _ _ _ h => h) hH rfl ?_
                  try simp only [Act.put, List.setIfInBounds_toArray, List.set_cons_zero, List.set_cons_succ]
                  refine skipH 22 rfl (by kernel_rfl) (by kernel_rfl) (by kernel_rfl) (fun _ _ _ h => h) hH rfl ?_
                  try simp only [Act.put, List.setIfInBounds_toArray, List.set_cons_zero, List.set_cons_succ]
                  refine skipH 23 rfl (by kernel_rfl) (by kernel_rfl) (by kernel_rfl) (fun _ _ _ h => h) hH rfl ?_
                  try simp only [Act.put, List.setIfInBounds_toArray, List.set_cons_zero, List.set_cons_succ]
                  refine skipH 24 rfl (by kernel_rfl) (by kernel_rfl) (by kernel_rfl) (fun _ _ _ h => h) hH rfl ?_
                  try simp only [Act.put, List.setIfInBounds_toArray, List.set_cons_zero, List.set_cons_succ]
                  refine takeH 25 (v := ?vq17) rfl (by kernel_rfl) (by kernel_rfl) (by kernel_rfl) (fun _ _ _ h => h) hH rfl ?yq17 ?rq17
                  case yq17 => intro W hSw; go_simp; try with_reducible rfl
                  try simp only [Act.put, List.setIfInBounds_toArray, List.set_cons_zero, List.set_cons_succ]
                  refine takeH 26 (v := ?vq18) rfl (by kernel_rfl) (by kernel_rfl) (by kernel_rfl) (fun _ _ _ h => h) hH rfl ?yq18 ?rq18
                  case yq18 => intro W hSw; go_simp; try with_reducible rfl
                  try simp only [Act.put, List.setIfInBounds_toArray, List.set_cons_zero, List.set_cons_succ]
                  refine skipH 27 rfl (by kernel_rfl) (by kernel_rfl) (by kernel_rfl) (fun _ _ _ h => h) hH rfl ?_
                  try simp only [Act.put, List.setIfInBounds_toArray, List.set_cons_zero, List.set_cons_succ]
                  refine skipH 28 rfl (by kernel_rfl) (by kernel_rfl) (by kernel_rfl) (fun _ _ _ h => h) hH rfl ?_
                  try simp only [Act.put, List.setIfInBounds_toArray, List.set_cons_zero, List.set_cons_succ]
                  refine skipH 29 rfl (by kernel_rfl) (by kernel_rfl) (by kernel_rfl) (fun _ _ _ h => h) hH rfl ?_
                  try simp only [Act.put, List.setIfInBounds_toArray, List.set_cons_zero, List.set_cons_succ]
                  refine skipH 30 rfl (by kernel_rfl) (by kernel_rfl) (by kernel_rfl) (fun _ _ _ h => h) hH rfl ?_
                  try simp only [Act.put, List.setIfInBounds_toArray, List.set_cons_zero, List.set_cons_succ]
                  refine skipH 31 rfl (by kernel_rfl) (by kernel_rfl) (by kernel_rfl) (fun _ _ _ h => h) hH rfl ?_
                  try simp only [Act.put, List.setIfInBounds_toArray, List.set_cons_zero, List.set_cons_succ]
                  refine skipH 32 rfl (by kernel_rfl) (by kernel_rfl) (by kernel_rfl) (fun _ _ _ h => h) hH rfl ?_
                  try simp only [Act.put, List.setIfInBounds_toArray, List.set_cons_zero, List.set_cons_succ]
                  refine skipH 33 rfl (by kernel_rfl) (by kernel_rfl) (by kernel_rfl) (fun _ _ _ h => h) hH rfl ?_
                  try simp only [Act.put, List.setIfInBounds_toArray, List.set_cons_zero, List.set_cons_succ]
                  refine skipH 34 rfl (by kernel_rfl) (by kernel_rfl) (by kernel_rfl) (fun _ _ _ h => h) hH rfl ?_
                  try simp only [Act.put, List.setIfInBounds_toArray, List.set_cons_zero, List.set_cons_succ]
                  refine skipH 35 rfl (by kernel_rfl) (by kernel_rfl) (by kernel_rfl) (fun _ _ _ h => h) hH rfl ?_
                  try simp only [Act.put, List.setIfInBounds_toArray, List.set_cons_zero, List.set_cons_succ]
                  refine skipH 36 rfl (by kernel_rfl) (by kernel_rfl) (by kernel_rfl) (fun _ _ _ h => h) hH rfl ?_
                  try simp only [Act.put, List.setIfInBounds_toArray, List.set_cons_zero, List.set_cons_succ]
                  refine takeH 37 (v := ?vq19) rfl (by kernel_rfl) (by kernel_rfl) (by kernel_rfl) (fun _ _ _ h => h) hH rfl ?yq19 ?rq19
                  case yq19 => intro W hSw; go_simp; try with_reducible rfl
                  try simp only [Act.put, List.setIfInBounds_toArray, List.set_cons_zero, List.set_cons_succ]
                  refine takeH 38 (v := ?vq20) rfl (by kernel_rfl) (by kernel_rfl) (by kernel_rfl) (fun _ _ _ h => h) hH rfl ?yq20 ?rq20
                  case yq20 => intro W hSw; go_simp; try with_reducible rfl
                  try simp only [Act.put, List.setIfInBounds_toArray, List.set_cons_zero, List.set_cons_succ]
                  refine takeH 39 (v := ?vq21) rfl (by kernel_rfl) (by kernel_rfl) (by kernel_rfl) (fun _ _ _ h => h) hH rfl ?yq21 ?rq21
                  case yq21 => intro W hSw; go_simp; try with_reducible rfl
                  try simp only [Act.put, List.setIfInBounds_toArray, List.set_cons_zero, List.set_cons_succ]
                  refine wpAnyH_done (by kernel_rfl) ?_ _
                  try simp only [Act.put]
                  clear hH
                  skip
                  go_wp2
                  go_roundw
                  case rel => exact ⟨j + 1, by omega, by go_num, by rw [← HN.out, Hnx.out], Hbr.out⟩
                  case measure => simp [intOf]; omega
                case pos =>
                  have hrb : (xr == yr) = true := by rw [beq_iff_eq]; exact hr
                  have Hr := Lib.hid hr; clear hr
                  refine takeH 2 (v := ?vq22) rfl (by kernel_rfl) (by kernel_rfl) (by kernel_rfl) (fun _ _ _ h => h) hH rfl ?yq22 ?rq22
                  case yq22 => intro W hSw; go_simp; try with_reducible rfl
                  try simp only [Act.put, List.setIfInBounds_toArray, List.set_cons_zero, List.set_cons_succ]
                  refine takeH 3 (v := ?vq23) rfl (by kernel_rfl) (by kernel_rfl) (by kernel_rfl) (fun _ _ _ h => h) hH rfl ?yq23 ?rq23
                  case yq23 => intro W hSw; go_simp; try with_reducible rfl
                  try simp only [Act.put, List.setIfInBounds_toArray, List.set_cons_zero, List.set_cons_succ]
                  refine takeH 4 (v := ?vq24) rfl (by kernel_rfl) (by kernel_rfl) (by kernel_rfl) (fun _ _ _ h => h) hH rfl ?yq24 ?rq24
                  case yq24 => intro W hSw; go_simp; try with_reducible rfl
                  try simp only [Act.put, List.setIfInBounds_toArray, List.set_cons_zero, List.set_cons_succ]
                  refine takeH 5 (v := ?vq25) rfl (by kernel_rfl) (by kernel_rfl) (by kernel_rfl) (fun _ _ _ h => h) hH rfl ?yq25 ?rq25
                  case yq25 => intro W hSw; go_simp; try with_reducible rfl
                  try simp only [Act.put, List.setIfInBounds_toArray, List.set_cons_zero, List.set_cons_succ]
                  refine takeH 6 (v := ?vq26) rfl (by kernel_rfl) (by kernel_rfl) (by kernel_rfl) (fun _ _ _ h => h) hH rfl ?yq26 ?rq26
                  case yq26 => intro W hSw; go_simp; try with_reducible rfl
                  try simp only [Act.put, List.setIfInBounds_toArray, List.set_cons_zero, List.set_cons_succ]
                  refine takeH 7 (v := ?vq27) rfl (by kernel_rfl) (by kernel_rfl) (by kernel_rfl) (fun _ _ _ h => h) hH rfl ?yq27 ?rq27
                  case yq27 => intro W hSw; go_simp; try with_reducible rfl
                  try simp only [Act.put, List.setIfInBounds_toArray, List.set_cons_zero, List.set_cons_succ]
                  refine takeH 8 (v := ?vq28) rfl (by kernel_rfl) (by kernel_rfl) (by kernel_rfl) (fun _ _ _ h => h) hH rfl ?yq28 ?rq28
                  case yq28 => intro W hSw; go_simp; try with_reducible rfl
                  try simp only [Act.put, List.setIfInBounds_toArray, List.set_cons_zero, List.set_cons_succ]
                  refine takeH 9 (v := ?vq29) rfl (by kernel_rfl) (by kernel_rfl) (by kernel_rfl) (fun _ _ _ h => h) hH rfl ?yq29 ?rq29
                  case yq29 => intro W hSw; go_simp; try with_reducible rfl
                  try simp only [Act.put, List.setIfInBounds_toArray, List.set_cons_zero, List.set_cons_succ]
                  refine takeH 10 (v := ?vq30) rfl (by kernel_rfl) (by kernel_rfl) (by kernel_rfl) (fun _ _ _ h => h) hH rfl ?yq30 ?rq30
                  case yq30 => intro W hSw; go_simp; try with_reducible rfl
                  try simp only [Act.put, List.setIfInBounds_toArray, List.set_cons_zero, List.set_cons_succ]
                  refine takeH 11 (v := ?vq31) rfl (by kernel_rfl) (by kernel_rfl) (by kernel_rfl) (fun _ _ _ h => h) hH rfl ?yq31 ?rq31
                  case yq31 => intro W hSw; go_simp; try with_reducible rfl
                  try simp only [Act.put, List.setIfInBounds_toArray, List.set_cons_zero, List.set_cons_succ]
                  refine takeH 12 (v := ?vq32) rfl (by kernel_rfl) (by kernel_rfl) (by kernel_rfl) (fun _ _ _ h => h) hH rfl ?yq32 ?rq32
                  case yq32 => intro W hSw; go_simp; try with_reducible rfl
                  try simp only [Act.put, List.setIfInBounds_toArray, List.set_cons_zero, List.set_cons_succ]
                  refine takeH 13 (v := ?vq33) rfl (by kernel_rfl) (by kernel_rfl) (by kernel_rfl) (fun _ _ _ h => h) hH rfl ?yq33 ?rq33
                  case yq33 => intro W hSw; go_simp; try with_reducible rfl
                  try simp only [Act.put, List.setIfInBounds_toArray, List.set_cons_zero, List.set_cons_succ]
                  by_cases ha : xa = ya
                  case neg =>
                    have hab : (xa == ya) = false := by rw [beq_eq_false_iff_ne]; exact ha
                    have Hnx := Lib.hid (show N = false from Hnx.out.trans (by unfold cnB; rw [decide_eq_false (show ¬ xa = ya from ha), Bool.false_and, Bool.and_false]))
                    clear ha
                    refine takeH 14 (v := ?vq34) rfl (by kernel_rfl) (by kernel_rfl) (by kernel_rfl) (fun _ _ _ h => h) hH rfl ?yq34 ?rq34
                    case yq34 => intro W hSw; go_simp; try with_reducible rfl
                    try simp only [Act.put, List.setIfInBounds_toArray, List.set_cons_zero, List.set_cons_succ]
                    refine takeH 15 (v := ?vq35) rfl (by kernel_rfl) (by kernel_rfl) (by kernel_rfl) (fun _ _ _ h => h) hH rfl ?yq35 ?rq35
                    case yq35 => intro W hSw; go_simp; try with_reducible rfl
                    try simp only [Act.put, List.setIfInBounds_toArray, List.set_cons_zero, List.set_cons_succ]
                    refine takeH 16 (v := ?vq36) rfl (by kernel_rfl) (by kernel_rfl) (by kernel_rfl) (fun _ _ _ h => h) hH rfl ?yq36 ?rq36
                    case yq36 => intro W hSw; go_simp; try with_reducible rfl
                    try simp only [Act.put, List.setIfInBounds_toArray, List.set_cons_zero, List.set_cons_succ]
                    refine takeH 17 (v := ?vq37) rfl (by kernel_rfl) (by kernel_rfl) (by kernel_rfl) (fun _ _ _ h => h) hH rfl ?yq37 ?rq37
                    case yq37 => intro W hSw; go_simp; try with_reducible rfl
                    try simp only [Act.put, List.setIfInBounds_toArray, List.set_cons_zero, List.set_cons_succ]
                    refine takeH 18 (v := ?vq38) rfl (by kernel_rfl) (by kernel_rfl) (by kernel_rfl) (fun _ _ _ h => h) hH rfl ?yq38 ?rq38
                    case yq38 => intro W hSw; go_simp; try with_reducible rfl
                    try simp only [Act.put, List.setIfInBounds_toArray, List.set_cons_zero, List.set_cons_succ]
                    refine takeH 19 (v := ?vq39) rfl (by kernel_rfl) (by kernel_rfl) (by kernel_rfl) (fun _ _ _ h => h) hH rfl ?yq39 ?rq39
                    case yq39 => intro W hSw; go_simp; try with_reducible rfl
                    try simp only [Act.put, List.setIfInBounds_toArray, List.set_cons_zero, List.set_cons_succ]
                    refine takeH 20 (v := ?vq40) rfl (by kernel_rfl) (by kernel_rfl) (by kernel_rfl) (fun _ _ _ h => h) hH rfl ?yq40 ?rq40
                    case yq40 => intro W hSw; go_simp; try with_reducible rfl
                    try simp only [Act.put, List.setIfInBounds_toArray, List.set_cons_zero, List.set_cons_succ]
                    refine takeH 21 (v := ?vq41) rfl (by kernel_rfl) (by kernel_rfl) (by kernel_rfl) (fun _ _ _ h => h) hH rfl ?yq41 ?rq41
                    case yq41 => intro W hSw; go_simp; try with_reducible rfl
                    try simp only [Act.put, List.setIfInBounds_toArray, List.set_cons_zero, List.set_cons_succ]
                    refine takeH 22 (v := ?vq42) rfl (by kernel_rfl) (by kernel_rfl) (by kernel_rfl) (fun _ _ _ h => h) hH rfl ?yq42 ?rq42
                    case yq42 => intro W hSw; go_simp; try with_reducible rfl
                    try simp only [Act.put, List.setIfInBounds_toArray, List.set_cons_zero, List.set_cons_succ]
                    refine takeH 23 (v := ?vq43) rfl (by kernel_rfl) (by kernel_rfl) (by kernel_rfl) (fun _ _ _ h => h) hH rfl ?yq43 ?rq43
                    case yq43 => intro W hSw; go_simp; try with_reducible rfl
                    try simp only [Act.put, List.setIfInBounds_toArray, List.set_cons_zero, List.set_cons_succ]
                    refine takeH 24 (v := ?vq44) rfl (by kernel_rfl) (by kernel_rfl) (by kernel_rfl) (fun _ _ _ h => h) hH rfl ?yq44 ?rq44
                    case yq44 => intro W hSw; go_simp; try with_reducible rfl
                    try simp only [Act.put, List.setIfInBounds_toArray, List.set_cons_zero, List.set_cons_succ]
                    refine takeH 25 (v := ?vq45) rfl (by kernel_rfl) (by kernel_rfl) (by kernel_rfl) (fun _ _ _ h => h) hH rfl ?yq45 ?rq45
                    case yq45 => intro W hSw; go_simp; try with_reducible rfl
                    try simp only [Act.put, List.setIfInBounds_toArray, List.set_cons_zero, List.set_cons_succ]
                    refine takeH 26 (v := ?vq46) rfl (by kernel_rfl) (by kernel_rfl) (by kernel_rfl) (fun _ _ _ h => h) hH rfl ?yq46 ?rq46
                    case yq46 => intro W hSw; go_simp; try with_reducible rfl
                    try simp only [Act.put, List.setIfInBounds_toArray, List.set_cons_zero, List.set_cons_succ]
                    refine skipH 27 rfl (by kernel_rfl) (by kernel_rfl) (by kernel_rfl) (fun _ _ _ h => h) hH rfl ?_
                    try simp only [Act.put, List.setIfInBounds_toArray, List.set_cons_zero, List.set_cons_succ]
                    refine skipH 28 rfl (by kernel_rfl) (by kernel_rfl) (by kernel_rfl) (fun _ _ _ h => h) hH rfl ?_
                    try simp only [Act.put, List.setIfInBounds_toArray, List.set_cons_zero, List.set_cons_succ]
                    refine skipH 29 rfl (by kernel_rfl) (by kernel_rfl) (by kernel_rfl) (fun _ _ _ h => h) hH rfl ?_
                    try simp only [Act.put, List.setIfInBounds_toArray, List.set_cons_zero, List.set_cons_succ]
                    refine skipH 30 rfl (by kernel_rfl) (by kernel_rfl) (by kernel_rfl) (fun _ _ _ h => h) hH rfl ?_
                    try simp only [Act.put, List.setIfInBounds_toArray, List.set_cons_zero, List.set_cons_succ]
                    refine skipH 31 rfl (by kernel_rfl) (by kernel_rfl) (by kernel_rfl) (fun _ _ _ h => h) hH rfl ?_
                    try simp only [Act.put, List.setIfInBounds_toArray, List.set_cons_zero, List.set_cons_succ]
                    refine skipH 32 rfl (by kernel_rfl) (by kernel_rfl) (by kernel_rfl) (fun _ _ _ h => h) hH rfl ?_
                    try simp only [Act.put, List.setIfInBounds_toArray, List.set_cons_zero, List.set_cons_succ]
                    refine skipH 33 rfl (by kernel_rfl) (by kernel_rfl) (by kernel_rfl) (fun _ _ _ h => h) hH rfl ?_
                    try simp only [Act.put, List.setIfInBounds_toArray, List.set_cons_zero, List.set_cons_succ]
                    refine skipH 34 rfl (by kernel_rfl) (by kernel_rfl) (by kernel_rfl) (fun _ _ _ h => h) hH rfl ?_
                    try simp only [Act.put, List.setIfInBounds_toArray, List.set_cons_zero, List.set_cons_succ]
                    refine skipH 35 rfl (by kernel_rfl) (by kernel_rfl) (by kernel_rfl) (fun _ _ _ h => h) hH rfl ?_
                    try simp only [Act.put, List.setIfInBounds_toArray, List.set_cons_zero, List.set_cons_succ]
                    refine skipH 36 rfl (by kernel_rfl) (by kernel_rfl) (by kernel_rfl) (fun _ _ _ h => h) hH rfl ?_
                    try simp only [Act.put, List.setIfInBounds_toArray, List.set_cons_zero, List.set_cons_succ]
                    refine takeH 37 (v := ?vq47) rfl (by kernel_rfl) (by kernel_rfl) (by kernel_rfl) (fun _ _ _ h => h) hH rfl ?yq47 ?rq47
                    case yq47 => intro W hSw; go_simp; try with_reducible rfl
                    try simp only [Act.put, List.setIfInBounds_toArray, List.set_cons_zero, List.set_cons_succ]
                    refine takeH 38 (v := ?vq48) rfl (by kernel_rfl) (by kernel_rfl) (by kernel_rfl) (fun _ _ _ h => h) hH rfl ?yq48 ?rq48
                    case yq48 => intro W hSw; go_simp; try with_reducible rfl
                    try simp only [Act.put, List.setIfInBounds_toArray, List.set_cons_zero, List.set_cons_succ]
                    refine takeH 39 (v := ?vq49) rfl (by kernel_rfl) (by kernel_rfl) (by kernel_rfl) (fun _ _ _ h => h) hH rfl ?yq49 ?rq49
                    case yq49 => intro W hSw; go_simp; try with_reducible rfl
                    try simp only [Act.put, List.setIfInBounds_toArray, List.set_cons_zero, List.set_cons_succ]
                    refine wpAnyH_done (by kernel_rfl) ?_ _
                    try simp only [Act.put]
                    clear hH
                    skip
                    go_wp2
                    go_roundw
                    case rel => exact ⟨j + 1, by omega, by go_num, by rw [← HN.out, Hnx.out], Hbr.out⟩
                    case measure => simp [intOf]; omega
                  case pos =>
                    have hab : (xa == ya) = true := by rw [beq_iff_eq]; exact ha
                    obtain ⟨sm, hsm⟩ : ∃ s, s = sameB ⟨xr, xa, xp, xd⟩ ⟨yr, ya, yp, yd⟩ := ⟨_, rfl⟩
                    rw [← hsm] at HH
                    have Hnx := Lib.hid (show N = !sm from Hnx.out.trans (by unfold cnB; rw [← hsm, decide_eq_true (show xr = yr from Hr.out), decide_eq_true (show xa = ya from ha), Bool.true_and, Bool.true_and]))
                    clear ha hsm
                    refine takeH 14 (v := ?vq50) rfl (by kernel_rfl) (by kernel_rfl) (by kernel_rfl) (fun _ _ _ h => h) hH rfl ?yq50 ?rq50
                    case yq50 => intro W hSw; go_simp; try with_reducible rfl
                    try simp only [Act.put, List.setIfInBounds_toArray, List.set_cons_zero, List.set_cons_succ]
                    refine takeH 15 (v := ?vq51) rfl (by kernel_rfl) (by kernel_rfl) (by kernel_rfl) (fun _ _ _ h => h) hH rfl ?yq51 ?rq51
                    case yq51 => intro W hSw; go_simp; try with_reducible rfl
                    try simp only [Act.put, List.setIfInBounds_toArray, List.set_cons_zero, List.set_cons_succ]
                    refine takeH 16 (v := ?vq52) rfl (by kernel_rfl) (by kernel_rfl) (by kernel_rfl) (fun _ _ _ h => h) hH rfl ?yq52 ?rq52
                    case yq52 => intro W hSw; go_simp; try with_reducible rfl
                    try simp only [Act.put, List.setIfInBounds_toArray, List.set_cons_zero, List.set_cons_succ]
                    refine takeH 17 (v := ?vq53) rfl (by kernel_rfl) (by kernel_rfl) (by kernel_rfl) (fun _ _ _ h => h) hH rfl ?yq53 ?rq53
                    case yq53 => intro W hSw; go_simp; try with_reducible rfl
                    try simp only [Act.put, List.setIfInBounds_toArray, List.set_cons_zero, List.set_cons_succ]
                    refine takeH 18 (v := ?vq54) rfl (by kernel_rfl) (by kernel_rfl) (by kernel_rfl) (fun _ _ _ h => h) hH rfl ?yq54 ?rq54
                    case yq54 => intro W hSw; go_simp; try with_reducible rfl
                    try simp only [Act.put, List.setIfInBounds_toArray, List.set_cons_zero, List.set_cons_succ]
                    refine takeH 19 (v := ?vq55) rfl (by kernel_rfl) (by kernel_rfl) (by kernel_rfl) (fun _ _ _ h => h) hH rfl ?yq55 ?rq55
                    case yq55 => intro W hSw; go_simp; try with_reducible rfl
                    try simp only [Act.put, List.setIfInBounds_toArray, List.set_cons_zero, List.set_cons_succ]
                    refine takeH 20 (v := ?vq56) rfl (by kernel_rfl) (by kernel_rfl) (by kernel_rfl) (fun _ _ _ h => h) hH rfl ?yq56 ?rq56
                    case yq56 => intro W hSw; go_simp; try with_reducible rfl
                    try simp only [Act.put, List.setIfInBounds_toArray, List.set_cons_zero, List.set_cons_succ]
                    refine takeH 21 (v := ?vq57) rfl (by kernel_rfl) (by kernel_rfl) (by kernel_rfl) (fun _ _ _ h => h) hH rfl ?yq57 ?rq57
                    case yq57 => intro W hSw; go_simp; try with_reducible rfl
                    try simp only [Act.put, List.setIfInBounds_toArray, List.set_cons_zero, List.set_cons_succ]
                    refine takeH 22 (v := ?vq58) rfl (by kernel_rfl) (by kernel_rfl) (by kernel_rfl) (fun _ _ _ h => h) hH rfl ?yq58 ?rq58
                    case yq58 => intro W hSw; go_simp; try with_reducible rfl
                    try simp only [Act.put, List.setIfInBounds_toArray, List.set_cons_zero, List.set_cons_succ]
                    refine takeH 23 (v := ?vq59) rfl (by kernel_rfl) (by kernel_rfl) (by kernel_rfl) (fun _ _ _ h => h) hH rfl ?yq59 ?rq59
                    case yq59 => intro W hSw; go_simp; try with_reducible rfl
                    try simp only [Act.put, List.setIfInBounds_toArray, List.set_cons_zero, List.set_cons_succ]
                    refine takeH 24 (v := ?vq60) rfl (by kernel_rfl) (by kernel_rfl) (by kernel_rfl) (fun _ _ _ h => h) hH rfl ?yq60 ?rq60
                    case yq60 => intro W hSw; go_simp; try with_reducible rfl
                    try simp only [Act.put, List.setIfInBounds_toArray, List.set_cons_zero, List.set_cons_succ]
                    refine takeH 25 (v := ?vq61) rfl (by kernel_rfl) (by kernel_rfl) (by kernel_rfl) (fun _ _ _ h => h) hH rfl ?yq61 ?rq61
                    case yq61 => intro W hSw; go_simp; try with_reducible rfl
                    try simp only [Act.put, List.setIfInBounds_toArray, List.set_cons_zero, List.set_cons_succ]
                    refine takeH 26 (v := ?vq62) rfl (by kernel_rfl) (by kernel_rfl) (by kernel_rfl) (fun _ _ _ h => h) hH rfl ?yq62 ?rq62
                    case yq62 => intro W hSw; go_simp; try with_reducible rfl
                    try simp only [Act.put, List.setIfInBounds_toArray, List.set_cons_zero, List.set_cons_succ]
                    refine takeH 27 (v := ?vq63) rfl (by kernel_rfl) (by kernel_rfl) (by kernel_rfl) (fun _ _ _ h => h) hH rfl ?yq63 ?rq63
                    case yq63 => intro W hSw; go_simp; try with_reducible rfl
                    try simp only [Act.put, List.setIfInBounds_toArray, List.set_cons_zero, List.set_cons_succ]
                    refine takeH 28 (v := ?vq64) rfl (by kernel_rfl) (by kernel_rfl) (by kernel_rfl) (fun _ _ _ h => h) hH rfl ?yq64 ?rq64
                    case yq64 => intro W hSw; go_simp; try with_reducible rfl
                    try simp only [Act.put, List.setIfInBounds_toArray, List.set_cons_zero, List.set_cons_succ]
                    refine takeH 29 (v := ?vq65) rfl (by kernel_rfl) (by kernel_rfl) (by kernel_rfl) (fun _ _ _ h => h) hH rfl ?yq65 ?rq65
                    case yq65 => intro W hSw; go_simp; try with_reducible rfl
                    try simp only [Act.put, List.setIfInBounds_toArray, List.set_cons_zero, List.set_cons_succ]
                    refine takeH 30 (v := ?vq66) rfl (by kernel_rfl) (by kernel_rfl) (by kernel_rfl) (fun _ _ _ h => h) hH rfl ?yq66 ?rq66
                    case yq66 => intro W hSw; go_simp; try with_reducible rfl
                    try simp only [Act.put, List.setIfInBounds_toArray, List.set_cons_zero, List.set_cons_succ]
                    refine takeH 31 (v := ?vq67) rfl (by kernel_rfl) (by kernel_rfl) (by kernel_rfl) (fun _ _ _ h => h) hH rfl ?yq67 ?rq67
                    case yq67 => intro W hSw; go_simp; try with_reducible rfl
                    try simp only [Act.put, List.setIfInBounds_toArray, List.set_cons_zero, List.set_cons_succ]
                    refine takeH 32 (v := ?vq68) rfl (by kernel_rfl) (by kernel_rfl) (by kernel_rfl) (fun _ _ _ h => h) hH rfl ?yq68 ?rq68
                    case yq68 => intro W hSw; go_simp; try with_reducible rfl
                    try simp only [Act.put, List.setIfInBounds_toArray, List.set_cons_zero, List.set_cons_succ]
                    refine takeH 33 (v := ?vq69) rfl (by kernel_rfl) (by kernel_rfl) (by kernel_rfl) (fun _ _ _ h => h) hH rfl ?yq69 ?rq69
                    case yq69 => intro W hSw; go_simp; try with_reducible rfl
                    try simp only [Act.put, List.setIfInBounds_toArray, List.set_cons_zero, List.set_cons_succ]
                    refine takeH 34 (v := ?vq70) rfl (by kernel_rfl) (by kernel_rfl) (by kernel_rfl) (fun _ _ _ h => h) hH rfl ?yq70 ?rq70
                    case yq70 => intro W hSw; go_simp; try with_reducible rfl
                    try simp only [Act.put, List.setIfInBounds_toArray, List.set_cons_zero, List.set_cons_succ]
                    refine callH 35 rfl (by kernel_rfl) rfl (fun K hK => ?_)
                    go_simp
                    refine HH.out.mono ?_
                    rintro e w6 ⟨rfl, hb⟩
                    have hb2 := below_step Hdr.out Hdr.out.size hb
                    have Hbr := Lib.hid (below_step Hbr.out Hbr.out.size hb)
                    refine hK.out _ _ (HC.out _ hb2) (fun hH => ?_)
                    clear hK K hb hb2
                    try simp only [Act.put, List.setIfInBounds_toArray, List.set_cons_zero, List.set_cons_succ]
                    refine takeH 36 (v := ?vq71) rfl (by kernel_rfl) (by kernel_rfl) (by kernel_rfl) (fun _ _ _ h => h) hH rfl ?yq71 ?rq71
                    case yq71 => intro W hSw; go_simp; try with_reducible rfl
                    try simp only [Act.put, List.setIfInBounds_toArray, List.set_cons_zero, List.set_cons_succ]
                    refine takeH 37 (v := ?vq72) rfl (by kernel_rfl) (by kernel_rfl) (by kernel_rfl) (fun _ _ _ h => h) hH rfl ?yq72 ?rq72
                    case yq72 => intro W hSw; go_simp; try with_reducible rfl
                    try simp only [Act.put, List.setIfInBounds_toArray, List.set_cons_zero, List.set_cons_succ]
                    refine takeH 38 (v := ?vq73) rfl (by kernel_rfl) (by kernel_rfl) (by kernel_rfl) (fun _ _ _ h => h) hH rfl ?yq73 ?rq73
                    case yq73 => intro W hSw; go_simp; try with_reducible rfl
                    try simp only [Act.put, List.setIfInBounds_toArray, List.set_cons_zero, List.set_cons_succ]
                    refine takeH 39 (v := ?vq74) rfl (by kernel_rfl) (by kernel_rfl) (by kernel_rfl) (fun _ _ _ h => h) hH rfl ?yq74 ?rq74
                    case yq74 => intro W hSw; go_simp; try with_reducible rfl
                    try simp only [Act.put, List.setIfInBounds_toArray, List.set_cons_zero, List.set_cons_succ]
                    refine wpAnyH_done (by kernel_rfl) ?_ _
                    try simp only [Act.put]
                    clear hH
                    skip
                    go_wp2
                    go_roundw
                    case rel => exact ⟨j + 1, by omega, by go_num, by rw [← HN.out, Hnx.out], Hbr.out⟩
                    case measure => simp [intOf]; omega

theorem fnGraphMergeFail_own : ownKnob Try.prog.godebug = none := by kernel_rfl
theorem fnGraphMergeFail_laidOut : laidOutB Try.prog = true := by kernel_rfl

set_option maxRecDepth 8000 in
theorem fnGraphMergeFail_lifted (os : Os) (started : os.Started) (H : Type) (enc : TypeId × Value → H) :
    ReturnsInHanded {} Try.checked os 6 .any (Rows.fnGraphMergeFailSpec.pre6 enc Try.prog Try.f6 Rows.fnGraphMergeFailRow.domain false) (Rows.fnGraphMergeFailSpec.post enc Try.prog Try.f6 false true false false) := by
  refine law_lifted (C := Try.checked) (tb := 4) fnGraphMergeFail_own fnGraphMergeFail_laidOut started (by kernel_rfl) Try.func6 rfl Try.underlying4 rfl (by rw [Try.params6]; exact of_decide_eq_true (by kernel_rfl)) ?_
    (ChangeSpec.witness6 (enc := enc) (C := Try.checked) false ⟨#[], #[.slice none 0 0], []⟩ 8 (by kernel_rfl) (by kernel_rfl) (by kernel_rfl) (by kernel_rfl)) ?_
  · intro ds hds
    rw [Try.params6] at hds
    match ds, hds with
    | [d0], _ => rfl
  · intro W base args ds p hval0 hA0
    have hval : ∀ (j : Nat) t v, Try.f6.params[j]? = some t → args[j]? = some v → Value.okWide Try.prog W .any base t v := hval0
    have hA : DataW.TrodAll enc Try.prog W 0 (fun _ => true) true Try.f6.params.toList args.toList ds p := hA0
    rw [Try.params6] at hA hval
    obtain ⟨v0, vs0, d0, ds0, p0, q0, hargs0, rfl, rfl, h0, r0⟩ := trodAll_cons hA
    obtain ⟨hnil, rfl, rfl⟩ := trodAll_nil r0
    subst hnil
    obtain rfl : args = #[v0] := by cases args; simp_all
    obtain ⟨a0, cap0, zs0, rfl, hk0, hm0, hi0, hw0⟩ := open_slice_ints Try.underlying22 Try.underlying5 (by kernel_rfl) (hval 0 22 v0 rfl rfl) h0
    exact fnGraphMergeFail_walk a0 cap0 zs0 W hk0 hm0 hi0 hw0

set_option maxRecDepth 8000 in
theorem fnGraphMergeFail_holds : Rows.FnGraphMergeFailSaid :=
  OpenClaim.holds_of_wide 6 Try.f6 rfl rfl rfl rfl rfl rfl rfl ⟨rfl, rfl, rfl, rfl, rfl⟩ rfl rfl rfl rfl rfl (by kernel_rfl) Try.func6 (by kernel_rfl)
    (of_decide_eq_true (by kernel_rfl)) (by unfold Func.isWrapper; first | (rw [if_pos (by decide +kernel)]; kernel_rfl) | (rw [if_neg (by decide +kernel)]; exact ⟨rfl, rfl⟩))
    (fun os started H enc _ => fnGraphMergeFail_lifted os started H enc)

end Go.Proofs.Ythnbjdijcpcafaa
