/- Law FnGraphMergeOrder holds for every input; no conditions of our own. -/
import Derived.Test.YthnbjdijcpcafaaRows
import Derived.Test.YthnbjdijcpcafaaBu0
import Derived.Test.YthnbjdijcpcafaaBu5
import Derived.Test.YthnbjdijcpcafaaBu1
import Derived.Test.YthnbjdijcpcafaaBu2
import Derived.Deep.QuietTactic
import Derived.BigQuiet
namespace Go.Proofs.Ythnbjdijcpcafaa
open Go.ChangeShapes Go.WideShapes Go.ChangeAt Go.RowKit

set_option maxHeartbeats 4000000 in
theorem fnGraphMergeOrder_walk (a : Option Addr) (cap : Nat) (zs : List Int) (w : World) (hk : zs.length ≤ cap) (_hm : zs.length ≤ maxLen) (hi : zs = [] ∨ ∃ b off, a = some ⟨b, off, none⟩ ∧ b < w.heap.size ∧ ∀ j (h : j < zs.length), w.cell? ⟨b, off + j, none⟩ = some (.int .u8 zs[j])) (hw : ∀ z ∈ zs, (Lit.int .u8 z).wf = true) :
    Calls Try.prog 5 #[.slice a zs.length cap] w fun e w' => e = .returned (.bool true) ∧ Below w.heap.size w w' := by
  by_cases hl : 1048576 < zs.length
  · go_enter Try.func5, Try.ntmps5
    go_wp2
    go_ret
    exact ⟨rfl, Below.refl _ _⟩
  have hcode := codeAt_of hk (by omega) hi hw
  have Hcode := Lib.hid hcode; clear hcode hi hw
  go_enter Try.func5, Try.ntmps5
  go_wp2_with fail
  refine (spec_DrawGraphMerge a cap zs _ Hcode.out).mono ?_
  rintro e1 w1 ⟨uc, c, ua, ga, fa, ub, gb, fb, rfl, ho, hc11, hga, hga2, hpa, hgb, hgb2, hpb, hb1⟩
  obtain ⟨ac, cc, rfl, _, _⟩ := ho.ints
  obtain ⟨aa, ca, rfl⟩ := hga.slice
  obtain ⟨ab, cb, rfl⟩ := hgb.slice
  have hw0 := hb1.size
  have Tc := Lib.hid ho; have Ta := Lib.hid hga; have Tb := Lib.hid hgb
  have Hb := Lib.hid hb1
  have HPa := Lib.hid (show ∀ y ∈ ga, y.ps.length ≤ 1099511627776 from fun y hy => Nat.le_trans (hpa y hy) (by omega))
  have HPb := Lib.hid (show ∀ y ∈ gb, y.ps.length ≤ 1099511627776 from fun y hy => Nat.le_trans (hpb y hy) (by omega))
  clear ho hga hgb hb1 hpa hpb
  obtain ⟨G, hG⟩ : ∃ G, G = mgG c ga gb := ⟨_, rfl⟩
  obtain ⟨K, hK⟩ : ∃ K, K = mgB c ga gb := ⟨_, rfl⟩
  have HI := Lib.hid (fun W (h : IntsAt W ac c) (h2 : Gr W ga (.slice aa ga.length ca) fa) (h3 : Gr W gb (.slice ab gb.length cb) fb) => impl_GraphMerge' ac cc c ga gb _ _ fa fb W (by omega) (by omega) HPa.out HPb.out h h2 h3)
  have HS := Lib.hid (fun W (h : IntsAt W ac c) (h2 : Gr W ga (.slice aa ga.length ca) fa) (h3 : Gr W gb (.slice ab gb.length cb) fb) => spec_GraphMerge ac cc c ga gb _ _ fa fb W (by omega) (by omega) HPa.out HPb.out h h2 h3)
  rw [← hG, ← hK] at HI HS
  have HGl := Lib.hid (show G.length ≤ 562 by rw [hG]; exact Nat.le_trans mg_len (by omega))
  have HGp := Lib.hid (show ∀ y ∈ G, y.ps.length ≤ 1099511627776 by rw [hG]; exact mg_ps HPa.out HPb.out)
  have HG := Lib.hid hG; have HK := Lib.hid hK; clear hG hK
  go_wp2_with fail
  refine (HI.out _ Tc.out.at Ta.out Tb.out).mono ?_
  rintro e1 w2 ⟨u, rfl, ho, hb⟩
  obtain ⟨fo, hgr, _⟩ := ownR_gr ho
  obtain ⟨ao, co, rfl⟩ := hgr.slice
  have hgr := Lib.hid hgr
  have Tc := Lib.hid (show Own 3 w2 w.heap.size (.slice ac c.length cc) (c) from Tc.out.below hb)
  have Ta := Lib.hid (show Gr w2 (ga) (.slice aa ga.length ca) fa from Ta.out.under hb)
  have Tb := Lib.hid (show Gr w2 (gb) (.slice ab gb.length cb) fb from Tb.out.under hb)
  have hsw2 := hb.size
  have Hb := Lib.hid (below_step Hb.out Hb.out.size hb)
  have To := Lib.hid (show Gr w2 G (.slice ao G.length co) fo from hgr.out)
  clear hgr ho hb
  go_wp2_with fail
  refine (HS.out _ Tc.out.at Ta.out Tb.out).mono ?_
  rintro e1 w3 ⟨u, rfl, ho, hb⟩
  obtain ⟨fk, hgr, _⟩ := ownR_gr ho
  obtain ⟨ak, ck, rfl⟩ := hgr.slice
  have hgr := Lib.hid hgr
  have Tc := Lib.hid (show Own 3 w3 w.heap.size (.slice ac c.length cc) (c) from Tc.out.below hb)
  have Ta := Lib.hid (show Gr w3 (ga) (.slice aa ga.length ca) fa from Ta.out.under hb)
  have Tb := Lib.hid (show Gr w3 (gb) (.slice ab gb.length cb) fb from Tb.out.under hb)
  have To := Lib.hid (show Gr w3 (G) (.slice ao G.length co) fo from To.out.under hb)
  have hsw3 := hb.size
  have Hb := Lib.hid (below_step Hb.out Hb.out.size hb)
  have Tk := Lib.hid (show Gr w3 G (.slice ak G.length ck) fk from hgr.out)
  clear hgr ho hb
  clear HI HS
  go_wp2_with fail
  refine (laws_sameGraph G _ _ fo fk _ (by have := HGl.out; omega) HGp.out To.out Tk.out).mono ?_
  rintro e w4 ⟨rfl, hb⟩
  have Tc := Lib.hid (show Own 3 w4 w.heap.size (.slice ac c.length cc) (c) from Tc.out.below hb)
  have Ta := Lib.hid (show Gr w4 (ga) (.slice aa ga.length ca) fa from Ta.out.under hb)
  have Tb := Lib.hid (show Gr w4 (gb) (.slice ab gb.length cb) fb from Tb.out.under hb)
  have To := Lib.hid (show Gr w4 (G) (.slice ao G.length co) fo from To.out.under hb)
  have Tk := Lib.hid (show Gr w4 (G) (.slice ak G.length ck) fk from Tk.out.under hb)
  have hsw4 := hb.size
  have Hb := Lib.hid (below_step Hb.out Hb.out.size hb)
  clear hb
  cases K with
  | false =>
    go_wp2_with fail
    refine (laws_sameGraph G _ _ fo fk _ (by have := HGl.out; omega) HGp.out To.out Tk.out).mono ?_
    rintro e w5 ⟨rfl, hb⟩
    have Tc := Lib.hid (show Own 3 w5 w.heap.size (.slice ac c.length cc) (c) from Tc.out.below hb)
    have Ta := Lib.hid (show Gr w5 (ga) (.slice aa ga.length ca) fa from Ta.out.under hb)
    have Tb := Lib.hid (show Gr w5 (gb) (.slice ab gb.length cb) fb from Tb.out.under hb)
    have To := Lib.hid (show Gr w5 (G) (.slice ao G.length co) fo from To.out.under hb)
    have Tk := Lib.hid (show Gr w5 (G) (.slice ak G.length ck) fk from Tk.out.under hb)
    have hsw5 := hb.size
    have Hb := Lib.hid (below_step Hb.out Hb.out.size hb)
    clear hb
    go_wp2
    go_ret
    exact ⟨by first | rfl | exact ret_bool (by simp) | exact ret_bool (by simp; omega), Hb.out⟩
  | true =>
    obtain ⟨o1, o2, o3, o4⟩ := mg_order HK.out.symm
    rw [← HG.out] at o2 o3 o4
    have hGl := HGl.out
    have HX := fun W (h : IntsAt W ac c) (h2 : Gr W gb (.slice ab gb.length cb) fb) (h3 : Gr W ga (.slice aa ga.length ca) fa) => impl_GraphMerge' ac cc c gb ga _ _ fb fa W (by omega) (by omega) HPb.out HPa.out h h2 h3
    rw [o1, o2] at HX
    have HX := Lib.hid HX
    have HY := fun W (h : IntsAt W ac c) (h2 : Gr W G (.slice ao G.length co) fo) (h3 : Gr W gb (.slice ab gb.length cb) fb) => impl_GraphMerge' ac cc c G gb _ _ fo fb W (by omega) (by omega) HGp.out HPb.out h h2 h3
    rw [o3, o4] at HY
    have HY := Lib.hid HY
    clear o1 o2 o3 o4
    clear Tk
    go_wp2_with fail
    refine (HX.out _ Tc.out.at Tb.out Ta.out).mono ?_
    rintro e1 w5 ⟨u, rfl, ho, hb⟩
    obtain ⟨fx, hgr, _⟩ := ownR_gr ho
    obtain ⟨ax, cx, rfl⟩ := hgr.slice
    have hgr := Lib.hid hgr
    have Tc := Lib.hid (show Own 3 w5 w.heap.size (.slice ac c.length cc) (c) from Tc.out.below hb)
    have Ta := Lib.hid (show Gr w5 (ga) (.slice aa ga.length ca) fa from Ta.out.under hb)
    have Tb := Lib.hid (show Gr w5 (gb) (.slice ab gb.length cb) fb from Tb.out.under hb)
    have To := Lib.hid (show Gr w5 (G) (.slice ao G.length co) fo from To.out.under hb)
    have hsw5 := hb.size
    have Hb := Lib.hid (below_step Hb.out Hb.out.size hb)
    have Tx := Lib.hid (show Gr w5 G (.slice ax G.length cx) fx from hgr.out)
    clear hgr ho hb
    go_wp2_with fail
    refine (HY.out _ Tc.out.at To.out Tb.out).mono ?_
    rintro e1 w6 ⟨u, rfl, ho, hb⟩
    obtain ⟨fy, hgr, _⟩ := ownR_gr ho
    obtain ⟨ay, cy, rfl⟩ := hgr.slice
    have hgr := Lib.hid hgr
    have Tc := Lib.hid (show Own 3 w6 w.heap.size (.slice ac c.length cc) (c) from Tc.out.below hb)
    have Ta := Lib.hid (show Gr w6 (ga) (.slice aa ga.length ca) fa from Ta.out.under hb)
    have Tb := Lib.hid (show Gr w6 (gb) (.slice ab gb.length cb) fb from Tb.out.under hb)
    have To := Lib.hid (show Gr w6 (G) (.slice ao G.length co) fo from To.out.under hb)
    have Tx := Lib.hid (show Gr w6 (G) (.slice ax G.length cx) fx from Tx.out.under hb)
    have hsw6 := hb.size
    have Hb := Lib.hid (below_step Hb.out Hb.out.size hb)
    have Ty := Lib.hid (show Gr w6 G (.slice ay G.length cy) fy from hgr.out)
    clear hgr ho hb
    go_wp2_with fail
    refine (laws_sameGraph G _ _ fx fo _ (by have := HGl.out; omega) HGp.out Tx.out To.out).mono ?_
    rintro e w7 ⟨rfl, hb⟩
    have Tc := Lib.hid (show Own 3 w7 w.heap.size (.slice ac c.length cc) (c) from Tc.out.below hb)
    have Ta := Lib.hid (show Gr w7 (ga) (.slice aa ga.length ca) fa from Ta.out.under hb)
    have Tb := Lib.hid (show Gr w7 (gb) (.slice ab gb.length cb) fb from Tb.out.under hb)
    have To := Lib.hid (show Gr w7 (G) (.slice ao G.length co) fo from To.out.under hb)
    have Tx := Lib.hid (show Gr w7 (G) (.slice ax G.length cx) fx from Tx.out.under hb)
    have Ty := Lib.hid (show Gr w7 (G) (.slice ay G.length cy) fy from Ty.out.under hb)
    have hsw7 := hb.size
    have Hb := Lib.hid (below_step Hb.out Hb.out.size hb)
    clear hb
    go_wp2_with fail
    refine (laws_sameGraph G _ _ fy fo _ (by have := HGl.out; omega) HGp.out Ty.out To.out).mono ?_
    rintro e w8 ⟨rfl, hb⟩
    have Tc := Lib.hid (show Own 3 w8 w.heap.size (.slice ac c.length cc) (c) from Tc.out.below hb)
    have Ta := Lib.hid (show Gr w8 (ga) (.slice aa ga.length ca) fa from Ta.out.under hb)
    have Tb := Lib.hid (show Gr w8 (gb) (.slice ab gb.length cb) fb from Tb.out.under hb)
    have To := Lib.hid (show Gr w8 (G) (.slice ao G.length co) fo from To.out.under hb)
    have Tx := Lib.hid (show Gr w8 (G) (.slice ax G.length cx) fx from Tx.out.under hb)
    have Ty := Lib.hid (show Gr w8 (G) (.slice ay G.length cy) fy from Ty.out.under hb)
    have hsw8 := hb.size
    have Hb := Lib.hid (below_step Hb.out Hb.out.size hb)
    clear hb
    go_wp2
    go_ret
    exact ⟨by first | rfl | exact ret_bool (by simp) | exact ret_bool (by simp; omega), Hb.out⟩

theorem fnGraphMergeOrder_own : ownKnob Try.prog.godebug = none := by kernel_rfl
theorem fnGraphMergeOrder_laidOut : laidOutB Try.prog = true := by kernel_rfl

set_option maxRecDepth 8000 in
theorem fnGraphMergeOrder_lifted (os : Os) (started : os.Started) (H : Type) (enc : TypeId × Value → H) :
    ReturnsInHanded {} Try.checked os 5 .any (Rows.fnGraphMergeOrderSpec.pre6 enc Try.prog Try.f5 Rows.fnGraphMergeOrderRow.domain false) (Rows.fnGraphMergeOrderSpec.post enc Try.prog Try.f5 false true false false) := by
  refine law_lifted (C := Try.checked) (tb := 4) fnGraphMergeOrder_own fnGraphMergeOrder_laidOut started (by kernel_rfl) Try.func5 rfl Try.underlying4 rfl (by rw [Try.params5]; exact of_decide_eq_true (by kernel_rfl)) ?_
    (ChangeSpec.witness6 (enc := enc) (C := Try.checked) false ⟨#[], #[.slice none 0 0], []⟩ 8 (by kernel_rfl) (by kernel_rfl) (by kernel_rfl) (by kernel_rfl)) ?_
  · intro ds hds
    rw [Try.params5] at hds
    match ds, hds with
    | [d0], _ => rfl
  · intro W base args ds p hval0 hA0
    have hval : ∀ (j : Nat) t v, Try.f5.params[j]? = some t → args[j]? = some v → Value.okWide Try.prog W .any base t v := hval0
    have hA : DataW.TrodAll enc Try.prog W 0 (fun _ => true) true Try.f5.params.toList args.toList ds p := hA0
    rw [Try.params5] at hA hval
    obtain ⟨v0, vs0, d0, ds0, p0, q0, hargs0, rfl, rfl, h0, r0⟩ := trodAll_cons hA
    obtain ⟨hnil, rfl, rfl⟩ := trodAll_nil r0
    subst hnil
    obtain rfl : args = #[v0] := by cases args; simp_all
    obtain ⟨a0, cap0, zs0, rfl, hk0, hm0, hi0, hw0⟩ := open_slice_ints Try.underlying22 Try.underlying5 (by kernel_rfl) (hval 0 22 v0 rfl rfl) h0
    exact fnGraphMergeOrder_walk a0 cap0 zs0 W hk0 hm0 hi0 hw0

set_option maxRecDepth 8000 in
theorem fnGraphMergeOrder_holds : Rows.FnGraphMergeOrderSaid :=
  OpenClaim.holds_of_wide 5 Try.f5 rfl rfl rfl rfl rfl rfl rfl ⟨rfl, rfl, rfl, rfl, rfl⟩ rfl rfl rfl rfl rfl (by kernel_rfl) Try.func5 (by kernel_rfl)
    (of_decide_eq_true (by kernel_rfl)) (by unfold Func.isWrapper; first | (rw [if_pos (by decide +kernel)]; kernel_rfl) | (rw [if_neg (by decide +kernel)]; exact ⟨rfl, rfl⟩))
    (fun os started H enc _ => fnGraphMergeOrder_lifted os started H enc)

end Go.Proofs.Ythnbjdijcpcafaa
