/- The draw of what CertCheck is called with, by a walk of its text; condition: the text of code can be read. -/
import Derived.Test.YtilkiiflcdmnpabCeG
namespace Go.Proofs.Ytilkiiflcdmnpab
open Go.RowKit

set_option maxHeartbeats 1000000 in
theorem spec_DrawCertCheck (a : Option Addr) (cap : Nat) (zs : List Int) (w : World) (h : CodeAt w a cap zs) :
    Calls Try.prog 18 #[.slice a zs.length cap] w fun e w' => ∃ vc c vk keys d vs ms s, e = .returned (.tuple #[vc, vk, .agg #[.int .i64 d, vs, .int .i64 s]]) ∧ Own 3 w' w.heap.size vc c ∧ c.length ≤ 11 ∧ Own 3 w' w.heap.size vk keys ∧ keys.length = c.length ∧ Own 3 w' w.heap.size vs ms ∧ ms.length ≤ 12 ∧ Below w.heap.size w w' := by
  have hb0 : Below w.heap.size w (w.alloc (.cells #[.int .i64 0, .slice none 0 0, .int .i64 0] 27)) := (Below.refl _ _).alloc (Nat.le_refl _) _
  have HR0 := Lib.hid (Str.new w 27 #[.int .i64 0, .slice none 0 0, .int .i64 0])
  have h0 := h.below hb0
  have hz0 : (w.alloc (.cells #[.int .i64 0, .slice none 0 0, .int .i64 0] 27)).heap.size = w.heap.size + 1 := by simp
  have Hh := Lib.hid h0; clear h0
  have Hb0 := Lib.hid hb0; clear hb0
  go_enter Try.func18, Try.ntmps18
  go_wp2_with fail
  generalize w.alloc (.cells #[.int .i64 0, .slice none 0 0, .int .i64 0] 27) = w0 at *
  refine (open_any a cap zs _ Hh.out).mono ?_
  rintro e w1 ⟨R, rfl, hR1, hR2, hr1, hb1⟩
  have Hr1 := Lib.hid hr1; clear hr1
  have hz1 := hb1.size
  have HR1 := Lib.hid (show Str w1 w.heap.size 27 #[.int .i64 0, .slice none 0 0, .int .i64 0] from (hb1.block _ HR0.out.lt).trans HR0.out)
  have Hb1 := Lib.hid (below_step Hb0.out Hb0.out.size hb1); clear hb1
  go_wp2_with fail
  refine (drawCert R 0 _ (by omega) Hr1.out hR2).mono ?_
  rintro e w2 ⟨vc, c, vk, keys, d, vs, ms, s, p2, rfl, hoc, hc1, hc2, hok, hkl, hos, hml, ⟨M, N, hM, hN, hK, hMN⟩, hr2, hp2, hg2⟩
  obtain ⟨ac, cc, rfl, _, _⟩ := hoc.ints
  obtain ⟨ak, ck, rfl, _, _⟩ := hok.ints
  obtain ⟨av, cv, rfl, _, _⟩ := hos.ints
  have hz2 := hg2.size
  have HR2 := Lib.hid ((HR1.out.kept hg2 (fun e => by injection e with e; omega)).alloc (.cells #[.int .i64 d, .slice av ms.length cv, .int .i64 s] 27))
  have HX2 := Lib.hid (Str.new w2 27 #[.int .i64 d, .slice av ms.length cv, .int .i64 s])
  have Hc2 := Lib.hid (hoc.alloc (.cells #[.int .i64 d, .slice av ms.length cv, .int .i64 s] 27))
  have Hk2 := Lib.hid (hok.alloc (.cells #[.int .i64 d, .slice av ms.length cv, .int .i64 s] 27))
  have Ho2 := Lib.hid (hos.alloc (.cells #[.int .i64 d, .slice av ms.length cv, .int .i64 s] 27))
  have Hcl := Lib.hid (fun b e => hoc.lt b e); have Hkl := Lib.hid (fun b e => hok.lt b e); have Hol := Lib.hid (fun b e => hos.lt b e)
  have Hr2 := Lib.hid (hr2.alloc (.cells #[.int .i64 d, .slice av ms.length cv, .int .i64 s] 27))
  have Hg2 := Lib.hid (grownBy_trans hg2 (World.grownBy_alloc w2 (.cells #[.int .i64 d, .slice av ms.length cv, .int .i64 s] 27) (some R)))
  have hz2' : (w2.alloc (.cells #[.int .i64 d, .slice av ms.length cv, .int .i64 s] 27)).heap.size = w2.heap.size + 1 := by simp
  have Hlk := Lib.hid hkl
  have HM := Lib.hid hM; have HN := Lib.hid hN; have HK := Lib.hid hK
  clear hoc hok hos hr2 hg2 hkl hM hN hK
  go_wp2_with fail
  generalize w2.alloc (.cells #[.int .i64 d, .slice av ms.length cv, .int .i64 s] 27) = w3 at *
  refine (pick_any R 10 p2 _ (by omega) Hr2.out (by omega)).mono ?_
  rintro e w4 ⟨k, rfl, hk0, hk1, hr4, hg4⟩
  have hz4 := hg4.size
  have Hr4 := Lib.hid hr4; clear hr4
  have HR4 := Lib.hid (HR2.out.kept hg4 (fun e => by injection e with e; omega))
  have HX4 := Lib.hid (HX2.out.kept hg4 (fun e => by injection e with e; omega))
  have Hc4 := Lib.hid (Hc2.out.kept hg4 (.inr (fun e => by have := Hcl.out _ e; omega)))
  have Hk4 := Lib.hid (Hk2.out.kept hg4 (.inr (fun e => by have := Hkl.out _ e; omega)))
  have Ho4 := Lib.hid (Ho2.out.kept hg4 (.inr (fun e => by have := Hol.out _ e; omega)))
  have Hg4 := Lib.hid (grownBy_trans Hg2.out hg4); clear hg4
  by_cases k0 : k = 0
  · subst k0
    go_wp2_with fail
    refine (drawDigest R (p2 + 1) _ (by omega) Hr4.out).mono ?_
    rintro e w5 ⟨z, p5, rfl, _, _, _, _, hg5⟩
    have hz5 := hg5.size
    have HR5 := Lib.hid (HR4.out.kept hg5 (fun e => by injection e with e; omega))
    have sX := HX4.out.kept hg5 (fun e => by injection e with e; omega)
    have Hc5 := Lib.hid (Hc4.out.kept hg5 (.inr (fun e => by have := Hcl.out _ e; omega)))
    have Hk5 := Lib.hid (Hk4.out.kept hg5 (.inr (fun e => by have := Hkl.out _ e; omega)))
    have Ho5 := Lib.hid (Ho4.out.kept hg5 (.inr (fun e => by have := Hol.out _ e; omega)))
    have Hg5 := Lib.hid (grownBy_trans Hg4.out hg5)
    clear hg5
    have f0 := sX.frozen 0
    have k0 := sX.cell 0 (v := .int .i64 d) rfl
    have sX' := sX.set 0 (.int .i64 z)
    have hb5 := Hb1.out.trans (below_of_row' Hg5.out (by omega) (by omega))
    have HR9 := Lib.hid (HR5.out.other (by omega : w.heap.size ≠ w2.heap.size) 0 (.int .i64 z))
    have HX9 := Lib.hid sX'
    have Hc9 := Lib.hid ((Hc5.out.set_other (B' := w2.heap.size) (fun e => by have := Hcl.out _ e; omega) 0 (.int .i64 z)).mono (by omega : w.heap.size ≤ w1.heap.size))
    have Hk9 := Lib.hid ((Hk5.out.set_other (B' := w2.heap.size) (fun e => by have := Hkl.out _ e; omega) 0 (.int .i64 z)).mono (by omega : w.heap.size ≤ w1.heap.size))
    have Ho9 := Lib.hid ((Ho5.out.set_other (B' := w2.heap.size) (fun e => by have := Hol.out _ e; omega) 0 (.int .i64 z)).mono (by omega : w.heap.size ≤ w1.heap.size))
    have Hb9 := Lib.hid (hb5.setCell (p := ⟨w2.heap.size, 0, none⟩) (by simp only; omega) (.int .i64 z))
    clear sX sX' hb5
    go_wp2_with fail
    generalize w5.setCell ⟨w2.heap.size, 0, none⟩ (.int .i64 z) = w9 at *
    clear f0 k0
    have n1 : (Value.slice ac c.length cc).ownBlock ≠ some w.heap.size := fun e => by have := Hcl.out _ e; omega
    have n2 : (Value.slice ak keys.length ck).ownBlock ≠ some w.heap.size := fun e => by have := Hkl.out _ e; omega
    have n3 : (Value.slice av ms.length cv).ownBlock ≠ some w.heap.size := fun e => by have := Hol.out _ e; omega
    have f0 := HR9.out.frozen 0
    have f1 := HR9.out.frozen 1
    have f2 := HR9.out.frozen 2
    have j0 := HR9.out.cell 0 rfl
    have j1 := HR9.out.cell 1 rfl
    have j2 := HR9.out.cell 2 rfl
    have k0 := HX9.out.cell 0 (v := .int .i64 z) rfl
    have k1 := HX9.out.cell 1 (v := .slice av ms.length cv) rfl
    have k2 := HX9.out.cell 2 (v := .int .i64 s) rfl
    have hneX : w.heap.size ≠ w2.heap.size := by omega
    go_region
    have sF := ((HR9.out.set 0 (.int .i64 z)).set 1 (.slice av ms.length cv)).set 2 (.int .i64 s)
    have e0 := sF.cell 0 (v := .int .i64 z) rfl
    have e1 := sF.cell 1 (v := .slice av ms.length cv) rfl
    have e2 := sF.cell 2 (v := .int .i64 s) rfl
    clear sF
    go_wp2
    refine bodyPost_ret (v := .tuple #[.slice ac c.length cc, .slice ak keys.length ck, .agg #[.int .i64 z, .slice av ms.length cv, .int .i64 s]]) (by simp [results, Try.f18, go_sem, e0, e1, e2]) rfl ?_
    exact ⟨_, c, _, keys, _, _, ms, _, rfl, ((Hc9.out.set_other n1 0 _).set_other n1 1 _).set_other n1 2 _, by first | omega | (simp; omega), ((Hk9.out.set_other n2 0 _).set_other n2 1 _).set_other n2 2 _, by first | exact Hlk.out | (rw [List.length_set]; exact Hlk.out), ((Ho9.out.set_other n3 0 _).set_other n3 1 _).set_other n3 2 _, by omega, ((Hb9.out.setCell (p := ⟨w.heap.size, 0, none⟩) (Nat.le_refl _) _).setCell (p := ⟨w.heap.size, 1, none⟩) (Nat.le_refl _) _).setCell (p := ⟨w.heap.size, 2, none⟩) (Nat.le_refl _) _ |>.drew⟩
  have k0' : (k == 0) = false := by rw [beq_eq_false_iff_ne]; exact k0
  by_cases k1 : k = 1
  · subst k1
    go_wp2_with fail
    refine (drawMembers R (p2 + 1) c.length _ (by omega) (by omega) Hr4.out (by omega)).mono ?_
    rintro e w5 ⟨vm, ms2, p5, rfl, hom, hm2, _, _, hg5⟩
    obtain ⟨am, cm, rfl, _, _⟩ := hom.ints
    have hz5 := hg5.size
    have HR5 := Lib.hid (HR4.out.kept hg5 (fun e => by injection e with e; omega))
    have sX := HX4.out.kept hg5 (fun e => by injection e with e; omega)
    have Hc5 := Lib.hid (Hc4.out.kept hg5 (.inr (fun e => by have := Hcl.out _ e; omega)))
    have Hk5 := Lib.hid (Hk4.out.kept hg5 (.inr (fun e => by have := Hkl.out _ e; omega)))
    have Ho5 := Lib.hid (Ho4.out.kept hg5 (.inr (fun e => by have := Hol.out _ e; omega)))
    have Hg5 := Lib.hid (grownBy_trans Hg4.out hg5)
    clear hg5
    have f1 := sX.frozen 1
    have k1 := sX.cell 1 (v := .slice av ms.length cv) rfl
    have sX' := sX.set 1 (.slice am ms2.length cm)
    have hb5 := Hb1.out.trans (below_of_row' Hg5.out (by omega) (by omega))
    have HR9 := Lib.hid (HR5.out.other (by omega : w.heap.size ≠ w2.heap.size) 1 (.slice am ms2.length cm))
    have HX9 := Lib.hid sX'
    have Hc9 := Lib.hid ((Hc5.out.set_other (B' := w2.heap.size) (fun e => by have := Hcl.out _ e; omega) 1 (.slice am ms2.length cm)).mono (by omega : w.heap.size ≤ w1.heap.size))
    have Hk9 := Lib.hid ((Hk5.out.set_other (B' := w2.heap.size) (fun e => by have := Hkl.out _ e; omega) 1 (.slice am ms2.length cm)).mono (by omega : w.heap.size ≤ w1.heap.size))
    have Ho9 := Lib.hid ((hom.set_other (B' := w2.heap.size) (fun e => by have := (hom.lt _ e).1; omega) 1 (.slice am ms2.length cm)).mono (by omega : w.heap.size ≤ w4.heap.size))
    have Hb9 := Lib.hid (hb5.setCell (p := ⟨w2.heap.size, 1, none⟩) (by simp only; omega) (.slice am ms2.length cm))
    clear sX sX' hb5
    go_wp2_with fail
    generalize w5.setCell ⟨w2.heap.size, 1, none⟩ (.slice am ms2.length cm) = w9 at *
    clear f1 k1
    have n1 : (Value.slice ac c.length cc).ownBlock ≠ some w.heap.size := fun e => by have := Hcl.out _ e; omega
    have n2 : (Value.slice ak keys.length ck).ownBlock ≠ some w.heap.size := fun e => by have := Hkl.out _ e; omega
    have n3 : (Value.slice am ms2.length cm).ownBlock ≠ some w.heap.size := fun e => by have := (hom.lt _ e).1; omega
    clear hom
    have f0 := HR9.out.frozen 0
    have f1 := HR9.out.frozen 1
    have f2 := HR9.out.frozen 2
    have j0 := HR9.out.cell 0 rfl
    have j1 := HR9.out.cell 1 rfl
    have j2 := HR9.out.cell 2 rfl
    have k0 := HX9.out.cell 0 (v := .int .i64 d) rfl
    have k1 := HX9.out.cell 1 (v := .slice am ms2.length cm) rfl
    have k2 := HX9.out.cell 2 (v := .int .i64 s) rfl
    have hneX : w.heap.size ≠ w2.heap.size := by omega
    go_region
    have sF := ((HR9.out.set 0 (.int .i64 d)).set 1 (.slice am ms2.length cm)).set 2 (.int .i64 s)
    have e0 := sF.cell 0 (v := .int .i64 d) rfl
    have e1 := sF.cell 1 (v := .slice am ms2.length cm) rfl
    have e2 := sF.cell 2 (v := .int .i64 s) rfl
    clear sF
    go_wp2
    refine bodyPost_ret (v := .tuple #[.slice ac c.length cc, .slice ak keys.length ck, .agg #[.int .i64 d, .slice am ms2.length cm, .int .i64 s]]) (by simp [results, Try.f18, go_sem, e0, e1, e2]) rfl ?_
    exact ⟨_, c, _, keys, _, _, ms2, _, rfl, ((Hc9.out.set_other n1 0 _).set_other n1 1 _).set_other n1 2 _, by first | omega | (simp; omega), ((Hk9.out.set_other n2 0 _).set_other n2 1 _).set_other n2 2 _, by first | exact Hlk.out | (rw [List.length_set]; exact Hlk.out), ((Ho9.out.set_other n3 0 _).set_other n3 1 _).set_other n3 2 _, by omega, ((Hb9.out.setCell (p := ⟨w.heap.size, 0, none⟩) (Nat.le_refl _) _).setCell (p := ⟨w.heap.size, 1, none⟩) (Nat.le_refl _) _).setCell (p := ⟨w.heap.size, 2, none⟩) (Nat.le_refl _) _ |>.drew⟩
  have k1' : (k == 1) = false := by rw [beq_eq_false_iff_ne]; exact k1
  by_cases k2 : k = 2
  · subst k2
    go_wp2_with fail
    refine (drawKey R (p2 + 1) _ (by omega) Hr4.out).mono ?_
    rintro e w5 ⟨z, p5, rfl, hza, hzb, _, _, hg5⟩
    have hz5 := hg5.size
    have HR5 := Lib.hid (HR4.out.kept hg5 (fun e => by injection e with e; omega))
    have sX := HX4.out.kept hg5 (fun e => by injection e with e; omega)
    have Hc5 := Lib.hid (Hc4.out.kept hg5 (.inr (fun e => by have := Hcl.out _ e; omega)))
    have Hk5 := Lib.hid (Hk4.out.kept hg5 (.inr (fun e => by have := Hkl.out _ e; omega)))
    have Ho5 := Lib.hid (Ho4.out.kept hg5 (.inr (fun e => by have := Hol.out _ e; omega)))
    have Hg5 := Lib.hid (grownBy_trans Hg4.out hg5)
    clear hg5
    have f2 := sX.frozen 2
    have k2 := sX.cell 2 (v := .int .i64 s) rfl
    have sX' := sX.set 2 (.int .i64 (z - 1))
    have hb5 := Hb1.out.trans (below_of_row' Hg5.out (by omega) (by omega))
    have HR9 := Lib.hid (HR5.out.other (by omega : w.heap.size ≠ w2.heap.size) 2 (.int .i64 (z - 1)))
    have HX9 := Lib.hid sX'
    have Hc9 := Lib.hid ((Hc5.out.set_other (B' := w2.heap.size) (fun e => by have := Hcl.out _ e; omega) 2 (.int .i64 (z - 1))).mono (by omega : w.heap.size ≤ w1.heap.size))
    have Hk9 := Lib.hid ((Hk5.out.set_other (B' := w2.heap.size) (fun e => by have := Hkl.out _ e; omega) 2 (.int .i64 (z - 1))).mono (by omega : w.heap.size ≤ w1.heap.size))
    have Ho9 := Lib.hid ((Ho5.out.set_other (B' := w2.heap.size) (fun e => by have := Hol.out _ e; omega) 2 (.int .i64 (z - 1))).mono (by omega : w.heap.size ≤ w1.heap.size))
    have Hb9 := Lib.hid (hb5.setCell (p := ⟨w2.heap.size, 2, none⟩) (by simp only; omega) (.int .i64 (z - 1)))
    clear sX sX' hb5
    go_wp2_with fail
    generalize w5.setCell ⟨w2.heap.size, 2, none⟩ (.int .i64 (z - 1)) = w9 at *
    clear f2 k2
    have n1 : (Value.slice ac c.length cc).ownBlock ≠ some w.heap.size := fun e => by have := Hcl.out _ e; omega
    have n2 : (Value.slice ak keys.length ck).ownBlock ≠ some w.heap.size := fun e => by have := Hkl.out _ e; omega
    have n3 : (Value.slice av ms.length cv).ownBlock ≠ some w.heap.size := fun e => by have := Hol.out _ e; omega
    have f0 := HR9.out.frozen 0
    have f1 := HR9.out.frozen 1
    have f2 := HR9.out.frozen 2
    have j0 := HR9.out.cell 0 rfl
    have j1 := HR9.out.cell 1 rfl
    have j2 := HR9.out.cell 2 rfl
    have k0 := HX9.out.cell 0 (v := .int .i64 d) rfl
    have k1 := HX9.out.cell 1 (v := .slice av ms.length cv) rfl
    have k2 := HX9.out.cell 2 (v := .int .i64 (z - 1)) rfl
    have hneX : w.heap.size ≠ w2.heap.size := by omega
    go_region
    have sF := ((HR9.out.set 0 (.int .i64 d)).set 1 (.slice av ms.length cv)).set 2 (.int .i64 (z - 1))
    have e0 := sF.cell 0 (v := .int .i64 d) rfl
    have e1 := sF.cell 1 (v := .slice av ms.length cv) rfl
    have e2 := sF.cell 2 (v := .int .i64 (z - 1)) rfl
    clear sF
    go_wp2
    refine bodyPost_ret (v := .tuple #[.slice ac c.length cc, .slice ak keys.length ck, .agg #[.int .i64 d, .slice av ms.length cv, .int .i64 (z - 1)]]) (by simp [results, Try.f18, go_sem, e0, e1, e2]) rfl ?_
    exact ⟨_, c, _, keys, _, _, ms, _, rfl, ((Hc9.out.set_other n1 0 _).set_other n1 1 _).set_other n1 2 _, by first | omega | (simp; omega), ((Hk9.out.set_other n2 0 _).set_other n2 1 _).set_other n2 2 _, by first | exact Hlk.out | (rw [List.length_set]; exact Hlk.out), ((Ho9.out.set_other n3 0 _).set_other n3 1 _).set_other n3 2 _, by omega, ((Hb9.out.setCell (p := ⟨w.heap.size, 0, none⟩) (Nat.le_refl _) _).setCell (p := ⟨w.heap.size, 1, none⟩) (Nat.le_refl _) _).setCell (p := ⟨w.heap.size, 2, none⟩) (Nat.le_refl _) _ |>.drew⟩
  have k2' : (k == 2) = false := by rw [beq_eq_false_iff_ne]; exact k2
  by_cases k3 : k = 3
  · subst k3
    have hkpos : 0 < keys.length := by have := Hlk.out; omega
    have hkb : keys.length ≤ 11 := by have := Hlk.out; omega
    go_wp2_with fail
    refine (pick_any R keys.length (p2 + 1) _ (by omega) Hr4.out (by omega)).mono ?_
    rintro e w5 ⟨j, rfl, hj0, hj1, hr5, hg5⟩
    have Hr5 := Lib.hid hr5; clear hr5
    have hz5 := hg5.size
    obtain ⟨j, rfl⟩ := Int.eq_ofNat_of_zero_le hj0
    have hjl : j < keys.length := by omega
    go_wp2_with fail
    refine (drawKey R (p2 + 1 + 1) _ (by omega) Hr5.out).mono ?_
    rintro e w6 ⟨z, p6, rfl, _, _, _, _, hg6⟩
    have hg46 := grownBy_trans hg5 hg6
    have hz6 := hg46.size
    have HR6 := Lib.hid (HR4.out.kept hg46 (fun e => by injection e with e; omega))
    have sX := HX4.out.kept hg46 (fun e => by injection e with e; omega)
    have Hc6 := Lib.hid (Hc4.out.kept hg46 (.inr (fun e => by have := Hcl.out _ e; omega)))
    have Hk6 := Lib.hid (Hk4.out.kept hg46 (.inr (fun e => by have := Hkl.out _ e; omega)))
    have Ho6 := Lib.hid (Ho4.out.kept hg46 (.inr (fun e => by have := Hol.out _ e; omega)))
    have Hg6 := Lib.hid (grownBy_trans Hg4.out hg46)
    have hsz6 := hg6.size
    clear hg5 hg6 hg46
    obtain ⟨g, cg, hv, hgB, hgs, hcg, hcells, hfz⟩ := Hk6.out.row (by omega)
    simp only [Value.slice.injEq] at hv
    obtain ⟨rfl, hlv, rfl⟩ := hv
    clear hlv
    have hcj := hcells j hjl
    have hfj := hfz j
    have Hst := Lib.hid (Hk6.out.store rfl j z)
    clear hcells hfz
    have hgg := Hst.out.2
    have HX9 := Lib.hid (sX.kept hgg (fun e => by have := Hkl.out g rfl; injection e with e; omega))
    have HR9 := Lib.hid (HR6.out.kept hgg (fun e => by have := Hkl.out g rfl; injection e with e; omega))
    have Hk9 := Lib.hid (Hst.out.1.mono (by omega : w.heap.size ≤ w1.heap.size))
    have Hc9 := Lib.hid ((Hc6.out.kept hgg (.inr (fun e => by have h1 := HM.out _ e; have h2 := HK.out g rfl; omega))).mono (by omega : w.heap.size ≤ w1.heap.size))
    have Ho9 := Lib.hid ((Ho6.out.kept hgg (.inr (fun e => by have h1 := HN.out _ e; have h2 := HK.out g rfl; omega))).mono (by omega : w.heap.size ≤ w1.heap.size))
    have Hb9 := Lib.hid ((Hb1.out.trans (below_of_row' Hg6.out (by omega) (by omega))).grown hgg (by omega) (fun g' e => by injection e with e; have := Hkl.out g rfl; omega))
    clear hgg sX Hst
    go_wp2_with fail
    generalize w6.setCell ⟨g, j, none⟩ (.int .i64 z) = w9 at *
    clear hcj hfj
    have n1 : (Value.slice ac c.length cc).ownBlock ≠ some w.heap.size := fun e => by have := Hcl.out _ e; omega
    have n2 : (Value.slice (some ⟨g, 0, none⟩) keys.length ck).ownBlock ≠ some w.heap.size := fun e => by have := Hkl.out _ e; omega
    have n3 : (Value.slice av ms.length cv).ownBlock ≠ some w.heap.size := fun e => by have := Hol.out _ e; omega
    have f0 := HR9.out.frozen 0
    have f1 := HR9.out.frozen 1
    have f2 := HR9.out.frozen 2
    have j0 := HR9.out.cell 0 rfl
    have j1 := HR9.out.cell 1 rfl
    have j2 := HR9.out.cell 2 rfl
    have k0 := HX9.out.cell 0 (v := .int .i64 d) rfl
    have k1 := HX9.out.cell 1 (v := .slice av ms.length cv) rfl
    have k2 := HX9.out.cell 2 (v := .int .i64 s) rfl
    have hneX : w.heap.size ≠ w2.heap.size := by omega
    go_region
    have sF := ((HR9.out.set 0 (.int .i64 d)).set 1 (.slice av ms.length cv)).set 2 (.int .i64 s)
    have e0 := sF.cell 0 (v := .int .i64 d) rfl
    have e1 := sF.cell 1 (v := .slice av ms.length cv) rfl
    have e2 := sF.cell 2 (v := .int .i64 s) rfl
    clear sF
    go_wp2
    refine bodyPost_ret (v := .tuple #[.slice ac c.length cc, .slice (some ⟨g, 0, none⟩) keys.length ck, .agg #[.int .i64 d, .slice av ms.length cv, .int .i64 s]]) (by simp [results, Try.f18, go_sem, e0, e1, e2]) rfl ?_
    exact ⟨_, c, _, (keys.set j z), _, _, ms, _, rfl, ((Hc9.out.set_other n1 0 _).set_other n1 1 _).set_other n1 2 _, by first | omega | (simp; omega), ((Hk9.out.set_other n2 0 _).set_other n2 1 _).set_other n2 2 _, by first | exact Hlk.out | (rw [List.length_set]; exact Hlk.out), ((Ho9.out.set_other n3 0 _).set_other n3 1 _).set_other n3 2 _, by omega, ((Hb9.out.setCell (p := ⟨w.heap.size, 0, none⟩) (Nat.le_refl _) _).setCell (p := ⟨w.heap.size, 1, none⟩) (Nat.le_refl _) _).setCell (p := ⟨w.heap.size, 2, none⟩) (Nat.le_refl _) _ |>.drew⟩
  have k3' : (k == 3) = false := by rw [beq_eq_false_iff_ne]; exact k3
  by_cases k4 : k = 4
  · subst k4
    have hkpos : 0 < keys.length := by have := Hlk.out; omega
    have hkb : keys.length ≤ 11 := by have := Hlk.out; omega
    go_wp2_with fail
    refine (pick_any R c.length (p2 + 1) _ (by omega) Hr4.out (by omega)).mono ?_
    rintro e w5 ⟨j, rfl, hj0, hj1, hr5, hg5⟩
    have Hr5 := Lib.hid hr5; clear hr5
    have hz5 := hg5.size
    obtain ⟨j, rfl⟩ := Int.eq_ofNat_of_zero_le hj0
    have hjl : j < c.length := by omega
    go_wp2_with fail
    refine (pick_any R 11 (p2 + 1 + 1) _ (by omega) Hr5.out (by omega)).mono ?_
    rintro e w6 ⟨z, rfl, _, _, _, hg6⟩
    have hg46 := grownBy_trans hg5 hg6
    have hz6 := hg46.size
    have HR6 := Lib.hid (HR4.out.kept hg46 (fun e => by injection e with e; omega))
    have sX := HX4.out.kept hg46 (fun e => by injection e with e; omega)
    have Hc6 := Lib.hid (Hc4.out.kept hg46 (.inr (fun e => by have := Hcl.out _ e; omega)))
    have Hk6 := Lib.hid (Hk4.out.kept hg46 (.inr (fun e => by have := Hkl.out _ e; omega)))
    have Ho6 := Lib.hid (Ho4.out.kept hg46 (.inr (fun e => by have := Hol.out _ e; omega)))
    have Hg6 := Lib.hid (grownBy_trans Hg4.out hg46)
    have hsz6 := hg6.size
    clear hg5 hg6 hg46
    obtain ⟨g, cg, hv, hgB, hgs, hcg, hcells, hfz⟩ := Hc6.out.row (by omega)
    simp only [Value.slice.injEq] at hv
    obtain ⟨rfl, hlv, rfl⟩ := hv
    clear hlv
    have hcj := hcells j hjl
    have hfj := hfz j
    have Hst := Lib.hid (Hc6.out.store rfl j z)
    clear hcells hfz
    have hgg := Hst.out.2
    have HX9 := Lib.hid (sX.kept hgg (fun e => by have := Hcl.out g rfl; injection e with e; omega))
    have HR9 := Lib.hid (HR6.out.kept hgg (fun e => by have := Hcl.out g rfl; injection e with e; omega))
    have Hc9 := Lib.hid (Hst.out.1.mono (by omega : w.heap.size ≤ w1.heap.size))
    have Hk9 := Lib.hid ((Hk6.out.kept hgg (.inr (fun e => by have h1 := HK.out _ e; have h2 := HM.out g rfl; omega))).mono (by omega : w.heap.size ≤ w1.heap.size))
    have Ho9 := Lib.hid ((Ho6.out.kept hgg (.inr (fun e => by have h1 := HN.out _ e; have h2 := HM.out g rfl; omega))).mono (by omega : w.heap.size ≤ w1.heap.size))
    have Hb9 := Lib.hid ((Hb1.out.trans (below_of_row' Hg6.out (by omega) (by omega))).grown hgg (by omega) (fun g' e => by injection e with e; have := Hcl.out g rfl; omega))
    clear hgg sX Hst
    go_wp2_with fail
    generalize w6.setCell ⟨g, j, none⟩ (.int .i64 z) = w9 at *
    clear hcj hfj
    have n1 : (Value.slice (some ⟨g, 0, none⟩) c.length cc).ownBlock ≠ some w.heap.size := fun e => by have := Hcl.out _ e; omega
    have n2 : (Value.slice ak keys.length ck).ownBlock ≠ some w.heap.size := fun e => by have := Hkl.out _ e; omega
    have n3 : (Value.slice av ms.length cv).ownBlock ≠ some w.heap.size := fun e => by have := Hol.out _ e; omega
    have f0 := HR9.out.frozen 0
    have f1 := HR9.out.frozen 1
    have f2 := HR9.out.frozen 2
    have j0 := HR9.out.cell 0 rfl
    have j1 := HR9.out.cell 1 rfl
    have j2 := HR9.out.cell 2 rfl
    have k0 := HX9.out.cell 0 (v := .int .i64 d) rfl
    have k1 := HX9.out.cell 1 (v := .slice av ms.length cv) rfl
    have k2 := HX9.out.cell 2 (v := .int .i64 s) rfl
    have hneX : w.heap.size ≠ w2.heap.size := by omega
    go_region
    have sF := ((HR9.out.set 0 (.int .i64 d)).set 1 (.slice av ms.length cv)).set 2 (.int .i64 s)
    have e0 := sF.cell 0 (v := .int .i64 d) rfl
    have e1 := sF.cell 1 (v := .slice av ms.length cv) rfl
    have e2 := sF.cell 2 (v := .int .i64 s) rfl
    clear sF
    go_wp2
    refine bodyPost_ret (v := .tuple #[.slice (some ⟨g, 0, none⟩) c.length cc, .slice ak keys.length ck, .agg #[.int .i64 d, .slice av ms.length cv, .int .i64 s]]) (by simp [results, Try.f18, go_sem, e0, e1, e2]) rfl ?_
    exact ⟨_, (c.set j z), _, keys, _, _, ms, _, rfl, ((Hc9.out.set_other n1 0 _).set_other n1 1 _).set_other n1 2 _, by first | omega | (simp; omega), ((Hk9.out.set_other n2 0 _).set_other n2 1 _).set_other n2 2 _, by first | exact Hlk.out | (rw [List.length_set]; exact Hlk.out), ((Ho9.out.set_other n3 0 _).set_other n3 1 _).set_other n3 2 _, by omega, ((Hb9.out.setCell (p := ⟨w.heap.size, 0, none⟩) (Nat.le_refl _) _).setCell (p := ⟨w.heap.size, 1, none⟩) (Nat.le_refl _) _).setCell (p := ⟨w.heap.size, 2, none⟩) (Nat.le_refl _) _ |>.drew⟩
  have k4' : (k == 4) = false := by rw [beq_eq_false_iff_ne]; exact k4
  have HR9 := HR4
  have HX9 := HX4
  have Hc9 := Lib.hid (Hc4.out.mono (by omega : w.heap.size ≤ w1.heap.size))
  have Hk9 := Lib.hid (Hk4.out.mono (by omega : w.heap.size ≤ w1.heap.size))
  have Ho9 := Lib.hid (Ho4.out.mono (by omega : w.heap.size ≤ w1.heap.size))
  have Hb9 := Lib.hid (Hb1.out.trans (below_of_row' Hg4.out (by omega) (by omega)))
  go_wp2_with fail
  have n1 : (Value.slice ac c.length cc).ownBlock ≠ some w.heap.size := fun e => by have := Hcl.out _ e; omega
  have n2 : (Value.slice ak keys.length ck).ownBlock ≠ some w.heap.size := fun e => by have := Hkl.out _ e; omega
  have n3 : (Value.slice av ms.length cv).ownBlock ≠ some w.heap.size := fun e => by have := Hol.out _ e; omega
  have f0 := HR9.out.frozen 0
  have f1 := HR9.out.frozen 1
  have f2 := HR9.out.frozen 2
  have j0 := HR9.out.cell 0 rfl
  have j1 := HR9.out.cell 1 rfl
  have j2 := HR9.out.cell 2 rfl
  have k0 := HX9.out.cell 0 (v := .int .i64 d) rfl
  have k1 := HX9.out.cell 1 (v := .slice av ms.length cv) rfl
  have k2 := HX9.out.cell 2 (v := .int .i64 s) rfl
  have hneX : w.heap.size ≠ w2.heap.size := by omega
  go_region
  have sF := ((HR9.out.set 0 (.int .i64 d)).set 1 (.slice av ms.length cv)).set 2 (.int .i64 s)
  have e0 := sF.cell 0 (v := .int .i64 d) rfl
  have e1 := sF.cell 1 (v := .slice av ms.length cv) rfl
  have e2 := sF.cell 2 (v := .int .i64 s) rfl
  clear sF
  go_wp2
  refine bodyPost_ret (v := .tuple #[.slice ac c.length cc, .slice ak keys.length ck, .agg #[.int .i64 d, .slice av ms.length cv, .int .i64 s]]) (by simp [results, Try.f18, go_sem, e0, e1, e2]) rfl ?_
  exact ⟨_, c, _, keys, _, _, ms, _, rfl, ((Hc9.out.set_other n1 0 _).set_other n1 1 _).set_other n1 2 _, by first | omega | (simp; omega), ((Hk9.out.set_other n2 0 _).set_other n2 1 _).set_other n2 2 _, by first | exact Hlk.out | (rw [List.length_set]; exact Hlk.out), ((Ho9.out.set_other n3 0 _).set_other n3 1 _).set_other n3 2 _, by omega, ((Hb9.out.setCell (p := ⟨w.heap.size, 0, none⟩) (Nat.le_refl _) _).setCell (p := ⟨w.heap.size, 1, none⟩) (Nat.le_refl _) _).setCell (p := ⟨w.heap.size, 2, none⟩) (Nat.le_refl _) _ |>.drew⟩

end Go.Proofs.Ytilkiiflcdmnpab
