/- Texts that the laws of this folder share, one behind another; no conditions. -/
import Derived.Test.YteglefchkecfjaaBu0
import Derived.Test.YteglefchkecfjaaRows
import Derived.Deep.QuietTactic
import Derived.BigQuiet
import Derived.Deep.RegionHeld3
import Derived.Deep.RegionWith

/- What spec's CertMake answers, by a walk of its text: the certificate is that of plain functions on lists of numbers; conditions: a list that is read has fewer than 2^40 elements. -/
namespace Go.Proofs.Yteglefchkecfjaa
open Go.RowKit

theorem TIc : IntT Try.prog 26 3 := ⟨Try.underlying26, by kernel_rfl⟩

set_option maxHeartbeats 1000000 in
theorem spec_CertMake (ac : Option Addr) (capc : Nat) (c : List Int) (ak : Option Addr) (capk : Nat) (keys : List Int) (d : Int) (ag : Option Addr) (caps : Nat) (sigs : List Int) (w : World) (hn : c.length ≤ 1099511627776) (hnk : keys.length ≤ 1099511627776) (hns : sigs.length ≤ 1099511627776) (hc : IntsAt w ac c) (hk : IntsAt w ak keys) (hs : IntsAt w ag sigs) :
    Calls Try.prog 19 #[.slice ac c.length capc, .slice ak keys.length capk, .int .i64 d, .slice ag sigs.length caps] w fun e w' => ∃ v, e = .returned (.tuple #[.agg #[.int .i64 (cmD c keys d sigs), v, .int .i64 (cmS c keys d sigs)], .bool (cmB c keys d sigs)]) ∧ Own 3 w' w.heap.size v (cmL c keys d sigs) ∧ Below w.heap.size w w' := by
  have h1 := fun W (h : IntsAt W ac c) (h' : IntsAt W ak keys) => spec_l4Keys ac capc c ak capk keys W hn hnk h h'
  have h2 := fun W => spec_l2Digest d W
  have hb0 : Below w.heap.size w (((w.alloc (.cells #[.int .i64 0, .slice none 0 0, .int .i64 0] 37)).alloc (.cells #[] 3)).alloc (.cells #[.int .i64 d, .slice (some ⟨w.heap.size + 1, 0, none⟩) 0 0, .int .i64 0] 37)) :=
    (((Below.refl _ _).alloc (Nat.le_refl _) _).alloc (by simp) _).alloc (by simp; omega) _
  have sR : Str (((w.alloc (.cells #[.int .i64 0, .slice none 0 0, .int .i64 0] 37)).alloc (.cells #[] 3)).alloc (.cells #[.int .i64 d, .slice (some ⟨w.heap.size + 1, 0, none⟩) 0 0, .int .i64 0] 37)) w.heap.size 37 #[.int .i64 0, .slice none 0 0, .int .i64 0] := ((Str.new w _ _).alloc _).alloc _
  have sX : Str (((w.alloc (.cells #[.int .i64 0, .slice none 0 0, .int .i64 0] 37)).alloc (.cells #[] 3)).alloc (.cells #[.int .i64 d, .slice (some ⟨w.heap.size + 1, 0, none⟩) 0 0, .int .i64 0] 37)) (w.heap.size + 1 + 1) 37 #[.int .i64 d, .slice (some ⟨w.heap.size + 1, 0, none⟩) 0 0, .int .i64 0] := by
    rw [← (by simp : ((w.alloc (.cells #[.int .i64 0, .slice none 0 0, .int .i64 0] 37)).alloc (.cells #[] 3)).heap.size = w.heap.size + 1 + 1)]
    exact Str.new _ _ _
  have ho : Own 3 (((w.alloc (.cells #[.int .i64 0, .slice none 0 0, .int .i64 0] 37)).alloc (.cells #[] 3)).alloc (.cells #[.int .i64 d, .slice (some ⟨w.heap.size + 1, 0, none⟩) 0 0, .int .i64 0] 37)) w.heap.size (.slice (some ⟨w.heap.size + 1, 0, none⟩) 0 0) [] := by
    have h := own_empty (B := w.heap.size) 3 (w.alloc (.cells #[.int .i64 0, .slice none 0 0, .int .i64 0] 37)) (by simp)
    rw [show (w.alloc (.cells #[.int .i64 0, .slice none 0 0, .int .i64 0] 37)).heap.size = w.heap.size + 1 by simp] at h
    exact h.alloc _
  have hlt0 := sR.lt
  have Hc := Lib.hid hc; clear hc
  have Hk := Lib.hid hk; clear hk
  have Hs := Lib.hid hs; clear hs
  have HR := Lib.hid sR; clear sR
  have HX := Lib.hid sX; clear sX
  have Ho := Lib.hid ho; clear ho
  have Hb0 := Lib.hid hb0; clear hb0
  have hno : ∀ {W : World} {v : Value}, cmB c keys d sigs = false → Str W w.heap.size 37 #[.int .i64 0, .slice none 0 0, .int .i64 0] → True := fun _ _ => trivial
  clear hno
  cases e0 : lkB c keys with
  | false =>
    rw [e0] at h1
    have H1 := Lib.hid h1; clear h1 h2
    have Hf := Lib.hid (show cmB c keys d sigs = false by unfold cmB; rw [e0]; rfl); clear e0
    go_enter Try.func19, Try.ntmps19
    go_wp2_with fail
    generalize (((w.alloc (.cells #[.int .i64 0, .slice none 0 0, .int .i64 0] 37)).alloc (.cells #[] 3)).alloc (.cells #[.int .i64 d, .slice (some ⟨w.heap.size + 1, 0, none⟩) 0 0, .int .i64 0] 37)) = W1 at *
    refine (H1.out _ (Hc.out.below Hb0.out) (Hk.out.below Hb0.out)).mono ?_
    rintro e w1 ⟨rfl, rfl⟩
    have f0 := HR.out.frozen 0
    have f1 := HR.out.frozen 1
    have f2 := HR.out.frozen 2
    have k0 := HR.out.cell 0 rfl
    have k1 := HR.out.cell 1 rfl
    have k2 := HR.out.cell 2 rfl
    have sF := ((HR.out.set 0 (.int .i64 0)).set 1 (.slice none 0 0)).set 2 (.int .i64 0)
    have e0 := sF.cell 0 (v := .int .i64 0) rfl
    have e1 := sF.cell 1 (v := .slice none 0 0) rfl
    have e2 := sF.cell 2 (v := .int .i64 0) rfl
    clear sF
    go_wp2
    refine bodyPost_ret (v := .tuple #[.agg #[.int .i64 0, .slice none 0 0, .int .i64 0], .bool false]) (by simp [results, Try.f19, go_sem, e0, e1, e2]) rfl ?_
    rw [(cm_no Hf.out).1, (cm_no Hf.out).2.1, (cm_no Hf.out).2.2, Hf.out]
    exact ⟨_, rfl, Own.nil _ _ _, ((Hb0.out.setCell (p := ⟨w.heap.size, 0, none⟩) (Nat.le_refl _) _).setCell (p := ⟨w.heap.size, 1, none⟩) (Nat.le_refl _) _).setCell (p := ⟨w.heap.size, 2, none⟩) (Nat.le_refl _) _⟩
  | true =>
  rw [e0] at h1
  have H1 := Lib.hid h1; clear h1
  cases e1 : digB d with
  | false =>
    rw [e1] at h2
    have H2 := Lib.hid h2; clear h2
    have Hf := Lib.hid (show cmB c keys d sigs = false by unfold cmB; rw [e1]; simp); clear e0 e1
    go_enter Try.func19, Try.ntmps19
    go_wp2_with fail
    generalize (((w.alloc (.cells #[.int .i64 0, .slice none 0 0, .int .i64 0] 37)).alloc (.cells #[] 3)).alloc (.cells #[.int .i64 d, .slice (some ⟨w.heap.size + 1, 0, none⟩) 0 0, .int .i64 0] 37)) = W1 at *
    refine (H1.out _ (Hc.out.below Hb0.out) (Hk.out.below Hb0.out)).mono ?_
    rintro e w1 ⟨rfl, rfl⟩
    go_wp2_with fail
    refine (H2.out _).mono ?_
    rintro e w1 ⟨rfl, rfl⟩
    have f0 := HR.out.frozen 0
    have f1 := HR.out.frozen 1
    have f2 := HR.out.frozen 2
    have k0 := HR.out.cell 0 rfl
    have k1 := HR.out.cell 1 rfl
    have k2 := HR.out.cell 2 rfl
    have sF := ((HR.out.set 0 (.int .i64 0)).set 1 (.slice none 0 0)).set 2 (.int .i64 0)
    have e0 := sF.cell 0 (v := .int .i64 0) rfl
    have e1 := sF.cell 1 (v := .slice none 0 0) rfl
    have e2 := sF.cell 2 (v := .int .i64 0) rfl
    clear sF
    go_wp2
    refine bodyPost_ret (v := .tuple #[.agg #[.int .i64 0, .slice none 0 0, .int .i64 0], .bool false]) (by simp [results, Try.f19, go_sem, e0, e1, e2]) rfl ?_
    rw [(cm_no Hf.out).1, (cm_no Hf.out).2.1, (cm_no Hf.out).2.2, Hf.out]
    exact ⟨_, rfl, Own.nil _ _ _, ((Hb0.out.setCell (p := ⟨w.heap.size, 0, none⟩) (Nat.le_refl _) _).setCell (p := ⟨w.heap.size, 1, none⟩) (Nat.le_refl _) _).setCell (p := ⟨w.heap.size, 2, none⟩) (Nat.le_refl _) _⟩
  | true =>
  rw [e1] at h2
  have H2 := Lib.hid h2; clear h2
  by_cases hl : sigs.length = c.length
  case neg =>
    have Hf := Lib.hid (show cmB c keys d sigs = false by unfold cmB; rw [decide_eq_false hl]; simp); clear e0 e1
    have hne : ((sigs.length : Int) != (c.length : Int)) = true := by rw [bne_iff_ne]; omega
    go_enter Try.func19, Try.ntmps19
    go_wp2_with fail
    generalize (((w.alloc (.cells #[.int .i64 0, .slice none 0 0, .int .i64 0] 37)).alloc (.cells #[] 3)).alloc (.cells #[.int .i64 d, .slice (some ⟨w.heap.size + 1, 0, none⟩) 0 0, .int .i64 0] 37)) = W1 at *
    refine (H1.out _ (Hc.out.below Hb0.out) (Hk.out.below Hb0.out)).mono ?_
    rintro e w1 ⟨rfl, rfl⟩
    go_wp2_with fail
    refine (H2.out _).mono ?_
    rintro e w1 ⟨rfl, rfl⟩
    have f0 := HR.out.frozen 0
    have f1 := HR.out.frozen 1
    have f2 := HR.out.frozen 2
    have k0 := HR.out.cell 0 rfl
    have k1 := HR.out.cell 1 rfl
    have k2 := HR.out.cell 2 rfl
    have sF := ((HR.out.set 0 (.int .i64 0)).set 1 (.slice none 0 0)).set 2 (.int .i64 0)
    have e0 := sF.cell 0 (v := .int .i64 0) rfl
    have e1 := sF.cell 1 (v := .slice none 0 0) rfl
    have e2 := sF.cell 2 (v := .int .i64 0) rfl
    clear sF
    go_wp2
    refine bodyPost_ret (v := .tuple #[.agg #[.int .i64 0, .slice none 0 0, .int .i64 0], .bool false]) (by simp [results, Try.f19, go_sem, e0, e1, e2]) rfl ?_
    rw [(cm_no Hf.out).1, (cm_no Hf.out).2.1, (cm_no Hf.out).2.2, Hf.out]
    exact ⟨_, rfl, Own.nil _ _ _, ((Hb0.out.setCell (p := ⟨w.heap.size, 0, none⟩) (Nat.le_refl _) _).setCell (p := ⟨w.heap.size, 1, none⟩) (Nat.le_refl _) _).setCell (p := ⟨w.heap.size, 2, none⟩) (Nat.le_refl _) _⟩
  have hne : ((sigs.length : Int) != (c.length : Int)) = false := by rw [bne_eq_false_iff_eq]; omega
  have hcm : cmB c keys d sigs = (allB (okSig keys sigs d) sigs.length && qB c (rangeF (sgnF sigs) sigs.length)) := by
    unfold cmB; rw [e0, e1, decide_eq_true hl]; rfl
  have Hcm := Lib.hid hcm; clear hcm
  have Hv := Lib.hid (lkB_iff e0).1
  have Hkl := Lib.hid (lkB_iff e0).2.1
  have Hl := Lib.hid hl; clear hl e0 e1
  have hcl := validB_len Hv.out
  go_enter Try.func19, Try.ntmps19
  go_wp2_with fail
  generalize (((w.alloc (.cells #[.int .i64 0, .slice none 0 0, .int .i64 0] 37)).alloc (.cells #[] 3)).alloc (.cells #[.int .i64 d, .slice (some ⟨w.heap.size + 1, 0, none⟩) 0 0, .int .i64 0] 37)) = W1 at *
  refine (H1.out _ (Hc.out.below Hb0.out) (Hk.out.below Hb0.out)).mono ?_
  rintro e w1 ⟨rfl, rfl⟩
  go_wp2_with fail
  refine (H2.out _).mono ?_
  rintro e w1 ⟨rfl, rfl⟩
  go_wp2_with fail
  clear hne
  go_loopw [11] (fun vi wr => ∃ (k : Nat) (v : Value), k ≤ c.length ∧ vi = .int .i64 k ∧ Upto (okSig keys sigs d) k ∧ Str wr w.heap.size 37 #[.int .i64 0, .slice none 0 0, .int .i64 0] ∧ Str wr (w.heap.size + 1 + 1) 37 #[.int .i64 d, v, .int .i64 (sgS sigs k)] ∧ Own 3 wr w.heap.size v (rangeF (sgnF sigs) k) ∧ (v.ownBlock ≠ some w.heap.size ∧ v.ownBlock ≠ some (w.heap.size + 1 + 1)) ∧ Below w.heap.size w wr) (fun vi _ => c.length - (intOf vi).toNat)
  case atStart => exact ⟨0, _, by omega, rfl, upto_zero _, HR.out, HX.out, Ho.out, ⟨by simp [Value.ownBlock], by simp [Value.ownBlock]⟩, Hb0.out⟩
  case round =>
    clear hlt0 HR HX Ho Hb0
    obtain ⟨k, v, hkk, rfl, hup, sR, sX, ho, hvb, hbel⟩ := hrel
    have HR := Lib.hid sR; clear sR
    have HX := Lib.hid sX; clear sX
    have Ho := Lib.hid ho; clear ho
    have Hvb := Lib.hid hvb; clear hvb
    have hsb := sgS_bd sigs k
    have hXl := HX.out.lt
    have hRl := HR.out.lt
    have hrl := rangeF_len (sgnF sigs) k
    by_cases hlt : k < c.length
    · have hlt2 : k < sigs.length := by rw [Hl.out]; exact hlt
      have hlt3 : k < keys.length := by rw [Hkl.out]; exact hlt
      obtain ⟨b, off, hag, hb, hcs⟩ := Hs.out.cell (by omega)
      have Hcs := Lib.hid (fun W (h : Below w.heap.size w W) => (h.cell (p := ⟨b, off + k, none⟩) hb).trans (hcs k hlt2))
      have hcell := Hcs.out _ hbel
      obtain ⟨b', off', hak, hb', hck⟩ := Hk.out.cell (by omega)
      have hcell2 := (hbel.cell (p := ⟨b', off' + k, none⟩) hb').trans (hck k hlt3)
      clear hcs hck
      have Hb := Lib.hid hbel; clear hbel
      by_cases h0 : sigs[k] = 0
      · have hz := okSig_zero (keys := keys) (d := d) (i := k) (sigs := sigs) (by rw [getD_get hlt2]; exact h0)
        have Hz := Lib.hid (And.intro (upto_step hup hz.1) (And.intro (rangeF_no (n := k) hz.2) (sgS_no hz.2)))
        clear hup hz hcell2
        rw [h0] at hcell
        subst hag
        clear h0
        go_wp2
        go_roundw
        case rel => exact ⟨k + 1, v, by omega, by go_num, Hz.out.1, HR.out, by rw [Hz.out.2.2]; exact HX.out, by rw [Hz.out.2.1]; exact Ho.out, Hvb.out, Hb.out⟩
        case measure => simp [intOf]; omega
      · obtain ⟨z1, z2⟩ := okSig_sc (keys := keys) (d := d) (i := k) (sigs := sigs) (by rw [getD_get hlt2]; exact h0)
        rw [getD_get hlt2, getD_get hlt3] at z1
        have hsc := fun W => spec_SignCheck keys[k] d sigs[k] W
        have hz0 : (sigs[k] == 0) = false := by rw [beq_eq_false_iff_ne]; exact h0
        cases e2 : scB keys[k] d sigs[k] with
        | false =>
          rw [e2] at hsc z1
          have Hsc := Lib.hid hsc; clear hsc
          have Hf := Lib.hid (cmB_bad (c := c) hlt2 z1)
          clear hup z1 z2 e2 h0
          subst hag hak
          generalize sigs[k] = x at *
          generalize keys[k] = y at *
          go_wp2_with fail
          go_quiet ((go_at_call 61; exact Calls.quiet_of_same (turned (Hsc.out _))))
          have HR2 := Lib.hid (show Str (wr.drewN nq) w.heap.size 37 #[.int .i64 0, .slice none 0 0, .int .i64 0] from HR.out)
          have Hb2 := Lib.hid (Hb.out.trans (Drawn.below ⟨nq, rfl⟩ _))
          generalize wr.drewN nq = wz at *
          have f0 := HR2.out.frozen 0
          have f1 := HR2.out.frozen 1
          have f2 := HR2.out.frozen 2
          have k0 := HR2.out.cell 0 rfl
          have k1 := HR2.out.cell 1 rfl
          have k2 := HR2.out.cell 2 rfl
          have sF := ((HR2.out.set 0 (.int .i64 0)).set 1 (.slice none 0 0)).set 2 (.int .i64 0)
          have e0 := sF.cell 0 (v := .int .i64 0) rfl
          have e1 := sF.cell 1 (v := .slice none 0 0) rfl
          have e2 := sF.cell 2 (v := .int .i64 0) rfl
          clear sF
          go_wp2
          refine bodyPost_ret (v := .tuple #[.agg #[.int .i64 0, .slice none 0 0, .int .i64 0], .bool false]) (by simp [results, Try.f19, go_sem, e0, e1, e2]) rfl ?_
          rw [(cm_no Hf.out).1, (cm_no Hf.out).2.1, (cm_no Hf.out).2.2, Hf.out]
          exact ⟨_, rfl, Own.nil _ _ _, ((Hb2.out.setCell (p := ⟨w.heap.size, 0, none⟩) (Nat.le_refl _) _).setCell (p := ⟨w.heap.size, 1, none⟩) (Nat.le_refl _) _).setCell (p := ⟨w.heap.size, 2, none⟩) (Nat.le_refl _) _⟩
        | true =>
          rw [e2] at hsc z1
          have Hsc := Lib.hid hsc; clear hsc
          have Hz := Lib.hid (And.intro (upto_step hup z1) (And.intro (rangeF_yes (n := k) z2) (sgS_yes z2)))
          have hxb := signB_bd (sc_args e2).2.2
          rw [getD_get hlt2] at Hz
          clear hup z1 z2 e2 h0
          subst hag hak
          generalize sigs[k] = x at *
          generalize keys[k] = y at *
          go_wp2_with fail
          go_quiet ((go_at_call 61; exact Calls.quiet_of_same (turned (Hsc.out _))))
          have HR2 := Lib.hid (show Str (wr.drewN nq) w.heap.size 37 #[.int .i64 0, .slice none 0 0, .int .i64 0] from HR.out)
          have sX2 := show Str (wr.drewN nq) (w.heap.size + 1 + 1) 37 #[.int .i64 d, v, .int .i64 (sgS sigs k)] from HX.out
          have Ho2 := Lib.hid (Ho.out.drewN nq)
          have Hb2 := Lib.hid (Hb.out.trans (Drawn.below ⟨nq, rfl⟩ _))
          have hBs : w.heap.size ≤ (wr.drewN nq).heap.size := Nat.le_of_lt hRl
          clear HR HX Ho Hb hcell hcell2
          generalize wr.drewN nq = wz at *
          have k1 := sX2.cell 1 (v := v) rfl
          have HX2 := Lib.hid sX2; clear sX2
          have hXl2 := HX2.out.lt
          go_wp2_with (at_builtin; refine wpList_push_at TIc rfl (.tmp 56) (.tmp 58) rfl w.heap.size v (rangeF (sgnF sigs) k) _ rfl Ho2.out (by omega) rfl hBs ?_; intro v2 w5 hown2 hg2 hat2; obtain ⟨g2, c2, rfl⟩ := own_succ hown2; have hs5 := hg2.size; have HX5 := Lib.hid (HX2.out.kept hg2 (fun e => Hvb.out.2 e.symm)); have HR5 := Lib.hid (HR2.out.kept hg2 (fun e => Hvb.out.1 e.symm)); have Hb5 := Lib.hid (Hb2.out.grown hg2 hBs (fun g e => (Ho2.out.lt g e).1)); have f1 := HX5.out.frozen 1; have k1 := HX5.out.cell 1 (v := v) rfl; have Hown2 := Lib.hid hown2; have Hat2 := Lib.hid hat2; clear hown2 hat2 hg2)
          have sX6 := HX5.out.set 1 (.slice (some ⟨g2, 0, none⟩) ((rangeF (sgnF sigs) k).length + 1) c2)
          have hb6 : Below w.heap.size w (w5.setCell ⟨w.heap.size + 1 + 1, 1, none⟩ (.slice (some ⟨g2, 0, none⟩) ((rangeF (sgnF sigs) k).length + 1) c2)) := Hb5.out.setCell (p := ⟨w.heap.size + 1 + 1, 1, none⟩) (by simp; omega) _
          have sR6 := HR5.out.other (by omega : w.heap.size ≠ w.heap.size + 1 + 1) 1 (.slice (some ⟨g2, 0, none⟩) ((rangeF (sgnF sigs) k).length + 1) c2)
          have hne2 : (Value.slice (some ⟨g2, 0, none⟩) ((rangeF (sgnF sigs) k).length + 1) c2).ownBlock ≠ some (w.heap.size + 1 + 1) ∧ (Value.slice (some ⟨g2, 0, none⟩) ((rangeF (sgnF sigs) k).length + 1) c2).ownBlock ≠ some w.heap.size := by
            rcases Hat2.out with e | ⟨g', e, hg'⟩
            · rw [e]; exact ⟨Hvb.out.2, Hvb.out.1⟩
            · rw [e]; exact ⟨fun h => by cases h; omega, fun h => by cases h; omega⟩
          have ho6 := Hown2.out.set_other hne2.1 1 (.slice (some ⟨g2, 0, none⟩) ((rangeF (sgnF sigs) k).length + 1) c2)
          have Hne2 := Lib.hid hne2; clear hne2
          clear HX5 HR5 Hb5 Hown2 Hat2 HR2 Ho2 Hb2 HX2 f1
          have hls : (rangeF (sgnF sigs) k ++ [(k : Int)]).length = (rangeF (sgnF sigs) k).length + 1 := by simp
          generalize w5.setCell ⟨w.heap.size + 1 + 1, 1, none⟩ (.slice (some ⟨g2, 0, none⟩) ((rangeF (sgnF sigs) k).length + 1) c2) = w6 at *
          have hcell := Hcs.out _ hb6
          have k2 := sX6.cell 2 (v := .int .i64 (sgS sigs k)) rfl
          have f2 := sX6.frozen 2
          have HX6 := Lib.hid sX6; clear sX6
          have HR6 := Lib.hid sR6; clear sR6
          have Ho6 := Lib.hid ho6; clear ho6
          have Hb6 := Lib.hid hb6; clear hb6
          generalize hsk : sgS sigs k = sk at *
          have Hsk := Lib.hid hsk; clear hsk
          go_region
          go_wp2
          go_roundw
          case rel =>
            refine ⟨k + 1, _, by omega, by go_num, Hz.out.1, HR6.out.other (by omega : w.heap.size ≠ w.heap.size + 1 + 1) 2 _, ?_, ?_, ⟨Hne2.out.2, Hne2.out.1⟩, (Hb6.out.setCell (p := ⟨w.heap.size + 1 + 1, 2, none⟩) (by simp; omega) _).drew⟩
            · rw [Hz.out.2.2]; exact HX6.out.set 2 _
            · rw [Hz.out.2.1]; exact Ho6.out.set_other Hne2.out.1 2 _
          case measure => simp [intOf]; omega
    · have hkc : k = c.length := by omega
      have hks : k = sigs.length := by rw [Hl.out]; exact hkc
      have hall := allB_yes hup (show sigs.length ≤ k by omega)
      have hcm := Hcm.out
      rw [hall, Bool.true_and, ← hks] at hcm
      have hmem : membersB c.length (rangeF (sgnF sigs) k) = true := by rw [← hkc]; exact of_ascP (ascP_rangeF _ _)
      have hwb := weightTo_bd Hv.out hmem _ (Nat.le_refl _)
      rw [show weightTo c (rangeF (sgnF sigs) k) (rangeF (sgnF sigs) k).length = weightZ c (rangeF (sgnF sigs) k) from rfl] at hwb
      have htb := totalZ_bd Hv.out
      obtain ⟨am, capm, rfl, him, _⟩ := Ho.out.ints
      have Hc2 := Lib.hid (Hc.out.below hbel)
      have hw := fun W (h : IntsAt W ac c) (h' : IntsAt W am (rangeF (sgnF sigs) k)) => spec_l1Weight ac capc c am capm _ W Hv.out hmem (by omega) h h'
      have hq := fun W (h : IntsAt W ac c) => spec_l1Quorum ac capc c W Hv.out h
      have Hw := Lib.hid hw; clear hw
      have Hq := Lib.hid hq; clear hq
      have Hi := Lib.hid him; clear him
      have Hb := Lib.hid hbel; clear hbel
      have k0 := HX.out.cell 0 rfl
      have k1 := HX.out.cell 1 rfl
      have k2 := HX.out.cell 2 rfl
      clear hup hall hmem H1 H2 Hcm
      cases hqb : qB c (rangeF (sgnF sigs) k) with
      | false =>
        rw [hqb] at hcm
        have Hf := Lib.hid hcm; clear hcm
        have hqd := hqb; unfold qB at hqd; rw [decide_eq_false_iff_not] at hqd
        have Hks := Lib.hid hks; clear hks hkc
        clear hqb
        go_wp2_with fail
        refine (Hw.out _ Hc2.out Hi.out).mono ?_
        rintro e w3 ⟨rfl, rfl⟩
        go_wp2_with fail
        refine (Hq.out _ Hc2.out).mono ?_
        rintro e w3 ⟨rfl, rfl⟩
        clear k0 k1 k2
        have f0 := HR.out.frozen 0
        have f1 := HR.out.frozen 1
        have f2 := HR.out.frozen 2
        have k0 := HR.out.cell 0 rfl
        have k1 := HR.out.cell 1 rfl
        have k2 := HR.out.cell 2 rfl
        have sF := ((HR.out.set 0 (.int .i64 0)).set 1 (.slice none 0 0)).set 2 (.int .i64 0)
        have e0 := sF.cell 0 (v := .int .i64 0) rfl
        have e1 := sF.cell 1 (v := .slice none 0 0) rfl
        have e2 := sF.cell 2 (v := .int .i64 0) rfl
        clear sF
        go_wp2
        refine bodyPost_ret (v := .tuple #[.agg #[.int .i64 0, .slice none 0 0, .int .i64 0], .bool false]) (by simp [results, Try.f19, go_sem, e0, e1, e2]) rfl ?_
        rw [(cm_no Hf.out).1, (cm_no Hf.out).2.1, (cm_no Hf.out).2.2, Hf.out]
        exact ⟨_, rfl, Own.nil _ _ _, ((Hb.out.setCell (p := ⟨w.heap.size, 0, none⟩) (Nat.le_refl _) _).setCell (p := ⟨w.heap.size, 1, none⟩) (Nat.le_refl _) _).setCell (p := ⟨w.heap.size, 2, none⟩) (Nat.le_refl _) _⟩
      | true =>
        rw [hqb] at hcm
        have Hf := Lib.hid hcm; clear hcm
        have hqd := hqb; unfold qB at hqd; rw [decide_eq_true_eq] at hqd
        have Hks := Lib.hid hks; clear hks hkc
        clear hqb
        go_wp2_with fail
        refine (Hw.out _ Hc2.out Hi.out).mono ?_
        rintro e w3 ⟨rfl, rfl⟩
        go_wp2_with fail
        refine (Hq.out _ Hc2.out).mono ?_
        rintro e w3 ⟨rfl, rfl⟩
        have f0 := HR.out.frozen 0
        have f1 := HR.out.frozen 1
        have f2 := HR.out.frozen 2
        have j0 := HR.out.cell 0 rfl
        have j1 := HR.out.cell 1 rfl
        have j2 := HR.out.cell 2 rfl
        have sF := ((HR.out.set 0 (.int .i64 d)).set 1 (.slice am (rangeF (sgnF sigs) k).length capm)).set 2 (.int .i64 (sgS sigs k))
        have e0 := sF.cell 0 (v := .int .i64 d) rfl
        have e1 := sF.cell 1 (v := .slice am (rangeF (sgnF sigs) k).length capm) rfl
        have e2 := sF.cell 2 (v := .int .i64 (sgS sigs k)) rfl
        clear sF
        go_wp2
        refine bodyPost_ret (v := .tuple #[.agg #[.int .i64 d, .slice am (rangeF (sgnF sigs) k).length capm, .int .i64 (sgS sigs k)], .bool true]) (by simp [results, Try.f19, go_sem, e0, e1, e2]) rfl ?_
        rw [(cm_yes Hf.out).1, (cm_yes Hf.out).2.1, (cm_yes Hf.out).2.2, Hf.out, ← Hks.out]
        exact ⟨_, rfl, ((Ho.out.set_other Hvb.out.1 0 _).set_other Hvb.out.1 1 _).set_other Hvb.out.1 2 _, ((Hb.out.setCell (p := ⟨w.heap.size, 0, none⟩) (Nat.le_refl _) _).setCell (p := ⟨w.heap.size, 1, none⟩) (Nat.le_refl _) _).setCell (p := ⟨w.heap.size, 2, none⟩) (Nat.le_refl _) _⟩

end Go.Proofs.Yteglefchkecfjaa

/- What impl's functions of digests and hash trees answer, each by a walk of its text: the answers are those of plain functions on lists; conditions: a list that is read has fewer than 2^40 elements and fits its capacity, the numbers are ints. -/
namespace Go.Proofs.Yteglefchkecfjaa
open Go.RowKit

theorem impl_isDigest (n : Int) (w : World) : Calls Try.prog 101 #[.int .i64 n] w fun e w' => e = .returned (.bool (digB n)) ∧ w = w' := by
  by_cases h : 0 ≤ n
  · have Hf := Lib.hid (show digB n = decide (n < 991) by unfold digB; rw [Bool.eq_iff_iff]; simp only [decide_eq_true_eq]; omega)
    go_enter Try.func101, Try.ntmps101
    go_wp2
    go_ret
    exact ⟨ret_bool Hf.out.symm, rfl⟩
  · have Hf := Lib.hid (show digB n = false by unfold digB; exact decide_eq_false (by omega))
    go_enter Try.func101, Try.ntmps101
    go_wp2
    go_ret
    exact ⟨ret_bool Hf.out.symm, rfl⟩

end Go.Proofs.Yteglefchkecfjaa

/- What impl's functions of keys and signatures answer, each by a walk of its text: the answers are those of plain functions on numbers; no conditions of our own. -/
namespace Go.Proofs.Yteglefchkecfjaa
open Go.RowKit

theorem impl_isSignNumber (n : Int) (w : World) : Calls Try.prog 116 #[.int .i64 n] w fun e w' => e = .returned (.bool (signB n)) ∧ w = w' := by
  by_cases h : 1 ≤ n
  · have Hf := Lib.hid (show signB n = decide (n < 997) by unfold signB; rw [Bool.eq_iff_iff]; simp only [decide_eq_true_eq]; omega)
    go_enter Try.func116, Try.ntmps116
    go_wp2
    go_ret
    exact ⟨ret_bool Hf.out.symm, rfl⟩
  · have Hf := Lib.hid (show signB n = false by unfold signB; exact decide_eq_false (by omega))
    go_enter Try.func116, Try.ntmps116
    go_wp2
    go_ret
    exact ⟨ret_bool Hf.out.symm, rfl⟩

theorem single_key (p s : Int) (w : World) : Calls Try.prog 145 #[.agg #[.int .i64 p, .int .i64 s]] w fun e w' => e = .returned (.int .i64 p) ∧ Below w.heap.size w w' := by
  go_enter Try.func145, Try.ntmps145
  go_wp2
  go_ret
  exact ⟨rfl, (Below.refl _ _).alloc (Nat.le_refl _) _⟩

theorem single_sum (p s : Int) (w : World) : Calls Try.prog 146 #[.agg #[.int .i64 p, .int .i64 s]] w fun e w' => e = .returned (.int .i64 s) ∧ Below w.heap.size w w' := by
  go_enter Try.func146, Try.ntmps146
  go_wp2
  go_ret
  exact ⟨rfl, (Below.refl _ _).alloc (Nat.le_refl _) _⟩

theorem asSS (v : Value) (w : World) : (Instr.typeAssert (.iface 109 v) 111 109 true).run Try.prog w = .ok (.tuple #[v, .bool true]) w := by kernel_rfl

theorem isComplete_single (p s : Int) (w : World) : Calls Try.prog 100 #[.iface 109 (.agg #[.int .i64 p, .int .i64 s])] w fun e w' => e = .returned (.bool (signB p && signB s)) ∧ Below w.heap.size w w' := by
  have h1 := fun w => impl_isSignNumber p w
  have h2 := fun w => impl_isSignNumber s w
  have hs := asSS
  cases hp : signB p with
  | false =>
    rw [hp] at h1
    have H1 := Lib.hid h1; clear h1 hp h2
    go_enter Try.func100, Try.ntmps100
    go_wp2_with fail
    refine (H1.out _).mono ?_
    rintro e w' ⟨rfl, rfl⟩
    go_wp2
    go_ret
    exact ⟨rfl, (Below.refl _ _).alloc (Nat.le_refl _) _⟩
  | true =>
    rw [hp] at h1
    have H1 := Lib.hid h1; clear h1 hp
    have H2 := Lib.hid h2; clear h2
    go_enter Try.func100, Try.ntmps100
    go_wp2_with fail
    refine (H1.out _).mono ?_
    rintro e w' ⟨rfl, rfl⟩
    go_wp2_with fail
    refine (H2.out _).mono ?_
    rintro e w' ⟨rfl, rfl⟩
    go_wp2
    go_ret
    exact ⟨rfl, (Below.refl _ _).alloc (Nat.le_refl _) _⟩

theorem sumS (n : Nat) (x : Value) (w : World) : (method (n + 1) 109 x "loop.example/dagconsensus/impl.sum").run Try.prog w = .ok (146, x) w := by kernel_rfl
theorem keyS (n : Nat) (x : Value) (w : World) : (method (n + 1) 109 x "loop.example/dagconsensus/impl.key").run Try.prog w = .ok (145, x) w := by kernel_rfl
theorem sumS' (x : Array Value) (w : World) : (callFunc 146 x).run Try.prog w = .ok (.enter 146 x) w := by kernel_rfl
theorem keyS' (x : Array Value) (w : World) : (callFunc 145 x).run Try.prog w = .ok (.enter 145 x) w := by kernel_rfl

theorem certifies_single (p d s : Int) (w : World) : Calls Try.prog 64 #[.iface 109 (.agg #[.int .i64 p, .int .i64 s]), .int .i64 d] w fun e w' => e = .returned (.bool (scB p d s)) ∧ Below w.heap.size w w' := by
  have h1 := isComplete_single p s w
  have h2 := fun w => impl_isDigest d w
  cases hc : (signB p && signB s) with
  | false =>
    have hf : scB p d s = false := by unfold scB; cases hp : signB p <;> cases hs : signB s <;> simp_all
    rw [hc] at h1
    have Hf := Lib.hid hf; clear hf
    have H1 := Lib.hid h1; clear h1 hc
    go_enter Try.func64, Try.ntmps64
    go_wp2_with fail
    refine H1.out.mono ?_
    rintro e w1 ⟨rfl, hb1⟩
    go_wp2
    go_ret
    exact ⟨ret_bool Hf.out.symm, hb1⟩
  | true =>
    rw [hc] at h1
    rw [Bool.and_eq_true] at hc
    obtain ⟨hp1, hp2⟩ := signB_bd hc.1
    obtain ⟨hs1, hs2⟩ := signB_bd hc.2
    cases hd : digB d with
    | false =>
      rw [hd] at h2
      have Hf := Lib.hid (show scB p d s = false by unfold scB; simp [hd])
      have H1 := Lib.hid h1; clear h1 hc
      have H2 := Lib.hid h2; clear h2 hd
      go_enter Try.func64, Try.ntmps64
      go_wp2_with fail
      refine H1.out.mono ?_
      rintro e w1 ⟨rfl, hb1⟩
      go_wp2_with fail
      refine (H2.out _).mono ?_
      rintro e w2 ⟨rfl, rfl⟩
      go_wp2
      go_ret
      exact ⟨ret_bool Hf.out.symm, hb1⟩
    | true =>
      rw [hd] at h2
      have hf : scB p d s = equB p d s := by unfold scB; rw [hc.1, hc.2, hd]; rfl
      obtain ⟨hd1, hd2⟩ := digB_bd hd
      have hpr := prod_sign (p := p) (d := d) (by omega) (by omega) hd1 hd2
      have Hf := Lib.hid hf; clear hf
      have H1 := Lib.hid h1; clear h1 hc
      have H2 := Lib.hid h2; clear h2 hd
      have i1 := sumS
      have i2 := keyS
      have i3 := sumS'
      have i4 := keyS'
      go_enter Try.func64, Try.ntmps64
      go_wp2_with fail
      refine H1.out.mono ?_
      rintro e w1 ⟨rfl, hb1⟩
      go_wp2_with fail
      refine (H2.out _).mono ?_
      rintro e w2 ⟨rfl, rfl⟩
      go_wp2_with fail
      refine (single_sum p s _).mono ?_
      rintro e w3 ⟨rfl, hb3⟩
      go_wp2_with fail
      refine (single_key p s _).mono ?_
      rintro e w4 ⟨rfl, hb4⟩
      go_wp2
      go_ret
      have hs1 := hb1.size
      have hs3 := hb3.size
      exact ⟨ret_bool (by rw [Hf.out]; unfold equB; rw [Bool.eq_iff_iff]; simp only [beq_iff_eq, decide_eq_true_eq]), below_step (below_step hb1 hs1 hb3) (by omega) hb4⟩

theorem impl_SignCheck (p d s : Int) (w : World) : Calls Try.prog 58 #[.int .i64 p, .int .i64 d, .int .i64 s] w fun e w' => e = .returned (.bool (scB p d s)) ∧ Below w.heap.size w w' := by
  have hm : ∀ x w, (Instr.makeInterface 109 x).run Try.prog w = .ok (.iface 109 x) w := fun x w => run_makeInterface w 109 x (by kernel_rfl)
  go_enter Try.func58, Try.ntmps58
  go_wp2_with fail
  refine (certifies_single p d s _).mono ?_
  rintro e w1 ⟨rfl, hb1⟩
  go_wp2
  go_ret
  exact ⟨rfl, hb1⟩

end Go.Proofs.Yteglefchkecfjaa

/- What impl's functions of certificates answer, each by a walk of its text: the answers are those of plain functions on lists of numbers; conditions: a list that is read has fewer than 2^40 elements. -/
namespace Go.Proofs.Yteglefchkecfjaa
open Go.RowKit

theorem impl_areSignNumbers (a : Option Addr) (cap : Nat) (l : List Int) (w : World) (hbig : l.length ≤ 1099511627776) (hc : IntsAt w a l) :
    Calls Try.prog 123 #[.slice a l.length cap] w fun e w' => e = .returned (.bool (l.all signB)) ∧ w = w' := by
  rcases hc.len with h0 | ⟨b, off, rfl, hb, hc⟩
  all_goals
    go_enter Try.func123, Try.ntmps123
    go_wp2
    go_loop [7] (fun i => ∃ k : Nat, k ≤ l.length ∧ i = .int .i64 k ∧ Pre signB l k) (fun i => l.length - (intOf i).toNat)
    case atStart => exact ⟨0, by omega, rfl, pre_zero _ _⟩
    case round =>
      obtain ⟨k, hk, rfl, hg⟩ := hrel
      by_cases hlt : k < l.length
      · first
        | (exfalso; omega)
        | (have hcell := hc k hlt
           have Hc := Lib.hid hc; clear hc
           have hd := impl_isSignNumber l[k] w
           by_cases h : signB l[k] = true
           · rw [h] at hd
             have Hd := Lib.hid hd; clear hd
             have Hs := Lib.hid (pre_step hg hlt h); clear hg h
             go_wp2_with fail
             refine Hd.out.mono ?_
             rintro e w' ⟨rfl, rfl⟩
             go_wp2
             go_round
             case rel => exact ⟨k + 1, by omega, by go_num, Hs.out⟩
             case measure => simp [intOf]; omega
           · rw [Bool.not_eq_true] at h
             rw [h] at hd
             have Hd := Lib.hid hd; clear hd
             have Hs := Lib.hid (pre_not hlt h); clear hg h
             go_wp2_with fail
             refine Hd.out.mono ?_
             rintro e w' ⟨rfl, rfl⟩
             go_wp2
             go_ret
             exact ⟨ret_bool Hs.out.symm, rfl⟩)
      · have Hs := Lib.hid (pre_all hg (by omega)); clear hg
        go_wp2
        go_ret
        exact ⟨ret_bool Hs.out.symm, rfl⟩

theorem joint_sum (ac : Option Addr) (capc : Nat) (c : List Int) (ak : Option Addr) (capk : Nat) (keys : List Int) (d : Int) (am : Option Addr) (capm : Nat) (ms : List Int) (s : Int) (w : World) : Calls Try.prog 143 #[.agg #[.slice ac c.length capc, .slice ak keys.length capk, .int .i64 d, .slice am ms.length capm, .int .i64 s]] w fun e w' => e = .returned (.int .i64 s) ∧ Below w.heap.size w w' := by
  go_enter Try.func143, Try.ntmps143
  go_wp2
  go_ret
  exact ⟨rfl, (Below.refl _ _).alloc (Nat.le_refl _) _⟩

theorem joint_key (ac : Option Addr) (capc : Nat) (c : List Int) (ak : Option Addr) (capk : Nat) (keys : List Int) (d : Int) (am : Option Addr) (capm : Nat) (ms : List Int) (s : Int) (w : World) (hlk : lkB c keys = true) (hmb : membersB c.length ms = true) (hk : IntsAt w ak keys) (hm : IntsAt w am ms) :
    Calls Try.prog 142 #[.agg #[.slice ac c.length capc, .slice ak keys.length capk, .int .i64 d, .slice am ms.length capm, .int .i64 s]] w fun e w' => e = .returned (.int .i64 (weightZ keys ms)) ∧ Below w.heap.size w w' := by
  have hb0 : Below w.heap.size w (w.alloc (.cells #[.slice ac c.length capc, .slice ak keys.length capk, .int .i64 d, .slice am ms.length capm, .int .i64 s] 84)) := (Below.refl _ _).alloc (Nat.le_refl _) _
  have s0 := Str.new w 84 #[.slice ac c.length capc, .slice ak keys.length capk, .int .i64 d, .slice am ms.length capm, .int .i64 s]
  have k1 := s0.cell 1 (v := .slice ak keys.length capk) rfl
  have k3 := s0.cell 3 (v := .slice am ms.length capm) rfl
  have hlt0 := s0.lt
  clear s0
  have Hk := Lib.hid (hk.below hb0); clear hk
  have Hm := Lib.hid (hm.below hb0); clear hm
  have Hkb := Lib.hid (fun k (h : k ≤ ms.length) => keySum_bd hlk hmb k h)
  have hml := members_len hmb
  have hcl := validB_len (lkB_iff hlk).1
  have Hat := Lib.hid (membersB_at hmb)
  have Hkl := Lib.hid (lkB_iff hlk).2.1
  have Hks := Lib.hid (fun i (h : i < c.length) => lkB_sign hlk i h)
  clear hlk hmb
  have Hb0 := Lib.hid hb0; clear hb0
  have hz : (w.alloc (.cells #[.slice ac c.length capc, .slice ak keys.length capk, .int .i64 d, .slice am ms.length capm, .int .i64 s] 84)).heap.size = w.heap.size + 1 := by simp
  go_enter Try.func142, Try.ntmps142
  go_wp2_with fail
  generalize w.alloc (.cells #[.slice ac c.length capc, .slice ak keys.length capk, .int .i64 d, .slice am ms.length capm, .int .i64 s] 84) = W1 at *
  clear hz
  go_loopw [3, 10] (fun vs vi wr => ∃ k : Nat, k ≤ ms.length ∧ vi = .int .i64 k ∧ vs = .int .i64 (weightTo keys ms k) ∧ wr = W1) (fun _ vi _ => ms.length - (intOf vi).toNat)
  case atStart => exact ⟨0, by omega, rfl, rfl, rfl⟩
  case round =>
    obtain ⟨k, hkk, rfl, rfl, rfl⟩ := hrel
    have hkb := Hkb.out k hkk
    by_cases hlt : k < ms.length
    · obtain ⟨b, off, rfl, hb, hmm⟩ := Hm.out.cell (by omega)
      have hcell := hmm k hlt
      have g := Hat.out k hlt
      obtain ⟨b', off', rfl, hb', hkc⟩ := Hk.out.cell (by have := Hkl.out; omega)
      have hcell2 := hkc ms[k].toNat (by have := Hkl.out; omega)
      have g2 := Hks.out ms[k].toNat (by omega)
      have hlk : ms[k].toNat < keys.length := by have := Hkl.out; omega
      have hlk2 : ms[k] < (keys.length : Int) := by have := Hkl.out; omega
      have e9 : weightTo keys ms (k + 1) = weightTo keys ms k + keys[ms[k].toNat] := by rw [weightTo_succ hlt, getD_get (by omega)]
      rw [getD_get (by omega)] at g2
      have He9 := Lib.hid e9; clear e9 hmm hkc
      go_wp2
      go_roundw
      case rel => exact ⟨k + 1, by omega, by go_num, int_eq He9.out.symm, by trivial⟩
      case measure => simp [intOf]; omega
    · have hkm : k = ms.length := by omega
      subst hkm
      go_wp2
      go_ret
      exact ⟨rfl, Hb0.out⟩

theorem joint_hasKeys (ac : Option Addr) (capc : Nat) (c : List Int) (ak : Option Addr) (capk : Nat) (keys : List Int) (d : Int) (am : Option Addr) (capm : Nat) (ms : List Int) (s : Int) (w : World) (hn : c.length ≤ 1099511627776) (hnk : keys.length ≤ 1099511627776) (hc : IntsAt w ac c) (hk : IntsAt w ak keys) :
    Calls Try.prog 117 #[.agg #[.slice ac c.length capc, .slice ak keys.length capk, .int .i64 d, .slice am ms.length capm, .int .i64 s]] w fun e w' => e = .returned (.bool (lkB c keys)) ∧ Below w.heap.size w w' := by
  have hb0 : Below w.heap.size w (w.alloc (.cells #[.slice ac c.length capc, .slice ak keys.length capk, .int .i64 d, .slice am ms.length capm, .int .i64 s] 84)) := (Below.refl _ _).alloc (Nat.le_refl _) _
  have s0 := Str.new w 84 #[.slice ac c.length capc, .slice ak keys.length capk, .int .i64 d, .slice am ms.length capm, .int .i64 s]
  have k0 := s0.cell 0 (v := .slice ac c.length capc) rfl
  have k1 := s0.cell 1 (v := .slice ak keys.length capk) rfl
  have hlt0 := s0.lt
  clear s0
  cases ev : validB c with
  | false =>
    have Hk := Lib.hid (hk.below hb0); clear hk
    have Hc := Lib.hid (hc.below hb0); clear hc
    have Hb0 := Lib.hid hb0; clear hb0
    have h1 := fun W (h : IntsAt W ac c) => committee_valid ac capc c W hn h
    rw [ev] at h1
    have H1 := Lib.hid h1; clear h1
    have Hf := Lib.hid (lkB_no1 (keys := keys) ev); clear ev
    go_enter Try.func117, Try.ntmps117
    go_wp2_with fail
    generalize w.alloc (.cells #[.slice ac c.length capc, .slice ak keys.length capk, .int .i64 d, .slice am ms.length capm, .int .i64 s] 84) = W1 at *
    refine (H1.out _ Hc.out).mono ?_
    rintro e w1 ⟨rfl, rfl⟩
    go_wp2
    go_ret
    exact ⟨ret_bool Hf.out.symm, Hb0.out⟩
  | true =>
    by_cases hl : keys.length = c.length
    · have Hk := Lib.hid (hk.below hb0); clear hk
      have Hc := Lib.hid (hc.below hb0); clear hc
      have Hb0 := Lib.hid hb0; clear hb0
      have h1 := fun W (h : IntsAt W ac c) => committee_valid ac capc c W hn h
      rw [ev] at h1
      have H1 := Lib.hid h1; clear h1
      have Hf := Lib.hid (show lkB c keys = keys.all signB by unfold lkB; rw [ev, decide_eq_true hl]; rfl); clear ev
      have hne : ((keys.length : Int) == (c.length : Int)) = true := by rw [beq_iff_eq]; omega
      clear hl
      have H2 := Lib.hid (fun W (h : IntsAt W ak keys) => impl_areSignNumbers ak capk keys W hnk h)
      go_enter Try.func117, Try.ntmps117
      go_wp2_with fail
      generalize w.alloc (.cells #[.slice ac c.length capc, .slice ak keys.length capk, .int .i64 d, .slice am ms.length capm, .int .i64 s] 84) = W1 at *
      refine (H1.out _ Hc.out).mono ?_
      rintro e w1 ⟨rfl, rfl⟩
      go_wp2_with fail
      refine (H2.out _ Hk.out).mono ?_
      rintro e w1 ⟨rfl, rfl⟩
      go_wp2
      go_ret
      exact ⟨ret_bool Hf.out.symm, Hb0.out⟩
    · have Hk := Lib.hid (hk.below hb0); clear hk
      have Hc := Lib.hid (hc.below hb0); clear hc
      have Hb0 := Lib.hid hb0; clear hb0
      have h1 := fun W (h : IntsAt W ac c) => committee_valid ac capc c W hn h
      rw [ev] at h1
      have H1 := Lib.hid h1; clear h1
      have Hf := Lib.hid (lkB_no2 (c := c) hl); clear ev
      have hne : ((keys.length : Int) == (c.length : Int)) = false := by rw [beq_eq_false_iff_ne]; omega
      clear hl
      go_enter Try.func117, Try.ntmps117
      go_wp2_with fail
      generalize w.alloc (.cells #[.slice ac c.length capc, .slice ak keys.length capk, .int .i64 d, .slice am ms.length capm, .int .i64 s] 84) = W1 at *
      refine (H1.out _ Hc.out).mono ?_
      rintro e w1 ⟨rfl, rfl⟩
      go_wp2
      go_ret
      exact ⟨ret_bool Hf.out.symm, Hb0.out⟩

theorem ce_isQuorum (ac : Option Addr) (capc : Nat) (c : List Int) (pa : Option Addr) (pc : Nat) (ps : List Int) (w : World) (hv : validB c = true) (hbig : ps.length ≤ 1099511627776) (hc : IntsAt w ac c) (hp : IntsAt w pa ps) :
    Calls Try.prog 124 #[.slice ac c.length capc, .slice pa ps.length pc] w fun e w' => e = .returned (.bool ((membersB c.length ps && qB c ps))) ∧ w = w' := by
  obtain ⟨hn1, hn7⟩ := validB_len hv
  have H1 := Lib.hid (committee_hasMembers ac capc c.length pa pc ps w (by omega) hbig hp)
  have H2 := Lib.hid (fun (hm : membersB c.length ps = true) => committee_weight ac capc c pa pc ps w hv hm hbig hc hp)
  have H3 := Lib.hid (committee_quorum ac capc c w hv hc)
  clear hc hp
  have Hq := Lib.hid (show (membersB c.length ps && qB c ps) = (membersB c.length ps && decide (2 * totalZ c / 3 + 1 ≤ weightZ c ps)) from rfl)
  go_enter Try.func124, Try.ntmps124
  go_wp2_with fail
  refine H1.out.mono ?_
  rintro e w1 ⟨rfl, rfl⟩
  cases hm : membersB c.length ps with
  | false =>
    go_wp2
    go_ret
    exact ⟨ret_bool (by rw [Hq.out, hm]; rfl), rfl⟩
  | true =>
    have H2 := Lib.hid (H2.out hm)
    go_wp2_with fail
    refine H2.out.mono ?_
    rintro e w1 ⟨rfl, rfl⟩
    go_wp2_with fail
    refine H3.out.mono ?_
    rintro e w1 ⟨rfl, rfl⟩
    go_wp2
    go_ret
    exact ⟨ret_bool (by rw [Hq.out, hm]; rfl), rfl⟩

theorem joint_hasQuorum (ac : Option Addr) (capc : Nat) (c : List Int) (ak : Option Addr) (capk : Nat) (keys : List Int) (d : Int) (am : Option Addr) (capm : Nat) (ms : List Int) (s : Int) (w : World) (_hn : c.length ≤ 1099511627776) (hnm : ms.length ≤ 1099511627776) (hc : IntsAt w ac c) (hm : IntsAt w am ms) (hv : validB c = true) :
    Calls Try.prog 118 #[.agg #[.slice ac c.length capc, .slice ak keys.length capk, .int .i64 d, .slice am ms.length capm, .int .i64 s]] w fun e w' => e = .returned (.bool (membersB c.length ms && qB c ms)) ∧ Below w.heap.size w w' := by
  have hb0 : Below w.heap.size w (w.alloc (.cells #[.slice ac c.length capc, .slice ak keys.length capk, .int .i64 d, .slice am ms.length capm, .int .i64 s] 84)) := (Below.refl _ _).alloc (Nat.le_refl _) _
  have s0 := Str.new w 84 #[.slice ac c.length capc, .slice ak keys.length capk, .int .i64 d, .slice am ms.length capm, .int .i64 s]
  have k0 := s0.cell 0 (v := .slice ac c.length capc) rfl
  have k3 := s0.cell 3 (v := .slice am ms.length capm) rfl
  clear s0
  have H1 := Lib.hid (ce_isQuorum ac capc c am capm ms _ hv hnm (hc.below hb0) (hm.below hb0))
  have Hb0 := Lib.hid hb0; clear hb0 hc hm
  generalize (membersB c.length ms && qB c ms) = B at *
  go_enter Try.func118, Try.ntmps118
  go_wp2_with fail
  generalize w.alloc (.cells #[.slice ac c.length capc, .slice ak keys.length capk, .int .i64 d, .slice am ms.length capm, .int .i64 s] 84) = W1 at *
  refine H1.out.mono ?_
  rintro e w1 ⟨rfl, rfl⟩
  go_wp2
  go_ret
  exact ⟨rfl, Hb0.out⟩

theorem asJS (v : Value) (w : World) : (Instr.typeAssert (.iface 84 v) 111 109 true).run Try.prog w = .ok (.tuple #[.agg #[.int .i64 0, .int .i64 0], .bool false]) w := by kernel_rfl
theorem asJJ (v : Value) (w : World) : (Instr.typeAssert (.iface 84 v) 111 84 true).run Try.prog w = .ok (.tuple #[v, .bool true]) w := by kernel_rfl

theorem isComplete_joint (ac : Option Addr) (capc : Nat) (c : List Int) (ak : Option Addr) (capk : Nat) (keys : List Int) (d : Int) (am : Option Addr) (capm : Nat) (ms : List Int) (s : Int) (w : World) (hn : c.length ≤ 1099511627776) (hnk : keys.length ≤ 1099511627776) (hnm : ms.length ≤ 1099511627776) (hc : IntsAt w ac c) (hk : IntsAt w ak keys) (hm : IntsAt w am ms) :
    Calls Try.prog 100 #[.iface 84 (.agg #[.slice ac c.length capc, .slice ak keys.length capk, .int .i64 d, .slice am ms.length capm, .int .i64 s])] w fun e w' => e = .returned (.bool (lkB c keys && ((membersB c.length ms && qB c ms) && sumOkB s))) ∧ Below w.heap.size w w' := by
  have q1 := asJS
  have q2 := asJJ
  have hb0 : Below w.heap.size w (w.alloc (.cells #[.slice ac c.length capc, .slice ak keys.length capk, .int .i64 d, .slice am ms.length capm, .int .i64 s] 84)) := (Below.refl _ _).alloc (Nat.le_refl _) _
  have s0 := Str.new w 84 #[.slice ac c.length capc, .slice ak keys.length capk, .int .i64 d, .slice am ms.length capm, .int .i64 s]
  have k0 := s0.cell 0 (v := .slice ac c.length capc) rfl
  have k1 := s0.cell 1 (v := .slice ak keys.length capk) rfl
  have k2 := s0.cell 2 (v := .int .i64 d) rfl
  have k3 := s0.cell 3 (v := .slice am ms.length capm) rfl
  have k4 := s0.cell 4 (v := .int .i64 s) rfl
  have hlt0 := s0.lt
  clear s0
  cases ek : lkB c keys with
  | false =>
    have Hm := Lib.hid (hm.below hb0); clear hm
    have Hc := Lib.hid (hc.below hb0); clear hc
    have Hk := Lib.hid (hk.below hb0); clear hk
    have Hb0 := Lib.hid hb0; clear hb0
    have h1 := fun W (h : IntsAt W ac c) (h' : IntsAt W ak keys) => joint_hasKeys ac capc c ak capk keys d am capm ms s W hn hnk h h'
    rw [ek] at h1
    have H1 := Lib.hid h1; clear h1
    clear ek
    go_enter Try.func100, Try.ntmps100
    go_wp2_with fail
    generalize w.alloc (.cells #[.slice ac c.length capc, .slice ak keys.length capk, .int .i64 d, .slice am ms.length capm, .int .i64 s] 84) = W1 at *
    refine (H1.out _ Hc.out Hk.out).mono ?_
    rintro e w2 ⟨rfl, hb2⟩
    have Hb2 := Lib.hid (below_step Hb0.out Hb0.out.size hb2)
    have Hc2 := Lib.hid (Hc.out.below hb2)
    have Hm2 := Lib.hid (Hm.out.below hb2)
    have j0 := (hb2.cell (p := ⟨w.heap.size, 0, none⟩) hlt0).trans k0
    have j1 := (hb2.cell (p := ⟨w.heap.size, 1, none⟩) hlt0).trans k1
    have j2 := (hb2.cell (p := ⟨w.heap.size, 2, none⟩) hlt0).trans k2
    have j3 := (hb2.cell (p := ⟨w.heap.size, 3, none⟩) hlt0).trans k3
    have j4 := (hb2.cell (p := ⟨w.heap.size, 4, none⟩) hlt0).trans k4
    have hlt2 := Nat.lt_of_lt_of_le hlt0 hb2.size
    clear hb2 k0 k1 k2 k3 k4
    go_wp2
    go_ret
    exact ⟨rfl, Hb2.out⟩
  | true =>
    cases eq : (membersB c.length ms && qB c ms) with
    | false =>
      have Hm := Lib.hid (hm.below hb0); clear hm
      have Hc := Lib.hid (hc.below hb0); clear hc
      have Hk := Lib.hid (hk.below hb0); clear hk
      have Hb0 := Lib.hid hb0; clear hb0
      have h1 := fun W (h : IntsAt W ac c) (h' : IntsAt W ak keys) => joint_hasKeys ac capc c ak capk keys d am capm ms s W hn hnk h h'
      rw [ek] at h1
      have H1 := Lib.hid h1; clear h1
      have h2 := fun W (h : IntsAt W ac c) (h' : IntsAt W am ms) => joint_hasQuorum ac capc c ak capk keys d am capm ms s W hn hnm h h' (lkB_iff ek).1
      rw [eq] at h2
      have H2 := Lib.hid h2; clear h2
      clear eq
      clear ek
      go_enter Try.func100, Try.ntmps100
      go_wp2_with fail
      generalize w.alloc (.cells #[.slice ac c.length capc, .slice ak keys.length capk, .int .i64 d, .slice am ms.length capm, .int .i64 s] 84) = W1 at *
      refine (H1.out _ Hc.out Hk.out).mono ?_
      rintro e w2 ⟨rfl, hb2⟩
      have Hb2 := Lib.hid (below_step Hb0.out Hb0.out.size hb2)
      have Hc2 := Lib.hid (Hc.out.below hb2)
      have Hm2 := Lib.hid (Hm.out.below hb2)
      have j0 := (hb2.cell (p := ⟨w.heap.size, 0, none⟩) hlt0).trans k0
      have j1 := (hb2.cell (p := ⟨w.heap.size, 1, none⟩) hlt0).trans k1
      have j2 := (hb2.cell (p := ⟨w.heap.size, 2, none⟩) hlt0).trans k2
      have j3 := (hb2.cell (p := ⟨w.heap.size, 3, none⟩) hlt0).trans k3
      have j4 := (hb2.cell (p := ⟨w.heap.size, 4, none⟩) hlt0).trans k4
      have hlt2 := Nat.lt_of_lt_of_le hlt0 hb2.size
      clear hb2 k0 k1 k2 k3 k4
      go_wp2_with fail
      refine (H2.out _ Hc2.out Hm2.out).mono ?_
      rintro e w3 ⟨rfl, hb3⟩
      have Hb3 := Lib.hid (below_step Hb2.out Hb2.out.size hb3)
      have j4' := (hb3.cell (p := ⟨w.heap.size, 4, none⟩) hlt2).trans j4
      clear hb3 j0 j1 j2 j3 j4
      go_wp2
      go_ret
      exact ⟨rfl, Hb3.out⟩
    | true =>
      by_cases hs : 0 ≤ s
      · have Hm := Lib.hid (hm.below hb0); clear hm
        have Hc := Lib.hid (hc.below hb0); clear hc
        have Hk := Lib.hid (hk.below hb0); clear hk
        have Hb0 := Lib.hid hb0; clear hb0
        have h1 := fun W (h : IntsAt W ac c) (h' : IntsAt W ak keys) => joint_hasKeys ac capc c ak capk keys d am capm ms s W hn hnk h h'
        rw [ek] at h1
        have H1 := Lib.hid h1; clear h1
        have h2 := fun W (h : IntsAt W ac c) (h' : IntsAt W am ms) => joint_hasQuorum ac capc c ak capk keys d am capm ms s W hn hnm h h' (lkB_iff ek).1
        rw [eq] at h2
        have H2 := Lib.hid h2; clear h2
        clear eq
        clear ek
        go_enter Try.func100, Try.ntmps100
        go_wp2_with fail
        generalize w.alloc (.cells #[.slice ac c.length capc, .slice ak keys.length capk, .int .i64 d, .slice am ms.length capm, .int .i64 s] 84) = W1 at *
        refine (H1.out _ Hc.out Hk.out).mono ?_
        rintro e w2 ⟨rfl, hb2⟩
        have Hb2 := Lib.hid (below_step Hb0.out Hb0.out.size hb2)
        have Hc2 := Lib.hid (Hc.out.below hb2)
        have Hm2 := Lib.hid (Hm.out.below hb2)
        have j0 := (hb2.cell (p := ⟨w.heap.size, 0, none⟩) hlt0).trans k0
        have j1 := (hb2.cell (p := ⟨w.heap.size, 1, none⟩) hlt0).trans k1
        have j2 := (hb2.cell (p := ⟨w.heap.size, 2, none⟩) hlt0).trans k2
        have j3 := (hb2.cell (p := ⟨w.heap.size, 3, none⟩) hlt0).trans k3
        have j4 := (hb2.cell (p := ⟨w.heap.size, 4, none⟩) hlt0).trans k4
        have hlt2 := Nat.lt_of_lt_of_le hlt0 hb2.size
        clear hb2 k0 k1 k2 k3 k4
        go_wp2_with fail
        refine (H2.out _ Hc2.out Hm2.out).mono ?_
        rintro e w3 ⟨rfl, hb3⟩
        have Hb3 := Lib.hid (below_step Hb2.out Hb2.out.size hb3)
        have j4' := (hb3.cell (p := ⟨w.heap.size, 4, none⟩) hlt2).trans j4
        clear hb3 j0 j1 j2 j3 j4
        go_wp2
        go_ret
        exact ⟨ret_bool (by unfold sumOkB; rw [Bool.eq_iff_iff]; simp only [Bool.true_and, decide_eq_true_eq]; omega), Hb3.out⟩
      · have Hm := Lib.hid (hm.below hb0); clear hm
        have Hc := Lib.hid (hc.below hb0); clear hc
        have Hk := Lib.hid (hk.below hb0); clear hk
        have Hb0 := Lib.hid hb0; clear hb0
        have h1 := fun W (h : IntsAt W ac c) (h' : IntsAt W ak keys) => joint_hasKeys ac capc c ak capk keys d am capm ms s W hn hnk h h'
        rw [ek] at h1
        have H1 := Lib.hid h1; clear h1
        have h2 := fun W (h : IntsAt W ac c) (h' : IntsAt W am ms) => joint_hasQuorum ac capc c ak capk keys d am capm ms s W hn hnm h h' (lkB_iff ek).1
        rw [eq] at h2
        have H2 := Lib.hid h2; clear h2
        clear eq
        clear ek
        go_enter Try.func100, Try.ntmps100
        go_wp2_with fail
        generalize w.alloc (.cells #[.slice ac c.length capc, .slice ak keys.length capk, .int .i64 d, .slice am ms.length capm, .int .i64 s] 84) = W1 at *
        refine (H1.out _ Hc.out Hk.out).mono ?_
        rintro e w2 ⟨rfl, hb2⟩
        have Hb2 := Lib.hid (below_step Hb0.out Hb0.out.size hb2)
        have Hc2 := Lib.hid (Hc.out.below hb2)
        have Hm2 := Lib.hid (Hm.out.below hb2)
        have j0 := (hb2.cell (p := ⟨w.heap.size, 0, none⟩) hlt0).trans k0
        have j1 := (hb2.cell (p := ⟨w.heap.size, 1, none⟩) hlt0).trans k1
        have j2 := (hb2.cell (p := ⟨w.heap.size, 2, none⟩) hlt0).trans k2
        have j3 := (hb2.cell (p := ⟨w.heap.size, 3, none⟩) hlt0).trans k3
        have j4 := (hb2.cell (p := ⟨w.heap.size, 4, none⟩) hlt0).trans k4
        have hlt2 := Nat.lt_of_lt_of_le hlt0 hb2.size
        clear hb2 k0 k1 k2 k3 k4
        go_wp2_with fail
        refine (H2.out _ Hc2.out Hm2.out).mono ?_
        rintro e w3 ⟨rfl, hb3⟩
        have Hb3 := Lib.hid (below_step Hb2.out Hb2.out.size hb3)
        have j4' := (hb3.cell (p := ⟨w.heap.size, 4, none⟩) hlt2).trans j4
        clear hb3 j0 j1 j2 j3 j4
        go_wp2
        go_ret
        exact ⟨ret_bool (by unfold sumOkB; rw [decide_eq_false (by omega)]), Hb3.out⟩

theorem sumJ (n : Nat) (x : Value) (w : World) : (method (n + 1) 84 x "loop.example/dagconsensus/impl.sum").run Try.prog w = .ok (143, x) w := by kernel_rfl
theorem keyJ (n : Nat) (x : Value) (w : World) : (method (n + 1) 84 x "loop.example/dagconsensus/impl.key").run Try.prog w = .ok (142, x) w := by kernel_rfl
theorem sumJ' (x : Array Value) (w : World) : (callFunc 143 x).run Try.prog w = .ok (.enter 143 x) w := by kernel_rfl
theorem keyJ' (x : Array Value) (w : World) : (callFunc 142 x).run Try.prog w = .ok (.enter 142 x) w := by kernel_rfl

theorem certifies_joint (ac : Option Addr) (capc : Nat) (c : List Int) (ak : Option Addr) (capk : Nat) (keys : List Int) (d : Int) (am : Option Addr) (capm : Nat) (ms : List Int) (s : Int) (w : World) (hn : c.length ≤ 1099511627776) (hnk : keys.length ≤ 1099511627776) (hnm : ms.length ≤ 1099511627776) (hc : IntsAt w ac c) (hk : IntsAt w ak keys) (hm : IntsAt w am ms) :
    Calls Try.prog 64 #[.iface 84 (.agg #[.slice ac c.length capc, .slice ak keys.length capk, .int .i64 d, .slice am ms.length capm, .int .i64 s]), .int .i64 d] w fun e w' => e = .returned (.bool (ccB c keys d ms s)) ∧ Below w.heap.size w w' := by
  have h1 := isComplete_joint ac capc c ak capk keys d am capm ms s w hn hnk hnm hc hk hm
  have Hm := Lib.hid hm; clear hm hc
  have Hk := Lib.hid hk; clear hk
  cases ek : (lkB c keys && ((membersB c.length ms && qB c ms) && sumOkB s)) with
  | false =>
    rw [ek] at h1
    have H1 := Lib.hid h1; clear h1
    have Hf := Lib.hid (show ccB c keys d ms s = false by unfold ccB; cases h1 : lkB c keys <;> cases h2 : membersB c.length ms <;> cases h3 : qB c ms <;> cases h4 : sumOkB s <;> simp_all)
    clear ek
    go_enter Try.func64, Try.ntmps64
    go_wp2_with fail
    refine H1.out.mono ?_
    rintro e w1 ⟨rfl, hb1⟩
    have hz1 := hb1.size
    go_wp2
    go_ret
    exact ⟨ret_bool Hf.out.symm, hb1⟩
  | true =>
    cases ed : digB d with
    | false =>
      rw [ek] at h1
      have H1 := Lib.hid h1; clear h1
      have h2 := fun W => impl_isDigest d W
      rw [ed] at h2
      have H2 := Lib.hid h2; clear h2
      have Hf := Lib.hid (show ccB c keys d ms s = false by unfold ccB; rw [ed]; simp)
      clear ek
      clear ed
      go_enter Try.func64, Try.ntmps64
      go_wp2_with fail
      refine H1.out.mono ?_
      rintro e w1 ⟨rfl, hb1⟩
      have hz1 := hb1.size
      go_wp2_with fail
      refine (H2.out _).mono ?_
      rintro e w2 ⟨rfl, rfl⟩
      go_wp2
      go_ret
      exact ⟨ret_bool Hf.out.symm, hb1⟩
    | true =>
      rw [ek] at h1
      have H1 := Lib.hid h1; clear h1
      have h2 := fun W => impl_isDigest d W
      rw [ed] at h2
      have H2 := Lib.hid h2; clear h2
      simp only [Bool.and_eq_true] at ek
      obtain ⟨e1, ⟨e2, e3⟩, e4⟩ := ek
      have Hf := Lib.hid (show ccB c keys d ms s = equB (weightZ keys ms) d s by unfold ccB; rw [ed, e1, e2, e3, e4]; rfl)
      obtain ⟨hd1, hd2⟩ := digB_bd ed
      obtain ⟨hs1, hs2⟩ := (of_decide_eq_true e4 : 0 ≤ s ∧ s ≤ 996)
      have hkb := keySum_bd' e1 e2
      have hpr := prod_sign (p := weightZ keys ms) (d := d) hkb.1 hkb.2 hd1 hd2
      have H3 := Lib.hid (fun W => joint_sum ac capc c ak capk keys d am capm ms s W)
      have H4 := Lib.hid (fun W (h : IntsAt W ak keys) (h' : IntsAt W am ms) => joint_key ac capc c ak capk keys d am capm ms s W e1 e2 h h')
      clear e1 e2 e3 e4
      have i1 := sumJ
      have i2 := keyJ
      have i3 := sumJ'
      have i4 := keyJ'
      clear ed
      go_enter Try.func64, Try.ntmps64
      go_wp2_with fail
      refine H1.out.mono ?_
      rintro e w1 ⟨rfl, hb1⟩
      have hz1 := hb1.size
      go_wp2_with fail
      refine (H2.out _).mono ?_
      rintro e w2 ⟨rfl, rfl⟩
      go_wp2_with fail
      refine (H3.out _).mono ?_
      rintro e w3 ⟨rfl, hb3⟩
      have hb3' := below_step hb1 hz1 hb3
      have hz3 := hb3'.size
      go_wp2_with fail
      refine (H4.out _ (Hk.out.below hb3') (Hm.out.below hb3')).mono ?_
      rintro e w4 ⟨rfl, hb4⟩
      have hb4' := below_step hb3' hz3 hb4
      go_wp2
      go_ret
      exact ⟨ret_bool (by rw [Hf.out]; unfold equB; rw [Bool.eq_iff_iff]; simp only [beq_iff_eq, decide_eq_true_eq]), hb4'⟩

theorem impl_CertCheck (ac : Option Addr) (capc : Nat) (c : List Int) (ak : Option Addr) (capk : Nat) (keys : List Int) (d : Int) (am : Option Addr) (capm : Nat) (ms : List Int) (s : Int) (w : World) (hn : c.length ≤ 1099511627776) (hnk : keys.length ≤ 1099511627776) (hnm : ms.length ≤ 1099511627776) (hc : IntsAt w ac c) (hk : IntsAt w ak keys) (hm : IntsAt w am ms) :
    Calls Try.prog 21 #[.slice ac c.length capc, .slice ak keys.length capk, .agg #[.int .i64 d, .slice am ms.length capm, .int .i64 s]] w fun e w' => e = .returned (.bool (ccB c keys d ms s)) ∧ Below w.heap.size w w' := by
  have hmk : ∀ x w, (Instr.makeInterface 84 x).run Try.prog w = .ok (.iface 84 x) w := fun x w => run_makeInterface w 84 x (by kernel_rfl)
  have hb0 : Below w.heap.size w (w.alloc (.cells #[.int .i64 d, .slice am ms.length capm, .int .i64 s] 37)) := (Below.refl _ _).alloc (Nat.le_refl _) _
  have H := Lib.hid (certifies_joint ac capc c ak capk keys d am capm ms s _ hn hnk hnm (hc.below hb0) (hk.below hb0) (hm.below hb0))
  have Hb0 := Lib.hid hb0; clear hb0 hc hk hm
  go_enter Try.func21, Try.ntmps21
  go_wp2_with fail
  refine H.out.mono ?_
  rintro e w1 ⟨rfl, hb1⟩
  have Hb1 := Lib.hid (below_step Hb0.out Hb0.out.size hb1)
  go_wp2
  go_ret
  exact ⟨rfl, Hb1.out⟩

end Go.Proofs.Yteglefchkecfjaa

/- What impl's CertMake answers, by a walk of its text: the certificate is that of plain functions on lists of numbers; conditions: a list that is read has fewer than 2^40 elements. -/
namespace Go.Proofs.Yteglefchkecfjaa
open Go.RowKit

theorem TIu : IntT Try.prog 26 3 := ⟨Try.underlying26, by kernel_rfl⟩

set_option maxHeartbeats 1000000 in
theorem impl_CertMake (ac : Option Addr) (capc : Nat) (c : List Int) (ak : Option Addr) (capk : Nat) (keys : List Int) (d : Int) (ag : Option Addr) (caps : Nat) (sigs : List Int) (w : World) (hn : c.length ≤ 1099511627776) (hnk : keys.length ≤ 1099511627776) (hns : sigs.length ≤ 1099511627776) (hc : IntsAt w ac c) (hk : IntsAt w ak keys) (hs : IntsAt w ag sigs) :
    Calls Try.prog 18 #[.slice ac c.length capc, .slice ak keys.length capk, .int .i64 d, .slice ag sigs.length caps] w fun e w' => ∃ v, e = .returned (.tuple #[.agg #[.int .i64 (cmD c keys d sigs), v, .int .i64 (cmS c keys d sigs)], .bool (cmB c keys d sigs)]) ∧ Own 3 w' w.heap.size v (cmL c keys d sigs) ∧ Below w.heap.size w w' := by
  have Hc := Lib.hid hc; clear hc
  have Hk := Lib.hid hk; clear hk
  have Hs := Lib.hid hs; clear hs
  by_cases hl : keys.length = sigs.length
  case neg =>
    have hb0 : Below w.heap.size w (w.alloc (.cells #[.int .i64 0, .slice none 0 0, .int .i64 0] 37)) := (Below.refl _ _).alloc (Nat.le_refl _) _
    have sR := Str.new w 37 #[.int .i64 0, .slice none 0 0, .int .i64 0]
    have HR := Lib.hid sR; clear sR
    have Hb0 := Lib.hid hb0; clear hb0
    have Hf := Lib.hid (cmB_lens (c := c) (d := d) hl)
    have hne : ((keys.length : Int) != (sigs.length : Int)) = true := by rw [bne_iff_ne]; omega
    go_enter Try.func18, Try.ntmps18
    have k0 := HR.out.cell 0 (v := .int .i64 0) rfl
    have k1 := HR.out.cell 1 (v := .slice none 0 0) rfl
    have k2 := HR.out.cell 2 (v := .int .i64 0) rfl
    go_wp2
    refine bodyPost_ret (v := .tuple #[.agg #[.int .i64 0, .slice none 0 0, .int .i64 0], .bool false]) (by simp [results, Try.f18, go_sem, k0, k1, k2]) rfl ?_
    rw [(cm_no Hf.out).1, (cm_no Hf.out).2.1, (cm_no Hf.out).2.2, Hf.out]
    exact ⟨_, rfl, Own.nil _ _ _, Hb0.out⟩
  have hne : ((keys.length : Int) != (sigs.length : Int)) = false := by rw [bne_eq_false_iff_eq]; omega
  have hb0 : Below w.heap.size w ((w.alloc (.cells #[.int .i64 0, .slice none 0 0, .int .i64 0] 37)).alloc (.cells #[.int .i64 d, .slice none 0 0, .int .i64 0] 37)) := ((Below.refl _ _).alloc (Nat.le_refl _) _).alloc (by simp) _
  have sR : Str ((w.alloc (.cells #[.int .i64 0, .slice none 0 0, .int .i64 0] 37)).alloc (.cells #[.int .i64 d, .slice none 0 0, .int .i64 0] 37)) w.heap.size 37 #[.int .i64 0, .slice none 0 0, .int .i64 0] := (Str.new w _ _).alloc _
  have sX : Str ((w.alloc (.cells #[.int .i64 0, .slice none 0 0, .int .i64 0] 37)).alloc (.cells #[.int .i64 d, .slice none 0 0, .int .i64 0] 37)) (w.heap.size + 1) 37 #[.int .i64 d, .slice none 0 0, .int .i64 0] := by
    rw [← (by simp : (w.alloc (.cells #[.int .i64 0, .slice none 0 0, .int .i64 0] 37)).heap.size = w.heap.size + 1)]
    exact Str.new _ _ _
  have HR := Lib.hid sR; clear sR
  have HX := Lib.hid sX; clear sX
  have Hb0 := Lib.hid hb0; clear hb0
  have Hl := Lib.hid hl; clear hl
  go_enter Try.func18, Try.ntmps18
  go_wp2_with fail
  generalize ((w.alloc (.cells #[.int .i64 0, .slice none 0 0, .int .i64 0] 37)).alloc (.cells #[.int .i64 d, .slice none 0 0, .int .i64 0] 37)) = W1 at *
  clear hne
  go_loopw [23] (fun vi wr => ∃ (k : Nat) (v : Value), k ≤ sigs.length ∧ vi = .int .i64 k ∧ Upto (okSig keys sigs d) k ∧ Str wr w.heap.size 37 #[.int .i64 0, .slice none 0 0, .int .i64 0] ∧ Str wr (w.heap.size + 1) 37 #[.int .i64 d, v, .int .i64 (sgS sigs k)] ∧ Own 3 wr w.heap.size v (rangeF (sgnF sigs) k) ∧ (v.ownBlock ≠ some w.heap.size ∧ v.ownBlock ≠ some (w.heap.size + 1)) ∧ Below w.heap.size w wr) (fun vi _ => sigs.length - (intOf vi).toNat)
  case atStart => exact ⟨0, _, by omega, rfl, upto_zero _, HR.out, HX.out, Own.nil _ _ _, ⟨by simp [Value.ownBlock], by simp [Value.ownBlock]⟩, Hb0.out⟩
  case round =>
    clear HR HX Hb0
    obtain ⟨k, v, hkk, rfl, hup, sR, sX, ho, hvb, hbel⟩ := hrel
    have HR := Lib.hid sR; clear sR
    have HX := Lib.hid sX; clear sX
    have Ho := Lib.hid ho; clear ho
    have Hvb := Lib.hid hvb; clear hvb
    have hsb := sgS_bd sigs k
    have hXl := HX.out.lt
    have hRl := HR.out.lt
    have hrl := rangeF_len (sgnF sigs) k
    by_cases hlt2 : k < sigs.length
    · have hlt3 : k < keys.length := by rw [Hl.out]; exact hlt2
      obtain ⟨b, off, hag, hb, hcs⟩ := Hs.out.cell (by omega)
      have hcell := (hbel.cell (p := ⟨b, off + k, none⟩) hb).trans (hcs k hlt2)
      obtain ⟨b', off', hak, hb', hck⟩ := Hk.out.cell (by omega)
      have hcell2 := (hbel.cell (p := ⟨b', off' + k, none⟩) hb').trans (hck k hlt3)
      clear hcs hck
      have Hb := Lib.hid hbel; clear hbel
      by_cases h0 : sigs[k] = 0
      · have hz := okSig_zero (keys := keys) (d := d) (i := k) (sigs := sigs) (by rw [getD_get hlt2]; exact h0)
        have Hz := Lib.hid (And.intro (upto_step hup hz.1) (And.intro (rangeF_no (n := k) hz.2) (sgS_no hz.2)))
        clear hup hz hcell2
        rw [h0] at hcell
        subst hag
        clear h0
        go_wp2
        go_roundw
        case rel => exact ⟨k + 1, v, by omega, by go_num, Hz.out.1, HR.out, by rw [Hz.out.2.2]; exact HX.out, by rw [Hz.out.2.1]; exact Ho.out, Hvb.out, Hb.out⟩
        case measure => simp [intOf]; omega
      · obtain ⟨z1, z2⟩ := okSig_sc (keys := keys) (d := d) (i := k) (sigs := sigs) (by rw [getD_get hlt2]; exact h0)
        rw [getD_get hlt2, getD_get hlt3] at z1
        have hsc := fun W => impl_SignCheck keys[k] d sigs[k] W
        have hz0 : (sigs[k] == 0) = false := by rw [beq_eq_false_iff_ne]; exact h0
        cases e2 : scB keys[k] d sigs[k] with
        | false =>
          rw [e2] at hsc z1
          have Hsc := Lib.hid hsc; clear hsc
          have Hf := Lib.hid (cmB_bad (c := c) hlt2 z1)
          clear hup z1 z2 e2 h0
          subst hag hak
          generalize sigs[k] = x at *
          generalize keys[k] = y at *
          go_wp2_with fail
          refine (Hsc.out _).mono ?_
          rintro e wz ⟨rfl, hbz⟩
          have HR2 := Lib.hid (show Str wz w.heap.size 37 #[.int .i64 0, .slice none 0 0, .int .i64 0] from (hbz.block _ HR.out.lt).trans HR.out)
          have Hb2 := Lib.hid (below_step Hb.out (Nat.le_of_lt hRl) hbz)
          clear hbz
          have f0 := HR2.out.frozen 0
          have f1 := HR2.out.frozen 1
          have f2 := HR2.out.frozen 2
          have k0 := HR2.out.cell 0 rfl
          have k1 := HR2.out.cell 1 rfl
          have k2 := HR2.out.cell 2 rfl
          have sF := ((HR2.out.set 0 (.int .i64 0)).set 1 (.slice none 0 0)).set 2 (.int .i64 0)
          have e0 := sF.cell 0 (v := .int .i64 0) rfl
          have e1 := sF.cell 1 (v := .slice none 0 0) rfl
          have e2 := sF.cell 2 (v := .int .i64 0) rfl
          clear sF
          go_wp2
          refine bodyPost_ret (v := .tuple #[.agg #[.int .i64 0, .slice none 0 0, .int .i64 0], .bool false]) (by simp [results, Try.f18, go_sem, e0, e1, e2]) rfl ?_
          rw [(cm_no Hf.out).1, (cm_no Hf.out).2.1, (cm_no Hf.out).2.2, Hf.out]
          exact ⟨_, rfl, Own.nil _ _ _, ((Hb2.out.setCell (p := ⟨w.heap.size, 0, none⟩) (Nat.le_refl _) _).setCell (p := ⟨w.heap.size, 1, none⟩) (Nat.le_refl _) _).setCell (p := ⟨w.heap.size, 2, none⟩) (Nat.le_refl _) _⟩
        | true =>
          rw [e2] at hsc z1
          have Hsc := Lib.hid hsc; clear hsc
          have Hz := Lib.hid (And.intro (upto_step hup z1) (And.intro (rangeF_yes (n := k) z2) (sgS_yes z2)))
          have hxb := signB_bd (sc_args e2).2.2
          rw [getD_get hlt2] at Hz
          clear hup z1 z2 e2 h0
          subst hag hak
          generalize sigs[k] = x at *
          generalize keys[k] = y at *
          go_wp2_with fail
          refine (Hsc.out _).mono ?_
          rintro e wz ⟨rfl, hbz⟩
          have HR2 := Lib.hid (show Str wz w.heap.size 37 #[.int .i64 0, .slice none 0 0, .int .i64 0] from (hbz.block _ HR.out.lt).trans HR.out)
          have sX2 := show Str wz (w.heap.size + 1) 37 #[.int .i64 d, v, .int .i64 (sgS sigs k)] from (hbz.block _ HX.out.lt).trans HX.out
          have Ho2 := Lib.hid (Ho.out.below hbz)
          have Hb2 := Lib.hid (below_step Hb.out (Nat.le_of_lt hRl) hbz)
          have hBs : w.heap.size ≤ wz.heap.size := Nat.le_trans (Nat.le_of_lt hRl) hbz.size
          clear HR HX Ho Hb hcell hcell2 hbz
          have k1 := sX2.cell 1 (v := v) rfl
          have HX2 := Lib.hid sX2; clear sX2
          have hXl2 := HX2.out.lt
          generalize hsk : sgS sigs k = sk at *
          have Hsk := Lib.hid hsk; clear hsk
          go_wp2_with (at_builtin; refine wpList_push_at TIu rfl (.tmp 40) (.tmp 42) rfl w.heap.size v (rangeF (sgnF sigs) k) _ rfl Ho2.out (by omega) rfl hBs ?_; intro v2 w5 hown2 hg2 hat2; obtain ⟨g2, c2, rfl⟩ := own_succ hown2; have hs5 := hg2.size; have HX5 := Lib.hid (HX2.out.kept hg2 (fun e => Hvb.out.2 e.symm)); have HR5 := Lib.hid (HR2.out.kept hg2 (fun e => Hvb.out.1 e.symm)); have Hb5 := Lib.hid (Hb2.out.grown hg2 hBs (fun g e => (Ho2.out.lt g e).1)); have f1 := HX5.out.frozen 1; have k1 := HX5.out.cell 1 (v := v) rfl; have f2 := HX5.out.frozen 2; have k2 := HX5.out.cell 2 (v := .int .i64 sk) rfl; have Hown2 := Lib.hid hown2; have Hat2 := Lib.hid hat2; clear hown2 hat2 hg2)
          have sX6 := (HX5.out.set 1 (.slice (some ⟨g2, 0, none⟩) ((rangeF (sgnF sigs) k).length + 1) c2)).set 2 (.int .i64 ((sk + x) % 997))
          have sR6 := (HR5.out.other (by omega : w.heap.size ≠ w.heap.size + 1) 1 (.slice (some ⟨g2, 0, none⟩) ((rangeF (sgnF sigs) k).length + 1) c2)).other (by omega : w.heap.size ≠ w.heap.size + 1) 2 (.int .i64 ((sk + x) % 997))
          have hne2 : (Value.slice (some ⟨g2, 0, none⟩) ((rangeF (sgnF sigs) k).length + 1) c2).ownBlock ≠ some (w.heap.size + 1) ∧ (Value.slice (some ⟨g2, 0, none⟩) ((rangeF (sgnF sigs) k).length + 1) c2).ownBlock ≠ some w.heap.size := by
            rcases Hat2.out with e | ⟨g', e, hg'⟩
            · rw [e]; exact ⟨Hvb.out.2, Hvb.out.1⟩
            · rw [e]; exact ⟨fun h => by cases h; omega, fun h => by cases h; omega⟩
          have ho6 := (Hown2.out.set_other hne2.1 1 (.slice (some ⟨g2, 0, none⟩) ((rangeF (sgnF sigs) k).length + 1) c2)).set_other hne2.1 2 (.int .i64 ((sk + x) % 997))
          have hb6 := (Hb5.out.setCell (p := ⟨w.heap.size + 1, 1, none⟩) (by simp) (.slice (some ⟨g2, 0, none⟩) ((rangeF (sgnF sigs) k).length + 1) c2)).setCell (p := ⟨w.heap.size + 1, 2, none⟩) (by simp) (.int .i64 ((sk + x) % 997))
          have H6 := Lib.hid (And.intro sX6 (And.intro sR6 (And.intro ho6 (And.intro hb6 hne2))))
          clear HX5 HR5 Hb5 Hown2 Hat2 HR2 Ho2 Hb2 HX2 f1 f2 k2 k1 sX6 sR6 hne2 ho6 hb6
          go_roundw
          case rel =>
            exact ⟨k + 1, _, by omega, by go_num, Hz.out.1, H6.out.2.1, by rw [Hz.out.2.2]; exact H6.out.1, by rw [Hz.out.2.1]; exact H6.out.2.2.1, ⟨H6.out.2.2.2.2.2, H6.out.2.2.2.2.1⟩, H6.out.2.2.2.1⟩
          case measure => simp [intOf]; omega
    · have hks : k = sigs.length := by omega
      have hcm := cc_made (c := c) Hl.out (show Upto (okSig keys sigs d) sigs.length by rw [← hks]; exact hup)
      rw [← hks] at hcm
      obtain ⟨am, capm, rfl, him, _⟩ := Ho.out.ints
      have hch := impl_CertCheck ac capc c ak capk keys d am capm (rangeF (sgnF sigs) k) (sgS sigs k) wr hn hnk (by omega) (Hc.out.below hbel) (Hk.out.below hbel) him
      have k0 := HX.out.cell 0 rfl
      have k1 := HX.out.cell 1 rfl
      have k2 := HX.out.cell 2 rfl
      have Hb := Lib.hid hbel; clear hbel
      cases hq : cmB c keys d sigs with
      | false =>
        rw [hq] at hcm
        rw [hcm] at hch
        have Hch := Lib.hid hch; clear hch hcm
        have Hf := Lib.hid hq; clear hq hup
        have Hks := Lib.hid hks; clear hks
        go_wp2_with fail
        refine Hch.out.mono ?_
        rintro e wz ⟨rfl, hbz⟩
        have HR2 := Lib.hid (show Str wz w.heap.size 37 #[.int .i64 0, .slice none 0 0, .int .i64 0] from (hbz.block _ HR.out.lt).trans HR.out)
        have Hb2 := Lib.hid (below_step Hb.out (Nat.le_of_lt hRl) hbz)
        clear hbz k0 k1 k2
        have f0 := HR2.out.frozen 0
        have f1 := HR2.out.frozen 1
        have f2 := HR2.out.frozen 2
        have k0 := HR2.out.cell 0 rfl
        have k1 := HR2.out.cell 1 rfl
        have k2 := HR2.out.cell 2 rfl
        have sF := ((HR2.out.set 0 (.int .i64 0)).set 1 (.slice none 0 0)).set 2 (.int .i64 0)
        have e0 := sF.cell 0 (v := .int .i64 0) rfl
        have e1 := sF.cell 1 (v := .slice none 0 0) rfl
        have e2 := sF.cell 2 (v := .int .i64 0) rfl
        clear sF
        go_wp2
        refine bodyPost_ret (v := .tuple #[.agg #[.int .i64 0, .slice none 0 0, .int .i64 0], .bool false]) (by simp [results, Try.f18, go_sem, e0, e1, e2]) rfl ?_
        rw [(cm_no Hf.out).1, (cm_no Hf.out).2.1, (cm_no Hf.out).2.2, Hf.out]
        exact ⟨_, rfl, Own.nil _ _ _, ((Hb2.out.setCell (p := ⟨w.heap.size, 0, none⟩) (Nat.le_refl _) _).setCell (p := ⟨w.heap.size, 1, none⟩) (Nat.le_refl _) _).setCell (p := ⟨w.heap.size, 2, none⟩) (Nat.le_refl _) _⟩
      | true =>
        rw [hq] at hcm
        rw [hcm] at hch
        have Hch := Lib.hid hch; clear hch hcm
        have Hf := Lib.hid hq; clear hq hup
        have Hks := Lib.hid hks; clear hks
        go_wp2_with fail
        refine Hch.out.mono ?_
        rintro e wz ⟨rfl, hbz⟩
        have HR2 := Lib.hid (show Str wz w.heap.size 37 #[.int .i64 0, .slice none 0 0, .int .i64 0] from (hbz.block _ HR.out.lt).trans HR.out)
        have HX2 := Lib.hid (show Str wz (w.heap.size + 1) 37 #[.int .i64 d, .slice am (rangeF (sgnF sigs) k).length capm, .int .i64 (sgS sigs k)] from (hbz.block _ HX.out.lt).trans HX.out)
        have Ho2 := Lib.hid (Ho.out.below hbz)
        have Hb2 := Lib.hid (below_step Hb.out (Nat.le_of_lt hRl) hbz)
        clear hbz k0 k1 k2 HR HX Ho Hb
        have k0 := HX2.out.cell 0 rfl
        have k1 := HX2.out.cell 1 rfl
        have k2 := HX2.out.cell 2 rfl
        have f0 := HR2.out.frozen 0
        have f1 := HR2.out.frozen 1
        have f2 := HR2.out.frozen 2
        have j0 := HR2.out.cell 0 rfl
        have j1 := HR2.out.cell 1 rfl
        have j2 := HR2.out.cell 2 rfl
        have sF := ((HR2.out.set 0 (.int .i64 d)).set 1 (.slice am (rangeF (sgnF sigs) k).length capm)).set 2 (.int .i64 (sgS sigs k))
        have e0 := sF.cell 0 (v := .int .i64 d) rfl
        have e1 := sF.cell 1 (v := .slice am (rangeF (sgnF sigs) k).length capm) rfl
        have e2 := sF.cell 2 (v := .int .i64 (sgS sigs k)) rfl
        clear sF
        go_wp2
        refine bodyPost_ret (v := .tuple #[.agg #[.int .i64 d, .slice am (rangeF (sgnF sigs) k).length capm, .int .i64 (sgS sigs k)], .bool true]) (by simp [results, Try.f18, go_sem, e0, e1, e2]) rfl ?_
        rw [(cm_yes Hf.out).1, (cm_yes Hf.out).2.1, (cm_yes Hf.out).2.2, Hf.out, ← Hks.out]
        exact ⟨_, rfl, ((Ho2.out.set_other Hvb.out.1 0 _).set_other Hvb.out.1 1 _).set_other Hvb.out.1 2 _, ((Hb2.out.setCell (p := ⟨w.heap.size, 0, none⟩) (Nat.le_refl _) _).setCell (p := ⟨w.heap.size, 1, none⟩) (Nat.le_refl _) _).setCell (p := ⟨w.heap.size, 2, none⟩) (Nat.le_refl _) _⟩

end Go.Proofs.Yteglefchkecfjaa

/- The draws of committees and of members: what is drawn is a short list of small numbers in new memory; each by a walk of its text; condition: at most 2^40 picks. -/
namespace Go.Proofs.Yteglefchkecfjaa
open Go.RowKit

theorem TI' : IntT Try.prog 26 3 := ⟨Try.underlying26, by kernel_rfl⟩

def sizes9 : List Int := [4, 4, 4, 1, 2, 3, 5, 6, 7]
theorem sizes9_at (k : Nat) (hk : k < 9) : ∃ m : Nat, (#[Value.int .i64 4, .int .i64 4, .int .i64 4, .int .i64 1, .int .i64 2, .int .i64 3, .int .i64 5, .int .i64 6, .int .i64 7] : Array Value)[k]? = some (.int .i64 m) ∧ 1 ≤ m ∧ m ≤ 7 := by
  match k, hk with
  | 0, _ => exact ⟨4, rfl, by omega, by omega⟩
  | 1, _ => exact ⟨4, rfl, by omega, by omega⟩
  | 2, _ => exact ⟨4, rfl, by omega, by omega⟩
  | 3, _ => exact ⟨1, rfl, by omega, by omega⟩
  | 4, _ => exact ⟨2, rfl, by omega, by omega⟩
  | 5, _ => exact ⟨3, rfl, by omega, by omega⟩
  | 6, _ => exact ⟨5, rfl, by omega, by omega⟩
  | 7, _ => exact ⟨6, rfl, by omega, by omega⟩
  | 8, _ => exact ⟨7, rfl, by omega, by omega⟩

/-- Numbers between -1 and 10. -/
def Small (xs : List Int) : Prop := ∀ x ∈ xs, -1 ≤ x ∧ x ≤ 10

theorem small_push {xs : List Int} (h : Small xs) {z : Int} (h1 : -1 ≤ z) (h2 : z ≤ 10) : Small (xs ++ [z]) := by
  intro x hx
  rcases List.mem_append.1 hx with hx | hx
  · exact h x hx
  · simp at hx; subst hx; exact ⟨h1, h2⟩
theorem small_app {xs zs : List Int} (h : Small xs) (k : Small zs) : Small (xs ++ zs) := fun x hx => by
  rcases List.mem_append.1 hx with hx | hx
  · exact h x hx
  · exact k x hx
theorem small_set {xs : List Int} (h : Small xs) (j : Nat) {z : Int} (h1 : -1 ≤ z) (h2 : z ≤ 10) : Small (xs.set j z) := fun x hx => by
  rcases List.mem_or_eq_of_mem_set hx with hx | rfl
  · exact h x hx
  · exact ⟨h1, h2⟩
theorem lit4_at (k : Nat) (hk : k < 4) : ∃ z : Int, (#[Value.int .i64 0, .int .i64 9, .int .i64 10, .int .i64 (-1)] : Array Value)[k]? = some (.int .i64 z) ∧ -1 ≤ z ∧ z ≤ 10 := by
  match k, hk with
  | 0, _ => exact ⟨0, rfl, by omega, by omega⟩
  | 1, _ => exact ⟨9, rfl, by omega, by omega⟩
  | 2, _ => exact ⟨10, rfl, by omega, by omega⟩
  | 3, _ => exact ⟨-1, rfl, by omega, by omega⟩
theorem grown_row {w a b : World} {R : Nat} {row : Option Nat} (h : w.grownBy a (some R)) (k : a.grownBy b row) (hr : ∀ g, row = some g → w.heap.size ≤ g) : w.grownBy b (some R) :=
  ⟨k.os.trans h.os, k.tape.trans h.tape, k.output.trans h.output, Nat.le_trans h.size k.size, fun i hi hne => (k.block i (Nat.lt_of_lt_of_le hi h.size) (fun e => by have := hr i e.symm; omega)).trans (h.block i hi hne)⟩
theorem prod_bd {a b : Int} (h1 : 0 ≤ a) (h2 : a ≤ 3) (h3 : 0 ≤ b) (h4 : b ≤ 2) : 0 ≤ a * b ∧ a * b ≤ 6 :=
  ⟨Int.mul_nonneg h1 h3, Int.le_trans (Int.mul_le_mul h2 h4 h3 (by omega)) (by omega)⟩

theorem drawCommittee (R p : Nat) (w : World) (hp : p ≤ 1000000) (hr : Rdr w R p) (hR : R < w.heap.size) :
    Calls Try.prog 51 #[.pointer (some ⟨R, 0, none⟩)] w fun e w' => ∃ v xs p', e = .returned v ∧ Own 3 w' w.heap.size v xs ∧ xs.length ≤ 11 ∧ Small xs ∧ Rdr w' R p' ∧ p' ≤ p + 20 ∧ w.grownBy w' (some R) := by
  have hr1 := (hr.alloc (.cells #[] 3)).alloc (.cells #[.int .i64 4, .int .i64 4, .int .i64 4, .int .i64 1, .int .i64 2, .int .i64 3, .int .i64 5, .int .i64 6, .int .i64 7] 3)
  have ho1 := (own_empty 3 w (Nat.le_refl _)).alloc (.cells #[.int .i64 4, .int .i64 4, .int .i64 4, .int .i64 1, .int .i64 2, .int .i64 3, .int .i64 5, .int .i64 6, .int .i64 7] 3)
  have Hr1 := Lib.hid hr1; clear hr1
  have Ho1 := Lib.hid ho1; clear ho1
  go_enter Try.func51, Try.ntmps51
  go_wp2_with fail
  refine (pick_any R 9 p _ (by omega) Hr1.out (by omega)).mono ?_
  rintro e w2 ⟨k, rfl, hk0, hk1, hr2, hg2⟩
  obtain ⟨k, rfl⟩ := Int.eq_ofNat_of_zero_le hk0
  obtain ⟨m, hm, hm1, hm2⟩ := sizes9_at k (by omega)
  have hcell := lit_cell hg2 (by simp; omega) hm
  simp only [World.size_alloc] at hcell
  have hk9 : k < 9 := by omega
  have Hg2 := Lib.hid (grownBy_trans (grownBy_trans (World.grownBy_alloc w _ (some R)) (World.grownBy_alloc _ _ (some R))) hg2)
  have Ho2 := Lib.hid (Ho1.out.kept hg2 (.inr (by simp [Value.ownBlock]; omega)))
  have Hr2 := Lib.hid hr2; clear hr2
  clear hm hk0 hk1 hg2
  go_wp2_with fail
  go_loopw [3, 5] (fun v i wr => ∃ xs q, xs.length ≤ m ∧ i = .int .i64 (List.length (α := Int) xs) ∧ Own 3 wr w.heap.size v xs ∧ Small xs ∧ Rdr wr R q ∧ q ≤ p + 1 + 2 * xs.length ∧ w.grownBy wr (some R)) (fun _ i _ => m - (intOf i).toNat)
  case atStart => exact ⟨[], p + 1, by simp, rfl, Ho2.out, by intro x hx; simp at hx, Hr2.out, by simp, Hg2.out⟩
  case round =>
    obtain ⟨xs, q, hxm, rfl, hown, hsm, hrd, hq, hgr⟩ := hrel
    by_cases hlt : xs.length < m
    · have Hrd := Lib.hid hrd; clear hrd
      have Hown := Lib.hid hown; clear hown
      go_wp2_with fail
      refine (pick_any R 4 q _ (by omega) Hrd.out (by omega)).mono ?_
      rintro e w3 ⟨x, rfl, hx0, hx1, hr3, hg3⟩
      have Hr3 := Lib.hid hr3; clear hr3
      have Hg3 := Lib.hid (grownBy_trans hgr hg3)
      have Ho3 := Lib.hid (Hown.out.kept hg3 (.inr (fun e => by have := (Hown.out.lt R e).1; omega)))
      clear hg3
      go_wp2_with fail
      refine (pick_any R 3 (q + 1) _ (by omega) Hr3.out (by omega)).mono ?_
      rintro e w4 ⟨y, rfl, hy0, hy1, hr4, hg4⟩
      have Hr4 := Lib.hid hr4; clear hr4
      have Hg4 := Lib.hid (grownBy_trans Hg3.out hg4)
      have Ho4 := Lib.hid (Ho3.out.kept hg4 (.inr (fun e => by have := (Ho3.out.lt R e).1; omega)))
      clear hg4
      obtain ⟨hxy0, hxy1⟩ := prod_bd hx0 (show x ≤ 3 by omega) hy0 (show y ≤ 2 by omega)
      have hB := Hg4.out.size
      go_wp2_with (at_builtin; refine wpList_push TI' rfl (.tmp 17) (.tmp 25) rfl w.heap.size _ xs _ rfl Ho4.out (by omega) rfl hB ?_; intro v' w5 hown5 hg5)
      have Hr5 := Lib.hid (Hr4.out.kept hg5 (fun g e => by have := (Ho4.out.lt g e).1; omega))
      have Hg5 := Lib.hid (grown_row Hg4.out hg5 (fun g e => (Ho4.out.lt g e).1))
      clear hg5
      go_wp2
      go_roundw
      case rel => exact ⟨_, q + 2, by simp; omega, by simp, hown5, small_push hsm (by omega) (by omega), Hr5.out, by simp; omega, Hg5.out⟩
      case measure => simp [intOf]; omega
    · have Hrd := Lib.hid hrd; clear hrd
      have hxm' : xs.length = m := by omega
      obtain ⟨g, cap, rfl, hgB, hgs, hcap, hcells, hfz⟩ := hown.row (by omega)
      have Hown := Lib.hid hown; clear hown
      have Hcells := Lib.hid hcells; clear hcells
      have Hfz := Lib.hid hfz; clear hfz
      have Hm := Lib.hid hxm'; clear hxm'
      go_wp2_with fail
      refine (pick_any R 24 q _ (by omega) Hrd.out (by omega)).mono ?_
      rintro e w3 ⟨x, rfl, hx0, hx1, hr3, hg3⟩
      have Hr3 := Lib.hid hr3; clear hr3
      have Hg3 := Lib.hid (grownBy_trans hgr hg3)
      have Ho3 := Lib.hid (Hown.out.kept hg3 (.inr (by simp [Value.ownBlock]; omega)))
      have hB := Hg3.out.size
      clear hg3 Hcells Hfz
      by_cases h0 : x = 0
      · subst h0
        go_wp2_with (at_builtin; refine wpList_pushes TI' rfl (.tmp 31) (.tmp 32) rfl w.heap.size _ xs [1, 1, 1, 1] 4 _ rfl rfl rfl Ho3.out (by simp; omega) rfl hB ?_; intro v' w5 hown5 hg5)
        go_ret
        exact ⟨_, _, _, rfl, hown5, by simp; omega, small_app hsm (by intro z hz; simp at hz; omega),
          Hr3.out.kept hg5 (fun g' e => by have := (Ho3.out.lt g' e).1; omega), by omega, grown_row Hg3.out hg5 (fun g' e => (Ho3.out.lt g' e).1)⟩
      have h0' : (x == 0) = false := by rw [beq_eq_false_iff_ne]; exact h0
      by_cases h1 : x = 1
      · subst h1
        have Hxl := Lib.hid (show (xs.length : Int) = m by omega)
        go_wp2_with fail
        refine (pick_any R m (q + 1) _ (by omega) Hr3.out (by omega)).mono ?_
        rintro e w4 ⟨y, rfl, hy0, hy1, hr4, hg4⟩
        obtain ⟨y, rfl⟩ := Int.eq_ofNat_of_zero_le hy0
        have Hr4 := Lib.hid (hr4.alloc (.cells #[.int .i64 0, .int .i64 9, .int .i64 10, .int .i64 (-1)] 3)); clear hr4
        have Hg4 := Lib.hid ((grownBy_trans Hg3.out hg4))
        have Ho4 := Lib.hid (Ho3.out.kept hg4 (.inr (by simp [Value.ownBlock]; omega)))
        have hs4 := Hg4.out.size
        clear hg4
        go_wp2_with fail
        refine (pick_any R 4 (q + 1 + 1) _ (by omega) Hr4.out (by omega)).mono ?_
        rintro e w5 ⟨u, rfl, hu0, hu1, hr5, hg5⟩
        obtain ⟨u, rfl⟩ := Int.eq_ofNat_of_zero_le hu0
        obtain ⟨z, hz, hz1, hz2⟩ := lit4_at u (by omega)
        have hcell := lit_cell hg5 (by simp; omega) hz
        have Ho5 := Lib.hid ((Ho4.out.alloc _).kept hg5 (.inr (by simp [Value.ownBlock]; omega)))
        have Hg5 := Lib.hid (grownBy_trans (grownBy_trans Hg4.out (World.grownBy_alloc _ _ _)) hg5)
        have Hr5 := Lib.hid hr5; clear hr5
        have hu4 : u < 4 := by omega
        have hyx : y < xs.length := by omega
        have hs5 := Hg5.out.size
        obtain ⟨g', cap', hv', hgB', hgs', hcap', hcells', hfz'⟩ := Ho5.out.row (by omega)
        simp only [Value.slice.injEq, Option.some.injEq, Addr.mk.injEq, and_true, true_and] at hv'
        obtain ⟨rfl, rfl⟩ := hv'
        have hold := hcells' y hyx
        have hfr := hfz' y
        clear hg5 hz hu0 hu1 hy0 hy1 hcells' hfz' hgs'
        go_wp2
        go_ret
        have hst := Ho5.out.store rfl y z
        exact ⟨_, _, _, rfl, hst.1, by simp; omega, small_set hsm y hz1 hz2, Hr5.out.kept hst.2 (fun g' e => by simp at e; omega), by omega, grown_row Hg5.out hst.2 (fun g' e => by simp at e; omega)⟩
      have h1' : (x == 1) = false := by rw [beq_eq_false_iff_ne]; exact h1
      by_cases h2 : x = 2
      · subst h2
        go_wp2
        go_ret
        exact ⟨_, _, _, rfl, Ho3.out.front 0 (by omega), by simp, by intro z hz; simp at hz, Hr3.out, by omega, Hg3.out⟩
      have h2' : (x == 2) = false := by rw [beq_eq_false_iff_ne]; exact h2
      go_wp2
      go_ret
      exact ⟨_, _, _, rfl, Ho3.out, by omega, hsm, Hr3.out, by omega, Hg3.out⟩

theorem drawMembers (R p n : Nat) (w : World) (hp : p ≤ 1000000) (hn : n ≤ 1000) (hr : Rdr w R p) (hR : R < w.heap.size) :
    Calls Try.prog 70 #[.pointer (some ⟨R, 0, none⟩), .int .i64 n] w fun e w' => ∃ v xs p', e = .returned v ∧ Own 3 w' w.heap.size v xs ∧ xs.length ≤ n + 1 ∧ Rdr w' R p' ∧ p' ≤ p + n + 2 ∧ w.grownBy w' (some R) := by
  have Hr1 := Lib.hid (hr.alloc (.cells #[] 3)); clear hr
  go_enter Try.func70, Try.ntmps70
  go_wp2_with fail
  go_loopw [5, 6] (fun v i wr => ∃ xs k, k ≤ n ∧ xs.length ≤ k ∧ i = .int .i64 (k : Nat) ∧ Own 3 wr w.heap.size v xs ∧ Rdr wr R (p + k) ∧ w.grownBy wr (some R)) (fun _ i _ => n - (intOf i).toNat)
  case atStart => exact ⟨[], 0, by simp, by simp, rfl, own_empty _ _ (Nat.le_refl _), Hr1.out, World.grownBy_alloc _ _ _⟩
  case round =>
    obtain ⟨xs, k, hkn, hxk, rfl, hown, hrd, hgr⟩ := hrel
    have Hrd := Lib.hid hrd; clear hrd
    have Hown := Lib.hid hown; clear hown
    by_cases hlt : k < n
    · go_wp2_with fail
      refine (pick_any R 4 (p + k) _ (by omega) Hrd.out (by omega)).mono ?_
      rintro e w3 ⟨x, rfl, hx0, hx1, hr3, hg3⟩
      have Hr3 := Lib.hid hr3; clear hr3
      have Hg3 := Lib.hid (grownBy_trans hgr hg3)
      have Ho3 := Lib.hid (Hown.out.kept hg3 (.inr (fun e => by have := (Hown.out.lt R e).1; omega)))
      have hB := Hg3.out.size
      clear hg3
      by_cases hx : 0 < x
      · go_wp2_with (at_builtin; refine wpList_push TI' rfl (.tmp 16) (.tmp 18) rfl w.heap.size _ xs _ rfl Ho3.out (by omega) rfl hB ?_; intro v' w5 hown5 hg5)
        go_roundw
        case rel => exact ⟨_, k + 1, by omega, by simp; omega, by go_num, hown5, Hr3.out.kept hg5 (fun g e => by have := (Ho3.out.lt g e).1; omega), grown_row Hg3.out hg5 (fun g e => (Ho3.out.lt g e).1)⟩
        case measure => simp [intOf]; omega
      · go_wp2
        go_roundw
        case rel => exact ⟨xs, k + 1, by omega, by omega, by go_num, Ho3.out, Hr3.out, Hg3.out⟩
        case measure => simp [intOf]; omega
    · have hk : k = n := by omega
      have hkn' : (k : Int) = n := by omega
      go_wp2_with fail
      refine (pick_any R 16 (p + k) _ (by omega) Hrd.out (by omega)).mono ?_
      rintro e w3 ⟨x, rfl, hx0, hx1, hr3, hg3⟩
      have Hr3 := Lib.hid hr3; clear hr3
      have Hg3 := Lib.hid (grownBy_trans hgr hg3)
      have Ho3 := Lib.hid (Hown.out.kept hg3 (.inr (fun e => by have := (Hown.out.lt R e).1; omega)))
      have hB := Hg3.out.size
      clear hg3
      have Hk := Lib.hid hk; clear hk hkn'
      by_cases h0 : x = 0
      · subst h0
        go_wp2_with (at_builtin; refine wpList_push TI' rfl (.tmp 24) (.tmp 26) rfl w.heap.size _ xs _ rfl Ho3.out (by omega) rfl hB ?_; intro v' w5 hown5 hg5)
        go_ret
        exact ⟨_, _, _, rfl, hown5, by simp; omega, Hr3.out.kept hg5 (fun g e => by have := (Ho3.out.lt g e).1; omega), by omega, grown_row Hg3.out hg5 (fun g e => (Ho3.out.lt g e).1)⟩
      have h0' : (x == 0) = false := by rw [beq_eq_false_iff_ne]; exact h0
      by_cases h1 : x = 1
      · subst h1
        go_wp2_with fail
        refine (pick_any R 8 (p + k + 1) _ (by omega) Hr3.out (by omega)).mono ?_
        rintro e w4 ⟨y, rfl, hy0, hy1, hr4, hg4⟩
        have Hr4 := Lib.hid hr4; clear hr4
        have Hg4 := Lib.hid (grownBy_trans Hg3.out hg4)
        have Ho4 := Lib.hid (Ho3.out.kept hg4 (.inr (fun e => by have := (Ho3.out.lt R e).1; omega)))
        have hB4 := Hg4.out.size
        clear hg4
        go_wp2_with (at_builtin; refine wpList_push TI' rfl (.tmp 30) (.tmp 34) rfl w.heap.size _ xs _ rfl Ho4.out (by omega) rfl hB4 ?_; intro v' w5 hown5 hg5)
        go_ret
        exact ⟨_, _, _, rfl, hown5, by simp; omega, Hr4.out.kept hg5 (fun g e => by have := (Ho4.out.lt g e).1; omega), by omega, grown_row Hg4.out hg5 (fun g e => (Ho4.out.lt g e).1)⟩
      have h1' : (x == 1) = false := by rw [beq_eq_false_iff_ne]; exact h1
      go_wp2
      go_ret
      exact ⟨_, _, _, rfl, Ho3.out, by omega, Hr3.out, by omega, Hg3.out⟩

theorem below_of_row {w w' : World} {R B : Nat} (h : w.grownBy w' (some R)) (hR : B ≤ R) (hB : B ≤ w.heap.size) : Below B w w' :=
  ⟨h.os, h.tape, h.output, h.size, fun k hk => h.block k (by omega) (fun e => by injection e with e; omega)⟩

end Go.Proofs.Yteglefchkecfjaa

/- The draws of digests, leaves and texts: what is drawn is short and lies in new memory; each by a walk of its text; condition: at most 2^40 picks. -/
namespace Go.Proofs.Yteglefchkecfjaa
open Go.RowKit

/-- Numbers between -1 and 991. -/
def Digs (xs : List Int) : Prop := ∀ x ∈ xs, -1 ≤ x ∧ x ≤ 991
theorem digs_app {xs zs : List Int} (h : Digs xs) (k : Digs zs) : Digs (xs ++ zs) := fun x hx => by
  rcases List.mem_append.1 hx with hx | hx
  · exact h x hx
  · exact k x hx
theorem digs_one {z : Int} (h1 : -1 ≤ z) (h2 : z ≤ 991) : Digs [z] := fun x hx => by simp at hx; subst hx; exact ⟨h1, h2⟩
theorem digs_set {xs : List Int} (h : Digs xs) (j : Nat) {z : Int} (h1 : -1 ≤ z) (h2 : z ≤ 991) : Digs (xs.set j z) := fun x hx => by
  rcases List.mem_or_eq_of_mem_set hx with hx | rfl
  · exact h x hx
  · exact ⟨h1, h2⟩
theorem grown_row' {w a b : World} {R : Nat} {row : Option Nat} (h : w.grownBy a (some R)) (k : a.grownBy b row) (hr : ∀ g, row = some g → w.heap.size ≤ g) : w.grownBy b (some R) :=
  ⟨k.os.trans h.os, k.tape.trans h.tape, k.output.trans h.output, Nat.le_trans h.size k.size, fun i hi hne => (k.block i (Nat.lt_of_lt_of_le hi h.size) (fun e => by have := hr i e.symm; omega)).trans (h.block i hi hne)⟩
theorem below_of_row' {w w' : World} {R B : Nat} (h : w.grownBy w' (some R)) (hR : B ≤ R) (hB : B ≤ w.heap.size) : Below B w w' :=
  ⟨h.os, h.tape, h.output, h.size, fun k hk => h.block k (by omega) (fun e => by injection e with e; omega)⟩
theorem dig4_at (k : Nat) (hk : k < 4) : ∃ z : Int, (#[Value.int .i64 (-1), .int .i64 0, .int .i64 990, .int .i64 991] : Array Value)[k]? = some (.int .i64 z) ∧ -1 ≤ z ∧ z ≤ 991 := by
  match k, hk with
  | 0, _ => exact ⟨-1, rfl, by omega, by omega⟩
  | 1, _ => exact ⟨0, rfl, by omega, by omega⟩
  | 2, _ => exact ⟨990, rfl, by omega, by omega⟩
  | 3, _ => exact ⟨991, rfl, by omega, by omega⟩

theorem drawDigest (R p : Nat) (w : World) (hp : p ≤ 1000000) (hr : Rdr w R p) :
    Calls Try.prog 53 #[.pointer (some ⟨R, 0, none⟩)] w fun e w' => ∃ (d : Int) (p' : Nat), e = .returned (.int .i64 d) ∧ -1 ≤ d ∧ d ≤ 991 ∧ Rdr w' R p' ∧ p' ≤ p + 3 ∧ w.grownBy w' (some R) := by
  have Hr := Lib.hid hr; clear hr
  go_enter Try.func53, Try.ntmps53
  go_wp2_with fail
  refine (pick_any R 16 p _ (by omega) Hr.out (by omega)).mono ?_
  rintro e w1 ⟨x, rfl, hx0, hx1, hr1, hg1⟩
  have Hr1 := Lib.hid (hr1.alloc (.cells #[.int .i64 (-1), .int .i64 0, .int .i64 990, .int .i64 991] 3))
  have Hr1' := Lib.hid hr1; clear hr1
  have Hg1 := Lib.hid hg1; clear hg1
  have hRs := Hr1'.out.lt
  by_cases h0 : x = 0
  · subst h0
    go_wp2_with fail
    refine (pick_any R 4 (p + 1) _ (by omega) Hr1.out (by omega)).mono ?_
    rintro e w2 ⟨u, rfl, hu0, hu1, hr2, hg2⟩
    obtain ⟨u, rfl⟩ := Int.eq_ofNat_of_zero_le hu0
    obtain ⟨z, hz, hz1, hz2⟩ := dig4_at u (by omega)
    have hcell := lit_cell hg2 (by simp; omega) hz
    have Hg2 := Lib.hid (grownBy_trans (grownBy_trans Hg1.out (World.grownBy_alloc _ _ _)) hg2)
    have hu4 : u < 4 := by omega
    have Hr2 := Lib.hid hr2
    clear hg2 hz hu0 hu1 hr2
    go_wp2
    go_ret
    exact ⟨z, _, rfl, hz1, hz2, Hr2.out, by omega, Hg2.out⟩
  · have h0' : (x == 0) = false := by rw [beq_eq_false_iff_ne]; exact h0
    go_wp2_with fail
    refine (pick_any R 99 (p + 1) _ (by omega) Hr1'.out (by omega)).mono ?_
    rintro e w2 ⟨u, rfl, hu0, hu1, hr2, hg2⟩
    have Hr2 := Lib.hid hr2
    have Hg2 := Lib.hid (grownBy_trans Hg1.out hg2)
    clear hr2 hg2
    go_wp2_with fail
    refine (pick_any R 10 (p + 2) _ (by omega) Hr2.out (by omega)).mono ?_
    rintro e w3 ⟨y, rfl, hy0, hy1, hr3, hg3⟩
    have Hr3 := Lib.hid hr3
    have Hg3 := Lib.hid (grownBy_trans Hg2.out hg3)
    clear hr3 hg3
    go_wp2
    go_ret
    exact ⟨_, _, rfl, by omega, by omega, Hr3.out, by omega, Hg3.out⟩

end Go.Proofs.Yteglefchkecfjaa

/- What spec's draws of keys, digests and signatures answer, each by a walk of its text; conditions: the text of code can be read. -/
namespace Go.Proofs.Yteglefchkecfjaa
open Go.RowKit

theorem key4_at (k : Nat) (hk : k < 4) : ∃ z : Int, (#[Value.int .i64 0, .int .i64 996, .int .i64 997, .int .i64 (-1)] : Array Value)[k]? = some (.int .i64 z) ∧ -1 ≤ z ∧ z ≤ 997 := by
  match k, hk with
  | 0, _ => exact ⟨0, rfl, by omega, by omega⟩
  | 1, _ => exact ⟨996, rfl, by omega, by omega⟩
  | 2, _ => exact ⟨997, rfl, by omega, by omega⟩
  | 3, _ => exact ⟨-1, rfl, by omega, by omega⟩

theorem drawKey (R p : Nat) (w : World) (hp : p ≤ 1000000) (hr : Rdr w R p) :
    Calls Try.prog 56 #[.pointer (some ⟨R, 0, none⟩)] w fun e w' => ∃ (d : Int) (p' : Nat), e = .returned (.int .i64 d) ∧ -1 ≤ d ∧ d ≤ 997 ∧ Rdr w' R p' ∧ p' ≤ p + 3 ∧ w.grownBy w' (some R) := by
  have Hr := Lib.hid hr; clear hr
  go_enter Try.func56, Try.ntmps56
  go_wp2_with fail
  refine (pick_any R 20 p _ (by omega) Hr.out (by omega)).mono ?_
  rintro e w1 ⟨x, rfl, hx0, hx1, hr1, hg1⟩
  have Hr1 := Lib.hid (hr1.alloc (.cells #[.int .i64 0, .int .i64 996, .int .i64 997, .int .i64 (-1)] 3))
  have Hr1' := Lib.hid hr1; clear hr1
  have Hg1 := Lib.hid hg1; clear hg1
  have hRs := Hr1'.out.lt
  by_cases h0 : x = 0
  · subst h0
    go_wp2_with fail
    refine (pick_any R 4 (p + 1) _ (by omega) Hr1.out (by omega)).mono ?_
    rintro e w2 ⟨u, rfl, hu0, hu1, hr2, hg2⟩
    obtain ⟨u, rfl⟩ := Int.eq_ofNat_of_zero_le hu0
    obtain ⟨z, hz, hz1, hz2⟩ := key4_at u (by omega)
    have hcell := lit_cell hg2 (by simp; omega) hz
    have Hg2 := Lib.hid (grownBy_trans (grownBy_trans Hg1.out (World.grownBy_alloc _ _ _)) hg2)
    have hu4 : u < 4 := by omega
    have Hr2 := Lib.hid hr2
    clear hg2 hz hu0 hu1 hr2
    go_wp2
    go_ret
    exact ⟨z, _, rfl, hz1, hz2, Hr2.out, by omega, Hg2.out⟩
  · have h0' : (x == 0) = false := by rw [beq_eq_false_iff_ne]; exact h0
    go_wp2_with fail
    refine (pick_any R 99 (p + 1) _ (by omega) Hr1'.out (by omega)).mono ?_
    rintro e w2 ⟨u, rfl, hu0, hu1, hr2, hg2⟩
    have Hr2 := Lib.hid hr2
    have Hg2 := Lib.hid (grownBy_trans Hg1.out hg2)
    clear hr2 hg2
    go_wp2_with fail
    refine (pick_any R 10 (p + 2) _ (by omega) Hr2.out (by omega)).mono ?_
    rintro e w3 ⟨y, rfl, hy0, hy1, hr3, hg3⟩
    have Hr3 := Lib.hid hr3
    have Hg3 := Lib.hid (grownBy_trans Hg2.out hg3)
    clear hr3 hg3
    go_wp2
    go_ret
    exact ⟨_, _, rfl, by omega, by omega, Hr3.out, by omega, Hg3.out⟩

end Go.Proofs.Yteglefchkecfjaa

/- The draws of secrets, keys and what CertMake is called with: what is drawn is short and lies in new memory; each by a walk of its text; condition: at most 10^6 picks before. -/
namespace Go.Proofs.Yteglefchkecfjaa
open Go.RowKit

theorem drawSecrets (R p n : Nat) (w : World) (hp : p ≤ 1000000) (hn : n ≤ 1000) (hr : Rdr w R p) (hR : R < w.heap.size) :
    Calls Try.prog 52 #[.pointer (some ⟨R, 0, none⟩), .int .i64 n] w fun e w' => ∃ v xs p', e = .returned v ∧ Own 3 w' w.heap.size v xs ∧ xs.length = n ∧ Rdr w' R p' ∧ p' ≤ p + n ∧ w.grownBy w' (some R) := by
  have Hr1 := Lib.hid (hr.alloc (.cells #[] 3)); clear hr
  go_enter Try.func52, Try.ntmps52
  go_wp2_with fail
  go_loopw [5, 6] (fun v i wr => ∃ xs : List Int, xs.length ≤ n ∧ i = .int .i64 (List.length xs) ∧ Own 3 wr w.heap.size v xs ∧ Rdr wr R (p + xs.length) ∧ w.grownBy wr (some R)) (fun _ i _ => n - (intOf i).toNat)
  case atStart => exact ⟨[], by simp, rfl, own_empty _ _ (Nat.le_refl _), Hr1.out, World.grownBy_alloc _ _ _⟩
  case round =>
    obtain ⟨xs, hxn, rfl, hown, hrd, hgr⟩ := hrel
    have Hrd := Lib.hid hrd; clear hrd
    have Hown := Lib.hid hown; clear hown
    by_cases hlt : xs.length < n
    · go_wp2_with fail
      refine (pick_any R 99 (p + xs.length) _ (by omega) Hrd.out (by omega)).mono ?_
      rintro e w3 ⟨x, rfl, hx0, hx1, hr3, hg3⟩
      have Hr3 := Lib.hid hr3; clear hr3
      have Hg3 := Lib.hid (grownBy_trans hgr hg3)
      have Ho3 := Lib.hid (Hown.out.kept hg3 (.inr (fun e => by have := (Hown.out.lt R e).1; omega)))
      have hB := Hg3.out.size
      clear hg3
      go_wp2_with (at_builtin; refine wpList_push TI' rfl (.tmp 13) (.tmp 20) rfl w.heap.size _ xs _ rfl Ho3.out (by omega) rfl hB ?_; intro v' w5 hown5 hg5)
      go_roundw
      case rel => exact ⟨_, by simp; omega, by simp, hown5, by rw [List.length_append]; exact Hr3.out.kept hg5 (fun g e => by have := (Ho3.out.lt g e).1; omega), grown_row Hg3.out hg5 (fun g e => (Ho3.out.lt g e).1)⟩
      case measure => simp [intOf]; omega
    · have hk : xs.length = n := by omega
      have Hk := Lib.hid hk; clear hk
      go_wp2
      go_ret
      exact ⟨_, xs, _, rfl, Hown.out, Hk.out, Hrd.out, by omega, hgr⟩

theorem drawKeys (a : Option Addr) (cap : Nat) (xs : List Int) (w : World) (hn : xs.length ≤ 1000) (hc : IntsAt w a xs) :
    Calls Try.prog 57 #[.slice a xs.length cap] w fun e w' => ∃ v ys, e = .returned v ∧ Own 3 w' w.heap.size v ys ∧ ys.length = xs.length ∧ Below w.heap.size w w' := by
  have Hc := Lib.hid hc; clear hc
  go_enter Try.func57, Try.ntmps57
  go_wp2_with fail
  go_loopw [3, 4] (fun v i wr => ∃ ys : List Int, ys.length ≤ xs.length ∧ i = .int .i64 (List.length ys) ∧ Own 3 wr w.heap.size v ys ∧ Below w.heap.size w wr) (fun _ i _ => xs.length - (intOf i).toNat)
  case atStart => exact ⟨[], by simp, rfl, own_empty _ _ (Nat.le_refl _), (Below.refl _ _).alloc (Nat.le_refl _) _⟩
  case round =>
    obtain ⟨ys, hyn, rfl, hown, hbel⟩ := hrel
    have Hown := Lib.hid hown; clear hown
    by_cases hlt : ys.length < xs.length
    · obtain ⟨b, off, rfl, hb, hcs⟩ := (Hc.out.below hbel).cell (by omega)
      have hcell := hcs ys.length hlt
      generalize xs[ys.length] = x at *
      have Hx := Lib.hid (fun W => spec_KeyPublic x W)
      generalize kpZ x = z at *
      have hB := hbel.size
      clear hcs
      go_wp2_with fail
      refine (Hx.out _).mono ?_
      rintro e w3 ⟨rfl, rfl⟩
      go_wp2_with (at_builtin; refine wpList_push TI' rfl (.tmp 12) (.tmp 18) rfl w.heap.size _ ys _ rfl Hown.out (by omega) rfl hB ?_; intro v' w5 hown5 hg5)
      have hb5 := hbel.grown hg5 hB (fun g e => (Hown.out.lt g e).1)
      go_roundw
      case rel => exact ⟨_, by simp; omega, by simp, hown5, hb5⟩
      case measure => simp [intOf]; omega
    · have hk : ys.length = xs.length := by omega
      have Hk := Lib.hid hk; clear hk
      go_wp2
      go_ret
      exact ⟨_, ys, rfl, Hown.out, Hk.out, hbel⟩

theorem below_of_grown {w w' : World} {R B : Nat} (h : w.grownBy w' (some R)) (hR : B ≤ R) (hB : B ≤ w.heap.size) : Below B w w' := below_of_row h hR hB

set_option maxHeartbeats 1000000 in
theorem spec_DrawCertMake (a : Option Addr) (cap : Nat) (zs : List Int) (w : World) (h : CodeAt w a cap zs) :
    Calls Try.prog 17 #[.slice a zs.length cap] w fun e w' => ∃ vc c vk keys d vs sigs, e = .returned (.tuple #[vc, vk, .int .i64 d, vs]) ∧ Own 3 w' w.heap.size vc c ∧ c.length ≤ 11 ∧ Own 3 w' w.heap.size vk keys ∧ keys.length = c.length ∧ Own 3 w' w.heap.size vs sigs ∧ sigs.length ≤ 12 ∧ Below w.heap.size w w' := by
  go_enter Try.func17, Try.ntmps17
  go_wp2_with fail
  refine (open_any a cap zs _ h).mono ?_
  rintro e w1 ⟨R, rfl, hR1, hR2, hr1, hb1⟩
  have Hr1 := Lib.hid hr1; clear hr1
  go_wp2_with fail
  refine (drawCommittee R 0 _ (by omega) Hr1.out hR2).mono ?_
  rintro e w2 ⟨vc, c, p', rfl, hown, hcl, hcs, hr2, hp', hg2⟩
  have Hr2 := Lib.hid hr2; clear hr2 hcs
  obtain ⟨ax, cx, rfl, _, _⟩ := hown.ints
  have Hc := Lib.hid hown; clear hown
  have hs2 := hg2.size
  have hs1 := hb1.size
  go_wp2_with fail
  refine (drawSecrets R p' c.length _ (by omega) (by omega) Hr2.out (by omega)).mono ?_
  rintro e w3 ⟨vx, xs, p3, rfl, hown, hxl, hr3, hp3, hg3⟩
  have Hr3 := Lib.hid hr3; clear hr3
  obtain ⟨aq, cq, rfl, hi3, _⟩ := hown.ints
  have hRl : ∀ b, (Value.slice aq xs.length cq).ownBlock = some b → R < b := fun b e => by have := (hown.lt b e).1; omega
  have Hc3 := Lib.hid (Hc.out.kept hg3 (.inr (fun e => by have := (Hc.out.lt R e).1; omega)))
  have Hs := Lib.hid hi3; clear hi3 hown
  have HRl := Lib.hid hRl; clear hRl
  have Hxl := Lib.hid hxl; clear hxl
  have hs3 := hg3.size
  have Hg3 := Lib.hid (grownBy_trans hg2 hg3); clear hg2 hg3 Hc
  go_wp2_with fail
  refine (drawDigest R p3 _ (by omega) Hr3.out).mono ?_
  rintro e w4 ⟨d, p4, rfl, hd0, hd1, hr4, hp4, hg4⟩
  have Hr4 := Lib.hid (hr4.alloc (.cells #[] 3)); clear hr4
  have Hc4 := Lib.hid (Hc3.out.kept hg4 (.inr (fun e => by have := (Hc3.out.lt R e).1; omega)))
  have Hs4 := Lib.hid (Hs.out.grown hg4 (fun b e h => by have := HRl.out _ (ownBlock_slice b e); injection h with h; omega))
  have hs4 := hg4.size
  have Hg4 := Lib.hid (grownBy_trans Hg3.out hg4); clear hg4 Hg3 Hc3 Hs
  clear hd0 hd1
  go_wp2_with fail
  go_loopw [10, 11] (fun v i wr => ∃ (sg : List Int) (q : Nat), sg.length ≤ c.length ∧ i = .int .i64 (List.length sg) ∧ Own 3 wr w4.heap.size v sg ∧ Rdr wr R q ∧ q ≤ p4 + 4 * sg.length ∧ w4.grownBy wr (some R)) (fun _ i _ => c.length - (intOf i).toNat)
  case atStart => exact ⟨[], p4, by simp, rfl, own_empty _ _ (Nat.le_refl _), Hr4.out, by simp, World.grownBy_alloc _ _ _⟩
  case round =>
    obtain ⟨sg, q, hsl, rfl, hown, hrd, hq, hgr⟩ := hrel
    have Hrd := Lib.hid hrd; clear hrd
    have Hown := Lib.hid hown; clear hown
    have hB := hgr.size
    by_cases hlt : sg.length < c.length
    · obtain ⟨b, off, has, hb, hcs⟩ := (Hs4.out.grown hgr (fun b e h => by have := HRl.out _ (ownBlock_slice b e); injection h with h; omega)).cell (by have := Hxl.out; omega)
      have hcell := hcs sg.length (by have := Hxl.out; omega)
      have hlx : sg.length < xs.length := by have := Hxl.out; omega
      have Hgr := Lib.hid hgr; clear hgr hcs
      subst has
      generalize xs[sg.length] = x at *
      have Hx := Lib.hid (fun W => spec_SignMake x d W)
      generalize smZ x d = z at *
      go_wp2_with fail
      refine (Hx.out _).mono ?_
      rintro e w5 ⟨rfl, rfl⟩
      go_wp2_with fail
      refine (pick_any R 30 q _ (by omega) Hrd.out (by omega)).mono ?_
      rintro e w6 ⟨k, rfl, hk0, hk1, hr6, hg6⟩
      have Hr6 := Lib.hid hr6; clear hr6
      have Hg6 := Lib.hid (grownBy_trans Hgr.out hg6)
      have Ho6 := Lib.hid (Hown.out.kept hg6 (.inr (fun e => by have := (Hown.out.lt R e).1; omega)))
      have hB6 := Hg6.out.size
      clear hg6
      by_cases k4 : k = 4
      · subst k4
        go_wp2_with fail
        refine (drawKey R _ _ (by omega) Hr6.out).mono ?_
        rintro e w7 ⟨y, p7, rfl, hy0, hy1, hr7, hp7, hg7⟩
        have Hr7 := Lib.hid hr7; clear hr7
        have Hg7 := Lib.hid (grownBy_trans Hg6.out hg7)
        have Ho7 := Lib.hid (Ho6.out.kept hg7 (.inr (fun e => by have := (Ho6.out.lt R e).1; omega)))
        have hB7 := Hg7.out.size
        clear hg7 Hg6 Ho6
        go_wp2_with (at_builtin; refine wpList_push TI' rfl (.tmp 47) (.tmp 49) rfl w4.heap.size _ sg _ rfl Ho7.out (by omega) rfl hB7 ?_; intro v' w8 hown8 hg8)
        have Hr8 := Lib.hid (Hr7.out.kept hg8 (fun g e => by have := (Ho7.out.lt g e).1; omega))
        have Hg8 := Lib.hid (grown_row Hg7.out hg8 (fun g e => (Ho7.out.lt g e).1))
        clear hg8
        go_roundw
        case rel => exact ⟨_, p7, by simp; omega, by simp, hown8, Hr8.out, by simp; omega, Hg8.out⟩
        case measure => simp [intOf]; omega
      by_cases k3 : k < 4
      · obtain rfl | rfl | rfl | rfl : k = 0 ∨ k = 1 ∨ k = 2 ∨ k = 3 := by omega
        all_goals
          go_wp2_with (at_builtin; refine wpList_push TI' rfl (.tmp 47) (.tmp 49) rfl w4.heap.size _ sg _ rfl Ho6.out (by omega) rfl hB6 ?_; intro v' w8 hown8 hg8)
          have Hr8 := Lib.hid (Hr6.out.kept hg8 (fun g e => by have := (Ho6.out.lt g e).1; omega))
          have Hg8 := Lib.hid (grown_row Hg6.out hg8 (fun g e => (Ho6.out.lt g e).1))
          clear hg8
          go_roundw
          case rel => exact ⟨_, q + 1, by simp; omega, by simp, hown8, Hr8.out, by simp; omega, Hg8.out⟩
          case measure => simp [intOf]; omega
      have q0 : (k == 0) = false := by rw [beq_eq_false_iff_ne]; omega
      have q1 : (k == 1) = false := by rw [beq_eq_false_iff_ne]; omega
      have q2 : (k == 2) = false := by rw [beq_eq_false_iff_ne]; omega
      have q3 : (k == 3) = false := by rw [beq_eq_false_iff_ne]; omega
      have q4 : (k == 4) = false := by rw [beq_eq_false_iff_ne]; omega
      go_wp2_with (at_builtin; refine wpList_push TI' rfl (.tmp 47) (.tmp 49) rfl w4.heap.size _ sg _ rfl Ho6.out (by omega) rfl hB6 ?_; intro v' w8 hown8 hg8)
      have Hr8 := Lib.hid (Hr6.out.kept hg8 (fun g e => by have := (Ho6.out.lt g e).1; omega))
      have Hg8 := Lib.hid (grown_row Hg6.out hg8 (fun g e => (Ho6.out.lt g e).1))
      clear hg8
      go_roundw
      case rel => exact ⟨_, q + 1, by simp; omega, by simp, hown8, Hr8.out, by simp; omega, Hg8.out⟩
      case measure => simp [intOf]; omega
    · have Hgr := Lib.hid hgr; clear hgr
      go_wp2_with fail
      refine (pick_any R 20 q _ (by omega) Hrd.out (by omega)).mono ?_
      rintro e w6 ⟨k, rfl, hk0, hk1, hr6, hg6⟩
      have Hg6 := Lib.hid (grownBy_trans Hgr.out hg6)
      have Ho6 := Lib.hid (Hown.out.kept hg6 (.inr (fun e => by have := (Hown.out.lt R e).1; omega)))
      have hB6 := Hg6.out.size
      clear hg6 hr6
      have hxb : xs.length ≤ 1000 := by have := Hxl.out; omega
      by_cases k0 : k = 0
      · subst k0
        go_wp2_with (first | (at_builtin; refine wpList_push TI' rfl (.tmp 54) (.tmp 55) rfl w4.heap.size _ sg _ rfl Ho6.out (by omega) rfl hB6 ?_; intro v' w8 hown8 hg8; have Hg8 := Lib.hid (grown_row Hg6.out hg8 (fun g e => (Ho6.out.lt g e).1)); have Ho8 := Lib.hid hown8; clear hown8 hg8) | fail)
        have Hc8 := Lib.hid (Hc4.out.kept Hg8.out (.inr (fun e => by have := (Hc4.out.lt R e).1; omega)))
        have Hs8 := Lib.hid (Hs4.out.grown Hg8.out (fun b e h => by have := HRl.out _ (ownBlock_slice b e); injection h with h; omega))
        have hB8 := Hg8.out.size
        refine (drawKeys aq cq xs w8 hxb Hs8.out).mono ?_
        rintro e w9 ⟨vk, keys, rfl, hown9, hkl, hb9⟩
        have hz9 := hb9.size
        have Ho9 := Lib.hid ((Ho8.out.below hb9).mono (B' := w.heap.size) (by omega))
        have Hc9 := Lib.hid ((Hc8.out.below hb9).mono (B' := w.heap.size) (by omega))
        have Hk9 := Lib.hid (hown9.mono (B' := w.heap.size) (by omega))
        have Hb9 := Lib.hid (below_step (hb1.trans (below_of_grown (grownBy_trans Hg4.out Hg8.out) hR1 hs1)) (by omega) hb9)
        have Hkl := Lib.hid (hkl.trans Hxl.out)
        clear hown9 hkl hb9
        go_wp2
        refine bodyPost_ret (results_tmp4 rfl _ _ _) rfl ?_
        exact ⟨_, c, _, keys, d, _, sg ++ [0], rfl, Hc9.out, hcl, Hk9.out, Hkl.out, Ho9.out, by first | omega | (simp; omega), Hb9.out⟩
      · have k0' : (k == 0) = false := by rw [beq_eq_false_iff_ne]; exact k0
        go_wp2_with fail
        have Hc8 := Lib.hid (Hc4.out.kept Hg6.out (.inr (fun e => by have := (Hc4.out.lt R e).1; omega)))
        have Hs8 := Lib.hid (Hs4.out.grown Hg6.out (fun b e h => by have := HRl.out _ (ownBlock_slice b e); injection h with h; omega))
        have hB8 := Hg6.out.size
        refine (drawKeys aq cq xs _ hxb Hs8.out).mono ?_
        rintro e w9 ⟨vk, keys, rfl, hown9, hkl, hb9⟩
        have hz9 := hb9.size
        have Ho9 := Lib.hid ((Ho6.out.below hb9).mono (B' := w.heap.size) (by omega))
        have Hc9 := Lib.hid ((Hc8.out.below hb9).mono (B' := w.heap.size) (by omega))
        have Hk9 := Lib.hid (hown9.mono (B' := w.heap.size) (by omega))
        have Hb9 := Lib.hid (below_step (hb1.trans (below_of_grown (grownBy_trans Hg4.out Hg6.out) hR1 hs1)) (by omega) hb9)
        have Hkl := Lib.hid (hkl.trans Hxl.out)
        clear hown9 hkl hb9
        go_wp2
        refine bodyPost_ret (results_tmp4 rfl _ _ _) rfl ?_
        exact ⟨_, c, _, keys, d, _, sg, rfl, Hc9.out, hcl, Hk9.out, Hkl.out, Ho9.out, by omega, Hb9.out⟩

end Go.Proofs.Yteglefchkecfjaa

/- What the laws' helpers that mark a list of integers and look the marks up answer, each by a walk of its text; condition: a list has at most 2^40 elements. -/
namespace Go.Proofs.Yteglefchkecfjaa
open Go.RowKit

/-- The marks k, k+1, .. -/
def markL (k n : Nat) : List Int := (List.range n).map (fun j => ((k + j : Nat) : Int))
theorem markL_len (k n : Nat) : (markL k n).length = n := by simp [markL]
theorem markL_get (k n j : Nat) (h : j < (markL k n).length) : (markL k n)[j] = ((k + j : Nat) : Int) := by simp [markL]
theorem markL_snoc (k n : Nat) : markL k (n + 1) = markL k n ++ [((k + n : Nat) : Int)] := by simp [markL, List.range_succ]
/-- i elements are marked. -/
def markU (xs : List Int) (k i : Nat) : List Int := markL k i ++ xs.drop i
theorem markU_len {xs : List Int} {k i : Nat} (h : i ≤ xs.length) : (markU xs k i).length = xs.length := by simp [markU, markL_len]; omega
theorem markU_zero (xs : List Int) (k : Nat) : markU xs k 0 = xs := by simp [markU, markL]
theorem markU_all (xs : List Int) (k : Nat) : markU xs k xs.length = markL k xs.length := by simp [markU]
theorem markU_step {xs : List Int} {k i : Nat} (h : i < xs.length) : (markU xs k i).set i ((k : Int) + (i : Int)) = markU xs k (i + 1) := by
  unfold markU
  rw [← Int.natCast_add, List.set_append, if_neg (by rw [markL_len]; omega), markL_len, Nat.sub_self, markL_snoc, List.append_assoc, List.drop_eq_getElem_cons h]
  rfl

/-- What is made later lies apart. -/
theorem own_apart {E E' : TypeId} {w w' : World} {B B' : Nat} {v v' : Value} {xs ys : List Int} (h : Own E w B v xs) (h' : Own E' w' B' v' ys) (hB : w.heap.size ≤ B') : (v.ownBlock = none ∨ v.ownBlock ≠ v'.ownBlock) ∧ (v'.ownBlock = none ∨ v'.ownBlock ≠ v.ownBlock) := by
  cases e : v.ownBlock with
  | none => exact ⟨.inl rfl, by cases e' : v'.ownBlock <;> simp⟩
  | some g =>
    have h1 := (h.lt g e).2
    cases e' : v'.ownBlock with
    | none => exact ⟨.inr (by simp), .inl rfl⟩
    | some g' =>
      have h2 := (h'.lt g' e').1
      exact ⟨.inr (by simp; omega), .inr (by simp; omega)⟩
theorem Own.at {E : TypeId} {w : World} {B n c : Nat} {a : Option Addr} {xs : List Int} (h : Own E w B (.slice a n c) xs) : IntsAt w a xs := by
  obtain ⟨a', c', e, hi, _⟩ := h.ints
  simp only [Value.slice.injEq] at e
  obtain ⟨rfl, _, _⟩ := e
  exact hi
theorem Own.cap {E : TypeId} {w : World} {B n c : Nat} {a : Option Addr} {xs : List Int} (h : Own E w B (.slice a n c) xs) : xs.length ≤ c := by
  rcases Nat.eq_zero_or_pos xs.length with h0 | h0
  · omega
  · obtain ⟨g, cap, e, _, _, hc, _⟩ := h.row h0
    simp only [Value.slice.injEq] at e
    omega
theorem below_row {a w w' : World} {B B' : Nat} {E : TypeId} {v : Value} {xs : List Int} (h : Below B a w) (hB : B ≤ w.heap.size) (hg : w.grownBy w' v.ownBlock) (ho : Own E w B' v xs) (hB' : B ≤ B') : Below B a w' :=
  h.grown hg hB (fun g e => Nat.le_trans hB' (ho.lt g e).1)
theorem ret_num {a b : Int} (h : a = b) : Value.int .i64 a = .int .i64 b := by rw [h]

theorem laws_markIntS (v : Value) (xs : List Int) (k B : Nat) (w : World) (hlen : xs.length ≤ 1099511627776) (hk : k ≤ 1099511627776) (hown : Own 3 w B v xs) :
    Calls Try.prog 31 #[v, .int .i64 k] w fun e w' => e = .returned (.int .i64 ((k + xs.length : Nat) : Int)) ∧ Own 3 w' B v (markL k xs.length) ∧ w.grownBy w' v.ownBlock := by
  obtain ⟨a, cap, rfl, _, _⟩ := hown.ints
  have Hown := Lib.hid hown; clear hown
  go_enter Try.func31, Try.ntmps31
  go_wp2
  go_loopw [1, 5] (fun vk vi wr => ∃ i : Nat, i ≤ xs.length ∧ vk = .int .i64 ((k + i : Nat) : Int) ∧ vi = .int .i64 i ∧ Own 3 wr B (.slice a xs.length cap) (markU xs k i) ∧ w.grownBy wr (Value.slice a xs.length cap).ownBlock) (fun _ vi _ => xs.length - (intOf vi).toNat)
  case atStart => exact ⟨0, by omega, rfl, rfl, by rw [markU_zero]; exact Hown.out, World.grownBy.refl _ _⟩
  case round =>
    obtain ⟨i, hi, rfl, rfl, how, hgr⟩ := hrel
    have hul := markU_len (k := k) hi
    by_cases hlt : (i : Int) < xs.length
    · obtain ⟨g, cap', hv', hgB, hgs, hcap, hcells, hfz⟩ := how.row (by omega)
      simp only [Value.slice.injEq] at hv'
      obtain ⟨rfl, hl', rfl⟩ := hv'
      have hix : i < xs.length := by omega
      have hold := hcells i (by omega)
      have hfr := hfz i
      have hst := Lib.hid (how.store (by omega) i ((k : Int) + (i : Int)))
      have Hgr := Lib.hid hgr; clear hgr hcells hfz how hl'
      go_wp2
      go_roundw
      case rel =>
        obtain ⟨hs1, hs2⟩ := hst.out
        rw [markU_step hix] at hs1
        exact ⟨i + 1, by omega, ret_num (by omega), ret_num (by omega), hs1, grownBy_trans Hgr.out hs2⟩
      case measure => simp [intOf]; omega
    · have hxi : i = xs.length := by omega
      subst hxi
      have How := Lib.hid how; clear how
      have Hgr := Lib.hid hgr; clear hgr
      go_wp2
      go_ret
      exact ⟨rfl, by rw [← markU_all]; exact How.out, Hgr.out⟩

theorem laws_heldIntS (a : Option Addr) (cap k n : Nat) (w : World) (hlen : n ≤ 1099511627776) (hk : k ≤ 1099511627776) (hc : IntsAt w a (markL k n)) :
    Calls Try.prog 74 #[.slice a n cap, .int .i64 k] w fun e w' => e = .returned (.int .i64 ((k + n : Nat) : Int)) ∧ Drawn w w' := by
  have hl := markL_len k n
  have hg := markL_get k n
  generalize markL k n = xs at hc hl hg
  subst hl
  rcases hc.len with h0 | ⟨b, off, rfl, hb, hc⟩
  all_goals
    go_enter Try.func74, Try.ntmps74
    go_wp2
    go_loopw [1, 5] (fun vk vi wr => ∃ i : Nat, i ≤ xs.length ∧ vk = .int .i64 ((k + i : Nat) : Int) ∧ vi = .int .i64 i ∧ Drawn w wr) (fun _ vi _ => xs.length - (intOf vi).toNat)
    case atStart => exact ⟨0, by omega, rfl, rfl, Drawn.refl _⟩
    case round =>
      obtain ⟨i, hi, rfl, rfl, hwr⟩ := hrel
      by_cases hlt : i < xs.length
      · first
        | (exfalso; omega)
        | (have hcell := (hwr.cell ⟨b, off + i, none⟩).trans (hc i hlt)
           rw [hg i hlt] at hcell
           have Hc := Lib.hid hc; clear hc
           have Hg := Lib.hid hg; clear hg
           have e2 : (((k + i : Nat) : Int) != ((k + i : Nat) : Int)) = false := by rw [bne_eq_false_iff_eq]
           go_wp2
           go_roundw
           case rel => exact ⟨i + 1, by omega, ret_num (by omega), ret_num (by omega), hwr⟩
           case measure => simp [intOf]; omega)
      · go_wp2
        go_ret
        exact ⟨ret_int (by omega), hwr⟩

end Go.Proofs.Yteglefchkecfjaa

/- What the laws' helpers for certificates answer, each by a walk of its text; conditions: the lists have fewer than 2^40 elements. -/
namespace Go.Proofs.Yteglefchkecfjaa
open Go.RowKit

theorem laws_sameCert' (d s : Int) (a a' : Option Addr) (cap cap' : Nat) (xs : List Int) (w : World) (hbig : xs.length ≤ 1099511627776) (hc : IntsAt w a xs) (hc' : IntsAt w a' xs) :
    Calls Try.prog 20 #[.agg #[.int .i64 d, .slice a xs.length cap, .int .i64 s], .agg #[.int .i64 d, .slice a' xs.length cap', .int .i64 s]] w fun e w' => e = .returned (.bool true) ∧ Below w.heap.size w w' := by
  have hb : ∀ o o', Below w.heap.size w ((w.alloc o).alloc o') := fun o o' => ((Below.refl _ w).alloc (Nat.le_refl _) _).alloc (by simp) _
  have H := Lib.hid (fun w' (h : Below w.heap.size w w') => laws_sameInts' a a' cap cap' xs w' hbig (hc.below h) (hc'.below h))
  have Hb := Lib.hid hb; clear hb hc hc'
  go_enter Try.func20, Try.ntmps20
  go_wp2_with fail
  refine (H.out _ (Hb.out _ _)).mono ?_
  rintro e w1 ⟨rfl, hd⟩
  go_wp2
  go_ret
  exact ⟨rfl, (Hb.out _ _).trans ((hd.below _).mono (Nat.le_refl _))⟩

theorem laws_eqCert' (d s : Int) (a a' : Option Addr) (cap cap' : Nat) (xs : List Int) (w : World) (hbig : xs.length ≤ 1099511627776) (hc : IntsAt w a xs) (hc' : IntsAt w a' xs) :
    Calls Try.prog 29 #[.agg #[.int .i64 d, .slice a xs.length cap, .int .i64 s], .agg #[.int .i64 d, .slice a' xs.length cap', .int .i64 s]] w fun e w' => e = .returned (.bool true) ∧ Below w.heap.size w w' := by
  have hb : Below w.heap.size w ((w.alloc (.cells #[.int .i64 d, .slice a xs.length cap, .int .i64 s] 37)).alloc (.cells #[.int .i64 d, .slice a' xs.length cap', .int .i64 s] 37)) := ((Below.refl _ w).alloc (Nat.le_refl _) _).alloc (by simp) _
  have s0 := (Str.new w 37 #[.int .i64 d, .slice a xs.length cap, .int .i64 s]).alloc (.cells #[.int .i64 d, .slice a' xs.length cap', .int .i64 s] 37)
  have s1 : Str ((w.alloc (.cells #[.int .i64 d, .slice a xs.length cap, .int .i64 s] 37)).alloc (.cells #[.int .i64 d, .slice a' xs.length cap', .int .i64 s] 37)) (w.heap.size + 1) 37 #[.int .i64 d, .slice a' xs.length cap', .int .i64 s] := by
    rw [← (by simp : (w.alloc (.cells #[.int .i64 d, .slice a xs.length cap, .int .i64 s] 37)).heap.size = w.heap.size + 1)]
    exact Str.new _ _ _
  have k0 := s0.cell 0 (v := .int .i64 d) rfl
  have k1 := s0.cell 1 (v := .slice a xs.length cap) rfl
  have k2 := s0.cell 2 (v := .int .i64 s) rfl
  have j0 := s1.cell 0 (v := .int .i64 d) rfl
  have j1 := s1.cell 1 (v := .slice a' xs.length cap') rfl
  have j2 := s1.cell 2 (v := .int .i64 s) rfl
  have H := Lib.hid (laws_eqIntS' a a' cap cap' xs _ hbig (hc.below hb) (hc'.below hb))
  have Hb := Lib.hid hb; clear hb hc hc' s0 s1
  go_enter Try.func29, Try.ntmps29
  go_wp2_with fail
  generalize (w.alloc (.cells #[.int .i64 d, .slice a xs.length cap, .int .i64 s] 37)).alloc (.cells #[.int .i64 d, .slice a' xs.length cap', .int .i64 s] 37) = W1 at *
  refine H.out.mono ?_
  rintro e w1 ⟨rfl, hd⟩
  have i2 := (hd.cell _).trans k2
  have i3 := (hd.cell _).trans j2
  have Hb1 := Lib.hid (Hb.out.trans (hd.below _))
  clear k0 k1 k2 j0 j1 j2 hd
  go_wp2
  go_ret
  exact ⟨rfl, Hb1.out⟩

theorem laws_keySum (c : List Int) (ak : Option Addr) (capk : Nat) (keys : List Int) (am : Option Addr) (capm : Nat) (ms : List Int) (w : World) (hlk : lkB c keys = true) (hmb : membersB c.length ms = true) (hk : IntsAt w ak keys) (hm : IntsAt w am ms) :
    Calls Try.prog 27 #[.slice ak keys.length capk, .slice am ms.length capm] w fun e w' => e = .returned (.int .i64 (weightZ keys ms % 997)) ∧ Drawn w w' := by
  have Hkb := Lib.hid (fun k (h : k ≤ ms.length) => keySum_bd hlk hmb k h)
  have hml := members_len hmb
  have hcl := validB_len (lkB_iff hlk).1
  have Hat := Lib.hid (membersB_at hmb)
  have Hkl := Lib.hid (lkB_iff hlk).2.1
  have Hks := Lib.hid (fun i (h : i < c.length) => lkB_sign hlk i h)
  have Hk := Lib.hid hk; clear hk
  have Hm := Lib.hid hm; clear hm
  clear hlk hmb
  go_enter Try.func27, Try.ntmps27
  go_wp2_with fail
  go_loopw [5, 6] (fun vs vi wr => ∃ k : Nat, k ≤ ms.length ∧ vi = .int .i64 k ∧ vs = .int .i64 (weightTo keys ms k % 997) ∧ Drawn w wr) (fun _ vi _ => ms.length - (intOf vi).toNat)
  case atStart => exact ⟨0, by omega, rfl, rfl, Drawn.refl _⟩
  case round =>
    obtain ⟨k, hkk, rfl, rfl, hd⟩ := hrel
    have hkb := Hkb.out k hkk
    by_cases hlt : k < ms.length
    · obtain ⟨b, off, rfl, hb, hmm⟩ := (hd.ints Hm.out).cell (by omega)
      have hcell := hmm k hlt
      have g := Hat.out k hlt
      obtain ⟨b', off', rfl, hb', hkc⟩ := (hd.ints Hk.out).cell (by have := Hkl.out; omega)
      have hcell2 := hkc ms[k].toNat (by have := Hkl.out; omega)
      have g2 := Hks.out ms[k].toNat (by omega)
      have hlk : ms[k].toNat < keys.length := by have := Hkl.out; omega
      have hlk2 : ms[k] < (keys.length : Int) := by have := Hkl.out; omega
      have e9 : weightTo keys ms (k + 1) % 997 = (weightTo keys ms k % 997 + keys[ms[k].toNat]) % 997 := by rw [weightTo_succ hlt, getD_get (by omega)]; omega
      rw [getD_get (by omega)] at g2
      have He9 := Lib.hid e9; clear e9 hmm hkc
      have Hd := Lib.hid hd; clear hd
      go_wp2
      go_roundw
      case rel => exact ⟨k + 1, by omega, by go_num, int_eq He9.out.symm, Hd.out⟩
      case measure => simp [intOf]; omega
    · have hkm : k = ms.length := by omega
      subst hkm
      go_wp2
      go_ret
      exact ⟨rfl, hd⟩

theorem laws_markCert (d s : Int) (v : Value) (xs : List Int) (k B : Nat) (w : World) (hlen : xs.length ≤ 1099511627776) (hk : k ≤ 1099511627776) (hown : Own 3 w B v xs) :
    Calls Try.prog 32 #[.agg #[.int .i64 d, v, .int .i64 s], .int .i64 k] w fun e w' => e = .returned (.int .i64 ((k + xs.length : Nat) : Int)) ∧ Own 3 w' B v (markL k xs.length) ∧ (w.alloc (.cells #[.int .i64 d, v, .int .i64 s] 37)).grownBy w' v.ownBlock := by
  have H := Lib.hid (laws_markIntS v xs k B _ hlen hk (hown.alloc (.cells #[.int .i64 d, v, .int .i64 s] 37)))
  obtain ⟨a, cap, rfl, _, _⟩ := hown.ints
  clear hown
  go_enter Try.func32, Try.ntmps32
  go_wp2_with fail
  refine H.out.mono ?_
  rintro e w1 ⟨rfl, ho, hg⟩
  go_wp2
  go_ret
  exact ⟨rfl, ho, hg⟩

theorem laws_heldCert (d s : Int) (a : Option Addr) (cap k n : Nat) (w : World) (hlen : n ≤ 1099511627776) (hk : k ≤ 1099511627776) (hc : IntsAt w a (markL k n)) :
    Calls Try.prog 33 #[.agg #[.int .i64 d, .slice a n cap, .int .i64 s], .int .i64 k] w fun e w' => e = .returned (.int .i64 ((k + n : Nat) : Int)) ∧ Below w.heap.size w w' := by
  have hb : Below w.heap.size w (w.alloc (.cells #[.int .i64 d, .slice a n cap, .int .i64 s] 37)) := (Below.refl _ w).alloc (Nat.le_refl _) _
  have H := Lib.hid (laws_heldIntS a cap k n _ hlen hk (hc.below hb))
  have Hb := Lib.hid hb; clear hb hc
  have hneg : decide (((k + n : Nat) : Int) < 0) = false := decide_eq_false (by omega)
  go_enter Try.func33, Try.ntmps33
  go_wp2_with fail
  refine H.out.mono ?_
  rintro e w1 ⟨rfl, hd⟩
  have Hb1 := Lib.hid (Hb.out.trans (hd.below _))
  go_wp2
  go_ret
  exact ⟨rfl, Hb1.out⟩

end Go.Proofs.Yteglefchkecfjaa

/- A region that draws its order, operation by operation: an operation that yields its value in every world that meets S, or is left out by its guard, is taken first; a call is met where it alone may come up. General steps; nothing here speaks of the program. -/
namespace Go.Proofs.Yteglefchkecfjaa
open Go.RowKit

section
variable {P : Program} {md : Region.Mode} {l : List Oper} {Q : Exit → Act → World → Prop} {S : World → Prop} {oi : Oper} {rest : List Oper} {fuel : Nat} {listed : Array Bool} {a : Act} {w : World}

theorem drop_at {i : Nat} (hi : l.drop i = oi :: rest) : l.toArray[i]? = some oi := by
  have h : (l.drop i)[0]? = some oi := by rw [hi]; rfl
  rw [List.getElem?_drop] at h
  simpa using h
/-- Take number i first: it is carried out and yields v in every world that meets S. -/
theorem takeH (i : Nat) {v : Value} (hi : l.drop i = oi :: rest) (hs : Region.noSelect l.toArray = true) (hf : Region.free md l.toArray listed i = true) (hr : (Region.ready md l.toArray listed).contains i = true)
    (hQ : ∀ c a w, Q (.panic c) (a.put oi.dst v) w → Q (.panic c) a w) (hS : S w) (hw : Region.wanted oi (yielded l.toArray a.tmps) = true)
    (hy : ∀ w, S w → (execOp a.eval oi).run P w = .ok (.value v) w)
    (h : wpAnyH P md l.toArray Q S fuel (listed.setIfInBounds i true) (a.put oi.dst v) w) : wpAnyH P md l.toArray Q S (fuel + 1) listed a w :=
  wpAnyH_take (drop_at hi) hs hf hr hQ (.inl ⟨hw, hy⟩) hS h
/-- Number i is left out by its guard. -/
theorem skipH (i : Nat) (hi : l.drop i = oi :: rest) (hs : Region.noSelect l.toArray = true) (hf : Region.free md l.toArray listed i = true) (hr : (Region.ready md l.toArray listed).contains i = true)
    (hQ : ∀ c a w, Q (.panic c) (a.put oi.dst undef) w → Q (.panic c) a w) (hS : S w) (hw : Region.wanted oi (yielded l.toArray a.tmps) = false)
    (h : wpAnyH P md l.toArray Q S fuel (listed.setIfInBounds i true) (a.put oi.dst undef) w) : wpAnyH P md l.toArray Q S (fuel + 1) listed a w :=
  wpAnyH_take (drop_at hi) hs hf hr hQ (.inr ⟨hw, rfl⟩) hS h
/-- Number i alone may come up: it is carried out, and S is shown behind it. -/
theorem callH (i : Nat) (hi : l.drop i = oi :: rest) (hr : Region.ready md l.toArray listed = [i]) (hw : Region.wanted oi (yielded l.toArray a.tmps) = true)
    (h : ∀ K' : Act → World → Prop, Shut (∀ a w, S w → (S w → wpAnyH P md l.toArray Q S fuel (listed.setIfInBounds i true) a w) → K' a w) → Oper.wp P oi a w K' Q) : wpAnyH P md l.toArray Q S (fuel + 1) listed a w :=
  wpAnyH_ready hr (by simp) (AllReadyH.cons (drop_at hi) (fun K' hK => by rw [if_pos hw]; exact h K' hK) AllReadyH.nil)
/-- Either of two may come up next. -/
theorem twoH {oj : Oper} {rest2 : List Oper} (i j : Nat) (hi : l.drop i = oi :: rest) (hj : l.drop j = oj :: rest2) (hr : Region.ready md l.toArray listed = [i, j]) (hw : Region.wanted oi (yielded l.toArray a.tmps) = true) (hw' : Region.wanted oj (yielded l.toArray a.tmps) = true)
    (h : ∀ K' : Act → World → Prop, Shut (∀ a w, S w → (S w → wpAnyH P md l.toArray Q S fuel (listed.setIfInBounds i true) a w) → K' a w) → Oper.wp P oi a w K' Q)
    (h' : ∀ K' : Act → World → Prop, Shut (∀ a w, S w → (S w → wpAnyH P md l.toArray Q S fuel (listed.setIfInBounds j true) a w) → K' a w) → Oper.wp P oj a w K' Q) : wpAnyH P md l.toArray Q S (fuel + 1) listed a w :=
  wpAnyH_ready hr (by simp) (AllReadyH.cons (drop_at hi) (fun K' hK => by rw [if_pos hw]; exact h K' hK) (AllReadyH.cons (drop_at hj) (fun K' hK => by rw [if_pos hw']; exact h' K' hK) AllReadyH.nil))
end

end Go.Proofs.Yteglefchkecfjaa

/- A region that draws its order, operation by operation, where the condition on the world is kept up to a last operation alone (a store into what was loaded): general steps, nothing here speaks of the program. -/
namespace Go.Proofs.Yteglefchkecfjaa
open Go.RowKit

/-- Whatever order is picked from here on; S holds behind every operation until number m has come up. -/
def wpAnyL (P : Program) (md : Region.Mode) (ops : Array Oper) (Q : Exit → Act → World → Prop) (m : Nat) (S : World → Prop) : Nat → Array Bool → Act → World → Prop
  | 0, listed, a, w => Region.ready md ops listed = [] ∧ Q .normal a w
  | fuel + 1, listed, a, w =>
    (Region.ready md ops listed = [] → Q .normal a w) ∧
    ∀ i ∈ Region.ready md ops listed, wpOp P ops Q i (fun a' w' => ((listed.setIfInBounds i true).getD m true = false → S w') ∧ wpAnyL P md ops Q m S fuel (listed.setIfInBounds i true) a' w') a w

section
variable {P : Program} {md : Region.Mode} {ops : Array Oper} {Q : Exit → Act → World → Prop} {S : World → Prop} {m : Nat}

theorem any_of_L : ∀ (fuel : Nat) (listed : Array Bool) (a : Act) (w : World), wpAnyL P md ops Q m S fuel listed a w → wpAny P md ops Q fuel listed a w
  | 0, _, _, _, h => h
  | fuel + 1, _, _, _, h => ⟨h.1, fun i hi => wpOp_mono (fun a' w' h' => any_of_L fuel _ a' w' h'.2) (h.2 i hi)⟩

/-- Of two that may come up, neither waits for the other. -/
theorem ready_pair {listed : Array Bool} {i j : Nat} (hi : i ∈ Region.ready md ops listed) (hj : j ∈ Region.ready md ops listed) :
    listed.getD j true = false ∧ ∃ o, ops[j]? = some o ∧ ∀ e ∈ o.after, Region.binds md e = true → e.on ≠ i := by
  obtain ⟨hun, o, ho, hall⟩ := mem_ready.1 hj
  refine ⟨hun, o, ho, fun e he hb heq => ?_⟩
  have h1 := hall e he hb
  have h0 := (mem_ready.1 hi).1
  rw [heq] at h1
  by_cases hlt : i < listed.size <;> simp [hlt] at h0 h1
  rw [h0] at h1; cases h1
/-- Number m waits for number i. -/
def waits (md : Region.Mode) (ops : Array Oper) (m i : Nat) : Bool := (ops[m]?.map fun o => o.after.any fun e => Region.binds md e && e.on == i).getD false
theorem waits_not {listed : Array Bool} {i : Nat} (hw : waits md ops m i = true) (hi : i ∈ Region.ready md ops listed) : m ∉ Region.ready md ops listed := by
  intro hm
  obtain ⟨_, o, ho, hno⟩ := ready_pair hi hm
  unfold waits at hw
  rw [ho, Option.map_some, Option.getD_some, Array.any_eq_true'] at hw
  obtain ⟨e, he, hb⟩ := hw
  rw [Bool.and_eq_true, beq_iff_eq] at hb
  exact hno e he hb.1 hb.2

/-- Whoever may come up ahead of number i leaves its temporaries alone. -/
def FreeAt (md : Region.Mode) (ops : Array Oper) (oi : Oper) (i : Nat) (listed : Array Bool) : Prop :=
  ∀ j oj, ops[j]? = some oj → j ≠ i → listed.getD j true = false → (∀ e ∈ oj.after, Region.binds md e = true → e.on ≠ i) → oi.apart ops oj = true
theorem FreeAt.set {oi : Oper} {i j : Nat} {listed : Array Bool} (h : FreeAt md ops oi i listed) (hj : listed.getD j true = false) : FreeAt md ops oi i (listed.setIfInBounds j true) := by
  intro k ok hk hki hun hno
  refine h k ok hk hki ?_ hno
  rcases Nat.decEq j k with hjk | hjk
  · rwa [getD_set_ne true hjk] at hun
  · exact hjk ▸ hj
theorem firstL {i : Nat} {oi : Oper} {v : Value} (hi : ops[i]? = some oi) (hsel : ∀ (j : Nat) (o : Oper) cs b, ops[j]? = some o → o.op ≠ .select cs b)
    (hQ : ∀ c a w, Q (.panic c) (a.put oi.dst v) w → Q (.panic c) a w) (hw : waits md ops m i = true) (fuel : Nat) :
    ∀ (listed : Array Bool) (a : Act) (w : World), FreeAt md ops oi i listed → listed.getD m true = false → i ∈ Region.ready md ops listed → YieldsIf P ops S oi v a → S w →
      wpAnyL P md ops Q m S fuel (listed.setIfInBounds i true) (a.put oi.dst v) w → wpAnyL P md ops Q m S (fuel + 1) listed a w := by
  have im : ∀ {listed}, i ∈ Region.ready md ops listed → i ≠ m := fun hr e => waits_not hw hr (e ▸ hr)
  induction fuel with
  | zero =>
    intro listed a w _ _ hr hy hS H
    refine ⟨fun h => absurd hr (by rw [h]; simp), fun j hj => ?_⟩
    rcases Nat.decEq j i with hji | rfl
    · exact absurd (ready_mono hj hji) (by rw [H.1]; simp)
    · exact hy.wpOp hi hS ⟨fun _ => hS, H⟩
  | succ fuel ih =>
    intro listed a w hfree hmf hr hy hS H
    refine ⟨fun h => absurd hr (by rw [h]; simp), fun j hj => ?_⟩
    rcases Nat.decEq j i with hji | rfl
    · have hjm : j ≠ m := fun e => waits_not hw hr (e ▸ hj)
      obtain ⟨hjun, oj, hoj, hno⟩ := ready_pair hr hj
      refine wpOp_mono (fun a' w' h3 => ?_) (wpOp_putIf hoj (hfree j oj hoj hji hjun hno) (fun cs b => hsel i oi cs b hi) (fun cs b => hsel j oj cs b hoj) hQ hy (H.2 j (ready_mono hj hji)))
      have hS' : S w' := h3.2.1 (by rw [getD_set_ne true hjm, getD_set_ne true (im hr)]; exact hmf)
      exact ⟨fun _ => hS', ih _ a' w' (hfree.set hjun) (by rw [getD_set_ne true hjm]; exact hmf) (ready_mono hr (Ne.symm hji)) h3.1 hS' (by rw [Array.setIfInBounds_comm _ _ hji]; exact h3.2.2)⟩
    · exact hy.wpOp hi hS ⟨fun _ => hS, H⟩
end

section
variable {P : Program} {md : Region.Mode} {l : List Oper} {Q : Exit → Act → World → Prop} {S : World → Prop} {oi : Oper} {rest : List Oper} {fuel m : Nat} {listed : Array Bool} {a : Act} {w : World}

/-- Take number i first: it is carried out and yields v in every world that meets S. -/
theorem takeL (i : Nat) {v : Value} (hi : l.drop i = oi :: rest) (hs : Region.noSelect l.toArray = true) (hf : Region.free md l.toArray listed i = true) (hr : (Region.ready md l.toArray listed).contains i = true) (hm : waits md l.toArray m i = true) (hm' : listed.getD m true = false)
    (hQ : ∀ c a w, Q (.panic c) (a.put oi.dst v) w → Q (.panic c) a w) (hS : S w) (hw : Region.wanted oi (yielded l.toArray a.tmps) = true)
    (hy : ∀ w, S w → (execOp a.eval oi).run P w = .ok (.value v) w)
    (h : wpAnyL P md l.toArray Q m S fuel (listed.setIfInBounds i true) (a.put oi.dst v) w) : wpAnyL P md l.toArray Q m S (fuel + 1) listed a w :=
  firstL (drop_at hi) (Region.noSelect_spec hs) hQ hm fuel listed a w (Region.free_spec (drop_at hi) hf) hm' (by simpa using hr) (.inl ⟨hw, hy⟩) hS h
/-- Number i is left out by its guard. -/
theorem skipL (i : Nat) (hi : l.drop i = oi :: rest) (hs : Region.noSelect l.toArray = true) (hf : Region.free md l.toArray listed i = true) (hr : (Region.ready md l.toArray listed).contains i = true) (hm : waits md l.toArray m i = true) (hm' : listed.getD m true = false)
    (hQ : ∀ c a w, Q (.panic c) (a.put oi.dst undef) w → Q (.panic c) a w) (hS : S w) (hw : Region.wanted oi (yielded l.toArray a.tmps) = false)
    (h : wpAnyL P md l.toArray Q m S fuel (listed.setIfInBounds i true) (a.put oi.dst undef) w) : wpAnyL P md l.toArray Q m S (fuel + 1) listed a w :=
  firstL (drop_at hi) (Region.noSelect_spec hs) hQ hm fuel listed a w (Region.free_spec (drop_at hi) hf) hm' (by simpa using hr) (.inr ⟨hw, rfl⟩) hS h
/-- Number i alone may come up, and is not the last: it is carried out, and S is shown behind it. -/
theorem callL (i : Nat) (hi : l.drop i = oi :: rest) (hr : Region.ready md l.toArray listed = [i]) (hw : Region.wanted oi (yielded l.toArray a.tmps) = true)
    (h : ∀ K' : Act → World → Prop, Shut (∀ a w, S w → (S w → wpAnyL P md l.toArray Q m S fuel (listed.setIfInBounds i true) a w) → K' a w) → Oper.wp P oi a w K' Q) : wpAnyL P md l.toArray Q m S (fuel + 1) listed a w := by
  refine ⟨fun h0 => absurd (hr ▸ h0) (by simp), fun j hj => ?_⟩
  rw [hr] at hj
  have : j = i := by simpa using hj
  subst this
  exact wpOp_step (drop_at hi) fun K' hK => by rw [if_pos hw]; exact h K' fun a w hS hW => hK a w ⟨fun _ => hS, hW hS⟩
/-- The last one. -/
theorem lastL (hi : l.drop m = oi :: rest) (hr : Region.ready md l.toArray listed = [m]) (hend : Region.ready md l.toArray (listed.setIfInBounds m true) = []) (hm : (listed.setIfInBounds m true).getD m true = true) (hw : Region.wanted oi (yielded l.toArray a.tmps) = true)
    (h : ∀ K' : Act → World → Prop, Shut (∀ a w, Q .normal a w → K' a w) → Oper.wp P oi a w K' Q) : wpAnyL P md l.toArray Q m S (fuel + 1) listed a w := by
  refine ⟨fun h0 => absurd (hr ▸ h0) (by simp), fun j hj => ?_⟩
  rw [hr] at hj
  have : j = m := by simpa using hj
  subst this
  refine wpOp_step (drop_at hi) fun K' hK => by
    rw [if_pos hw]
    refine h K' fun a w hq => hK a w ⟨fun e => absurd (hm.symm.trans e) (by simp), ?_⟩
    cases fuel with
    | zero => exact ⟨hend, hq⟩
    | succ f => exact ⟨fun _ => hq, by rw [hend]; simp⟩
theorem wp_region_L (m : Nat) (S : World → Prop) {id : Nat} {ops : Array Oper} {a : Act} {w : World} (hm : P.follows .mixedOrders = true) (hS : S w.drew)
    (h : S w.drew → wpAnyL P .any ops Q m S ops.size (Array.replicate ops.size false) a w.drew) : (Code.region id ops true).wp P Q a w :=
  wp_region_any hm (any_of_L _ _ _ _ (h hS))
end

end Go.Proofs.Yteglefchkecfjaa

/- The draws of certificates: what is drawn is short and lies in new memory; each by a walk of its text; condition: few picks before. -/
namespace Go.Proofs.Yteglefchkecfjaa
open Go.RowKit

theorem own_lit (E : TypeId) (w : World) {B : Nat} (xs : List Int) (hB : B ≤ w.heap.size) (hm : xs.length ≤ maxLen) :
    Own E (w.alloc (.cells (xs.map (Value.int .i64)).toArray E)) B (.slice (some ⟨w.heap.size, 0, none⟩) xs.length xs.length) xs :=
  ⟨by simp, .inr ⟨w.heap.size, xs.length, _, rfl, hB, heap_alloc_new w _, Nat.le_refl _, hm, by simp, by simp [List.take_of_length_le]⟩⟩

theorem below_grownR {w w' : World} (h : Below w.heap.size w w') (row : Option Nat) : w.grownBy w' row := ⟨h.os, h.tape, h.output, h.size, fun k hk _ => h.block k hk⟩

theorem drawGood (R p : Nat) (w : World) (hp : p ≤ 1000000) (hr : Rdr w R p) (hR : R < w.heap.size) :
    Calls Try.prog 105 #[.pointer (some ⟨R, 0, none⟩)] w fun e w' => ∃ v xs p', e = .returned v ∧ Own 3 w' w.heap.size v xs ∧ 1 ≤ xs.length ∧ xs.length ≤ 11 ∧ Rdr w' R p' ∧ p' ≤ p + 20 ∧ w.grownBy w' (some R) := by
  go_enter Try.func105, Try.ntmps105
  go_wp2_with fail
  refine (drawCommittee R p _ hp hr hR).mono ?_
  rintro e w2 ⟨v, c, p', rfl, hown, hcl, hsm, hr2, hp', hg2⟩
  obtain ⟨a, cap, rfl, hi, _⟩ := hown.ints
  have hz := hg2.size
  have hv' := spec_CommitteeValid a cap c w2 (by omega) hi
  cases hv : validB c with
  | true =>
    have hl := validB_len hv
    rw [hv] at hv'
    have Hv := Lib.hid hv'; clear hv' hv hi
    have Hown := Lib.hid hown; clear hown
    have Hr2 := Lib.hid hr2; clear hr2
    have Hg2 := Lib.hid hg2; clear hg2
    go_wp2_with fail
    refine Hv.out.mono ?_
    rintro e w3 ⟨rfl, rfl⟩
    go_wp2
    go_ret
    exact ⟨_, c, p', rfl, Hown.out, hl.1, hcl, Hr2.out, hp', Hg2.out⟩
  | false =>
    rw [hv] at hv'
    have Hv := Lib.hid hv'; clear hv' hv hi hown
    have Hr2 := Lib.hid hr2; clear hr2
    have Hg2 := Lib.hid hg2; clear hg2
    go_wp2_with fail
    refine Hv.out.mono ?_
    rintro e w3 ⟨rfl, rfl⟩
    go_wp2
    go_ret
    exact ⟨_, [1, 1, 1, 1], p', rfl, own_lit 3 w2 [1, 1, 1, 1] hz (by unfold maxLen; simp), by simp, by simp, Hr2.out.alloc _, hp', grownBy_trans Hg2.out (World.grownBy_alloc _ _ _)⟩

set_option maxHeartbeats 1000000 in
theorem drawCert (R p : Nat) (w : World) (hp : p ≤ 1000) (hr : Rdr w R p) (hR : R < w.heap.size) :
    Calls Try.prog 69 #[.pointer (some ⟨R, 0, none⟩)] w fun e w' => ∃ vc c vk keys d vs ms s p', e = .returned (.tuple #[vc, vk, .agg #[.int .i64 d, vs, .int .i64 s]]) ∧ Own 3 w' w.heap.size vc c ∧ 1 ≤ c.length ∧ c.length ≤ 11 ∧ Own 3 w' w.heap.size vk keys ∧ keys.length = c.length ∧ Own 3 w' w.heap.size vs ms ∧ ms.length ≤ 12 ∧ (∃ M N, (∀ b, vc.ownBlock = some b → b < M) ∧ (∀ b, vs.ownBlock = some b → M ≤ b ∧ b < N) ∧ (∀ b, vk.ownBlock = some b → N ≤ b) ∧ M ≤ N) ∧ Rdr w' R p' ∧ p' ≤ p + 200 ∧ w.grownBy w' (some R) := by
  have Hr0 := Lib.hid (hr.alloc (.cells #[.int .i64 0, .slice none 0 0, .int .i64 0] 37)); clear hr
  have HR0 := Lib.hid (Str.new w 37 #[.int .i64 0, .slice none 0 0, .int .i64 0])
  have hz0 : (w.alloc (.cells #[.int .i64 0, .slice none 0 0, .int .i64 0] 37)).heap.size = w.heap.size + 1 := by simp
  have Hg0 := Lib.hid (World.grownBy_alloc w (.cells #[.int .i64 0, .slice none 0 0, .int .i64 0] 37) (some R))
  go_enter Try.func69, Try.ntmps69
  go_wp2_with fail
  generalize w.alloc (.cells #[.int .i64 0, .slice none 0 0, .int .i64 0] 37) = w1 at *
  refine (drawGood R p _ (by omega) Hr0.out (by omega)).mono ?_
  rintro e w2 ⟨vc, c, p', rfl, hown, hc1, hcl, hr2, hp', hg2⟩
  have Hr2 := Lib.hid hr2; clear hr2
  obtain ⟨ax, cx, rfl, _, _⟩ := hown.ints
  have Hc := Lib.hid hown; clear hown
  have hs2 := hg2.size
  have HR2 := Lib.hid (HR0.out.kept hg2 (fun e => by injection e with e; omega))
  have Hg2 := Lib.hid (grownBy_trans Hg0.out hg2); clear hg2 HR0 Hg0 Hr0
  go_wp2_with fail
  refine (drawSecrets R p' c.length _ (by omega) (by omega) Hr2.out (by omega)).mono ?_
  rintro e w3 ⟨vx, xs, p3, rfl, hown, hxl, hr3, hp3, hg3⟩
  have Hr3 := Lib.hid hr3; clear hr3
  obtain ⟨aq, cq, rfl, hi3, _⟩ := hown.ints
  have hRl : ∀ b, (Value.slice aq xs.length cq).ownBlock = some b → R < b := fun b e => by have := (hown.lt b e).1; omega
  have Hc3 := Lib.hid (Hc.out.kept hg3 (.inr (fun e => by have := (Hc.out.lt R e).1; omega)))
  have Hs := Lib.hid hi3; clear hi3
  have HRl := Lib.hid hRl; clear hRl
  have HSl := Lib.hid (fun b e => (hown.lt b e).2 : ∀ b, (Value.slice aq xs.length cq).ownBlock = some b → b < w3.heap.size)
  clear hown
  have Hxl := Lib.hid hxl; clear hxl
  have hs3 := hg3.size
  have HR3 := Lib.hid (HR2.out.kept hg3 (fun e => by injection e with e; omega))
  have Hg3 := Lib.hid (grownBy_trans Hg2.out hg3); clear hg3 Hc Hg2 HR2
  go_wp2_with fail
  refine (pick_any R 99 p3 _ (by omega) Hr3.out (by omega)).mono ?_
  rintro e w4 ⟨x, rfl, hx0, hx1, hr4, hg4⟩
  have Hr4 := Lib.hid hr4; clear hr4
  have hs4 := hg4.size
  go_wp2_with fail
  refine (pick_any R 10 (p3 + 1) _ (by omega) Hr4.out (by omega)).mono ?_
  rintro e w5 ⟨y, rfl, hy0, hy1, hr5, hg5⟩
  have Hr5 := Lib.hid (hr5.alloc (.cells #[] 3)); clear hr5
  have hg45 := grownBy_trans hg4 hg5
  have hs5 := hg5.size
  have Hc5 := Lib.hid (Hc3.out.kept hg45 (.inr (fun e => by have := (Hc3.out.lt R e).1; omega)))
  have Hs5 := Lib.hid (Hs.out.grown hg45 (fun b e h => by have := HRl.out _ (ownBlock_slice b e); injection h with h; omega))
  have HR5 := Lib.hid (HR3.out.kept hg45 (fun e => by injection e with e; omega))
  have Hg5 := Lib.hid (grownBy_trans Hg3.out hg45); clear hg4 hg5 hg45 Hg3 Hc3 Hs HR3
  obtain ⟨d, hd⟩ : ∃ d : Int, 10 * x + y = d := ⟨_, rfl⟩
  go_wp2_with fail
  go_loopw [8, 9] (fun v i wr => ∃ (sg : List Int) (q : Nat), sg.length ≤ c.length ∧ i = .int .i64 (List.length sg) ∧ Own 3 wr w5.heap.size v sg ∧ Rdr wr R q ∧ q ≤ p3 + 2 + sg.length ∧ w5.grownBy wr (some R)) (fun _ i _ => c.length - (intOf i).toNat)
  case atStart => exact ⟨[], p3 + 2, by simp, rfl, own_empty _ _ (Nat.le_refl _), Hr5.out, by simp, World.grownBy_alloc _ _ _⟩
  case round =>
    obtain ⟨sg, q, hsl, rfl, hown, hrd, hq, hgr⟩ := hrel
    have Hrd := Lib.hid hrd; clear hrd
    have Hown := Lib.hid hown; clear hown
    have hB := hgr.size
    by_cases hlt : sg.length < c.length
    · obtain ⟨b, off, has, hb, hcs⟩ := (Hs5.out.grown hgr (fun b e h => by have := HRl.out _ (ownBlock_slice b e); injection h with h; omega)).cell (by have := Hxl.out; omega)
      have hcell := hcs sg.length (by have := Hxl.out; omega)
      have hlx : sg.length < xs.length := by have := Hxl.out; omega
      have Hgr := Lib.hid hgr; clear hgr hcs
      subst has
      generalize xs[sg.length] = x at *
      have Hx := Lib.hid (fun W => spec_SignMake x d W)
      generalize smZ x d = z at *
      clear hd
      go_wp2_with fail
      refine (Hx.out _).mono ?_
      rintro e w6 ⟨rfl, rfl⟩
      go_wp2_with fail
      refine (pick_any R 7 q _ (by omega) Hrd.out (by omega)).mono ?_
      rintro e w6 ⟨k, rfl, hk0, hk1, hr6, hg6⟩
      have Hr6 := Lib.hid hr6; clear hr6
      have Hg6 := Lib.hid (grownBy_trans Hgr.out hg6)
      have Ho6 := Lib.hid (Hown.out.kept hg6 (.inr (fun e => by have := (Hown.out.lt R e).1; omega)))
      have hB6 := Hg6.out.size
      clear hg6
      by_cases k0 : k = 0
      · subst k0
        go_wp2_with (at_builtin; refine wpList_push TI' rfl (.tmp 41) (.tmp 43) rfl w5.heap.size _ sg _ rfl Ho6.out (by omega) rfl hB6 ?_; intro v' w8 hown8 hg8)
        have Hr8 := Lib.hid (Hr6.out.kept hg8 (fun g e => by have := (Ho6.out.lt g e).1; omega))
        have Hg8 := Lib.hid (grown_row Hg6.out hg8 (fun g e => (Ho6.out.lt g e).1))
        clear hg8
        go_roundw
        case rel => exact ⟨_, q + 1, by simp; omega, by simp, hown8, Hr8.out, by simp; omega, Hg8.out⟩
        case measure => simp [intOf]; omega
      · have k0' : (k == 0) = false := by rw [beq_eq_false_iff_ne]; exact k0
        go_wp2_with (at_builtin; refine wpList_push TI' rfl (.tmp 41) (.tmp 43) rfl w5.heap.size _ sg _ rfl Ho6.out (by omega) rfl hB6 ?_; intro v' w8 hown8 hg8)
        have Hr8 := Lib.hid (Hr6.out.kept hg8 (fun g e => by have := (Ho6.out.lt g e).1; omega))
        have Hg8 := Lib.hid (grown_row Hg6.out hg8 (fun g e => (Ho6.out.lt g e).1))
        clear hg8
        go_roundw
        case rel => exact ⟨_, q + 1, by simp; omega, by simp, hown8, Hr8.out, by simp; omega, Hg8.out⟩
        case measure => simp [intOf]; omega
    · clear hd
      have Hs6 := Lib.hid (Hs5.out.grown hgr (fun b e h => by have := HRl.out _ (ownBlock_slice b e); injection h with h; omega))
      have Hc6 := Lib.hid (Hc5.out.kept hgr (.inr (fun e => by have := (Hc5.out.lt R e).1; omega)))
      have HR6 := Lib.hid (HR5.out.kept hgr (fun e => by injection e with e; omega))
      have Hgr := Lib.hid (grownBy_trans Hg5.out hgr); clear hgr
      have hxb : xs.length ≤ 1000 := by have := Hxl.out; omega
      go_wp2_with fail
      refine (drawKeys aq cq xs _ hxb Hs6.out).mono ?_
      rintro e w7 ⟨vk, keys, rfl, ho7, hkl, hb7⟩
      obtain ⟨ak, ck, rfl, hik, _⟩ := ho7.ints
      obtain ⟨as', cs', rfl, his, _⟩ := Hown.out.ints
      have Hkl := Lib.hid (hkl.trans Hxl.out)
      have hkb : keys.length ≤ 11 := by have := hkl.trans Hxl.out; omega
      have hz7 := hb7.size
      have Hs7 := Lib.hid (Hs6.out.below hb7)
      have Hc7 := Lib.hid (Hc6.out.below hb7)
      have HR7 := Lib.hid (show Str w7 w.heap.size 37 #[.int .i64 0, .slice none 0 0, .int .i64 0] from (hb7.block _ HR6.out.lt).trans HR6.out)
      have Hrd7 := Lib.hid (Hrd.out.kept (below_grown hb7) (by simp))
      have Hg7 := Lib.hid (grownBy_trans Hgr.out (below_grownR hb7 (some R)))
      have hcm := spec_CertMake ax cx c ak ck keys d as' cs' sg w7 (by omega) (by omega) (by omega) (IntsAt_own Hc7.out) hik (his.below hb7)
      have hcl2 := cmL_len c keys d sg
      generalize cmD c keys d sg = D at *
      generalize cmL c keys d sg = L at *
      generalize cmS c keys d sg = S at *
      generalize cmB c keys d sg = ok at *
      have Hcm := Lib.hid hcm; clear hcm
      clear hkl ho7 hik his hb7 Hs6 Hc6 HR6 Hgr
      go_wp2_with fail
      refine Hcm.out.mono ?_
      rintro e w8 ⟨v8, rfl, ho8, hb8⟩
      obtain ⟨al, cl, rfl, _, _⟩ := ho8.ints
      have hz8 := hb8.size
      have Hs8 := Lib.hid ((Hs7.out.below hb8).below ((Below.refl _ _).alloc (Nat.le_refl _) (.cells #[.int .i64 D, .slice al L.length cl, .int .i64 S] 37)))
      have Hc8 := Lib.hid ((Hc7.out.below hb8).alloc (.cells #[.int .i64 D, .slice al L.length cl, .int .i64 S] 37))
      have HR8 := Lib.hid ((show Str w8 w.heap.size 37 #[.int .i64 0, .slice none 0 0, .int .i64 0] from (hb8.block _ HR7.out.lt).trans HR7.out).alloc (.cells #[.int .i64 D, .slice al L.length cl, .int .i64 S] 37))
      have HX8 := Lib.hid (Str.new w8 37 #[.int .i64 D, .slice al L.length cl, .int .i64 S])
      have Ho8 := Lib.hid (ho8.alloc (.cells #[.int .i64 D, .slice al L.length cl, .int .i64 S] 37))
      have Hrd8 := Lib.hid ((Hrd7.out.kept (below_grown hb8) (by simp)).alloc (.cells #[.int .i64 D, .slice al L.length cl, .int .i64 S] 37))
      have Hg8 := Lib.hid (grownBy_trans (grownBy_trans Hg7.out (below_grownR hb8 (some R))) (World.grownBy_alloc _ (.cells #[.int .i64 D, .slice al L.length cl, .int .i64 S] 37) _))
      have hz8' : (w8.alloc (.cells #[.int .i64 D, .slice al L.length cl, .int .i64 S] 37)).heap.size = w8.heap.size + 1 := by simp
      clear ho8 hb8 Hs7 Hc7 HR7 Hrd7 Hg7
      cases ok with
      | true =>
        go_wp2_with fail
        generalize w8.alloc (.cells #[.int .i64 D, .slice al L.length cl, .int .i64 S] 37) = w9 at *
        have lX : w8.heap.size < w9.drew.heap.size := HX8.out.lt
        have lR : w.heap.size < w9.drew.heap.size := HR8.out.lt
        have k0 : w9.drew.cell? ⟨w8.heap.size, 0, none⟩ = some (.int .i64 D) := HX8.out.cell 0 (v := .int .i64 D) rfl
        have k1 : w9.drew.cell? ⟨w8.heap.size, 1, none⟩ = some (.slice al L.length cl) := HX8.out.cell 1 (v := .slice al L.length cl) rfl
        have k2 : w9.drew.cell? ⟨w8.heap.size, 2, none⟩ = some (.int .i64 S) := HX8.out.cell 2 (v := .int .i64 S) rfl
        refine wp_region_L 6 (fun w' => w'.cell? ⟨w8.heap.size, 0, none⟩ = some (.int .i64 D) ∧ w'.cell? ⟨w8.heap.size, 1, none⟩ = some (.slice al L.length cl) ∧ w'.cell? ⟨w8.heap.size, 2, none⟩ = some (.int .i64 S)) (by kernel_rfl) ⟨k0, k1, k2⟩ (fun hH => ?_)
        refine takeL 0 (v := ?va0) rfl (by kernel_rfl) (by kernel_rfl) (by kernel_rfl) (by kernel_rfl) (by kernel_rfl) (fun _ _ _ h => h) hH rfl ?ya0 ?ra0
        case ya0 => intro w hSw; obtain ⟨q0, q1, q2⟩ := hSw; go_simp; try with_reducible rfl
        try simp only [Act.put, List.setIfInBounds_toArray, List.set_cons_zero, List.set_cons_succ]
        refine takeL 1 (v := ?va1) rfl (by kernel_rfl) (by kernel_rfl) (by kernel_rfl) (by kernel_rfl) (by kernel_rfl) (fun _ _ _ h => h) hH rfl ?ya1 ?ra1
        case ya1 => intro w hSw; obtain ⟨q0, q1, q2⟩ := hSw; go_simp; try with_reducible rfl
        try simp only [Act.put, List.setIfInBounds_toArray, List.set_cons_zero, List.set_cons_succ]
        refine takeL 3 (v := ?va3) rfl (by kernel_rfl) (by kernel_rfl) (by kernel_rfl) (by kernel_rfl) (by kernel_rfl) (fun _ _ _ h => h) hH rfl ?ya3 ?ra3
        case ya3 => intro w hSw; obtain ⟨q0, q1, q2⟩ := hSw; go_simp; try with_reducible rfl
        try simp only [Act.put, List.setIfInBounds_toArray, List.set_cons_zero, List.set_cons_succ]
        refine callL 2 rfl (by kernel_rfl) rfl (fun K hK => ?_)
        go_simp
        refine (drawKeys aq cq xs w9.drew hxb (show IntsAt w9.drew aq xs from Hs8.out)).mono ?_
        rintro e wk ⟨vk2, keys2, rfl, hok2, hkl2, hbk⟩
        obtain ⟨ak2, ck2, rfl, _, _⟩ := hok2.ints
        dsimp only
        refine hK.out _ _ ⟨(hbk.cell (p := ⟨_, 0, none⟩) lX).trans k0, (hbk.cell (p := ⟨_, 1, none⟩) lX).trans k1, (hbk.cell (p := ⟨_, 2, none⟩) lX).trans k2⟩ (fun hH => ?_)
        clear hK K
        try simp only [Act.put, List.setIfInBounds_toArray, List.set_cons_zero, List.set_cons_succ]
        have HRk := Lib.hid (show Str wk w.heap.size 37 #[.int .i64 0, .slice none 0 0, .int .i64 0] from (hbk.block _ lR).trans HR8.out)
        have f0 := HRk.out.frozen 0
        have f1 := HRk.out.frozen 1
        have f2 := HRk.out.frozen 2
        have j0 := HRk.out.cell 0 rfl
        have j1 := HRk.out.cell 1 rfl
        have j2 := HRk.out.cell 2 rfl
        refine takeL 4 (v := ?va4) rfl (by kernel_rfl) (by kernel_rfl) (by kernel_rfl) (by kernel_rfl) (by kernel_rfl) (fun _ _ _ h => h) hH rfl ?ya4 ?ra4
        case ya4 => intro w hSw; obtain ⟨q0, q1, q2⟩ := hSw; go_simp; try with_reducible rfl
        try simp only [Act.put, List.setIfInBounds_toArray, List.set_cons_zero, List.set_cons_succ]
        refine takeL 5 (v := ?va5) rfl (by kernel_rfl) (by kernel_rfl) (by kernel_rfl) (by kernel_rfl) (by kernel_rfl) (fun _ _ _ h => h) hH rfl ?ya5 ?ra5
        case ya5 => intro w hSw; obtain ⟨q0, q1, q2⟩ := hSw; go_simp; try with_reducible rfl
        try simp only [Act.put, List.setIfInBounds_toArray, List.set_cons_zero, List.set_cons_succ]
        refine lastL rfl (by kernel_rfl) (by kernel_rfl) (by kernel_rfl) rfl (fun K hK => ?_)
        go_simp
        refine hK.out _ _ ?_
        clear hK K
        try simp only [Act.put, List.setIfInBounds_toArray, List.set_cons_zero, List.set_cons_succ]
        have sF := ((HRk.out.set 0 (.int .i64 D)).set 1 (.slice al L.length cl)).set 2 (.int .i64 S)
        have e0 := sF.cell 0 (v := .int .i64 D) rfl
        have e1 := sF.cell 1 (v := .slice al L.length cl) rfl
        have e2 := sF.cell 2 (v := .int .i64 S) rfl
        clear sF
        have hzk : w9.heap.size ≤ wk.heap.size := hbk.size
        have hgk : w9.grownBy wk (some R) := grownBy_trans (show w9.grownBy w9.drew (some R) from grownBy_drewN (World.grownBy.refl _ _) 1) (below_grownR hbk (some R))
        have Hck := Lib.hid (Hc8.out.kept hgk (.inr (fun e => by have := (Hc8.out.lt R e).1; omega)))
        have Hok := Lib.hid (Ho8.out.kept hgk (.inr (fun e => by have := (Ho8.out.lt R e).1; omega)))
        have Hrk := Lib.hid ((show Rdr w9.drew R q from Hrd8.out.drewN 1).kept (below_grown hbk) (by simp))
        have Hgk := Lib.hid (grownBy_trans Hg8.out hgk)
        have Hkk := Lib.hid hok2
        have hl2 : keys2.length = c.length := hkl2.trans Hxl.out
        have Hl2 := Lib.hid hl2; clear hl2 hkl2 hok2 hgk
        have hcM : ∀ b, (Value.slice ax c.length cx).ownBlock = some b → w1.heap.size ≤ b ∧ b < w5.heap.size := fun b e => Hc5.out.lt b e
        go_wp2
        refine bodyPost_ret (v := .tuple #[.slice ax c.length cx, .slice ak2 keys2.length ck2, .agg #[.int .i64 D, .slice al L.length cl, .int .i64 S]]) (by simp [results, Try.f69, go_sem, e0, e1, e2, Hl2.out, Hxl.out]) rfl ?_
        have hN1 : ∀ b, (Value.slice al L.length cl).ownBlock = some b → w5.heap.size ≤ b ∧ b < w9.heap.size := fun b e => by have := Ho8.out.lt b e; omega
        have hN2 : ∀ b, (Value.slice ak2 keys2.length ck2).ownBlock = some b → w9.heap.size ≤ b ∧ b < wk.heap.size := fun b e => Hkk.out.lt b e
        have n1 : (Value.slice ax c.length cx).ownBlock ≠ some w.heap.size := fun e => by have := hcM _ e; omega
        have n2 : (Value.slice al L.length cl).ownBlock ≠ some w.heap.size := fun e => by have := hN1 _ e; omega
        have n3 : (Value.slice ak2 keys2.length ck2).ownBlock ≠ some w.heap.size := fun e => by have := hN2 _ e; omega
        refine ⟨_, c, _, keys2, _, _, L, _, q, rfl, (((Hck.out.mono (by omega)).set_other n1 0 _).set_other n1 1 _).set_other n1 2 _, hc1, hcl, (((Hkk.out.mono (by omega)).set_other n3 0 _).set_other n3 1 _).set_other n3 2 _, Hl2.out, (((Hok.out.mono (by omega)).set_other n2 0 _).set_other n2 1 _).set_other n2 2 _, by omega, ⟨w5.heap.size, w9.heap.size, fun b e => (hcM b e).2, hN1, fun b e => (hN2 b e).1, by omega⟩, ?_, by omega, ?_⟩
        · exact ((Hrk.out.kept (grownBy_set _ w.heap.size 0 _) (fun g e => by injection e with e; omega)).kept (grownBy_set _ w.heap.size 1 _) (fun g e => by injection e with e; omega)).kept (grownBy_set _ w.heap.size 2 _) (fun g e => by injection e with e; omega)
        · exact grown_row (grown_row (grown_row Hgk.out (grownBy_set _ w.heap.size 0 _) (fun g e => by injection e with e; omega)) (grownBy_set _ w.heap.size 1 _) (fun g e => by injection e with e; omega)) (grownBy_set _ w.heap.size 2 _) (fun g e => by injection e with e; omega)
      | false =>
        go_wp2_with fail
        generalize w8.alloc (.cells #[.int .i64 D, .slice al L.length cl, .int .i64 S] 37) = w9 at *
        refine (drawMembers R q c.length _ (by omega) (by omega) Hrd8.out (by omega)).mono ?_
        rintro e w10 ⟨vm, ms, p10, rfl, ho10, hml, hr10, hp10, hg10⟩
        obtain ⟨am, cm, rfl, _, _⟩ := ho10.ints
        have hz10 := hg10.size
        have Hr10 := Lib.hid hr10; clear hr10
        go_wp2_with fail
        refine (pick_any R 250 p10 _ (by omega) Hr10.out (by omega)).mono ?_
        rintro e w11 ⟨y2, rfl, _, _, hr11, hg11⟩
        have hz11 := hg11.size
        have hg911 := grownBy_trans hg10 hg11
        have sX := HX8.out.kept hg911 (fun e => by injection e with e; omega)
        have f0 := sX.frozen 0
        have f1 := sX.frozen 1
        have f2 := sX.frozen 2
        have k0 := sX.cell 0 rfl
        have k1 := sX.cell 1 rfl
        have k2 := sX.cell 2 rfl
        have sX' := ((sX.set 0 (.int .i64 d)).set 1 (.slice am ms.length cm)).set 2 (.int .i64 y2)
        have hneR : w.heap.size ≠ w8.heap.size := by omega
        have HR11 := Lib.hid ((((HR8.out.kept hg911 (fun e => by injection e with e; omega)).other hneR 0 (.int .i64 d)).other hneR 1 (.slice am ms.length cm)).other hneR 2 (.int .i64 y2))
        have hgs : ∀ (v0 v1 v2 : Value), w11.grownBy (((w11.setCell ⟨w8.heap.size, 0, none⟩ v0).setCell ⟨w8.heap.size, 1, none⟩ v1).setCell ⟨w8.heap.size, 2, none⟩ v2) (some w8.heap.size) := fun v0 v1 v2 => grownBy_trans (grownBy_trans (grownBy_set _ _ 0 _) (grownBy_set _ _ 1 _)) (grownBy_set _ _ 2 _)
        have hgs' := hgs (.int .i64 d) (.slice am ms.length cm) (.int .i64 y2)
        have Hc11 := Lib.hid ((Hc8.out.kept hg911 (.inr (fun e => by have := (Hc8.out.lt R e).1; omega))).kept hgs' (.inr (fun e => by have := (Hc5.out.lt _ e).2; omega)))
        have Ho11 := Lib.hid ((ho10.kept hg11 (.inr (fun e => by have := (ho10.lt R e).1; omega))).kept hgs' (.inr (fun e => by have := (ho10.lt _ e).1; omega)))
        have Hs11 := Lib.hid ((Hs8.out.grown hg911 (fun b e h => by have := HRl.out _ (ownBlock_slice b e); injection h with h; omega)).grown hgs' (fun b e h => by have := HSl.out _ (ownBlock_slice b e); injection h with h; omega))
        have Hrd11 := Lib.hid (hr11.kept hgs' (fun g e => by injection e with e; omega))
        have Hg11 := Lib.hid (grown_row (grownBy_trans Hg8.out hg911) hgs' (fun g e => by injection e with e; omega))
        have hzs : (((w11.setCell ⟨w8.heap.size, 0, none⟩ (.int .i64 d)).setCell ⟨w8.heap.size, 1, none⟩ (.slice am ms.length cm)).setCell ⟨w8.heap.size, 2, none⟩ (.int .i64 y2)).heap.size = w11.heap.size := by simp
        have HX11 := Lib.hid sX'; clear sX sX' hgs hgs' hg10 hg11 hg911 ho10 hr11
        go_wp2_with fail
        generalize (((w11.setCell ⟨w8.heap.size, 0, none⟩ (.int .i64 d)).setCell ⟨w8.heap.size, 1, none⟩ (.slice am ms.length cm)).setCell ⟨w8.heap.size, 2, none⟩ (.int .i64 y2)) = w12 at *
        clear f0 f1 f2 k0 k1 k2
        have lX : w8.heap.size < w12.drew.heap.size := HX11.out.lt
        have lR : w.heap.size < w12.drew.heap.size := HR11.out.lt
        have k0 : w12.drew.cell? ⟨w8.heap.size, 0, none⟩ = some (.int .i64 d) := HX11.out.cell 0 (v := .int .i64 d) rfl
        have k1 : w12.drew.cell? ⟨w8.heap.size, 1, none⟩ = some (.slice am ms.length cm) := HX11.out.cell 1 (v := .slice am ms.length cm) rfl
        have k2 : w12.drew.cell? ⟨w8.heap.size, 2, none⟩ = some (.int .i64 y2) := HX11.out.cell 2 (v := .int .i64 y2) rfl
        refine wp_region_L 6 (fun w' => w'.cell? ⟨w8.heap.size, 0, none⟩ = some (.int .i64 d) ∧ w'.cell? ⟨w8.heap.size, 1, none⟩ = some (.slice am ms.length cm) ∧ w'.cell? ⟨w8.heap.size, 2, none⟩ = some (.int .i64 y2)) (by kernel_rfl) ⟨k0, k1, k2⟩ (fun hH => ?_)
        refine takeL 0 (v := ?vb0) rfl (by kernel_rfl) (by kernel_rfl) (by kernel_rfl) (by kernel_rfl) (by kernel_rfl) (fun _ _ _ h => h) hH rfl ?yb0 ?rb0
        case yb0 => intro w hSw; obtain ⟨q0, q1, q2⟩ := hSw; go_simp; try with_reducible rfl
        try simp only [Act.put, List.setIfInBounds_toArray, List.set_cons_zero, List.set_cons_succ]
        refine takeL 1 (v := ?vb1) rfl (by kernel_rfl) (by kernel_rfl) (by kernel_rfl) (by kernel_rfl) (by kernel_rfl) (fun _ _ _ h => h) hH rfl ?yb1 ?rb1
        case yb1 => intro w hSw; obtain ⟨q0, q1, q2⟩ := hSw; go_simp; try with_reducible rfl
        try simp only [Act.put, List.setIfInBounds_toArray, List.set_cons_zero, List.set_cons_succ]
        refine takeL 3 (v := ?vb3) rfl (by kernel_rfl) (by kernel_rfl) (by kernel_rfl) (by kernel_rfl) (by kernel_rfl) (fun _ _ _ h => h) hH rfl ?yb3 ?rb3
        case yb3 => intro w hSw; obtain ⟨q0, q1, q2⟩ := hSw; go_simp; try with_reducible rfl
        try simp only [Act.put, List.setIfInBounds_toArray, List.set_cons_zero, List.set_cons_succ]
        refine callL 2 rfl (by kernel_rfl) rfl (fun K hK => ?_)
        go_simp
        refine (drawKeys aq cq xs w12.drew hxb (show IntsAt w12.drew aq xs from Hs11.out)).mono ?_
        rintro e wk ⟨vk2, keys2, rfl, hok2, hkl2, hbk⟩
        obtain ⟨ak2, ck2, rfl, _, _⟩ := hok2.ints
        dsimp only
        refine hK.out _ _ ⟨(hbk.cell (p := ⟨_, 0, none⟩) lX).trans k0, (hbk.cell (p := ⟨_, 1, none⟩) lX).trans k1, (hbk.cell (p := ⟨_, 2, none⟩) lX).trans k2⟩ (fun hH => ?_)
        clear hK K
        try simp only [Act.put, List.setIfInBounds_toArray, List.set_cons_zero, List.set_cons_succ]
        have HRk := Lib.hid (show Str wk w.heap.size 37 #[.int .i64 0, .slice none 0 0, .int .i64 0] from (hbk.block _ lR).trans HR11.out)
        have f0 := HRk.out.frozen 0
        have f1 := HRk.out.frozen 1
        have f2 := HRk.out.frozen 2
        have j0 := HRk.out.cell 0 rfl
        have j1 := HRk.out.cell 1 rfl
        have j2 := HRk.out.cell 2 rfl
        refine takeL 4 (v := ?vb4) rfl (by kernel_rfl) (by kernel_rfl) (by kernel_rfl) (by kernel_rfl) (by kernel_rfl) (fun _ _ _ h => h) hH rfl ?yb4 ?rb4
        case yb4 => intro w hSw; obtain ⟨q0, q1, q2⟩ := hSw; go_simp; try with_reducible rfl
        try simp only [Act.put, List.setIfInBounds_toArray, List.set_cons_zero, List.set_cons_succ]
        refine takeL 5 (v := ?vb5) rfl (by kernel_rfl) (by kernel_rfl) (by kernel_rfl) (by kernel_rfl) (by kernel_rfl) (fun _ _ _ h => h) hH rfl ?yb5 ?rb5
        case yb5 => intro w hSw; obtain ⟨q0, q1, q2⟩ := hSw; go_simp; try with_reducible rfl
        try simp only [Act.put, List.setIfInBounds_toArray, List.set_cons_zero, List.set_cons_succ]
        refine lastL rfl (by kernel_rfl) (by kernel_rfl) (by kernel_rfl) rfl (fun K hK => ?_)
        go_simp
        refine hK.out _ _ ?_
        clear hK K
        try simp only [Act.put, List.setIfInBounds_toArray, List.set_cons_zero, List.set_cons_succ]
        have sF := ((HRk.out.set 0 (.int .i64 d)).set 1 (.slice am ms.length cm)).set 2 (.int .i64 y2)
        have e0 := sF.cell 0 (v := .int .i64 d) rfl
        have e1 := sF.cell 1 (v := .slice am ms.length cm) rfl
        have e2 := sF.cell 2 (v := .int .i64 y2) rfl
        clear sF
        have hzk : w12.heap.size ≤ wk.heap.size := hbk.size
        have hgk : w12.grownBy wk (some R) := grownBy_trans (show w12.grownBy w12.drew (some R) from grownBy_drewN (World.grownBy.refl _ _) 1) (below_grownR hbk (some R))
        have Hck := Lib.hid (Hc11.out.kept hgk (.inr (fun e => by have := (Hc11.out.lt R e).1; omega)))
        have Hok := Lib.hid (Ho11.out.kept hgk (.inr (fun e => by have := (Ho11.out.lt R e).1; omega)))
        have Hrk := Lib.hid ((show Rdr w12.drew R (p10 + 1) from Hrd11.out.drewN 1).kept (below_grown hbk) (by simp))
        have Hgk := Lib.hid (grownBy_trans Hg11.out hgk)
        have Hkk := Lib.hid hok2
        have hl2 : keys2.length = c.length := hkl2.trans Hxl.out
        have Hl2 := Lib.hid hl2; clear hl2 hkl2 hok2 hgk
        have hcM : ∀ b, (Value.slice ax c.length cx).ownBlock = some b → w1.heap.size ≤ b ∧ b < w5.heap.size := fun b e => Hc5.out.lt b e
        go_wp2
        refine bodyPost_ret (v := .tuple #[.slice ax c.length cx, .slice ak2 keys2.length ck2, .agg #[.int .i64 d, .slice am ms.length cm, .int .i64 y2]]) (by simp [results, Try.f69, go_sem, e0, e1, e2, Hl2.out, Hxl.out]) rfl ?_
        have hN1 : ∀ b, (Value.slice am ms.length cm).ownBlock = some b → w5.heap.size ≤ b ∧ b < w12.heap.size := fun b e => by have := Ho11.out.lt b e; omega
        have hN2 : ∀ b, (Value.slice ak2 keys2.length ck2).ownBlock = some b → w12.heap.size ≤ b ∧ b < wk.heap.size := fun b e => Hkk.out.lt b e
        have n1 : (Value.slice ax c.length cx).ownBlock ≠ some w.heap.size := fun e => by have := hcM _ e; omega
        have n2 : (Value.slice am ms.length cm).ownBlock ≠ some w.heap.size := fun e => by have := hN1 _ e; omega
        have n3 : (Value.slice ak2 keys2.length ck2).ownBlock ≠ some w.heap.size := fun e => by have := hN2 _ e; omega
        refine ⟨_, c, _, keys2, _, _, ms, _, (p10 + 1), rfl, (((Hck.out.mono (by omega)).set_other n1 0 _).set_other n1 1 _).set_other n1 2 _, hc1, hcl, (((Hkk.out.mono (by omega)).set_other n3 0 _).set_other n3 1 _).set_other n3 2 _, Hl2.out, (((Hok.out.mono (by omega)).set_other n2 0 _).set_other n2 1 _).set_other n2 2 _, by omega, ⟨w5.heap.size, w12.heap.size, fun b e => (hcM b e).2, hN1, fun b e => (hN2 b e).1, by omega⟩, ?_, by omega, ?_⟩
        · exact ((Hrk.out.kept (grownBy_set _ w.heap.size 0 _) (fun g e => by injection e with e; omega)).kept (grownBy_set _ w.heap.size 1 _) (fun g e => by injection e with e; omega)).kept (grownBy_set _ w.heap.size 2 _) (fun g e => by injection e with e; omega)
        · exact grown_row (grown_row (grown_row Hgk.out (grownBy_set _ w.heap.size 0 _) (fun g e => by injection e with e; omega)) (grownBy_set _ w.heap.size 1 _) (fun g e => by injection e with e; omega)) (grownBy_set _ w.heap.size 2 _) (fun g e => by injection e with e; omega)

end Go.Proofs.Yteglefchkecfjaa

/- The draw of what CertCheck is called with, by a walk of its text; condition: the text of code can be read. -/
namespace Go.Proofs.Yteglefchkecfjaa
open Go.RowKit

set_option maxHeartbeats 1000000 in
theorem spec_DrawCertCheck (a : Option Addr) (cap : Nat) (zs : List Int) (w : World) (h : CodeAt w a cap zs) :
    Calls Try.prog 25 #[.slice a zs.length cap] w fun e w' => ∃ vc c vk keys d vs ms s, e = .returned (.tuple #[vc, vk, .agg #[.int .i64 d, vs, .int .i64 s]]) ∧ Own 3 w' w.heap.size vc c ∧ c.length ≤ 11 ∧ Own 3 w' w.heap.size vk keys ∧ keys.length = c.length ∧ Own 3 w' w.heap.size vs ms ∧ ms.length ≤ 12 ∧ Below w.heap.size w w' := by
  have hb0 : Below w.heap.size w (w.alloc (.cells #[.int .i64 0, .slice none 0 0, .int .i64 0] 37)) := (Below.refl _ _).alloc (Nat.le_refl _) _
  have HR0 := Lib.hid (Str.new w 37 #[.int .i64 0, .slice none 0 0, .int .i64 0])
  have h0 := h.below hb0
  have hz0 : (w.alloc (.cells #[.int .i64 0, .slice none 0 0, .int .i64 0] 37)).heap.size = w.heap.size + 1 := by simp
  have Hh := Lib.hid h0; clear h0
  have Hb0 := Lib.hid hb0; clear hb0
  go_enter Try.func25, Try.ntmps25
  go_wp2_with fail
  generalize w.alloc (.cells #[.int .i64 0, .slice none 0 0, .int .i64 0] 37) = w0 at *
  refine (open_any a cap zs _ Hh.out).mono ?_
  rintro e w1 ⟨R, rfl, hR1, hR2, hr1, hb1⟩
  have Hr1 := Lib.hid hr1; clear hr1
  have hz1 := hb1.size
  have HR1 := Lib.hid (show Str w1 w.heap.size 37 #[.int .i64 0, .slice none 0 0, .int .i64 0] from (hb1.block _ HR0.out.lt).trans HR0.out)
  have Hb1 := Lib.hid (below_step Hb0.out Hb0.out.size hb1); clear hb1
  go_wp2_with fail
  refine (drawCert R 0 _ (by omega) Hr1.out hR2).mono ?_
  rintro e w2 ⟨vc, c, vk, keys, d, vs, ms, s, p2, rfl, hoc, hc1, hc2, hok, hkl, hos, hml, ⟨M, N, hM, hN, hK, hMN⟩, hr2, hp2, hg2⟩
  obtain ⟨ac, cc, rfl, _, _⟩ := hoc.ints
  obtain ⟨ak, ck, rfl, _, _⟩ := hok.ints
  obtain ⟨av, cv, rfl, _, _⟩ := hos.ints
  have hz2 := hg2.size
  have HR2 := Lib.hid ((HR1.out.kept hg2 (fun e => by injection e with e; omega)).alloc (.cells #[.int .i64 d, .slice av ms.length cv, .int .i64 s] 37))
  have HX2 := Lib.hid (Str.new w2 37 #[.int .i64 d, .slice av ms.length cv, .int .i64 s])
  have Hc2 := Lib.hid (hoc.alloc (.cells #[.int .i64 d, .slice av ms.length cv, .int .i64 s] 37))
  have Hk2 := Lib.hid (hok.alloc (.cells #[.int .i64 d, .slice av ms.length cv, .int .i64 s] 37))
  have Ho2 := Lib.hid (hos.alloc (.cells #[.int .i64 d, .slice av ms.length cv, .int .i64 s] 37))
  have Hcl := Lib.hid (fun b e => hoc.lt b e); have Hkl := Lib.hid (fun b e => hok.lt b e); have Hol := Lib.hid (fun b e => hos.lt b e)
  have Hr2 := Lib.hid (hr2.alloc (.cells #[.int .i64 d, .slice av ms.length cv, .int .i64 s] 37))
  have Hg2 := Lib.hid (grownBy_trans hg2 (World.grownBy_alloc w2 (.cells #[.int .i64 d, .slice av ms.length cv, .int .i64 s] 37) (some R)))
  have hz2' : (w2.alloc (.cells #[.int .i64 d, .slice av ms.length cv, .int .i64 s] 37)).heap.size = w2.heap.size + 1 := by simp
  have Hlk := Lib.hid hkl
  have HM := Lib.hid hM; have HN := Lib.hid hN; have HK := Lib.hid hK
  clear hoc hok hos hr2 hg2 hkl hM hN hK
  go_wp2_with fail
  generalize w2.alloc (.cells #[.int .i64 d, .slice av ms.length cv, .int .i64 s] 37) = w3 at *
  refine (pick_any R 10 p2 _ (by omega) Hr2.out (by omega)).mono ?_
  rintro e w4 ⟨k, rfl, hk0, hk1, hr4, hg4⟩
  have hz4 := hg4.size
  have Hr4 := Lib.hid hr4; clear hr4
  have HR4 := Lib.hid (HR2.out.kept hg4 (fun e => by injection e with e; omega))
  have HX4 := Lib.hid (HX2.out.kept hg4 (fun e => by injection e with e; omega))
  have Hc4 := Lib.hid (Hc2.out.kept hg4 (.inr (fun e => by have := Hcl.out _ e; omega)))
  have Hk4 := Lib.hid (Hk2.out.kept hg4 (.inr (fun e => by have := Hkl.out _ e; omega)))
  have Ho4 := Lib.hid (Ho2.out.kept hg4 (.inr (fun e => by have := Hol.out _ e; omega)))
  have Hg4 := Lib.hid (grownBy_trans Hg2.out hg4); clear hg4
  by_cases k0 : k = 0
  · subst k0
    go_wp2_with fail
    refine (drawDigest R (p2 + 1) _ (by omega) Hr4.out).mono ?_
    rintro e w5 ⟨z, p5, rfl, _, _, _, _, hg5⟩
    have hz5 := hg5.size
    have HR5 := Lib.hid (HR4.out.kept hg5 (fun e => by injection e with e; omega))
    have sX := HX4.out.kept hg5 (fun e => by injection e with e; omega)
    have Hc5 := Lib.hid (Hc4.out.kept hg5 (.inr (fun e => by have := Hcl.out _ e; omega)))
    have Hk5 := Lib.hid (Hk4.out.kept hg5 (.inr (fun e => by have := Hkl.out _ e; omega)))
    have Ho5 := Lib.hid (Ho4.out.kept hg5 (.inr (fun e => by have := Hol.out _ e; omega)))
    have Hg5 := Lib.hid (grownBy_trans Hg4.out hg5)
    clear hg5
    have f0 := sX.frozen 0
    have k0 := sX.cell 0 (v := .int .i64 d) rfl
    have sX' := sX.set 0 (.int .i64 z)
    have hb5 := Hb1.out.trans (below_of_row' Hg5.out (by omega) (by omega))
    have HR9 := Lib.hid (HR5.out.other (by omega : w.heap.size ≠ w2.heap.size) 0 (.int .i64 z))
    have HX9 := Lib.hid sX'
    have Hc9 := Lib.hid ((Hc5.out.set_other (B' := w2.heap.size) (fun e => by have := Hcl.out _ e; omega) 0 (.int .i64 z)).mono (by omega : w.heap.size ≤ w1.heap.size))
    have Hk9 := Lib.hid ((Hk5.out.set_other (B' := w2.heap.size) (fun e => by have := Hkl.out _ e; omega) 0 (.int .i64 z)).mono (by omega : w.heap.size ≤ w1.heap.size))
    have Ho9 := Lib.hid ((Ho5.out.set_other (B' := w2.heap.size) (fun e => by have := Hol.out _ e; omega) 0 (.int .i64 z)).mono (by omega : w.heap.size ≤ w1.heap.size))
    have Hb9 := Lib.hid (hb5.setCell (p := ⟨w2.heap.size, 0, none⟩) (by simp only; omega) (.int .i64 z))
    clear sX sX' hb5
    go_wp2_with fail
    generalize w5.setCell ⟨w2.heap.size, 0, none⟩ (.int .i64 z) = w9 at *
    clear f0 k0
    have n1 : (Value.slice ac c.length cc).ownBlock ≠ some w.heap.size := fun e => by have := Hcl.out _ e; omega
    have n2 : (Value.slice ak keys.length ck).ownBlock ≠ some w.heap.size := fun e => by have := Hkl.out _ e; omega
    have n3 : (Value.slice av ms.length cv).ownBlock ≠ some w.heap.size := fun e => by have := Hol.out _ e; omega
    have f0 := HR9.out.frozen 0
    have f1 := HR9.out.frozen 1
    have f2 := HR9.out.frozen 2
    have j0 := HR9.out.cell 0 rfl
    have j1 := HR9.out.cell 1 rfl
    have j2 := HR9.out.cell 2 rfl
    have k0 := HX9.out.cell 0 (v := .int .i64 z) rfl
    have k1 := HX9.out.cell 1 (v := .slice av ms.length cv) rfl
    have k2 := HX9.out.cell 2 (v := .int .i64 s) rfl
    have hneX : w.heap.size ≠ w2.heap.size := by omega
    go_region
    have sF := ((HR9.out.set 0 (.int .i64 z)).set 1 (.slice av ms.length cv)).set 2 (.int .i64 s)
    have e0 := sF.cell 0 (v := .int .i64 z) rfl
    have e1 := sF.cell 1 (v := .slice av ms.length cv) rfl
    have e2 := sF.cell 2 (v := .int .i64 s) rfl
    clear sF
    go_wp2
    refine bodyPost_ret (v := .tuple #[.slice ac c.length cc, .slice ak keys.length ck, .agg #[.int .i64 z, .slice av ms.length cv, .int .i64 s]]) (by simp [results, Try.f25, go_sem, e0, e1, e2]) rfl ?_
    exact ⟨_, c, _, keys, _, _, ms, _, rfl, ((Hc9.out.set_other n1 0 _).set_other n1 1 _).set_other n1 2 _, by first | omega | (simp; omega), ((Hk9.out.set_other n2 0 _).set_other n2 1 _).set_other n2 2 _, by first | exact Hlk.out | (rw [List.length_set]; exact Hlk.out), ((Ho9.out.set_other n3 0 _).set_other n3 1 _).set_other n3 2 _, by omega, ((Hb9.out.setCell (p := ⟨w.heap.size, 0, none⟩) (Nat.le_refl _) _).setCell (p := ⟨w.heap.size, 1, none⟩) (Nat.le_refl _) _).setCell (p := ⟨w.heap.size, 2, none⟩) (Nat.le_refl _) _ |>.drew⟩
  have k0' : (k == 0) = false := by rw [beq_eq_false_iff_ne]; exact k0
  by_cases k1 : k = 1
  · subst k1
    go_wp2_with fail
    refine (drawMembers R (p2 + 1) c.length _ (by omega) (by omega) Hr4.out (by omega)).mono ?_
    rintro e w5 ⟨vm, ms2, p5, rfl, hom, hm2, _, _, hg5⟩
    obtain ⟨am, cm, rfl, _, _⟩ := hom.ints
    have hz5 := hg5.size
    have HR5 := Lib.hid (HR4.out.kept hg5 (fun e => by injection e with e; omega))
    have sX := HX4.out.kept hg5 (fun e => by injection e with e; omega)
    have Hc5 := Lib.hid (Hc4.out.kept hg5 (.inr (fun e => by have := Hcl.out _ e; omega)))
    have Hk5 := Lib.hid (Hk4.out.kept hg5 (.inr (fun e => by have := Hkl.out _ e; omega)))
    have Ho5 := Lib.hid (Ho4.out.kept hg5 (.inr (fun e => by have := Hol.out _ e; omega)))
    have Hg5 := Lib.hid (grownBy_trans Hg4.out hg5)
    clear hg5
    have f1 := sX.frozen 1
    have k1 := sX.cell 1 (v := .slice av ms.length cv) rfl
    have sX' := sX.set 1 (.slice am ms2.length cm)
    have hb5 := Hb1.out.trans (below_of_row' Hg5.out (by omega) (by omega))
    have HR9 := Lib.hid (HR5.out.other (by omega : w.heap.size ≠ w2.heap.size) 1 (.slice am ms2.length cm))
    have HX9 := Lib.hid sX'
    have Hc9 := Lib.hid ((Hc5.out.set_other (B' := w2.heap.size) (fun e => by have := Hcl.out _ e; omega) 1 (.slice am ms2.length cm)).mono (by omega : w.heap.size ≤ w1.heap.size))
    have Hk9 := Lib.hid ((Hk5.out.set_other (B' := w2.heap.size) (fun e => by have := Hkl.out _ e; omega) 1 (.slice am ms2.length cm)).mono (by omega : w.heap.size ≤ w1.heap.size))
    have Ho9 := Lib.hid ((hom.set_other (B' := w2.heap.size) (fun e => by have := (hom.lt _ e).1; omega) 1 (.slice am ms2.length cm)).mono (by omega : w.heap.size ≤ w4.heap.size))
    have Hb9 := Lib.hid (hb5.setCell (p := ⟨w2.heap.size, 1, none⟩) (by simp only; omega) (.slice am ms2.length cm))
    clear sX sX' hb5
    go_wp2_with fail
    generalize w5.setCell ⟨w2.heap.size, 1, none⟩ (.slice am ms2.length cm) = w9 at *
    clear f1 k1
    have n1 : (Value.slice ac c.length cc).ownBlock ≠ some w.heap.size := fun e => by have := Hcl.out _ e; omega
    have n2 : (Value.slice ak keys.length ck).ownBlock ≠ some w.heap.size := fun e => by have := Hkl.out _ e; omega
    have n3 : (Value.slice am ms2.length cm).ownBlock ≠ some w.heap.size := fun e => by have := (hom.lt _ e).1; omega
    clear hom
    have f0 := HR9.out.frozen 0
    have f1 := HR9.out.frozen 1
    have f2 := HR9.out.frozen 2
    have j0 := HR9.out.cell 0 rfl
    have j1 := HR9.out.cell 1 rfl
    have j2 := HR9.out.cell 2 rfl
    have k0 := HX9.out.cell 0 (v := .int .i64 d) rfl
    have k1 := HX9.out.cell 1 (v := .slice am ms2.length cm) rfl
    have k2 := HX9.out.cell 2 (v := .int .i64 s) rfl
    have hneX : w.heap.size ≠ w2.heap.size := by omega
    go_region
    have sF := ((HR9.out.set 0 (.int .i64 d)).set 1 (.slice am ms2.length cm)).set 2 (.int .i64 s)
    have e0 := sF.cell 0 (v := .int .i64 d) rfl
    have e1 := sF.cell 1 (v := .slice am ms2.length cm) rfl
    have e2 := sF.cell 2 (v := .int .i64 s) rfl
    clear sF
    go_wp2
    refine bodyPost_ret (v := .tuple #[.slice ac c.length cc, .slice ak keys.length ck, .agg #[.int .i64 d, .slice am ms2.length cm, .int .i64 s]]) (by simp [results, Try.f25, go_sem, e0, e1, e2]) rfl ?_
    exact ⟨_, c, _, keys, _, _, ms2, _, rfl, ((Hc9.out.set_other n1 0 _).set_other n1 1 _).set_other n1 2 _, by first | omega | (simp; omega), ((Hk9.out.set_other n2 0 _).set_other n2 1 _).set_other n2 2 _, by first | exact Hlk.out | (rw [List.length_set]; exact Hlk.out), ((Ho9.out.set_other n3 0 _).set_other n3 1 _).set_other n3 2 _, by omega, ((Hb9.out.setCell (p := ⟨w.heap.size, 0, none⟩) (Nat.le_refl _) _).setCell (p := ⟨w.heap.size, 1, none⟩) (Nat.le_refl _) _).setCell (p := ⟨w.heap.size, 2, none⟩) (Nat.le_refl _) _ |>.drew⟩
  have k1' : (k == 1) = false := by rw [beq_eq_false_iff_ne]; exact k1
  by_cases k2 : k = 2
  · subst k2
    go_wp2_with fail
    refine (drawKey R (p2 + 1) _ (by omega) Hr4.out).mono ?_
    rintro e w5 ⟨z, p5, rfl, hza, hzb, _, _, hg5⟩
    have hz5 := hg5.size
    have HR5 := Lib.hid (HR4.out.kept hg5 (fun e => by injection e with e; omega))
    have sX := HX4.out.kept hg5 (fun e => by injection e with e; omega)
    have Hc5 := Lib.hid (Hc4.out.kept hg5 (.inr (fun e => by have := Hcl.out _ e; omega)))
    have Hk5 := Lib.hid (Hk4.out.kept hg5 (.inr (fun e => by have := Hkl.out _ e; omega)))
    have Ho5 := Lib.hid (Ho4.out.kept hg5 (.inr (fun e => by have := Hol.out _ e; omega)))
    have Hg5 := Lib.hid (grownBy_trans Hg4.out hg5)
    clear hg5
    have f2 := sX.frozen 2
    have k2 := sX.cell 2 (v := .int .i64 s) rfl
    have sX' := sX.set 2 (.int .i64 (z - 1))
    have hb5 := Hb1.out.trans (below_of_row' Hg5.out (by omega) (by omega))
    have HR9 := Lib.hid (HR5.out.other (by omega : w.heap.size ≠ w2.heap.size) 2 (.int .i64 (z - 1)))
    have HX9 := Lib.hid sX'
    have Hc9 := Lib.hid ((Hc5.out.set_other (B' := w2.heap.size) (fun e => by have := Hcl.out _ e; omega) 2 (.int .i64 (z - 1))).mono (by omega : w.heap.size ≤ w1.heap.size))
    have Hk9 := Lib.hid ((Hk5.out.set_other (B' := w2.heap.size) (fun e => by have := Hkl.out _ e; omega) 2 (.int .i64 (z - 1))).mono (by omega : w.heap.size ≤ w1.heap.size))
    have Ho9 := Lib.hid ((Ho5.out.set_other (B' := w2.heap.size) (fun e => by have := Hol.out _ e; omega) 2 (.int .i64 (z - 1))).mono (by omega : w.heap.size ≤ w1.heap.size))
    have Hb9 := Lib.hid (hb5.setCell (p := ⟨w2.heap.size, 2, none⟩) (by simp only; omega) (.int .i64 (z - 1)))
    clear sX sX' hb5
    go_wp2_with fail
    generalize w5.setCell ⟨w2.heap.size, 2, none⟩ (.int .i64 (z - 1)) = w9 at *
    clear f2 k2
    have n1 : (Value.slice ac c.length cc).ownBlock ≠ some w.heap.size := fun e => by have := Hcl.out _ e; omega
    have n2 : (Value.slice ak keys.length ck).ownBlock ≠ some w.heap.size := fun e => by have := Hkl.out _ e; omega
    have n3 : (Value.slice av ms.length cv).ownBlock ≠ some w.heap.size := fun e => by have := Hol.out _ e; omega
    have f0 := HR9.out.frozen 0
    have f1 := HR9.out.frozen 1
    have f2 := HR9.out.frozen 2
    have j0 := HR9.out.cell 0 rfl
    have j1 := HR9.out.cell 1 rfl
    have j2 := HR9.out.cell 2 rfl
    have k0 := HX9.out.cell 0 (v := .int .i64 d) rfl
    have k1 := HX9.out.cell 1 (v := .slice av ms.length cv) rfl
    have k2 := HX9.out.cell 2 (v := .int .i64 (z - 1)) rfl
    have hneX : w.heap.size ≠ w2.heap.size := by omega
    go_region
    have sF := ((HR9.out.set 0 (.int .i64 d)).set 1 (.slice av ms.length cv)).set 2 (.int .i64 (z - 1))
    have e0 := sF.cell 0 (v := .int .i64 d) rfl
    have e1 := sF.cell 1 (v := .slice av ms.length cv) rfl
    have e2 := sF.cell 2 (v := .int .i64 (z - 1)) rfl
    clear sF
    go_wp2
    refine bodyPost_ret (v := .tuple #[.slice ac c.length cc, .slice ak keys.length ck, .agg #[.int .i64 d, .slice av ms.length cv, .int .i64 (z - 1)]]) (by simp [results, Try.f25, go_sem, e0, e1, e2]) rfl ?_
    exact ⟨_, c, _, keys, _, _, ms, _, rfl, ((Hc9.out.set_other n1 0 _).set_other n1 1 _).set_other n1 2 _, by first | omega | (simp; omega), ((Hk9.out.set_other n2 0 _).set_other n2 1 _).set_other n2 2 _, by first | exact Hlk.out | (rw [List.length_set]; exact Hlk.out), ((Ho9.out.set_other n3 0 _).set_other n3 1 _).set_other n3 2 _, by omega, ((Hb9.out.setCell (p := ⟨w.heap.size, 0, none⟩) (Nat.le_refl _) _).setCell (p := ⟨w.heap.size, 1, none⟩) (Nat.le_refl _) _).setCell (p := ⟨w.heap.size, 2, none⟩) (Nat.le_refl _) _ |>.drew⟩
  have k2' : (k == 2) = false := by rw [beq_eq_false_iff_ne]; exact k2
  by_cases k3 : k = 3
  · subst k3
    have hkpos : 0 < keys.length := by have := Hlk.out; omega
    have hkb : keys.length ≤ 11 := by have := Hlk.out; omega
    go_wp2_with fail
    refine (pick_any R keys.length (p2 + 1) _ (by omega) Hr4.out (by omega)).mono ?_
    rintro e w5 ⟨j, rfl, hj0, hj1, hr5, hg5⟩
    have Hr5 := Lib.hid hr5; clear hr5
    have hz5 := hg5.size
    obtain ⟨j, rfl⟩ := Int.eq_ofNat_of_zero_le hj0
    have hjl : j < keys.length := by omega
    go_wp2_with fail
    refine (drawKey R (p2 + 1 + 1) _ (by omega) Hr5.out).mono ?_
    rintro e w6 ⟨z, p6, rfl, _, _, _, _, hg6⟩
    have hg46 := grownBy_trans hg5 hg6
    have hz6 := hg46.size
    have HR6 := Lib.hid (HR4.out.kept hg46 (fun e => by injection e with e; omega))
    have sX := HX4.out.kept hg46 (fun e => by injection e with e; omega)
    have Hc6 := Lib.hid (Hc4.out.kept hg46 (.inr (fun e => by have := Hcl.out _ e; omega)))
    have Hk6 := Lib.hid (Hk4.out.kept hg46 (.inr (fun e => by have := Hkl.out _ e; omega)))
    have Ho6 := Lib.hid (Ho4.out.kept hg46 (.inr (fun e => by have := Hol.out _ e; omega)))
    have Hg6 := Lib.hid (grownBy_trans Hg4.out hg46)
    have hsz6 := hg6.size
    clear hg5 hg6 hg46
    obtain ⟨g, cg, hv, hgB, hgs, hcg, hcells, hfz⟩ := Hk6.out.row (by omega)
    simp only [Value.slice.injEq] at hv
    obtain ⟨rfl, hlv, rfl⟩ := hv
    clear hlv
    have hcj := hcells j hjl
    have hfj := hfz j
    have Hst := Lib.hid (Hk6.out.store rfl j z)
    clear hcells hfz
    have hgg := Hst.out.2
    have HX9 := Lib.hid (sX.kept hgg (fun e => by have := Hkl.out g rfl; injection e with e; omega))
    have HR9 := Lib.hid (HR6.out.kept hgg (fun e => by have := Hkl.out g rfl; injection e with e; omega))
    have Hk9 := Lib.hid (Hst.out.1.mono (by omega : w.heap.size ≤ w1.heap.size))
    have Hc9 := Lib.hid ((Hc6.out.kept hgg (.inr (fun e => by have h1 := HM.out _ e; have h2 := HK.out g rfl; omega))).mono (by omega : w.heap.size ≤ w1.heap.size))
    have Ho9 := Lib.hid ((Ho6.out.kept hgg (.inr (fun e => by have h1 := HN.out _ e; have h2 := HK.out g rfl; omega))).mono (by omega : w.heap.size ≤ w1.heap.size))
    have Hb9 := Lib.hid ((Hb1.out.trans (below_of_row' Hg6.out (by omega) (by omega))).grown hgg (by omega) (fun g' e => by injection e with e; have := Hkl.out g rfl; omega))
    clear hgg sX Hst
    go_wp2_with fail
    generalize w6.setCell ⟨g, j, none⟩ (.int .i64 z) = w9 at *
    clear hcj hfj
    have n1 : (Value.slice ac c.length cc).ownBlock ≠ some w.heap.size := fun e => by have := Hcl.out _ e; omega
    have n2 : (Value.slice (some ⟨g, 0, none⟩) keys.length ck).ownBlock ≠ some w.heap.size := fun e => by have := Hkl.out _ e; omega
    have n3 : (Value.slice av ms.length cv).ownBlock ≠ some w.heap.size := fun e => by have := Hol.out _ e; omega
    have f0 := HR9.out.frozen 0
    have f1 := HR9.out.frozen 1
    have f2 := HR9.out.frozen 2
    have j0 := HR9.out.cell 0 rfl
    have j1 := HR9.out.cell 1 rfl
    have j2 := HR9.out.cell 2 rfl
    have k0 := HX9.out.cell 0 (v := .int .i64 d) rfl
    have k1 := HX9.out.cell 1 (v := .slice av ms.length cv) rfl
    have k2 := HX9.out.cell 2 (v := .int .i64 s) rfl
    have hneX : w.heap.size ≠ w2.heap.size := by omega
    go_region
    have sF := ((HR9.out.set 0 (.int .i64 d)).set 1 (.slice av ms.length cv)).set 2 (.int .i64 s)
    have e0 := sF.cell 0 (v := .int .i64 d) rfl
    have e1 := sF.cell 1 (v := .slice av ms.length cv) rfl
    have e2 := sF.cell 2 (v := .int .i64 s) rfl
    clear sF
    go_wp2
    refine bodyPost_ret (v := .tuple #[.slice ac c.length cc, .slice (some ⟨g, 0, none⟩) keys.length ck, .agg #[.int .i64 d, .slice av ms.length cv, .int .i64 s]]) (by simp [results, Try.f25, go_sem, e0, e1, e2]) rfl ?_
    exact ⟨_, c, _, (keys.set j z), _, _, ms, _, rfl, ((Hc9.out.set_other n1 0 _).set_other n1 1 _).set_other n1 2 _, by first | omega | (simp; omega), ((Hk9.out.set_other n2 0 _).set_other n2 1 _).set_other n2 2 _, by first | exact Hlk.out | (rw [List.length_set]; exact Hlk.out), ((Ho9.out.set_other n3 0 _).set_other n3 1 _).set_other n3 2 _, by omega, ((Hb9.out.setCell (p := ⟨w.heap.size, 0, none⟩) (Nat.le_refl _) _).setCell (p := ⟨w.heap.size, 1, none⟩) (Nat.le_refl _) _).setCell (p := ⟨w.heap.size, 2, none⟩) (Nat.le_refl _) _ |>.drew⟩
  have k3' : (k == 3) = false := by rw [beq_eq_false_iff_ne]; exact k3
  by_cases k4 : k = 4
  · subst k4
    have hkpos : 0 < keys.length := by have := Hlk.out; omega
    have hkb : keys.length ≤ 11 := by have := Hlk.out; omega
    go_wp2_with fail
    refine (pick_any R c.length (p2 + 1) _ (by omega) Hr4.out (by omega)).mono ?_
    rintro e w5 ⟨j, rfl, hj0, hj1, hr5, hg5⟩
    have Hr5 := Lib.hid hr5; clear hr5
    have hz5 := hg5.size
    obtain ⟨j, rfl⟩ := Int.eq_ofNat_of_zero_le hj0
    have hjl : j < c.length := by omega
    go_wp2_with fail
    refine (pick_any R 11 (p2 + 1 + 1) _ (by omega) Hr5.out (by omega)).mono ?_
    rintro e w6 ⟨z, rfl, _, _, _, hg6⟩
    have hg46 := grownBy_trans hg5 hg6
    have hz6 := hg46.size
    have HR6 := Lib.hid (HR4.out.kept hg46 (fun e => by injection e with e; omega))
    have sX := HX4.out.kept hg46 (fun e => by injection e with e; omega)
    have Hc6 := Lib.hid (Hc4.out.kept hg46 (.inr (fun e => by have := Hcl.out _ e; omega)))
    have Hk6 := Lib.hid (Hk4.out.kept hg46 (.inr (fun e => by have := Hkl.out _ e; omega)))
    have Ho6 := Lib.hid (Ho4.out.kept hg46 (.inr (fun e => by have := Hol.out _ e; omega)))
    have Hg6 := Lib.hid (grownBy_trans Hg4.out hg46)
    have hsz6 := hg6.size
    clear hg5 hg6 hg46
    obtain ⟨g, cg, hv, hgB, hgs, hcg, hcells, hfz⟩ := Hc6.out.row (by omega)
    simp only [Value.slice.injEq] at hv
    obtain ⟨rfl, hlv, rfl⟩ := hv
    clear hlv
    have hcj := hcells j hjl
    have hfj := hfz j
    have Hst := Lib.hid (Hc6.out.store rfl j z)
    clear hcells hfz
    have hgg := Hst.out.2
    have HX9 := Lib.hid (sX.kept hgg (fun e => by have := Hcl.out g rfl; injection e with e; omega))
    have HR9 := Lib.hid (HR6.out.kept hgg (fun e => by have := Hcl.out g rfl; injection e with e; omega))
    have Hc9 := Lib.hid (Hst.out.1.mono (by omega : w.heap.size ≤ w1.heap.size))
    have Hk9 := Lib.hid ((Hk6.out.kept hgg (.inr (fun e => by have h1 := HK.out _ e; have h2 := HM.out g rfl; omega))).mono (by omega : w.heap.size ≤ w1.heap.size))
    have Ho9 := Lib.hid ((Ho6.out.kept hgg (.inr (fun e => by have h1 := HN.out _ e; have h2 := HM.out g rfl; omega))).mono (by omega : w.heap.size ≤ w1.heap.size))
    have Hb9 := Lib.hid ((Hb1.out.trans (below_of_row' Hg6.out (by omega) (by omega))).grown hgg (by omega) (fun g' e => by injection e with e; have := Hcl.out g rfl; omega))
    clear hgg sX Hst
    go_wp2_with fail
    generalize w6.setCell ⟨g, j, none⟩ (.int .i64 z) = w9 at *
    clear hcj hfj
    have n1 : (Value.slice (some ⟨g, 0, none⟩) c.length cc).ownBlock ≠ some w.heap.size := fun e => by have := Hcl.out _ e; omega
    have n2 : (Value.slice ak keys.length ck).ownBlock ≠ some w.heap.size := fun e => by have := Hkl.out _ e; omega
    have n3 : (Value.slice av ms.length cv).ownBlock ≠ some w.heap.size := fun e => by have := Hol.out _ e; omega
    have f0 := HR9.out.frozen 0
    have f1 := HR9.out.frozen 1
    have f2 := HR9.out.frozen 2
    have j0 := HR9.out.cell 0 rfl
    have j1 := HR9.out.cell 1 rfl
    have j2 := HR9.out.cell 2 rfl
    have k0 := HX9.out.cell 0 (v := .int .i64 d) rfl
    have k1 := HX9.out.cell 1 (v := .slice av ms.length cv) rfl
    have k2 := HX9.out.cell 2 (v := .int .i64 s) rfl
    have hneX : w.heap.size ≠ w2.heap.size := by omega
    go_region
    have sF := ((HR9.out.set 0 (.int .i64 d)).set 1 (.slice av ms.length cv)).set 2 (.int .i64 s)
    have e0 := sF.cell 0 (v := .int .i64 d) rfl
    have e1 := sF.cell 1 (v := .slice av ms.length cv) rfl
    have e2 := sF.cell 2 (v := .int .i64 s) rfl
    clear sF
    go_wp2
    refine bodyPost_ret (v := .tuple #[.slice (some ⟨g, 0, none⟩) c.length cc, .slice ak keys.length ck, .agg #[.int .i64 d, .slice av ms.length cv, .int .i64 s]]) (by simp [results, Try.f25, go_sem, e0, e1, e2]) rfl ?_
    exact ⟨_, (c.set j z), _, keys, _, _, ms, _, rfl, ((Hc9.out.set_other n1 0 _).set_other n1 1 _).set_other n1 2 _, by first | omega | (simp; omega), ((Hk9.out.set_other n2 0 _).set_other n2 1 _).set_other n2 2 _, by first | exact Hlk.out | (rw [List.length_set]; exact Hlk.out), ((Ho9.out.set_other n3 0 _).set_other n3 1 _).set_other n3 2 _, by omega, ((Hb9.out.setCell (p := ⟨w.heap.size, 0, none⟩) (Nat.le_refl _) _).setCell (p := ⟨w.heap.size, 1, none⟩) (Nat.le_refl _) _).setCell (p := ⟨w.heap.size, 2, none⟩) (Nat.le_refl _) _ |>.drew⟩
  have k4' : (k == 4) = false := by rw [beq_eq_false_iff_ne]; exact k4
  have HR9 := HR4
  have HX9 := HX4
  have Hc9 := Lib.hid (Hc4.out.mono (by omega : w.heap.size ≤ w1.heap.size))
  have Hk9 := Lib.hid (Hk4.out.mono (by omega : w.heap.size ≤ w1.heap.size))
  have Ho9 := Lib.hid (Ho4.out.mono (by omega : w.heap.size ≤ w1.heap.size))
  have Hb9 := Lib.hid (Hb1.out.trans (below_of_row' Hg4.out (by omega) (by omega)))
  go_wp2_with fail
  have n1 : (Value.slice ac c.length cc).ownBlock ≠ some w.heap.size := fun e => by have := Hcl.out _ e; omega
  have n2 : (Value.slice ak keys.length ck).ownBlock ≠ some w.heap.size := fun e => by have := Hkl.out _ e; omega
  have n3 : (Value.slice av ms.length cv).ownBlock ≠ some w.heap.size := fun e => by have := Hol.out _ e; omega
  have f0 := HR9.out.frozen 0
  have f1 := HR9.out.frozen 1
  have f2 := HR9.out.frozen 2
  have j0 := HR9.out.cell 0 rfl
  have j1 := HR9.out.cell 1 rfl
  have j2 := HR9.out.cell 2 rfl
  have k0 := HX9.out.cell 0 (v := .int .i64 d) rfl
  have k1 := HX9.out.cell 1 (v := .slice av ms.length cv) rfl
  have k2 := HX9.out.cell 2 (v := .int .i64 s) rfl
  have hneX : w.heap.size ≠ w2.heap.size := by omega
  go_region
  have sF := ((HR9.out.set 0 (.int .i64 d)).set 1 (.slice av ms.length cv)).set 2 (.int .i64 s)
  have e0 := sF.cell 0 (v := .int .i64 d) rfl
  have e1 := sF.cell 1 (v := .slice av ms.length cv) rfl
  have e2 := sF.cell 2 (v := .int .i64 s) rfl
  clear sF
  go_wp2
  refine bodyPost_ret (v := .tuple #[.slice ac c.length cc, .slice ak keys.length ck, .agg #[.int .i64 d, .slice av ms.length cv, .int .i64 s]]) (by simp [results, Try.f25, go_sem, e0, e1, e2]) rfl ?_
  exact ⟨_, c, _, keys, _, _, ms, _, rfl, ((Hc9.out.set_other n1 0 _).set_other n1 1 _).set_other n1 2 _, by first | omega | (simp; omega), ((Hk9.out.set_other n2 0 _).set_other n2 1 _).set_other n2 2 _, by first | exact Hlk.out | (rw [List.length_set]; exact Hlk.out), ((Ho9.out.set_other n3 0 _).set_other n3 1 _).set_other n3 2 _, by omega, ((Hb9.out.setCell (p := ⟨w.heap.size, 0, none⟩) (Nat.le_refl _) _).setCell (p := ⟨w.heap.size, 1, none⟩) (Nat.le_refl _) _).setCell (p := ⟨w.heap.size, 2, none⟩) (Nat.le_refl _) _ |>.drew⟩

end Go.Proofs.Yteglefchkecfjaa
