/- What spec's CertMake answers, by a walk of its text: the certificate is that of plain functions on lists of numbers; conditions: a list that is read has fewer than 2^40 elements. -/
import Derived.Test.YtilkiiflcdmnpabCeC
namespace Go.Proofs.Ytilkiiflcdmnpab
open Go.RowKit

theorem TIc : IntT Try.prog 23 3 := ⟨Try.underlying23, by kernel_rfl⟩

set_option maxHeartbeats 1000000 in
theorem spec_CertMake (ac : Option Addr) (capc : Nat) (c : List Int) (ak : Option Addr) (capk : Nat) (keys : List Int) (d : Int) (ag : Option Addr) (caps : Nat) (sigs : List Int) (w : World) (hn : c.length ≤ 1099511627776) (hnk : keys.length ≤ 1099511627776) (hns : sigs.length ≤ 1099511627776) (hc : IntsAt w ac c) (hk : IntsAt w ak keys) (hs : IntsAt w ag sigs) :
    Calls Try.prog 12 #[.slice ac c.length capc, .slice ak keys.length capk, .int .i64 d, .slice ag sigs.length caps] w fun e w' => ∃ v, e = .returned (.tuple #[.agg #[.int .i64 (cmD c keys d sigs), v, .int .i64 (cmS c keys d sigs)], .bool (cmB c keys d sigs)]) ∧ Own 3 w' w.heap.size v (cmL c keys d sigs) ∧ Below w.heap.size w w' := by
  have h1 := fun W (h : IntsAt W ac c) (h' : IntsAt W ak keys) => spec_l4Keys ac capc c ak capk keys W hn hnk h h'
  have h2 := fun W => spec_l2Digest d W
  have hb0 : Below w.heap.size w (((w.alloc (.cells #[.int .i64 0, .slice none 0 0, .int .i64 0] 27)).alloc (.cells #[] 3)).alloc (.cells #[.int .i64 d, .slice (some ⟨w.heap.size + 1, 0, none⟩) 0 0, .int .i64 0] 27)) :=
    (((Below.refl _ _).alloc (Nat.le_refl _) _).alloc (by simp) _).alloc (by simp; omega) _
  have sR : Str (((w.alloc (.cells #[.int .i64 0, .slice none 0 0, .int .i64 0] 27)).alloc (.cells #[] 3)).alloc (.cells #[.int .i64 d, .slice (some ⟨w.heap.size + 1, 0, none⟩) 0 0, .int .i64 0] 27)) w.heap.size 27 #[.int .i64 0, .slice none 0 0, .int .i64 0] := ((Str.new w _ _).alloc _).alloc _
  have sX : Str (((w.alloc (.cells #[.int .i64 0, .slice none 0 0, .int .i64 0] 27)).alloc (.cells #[] 3)).alloc (.cells #[.int .i64 d, .slice (some ⟨w.heap.size + 1, 0, none⟩) 0 0, .int .i64 0] 27)) (w.heap.size + 1 + 1) 27 #[.int .i64 d, .slice (some ⟨w.heap.size + 1, 0, none⟩) 0 0, .int .i64 0] := by
    rw [← (by simp : ((w.alloc (.cells #[.int .i64 0, .slice none 0 0, .int .i64 0] 27)).alloc (.cells #[] 3)).heap.size = w.heap.size + 1 + 1)]
    exact Str.new _ _ _
  have ho : Own 3 (((w.alloc (.cells #[.int .i64 0, .slice none 0 0, .int .i64 0] 27)).alloc (.cells #[] 3)).alloc (.cells #[.int .i64 d, .slice (some ⟨w.heap.size + 1, 0, none⟩) 0 0, .int .i64 0] 27)) w.heap.size (.slice (some ⟨w.heap.size + 1, 0, none⟩) 0 0) [] := by
    have h := own_empty (B := w.heap.size) 3 (w.alloc (.cells #[.int .i64 0, .slice none 0 0, .int .i64 0] 27)) (by simp)
    rw [show (w.alloc (.cells #[.int .i64 0, .slice none 0 0, .int .i64 0] 27)).heap.size = w.heap.size + 1 by simp] at h
    exact h.alloc _
  have hlt0 := sR.lt
  have Hc := Lib.hid hc; clear hc
  have Hk := Lib.hid hk; clear hk
  have Hs := Lib.hid hs; clear hs
  have HR := Lib.hid sR; clear sR
  have HX := Lib.hid sX; clear sX
  have Ho := Lib.hid ho; clear ho
  have Hb0 := Lib.hid hb0; clear hb0
  have hno : ∀ {W : World} {v : Value}, cmB c keys d sigs = false → Str W w.heap.size 27 #[.int .i64 0, .slice none 0 0, .int .i64 0] → True := fun _ _ => trivial
  clear hno
  cases e0 : lkB c keys with
  | false =>
    rw [e0] at h1
    have H1 := Lib.hid h1; clear h1 h2
    have Hf := Lib.hid (show cmB c keys d sigs = false by unfold cmB; rw [e0]; rfl); clear e0
    go_enter Try.func12, Try.ntmps12
    go_wp2_with fail
    generalize (((w.alloc (.cells #[.int .i64 0, .slice none 0 0, .int .i64 0] 27)).alloc (.cells #[] 3)).alloc (.cells #[.int .i64 d, .slice (some ⟨w.heap.size + 1, 0, none⟩) 0 0, .int .i64 0] 27)) = W1 at *
    refine (H1.out _ (Hc.out.below Hb0.out) (Hk.out.below Hb0.out)).mono ?_
    rintro e w1 ⟨rfl, rfl⟩
    have f0 := HR.out.frozen 0
    have f1 := HR.out.frozen 1
    have f2 := HR.out.frozen 2
    have k0 := HR.out.cell 0 rfl
    have k1 := HR.out.cell 1 rfl
    have k2 := HR.out.cell 2 rfl
    have sF := ((HR.out.set 0 (.int .i64 0)).set 1 (.slice none 0 0)).set 2 (.int .i64 0)
    have e0 := sF.cell 0 (v := .int .i64 0) rfl
    have e1 := sF.cell 1 (v := .slice none 0 0) rfl
    have e2 := sF.cell 2 (v := .int .i64 0) rfl
    clear sF
    go_wp2
    refine bodyPost_ret (v := .tuple #[.agg #[.int .i64 0, .slice none 0 0, .int .i64 0], .bool false]) (by simp [results, Try.f12, go_sem, e0, e1, e2]) rfl ?_
    rw [(cm_no Hf.out).1, (cm_no Hf.out).2.1, (cm_no Hf.out).2.2, Hf.out]
    exact ⟨_, rfl, Own.nil _ _ _, ((Hb0.out.setCell (p := ⟨w.heap.size, 0, none⟩) (Nat.le_refl _) _).setCell (p := ⟨w.heap.size, 1, none⟩) (Nat.le_refl _) _).setCell (p := ⟨w.heap.size, 2, none⟩) (Nat.le_refl _) _⟩
  | true =>
  rw [e0] at h1
  have H1 := Lib.hid h1; clear h1
  cases e1 : digB d with
  | false =>
    rw [e1] at h2
    have H2 := Lib.hid h2; clear h2
    have Hf := Lib.hid (show cmB c keys d sigs = false by unfold cmB; rw [e1]; simp); clear e0 e1
    go_enter Try.func12, Try.ntmps12
    go_wp2_with fail
    generalize (((w.alloc (.cells #[.int .i64 0, .slice none 0 0, .int .i64 0] 27)).alloc (.cells #[] 3)).alloc (.cells #[.int .i64 d, .slice (some ⟨w.heap.size + 1, 0, none⟩) 0 0, .int .i64 0] 27)) = W1 at *
    refine (H1.out _ (Hc.out.below Hb0.out) (Hk.out.below Hb0.out)).mono ?_
    rintro e w1 ⟨rfl, rfl⟩
    go_wp2_with fail
    refine (H2.out _).mono ?_
    rintro e w1 ⟨rfl, rfl⟩
    have f0 := HR.out.frozen 0
    have f1 := HR.out.frozen 1
    have f2 := HR.out.frozen 2
    have k0 := HR.out.cell 0 rfl
    have k1 := HR.out.cell 1 rfl
    have k2 := HR.out.cell 2 rfl
    have sF := ((HR.out.set 0 (.int .i64 0)).set 1 (.slice none 0 0)).set 2 (.int .i64 0)
    have e0 := sF.cell 0 (v := .int .i64 0) rfl
    have e1 := sF.cell 1 (v := .slice none 0 0) rfl
    have e2 := sF.cell 2 (v := .int .i64 0) rfl
    clear sF
    go_wp2
    refine bodyPost_ret (v := .tuple #[.agg #[.int .i64 0, .slice none 0 0, .int .i64 0], .bool false]) (by simp [results, Try.f12, go_sem, e0, e1, e2]) rfl ?_
    rw [(cm_no Hf.out).1, (cm_no Hf.out).2.1, (cm_no Hf.out).2.2, Hf.out]
    exact ⟨_, rfl, Own.nil _ _ _, ((Hb0.out.setCell (p := ⟨w.heap.size, 0, none⟩) (Nat.le_refl _) _).setCell (p := ⟨w.heap.size, 1, none⟩) (Nat.le_refl _) _).setCell (p := ⟨w.heap.size, 2, none⟩) (Nat.le_refl _) _⟩
  | true =>
  rw [e1] at h2
  have H2 := Lib.hid h2; clear h2
  by_cases hl : sigs.length = c.length
  case neg =>
    have Hf := Lib.hid (show cmB c keys d sigs = false by unfold cmB; rw [decide_eq_false hl]; simp); clear e0 e1
    have hne : ((sigs.length : Int) != (c.length : Int)) = true := by rw [bne_iff_ne]; omega
    go_enter Try.func12, Try.ntmps12
    go_wp2_with fail
    generalize (((w.alloc (.cells #[.int .i64 0, .slice none 0 0, .int .i64 0] 27)).alloc (.cells #[] 3)).alloc (.cells #[.int .i64 d, .slice (some ⟨w.heap.size + 1, 0, none⟩) 0 0, .int .i64 0] 27)) = W1 at *
    refine (H1.out _ (Hc.out.below Hb0.out) (Hk.out.below Hb0.out)).mono ?_
    rintro e w1 ⟨rfl, rfl⟩
    go_wp2_with fail
    refine (H2.out _).mono ?_
    rintro e w1 ⟨rfl, rfl⟩
    have f0 := HR.out.frozen 0
    have f1 := HR.out.frozen 1
    have f2 := HR.out.frozen 2
    have k0 := HR.out.cell 0 rfl
    have k1 := HR.out.cell 1 rfl
    have k2 := HR.out.cell 2 rfl
    have sF := ((HR.out.set 0 (.int .i64 0)).set 1 (.slice none 0 0)).set 2 (.int .i64 0)
    have e0 := sF.cell 0 (v := .int .i64 0) rfl
    have e1 := sF.cell 1 (v := .slice none 0 0) rfl
    have e2 := sF.cell 2 (v := .int .i64 0) rfl
    clear sF
    go_wp2
    refine bodyPost_ret (v := .tuple #[.agg #[.int .i64 0, .slice none 0 0, .int .i64 0], .bool false]) (by simp [results, Try.f12, go_sem, e0, e1, e2]) rfl ?_
    rw [(cm_no Hf.out).1, (cm_no Hf.out).2.1, (cm_no Hf.out).2.2, Hf.out]
    exact ⟨_, rfl, Own.nil _ _ _, ((Hb0.out.setCell (p := ⟨w.heap.size, 0, none⟩) (Nat.le_refl _) _).setCell (p := ⟨w.heap.size, 1, none⟩) (Nat.le_refl _) _).setCell (p := ⟨w.heap.size, 2, none⟩) (Nat.le_refl _) _⟩
  have hne : ((sigs.length : Int) != (c.length : Int)) = false := by rw [bne_eq_false_iff_eq]; omega
  have hcm : cmB c keys d sigs = (allB (okSig keys sigs d) sigs.length && qB c (rangeF (sgnF sigs) sigs.length)) := by
    unfold cmB; rw [e0, e1, decide_eq_true hl]; rfl
  have Hcm := Lib.hid hcm; clear hcm
  have Hv := Lib.hid (lkB_iff e0).1
  have Hkl := Lib.hid (lkB_iff e0).2.1
  have Hl := Lib.hid hl; clear hl e0 e1
  have hcl := validB_len Hv.out
  go_enter Try.func12, Try.ntmps12
  go_wp2_with fail
  generalize (((w.alloc (.cells #[.int .i64 0, .slice none 0 0, .int .i64 0] 27)).alloc (.cells #[] 3)).alloc (.cells #[.int .i64 d, .slice (some ⟨w.heap.size + 1, 0, none⟩) 0 0, .int .i64 0] 27)) = W1 at *
  refine (H1.out _ (Hc.out.below Hb0.out) (Hk.out.below Hb0.out)).mono ?_
  rintro e w1 ⟨rfl, rfl⟩
  go_wp2_with fail
  refine (H2.out _).mono ?_
  rintro e w1 ⟨rfl, rfl⟩
  go_wp2_with fail
  clear hne
  go_loopw [11] (fun vi wr => ∃ (k : Nat) (v : Value), k ≤ c.length ∧ vi = .int .i64 k ∧ Upto (okSig keys sigs d) k ∧ Str wr w.heap.size 27 #[.int .i64 0, .slice none 0 0, .int .i64 0] ∧ Str wr (w.heap.size + 1 + 1) 27 #[.int .i64 d, v, .int .i64 (sgS sigs k)] ∧ Own 3 wr w.heap.size v (rangeF (sgnF sigs) k) ∧ (v.ownBlock ≠ some w.heap.size ∧ v.ownBlock ≠ some (w.heap.size + 1 + 1)) ∧ Below w.heap.size w wr) (fun vi _ => c.length - (intOf vi).toNat)
  case atStart => exact ⟨0, _, by omega, rfl, upto_zero _, HR.out, HX.out, Ho.out, ⟨by simp [Value.ownBlock], by simp [Value.ownBlock]⟩, Hb0.out⟩
  case round =>
    clear hlt0 HR HX Ho Hb0
    obtain ⟨k, v, hkk, rfl, hup, sR, sX, ho, hvb, hbel⟩ := hrel
    have HR := Lib.hid sR; clear sR
    have HX := Lib.hid sX; clear sX
    have Ho := Lib.hid ho; clear ho
    have Hvb := Lib.hid hvb; clear hvb
    have hsb := sgS_bd sigs k
    have hXl := HX.out.lt
    have hRl := HR.out.lt
    have hrl := rangeF_len (sgnF sigs) k
    by_cases hlt : k < c.length
    · have hlt2 : k < sigs.length := by rw [Hl.out]; exact hlt
      have hlt3 : k < keys.length := by rw [Hkl.out]; exact hlt
      obtain ⟨b, off, hag, hb, hcs⟩ := Hs.out.cell (by omega)
      have Hcs := Lib.hid (fun W (h : Below w.heap.size w W) => (h.cell (p := ⟨b, off + k, none⟩) hb).trans (hcs k hlt2))
      have hcell := Hcs.out _ hbel
      obtain ⟨b', off', hak, hb', hck⟩ := Hk.out.cell (by omega)
      have hcell2 := (hbel.cell (p := ⟨b', off' + k, none⟩) hb').trans (hck k hlt3)
      clear hcs hck
      have Hb := Lib.hid hbel; clear hbel
      by_cases h0 : sigs[k] = 0
      · have hz := okSig_zero (keys := keys) (d := d) (i := k) (sigs := sigs) (by rw [getD_get hlt2]; exact h0)
        have Hz := Lib.hid (And.intro (upto_step hup hz.1) (And.intro (rangeF_no (n := k) hz.2) (sgS_no hz.2)))
        clear hup hz hcell2
        rw [h0] at hcell
        subst hag
        clear h0
        go_wp2
        go_roundw
        case rel => exact ⟨k + 1, v, by omega, by go_num, Hz.out.1, HR.out, by rw [Hz.out.2.2]; exact HX.out, by rw [Hz.out.2.1]; exact Ho.out, Hvb.out, Hb.out⟩
        case measure => simp [intOf]; omega
      · obtain ⟨z1, z2⟩ := okSig_sc (keys := keys) (d := d) (i := k) (sigs := sigs) (by rw [getD_get hlt2]; exact h0)
        rw [getD_get hlt2, getD_get hlt3] at z1
        have hsc := fun W => spec_SignCheck keys[k] d sigs[k] W
        have hz0 : (sigs[k] == 0) = false := by rw [beq_eq_false_iff_ne]; exact h0
        cases e2 : scB keys[k] d sigs[k] with
        | false =>
          rw [e2] at hsc z1
          have Hsc := Lib.hid hsc; clear hsc
          have Hf := Lib.hid (cmB_bad (c := c) hlt2 z1)
          clear hup z1 z2 e2 h0
          subst hag hak
          generalize sigs[k] = x at *
          generalize keys[k] = y at *
          go_wp2_with fail
          go_quiet ((go_at_call 41; exact Calls.quiet_of_same (turned (Hsc.out _))))
          have HR2 := Lib.hid (show Str (wr.drewN nq) w.heap.size 27 #[.int .i64 0, .slice none 0 0, .int .i64 0] from HR.out)
          have Hb2 := Lib.hid (Hb.out.trans (Drawn.below ⟨nq, rfl⟩ _))
          generalize wr.drewN nq = wz at *
          have f0 := HR2.out.frozen 0
          have f1 := HR2.out.frozen 1
          have f2 := HR2.out.frozen 2
          have k0 := HR2.out.cell 0 rfl
          have k1 := HR2.out.cell 1 rfl
          have k2 := HR2.out.cell 2 rfl
          have sF := ((HR2.out.set 0 (.int .i64 0)).set 1 (.slice none 0 0)).set 2 (.int .i64 0)
          have e0 := sF.cell 0 (v := .int .i64 0) rfl
          have e1 := sF.cell 1 (v := .slice none 0 0) rfl
          have e2 := sF.cell 2 (v := .int .i64 0) rfl
          clear sF
          go_wp2
          refine bodyPost_ret (v := .tuple #[.agg #[.int .i64 0, .slice none 0 0, .int .i64 0], .bool false]) (by simp [results, Try.f12, go_sem, e0, e1, e2]) rfl ?_
          rw [(cm_no Hf.out).1, (cm_no Hf.out).2.1, (cm_no Hf.out).2.2, Hf.out]
          exact ⟨_, rfl, Own.nil _ _ _, ((Hb2.out.setCell (p := ⟨w.heap.size, 0, none⟩) (Nat.le_refl _) _).setCell (p := ⟨w.heap.size, 1, none⟩) (Nat.le_refl _) _).setCell (p := ⟨w.heap.size, 2, none⟩) (Nat.le_refl _) _⟩
        | true =>
          rw [e2] at hsc z1
          have Hsc := Lib.hid hsc; clear hsc
          have Hz := Lib.hid (And.intro (upto_step hup z1) (And.intro (rangeF_yes (n := k) z2) (sgS_yes z2)))
          have hxb := signB_bd (sc_args e2).2.2
          rw [getD_get hlt2] at Hz
          clear hup z1 z2 e2 h0
          subst hag hak
          generalize sigs[k] = x at *
          generalize keys[k] = y at *
          go_wp2_with fail
          go_quiet ((go_at_call 41; exact Calls.quiet_of_same (turned (Hsc.out _))))
          have HR2 := Lib.hid (show Str (wr.drewN nq) w.heap.size 27 #[.int .i64 0, .slice none 0 0, .int .i64 0] from HR.out)
          have sX2 := show Str (wr.drewN nq) (w.heap.size + 1 + 1) 27 #[.int .i64 d, v, .int .i64 (sgS sigs k)] from HX.out
          have Ho2 := Lib.hid (Ho.out.drewN nq)
          have Hb2 := Lib.hid (Hb.out.trans (Drawn.below ⟨nq, rfl⟩ _))
          have hBs : w.heap.size ≤ (wr.drewN nq).heap.size := Nat.le_of_lt hRl
          clear HR HX Ho Hb hcell hcell2
          generalize wr.drewN nq = wz at *
          have k1 := sX2.cell 1 (v := v) rfl
          have HX2 := Lib.hid sX2; clear sX2
          have hXl2 := HX2.out.lt
          go_wp2_with (at_builtin; refine wpList_push_at TIc rfl (.tmp 56) (.tmp 58) rfl w.heap.size v (rangeF (sgnF sigs) k) _ rfl Ho2.out (by omega) rfl hBs ?_; intro v2 w5 hown2 hg2 hat2; obtain ⟨g2, c2, rfl⟩ := own_succ hown2; have hs5 := hg2.size; have HX5 := Lib.hid (HX2.out.kept hg2 (fun e => Hvb.out.2 e.symm)); have HR5 := Lib.hid (HR2.out.kept hg2 (fun e => Hvb.out.1 e.symm)); have Hb5 := Lib.hid (Hb2.out.grown hg2 hBs (fun g e => (Ho2.out.lt g e).1)); have f1 := HX5.out.frozen 1; have k1 := HX5.out.cell 1 (v := v) rfl; have Hown2 := Lib.hid hown2; have Hat2 := Lib.hid hat2; clear hown2 hat2 hg2)
          have sX6 := HX5.out.set 1 (.slice (some ⟨g2, 0, none⟩) ((rangeF (sgnF sigs) k).length + 1) c2)
          have hb6 : Below w.heap.size w (w5.setCell ⟨w.heap.size + 1 + 1, 1, none⟩ (.slice (some ⟨g2, 0, none⟩) ((rangeF (sgnF sigs) k).length + 1) c2)) := Hb5.out.setCell (p := ⟨w.heap.size + 1 + 1, 1, none⟩) (by simp; omega) _
          have sR6 := HR5.out.other (by omega : w.heap.size ≠ w.heap.size + 1 + 1) 1 (.slice (some ⟨g2, 0, none⟩) ((rangeF (sgnF sigs) k).length + 1) c2)
          have hne2 : (Value.slice (some ⟨g2, 0, none⟩) ((rangeF (sgnF sigs) k).length + 1) c2).ownBlock ≠ some (w.heap.size + 1 + 1) ∧ (Value.slice (some ⟨g2, 0, none⟩) ((rangeF (sgnF sigs) k).length + 1) c2).ownBlock ≠ some w.heap.size := by
            rcases Hat2.out with e | ⟨g', e, hg'⟩
            · rw [e]; exact ⟨Hvb.out.2, Hvb.out.1⟩
            · rw [e]; exact ⟨fun h => by cases h; omega, fun h => by cases h; omega⟩
          have ho6 := Hown2.out.set_other hne2.1 1 (.slice (some ⟨g2, 0, none⟩) ((rangeF (sgnF sigs) k).length + 1) c2)
          have Hne2 := Lib.hid hne2; clear hne2
          clear HX5 HR5 Hb5 Hown2 Hat2 HR2 Ho2 Hb2 HX2 f1
          have hls : (rangeF (sgnF sigs) k ++ [(k : Int)]).length = (rangeF (sgnF sigs) k).length + 1 := by simp
          generalize w5.setCell ⟨w.heap.size + 1 + 1, 1, none⟩ (.slice (some ⟨g2, 0, none⟩) ((rangeF (sgnF sigs) k).length + 1) c2) = w6 at *
          have hcell := Hcs.out _ hb6
          have k2 := sX6.cell 2 (v := .int .i64 (sgS sigs k)) rfl
          have f2 := sX6.frozen 2
          have HX6 := Lib.hid sX6; clear sX6
          have HR6 := Lib.hid sR6; clear sR6
          have Ho6 := Lib.hid ho6; clear ho6
          have Hb6 := Lib.hid hb6; clear hb6
          generalize hsk : sgS sigs k = sk at *
          have Hsk := Lib.hid hsk; clear hsk
          go_region
          go_wp2
          go_roundw
          case rel =>
            refine ⟨k + 1, _, by omega, by go_num, Hz.out.1, HR6.out.other (by omega : w.heap.size ≠ w.heap.size + 1 + 1) 2 _, ?_, ?_, ⟨Hne2.out.2, Hne2.out.1⟩, (Hb6.out.setCell (p := ⟨w.heap.size + 1 + 1, 2, none⟩) (by simp; omega) _).drew⟩
            · rw [Hz.out.2.2]; exact HX6.out.set 2 _
            · rw [Hz.out.2.1]; exact Ho6.out.set_other Hne2.out.1 2 _
          case measure => simp [intOf]; omega
    · have hkc : k = c.length := by omega
      have hks : k = sigs.length := by rw [Hl.out]; exact hkc
      have hall := allB_yes hup (show sigs.length ≤ k by omega)
      have hcm := Hcm.out
      rw [hall, Bool.true_and, ← hks] at hcm
      have hmem : membersB c.length (rangeF (sgnF sigs) k) = true := by rw [← hkc]; exact of_ascP (ascP_rangeF _ _)
      have hwb := weightTo_bd Hv.out hmem _ (Nat.le_refl _)
      rw [show weightTo c (rangeF (sgnF sigs) k) (rangeF (sgnF sigs) k).length = weightZ c (rangeF (sgnF sigs) k) from rfl] at hwb
      have htb := totalZ_bd Hv.out
      obtain ⟨am, capm, rfl, him, _⟩ := Ho.out.ints
      have Hc2 := Lib.hid (Hc.out.below hbel)
      have hw := fun W (h : IntsAt W ac c) (h' : IntsAt W am (rangeF (sgnF sigs) k)) => spec_l1Weight ac capc c am capm _ W Hv.out hmem (by omega) h h'
      have hq := fun W (h : IntsAt W ac c) => spec_l1Quorum ac capc c W Hv.out h
      have Hw := Lib.hid hw; clear hw
      have Hq := Lib.hid hq; clear hq
      have Hi := Lib.hid him; clear him
      have Hb := Lib.hid hbel; clear hbel
      have k0 := HX.out.cell 0 rfl
      have k1 := HX.out.cell 1 rfl
      have k2 := HX.out.cell 2 rfl
      clear hup hall hmem H1 H2 Hcm
      cases hqb : qB c (rangeF (sgnF sigs) k) with
      | false =>
        rw [hqb] at hcm
        have Hf := Lib.hid hcm; clear hcm
        have hqd := hqb; unfold qB at hqd; rw [decide_eq_false_iff_not] at hqd
        have Hks := Lib.hid hks; clear hks hkc
        clear hqb
        go_wp2_with fail
        refine (Hw.out _ Hc2.out Hi.out).mono ?_
        rintro e w3 ⟨rfl, rfl⟩
        go_wp2_with fail
        refine (Hq.out _ Hc2.out).mono ?_
        rintro e w3 ⟨rfl, rfl⟩
        clear k0 k1 k2
        have f0 := HR.out.frozen 0
        have f1 := HR.out.frozen 1
        have f2 := HR.out.frozen 2
        have k0 := HR.out.cell 0 rfl
        have k1 := HR.out.cell 1 rfl
        have k2 := HR.out.cell 2 rfl
        have sF := ((HR.out.set 0 (.int .i64 0)).set 1 (.slice none 0 0)).set 2 (.int .i64 0)
        have e0 := sF.cell 0 (v := .int .i64 0) rfl
        have e1 := sF.cell 1 (v := .slice none 0 0) rfl
        have e2 := sF.cell 2 (v := .int .i64 0) rfl
        clear sF
        go_wp2
        refine bodyPost_ret (v := .tuple #[.agg #[.int .i64 0, .slice none 0 0, .int .i64 0], .bool false]) (by simp [results, Try.f12, go_sem, e0, e1, e2]) rfl ?_
        rw [(cm_no Hf.out).1, (cm_no Hf.out).2.1, (cm_no Hf.out).2.2, Hf.out]
        exact ⟨_, rfl, Own.nil _ _ _, ((Hb.out.setCell (p := ⟨w.heap.size, 0, none⟩) (Nat.le_refl _) _).setCell (p := ⟨w.heap.size, 1, none⟩) (Nat.le_refl _) _).setCell (p := ⟨w.heap.size, 2, none⟩) (Nat.le_refl _) _⟩
      | true =>
        rw [hqb] at hcm
        have Hf := Lib.hid hcm; clear hcm
        have hqd := hqb; unfold qB at hqd; rw [decide_eq_true_eq] at hqd
        have Hks := Lib.hid hks; clear hks hkc
        clear hqb
        go_wp2_with fail
        refine (Hw.out _ Hc2.out Hi.out).mono ?_
        rintro e w3 ⟨rfl, rfl⟩
        go_wp2_with fail
        refine (Hq.out _ Hc2.out).mono ?_
        rintro e w3 ⟨rfl, rfl⟩
        have f0 := HR.out.frozen 0
        have f1 := HR.out.frozen 1
        have f2 := HR.out.frozen 2
        have j0 := HR.out.cell 0 rfl
        have j1 := HR.out.cell 1 rfl
        have j2 := HR.out.cell 2 rfl
        have sF := ((HR.out.set 0 (.int .i64 d)).set 1 (.slice am (rangeF (sgnF sigs) k).length capm)).set 2 (.int .i64 (sgS sigs k))
        have e0 := sF.cell 0 (v := .int .i64 d) rfl
        have e1 := sF.cell 1 (v := .slice am (rangeF (sgnF sigs) k).length capm) rfl
        have e2 := sF.cell 2 (v := .int .i64 (sgS sigs k)) rfl
        clear sF
        go_wp2
        refine bodyPost_ret (v := .tuple #[.agg #[.int .i64 d, .slice am (rangeF (sgnF sigs) k).length capm, .int .i64 (sgS sigs k)], .bool true]) (by simp [results, Try.f12, go_sem, e0, e1, e2]) rfl ?_
        rw [(cm_yes Hf.out).1, (cm_yes Hf.out).2.1, (cm_yes Hf.out).2.2, Hf.out, ← Hks.out]
        exact ⟨_, rfl, ((Ho.out.set_other Hvb.out.1 0 _).set_other Hvb.out.1 1 _).set_other Hvb.out.1 2 _, ((Hb.out.setCell (p := ⟨w.heap.size, 0, none⟩) (Nat.le_refl _) _).setCell (p := ⟨w.heap.size, 1, none⟩) (Nat.le_refl _) _).setCell (p := ⟨w.heap.size, 2, none⟩) (Nat.le_refl _) _⟩

end Go.Proofs.Ytilkiiflcdmnpab
