/- What impl's CertMake answers, by a walk of its text: the certificate is that of plain functions on lists of numbers; conditions: a list that is read has fewer than 2^40 elements. -/
import Derived.Test.YtilkiiflcdmnpabCeI
namespace Go.Proofs.Ytilkiiflcdmnpab
open Go.RowKit

theorem TIu : IntT Try.prog 23 3 := ⟨Try.underlying23, by kernel_rfl⟩

set_option maxHeartbeats 1000000 in
theorem impl_CertMake (ac : Option Addr) (capc : Nat) (c : List Int) (ak : Option Addr) (capk : Nat) (keys : List Int) (d : Int) (ag : Option Addr) (caps : Nat) (sigs : List Int) (w : World) (hn : c.length ≤ 1099511627776) (hnk : keys.length ≤ 1099511627776) (hns : sigs.length ≤ 1099511627776) (hc : IntsAt w ac c) (hk : IntsAt w ak keys) (hs : IntsAt w ag sigs) :
    Calls Try.prog 11 #[.slice ac c.length capc, .slice ak keys.length capk, .int .i64 d, .slice ag sigs.length caps] w fun e w' => ∃ v, e = .returned (.tuple #[.agg #[.int .i64 (cmD c keys d sigs), v, .int .i64 (cmS c keys d sigs)], .bool (cmB c keys d sigs)]) ∧ Own 3 w' w.heap.size v (cmL c keys d sigs) ∧ Below w.heap.size w w' := by
  have Hc := Lib.hid hc; clear hc
  have Hk := Lib.hid hk; clear hk
  have Hs := Lib.hid hs; clear hs
  by_cases hl : keys.length = sigs.length
  case neg =>
    have hb0 : Below w.heap.size w (w.alloc (.cells #[.int .i64 0, .slice none 0 0, .int .i64 0] 27)) := (Below.refl _ _).alloc (Nat.le_refl _) _
    have sR := Str.new w 27 #[.int .i64 0, .slice none 0 0, .int .i64 0]
    have HR := Lib.hid sR; clear sR
    have Hb0 := Lib.hid hb0; clear hb0
    have Hf := Lib.hid (cmB_lens (c := c) (d := d) hl)
    have hne : ((keys.length : Int) != (sigs.length : Int)) = true := by rw [bne_iff_ne]; omega
    go_enter Try.func11, Try.ntmps11
    have k0 := HR.out.cell 0 (v := .int .i64 0) rfl
    have k1 := HR.out.cell 1 (v := .slice none 0 0) rfl
    have k2 := HR.out.cell 2 (v := .int .i64 0) rfl
    go_wp2
    refine bodyPost_ret (v := .tuple #[.agg #[.int .i64 0, .slice none 0 0, .int .i64 0], .bool false]) (by simp [results, Try.f11, go_sem, k0, k1, k2]) rfl ?_
    rw [(cm_no Hf.out).1, (cm_no Hf.out).2.1, (cm_no Hf.out).2.2, Hf.out]
    exact ⟨_, rfl, Own.nil _ _ _, Hb0.out⟩
  have hne : ((keys.length : Int) != (sigs.length : Int)) = false := by rw [bne_eq_false_iff_eq]; omega
  have hb0 : Below w.heap.size w ((w.alloc (.cells #[.int .i64 0, .slice none 0 0, .int .i64 0] 27)).alloc (.cells #[.int .i64 d, .slice none 0 0, .int .i64 0] 27)) := ((Below.refl _ _).alloc (Nat.le_refl _) _).alloc (by simp) _
  have sR : Str ((w.alloc (.cells #[.int .i64 0, .slice none 0 0, .int .i64 0] 27)).alloc (.cells #[.int .i64 d, .slice none 0 0, .int .i64 0] 27)) w.heap.size 27 #[.int .i64 0, .slice none 0 0, .int .i64 0] := (Str.new w _ _).alloc _
  have sX : Str ((w.alloc (.cells #[.int .i64 0, .slice none 0 0, .int .i64 0] 27)).alloc (.cells #[.int .i64 d, .slice none 0 0, .int .i64 0] 27)) (w.heap.size + 1) 27 #[.int .i64 d, .slice none 0 0, .int .i64 0] := by
    rw [← (by simp : (w.alloc (.cells #[.int .i64 0, .slice none 0 0, .int .i64 0] 27)).heap.size = w.heap.size + 1)]
    exact Str.new _ _ _
  have HR := Lib.hid sR; clear sR
  have HX := Lib.hid sX; clear sX
  have Hb0 := Lib.hid hb0; clear hb0
  have Hl := Lib.hid hl; clear hl
  go_enter Try.func11, Try.ntmps11
  go_wp2_with fail
  generalize ((w.alloc (.cells #[.int .i64 0, .slice none 0 0, .int .i64 0] 27)).alloc (.cells #[.int .i64 d, .slice none 0 0, .int .i64 0] 27)) = W1 at *
  clear hne
  go_loopw [23] (fun vi wr => ∃ (k : Nat) (v : Value), k ≤ sigs.length ∧ vi = .int .i64 k ∧ Upto (okSig keys sigs d) k ∧ Str wr w.heap.size 27 #[.int .i64 0, .slice none 0 0, .int .i64 0] ∧ Str wr (w.heap.size + 1) 27 #[.int .i64 d, v, .int .i64 (sgS sigs k)] ∧ Own 3 wr w.heap.size v (rangeF (sgnF sigs) k) ∧ (v.ownBlock ≠ some w.heap.size ∧ v.ownBlock ≠ some (w.heap.size + 1)) ∧ Below w.heap.size w wr) (fun vi _ => sigs.length - (intOf vi).toNat)
  case atStart => exact ⟨0, _, by omega, rfl, upto_zero _, HR.out, HX.out, Own.nil _ _ _, ⟨by simp [Value.ownBlock], by simp [Value.ownBlock]⟩, Hb0.out⟩
  case round =>
    clear HR HX Hb0
    obtain ⟨k, v, hkk, rfl, hup, sR, sX, ho, hvb, hbel⟩ := hrel
    have HR := Lib.hid sR; clear sR
    have HX := Lib.hid sX; clear sX
    have Ho := Lib.hid ho; clear ho
    have Hvb := Lib.hid hvb; clear hvb
    have hsb := sgS_bd sigs k
    have hXl := HX.out.lt
    have hRl := HR.out.lt
    have hrl := rangeF_len (sgnF sigs) k
    by_cases hlt2 : k < sigs.length
    · have hlt3 : k < keys.length := by rw [Hl.out]; exact hlt2
      obtain ⟨b, off, hag, hb, hcs⟩ := Hs.out.cell (by omega)
      have hcell := (hbel.cell (p := ⟨b, off + k, none⟩) hb).trans (hcs k hlt2)
      obtain ⟨b', off', hak, hb', hck⟩ := Hk.out.cell (by omega)
      have hcell2 := (hbel.cell (p := ⟨b', off' + k, none⟩) hb').trans (hck k hlt3)
      clear hcs hck
      have Hb := Lib.hid hbel; clear hbel
      by_cases h0 : sigs[k] = 0
      · have hz := okSig_zero (keys := keys) (d := d) (i := k) (sigs := sigs) (by rw [getD_get hlt2]; exact h0)
        have Hz := Lib.hid (And.intro (upto_step hup hz.1) (And.intro (rangeF_no (n := k) hz.2) (sgS_no hz.2)))
        clear hup hz hcell2
        rw [h0] at hcell
        subst hag
        clear h0
        go_wp2
        go_roundw
        case rel => exact ⟨k + 1, v, by omega, by go_num, Hz.out.1, HR.out, by rw [Hz.out.2.2]; exact HX.out, by rw [Hz.out.2.1]; exact Ho.out, Hvb.out, Hb.out⟩
        case measure => simp [intOf]; omega
      · obtain ⟨z1, z2⟩ := okSig_sc (keys := keys) (d := d) (i := k) (sigs := sigs) (by rw [getD_get hlt2]; exact h0)
        rw [getD_get hlt2, getD_get hlt3] at z1
        have hsc := fun W => impl_SignCheck keys[k] d sigs[k] W
        have hz0 : (sigs[k] == 0) = false := by rw [beq_eq_false_iff_ne]; exact h0
        cases e2 : scB keys[k] d sigs[k] with
        | false =>
          rw [e2] at hsc z1
          have Hsc := Lib.hid hsc; clear hsc
          have Hf := Lib.hid (cmB_bad (c := c) hlt2 z1)
          clear hup z1 z2 e2 h0
          subst hag hak
          generalize sigs[k] = x at *
          generalize keys[k] = y at *
          go_wp2_with fail
          refine (Hsc.out _).mono ?_
          rintro e wz ⟨rfl, hbz⟩
          have HR2 := Lib.hid (show Str wz w.heap.size 27 #[.int .i64 0, .slice none 0 0, .int .i64 0] from (hbz.block _ HR.out.lt).trans HR.out)
          have Hb2 := Lib.hid (below_step Hb.out (Nat.le_of_lt hRl) hbz)
          clear hbz
          have f0 := HR2.out.frozen 0
          have f1 := HR2.out.frozen 1
          have f2 := HR2.out.frozen 2
          have k0 := HR2.out.cell 0 rfl
          have k1 := HR2.out.cell 1 rfl
          have k2 := HR2.out.cell 2 rfl
          have sF := ((HR2.out.set 0 (.int .i64 0)).set 1 (.slice none 0 0)).set 2 (.int .i64 0)
          have e0 := sF.cell 0 (v := .int .i64 0) rfl
          have e1 := sF.cell 1 (v := .slice none 0 0) rfl
          have e2 := sF.cell 2 (v := .int .i64 0) rfl
          clear sF
          go_wp2
          refine bodyPost_ret (v := .tuple #[.agg #[.int .i64 0, .slice none 0 0, .int .i64 0], .bool false]) (by simp [results, Try.f11, go_sem, e0, e1, e2]) rfl ?_
          rw [(cm_no Hf.out).1, (cm_no Hf.out).2.1, (cm_no Hf.out).2.2, Hf.out]
          exact ⟨_, rfl, Own.nil _ _ _, ((Hb2.out.setCell (p := ⟨w.heap.size, 0, none⟩) (Nat.le_refl _) _).setCell (p := ⟨w.heap.size, 1, none⟩) (Nat.le_refl _) _).setCell (p := ⟨w.heap.size, 2, none⟩) (Nat.le_refl _) _⟩
        | true =>
          rw [e2] at hsc z1
          have Hsc := Lib.hid hsc; clear hsc
          have Hz := Lib.hid (And.intro (upto_step hup z1) (And.intro (rangeF_yes (n := k) z2) (sgS_yes z2)))
          have hxb := signB_bd (sc_args e2).2.2
          rw [getD_get hlt2] at Hz
          clear hup z1 z2 e2 h0
          subst hag hak
          generalize sigs[k] = x at *
          generalize keys[k] = y at *
          go_wp2_with fail
          refine (Hsc.out _).mono ?_
          rintro e wz ⟨rfl, hbz⟩
          have HR2 := Lib.hid (show Str wz w.heap.size 27 #[.int .i64 0, .slice none 0 0, .int .i64 0] from (hbz.block _ HR.out.lt).trans HR.out)
          have sX2 := show Str wz (w.heap.size + 1) 27 #[.int .i64 d, v, .int .i64 (sgS sigs k)] from (hbz.block _ HX.out.lt).trans HX.out
          have Ho2 := Lib.hid (Ho.out.below hbz)
          have Hb2 := Lib.hid (below_step Hb.out (Nat.le_of_lt hRl) hbz)
          have hBs : w.heap.size ≤ wz.heap.size := Nat.le_trans (Nat.le_of_lt hRl) hbz.size
          clear HR HX Ho Hb hcell hcell2 hbz
          have k1 := sX2.cell 1 (v := v) rfl
          have HX2 := Lib.hid sX2; clear sX2
          have hXl2 := HX2.out.lt
          generalize hsk : sgS sigs k = sk at *
          have Hsk := Lib.hid hsk; clear hsk
          go_wp2_with (at_builtin; refine wpList_push_at TIu rfl (.tmp 40) (.tmp 42) rfl w.heap.size v (rangeF (sgnF sigs) k) _ rfl Ho2.out (by omega) rfl hBs ?_; intro v2 w5 hown2 hg2 hat2; obtain ⟨g2, c2, rfl⟩ := own_succ hown2; have hs5 := hg2.size; have HX5 := Lib.hid (HX2.out.kept hg2 (fun e => Hvb.out.2 e.symm)); have HR5 := Lib.hid (HR2.out.kept hg2 (fun e => Hvb.out.1 e.symm)); have Hb5 := Lib.hid (Hb2.out.grown hg2 hBs (fun g e => (Ho2.out.lt g e).1)); have f1 := HX5.out.frozen 1; have k1 := HX5.out.cell 1 (v := v) rfl; have f2 := HX5.out.frozen 2; have k2 := HX5.out.cell 2 (v := .int .i64 sk) rfl; have Hown2 := Lib.hid hown2; have Hat2 := Lib.hid hat2; clear hown2 hat2 hg2)
          have sX6 := (HX5.out.set 1 (.slice (some ⟨g2, 0, none⟩) ((rangeF (sgnF sigs) k).length + 1) c2)).set 2 (.int .i64 ((sk + x) % 997))
          have sR6 := (HR5.out.other (by omega : w.heap.size ≠ w.heap.size + 1) 1 (.slice (some ⟨g2, 0, none⟩) ((rangeF (sgnF sigs) k).length + 1) c2)).other (by omega : w.heap.size ≠ w.heap.size + 1) 2 (.int .i64 ((sk + x) % 997))
          have hne2 : (Value.slice (some ⟨g2, 0, none⟩) ((rangeF (sgnF sigs) k).length + 1) c2).ownBlock ≠ some (w.heap.size + 1) ∧ (Value.slice (some ⟨g2, 0, none⟩) ((rangeF (sgnF sigs) k).length + 1) c2).ownBlock ≠ some w.heap.size := by
            rcases Hat2.out with e | ⟨g', e, hg'⟩
            · rw [e]; exact ⟨Hvb.out.2, Hvb.out.1⟩
            · rw [e]; exact ⟨fun h => by cases h; omega, fun h => by cases h; omega⟩
          have ho6 := (Hown2.out.set_other hne2.1 1 (.slice (some ⟨g2, 0, none⟩) ((rangeF (sgnF sigs) k).length + 1) c2)).set_other hne2.1 2 (.int .i64 ((sk + x) % 997))
          have hb6 := (Hb5.out.setCell (p := ⟨w.heap.size + 1, 1, none⟩) (by simp) (.slice (some ⟨g2, 0, none⟩) ((rangeF (sgnF sigs) k).length + 1) c2)).setCell (p := ⟨w.heap.size + 1, 2, none⟩) (by simp) (.int .i64 ((sk + x) % 997))
          have H6 := Lib.hid (And.intro sX6 (And.intro sR6 (And.intro ho6 (And.intro hb6 hne2))))
          clear HX5 HR5 Hb5 Hown2 Hat2 HR2 Ho2 Hb2 HX2 f1 f2 k2 k1 sX6 sR6 hne2 ho6 hb6
          go_roundw
          case rel =>
            exact ⟨k + 1, _, by omega, by go_num, Hz.out.1, H6.out.2.1, by rw [Hz.out.2.2]; exact H6.out.1, by rw [Hz.out.2.1]; exact H6.out.2.2.1, ⟨H6.out.2.2.2.2.2, H6.out.2.2.2.2.1⟩, H6.out.2.2.2.1⟩
          case measure => simp [intOf]; omega
    · have hks : k = sigs.length := by omega
      have hcm := cc_made (c := c) Hl.out (show Upto (okSig keys sigs d) sigs.length by rw [← hks]; exact hup)
      rw [← hks] at hcm
      obtain ⟨am, capm, rfl, him, _⟩ := Ho.out.ints
      have hch := impl_CertCheck ac capc c ak capk keys d am capm (rangeF (sgnF sigs) k) (sgS sigs k) wr hn hnk (by omega) (Hc.out.below hbel) (Hk.out.below hbel) him
      have k0 := HX.out.cell 0 rfl
      have k1 := HX.out.cell 1 rfl
      have k2 := HX.out.cell 2 rfl
      have Hb := Lib.hid hbel; clear hbel
      cases hq : cmB c keys d sigs with
      | false =>
        rw [hq] at hcm
        rw [hcm] at hch
        have Hch := Lib.hid hch; clear hch hcm
        have Hf := Lib.hid hq; clear hq hup
        have Hks := Lib.hid hks; clear hks
        go_wp2_with fail
        refine Hch.out.mono ?_
        rintro e wz ⟨rfl, hbz⟩
        have HR2 := Lib.hid (show Str wz w.heap.size 27 #[.int .i64 0, .slice none 0 0, .int .i64 0] from (hbz.block _ HR.out.lt).trans HR.out)
        have Hb2 := Lib.hid (below_step Hb.out (Nat.le_of_lt hRl) hbz)
        clear hbz k0 k1 k2
        have f0 := HR2.out.frozen 0
        have f1 := HR2.out.frozen 1
        have f2 := HR2.out.frozen 2
        have k0 := HR2.out.cell 0 rfl
        have k1 := HR2.out.cell 1 rfl
        have k2 := HR2.out.cell 2 rfl
        have sF := ((HR2.out.set 0 (.int .i64 0)).set 1 (.slice none 0 0)).set 2 (.int .i64 0)
        have e0 := sF.cell 0 (v := .int .i64 0) rfl
        have e1 := sF.cell 1 (v := .slice none 0 0) rfl
        have e2 := sF.cell 2 (v := .int .i64 0) rfl
        clear sF
        go_wp2
        refine bodyPost_ret (v := .tuple #[.agg #[.int .i64 0, .slice none 0 0, .int .i64 0], .bool false]) (by simp [results, Try.f11, go_sem, e0, e1, e2]) rfl ?_
        rw [(cm_no Hf.out).1, (cm_no Hf.out).2.1, (cm_no Hf.out).2.2, Hf.out]
        exact ⟨_, rfl, Own.nil _ _ _, ((Hb2.out.setCell (p := ⟨w.heap.size, 0, none⟩) (Nat.le_refl _) _).setCell (p := ⟨w.heap.size, 1, none⟩) (Nat.le_refl _) _).setCell (p := ⟨w.heap.size, 2, none⟩) (Nat.le_refl _) _⟩
      | true =>
        rw [hq] at hcm
        rw [hcm] at hch
        have Hch := Lib.hid hch; clear hch hcm
        have Hf := Lib.hid hq; clear hq hup
        have Hks := Lib.hid hks; clear hks
        go_wp2_with fail
        refine Hch.out.mono ?_
        rintro e wz ⟨rfl, hbz⟩
        have HR2 := Lib.hid (show Str wz w.heap.size 27 #[.int .i64 0, .slice none 0 0, .int .i64 0] from (hbz.block _ HR.out.lt).trans HR.out)
        have HX2 := Lib.hid (show Str wz (w.heap.size + 1) 27 #[.int .i64 d, .slice am (rangeF (sgnF sigs) k).length capm, .int .i64 (sgS sigs k)] from (hbz.block _ HX.out.lt).trans HX.out)
        have Ho2 := Lib.hid (Ho.out.below hbz)
        have Hb2 := Lib.hid (below_step Hb.out (Nat.le_of_lt hRl) hbz)
        clear hbz k0 k1 k2 HR HX Ho Hb
        have k0 := HX2.out.cell 0 rfl
        have k1 := HX2.out.cell 1 rfl
        have k2 := HX2.out.cell 2 rfl
        have f0 := HR2.out.frozen 0
        have f1 := HR2.out.frozen 1
        have f2 := HR2.out.frozen 2
        have j0 := HR2.out.cell 0 rfl
        have j1 := HR2.out.cell 1 rfl
        have j2 := HR2.out.cell 2 rfl
        have sF := ((HR2.out.set 0 (.int .i64 d)).set 1 (.slice am (rangeF (sgnF sigs) k).length capm)).set 2 (.int .i64 (sgS sigs k))
        have e0 := sF.cell 0 (v := .int .i64 d) rfl
        have e1 := sF.cell 1 (v := .slice am (rangeF (sgnF sigs) k).length capm) rfl
        have e2 := sF.cell 2 (v := .int .i64 (sgS sigs k)) rfl
        clear sF
        go_wp2
        refine bodyPost_ret (v := .tuple #[.agg #[.int .i64 d, .slice am (rangeF (sgnF sigs) k).length capm, .int .i64 (sgS sigs k)], .bool true]) (by simp [results, Try.f11, go_sem, e0, e1, e2]) rfl ?_
        rw [(cm_yes Hf.out).1, (cm_yes Hf.out).2.1, (cm_yes Hf.out).2.2, Hf.out, ← Hks.out]
        exact ⟨_, rfl, ((Ho2.out.set_other Hvb.out.1 0 _).set_other Hvb.out.1 1 _).set_other Hvb.out.1 2 _, ((Hb2.out.setCell (p := ⟨w.heap.size, 0, none⟩) (Nat.le_refl _) _).setCell (p := ⟨w.heap.size, 1, none⟩) (Nat.le_refl _) _).setCell (p := ⟨w.heap.size, 2, none⟩) (Nat.le_refl _) _⟩

end Go.Proofs.Ytilkiiflcdmnpab
