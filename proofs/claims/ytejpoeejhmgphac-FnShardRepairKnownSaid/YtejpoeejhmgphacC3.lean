/- What spec's functions of shards answer, each by a walk of its text; conditions: a list that is read has fewer than 2^40 elements, what is reckoned with is in the field. -/
import Derived.Test.YtejpoeejhmgphacRows
import Derived.Test.YtejpoeejhmgphacBase
import Derived.Test.YtejpoeejhmgphacApp
import Derived.Test.YtejpoeejhmgphacC1
import Derived.Test.YtejpoeejhmgphacM3
import Derived.Test.YtejpoeejhmgphacDt
import Derived.Test.YtejpoeejhmgphacBld
import Derived.Test.YtejpoeejhmgphacOwR
import Derived.Test.YtejpoeejhmgphacSched
import Derived.Test.YtejpoeejhmgphacPush
import Derived.Deep.QuietTactic
import Derived.BigQuiet
namespace Go.Proofs.Ytejpoeejhmgphac
open Go.RowKit

theorem TI3 : IntT Try.prog 26 3 := ⟨Try.underlying26, by kernel_rfl⟩

theorem spec_l3Power (b : Int) (n : Nat) (w : World) (hb0 : 0 ≤ b) (hb1 : b ≤ 250) (hn : n ≤ 1000) : Calls Try.prog 38 #[.int .i64 b, .int .i64 n] w fun e w' => e = .returned (.int .i64 (powF b n)) ∧ w' = w := by
  go_enter Try.func38, Try.ntmps38
  go_wp2
  go_loop [5, 6] (fun p i => ∃ k : Nat, k ≤ n ∧ i = .int .i64 k ∧ p = .int .i64 (powF b k)) (fun _ i => n - (intOf i).toNat)
  case atStart => exact ⟨0, Nat.zero_le _, rfl, rfl⟩
  case round =>
    obtain ⟨k, hk, rfl, rfl⟩ := hrel
    have hbd := powF_bd b k
    have hm := mul_bd hbd.1 hbd.2 hb0 hb1
    have hs := Lib.hid (show powF b (k + 1) = powF b k * b % 251 from rfl)
    by_cases hlt : k < n
    · generalize powF b k = p at *
      obtain ⟨q, hq⟩ : ∃ q, p * b = q := ⟨_, rfl⟩
      rw [hq] at hm
      have hs' := Lib.hid (hs.out.trans (by rw [hq]))
      clear hs
      go_wp2
      go_round
      case rel => exact ⟨k + 1, by omega, by go_num, int_eq (by rw [hs'.out])⟩
      case measure => simp [intOf]; omega
    · have : k = n := by omega
      subst this
      go_wp2
      go_ret
      exact ⟨rfl, rfl⟩

theorem spec_l3Value (a : Option Addr) (cap : Nat) (d : List Int) (need col x : Nat) (w : World) (hd : ∀ y ∈ d, 0 ≤ y ∧ y ≤ 250) (hlen : d.length ≤ 12) (hneed : need ≤ 8) (hcol : col ≤ 12) (hx : x ≤ 8) (hc : IntsAt w a d) :
    Calls Try.prog 39 #[.slice a d.length cap, .int .i64 need, .int .i64 col, .int .i64 x] w fun e w' => e = .returned (.int .i64 (valZ d need col x)) ∧ Drawn w w' := by
  have Hd := Lib.hid hd; clear hd
  have hm := Nat.mul_le_mul hcol hneed
  obtain ⟨m, hmm⟩ : ∃ m : Nat, col * need = m := ⟨_, rfl⟩
  have hcn : (col : Int) * (need : Int) = (m : Int) := by rw [← hmm]; exact (Int.natCast_mul _ _).symm
  rw [hmm] at hm
  have Hmm := Lib.hid hmm; clear hmm
  rcases hc.len with h0 | ⟨b, off, rfl, hb, hc⟩
  all_goals
    go_enter Try.func39, Try.ntmps39
    go_wp2
    go_loopw [9, 10] (fun n i wr => ∃ k : Nat, k ≤ need ∧ i = .int .i64 k ∧ n = .int .i64 (valTo d need col x k) ∧ Drawn w wr) (fun _ i _ => need - (intOf i).toNat)
    case atStart => exact ⟨0, Nat.zero_le _, rfl, rfl, Drawn.refl _⟩
    case round =>
      obtain ⟨k, hk, rfl, rfl, hdr⟩ := hrel
      have hbd := valTo_bd d need col x k
      by_cases hlt : k < need
      · by_cases hin : m + k < d.length
        · first
          | (exfalso; omega)
          | (have hv := Lib.hid (show valTo d need col x (k + 1) = (valTo d need col x k + d.getD (col * need + k) 0 * powF x k) % 251 by rw [valTo, if_pos (by rw [Hmm.out]; exact hin)])
             rw [Hmm.out, getD_get hin] at hv
             have hcell := (hdr.cell ⟨b, off + (m + k), none⟩).trans (hc (m + k) hin)
             have hy := Hd.out _ (List.getElem_mem hin)
             have hpb := powF_bd (x : Int) k
             have hp := spec_l3Power (x : Int) k
             generalize d[m + k] = y at *
             have hm2 := mul_bd hy.1 hy.2 hpb.1 hpb.2
             generalize powF (x : Int) k = pw at *
             obtain ⟨q, hq⟩ : ∃ q, y * pw = q := ⟨_, rfl⟩
             rw [hq] at hm2
             rw [hq] at hv
             have Hp := Lib.hid hp; clear hp
             have Hc := Lib.hid hc; clear hc
             generalize valTo d need col x k = n at *
             have hin' : (m : Int) + (k : Int) < d.length := by omega
             have h0' : 0 ≤ (m : Int) + (k : Int) := by omega
             have htn : ((m : Int) + (k : Int)).toNat = m + k := by omega
             go_wp2_with fail
             go_quiet ((go_at_call 38; exact Calls.quiet_of_same (Hp.out _ (by omega) (by omega) (by omega))))
             go_wp2
             go_roundw
             case rel => exact ⟨k + 1, by omega, by go_num, int_eq (by rw [hv.out]), (hdr.drewN _)⟩
             case measure => simp [intOf]; omega)
        · have hv := Lib.hid (show valTo d need col x (k + 1) = valTo d need col x k by rw [valTo, if_neg (by rw [Hmm.out]; exact hin)])
          have hin' : ¬ (m : Int) + (k : Int) < d.length := by omega
          generalize valTo d need col x k = n at *
          go_wp2
          go_roundw
          case rel => exact ⟨k + 1, by omega, by go_num, int_eq (by rw [hv.out]), hdr⟩
          case measure => simp [intOf]; omega
      · have : k = need := by omega
        subst this
        go_wp2
        go_ret
        exact ⟨rfl, hdr⟩

theorem spec_l3Data (a : Option Addr) (cap : Nat) (d : List Int) (need : Int) (w : World) (hbig : d.length ≤ 1099511627776) (hc : IntsAt w a d) :
    Calls Try.prog 37 #[.slice a d.length cap, .int .i64 need] w fun e w' => e = .returned (.bool (dataB d need)) ∧ w = w' := by
  rcases hc.len with h0 | ⟨b, off, rfl, hb, hc⟩
  all_goals
    go_enter Try.func37, Try.ntmps37
    go_wp2
    go_loop [5] (fun i => ∃ k : Nat, k ≤ d.length ∧ i = .int .i64 k ∧ Pre symB d k) (fun i => d.length - (intOf i).toNat)
    case atStart => exact ⟨0, by omega, rfl, pre_zero _ _⟩
    case round =>
      obtain ⟨k, hk, rfl, hg⟩ := hrel
      by_cases hlt : k < d.length
      · first
        | (exfalso; omega)
        | (have hcell := hc k hlt
           have Hc := Lib.hid hc; clear hc
           by_cases h : 0 ≤ d[k] ∧ d[k] ≤ 250
           · have Hin := Lib.hid (fun w => spec_l6In_yes h w)
             have Hs := Lib.hid (pre_step hg hlt (symB_yes h)); clear hg h
             go_wp2_with fail
             refine (Hin.out _).mono ?_
             rintro e w' ⟨rfl, rfl⟩
             go_wp2
             go_round
             case rel => exact ⟨k + 1, by omega, by go_num, Hs.out⟩
             case measure => simp [intOf]; omega
           · have Hin := Lib.hid (fun w => spec_l6In_no h w)
             have Hs := Lib.hid (dataB_bad need hlt (symB_no h)); clear hg h
             go_wp2_with fail
             refine (Hin.out _).mono ?_
             rintro e w' ⟨rfl, rfl⟩
             go_wp2
             go_ret
             exact ⟨ret_bool Hs.out.symm, rfl⟩)
      · have Hs := Lib.hid (pre_all hg (by omega)); clear hg
        by_cases hz : 1 ≤ (d.length : Int) ∧ (d.length : Int) ≤ 12
        · have Hf := Lib.hid (show dataB d need = decide (1 ≤ need ∧ need ≤ 8) by unfold dataB; rw [Hs.out, decide_eq_true (by omega)]; simp)
          have Hz := Lib.hid (fun w => spec_l6In_yes hz w)
          by_cases hn : 1 ≤ need ∧ need ≤ 8
          · have Hn := Lib.hid (fun w => spec_l6In_yes hn w)
            have Hr := Lib.hid (decide_eq_true hn)
            clear hz hn
            go_wp2_with fail
            refine (Hz.out _).mono ?_
            rintro e w' ⟨rfl, rfl⟩
            go_wp2_with fail
            refine (Hn.out _).mono ?_
            rintro e w' ⟨rfl, rfl⟩
            go_wp2
            go_ret
            exact ⟨ret_bool (by rw [Hf.out, Hr.out]), rfl⟩
          · have Hn := Lib.hid (fun w => spec_l6In_no hn w)
            have Hr := Lib.hid (decide_eq_false hn)
            clear hz hn
            go_wp2_with fail
            refine (Hz.out _).mono ?_
            rintro e w' ⟨rfl, rfl⟩
            go_wp2_with fail
            refine (Hn.out _).mono ?_
            rintro e w' ⟨rfl, rfl⟩
            go_wp2
            go_ret
            exact ⟨ret_bool (by rw [Hf.out, Hr.out]), rfl⟩
        · have Hf := Lib.hid (show dataB d need = false by unfold dataB; rw [decide_eq_false (show ¬ (1 ≤ d.length ∧ d.length ≤ 12) by omega)]; simp)
          have Hz := Lib.hid (fun w => spec_l6In_no hz w)
          clear hz
          go_wp2_with fail
          refine (Hz.out _).mono ?_
          rintro e w' ⟨rfl, rfl⟩
          go_wp2
          go_ret
          exact ⟨ret_bool Hf.out.symm, rfl⟩

theorem spec_l3Shard (a : Option Addr) (cap : Nat) (d : List Int) (need x : Nat) (w : World) (hd : ∀ y ∈ d, 0 ≤ y ∧ y ≤ 250) (hlen : d.length ≤ 12) (hneed : need ≤ 8) (hneed1 : 1 ≤ need) (hx : x ≤ 8) (hc : IntsAt w a d) :
    Calls Try.prog 26 #[.slice a d.length cap, .int .i64 need, .int .i64 x] w fun e w' => ∃ v, e = .returned (.agg #[.int .i64 x, v]) ∧ Own 3 w' w.heap.size v (shardV d need x) ∧ Below w.heap.size w w' := by
  have Hd := Lib.hid hd; clear hd
  have Hc := Lib.hid hc; clear hc
  have hcol := cols_le (d := d) (need := need) hneed1 hlen
  have hsv := shardV_len d need x
  go_enter Try.func26, Try.ntmps26
  go_wp2_with fail
  go_loopw [8] (fun i wr => ∃ (c : Nat) (v : Value), c ≤ colsN d need ∧ i = .int .i64 c ∧ Str wr w.heap.size 30 #[.int .i64 0, .slice none 0 0] ∧ Str wr (w.heap.size + 1 + 1) 30 #[.int .i64 x, v] ∧ Own 3 wr (w.heap.size + 1) v ((shardV d need x).take c) ∧ v.ownBlock ≠ some (w.heap.size + 1 + 1) ∧ Below w.heap.size w wr) (fun i _ => colsN d need - (intOf i).toNat)
  case atStart =>
    have h2 := Str.new ((w.alloc (.cells #[.int .i64 0, .slice none 0 0] 30)).alloc (.cells #[] 3)) 30 #[.int .i64 x, .slice (some ⟨w.heap.size + 1, 0, none⟩) 0 0]
    have ho := (own_empty 3 (w.alloc (.cells #[.int .i64 0, .slice none 0 0] 30)) (B := w.heap.size + 1) (by simp)).alloc (.cells #[.int .i64 x, .slice (some ⟨w.heap.size + 1, 0, none⟩) 0 0] 30)
    simp only [World.size_alloc] at h2 ho
    exact ⟨0, _, Nat.zero_le _, rfl, ((Str.new _ _ _).alloc _).alloc _, h2, ho, by simp [Value.ownBlock], (((Below.refl _ w).alloc (Nat.le_refl _) _).alloc (by simp) _).alloc (by simp; omega) _⟩
  case round =>
    obtain ⟨c, v, hcn, rfl, s0, s2, hown, hv2, hbel⟩ := hrel
    obtain ⟨m, hm⟩ : ∃ m : Nat, c * need = m := ⟨_, rfl⟩
    have hcm : (c : Int) * (need : Int) = (m : Int) := by rw [← hm]; exact (Int.natCast_mul _ _).symm
    have hm96 : m ≤ 12 * 8 := by rw [← hm]; exact Nat.mul_le_mul (by omega) hneed
    have hsz := s2.lt
    have hlc := cols_lt (d := d) (c := c) hneed1
    rw [hm] at hlc
    by_cases hlt : c < colsN d need
    · have hmd : m < d.length := hlc.1 hlt
      have hz : (shardV d need x).take (c + 1) = (shardV d need x).take c ++ [valZ d need c x] := by
        rw [List.take_succ_eq_append_getElem (by omega)]
        simp [shardV]
      have Hz := Lib.hid hz; clear hz hlc
      have hcall := fun w h => spec_l3Value a cap d need c x w Hd.out hlen hneed (by omega) hx h
      have Hcall := Lib.hid hcall; clear hcall
      have hzl := Lib.hid (show ((shardV d need x).take c).length ≤ 1099511627776 by rw [List.length_take]; omega)
      generalize valZ d need c x = z at *
      generalize (shardV d need x).take c = zs at hown Hz hzl
      have h1 := s2.cell 1 (v := v) rfl
      have Hb := Lib.hid hbel; clear hbel
      have hsw := Hb.out.size
      go_wp2_with fail
      refine wp_region_L 10 (fun w' => w'.cell? ⟨w.heap.size + 1 + 1, 1, none⟩ = some v) (by kernel_rfl) h1 (fun hH => ?_)
      refine takeL 0 (v := ?v0) rfl (by kernel_rfl) (by kernel_rfl) (by kernel_rfl) (by kernel_rfl) (by kernel_rfl) (fun _ _ _ h => h) hH rfl ?y0 ?r0
      case y0 => intro w hSw; go_simp; try with_reducible rfl
      try simp only [Act.put, List.setIfInBounds_toArray, List.set_cons_zero, List.set_cons_succ]
      refine takeL 1 (v := ?v1) rfl (by kernel_rfl) (by kernel_rfl) (by kernel_rfl) (by kernel_rfl) (by kernel_rfl) (fun _ _ _ h => h) hH rfl ?y1 ?r1
      case y1 => intro w hSw; go_simp; try with_reducible rfl
      try simp only [Act.put, List.setIfInBounds_toArray, List.set_cons_zero, List.set_cons_succ]
      refine takeL 2 (v := ?v2) rfl (by kernel_rfl) (by kernel_rfl) (by kernel_rfl) (by kernel_rfl) (by kernel_rfl) (fun _ _ _ h => h) hH rfl ?y2 ?r2
      case y2 => intro w hSw; go_simp; try with_reducible rfl
      try simp only [Act.put, List.setIfInBounds_toArray, List.set_cons_zero, List.set_cons_succ]
      refine takeL 3 (v := ?v3) rfl (by kernel_rfl) (by kernel_rfl) (by kernel_rfl) (by kernel_rfl) (by kernel_rfl) (fun _ _ _ h => h) hH rfl ?y3 ?r3
      case y3 => intro w hSw; go_simp; try with_reducible rfl
      try simp only [Act.put, List.setIfInBounds_toArray, List.set_cons_zero, List.set_cons_succ]
      refine takeL 4 (v := ?v4) rfl (by kernel_rfl) (by kernel_rfl) (by kernel_rfl) (by kernel_rfl) (by kernel_rfl) (fun _ _ _ h => h) hH rfl ?y4 ?r4
      case y4 => intro w hSw; go_simp; try with_reducible rfl
      try simp only [Act.put, List.setIfInBounds_toArray, List.set_cons_zero, List.set_cons_succ]
      refine takeL 5 (v := ?v5) rfl (by kernel_rfl) (by kernel_rfl) (by kernel_rfl) (by kernel_rfl) (by kernel_rfl) (fun _ _ _ h => h) hH rfl ?y5 ?r5
      case y5 => intro w hSw; go_simp; try with_reducible rfl
      try simp only [Act.put, List.setIfInBounds_toArray, List.set_cons_zero, List.set_cons_succ]
      refine callL 6 rfl (by kernel_rfl) rfl (fun K hK => ?_)
      go_simp
      refine (Hcall.out _ (Hc.out.below (Hb.out.drew))).mono ?_
      rintro e w6 ⟨rfl, hdr⟩
      have h6 : w6.cell? ⟨w.heap.size + 1 + 1, 1, none⟩ = some v := (hdr.cell _).trans h1
      refine hK.out _ _ h6 (fun hH => ?_)
      clear hK K
      try simp only [Act.put, List.setIfInBounds_toArray, List.set_cons_zero, List.set_cons_succ]
      refine callL 7 rfl (by kernel_rfl) rfl (fun K hK => ?_)
      go_simp
      refine hK.out _ _ ((World.grownBy_alloc w6 _ none).cell h6 (by simp)) (fun hH => ?_)
      clear hK K
      try simp only [Act.put, List.setIfInBounds_toArray, List.set_cons_zero, List.set_cons_succ]
      have hown6 : Own 3 w6 (w.heap.size + 1) v zs := by obtain ⟨q, rfl⟩ := hdr; exact hown
      have hs6 : w6.heap.size = wr.heap.size := hdr.size
      have s26 : Str w6 (w.heap.size + 1 + 1) 30 #[.int .i64 x, v] := by obtain ⟨q, rfl⟩ := hdr; exact s2
      have s06 : Str w6 w.heap.size 30 #[.int .i64 0, .slice none 0 0] := by obtain ⟨q, rfl⟩ := hdr; exact s0
      have hb6 : Below w.heap.size w w6 := by obtain ⟨q, rfl⟩ := hdr; exact below_drewN Hb.out.drew q
      have Hs6 := Lib.hid hs6; clear hs6
      have hB6 : w.heap.size + 1 ≤ w6.heap.size := by have := Hs6.out; omega
      refine callL 8 rfl (by kernel_rfl) rfl (fun K hK => ?_)
      refine op_push_at TI3 w6 (.tmp 21) (.tmp 27) rfl (w.heap.size + 1) v zs z rfl hown6 hzl.out rfl hB6 ?_
      intro v8 w8 hown8 hg8 hat8
      obtain ⟨g8, c8, rfl⟩ := own_succ hown8
      have s28 := s26.kept hg8 (fun e => hv2 e.symm)
      have s08 := s06.kept hg8 (fun e => by have := (hown.lt _ e.symm).1; omega)
      have h8 := s28.cell 1 (v := v) rfl
      have f8 := s28.frozen 1
      refine hK.out _ _ h8 (fun hH => ?_)
      clear hK K
      try simp only [Act.put, List.setIfInBounds_toArray, List.set_cons_zero, List.set_cons_succ]
      refine takeL 9 (v := ?v9) rfl (by kernel_rfl) (by kernel_rfl) (by kernel_rfl) (by kernel_rfl) (by kernel_rfl) (fun _ _ _ h => h) hH rfl ?y9 ?r9
      case y9 => intro w hSw; go_simp; try with_reducible rfl
      try simp only [Act.put, List.setIfInBounds_toArray, List.set_cons_zero, List.set_cons_succ]
      refine lastL rfl (by kernel_rfl) (by kernel_rfl) (by kernel_rfl) rfl (fun K hK => ?_)
      go_simp
      refine hK.out _ _ ?_
      clear hK K
      try simp only [Act.put, List.setIfInBounds_toArray, List.set_cons_zero, List.set_cons_succ]
      go_wp2
      go_roundw
      case rel =>
        have hat : ∀ g, some g8 = some g → g ≠ w.heap.size + 1 + 1 := by
          intro g e e'
          subst e'
          have hs6 := Hs6.out
          rcases hat8 with h | ⟨g', h, h'⟩
          · exact hv2 (h.symm.trans e)
          · have e1 : some g8 = some g' := h
            have := Option.some.inj (e.symm.trans e1)
            omega
        refine ⟨c + 1, _, by omega, by go_num, s08.other (by omega) 1 _, s28.set 1 _, ?_, fun e => hat _ e rfl, ((hb6.grown hg8 (by omega) (fun g e => by have := (hown.lt g e).1; omega)).setCell (p := ⟨w.heap.size + 1 + 1, 1, none⟩) (by simp; omega) _)⟩
        rw [Hz.out]
        exact hown8.set_other (fun e => hat _ e rfl) 1 _
      case measure => simp [intOf]; omega
    · have hce : c = colsN d need := by omega
      subst hce
      rw [List.take_of_length_le (by omega)] at hown
      obtain ⟨av, cv, rfl, _, _⟩ := hown.ints
      have k0 := s2.cell 0 rfl
      have k1 := s2.cell 1 rfl
      have j0 := s0.cell 0 rfl
      have j1 := s0.cell 1 rfl
      have f0 := s0.frozen 0
      have f1 := s0.frozen 1
      have Hown := Lib.hid hown; clear hown
      clear hsv
      go_wp2
      have sF := (s0.set 0 (.int .i64 x)).set 1 (.slice av (shardV d need x).length cv)
      have e0 := sF.cell 0 (v := .int .i64 x) rfl
      have e1 := sF.cell 1 (v := .slice av (shardV d need x).length cv) rfl
      refine bodyPost_ret (v := .agg #[.int .i64 x, .slice av (shardV d need x).length cv]) (by simp [results, Try.f26, go_sem, e0, e1]) rfl ⟨_, rfl, ?_, ?_⟩
      · have hne : (Value.slice av (shardV d need x).length cv).ownBlock ≠ some w.heap.size := fun e => by have := (Hown.out.lt _ e).1; omega
        exact ((Hown.out.mono (by omega)).set_other hne 0 _).set_other hne 1 _
      · exact (hbel.setCell (p := ⟨w.heap.size, 0, none⟩) (Nat.le_refl _) _).setCell (p := ⟨w.heap.size, 1, none⟩) (Nat.le_refl _) _

/-- A shard as a row of data. -/
def shardD (s : Int × List Int) : List Dt := [.i s.1, intsD s.2]
def shardF (s : Int × List Int) : List Fd := [.i s.1, .l s.2]
theorem shardD_len (s : Int × List Int) : (shardD s).length = 2 := rfl

theorem sh_info : (Try.prog.info? 30).map (fun i => (i.zero, i.size, i.bytes)) = some (some (.agg #[.int .i64 0, .slice none 0 0]), 2, 32) := by kernel_rfl

theorem spec_ShardMakeO (a : Option Addr) (cap : Nat) (d : List Int) (need many : Int) (w : World) (hbig : d.length ≤ 1099511627776) (hc : IntsAt w a d) :
    Calls Try.prog 22 #[.slice a d.length cap, .int .i64 need, .int .i64 many] w fun e w' => ∃ v, e = .returned v ∧ OwnR 30 3 2 w' w.heap.size w'.heap.size v ((makeZ d need many).map shardF) ∧ Below w.heap.size w w' := by
  have hb0 : Below w.heap.size w (w.alloc (.cells #[] 30)) := (Below.refl _ _).alloc (Nat.le_refl _) _
  have hv0 : OwnR 30 3 2 (w.alloc (.cells #[] 30)) w.heap.size (w.alloc (.cells #[] 30)).heap.size (.slice (some ⟨w.heap.size, 0, none⟩) 0 0) [] := .nil (World.ownsRow_made w #[] 0 (Nat.le_refl _) (by simp) (by simp)) (fun g e => by cases e; simp)
  have Hv0 := Lib.hid hv0; clear hv0
  have hdt := spec_l3Data a cap d need _ hbig (hc.below hb0)
  cases hv : dataB d need with
  | true =>
    rw [hv] at hdt
    obtain ⟨hsym, ⟨hd1, hd2⟩, hn1, hn2⟩ := dataB_iff hv
    have Hdt := Lib.hid hdt; clear hdt
    have Hsym := Lib.hid hsym; clear hsym
    have Hc := Lib.hid hc; clear hc
    by_cases hm : need ≤ many ∧ many ≤ 8
    · have Hin := Lib.hid (fun w => spec_l6In_yes hm w)
      obtain ⟨need, rfl⟩ := Int.eq_ofNat_of_zero_le (show 0 ≤ need by omega)
      obtain ⟨many, rfl⟩ := Int.eq_ofNat_of_zero_le (show 0 ≤ many by omega)
      have Hf := Lib.hid (makeZ_yes (d := d) (need := need) (many := many) (by unfold makeB; rw [hv, decide_eq_true hm]; rfl))
      have hcol := cols_le (d := d) (need := need) (by omega) hd2
      clear hv
      go_enter Try.func22, Try.ntmps22
      go_wp2_with fail
      refine Hdt.out.mono ?_
      rintro e w' ⟨rfl, rfl⟩
      go_wp2_with fail
      refine (Hin.out _).mono ?_
      rintro e w' ⟨rfl, rfl⟩
      go_wp2_with fail
      go_loopw [7, 8] (fun v i wr => ∃ k : Nat, k ≤ many ∧ i = .int .i64 ((k : Int) + 1) ∧ OwnR 30 3 2 wr w.heap.size wr.heap.size v (((List.range k).map (shardZ d need)).map shardF) ∧ Below w.heap.size w wr) (fun _ i _ => many + 1 - (intOf i).toNat)
      case atStart => exact ⟨0, Nat.zero_le _, rfl, Hv0.out, hb0⟩
      case round =>
        obtain ⟨k, hk, rfl, hbld, hbel⟩ := hrel
        have Hbld := Lib.hid hbld; clear hbld
        have Hbel := Lib.hid hbel; clear hbel
        by_cases hlt : k < many
        · have hcall := spec_l3Shard a cap d need (k + 1) wr Hsym.out hd2 (by omega) (by omega) (by omega) (Hc.out.below Hbel.out)
          rw [show ((k + 1 : Nat) : Int) = (k : Int) + 1 from by omega] at hcall
          have Hcall := Lib.hid hcall; clear hcall
          have Hex := Lib.hid (show ((List.range (k + 1)).map (shardZ d need)).map shardF = (((List.range k).map (shardZ d need)).map shardF) ++ [[.i ((k : Int) + 1), .l (shardV d need ((k : Int) + 1))]] by rw [List.range_succ, List.map_append, List.map_append]; rfl)
          have hel : (((List.range k).map (shardZ d need)).map shardF).length ≤ 1048576 := by simp; omega
          generalize ((List.range k).map (shardZ d need)).map shardF = es at *
          generalize shardV d need ((k : Int) + 1) = vs at *
          go_wp2_with fail
          refine Hcall.out.mono ?_
          rintro e w6 ⟨v2, rfl, hown2, hb6⟩
          obtain ⟨a2, c2, rfl, _, _⟩ := hown2.ints
          have hbw6 := below_step Hbel.out Hbel.out.size hb6
          have hB6 := hbw6.size
          have hs6 := hb6.size
          have Hbld6 := Lib.hid (Hbld.out.below hb6 (Nat.le_refl _))
          have hfd : ∀ j (hj : j < [Fd.i ((k : Int) + 1), .l vs].length), ∃ c, [Value.int .i64 ((k : Int) + 1), .slice a2 vs.length c2][j]? = some c ∧ FdOk 3 w6 w.heap.size c ([Fd.i ((k : Int) + 1), .l vs])[j] := by
            intro j hj
            match j, hj with
            | 0, _ => exact ⟨_, rfl, rfl⟩
            | 1, _ => exact ⟨_, rfl, hown2.mono Hbel.out.size⟩
          have hap : ∀ (p q : Nat) c d, [Value.int .i64 ((k : Int) + 1), .slice a2 vs.length c2][p]? = some c → [Value.int .i64 ((k : Int) + 1), .slice a2 vs.length c2][q]? = some d → p ≠ q → Apart c d := by
            intro p q c d hp hq hne g hc hd
            match p, q with
            | 0, _ => cases hp; cases hc
            | 1, 0 => cases hq; cases hd
            | 1, 1 => exact hne rfl
            | 1, q + 2 => simp at hq
            | p + 2, _ => simp at hp
          have hnew : ∀ c ∈ [Value.int .i64 ((k : Int) + 1), .slice a2 vs.length c2], ∀ g, c.ownBlock = some g → wr.heap.size ≤ g := by
            intro c hc g hg
            simp only [List.mem_cons, List.not_mem_nil, or_false] at hc
            rcases hc with rfl | rfl
            · cases hg
            · exact (hown2.lt g hg).1
          have Hfd := Lib.hid hfd; clear hfd
          have Hap := Lib.hid hap; clear hap
          have Hnew := Lib.hid hnew; clear hnew hown2
          go_wp2_with (at_builtin; refine wpList_push_own (Ei := 3) Try.underlying23 sh_info rfl (by decide) (by decide) rfl (.tmp 26) (.tmp 31) rfl w.heap.size _ es _ _ _ rfl rfl (by intro u hu; simp at hu; rcases hu with rfl | rfl <;> rfl) rfl rfl Hfd.out Hap.out wr.heap.size Hbld6.out hs6 Hnew.out hel rfl hB6 ?_; intro v8 w8 hbld8 hg8 hat8)
          go_roundw
          case rel => exact ⟨k + 1, by omega, int_eq (by omega), by rw [Hex.out]; exact hbld8, hbw6.grown hg8 hB6 (fun g e => (Hbld.out.lt g e).1)⟩
          case measure => simp [intOf]; omega
        · have hke : k = many := by omega
          subst hke
          go_wp2
          go_ret
          exact ⟨_, rfl, by rw [Hf.out]; exact Hbld.out, Hbel.out⟩
    · have Hin := Lib.hid (fun w => spec_l6In_no hm w)
      have Hf := Lib.hid (makeZ_no (d := d) (need := need) (many := many) (by unfold makeB; rw [hv, decide_eq_false hm]; rfl))
      clear hv
      go_enter Try.func22, Try.ntmps22
      go_wp2_with fail
      refine Hdt.out.mono ?_
      rintro e w' ⟨rfl, rfl⟩
      go_wp2_with fail
      refine (Hin.out _).mono ?_
      rintro e w' ⟨rfl, rfl⟩
      go_wp2
      go_ret
      exact ⟨_, rfl, by rw [Hf.out]; exact Hv0.out, hb0⟩
  | false =>
    rw [hv] at hdt
    have Hdt := Lib.hid hdt; clear hdt
    have Hf := Lib.hid (makeZ_no (d := d) (need := need) (many := many) (by unfold makeB; rw [hv]; rfl))
    clear hv hc
    go_enter Try.func22, Try.ntmps22
    go_wp2_with fail
    refine Hdt.out.mono ?_
    rintro e w' ⟨rfl, rfl⟩
    go_wp2
    go_ret
    exact ⟨_, rfl, by rw [Hf.out]; exact Hv0.out, hb0⟩

theorem spec_ShardMake (a : Option Addr) (cap : Nat) (d : List Int) (need many : Int) (w : World) (hbig : d.length ≤ 1099511627776) (hc : IntsAt w a d) :
    Calls Try.prog 22 #[.slice a d.length cap, .int .i64 need, .int .i64 many] w fun e w' => ∃ v, e = .returned v ∧ Bld 30 2 w' w.heap.size v ((makeZ d need many).map shardD) ∧ Below w.heap.size w w' := by
  refine (spec_ShardMakeO a cap d need many w hbig hc).mono ?_
  rintro e w' ⟨v, rfl, ho, hb⟩
  refine ⟨v, rfl, ?_, hb⟩
  have := ho.bld
  rwa [List.map_map, show (fun e => List.map Fd.dt e) ∘ shardF = shardD from rfl] at this

end Go.Proofs.Ytejpoeejhmgphac
