/- What spec's functions of shards answer, each by a walk of its text; conditions: a list that is read has fewer than 2^40 elements, what is reckoned with is in the field. -/
import Derived.Test.YtkndndcjchlpdabRows
import Derived.Test.YtkndndcjchlpdabBase
import Derived.Test.YtkndndcjchlpdabApp
import Derived.Test.YtkndndcjchlpdabC1
import Derived.Test.YtkndndcjchlpdabM3
import Derived.Test.YtkndndcjchlpdabDt
import Derived.Test.YtkndndcjchlpdabBld
import Derived.Test.YtkndndcjchlpdabOwR
import Derived.Test.YtkndndcjchlpdabSched
import Derived.Test.YtkndndcjchlpdabPush
import Derived.Deep.QuietTactic
import Derived.BigQuiet
namespace Go.Proofs.Ytkndndcjchlpdab
open Go.RowKit

theorem TI3 : IntT Try.prog 30 3 := ⟨Try.underlying30, by kernel_rfl⟩

theorem spec_l3Power (b : Int) (n : Nat) (w : World) (hb0 : 0 ≤ b) (hb1 : b ≤ 250) (hn : n ≤ 1000) : Calls Try.prog 65 #[.int .i64 b, .int .i64 n] w fun e w' => e = .returned (.int .i64 (powF b n)) ∧ w' = w := by
  go_enter Try.func65, Try.ntmps65
  go_wp2
  go_loop [5, 6] (fun p i => ∃ k : Nat, k ≤ n ∧ i = .int .i64 k ∧ p = .int .i64 (powF b k)) (fun _ i => n - (intOf i).toNat)
  case atStart => exact ⟨0, Nat.zero_le _, rfl, rfl⟩
  case round =>
    obtain ⟨k, hk, rfl, rfl⟩ := hrel
    have hbd := powF_bd b k
    have hm := mul_bd hbd.1 hbd.2 hb0 hb1
    have hs := Lib.hid (show powF b (k + 1) = powF b k * b % 251 from rfl)
    by_cases hlt : k < n
    · generalize powF b k = p at *
      obtain ⟨q, hq⟩ : ∃ q, p * b = q := ⟨_, rfl⟩
      rw [hq] at hm
      have hs' := Lib.hid (hs.out.trans (by rw [hq]))
      clear hs
      go_wp2
      go_round
      case rel => exact ⟨k + 1, by omega, by go_num, int_eq (by rw [hs'.out])⟩
      case measure => simp [intOf]; omega
    · have : k = n := by omega
      subst this
      go_wp2
      go_ret
      exact ⟨rfl, rfl⟩

theorem spec_l3Value (a : Option Addr) (cap : Nat) (d : List Int) (need col x : Nat) (w : World) (hd : ∀ y ∈ d, 0 ≤ y ∧ y ≤ 250) (hlen : d.length ≤ 12) (hneed : need ≤ 8) (hcol : col ≤ 12) (hx : x ≤ 8) (hc : IntsAt w a d) :
    Calls Try.prog 48 #[.slice a d.length cap, .int .i64 need, .int .i64 col, .int .i64 x] w fun e w' => e = .returned (.int .i64 (valZ d need col x)) ∧ Drawn w w' := by
  have Hd := Lib.hid hd; clear hd
  have hm := Nat.mul_le_mul hcol hneed
  obtain ⟨m, hmm⟩ : ∃ m : Nat, col * need = m := ⟨_, rfl⟩
  have hcn : (col : Int) * (need : Int) = (m : Int) := by rw [← hmm]; exact (Int.natCast_mul _ _).symm
  rw [hmm] at hm
  have Hmm := Lib.hid hmm; clear hmm
  rcases hc.len with h0 | ⟨b, off, rfl, hb, hc⟩
  all_goals
    go_enter Try.func48, Try.ntmps48
    go_wp2
    go_loopw [9, 10] (fun n i wr => ∃ k : Nat, k ≤ need ∧ i = .int .i64 k ∧ n = .int .i64 (valTo d need col x k) ∧ Drawn w wr) (fun _ i _ => need - (intOf i).toNat)
    case atStart => exact ⟨0, Nat.zero_le _, rfl, rfl, Drawn.refl _⟩
    case round =>
      obtain ⟨k, hk, rfl, rfl, hdr⟩ := hrel
      have hbd := valTo_bd d need col x k
      by_cases hlt : k < need
      · by_cases hin : m + k < d.length
        · first
          | (exfalso; omega)
          | (have hv := Lib.hid (show valTo d need col x (k + 1) = (valTo d need col x k + d.getD (col * need + k) 0 * powF x k) % 251 by rw [valTo, if_pos (by rw [Hmm.out]; exact hin)])
             rw [Hmm.out, getD_get hin] at hv
             have hcell := (hdr.cell ⟨b, off + (m + k), none⟩).trans (hc (m + k) hin)
             have hy := Hd.out _ (List.getElem_mem hin)
             have hpb := powF_bd (x : Int) k
             have hp := spec_l3Power (x : Int) k
             generalize d[m + k] = y at *
             have hm2 := mul_bd hy.1 hy.2 hpb.1 hpb.2
             generalize powF (x : Int) k = pw at *
             obtain ⟨q, hq⟩ : ∃ q, y * pw = q := ⟨_, rfl⟩
             rw [hq] at hm2
             rw [hq] at hv
             have Hp := Lib.hid hp; clear hp
             have Hc := Lib.hid hc; clear hc
             generalize valTo d need col x k = n at *
             have hin' : (m : Int) + (k : Int) < d.length := by omega
             have h0' : 0 ≤ (m : Int) + (k : Int) := by omega
             have htn : ((m : Int) + (k : Int)).toNat = m + k := by omega
             go_wp2_with fail
             go_quiet ((go_at_call 65; exact Calls.quiet_of_same (Hp.out _ (by omega) (by omega) (by omega))))
             go_wp2
             go_roundw
             case rel => exact ⟨k + 1, by omega, by go_num, int_eq (by rw [hv.out]), (hdr.drewN _)⟩
             case measure => simp [intOf]; omega)
        · have hv := Lib.hid (show valTo d need col x (k + 1) = valTo d need col x k by rw [valTo, if_neg (by rw [Hmm.out]; exact hin)])
          have hin' : ¬ (m : Int) + (k : Int) < d.length := by omega
          generalize valTo d need col x k = n at *
          go_wp2
          go_roundw
          case rel => exact ⟨k + 1, by omega, by go_num, int_eq (by rw [hv.out]), hdr⟩
          case measure => simp [intOf]; omega
      · have : k = need := by omega
        subst this
        go_wp2
        go_ret
        exact ⟨rfl, hdr⟩

theorem spec_l3Shard (a : Option Addr) (cap : Nat) (d : List Int) (need x : Nat) (w : World) (hd : ∀ y ∈ d, 0 ≤ y ∧ y ≤ 250) (hlen : d.length ≤ 12) (hneed : need ≤ 8) (hneed1 : 1 ≤ need) (hx : x ≤ 8) (hc : IntsAt w a d) :
    Calls Try.prog 63 #[.slice a d.length cap, .int .i64 need, .int .i64 x] w fun e w' => ∃ v, e = .returned (.agg #[.int .i64 x, v]) ∧ Own 3 w' w.heap.size v (shardV d need x) ∧ Below w.heap.size w w' := by
  have Hd := Lib.hid hd; clear hd
  have Hc := Lib.hid hc; clear hc
  have hcol := cols_le (d := d) (need := need) hneed1 hlen
  have hsv := shardV_len d need x
  go_enter Try.func63, Try.ntmps63
  go_wp2_with fail
  go_loopw [8] (fun i wr => ∃ (c : Nat) (v : Value), c ≤ colsN d need ∧ i = .int .i64 c ∧ Str wr w.heap.size 55 #[.int .i64 0, .slice none 0 0] ∧ Str wr (w.heap.size + 1 + 1) 55 #[.int .i64 x, v] ∧ Own 3 wr (w.heap.size + 1) v ((shardV d need x).take c) ∧ v.ownBlock ≠ some (w.heap.size + 1 + 1) ∧ Below w.heap.size w wr) (fun i _ => colsN d need - (intOf i).toNat)
  case atStart =>
    have h2 := Str.new ((w.alloc (.cells #[.int .i64 0, .slice none 0 0] 55)).alloc (.cells #[] 3)) 55 #[.int .i64 x, .slice (some ⟨w.heap.size + 1, 0, none⟩) 0 0]
    have ho := (own_empty 3 (w.alloc (.cells #[.int .i64 0, .slice none 0 0] 55)) (B := w.heap.size + 1) (by simp)).alloc (.cells #[.int .i64 x, .slice (some ⟨w.heap.size + 1, 0, none⟩) 0 0] 55)
    simp only [World.size_alloc] at h2 ho
    exact ⟨0, _, Nat.zero_le _, rfl, ((Str.new _ _ _).alloc _).alloc _, h2, ho, by simp [Value.ownBlock], (((Below.refl _ w).alloc (Nat.le_refl _) _).alloc (by simp) _).alloc (by simp; omega) _⟩
  case round =>
    obtain ⟨c, v, hcn, rfl, s0, s2, hown, hv2, hbel⟩ := hrel
    obtain ⟨m, hm⟩ : ∃ m : Nat, c * need = m := ⟨_, rfl⟩
    have hcm : (c : Int) * (need : Int) = (m : Int) := by rw [← hm]; exact (Int.natCast_mul _ _).symm
    have hm96 : m ≤ 12 * 8 := by rw [← hm]; exact Nat.mul_le_mul (by omega) hneed
    have hsz := s2.lt
    have hlc := cols_lt (d := d) (c := c) hneed1
    rw [hm] at hlc
    by_cases hlt : c < colsN d need
    · have hmd : m < d.length := hlc.1 hlt
      have hz : (shardV d need x).take (c + 1) = (shardV d need x).take c ++ [valZ d need c x] := by
        rw [List.take_succ_eq_append_getElem (by omega)]
        simp [shardV]
      have Hz := Lib.hid hz; clear hz hlc
      have hcall := fun w h => spec_l3Value a cap d need c x w Hd.out hlen hneed (by omega) hx h
      have Hcall := Lib.hid hcall; clear hcall
      have hzl := Lib.hid (show ((shardV d need x).take c).length ≤ 1099511627776 by rw [List.length_take]; omega)
      generalize valZ d need c x = z at *
      generalize (shardV d need x).take c = zs at hown Hz hzl
      have h1 := s2.cell 1 (v := v) rfl
      have Hb := Lib.hid hbel; clear hbel
      have hsw := Hb.out.size
      go_wp2_with fail
      refine wp_region_L 10 (fun w' => w'.cell? ⟨w.heap.size + 1 + 1, 1, none⟩ = some v) (by kernel_rfl) h1 (fun hH => ?_)
      refine takeL 0 (v := ?v0) rfl (by kernel_rfl) (by kernel_rfl) (by kernel_rfl) (by kernel_rfl) (by kernel_rfl) (fun _ _ _ h => h) hH rfl ?y0 ?r0
      case y0 => intro w hSw; go_simp; try with_reducible rfl
      try simp only [Act.put, List.setIfInBounds_toArray, List.set_cons_zero, List.set_cons_succ]
      refine takeL 1 (v := ?v1) rfl (by kernel_rfl) (by kernel_rfl) (by kernel_rfl) (by kernel_rfl) (by kernel_rfl) (fun _ _ _ h => h) hH rfl ?y1 ?r1
      case y1 => intro w hSw; go_simp; try with_reducible rfl
      try simp only [Act.put, List.setIfInBounds_toArray, List.set_cons_zero, List.set_cons_succ]
      refine takeL 2 (v := ?v2) rfl (by kernel_rfl) (by kernel_rfl) (by kernel_rfl) (by kernel_rfl) (by kernel_rfl) (fun _ _ _ h => h) hH rfl ?y2 ?r2
      case y2 => intro w hSw; go_simp; try with_reducible rfl
      try simp only [Act.put, List.setIfInBounds_toArray, List.set_cons_zero, List.set_cons_succ]
      refine takeL 3 (v := ?v3) rfl (by kernel_rfl) (by kernel_rfl) (by kernel_rfl) (by kernel_rfl) (by kernel_rfl) (fun _ _ _ h => h) hH rfl ?y3 ?r3
      case y3 => intro w hSw; go_simp; try with_reducible rfl
      try simp only [Act.put, List.setIfInBounds_toArray, List.set_cons_zero, List.set_cons_succ]
      refine takeL 4 (v := ?v4) rfl (by kernel_rfl) (by kernel_rfl) (by kernel_rfl) (by kernel_rfl) (by kernel_rfl) (fun _ _ _ h => h) hH rfl ?y4 ?r4
      case y4 => intro w hSw; go_simp; try with_reducible rfl
      try simp only [Act.put, List.setIfInBounds_toArray, List.set_cons_zero, List.set_cons_succ]
      refine takeL 5 (v := ?v5) rfl (by kernel_rfl) (by kernel_rfl) (by kernel_rfl) (by kernel_rfl) (by kernel_rfl) (fun _ _ _ h => h) hH rfl ?y5 ?r5
      case y5 => intro w hSw; go_simp; try with_reducible rfl
      try simp only [Act.put, List.setIfInBounds_toArray, List.set_cons_zero, List.set_cons_succ]
      refine callL 6 rfl (by kernel_rfl) rfl (fun K hK => ?_)
      go_simp
      refine (Hcall.out _ (Hc.out.below (Hb.out.drew))).mono ?_
      rintro e w6 ⟨rfl, hdr⟩
      have h6 : w6.cell? ⟨w.heap.size + 1 + 1, 1, none⟩ = some v := (hdr.cell _).trans h1
      refine hK.out _ _ h6 (fun hH => ?_)
      clear hK K
      try simp only [Act.put, List.setIfInBounds_toArray, List.set_cons_zero, List.set_cons_succ]
      refine callL 7 rfl (by kernel_rfl) rfl (fun K hK => ?_)
      go_simp
      refine hK.out _ _ ((World.grownBy_alloc w6 _ none).cell h6 (by simp)) (fun hH => ?_)
      clear hK K
      try simp only [Act.put, List.setIfInBounds_toArray, List.set_cons_zero, List.set_cons_succ]
      have hown6 : Own 3 w6 (w.heap.size + 1) v zs := by obtain ⟨q, rfl⟩ := hdr; exact hown
      have hs6 : w6.heap.size = wr.heap.size := hdr.size
      have s26 : Str w6 (w.heap.size + 1 + 1) 55 #[.int .i64 x, v] := by obtain ⟨q, rfl⟩ := hdr; exact s2
      have s06 : Str w6 w.heap.size 55 #[.int .i64 0, .slice none 0 0] := by obtain ⟨q, rfl⟩ := hdr; exact s0
      have hb6 : Below w.heap.size w w6 := by obtain ⟨q, rfl⟩ := hdr; exact below_drewN Hb.out.drew q
      have Hs6 := Lib.hid hs6; clear hs6
      have hB6 : w.heap.size + 1 ≤ w6.heap.size := by have := Hs6.out; omega
      refine callL 8 rfl (by kernel_rfl) rfl (fun K hK => ?_)
      refine op_push_at TI3 w6 (.tmp 21) (.tmp 27) rfl (w.heap.size + 1) v zs z rfl hown6 hzl.out rfl hB6 ?_
      intro v8 w8 hown8 hg8 hat8
      obtain ⟨g8, c8, rfl⟩ := own_succ hown8
      have s28 := s26.kept hg8 (fun e => hv2 e.symm)
      have s08 := s06.kept hg8 (fun e => by have := (hown.lt _ e.symm).1; omega)
      have h8 := s28.cell 1 (v := v) rfl
      have f8 := s28.frozen 1
      refine hK.out _ _ h8 (fun hH => ?_)
      clear hK K
      try simp only [Act.put, List.setIfInBounds_toArray, List.set_cons_zero, List.set_cons_succ]
      refine takeL 9 (v := ?v9) rfl (by kernel_rfl) (by kernel_rfl) (by kernel_rfl) (by kernel_rfl) (by kernel_rfl) (fun _ _ _ h => h) hH rfl ?y9 ?r9
      case y9 => intro w hSw; go_simp; try with_reducible rfl
      try simp only [Act.put, List.setIfInBounds_toArray, List.set_cons_zero, List.set_cons_succ]
      refine lastL rfl (by kernel_rfl) (by kernel_rfl) (by kernel_rfl) rfl (fun K hK => ?_)
      go_simp
      refine hK.out _ _ ?_
      clear hK K
      try simp only [Act.put, List.setIfInBounds_toArray, List.set_cons_zero, List.set_cons_succ]
      go_wp2
      go_roundw
      case rel =>
        have hat : ∀ g, some g8 = some g → g ≠ w.heap.size + 1 + 1 := by
          intro g e e'
          subst e'
          have hs6 := Hs6.out
          rcases hat8 with h | ⟨g', h, h'⟩
          · exact hv2 (h.symm.trans e)
          · have e1 : some g8 = some g' := h
            have := Option.some.inj (e.symm.trans e1)
            omega
        refine ⟨c + 1, _, by omega, by go_num, s08.other (by omega) 1 _, s28.set 1 _, ?_, fun e => hat _ e rfl, ((hb6.grown hg8 (by omega) (fun g e => by have := (hown.lt g e).1; omega)).setCell (p := ⟨w.heap.size + 1 + 1, 1, none⟩) (by simp; omega) _)⟩
        rw [Hz.out]
        exact hown8.set_other (fun e => hat _ e rfl) 1 _
      case measure => simp [intOf]; omega
    · have hce : c = colsN d need := by omega
      subst hce
      rw [List.take_of_length_le (by omega)] at hown
      obtain ⟨av, cv, rfl, _, _⟩ := hown.ints
      have k0 := s2.cell 0 rfl
      have k1 := s2.cell 1 rfl
      have j0 := s0.cell 0 rfl
      have j1 := s0.cell 1 rfl
      have f0 := s0.frozen 0
      have f1 := s0.frozen 1
      have Hown := Lib.hid hown; clear hown
      clear hsv
      go_wp2
      have sF := (s0.set 0 (.int .i64 x)).set 1 (.slice av (shardV d need x).length cv)
      have e0 := sF.cell 0 (v := .int .i64 x) rfl
      have e1 := sF.cell 1 (v := .slice av (shardV d need x).length cv) rfl
      refine bodyPost_ret (v := .agg #[.int .i64 x, .slice av (shardV d need x).length cv]) (by simp [results, Try.f63, go_sem, e0, e1]) rfl ⟨_, rfl, ?_, ?_⟩
      · have hne : (Value.slice av (shardV d need x).length cv).ownBlock ≠ some w.heap.size := fun e => by have := (Hown.out.lt _ e).1; omega
        exact ((Hown.out.mono (by omega)).set_other hne 0 _).set_other hne 1 _
      · exact (hbel.setCell (p := ⟨w.heap.size, 0, none⟩) (Nat.le_refl _) _).setCell (p := ⟨w.heap.size, 1, none⟩) (Nat.le_refl _) _

/-- A shard as a row of data. -/
def shardD (s : Int × List Int) : List Dt := [.i s.1, intsD s.2]
def shardF (s : Int × List Int) : List Fd := [.i s.1, .l s.2]
theorem shardD_len (s : Int × List Int) : (shardD s).length = 2 := rfl

theorem sh_info : (Try.prog.info? 55).map (fun i => (i.zero, i.size, i.bytes)) = some (some (.agg #[.int .i64 0, .slice none 0 0]), 2, 32) := by kernel_rfl

