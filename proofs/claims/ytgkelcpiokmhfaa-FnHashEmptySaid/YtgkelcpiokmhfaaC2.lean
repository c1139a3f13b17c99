/- What spec's functions of digests and hash trees answer, each by a walk of its text: the answers are those of plain functions on lists; conditions: a list that is read has fewer than 2^40 elements, numbers that are paired are digests. -/
import Derived.Test.YtgkelcpiokmhfaaRows
import Derived.Test.YtgkelcpiokmhfaaBase
import Derived.Test.YtgkelcpiokmhfaaApp
import Derived.Test.YtgkelcpiokmhfaaM2
import Derived.Test.YtgkelcpiokmhfaaC1
import Derived.Deep.QuietTactic
import Derived.BigQuiet
namespace Go.Proofs.Ytgkelcpiokmhfaa
open Go.RowKit

theorem TI2 : IntT Try.prog 30 3 := ⟨Try.underlying30, by kernel_rfl⟩

theorem spec_l2Digest (n : Int) (w : World) : Calls Try.prog 29 #[.int .i64 n] w fun e w' => e = .returned (.bool (digB n)) ∧ w = w' := by
  go_enter Try.func29, Try.ntmps29
  go_wp2_with (go_at_call 38; refine (spec_l6In _ _ _ _).mono ?_; rintro e w' ⟨rfl, rfl⟩)
  go_ret
  exact ⟨ret_bool (by unfold digB; simp), rfl⟩

theorem spec_l2Pair (a b : Int) (w : World) (ha : digB a = true) (hb : digB b = true) : Calls Try.prog 30 #[.int .i64 a, .int .i64 b] w fun e w' => e = .returned (.int .i64 (pairZ a b)) ∧ w = w' := by
  have h1 := digB_bd ha
  have h2 := digB_bd hb
  clear ha hb
  go_enter Try.func30, Try.ntmps30
  go_wp2
  go_ret
  exact ⟨ret_int (by unfold pairZ; omega), rfl⟩

theorem spec_HashPair (a b : Int) (w : World) : Calls Try.prog 15 #[.int .i64 a, .int .i64 b] w fun e w' => e = .returned (.int .i64 (hpZ a b)) ∧ w = w' := by
  have h1 := spec_l2Digest a w
  have h2 := spec_l2Digest b w
  by_cases ha : digB a = true
  · by_cases hb : digB b = true
    · rw [ha] at h1
      rw [hb] at h2
      have h3 := spec_l2Pair a b w ha hb
      have hf : hpZ a b = pairZ a b := by unfold hpZ; rw [if_pos ⟨ha, hb⟩]
      have Hf := Lib.hid hf; clear hf
      have H1 := Lib.hid h1; clear h1
      have H2 := Lib.hid h2; clear h2
      have H3 := Lib.hid h3; clear h3
      clear ha hb
      go_enter Try.func15, Try.ntmps15
      go_wp2_with fail
      refine H1.out.mono ?_
      rintro e w' ⟨rfl, rfl⟩
      go_wp2_with fail
      refine H2.out.mono ?_
      rintro e w' ⟨rfl, rfl⟩
      go_wp2_with fail
      refine H3.out.mono ?_
      rintro e w' ⟨rfl, rfl⟩
      go_wp2
      go_ret
      exact ⟨ret_int Hf.out.symm, rfl⟩
    · rw [Bool.not_eq_true] at hb
      rw [ha] at h1
      rw [hb] at h2
      have hf : hpZ a b = -1 := by unfold hpZ; rw [if_neg (by simp [hb])]
      have Hf := Lib.hid hf; clear hf
      have H1 := Lib.hid h1; clear h1
      have H2 := Lib.hid h2; clear h2
      clear ha hb
      go_enter Try.func15, Try.ntmps15
      go_wp2_with fail
      refine H1.out.mono ?_
      rintro e w' ⟨rfl, rfl⟩
      go_wp2_with fail
      refine H2.out.mono ?_
      rintro e w' ⟨rfl, rfl⟩
      go_wp2
      go_ret
      exact ⟨ret_int Hf.out.symm, rfl⟩
  · rw [Bool.not_eq_true] at ha
    rw [ha] at h1
    have hf : hpZ a b = -1 := by unfold hpZ; rw [if_neg (by simp [ha])]
    have Hf := Lib.hid hf; clear hf
    have H1 := Lib.hid h1; clear h1
    clear ha h2
    go_enter Try.func15, Try.ntmps15
    go_wp2_with fail
    refine H1.out.mono ?_
    rintro e w' ⟨rfl, rfl⟩
    go_wp2
    go_ret
    exact ⟨ret_int Hf.out.symm, rfl⟩

theorem spec_l2Text (s : ByteArray) (w : World) (hs : s.size ≤ 1099511627776) : Calls Try.prog 26 #[.string s] w fun e w' => e = .returned (.int .i64 (txtZ s.data.toList)) ∧ w = w' := by
  go_enter Try.func26, Try.ntmps26
  go_wp2
  go_loop [3, 4] (fun n i => ∃ k : Nat, k ≤ s.size ∧ i = .int .i64 k ∧ n = .int .i64 (txtZ (s.data.toList.take k))) (fun _ i => s.size - (intOf i).toNat)
  case atStart => exact ⟨0, Nat.zero_le _, rfl, rfl⟩
  case round =>
    obtain ⟨k, hk, rfl, rfl⟩ := hrel
    have hbd := txtZ_bd (s.data.toList.take k)
    by_cases hlt : k < s.size
    · have hc := UInt8.toNat_lt s[k]
      have Hn := Lib.hid (txt_step s k hlt)
      go_wp2
      go_round
      case rel => exact ⟨k + 1, by omega, by go_num, int_eq (by rw [Hn.out]; unfold txtS; omega)⟩
      case measure => simp [intOf]; omega
    · go_wp2
      go_ret
      exact ⟨ret_int (by rw [List.take_of_length_le (by simp; omega)]), rfl⟩

theorem spec_HashText (s : ByteArray) (w : World) (hs : s.size ≤ 1099511627776) : Calls Try.prog 12 #[.string s] w fun e w' => e = .returned (.int .i64 (htZ s)) ∧ w = w' := by
  by_cases h : s.size ≤ 60
  · have hf : htZ s = txtZ s.data.toList := by unfold htZ; rw [if_pos h]
    have Hf := Lib.hid hf; clear hf
    go_enter Try.func12, Try.ntmps12
    go_wp2_with (go_at_call 26; refine (spec_l2Text s _ hs).mono ?_; rintro e w' ⟨rfl, rfl⟩)
    go_ret
    exact ⟨ret_int Hf.out.symm, rfl⟩
  · have hf : htZ s = -1 := by unfold htZ; rw [if_neg h]
    have Hf := Lib.hid hf; clear hf
    go_enter Try.func12, Try.ntmps12
    go_wp2
    go_ret
    exact ⟨ret_int Hf.out.symm, rfl⟩

theorem spec_l2Leaves (a : Option Addr) (cap : Nat) (l : List Int) (w : World) (hbig : l.length ≤ 1099511627776) (hc : IntsAt w a l) :
    Calls Try.prog 37 #[.slice a l.length cap] w fun e w' => e = .returned (.bool (leavesB l)) ∧ w = w' := by
  rcases hc.len with h0 | ⟨b, off, rfl, hb, hc⟩
  all_goals
    go_enter Try.func37, Try.ntmps37
    go_wp2
    go_loop [3] (fun i => ∃ k : Nat, k ≤ l.length ∧ i = .int .i64 k ∧ Pre digB l k) (fun i => l.length - (intOf i).toNat)
    case atStart => exact ⟨0, by omega, rfl, pre_zero _ _⟩
    case round =>
      obtain ⟨k, hk, rfl, hg⟩ := hrel
      by_cases hlt : k < l.length
      · first
        | (exfalso; omega)
        | (have hcell := hc k hlt
           have Hc := Lib.hid hc; clear hc
           have hd := spec_l2Digest l[k] w
           by_cases h : digB l[k] = true
           · rw [h] at hd
             have Hd := Lib.hid hd; clear hd
             have Hs := Lib.hid (pre_step hg hlt h); clear hg h
             go_wp2_with fail
             refine Hd.out.mono ?_
             rintro e w' ⟨rfl, rfl⟩
             go_wp2
             go_round
             case rel => exact ⟨k + 1, by omega, by go_num, Hs.out⟩
             case measure => simp [intOf]; omega
           · rw [Bool.not_eq_true] at h
             rw [h] at hd
             have Hd := Lib.hid hd; clear hd
             have Hs := Lib.hid (leavesB_bad hlt h); clear hg h
             go_wp2_with fail
             refine Hd.out.mono ?_
             rintro e w' ⟨rfl, rfl⟩
             go_wp2
             go_ret
             exact ⟨ret_bool Hs.out.symm, rfl⟩)
      · have Hs := Lib.hid (leavesB_len hg (by omega)); clear hg
        go_wp2_with (go_at_call 38; refine (spec_l6In _ _ _ _).mono ?_; rintro e w' ⟨rfl, rfl⟩)
        go_ret
        exact ⟨ret_bool (by rw [Hs.out, Bool.eq_iff_iff]; simp only [Bool.and_eq_true, decide_eq_true_eq]; omega), rfl⟩

theorem spec_l2Up (a : Option Addr) (cap : Nat) (l : List Int) (w : World) (hbig : l.length ≤ 1099511627776) (hd : ∀ x ∈ l, digB x = true) (hc : IntsAt w a l) :
    Calls Try.prog 39 #[.slice a l.length cap] w fun e w' => ∃ v, e = .returned v ∧ Own 3 w' w.heap.size v (upZ l) ∧ Below w.heap.size w w' := by
  have hul := upZ_len l
  have Hd := Lib.hid hd; clear hd
  rcases hc.len with h0 | ⟨b, off, rfl, hb, hc⟩
  all_goals
    go_enter Try.func39, Try.ntmps39
    go_wp2_with fail
    go_loopw [3, 4] (fun v i wr => ∃ k : Nat, 2 * k ≤ l.length + 1 ∧ i = .int .i64 (2 * (k : Int)) ∧ Own 3 wr w.heap.size v ((upZ l).take k) ∧ Below w.heap.size w wr) (fun _ i _ => l.length + 2 - (intOf i).toNat)
    case atStart => exact ⟨0, by omega, rfl, own_empty _ _ (Nat.le_refl _), (Below.refl _ _).alloc (Nat.le_refl _) _⟩
    case round =>
      obtain ⟨k, hk, rfl, hown, hbel⟩ := hrel
      have hB := hbel.size
      have hlt' : ((upZ l).take k).length ≤ 1099511627776 := by rw [List.length_take]; omega
      by_cases hlt : 2 * k < l.length
      · first
        | (exfalso; omega)
        | (have hcell := (hbel.cell (p := ⟨b, off + 2 * k, none⟩) hb).trans (hc (2 * k) hlt)
           have hg := upZ_get l (2 * k) hlt
           rw [show 2 * k / 2 = k by omega, getD_get hlt, show sib (2 * k) = 2 * k + 1 by unfold sib; rw [if_pos (by omega)]] at hg
           have htk : (upZ l).take (k + 1) = (upZ l).take k ++ [(upZ l).getD k 0] := by
             rw [List.take_succ_eq_append_getElem (by omega), getD_get (by omega)]
           rw [hg] at htk
           by_cases h2 : 2 * k + 1 < l.length
           · have hcell2 := (hbel.cell (p := ⟨b, off + (2 * k + 1), none⟩) hb).trans (hc (2 * k + 1) h2)
             rw [if_pos h2, if_pos (by omega), getD_get h2] at htk
             have hp := fun w => spec_l2Pair l[2 * k] l[2 * k + 1] w (Hd.out _ (List.getElem_mem hlt)) (Hd.out _ (List.getElem_mem h2))
             generalize l[2 * k] = x at *
             generalize l[2 * k + 1] = y at *
             have Hln := Lib.hid (show ((upZ l).take k).length + [pairZ x y].length ≤ 1099511627776 by rw [List.length_take]; simp only [List.length_cons, List.length_nil]; omega)
             have Htk := Lib.hid htk; clear htk hg
             have Hp := Lib.hid hp; clear hp
             have Hc := Lib.hid hc; clear hc
             have e1 : IntKind.i64.wrap (2 * (k : Int) + 1) = 2 * (k : Int) + 1 := IntWalk.i64_in _ (by omega)
             have e2 : (2 * (k : Int) + 1).toNat = 2 * k + 1 := by omega
             have e3 : (2 * (k : Int)).toNat = 2 * k := by omega
             have e4 : 0 ≤ 2 * (k : Int) + 1 := by omega
             have e5 : 0 ≤ 2 * (k : Int) := by omega
             have e6 : 2 * (k : Int) + 1 < l.length := by omega
             go_wp2_with fail
             go_region_law (first
               | (go_simp; go_at_call 30; refine (Hp.out _).mono ?_; rintro e w' ⟨rfl, rfl⟩)
               | (refine step_app TI2 rfl (.tmp 17) (.tmp 28) rfl w.heap.size u3 ((upZ l).take k) [pairZ x y] ⟨wr.heap.size, 0, none⟩ _ _ rfl rfl (Own.alloc hown _) rfl (cells_one' _ _ _) Hln.out (Nat.le_trans hB (by simp)) ?_; intro v2 w2 hown2 hg2))
             all_goals
               clear e1 e2 e3 e4 e5 e6
               have hb2 : Below w.heap.size wr w2 := below_app hg2 hB (fun g e => (hown.lt g e).1)
               clear hg2
               go_wp2
               go_roundw
               case rel => exact ⟨k + 1, by omega, int_eq (by omega), by rw [Htk.out]; exact hown2, hbel.trans hb2⟩
               case measure => simp [intOf]; omega
           · have h3 : ¬ 2 * (k : Int) + 1 < l.length := by omega
             rw [if_neg h2] at htk
             generalize l[2 * k] = x at *
             have Htk := Lib.hid htk; clear htk hg
             have Hc := Lib.hid hc; clear hc
             have e3 : (2 * (k : Int)).toNat = 2 * k := by omega
             go_wp2_with (at_builtin; refine wpList_push TI2 rfl (.tmp 30) (.tmp 35) rfl w.heap.size _ ((upZ l).take k) _ rfl hown hlt' rfl hB ?_; intro v2 w2 hown2 hg2)
             go_roundw
             case rel => exact ⟨k + 1, by omega, int_eq (by omega), by rw [Htk.out]; exact hown2, hbel.grown hg2 hB (fun g e => (hown.lt g e).1)⟩
             case measure => simp [intOf]; omega)
      · have hall : (upZ l).take k = upZ l := List.take_of_length_le (by omega)
        have Hall := Lib.hid hall; clear hall
        go_wp2
        go_ret
        exact ⟨_, rfl, by rw [← Hall.out]; exact hown, hbel⟩

theorem spec_MerkleRoot (a : Option Addr) (cap : Nat) (l : List Int) (w : World) (hbig : l.length ≤ 1099511627776) (hc : IntsAt w a l) :
    Calls Try.prog 22 #[.slice a l.length cap] w fun e w' => e = .returned (.int .i64 (mrZ l)) ∧ Below w.heap.size w w' := by
  have hl := spec_l2Leaves a cap l w hbig hc
  by_cases hv : leavesB l = true
  · rw [hv] at hl
    obtain ⟨hlen, hdig⟩ := leavesB_iff hv
    have Hf := Lib.hid (mrZ_yes hv); clear hv
    have Hl := Lib.hid hl; clear hl
    have Hd := Lib.hid hdig; clear hdig
    have Hc := Lib.hid hc; clear hc
    obtain ⟨hlen1, hlen2⟩ := hlen
    go_enter Try.func22, Try.ntmps22
    go_wp2_with fail
    refine Hl.out.mono ?_
    rintro e w' ⟨rfl, rfl⟩
    go_wp2_with fail
    go_loopw [3] (fun v wr => ∃ (l' : List Int) (n : Nat) (av : Option Addr) (cv : Nat), v = .slice av l'.length cv ∧ IntsAt wr av l' ∧ (∀ x ∈ l', digB x = true) ∧ l'.length ≤ 2 ^ n ∧ 1 ≤ l'.length ∧ l'.length ≤ 16 ∧ rootF n l' = rootF 4 l ∧ Below w.heap.size w wr) (fun v _ => lenOf v)
    case atStart => exact ⟨l, 4, a, cap, rfl, Hc.out, Hd.out, hlen2, hlen1, hlen2, rfl, Below.refl _ _⟩
    case round =>
      obtain ⟨l', n, av, cv, rfl, hi', hd', hp, h1, h16, hr, hbel⟩ := hrel
      have Hd' := Lib.hid hd'; clear hd'
      have Hr := Lib.hid hr; clear hr
      have Hp := Lib.hid hp; clear hp
      have Hi' := Lib.hid hi'; clear hi'
      by_cases hgt : 1 < l'.length
      · go_wp2_with fail
        refine (spec_l2Up av cv l' _ (by omega) Hd'.out Hi'.out).mono ?_
        rintro e w2 ⟨v2, rfl, hown2, hb2⟩
        obtain ⟨a2, c2, rfl, hi2, _⟩ := hown2.ints
        have Hi2 := Lib.hid hi2; clear hi2 hown2
        have hul := upZ_len l'
        have Hul := Lib.hid hul; clear hul
        go_wp2
        go_roundw
        case rel =>
          obtain ⟨m, rfl⟩ := pow_pos' Hp.out hgt
          exact ⟨upZ l', m, a2, c2, rfl, Hi2.out, upZ_dig l' Hd'.out, by rw [Hul.out]; exact pow_half Hp.out, by rw [Hul.out]; omega, by rw [Hul.out]; omega, (rootF_up hgt).symm.trans Hr.out, below_step hbel hbel.size hb2⟩
        case measure => simp only [lenOf]; rw [Hul.out]; omega
      · have hl1 : l'.length = 1 := by omega
        obtain ⟨b, off, rfl, hb, hcell⟩ := Hi'.out.cell (by omega)
        have hc0 := hcell 0 (by omega)
        have Hg := Lib.hid ((rootF_end hl1).symm.trans Hr.out)
        have Hl1 := Lib.hid hl1; clear hl1 hcell
        simp only [Nat.add_zero] at hc0
        have hpos : 0 < l'.length := by omega
        go_wp2
        go_ret
        exact ⟨ret_int (by rw [Hf.out, ← Hg.out, getD_get hpos]), hbel⟩
  · rw [Bool.not_eq_true] at hv
    rw [hv] at hl
    have Hf := Lib.hid (mrZ_no hv); clear hv
    have Hl := Lib.hid hl; clear hl
    go_enter Try.func22, Try.ntmps22
    go_wp2_with fail
    refine Hl.out.mono ?_
    rintro e w' ⟨rfl, rfl⟩
    go_wp2
    go_ret
    exact ⟨ret_int Hf.out.symm, Below.refl _ _⟩

theorem spec_MerkleProof (a : Option Addr) (cap : Nat) (l : List Int) (i : Int) (w : World) (hbig : l.length ≤ 1099511627776) (hc : IntsAt w a l) :
    Calls Try.prog 18 #[.slice a l.length cap, .int .i64 i] w fun e w' => ∃ v, e = .returned v ∧ Own 3 w' w.heap.size v (mpZ l i) ∧ Below w.heap.size w w' := by
  have Hab := Lib.hid (show ∀ b, a = some b → 0 < l.length → b.block < w.heap.size from fun b hb hl => by
    obtain ⟨b', hb', hlt⟩ := hc.block hl
    rw [hb] at hb'; cases hb'; exact hlt)
  have hb0 : Below w.heap.size w (w.alloc (.cells #[] 3)) := (Below.refl _ _).alloc (Nat.le_refl _) _
  have hl := spec_l2Leaves a cap l _ hbig (hc.below hb0)
  have ho0 := own_empty 3 w (Nat.le_refl _)
  have Ho0 := Lib.hid ho0; clear ho0
  by_cases hv : leavesB l = true
  · rw [hv] at hl
    obtain ⟨hlen, hdig⟩ := leavesB_iff hv
    have Hl := Lib.hid hl; clear hl
    have Hd := Lib.hid hdig; clear hdig
    have Hc := Lib.hid (hc.below hb0); clear hc
    obtain ⟨hlen1, hlen2⟩ := hlen
    by_cases hi : 0 ≤ i ∧ i ≤ (l.length : Int) - 1
    · have hin := fun w => spec_l6In_yes hi w
      have Hin := Lib.hid hin; clear hin
      obtain ⟨i, rfl⟩ := Int.eq_ofNat_of_zero_le hi.1
      have hil : i < l.length := by omega
      have Hf := Lib.hid (mpZ_yes hv hil); clear hv hi
      have hq := proofF_len 4 l i
      have Hq := Lib.hid hq; clear hq
      go_enter Try.func18, Try.ntmps18
      go_wp2_with fail
      refine Hl.out.mono ?_
      rintro e w' ⟨rfl, rfl⟩
      go_wp2_with fail
      refine (Hin.out _).mono ?_
      rintro e w' ⟨rfl, rfl⟩
      go_wp2_with fail
      go_loopw [1, 5, 6] (fun iv ov v wr => ∃ (l' ps : List Int) (n j : Nat) (av : Option Addr) (cv : Nat), v = .slice av l'.length cv ∧ iv = .int .i64 j ∧ j < l'.length ∧ IntsAt wr av l' ∧ (∀ x ∈ l', digB x = true) ∧ l'.length ≤ 2 ^ n ∧ l'.length ≤ 16 ∧ Own 3 wr w.heap.size ov ps ∧ ps ++ proofF n l' j = proofF 4 l i ∧ (∀ b, av = some b → ov.ownBlock ≠ some b.block) ∧ Below w.heap.size w wr) (fun _ _ v _ => lenOf v)
      case atStart =>
        refine ⟨l, [], 4, i, a, cap, rfl, rfl, hil, Hc.out, Hd.out, hlen2, hlen2, Ho0.out, rfl, fun b hb => ?_, hb0⟩
        have := Hab.out b hb (by omega)
        simp [Value.ownBlock]; omega
      case round =>
        obtain ⟨l', ps, n, j, av, cv, rfl, rfl, hj, hi', hd', hp, h16, hown, hr, hdis, hbel⟩ := hrel
        have hpl : ps.length ≤ 4 := by have := congrArg List.length hr; rw [List.length_append] at this; have := Hq.out; omega
        have Hd' := Lib.hid hd'; clear hd'
        have Hr := Lib.hid hr; clear hr
        have Hp := Lib.hid hp; clear hp
        have Hi' := Lib.hid hi'; clear hi'
        have Hown := Lib.hid hown; clear hown
        have Hdis := Lib.hid hdis; clear hdis
        have hB := hbel.size
        by_cases hgt : 1 < l'.length
        · have hsi := sib_int j
          have Hul := Lib.hid (upZ_len l')
          by_cases hs : sib j < l'.length
          · obtain ⟨b, off, rfl, hb, hcell⟩ := Hi'.out.cell (by omega)
            have hc0 := hcell (sib j) hs
            clear hcell
            go_wp2_with (at_builtin; refine wpList_push_at TI2 rfl (.tmp 35) (.tmp 40) rfl w.heap.size _ ps _ rfl Hown.out (by omega) rfl hB ?_; intro v2 w2 hown2 hg2 hat2; have Hown2 := Lib.hid hown2; have Hbg := Lib.hid (hbel.grown hg2 hB (fun g e => (Hown.out.lt g e).1)); have Hi2 := Lib.hid (Hi'.out.grown hg2 (fun b hb => Hdis.out b hb)); clear hown2 hg2)
            clear hsi
            have hsz2 := Hbg.out.size
            refine (spec_l2Up _ cv l' _ (by omega) Hd'.out Hi2.out).mono ?_
            rintro e w3 ⟨v3, rfl, hown3, hb3⟩
            obtain ⟨a3, c3, rfl, hi3, _⟩ := hown3.ints
            have Hi3 := Lib.hid hi3; clear hi3
            have Hown3 := Lib.hid hown3; clear hown3
            go_wp2
            go_roundw
            case rel =>
              obtain ⟨m, rfl⟩ := pow_pos' Hp.out hgt
              refine ⟨upZ l', _, m, j / 2, a3, c3, rfl, int_eq (by omega), by rw [Hul.out]; omega, Hi3.out, upZ_dig l' Hd'.out, by rw [Hul.out]; exact pow_half Hp.out, by rw [Hul.out]; omega, Hown2.out.below hb3, ?_, fun b' hb' e => ?_, below_step Hbg.out Hbg.out.size hb3⟩
              · rw [← Hr.out, proofF_sib hgt hs, getD_get hs, List.append_assoc]; rfl
              · have h1 := (Hown2.out.lt _ e).2
                have h2 := (Hown3.out.lt _ (ownBlock_slice b' hb')).1
                omega
            case measure => simp only [lenOf]; rw [Hul.out]; omega
          · go_wp2_with fail
            clear hsi
            refine (spec_l2Up av cv l' _ (by omega) Hd'.out Hi'.out).mono ?_
            rintro e w3 ⟨v3, rfl, hown3, hb3⟩
            obtain ⟨a3, c3, rfl, hi3, _⟩ := hown3.ints
            have Hi3 := Lib.hid hi3; clear hi3
            have Hown3 := Lib.hid hown3; clear hown3
            go_wp2
            go_roundw
            case rel =>
              obtain ⟨m, rfl⟩ := pow_pos' Hp.out hgt
              refine ⟨upZ l', ps, m, j / 2, a3, c3, rfl, int_eq (by omega), by rw [Hul.out]; omega, Hi3.out, upZ_dig l' Hd'.out, by rw [Hul.out]; exact pow_half Hp.out, by rw [Hul.out]; omega, Hown.out.below hb3, ?_, fun b' hb' e => ?_, below_step hbel hbel.size hb3⟩
              · rw [← Hr.out, proofF_lone hgt hs]
              · have h1 := (Hown.out.lt _ e).2
                have h2 := (Hown3.out.lt _ (ownBlock_slice b' hb')).1
                omega
            case measure => simp only [lenOf]; rw [Hul.out]; omega
        · have Hend := Lib.hid (proofF_end (n := n) (i := j) hgt)
          go_wp2
          go_ret
          refine ⟨_, rfl, ?_, hbel⟩
          have h1 := Hr.out
          rw [Hend.out, List.append_nil] at h1
          rw [Hf.out, ← h1]; exact Hown.out
    · have Hf := Lib.hid (mpZ_no (l := l) (i := i) (fun h => hi (by omega))); clear hv
      have Hin := Lib.hid (fun w => spec_l6In_no (n := i) (lo := 0) (hi := (l.length : Int) - 1) hi w)
      go_enter Try.func18, Try.ntmps18
      go_wp2_with fail
      refine Hl.out.mono ?_
      rintro e w' ⟨rfl, rfl⟩
      go_wp2_with fail
      refine (Hin.out _).mono ?_
      rintro e w' ⟨rfl, rfl⟩
      go_wp2
      go_ret
      exact ⟨_, rfl, by rw [Hf.out]; exact Ho0.out, hb0⟩
  · have Hf := Lib.hid (mpZ_no (l := l) (i := i) (fun h => hv h.1))
    rw [Bool.not_eq_true] at hv
    rw [hv] at hl
    have Hl := Lib.hid hl; clear hl
    clear hv
    go_enter Try.func18, Try.ntmps18
    go_wp2_with fail
    refine Hl.out.mono ?_
    rintro e w' ⟨rfl, rfl⟩
    go_wp2
    go_ret
    exact ⟨_, rfl, by rw [Hf.out]; exact Ho0.out, hb0⟩

