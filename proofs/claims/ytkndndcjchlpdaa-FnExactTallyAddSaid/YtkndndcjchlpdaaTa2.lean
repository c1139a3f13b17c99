/- The reference's l1Insert: a number put into an ascending list, by a walk of its text; condition: the list is ascending and shorter than 2^20. -/
import Derived.Test.YtkndndcjchlpdaaRows
import Derived.Test.YtkndndcjchlpdaaTa1
import Derived.Test.YtkndndcjchlpdaaSched
import Derived.Test.YtkndndcjchlpdaaTwo
import Derived.Deep.QuietTactic
import Derived.BigQuiet
namespace Go.Proofs.Ytkndndcjchlpdaa
open Go.RowKit

theorem TIa : IntT Try.prog 49 3 := ⟨Try.underlying49, by kernel_rfl⟩

set_option maxHeartbeats 8000000 in
set_option maxRecDepth 8000 in
theorem spec_l1Insert (a : Option Addr) (cap : Nat) (ms : List Int) (x : Int) (w : World) (hbig : ms.length ≤ 1048576) (hs : ms.Pairwise (· < ·)) (hcap : ms.length ≤ cap) (hi : IntsAt w a ms) (hsrc : SrcAt w a cap ms) :
    Calls Try.prog 58 #[.slice a ms.length cap, .int .i64 x] w fun e w' => ∃ v, e = .returned v ∧ Own 3 w' w.heap.size v (addZ ms x) ∧ Below w.heap.size w w' := by
  have Hs := Lib.hid hs
  have Hi := Lib.hid hi
  have Hsrc := Lib.hid hsrc
  clear hs hi hsrc
  go_enter Try.func58, Try.ntmps58
  go_wp2
  go_loop [5] (fun i => ∃ k : Nat, k ≤ ms.length ∧ i = .int .i64 k ∧ Hid (∀ m ∈ ms.take k, m < x)) (fun i => ms.length - (intOf i).toNat)
  case atStart => exact ⟨0, by omega, rfl, Lib.hid (by simp)⟩
  case round =>
    obtain ⟨k, hk, rfl, hup⟩ := hrel
    by_cases hlt : k < ms.length
    · obtain ⟨b, off, rfl, hb, hat⟩ := Hi.out.cell (by omega)
      have hc := hat k hlt
      have Hc := Lib.hid hc
      clear hat
      by_cases h1 : ms[k] < x
      · have Hst := Lib.hid (take_step hlt hup.out h1)
        go_wp2
        go_round
        case rel => exact ⟨k + 1, by omega, by go_num, Lib.hid Hst.out⟩
        case measure => simp [intOf]; omega
      by_cases h2 : ms[k] = x
      · have Hz := Lib.hid (ins_hit hlt h2)
        have h2' : (ms[k] == x) = true := by rw [beq_iff_eq]; exact h2
        clear h2
        have hb2 : Below w.heap.size w (w.alloc (.cells #[] 3)) := (Below.refl _ _).alloc (Nat.le_refl _) _
        have ho := own_empty 3 w (Nat.le_refl _)
        have Ho := Lib.hid ho
        have hzs : (w.alloc (.cells #[] 3)).heap.size = w.heap.size + 1 := by simp
        have Hsr2 := Lib.hid (Hsrc.out.lies Hi.out hb2)
        have Hb2 := Lib.hid hb2
        clear ho hb2
        go_wp2_with (at_builtin; refine wpList_appI TIa rfl _ _ rfl w.heap.size (.slice (some ⟨w.heap.size, 0, none⟩) 0 0) [] ms _ _ rfl Ho.out rfl Hsr2.out (by simp; omega) (by rw [hzs]; omega) ?_; intro v5 w5 hown hg5; (rw [List.nil_append] at hown))
        go_ret
        exact ⟨_, rfl, by rw [Hz.out.2]; exact hown, Hb2.out.grown hg5 (by omega) (fun g e => by cases e; exact Nat.le_refl _)⟩
      have h2' : (ms[k] == x) = false := by rw [beq_eq_false_iff_ne]; exact h2
      have hgt := Lib.hid (show ∀ hk : k < ms.length, x < ms[k] from fun _ => by omega)
      clear h2 Hc
      obtain ⟨hn1, hn2⟩ := ins_no Hs.out hk hup.out hgt.out
      have Hn2 := Lib.hid hn2
      obtain ⟨ht1, ht2, ad, ac, hd1, hd2⟩ := Hsrc.out.parts hcap hk
      have T1 := Lib.hid ht1; have T2 := Lib.hid ht2; have D1 := Lib.hid hd1; have D2 := Lib.hid hd2
      have hl1 : (ms.take k).length ≤ 1048576 := by rw [List.length_take]; omega
      have hl2 : (ms.drop k).length ≤ 1048576 := by rw [List.length_drop]; omega
      have HiT := Lib.hid (show ∀ W, Below w.heap.size w W → SrcAt W (some ⟨b, off, none⟩) cap (ms.take k) from fun W hb => (Hsrc.out.lies Hi.out hb).takeI k)
      have HiD := Lib.hid (show ∀ W, Below w.heap.size w W → SrcAt W ad ac (ms.drop k) from fun W hb => by obtain ⟨_, _, ad', ac', e1, e2⟩ := (Hsrc.out.lies Hi.out hb).parts hcap hk; have h9 := (hd1 w).symm.trans (e1 w); injection h9 with h9; injection h9 with h8 h9 h7; subst h8; subst h7; exact e2)
      clear ht1 ht2 hd1 hd2 hn1 hn2 T2 D2
      go_wp2_with fail
      refine wp_region_L 12 (fun _ => True) (by kernel_rfl) trivial (fun hH => ?_)
      have Hb := Lib.hid (show Below w.heap.size w w.drew from (Below.refl _ _).drew)
      have hz0 : w.heap.size ≤ w.drew.heap.size := Nat.le_refl _
      generalize w.drew = wd at *
      generalize ms.take k = G1 at *
      generalize ms.drop k = G2 at *
      refine takeL 1 (v := ?vra1) rfl (by kernel_rfl) (by kernel_rfl) (by kernel_rfl) (by kernel_rfl) (by kernel_rfl) (fun _ _ _ h => h) hH rfl ?yra1 ?rra1
      case yra1 => intro W hSw; go_simp; try with_reducible rfl
      try simp only [Act.put, List.setIfInBounds_toArray, List.set_cons_zero, List.set_cons_succ]
      refine takeL 2 (v := ?vra2) rfl (by kernel_rfl) (by kernel_rfl) (by kernel_rfl) (by kernel_rfl) (by kernel_rfl) (fun _ _ _ h => h) hH rfl ?yra2 ?rra2
      case yra2 => intro W hSw; go_simp; try with_reducible rfl
      try simp only [Act.put, List.setIfInBounds_toArray, List.set_cons_zero, List.set_cons_succ]
      refine takeL 3 (v := .slice (some ⟨b, off, none⟩) G1.length cap) rfl (by kernel_rfl) (by kernel_rfl) (by kernel_rfl) (by kernel_rfl) (by kernel_rfl) (fun _ _ _ h => h) hH rfl ?yra3 ?rra3
      case yra3 => intro W hSw; have hr := T1.out W; go_simp
      try simp only [Act.put, List.setIfInBounds_toArray, List.set_cons_zero, List.set_cons_succ]
      refine takeL 5 (v := ?vra4) rfl (by kernel_rfl) (by kernel_rfl) (by kernel_rfl) (by kernel_rfl) (by kernel_rfl) (fun _ _ _ h => h) hH rfl ?yra4 ?rra4
      case yra4 => intro W hSw; go_simp; try with_reducible rfl
      try simp only [Act.put, List.setIfInBounds_toArray, List.set_cons_zero, List.set_cons_succ]
      refine takeL 8 (v := ?vra5) rfl (by kernel_rfl) (by kernel_rfl) (by kernel_rfl) (by kernel_rfl) (by kernel_rfl) (fun _ _ _ h => h) hH rfl ?yra5 ?rra5
      case yra5 => intro W hSw; go_simp; try with_reducible rfl
      try simp only [Act.put, List.setIfInBounds_toArray, List.set_cons_zero, List.set_cons_succ]
      refine takeL 9 (v := ?vra6) rfl (by kernel_rfl) (by kernel_rfl) (by kernel_rfl) (by kernel_rfl) (by kernel_rfl) (fun _ _ _ h => h) hH rfl ?yra6 ?rra6
      case yra6 => intro W hSw; go_simp; try with_reducible rfl
      try simp only [Act.put, List.setIfInBounds_toArray, List.set_cons_zero, List.set_cons_succ]
      refine takeL 10 (v := .slice ad G2.length ac) rfl (by kernel_rfl) (by kernel_rfl) (by kernel_rfl) (by kernel_rfl) (by kernel_rfl) (fun _ _ _ h => h) hH rfl ?yra7 ?rra7
      case yra7 => intro W hSw; have hr := D1.out W; go_simp
      try simp only [Act.put, List.setIfInBounds_toArray, List.set_cons_zero, List.set_cons_succ]
      refine twoL 0 6 rfl rfl (by kernel_rfl) rfl rfl (fun K hK => ?_) (fun K hK => ?_)
      · skip
        go_simp
        have hal : Below wd.heap.size wd (wd.alloc (.cells #[] 3)) := (Below.refl _ _).alloc (Nat.le_refl _) _
        have oM := own_empty 3 wd (Nat.le_refl _)
        have hzw2 : wd.heap.size < (wd.alloc (.cells #[] 3)).heap.size := by simp
        have OM := Lib.hid oM
        have Hb := Lib.hid (below_step Hb.out Hb.out.size hal)
        clear oM hal
        refine hK.out _ _ trivial (fun hH => ?_)
        clear hK K
        try simp only [Act.put, List.setIfInBounds_toArray, List.set_cons_zero, List.set_cons_succ]
        generalize wd.alloc (.cells #[] 3) = w2 at *
        generalize hNB : wd.heap.size = NB at *
        refine twoL 4 6 rfl rfl (by kernel_rfl) rfl rfl (fun K hK => ?_) (fun K hK => ?_)
        · skip
          refine op_appI TIa (.tmp 35) (.tmp 38) rfl NB (Value.slice (some ⟨NB, 0, none⟩) 0 0) ([]) (G1) ((some ⟨b, off, none⟩)) (cap) rfl OM.out rfl (HiT.out _ Hb.out) (by simp; omega) (by omega) (fun u1 w3 ho9 hg9 => ?_)
          have hzw3 := hg9.size
          have Hb := Lib.hid (Hb.out.grown hg9 Hb.out.size (fun q e => by have := (OM.out.lt q e).1; omega))
          have OM := Lib.hid (show Own 3 w3 NB u1 (G1) from ho9)
          clear ho9 hg9
          refine hK.out _ _ trivial (fun hH => ?_)
          clear hK K
          try simp only [Act.put, List.setIfInBounds_toArray, List.set_cons_zero, List.set_cons_succ]
          refine callL 6 rfl (by kernel_rfl) rfl (fun K hK => ?_)
          go_simp
          have hal : Below w3.heap.size w3 (w3.alloc (.cells #[.int .i64 x] 3)) := (Below.refl _ _).alloc (Nat.le_refl _) _
          have sN := Str.new w3 3 #[.int .i64 x]
          have hzw4 : w3.heap.size < (w3.alloc (.cells #[.int .i64 x] 3)).heap.size := by simp
          have SP := Lib.hid sN
          have Hb := Lib.hid (below_step Hb.out Hb.out.size hal)
          have OM := Lib.hid (OM.out.below hal)
          clear sN hal
          refine hK.out _ _ trivial (fun hH => ?_)
          clear hK K
          try simp only [Act.put, List.setIfInBounds_toArray, List.set_cons_zero, List.set_cons_succ]
          generalize w3.alloc (.cells #[.int .i64 x] 3) = w4 at *
          generalize hPB : w3.heap.size = PB at *
          refine callL 7 rfl (by kernel_rfl) rfl (fun K hK => ?_)
          refine op_appI TIa (.tmp 39) (.tmp 41) rfl NB u1 (G1) ([x]) (some ⟨PB, 0, none⟩) (1) rfl OM.out rfl (src_one SP.out) (by simp; omega) (by omega) (fun u2 w8 ho9 hg9 => ?_)
          have hzw8 := hg9.size
          have Hb := Lib.hid (Hb.out.grown hg9 Hb.out.size (fun q e => by have := (OM.out.lt q e).1; omega))
          have OM := Lib.hid (show Own 3 w8 NB u2 (G1 ++ [x]) from ho9)
          clear ho9 hg9
          refine hK.out _ _ trivial (fun hH => ?_)
          clear hK K
          try simp only [Act.put, List.setIfInBounds_toArray, List.set_cons_zero, List.set_cons_succ]
          refine callL 11 rfl (by kernel_rfl) rfl (fun K hK => ?_)
          refine op_appI TIa (.tmp 42) (.tmp 45) rfl NB u2 (G1 ++ [x]) (G2) (ad) (ac) rfl OM.out rfl (HiD.out _ Hb.out) (by simp; omega) (by omega) (fun u3 w9 ho9 hg9 => ?_)
          have hzw9 := hg9.size
          have Hb := Lib.hid (Hb.out.grown hg9 Hb.out.size (fun q e => by have := (OM.out.lt q e).1; omega))
          have OM := Lib.hid (show Own 3 w9 NB u3 (G1 ++ [x] ++ G2) from ho9)
          clear ho9 hg9
          refine hK.out _ _ trivial (fun hH => ?_)
          clear hK K
          try simp only [Act.put, List.setIfInBounds_toArray, List.set_cons_zero, List.set_cons_succ]
          refine lastL rfl (by kernel_rfl) (by kernel_rfl) (by kernel_rfl) rfl (fun K hK => ?_)
          go_simp
          refine hK.out _ _ ?_
          clear hK K
          try simp only [Act.put]
          go_wp2
          go_ret
          exact ⟨_, rfl, by rw [Hn2.out, List.append_cons]; exact OM.out.mono (by omega), Hb.out⟩
        · skip
          go_simp
          have hal : Below w2.heap.size w2 (w2.alloc (.cells #[.int .i64 x] 3)) := (Below.refl _ _).alloc (Nat.le_refl _) _
          have sN := Str.new w2 3 #[.int .i64 x]
          have hzw3 : w2.heap.size < (w2.alloc (.cells #[.int .i64 x] 3)).heap.size := by simp
          have SP := Lib.hid sN
          have Hb := Lib.hid (below_step Hb.out Hb.out.size hal)
          have OM := Lib.hid (OM.out.below hal)
          clear sN hal
          refine hK.out _ _ trivial (fun hH => ?_)
          clear hK K
          try simp only [Act.put, List.setIfInBounds_toArray, List.set_cons_zero, List.set_cons_succ]
          generalize w2.alloc (.cells #[.int .i64 x] 3) = w3 at *
          generalize hPB : w2.heap.size = PB at *
          refine callL 4 rfl (by kernel_rfl) rfl (fun K hK => ?_)
          refine op_appI TIa (.tmp 35) (.tmp 38) rfl NB (Value.slice (some ⟨NB, 0, none⟩) 0 0) ([]) (G1) ((some ⟨b, off, none⟩)) (cap) rfl OM.out rfl (HiT.out _ Hb.out) (by simp; omega) (by omega) (fun u1 w4 ho9 hg9 => ?_)
          have hzw4 := hg9.size
          have Hb := Lib.hid (Hb.out.grown hg9 Hb.out.size (fun q e => by have := (OM.out.lt q e).1; omega))
          have SP := Lib.hid (SP.out.kept hg9 (fun e => by have h1 : some NB = some PB := e.symm; have := Option.some.inj h1; omega))
          have OM := Lib.hid (show Own 3 w4 NB u1 (G1) from ho9)
          clear ho9 hg9
          refine hK.out _ _ trivial (fun hH => ?_)
          clear hK K
          try simp only [Act.put, List.setIfInBounds_toArray, List.set_cons_zero, List.set_cons_succ]
          refine callL 7 rfl (by kernel_rfl) rfl (fun K hK => ?_)
          refine op_appI TIa (.tmp 39) (.tmp 41) rfl NB u1 (G1) ([x]) (some ⟨PB, 0, none⟩) (1) rfl OM.out rfl (src_one SP.out) (by simp; omega) (by omega) (fun u2 w8 ho9 hg9 => ?_)
          have hzw8 := hg9.size
          have Hb := Lib.hid (Hb.out.grown hg9 Hb.out.size (fun q e => by have := (OM.out.lt q e).1; omega))
          have OM := Lib.hid (show Own 3 w8 NB u2 (G1 ++ [x]) from ho9)
          clear ho9 hg9
          refine hK.out _ _ trivial (fun hH => ?_)
          clear hK K
          try simp only [Act.put, List.setIfInBounds_toArray, List.set_cons_zero, List.set_cons_succ]
          refine callL 11 rfl (by kernel_rfl) rfl (fun K hK => ?_)
          refine op_appI TIa (.tmp 42) (.tmp 45) rfl NB u2 (G1 ++ [x]) (G2) (ad) (ac) rfl OM.out rfl (HiD.out _ Hb.out) (by simp; omega) (by omega) (fun u3 w9 ho9 hg9 => ?_)
          have hzw9 := hg9.size
          have Hb := Lib.hid (Hb.out.grown hg9 Hb.out.size (fun q e => by have := (OM.out.lt q e).1; omega))
          have OM := Lib.hid (show Own 3 w9 NB u3 (G1 ++ [x] ++ G2) from ho9)
          clear ho9 hg9
          refine hK.out _ _ trivial (fun hH => ?_)
          clear hK K
          try simp only [Act.put, List.setIfInBounds_toArray, List.set_cons_zero, List.set_cons_succ]
          refine lastL rfl (by kernel_rfl) (by kernel_rfl) (by kernel_rfl) rfl (fun K hK => ?_)
          go_simp
          refine hK.out _ _ ?_
          clear hK K
          try simp only [Act.put]
          go_wp2
          go_ret
          exact ⟨_, rfl, by rw [Hn2.out, List.append_cons]; exact OM.out.mono (by omega), Hb.out⟩
      · skip
        go_simp
        have hal : Below wd.heap.size wd (wd.alloc (.cells #[.int .i64 x] 3)) := (Below.refl _ _).alloc (Nat.le_refl _) _
        have sN := Str.new wd 3 #[.int .i64 x]
        have hzw2 : wd.heap.size < (wd.alloc (.cells #[.int .i64 x] 3)).heap.size := by simp
        have SP := Lib.hid sN
        have Hb := Lib.hid (below_step Hb.out Hb.out.size hal)
        clear sN hal
        refine hK.out _ _ trivial (fun hH => ?_)
        clear hK K
        try simp only [Act.put, List.setIfInBounds_toArray, List.set_cons_zero, List.set_cons_succ]
        generalize wd.alloc (.cells #[.int .i64 x] 3) = w2 at *
        generalize hPB : wd.heap.size = PB at *
        refine callL 0 rfl (by kernel_rfl) rfl (fun K hK => ?_)
        go_simp
        have hal : Below w2.heap.size w2 (w2.alloc (.cells #[] 3)) := (Below.refl _ _).alloc (Nat.le_refl _) _
        have oM := own_empty 3 w2 (Nat.le_refl _)
        have hzw3 : w2.heap.size < (w2.alloc (.cells #[] 3)).heap.size := by simp
        have OM := Lib.hid oM
        have Hb := Lib.hid (below_step Hb.out Hb.out.size hal)
        have SP := Lib.hid (SP.out.alloc (.cells #[] 3))
        clear oM hal
        refine hK.out _ _ trivial (fun hH => ?_)
        clear hK K
        try simp only [Act.put, List.setIfInBounds_toArray, List.set_cons_zero, List.set_cons_succ]
        generalize w2.alloc (.cells #[] 3) = w3 at *
        generalize hNB : w2.heap.size = NB at *
        refine callL 4 rfl (by kernel_rfl) rfl (fun K hK => ?_)
        refine op_appI TIa (.tmp 35) (.tmp 38) rfl NB (Value.slice (some ⟨NB, 0, none⟩) 0 0) ([]) (G1) ((some ⟨b, off, none⟩)) (cap) rfl OM.out rfl (HiT.out _ Hb.out) (by simp; omega) (by omega) (fun u1 w4 ho9 hg9 => ?_)
        have hzw4 := hg9.size
        have Hb := Lib.hid (Hb.out.grown hg9 Hb.out.size (fun q e => by have := (OM.out.lt q e).1; omega))
        have SP := Lib.hid (SP.out.kept hg9 (fun e => by have h1 : some NB = some PB := e.symm; have := Option.some.inj h1; omega))
        have OM := Lib.hid (show Own 3 w4 NB u1 (G1) from ho9)
        clear ho9 hg9
        refine hK.out _ _ trivial (fun hH => ?_)
        clear hK K
        try simp only [Act.put, List.setIfInBounds_toArray, List.set_cons_zero, List.set_cons_succ]
        refine callL 7 rfl (by kernel_rfl) rfl (fun K hK => ?_)
        refine op_appI TIa (.tmp 39) (.tmp 41) rfl NB u1 (G1) ([x]) (some ⟨PB, 0, none⟩) (1) rfl OM.out rfl (src_one SP.out) (by simp; omega) (by omega) (fun u2 w8 ho9 hg9 => ?_)
        have hzw8 := hg9.size
        have Hb := Lib.hid (Hb.out.grown hg9 Hb.out.size (fun q e => by have := (OM.out.lt q e).1; omega))
        have OM := Lib.hid (show Own 3 w8 NB u2 (G1 ++ [x]) from ho9)
        clear ho9 hg9
        refine hK.out _ _ trivial (fun hH => ?_)
        clear hK K
        try simp only [Act.put, List.setIfInBounds_toArray, List.set_cons_zero, List.set_cons_succ]
        refine callL 11 rfl (by kernel_rfl) rfl (fun K hK => ?_)
        refine op_appI TIa (.tmp 42) (.tmp 45) rfl NB u2 (G1 ++ [x]) (G2) (ad) (ac) rfl OM.out rfl (HiD.out _ Hb.out) (by simp; omega) (by omega) (fun u3 w9 ho9 hg9 => ?_)
        have hzw9 := hg9.size
        have Hb := Lib.hid (Hb.out.grown hg9 Hb.out.size (fun q e => by have := (OM.out.lt q e).1; omega))
        have OM := Lib.hid (show Own 3 w9 NB u3 (G1 ++ [x] ++ G2) from ho9)
        clear ho9 hg9
        refine hK.out _ _ trivial (fun hH => ?_)
        clear hK K
        try simp only [Act.put, List.setIfInBounds_toArray, List.set_cons_zero, List.set_cons_succ]
        refine lastL rfl (by kernel_rfl) (by kernel_rfl) (by kernel_rfl) rfl (fun K hK => ?_)
        go_simp
        refine hK.out _ _ ?_
        clear hK K
        try simp only [Act.put]
        go_wp2
        go_ret
        exact ⟨_, rfl, by rw [Hn2.out, List.append_cons]; exact OM.out.mono (by omega), Hb.out⟩
    have hgt := Lib.hid (show ∀ hk : k < ms.length, x < ms[k] from fun h => absurd h hlt)
    obtain ⟨hn1, hn2⟩ := ins_no Hs.out hk hup.out hgt.out
    have Hn2 := Lib.hid hn2
    obtain ⟨ht1, ht2, ad, ac, hd1, hd2⟩ := Hsrc.out.parts hcap hk
    have T1 := Lib.hid ht1; have T2 := Lib.hid ht2; have D1 := Lib.hid hd1; have D2 := Lib.hid hd2
    have hl1 : (ms.take k).length ≤ 1048576 := by rw [List.length_take]; omega
    have hl2 : (ms.drop k).length ≤ 1048576 := by rw [List.length_drop]; omega
    have HiT := Lib.hid (show ∀ W, Below w.heap.size w W → SrcAt W a cap (ms.take k) from fun W hb => (Hsrc.out.lies Hi.out hb).takeI k)
    have HiD := Lib.hid (show ∀ W, Below w.heap.size w W → SrcAt W ad ac (ms.drop k) from fun W hb => by obtain ⟨_, _, ad', ac', e1, e2⟩ := (Hsrc.out.lies Hi.out hb).parts hcap hk; have h9 := (hd1 w).symm.trans (e1 w); injection h9 with h9; injection h9 with h8 h9 h7; subst h8; subst h7; exact e2)
    clear ht1 ht2 hd1 hd2 hn1 hn2 T2 D2
    go_wp2_with fail
    refine wp_region_L 12 (fun _ => True) (by kernel_rfl) trivial (fun hH => ?_)
    have Hb := Lib.hid (show Below w.heap.size w w.drew from (Below.refl _ _).drew)
    have hz0 : w.heap.size ≤ w.drew.heap.size := Nat.le_refl _
    generalize w.drew = wd at *
    generalize ms.take k = G1 at *
    generalize ms.drop k = G2 at *
    refine takeL 1 (v := ?vrb1) rfl (by kernel_rfl) (by kernel_rfl) (by kernel_rfl) (by kernel_rfl) (by kernel_rfl) (fun _ _ _ h => h) hH rfl ?yrb1 ?rrb1
    case yrb1 => intro W hSw; go_simp; try with_reducible rfl
    try simp only [Act.put, List.setIfInBounds_toArray, List.set_cons_zero, List.set_cons_succ]
    refine takeL 2 (v := ?vrb2) rfl (by kernel_rfl) (by kernel_rfl) (by kernel_rfl) (by kernel_rfl) (by kernel_rfl) (fun _ _ _ h => h) hH rfl ?yrb2 ?rrb2
    case yrb2 => intro W hSw; go_simp; try with_reducible rfl
    try simp only [Act.put, List.setIfInBounds_toArray, List.set_cons_zero, List.set_cons_succ]
    refine takeL 3 (v := .slice a G1.length cap) rfl (by kernel_rfl) (by kernel_rfl) (by kernel_rfl) (by kernel_rfl) (by kernel_rfl) (fun _ _ _ h => h) hH rfl ?yrb3 ?rrb3
    case yrb3 => intro W hSw; have hr := T1.out W; go_simp
    try simp only [Act.put, List.setIfInBounds_toArray, List.set_cons_zero, List.set_cons_succ]
    refine takeL 5 (v := ?vrb4) rfl (by kernel_rfl) (by kernel_rfl) (by kernel_rfl) (by kernel_rfl) (by kernel_rfl) (fun _ _ _ h => h) hH rfl ?yrb4 ?rrb4
    case yrb4 => intro W hSw; go_simp; try with_reducible rfl
    try simp only [Act.put, List.setIfInBounds_toArray, List.set_cons_zero, List.set_cons_succ]
    refine takeL 8 (v := ?vrb5) rfl (by kernel_rfl) (by kernel_rfl) (by kernel_rfl) (by kernel_rfl) (by kernel_rfl) (fun _ _ _ h => h) hH rfl ?yrb5 ?rrb5
    case yrb5 => intro W hSw; go_simp; try with_reducible rfl
    try simp only [Act.put, List.setIfInBounds_toArray, List.set_cons_zero, List.set_cons_succ]
    refine takeL 9 (v := ?vrb6) rfl (by kernel_rfl) (by kernel_rfl) (by kernel_rfl) (by kernel_rfl) (by kernel_rfl) (fun _ _ _ h => h) hH rfl ?yrb6 ?rrb6
    case yrb6 => intro W hSw; go_simp; try with_reducible rfl
    try simp only [Act.put, List.setIfInBounds_toArray, List.set_cons_zero, List.set_cons_succ]
    refine takeL 10 (v := .slice ad G2.length ac) rfl (by kernel_rfl) (by kernel_rfl) (by kernel_rfl) (by kernel_rfl) (by kernel_rfl) (fun _ _ _ h => h) hH rfl ?yrb7 ?rrb7
    case yrb7 => intro W hSw; have hr := D1.out W; go_simp
    try simp only [Act.put, List.setIfInBounds_toArray, List.set_cons_zero, List.set_cons_succ]
    refine twoL 0 6 rfl rfl (by kernel_rfl) rfl rfl (fun K hK => ?_) (fun K hK => ?_)
    · skip
      go_simp
      have hal : Below wd.heap.size wd (wd.alloc (.cells #[] 3)) := (Below.refl _ _).alloc (Nat.le_refl _) _
      have oM := own_empty 3 wd (Nat.le_refl _)
      have hzw2 : wd.heap.size < (wd.alloc (.cells #[] 3)).heap.size := by simp
      have OM := Lib.hid oM
      have Hb := Lib.hid (below_step Hb.out Hb.out.size hal)
      clear oM hal
      refine hK.out _ _ trivial (fun hH => ?_)
      clear hK K
      try simp only [Act.put, List.setIfInBounds_toArray, List.set_cons_zero, List.set_cons_succ]
      generalize wd.alloc (.cells #[] 3) = w2 at *
      generalize hNB : wd.heap.size = NB at *
      refine twoL 4 6 rfl rfl (by kernel_rfl) rfl rfl (fun K hK => ?_) (fun K hK => ?_)
      · skip
        refine op_appI TIa (.tmp 35) (.tmp 38) rfl NB (Value.slice (some ⟨NB, 0, none⟩) 0 0) ([]) (G1) (a) (cap) rfl OM.out rfl (HiT.out _ Hb.out) (by simp; omega) (by omega) (fun u1 w3 ho9 hg9 => ?_)
        have hzw3 := hg9.size
        have Hb := Lib.hid (Hb.out.grown hg9 Hb.out.size (fun q e => by have := (OM.out.lt q e).1; omega))
        have OM := Lib.hid (show Own 3 w3 NB u1 (G1) from ho9)
        clear ho9 hg9
        refine hK.out _ _ trivial (fun hH => ?_)
        clear hK K
        try simp only [Act.put, List.setIfInBounds_toArray, List.set_cons_zero, List.set_cons_succ]
        refine callL 6 rfl (by kernel_rfl) rfl (fun K hK => ?_)
        go_simp
        have hal : Below w3.heap.size w3 (w3.alloc (.cells #[.int .i64 x] 3)) := (Below.refl _ _).alloc (Nat.le_refl _) _
        have sN := Str.new w3 3 #[.int .i64 x]
        have hzw4 : w3.heap.size < (w3.alloc (.cells #[.int .i64 x] 3)).heap.size := by simp
        have SP := Lib.hid sN
        have Hb := Lib.hid (below_step Hb.out Hb.out.size hal)
        have OM := Lib.hid (OM.out.below hal)
        clear sN hal
        refine hK.out _ _ trivial (fun hH => ?_)
        clear hK K
        try simp only [Act.put, List.setIfInBounds_toArray, List.set_cons_zero, List.set_cons_succ]
        generalize w3.alloc (.cells #[.int .i64 x] 3) = w4 at *
        generalize hPB : w3.heap.size = PB at *
        refine callL 7 rfl (by kernel_rfl) rfl (fun K hK => ?_)
        refine op_appI TIa (.tmp 39) (.tmp 41) rfl NB u1 (G1) ([x]) (some ⟨PB, 0, none⟩) (1) rfl OM.out rfl (src_one SP.out) (by simp; omega) (by omega) (fun u2 w8 ho9 hg9 => ?_)
        have hzw8 := hg9.size
        have Hb := Lib.hid (Hb.out.grown hg9 Hb.out.size (fun q e => by have := (OM.out.lt q e).1; omega))
        have OM := Lib.hid (show Own 3 w8 NB u2 (G1 ++ [x]) from ho9)
        clear ho9 hg9
        refine hK.out _ _ trivial (fun hH => ?_)
        clear hK K
        try simp only [Act.put, List.setIfInBounds_toArray, List.set_cons_zero, List.set_cons_succ]
        refine callL 11 rfl (by kernel_rfl) rfl (fun K hK => ?_)
        refine op_appI TIa (.tmp 42) (.tmp 45) rfl NB u2 (G1 ++ [x]) (G2) (ad) (ac) rfl OM.out rfl (HiD.out _ Hb.out) (by simp; omega) (by omega) (fun u3 w9 ho9 hg9 => ?_)
        have hzw9 := hg9.size
        have Hb := Lib.hid (Hb.out.grown hg9 Hb.out.size (fun q e => by have := (OM.out.lt q e).1; omega))
        have OM := Lib.hid (show Own 3 w9 NB u3 (G1 ++ [x] ++ G2) from ho9)
        clear ho9 hg9
        refine hK.out _ _ trivial (fun hH => ?_)
        clear hK K
        try simp only [Act.put, List.setIfInBounds_toArray, List.set_cons_zero, List.set_cons_succ]
        refine lastL rfl (by kernel_rfl) (by kernel_rfl) (by kernel_rfl) rfl (fun K hK => ?_)
        go_simp
        refine hK.out _ _ ?_
        clear hK K
        try simp only [Act.put]
        go_wp2
        go_ret
        exact ⟨_, rfl, by rw [Hn2.out, List.append_cons]; exact OM.out.mono (by omega), Hb.out⟩
      · skip
        go_simp
        have hal : Below w2.heap.size w2 (w2.alloc (.cells #[.int .i64 x] 3)) := (Below.refl _ _).alloc (Nat.le_refl _) _
        have sN := Str.new w2 3 #[.int .i64 x]
        have hzw3 : w2.heap.size < (w2.alloc (.cells #[.int .i64 x] 3)).heap.size := by simp
        have SP := Lib.hid sN
        have Hb := Lib.hid (below_step Hb.out Hb.out.size hal)
        have OM := Lib.hid (OM.out.below hal)
        clear sN hal
        refine hK.out _ _ trivial (fun hH => ?_)
        clear hK K
        try simp only [Act.put, List.setIfInBounds_toArray, List.set_cons_zero, List.set_cons_succ]
        generalize w2.alloc (.cells #[.int .i64 x] 3) = w3 at *
        generalize hPB : w2.heap.size = PB at *
        refine callL 4 rfl (by kernel_rfl) rfl (fun K hK => ?_)
        refine op_appI TIa (.tmp 35) (.tmp 38) rfl NB (Value.slice (some ⟨NB, 0, none⟩) 0 0) ([]) (G1) (a) (cap) rfl OM.out rfl (HiT.out _ Hb.out) (by simp; omega) (by omega) (fun u1 w4 ho9 hg9 => ?_)
        have hzw4 := hg9.size
        have Hb := Lib.hid (Hb.out.grown hg9 Hb.out.size (fun q e => by have := (OM.out.lt q e).1; omega))
        have SP := Lib.hid (SP.out.kept hg9 (fun e => by have h1 : some NB = some PB := e.symm; have := Option.some.inj h1; omega))
        have OM := Lib.hid (show Own 3 w4 NB u1 (G1) from ho9)
        clear ho9 hg9
        refine hK.out _ _ trivial (fun hH => ?_)
        clear hK K
        try simp only [Act.put, List.setIfInBounds_toArray, List.set_cons_zero, List.set_cons_succ]
        refine callL 7 rfl (by kernel_rfl) rfl (fun K hK => ?_)
        refine op_appI TIa (.tmp 39) (.tmp 41) rfl NB u1 (G1) ([x]) (some ⟨PB, 0, none⟩) (1) rfl OM.out rfl (src_one SP.out) (by simp; omega) (by omega) (fun u2 w8 ho9 hg9 => ?_)
        have hzw8 := hg9.size
        have Hb := Lib.hid (Hb.out.grown hg9 Hb.out.size (fun q e => by have := (OM.out.lt q e).1; omega))
        have OM := Lib.hid (show Own 3 w8 NB u2 (G1 ++ [x]) from ho9)
        clear ho9 hg9
        refine hK.out _ _ trivial (fun hH => ?_)
        clear hK K
        try simp only [Act.put, List.setIfInBounds_toArray, List.set_cons_zero, List.set_cons_succ]
        refine callL 11 rfl (by kernel_rfl) rfl (fun K hK => ?_)
        refine op_appI TIa (.tmp 42) (.tmp 45) rfl NB u2 (G1 ++ [x]) (G2) (ad) (ac) rfl OM.out rfl (HiD.out _ Hb.out) (by simp; omega) (by omega) (fun u3 w9 ho9 hg9 => ?_)
        have hzw9 := hg9.size
        have Hb := Lib.hid (Hb.out.grown hg9 Hb.out.size (fun q e => by have := (OM.out.lt q e).1; omega))
        have OM := Lib.hid (show Own 3 w9 NB u3 (G1 ++ [x] ++ G2) from ho9)
        clear ho9 hg9
        refine hK.out _ _ trivial (fun hH => ?_)
        clear hK K
        try simp only [Act.put, List.setIfInBounds_toArray, List.set_cons_zero, List.set_cons_succ]
        refine lastL rfl (by kernel_rfl) (by kernel_rfl) (by kernel_rfl) rfl (fun K hK => ?_)
        go_simp
        refine hK.out _ _ ?_
        clear hK K
        try simp only [Act.put]
        go_wp2
        go_ret
        exact ⟨_, rfl, by rw [Hn2.out, List.append_cons]; exact OM.out.mono (by omega), Hb.out⟩
    · skip
      go_simp
      have hal : Below wd.heap.size wd (wd.alloc (.cells #[.int .i64 x] 3)) := (Below.refl _ _).alloc (Nat.le_refl _) _
      have sN := Str.new wd 3 #[.int .i64 x]
      have hzw2 : wd.heap.size < (wd.alloc (.cells #[.int .i64 x] 3)).heap.size := by simp
      have SP := Lib.hid sN
      have Hb := Lib.hid (below_step Hb.out Hb.out.size hal)
      clear sN hal
      refine hK.out _ _ trivial (fun hH => ?_)
      clear hK K
      try simp only [Act.put, List.setIfInBounds_toArray, List.set_cons_zero, List.set_cons_succ]
      generalize wd.alloc (.cells #[.int .i64 x] 3) = w2 at *
      generalize hPB : wd.heap.size = PB at *
      refine callL 0 rfl (by kernel_rfl) rfl (fun K hK => ?_)
      go_simp
      have hal : Below w2.heap.size w2 (w2.alloc (.cells #[] 3)) := (Below.refl _ _).alloc (Nat.le_refl _) _
      have oM := own_empty 3 w2 (Nat.le_refl _)
      have hzw3 : w2.heap.size < (w2.alloc (.cells #[] 3)).heap.size := by simp
      have OM := Lib.hid oM
      have Hb := Lib.hid (below_step Hb.out Hb.out.size hal)
      have SP := Lib.hid (SP.out.alloc (.cells #[] 3))
      clear oM hal
      refine hK.out _ _ trivial (fun hH => ?_)
      clear hK K
      try simp only [Act.put, List.setIfInBounds_toArray, List.set_cons_zero, List.set_cons_succ]
      generalize w2.alloc (.cells #[] 3) = w3 at *
      generalize hNB : w2.heap.size = NB at *
      refine callL 4 rfl (by kernel_rfl) rfl (fun K hK => ?_)
      refine op_appI TIa (.tmp 35) (.tmp 38) rfl NB (Value.slice (some ⟨NB, 0, none⟩) 0 0) ([]) (G1) (a) (cap) rfl OM.out rfl (HiT.out _ Hb.out) (by simp; omega) (by omega) (fun u1 w4 ho9 hg9 => ?_)
      have hzw4 := hg9.size
      have Hb := Lib.hid (Hb.out.grown hg9 Hb.out.size (fun q e => by have := (OM.out.lt q e).1; omega))
      have SP := Lib.hid (SP.out.kept hg9 (fun e => by have h1 : some NB = some PB := e.symm; have := Option.some.inj h1; omega))
      have OM := Lib.hid (show Own 3 w4 NB u1 (G1) from ho9)
      clear ho9 hg9
      refine hK.out _ _ trivial (fun hH => ?_)
      clear hK K
      try simp only [Act.put, List.setIfInBounds_toArray, List.set_cons_zero, List.set_cons_succ]
      refine callL 7 rfl (by kernel_rfl) rfl (fun K hK => ?_)
      refine op_appI TIa (.tmp 39) (.tmp 41) rfl NB u1 (G1) ([x]) (some ⟨PB, 0, none⟩) (1) rfl OM.out rfl (src_one SP.out) (by simp; omega) (by omega) (fun u2 w8 ho9 hg9 => ?_)
      have hzw8 := hg9.size
      have Hb := Lib.hid (Hb.out.grown hg9 Hb.out.size (fun q e => by have := (OM.out.lt q e).1; omega))
      have OM := Lib.hid (show Own 3 w8 NB u2 (G1 ++ [x]) from ho9)
      clear ho9 hg9
      refine hK.out _ _ trivial (fun hH => ?_)
      clear hK K
      try simp only [Act.put, List.setIfInBounds_toArray, List.set_cons_zero, List.set_cons_succ]
      refine callL 11 rfl (by kernel_rfl) rfl (fun K hK => ?_)
      refine op_appI TIa (.tmp 42) (.tmp 45) rfl NB u2 (G1 ++ [x]) (G2) (ad) (ac) rfl OM.out rfl (HiD.out _ Hb.out) (by simp; omega) (by omega) (fun u3 w9 ho9 hg9 => ?_)
      have hzw9 := hg9.size
      have Hb := Lib.hid (Hb.out.grown hg9 Hb.out.size (fun q e => by have := (OM.out.lt q e).1; omega))
      have OM := Lib.hid (show Own 3 w9 NB u3 (G1 ++ [x] ++ G2) from ho9)
      clear ho9 hg9
      refine hK.out _ _ trivial (fun hH => ?_)
      clear hK K
      try simp only [Act.put, List.setIfInBounds_toArray, List.set_cons_zero, List.set_cons_succ]
      refine lastL rfl (by kernel_rfl) (by kernel_rfl) (by kernel_rfl) rfl (fun K hK => ?_)
      go_simp
      refine hK.out _ _ ?_
      clear hK K
      try simp only [Act.put]
      go_wp2
      go_ret
      exact ⟨_, rfl, by rw [Hn2.out, List.append_cons]; exact OM.out.mono (by omega), Hb.out⟩

end Go.Proofs.Ytkndndcjchlpdaa
