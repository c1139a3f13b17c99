/- Whether a shard belongs to data, as spec reckons it, and the exact laws' copies and sizes of a shard, each by a walk of its text; conditions: a list that is read has fewer than 2^40 elements, the numbers are ints. -/
import Derived.Test.YtgflffcogdkgfabH3
import Derived.Test.YtgflffcogdkgfabL1
import Derived.Test.YtgflffcogdkgfabL2
import Derived.Test.YtgflffcogdkgfabOpen
namespace Go.Proofs.Ytgflffcogdkgfab
open Go.RowKit

/-- A shard that came in by value. -/
theorem open_shard {H : Type} {enc : TypeId × Value → H} {W : World} {base : Nat} {v : Value} {d : DataW H} {p : List MemPlace} (hv : Value.okWide Try.prog W .any base 48 v) (h : DataW.Trod enc Try.prog W 0 (fun _ => true) true 48 v d p) :
    ∃ n a cap xs, v = .agg #[.int .i64 n, .slice a xs.length cap] ∧ (-9223372036854775808 ≤ n ∧ n ≤ 9223372036854775807) ∧ xs.length ≤ maxLen ∧ IntsAt W a xs := by
  obtain ⟨cs, rfl, hl, hf⟩ := open_struct (Gs := [IntG, RowsG [IntG]]) Try.underlying48 (by kernel_rfl) rfl (fun j h h' => by
    match j, h, h' with
    | 0, _, _ => exact ⟨rfl, opens_int Try.underlying3 (by kernel_rfl)⟩
    | 1, _, _ => exact ⟨rfl, opens_slice Try.underlying23 (by kernel_rfl) (opens_int Try.underlying3 (by kernel_rfl))⟩) hv h
  match cs, hl with
  | [c0, c1], _ =>
    obtain ⟨d0, f0, r0, n, rfl, hn⟩ := hf 0 (by simp) (by simp)
    obtain ⟨d1, f1, r1, g1⟩ := hf 1 (by simp) (by simp)
    obtain ⟨xs, rfl, hx, _⟩ := ints_of g1
    obtain ⟨rfl, _⟩ := Rd.int (show Rd W (.i n) c0 f0 from r0)
    obtain ⟨a, cap, rfl, _, hi⟩ := Rd.ints (show Rd W (intsD xs) c1 f1 from r1)
    exact ⟨n, a, cap, xs, rfl, hn, hx, hi⟩

theorem spec_l3Same (n : Int) (a a' : Option Addr) (c c' : Nat) (xs ys : List Int) (w : World) (hbig : xs.length ≤ 1099511627776) (hbig' : ys.length ≤ 1099511627776) (hc : IntsAt w a xs) (hc' : IntsAt w a' ys) :
    Calls Try.prog 48 #[.agg #[.int .i64 n, .slice a xs.length c], .agg #[.int .i64 n, .slice a' ys.length c']] w fun e w' => e = .returned (.bool (decide (xs = ys))) ∧ Below w.heap.size w w' := by
  have hb0 : Below w.heap.size w ((w.alloc (.cells #[.int .i64 n, .slice a xs.length c] 30)).alloc (.cells #[.int .i64 n, .slice a' ys.length c'] 30)) := ((Below.refl _ w).alloc (Nat.le_refl _) _).alloc (by simp) _
  have s0 := (Str.new w 30 #[.int .i64 n, .slice a xs.length c]).alloc (.cells #[.int .i64 n, .slice a' ys.length c'] 30)
  have s1 := Str.new (w.alloc (.cells #[.int .i64 n, .slice a xs.length c] 30)) 30 #[.int .i64 n, .slice a' ys.length c']
  simp only [World.size_alloc] at s1
  have e00 := s0.cell 0 (v := .int .i64 n) rfl
  have e01 := s0.cell 1 (v := .slice a xs.length c) rfl
  have e10 := s1.cell 0 (v := .int .i64 n) rfl
  have e11 := s1.cell 1 (v := .slice a' ys.length c') rfl
  have hc := hc.below hb0
  have hc' := hc'.below hb0
  clear s0 s1
  by_cases hl : xs.length = ys.length
  · have hql : ((xs.length : Int) != (ys.length : Int)) = false := by rw [hl]; simp
    have Hl := Lib.hid hl; clear hl
    go_enter Try.func48, Try.ntmps48
    go_wp2
    generalize (w.alloc (.cells #[.int .i64 n, .slice a xs.length c] 30)).alloc (.cells #[.int .i64 n, .slice a' ys.length c'] 30) = W1 at *
    go_loopw [5] (fun i wr => ∃ k : Nat, k ≤ xs.length ∧ i = .int .i64 k ∧ EqTo xs ys k ∧ Drawn W1 wr) (fun i _ => xs.length - (intOf i).toNat)
    case atStart => exact ⟨0, by omega, rfl, fun j _ _ h => by omega, Drawn.refl _⟩
    case round =>
      obtain ⟨k, hk, rfl, heq, hdr⟩ := hrel
      have Heq := Lib.hid heq; clear heq
      have d01 := (hdr.cell _).trans e01
      have d11 := (hdr.cell _).trans e11
      by_cases hlt : k < xs.length
      · have hlt' : k < ys.length := by have := Hl.out; omega
        obtain ⟨b, off, rfl, hb, hcs⟩ := hc.cell (by omega)
        obtain ⟨b', off', rfl, hb', hcs'⟩ := hc'.cell (by omega)
        have c1 := (hdr.cell _).trans (hcs k hlt)
        have c2 := (hdr.cell _).trans (hcs' k hlt')
        have Hb0 := Lib.hid hb0
        clear hcs hcs' hc hc' hb0
        by_cases he : xs[k] = ys[k]
        · have Hs := Lib.hid (eqTo_step Heq.out hlt hlt' he)
          rw [← he] at c2
          clear he
          generalize xs[k] = z at *
          go_wp2_with fail
          go_quiet (fail)
          go_wp2
          go_roundw
          case rel => exact ⟨k + 1, by omega, by go_num, Hs.out, hdr.drewN _⟩
          case measure => simp [intOf]; omega
        · have Hf := Lib.hid (show decide (xs = ys) = false from decide_eq_false fun e => he (by subst e; rfl))
          have hq : (xs[k] != ys[k]) = true := by simpa using he
          clear he
          generalize xs[k] = z at *
          generalize ys[k] = y at *
          go_wp2_with fail
          go_quiet (fail)
          go_wp2
          go_ret
          exact ⟨ret_bool Hf.out.symm, Hb0.out.trans ((hdr.drewN _).below _)⟩
      · have Hf := Lib.hid (show decide (xs = ys) = true from decide_eq_true (eqTo_all Heq.out (by omega) Hl.out))
        go_wp2
        go_ret
        exact ⟨ret_bool Hf.out.symm, hb0.trans (hdr.below _)⟩
  · have Hf := Lib.hid (show decide (xs = ys) = false from decide_eq_false fun e => hl (by rw [e]))
    have hq : ((xs.length : Int) != (ys.length : Int)) = true := by simp; omega
    clear hc hc' e00 e01 e10 e11
    go_enter Try.func48, Try.ntmps48
    go_wp2
    go_ret
    exact ⟨ret_bool Hf.out.symm, hb0⟩

set_option maxHeartbeats 1000000 in
theorem spec_ShardMatches (a : Option Addr) (cap : Nat) (d : List Int) (need x : Int) (av : Option Addr) (cv : Nat) (vs : List Int) (w : World) (hbig : d.length ≤ 1099511627776) (hvbig : vs.length ≤ 1099511627776) (hc : IntsAt w a d) (hv : IntsAt w av vs) :
    Calls Try.prog 29 #[.slice a d.length cap, .int .i64 need, .agg #[.int .i64 x, .slice av vs.length cv]] w fun e w' => e = .returned (.bool (matB d need (x, vs))) ∧ Below w.heap.size w w' := by
  have hb0 : Below w.heap.size w (w.alloc (.cells #[.int .i64 x, .slice av vs.length cv] 30)) := (Below.refl _ _).alloc (Nat.le_refl _) _
  have S0 := Str.new w 30 #[.int .i64 x, .slice av vs.length cv]
  have e0 := S0.cell 0 (v := .int .i64 x) rfl
  have e1 := S0.cell 1 (v := .slice av vs.length cv) rfl
  clear S0
  have hc1 := hc.below hb0
  have hv1 := hv.below hb0
  clear hc hv
  cases hd : dataB d need with
  | false =>
    have Hf := Lib.hid (show matB d need (x, vs) = false by unfold matB; rw [hd]; rfl)
    go_enter Try.func29, Try.ntmps29
    go_wp2_with fail
    generalize w.alloc (.cells #[.int .i64 x, .slice av vs.length cv] 30) = W1 at *
    have hdt := spec_l3Data a cap d need W1.drew hbig hc1
    rw [hd] at hdt
    have Hdt := Lib.hid hdt; clear hdt hd hc1 hv1
    refine wp_region_held_drew (S := fun w' => w'.cell? ⟨w.heap.size, 0, none⟩ = some (.int .i64 x) ∧ w'.cell? ⟨w.heap.size, 1, none⟩ = some (.slice av vs.length cv)) (by kernel_rfl) ⟨e0, e1⟩ (fun hH => ?_)
    refine takeH 0 (v := ?va0) rfl (by kernel_rfl) (by kernel_rfl) (by kernel_rfl) (fun _ _ _ h => h) hH rfl ?ya0 ?ra0
    case ya0 => intro W hSw; go_simp; try with_reducible rfl
    try simp only [Act.put, List.setIfInBounds_toArray, List.set_cons_zero, List.set_cons_succ]
    refine takeH 1 (v := ?va1) rfl (by kernel_rfl) (by kernel_rfl) (by kernel_rfl) (fun _ _ _ h => h) hH rfl ?ya1 ?ra1
    case ya1 => intro W hSw; go_simp; try with_reducible rfl
    try simp only [Act.put, List.setIfInBounds_toArray, List.set_cons_zero, List.set_cons_succ]
    refine callH 2 rfl (by kernel_rfl) rfl (fun K hK => ?_)
    go_simp
    refine (Hdt.out).mono ?_
    rintro e w' ⟨rfl, rfl⟩
    dsimp only
    refine hK.out _ _ hH (fun hH => ?_)
    clear hK K
    try simp only [Act.put, List.setIfInBounds_toArray, List.set_cons_zero, List.set_cons_succ]
    refine takeH 3 (v := ?va3) rfl (by kernel_rfl) (by kernel_rfl) (by kernel_rfl) (fun _ _ _ h => h) hH rfl ?ya3 ?ra3
    case ya3 => intro W hSw; go_simp; try with_reducible rfl
    try simp only [Act.put, List.setIfInBounds_toArray, List.set_cons_zero, List.set_cons_succ]
    refine skipH 4 rfl (by kernel_rfl) (by kernel_rfl) (by kernel_rfl) (fun _ _ _ h => h) hH rfl ?_
    try simp only [Act.put, List.setIfInBounds_toArray, List.set_cons_zero, List.set_cons_succ]
    refine skipH 5 rfl (by kernel_rfl) (by kernel_rfl) (by kernel_rfl) (fun _ _ _ h => h) hH rfl ?_
    try simp only [Act.put, List.setIfInBounds_toArray, List.set_cons_zero, List.set_cons_succ]
    refine skipH 6 rfl (by kernel_rfl) (by kernel_rfl) (by kernel_rfl) (fun _ _ _ h => h) hH rfl ?_
    try simp only [Act.put, List.setIfInBounds_toArray, List.set_cons_zero, List.set_cons_succ]
    refine takeH 7 (v := ?va7) rfl (by kernel_rfl) (by kernel_rfl) (by kernel_rfl) (fun _ _ _ h => h) hH rfl ?ya7 ?ra7
    case ya7 => intro W hSw; go_simp; try with_reducible rfl
    try simp only [Act.put, List.setIfInBounds_toArray, List.set_cons_zero, List.set_cons_succ]
    refine takeH 8 (v := ?va8) rfl (by kernel_rfl) (by kernel_rfl) (by kernel_rfl) (fun _ _ _ h => h) hH rfl ?ya8 ?ra8
    case ya8 => intro W hSw; go_simp; try with_reducible rfl
    try simp only [Act.put, List.setIfInBounds_toArray, List.set_cons_zero, List.set_cons_succ]
    refine skipH 9 rfl (by kernel_rfl) (by kernel_rfl) (by kernel_rfl) (fun _ _ _ h => h) hH rfl ?_
    try simp only [Act.put, List.setIfInBounds_toArray, List.set_cons_zero, List.set_cons_succ]
    refine skipH 10 rfl (by kernel_rfl) (by kernel_rfl) (by kernel_rfl) (fun _ _ _ h => h) hH rfl ?_
    try simp only [Act.put, List.setIfInBounds_toArray, List.set_cons_zero, List.set_cons_succ]
    refine skipH 11 rfl (by kernel_rfl) (by kernel_rfl) (by kernel_rfl) (fun _ _ _ h => h) hH rfl ?_
    try simp only [Act.put, List.setIfInBounds_toArray, List.set_cons_zero, List.set_cons_succ]
    refine skipH 12 rfl (by kernel_rfl) (by kernel_rfl) (by kernel_rfl) (fun _ _ _ h => h) hH rfl ?_
    try simp only [Act.put, List.setIfInBounds_toArray, List.set_cons_zero, List.set_cons_succ]
    refine skipH 13 rfl (by kernel_rfl) (by kernel_rfl) (by kernel_rfl) (fun _ _ _ h => h) hH rfl ?_
    try simp only [Act.put, List.setIfInBounds_toArray, List.set_cons_zero, List.set_cons_succ]
    refine skipH 14 rfl (by kernel_rfl) (by kernel_rfl) (by kernel_rfl) (fun _ _ _ h => h) hH rfl ?_
    try simp only [Act.put, List.setIfInBounds_toArray, List.set_cons_zero, List.set_cons_succ]
    refine skipH 15 rfl (by kernel_rfl) (by kernel_rfl) (by kernel_rfl) (fun _ _ _ h => h) hH rfl ?_
    try simp only [Act.put, List.setIfInBounds_toArray, List.set_cons_zero, List.set_cons_succ]
    refine takeH 16 (v := ?va16) rfl (by kernel_rfl) (by kernel_rfl) (by kernel_rfl) (fun _ _ _ h => h) hH rfl ?ya16 ?ra16
    case ya16 => intro W hSw; go_simp; try with_reducible rfl
    try simp only [Act.put, List.setIfInBounds_toArray, List.set_cons_zero, List.set_cons_succ]
    refine takeH 17 (v := ?va17) rfl (by kernel_rfl) (by kernel_rfl) (by kernel_rfl) (fun _ _ _ h => h) hH rfl ?ya17 ?ra17
    case ya17 => intro W hSw; go_simp; try with_reducible rfl
    try simp only [Act.put, List.setIfInBounds_toArray, List.set_cons_zero, List.set_cons_succ]
    refine wpAnyH_done (by kernel_rfl) ?_ _
    try simp only [Act.put]
    go_wp2
    go_ret
    exact ⟨ret_bool Hf.out.symm, hb0.drew⟩
  | true =>
    obtain ⟨hsym, ⟨hd1, hd2⟩, hn1, hn8⟩ := dataB_iff hd
    obtain ⟨need, rfl⟩ := Int.eq_ofNat_of_zero_le (show 0 ≤ need by omega)
    by_cases hX : 1 ≤ x ∧ x ≤ 8
    · have hxm := fun w => spec_l6In_yes hX w
      have Hxm := Lib.hid hxm; clear hxm
      have Hf := Lib.hid (matB_yes (s := (x, vs)) hd hX)
      obtain ⟨y, hy⟩ : ∃ y : Nat, x = (y : Int) := ⟨x.toNat, by omega⟩
      have hsh := fun W h => spec_l3Shard a cap d need y W hsym hd2 (by omega) (by omega) (by omega) h
      rw [← hy] at hsh
      have Hsh := Lib.hid hsh
      clear hsh hy
      have hcol := cols_le (d := d) (need := need) (by omega) hd2
      have hsv : (shardV d need x).length ≤ 12 := by rw [shardV_len]; exact hcol
      clear hsym
      have hsz1 : w.heap.size < (w.alloc (.cells #[.int .i64 x, .slice av vs.length cv] 30)).heap.size := by simp
      have Hc := Lib.hid hc1
      have Hv := Lib.hid hv1; clear hv1
      have Hb0 := Lib.hid hb0; clear hb0
      go_enter Try.func29, Try.ntmps29
      go_wp2_with fail
      generalize w.alloc (.cells #[.int .i64 x, .slice av vs.length cv] 30) = W1 at *
      have hdt := spec_l3Data a cap d need W1.drew hbig hc1
      rw [hd] at hdt
      have Hdt := Lib.hid hdt; clear hdt hd hc1
      refine wp_region_held_drew (S := fun w' => w'.cell? ⟨w.heap.size, 0, none⟩ = some (.int .i64 x) ∧ w'.cell? ⟨w.heap.size, 1, none⟩ = some (.slice av vs.length cv)) (by kernel_rfl) ⟨e0, e1⟩ (fun hH => ?_)
      refine takeH 0 (v := ?vc0) rfl (by kernel_rfl) (by kernel_rfl) (by kernel_rfl) (fun _ _ _ h => h) hH rfl ?yc0 ?rc0
      case yc0 => intro W hSw; go_simp; try with_reducible rfl
      try simp only [Act.put, List.setIfInBounds_toArray, List.set_cons_zero, List.set_cons_succ]
      refine takeH 1 (v := ?vc1) rfl (by kernel_rfl) (by kernel_rfl) (by kernel_rfl) (fun _ _ _ h => h) hH rfl ?yc1 ?rc1
      case yc1 => intro W hSw; go_simp; try with_reducible rfl
      try simp only [Act.put, List.setIfInBounds_toArray, List.set_cons_zero, List.set_cons_succ]
      refine callH 2 rfl (by kernel_rfl) rfl (fun K hK => ?_)
      go_simp
      refine (Hdt.out).mono ?_
      rintro e w' ⟨rfl, rfl⟩
      dsimp only
      refine hK.out _ _ hH (fun hH => ?_)
      clear hK K
      try simp only [Act.put, List.setIfInBounds_toArray, List.set_cons_zero, List.set_cons_succ]
      refine takeH 3 (v := ?vc3) rfl (by kernel_rfl) (by kernel_rfl) (by kernel_rfl) (fun _ _ _ h => h) hH rfl ?yc3 ?rc3
      case yc3 => intro W hSw; go_simp; try with_reducible rfl
      try simp only [Act.put, List.setIfInBounds_toArray, List.set_cons_zero, List.set_cons_succ]
      refine takeH 4 (v := ?vc4) rfl (by kernel_rfl) (by kernel_rfl) (by kernel_rfl) (fun _ _ _ h => h) hH rfl ?yc4 ?rc4
      case yc4 => intro W hSw; go_simp; try with_reducible rfl
      try simp only [Act.put, List.setIfInBounds_toArray, List.set_cons_zero, List.set_cons_succ]
      refine takeH 5 (v := ?vc5) rfl (by kernel_rfl) (by kernel_rfl) (by kernel_rfl) (fun _ _ _ h => h) hH rfl ?yc5 ?rc5
      case yc5 => intro W hSw; go_simp; try with_reducible rfl
      try simp only [Act.put, List.setIfInBounds_toArray, List.set_cons_zero, List.set_cons_succ]
      refine callH 6 rfl (by kernel_rfl) rfl (fun K hK => ?_)
      go_simp
      refine (Hxm.out _).mono ?_
      rintro e w' ⟨rfl, rfl⟩
      dsimp only
      refine hK.out _ _ hH (fun hH => ?_)
      clear hK K
      try simp only [Act.put, List.setIfInBounds_toArray, List.set_cons_zero, List.set_cons_succ]
      refine takeH 7 (v := ?vc7) rfl (by kernel_rfl) (by kernel_rfl) (by kernel_rfl) (fun _ _ _ h => h) hH rfl ?yc7 ?rc7
      case yc7 => intro W hSw; go_simp; try with_reducible rfl
      try simp only [Act.put, List.setIfInBounds_toArray, List.set_cons_zero, List.set_cons_succ]
      refine takeH 8 (v := ?vc8) rfl (by kernel_rfl) (by kernel_rfl) (by kernel_rfl) (fun _ _ _ h => h) hH rfl ?yc8 ?rc8
      case yc8 => intro W hSw; go_simp; try with_reducible rfl
      try simp only [Act.put, List.setIfInBounds_toArray, List.set_cons_zero, List.set_cons_succ]
      refine takeH 9 (v := ?vc9) rfl (by kernel_rfl) (by kernel_rfl) (by kernel_rfl) (fun _ _ _ h => h) hH rfl ?yc9 ?rc9
      case yc9 => intro W hSw; go_simp; try with_reducible rfl
      try simp only [Act.put, List.setIfInBounds_toArray, List.set_cons_zero, List.set_cons_succ]
      refine takeH 10 (v := ?vc10) rfl (by kernel_rfl) (by kernel_rfl) (by kernel_rfl) (fun _ _ _ h => h) hH rfl ?yc10 ?rc10
      case yc10 => intro W hSw; go_simp; try with_reducible rfl
      try simp only [Act.put, List.setIfInBounds_toArray, List.set_cons_zero, List.set_cons_succ]
      refine takeH 11 (v := ?vc11) rfl (by kernel_rfl) (by kernel_rfl) (by kernel_rfl) (fun _ _ _ h => h) hH rfl ?yc11 ?rc11
      case yc11 => intro W hSw; go_simp; try with_reducible rfl
      try simp only [Act.put, List.setIfInBounds_toArray, List.set_cons_zero, List.set_cons_succ]
      refine takeH 12 (v := ?vc12) rfl (by kernel_rfl) (by kernel_rfl) (by kernel_rfl) (fun _ _ _ h => h) hH rfl ?yc12 ?rc12
      case yc12 => intro W hSw; go_simp; try with_reducible rfl
      try simp only [Act.put, List.setIfInBounds_toArray, List.set_cons_zero, List.set_cons_succ]
      refine takeH 14 (v := ?vc13) rfl (by kernel_rfl) (by kernel_rfl) (by kernel_rfl) (fun _ _ _ h => h) hH rfl ?yc13 ?rc13
      case yc13 => intro W hSw; go_simp; try with_reducible rfl
      try simp only [Act.put, List.setIfInBounds_toArray, List.set_cons_zero, List.set_cons_succ]
      refine callH 13 rfl (by kernel_rfl) rfl (fun K hK => ?_)
      go_simp
      refine (Hsh.out W1.drew Hc.out).mono ?_
      rintro e w6 ⟨v6, rfl, hown, hb6⟩
      obtain ⟨a6, c6, rfl, hi6, _⟩ := hown.ints
      dsimp only
      have hwd : W1.drew.heap.size = W1.heap.size := rfl
      have Hi6 := Lib.hid hi6; clear hi6
      have Hv6 := Lib.hid (IntsAt.below (w := W1.drew) Hv.out hb6)
      have Hb6 := Lib.hid (below_step Hb0.out.drew Hb0.out.size hb6)
      refine hK.out _ _ ⟨(hb6.cell (p := ⟨w.heap.size, 0, none⟩) (by simp only; omega)).trans hH.1, (hb6.cell (p := ⟨w.heap.size, 1, none⟩) (by simp only; omega)).trans hH.2⟩ (fun hH => ?_)
      clear hK K
      try simp only [Act.put, List.setIfInBounds_toArray, List.set_cons_zero, List.set_cons_succ]
      refine callH 15 rfl (by kernel_rfl) rfl (fun K hK => ?_)
      go_simp
      refine (spec_l3Same x a6 av c6 cv (shardV d need x) vs _ (by omega) (by omega) Hi6.out Hv6.out).mono ?_
      rintro e w7 ⟨rfl, hb7⟩
      dsimp only
      have hB7 := Hb6.out.size
      refine hK.out _ _ ⟨(hb7.cell (p := ⟨w.heap.size, 0, none⟩) (by simp only; have := hb6.size; omega)).trans hH.1, (hb7.cell (p := ⟨w.heap.size, 1, none⟩) (by simp only; have := hb6.size; omega)).trans hH.2⟩ (fun hH => ?_)
      clear hK K
      try simp only [Act.put, List.setIfInBounds_toArray, List.set_cons_zero, List.set_cons_succ]
      refine takeH 16 (v := ?vc16) rfl (by kernel_rfl) (by kernel_rfl) (by kernel_rfl) (fun _ _ _ h => h) hH rfl ?yc16 ?rc16
      case yc16 => intro W hSw; go_simp; try with_reducible rfl
      try simp only [Act.put, List.setIfInBounds_toArray, List.set_cons_zero, List.set_cons_succ]
      refine takeH 17 (v := ?vc17) rfl (by kernel_rfl) (by kernel_rfl) (by kernel_rfl) (fun _ _ _ h => h) hH rfl ?yc17 ?rc17
      case yc17 => intro W hSw; go_simp; try with_reducible rfl
      try simp only [Act.put, List.setIfInBounds_toArray, List.set_cons_zero, List.set_cons_succ]
      refine wpAnyH_done (by kernel_rfl) ?_ _
      try simp only [Act.put]
      go_wp2
      go_ret
      exact ⟨ret_bool Hf.out.symm, below_step Hb6.out Hb6.out.size hb7⟩
    · have hxm := fun w => spec_l6In_no hX w
      have Hxm := Lib.hid hxm; clear hxm
      have Hf := Lib.hid (matB_no3 (d := d) (need := (need : Int)) (s := (x, vs)) hX)
      go_enter Try.func29, Try.ntmps29
      go_wp2_with fail
      generalize w.alloc (.cells #[.int .i64 x, .slice av vs.length cv] 30) = W1 at *
      have hdt := spec_l3Data a cap d need W1.drew hbig hc1
      rw [hd] at hdt
      have Hdt := Lib.hid hdt; clear hdt hd hc1 hv1 hX hsym
      refine wp_region_held_drew (S := fun w' => w'.cell? ⟨w.heap.size, 0, none⟩ = some (.int .i64 x) ∧ w'.cell? ⟨w.heap.size, 1, none⟩ = some (.slice av vs.length cv)) (by kernel_rfl) ⟨e0, e1⟩ (fun hH => ?_)
      refine takeH 0 (v := ?vb0) rfl (by kernel_rfl) (by kernel_rfl) (by kernel_rfl) (fun _ _ _ h => h) hH rfl ?yb0 ?rb0
      case yb0 => intro W hSw; go_simp; try with_reducible rfl
      try simp only [Act.put, List.setIfInBounds_toArray, List.set_cons_zero, List.set_cons_succ]
      refine takeH 1 (v := ?vb1) rfl (by kernel_rfl) (by kernel_rfl) (by kernel_rfl) (fun _ _ _ h => h) hH rfl ?yb1 ?rb1
      case yb1 => intro W hSw; go_simp; try with_reducible rfl
      try simp only [Act.put, List.setIfInBounds_toArray, List.set_cons_zero, List.set_cons_succ]
      refine callH 2 rfl (by kernel_rfl) rfl (fun K hK => ?_)
      go_simp
      refine (Hdt.out).mono ?_
      rintro e w' ⟨rfl, rfl⟩
      dsimp only
      refine hK.out _ _ hH (fun hH => ?_)
      clear hK K
      try simp only [Act.put, List.setIfInBounds_toArray, List.set_cons_zero, List.set_cons_succ]
      refine takeH 3 (v := ?vb3) rfl (by kernel_rfl) (by kernel_rfl) (by kernel_rfl) (fun _ _ _ h => h) hH rfl ?yb3 ?rb3
      case yb3 => intro W hSw; go_simp; try with_reducible rfl
      try simp only [Act.put, List.setIfInBounds_toArray, List.set_cons_zero, List.set_cons_succ]
      refine takeH 4 (v := ?vb4) rfl (by kernel_rfl) (by kernel_rfl) (by kernel_rfl) (fun _ _ _ h => h) hH rfl ?yb4 ?rb4
      case yb4 => intro W hSw; go_simp; try with_reducible rfl
      try simp only [Act.put, List.setIfInBounds_toArray, List.set_cons_zero, List.set_cons_succ]
      refine takeH 5 (v := ?vb5) rfl (by kernel_rfl) (by kernel_rfl) (by kernel_rfl) (fun _ _ _ h => h) hH rfl ?yb5 ?rb5
      case yb5 => intro W hSw; go_simp; try with_reducible rfl
      try simp only [Act.put, List.setIfInBounds_toArray, List.set_cons_zero, List.set_cons_succ]
      refine callH 6 rfl (by kernel_rfl) rfl (fun K hK => ?_)
      go_simp
      refine (Hxm.out _).mono ?_
      rintro e w' ⟨rfl, rfl⟩
      dsimp only
      refine hK.out _ _ hH (fun hH => ?_)
      clear hK K
      try simp only [Act.put, List.setIfInBounds_toArray, List.set_cons_zero, List.set_cons_succ]
      refine takeH 7 (v := ?vb7) rfl (by kernel_rfl) (by kernel_rfl) (by kernel_rfl) (fun _ _ _ h => h) hH rfl ?yb7 ?rb7
      case yb7 => intro W hSw; go_simp; try with_reducible rfl
      try simp only [Act.put, List.setIfInBounds_toArray, List.set_cons_zero, List.set_cons_succ]
      refine takeH 8 (v := ?vb8) rfl (by kernel_rfl) (by kernel_rfl) (by kernel_rfl) (fun _ _ _ h => h) hH rfl ?yb8 ?rb8
      case yb8 => intro W hSw; go_simp; try with_reducible rfl
      try simp only [Act.put, List.setIfInBounds_toArray, List.set_cons_zero, List.set_cons_succ]
      refine skipH 9 rfl (by kernel_rfl) (by kernel_rfl) (by kernel_rfl) (fun _ _ _ h => h) hH rfl ?_
      try simp only [Act.put, List.setIfInBounds_toArray, List.set_cons_zero, List.set_cons_succ]
      refine skipH 10 rfl (by kernel_rfl) (by kernel_rfl) (by kernel_rfl) (fun _ _ _ h => h) hH rfl ?_
      try simp only [Act.put, List.setIfInBounds_toArray, List.set_cons_zero, List.set_cons_succ]
      refine skipH 11 rfl (by kernel_rfl) (by kernel_rfl) (by kernel_rfl) (fun _ _ _ h => h) hH rfl ?_
      try simp only [Act.put, List.setIfInBounds_toArray, List.set_cons_zero, List.set_cons_succ]
      refine skipH 12 rfl (by kernel_rfl) (by kernel_rfl) (by kernel_rfl) (fun _ _ _ h => h) hH rfl ?_
      try simp only [Act.put, List.setIfInBounds_toArray, List.set_cons_zero, List.set_cons_succ]
      refine skipH 13 rfl (by kernel_rfl) (by kernel_rfl) (by kernel_rfl) (fun _ _ _ h => h) hH rfl ?_
      try simp only [Act.put, List.setIfInBounds_toArray, List.set_cons_zero, List.set_cons_succ]
      refine skipH 14 rfl (by kernel_rfl) (by kernel_rfl) (by kernel_rfl) (fun _ _ _ h => h) hH rfl ?_
      try simp only [Act.put, List.setIfInBounds_toArray, List.set_cons_zero, List.set_cons_succ]
      refine skipH 15 rfl (by kernel_rfl) (by kernel_rfl) (by kernel_rfl) (fun _ _ _ h => h) hH rfl ?_
      try simp only [Act.put, List.setIfInBounds_toArray, List.set_cons_zero, List.set_cons_succ]
      refine takeH 16 (v := ?vb16) rfl (by kernel_rfl) (by kernel_rfl) (by kernel_rfl) (fun _ _ _ h => h) hH rfl ?yb16 ?rb16
      case yb16 => intro W hSw; go_simp; try with_reducible rfl
      try simp only [Act.put, List.setIfInBounds_toArray, List.set_cons_zero, List.set_cons_succ]
      refine takeH 17 (v := ?vb17) rfl (by kernel_rfl) (by kernel_rfl) (by kernel_rfl) (fun _ _ _ h => h) hH rfl ?yb17 ?rb17
      case yb17 => intro W hSw; go_simp; try with_reducible rfl
      try simp only [Act.put, List.setIfInBounds_toArray, List.set_cons_zero, List.set_cons_succ]
      refine wpAnyH_done (by kernel_rfl) ?_ _
      try simp only [Act.put]
      go_wp2
      go_ret
      exact ⟨ret_bool Hf.out.symm, hb0.drew⟩

theorem laws_toShard (n : Int) (a : Option Addr) (cap : Nat) (xs : List Int) (w : World) (hbig : xs.length ≤ 1099511627776) (hc : IntsAt w a xs) :
    Calls Try.prog 30 #[.agg #[.int .i64 n, .slice a xs.length cap]] w fun e w' => ∃ v, e = .returned (.agg #[.int .i64 n, v]) ∧ Own 3 w' w.heap.size v xs ∧ Below w.heap.size w w' := by
  have hbW : Below w.heap.size w (((w.alloc (.cells #[.int .i64 n, .slice a xs.length cap] 48)).alloc (.cells #[.int .i64 0, .slice none 0 0] 30)).alloc (.cells #[.int .i64 n, .slice none 0 0] 30)) := (((Below.refl _ w).alloc (Nat.le_refl _) _).alloc (by simp) _).alloc (by simp; omega) _
  have s1 := (Str.new (w.alloc (.cells #[.int .i64 n, .slice a xs.length cap] 48)) 30 #[.int .i64 0, .slice none 0 0]).alloc (.cells #[.int .i64 n, .slice none 0 0] 30)
  have s2 := Str.new ((w.alloc (.cells #[.int .i64 n, .slice a xs.length cap] 48)).alloc (.cells #[.int .i64 0, .slice none 0 0] 30)) 30 #[.int .i64 n, .slice none 0 0]
  have hzW : (((w.alloc (.cells #[.int .i64 n, .slice a xs.length cap] 48)).alloc (.cells #[.int .i64 0, .slice none 0 0] 30)).alloc (.cells #[.int .i64 n, .slice none 0 0] 30)).heap.size = w.heap.size + 3 := by simp
  simp only [World.size_alloc] at s1 s2
  have Hc := Lib.hid (hc.below hbW)
  have Hb := Lib.hid hbW
  have Hs1 := Lib.hid s1
  have Hs2 := Lib.hid s2
  have Hz := Lib.hid hzW
  clear hc hbW s1 s2 hzW
  go_enter Try.func30, Try.ntmps30
  go_wp2_with fail
  generalize ((w.alloc (.cells #[.int .i64 n, .slice a xs.length cap] 48)).alloc (.cells #[.int .i64 0, .slice none 0 0] 30)).alloc (.cells #[.int .i64 n, .slice none 0 0] 30) = W1 at *
  refine (laws_toIntS a cap xs W1 hbig Hc.out).mono ?_
  rintro e w6 ⟨v, rfl, hown, hb6⟩
  have hz := Hz.out
  have t1 : Str w6 (w.heap.size + 1) 30 #[.int .i64 0, .slice none 0 0] := (hb6.block _ (by omega)).trans Hs1.out
  have t2 : Str w6 (w.heap.size + 1 + 1) 30 #[.int .i64 n, .slice none 0 0] := (hb6.block _ (by omega)).trans Hs2.out
  have Hlt := Lib.hid (show ∀ g, v.ownBlock = some g → w.heap.size + 3 ≤ g from fun g e => by have := (hown.lt g e).1; omega)
  have HbF := Lib.hid (below_step Hb.out (by omega) hb6)
  obtain ⟨a6, c6, rfl, _, _⟩ := hown.ints
  have HwW := Lib.hid (show w.heap.size ≤ W1.heap.size by omega)
  have Hown := Lib.hid hown
  clear hown hb6 hz Hz Hs1 Hs2 Hc Hb
  have k0 := t1.cell 0 (v := .int .i64 0) rfl
  have k1 := t1.cell 1 (v := .slice none 0 0) rfl
  have j0 := t2.cell 0 (v := .int .i64 n) rfl
  have j1 := t2.cell 1 (v := .slice none 0 0) rfl
  have f0 := t1.frozen 0
  have f1 := t1.frozen 1
  have g1 := t2.frozen 1
  have hne1 : (Value.slice a6 xs.length c6).ownBlock ≠ some (w.heap.size + 1) := fun e => by have := Hlt.out _ e; omega
  have hne2 : (Value.slice a6 xs.length c6).ownBlock ≠ some (w.heap.size + 1 + 1) := fun e => by have := Hlt.out _ e; omega
  have Hne1 := Lib.hid hne1
  have Hne2 := Lib.hid hne2
  clear hne1 hne2
  go_wp2
  have sF := ((t1.other (B' := w.heap.size + 1 + 1) (by omega) 1 (.slice a6 xs.length c6)).set 0 (.int .i64 n)).set 1 (.slice a6 xs.length c6)
  have e0 := sF.cell 0 (v := .int .i64 n) rfl
  have e1 := sF.cell 1 (v := .slice a6 xs.length c6) rfl
  refine bodyPost_ret (v := .agg #[.int .i64 n, .slice a6 xs.length c6]) (by simp [results, Try.f30, go_sem, e0, e1]) rfl ⟨_, rfl, ?_, ?_⟩
  · exact (((Hown.out.mono HwW.out).set_other Hne2.out 1 _).set_other Hne1.out 0 _).set_other Hne1.out 1 _
  · exact ((HbF.out.setCell (p := ⟨w.heap.size + 1 + 1, 1, none⟩) (by simp; omega) _).setCell (p := ⟨w.heap.size + 1, 0, none⟩) (by simp) _).setCell (p := ⟨w.heap.size + 1, 1, none⟩) (by simp) _

theorem laws_szIntS (a : Option Addr) (cap : Nat) (xs : List Int) (left : Nat) (w : World) (hl : left ≤ 1048576) (hbig : xs.length ≤ 9223372036854775807) :
    Calls Try.prog 47 #[.slice a xs.length cap, .int .i64 (left : Int)] w fun e w' => e = .returned (.int .i64 (if xs.length ≤ left then (left : Int) - (xs.length : Int) else -1)) ∧ w = w' := by
  by_cases h : xs.length ≤ left
  · have h' : ¬ ((left : Int) - (xs.length : Int) < 0) := by omega
    rw [if_pos h]
    go_enter Try.func47, Try.ntmps47
    go_wp2
    go_ret
    exact ⟨rfl, rfl⟩
  · have h' : (left : Int) - (xs.length : Int) < 0 := by omega
    rw [if_neg h]
    go_enter Try.func47, Try.ntmps47
    go_wp2
    go_ret
    exact ⟨rfl, rfl⟩

theorem laws_szShard (n : Int) (a : Option Addr) (cap : Nat) (xs : List Int) (left : Nat) (w : World) (hl : left ≤ 1048576) (hbig : xs.length ≤ 9223372036854775807) :
    Calls Try.prog 28 #[.agg #[.int .i64 n, .slice a xs.length cap], .int .i64 (left : Int)] w fun e w' => e = .returned (.int .i64 (if xs.length ≤ left then (left : Int) - (xs.length : Int) else -1)) ∧ Below w.heap.size w w' := by
  have hs := fun w => laws_szIntS a cap xs left w hl hbig
  have hb : Below w.heap.size w (w.alloc (.cells #[.int .i64 n, .slice a xs.length cap] 48)) := (Below.refl _ w).alloc (Nat.le_refl _) _
  by_cases h : xs.length ≤ left
  · rw [if_pos h] at hs ⊢
    have Hs := Lib.hid hs; clear hs
    have h' : ¬ ((left : Int) - (xs.length : Int) < 0) := by omega
    go_enter Try.func28, Try.ntmps28
    go_wp2_with fail
    refine (Hs.out _).mono ?_
    rintro e w' ⟨rfl, rfl⟩
    go_wp2
    go_ret
    exact ⟨rfl, hb⟩
  · rw [if_neg h] at hs ⊢
    have Hs := Lib.hid hs; clear hs
    go_enter Try.func28, Try.ntmps28
    go_wp2_with fail
    refine (Hs.out _).mono ?_
    rintro e w' ⟨rfl, rfl⟩
    go_wp2
    go_ret
    exact ⟨rfl, hb⟩

end Go.Proofs.Ytgflffcogdkgfab
