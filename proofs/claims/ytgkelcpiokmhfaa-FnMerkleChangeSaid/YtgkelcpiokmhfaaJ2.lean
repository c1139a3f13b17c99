/- What impl's iterators over the levels of a tree and over the siblings on a leaf's way do, and what its root, proofs and checks answer, each by a walk of its text; conditions: a list that is read has fewer than 2^40 elements and fits its capacity, the numbers are ints. -/
import Derived.Test.YtgkelcpiokmhfaaRows
import Derived.Test.YtgkelcpiokmhfaaBase
import Derived.Test.YtgkelcpiokmhfaaApp
import Derived.Test.YtgkelcpiokmhfaaM2
import Derived.Test.YtgkelcpiokmhfaaN2
import Derived.Test.YtgkelcpiokmhfaaC2
import Derived.Test.YtgkelcpiokmhfaaI2
import Derived.Test.YtgkelcpiokmhfaaRf
import Derived.Deep.QuietTactic
import Derived.BigQuiet
import Derived.RangeFuncBox
namespace Go.Proofs.Ytgkelcpiokmhfaa
open Go.RowKit Go.Shelf
attribute [local go_sem] Oper.semAt_some

theorem impl_siblings (size i : Int) (w : World) : Calls Try.prog 36 #[.int .i64 size, .int .i64 i] w fun e w' =>
    e = .returned (.func (.func 46) #[] #[.pointer (some ⟨w.heap.size, 0, none⟩), .pointer (some ⟨w.heap.size + 1, 0, none⟩)]) ∧
    w' = (w.alloc (.cells #[.int .i64 size] 3)).alloc (.cells #[.int .i64 i] 3) := by
  go_enter Try.func36, Try.ntmps36
  go_wp2
  go_ret
  exact ⟨rfl, rfl⟩

theorem impl_levels (a : Option Addr) (n c : Nat) (w : World) : Calls Try.prog 35 #[.slice a n c] w fun e w' =>
    e = .returned (.func (.func 44) #[] #[.pointer (some ⟨w.heap.size, 0, none⟩)]) ∧ w' = w.alloc (.cells #[.slice a n c] 30) := by
  go_enter Try.func35, Try.ntmps35
  go_wp2
  go_ret
  exact ⟨rfl, rfl⟩

theorem impl_siblings1 (L B1 B2 size i : Nat) (h16 : size ≤ 16) (hi : i < size) (J : List (Nat × Nat) → World → Prop) (Jx : World → Prop)
    (hJ : ∀ W q, J [] W → J [] (W.drewN q))
    (hY : ∀ pre x rest W, pre ++ x :: rest = sibsF 4 0 size i → J pre W → YieldAt Fence.wide 1 Try.prog L #[.int .i64 (x.1 : Int), .int .i64 (x.2 : Int)] W fun e W' =>
      (e = .returned (.bool true) ∧ J (pre ++ [x]) W') ∨ (e = .returned (.bool false) ∧ Jx W'))
    (W : World) (h1 : W.cell? ⟨B1, 0, none⟩ = some (.int .i64 size)) (h2 : W.cell? ⟨B2, 0, none⟩ = some (.int .i64 i)) (h0 : J [] W) :
    CallsIn Fence.wide 2 Try.prog 46 #[.func (.yield L) #[] #[], .pointer (some ⟨B1, 0, none⟩), .pointer (some ⟨B2, 0, none⟩)] W fun e W' => (∃ v, e = .returned v) ∧ (J (sibsF 4 0 size i) W' ∨ Jx W') := by
  refine callsIn_of_wp Try.func46 rfl trivial ?_ rfl
  simp only [Try.ntmps46, List.size_toArray, List.length_cons, List.length_nil, Nat.reduceAdd, Nat.reduceSub, Array.replicate_succ, Array.replicate_zero, List.push_toArray, List.append_toArray, List.nil_append, List.cons_append]
  gi_wp2
  gi_region
  gi_wp2
  gi_loopw [4, 5, 6] (fun wd nd lv wr => ∃ (pre : List (Nat × Nat)) (sz j k n : Nat), wd = .int .i64 sz ∧ nd = .int .i64 j ∧ lv = .int .i64 k ∧ pre ++ sibsF n k sz j = sibsF 4 0 size i ∧ sz ≤ 2 ^ n ∧ sz ≤ 16 ∧ j < sz ∧ k + n = 4 ∧ J pre wr) (fun wd _ _ _ => (intOf wd).toNat)
  case atStart => exact ⟨[], size, i, 0, 4, rfl, rfl, rfl, rfl, h16, h16, hi, rfl, hJ W 1 h0⟩
  case round =>
    obtain ⟨pre, sz, j, k, n, rfl, rfl, rfl, hr, hp, hz, hj, hkn, hJw⟩ := hrel
    have Hr := Lib.hid hr; clear hr
    have HY := Lib.hid hY; clear hY
    by_cases h : 1 < sz
    · obtain ⟨m, rfl⟩ := pow_pos' hp h
      have hx := xor_one j (by omega)
      have Hp := Lib.hid hp; clear hp
      by_cases hs : sib j < sz
      · have hr := Hr.out
        rw [sibsF_sib h hs] at hr
        obtain ⟨fn, tmps, assign, body, hy, hR⟩ := HY.out pre (k, sib j) _ wr hr hJw
        have Hr2 := Lib.hid hr; clear hr
        dsimp only at hy
        gi_wp2
        refine hR.mono ?_
        rintro e W3 (⟨rfl, hJ3⟩ | ⟨rfl, hJx3⟩)
        · gi_wp2
          go_roundw
          case rel => exact ⟨pre ++ [(k, sib j)], (sz + 1) / 2, j / 2, k + 1, m, int_eq (by omega), int_eq (by omega), int_eq (by omega), by rw [List.append_assoc]; exact Hr2.out, pow_half Hp.out, by omega, by omega, by omega, hJ3⟩
          case measure => simp [intOf]; omega
        · gi_wp2
          refine bodyPost_ret (results_none rfl _ _ _) rfl ?_
          exact ⟨⟨_, rfl⟩, .inr hJx3⟩
      · have hr := Hr.out
        rw [sibsF_lone h hs] at hr
        have Hr2 := Lib.hid hr; clear hr
        gi_wp2
        refine ⟨fun _ _ => trivial, ?_⟩
        gi_wp2
        go_roundw
        case rel => exact ⟨pre, (sz + 1) / 2, j / 2, k + 1, m, int_eq (by omega), int_eq (by omega), int_eq (by omega), Hr2.out, pow_half Hp.out, by omega, by omega, by omega, hJw⟩
        case measure => simp [intOf]; omega
    · have hr := Hr.out
      rw [sibsF_end h, List.append_nil] at hr
      have Hr2 := Lib.hid hr; clear hr
      gi_wp2
      go_end0
      exact ⟨⟨_, rfl⟩, .inl (by rw [← Hr2.out]; exact hJw)⟩

theorem impl_levels1 (L Bl n0 : Nat) (a0 : Option Addr) (c0 : Nat) (l : List Int) (h1 : 1 ≤ l.length) (h16 : l.length ≤ 16) (hd : ∀ x ∈ l, digB x = true) (hlt : ∀ b, a0 = some b → b.block < n0) (hc0 : l.length ≤ c0) (J : List (List Int) → World → Prop)
    (hY : ∀ pre x rest (a : Option Addr) (c : Nat) W0 W, pre ++ x :: rest = lvlsF 4 l → J pre W0 → Below W0.heap.size W0 W → (∀ b, a = some b → b.block < n0 ∨ W0.heap.size ≤ b.block) → IntsAt W a x → x.length ≤ c →
      YieldAt Fence.wide 1 Try.prog L #[.slice a x.length c] W fun e W' => e = .returned (.bool true) ∧ J (pre ++ [x]) W' ∧ IntsAt W' a x)
    (W : World) (hb : W.cell? ⟨Bl, 0, none⟩ = some (.slice a0 l.length c0)) (hi : IntsAt W a0 l) (h0 : J [] W) :
    CallsIn Fence.wide 2 Try.prog 44 #[.func (.yield L) #[] #[], .pointer (some ⟨Bl, 0, none⟩)] W fun e W' => (∃ v, e = .returned v) ∧ J (lvlsF 4 l) W' := by
  have Hd := Lib.hid hd; clear hd
  have HY := Lib.hid hY; clear hY
  have Hlt := Lib.hid hlt; clear hlt
  have Hi := Lib.hid hi; clear hi
  refine callsIn_of_wp Try.func44 rfl trivial ?_ rfl
  simp only [Try.ntmps44, List.size_toArray, List.length_cons, List.length_nil, Nat.reduceAdd, Nat.reduceSub, Array.replicate_succ, Array.replicate_zero, List.push_toArray, List.append_toArray, List.nil_append, List.cons_append]
  gi_wp2
  gi_loopw [3] (fun v wr => ∃ (pre : List (List Int)) (l' : List Int) (n : Nat) (av : Option Addr) (cv : Nat) (W0 : World), v = .slice av l'.length cv ∧ pre ++ lvlsF n l' = lvlsF 4 l ∧ l'.length ≤ 2 ^ n ∧ 1 ≤ l'.length ∧ l'.length ≤ 16 ∧ (∀ x ∈ l', digB x = true) ∧ IntsAt wr av l' ∧ l'.length ≤ cv ∧ J pre W0 ∧ Below W0.heap.size W0 wr ∧ (∀ b, av = some b → b.block < n0 ∨ W0.heap.size ≤ b.block)) (fun v _ => lenOf v)
  case atStart => exact ⟨[], l, 4, a0, c0, W, rfl, rfl, h16, h1, h16, Hd.out, Hi.out, hc0, h0, Below.refl _ _, fun b e => .inl (Hlt.out b e)⟩
  case round =>
    obtain ⟨pre, l', n, av, cv, W0, rfl, hr, hp, hl1, hl16, hd', hi', hcv, hJ0, hbel, hfr⟩ := hrel
    have Hd' := Lib.hid hd'; clear hd'
    have Hp := Lib.hid hp; clear hp
    have Hr := Lib.hid hr; clear hr
    by_cases h : 1 < l'.length
    · obtain ⟨m, rfl⟩ := pow_pos' Hp.out h
      have hr := Hr.out
      rw [lvlsF_up h] at hr
      obtain ⟨fn, tmps, assign, body, hy, hR⟩ := HY.out pre l' _ av cv W0 wr hr hJ0 hbel hfr hi' hcv
      have Hr2 := Lib.hid hr; clear hr hi' hfr hbel
      gi_wp2
      refine hR.mono ?_
      rintro e W3 ⟨rfl, hJ3, hi3⟩
      have Hi3 := Lib.hid hi3; clear hi3
      gi_wp2_with fail
      refine ⟨trivial, (callsIn_wide.2 (impl_levelAbove av cv l' _ (by omega) Hd'.out Hi3.out)).mono ?_⟩
      rintro e W4 ⟨v4, rfl, hown4, hb4⟩
      obtain ⟨a4, c4, rfl, hi4, _, hc4⟩ := hown4.src
      have Hi4 := Lib.hid hi4; clear hi4
      have Hown4 := Lib.hid hown4; clear hown4
      have hul := upZ_len l'
      have Hul := Lib.hid hul; clear hul
      gi_wp2
      go_roundw
      case rel =>
        exact ⟨pre ++ [l'], upZ l', m, a4, c4, W3, rfl, by rw [List.append_assoc]; exact Hr2.out, by rw [Hul.out]; exact pow_half Hp.out, by rw [Hul.out]; omega, by rw [Hul.out]; omega, upZ_dig l' Hd'.out, Hi4.out, hc4, hJ3, hb4, fun b e => .inr (Hown4.out.lt _ (ownBlock_slice b e)).1⟩
      case measure => simp only [lenOf]; rw [Hul.out]; omega
    · have hr := Hr.out
      rw [lvlsF_end h] at hr
      obtain ⟨fn, tmps, assign, body, hy, hR⟩ := HY.out pre l' _ av cv W0 wr hr hJ0 hbel hfr hi' hcv
      have Hr2 := Lib.hid hr; clear hr hi' hfr hbel
      gi_wp2
      refine hR.mono ?_
      rintro e W3 ⟨rfl, hJ3, hi3⟩
      gi_wp2
      go_end0
      exact ⟨⟨_, rfl⟩, by rw [← Hr2.out]; exact hJ3⟩

end Go.Proofs.Ytgkelcpiokmhfaa
