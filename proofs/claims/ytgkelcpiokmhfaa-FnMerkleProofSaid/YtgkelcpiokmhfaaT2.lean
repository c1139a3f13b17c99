/- The draw of a text: what is drawn is short; by a walk of its text; condition: at most 2^40 picks. -/
import Derived.Test.YtgkelcpiokmhfaaRows
import Derived.Test.YtgkelcpiokmhfaaBase
import Derived.Test.YtgkelcpiokmhfaaApp
import Derived.Test.YtgkelcpiokmhfaaRd
import Derived.Laws.IdiomStrings
import Derived.Laws.Concat
namespace Go.Proofs.Ytgkelcpiokmhfaa
open Go.RowKit

/-- 'string([]byte{z})'. -/
theorem conv_one {P : Program} (w : World) (src dst e : TypeId) (hs : P.underlying src = some (.slice e)) (he : P.underlying e = some (.int .u8)) (hd : P.underlying dst = some .string) (z : Int) (h0 : 0 ≤ z) (h1 : z ≤ 255) :
    (convert src dst (.slice (some ⟨w.heap.size, 0, none⟩) 1 1)).run P (w.alloc (.cells #[.int .u8 z] e)) = .ok (.string ⟨#[UInt8.ofNat z.toNat]⟩) (w.alloc (.cells #[.int .u8 z] e)) := by
  have := run_convert_bytes_back (P := P) (w.alloc (.cells #[.int .u8 z] e)) src dst e ⟨w.heap.size, 0, none⟩ 1 [UInt8.ofNat z.toNat] hs he hd (fun j hj => by
    have hj0 : j = 0 := by simpa using hj
    subst hj0
    rw [show (Addr.add ⟨w.heap.size, 0, none⟩ 0 : Addr) = ⟨w.heap.size, 0, none⟩ from rfl, World.cell?_alloc_mark]
    have : ((UInt8.ofNat z.toNat).toNat : Int) = z := by
      rw [UInt8.toNat_ofNat']
      omega
    show some (Value.int .u8 z) = some (.int .u8 ((UInt8.ofNat z.toNat).toNat : Int))
    rw [this])
  exact this

theorem conv_byte {P : Program} (w : World) (src dst e : TypeId) (hs : P.underlying src = some (.slice e)) (he : P.underlying e = some (.int .u8)) (hd : P.underlying dst = some .string) (b : UInt8) :
    (convert src dst (.slice (some ⟨w.heap.size, 0, none⟩) 1 1)).run P (w.alloc (.cells #[.int .u8 (b.toNat : Int)] e)).drew = .ok (.string ⟨#[b]⟩) (w.alloc (.cells #[.int .u8 (b.toNat : Int)] e)).drew :=
  run_convert_bytes_back (P := P) (w.alloc (.cells #[.int .u8 (b.toNat : Int)] e)).drew src dst e ⟨w.heap.size, 0, none⟩ 1 [b] hs he hd (fun j hj => by
    have hj0 : j = 0 := by simpa using hj
    subst hj0
    rw [show (Addr.add ⟨w.heap.size, 0, none⟩ 0 : Addr) = ⟨w.heap.size, 0, none⟩ from rfl]
    exact (World.cell?_alloc_mark w _ _ _ 0).trans rfl)

theorem below_of_row'' {w w' : World} {R B : Nat} (h : w.grownBy w' (some R)) (hR : B ≤ R) (hB : B ≤ w.heap.size) : Below B w w' :=
  ⟨h.os, h.tape, h.output, h.size, fun k hk => h.block k (by omega) (fun e => by injection e with e; omega)⟩

theorem many_odd {o b k M : Nat} (h : o + b * k ≤ M) (hk : k % 2 = 1) : o + b + (b + b) * (k / 2) ≤ M := by
  have e : k = 2 * (k / 2) + 1 := by omega
  rw [e, Nat.mul_add, Nat.mul_one, ← Nat.mul_assoc, Nat.mul_comm b 2, Nat.two_mul] at h
  omega
theorem many_even {o b k M : Nat} (h : o + b * k ≤ M) (hk : k % 2 = 0) : o + (b + b) * (k / 2) ≤ M := by
  have e : k = 2 * (k / 2) := by omega
  rw [e, ← Nat.mul_assoc, Nat.mul_comm b 2, Nat.two_mul] at h
  omega
theorem many_s {o b k M : Nat} (h : o + b * k ≤ M) (hk : 0 < k) : o + b ≤ M := by
  have := Nat.mul_le_mul (Nat.le_refl b) hk
  rw [Nat.mul_one] at this
  omega

theorem spec_l6Many (s : ByteArray) (n : Nat) (w : World) (hn : n ≤ 1099511627776) (M : Nat) (hM : s.size * n ≤ M) (hM1 : M ≤ 1099511627776) :
    Calls Try.prog 42 #[.string s, .int .i64 n] w fun e w' => (∃ t : ByteArray, e = .returned (.string t) ∧ t.size ≤ M) ∧ w = w' := by
  go_enter Try.func42, Try.ntmps42
  go_wp2
  go_loop [0, 1, 5] (fun vs vn vo => ∃ (bs os : ByteArray) (k : Nat), vs = .string bs ∧ vn = .int .i64 k ∧ vo = .string os ∧ k ≤ n ∧ os.size + bs.size * k ≤ M) (fun _ vn _ => (intOf vn).toNat)
  case atStart => exact ⟨s, _, n, rfl, rfl, rfl, Nat.le_refl _, by rw [show (ByteArray.mk #[]).size = 0 from rfl, Nat.zero_add]; exact hM⟩
  case round =>
    obtain ⟨bs, os, k, rfl, rfl, rfl, hkn, hk⟩ := hrel
    by_cases h0 : 0 < (k : Int)
    · have hb := many_s hk (by omega)
      have hq : ((k : Int)).tdiv 2 = ((k / 2 : Nat) : Int) := by rw [Int.tdiv_eq_ediv_of_nonneg (by omega)]; omega
      have hr : ((k : Int)).tmod 2 = ((k % 2 : Nat) : Int) := by rw [Int.tmod_eq_emod_of_nonneg (by omega)]; omega
      by_cases hodd : k % 2 = 1
      · have ho := many_odd hk hodd
        rw [hodd] at hr
        go_wp2
        go_round
        case rel => exact ⟨_, _, k / 2, rfl, rfl, rfl, by omega, by simpa using ho⟩
        case measure => simp [intOf]; omega
      · have ho := many_even hk (by omega)
        rw [show k % 2 = 0 by omega] at hr
        go_wp2
        go_round
        case rel => exact ⟨_, _, k / 2, rfl, rfl, rfl, by omega, by simpa using ho⟩
        case measure => simp [intOf]; omega
    · go_wp2
      go_ret
      exact ⟨⟨_, rfl, by omega⟩, rfl⟩

theorem drawText (R p : Nat) (w : World) (hp : p ≤ 1000000) (hr : Rdr w R p) :
    Calls Try.prog 24 #[.pointer (some ⟨R, 0, none⟩)] w fun e w' => ∃ (t : ByteArray) (p' : Nat), e = .returned (.string t) ∧ t.size ≤ 100 ∧ Rdr w' R p' ∧ p' ≤ p + 60 ∧ w.grownBy w' (some R) := by
  have Hr := Lib.hid hr; clear hr
  go_enter Try.func24, Try.ntmps24
  go_wp2_with fail
  go_loopw [3, 4] (fun v i wr => ∃ (os : ByteArray) (k q : Nat), k ≤ 14 ∧ v = .string os ∧ i = .int .i64 k ∧ os.size ≤ k ∧ Rdr wr R q ∧ q ≤ p + 2 * k ∧ w.grownBy wr (some R)) (fun _ i _ => 15 - (intOf i).toNat)
  case atStart => exact ⟨_, 0, p, by omega, rfl, rfl, Nat.le_refl _, Hr.out, by omega, World.grownBy.refl _ _⟩
  case round =>
    obtain ⟨os, k, q, hk, rfl, rfl, hos, hrd, hq, hgr⟩ := hrel
    have Hrd := Lib.hid hrd; clear hrd
    have Hgr := Lib.hid hgr; clear hgr
    go_wp2_with fail
    refine (pick_any R 14 q _ (by omega) Hrd.out (by omega)).mono ?_
    rintro e w2 ⟨m, rfl, hm0, hm1, hr2, hg2⟩
    have Hr2 := Lib.hid hr2; clear hr2
    have Hg2 := Lib.hid (grownBy_trans Hgr.out hg2); clear hg2
    by_cases hlt : (k : Int) < m
    · go_wp2_with fail
      refine (pick_any R 95 (q + 1) _ (by omega) Hr2.out (by omega)).mono ?_
      rintro e w3 ⟨x, rfl, hx0, hx1, hr3, hg3⟩
      have Hr3 := Lib.hid hr3; clear hr3
      have Hg3 := Lib.hid (grownBy_trans Hg2.out hg3); clear hg3
      have hcv := conv_one (P := Try.prog) w3 22 9 5 Try.underlying22 Try.underlying5 Try.underlying9 (32 + x) (by omega) (by omega)
      have htz : (⟨#[UInt8.ofNat (32 + x).toNat]⟩ : ByteArray).size = 1 := rfl
      generalize (⟨#[UInt8.ofNat (32 + x).toNat]⟩ : ByteArray) = tz at hcv htz
      go_wp2
      go_roundw
      case rel => exact ⟨_, k + 1, q + 2, by omega, rfl, rfl, by rw [ByteArray.size_append]; omega, Hr3.out.alloc _, by omega, grownBy_trans Hg3.out (World.grownBy_alloc _ _ _)⟩
      case measure => simp [intOf]; omega
    · go_wp2_with fail
      refine (pick_any R 20 (q + 1) _ (by omega) Hr2.out (by omega)).mono ?_
      rintro e w3 ⟨x, rfl, hx0, hx1, hr3, hg3⟩
      have Hr3 := Lib.hid hr3; clear hr3
      have Hg3 := Lib.hid (grownBy_trans Hg2.out hg3); clear hg3
      by_cases h0 : x = 0
      · subst h0
        go_wp2_with fail
        refine (pick_any R 14 (q + 2) _ (by omega) Hr3.out (by omega)).mono ?_
        rintro e w4 ⟨y, rfl, hy0, hy1, hr4, hg4⟩
        obtain ⟨y, rfl⟩ := Int.eq_ofNat_of_zero_le hy0
        have Hr4 := Lib.hid hr4; clear hr4
        have Hg4 := Lib.hid (grownBy_trans Hg3.out hg4); clear hg4
        have hm := spec_l6Many ⟨#[122]⟩ (50 + y) w4 (by omega) 63 (by rw [show (ByteArray.mk #[122]).size = 1 from rfl]; omega) (by omega)
        rw [show ((50 + y : Nat) : Int) = 50 + (y : Int) by omega] at hm
        have Hm := Lib.hid hm; clear hm
        go_wp2_with fail
        refine Hm.out.mono ?_
        rintro e w5 ⟨⟨t, rfl, ht⟩, rfl⟩
        go_wp2
        go_ret
        exact ⟨_, q + 3, rfl, by rw [ByteArray.size_append]; omega, Hr4.out, by omega, Hg4.out⟩
      · have h0' : (x == 0) = false := by rw [beq_eq_false_iff_ne]; exact h0
        go_wp2
        go_ret
        exact ⟨_, q + 2, rfl, by omega, Hr3.out, by omega, Hg3.out⟩

theorem spec_DrawHashText (a : Option Addr) (cap : Nat) (zs : List Int) (w : World) (h : CodeAt w a cap zs) :
    Calls Try.prog 10 #[.slice a zs.length cap] w fun e w' => ∃ t : ByteArray, e = .returned (.string t) ∧ t.size ≤ 100 ∧ Below w.heap.size w w' := by
  go_enter Try.func10, Try.ntmps10
  go_wp2_with fail
  refine (open_any a cap zs _ h).mono ?_
  rintro e w1 ⟨R, rfl, hR1, hR2, hr1, hb1⟩
  have Hr1 := Lib.hid hr1; clear hr1
  go_wp2_with fail
  refine (drawText R 0 _ (by omega) Hr1.out).mono ?_
  rintro e w2 ⟨t, p', rfl, ht, hr2, hp', hg2⟩
  have hsz := hb1.size
  have Hg := Lib.hid (hb1.trans (below_of_row'' hg2 hR1 hsz))
  clear hr2 hg2
  go_wp2
  go_ret
  exact ⟨t, rfl, ht, Hg.out⟩

end Go.Proofs.Ytgkelcpiokmhfaa
