/- The draw of a text: what is drawn is short; by a walk of its text; condition: at most 2^40 picks. -/
import Derived.Test.YtgkelcpiokmhfabRows
import Derived.Test.YtgkelcpiokmhfabBase
import Derived.Test.YtgkelcpiokmhfabApp
import Derived.Test.YtgkelcpiokmhfabRd
import Derived.Laws.IdiomStrings
import Derived.Laws.Concat
namespace Go.Proofs.Ytgkelcpiokmhfab
open Go.RowKit

/-- 'string([]byte{z})'. -/
theorem conv_one {P : Program} (w : World) (src dst e : TypeId) (hs : P.underlying src = some (.slice e)) (he : P.underlying e = some (.int .u8)) (hd : P.underlying dst = some .string) (z : Int) (h0 : 0 ≤ z) (h1 : z ≤ 255) :
    (convert src dst (.slice (some ⟨w.heap.size, 0, none⟩) 1 1)).run P (w.alloc (.cells #[.int .u8 z] e)) = .ok (.string ⟨#[UInt8.ofNat z.toNat]⟩) (w.alloc (.cells #[.int .u8 z] e)) := by
  have := run_convert_bytes_back (P := P) (w.alloc (.cells #[.int .u8 z] e)) src dst e ⟨w.heap.size, 0, none⟩ 1 [UInt8.ofNat z.toNat] hs he hd (fun j hj => by
    have hj0 : j = 0 := by simpa using hj
    subst hj0
    rw [show (Addr.add ⟨w.heap.size, 0, none⟩ 0 : Addr) = ⟨w.heap.size, 0, none⟩ from rfl, World.cell?_alloc_mark]
    have : ((UInt8.ofNat z.toNat).toNat : Int) = z := by
      rw [UInt8.toNat_ofNat']
      omega
    show some (Value.int .u8 z) = some (.int .u8 ((UInt8.ofNat z.toNat).toNat : Int))
    rw [this])
  exact this

theorem conv_byte {P : Program} (w : World) (src dst e : TypeId) (hs : P.underlying src = some (.slice e)) (he : P.underlying e = some (.int .u8)) (hd : P.underlying dst = some .string) (b : UInt8) :
    (convert src dst (.slice (some ⟨w.heap.size, 0, none⟩) 1 1)).run P (w.alloc (.cells #[.int .u8 (b.toNat : Int)] e)).drew = .ok (.string ⟨#[b]⟩) (w.alloc (.cells #[.int .u8 (b.toNat : Int)] e)).drew :=
  run_convert_bytes_back (P := P) (w.alloc (.cells #[.int .u8 (b.toNat : Int)] e)).drew src dst e ⟨w.heap.size, 0, none⟩ 1 [b] hs he hd (fun j hj => by
    have hj0 : j = 0 := by simpa using hj
    subst hj0
    rw [show (Addr.add ⟨w.heap.size, 0, none⟩ 0 : Addr) = ⟨w.heap.size, 0, none⟩ from rfl]
    exact (World.cell?_alloc_mark w _ _ _ 0).trans rfl)

theorem below_of_row'' {w w' : World} {R B : Nat} (h : w.grownBy w' (some R)) (hR : B ≤ R) (hB : B ≤ w.heap.size) : Below B w w' :=
  ⟨h.os, h.tape, h.output, h.size, fun k hk => h.block k (by omega) (fun e => by injection e with e; omega)⟩

theorem many_odd {o b k M : Nat} (h : o + b * k ≤ M) (hk : k % 2 = 1) : o + b + (b + b) * (k / 2) ≤ M := by
  have e : k = 2 * (k / 2) + 1 := by omega
  rw [e, Nat.mul_add, Nat.mul_one, ← Nat.mul_assoc, Nat.mul_comm b 2, Nat.two_mul] at h
  omega
theorem many_even {o b k M : Nat} (h : o + b * k ≤ M) (hk : k % 2 = 0) : o + (b + b) * (k / 2) ≤ M := by
  have e : k = 2 * (k / 2) := by omega
  rw [e, ← Nat.mul_assoc, Nat.mul_comm b 2, Nat.two_mul] at h
  omega
theorem many_s {o b k M : Nat} (h : o + b * k ≤ M) (hk : 0 < k) : o + b ≤ M := by
  have := Nat.mul_le_mul (Nat.le_refl b) hk
  rw [Nat.mul_one] at this
  omega

