/- What the helpers of the laws on shards answer where the two lists are equal, each by a walk of its text; conditions: the lists have fewer than 2^40 elements. -/
import Derived.Test.YtejpoeejhmgphacRows
import Derived.Test.YtejpoeejhmgphacBase
import Derived.Test.YtejpoeejhmgphacApp
import Derived.Test.YtejpoeejhmgphacDt
import Derived.Test.YtejpoeejhmgphacC3
import Derived.Test.YtejpoeejhmgphacL1
import Derived.Test.YtejpoeejhmgphacHeld
import Derived.Deep.QuietTactic
import Derived.BigQuiet
namespace Go.Proofs.Ytejpoeejhmgphac
open Go.RowKit

/-- A list of shards in memory. -/
theorem shards_at {w : World} {L : List (Int × List Int)} {a : Option Addr} {n cap : Nat} {fp : List Nat} (h : Rd w (.l (L.map shardD)) (.slice a n cap) fp) (hne : 0 < L.length) :
    ∃ g off, a = some ⟨g, off, none⟩ ∧ g < w.heap.size ∧ ∀ k (hk : k < L.length), ∃ av cv, w.cell? ⟨g, off + k * 2, none⟩ = some (.int .i64 L[k].1) ∧ w.cell? ⟨g, off + k * 2 + 1, none⟩ = some (.slice av L[k].2.length cv) ∧ IntsAt w av L[k].2 := by
  obtain ⟨g, off, rfl, hg, _, _, _, hc⟩ := Rd.at h (by simpa using hne) (sz := 2) (by intro e he; simp at he; obtain ⟨x, y, _, rfl⟩ := he; rfl)
  refine ⟨g, off, rfl, hg, fun k hk => ?_⟩
  have hk' : k < (L.map shardD).length := by simpa using hk
  have he : (L.map shardD)[k] = shardD L[k] := by simp
  obtain ⟨v0, f0, h0, r0, _⟩ := hc k 0 hk' (by rw [he]; simp [shardD])
  obtain ⟨v1, f1, h1, r1, _⟩ := hc k 1 hk' (by rw [he]; simp [shardD])
  have r0' : Rd w (.i L[k].1) v0 f0 := by simpa [shardD] using r0
  have r1' : Rd w (intsD L[k].2) v1 f1 := by simpa [shardD] using r1
  obtain ⟨rfl, _⟩ := r0'.int
  obtain ⟨av, cv, rfl, _, hi⟩ := r1'.ints
  exact ⟨av, cv, h0, by rw [Nat.add_assoc]; exact h1, hi⟩

theorem laws_sameShard' (n : Int) (a a' : Option Addr) (cap cap' : Nat) (xs : List Int) (w : World) (hbig : xs.length ≤ 1099511627776) (hc : IntsAt w a xs) (hc' : IntsAt w a' xs) :
    Calls Try.prog 8 #[.agg #[.int .i64 n, .slice a xs.length cap], .agg #[.int .i64 n, .slice a' xs.length cap']] w fun e w' => e = .returned (.bool true) ∧ Below w.heap.size w w' := by
  have hb : ∀ o o', Below w.heap.size w ((w.alloc o).alloc o') := fun o o' => ((Below.refl _ w).alloc (Nat.le_refl _) _).alloc (by simp) _
  have H := Lib.hid (fun w' (h : Below w.heap.size w w') => laws_sameInts' a a' cap cap' xs w' hbig (hc.below h) (hc'.below h))
  have Hb := Lib.hid hb; clear hb hc hc'
  go_enter Try.func8, Try.ntmps8
  go_wp2_with fail
  refine (H.out _ (Hb.out _ _)).mono ?_
  rintro e w1 ⟨rfl, hd⟩
  go_wp2
  go_ret
  exact ⟨rfl, (Hb.out _ _).trans ((hd.below _).mono (Nat.le_refl _))⟩

