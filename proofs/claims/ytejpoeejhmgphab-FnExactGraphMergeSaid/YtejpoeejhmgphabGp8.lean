/- impl's authors of a round, by a walk of its text; conditions: lists are shorter than 2^40. -/
import Derived.Test.YtejpoeejhmgphabRows
import Derived.Test.YtejpoeejhmgphabGp4
namespace Go.Proofs.Ytejpoeejhmgphab
open Go.RowKit

def authP' (r : Int) (x : Vx) : Bool := decide (x.r = r)
set_option maxRecDepth 8000 in
theorem impl_authorsOf (g : List Vx) (v : Value) (fp : List Nat) (r : Int) (w : World) (hbig : g.length ≤ 1099511627776) (hr : Gr w g v fp) :
    Calls Try.prog 58 #[v, .int .i64 r] w fun e w' => ∃ u, e = .returned u ∧ Own 3 w' w.heap.size u (authZ g r) ∧ Below w.heap.size w w' := by
  obtain ⟨va, vc, rfl⟩ := hr.slice
  have hb0 : Below w.heap.size w (w.alloc (.cells #[] 3)) := (Below.refl _ _).alloc (Nat.le_refl _) _
  have Hr := Lib.hid hr; clear hr
  go_enter Try.func58, Try.ntmps58
  go_wp2_with fail
  go_loopw [5, 11] (fun u i wr => ∃ k : Nat, k ≤ g.length ∧ i = .int .i64 k ∧ Own 3 wr w.heap.size u (authZ (g.take k) r) ∧ Below w.heap.size w wr) (fun _ i _ => g.length - (intOf i).toNat)
  case atStart => exact ⟨0, Nat.zero_le _, rfl, own_empty _ _ (Nat.le_refl _), hb0⟩
  case round =>
    obtain ⟨k, hk, rfl, hown, hbel⟩ := hrel
    have Hown := Lib.hid hown; clear hown
    have Hbel := Lib.hid hbel; clear hbel
    by_cases hlt : k < g.length
    · obtain ⟨b, off, rfl, hb, hat⟩ := (Hr.out.under Hbel.out).at (by omega)
      obtain ⟨q0, q1, ⟨pa, pc, q2, _⟩, q3⟩ := hat k hlt
      clear hat
      have hbA : Below wr.heap.size wr (wr.alloc (.cells #[.int .i64 g[k].r, .int .i64 g[k].a, .slice pa g[k].ps.length pc, .int .i64 g[k].d] 28)) := (Below.refl _ _).alloc (Nat.le_refl _) _
      have HbA := Lib.hid (below_step Hbel.out Hbel.out.size hbA)
      have HownA := Lib.hid (Hown.out.below hbA)
      have HzA := Lib.hid (show (wr.alloc (.cells #[.int .i64 g[k].r, .int .i64 g[k].a, .slice pa g[k].ps.length pc, .int .i64 g[k].d] 28)).heap.size = wr.heap.size + 1 by simp)
      clear hbA
      by_cases e : g[k].r = r
      · have Hs := Lib.hid (authZ_yes hlt e)
        have e1 : (g[k].r == r) = true := by simpa using e
        have hl := authZ_len (g.take k) r
        rw [List.length_take] at hl
        have hB := HbA.out.size
        clear e
        generalize authZ (g.take k) r = out at *
        generalize g[k] = x at *
        obtain ⟨xr, xa, xp, xd⟩ := x
        dsimp only at *
        go_wp2_with (at_builtin; refine wpList_push TIg rfl (.tmp 19) (.tmp 22) rfl w.heap.size _ out _ rfl HownA.out (by omega) (by rw [HzA.out]; rfl) hB ?_; intro v8 w8 hown8 hg8)
        go_roundw
        case rel => exact ⟨k + 1, by omega, by go_num, by rw [Hs.out]; exact hown8, HbA.out.grown hg8 hB (fun g e => (HownA.out.lt g e).1)⟩
        case measure => simp [intOf]; omega
      · have Hs := Lib.hid (authZ_no hlt e)
        have e1 : (g[k].r == r) = false := by simpa using e
        clear e
        generalize g[k] = x at *
        obtain ⟨xr, xa, xp, xd⟩ := x
        dsimp only at *
        go_wp2
        go_roundw
        case rel => exact ⟨k + 1, by omega, by go_num, by rw [Hs.out]; exact HownA.out, HbA.out⟩
        case measure => simp [intOf]; omega
    · have hke : k = g.length := by omega
      subst hke
      rw [List.take_length] at Hown
      go_wp2
      go_ret
      exact ⟨_, rfl, Hown.out, Hbel.out⟩

end Go.Proofs.Ytejpoeejhmgphab
