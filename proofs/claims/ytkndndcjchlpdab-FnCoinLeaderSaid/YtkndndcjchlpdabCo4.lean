/- The draw of a committee and a value of the coin, by a walk of its text; condition: the text of code is shorter than 2^20. -/
import Derived.Test.YtkndndcjchlpdabRows
import Derived.Test.YtkndndcjchlpdabBase
import Derived.Test.YtkndndcjchlpdabRd
import Derived.Test.YtkndndcjchlpdabD1
import Derived.Deep.QuietTactic
import Derived.BigQuiet
namespace Go.Proofs.Ytkndndcjchlpdab
open Go.RowKit

theorem below_of_rowC {w w' : World} {R B : Nat} (h : w.grownBy w' (some R)) (hR : B ≤ R) (hB : B ≤ w.heap.size) : Below B w w' :=
  ⟨h.os, h.tape, h.output, h.size, fun k hk => h.block k (by omega) (fun e => by injection e with e; omega)⟩

theorem spec_DrawCoinLeader (a : Option Addr) (cap : Nat) (zs : List Int) (w : World) (h : CodeAt w a cap zs) :
    Calls Try.prog 14 #[.slice a zs.length cap] w fun e w' => ∃ v xs x, e = .returned (.tuple #[v, .int .i64 x]) ∧ Own 3 w' w.heap.size v xs ∧ xs.length ≤ 11 ∧ (-1 ≤ x ∧ x ≤ 251) ∧ Below w.heap.size w w' := by
  go_enter Try.func14, Try.ntmps14
  go_wp2_with fail
  refine (open_any a cap zs _ h).mono ?_
  rintro e w1 ⟨R, rfl, hR1, hR2, hr1, hb1⟩
  have Hr1 := Lib.hid hr1; clear hr1
  go_wp2_with fail
  refine (drawCommittee R 0 _ (by omega) Hr1.out hR2).mono ?_
  rintro e w2 ⟨v, xs, p', rfl, hown, hl, hs, hr2, hp', hg2⟩
  have hsz := hb1.size
  have Hr2 := Lib.hid hr2; clear hr2
  obtain ⟨ax, cx, rfl, hix, _⟩ := hown.ints
  have Hown := Lib.hid hown; clear hown hix hs
  go_wp2_with fail
  refine (pick_any R 253 p' _ (by omega) Hr2.out (by omega)).mono ?_
  rintro e w3 ⟨x, rfl, hx0, hx1, hr3, hg3⟩
  have hsz2 := hg2.size
  have Hg := Lib.hid (hb1.trans ((below_of_rowC hg2 hR1 hsz).trans (below_of_rowC hg3 hR1 (by omega))))
  have Hown2 := Lib.hid ((Hown.out.kept hg3 (.inr (fun e => by have := (Hown.out.lt R e).1; omega))).mono (B' := w.heap.size) hsz)
  clear hr3 hg2 hg3
  go_wp2
  go_ret2
  exact ⟨_, xs, _, rfl, Hown2.out, hl, by omega, Hg.out⟩

end Go.Proofs.Ytkndndcjchlpdab
