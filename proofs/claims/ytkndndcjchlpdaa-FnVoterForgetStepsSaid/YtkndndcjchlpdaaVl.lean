/- laws.sameVoter at two voters that read alike; condition: the list is shorter than 2^40. -/
import Derived.Test.YtkndndcjchlpdaaRows
import Derived.Test.YtkndndcjchlpdaaVa6
namespace Go.Proofs.Ytkndndcjchlpdaa
open Go.RowKit

theorem sameVoter_self (f : Int) (g : List Vt) (v v2 : Value) (fp fp2 : List Nat) (w : World) (hbig : g.length ≤ 1099511627776) (hg : Vts w g v fp) (hg2 : Vts w g v2 fp2) :
    Calls Try.prog 14 #[.agg #[.int .i64 f, v], .agg #[.int .i64 f, v2]] w fun e w' => e = .returned (.bool true) ∧ Below w.heap.size w w' :=
  (laws_sameVoter f f g g v v2 fp fp2 w hbig hg hg2).mono fun _ _ h => ⟨by rw [h.1]; simp, h.2⟩

theorem has_succ {G : List Vt} {y : Vt} {q : Nat} (h : q < G.length) : (G.take (q + 1)).contains y = ((G.take q).contains y || decide (G[q] = y)) := by
  rw [List.take_succ_eq_append_getElem h, List.contains_eq_any_beq, List.contains_eq_any_beq, List.any_append]
  congr 1
  by_cases e : G[q] = y
  · simp [e]
  · have e' : ¬ y = G[q] := fun h => e h.symm
    simp [e, e']

theorem eq_vote (x y : Vt) (w : World) : (binOp .eql 27 (.agg #[.int .i64 x.r, .int .i64 x.a, .int .i64 x.d]) (.agg #[.int .i64 y.r, .int .i64 y.a, .int .i64 y.d])).run Try.prog w = .ok (.bool (decide (x = y))) w := by
  have hS : Try.prog.underlying 27 = some (.struct (Try.prog.fieldsOf 27)) := by kernel_rfl
  have hp : Try.prog.stoodInHeld 27 = false := by kernel_rfl
  rw [run_eql_struct, show (10000 : Nat) = 9999 + 1 from rfl, run_equalIn_agg w 9999 27 _ _ hS hp]
  simp only [Program.fieldsOf, Try.underlying27]
  go_simp
  obtain ⟨xr, xa, xd⟩ := x
  obtain ⟨yr, ya, yd⟩ := y
  by_cases h1 : xr = yr <;> by_cases h2 : xa = ya <;> by_cases h3 : xd = yd <;> simp [h1, h2, h3]

end Go.Proofs.Ytkndndcjchlpdaa
