/- laws.sameParts at two lists that read alike, by a walk of its text; condition: the lists are shorter than 2^40. -/
import Derived.Test.YtkndndcjchlpdabRows
import Derived.Test.YtkndndcjchlpdabCo8
import Derived.Deep.QuietTactic
import Derived.BigQuiet
import Derived.Laws.StructEq
namespace Go.Proofs.Ytkndndcjchlpdab
open Go.RowKit

theorem neq_cp (m z : Int) (w : World) : (binOp .neq 50 (.agg #[.int .i64 m, .int .i64 z]) (.agg #[.int .i64 m, .int .i64 z])).run Try.prog w = .ok (.bool false) w := by
  have hS : Try.prog.underlying 50 = some (.struct (Try.prog.fieldsOf 50)) := by kernel_rfl
  have hp : Try.prog.stoodInHeld 50 = false := by kernel_rfl
  rw [run_neq_struct, show (10000 : Nat) = 9999 + 1 from rfl, run_equalIn_agg w 9999 50 _ _ hS hp]
  simp only [Program.fieldsOf, Try.underlying50]
  go_simp
set_option maxHeartbeats 2000000 in
theorem laws_sameParts (l : List Cp) (v v2 : Value) (fp fp2 : List Nat) (w : World) (hbig : l.length ≤ 1099511627776) (hr : Cps w l v fp) (hr2 : Cps w l v2 fp2) :
    Calls Try.prog 13 #[v, v2] w fun e w' => e = .returned (.bool true) ∧ Drawn w w' := by
  obtain ⟨va, vc, rfl⟩ := hr.slice
  obtain ⟨va2, vc2, rfl⟩ := hr2.slice
  have Hr := Lib.hid hr; clear hr
  have Hr2 := Lib.hid hr2; clear hr2
  go_enter Try.func13, Try.ntmps13
  go_wp2
  go_loopw [5] (fun i wr => ∃ k : Nat, k ≤ l.length ∧ i = .int .i64 k ∧ Drawn w wr) (fun i _ => l.length - (intOf i).toNat)
  case atStart => exact ⟨0, by omega, rfl, Drawn.refl _⟩
  case round =>
    obtain ⟨k, hk, rfl, hwr⟩ := hrel
    by_cases hlt : k < l.length
    · obtain ⟨b, off, rfl, hb, hat⟩ := (show Cps wr l (.slice va l.length vc) fp from Hr.out.under (hwr.below _)).at (by omega)
      obtain ⟨c0, c1⟩ := hat k hlt
      obtain ⟨b2, off2, rfl, hb2, hat2⟩ := (show Cps wr l (.slice va2 l.length vc2) fp2 from Hr2.out.under (hwr.below _)).at (by omega)
      obtain ⟨d0, d1⟩ := hat2 k hlt
      have Hwr := Lib.hid hwr
      clear hat hat2 hwr
      generalize l[k] = x at *
      obtain ⟨xm, xv⟩ := x
      dsimp only at *
      have hq := fun W => neq_cp xm xv W
      go_wp2_with fail
      go_quiet (fail)
      clear hq
      go_wp2
      go_roundw
      case rel => exact ⟨k + 1, by omega, by go_num, Hwr.out.drewN _⟩
      case measure => simp [intOf]; omega
    · have Hwr := Lib.hid hwr; clear hwr
      go_wp2
      go_ret
      exact ⟨rfl, Hwr.out⟩

end Go.Proofs.Ytkndndcjchlpdab
