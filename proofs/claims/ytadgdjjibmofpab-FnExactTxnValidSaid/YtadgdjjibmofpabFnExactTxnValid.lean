/- The exact law of TxnValid holds at every argument; no conditions of our own. -/
import Derived.Test.YtadgdjjibmofpabRows
import Derived.Test.YtadgdjjibmofpabBu0
import Derived.Test.YtadgdjjibmofpabBu1
import Derived.Deep.QuietTactic
import Derived.BigQuiet
namespace Go.Proofs.Ytadgdjjibmofpab
open Go.ChangeShapes Go.WideShapes Go.ChangeAt Go.RowKit

theorem fnExactTxnValid_walk (x0 x1 x2 x3 : Int) (w : World) (_h0 : -9223372036854775808 ≤ x0 ∧ x0 ≤ 9223372036854775807) (_h1 : -9223372036854775808 ≤ x1 ∧ x1 ≤ 9223372036854775807) (_h2 : -9223372036854775808 ≤ x2 ∧ x2 ≤ 9223372036854775807) (_h3 : -9223372036854775808 ≤ x3 ∧ x3 ≤ 9223372036854775807) :
    Calls Try.prog 3 #[.agg #[.int .i64 x0, .int .i64 x1, .int .i64 x2, .int .i64 x3]] w fun e w' => e = .returned (.bool true) ∧ Below w.heap.size w w' := by
  have hb0 : Below w.heap.size w (w.alloc (.cells #[.int .i64 x0, .int .i64 x1, .int .i64 x2, .int .i64 x3] 23)) := (Below.refl _ _).alloc (Nat.le_refl _) _
  have s0 := Str.new w 23 #[.int .i64 x0, .int .i64 x1, .int .i64 x2, .int .i64 x3]
  have S0 := Lib.hid s0; have Hb := Lib.hid hb0; clear s0 hb0
  have HI := Lib.hid (fun W => impl_TxnValid ⟨x0, x1, x2, x3⟩ W)
  have HS := Lib.hid (fun W => spec_TxnValid ⟨x0, x1, x2, x3⟩ W)
  unfold agT at HI HS
  dsimp only at HI HS
  have HT := Lib.hid (fun W => laws_toTxnR x0 x1 x2 x3 W)
  generalize txB ⟨x0, x1, x2, x3⟩ = ok at *
  go_enter Try.func3, Try.ntmps3
  have c0 := S0.out.cell 0 (v := .int .i64 x0) rfl
  have c1 := S0.out.cell 1 (v := .int .i64 x1) rfl
  have c2 := S0.out.cell 2 (v := .int .i64 x2) rfl
  have c3 := S0.out.cell 3 (v := .int .i64 x3) rfl
  go_wp2_with fail
  generalize w.alloc (.cells #[.int .i64 x0, .int .i64 x1, .int .i64 x2, .int .i64 x3] 23) = W0 at *
  refine (HT.out _).mono ?_
  rintro e w1 ⟨rfl, hb⟩
  clear c0 c1 c2 c3
  have S0 := Lib.hid (show Str w1 w.heap.size 23 #[.int .i64 x0, .int .i64 x1, .int .i64 x2, .int .i64 x3] from (hb.block _ S0.out.lt).trans S0.out)
  have Hb := Lib.hid (below_step Hb.out Hb.out.size hb)
  clear hb
  go_wp2_with fail
  refine (HS.out _).mono ?_
  rintro e w2 ⟨rfl, hb⟩
  have S0 := Lib.hid (show Str w2 w.heap.size 23 #[.int .i64 x0, .int .i64 x1, .int .i64 x2, .int .i64 x3] from (hb.block _ S0.out.lt).trans S0.out)
  have Hb := Lib.hid (below_step Hb.out Hb.out.size hb)
  clear hb
  have c0 := S0.out.cell 0 (v := .int .i64 x0) rfl
  have c1 := S0.out.cell 1 (v := .int .i64 x1) rfl
  have c2 := S0.out.cell 2 (v := .int .i64 x2) rfl
  have c3 := S0.out.cell 3 (v := .int .i64 x3) rfl
  go_wp2_with fail
  refine (HT.out _).mono ?_
  rintro e w3 ⟨rfl, hb⟩
  clear c0 c1 c2 c3
  have S0 := Lib.hid (show Str w3 w.heap.size 23 #[.int .i64 x0, .int .i64 x1, .int .i64 x2, .int .i64 x3] from (hb.block _ S0.out.lt).trans S0.out)
  have Hb := Lib.hid (below_step Hb.out Hb.out.size hb)
  clear hb
  go_wp2_with fail
  refine (HI.out _).mono ?_
  rintro e w4 ⟨rfl, hb⟩
  have S0 := Lib.hid (show Str w4 w.heap.size 23 #[.int .i64 x0, .int .i64 x1, .int .i64 x2, .int .i64 x3] from (hb.block _ S0.out.lt).trans S0.out)
  have Hb := Lib.hid (below_step Hb.out Hb.out.size hb)
  clear hb
  go_wp2
  go_ret
  exact ⟨by first | rfl | exact ret_bool (by simp), Hb.out⟩

theorem fnExactTxnValid_own : ownKnob Try.prog.godebug = none := by kernel_rfl
theorem fnExactTxnValid_laidOut : laidOutB Try.prog = true := by kernel_rfl

set_option maxRecDepth 8000 in
theorem fnExactTxnValid_lifted (os : Os) (started : os.Started) (H : Type) (enc : TypeId × Value → H) :
    ReturnsInHanded {} Try.checked os 3 .any (Rows.fnExactTxnValidSpec.pre6 enc Try.prog Try.f3 Rows.fnExactTxnValidRow.domain false) (Rows.fnExactTxnValidSpec.post enc Try.prog Try.f3 false true false false) := by
  refine law_lifted (C := Try.checked) (tb := 4) fnExactTxnValid_own fnExactTxnValid_laidOut started (by kernel_rfl) Try.func3 rfl Try.underlying4 rfl (by rw [Try.params3]; exact of_decide_eq_true (by kernel_rfl)) ?_
    (ChangeSpec.witness6 (enc := enc) (C := Try.checked) false ⟨#[], #[.agg #[.int .i64 0, .int .i64 0, .int .i64 0, .int .i64 0]], []⟩ 8 (by kernel_rfl) (by kernel_rfl) (by kernel_rfl) (by kernel_rfl)) ?_
  · intro ds hds
    rw [Try.params3] at hds
    match ds, hds with
    | [d0], _ => rfl
  · intro W base args ds p hval0 hA0
    have hval : ∀ (j : Nat) t v, Try.f3.params[j]? = some t → args[j]? = some v → Value.okWide Try.prog W .any base t v := hval0
    have hA : DataW.TrodAll enc Try.prog W 0 (fun _ => true) true Try.f3.params.toList args.toList ds p := hA0
    rw [Try.params3] at hA hval
    obtain ⟨v0, vs0, d0, ds0, p0, q0, hargs0, rfl, rfl, h0, r0⟩ := trodAll_cons hA
    obtain ⟨hnil, rfl, rfl⟩ := trodAll_nil r0
    subst hnil
    obtain rfl : args = #[v0] := by cases args; simp_all
    obtain ⟨x0_0, x0_1, x0_2, x0_3, rfl, b0_0, b0_1, b0_2, b0_3⟩ := open_Txn (hval 0 23 v0 rfl rfl) h0
    exact fnExactTxnValid_walk x0_0 x0_1 x0_2 x0_3 W b0_0 b0_1 b0_2 b0_3

set_option maxRecDepth 8000 in
theorem fnExactTxnValid_holds : Rows.FnExactTxnValidSaid :=
  OpenClaim.holds_of_wide 3 Try.f3 rfl rfl rfl rfl rfl rfl rfl ⟨rfl, rfl, rfl, rfl, rfl⟩ rfl rfl rfl rfl rfl (by kernel_rfl) Try.func3 (by kernel_rfl)
    (of_decide_eq_true (by kernel_rfl)) (by unfold Func.isWrapper; first | (rw [if_pos (by decide +kernel)]; kernel_rfl) | (rw [if_neg (by decide +kernel)]; exact ⟨rfl, rfl⟩))
    (fun os started H enc _ => fnExactTxnValid_lifted os started H enc)

end Go.Proofs.Ytadgdjjibmofpab
