/- Law FnConflict holds for every input; no conditions of our own. -/
import Derived.Test.YtnjjbplocokdeaaRows
import Derived.Test.YtnjjbplocokdeaaBu0
import Derived.Test.YtnjjbplocokdeaaBu1
import Derived.Test.YtnjjbplocokdeaaBu2
import Derived.Test.YtnjjbplocokdeaaBu3
import Derived.Deep.QuietTactic
import Derived.BigQuiet
namespace Go.Proofs.Ytnjjbplocokdeaa
open Go.ChangeShapes Go.WideShapes Go.ChangeAt Go.RowKit

set_option maxHeartbeats 4000000 in
theorem fnConflict_walk (a : Option Addr) (cap : Nat) (zs : List Int) (w : World) (hk : zs.length ≤ cap) (_hm : zs.length ≤ maxLen) (hi : zs = [] ∨ ∃ b off, a = some ⟨b, off, none⟩ ∧ b < w.heap.size ∧ ∀ j (h : j < zs.length), w.cell? ⟨b, off + j, none⟩ = some (.int .u8 zs[j])) (hw : ∀ z ∈ zs, (Lit.int .u8 z).wf = true) :
    Calls Try.prog 3 #[.slice a zs.length cap] w fun e w' => e = .returned (.bool true) ∧ Below w.heap.size w w' := by
  by_cases hl : 1048576 < zs.length
  · go_enter Try.func3, Try.ntmps3
    go_wp2
    go_ret
    exact ⟨rfl, Below.refl _ _⟩
  have hcode := codeAt_of hk (by omega) hi hw
  have Hcode := Lib.hid hcode; clear hcode hi hw
  go_enter Try.func3, Try.ntmps3
  go_wp2_with fail
  refine (spec_DrawTxnsConflict a cap zs _ Hcode.out).mono ?_
  rintro e1 w1 ⟨⟨f, t, s, e⟩, ⟨f2, t2, s2, e2⟩, rfl, hb1⟩
  unfold agT
  dsimp only at *
  have hw0 := hb1.size
  have Hb := Lib.hid hb1; clear hb1
  have hal : Below w1.heap.size w1 (w1.alloc (.cells #[.int .i64 f, .int .i64 t, .int .i64 s, .int .i64 e] 24)) := (Below.refl _ _).alloc (Nat.le_refl _) _
  have Sa := Lib.hid (Str.new w1 24 #[.int .i64 f, .int .i64 t, .int .i64 s, .int .i64 e])
  have Hb := Lib.hid (below_step Hb.out Hb.out.size hal)
  clear hal
  have hal : Below (w1.alloc (.cells #[.int .i64 f, .int .i64 t, .int .i64 s, .int .i64 e] 24)).heap.size (w1.alloc (.cells #[.int .i64 f, .int .i64 t, .int .i64 s, .int .i64 e] 24)) ((w1.alloc (.cells #[.int .i64 f, .int .i64 t, .int .i64 s, .int .i64 e] 24)).alloc (.cells #[.int .i64 f2, .int .i64 t2, .int .i64 s2, .int .i64 e2] 24)) := (Below.refl _ _).alloc (Nat.le_refl _) _
  have Sa := Lib.hid (show Str ((w1.alloc (.cells #[.int .i64 f, .int .i64 t, .int .i64 s, .int .i64 e] 24)).alloc (.cells #[.int .i64 f2, .int .i64 t2, .int .i64 s2, .int .i64 e2] 24)) (w1.heap.size) 24 #[.int .i64 f, .int .i64 t, .int .i64 s, .int .i64 e] from Sa.out.alloc _)
  have Sb := Lib.hid (Str.new (w1.alloc (.cells #[.int .i64 f, .int .i64 t, .int .i64 s, .int .i64 e] 24)) 24 #[.int .i64 f2, .int .i64 t2, .int .i64 s2, .int .i64 e2])
  have Hb := Lib.hid (below_step Hb.out Hb.out.size hal)
  clear hal
  have Sb := Lib.hid (show Str ((w1.alloc (.cells #[.int .i64 f, .int .i64 t, .int .i64 s, .int .i64 e] 24)).alloc (.cells #[.int .i64 f2, .int .i64 t2, .int .i64 s2, .int .i64 e2] 24)) (w1.heap.size + 1) 24 #[.int .i64 f2, .int .i64 t2, .int .i64 s2, .int .i64 e2] by have h9 := Sb.out; simp only [World.size_alloc] at h9; exact h9)
  have HI := fun W => impl_TxnsConflict ⟨f, t, s, e⟩ ⟨f2, t2, s2, e2⟩ W
  have HI2 := fun W => impl_TxnsConflict ⟨f2, t2, s2, e2⟩ ⟨f, t, s, e⟩ W
  have HI3 := fun W => impl_TxnsConflict ⟨f, t, s, e⟩ ⟨f, t, s, e⟩ W
  have HS := fun W => spec_TxnsConflict ⟨f, t, s, e⟩ ⟨f2, t2, s2, e2⟩ W
  rw [cfB_comm] at HI2
  rw [cfB_self] at HI3
  unfold agT at HI HI2 HI3 HS
  dsimp only at HI HI2 HI3 HS
  generalize cfB ⟨f, t, s, e⟩ ⟨f2, t2, s2, e2⟩ = c at *
  have HI := Lib.hid HI; have HI2 := Lib.hid HI2; have HI3 := Lib.hid HI3; have HS := Lib.hid HS
  have hn1 : (c == c) = true := by simp
  have hn2 : (c != c) = false := by simp
  have ca_0 := Sa.out.cell 0 (v := .int .i64 f) rfl
  have ca_1 := Sa.out.cell 1 (v := .int .i64 t) rfl
  have ca_2 := Sa.out.cell 2 (v := .int .i64 s) rfl
  have ca_3 := Sa.out.cell 3 (v := .int .i64 e) rfl
  have cb_0 := Sb.out.cell 0 (v := .int .i64 f2) rfl
  have cb_1 := Sb.out.cell 1 (v := .int .i64 t2) rfl
  have cb_2 := Sb.out.cell 2 (v := .int .i64 s2) rfl
  have cb_3 := Sb.out.cell 3 (v := .int .i64 e2) rfl
  go_wp2_with fail
  generalize ((w1.alloc (.cells #[.int .i64 f, .int .i64 t, .int .i64 s, .int .i64 e] 24)).alloc (.cells #[.int .i64 f2, .int .i64 t2, .int .i64 s2, .int .i64 e2] 24)) = W2 at *
  clear ca_0 ca_1 ca_2 ca_3 cb_0 cb_1 cb_2 cb_3
  refine (HI.out _).mono ?_
  rintro e w3 ⟨rfl, hb⟩
  have Sa := Lib.hid (show Str w3 (w1.heap.size) 24 #[.int .i64 f, .int .i64 t, .int .i64 s, .int .i64 e] from (hb.block _ Sa.out.lt).trans Sa.out)
  have Sb := Lib.hid (show Str w3 (w1.heap.size + 1) 24 #[.int .i64 f2, .int .i64 t2, .int .i64 s2, .int .i64 e2] from (hb.block _ Sb.out.lt).trans Sb.out)
  have hsw3 := hb.size
  have Hb := Lib.hid (below_step Hb.out Hb.out.size hb)
  clear hb
  have ca_0 := Sa.out.cell 0 (v := .int .i64 f) rfl
  have ca_1 := Sa.out.cell 1 (v := .int .i64 t) rfl
  have ca_2 := Sa.out.cell 2 (v := .int .i64 s) rfl
  have ca_3 := Sa.out.cell 3 (v := .int .i64 e) rfl
  have cb_0 := Sb.out.cell 0 (v := .int .i64 f2) rfl
  have cb_1 := Sb.out.cell 1 (v := .int .i64 t2) rfl
  have cb_2 := Sb.out.cell 2 (v := .int .i64 s2) rfl
  have cb_3 := Sb.out.cell 3 (v := .int .i64 e2) rfl
  go_wp2_with fail
  clear ca_0 ca_1 ca_2 ca_3 cb_0 cb_1 cb_2 cb_3
  refine (HS.out _).mono ?_
  rintro e w4 ⟨rfl, hb⟩
  have Sa := Lib.hid (show Str w4 (w1.heap.size) 24 #[.int .i64 f, .int .i64 t, .int .i64 s, .int .i64 e] from (hb.block _ Sa.out.lt).trans Sa.out)
  have Sb := Lib.hid (show Str w4 (w1.heap.size + 1) 24 #[.int .i64 f2, .int .i64 t2, .int .i64 s2, .int .i64 e2] from (hb.block _ Sb.out.lt).trans Sb.out)
  have hsw4 := hb.size
  have Hb := Lib.hid (below_step Hb.out Hb.out.size hb)
  clear hb
  have ca_0 := Sa.out.cell 0 (v := .int .i64 f) rfl
  have ca_1 := Sa.out.cell 1 (v := .int .i64 t) rfl
  have ca_2 := Sa.out.cell 2 (v := .int .i64 s) rfl
  have ca_3 := Sa.out.cell 3 (v := .int .i64 e) rfl
  have cb_0 := Sb.out.cell 0 (v := .int .i64 f2) rfl
  have cb_1 := Sb.out.cell 1 (v := .int .i64 t2) rfl
  have cb_2 := Sb.out.cell 2 (v := .int .i64 s2) rfl
  have cb_3 := Sb.out.cell 3 (v := .int .i64 e2) rfl
  go_wp2_with fail
  clear ca_0 ca_1 ca_2 ca_3 cb_0 cb_1 cb_2 cb_3
  refine (HI2.out _).mono ?_
  rintro e w5 ⟨rfl, hb⟩
  have Sa := Lib.hid (show Str w5 (w1.heap.size) 24 #[.int .i64 f, .int .i64 t, .int .i64 s, .int .i64 e] from (hb.block _ Sa.out.lt).trans Sa.out)
  have Sb := Lib.hid (show Str w5 (w1.heap.size + 1) 24 #[.int .i64 f2, .int .i64 t2, .int .i64 s2, .int .i64 e2] from (hb.block _ Sb.out.lt).trans Sb.out)
  have hsw5 := hb.size
  have Hb := Lib.hid (below_step Hb.out Hb.out.size hb)
  clear hb
  have ca_0 := Sa.out.cell 0 (v := .int .i64 f) rfl
  have ca_1 := Sa.out.cell 1 (v := .int .i64 t) rfl
  have ca_2 := Sa.out.cell 2 (v := .int .i64 s) rfl
  have ca_3 := Sa.out.cell 3 (v := .int .i64 e) rfl
  go_wp2_with fail
  clear ca_0 ca_1 ca_2 ca_3
  refine (HI3.out _).mono ?_
  rintro e w6 ⟨rfl, hb⟩
  have Sa := Lib.hid (show Str w6 (w1.heap.size) 24 #[.int .i64 f, .int .i64 t, .int .i64 s, .int .i64 e] from (hb.block _ Sa.out.lt).trans Sa.out)
  have Sb := Lib.hid (show Str w6 (w1.heap.size + 1) 24 #[.int .i64 f2, .int .i64 t2, .int .i64 s2, .int .i64 e2] from (hb.block _ Sb.out.lt).trans Sb.out)
  have hsw6 := hb.size
  have Hb := Lib.hid (below_step Hb.out Hb.out.size hb)
  clear hb
  go_wp2
  go_ret
  exact ⟨by first | rfl | exact ret_bool (by simp) | exact ret_bool (by simp; omega), Hb.out⟩

theorem fnConflict_own : ownKnob Try.prog.godebug = none := by kernel_rfl
theorem fnConflict_laidOut : laidOutB Try.prog = true := by kernel_rfl

set_option maxRecDepth 8000 in
theorem fnConflict_lifted (os : Os) (started : os.Started) (H : Type) (enc : TypeId × Value → H) :
    ReturnsInHanded {} Try.checked os 3 .any (Rows.fnConflictSpec.pre6 enc Try.prog Try.f3 Rows.fnConflictRow.domain false) (Rows.fnConflictSpec.post enc Try.prog Try.f3 false true false false) := by
  refine law_lifted (C := Try.checked) (tb := 4) fnConflict_own fnConflict_laidOut started (by kernel_rfl) Try.func3 rfl Try.underlying4 rfl (by rw [Try.params3]; exact of_decide_eq_true (by kernel_rfl)) ?_
    (ChangeSpec.witness6 (enc := enc) (C := Try.checked) false ⟨#[], #[.slice none 0 0], []⟩ 8 (by kernel_rfl) (by kernel_rfl) (by kernel_rfl) (by kernel_rfl)) ?_
  · intro ds hds
    rw [Try.params3] at hds
    match ds, hds with
    | [d0], _ => rfl
  · intro W base args ds p hval0 hA0
    have hval : ∀ (j : Nat) t v, Try.f3.params[j]? = some t → args[j]? = some v → Value.okWide Try.prog W .any base t v := hval0
    have hA : DataW.TrodAll enc Try.prog W 0 (fun _ => true) true Try.f3.params.toList args.toList ds p := hA0
    rw [Try.params3] at hA hval
    obtain ⟨v0, vs0, d0, ds0, p0, q0, hargs0, rfl, rfl, h0, r0⟩ := trodAll_cons hA
    obtain ⟨hnil, rfl, rfl⟩ := trodAll_nil r0
    subst hnil
    obtain rfl : args = #[v0] := by cases args; simp_all
    obtain ⟨a0, cap0, zs0, rfl, hk0, hm0, hi0, hw0⟩ := open_slice_ints Try.underlying22 Try.underlying5 (by kernel_rfl) (hval 0 22 v0 rfl rfl) h0
    exact fnConflict_walk a0 cap0 zs0 W hk0 hm0 hi0 hw0

set_option maxRecDepth 8000 in
theorem fnConflict_holds : Rows.FnConflictSaid :=
  OpenClaim.holds_of_wide 3 Try.f3 rfl rfl rfl rfl rfl rfl rfl ⟨rfl, rfl, rfl, rfl, rfl⟩ rfl rfl rfl rfl rfl (by kernel_rfl) Try.func3 (by kernel_rfl)
    (of_decide_eq_true (by kernel_rfl)) (by unfold Func.isWrapper; first | (rw [if_pos (by decide +kernel)]; kernel_rfl) | (rw [if_neg (by decide +kernel)]; exact ⟨rfl, rfl⟩))
    (fun os started H enc _ => fnConflict_lifted os started H enc)

end Go.Proofs.Ytnjjbplocokdeaa
