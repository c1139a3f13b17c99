/- Law FnStoreGet holds for every input; no conditions of our own. -/
import Derived.Test.YthojbcecbeapgabRows
import Derived.Test.YthojbcecbeapgabBu0
import Derived.Test.YthojbcecbeapgabBu1
import Derived.Test.YthojbcecbeapgabBu2
import Derived.Test.YthojbcecbeapgabBu3
import Derived.Test.YthojbcecbeapgabBu4
import Derived.Deep.QuietTactic
import Derived.BigQuiet
namespace Go.Proofs.Ythojbcecbeapgab
open Go.ChangeShapes Go.WideShapes Go.ChangeAt Go.RowKit

set_option maxHeartbeats 4000000 in
theorem fnStoreGet_walk (a : Option Addr) (cap : Nat) (zs : List Int) (w : World) (hk : zs.length ≤ cap) (_hm : zs.length ≤ maxLen) (hi : zs = [] ∨ ∃ b off, a = some ⟨b, off, none⟩ ∧ b < w.heap.size ∧ ∀ j (h : j < zs.length), w.cell? ⟨b, off + j, none⟩ = some (.int .u8 zs[j])) (hw : ∀ z ∈ zs, (Lit.int .u8 z).wf = true) :
    Calls Try.prog 4 #[.slice a zs.length cap] w fun e w' => e = .returned (.bool true) ∧ Below w.heap.size w w' := by
  by_cases hl : 1048576 < zs.length
  · go_enter Try.func4, Try.ntmps4
    go_wp2
    go_ret
    exact ⟨rfl, Below.refl _ _⟩
  have hcode := codeAt_of hk (by omega) hi hw
  have Hcode := Lib.hid hcode; clear hcode hi hw
  go_enter Try.func4, Try.ntmps4
  go_wp2_with fail
  refine (spec_DrawStoreGet a cap zs _ Hcode.out).mono ?_
  rintro e w1 ⟨f, l, ux, d, rfl, ho, hl13, hb1⟩
  obtain ⟨ax, cx, rfl, _⟩ := OwnB.sl (l := l) ho
  obtain ⟨fx, hx⟩ := OwnB.bts (l := l) ho
  have Tx := Lib.hid hx
  have Hb := Lib.hid hb1
  clear ho hx hb1
  have hal : Below w1.heap.size w1 (w1.alloc (.cells #[.int .i64 f, .slice ax l.length cx] 25)) := (Below.refl _ _).alloc (Nat.le_refl _) _
  have Tx := Lib.hid (show Bts (w1.alloc (.cells #[.int .i64 f, .slice ax l.length cx] 25)) l (.slice ax l.length cx) fx from Tx.out.under hal)
  have Sx := Lib.hid (Str.new w1 25 #[.int .i64 f, .slice ax l.length cx])
  have Hb := Lib.hid (below_step Hb.out Hb.out.size hal)
  clear hal
  have HI := Lib.hid (fun W (h : Bts W l (.slice ax l.length cx) fx) => impl_StoreGet f l _ fx d W (by omega) h)
  have HS := Lib.hid (fun W (h : Bts W l (.slice ax l.length cx) fx) => spec_StoreGet f l _ fx d W (by omega) h)
  have hp := p103 (f := f) (l := l) (d := d)
  unfold agB at HI HS
  generalize (geR f l d).2 = ok at *
  generalize (geR f l d).1 = y at *
  obtain ⟨yd, ya, yr, ys⟩ := y
  dsimp only at *
  have Hp := Lib.hid hp
  clear hp
  have cx_0 := Sx.out.cell 0 (v := .int .i64 f) rfl
  have cx_1 := Sx.out.cell 1 (v := .slice ax l.length cx) rfl
  go_wp2_with fail
  generalize (w1.alloc (.cells #[.int .i64 f, .slice ax l.length cx] 25)) = W2 at *
  clear cx_0 cx_1
  refine (HI.out _ Tx.out).mono ?_
  rintro e w3 ⟨rfl, hb⟩
  have Tx := Lib.hid (show Bts w3 l (.slice ax l.length cx) fx from Tx.out.under hb)
  have Sx := Lib.hid (show Str w3 (w1.heap.size) 25 #[.int .i64 f, .slice ax l.length cx] from (hb.block _ Sx.out.lt).trans Sx.out)
  have hsw3 := hb.size
  have Hb := Lib.hid (below_step Hb.out Hb.out.size hb)
  clear hb
  have hal : Below w3.heap.size w3 (w3.alloc (.cells #[.int .i64 yd, .int .i64 ya, .int .i64 yr, .int .i64 ys] 27)) := (Below.refl _ _).alloc (Nat.le_refl _) _
  have Tx := Lib.hid (show Bts (w3.alloc (.cells #[.int .i64 yd, .int .i64 ya, .int .i64 yr, .int .i64 ys] 27)) l (.slice ax l.length cx) fx from Tx.out.under hal)
  have Sx := Lib.hid (show Str (w3.alloc (.cells #[.int .i64 yd, .int .i64 ya, .int .i64 yr, .int .i64 ys] 27)) (w1.heap.size) 25 #[.int .i64 f, .slice ax l.length cx] from Sx.out.alloc _)
  have So := Lib.hid (Str.new w3 27 #[.int .i64 yd, .int .i64 ya, .int .i64 yr, .int .i64 ys])
  have Hb := Lib.hid (below_step Hb.out Hb.out.size hal)
  clear hal
  have cx_0 := Sx.out.cell 0 (v := .int .i64 f) rfl
  have cx_1 := Sx.out.cell 1 (v := .slice ax l.length cx) rfl
  have co_0 := So.out.cell 0 (v := .int .i64 yd) rfl
  have co_1 := So.out.cell 1 (v := .int .i64 ya) rfl
  have co_2 := So.out.cell 2 (v := .int .i64 yr) rfl
  have co_3 := So.out.cell 3 (v := .int .i64 ys) rfl
  go_wp2_with fail
  generalize (w3.alloc (.cells #[.int .i64 yd, .int .i64 ya, .int .i64 yr, .int .i64 ys] 27)) = W4 at *
  clear cx_0 cx_1 co_0 co_1 co_2 co_3
  refine (HS.out _ Tx.out).mono ?_
  rintro e w5 ⟨rfl, hb⟩
  have Tx := Lib.hid (show Bts w5 l (.slice ax l.length cx) fx from Tx.out.under hb)
  have Sx := Lib.hid (show Str w5 (w1.heap.size) 25 #[.int .i64 f, .slice ax l.length cx] from (hb.block _ Sx.out.lt).trans Sx.out)
  have So := Lib.hid (show Str w5 (w3.heap.size) 27 #[.int .i64 yd, .int .i64 ya, .int .i64 yr, .int .i64 ys] from (hb.block _ So.out.lt).trans So.out)
  have hsw5 := hb.size
  have Hb := Lib.hid (below_step Hb.out Hb.out.size hb)
  clear hb
  have hal : Below w5.heap.size w5 (w5.alloc (.cells #[.int .i64 yd, .int .i64 ya, .int .i64 yr, .int .i64 ys] 27)) := (Below.refl _ _).alloc (Nat.le_refl _) _
  have Tx := Lib.hid (show Bts (w5.alloc (.cells #[.int .i64 yd, .int .i64 ya, .int .i64 yr, .int .i64 ys] 27)) l (.slice ax l.length cx) fx from Tx.out.under hal)
  have Sx := Lib.hid (show Str (w5.alloc (.cells #[.int .i64 yd, .int .i64 ya, .int .i64 yr, .int .i64 ys] 27)) (w1.heap.size) 25 #[.int .i64 f, .slice ax l.length cx] from Sx.out.alloc _)
  have So := Lib.hid (show Str (w5.alloc (.cells #[.int .i64 yd, .int .i64 ya, .int .i64 yr, .int .i64 ys] 27)) (w3.heap.size) 27 #[.int .i64 yd, .int .i64 ya, .int .i64 yr, .int .i64 ys] from So.out.alloc _)
  have Sk := Lib.hid (Str.new w5 27 #[.int .i64 yd, .int .i64 ya, .int .i64 yr, .int .i64 ys])
  have Hb := Lib.hid (below_step Hb.out Hb.out.size hal)
  clear hal
  have hq := fun W => neq_bt ⟨yd, ya, yr, ys⟩ ⟨yd, ya, yr, ys⟩ W
  rw [decide_eq_true (rfl : (⟨yd, ya, yr, ys⟩ : Bt) = ⟨yd, ya, yr, ys⟩)] at hq
  have hq2 := fun W => eql_bt ⟨yd, ya, yr, ys⟩ ⟨yd, ya, yr, ys⟩ W
  rw [decide_eq_true (rfl : (⟨yd, ya, yr, ys⟩ : Bt) = ⟨yd, ya, yr, ys⟩)] at hq2
  dsimp only at hq hq2
  have cx_0 := Sx.out.cell 0 (v := .int .i64 f) rfl
  have cx_1 := Sx.out.cell 1 (v := .slice ax l.length cx) rfl
  have co_0 := So.out.cell 0 (v := .int .i64 yd) rfl
  have co_1 := So.out.cell 1 (v := .int .i64 ya) rfl
  have co_2 := So.out.cell 2 (v := .int .i64 yr) rfl
  have co_3 := So.out.cell 3 (v := .int .i64 ys) rfl
  have ck_0 := Sk.out.cell 0 (v := .int .i64 yd) rfl
  have ck_1 := Sk.out.cell 1 (v := .int .i64 ya) rfl
  have ck_2 := Sk.out.cell 2 (v := .int .i64 yr) rfl
  have ck_3 := Sk.out.cell 3 (v := .int .i64 ys) rfl
  cases ok with
  | false =>
    go_wp2_with fail
    try go_quiet (fail)
    try go_wp2
    go_ret
    exact ⟨by first | rfl | exact ret_bool (by simp), Hb.out⟩
  | true =>
  obtain ⟨e1, e2⟩ := Hp.out rfl
  have e1' : (yd == d) = true := by rw [beq_iff_eq]; exact e1
  have e2' : decide (f ≤ yr) = true := decide_eq_true e2
  clear e1
  go_wp2_with fail
  try go_quiet (fail)
  try go_wp2
  go_ret
  exact ⟨by first | rfl | exact ret_bool (by simp), Hb.out⟩

theorem fnStoreGet_own : ownKnob Try.prog.godebug = none := by kernel_rfl
theorem fnStoreGet_laidOut : laidOutB Try.prog = true := by kernel_rfl

set_option maxRecDepth 8000 in
theorem fnStoreGet_lifted (os : Os) (started : os.Started) (H : Type) (enc : TypeId × Value → H) :
    ReturnsInHanded {} Try.checked os 4 .any (Rows.fnStoreGetSpec.pre6 enc Try.prog Try.f4 Rows.fnStoreGetRow.domain false) (Rows.fnStoreGetSpec.post enc Try.prog Try.f4 false true false false) := by
  refine law_lifted (C := Try.checked) (tb := 4) fnStoreGet_own fnStoreGet_laidOut started (by kernel_rfl) Try.func4 rfl Try.underlying4 rfl (by rw [Try.params4]; exact of_decide_eq_true (by kernel_rfl)) ?_
    (ChangeSpec.witness6 (enc := enc) (C := Try.checked) false ⟨#[], #[.slice none 0 0], []⟩ 8 (by kernel_rfl) (by kernel_rfl) (by kernel_rfl) (by kernel_rfl)) ?_
  · intro ds hds
    rw [Try.params4] at hds
    match ds, hds with
    | [d0], _ => rfl
  · intro W base args ds p hval0 hA0
    have hval : ∀ (j : Nat) t v, Try.f4.params[j]? = some t → args[j]? = some v → Value.okWide Try.prog W .any base t v := hval0
    have hA : DataW.TrodAll enc Try.prog W 0 (fun _ => true) true Try.f4.params.toList args.toList ds p := hA0
    rw [Try.params4] at hA hval
    obtain ⟨v0, vs0, d0, ds0, p0, q0, hargs0, rfl, rfl, h0, r0⟩ := trodAll_cons hA
    obtain ⟨hnil, rfl, rfl⟩ := trodAll_nil r0
    subst hnil
    obtain rfl : args = #[v0] := by cases args; simp_all
    obtain ⟨a0, cap0, zs0, rfl, hk0, hm0, hi0, hw0⟩ := open_slice_ints Try.underlying22 Try.underlying5 (by kernel_rfl) (hval 0 22 v0 rfl rfl) h0
    exact fnStoreGet_walk a0 cap0 zs0 W hk0 hm0 hi0 hw0

set_option maxRecDepth 8000 in
theorem fnStoreGet_holds : Rows.FnStoreGetSaid :=
  OpenClaim.holds_of_wide 4 Try.f4 rfl rfl rfl rfl rfl rfl rfl ⟨rfl, rfl, rfl, rfl, rfl⟩ rfl rfl rfl rfl rfl (by kernel_rfl) Try.func4 (by kernel_rfl)
    (of_decide_eq_true (by kernel_rfl)) (by unfold Func.isWrapper; first | (rw [if_pos (by decide +kernel)]; kernel_rfl) | (rw [if_neg (by decide +kernel)]; exact ⟨rfl, rfl⟩))
    (fun os started H enc _ => fnStoreGet_lifted os started H enc)

end Go.Proofs.Ythojbcecbeapgab
