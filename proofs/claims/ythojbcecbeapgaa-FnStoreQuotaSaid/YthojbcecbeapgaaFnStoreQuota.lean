/- Law FnStoreQuota holds for every input; no conditions of our own. -/
import Derived.Test.YthojbcecbeapgaaRows
import Derived.Test.YthojbcecbeapgaaBu0
import Derived.Test.YthojbcecbeapgaaBu1
import Derived.Test.YthojbcecbeapgaaBu2
import Derived.Test.YthojbcecbeapgaaBu3
import Derived.Test.YthojbcecbeapgaaBu4
import Derived.Deep.QuietTactic
import Derived.BigQuiet
namespace Go.Proofs.Ythojbcecbeapgaa
open Go.ChangeShapes Go.WideShapes Go.ChangeAt Go.RowKit

set_option maxHeartbeats 4000000 in
theorem fnStoreQuota_walk (a : Option Addr) (cap : Nat) (zs : List Int) (w : World) (hk : zs.length ≤ cap) (_hm : zs.length ≤ maxLen) (hi : zs = [] ∨ ∃ b off, a = some ⟨b, off, none⟩ ∧ b < w.heap.size ∧ ∀ j (h : j < zs.length), w.cell? ⟨b, off + j, none⟩ = some (.int .u8 zs[j])) (hw : ∀ z ∈ zs, (Lit.int .u8 z).wf = true) :
    Calls Try.prog 5 #[.slice a zs.length cap] w fun e w' => e = .returned (.bool true) ∧ Below w.heap.size w w' := by
  by_cases hl : 1048576 < zs.length
  · go_enter Try.func5, Try.ntmps5
    go_wp2
    go_ret
    exact ⟨rfl, Below.refl _ _⟩
  have hcode := codeAt_of hk (by omega) hi hw
  have Hcode := Lib.hid hcode; clear hcode hi hw
  go_enter Try.func5, Try.ntmps5
  go_wp2_with fail
  refine (spec_DrawStoreUsed a cap zs _ Hcode.out).mono ?_
  rintro e w1 ⟨f, l, ux, n, rfl, ho, hl13, hb1⟩
  obtain ⟨ax, cx, rfl, _⟩ := OwnB.sl (l := l) ho
  obtain ⟨fx, hx⟩ := OwnB.bts (l := l) ho
  have Tx := Lib.hid hx
  have Hb := Lib.hid hb1
  clear ho hx hb1
  have hal : Below w1.heap.size w1 (w1.alloc (.cells #[.int .i64 f, .slice ax l.length cx] 25)) := (Below.refl _ _).alloc (Nat.le_refl _) _
  have Tx := Lib.hid (show Bts (w1.alloc (.cells #[.int .i64 f, .slice ax l.length cx] 25)) l (.slice ax l.length cx) fx from Tx.out.under hal)
  have Sx := Lib.hid (Str.new w1 25 #[.int .i64 f, .slice ax l.length cx])
  have Hb := Lib.hid (below_step Hb.out Hb.out.size hal)
  clear hal
  obtain ⟨N, hN⟩ : ∃ N, N = uzZ f l n := ⟨_, rfl⟩
  have hN30 := uz_le f l n
  have HI := Lib.hid (fun W (h : Bts W l (.slice ax l.length cx) fx) => impl_StoreUsed f l _ fx n W (by omega) h)
  have HS := Lib.hid (fun W (h : Bts W l (.slice ax l.length cx) fx) => spec_StoreUsed f l _ fx n W (by omega) h)
  rw [← hN] at HI HS hN30
  clear hN
  have cx_0 := Sx.out.cell 0 (v := .int .i64 f) rfl
  have cx_1 := Sx.out.cell 1 (v := .slice ax l.length cx) rfl
  go_wp2_with fail
  generalize (w1.alloc (.cells #[.int .i64 f, .slice ax l.length cx] 25)) = W2 at *
  clear cx_0 cx_1
  refine (HI.out _ Tx.out).mono ?_
  rintro e w3 ⟨rfl, hb⟩
  have Tx := Lib.hid (show Bts w3 l (.slice ax l.length cx) fx from Tx.out.under hb)
  have Sx := Lib.hid (show Str w3 (w1.heap.size) 25 #[.int .i64 f, .slice ax l.length cx] from (hb.block _ Sx.out.lt).trans Sx.out)
  have hsw3 := hb.size
  have Hb := Lib.hid (below_step Hb.out Hb.out.size hb)
  clear hb
  have cx_0 := Sx.out.cell 0 (v := .int .i64 f) rfl
  have cx_1 := Sx.out.cell 1 (v := .slice ax l.length cx) rfl
  go_wp2_with fail
  clear cx_0 cx_1
  refine (HS.out _ Tx.out).mono ?_
  rintro e w4 ⟨rfl, hb⟩
  have Tx := Lib.hid (show Bts w4 l (.slice ax l.length cx) fx from Tx.out.under hb)
  have Sx := Lib.hid (show Str w4 (w1.heap.size) 25 #[.int .i64 f, .slice ax l.length cx] from (hb.block _ Sx.out.lt).trans Sx.out)
  have hsw4 := hb.size
  have Hb := Lib.hid (below_step Hb.out Hb.out.size hb)
  clear hb
  by_cases hn : N < 0
  case pos =>
    go_wp2
    go_ret
    exact ⟨by first | rfl | exact ret_bool (by simp) | exact ret_bool (by simp; omega), Hb.out⟩
  go_wp2
  go_ret
  exact ⟨by first | rfl | exact ret_bool (by simp) | exact ret_bool (by simp; omega), Hb.out⟩

theorem fnStoreQuota_own : ownKnob Try.prog.godebug = none := by kernel_rfl
theorem fnStoreQuota_laidOut : laidOutB Try.prog = true := by kernel_rfl

set_option maxRecDepth 8000 in
theorem fnStoreQuota_lifted (os : Os) (started : os.Started) (H : Type) (enc : TypeId × Value → H) :
    ReturnsInHanded {} Try.checked os 5 .any (Rows.fnStoreQuotaSpec.pre6 enc Try.prog Try.f5 Rows.fnStoreQuotaRow.domain false) (Rows.fnStoreQuotaSpec.post enc Try.prog Try.f5 false true false false) := by
  refine law_lifted (C := Try.checked) (tb := 4) fnStoreQuota_own fnStoreQuota_laidOut started (by kernel_rfl) Try.func5 rfl Try.underlying4 rfl (by rw [Try.params5]; exact of_decide_eq_true (by kernel_rfl)) ?_
    (ChangeSpec.witness6 (enc := enc) (C := Try.checked) false ⟨#[], #[.slice none 0 0], []⟩ 8 (by kernel_rfl) (by kernel_rfl) (by kernel_rfl) (by kernel_rfl)) ?_
  · intro ds hds
    rw [Try.params5] at hds
    match ds, hds with
    | [d0], _ => rfl
  · intro W base args ds p hval0 hA0
    have hval : ∀ (j : Nat) t v, Try.f5.params[j]? = some t → args[j]? = some v → Value.okWide Try.prog W .any base t v := hval0
    have hA : DataW.TrodAll enc Try.prog W 0 (fun _ => true) true Try.f5.params.toList args.toList ds p := hA0
    rw [Try.params5] at hA hval
    obtain ⟨v0, vs0, d0, ds0, p0, q0, hargs0, rfl, rfl, h0, r0⟩ := trodAll_cons hA
    obtain ⟨hnil, rfl, rfl⟩ := trodAll_nil r0
    subst hnil
    obtain rfl : args = #[v0] := by cases args; simp_all
    obtain ⟨a0, cap0, zs0, rfl, hk0, hm0, hi0, hw0⟩ := open_slice_ints Try.underlying22 Try.underlying5 (by kernel_rfl) (hval 0 22 v0 rfl rfl) h0
    exact fnStoreQuota_walk a0 cap0 zs0 W hk0 hm0 hi0 hw0

set_option maxRecDepth 8000 in
theorem fnStoreQuota_holds : Rows.FnStoreQuotaSaid :=
  OpenClaim.holds_of_wide 5 Try.f5 rfl rfl rfl rfl rfl rfl rfl ⟨rfl, rfl, rfl, rfl, rfl⟩ rfl rfl rfl rfl rfl (by kernel_rfl) Try.func5 (by kernel_rfl)
    (of_decide_eq_true (by kernel_rfl)) (by unfold Func.isWrapper; first | (rw [if_pos (by decide +kernel)]; kernel_rfl) | (rw [if_neg (by decide +kernel)]; exact ⟨rfl, rfl⟩))
    (fun os started H enc _ => fnStoreQuota_lifted os started H enc)

end Go.Proofs.Ythojbcecbeapgaa
