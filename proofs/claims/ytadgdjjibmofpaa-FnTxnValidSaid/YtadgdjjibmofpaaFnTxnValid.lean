/- Law FnTxnValid holds for every input; no conditions of our own. -/
import Derived.Test.YtadgdjjibmofpaaRows
import Derived.Test.YtadgdjjibmofpaaBu0
import Derived.Deep.QuietTactic
import Derived.BigQuiet
namespace Go.Proofs.Ytadgdjjibmofpaa
open Go.ChangeShapes Go.WideShapes Go.ChangeAt Go.RowKit

set_option maxHeartbeats 4000000 in
theorem fnTxnValid_walk (a : Option Addr) (cap : Nat) (zs : List Int) (w : World) (hk : zs.length ≤ cap) (_hm : zs.length ≤ maxLen) (hi : zs = [] ∨ ∃ b off, a = some ⟨b, off, none⟩ ∧ b < w.heap.size ∧ ∀ j (h : j < zs.length), w.cell? ⟨b, off + j, none⟩ = some (.int .u8 zs[j])) (hw : ∀ z ∈ zs, (Lit.int .u8 z).wf = true) :
    Calls Try.prog 9 #[.slice a zs.length cap] w fun e w' => e = .returned (.bool true) ∧ Below w.heap.size w w' := by
  by_cases hl : 1048576 < zs.length
  · go_enter Try.func9, Try.ntmps9
    go_wp2
    go_ret
    exact ⟨rfl, Below.refl _ _⟩
  have hcode := codeAt_of hk (by omega) hi hw
  have Hcode := Lib.hid hcode; clear hcode hi hw
  go_enter Try.func9, Try.ntmps9
  go_wp2_with fail
  refine (spec_DrawTxnValid a cap zs _ Hcode.out).mono ?_
  rintro e1 w1 ⟨⟨f, t, s, e⟩, rfl, _, hb1⟩
  unfold agT
  dsimp only at *
  have hw0 := hb1.size
  have Hb := Lib.hid hb1; clear hb1
  have hal : Below w1.heap.size w1 (w1.alloc (.cells #[.int .i64 f, .int .i64 t, .int .i64 s, .int .i64 e] 27)) := (Below.refl _ _).alloc (Nat.le_refl _) _
  have St := Lib.hid (Str.new w1 27 #[.int .i64 f, .int .i64 t, .int .i64 s, .int .i64 e])
  have Hb := Lib.hid (below_step Hb.out Hb.out.size hal)
  clear hal
  have HI := Lib.hid (fun x W => impl_TxnValid x W)
  have HS := Lib.hid (fun W => spec_TxnValid ⟨f, t, s, e⟩ W)
  unfold agT at HI HS
  dsimp only at HI HS
  have Hx := Lib.hid (show txB ⟨f, t, s, e⟩ = txB ⟨f, t, s, e⟩ from rfl)
  have hp := Lib.hid (fun (h : txB ⟨f, t, s, e⟩ = true) => (show f ≠ t ∧ txB ⟨t, f, s, e⟩ = true ∧ txB ⟨f, f, s, e⟩ = false from by
    obtain ⟨h1, h2, h3, h4, h5⟩ := txB_iff.1 h
    refine ⟨h3, txB_iff.2 ⟨h2, h1, fun e => h3 e.symm, h4, h5⟩, ?_⟩
    cases hq : txB ⟨f, f, s, e⟩ with
    | false => rfl
    | true => exact absurd rfl (txB_iff.1 hq).2.2.1))
  have HI1 := Lib.hid (fun W => HI.out ⟨f, t, s, e⟩ W)
  have hbt : txB ⟨f, t, s, e⟩ = true ∨ txB ⟨f, t, s, e⟩ = false := by cases txB ⟨f, t, s, e⟩ <;> simp
  dsimp only at HI1
  rcases hbt with hbt | hbt
  case inr =>
    have h1 := HI1.out; have h2 := HS.out
    rw [hbt] at h1 h2
    have HI1 := Lib.hid h1; have HS := Lib.hid h2; clear h1 h2 hbt hp Hx
    have ct_0 := St.out.cell 0 (v := .int .i64 f) rfl
    have ct_1 := St.out.cell 1 (v := .int .i64 t) rfl
    have ct_2 := St.out.cell 2 (v := .int .i64 s) rfl
    have ct_3 := St.out.cell 3 (v := .int .i64 e) rfl
    go_wp2_with fail
    generalize (w1.alloc (.cells #[.int .i64 f, .int .i64 t, .int .i64 s, .int .i64 e] 27)) = W2 at *
    clear ct_0 ct_1 ct_2 ct_3
    refine (HI1.out _).mono ?_
    rintro e w3 ⟨rfl, hb⟩
    have St := Lib.hid (show Str w3 (w1.heap.size) 27 #[.int .i64 f, .int .i64 t, .int .i64 s, .int .i64 e] from (hb.block _ St.out.lt).trans St.out)
    have hsw3 := hb.size
    have Hb := Lib.hid (below_step Hb.out Hb.out.size hb)
    clear hb
    have ct_0 := St.out.cell 0 (v := .int .i64 f) rfl
    have ct_1 := St.out.cell 1 (v := .int .i64 t) rfl
    have ct_2 := St.out.cell 2 (v := .int .i64 s) rfl
    have ct_3 := St.out.cell 3 (v := .int .i64 e) rfl
    go_wp2_with fail
    clear ct_0 ct_1 ct_2 ct_3
    refine (HS.out _).mono ?_
    rintro e w4 ⟨rfl, hb⟩
    have St := Lib.hid (show Str w4 (w1.heap.size) 27 #[.int .i64 f, .int .i64 t, .int .i64 s, .int .i64 e] from (hb.block _ St.out.lt).trans St.out)
    have hsw4 := hb.size
    have Hb := Lib.hid (below_step Hb.out Hb.out.size hb)
    clear hb
    go_wp2
    go_ret
    exact ⟨by first | rfl | exact ret_bool (by simp) | exact ret_bool (by simp; omega), Hb.out⟩
  obtain ⟨hp1, hp2, hp3⟩ := hp.out hbt
  have h1 := HI1.out; have h2 := HS.out
  have h3 := fun W => HI.out ⟨t, f, s, e⟩ W
  have h4 := fun W => HI.out ⟨f, f, s, e⟩ W
  rw [hbt] at h1 h2
  rw [hp2] at h3
  rw [hp3] at h4
  dsimp only at h3 h4
  have HI1 := Lib.hid h1; have HS := Lib.hid h2; have HI2 := Lib.hid h3; have HI3 := Lib.hid h4; clear h1 h2 h3 h4 hbt hp Hx hp2 hp3 HI
  have hn1 : (f == t) = false := by rw [beq_eq_false_iff_ne]; exact hp1
  have hn2 : (f != t) = true := by rw [bne, hn1]; rfl
  have Hp1 := Lib.hid hp1; clear hp1
  have ct_0 := St.out.cell 0 (v := .int .i64 f) rfl
  have ct_1 := St.out.cell 1 (v := .int .i64 t) rfl
  have ct_2 := St.out.cell 2 (v := .int .i64 s) rfl
  have ct_3 := St.out.cell 3 (v := .int .i64 e) rfl
  go_wp2_with fail
  generalize (w1.alloc (.cells #[.int .i64 f, .int .i64 t, .int .i64 s, .int .i64 e] 27)) = W2 at *
  clear ct_0 ct_1 ct_2 ct_3
  refine (HI1.out _).mono ?_
  rintro e w3 ⟨rfl, hb⟩
  have St := Lib.hid (show Str w3 (w1.heap.size) 27 #[.int .i64 f, .int .i64 t, .int .i64 s, .int .i64 e] from (hb.block _ St.out.lt).trans St.out)
  have hsw3 := hb.size
  have Hb := Lib.hid (below_step Hb.out Hb.out.size hb)
  clear hb
  have ct_0 := St.out.cell 0 (v := .int .i64 f) rfl
  have ct_1 := St.out.cell 1 (v := .int .i64 t) rfl
  have ct_2 := St.out.cell 2 (v := .int .i64 s) rfl
  have ct_3 := St.out.cell 3 (v := .int .i64 e) rfl
  go_wp2_with fail
  clear ct_0 ct_1 ct_2 ct_3
  refine (HS.out _).mono ?_
  rintro e w4 ⟨rfl, hb⟩
  have St := Lib.hid (show Str w4 (w1.heap.size) 27 #[.int .i64 f, .int .i64 t, .int .i64 s, .int .i64 e] from (hb.block _ St.out.lt).trans St.out)
  have hsw4 := hb.size
  have Hb := Lib.hid (below_step Hb.out Hb.out.size hb)
  clear hb
  have htl := St.out.lt
  have g0 := St.out.cell 0 (v := .int .i64 f) rfl
  have g1 := St.out.cell 1 (v := .int .i64 t) rfl
  have g2 := St.out.cell 2 (v := .int .i64 s) rfl
  have g3 := St.out.cell 3 (v := .int .i64 e) rfl
  have sv := Str.new (w4.alloc (.cells #[.int .i64 t, .int .i64 f, .int .i64 s, .int .i64 e] 27)) 27 #[.int .i64 f, .int .i64 t, .int .i64 s, .int .i64 e]
  have cv := sv.cell 1 (v := .int .i64 t) rfl
  have cf := sv.frozen 1
  clear sv
  have hal : Below w4.heap.size w4 (w4.alloc (.cells #[.int .i64 t, .int .i64 f, .int .i64 s, .int .i64 e] 27)) := (Below.refl _ _).alloc (Nat.le_refl _) _
  have St := Lib.hid (show Str (w4.alloc (.cells #[.int .i64 t, .int .i64 f, .int .i64 s, .int .i64 e] 27)) (w1.heap.size) 27 #[.int .i64 f, .int .i64 t, .int .i64 s, .int .i64 e] from St.out.alloc _)
  have Su := Lib.hid (Str.new w4 27 #[.int .i64 t, .int .i64 f, .int .i64 s, .int .i64 e])
  have Hb := Lib.hid (below_step Hb.out Hb.out.size hal)
  clear hal
  have hal : Below (w4.alloc (.cells #[.int .i64 t, .int .i64 f, .int .i64 s, .int .i64 e] 27)).heap.size (w4.alloc (.cells #[.int .i64 t, .int .i64 f, .int .i64 s, .int .i64 e] 27)) ((w4.alloc (.cells #[.int .i64 t, .int .i64 f, .int .i64 s, .int .i64 e] 27)).alloc (.cells #[.int .i64 f, .int .i64 f, .int .i64 s, .int .i64 e] 27)) := (Below.refl _ _).alloc (Nat.le_refl _) _
  have St := Lib.hid (show Str ((w4.alloc (.cells #[.int .i64 t, .int .i64 f, .int .i64 s, .int .i64 e] 27)).alloc (.cells #[.int .i64 f, .int .i64 f, .int .i64 s, .int .i64 e] 27)) (w1.heap.size) 27 #[.int .i64 f, .int .i64 t, .int .i64 s, .int .i64 e] from St.out.alloc _)
  have Su := Lib.hid (show Str ((w4.alloc (.cells #[.int .i64 t, .int .i64 f, .int .i64 s, .int .i64 e] 27)).alloc (.cells #[.int .i64 f, .int .i64 f, .int .i64 s, .int .i64 e] 27)) (w4.heap.size) 27 #[.int .i64 t, .int .i64 f, .int .i64 s, .int .i64 e] from Su.out.alloc _)
  have Sv := Lib.hid (Str.new (w4.alloc (.cells #[.int .i64 t, .int .i64 f, .int .i64 s, .int .i64 e] 27)) 27 #[.int .i64 f, .int .i64 f, .int .i64 s, .int .i64 e])
  have Hb := Lib.hid (below_step Hb.out Hb.out.size hal)
  clear hal
  have Sv := Lib.hid (show Str ((w4.alloc (.cells #[.int .i64 t, .int .i64 f, .int .i64 s, .int .i64 e] 27)).alloc (.cells #[.int .i64 f, .int .i64 f, .int .i64 s, .int .i64 e] 27)) (w4.heap.size + 1) 27 #[.int .i64 f, .int .i64 f, .int .i64 s, .int .i64 e] by have h9 := Sv.out; simp only [World.size_alloc] at h9; exact h9)
  have cu_0 := Su.out.cell 0 (v := .int .i64 t) rfl
  have cu_1 := Su.out.cell 1 (v := .int .i64 f) rfl
  have cu_2 := Su.out.cell 2 (v := .int .i64 s) rfl
  have cu_3 := Su.out.cell 3 (v := .int .i64 e) rfl
  have cv_0 := Sv.out.cell 0 (v := .int .i64 f) rfl
  have cv_1 := Sv.out.cell 1 (v := .int .i64 f) rfl
  have cv_2 := Sv.out.cell 2 (v := .int .i64 s) rfl
  have cv_3 := Sv.out.cell 3 (v := .int .i64 e) rfl
  go_wp2_with fail
  generalize ((w4.alloc (.cells #[.int .i64 t, .int .i64 f, .int .i64 s, .int .i64 e] 27)).alloc (.cells #[.int .i64 f, .int .i64 f, .int .i64 s, .int .i64 e] 27)) = W5 at *
  clear cu_0 cu_1 cu_2 cu_3 cv_0 cv_1 cv_2 cv_3
  refine (HI2.out _).mono ?_
  rintro e1 w6 ⟨rfl, hb⟩
  clear cv cf g0 g1 g2 g3
  have St := Lib.hid (show Str w6 (w1.heap.size) 27 #[.int .i64 f, .int .i64 t, .int .i64 s, .int .i64 e] from (hb.block _ St.out.lt).trans St.out)
  have Su := Lib.hid (show Str w6 (w4.heap.size) 27 #[.int .i64 t, .int .i64 f, .int .i64 s, .int .i64 e] from (hb.block _ Su.out.lt).trans Su.out)
  have Sv := Lib.hid (show Str w6 (w4.heap.size + 1) 27 #[.int .i64 f, .int .i64 f, .int .i64 s, .int .i64 e] from (hb.block _ Sv.out.lt).trans Sv.out)
  have hsw6 := hb.size
  have Hb := Lib.hid (below_step Hb.out Hb.out.size hb)
  clear hb
  have cv_0 := Sv.out.cell 0 (v := .int .i64 f) rfl
  have cv_1 := Sv.out.cell 1 (v := .int .i64 f) rfl
  have cv_2 := Sv.out.cell 2 (v := .int .i64 s) rfl
  have cv_3 := Sv.out.cell 3 (v := .int .i64 e) rfl
  go_wp2_with fail
  clear cv_0 cv_1 cv_2 cv_3
  refine (HI3.out _).mono ?_
  rintro e w7 ⟨rfl, hb⟩
  have St := Lib.hid (show Str w7 (w1.heap.size) 27 #[.int .i64 f, .int .i64 t, .int .i64 s, .int .i64 e] from (hb.block _ St.out.lt).trans St.out)
  have Su := Lib.hid (show Str w7 (w4.heap.size) 27 #[.int .i64 t, .int .i64 f, .int .i64 s, .int .i64 e] from (hb.block _ Su.out.lt).trans Su.out)
  have Sv := Lib.hid (show Str w7 (w4.heap.size + 1) 27 #[.int .i64 f, .int .i64 f, .int .i64 s, .int .i64 e] from (hb.block _ Sv.out.lt).trans Sv.out)
  have hsw7 := hb.size
  have Hb := Lib.hid (below_step Hb.out Hb.out.size hb)
  clear hb
  go_wp2
  go_ret
  exact ⟨by first | rfl | exact ret_bool (by simp) | exact ret_bool (by simp; omega), Hb.out⟩

theorem fnTxnValid_own : ownKnob Try.prog.godebug = none := by kernel_rfl
theorem fnTxnValid_laidOut : laidOutB Try.prog = true := by kernel_rfl

set_option maxRecDepth 8000 in
theorem fnTxnValid_lifted (os : Os) (started : os.Started) (H : Type) (enc : TypeId × Value → H) :
    ReturnsInHanded {} Try.checked os 9 .any (Rows.fnTxnValidSpec.pre6 enc Try.prog Try.f9 Rows.fnTxnValidRow.domain false) (Rows.fnTxnValidSpec.post enc Try.prog Try.f9 false true false false) := by
  refine law_lifted (C := Try.checked) (tb := 4) fnTxnValid_own fnTxnValid_laidOut started (by kernel_rfl) Try.func9 rfl Try.underlying4 rfl (by rw [Try.params9]; exact of_decide_eq_true (by kernel_rfl)) ?_
    (ChangeSpec.witness6 (enc := enc) (C := Try.checked) false ⟨#[], #[.slice none 0 0], []⟩ 8 (by kernel_rfl) (by kernel_rfl) (by kernel_rfl) (by kernel_rfl)) ?_
  · intro ds hds
    rw [Try.params9] at hds
    match ds, hds with
    | [d0], _ => rfl
  · intro W base args ds p hval0 hA0
    have hval : ∀ (j : Nat) t v, Try.f9.params[j]? = some t → args[j]? = some v → Value.okWide Try.prog W .any base t v := hval0
    have hA : DataW.TrodAll enc Try.prog W 0 (fun _ => true) true Try.f9.params.toList args.toList ds p := hA0
    rw [Try.params9] at hA hval
    obtain ⟨v0, vs0, d0, ds0, p0, q0, hargs0, rfl, rfl, h0, r0⟩ := trodAll_cons hA
    obtain ⟨hnil, rfl, rfl⟩ := trodAll_nil r0
    subst hnil
    obtain rfl : args = #[v0] := by cases args; simp_all
    obtain ⟨a0, cap0, zs0, rfl, hk0, hm0, hi0, hw0⟩ := open_slice_ints Try.underlying22 Try.underlying5 (by kernel_rfl) (hval 0 22 v0 rfl rfl) h0
    exact fnTxnValid_walk a0 cap0 zs0 W hk0 hm0 hi0 hw0

set_option maxRecDepth 8000 in
theorem fnTxnValid_holds : Rows.FnTxnValidSaid :=
  OpenClaim.holds_of_wide 9 Try.f9 rfl rfl rfl rfl rfl rfl rfl ⟨rfl, rfl, rfl, rfl, rfl⟩ rfl rfl rfl rfl rfl (by kernel_rfl) Try.func9 (by kernel_rfl)
    (of_decide_eq_true (by kernel_rfl)) (by unfold Func.isWrapper; first | (rw [if_pos (by decide +kernel)]; kernel_rfl) | (rw [if_neg (by decide +kernel)]; exact ⟨rfl, rfl⟩))
    (fun os started H enc _ => fnTxnValid_lifted os started H enc)

end Go.Proofs.Ytadgdjjibmofpaa
