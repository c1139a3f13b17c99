/- Law FnVertexValid holds for every input; no conditions of our own. -/
import Derived.Test.YthnbjdijcpcafaaRows
import Derived.Test.YthnbjdijcpcafaaBu0
import Derived.Test.YthnbjdijcpcafaaBu2
import Derived.Test.YthnbjdijcpcafaaBu3
import Derived.Test.YthnbjdijcpcafaaBu1
import Derived.Test.YthnbjdijcpcafaaBu5
import Derived.Deep.QuietTactic
import Derived.BigQuiet
namespace Go.Proofs.Ythnbjdijcpcafaa
open Go.ChangeShapes Go.WideShapes Go.ChangeAt Go.RowKit

set_option maxHeartbeats 4000000 in
theorem fnVertexValid_walk (a : Option Addr) (cap : Nat) (zs : List Int) (w : World) (hk : zs.length ≤ cap) (_hm : zs.length ≤ maxLen) (hi : zs = [] ∨ ∃ b off, a = some ⟨b, off, none⟩ ∧ b < w.heap.size ∧ ∀ j (h : j < zs.length), w.cell? ⟨b, off + j, none⟩ = some (.int .u8 zs[j])) (hw : ∀ z ∈ zs, (Lit.int .u8 z).wf = true) :
    Calls Try.prog 3 #[.slice a zs.length cap] w fun e w' => e = .returned (.bool true) ∧ Below w.heap.size w w' := by
  by_cases hl : 1048576 < zs.length
  · go_enter Try.func3, Try.ntmps3
    go_wp2
    go_ret
    exact ⟨rfl, Below.refl _ _⟩
  have hcode := codeAt_of hk (by omega) hi hw
  have Hcode := Lib.hid hcode; clear hcode hi hw
  go_enter Try.func3, Try.ntmps3
  go_wp2_with fail
  refine (spec_DrawVertexValid a cap zs _ Hcode.out).mono ?_
  rintro e1 w1 ⟨uc, c, x, ap, cp, rfl, ho, hc11, hp, hp300, hb1⟩
  obtain ⟨ac, cc, rfl, _, _⟩ := ho.ints
  have hw0 := hb1.size
  have Tc := Lib.hid ho; have Tp := Lib.hid hp
  have Hb := Lib.hid hb1
  clear ho hp hb1
  obtain ⟨b, hbv⟩ : ∃ b, b = vvB c x := ⟨_, rfl⟩
  have HI := Lib.hid (fun W (h : IntsAt W ac c) (h2 : IntsAt W ap x.ps) => impl_VertexValid' ac cc c x ap cp W (by omega) (by omega) h h2)
  have HS := Lib.hid (fun W (h : IntsAt W ac c) (h2 : IntsAt W ap x.ps) => spec_VertexValid ac cc c x ap cp W (by omega) (by omega) h h2)
  rw [← hbv] at HI HS
  have HW := Lib.hid (fun W (h : IntsAt W ac c) (h2 : IntsAt W ap x.ps) => impl_MembersWeight ac cc c ap cp x.ps W (by omega) (by omega) h h2)
  have HQ := Lib.hid (fun W (h : IntsAt W ac c) => impl_CommitteeQuorum ac cc c W (by omega) h)
  obtain ⟨mw, hmw⟩ : ∃ m, m = mwZ c x.ps := ⟨_, rfl⟩
  obtain ⟨q, hq⟩ : ∃ q, q = orNo c (2 * totalZ c / 3 + 1) := ⟨_, rfl⟩
  rw [← hmw] at HW
  rw [← hq] at HQ
  have Hf := Lib.hid (show b = true → (x.r = 0 → x.ps.length = 0) ∧ (¬ x.r = 0 → q ≤ mw) ∧ x.r ≤ 30 from fun hb => by
    rw [hbv] at hb; unfold vvB at hb; rw [Bool.and_eq_true] at hb
    refine ⟨vtx_r0 hb.2, fun h0 => ?_, (vtx_round hb.2).2⟩
    have h1 := vtx_quo hb.2 h0
    rw [hmw, hq, orNo, if_pos hb.1, mwZ, mvB, hb.1, vtx_mem hb.2]
    exact h1)
  obtain ⟨xr, hxr⟩ : ∃ z, z = x.r := ⟨_, rfl⟩
  rw [← hxr] at HI HS Hf
  rw [← hxr]
  clear hbv hmw hq hxr
  have hal : Below w1.heap.size w1 (w1.alloc (.cells #[.int .i64 xr, .int .i64 x.a, .slice ap x.ps.length cp, .int .i64 x.d] 25)) := (Below.refl _ _).alloc (Nat.le_refl _) _
  have Tc := Lib.hid (show Own 3 (w1.alloc (.cells #[.int .i64 xr, .int .i64 x.a, .slice ap x.ps.length cp, .int .i64 x.d] 25)) w.heap.size (.slice ac c.length cc) (c) from Tc.out.below hal)
  have Tp := Lib.hid (show Own 3 (w1.alloc (.cells #[.int .i64 xr, .int .i64 x.a, .slice ap x.ps.length cp, .int .i64 x.d] 25)) w.heap.size (.slice ap x.ps.length cp) (x.ps) from Tp.out.below hal)
  have Sx := Lib.hid (Str.new w1 25 #[.int .i64 xr, .int .i64 x.a, .slice ap x.ps.length cp, .int .i64 x.d])
  have Hb := Lib.hid (below_step Hb.out Hb.out.size hal)
  clear hal
  have cx_0 := Sx.out.cell 0 (v := .int .i64 xr) rfl
  have cx_1 := Sx.out.cell 1 (v := .int .i64 x.a) rfl
  have cx_2 := Sx.out.cell 2 (v := .slice ap x.ps.length cp) rfl
  have cx_3 := Sx.out.cell 3 (v := .int .i64 x.d) rfl
  go_wp2_with fail
  generalize (w1.alloc (.cells #[.int .i64 xr, .int .i64 x.a, .slice ap x.ps.length cp, .int .i64 x.d] 25)) = W2 at *
  clear cx_0 cx_1 cx_2 cx_3
  refine (HI.out _ Tc.out.at Tp.out.at).mono ?_
  rintro e w3 ⟨rfl, hb⟩
  have Tc := Lib.hid (show Own 3 w3 w.heap.size (.slice ac c.length cc) (c) from Tc.out.below hb)
  have Tp := Lib.hid (show Own 3 w3 w.heap.size (.slice ap x.ps.length cp) (x.ps) from Tp.out.below hb)
  have Sx := Lib.hid (show Str w3 (w1.heap.size) 25 #[.int .i64 xr, .int .i64 x.a, .slice ap x.ps.length cp, .int .i64 x.d] from (hb.block _ Sx.out.lt).trans Sx.out)
  have hsw3 := hb.size
  have Hb := Lib.hid (below_step Hb.out Hb.out.size hb)
  clear hb
  have cx_0 := Sx.out.cell 0 (v := .int .i64 xr) rfl
  have cx_1 := Sx.out.cell 1 (v := .int .i64 x.a) rfl
  have cx_2 := Sx.out.cell 2 (v := .slice ap x.ps.length cp) rfl
  have cx_3 := Sx.out.cell 3 (v := .int .i64 x.d) rfl
  go_wp2_with fail
  clear cx_0 cx_1 cx_2 cx_3
  refine (HS.out _ Tc.out.at Tp.out.at).mono ?_
  rintro e w4 ⟨rfl, hb⟩
  have Tc := Lib.hid (show Own 3 w4 w.heap.size (.slice ac c.length cc) (c) from Tc.out.below hb)
  have Tp := Lib.hid (show Own 3 w4 w.heap.size (.slice ap x.ps.length cp) (x.ps) from Tp.out.below hb)
  have Sx := Lib.hid (show Str w4 (w1.heap.size) 25 #[.int .i64 xr, .int .i64 x.a, .slice ap x.ps.length cp, .int .i64 x.d] from (hb.block _ Sx.out.lt).trans Sx.out)
  have hsw4 := hb.size
  have Hb := Lib.hid (below_step Hb.out Hb.out.size hb)
  clear hb
  cases b with
  | false =>
    go_wp2
    go_ret
    exact ⟨by first | rfl | exact ret_bool (by simp) | exact ret_bool (by simp; omega), Hb.out⟩
  | true =>
    obtain ⟨f1, f2, f3⟩ := Hf.out rfl
    by_cases h0 : xr = 0
    case pos =>
      have hb0 : (xr == 0) = true := by rw [beq_iff_eq]; exact h0
      have hl0 : ((x.ps.length : Int) == 0) = true := by rw [beq_iff_eq, f1 h0]; rfl
      clear f1 f2 f3 h0
      have cx_0 := Sx.out.cell 0 (v := .int .i64 xr) rfl
      have cx_1 := Sx.out.cell 1 (v := .int .i64 x.a) rfl
      have cx_2 := Sx.out.cell 2 (v := .slice ap x.ps.length cp) rfl
      have cx_3 := Sx.out.cell 3 (v := .int .i64 x.d) rfl
      go_wp2
      go_ret
      exact ⟨by first | rfl | exact ret_bool (by simp) | exact ret_bool (by simp; omega), Hb.out⟩
    case neg =>
      have hb0 : (xr == 0) = false := by rw [beq_eq_false_iff_ne]; exact h0
      have hl0 := f2 h0
      have hg1 : decide (mw ≥ q) = true := decide_eq_true hl0
      have hg2 : decide (xr ≤ 30) = true := decide_eq_true f3
      clear f1 f2 h0 hl0 f3
      have cx_0 := Sx.out.cell 0 (v := .int .i64 xr) rfl
      have cx_1 := Sx.out.cell 1 (v := .int .i64 x.a) rfl
      have cx_2 := Sx.out.cell 2 (v := .slice ap x.ps.length cp) rfl
      have cx_3 := Sx.out.cell 3 (v := .int .i64 x.d) rfl
      skip
      go_wp2_with (first | (refine (HW.out w4 Tc.out.at Tp.out.at).mono ?_; rintro e8 w8 ⟨rfl, rfl⟩) | (refine (HQ.out w4 Tc.out.at).mono ?_; rintro e9 w9 ⟨rfl, rfl⟩))
      go_wp2
      go_ret
      exact ⟨rfl, Hb.out⟩

theorem fnVertexValid_own : ownKnob Try.prog.godebug = none := by kernel_rfl
theorem fnVertexValid_laidOut : laidOutB Try.prog = true := by kernel_rfl

set_option maxRecDepth 8000 in
theorem fnVertexValid_lifted (os : Os) (started : os.Started) (H : Type) (enc : TypeId × Value → H) :
    ReturnsInHanded {} Try.checked os 3 .any (Rows.fnVertexValidSpec.pre6 enc Try.prog Try.f3 Rows.fnVertexValidRow.domain false) (Rows.fnVertexValidSpec.post enc Try.prog Try.f3 false true false false) := by
  refine law_lifted (C := Try.checked) (tb := 4) fnVertexValid_own fnVertexValid_laidOut started (by kernel_rfl) Try.func3 rfl Try.underlying4 rfl (by rw [Try.params3]; exact of_decide_eq_true (by kernel_rfl)) ?_
    (ChangeSpec.witness6 (enc := enc) (C := Try.checked) false ⟨#[], #[.slice none 0 0], []⟩ 8 (by kernel_rfl) (by kernel_rfl) (by kernel_rfl) (by kernel_rfl)) ?_
  · intro ds hds
    rw [Try.params3] at hds
    match ds, hds with
    | [d0], _ => rfl
  · intro W base args ds p hval0 hA0
    have hval : ∀ (j : Nat) t v, Try.f3.params[j]? = some t → args[j]? = some v → Value.okWide Try.prog W .any base t v := hval0
    have hA : DataW.TrodAll enc Try.prog W 0 (fun _ => true) true Try.f3.params.toList args.toList ds p := hA0
    rw [Try.params3] at hA hval
    obtain ⟨v0, vs0, d0, ds0, p0, q0, hargs0, rfl, rfl, h0, r0⟩ := trodAll_cons hA
    obtain ⟨hnil, rfl, rfl⟩ := trodAll_nil r0
    subst hnil
    obtain rfl : args = #[v0] := by cases args; simp_all
    obtain ⟨a0, cap0, zs0, rfl, hk0, hm0, hi0, hw0⟩ := open_slice_ints Try.underlying22 Try.underlying5 (by kernel_rfl) (hval 0 22 v0 rfl rfl) h0
    exact fnVertexValid_walk a0 cap0 zs0 W hk0 hm0 hi0 hw0

set_option maxRecDepth 8000 in
theorem fnVertexValid_holds : Rows.FnVertexValidSaid :=
  OpenClaim.holds_of_wide 3 Try.f3 rfl rfl rfl rfl rfl rfl rfl ⟨rfl, rfl, rfl, rfl, rfl⟩ rfl rfl rfl rfl rfl (by kernel_rfl) Try.func3 (by kernel_rfl)
    (of_decide_eq_true (by kernel_rfl)) (by unfold Func.isWrapper; first | (rw [if_pos (by decide +kernel)]; kernel_rfl) | (rw [if_neg (by decide +kernel)]; exact ⟨rfl, rfl⟩))
    (fun os started H enc _ => fnVertexValid_lifted os started H enc)

end Go.Proofs.Ythnbjdijcpcafaa
