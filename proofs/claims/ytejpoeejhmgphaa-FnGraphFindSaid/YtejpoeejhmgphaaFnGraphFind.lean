/- Law FnGraphFind holds for every input; no conditions of our own. -/
import Derived.Test.YtejpoeejhmgphaaRows
import Derived.Test.YtejpoeejhmgphaaBase
import Derived.Test.YtejpoeejhmgphaaLift
import Derived.Test.YtejpoeejhmgphaaApp
import Derived.Test.YtejpoeejhmgphaaDt
import Derived.Test.YtejpoeejhmgphaaGvy
import Derived.Test.YtejpoeejhmgphaaGv11
import Derived.Test.YtejpoeejhmgphaaGvi
namespace Go.Proofs.Ytejpoeejhmgphaa
open Go.ChangeShapes Go.WideShapes Go.ChangeAt Go.RowKit

set_option maxHeartbeats 2000000 in
theorem fnGraphFind_walk (a : Option Addr) (cap : Nat) (zs : List Int) (w : World) (hk : zs.length ≤ cap) (_hm : zs.length ≤ maxLen) (hi : zs = [] ∨ ∃ b off, a = some ⟨b, off, none⟩ ∧ b < w.heap.size ∧ ∀ j (h : j < zs.length), w.cell? ⟨b, off + j, none⟩ = some (.int .u8 zs[j])) (hw : ∀ z ∈ zs, (Lit.int .u8 z).wf = true) :
    Calls Try.prog 3 #[.slice a zs.length cap] w fun e w' => e = .returned (.bool true) ∧ Below w.heap.size w w' := by
  by_cases hl : 1048576 < zs.length
  · go_enter Try.func3, Try.ntmps3
    go_wp2
    go_ret
    exact ⟨rfl, Below.refl _ _⟩
  have hcode := codeAt_of hk (by omega) hi hw
  have Hcode := Lib.hid hcode; clear hcode hi hw
  go_enter Try.func3, Try.ntmps3
  go_wp2_with fail
  refine (spec_DrawGraphFind a cap zs w Hcode.out).mono ?_
  rintro e w1 ⟨vc, c, vg, g, fp, r, b, rfl, hoc, hcl, hgr, hfp, hgl, hps, hb1⟩
  have hcc := hoc.cap'
  obtain ⟨ac, cc, rfl, _, _⟩ := hoc.ints
  obtain ⟨ag, cg, rfl⟩ := hgr.slice
  have Hps := Lib.hid (show ∀ x ∈ g, x.ps.length ≤ 1099511627776 from fun x hx => Nat.le_trans (hps x hx) (by omega)); clear hps
  have HI := Lib.hid (impl_GraphFind ac cc c g _ fp r b w1 (by omega) (by omega) Hps.out (hcc _ _ _ rfl) hoc.at hgr)
  have HS := Lib.hid (fun W h h' => spec_GraphFind ac cc c g (.slice ag g.length cg) fp r b W (by omega) (by omega) Hps.out h h')
  have HV := Lib.hid (fun W h h' => spec_GraphValid ac cc c g (.slice ag g.length cg) fp W (by omega) (by omega) Hps.out h h')
  have Hoc := Lib.hid hoc; clear hoc
  have Hgr := Lib.hid hgr; clear hgr
  have Hb1 := Lib.hid hb1; clear hb1 hfp hcc
  have Huni := Lib.hid (find_uni (c := c) (g := g) (r := r) (a := b))
  have Hgf := Lib.hid (show graphB c g = true → gfZ c g r b = findZ g r b from fun h => by unfold gfZ; rw [if_pos h])
  have Hlt := Lib.hid (find_lt g r b)
  generalize gfZ c g r b = N at *
  go_wp2_with fail
  refine HI.out.mono ?_
  rintro e w2 ⟨rfl, hb2⟩
  have Hb2 := Lib.hid (below_step Hb1.out Hb1.out.size hb2)
  have HS2 := Lib.hid (HS.out w2 (Hoc.out.below hb2).at (Hgr.out.under hb2))
  have Hoc2 := Lib.hid (Hoc.out.below hb2)
  have Hgr2 := Lib.hid (Hgr.out.under hb2); clear hb2
  go_wp2_with fail
  refine HS2.out.mono ?_
  rintro e w3 ⟨rfl, hb3⟩
  have Hb3 := Lib.hid (below_step Hb2.out Hb2.out.size hb3)
  have HV3 := Lib.hid (HV.out w3 (Hoc2.out.below hb3).at (Hgr2.out.under hb3))
  have Hgr3 := Lib.hid (Hgr2.out.under hb3); clear hb3
  cases hgb : graphB c g with
  | false =>
    rw [hgb] at HV3
    go_wp2_with fail
    refine HV3.out.mono ?_
    rintro e w4 ⟨rfl, hb4⟩
    have Hb4 := Lib.hid (below_step Hb3.out Hb3.out.size hb4); clear hb4
    go_wp2
    go_ret
    exact ⟨by first | rfl | exact ret_bool (by simp), Hb4.out⟩
  | true =>
    rw [hgb] at HV3
    obtain rfl := Hgf.out hgb
    have Hun := Lib.hid (Huni.out hgb); clear Huni Hgf hgb
    have hlt := Hlt.out
    generalize findZ g r b = N at *
    go_wp2_with fail
    refine HV3.out.mono ?_
    rintro e w4 ⟨rfl, hb4⟩
    have Hgr4 := Lib.hid (Hgr3.out.under hb4)
    have Hb4 := Lib.hid (below_step Hb3.out Hb3.out.size hb4); clear hb4
    go_wp2
    go_loopw [9] (fun i wr => ∃ k : Nat, k ≤ g.length ∧ i = .int .i64 k ∧ Below w4.heap.size w4 wr) (fun i _ => g.length - (intOf i).toNat)
    case atStart => exact ⟨0, Nat.zero_le _, rfl, Below.refl _ _⟩
    case round =>
      obtain ⟨k, hk, rfl, hbel⟩ := hrel
      have Hbel := Lib.hid hbel; clear hbel
      by_cases hkl : k < g.length
      · obtain ⟨gb, off, rfl, _, hat⟩ := (Hgr4.out.under Hbel.out).at (by omega)
        obtain ⟨c0, c1, _, _⟩ := hat k hkl
        have hun := Hun.out k hkl
        clear hat
        by_cases h1 : g[k].r = r ∧ g[k].a = b
        · have e1 : (g[k].r == r) = true := by simpa using h1.1
          have e2 : (g[k].a == b) = true := by simpa using h1.2
          have e3 : ((k : Int) == N) = true := by rw [beq_iff_eq]; exact hun.1 h1
          clear hun h1
          generalize g[k] = x at *
          go_wp2
          go_roundw
          case rel => exact ⟨k + 1, by omega, by go_num, Hbel.out⟩
          case measure => simp [intOf]; omega
        · have e3 : ((k : Int) == N) = false := by rw [beq_eq_false_iff_ne]; exact fun e => h1 (hun.2 e)
          by_cases h2 : g[k].r = r
          · have e1 : (g[k].r == r) = true := by simpa using h2
            have e2 : (g[k].a == b) = false := by rw [beq_eq_false_iff_ne]; exact fun e => h1 ⟨h2, e⟩
            clear hun h1 h2
            generalize g[k] = x at *
            go_wp2
            go_roundw
            case rel => exact ⟨k + 1, by omega, by go_num, Hbel.out⟩
            case measure => simp [intOf]; omega
          · have e1 : (g[k].r == r) = false := by simpa using h2
            clear hun h1 h2
            generalize g[k] = x at *
            go_wp2
            go_roundw
            case rel => exact ⟨k + 1, by omega, by go_num, Hbel.out⟩
            case measure => simp [intOf]; omega
      · have hd : decide (N < (g.length : Int)) = true := decide_eq_true hlt
        go_wp2
        go_ret
        exact ⟨by first | rfl | exact ret_bool (by simp [hlt]), Hb4.out.trans (Hbel.out.mono Hb4.out.size)⟩

theorem fnGraphFind_own : ownKnob Try.prog.godebug = none := by kernel_rfl
theorem fnGraphFind_laidOut : laidOutB Try.prog = true := by kernel_rfl

theorem fnGraphFind_lifted (os : Os) (started : os.Started) (H : Type) (enc : TypeId × Value → H) :
    ReturnsInHanded {} Try.checked os 3 .any (Rows.fnGraphFindSpec.pre6 enc Try.prog Try.f3 Rows.fnGraphFindRow.domain false) (Rows.fnGraphFindSpec.post enc Try.prog Try.f3 false true false false) := by
  refine law_lifted (C := Try.checked) (tb := 4) fnGraphFind_own fnGraphFind_laidOut started (by kernel_rfl) Try.func3 rfl Try.underlying4 rfl (by rw [Try.params3]; exact of_decide_eq_true (by kernel_rfl)) ?_
    (ChangeSpec.witness6 (enc := enc) (C := Try.checked) false ⟨#[], #[.slice none 0 0], []⟩ 8 (by kernel_rfl) (by kernel_rfl) (by kernel_rfl) (by kernel_rfl)) ?_
  · intro ds hds
    rw [Try.params3] at hds
    match ds, hds with
    | [d0], _ => rfl
  · intro W base args ds p hval0 hA0
    have hval : ∀ (j : Nat) t v, Try.f3.params[j]? = some t → args[j]? = some v → Value.okWide Try.prog W .any base t v := hval0
    have hA : DataW.TrodAll enc Try.prog W 0 (fun _ => true) true Try.f3.params.toList args.toList ds p := hA0
    rw [Try.params3] at hA hval
    obtain ⟨v0, vs0, d0, ds0, p0, q0, hargs0, rfl, rfl, h0, r0⟩ := trodAll_cons hA
    obtain ⟨hnil, rfl, rfl⟩ := trodAll_nil r0
    subst hnil
    obtain rfl : args = #[v0] := by cases args; simp_all
    obtain ⟨a0, cap0, zs0, rfl, hk0, hm0, hi0, hw0⟩ := open_slice_ints Try.underlying22 Try.underlying5 (by kernel_rfl) (hval 0 22 v0 rfl rfl) h0
    exact fnGraphFind_walk a0 cap0 zs0 W hk0 hm0 hi0 hw0

theorem fnGraphFind_holds : Rows.FnGraphFindSaid :=
  OpenClaim.holds_of_wide 3 Try.f3 rfl rfl rfl rfl rfl rfl rfl ⟨rfl, rfl, rfl, rfl, rfl⟩ rfl rfl rfl rfl rfl (by kernel_rfl) Try.func3 (by kernel_rfl)
    (of_decide_eq_true (by kernel_rfl)) (by unfold Func.isWrapper; first | (rw [if_pos (by decide +kernel)]; kernel_rfl) | (rw [if_neg (by decide +kernel)]; exact ⟨rfl, rfl⟩))
    (fun os started H enc _ => fnGraphFind_lifted os started H enc)

end Go.Proofs.Ytejpoeejhmgphaa
