/- Law FnLeaders holds for every input; no conditions of our own. -/
import Derived.Test.YtjekgjlnaochiaaRows
import Derived.Test.YtjekgjlnaochiaaBu0
import Derived.Test.YtjekgjlnaochiaaBu1
namespace Go.Proofs.Ytjekgjlnaochiaa
open Go.ChangeShapes Go.WideShapes Go.ChangeAt Go.RowKit

set_option maxHeartbeats 2000000 in
theorem fnLeaders_walk (a : Option Addr) (cap : Nat) (zs : List Int) (w : World) (hk : zs.length ≤ cap) (_hm : zs.length ≤ maxLen) (hi : zs = [] ∨ ∃ b off, a = some ⟨b, off, none⟩ ∧ b < w.heap.size ∧ ∀ j (h : j < zs.length), w.cell? ⟨b, off + j, none⟩ = some (.int .u8 zs[j])) (hw : ∀ z ∈ zs, (Lit.int .u8 z).wf = true) :
    Calls Try.prog 3 #[.slice a zs.length cap] w fun e w' => e = .returned (.bool true) ∧ Below w.heap.size w w' := by
  by_cases hl : 1048576 < zs.length
  · go_enter Try.func3, Try.ntmps3
    go_wp2
    go_ret
    exact ⟨rfl, Below.refl _ _⟩
  have hcode := codeAt_of hk (by omega) hi hw
  have Hcode := Lib.hid hcode; clear hcode hi hw
  go_enter Try.func3, Try.ntmps3
  go_wp2_with fail
  refine (spec_DrawLeadersValid a cap zs w Hcode.out).mono ?_
  rintro e w1 ⟨vc, c, vl, ls, rfl, hoc, hcl, hol, hll, hb1⟩
  obtain ⟨ac, cc, rfl, _, _⟩ := hoc.ints
  obtain ⟨al, cl, rfl, _, _⟩ := hol.ints
  have Hc := Lib.hid hoc.at; have Hl := Lib.hid hol.at; have Hb1 := Lib.hid hb1
  clear hoc hol hb1
  have HI := Lib.hid (impl_LeadersValid ac cc c al cl ls w1 (by omega) (by omega) Hc.out Hl.out)
  have HS := Lib.hid (spec_LeadersValid ac cc c al cl ls w1 (by omega) (by omega) Hc.out Hl.out)
  have HV := Lib.hid (impl_CommitteeValid ac cc c w1 (by omega) Hc.out)
  have Hlv := Lib.hid (show lvB c ls = (validB c && (allB (okLd c.length ls) ls.length && decide (ls.length ≤ 15))) from rfl)
  go_wp2_with fail
  refine HI.out.mono ?_
  rintro e wx ⟨rfl, rfl⟩
  go_wp2_with fail
  refine HS.out.mono ?_
  rintro e wx ⟨rfl, rfl⟩
  generalize hL : lvB c ls = LB at *
  go_wp2_with fail
  refine HV.out.mono ?_
  rintro e wx ⟨rfl, rfl⟩
  rw [← hL] at *
  clear hL
  cases hv : validB c with
  | false =>
    have Hres := Lib.hid (show lvB c ls = false by rw [Hlv.out, hv]; rfl)
    clear hv Hlv
    go_wp2
    go_loopw [7, 8] (fun o i wr => ∃ (k : Nat), k ≤ ls.length ∧ i = .int .i64 k ∧ o = .bool false ∧ w1 = wr) (fun _ i _ => ls.length - (intOf i).toNat)
    case atStart => exact ⟨0, by omega, rfl, rfl, rfl⟩
    case round =>
      obtain ⟨k, hk, rfl, rfl, rfl⟩ := hrel
      by_cases hlt : k < ls.length
      · have hlt' : (k : Int) < (ls.length : Int) := by omega
        go_wp2
        go_roundw
        case rel => exact ⟨k + 1, by omega, by go_num, rfl, trivial⟩
        case measure => simp [intOf]; omega
      · have hk' : k = ls.length := by omega
        subst hk'
        have Hr := Lib.hid (Hres.out)
        generalize lvB c ls = L at *
        go_wp2
        go_ret
        exact ⟨by first | rfl | exact ret_bool (by rw [Hr.out]; simp) | (rw [Hr.out]; rfl), Hb1.out⟩
  | true =>
    obtain ⟨D, hD⟩ : ∃ D, D = decide ((ls.length : Int) ≤ 15) := ⟨_, rfl⟩
    have Hres := Lib.hid (show lvB c ls = (D && allB (okLd c.length ls) ls.length) by rw [Hlv.out, hv, hD, Bool.true_and, Bool.and_comm]; congr 1; exact decide_eq_decide.2 (by omega))
    clear hv Hlv
    go_wp2
    rw [← hD]
    clear hD
    go_loopw [7, 8] (fun o i wr => ∃ (k : Nat) (O : Bool), k ≤ ls.length ∧ i = .int .i64 k ∧ o = .bool O ∧ Hid (O = (D && allB (okLd c.length ls) k)) ∧ w1 = wr) (fun _ i _ => ls.length - (intOf i).toNat)
    case atStart => exact ⟨0, D, by omega, rfl, rfl, Lib.hid (by rw [show allB (okLd c.length ls) 0 = true from rfl, Bool.and_true]), rfl⟩
    case round =>
      obtain ⟨k, O, hk, rfl, rfl, HO, rfl⟩ := hrel
      by_cases hlt : k < ls.length
      · obtain ⟨b, off, rfl, hb, hat⟩ := Hl.out.cell (by omega)
        have hcell := hat k hlt
        have Hok := Lib.hid (show okLd c.length ls k = (decide (0 ≤ ls[k]) && decide (ls[k] < (c.length : Int))) by unfold okLd; rw [getD_get hlt, ← Bool.decide_and]; exact decide_eq_decide.2 (by omega))
        have Hsu := Lib.hid (allB_succ (okLd c.length ls) k)
        clear hat
        generalize ls[k] = x at *
        generalize okLd c.length ls k = P at *
        have hlt' : (k : Int) < (ls.length : Int) := by omega
        cases O with
        | false =>
          have Hnx := Lib.hid (show false = (D && allB (okLd c.length ls) (k + 1)) by rw [Hsu.out, ← Bool.and_assoc, ← HO.out, Hok.out, Bool.false_and]; try rfl)
          clear Hok Hsu HO
          go_wp2
          go_roundw
          case rel => exact ⟨k + 1, false, by omega, by go_num, rfl, Hnx, trivial⟩
          case measure => simp [intOf]; omega
        | true =>
          by_cases h1 : 0 ≤ x
          · have h1' : decide (0 ≤ x) = true := decide_eq_true h1
            by_cases h2 : x < (c.length : Int)
            · have h2' : decide (x < (c.length : Int)) = true := decide_eq_true h2
              have Hnx := Lib.hid (show true = (D && allB (okLd c.length ls) (k + 1)) by rw [Hsu.out, ← Bool.and_assoc, ← HO.out, Hok.out, h1', h2']; try rfl)
              clear Hok Hsu HO
              go_wp2
              go_roundw
              case rel => exact ⟨k + 1, true, by omega, by go_num, rfl, Hnx, trivial⟩
              case measure => simp [intOf]; omega
            · have h2' : decide (x < (c.length : Int)) = false := decide_eq_false h2
              have Hnx := Lib.hid (show false = (D && allB (okLd c.length ls) (k + 1)) by rw [Hsu.out, ← Bool.and_assoc, ← HO.out, Hok.out, h1', h2']; try rfl)
              clear Hok Hsu HO
              go_wp2
              go_roundw
              case rel => exact ⟨k + 1, false, by omega, by go_num, rfl, Hnx, trivial⟩
              case measure => simp [intOf]; omega
          · have h1' : decide (0 ≤ x) = false := decide_eq_false h1
            have Hnx := Lib.hid (show false = (D && allB (okLd c.length ls) (k + 1)) by rw [Hsu.out, ← Bool.and_assoc, ← HO.out, Hok.out, h1', Bool.false_and]; try rfl)
            clear Hok Hsu HO
            go_wp2
            go_roundw
            case rel => exact ⟨k + 1, false, by omega, by go_num, rfl, Hnx, trivial⟩
            case measure => simp [intOf]; omega
      · have hk' : k = ls.length := by omega
        subst hk'
        have Hr := Lib.hid (Hres.out.trans HO.out.symm)
        generalize lvB c ls = L at *
        go_wp2
        go_ret
        exact ⟨by first | rfl | exact ret_bool (by rw [Hr.out]; simp) | (rw [Hr.out]; rfl), Hb1.out⟩

theorem fnLeaders_own : ownKnob Try.prog.godebug = none := by kernel_rfl
theorem fnLeaders_laidOut : laidOutB Try.prog = true := by kernel_rfl

set_option maxRecDepth 8000 in
theorem fnLeaders_lifted (os : Os) (started : os.Started) (H : Type) (enc : TypeId × Value → H) :
    ReturnsInHanded {} Try.checked os 3 .any (Rows.fnLeadersSpec.pre6 enc Try.prog Try.f3 Rows.fnLeadersRow.domain false) (Rows.fnLeadersSpec.post enc Try.prog Try.f3 false true false false) := by
  refine law_lifted (C := Try.checked) (tb := 4) fnLeaders_own fnLeaders_laidOut started (by kernel_rfl) Try.func3 rfl Try.underlying4 rfl (by rw [Try.params3]; exact of_decide_eq_true (by kernel_rfl)) ?_
    (ChangeSpec.witness6 (enc := enc) (C := Try.checked) false ⟨#[], #[.slice none 0 0], []⟩ 8 (by kernel_rfl) (by kernel_rfl) (by kernel_rfl) (by kernel_rfl)) ?_
  · intro ds hds
    rw [Try.params3] at hds
    match ds, hds with
    | [d0], _ => rfl
  · intro W base args ds p hval0 hA0
    have hval : ∀ (j : Nat) t v, Try.f3.params[j]? = some t → args[j]? = some v → Value.okWide Try.prog W .any base t v := hval0
    have hA : DataW.TrodAll enc Try.prog W 0 (fun _ => true) true Try.f3.params.toList args.toList ds p := hA0
    rw [Try.params3] at hA hval
    obtain ⟨v0, vs0, d0, ds0, p0, q0, hargs0, rfl, rfl, h0, r0⟩ := trodAll_cons hA
    obtain ⟨hnil, rfl, rfl⟩ := trodAll_nil r0
    subst hnil
    obtain rfl : args = #[v0] := by cases args; simp_all
    obtain ⟨a0, cap0, zs0, rfl, hk0, hm0, hi0, hw0⟩ := open_slice_ints Try.underlying22 Try.underlying5 (by kernel_rfl) (hval 0 22 v0 rfl rfl) h0
    exact fnLeaders_walk a0 cap0 zs0 W hk0 hm0 hi0 hw0

set_option maxRecDepth 8000 in
theorem fnLeaders_holds : Rows.FnLeadersSaid :=
  OpenClaim.holds_of_wide 3 Try.f3 rfl rfl rfl rfl rfl rfl rfl ⟨rfl, rfl, rfl, rfl, rfl⟩ rfl rfl rfl rfl rfl (by kernel_rfl) Try.func3 (by kernel_rfl)
    (of_decide_eq_true (by kernel_rfl)) (by unfold Func.isWrapper; first | (rw [if_pos (by decide +kernel)]; kernel_rfl) | (rw [if_neg (by decide +kernel)]; exact ⟨rfl, rfl⟩))
    (fun os started H enc _ => fnLeaders_lifted os started H enc)

end Go.Proofs.Ytjekgjlnaochiaa
