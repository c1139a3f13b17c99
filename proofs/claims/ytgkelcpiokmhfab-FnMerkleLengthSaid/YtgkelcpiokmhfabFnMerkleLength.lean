/- Law FnMerkleLength holds for every input; no conditions of our own. -/
import Derived.Test.YtgkelcpiokmhfabRows
import Derived.Test.YtgkelcpiokmhfabBase
import Derived.Test.YtgkelcpiokmhfabLift
import Derived.Test.YtgkelcpiokmhfabApp
import Derived.Test.YtgkelcpiokmhfabM2
import Derived.Test.YtgkelcpiokmhfabC1
import Derived.Test.YtgkelcpiokmhfabC2
import Derived.Test.YtgkelcpiokmhfabP2
import Derived.Test.YtgkelcpiokmhfabL1
import Derived.Test.YtgkelcpiokmhfabL2
import Derived.Test.YtgkelcpiokmhfabRd
import Derived.Test.YtgkelcpiokmhfabD2
import Derived.Test.YtgkelcpiokmhfabT2
import Derived.Test.YtgkelcpiokmhfabHeld
namespace Go.Proofs.Ytgkelcpiokmhfab
open Go.ChangeShapes Go.WideShapes Go.ChangeAt Go.RowKit

theorem fnMerkleLength_walk (a : Option Addr) (cap : Nat) (zs : List Int) (w : World) (hk : zs.length ≤ cap) (_hm : zs.length ≤ maxLen) (hi : zs = [] ∨ ∃ b off, a = some ⟨b, off, none⟩ ∧ b < w.heap.size ∧ ∀ j (h : j < zs.length), w.cell? ⟨b, off + j, none⟩ = some (.int .u8 zs[j])) (hw : ∀ z ∈ zs, (Lit.int .u8 z).wf = true) :
    Calls Try.prog 3 #[.slice a zs.length cap] w fun e w' => e = .returned (.bool true) ∧ Below w.heap.size w w' := by
  by_cases hl : 1048576 < zs.length
  · go_enter Try.func3, Try.ntmps3
    go_wp2
    go_ret
    exact ⟨rfl, Below.refl _ _⟩
  have hcode := codeAt_of hk (by omega) hi hw
  have Hcode := Lib.hid hcode; clear hcode hi hw
  go_enter Try.func3, Try.ntmps3
  go_wp2_with fail
  refine (spec_DrawMerkleCheck a cap zs _ Hcode.out).mono ?_
  rintro e w1 ⟨root, size, i, leaf, v, ps, rfl, hr0, hr1, hs0, hs1, hi0, hi1, hf0, hf1, hown, hpl, hb1⟩
  have Hb1 := Lib.hid hb1; clear hb1
  obtain ⟨ap, cp, rfl, _, _⟩ := hown.ints
  have hBp := Nat.le_refl w.heap.size
  have Hp := Lib.hid hown; clear hown
  have hcp := Hp.out.cap
  have hI := impl_MerkleCheck root size i leaf ap cp ps w1 (by omega) hcp (by omega) (by omega) (by omega) (by omega) Hp.out.at
  have hS := fun w h => spec_MerkleCheck root size i leaf ap cp ps w (by omega) hcp (by omega) (by omega) h
  cases ho : mcB root size i leaf ps with
  | false =>
    rw [ho] at hI hS
    have HI := Lib.hid hI; clear hI
    have HS := Lib.hid hS; clear hS
    clear ho
    go_wp2_with fail
    refine (HI.out).mono ?_
    rintro e w2 ⟨rfl, hb2⟩
    have Hb2 := Lib.hid (below_step Hb1.out Hb1.out.size hb2)
    have Hp := Lib.hid (Hp.out.below hb2)
    have hz2 := (hb2).size
    go_wp2_with fail
    refine (HS.out _ Hp.out.at).mono ?_
    rintro e wx ⟨rfl, rfl⟩
    go_wp2_with fail
    refine (HS.out _ Hp.out.at).mono ?_
    rintro e wx ⟨rfl, rfl⟩
    go_wp2
    go_ret
    exact ⟨rfl, Hb2.out⟩
  | true =>
    rw [ho] at hI hS
    have HI := Lib.hid hI; clear hI
    have HS := Lib.hid hS; clear hS
    have Ho := Lib.hid ho; clear ho
    go_wp2_with fail
    refine (HI.out).mono ?_
    rintro e w2 ⟨rfl, hb2⟩
    have Hb2 := Lib.hid (below_step Hb1.out Hb1.out.size hb2)
    have Hp := Lib.hid (Hp.out.below hb2)
    have hz2 := (hb2).size
    go_wp2_with fail
    refine (HS.out _ Hp.out.at).mono ?_
    rintro e wx ⟨rfl, rfl⟩
    have hn4 := mcB_short Ho.out
    have Hr1 := Lib.hid (World.grownBy_alloc w2 (.cells #[] 3) none)
    have Hp2 := Lib.hid (Hp.out.kept Hr1.out (by cases hv : (Value.slice ap ps.length cp).ownBlock <;> simp))
    obtain ⟨_, _, e0, _, hsrc, _⟩ := Hp2.out.src
    simp only [Value.slice.injEq] at e0
    obtain ⟨rfl, _, rfl⟩ := e0
    have Hs := Lib.hid hsrc; clear hsrc
    have Hoe := Lib.hid (own_empty 3 w2 (B := w2.heap.size) (Nat.le_refl _))
    have hsz2 := Hb2.out.size
    by_cases hn0 : ps.length < 1
    all_goals
      go_wp2_with (first | (at_builtin; refine wpList_appI TI2 rfl (.tmp 56) (.tmp 57) rfl w2.heap.size _ [] ps _ _ rfl Hoe.out rfl Hs.out (by simp; omega) (by simp) ?_; intro v3 w3 hown3 hg3; rw [List.nil_append] at hown3; have hsz3 := hg3.size; have Hg3 := Lib.hid hg3; clear hg3) | (at_builtin; refine wpList_pushG TI2 rfl (.tmp 58) (.tmp 59) rfl w2.heap.size _ ps _ rfl hown3 (by omega) rfl (by simp at hsz3; omega) ?_; intro v4 w4 hown4 hg4))
      have hql : (ps ++ [(0 : Int)]).length = ps.length + 1 := by simp
      generalize ps ++ [(0 : Int)] = qs at hown4 hql
      have Hx3 := Lib.hid (below_row ((Below.refl w2.heap.size w2).alloc (Nat.le_refl _) _) (by simp) Hg3.out Hoe.out (Nat.le_refl _))
      have Hx4 := Lib.hid (below_row Hx3.out Hx3.out.size hg4 hown3 (Nat.le_refl _))
      have Hb4 := Lib.hid (below_step Hb2.out Hb2.out.size Hx4.out)
      have Hp4 := Lib.hid (Hp.out.below Hx4.out)
      obtain ⟨a4, c4, rfl, _, _⟩ := hown4.ints
      have hq := impl_MerkleCheck root size i leaf a4 c4 qs w4 (by omega) hown4.cap (by omega) (by omega) (by omega) (by omega) hown4.at
      rw [mcB_len Ho.out (by omega)] at hq
      have HQ := Lib.hid hq; clear hq hown4 hown3 hg4
      go_wp2_with fail
      refine HQ.out.mono ?_
      rintro e w5 ⟨rfl, hb5⟩
      have Hb5 := Lib.hid (below_step Hb4.out Hb4.out.size hb5)
      have Hp5 := Lib.hid (Hp4.out.below hb5)
      clear hb5
    · have hz : ((ps.length : Int) == 0) = true := by rw [beq_iff_eq]; omega
      go_wp2
      go_ret
      exact ⟨rfl, Hb5.out⟩
    · have hz : ((ps.length : Int) == 0) = false := by rw [beq_eq_false_iff_ne]; omega
      obtain ⟨g, cap', hv', hgB', hgs', hcap', _, _⟩ := Hp5.out.row (by omega)
      simp only [Value.slice.injEq, true_and] at hv'
      obtain ⟨rfl, rfl⟩ := hv'
      have hfr := Hp5.out.front (ps.length - 1) (by omega)
      have hrl : (ps.take (ps.length - 1)).length = ps.length - 1 := by rw [List.length_take]; omega
      generalize ps.take (ps.length - 1) = rs at hfr hrl
      have hq := impl_MerkleCheck root size i leaf (some ⟨g, 0, none⟩) cp rs w5 (by omega) (by omega) (by omega) (by omega) (by omega) (by omega) hfr.at
      rw [mcB_len Ho.out (by omega), hrl] at hq
      have HQ2 := Lib.hid hq; clear hq hfr hrl
      go_wp2_with fail
      refine HQ2.out.mono ?_
      rintro e w6 ⟨rfl, hb6⟩
      have Hb6 := Lib.hid (below_step Hb5.out Hb5.out.size hb6)
      clear hb6
      go_wp2
      go_ret
      exact ⟨rfl, Hb6.out⟩

theorem fnMerkleLength_own : ownKnob Try.prog.godebug = none := by kernel_rfl
theorem fnMerkleLength_laidOut : laidOutB Try.prog = true := by kernel_rfl

theorem fnMerkleLength_lifted (os : Os) (started : os.Started) (H : Type) (enc : TypeId × Value → H) :
    ReturnsInHanded {} Try.checked os 3 .any (Rows.fnMerkleLengthSpec.pre6 enc Try.prog Try.f3 Rows.fnMerkleLengthRow.domain false) (Rows.fnMerkleLengthSpec.post enc Try.prog Try.f3 false true false false) := by
  refine law_lifted (C := Try.checked) (tb := 4) fnMerkleLength_own fnMerkleLength_laidOut started (by kernel_rfl) Try.func3 rfl Try.underlying4 rfl (by rw [Try.params3]; exact of_decide_eq_true (by kernel_rfl)) ?_
    (ChangeSpec.witness6 (enc := enc) (C := Try.checked) false ⟨#[], #[.slice none 0 0], []⟩ 8 (by kernel_rfl) (by kernel_rfl) (by kernel_rfl) (by kernel_rfl)) ?_
  · intro ds hds
    rw [Try.params3] at hds
    match ds, hds with
    | [d0], _ => rfl
  · intro W base args ds p hval0 hA0
    have hval : ∀ (j : Nat) t v, Try.f3.params[j]? = some t → args[j]? = some v → Value.okWide Try.prog W .any base t v := hval0
    have hA : DataW.TrodAll enc Try.prog W 0 (fun _ => true) true Try.f3.params.toList args.toList ds p := hA0
    rw [Try.params3] at hA hval
    obtain ⟨v0, vs0, d0, ds0, p0, q0, hargs0, rfl, rfl, h0, r0⟩ := trodAll_cons hA
    obtain ⟨hnil, rfl, rfl⟩ := trodAll_nil r0
    subst hnil
    obtain rfl : args = #[v0] := by cases args; simp_all
    obtain ⟨a0, cap0, zs0, rfl, hk0, hm0, hi0, hw0⟩ := open_slice_ints Try.underlying22 Try.underlying5 (by kernel_rfl) (hval 0 22 v0 rfl rfl) h0
    exact fnMerkleLength_walk a0 cap0 zs0 W hk0 hm0 hi0 hw0

theorem fnMerkleLength_holds : Rows.FnMerkleLengthSaid :=
  OpenClaim.holds_of_wide 3 Try.f3 rfl rfl rfl rfl rfl rfl rfl ⟨rfl, rfl, rfl, rfl, rfl⟩ rfl rfl rfl rfl rfl (by kernel_rfl) Try.func3 (by kernel_rfl)
    (of_decide_eq_true (by kernel_rfl)) (by unfold Func.isWrapper; first | (rw [if_pos (by decide +kernel)]; kernel_rfl) | (rw [if_neg (by decide +kernel)]; exact ⟨rfl, rfl⟩))
    (fun os started H enc _ => fnMerkleLength_lifted os started H enc)

end Go.Proofs.Ytgkelcpiokmhfab
