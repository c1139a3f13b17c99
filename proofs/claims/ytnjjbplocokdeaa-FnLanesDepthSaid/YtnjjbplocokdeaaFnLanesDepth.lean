/- Law FnLanesDepth holds for every input; no conditions of our own. -/
import Derived.Test.YtnjjbplocokdeaaRows
import Derived.Test.YtnjjbplocokdeaaBu0
import Derived.Test.YtnjjbplocokdeaaBu1
import Derived.Test.YtnjjbplocokdeaaBu2
import Derived.Test.YtnjjbplocokdeaaBu3
import Derived.Deep.QuietTactic
import Derived.BigQuiet
namespace Go.Proofs.Ytnjjbplocokdeaa
open Go.ChangeShapes Go.WideShapes Go.ChangeAt Go.RowKit

set_option maxHeartbeats 4000000 in
theorem fnLanesDepth_walk (a : Option Addr) (cap : Nat) (zs : List Int) (w : World) (hk : zs.length ≤ cap) (_hm : zs.length ≤ maxLen) (hi : zs = [] ∨ ∃ b off, a = some ⟨b, off, none⟩ ∧ b < w.heap.size ∧ ∀ j (h : j < zs.length), w.cell? ⟨b, off + j, none⟩ = some (.int .u8 zs[j])) (hw : ∀ z ∈ zs, (Lit.int .u8 z).wf = true) :
    Calls Try.prog 9 #[.slice a zs.length cap] w fun e w' => e = .returned (.bool true) ∧ Below w.heap.size w w' := by
  by_cases hl : 1048576 < zs.length
  · go_enter Try.func9, Try.ntmps9
    go_wp2
    go_ret
    exact ⟨rfl, Below.refl _ _⟩
  have hcode := codeAt_of hk (by omega) hi hw
  have Hcode := Lib.hid hcode; clear hcode hi hw
  go_enter Try.func9, Try.ntmps9
  go_wp2_with fail
  refine (spec_DrawLanesDepth a cap zs _ Hcode.out).mono ?_
  rintro e1 w1 ⟨xs, vx, rfl, hx, hx17, hb1⟩
  obtain ⟨av, cv, rfl, hcv⟩ := OwnX.sl (l := xs) hx
  obtain ⟨fx, hT⟩ := OwnX.txs (l := xs) hx
  have hw0 := hb1.size
  have Tx := Lib.hid hT
  have Hb := Lib.hid hb1
  clear hx hT hb1
  have HI := Lib.hid (fun W (h : Txs W xs (.slice av xs.length cv) fx) => impl_LanesOf xs av cv fx W (by omega) h)
  have HS := Lib.hid (fun W (h : Txs W xs (.slice av xs.length cv) fx) => spec_LanesOf xs av cv fx W (by omega) h)
  obtain ⟨hn16, hr16⟩ := lns_small xs
  obtain ⟨ls, hls⟩ : ∃ ls, ls = lnsN xs := ⟨_, rfl⟩
  rw [← hls] at HI HS hn16 hr16
  have Hls := Lib.hid hls; have HR := Lib.hid hr16; clear hls hr16
  have HD := Lib.hid (fun W (h : Txs W xs (.slice av xs.length cv) fx) => impl_LanesDepth xs av cv fx W (by omega) h)
  have HE := Lib.hid (fun W (h : Txs W xs (.slice av xs.length cv) fx) => spec_LanesDepth xs av cv fx W (by omega) h)
  have hD : (vldB xs = false ∧ dpZ xs = -1) ∨ (dpZ xs = (maxL ls : Nat) ∧ ((maxL ls : Nat) = 0 ↔ xs.length = 0)) := by
    cases hv : vldB xs with
    | false => exact .inl ⟨rfl, (lns_no hv).2⟩
    | true => rw [Hls.out, (lns_yes hv).1, (lns_yes hv).2]; exact .inr ⟨rfl, maxL_zero xs⟩
  have Hd := Lib.hid hD; clear hD
  obtain ⟨d, hd⟩ : ∃ d, d = dpZ xs := ⟨_, rfl⟩
  rw [← hd] at HD HE Hd; clear hd
  go_wp2_with fail
  refine (HD.out _ Tx.out).mono ?_
  rintro e w2 ⟨rfl, hb⟩
  have Tx := Lib.hid (show Txs w2 (xs) (.slice av xs.length cv) fx from Tx.out.under hb)
  have hsw2 := hb.size
  have Hb := Lib.hid (below_step Hb.out Hb.out.size hb)
  clear hb
  go_wp2_with fail
  refine (HE.out _ Tx.out).mono ?_
  rintro e w3 ⟨rfl, hb⟩
  have Tx := Lib.hid (show Txs w3 (xs) (.slice av xs.length cv) fx from Tx.out.under hb)
  have hsw3 := hb.size
  have Hb := Lib.hid (below_step Hb.out Hb.out.size hb)
  clear hb
  clear HD HE HS
  have hn1 : (d == d) = true := by simp
  have hn2 : (d != d) = false := by simp
  rcases Hd.out with ⟨-, rfl⟩ | ⟨rfl, hz⟩
  case inl =>
    clear HI
    go_wp2
    go_ret
    exact ⟨by first | rfl | exact ret_bool (by simp) | exact ret_bool (by simp; omega), Hb.out⟩
  case inr =>
    have Hz := Lib.hid hz; clear hz Hd
    obtain ⟨m, hm⟩ : ∃ m, m = maxL ls := ⟨_, rfl⟩
    rw [← hm] at Hz hn1 hn2 ⊢
    have Hm := Lib.hid hm; clear hm
    have hm0 : ¬ ((m : Nat) : Int) < 0 := by omega
    go_wp2_with fail
    refine (HI.out _ Tx.out).mono ?_
    rintro e w4 ⟨uo, rfl, ho, hb⟩
    obtain ⟨fo, hn⟩ := ho.lns
    obtain ⟨ao, co, rfl⟩ := hn.slice
    have hn' := Lib.hid hn; clear hn ho
    have Tx := Lib.hid (show Txs w4 (xs) (.slice av xs.length cv) fx from Tx.out.under hb)
    have hsw4 := hb.size
    have Hb := Lib.hid (below_step Hb.out Hb.out.size hb)
    have To := Lib.hid (show Lns w4 ls (.slice ao ls.length co) fo from hn'.out)
    clear hn' hb
    clear HI
    go_wp2
    go_loopw [7, 8] (fun v i wr => ∃ k : Nat, k ≤ ls.length ∧ i = .int .i64 k ∧ v = .int .i64 (maxL (ls.take k) : Nat) ∧ wr = w4) (fun _ i _ => ls.length - (intOf i).toNat)
    case atStart => exact ⟨0, Nat.zero_le _, rfl, rfl, by first | trivial | rfl⟩
    case round =>
      obtain ⟨k, hk, rfl, rfl, rfl⟩ := hrel
      by_cases hlt : k < ls.length
      case neg =>
        have hlt' : ¬ (k : Int) < (ls.length : Int) := by omega
        rw [List.take_of_length_le (by omega), ← Hm.out]
        have hq1 : ((m : Int) == (m : Int)) = true := by simp
        have hq2 : (((m : Int) == 0) == ((xs.length : Int) == 0)) = true := by
          have h1 : ((m : Int) == 0) = ((xs.length : Int) == 0) := by
            have := Hz.out
            rw [Bool.eq_iff_iff, beq_iff_eq, beq_iff_eq]; omega
          rw [h1]; simp
        go_wp2
        go_ret
        exact ⟨by first | rfl | exact ret_bool (by simp) | exact ret_bool (by simp; omega), Hb.out⟩
      case pos =>
        have hlt' : (k : Int) < (ls.length : Int) := by omega
        obtain ⟨b, off, rfl, _, hat⟩ := lns_read To.out (by omega)
        obtain ⟨pa, pc, c0, hx0⟩ := hat k hlt
        clear hx0
        have Hs := Lib.hid (show ((maxL (ls.take (k + 1)) : Nat) : Int) = max ((maxL (ls.take k) : Nat) : Int) (ls[k].length : Int) by rw [maxL_step hlt]; omega)
        have hmx : ∀ (P : Program) ats ty W, (Builtin.max_ ats ty #[.int .i64 ((maxL (ls.take k) : Nat) : Int), .int .i64 (ls[k].length : Int)]).run P W = .ok (.int .i64 ((maxL (ls.take (k + 1)) : Nat) : Int)) W := fun P ats ty W => by rw [Hs.out]; exact run_max2 ats ty _ _ W
        clear hat
        obtain ⟨q2, hq2⟩ : ∃ q, q = ((maxL (ls.take (k + 1)) : Nat) : Int) := ⟨_, rfl⟩
        rw [← hq2] at hmx
        have Hq2 := Lib.hid hq2; clear hq2 Hs
        generalize ((maxL (ls.take k) : Nat) : Int) = q at *
        generalize ls[k].length = n at *
        go_wp2
        go_roundw
        case rel => exact ⟨k + 1, by omega, by go_num, by rw [Hq2.out], by first | trivial | rfl⟩
        case measure => simp [intOf]; omega

theorem fnLanesDepth_own : ownKnob Try.prog.godebug = none := by kernel_rfl
theorem fnLanesDepth_laidOut : laidOutB Try.prog = true := by kernel_rfl

set_option maxRecDepth 8000 in
theorem fnLanesDepth_lifted (os : Os) (started : os.Started) (H : Type) (enc : TypeId × Value → H) :
    ReturnsInHanded {} Try.checked os 9 .any (Rows.fnLanesDepthSpec.pre6 enc Try.prog Try.f9 Rows.fnLanesDepthRow.domain false) (Rows.fnLanesDepthSpec.post enc Try.prog Try.f9 false true false false) := by
  refine law_lifted (C := Try.checked) (tb := 4) fnLanesDepth_own fnLanesDepth_laidOut started (by kernel_rfl) Try.func9 rfl Try.underlying4 rfl (by rw [Try.params9]; exact of_decide_eq_true (by kernel_rfl)) ?_
    (ChangeSpec.witness6 (enc := enc) (C := Try.checked) false ⟨#[], #[.slice none 0 0], []⟩ 8 (by kernel_rfl) (by kernel_rfl) (by kernel_rfl) (by kernel_rfl)) ?_
  · intro ds hds
    rw [Try.params9] at hds
    match ds, hds with
    | [d0], _ => rfl
  · intro W base args ds p hval0 hA0
    have hval : ∀ (j : Nat) t v, Try.f9.params[j]? = some t → args[j]? = some v → Value.okWide Try.prog W .any base t v := hval0
    have hA : DataW.TrodAll enc Try.prog W 0 (fun _ => true) true Try.f9.params.toList args.toList ds p := hA0
    rw [Try.params9] at hA hval
    obtain ⟨v0, vs0, d0, ds0, p0, q0, hargs0, rfl, rfl, h0, r0⟩ := trodAll_cons hA
    obtain ⟨hnil, rfl, rfl⟩ := trodAll_nil r0
    subst hnil
    obtain rfl : args = #[v0] := by cases args; simp_all
    obtain ⟨a0, cap0, zs0, rfl, hk0, hm0, hi0, hw0⟩ := open_slice_ints Try.underlying22 Try.underlying5 (by kernel_rfl) (hval 0 22 v0 rfl rfl) h0
    exact fnLanesDepth_walk a0 cap0 zs0 W hk0 hm0 hi0 hw0

set_option maxRecDepth 8000 in
theorem fnLanesDepth_holds : Rows.FnLanesDepthSaid :=
  OpenClaim.holds_of_wide 9 Try.f9 rfl rfl rfl rfl rfl rfl rfl ⟨rfl, rfl, rfl, rfl, rfl⟩ rfl rfl rfl rfl rfl (by kernel_rfl) Try.func9 (by kernel_rfl)
    (of_decide_eq_true (by kernel_rfl)) (by unfold Func.isWrapper; first | (rw [if_pos (by decide +kernel)]; kernel_rfl) | (rw [if_neg (by decide +kernel)]; exact ⟨rfl, rfl⟩))
    (fun os started H enc _ => fnLanesDepth_lifted os started H enc)

end Go.Proofs.Ytnjjbplocokdeaa
