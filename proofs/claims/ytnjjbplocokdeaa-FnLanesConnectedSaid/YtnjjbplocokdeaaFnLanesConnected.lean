/- Law FnLanesConnected holds for every input; no conditions of our own. -/
import Derived.Test.YtnjjbplocokdeaaRows
import Derived.Test.YtnjjbplocokdeaaBu0
import Derived.Test.YtnjjbplocokdeaaBu1
import Derived.Test.YtnjjbplocokdeaaBu2
import Derived.Test.YtnjjbplocokdeaaBu3
import Derived.Deep.QuietTactic
import Derived.BigQuiet
namespace Go.Proofs.Ytnjjbplocokdeaa
open Go.ChangeShapes Go.WideShapes Go.ChangeAt Go.RowKit

set_option maxRecDepth 8000 in
set_option maxHeartbeats 8000000 in
theorem fnLanesConnected_walk (a : Option Addr) (cap : Nat) (zs : List Int) (w : World) (hk : zs.length ≤ cap) (_hm : zs.length ≤ maxLen) (hi : zs = [] ∨ ∃ b off, a = some ⟨b, off, none⟩ ∧ b < w.heap.size ∧ ∀ j (h : j < zs.length), w.cell? ⟨b, off + j, none⟩ = some (.int .u8 zs[j])) (hw : ∀ z ∈ zs, (Lit.int .u8 z).wf = true) :
    Calls Try.prog 6 #[.slice a zs.length cap] w fun e w' => e = .returned (.bool true) ∧ Below w.heap.size w w' := by
  by_cases hl : 1048576 < zs.length
  · go_enter Try.func6, Try.ntmps6
    go_wp2
    go_ret
    exact ⟨rfl, Below.refl _ _⟩
  have hcode := codeAt_of hk (by omega) hi hw
  have Hcode := Lib.hid hcode; clear hcode hi hw
  go_enter Try.func6, Try.ntmps6
  go_wp2_with fail
  refine (spec_DrawLanesOf a cap zs _ Hcode.out).mono ?_
  rintro e1 w1 ⟨xs, vx, rfl, hx, hx17, hb1⟩
  obtain ⟨av, cv, rfl, hcv⟩ := OwnX.sl (l := xs) hx
  obtain ⟨fx, hT⟩ := OwnX.txs (l := xs) hx
  have hw0 := hb1.size
  have Tx := Lib.hid hT
  have Hb := Lib.hid hb1
  clear hx hT hb1
  have HI := Lib.hid (fun W (h : Txs W xs (.slice av xs.length cv) fx) => impl_LanesOf xs av cv fx W (by omega) h)
  have HS := Lib.hid (fun W (h : Txs W xs (.slice av xs.length cv) fx) => spec_LanesOf xs av cv fx W (by omega) h)
  obtain ⟨hn16, hr16⟩ := lns_small xs
  obtain ⟨ls, hls⟩ : ∃ ls, ls = lnsN xs := ⟨_, rfl⟩
  rw [← hls] at HI HS hn16 hr16
  have Hls := Lib.hid hls; have HR := Lib.hid hr16; clear hls hr16
  go_wp2_with fail
  refine (HI.out _ Tx.out).mono ?_
  rintro e w2 ⟨uo, rfl, ho, hb⟩
  obtain ⟨fo, hn⟩ := ho.lns
  obtain ⟨ao, co, rfl⟩ := hn.slice
  have hn' := Lib.hid hn; clear hn ho
  have Tx := Lib.hid (show Txs w2 (xs) (.slice av xs.length cv) fx from Tx.out.under hb)
  have hsw2 := hb.size
  have Hb := Lib.hid (below_step Hb.out Hb.out.size hb)
  have To := Lib.hid (show Lns w2 ls (.slice ao ls.length co) fo from hn'.out)
  clear hn' hb
  go_wp2_with fail
  refine (HS.out _ Tx.out).mono ?_
  rintro e w3 ⟨uk, rfl, ho, hb⟩
  obtain ⟨fk, hn⟩ := ho.lns
  obtain ⟨ak, ck, rfl⟩ := hn.slice
  have hn' := Lib.hid hn; clear hn ho
  have Tx := Lib.hid (show Txs w3 (xs) (.slice av xs.length cv) fx from Tx.out.under hb)
  have To := Lib.hid (show Lns w3 (ls) (.slice ao ls.length co) fo from To.out.under hb)
  have hsw3 := hb.size
  have Hb := Lib.hid (below_step Hb.out Hb.out.size hb)
  have Tk := Lib.hid (show Lns w3 ls (.slice ak ls.length ck) fk from hn'.out)
  clear hn' hb
  clear HI HS
  have HQ := Lib.hid (fun W h h' => laws_sameLanes ls ao ak co ck fo fk W (by omega) (fun l hl => by have := HR.out l hl; omega) h h')
  go_wp2_with fail
  refine (HQ.out _ To.out Tk.out).mono ?_
  rintro e w4 ⟨rfl, hb⟩
  have Tx := Lib.hid (show Txs w4 (xs) (.slice av xs.length cv) fx from Tx.out.under hb)
  have To := Lib.hid (show Lns w4 (ls) (.slice ao ls.length co) fo from To.out.under hb)
  have Tk := Lib.hid (show Lns w4 (ls) (.slice ak ls.length ck) fk from Tk.out.under hb)
  have hsw4 := hb.size
  have Hb := Lib.hid (below_step Hb.out Hb.out.size hb)
  clear hb
  by_cases h0 : ls.length = 0
  case pos =>
    clear HQ
    go_wp2
    go_loopw [6] (fun i wr => i = .int .i64 0 ∧ wr = w4) (fun _ _ => 0)
    case atStart => exact ⟨rfl, by first | trivial | rfl⟩
    case round =>
      obtain ⟨rfl, rfl⟩ := hrel
      have hlt' : ¬ (0 : Int) < (ls.length : Int) := by omega
      go_wp2
      go_ret
      exact ⟨rfl, Hb.out⟩
  replace h0 : 0 < ls.length := by omega
  obtain ⟨hv, hpl⟩ := plw_of Hls.out h0
  have PL := Lib.hid hpl
  obtain ⟨b, off, P, Rb, Ro, rfl, hlr⟩ := lns_rd To.out h0 hpl.pos
  have LR := Lib.hid hlr
  have hx16 := vld_len hv
  clear hpl hlr
  have hx0 : 0 < xs.length := by
    have h1 := PL.out.lt 0 h0 0 (PL.out.pos 0 h0)
    omega
  obtain ⟨bx, ox, hav, hbx, hxat⟩ := Tx.out.at hx0
  have HX := Lib.hid hxat
  subst hav
  clear HQ hxat Tx Tk hx0
  go_wp2
  go_loopw [6] (fun q wr => ∃ qq : Nat, qq ≤ ls.length ∧ q = .int .i64 qq ∧ Below w4.heap.size w4 wr) (fun q _ => ls.length - (intOf q).toNat)
  case atStart => exact ⟨0, Nat.zero_le _, rfl, Below.refl _ _⟩
  case round =>
    obtain ⟨i, hi, rfl, hbi⟩ := hrel
    have Bi := Lib.hid hbi
    have Li := Lib.hid (LR.out.below hbi)
    clear hbi
    by_cases hlt : i < ls.length
    case neg =>
      have hlt' : ¬ (i : Int) < (ls.length : Int) := by omega
      go_wp2
      go_ret
      exact ⟨rfl, below_step Hb.out Hb.out.size Bi.out⟩
    case pos =>
      have hlt' : (i : Int) < (ls.length : Int) := by omega
      go_wp2
      go_loopw [7] (fun q wr => ∃ qq : Nat, 1 ≤ qq ∧ qq ≤ ls[i].length ∧ q = .int .i64 qq ∧ Below w4.heap.size w4 wr) (fun q _ => ls[i].length - (intOf q).toNat)
      case atStart => exact ⟨1, Nat.le_refl _, PL.out.pos i hlt, rfl, Bi.out⟩
      case round =>
        obtain ⟨a, h1a, ha, rfl, hba⟩ := hrel
        have Ba := Lib.hid hba
        have La := Lib.hid (LR.out.below hba)
        clear hba
        have hni : ls[i].length ≤ 16 := HR.out _ (List.getElem_mem hlt)
        have hci := (La.out.row i hlt).1
        obtain ⟨cc, hP⟩ := (La.out.row i hlt).2
        rw [hP] at hci
        have HPi := Lib.hid hP
        clear hP
        by_cases hai : a < ls[i].length
        case neg =>
          have hai' : ¬ (a : Int) < (ls[i].length : Int) := by omega
          clear HPi
          go_wp2
          go_roundw
          case rel => exact ⟨i + 1, by omega, by go_num, Ba.out⟩
          case measure => simp [intOf]; omega
        case pos =>
          have hai' : (a : Int) < (ls[i].length : Int) := by omega
          have Hfn := Lib.hid (fnd_yes PL.out hlt hai (by omega))
          have Hst := Lib.hid (fnd_step xs ls[i] a)
          have hf0 : fndB xs ls[i] a 0 = false := rfl
          go_wp2
          clear hci
          go_loopw [8, 9] (fun v q wr => ∃ qq : Nat, qq ≤ ls[i].length ∧ q = .int .i64 qq ∧ v = .bool (fndB xs ls[i] a qq) ∧ Below w4.heap.size w4 wr) (fun _ q _ => ls[i].length - (intOf q).toNat)
          case atStart => exact ⟨0, Nat.zero_le _, rfl, by rw [hf0], Ba.out⟩
          case round =>
            clear hf0
            obtain ⟨k, hkk, rfl, rfl, hbk⟩ := hrel
            have Bk := Lib.hid hbk
            have Lk := Lib.hid (LR.out.below hbk)
            clear hbk
            have hci := (Lk.out.row i hlt).1
            rw [HPi.out] at hci
            by_cases hki : k < ls[i].length
            case neg =>
              have hki' : ¬ (k : Int) < (ls[i].length : Int) := by omega
              have hke : k = ls[i].length := by omega
              have hf1 : fndB xs ls[i] a k = true := by rw [hke]; exact Hfn.out
              rw [hf1]
              clear HPi hke hf1
              go_wp2
              go_roundw
              case rel => exact ⟨a + 1, by omega, by omega, by go_num, Bk.out⟩
              case measure => simp [intOf]; omega
            case pos =>
              have hki' : (k : Int) < (ls[i].length : Int) := by omega
              have hs := Hst.out k
              cases hf : fndB xs ls[i] a k with
              | true =>
                rw [hf, Bool.true_or] at hs
                have Hs := Lib.hid hs
                clear hs hf HPi
                go_wp2_with fail
                refine wp_region_held_drew (S := fun W => W.cell? ⟨b, off + i, none⟩ = some (.slice (some ⟨Rb i, Ro i, none⟩) ls[i].length cc)) (by kernel_rfl) hci (fun hH => ?_)
                refine takeH 0 (v := ?vca1) rfl (by kernel_rfl) (by kernel_rfl) (by kernel_rfl) (fun _ _ _ h => h) hH rfl ?yca1 ?rca1
                case yca1 => intro W hSw; go_simp; try with_reducible rfl
                try simp only [Act.put, List.setIfInBounds_toArray, List.set_cons_zero, List.set_cons_succ]
                refine takeH 1 (v := ?vca2) rfl (by kernel_rfl) (by kernel_rfl) (by kernel_rfl) (fun _ _ _ h => h) hH rfl ?yca2 ?rca2
                case yca2 => intro W hSw; go_simp; try with_reducible rfl
                try simp only [Act.put, List.setIfInBounds_toArray, List.set_cons_zero, List.set_cons_succ]
                refine skipH 2 rfl (by kernel_rfl) (by kernel_rfl) (by kernel_rfl) (fun _ _ _ h => h) hH rfl ?_
                try simp only [Act.put, List.setIfInBounds_toArray, List.set_cons_zero, List.set_cons_succ]
                refine skipH 3 rfl (by kernel_rfl) (by kernel_rfl) (by kernel_rfl) (fun _ _ _ h => h) hH rfl ?_
                try simp only [Act.put, List.setIfInBounds_toArray, List.set_cons_zero, List.set_cons_succ]
                refine skipH 4 rfl (by kernel_rfl) (by kernel_rfl) (by kernel_rfl) (fun _ _ _ h => h) hH rfl ?_
                try simp only [Act.put, List.setIfInBounds_toArray, List.set_cons_zero, List.set_cons_succ]
                refine skipH 5 rfl (by kernel_rfl) (by kernel_rfl) (by kernel_rfl) (fun _ _ _ h => h) hH rfl ?_
                try simp only [Act.put, List.setIfInBounds_toArray, List.set_cons_zero, List.set_cons_succ]
                refine skipH 6 rfl (by kernel_rfl) (by kernel_rfl) (by kernel_rfl) (fun _ _ _ h => h) hH rfl ?_
                try simp only [Act.put, List.setIfInBounds_toArray, List.set_cons_zero, List.set_cons_succ]
                refine skipH 7 rfl (by kernel_rfl) (by kernel_rfl) (by kernel_rfl) (fun _ _ _ h => h) hH rfl ?_
                try simp only [Act.put, List.setIfInBounds_toArray, List.set_cons_zero, List.set_cons_succ]
                refine skipH 8 rfl (by kernel_rfl) (by kernel_rfl) (by kernel_rfl) (fun _ _ _ h => h) hH rfl ?_
                try simp only [Act.put, List.setIfInBounds_toArray, List.set_cons_zero, List.set_cons_succ]
                refine skipH 9 rfl (by kernel_rfl) (by kernel_rfl) (by kernel_rfl) (fun _ _ _ h => h) hH rfl ?_
                try simp only [Act.put, List.setIfInBounds_toArray, List.set_cons_zero, List.set_cons_succ]
                refine skipH 10 rfl (by kernel_rfl) (by kernel_rfl) (by kernel_rfl) (fun _ _ _ h => h) hH rfl ?_
                try simp only [Act.put, List.setIfInBounds_toArray, List.set_cons_zero, List.set_cons_succ]
                refine skipH 11 rfl (by kernel_rfl) (by kernel_rfl) (by kernel_rfl) (fun _ _ _ h => h) hH rfl ?_
                try simp only [Act.put, List.setIfInBounds_toArray, List.set_cons_zero, List.set_cons_succ]
                refine skipH 12 rfl (by kernel_rfl) (by kernel_rfl) (by kernel_rfl) (fun _ _ _ h => h) hH rfl ?_
                try simp only [Act.put, List.setIfInBounds_toArray, List.set_cons_zero, List.set_cons_succ]
                refine skipH 13 rfl (by kernel_rfl) (by kernel_rfl) (by kernel_rfl) (fun _ _ _ h => h) hH rfl ?_
                try simp only [Act.put, List.setIfInBounds_toArray, List.set_cons_zero, List.set_cons_succ]
                refine skipH 14 rfl (by kernel_rfl) (by kernel_rfl) (by kernel_rfl) (fun _ _ _ h => h) hH rfl ?_
                try simp only [Act.put, List.setIfInBounds_toArray, List.set_cons_zero, List.set_cons_succ]
                refine skipH 15 rfl (by kernel_rfl) (by kernel_rfl) (by kernel_rfl) (fun _ _ _ h => h) hH rfl ?_
                try simp only [Act.put, List.setIfInBounds_toArray, List.set_cons_zero, List.set_cons_succ]
                refine skipH 16 rfl (by kernel_rfl) (by kernel_rfl) (by kernel_rfl) (fun _ _ _ h => h) hH rfl ?_
                try simp only [Act.put, List.setIfInBounds_toArray, List.set_cons_zero, List.set_cons_succ]
                refine skipH 17 rfl (by kernel_rfl) (by kernel_rfl) (by kernel_rfl) (fun _ _ _ h => h) hH rfl ?_
                try simp only [Act.put, List.setIfInBounds_toArray, List.set_cons_zero, List.set_cons_succ]
                refine skipH 18 rfl (by kernel_rfl) (by kernel_rfl) (by kernel_rfl) (fun _ _ _ h => h) hH rfl ?_
                try simp only [Act.put, List.setIfInBounds_toArray, List.set_cons_zero, List.set_cons_succ]
                refine skipH 19 rfl (by kernel_rfl) (by kernel_rfl) (by kernel_rfl) (fun _ _ _ h => h) hH rfl ?_
                try simp only [Act.put, List.setIfInBounds_toArray, List.set_cons_zero, List.set_cons_succ]
                refine skipH 20 rfl (by kernel_rfl) (by kernel_rfl) (by kernel_rfl) (fun _ _ _ h => h) hH rfl ?_
                try simp only [Act.put, List.setIfInBounds_toArray, List.set_cons_zero, List.set_cons_succ]
                refine skipH 21 rfl (by kernel_rfl) (by kernel_rfl) (by kernel_rfl) (fun _ _ _ h => h) hH rfl ?_
                try simp only [Act.put, List.setIfInBounds_toArray, List.set_cons_zero, List.set_cons_succ]
                refine skipH 22 rfl (by kernel_rfl) (by kernel_rfl) (by kernel_rfl) (fun _ _ _ h => h) hH rfl ?_
                try simp only [Act.put, List.setIfInBounds_toArray, List.set_cons_zero, List.set_cons_succ]
                refine skipH 23 rfl (by kernel_rfl) (by kernel_rfl) (by kernel_rfl) (fun _ _ _ h => h) hH rfl ?_
                try simp only [Act.put, List.setIfInBounds_toArray, List.set_cons_zero, List.set_cons_succ]
                refine skipH 24 rfl (by kernel_rfl) (by kernel_rfl) (by kernel_rfl) (fun _ _ _ h => h) hH rfl ?_
                try simp only [Act.put, List.setIfInBounds_toArray, List.set_cons_zero, List.set_cons_succ]
                refine skipH 25 rfl (by kernel_rfl) (by kernel_rfl) (by kernel_rfl) (fun _ _ _ h => h) hH rfl ?_
                try simp only [Act.put, List.setIfInBounds_toArray, List.set_cons_zero, List.set_cons_succ]
                refine skipH 26 rfl (by kernel_rfl) (by kernel_rfl) (by kernel_rfl) (fun _ _ _ h => h) hH rfl ?_
                try simp only [Act.put, List.setIfInBounds_toArray, List.set_cons_zero, List.set_cons_succ]
                refine skipH 27 rfl (by kernel_rfl) (by kernel_rfl) (by kernel_rfl) (fun _ _ _ h => h) hH rfl ?_
                try simp only [Act.put, List.setIfInBounds_toArray, List.set_cons_zero, List.set_cons_succ]
                refine takeH 28 (v := ?vca3) rfl (by kernel_rfl) (by kernel_rfl) (by kernel_rfl) (fun _ _ _ h => h) hH rfl ?yca3 ?rca3
                case yca3 => intro W hSw; go_simp; try with_reducible rfl
                try simp only [Act.put, List.setIfInBounds_toArray, List.set_cons_zero, List.set_cons_succ]
                refine takeH 29 (v := ?vca4) rfl (by kernel_rfl) (by kernel_rfl) (by kernel_rfl) (fun _ _ _ h => h) hH rfl ?yca4 ?rca4
                case yca4 => intro W hSw; go_simp; try with_reducible rfl
                try simp only [Act.put, List.setIfInBounds_toArray, List.set_cons_zero, List.set_cons_succ]
                refine wpAnyH_done (by kernel_rfl) ?_ _
                try simp only [Act.put]
                have B9 := Lib.hid (show Below _ _ wr.drew from Bk.out.drew)
                clear hH hci
                go_wp2
                go_roundw
                case rel => exact ⟨k + 1, by omega, by go_num, by rw [Hs.out], B9.out⟩
                case measure => simp [intOf]; omega
              | false =>
                rw [hf, Bool.false_or] at hs
                clear hf
                by_cases hak : a = k
                case pos =>
                  rw [decide_eq_false (fun h : a ≠ k => h hak), Bool.false_and] at hs
                  have Hs := Lib.hid hs
                  have hq1 : ((a : Int) == (k : Int)) = true := by rw [beq_iff_eq]; omega
                  have hq2 : ((a : Int) != (k : Int)) = false := by rw [bne, hq1]; rfl
                  clear hs hak HPi
                  go_wp2_with fail
                  refine wp_region_held_drew (S := fun W => W.cell? ⟨b, off + i, none⟩ = some (.slice (some ⟨Rb i, Ro i, none⟩) ls[i].length cc)) (by kernel_rfl) hci (fun hH => ?_)
                  refine takeH 0 (v := ?vcb1) rfl (by kernel_rfl) (by kernel_rfl) (by kernel_rfl) (fun _ _ _ h => h) hH rfl ?ycb1 ?rcb1
                  case ycb1 => intro W hSw; go_simp; try with_reducible rfl
                  try simp only [Act.put, List.setIfInBounds_toArray, List.set_cons_zero, List.set_cons_succ]
                  refine takeH 1 (v := ?vcb2) rfl (by kernel_rfl) (by kernel_rfl) (by kernel_rfl) (fun _ _ _ h => h) hH rfl ?ycb2 ?rcb2
                  case ycb2 => intro W hSw; go_simp; try with_reducible rfl
                  try simp only [Act.put, List.setIfInBounds_toArray, List.set_cons_zero, List.set_cons_succ]
                  refine takeH 2 (v := ?vcb3) rfl (by kernel_rfl) (by kernel_rfl) (by kernel_rfl) (fun _ _ _ h => h) hH rfl ?ycb3 ?rcb3
                  case ycb3 => intro W hSw; go_simp; try with_reducible rfl
                  try simp only [Act.put, List.setIfInBounds_toArray, List.set_cons_zero, List.set_cons_succ]
                  refine takeH 3 (v := ?vcb4) rfl (by kernel_rfl) (by kernel_rfl) (by kernel_rfl) (fun _ _ _ h => h) hH rfl ?ycb4 ?rcb4
                  case ycb4 => intro W hSw; go_simp; try with_reducible rfl
                  try simp only [Act.put, List.setIfInBounds_toArray, List.set_cons_zero, List.set_cons_succ]
                  refine takeH 4 (v := .bool false) rfl (by kernel_rfl) (by kernel_rfl) (by kernel_rfl) (fun _ _ _ h => h) hH rfl ?ycb5 ?rcb5
                  case ycb5 => intro W hSw; go_simp; first | done | simp only [hq2] | omega | (simp; omega)
                  try simp only [Act.put, List.setIfInBounds_toArray, List.set_cons_zero, List.set_cons_succ]
                  refine takeH 5 (v := ?vcb6) rfl (by kernel_rfl) (by kernel_rfl) (by kernel_rfl) (fun _ _ _ h => h) hH rfl ?ycb6 ?rcb6
                  case ycb6 => intro W hSw; go_simp; try with_reducible rfl
                  try simp only [Act.put, List.setIfInBounds_toArray, List.set_cons_zero, List.set_cons_succ]
                  refine skipH 6 rfl (by kernel_rfl) (by kernel_rfl) (by kernel_rfl) (fun _ _ _ h => h) hH rfl ?_
                  try simp only [Act.put, List.setIfInBounds_toArray, List.set_cons_zero, List.set_cons_succ]
                  refine skipH 7 rfl (by kernel_rfl) (by kernel_rfl) (by kernel_rfl) (fun _ _ _ h => h) hH rfl ?_
                  try simp only [Act.put, List.setIfInBounds_toArray, List.set_cons_zero, List.set_cons_succ]
                  refine skipH 8 rfl (by kernel_rfl) (by kernel_rfl) (by kernel_rfl) (fun _ _ _ h => h) hH rfl ?_
                  try simp only [Act.put, List.setIfInBounds_toArray, List.set_cons_zero, List.set_cons_succ]
                  refine skipH 9 rfl (by kernel_rfl) (by kernel_rfl) (by kernel_rfl) (fun _ _ _ h => h) hH rfl ?_
                  try simp only [Act.put, List.setIfInBounds_toArray, List.set_cons_zero, List.set_cons_succ]
                  refine skipH 10 rfl (by kernel_rfl) (by kernel_rfl) (by kernel_rfl) (fun _ _ _ h => h) hH rfl ?_
                  try simp only [Act.put, List.setIfInBounds_toArray, List.set_cons_zero, List.set_cons_succ]
                  refine skipH 11 rfl (by kernel_rfl) (by kernel_rfl) (by kernel_rfl) (fun _ _ _ h => h) hH rfl ?_
                  try simp only [Act.put, List.setIfInBounds_toArray, List.set_cons_zero, List.set_cons_succ]
                  refine skipH 12 rfl (by kernel_rfl) (by kernel_rfl) (by kernel_rfl) (fun _ _ _ h => h) hH rfl ?_
                  try simp only [Act.put, List.setIfInBounds_toArray, List.set_cons_zero, List.set_cons_succ]
                  refine skipH 13 rfl (by kernel_rfl) (by kernel_rfl) (by kernel_rfl) (fun _ _ _ h => h) hH rfl ?_
                  try simp only [Act.put, List.setIfInBounds_toArray, List.set_cons_zero, List.set_cons_succ]
                  refine skipH 14 rfl (by kernel_rfl) (by kernel_rfl) (by kernel_rfl) (fun _ _ _ h => h) hH rfl ?_
                  try simp only [Act.put, List.setIfInBounds_toArray, List.set_cons_zero, List.set_cons_succ]
                  refine skipH 15 rfl (by kernel_rfl) (by kernel_rfl) (by kernel_rfl) (fun _ _ _ h => h) hH rfl ?_
                  try simp only [Act.put, List.setIfInBounds_toArray, List.set_cons_zero, List.set_cons_succ]
                  refine skipH 16 rfl (by kernel_rfl) (by kernel_rfl) (by kernel_rfl) (fun _ _ _ h => h) hH rfl ?_
                  try simp only [Act.put, List.setIfInBounds_toArray, List.set_cons_zero, List.set_cons_succ]
                  refine skipH 17 rfl (by kernel_rfl) (by kernel_rfl) (by kernel_rfl) (fun _ _ _ h => h) hH rfl ?_
                  try simp only [Act.put, List.setIfInBounds_toArray, List.set_cons_zero, List.set_cons_succ]
                  refine skipH 18 rfl (by kernel_rfl) (by kernel_rfl) (by kernel_rfl) (fun _ _ _ h => h) hH rfl ?_
                  try simp only [Act.put, List.setIfInBounds_toArray, List.set_cons_zero, List.set_cons_succ]
                  refine skipH 19 rfl (by kernel_rfl) (by kernel_rfl) (by kernel_rfl) (fun _ _ _ h => h) hH rfl ?_
                  try simp only [Act.put, List.setIfInBounds_toArray, List.set_cons_zero, List.set_cons_succ]
                  refine skipH 20 rfl (by kernel_rfl) (by kernel_rfl) (by kernel_rfl) (fun _ _ _ h => h) hH rfl ?_
                  try simp only [Act.put, List.setIfInBounds_toArray, List.set_cons_zero, List.set_cons_succ]
                  refine skipH 21 rfl (by kernel_rfl) (by kernel_rfl) (by kernel_rfl) (fun _ _ _ h => h) hH rfl ?_
                  try simp only [Act.put, List.setIfInBounds_toArray, List.set_cons_zero, List.set_cons_succ]
                  refine skipH 22 rfl (by kernel_rfl) (by kernel_rfl) (by kernel_rfl) (fun _ _ _ h => h) hH rfl ?_
                  try simp only [Act.put, List.setIfInBounds_toArray, List.set_cons_zero, List.set_cons_succ]
                  refine skipH 23 rfl (by kernel_rfl) (by kernel_rfl) (by kernel_rfl) (fun _ _ _ h => h) hH rfl ?_
                  try simp only [Act.put, List.setIfInBounds_toArray, List.set_cons_zero, List.set_cons_succ]
                  refine skipH 24 rfl (by kernel_rfl) (by kernel_rfl) (by kernel_rfl) (fun _ _ _ h => h) hH rfl ?_
                  try simp only [Act.put, List.setIfInBounds_toArray, List.set_cons_zero, List.set_cons_succ]
                  refine skipH 25 rfl (by kernel_rfl) (by kernel_rfl) (by kernel_rfl) (fun _ _ _ h => h) hH rfl ?_
                  try simp only [Act.put, List.setIfInBounds_toArray, List.set_cons_zero, List.set_cons_succ]
                  refine skipH 26 rfl (by kernel_rfl) (by kernel_rfl) (by kernel_rfl) (fun _ _ _ h => h) hH rfl ?_
                  try simp only [Act.put, List.setIfInBounds_toArray, List.set_cons_zero, List.set_cons_succ]
                  refine takeH 27 (v := ?vcb7) rfl (by kernel_rfl) (by kernel_rfl) (by kernel_rfl) (fun _ _ _ h => h) hH rfl ?ycb7 ?rcb7
                  case ycb7 => intro W hSw; go_simp; try with_reducible rfl
                  try simp only [Act.put, List.setIfInBounds_toArray, List.set_cons_zero, List.set_cons_succ]
                  refine takeH 28 (v := ?vcb8) rfl (by kernel_rfl) (by kernel_rfl) (by kernel_rfl) (fun _ _ _ h => h) hH rfl ?ycb8 ?rcb8
                  case ycb8 => intro W hSw; go_simp; try with_reducible rfl
                  try simp only [Act.put, List.setIfInBounds_toArray, List.set_cons_zero, List.set_cons_succ]
                  refine takeH 29 (v := ?vcb9) rfl (by kernel_rfl) (by kernel_rfl) (by kernel_rfl) (fun _ _ _ h => h) hH rfl ?ycb9 ?rcb9
                  case ycb9 => intro W hSw; go_simp; try with_reducible rfl
                  try simp only [Act.put, List.setIfInBounds_toArray, List.set_cons_zero, List.set_cons_succ]
                  refine wpAnyH_done (by kernel_rfl) ?_ _
                  try simp only [Act.put]
                  have B9 := Lib.hid (show Below _ _ wr.drew from Bk.out.drew)
                  clear hH hci
                  go_wp2
                  go_roundw
                  case rel => exact ⟨k + 1, by omega, by go_num, by rw [Hs.out], B9.out⟩
                  case measure => simp [intOf]; omega
                case neg =>
                  rw [decide_eq_true hak, Bool.true_and] at hs
                  have hq1 : ((a : Int) == (k : Int)) = false := by rw [beq_eq_false_iff_ne]; omega
                  have hq2 : ((a : Int) != (k : Int)) = true := by rw [bne, hq1]; rfl
                  have hxa := Lk.out.cell i hlt a hai
                  have hyb := Lk.out.cell i hlt k hki
                  have hx := PL.out.lt i hlt a hai
                  have hy := PL.out.lt i hlt k hki
                  rw [getD_lt hai, getD_lt hki, gd_tx hx, gd_tx hy] at hs
                  have HQ := Lib.hid (fun W => impl_TxnsConflict xs[ls[i][a]] xs[ls[i][k]] W)
                  rw [← hs] at HQ
                  have hxat := HX.out
                  obtain ⟨ex0, ex1, ex2, ex3⟩ := hxat (ls[i][a]) hx
                  have dx0 := (Bk.out.cell (p := ⟨bx, ox + ls[i][a] * 4, none⟩) hbx).trans ex0
                  have dx1 := (Bk.out.cell (p := ⟨bx, ox + ls[i][a] * 4 + 1, none⟩) hbx).trans ex1
                  have dx2 := (Bk.out.cell (p := ⟨bx, ox + ls[i][a] * 4 + 2, none⟩) hbx).trans ex2
                  have dx3 := (Bk.out.cell (p := ⟨bx, ox + ls[i][a] * 4 + 3, none⟩) hbx).trans ex3
                  clear ex0 ex1 ex2 ex3
                  obtain ⟨ey0, ey1, ey2, ey3⟩ := hxat (ls[i][k]) hy
                  have dy0 := (Bk.out.cell (p := ⟨bx, ox + ls[i][k] * 4, none⟩) hbx).trans ey0
                  have dy1 := (Bk.out.cell (p := ⟨bx, ox + ls[i][k] * 4 + 1, none⟩) hbx).trans ey1
                  have dy2 := (Bk.out.cell (p := ⟨bx, ox + ls[i][k] * 4 + 2, none⟩) hbx).trans ey2
                  have dy3 := (Bk.out.cell (p := ⟨bx, ox + ls[i][k] * 4 + 3, none⟩) hbx).trans ey3
                  clear ey0 ey1 ey2 ey3
                  have hx' : ((ls[i][a] : Nat) : Int) < (xs.length : Int) := by omega
                  have hy' : ((ls[i][k] : Nat) : Int) < (xs.length : Int) := by omega
                  clear hxat hs HPi hak
                  unfold agT at HQ
                  generalize xs[ls[i][a]] = X at *
                  generalize xs[ls[i][k]] = Y at *
                  obtain ⟨xf, xt, xs', xe⟩ := X
                  obtain ⟨yf, yt, ys', ye⟩ := Y
                  dsimp only at *
                  obtain ⟨x, hxe⟩ : ∃ x, x = ls[i][a] := ⟨_, rfl⟩
                  obtain ⟨y, hye⟩ : ∃ y, y = ls[i][k] := ⟨_, rfl⟩
                  rw [← hxe] at hxa hx hx' dx0 dx1 dx2 dx3
                  rw [← hye] at hyb hy hy' dy0 dy1 dy2 dy3
                  clear hxe hye
                  generalize hfk : fndB xs ls[i] a (k + 1) = fk1 at *
                  have Hfk := Lib.hid hfk; clear hfk
                  go_wp2_with fail
                  refine wp_region_held_drew (S := fun W => W.cell? ⟨b, off + i, none⟩ = some (.slice (some ⟨Rb i, Ro i, none⟩) ls[i].length cc) ∧ W.cell? ⟨Rb i, Ro i + a, none⟩ = some (.int .i64 ((x : Nat) : Int)) ∧ W.cell? ⟨bx, ox + x * 4, none⟩ = some (.int .i64 xf) ∧ W.cell? ⟨bx, ox + x * 4 + 1, none⟩ = some (.int .i64 xt) ∧ W.cell? ⟨bx, ox + x * 4 + 2, none⟩ = some (.int .i64 xs') ∧ W.cell? ⟨bx, ox + x * 4 + 3, none⟩ = some (.int .i64 xe) ∧ W.cell? ⟨Rb i, Ro i + k, none⟩ = some (.int .i64 ((y : Nat) : Int)) ∧ W.cell? ⟨bx, ox + y * 4, none⟩ = some (.int .i64 yf) ∧ W.cell? ⟨bx, ox + y * 4 + 1, none⟩ = some (.int .i64 yt) ∧ W.cell? ⟨bx, ox + y * 4 + 2, none⟩ = some (.int .i64 ys') ∧ W.cell? ⟨bx, ox + y * 4 + 3, none⟩ = some (.int .i64 ye)) (by kernel_rfl) ⟨hci, hxa, dx0, dx1, dx2, dx3, hyb, dy0, dy1, dy2, dy3⟩ (fun hH => ?_)
                  refine takeH 0 (v := ?vcc1) rfl (by kernel_rfl) (by kernel_rfl) (by kernel_rfl) (fun _ _ _ h => h) hH rfl ?ycc1 ?rcc1
                  case ycc1 => intro W hSw; go_simp; try with_reducible rfl
                  try simp only [Act.put, List.setIfInBounds_toArray, List.set_cons_zero, List.set_cons_succ]
                  refine takeH 1 (v := ?vcc2) rfl (by kernel_rfl) (by kernel_rfl) (by kernel_rfl) (fun _ _ _ h => h) hH rfl ?ycc2 ?rcc2
                  case ycc2 => intro W hSw; go_simp; try with_reducible rfl
                  try simp only [Act.put, List.setIfInBounds_toArray, List.set_cons_zero, List.set_cons_succ]
                  refine takeH 2 (v := ?vcc3) rfl (by kernel_rfl) (by kernel_rfl) (by kernel_rfl) (fun _ _ _ h => h) hH rfl ?ycc3 ?rcc3
                  case ycc3 => intro W hSw; go_simp; try with_reducible rfl
                  try simp only [Act.put, List.setIfInBounds_toArray, List.set_cons_zero, List.set_cons_succ]
                  refine takeH 3 (v := ?vcc4) rfl (by kernel_rfl) (by kernel_rfl) (by kernel_rfl) (fun _ _ _ h => h) hH rfl ?ycc4 ?rcc4
                  case ycc4 => intro W hSw; go_simp; try with_reducible rfl
                  try simp only [Act.put, List.setIfInBounds_toArray, List.set_cons_zero, List.set_cons_succ]
                  refine takeH 4 (v := .bool true) rfl (by kernel_rfl) (by kernel_rfl) (by kernel_rfl) (fun _ _ _ h => h) hH rfl ?ycc5 ?rcc5
                  case ycc5 => intro W hSw; go_simp; first | done | simp only [hq2] | omega | (simp; omega)
                  try simp only [Act.put, List.setIfInBounds_toArray, List.set_cons_zero, List.set_cons_succ]
                  refine takeH 5 (v := ?vcc6) rfl (by kernel_rfl) (by kernel_rfl) (by kernel_rfl) (fun _ _ _ h => h) hH rfl ?ycc6 ?rcc6
                  case ycc6 => intro W hSw; go_simp; try with_reducible rfl
                  try simp only [Act.put, List.setIfInBounds_toArray, List.set_cons_zero, List.set_cons_succ]
                  refine takeH 6 (v := ?vcc7) rfl (by kernel_rfl) (by kernel_rfl) (by kernel_rfl) (fun _ _ _ h => h) hH rfl ?ycc7 ?rcc7
                  case ycc7 => intro W hSw; go_simp; try with_reducible rfl
                  try simp only [Act.put, List.setIfInBounds_toArray, List.set_cons_zero, List.set_cons_succ]
                  refine takeH 7 (v := ?vcc8) rfl (by kernel_rfl) (by kernel_rfl) (by kernel_rfl) (fun _ _ _ h => h) hH rfl ?ycc8 ?rcc8
                  case ycc8 => intro W hSw; go_simp; try with_reducible rfl
                  try simp only [Act.put, List.setIfInBounds_toArray, List.set_cons_zero, List.set_cons_succ]
                  refine takeH 8 (v := ?vcc9) rfl (by kernel_rfl) (by kernel_rfl) (by kernel_rfl) (fun _ _ _ h => h) hH rfl ?ycc9 ?rcc9
                  case ycc9 => intro W hSw; go_simp; try with_reducible rfl
                  try simp only [Act.put, List.setIfInBounds_toArray, List.set_cons_zero, List.set_cons_succ]
                  refine takeH 9 (v := ?vcc10) rfl (by kernel_rfl) (by kernel_rfl) (by kernel_rfl) (fun _ _ _ h => h) hH rfl ?ycc10 ?rcc10
                  case ycc10 => intro W hSw; go_simp; try with_reducible rfl
                  try simp only [Act.put, List.setIfInBounds_toArray, List.set_cons_zero, List.set_cons_succ]
                  refine takeH 10 (v := ?vcc11) rfl (by kernel_rfl) (by kernel_rfl) (by kernel_rfl) (fun _ _ _ h => h) hH rfl ?ycc11 ?rcc11
                  case ycc11 => intro W hSw; obtain ⟨s1, s2, s3, s4, s5, s6, t2, t3, t4, t5, t6⟩ := hSw; go_simp; try with_reducible rfl
                  try simp only [Act.put, List.setIfInBounds_toArray, List.set_cons_zero, List.set_cons_succ]
                  refine takeH 11 (v := ?vcc12) rfl (by kernel_rfl) (by kernel_rfl) (by kernel_rfl) (fun _ _ _ h => h) hH rfl ?ycc12 ?rcc12
                  case ycc12 => intro W hSw; go_simp; try with_reducible rfl
                  try simp only [Act.put, List.setIfInBounds_toArray, List.set_cons_zero, List.set_cons_succ]
                  refine takeH 12 (v := ?vcc13) rfl (by kernel_rfl) (by kernel_rfl) (by kernel_rfl) (fun _ _ _ h => h) hH rfl ?ycc13 ?rcc13
                  case ycc13 => intro W hSw; go_simp; try with_reducible rfl
                  try simp only [Act.put, List.setIfInBounds_toArray, List.set_cons_zero, List.set_cons_succ]
                  refine takeH 13 (v := ?vcc14) rfl (by kernel_rfl) (by kernel_rfl) (by kernel_rfl) (fun _ _ _ h => h) hH rfl ?ycc14 ?rcc14
                  case ycc14 => intro W hSw; obtain ⟨s1, s2, s3, s4, s5, s6, t2, t3, t4, t5, t6⟩ := hSw; go_simp; try with_reducible rfl
                  try simp only [Act.put, List.setIfInBounds_toArray, List.set_cons_zero, List.set_cons_succ]
                  refine takeH 14 (v := ?vcc15) rfl (by kernel_rfl) (by kernel_rfl) (by kernel_rfl) (fun _ _ _ h => h) hH rfl ?ycc15 ?rcc15
                  case ycc15 => intro W hSw; go_simp; try with_reducible rfl
                  try simp only [Act.put, List.setIfInBounds_toArray, List.set_cons_zero, List.set_cons_succ]
                  refine takeH 15 (v := ?vcc16) rfl (by kernel_rfl) (by kernel_rfl) (by kernel_rfl) (fun _ _ _ h => h) hH rfl ?ycc16 ?rcc16
                  case ycc16 => intro W hSw; obtain ⟨s1, s2, s3, s4, s5, s6, t2, t3, t4, t5, t6⟩ := hSw; go_simp; try with_reducible rfl
                  try simp only [Act.put, List.setIfInBounds_toArray, List.set_cons_zero, List.set_cons_succ]
                  refine takeH 16 (v := ?vcc17) rfl (by kernel_rfl) (by kernel_rfl) (by kernel_rfl) (fun _ _ _ h => h) hH rfl ?ycc17 ?rcc17
                  case ycc17 => intro W hSw; go_simp; try with_reducible rfl
                  try simp only [Act.put, List.setIfInBounds_toArray, List.set_cons_zero, List.set_cons_succ]
                  refine takeH 17 (v := ?vcc18) rfl (by kernel_rfl) (by kernel_rfl) (by kernel_rfl) (fun _ _ _ h => h) hH rfl ?ycc18 ?rcc18
                  case ycc18 => intro W hSw; go_simp; try with_reducible rfl
                  try simp only [Act.put, List.setIfInBounds_toArray, List.set_cons_zero, List.set_cons_succ]
                  refine takeH 18 (v := ?vcc19) rfl (by kernel_rfl) (by kernel_rfl) (by kernel_rfl) (fun _ _ _ h => h) hH rfl ?ycc19 ?rcc19
                  case ycc19 => intro W hSw; go_simp; try with_reducible rfl
                  try simp only [Act.put, List.setIfInBounds_toArray, List.set_cons_zero, List.set_cons_succ]
                  refine takeH 19 (v := ?vcc20) rfl (by kernel_rfl) (by kernel_rfl) (by kernel_rfl) (fun _ _ _ h => h) hH rfl ?ycc20 ?rcc20
                  case ycc20 => intro W hSw; go_simp; try with_reducible rfl
                  try simp only [Act.put, List.setIfInBounds_toArray, List.set_cons_zero, List.set_cons_succ]
                  refine takeH 20 (v := ?vcc21) rfl (by kernel_rfl) (by kernel_rfl) (by kernel_rfl) (fun _ _ _ h => h) hH rfl ?ycc21 ?rcc21
                  case ycc21 => intro W hSw; obtain ⟨s1, s2, s3, s4, s5, s6, t2, t3, t4, t5, t6⟩ := hSw; go_simp; try with_reducible rfl
                  try simp only [Act.put, List.setIfInBounds_toArray, List.set_cons_zero, List.set_cons_succ]
                  refine takeH 21 (v := ?vcc22) rfl (by kernel_rfl) (by kernel_rfl) (by kernel_rfl) (fun _ _ _ h => h) hH rfl ?ycc22 ?rcc22
                  case ycc22 => intro W hSw; go_simp; try with_reducible rfl
                  try simp only [Act.put, List.setIfInBounds_toArray, List.set_cons_zero, List.set_cons_succ]
                  refine takeH 22 (v := ?vcc23) rfl (by kernel_rfl) (by kernel_rfl) (by kernel_rfl) (fun _ _ _ h => h) hH rfl ?ycc23 ?rcc23
                  case ycc23 => intro W hSw; go_simp; try with_reducible rfl
                  try simp only [Act.put, List.setIfInBounds_toArray, List.set_cons_zero, List.set_cons_succ]
                  refine takeH 23 (v := ?vcc24) rfl (by kernel_rfl) (by kernel_rfl) (by kernel_rfl) (fun _ _ _ h => h) hH rfl ?ycc24 ?rcc24
                  case ycc24 => intro W hSw; obtain ⟨s1, s2, s3, s4, s5, s6, t2, t3, t4, t5, t6⟩ := hSw; go_simp; try with_reducible rfl
                  try simp only [Act.put, List.setIfInBounds_toArray, List.set_cons_zero, List.set_cons_succ]
                  refine takeH 24 (v := ?vcc25) rfl (by kernel_rfl) (by kernel_rfl) (by kernel_rfl) (fun _ _ _ h => h) hH rfl ?ycc25 ?rcc25
                  case ycc25 => intro W hSw; go_simp; try with_reducible rfl
                  try simp only [Act.put, List.setIfInBounds_toArray, List.set_cons_zero, List.set_cons_succ]
                  refine takeH 25 (v := ?vcc26) rfl (by kernel_rfl) (by kernel_rfl) (by kernel_rfl) (fun _ _ _ h => h) hH rfl ?ycc26 ?rcc26
                  case ycc26 => intro W hSw; obtain ⟨s1, s2, s3, s4, s5, s6, t2, t3, t4, t5, t6⟩ := hSw; go_simp; try with_reducible rfl
                  try simp only [Act.put, List.setIfInBounds_toArray, List.set_cons_zero, List.set_cons_succ]
                  refine callH 26 rfl (by kernel_rfl) rfl (fun K hK => ?_)
                  go_simp
                  refine (HQ.out _).mono ?_
                  rintro e9 w9 ⟨rfl, hb9⟩
                  have B9 := Lib.hid (below_step (Bk.out.drew) (Bk.out.drew).size hb9)
                  have hlv : w9.cell? ⟨b, off + i, none⟩ = some (.slice (some ⟨Rb i, Ro i, none⟩) ls[i].length cc) ∧ w9.cell? ⟨Rb i, Ro i + a, none⟩ = some (.int .i64 ((x : Nat) : Int)) ∧ w9.cell? ⟨bx, ox + x * 4, none⟩ = some (.int .i64 xf) ∧ w9.cell? ⟨bx, ox + x * 4 + 1, none⟩ = some (.int .i64 xt) ∧ w9.cell? ⟨bx, ox + x * 4 + 2, none⟩ = some (.int .i64 xs') ∧ w9.cell? ⟨bx, ox + x * 4 + 3, none⟩ = some (.int .i64 xe) ∧ w9.cell? ⟨Rb i, Ro i + k, none⟩ = some (.int .i64 ((y : Nat) : Int)) ∧ w9.cell? ⟨bx, ox + y * 4, none⟩ = some (.int .i64 yf) ∧ w9.cell? ⟨bx, ox + y * 4 + 1, none⟩ = some (.int .i64 yt) ∧ w9.cell? ⟨bx, ox + y * 4 + 2, none⟩ = some (.int .i64 ys') ∧ w9.cell? ⟨bx, ox + y * 4 + 3, none⟩ = some (.int .i64 ye) := by
                    obtain ⟨s1, s2, s3, s4, s5, s6, t2, t3, t4, t5, t6⟩ := hH
                    have hbx2 := Nat.lt_of_lt_of_le hbx (Bk.out.drew).size
                    exact ⟨(hb9.cell (p := ⟨b, off + i, none⟩) Lk.out.lb).trans s1, (hb9.cell (p := ⟨Rb i, Ro i + a, none⟩) (Lk.out.lr i hlt)).trans s2, (hb9.cell (p := ⟨bx, ox + x * 4, none⟩) hbx2).trans s3, (hb9.cell (p := ⟨bx, ox + x * 4 + 1, none⟩) hbx2).trans s4, (hb9.cell (p := ⟨bx, ox + x * 4 + 2, none⟩) hbx2).trans s5, (hb9.cell (p := ⟨bx, ox + x * 4 + 3, none⟩) hbx2).trans s6, (hb9.cell (p := ⟨Rb i, Ro i + k, none⟩) (Lk.out.lr i hlt)).trans t2, (hb9.cell (p := ⟨bx, ox + y * 4, none⟩) hbx2).trans t3, (hb9.cell (p := ⟨bx, ox + y * 4 + 1, none⟩) hbx2).trans t4, (hb9.cell (p := ⟨bx, ox + y * 4 + 2, none⟩) hbx2).trans t5, (hb9.cell (p := ⟨bx, ox + y * 4 + 3, none⟩) hbx2).trans t6⟩
                  refine hK.out _ _ hlv (fun hH => ?_)
                  clear hK K hb9
                  try simp only [Act.put, List.setIfInBounds_toArray, List.set_cons_zero, List.set_cons_succ]
                  refine takeH 27 (v := ?vcc27) rfl (by kernel_rfl) (by kernel_rfl) (by kernel_rfl) (fun _ _ _ h => h) hH rfl ?ycc27 ?rcc27
                  case ycc27 => intro W hSw; go_simp; try with_reducible rfl
                  try simp only [Act.put, List.setIfInBounds_toArray, List.set_cons_zero, List.set_cons_succ]
                  refine takeH 28 (v := ?vcc28) rfl (by kernel_rfl) (by kernel_rfl) (by kernel_rfl) (fun _ _ _ h => h) hH rfl ?ycc28 ?rcc28
                  case ycc28 => intro W hSw; go_simp; try with_reducible rfl
                  try simp only [Act.put, List.setIfInBounds_toArray, List.set_cons_zero, List.set_cons_succ]
                  refine takeH 29 (v := ?vcc29) rfl (by kernel_rfl) (by kernel_rfl) (by kernel_rfl) (fun _ _ _ h => h) hH rfl ?ycc29 ?rcc29
                  case ycc29 => intro W hSw; go_simp; try with_reducible rfl
                  try simp only [Act.put, List.setIfInBounds_toArray, List.set_cons_zero, List.set_cons_succ]
                  refine wpAnyH_done (by kernel_rfl) ?_ _
                  try simp only [Act.put]
                  clear hH hci hxa hyb dx0 dx1 dx2 dx3 dy0 dy1 dy2 dy3
                  go_wp2
                  go_roundw
                  case rel => exact ⟨k + 1, by omega, by go_num, by rw [Hfk.out], B9.out⟩
                  case measure => simp [intOf]; omega

theorem fnLanesConnected_own : ownKnob Try.prog.godebug = none := by kernel_rfl
theorem fnLanesConnected_laidOut : laidOutB Try.prog = true := by kernel_rfl

set_option maxRecDepth 8000 in
theorem fnLanesConnected_lifted (os : Os) (started : os.Started) (H : Type) (enc : TypeId × Value → H) :
    ReturnsInHanded {} Try.checked os 6 .any (Rows.fnLanesConnectedSpec.pre6 enc Try.prog Try.f6 Rows.fnLanesConnectedRow.domain false) (Rows.fnLanesConnectedSpec.post enc Try.prog Try.f6 false true false false) := by
  refine law_lifted (C := Try.checked) (tb := 4) fnLanesConnected_own fnLanesConnected_laidOut started (by kernel_rfl) Try.func6 rfl Try.underlying4 rfl (by rw [Try.params6]; exact of_decide_eq_true (by kernel_rfl)) ?_
    (ChangeSpec.witness6 (enc := enc) (C := Try.checked) false ⟨#[], #[.slice none 0 0], []⟩ 8 (by kernel_rfl) (by kernel_rfl) (by kernel_rfl) (by kernel_rfl)) ?_
  · intro ds hds
    rw [Try.params6] at hds
    match ds, hds with
    | [d0], _ => rfl
  · intro W base args ds p hval0 hA0
    have hval : ∀ (j : Nat) t v, Try.f6.params[j]? = some t → args[j]? = some v → Value.okWide Try.prog W .any base t v := hval0
    have hA : DataW.TrodAll enc Try.prog W 0 (fun _ => true) true Try.f6.params.toList args.toList ds p := hA0
    rw [Try.params6] at hA hval
    obtain ⟨v0, vs0, d0, ds0, p0, q0, hargs0, rfl, rfl, h0, r0⟩ := trodAll_cons hA
    obtain ⟨hnil, rfl, rfl⟩ := trodAll_nil r0
    subst hnil
    obtain rfl : args = #[v0] := by cases args; simp_all
    obtain ⟨a0, cap0, zs0, rfl, hk0, hm0, hi0, hw0⟩ := open_slice_ints Try.underlying22 Try.underlying5 (by kernel_rfl) (hval 0 22 v0 rfl rfl) h0
    exact fnLanesConnected_walk a0 cap0 zs0 W hk0 hm0 hi0 hw0

set_option maxRecDepth 8000 in
theorem fnLanesConnected_holds : Rows.FnLanesConnectedSaid :=
  OpenClaim.holds_of_wide 6 Try.f6 rfl rfl rfl rfl rfl rfl rfl ⟨rfl, rfl, rfl, rfl, rfl⟩ rfl rfl rfl rfl rfl (by kernel_rfl) Try.func6 (by kernel_rfl)
    (of_decide_eq_true (by kernel_rfl)) (by unfold Func.isWrapper; first | (rw [if_pos (by decide +kernel)]; kernel_rfl) | (rw [if_neg (by decide +kernel)]; exact ⟨rfl, rfl⟩))
    (fun os started H enc _ => fnLanesConnected_lifted os started H enc)

end Go.Proofs.Ytnjjbplocokdeaa
