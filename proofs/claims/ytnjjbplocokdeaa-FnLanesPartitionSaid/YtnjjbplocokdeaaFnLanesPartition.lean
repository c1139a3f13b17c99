/- Law FnLanesPartition holds for every input; no conditions of our own. -/
import Derived.Test.YtnjjbplocokdeaaRows
import Derived.Test.YtnjjbplocokdeaaBu0
import Derived.Test.YtnjjbplocokdeaaBu1
import Derived.Test.YtnjjbplocokdeaaBu2
import Derived.Test.YtnjjbplocokdeaaBu3
import Derived.Deep.QuietTactic
import Derived.BigQuiet
namespace Go.Proofs.Ytnjjbplocokdeaa
open Go.ChangeShapes Go.WideShapes Go.ChangeAt Go.RowKit

set_option maxRecDepth 8000 in
set_option maxHeartbeats 8000000 in
theorem fnLanesPartition_walk (a : Option Addr) (cap : Nat) (zs : List Int) (w : World) (hk : zs.length ≤ cap) (_hm : zs.length ≤ maxLen) (hi : zs = [] ∨ ∃ b off, a = some ⟨b, off, none⟩ ∧ b < w.heap.size ∧ ∀ j (h : j < zs.length), w.cell? ⟨b, off + j, none⟩ = some (.int .u8 zs[j])) (hw : ∀ z ∈ zs, (Lit.int .u8 z).wf = true) :
    Calls Try.prog 4 #[.slice a zs.length cap] w fun e w' => e = .returned (.bool true) ∧ Below w.heap.size w w' := by
  by_cases hl : 1048576 < zs.length
  · go_enter Try.func4, Try.ntmps4
    go_wp2
    go_ret
    exact ⟨rfl, Below.refl _ _⟩
  have hcode := codeAt_of hk (by omega) hi hw
  have Hcode := Lib.hid hcode; clear hcode hi hw
  go_enter Try.func4, Try.ntmps4
  go_wp2_with fail
  refine (spec_DrawLanesOf a cap zs _ Hcode.out).mono ?_
  rintro e1 w1 ⟨xs, vx, rfl, hx, hx17, hb1⟩
  obtain ⟨av, cv, rfl, hcv⟩ := OwnX.sl (l := xs) hx
  obtain ⟨fx, hT⟩ := OwnX.txs (l := xs) hx
  have hw0 := hb1.size
  have Tx := Lib.hid hT
  have Hb := Lib.hid hb1
  clear hx hT hb1
  have HI := Lib.hid (fun W (h : Txs W xs (.slice av xs.length cv) fx) => impl_LanesOf xs av cv fx W (by omega) h)
  have HS := Lib.hid (fun W (h : Txs W xs (.slice av xs.length cv) fx) => spec_LanesOf xs av cv fx W (by omega) h)
  obtain ⟨hn16, hr16⟩ := lns_small xs
  obtain ⟨ls, hls⟩ : ∃ ls, ls = lnsN xs := ⟨_, rfl⟩
  rw [← hls] at HI HS hn16 hr16
  have Hls := Lib.hid hls; have HR := Lib.hid hr16; clear hls hr16
  go_wp2_with fail
  refine (HI.out _ Tx.out).mono ?_
  rintro e w2 ⟨uo, rfl, ho, hb⟩
  obtain ⟨fo, hn⟩ := ho.lns
  obtain ⟨ao, co, rfl⟩ := hn.slice
  have hn' := Lib.hid hn; clear hn ho
  have Tx := Lib.hid (show Txs w2 (xs) (.slice av xs.length cv) fx from Tx.out.under hb)
  have hsw2 := hb.size
  have Hb := Lib.hid (below_step Hb.out Hb.out.size hb)
  have To := Lib.hid (show Lns w2 ls (.slice ao ls.length co) fo from hn'.out)
  clear hn' hb
  go_wp2_with fail
  refine (HS.out _ Tx.out).mono ?_
  rintro e w3 ⟨uk, rfl, ho, hb⟩
  obtain ⟨fk, hn⟩ := ho.lns
  obtain ⟨ak, ck, rfl⟩ := hn.slice
  have hn' := Lib.hid hn; clear hn ho
  have Tx := Lib.hid (show Txs w3 (xs) (.slice av xs.length cv) fx from Tx.out.under hb)
  have To := Lib.hid (show Lns w3 (ls) (.slice ao ls.length co) fo from To.out.under hb)
  have hsw3 := hb.size
  have Hb := Lib.hid (below_step Hb.out Hb.out.size hb)
  have Tk := Lib.hid (show Lns w3 ls (.slice ak ls.length ck) fk from hn'.out)
  clear hn' hb
  clear HI HS
  have HQ := Lib.hid (fun W h h' => laws_sameLanes ls ao ak co ck fo fk W (by omega) (fun l hl => by have := HR.out l hl; omega) h h')
  go_wp2_with fail
  refine (HQ.out _ To.out Tk.out).mono ?_
  rintro e w4 ⟨rfl, hb⟩
  have Tx := Lib.hid (show Txs w4 (xs) (.slice av xs.length cv) fx from Tx.out.under hb)
  have To := Lib.hid (show Lns w4 (ls) (.slice ao ls.length co) fo from To.out.under hb)
  have Tk := Lib.hid (show Lns w4 (ls) (.slice ak ls.length ck) fk from Tk.out.under hb)
  have hsw4 := hb.size
  have Hb := Lib.hid (below_step Hb.out Hb.out.size hb)
  clear hb
  by_cases h0 : ls.length = 0
  case pos =>
    have hz : ((ls.length : Int) == 0) = true := by rw [beq_iff_eq]; omega
    clear h0
    go_wp2_with fail
    refine (HQ.out _ To.out Tk.out).mono ?_
    rintro e w5 ⟨rfl, hb⟩
    have Tx := Lib.hid (show Txs w5 (xs) (.slice av xs.length cv) fx from Tx.out.under hb)
    have To := Lib.hid (show Lns w5 (ls) (.slice ao ls.length co) fo from To.out.under hb)
    have Tk := Lib.hid (show Lns w5 (ls) (.slice ak ls.length ck) fk from Tk.out.under hb)
    have hsw5 := hb.size
    have Hb := Lib.hid (below_step Hb.out Hb.out.size hb)
    clear hb
    go_wp2
    go_ret
    exact ⟨by first | rfl | exact ret_bool (by simp) | exact ret_bool (by simp; omega), Hb.out⟩
  have hz : ((ls.length : Int) == 0) = false := by rw [beq_eq_false_iff_ne]; omega
  replace h0 : 0 < ls.length := by omega
  obtain ⟨hv, hpl⟩ := plw_of Hls.out h0
  have PL := Lib.hid hpl
  obtain ⟨b, off, P, Rb, Ro, rfl, hlr⟩ := lns_rd To.out h0 hpl.pos
  have LR := Lib.hid hlr
  have hx16 := vld_len hv
  clear hpl hlr
  clear HQ
  go_wp2
  clear hz
  go_loopw [6, 7] (fun s i wr => ∃ k : Nat, k ≤ ls.length ∧ i = .int .i64 k ∧ s = .int .i64 (sumT ls k : Nat) ∧ Drawn w4 wr) (fun _ i _ => ls.length - (intOf i).toNat)
  case atStart => exact ⟨0, Nat.zero_le _, rfl, rfl, Drawn.refl _⟩
  case round =>
    obtain ⟨i, hi, rfl, rfl, hwr⟩ := hrel
    by_cases hlt : i < ls.length
    case neg =>
      have hlt' : ¬ (i : Int) < (ls.length : Int) := by omega
      have hie : i = ls.length := by omega
      subst hie
      have hq : (((sumT ls ls.length : Nat) : Int) == (xs.length : Int)) = true := by rw [beq_iff_eq, PL.out.sum]
      go_wp2
      go_ret
      exact ⟨rfl, below_step Hb.out Hb.out.size (hwr.below _)⟩
    case pos =>
      have hlt' : (i : Int) < (ls.length : Int) := by omega
      have LW := Lib.hid (LR.out.below (hwr.below _))
      have hpos := PL.out.pos i hlt
      have hn16 : ls[i].length ≤ 16 := HR.out _ (List.getElem_mem hlt)
      have Hsum := Lib.hid (sumT_step hlt)
      have hsl := sumT_le ls i
      rw [PL.out.sum] at hsl
      have hw1 : IntKind.i64.wrap (((sumT ls i : Nat) : Int) + (ls[i].length : Int)) = ((sumT ls (i + 1) : Nat) : Int) := by rw [IntWalk.i64_in _ (by omega), Hsum.out]; omega
      have hne : ((ls[i].length : Int) == 0) = false := by rw [beq_eq_false_iff_ne]; omega
      have hpos' : (0 : Int) < (ls[i].length : Int) := by omega
      have hci := (LW.out.row i hlt).1
      obtain ⟨cc, hP⟩ := (LW.out.row i hlt).2
      rw [hP] at hci
      have hx0 := LW.out.cell i hlt 0 hpos
      rw [Nat.add_zero] at hx0
      have HC := Lib.hid (fun j hj => LW.out.cell i hlt j hj)
      have HLT := Lib.hid (fun j hj => PL.out.lt i hlt j hj)
      have HUP := Lib.hid (fun j hj h => PL.out.up i hlt j hj h)
      clear hP hsl Hsum
      have hWr := Lib.hid hwr
      by_cases hi0 : i = 0
      case pos =>
        have hgd : decide ((0 : Int) < (i : Int)) = false := decide_eq_false (by omega)
        have hgd' : ¬ (0 : Int) < (i : Int) := by omega
        clear hi0
        go_wp2_with fail
        refine wp_region_held_drew (S := fun W => W.cell? ⟨b, off + i, none⟩ = some (.slice (some ⟨Rb i, Ro i, none⟩) ls[i].length cc)) (by kernel_rfl) hci (fun hH => ?_)
        refine takeH 0 (v := ?vra1) rfl (by kernel_rfl) (by kernel_rfl) (by kernel_rfl) (fun _ _ _ h => h) hH rfl ?yra1 ?rra1
        case yra1 => intro W hSw; go_simp; try with_reducible rfl
        try simp only [Act.put, List.setIfInBounds_toArray, List.set_cons_zero, List.set_cons_succ]
        refine takeH 1 (v := ?vra2) rfl (by kernel_rfl) (by kernel_rfl) (by kernel_rfl) (fun _ _ _ h => h) hH rfl ?yra2 ?rra2
        case yra2 => intro W hSw; go_simp; try with_reducible rfl
        try simp only [Act.put, List.setIfInBounds_toArray, List.set_cons_zero, List.set_cons_succ]
        refine takeH 2 (v := ?vra3) rfl (by kernel_rfl) (by kernel_rfl) (by kernel_rfl) (fun _ _ _ h => h) hH rfl ?yra3 ?rra3
        case yra3 => intro W hSw; go_simp; try with_reducible rfl
        try simp only [Act.put, List.setIfInBounds_toArray, List.set_cons_zero, List.set_cons_succ]
        refine takeH 3 (v := ?vra4) rfl (by kernel_rfl) (by kernel_rfl) (by kernel_rfl) (fun _ _ _ h => h) hH rfl ?yra4 ?rra4
        case yra4 => intro W hSw; go_simp; try with_reducible rfl
        try simp only [Act.put, List.setIfInBounds_toArray, List.set_cons_zero, List.set_cons_succ]
        refine takeH 4 (v := ?vra5) rfl (by kernel_rfl) (by kernel_rfl) (by kernel_rfl) (fun _ _ _ h => h) hH rfl ?yra5 ?rra5
        case yra5 => intro W hSw; go_simp; try with_reducible rfl
        try simp only [Act.put, List.setIfInBounds_toArray, List.set_cons_zero, List.set_cons_succ]
        refine takeH 5 (v := .bool false) rfl (by kernel_rfl) (by kernel_rfl) (by kernel_rfl) (fun _ _ _ h => h) hH rfl ?yra6 ?rra6
        case yra6 => intro W hSw; go_simp; first | done | simp only [hne] | omega | (simp; omega)
        try simp only [Act.put, List.setIfInBounds_toArray, List.set_cons_zero, List.set_cons_succ]
        refine takeH 6 (v := ?vra7) rfl (by kernel_rfl) (by kernel_rfl) (by kernel_rfl) (fun _ _ _ h => h) hH rfl ?yra7 ?rra7
        case yra7 => intro W hSw; go_simp; try with_reducible rfl
        try simp only [Act.put, List.setIfInBounds_toArray, List.set_cons_zero, List.set_cons_succ]
        refine takeH 7 (v := ?vra8) rfl (by kernel_rfl) (by kernel_rfl) (by kernel_rfl) (fun _ _ _ h => h) hH rfl ?yra8 ?rra8
        case yra8 => intro W hSw; go_simp; try with_reducible rfl
        try simp only [Act.put, List.setIfInBounds_toArray, List.set_cons_zero, List.set_cons_succ]
        refine takeH 8 (v := .bool false) rfl (by kernel_rfl) (by kernel_rfl) (by kernel_rfl) (fun _ _ _ h => h) hH rfl ?yra9 ?rra9
        case yra9 => intro W hSw; go_simp; first | done | simp only [hgd] | omega | (simp; omega)
        try simp only [Act.put, List.setIfInBounds_toArray, List.set_cons_zero, List.set_cons_succ]
        refine takeH 9 (v := ?vra10) rfl (by kernel_rfl) (by kernel_rfl) (by kernel_rfl) (fun _ _ _ h => h) hH rfl ?yra10 ?rra10
        case yra10 => intro W hSw; go_simp; try with_reducible rfl
        try simp only [Act.put, List.setIfInBounds_toArray, List.set_cons_zero, List.set_cons_succ]
        refine skipH 10 rfl (by kernel_rfl) (by kernel_rfl) (by kernel_rfl) (fun _ _ _ h => h) hH rfl ?_
        try simp only [Act.put, List.setIfInBounds_toArray, List.set_cons_zero, List.set_cons_succ]
        refine skipH 11 rfl (by kernel_rfl) (by kernel_rfl) (by kernel_rfl) (fun _ _ _ h => h) hH rfl ?_
        try simp only [Act.put, List.setIfInBounds_toArray, List.set_cons_zero, List.set_cons_succ]
        refine skipH 12 rfl (by kernel_rfl) (by kernel_rfl) (by kernel_rfl) (fun _ _ _ h => h) hH rfl ?_
        try simp only [Act.put, List.setIfInBounds_toArray, List.set_cons_zero, List.set_cons_succ]
        refine skipH 13 rfl (by kernel_rfl) (by kernel_rfl) (by kernel_rfl) (fun _ _ _ h => h) hH rfl ?_
        try simp only [Act.put, List.setIfInBounds_toArray, List.set_cons_zero, List.set_cons_succ]
        refine skipH 14 rfl (by kernel_rfl) (by kernel_rfl) (by kernel_rfl) (fun _ _ _ h => h) hH rfl ?_
        try simp only [Act.put, List.setIfInBounds_toArray, List.set_cons_zero, List.set_cons_succ]
        refine skipH 15 rfl (by kernel_rfl) (by kernel_rfl) (by kernel_rfl) (fun _ _ _ h => h) hH rfl ?_
        try simp only [Act.put, List.setIfInBounds_toArray, List.set_cons_zero, List.set_cons_succ]
        refine skipH 16 rfl (by kernel_rfl) (by kernel_rfl) (by kernel_rfl) (fun _ _ _ h => h) hH rfl ?_
        try simp only [Act.put, List.setIfInBounds_toArray, List.set_cons_zero, List.set_cons_succ]
        refine skipH 17 rfl (by kernel_rfl) (by kernel_rfl) (by kernel_rfl) (fun _ _ _ h => h) hH rfl ?_
        try simp only [Act.put, List.setIfInBounds_toArray, List.set_cons_zero, List.set_cons_succ]
        refine skipH 18 rfl (by kernel_rfl) (by kernel_rfl) (by kernel_rfl) (fun _ _ _ h => h) hH rfl ?_
        try simp only [Act.put, List.setIfInBounds_toArray, List.set_cons_zero, List.set_cons_succ]
        refine skipH 19 rfl (by kernel_rfl) (by kernel_rfl) (by kernel_rfl) (fun _ _ _ h => h) hH rfl ?_
        try simp only [Act.put, List.setIfInBounds_toArray, List.set_cons_zero, List.set_cons_succ]
        refine skipH 20 rfl (by kernel_rfl) (by kernel_rfl) (by kernel_rfl) (fun _ _ _ h => h) hH rfl ?_
        try simp only [Act.put, List.setIfInBounds_toArray, List.set_cons_zero, List.set_cons_succ]
        refine skipH 21 rfl (by kernel_rfl) (by kernel_rfl) (by kernel_rfl) (fun _ _ _ h => h) hH rfl ?_
        try simp only [Act.put, List.setIfInBounds_toArray, List.set_cons_zero, List.set_cons_succ]
        refine skipH 22 rfl (by kernel_rfl) (by kernel_rfl) (by kernel_rfl) (fun _ _ _ h => h) hH rfl ?_
        try simp only [Act.put, List.setIfInBounds_toArray, List.set_cons_zero, List.set_cons_succ]
        refine skipH 23 rfl (by kernel_rfl) (by kernel_rfl) (by kernel_rfl) (fun _ _ _ h => h) hH rfl ?_
        try simp only [Act.put, List.setIfInBounds_toArray, List.set_cons_zero, List.set_cons_succ]
        refine takeH 24 (v := ?vra11) rfl (by kernel_rfl) (by kernel_rfl) (by kernel_rfl) (fun _ _ _ h => h) hH rfl ?yra11 ?rra11
        case yra11 => intro W hSw; go_simp; try with_reducible rfl
        try simp only [Act.put, List.setIfInBounds_toArray, List.set_cons_zero, List.set_cons_succ]
        refine takeH 25 (v := ?vra12) rfl (by kernel_rfl) (by kernel_rfl) (by kernel_rfl) (fun _ _ _ h => h) hH rfl ?yra12 ?rra12
        case yra12 => intro W hSw; go_simp; try with_reducible rfl
        try simp only [Act.put, List.setIfInBounds_toArray, List.set_cons_zero, List.set_cons_succ]
        refine wpAnyH_done (by kernel_rfl) ?_ _
        try simp only [Act.put]
        have hWr2 := Lib.hid (show Drawn w4 wr.drew from hWr.out.drewN 1)
        replace hci : wr.drew.cell? ⟨b, off + i, none⟩ = some (.slice (some ⟨Rb i, Ro i, none⟩) ls[i].length cc) := hci
        have HX := Lib.hid (show ∀ j (hj : j < ls[i].length), wr.drew.cell? ⟨Rb i, Ro i + j, none⟩ = some (.int .i64 ((ls[i][j] : Nat) : Int)) from HC.out)
        clear hH hx0 hwr HC hgd hgd'
        generalize wr.drew = W8 at *
        skip
        go_wp2
        go_loopw [8] (fun q wr2 => ∃ k : Nat, k ≤ ls[i].length ∧ q = .int .i64 k ∧ Drawn W8 wr2) (fun q _ => ls[i].length - (intOf q).toNat)
        case atStart => exact ⟨0, Nat.zero_le _, rfl, Drawn.refl _⟩
        case round =>
          obtain ⟨k, hk, rfl, hw2⟩ := hrel
          have hci2 := (hw2.cell _).trans hci
          by_cases hkt : k < ls[i].length
          case neg =>
            have hkt' : ¬ (k : Int) < (ls[i].length : Int) := by omega
            have Hw2 := Lib.hid (hWr2.out.trans hw2)
            clear hw2 HLT HUP HX hci hkt hk
            generalize ls[i].length = nn at *
            go_wp2
            go_roundw
            case rel => exact ⟨i + 1, by omega, by go_num, by first | rfl | trivial, Hw2.out⟩
            case measure => simp [intOf]; omega
          case pos =>
            have hkt' : (k : Int) < (ls[i].length : Int) := by omega
            have hxk := (hw2.cell _).trans (HX.out k hkt)
            have hlk := HLT.out k hkt
            have hge : decide ((xs.length : Int) ≤ ((ls[i][k] : Nat) : Int)) = false := decide_eq_false (by omega)
            have Hw2 := Lib.hid (hw2.drewN 1)
            clear hw2
            by_cases hk0 : k = 0
            case pos =>
              have hgd : decide ((0 : Int) < (k : Int)) = false := decide_eq_false (by omega)
              have hgd' : ¬ (0 : Int) < (k : Int) := by omega
              clear hk0 HLT HUP HX hci
              generalize ls[i][k] = x at *
              generalize ls[i].length = nn at *
              go_wp2_with fail
              refine wp_region_held_drew (S := fun W => W.cell? ⟨b, off + i, none⟩ = some (.slice (some ⟨Rb i, Ro i, none⟩) nn cc) ∧ W.cell? ⟨Rb i, Ro i + k, none⟩ = some (.int .i64 ((x : Nat) : Int))) (by kernel_rfl) ⟨hci2, hxk⟩ (fun hH => ?_)
              refine takeH 0 (v := ?vu0a1) rfl (by kernel_rfl) (by kernel_rfl) (by kernel_rfl) (fun _ _ _ h => h) hH rfl ?yu0a1 ?ru0a1
              case yu0a1 => intro W hSw; go_simp; try with_reducible rfl
              try simp only [Act.put, List.setIfInBounds_toArray, List.set_cons_zero, List.set_cons_succ]
              refine takeH 1 (v := ?vu0a2) rfl (by kernel_rfl) (by kernel_rfl) (by kernel_rfl) (fun _ _ _ h => h) hH rfl ?yu0a2 ?ru0a2
              case yu0a2 => intro W hSw; go_simp; try with_reducible rfl
              try simp only [Act.put, List.setIfInBounds_toArray, List.set_cons_zero, List.set_cons_succ]
              refine takeH 2 (v := ?vu0a3) rfl (by kernel_rfl) (by kernel_rfl) (by kernel_rfl) (fun _ _ _ h => h) hH rfl ?yu0a3 ?ru0a3
              case yu0a3 => intro W hSw; go_simp; try with_reducible rfl
              try simp only [Act.put, List.setIfInBounds_toArray, List.set_cons_zero, List.set_cons_succ]
              refine takeH 3 (v := ?vu0a4) rfl (by kernel_rfl) (by kernel_rfl) (by kernel_rfl) (fun _ _ _ h => h) hH rfl ?yu0a4 ?ru0a4
              case yu0a4 => intro W hSw; have hS1 := hSw.1; have hS2 := hSw.2; go_simp; try with_reducible rfl
              try simp only [Act.put, List.setIfInBounds_toArray, List.set_cons_zero, List.set_cons_succ]
              refine takeH 4 (v := ?vu0a5) rfl (by kernel_rfl) (by kernel_rfl) (by kernel_rfl) (fun _ _ _ h => h) hH rfl ?yu0a5 ?ru0a5
              case yu0a5 => intro W hSw; go_simp; try with_reducible rfl
              try simp only [Act.put, List.setIfInBounds_toArray, List.set_cons_zero, List.set_cons_succ]
              refine takeH 5 (v := ?vu0a6) rfl (by kernel_rfl) (by kernel_rfl) (by kernel_rfl) (fun _ _ _ h => h) hH rfl ?yu0a6 ?ru0a6
              case yu0a6 => intro W hSw; go_simp; try with_reducible rfl
              try simp only [Act.put, List.setIfInBounds_toArray, List.set_cons_zero, List.set_cons_succ]
              refine takeH 6 (v := ?vu0a7) rfl (by kernel_rfl) (by kernel_rfl) (by kernel_rfl) (fun _ _ _ h => h) hH rfl ?yu0a7 ?ru0a7
              case yu0a7 => intro W hSw; have hS1 := hSw.1; have hS2 := hSw.2; go_simp; try with_reducible rfl
              try simp only [Act.put, List.setIfInBounds_toArray, List.set_cons_zero, List.set_cons_succ]
              refine takeH 7 (v := ?vu0a8) rfl (by kernel_rfl) (by kernel_rfl) (by kernel_rfl) (fun _ _ _ h => h) hH rfl ?yu0a8 ?ru0a8
              case yu0a8 => intro W hSw; go_simp; try with_reducible rfl
              try simp only [Act.put, List.setIfInBounds_toArray, List.set_cons_zero, List.set_cons_succ]
              refine takeH 8 (v := ?vu0a9) rfl (by kernel_rfl) (by kernel_rfl) (by kernel_rfl) (fun _ _ _ h => h) hH rfl ?yu0a9 ?ru0a9
              case yu0a9 => intro W hSw; go_simp; try with_reducible rfl
              try simp only [Act.put, List.setIfInBounds_toArray, List.set_cons_zero, List.set_cons_succ]
              refine takeH 9 (v := .bool false) rfl (by kernel_rfl) (by kernel_rfl) (by kernel_rfl) (fun _ _ _ h => h) hH rfl ?yu0a10 ?ru0a10
              case yu0a10 => intro W hSw; go_simp; first | done | simp only [hge] | omega | (simp; omega)
              try simp only [Act.put, List.setIfInBounds_toArray, List.set_cons_zero, List.set_cons_succ]
              refine takeH 10 (v := ?vu0a11) rfl (by kernel_rfl) (by kernel_rfl) (by kernel_rfl) (fun _ _ _ h => h) hH rfl ?yu0a11 ?ru0a11
              case yu0a11 => intro W hSw; go_simp; try with_reducible rfl
              try simp only [Act.put, List.setIfInBounds_toArray, List.set_cons_zero, List.set_cons_succ]
              refine takeH 11 (v := ?vu0a12) rfl (by kernel_rfl) (by kernel_rfl) (by kernel_rfl) (fun _ _ _ h => h) hH rfl ?yu0a12 ?ru0a12
              case yu0a12 => intro W hSw; go_simp; try with_reducible rfl
              try simp only [Act.put, List.setIfInBounds_toArray, List.set_cons_zero, List.set_cons_succ]
              refine takeH 12 (v := .bool false) rfl (by kernel_rfl) (by kernel_rfl) (by kernel_rfl) (fun _ _ _ h => h) hH rfl ?yu0a13 ?ru0a13
              case yu0a13 => intro W hSw; go_simp; first | done | simp only [hgd] | omega | (simp; omega)
              try simp only [Act.put, List.setIfInBounds_toArray, List.set_cons_zero, List.set_cons_succ]
              refine takeH 13 (v := ?vu0a14) rfl (by kernel_rfl) (by kernel_rfl) (by kernel_rfl) (fun _ _ _ h => h) hH rfl ?yu0a14 ?ru0a14
              case yu0a14 => intro W hSw; go_simp; try with_reducible rfl
              try simp only [Act.put, List.setIfInBounds_toArray, List.set_cons_zero, List.set_cons_succ]
              refine skipH 14 rfl (by kernel_rfl) (by kernel_rfl) (by kernel_rfl) (fun _ _ _ h => h) hH rfl ?_
              try simp only [Act.put, List.setIfInBounds_toArray, List.set_cons_zero, List.set_cons_succ]
              refine skipH 15 rfl (by kernel_rfl) (by kernel_rfl) (by kernel_rfl) (fun _ _ _ h => h) hH rfl ?_
              try simp only [Act.put, List.setIfInBounds_toArray, List.set_cons_zero, List.set_cons_succ]
              refine skipH 16 rfl (by kernel_rfl) (by kernel_rfl) (by kernel_rfl) (fun _ _ _ h => h) hH rfl ?_
              try simp only [Act.put, List.setIfInBounds_toArray, List.set_cons_zero, List.set_cons_succ]
              refine skipH 17 rfl (by kernel_rfl) (by kernel_rfl) (by kernel_rfl) (fun _ _ _ h => h) hH rfl ?_
              try simp only [Act.put, List.setIfInBounds_toArray, List.set_cons_zero, List.set_cons_succ]
              refine skipH 18 rfl (by kernel_rfl) (by kernel_rfl) (by kernel_rfl) (fun _ _ _ h => h) hH rfl ?_
              try simp only [Act.put, List.setIfInBounds_toArray, List.set_cons_zero, List.set_cons_succ]
              refine skipH 19 rfl (by kernel_rfl) (by kernel_rfl) (by kernel_rfl) (fun _ _ _ h => h) hH rfl ?_
              try simp only [Act.put, List.setIfInBounds_toArray, List.set_cons_zero, List.set_cons_succ]
              refine skipH 20 rfl (by kernel_rfl) (by kernel_rfl) (by kernel_rfl) (fun _ _ _ h => h) hH rfl ?_
              try simp only [Act.put, List.setIfInBounds_toArray, List.set_cons_zero, List.set_cons_succ]
              refine skipH 21 rfl (by kernel_rfl) (by kernel_rfl) (by kernel_rfl) (fun _ _ _ h => h) hH rfl ?_
              try simp only [Act.put, List.setIfInBounds_toArray, List.set_cons_zero, List.set_cons_succ]
              refine skipH 22 rfl (by kernel_rfl) (by kernel_rfl) (by kernel_rfl) (fun _ _ _ h => h) hH rfl ?_
              try simp only [Act.put, List.setIfInBounds_toArray, List.set_cons_zero, List.set_cons_succ]
              refine skipH 23 rfl (by kernel_rfl) (by kernel_rfl) (by kernel_rfl) (fun _ _ _ h => h) hH rfl ?_
              try simp only [Act.put, List.setIfInBounds_toArray, List.set_cons_zero, List.set_cons_succ]
              refine skipH 24 rfl (by kernel_rfl) (by kernel_rfl) (by kernel_rfl) (fun _ _ _ h => h) hH rfl ?_
              try simp only [Act.put, List.setIfInBounds_toArray, List.set_cons_zero, List.set_cons_succ]
              refine skipH 25 rfl (by kernel_rfl) (by kernel_rfl) (by kernel_rfl) (fun _ _ _ h => h) hH rfl ?_
              try simp only [Act.put, List.setIfInBounds_toArray, List.set_cons_zero, List.set_cons_succ]
              refine skipH 26 rfl (by kernel_rfl) (by kernel_rfl) (by kernel_rfl) (fun _ _ _ h => h) hH rfl ?_
              try simp only [Act.put, List.setIfInBounds_toArray, List.set_cons_zero, List.set_cons_succ]
              refine skipH 27 rfl (by kernel_rfl) (by kernel_rfl) (by kernel_rfl) (fun _ _ _ h => h) hH rfl ?_
              try simp only [Act.put, List.setIfInBounds_toArray, List.set_cons_zero, List.set_cons_succ]
              refine skipH 28 rfl (by kernel_rfl) (by kernel_rfl) (by kernel_rfl) (fun _ _ _ h => h) hH rfl ?_
              try simp only [Act.put, List.setIfInBounds_toArray, List.set_cons_zero, List.set_cons_succ]
              refine skipH 29 rfl (by kernel_rfl) (by kernel_rfl) (by kernel_rfl) (fun _ _ _ h => h) hH rfl ?_
              try simp only [Act.put, List.setIfInBounds_toArray, List.set_cons_zero, List.set_cons_succ]
              refine takeH 30 (v := ?vu0a15) rfl (by kernel_rfl) (by kernel_rfl) (by kernel_rfl) (fun _ _ _ h => h) hH rfl ?yu0a15 ?ru0a15
              case yu0a15 => intro W hSw; go_simp; try with_reducible rfl
              try simp only [Act.put, List.setIfInBounds_toArray, List.set_cons_zero, List.set_cons_succ]
              refine takeH 31 (v := ?vu0a16) rfl (by kernel_rfl) (by kernel_rfl) (by kernel_rfl) (fun _ _ _ h => h) hH rfl ?yu0a16 ?ru0a16
              case yu0a16 => intro W hSw; go_simp; try with_reducible rfl
              try simp only [Act.put, List.setIfInBounds_toArray, List.set_cons_zero, List.set_cons_succ]
              refine wpAnyH_done (by kernel_rfl) ?_ _
              try simp only [Act.put]
              clear hH
              go_wp2
              go_roundw
              case rel => exact ⟨k + 1, by omega, by go_num, Hw2.out⟩
              case measure => simp [intOf]; omega
            case neg =>
              have hxp := (Hw2.out.cell _).trans (HX.out (k - 1) (by omega))
              have hup := HUP.out k hkt (by omega)
              have hgd : decide ((0 : Int) < (k : Int)) = true := decide_eq_true (by omega)
              have hgd' : (0 : Int) < (k : Int) := by omega
              have e1 : IntKind.i64.wrap ((k : Int) - 1) = k - 1 := IntWalk.i64_in _ (by omega)
              have e2 : ((k : Int) - 1).toNat = k - 1 := by omega
              have e3 : 0 ≤ (k : Int) - 1 := by omega
              have e4 : (k : Int) - 1 < (ls[i].length : Int) := by omega
              have e5 : 1 ≤ (k : Int) := by omega
              have hgq : decide (((ls[i][k] : Nat) : Int) ≤ ((ls[i][k - 1] : Nat) : Int)) = false := decide_eq_false (by omega)
              clear HLT HUP HX hci
              generalize ls[i][k] = x at *
              generalize ls[i][k - 1] = y at *
              generalize ls[i].length = nn at *
              go_wp2_with fail
              refine wp_region_held_drew (S := fun W => W.cell? ⟨b, off + i, none⟩ = some (.slice (some ⟨Rb i, Ro i, none⟩) nn cc) ∧ W.cell? ⟨Rb i, Ro i + k, none⟩ = some (.int .i64 ((x : Nat) : Int)) ∧ W.cell? ⟨Rb i, Ro i + (k - 1), none⟩ = some (.int .i64 ((y : Nat) : Int))) (by kernel_rfl) ⟨hci2, hxk, hxp⟩ (fun hH => ?_)
              refine takeH 0 (v := ?vu0b1) rfl (by kernel_rfl) (by kernel_rfl) (by kernel_rfl) (fun _ _ _ h => h) hH rfl ?yu0b1 ?ru0b1
              case yu0b1 => intro W hSw; go_simp; try with_reducible rfl
              try simp only [Act.put, List.setIfInBounds_toArray, List.set_cons_zero, List.set_cons_succ]
              refine takeH 1 (v := ?vu0b2) rfl (by kernel_rfl) (by kernel_rfl) (by kernel_rfl) (fun _ _ _ h => h) hH rfl ?yu0b2 ?ru0b2
              case yu0b2 => intro W hSw; go_simp; try with_reducible rfl
              try simp only [Act.put, List.setIfInBounds_toArray, List.set_cons_zero, List.set_cons_succ]
              refine takeH 2 (v := ?vu0b3) rfl (by kernel_rfl) (by kernel_rfl) (by kernel_rfl) (fun _ _ _ h => h) hH rfl ?yu0b3 ?ru0b3
              case yu0b3 => intro W hSw; go_simp; try with_reducible rfl
              try simp only [Act.put, List.setIfInBounds_toArray, List.set_cons_zero, List.set_cons_succ]
              refine takeH 3 (v := ?vu0b4) rfl (by kernel_rfl) (by kernel_rfl) (by kernel_rfl) (fun _ _ _ h => h) hH rfl ?yu0b4 ?ru0b4
              case yu0b4 => intro W hSw; have hS1 := hSw.1; have hS2 := hSw.2.1; have hS3 := hSw.2.2; go_simp; try with_reducible rfl
              try simp only [Act.put, List.setIfInBounds_toArray, List.set_cons_zero, List.set_cons_succ]
              refine takeH 4 (v := ?vu0b5) rfl (by kernel_rfl) (by kernel_rfl) (by kernel_rfl) (fun _ _ _ h => h) hH rfl ?yu0b5 ?ru0b5
              case yu0b5 => intro W hSw; go_simp; try with_reducible rfl
              try simp only [Act.put, List.setIfInBounds_toArray, List.set_cons_zero, List.set_cons_succ]
              refine takeH 5 (v := ?vu0b6) rfl (by kernel_rfl) (by kernel_rfl) (by kernel_rfl) (fun _ _ _ h => h) hH rfl ?yu0b6 ?ru0b6
              case yu0b6 => intro W hSw; go_simp; try with_reducible rfl
              try simp only [Act.put, List.setIfInBounds_toArray, List.set_cons_zero, List.set_cons_succ]
              refine takeH 6 (v := ?vu0b7) rfl (by kernel_rfl) (by kernel_rfl) (by kernel_rfl) (fun _ _ _ h => h) hH rfl ?yu0b7 ?ru0b7
              case yu0b7 => intro W hSw; have hS1 := hSw.1; have hS2 := hSw.2.1; have hS3 := hSw.2.2; go_simp; try with_reducible rfl
              try simp only [Act.put, List.setIfInBounds_toArray, List.set_cons_zero, List.set_cons_succ]
              refine takeH 7 (v := ?vu0b8) rfl (by kernel_rfl) (by kernel_rfl) (by kernel_rfl) (fun _ _ _ h => h) hH rfl ?yu0b8 ?ru0b8
              case yu0b8 => intro W hSw; go_simp; try with_reducible rfl
              try simp only [Act.put, List.setIfInBounds_toArray, List.set_cons_zero, List.set_cons_succ]
              refine takeH 8 (v := ?vu0b9) rfl (by kernel_rfl) (by kernel_rfl) (by kernel_rfl) (fun _ _ _ h => h) hH rfl ?yu0b9 ?ru0b9
              case yu0b9 => intro W hSw; go_simp; try with_reducible rfl
              try simp only [Act.put, List.setIfInBounds_toArray, List.set_cons_zero, List.set_cons_succ]
              refine takeH 9 (v := .bool false) rfl (by kernel_rfl) (by kernel_rfl) (by kernel_rfl) (fun _ _ _ h => h) hH rfl ?yu0b10 ?ru0b10
              case yu0b10 => intro W hSw; go_simp; first | done | simp only [hge] | omega | (simp; omega)
              try simp only [Act.put, List.setIfInBounds_toArray, List.set_cons_zero, List.set_cons_succ]
              refine takeH 10 (v := ?vu0b11) rfl (by kernel_rfl) (by kernel_rfl) (by kernel_rfl) (fun _ _ _ h => h) hH rfl ?yu0b11 ?ru0b11
              case yu0b11 => intro W hSw; go_simp; try with_reducible rfl
              try simp only [Act.put, List.setIfInBounds_toArray, List.set_cons_zero, List.set_cons_succ]
              refine takeH 11 (v := ?vu0b12) rfl (by kernel_rfl) (by kernel_rfl) (by kernel_rfl) (fun _ _ _ h => h) hH rfl ?yu0b12 ?ru0b12
              case yu0b12 => intro W hSw; go_simp; try with_reducible rfl
              try simp only [Act.put, List.setIfInBounds_toArray, List.set_cons_zero, List.set_cons_succ]
              refine takeH 12 (v := .bool true) rfl (by kernel_rfl) (by kernel_rfl) (by kernel_rfl) (fun _ _ _ h => h) hH rfl ?yu0b13 ?ru0b13
              case yu0b13 => intro W hSw; go_simp; first | done | simp only [hgd] | omega | (simp; omega)
              try simp only [Act.put, List.setIfInBounds_toArray, List.set_cons_zero, List.set_cons_succ]
              refine takeH 13 (v := ?vu0b14) rfl (by kernel_rfl) (by kernel_rfl) (by kernel_rfl) (fun _ _ _ h => h) hH rfl ?yu0b14 ?ru0b14
              case yu0b14 => intro W hSw; go_simp; try with_reducible rfl
              try simp only [Act.put, List.setIfInBounds_toArray, List.set_cons_zero, List.set_cons_succ]
              refine takeH 14 (v := ?vu0b15) rfl (by kernel_rfl) (by kernel_rfl) (by kernel_rfl) (fun _ _ _ h => h) hH rfl ?yu0b15 ?ru0b15
              case yu0b15 => intro W hSw; go_simp; try with_reducible rfl
              try simp only [Act.put, List.setIfInBounds_toArray, List.set_cons_zero, List.set_cons_succ]
              refine takeH 15 (v := ?vu0b16) rfl (by kernel_rfl) (by kernel_rfl) (by kernel_rfl) (fun _ _ _ h => h) hH rfl ?yu0b16 ?ru0b16
              case yu0b16 => intro W hSw; go_simp; try with_reducible rfl
              try simp only [Act.put, List.setIfInBounds_toArray, List.set_cons_zero, List.set_cons_succ]
              refine takeH 16 (v := ?vu0b17) rfl (by kernel_rfl) (by kernel_rfl) (by kernel_rfl) (fun _ _ _ h => h) hH rfl ?yu0b17 ?ru0b17
              case yu0b17 => intro W hSw; go_simp; try with_reducible rfl
              try simp only [Act.put, List.setIfInBounds_toArray, List.set_cons_zero, List.set_cons_succ]
              refine takeH 17 (v := ?vu0b18) rfl (by kernel_rfl) (by kernel_rfl) (by kernel_rfl) (fun _ _ _ h => h) hH rfl ?yu0b18 ?ru0b18
              case yu0b18 => intro W hSw; have hS1 := hSw.1; have hS2 := hSw.2.1; have hS3 := hSw.2.2; go_simp; try with_reducible rfl
              try simp only [Act.put, List.setIfInBounds_toArray, List.set_cons_zero, List.set_cons_succ]
              refine takeH 18 (v := ?vu0b19) rfl (by kernel_rfl) (by kernel_rfl) (by kernel_rfl) (fun _ _ _ h => h) hH rfl ?yu0b19 ?ru0b19
              case yu0b19 => intro W hSw; go_simp; try with_reducible rfl
              try simp only [Act.put, List.setIfInBounds_toArray, List.set_cons_zero, List.set_cons_succ]
              refine takeH 19 (v := ?vu0b20) rfl (by kernel_rfl) (by kernel_rfl) (by kernel_rfl) (fun _ _ _ h => h) hH rfl ?yu0b20 ?ru0b20
              case yu0b20 => intro W hSw; go_simp; try with_reducible rfl
              try simp only [Act.put, List.setIfInBounds_toArray, List.set_cons_zero, List.set_cons_succ]
              refine takeH 20 (v := ?vu0b21) rfl (by kernel_rfl) (by kernel_rfl) (by kernel_rfl) (fun _ _ _ h => h) hH rfl ?yu0b21 ?ru0b21
              case yu0b21 => intro W hSw; go_simp; try with_reducible rfl
              try simp only [Act.put, List.setIfInBounds_toArray, List.set_cons_zero, List.set_cons_succ]
              refine takeH 21 (v := ?vu0b22) rfl (by kernel_rfl) (by kernel_rfl) (by kernel_rfl) (fun _ _ _ h => h) hH rfl ?yu0b22 ?ru0b22
              case yu0b22 => intro W hSw; have hS1 := hSw.1; have hS2 := hSw.2.1; have hS3 := hSw.2.2; go_simp; try with_reducible rfl
              try simp only [Act.put, List.setIfInBounds_toArray, List.set_cons_zero, List.set_cons_succ]
              refine takeH 22 (v := ?vu0b23) rfl (by kernel_rfl) (by kernel_rfl) (by kernel_rfl) (fun _ _ _ h => h) hH rfl ?yu0b23 ?ru0b23
              case yu0b23 => intro W hSw; go_simp; try with_reducible rfl
              try simp only [Act.put, List.setIfInBounds_toArray, List.set_cons_zero, List.set_cons_succ]
              refine takeH 23 (v := ?vu0b24) rfl (by kernel_rfl) (by kernel_rfl) (by kernel_rfl) (fun _ _ _ h => h) hH rfl ?yu0b24 ?ru0b24
              case yu0b24 => intro W hSw; go_simp; try with_reducible rfl
              try simp only [Act.put, List.setIfInBounds_toArray, List.set_cons_zero, List.set_cons_succ]
              refine takeH 24 (v := ?vu0b25) rfl (by kernel_rfl) (by kernel_rfl) (by kernel_rfl) (fun _ _ _ h => h) hH rfl ?yu0b25 ?ru0b25
              case yu0b25 => intro W hSw; go_simp; try with_reducible rfl
              try simp only [Act.put, List.setIfInBounds_toArray, List.set_cons_zero, List.set_cons_succ]
              refine takeH 25 (v := ?vu0b26) rfl (by kernel_rfl) (by kernel_rfl) (by kernel_rfl) (fun _ _ _ h => h) hH rfl ?yu0b26 ?ru0b26
              case yu0b26 => intro W hSw; have hS1 := hSw.1; have hS2 := hSw.2.1; have hS3 := hSw.2.2; go_simp; try with_reducible rfl
              try simp only [Act.put, List.setIfInBounds_toArray, List.set_cons_zero, List.set_cons_succ]
              refine takeH 26 (v := ?vu0b27) rfl (by kernel_rfl) (by kernel_rfl) (by kernel_rfl) (fun _ _ _ h => h) hH rfl ?yu0b27 ?ru0b27
              case yu0b27 => intro W hSw; go_simp; try with_reducible rfl
              try simp only [Act.put, List.setIfInBounds_toArray, List.set_cons_zero, List.set_cons_succ]
              refine takeH 27 (v := ?vu0b28) rfl (by kernel_rfl) (by kernel_rfl) (by kernel_rfl) (fun _ _ _ h => h) hH rfl ?yu0b28 ?ru0b28
              case yu0b28 => intro W hSw; go_simp; try with_reducible rfl
              try simp only [Act.put, List.setIfInBounds_toArray, List.set_cons_zero, List.set_cons_succ]
              refine takeH 28 (v := ?vu0b29) rfl (by kernel_rfl) (by kernel_rfl) (by kernel_rfl) (fun _ _ _ h => h) hH rfl ?yu0b29 ?ru0b29
              case yu0b29 => intro W hSw; have hS1 := hSw.1; have hS2 := hSw.2.1; have hS3 := hSw.2.2; go_simp; try with_reducible rfl
              try simp only [Act.put, List.setIfInBounds_toArray, List.set_cons_zero, List.set_cons_succ]
              refine takeH 29 (v := .bool false) rfl (by kernel_rfl) (by kernel_rfl) (by kernel_rfl) (fun _ _ _ h => h) hH rfl ?yu0b30 ?ru0b30
              case yu0b30 => intro W hSw; go_simp; first | done | simp only [hgq] | omega | (simp; omega)
              try simp only [Act.put, List.setIfInBounds_toArray, List.set_cons_zero, List.set_cons_succ]
              refine takeH 30 (v := ?vu0b31) rfl (by kernel_rfl) (by kernel_rfl) (by kernel_rfl) (fun _ _ _ h => h) hH rfl ?yu0b31 ?ru0b31
              case yu0b31 => intro W hSw; go_simp; try with_reducible rfl
              try simp only [Act.put, List.setIfInBounds_toArray, List.set_cons_zero, List.set_cons_succ]
              refine takeH 31 (v := ?vu0b32) rfl (by kernel_rfl) (by kernel_rfl) (by kernel_rfl) (fun _ _ _ h => h) hH rfl ?yu0b32 ?ru0b32
              case yu0b32 => intro W hSw; go_simp; try with_reducible rfl
              try simp only [Act.put, List.setIfInBounds_toArray, List.set_cons_zero, List.set_cons_succ]
              refine wpAnyH_done (by kernel_rfl) ?_ _
              try simp only [Act.put]
              clear hH
              go_wp2
              go_roundw
              case rel => exact ⟨k + 1, by omega, by go_num, Hw2.out⟩
              case measure => simp [intOf]; omega
      case neg =>
        have hlp : i - 1 < ls.length := by omega
        have hpp := PL.out.pos (i - 1) hlp
        have hcp := (LW.out.row (i - 1) hlp).1
        obtain ⟨cp, hP⟩ := (LW.out.row (i - 1) hlp).2
        rw [hP] at hcp
        have hy0 := LW.out.cell (i - 1) hlp 0 hpp
        rw [Nat.add_zero] at hy0
        have hasc := PL.out.asc i hlt (by omega) hpos hpp
        have hpp' : (0 : Int) < (ls[i - 1].length : Int) := by omega
        have hgd : decide ((0 : Int) < (i : Int)) = true := decide_eq_true (by omega)
        have hgd' : (0 : Int) < (i : Int) := by omega
        have e1 : IntKind.i64.wrap ((i : Int) - 1) = i - 1 := IntWalk.i64_in _ (by omega)
        have e2 : ((i : Int) - 1).toNat = i - 1 := by omega
        have e3 : 0 ≤ (i : Int) - 1 := by omega
        have e4 : (i : Int) - 1 < (ls.length : Int) := by omega
        have e5 : 1 ≤ (i : Int) := by omega
        have hgq : decide (((ls[i][0] : Nat) : Int) ≤ ((ls[i - 1][0] : Nat) : Int)) = false := decide_eq_false (by omega)
        clear hP
        generalize ls[i - 1][0] = y at *
        obtain ⟨x, hx⟩ : ∃ x, x = ls[i][0] := ⟨_, rfl⟩
        rw [← hx] at hx0 hgq hasc
        clear hx
        generalize ls[i - 1].length = np at *
        go_wp2_with fail
        refine wp_region_held_drew (S := fun W => W.cell? ⟨b, off + i, none⟩ = some (.slice (some ⟨Rb i, Ro i, none⟩) ls[i].length cc) ∧ W.cell? ⟨b, off + (i - 1), none⟩ = some (.slice (some ⟨Rb (i - 1), Ro (i - 1), none⟩) np cp) ∧ W.cell? ⟨Rb i, Ro i, none⟩ = some (.int .i64 ((x : Nat) : Int)) ∧ W.cell? ⟨Rb (i - 1), Ro (i - 1), none⟩ = some (.int .i64 ((y : Nat) : Int))) (by kernel_rfl) ⟨hci, hcp, hx0, hy0⟩ (fun hH => ?_)
        refine takeH 0 (v := ?vrb1) rfl (by kernel_rfl) (by kernel_rfl) (by kernel_rfl) (fun _ _ _ h => h) hH rfl ?yrb1 ?rrb1
        case yrb1 => intro W hSw; go_simp; try with_reducible rfl
        try simp only [Act.put, List.setIfInBounds_toArray, List.set_cons_zero, List.set_cons_succ]
        refine takeH 1 (v := ?vrb2) rfl (by kernel_rfl) (by kernel_rfl) (by kernel_rfl) (fun _ _ _ h => h) hH rfl ?yrb2 ?rrb2
        case yrb2 => intro W hSw; go_simp; try with_reducible rfl
        try simp only [Act.put, List.setIfInBounds_toArray, List.set_cons_zero, List.set_cons_succ]
        refine takeH 2 (v := ?vrb3) rfl (by kernel_rfl) (by kernel_rfl) (by kernel_rfl) (fun _ _ _ h => h) hH rfl ?yrb3 ?rrb3
        case yrb3 => intro W hSw; go_simp; try with_reducible rfl
        try simp only [Act.put, List.setIfInBounds_toArray, List.set_cons_zero, List.set_cons_succ]
        refine takeH 3 (v := ?vrb4) rfl (by kernel_rfl) (by kernel_rfl) (by kernel_rfl) (fun _ _ _ h => h) hH rfl ?yrb4 ?rrb4
        case yrb4 => intro W hSw; obtain ⟨hS1, hS2, hS3, hS4⟩ := hSw; go_simp; try with_reducible rfl
        try simp only [Act.put, List.setIfInBounds_toArray, List.set_cons_zero, List.set_cons_succ]
        refine takeH 4 (v := ?vrb5) rfl (by kernel_rfl) (by kernel_rfl) (by kernel_rfl) (fun _ _ _ h => h) hH rfl ?yrb5 ?rrb5
        case yrb5 => intro W hSw; go_simp; try with_reducible rfl
        try simp only [Act.put, List.setIfInBounds_toArray, List.set_cons_zero, List.set_cons_succ]
        refine takeH 5 (v := .bool false) rfl (by kernel_rfl) (by kernel_rfl) (by kernel_rfl) (fun _ _ _ h => h) hH rfl ?yrb6 ?rrb6
        case yrb6 => intro W hSw; go_simp; first | done | simp only [hne] | omega | (simp; omega)
        try simp only [Act.put, List.setIfInBounds_toArray, List.set_cons_zero, List.set_cons_succ]
        refine takeH 6 (v := ?vrb7) rfl (by kernel_rfl) (by kernel_rfl) (by kernel_rfl) (fun _ _ _ h => h) hH rfl ?yrb7 ?rrb7
        case yrb7 => intro W hSw; go_simp; try with_reducible rfl
        try simp only [Act.put, List.setIfInBounds_toArray, List.set_cons_zero, List.set_cons_succ]
        refine takeH 7 (v := ?vrb8) rfl (by kernel_rfl) (by kernel_rfl) (by kernel_rfl) (fun _ _ _ h => h) hH rfl ?yrb8 ?rrb8
        case yrb8 => intro W hSw; go_simp; try with_reducible rfl
        try simp only [Act.put, List.setIfInBounds_toArray, List.set_cons_zero, List.set_cons_succ]
        refine takeH 8 (v := .bool true) rfl (by kernel_rfl) (by kernel_rfl) (by kernel_rfl) (fun _ _ _ h => h) hH rfl ?yrb9 ?rrb9
        case yrb9 => intro W hSw; go_simp; first | done | simp only [hgd] | omega | (simp; omega)
        try simp only [Act.put, List.setIfInBounds_toArray, List.set_cons_zero, List.set_cons_succ]
        refine takeH 9 (v := ?vrb10) rfl (by kernel_rfl) (by kernel_rfl) (by kernel_rfl) (fun _ _ _ h => h) hH rfl ?yrb10 ?rrb10
        case yrb10 => intro W hSw; go_simp; try with_reducible rfl
        try simp only [Act.put, List.setIfInBounds_toArray, List.set_cons_zero, List.set_cons_succ]
        refine takeH 10 (v := ?vrb11) rfl (by kernel_rfl) (by kernel_rfl) (by kernel_rfl) (fun _ _ _ h => h) hH rfl ?yrb11 ?rrb11
        case yrb11 => intro W hSw; go_simp; try with_reducible rfl
        try simp only [Act.put, List.setIfInBounds_toArray, List.set_cons_zero, List.set_cons_succ]
        refine takeH 11 (v := ?vrb12) rfl (by kernel_rfl) (by kernel_rfl) (by kernel_rfl) (fun _ _ _ h => h) hH rfl ?yrb12 ?rrb12
        case yrb12 => intro W hSw; go_simp; try with_reducible rfl
        try simp only [Act.put, List.setIfInBounds_toArray, List.set_cons_zero, List.set_cons_succ]
        refine takeH 12 (v := ?vrb13) rfl (by kernel_rfl) (by kernel_rfl) (by kernel_rfl) (fun _ _ _ h => h) hH rfl ?yrb13 ?rrb13
        case yrb13 => intro W hSw; go_simp; try with_reducible rfl
        try simp only [Act.put, List.setIfInBounds_toArray, List.set_cons_zero, List.set_cons_succ]
        refine takeH 13 (v := ?vrb14) rfl (by kernel_rfl) (by kernel_rfl) (by kernel_rfl) (fun _ _ _ h => h) hH rfl ?yrb14 ?rrb14
        case yrb14 => intro W hSw; go_simp; try with_reducible rfl
        try simp only [Act.put, List.setIfInBounds_toArray, List.set_cons_zero, List.set_cons_succ]
        refine takeH 14 (v := ?vrb15) rfl (by kernel_rfl) (by kernel_rfl) (by kernel_rfl) (fun _ _ _ h => h) hH rfl ?yrb15 ?rrb15
        case yrb15 => intro W hSw; obtain ⟨hS1, hS2, hS3, hS4⟩ := hSw; go_simp; try with_reducible rfl
        try simp only [Act.put, List.setIfInBounds_toArray, List.set_cons_zero, List.set_cons_succ]
        refine takeH 15 (v := ?vrb16) rfl (by kernel_rfl) (by kernel_rfl) (by kernel_rfl) (fun _ _ _ h => h) hH rfl ?yrb16 ?rrb16
        case yrb16 => intro W hSw; go_simp; try with_reducible rfl
        try simp only [Act.put, List.setIfInBounds_toArray, List.set_cons_zero, List.set_cons_succ]
        refine takeH 16 (v := ?vrb17) rfl (by kernel_rfl) (by kernel_rfl) (by kernel_rfl) (fun _ _ _ h => h) hH rfl ?yrb17 ?rrb17
        case yrb17 => intro W hSw; obtain ⟨hS1, hS2, hS3, hS4⟩ := hSw; go_simp; try with_reducible rfl
        try simp only [Act.put, List.setIfInBounds_toArray, List.set_cons_zero, List.set_cons_succ]
        refine takeH 17 (v := ?vrb18) rfl (by kernel_rfl) (by kernel_rfl) (by kernel_rfl) (fun _ _ _ h => h) hH rfl ?yrb18 ?rrb18
        case yrb18 => intro W hSw; go_simp; try with_reducible rfl
        try simp only [Act.put, List.setIfInBounds_toArray, List.set_cons_zero, List.set_cons_succ]
        refine takeH 18 (v := ?vrb19) rfl (by kernel_rfl) (by kernel_rfl) (by kernel_rfl) (fun _ _ _ h => h) hH rfl ?yrb19 ?rrb19
        case yrb19 => intro W hSw; go_simp; try with_reducible rfl
        try simp only [Act.put, List.setIfInBounds_toArray, List.set_cons_zero, List.set_cons_succ]
        refine takeH 19 (v := ?vrb20) rfl (by kernel_rfl) (by kernel_rfl) (by kernel_rfl) (fun _ _ _ h => h) hH rfl ?yrb20 ?rrb20
        case yrb20 => intro W hSw; go_simp; try with_reducible rfl
        try simp only [Act.put, List.setIfInBounds_toArray, List.set_cons_zero, List.set_cons_succ]
        refine takeH 20 (v := ?vrb21) rfl (by kernel_rfl) (by kernel_rfl) (by kernel_rfl) (fun _ _ _ h => h) hH rfl ?yrb21 ?rrb21
        case yrb21 => intro W hSw; obtain ⟨hS1, hS2, hS3, hS4⟩ := hSw; go_simp; try with_reducible rfl
        try simp only [Act.put, List.setIfInBounds_toArray, List.set_cons_zero, List.set_cons_succ]
        refine takeH 21 (v := ?vrb22) rfl (by kernel_rfl) (by kernel_rfl) (by kernel_rfl) (fun _ _ _ h => h) hH rfl ?yrb22 ?rrb22
        case yrb22 => intro W hSw; go_simp; try with_reducible rfl
        try simp only [Act.put, List.setIfInBounds_toArray, List.set_cons_zero, List.set_cons_succ]
        refine takeH 22 (v := ?vrb23) rfl (by kernel_rfl) (by kernel_rfl) (by kernel_rfl) (fun _ _ _ h => h) hH rfl ?yrb23 ?rrb23
        case yrb23 => intro W hSw; obtain ⟨hS1, hS2, hS3, hS4⟩ := hSw; go_simp; try with_reducible rfl
        try simp only [Act.put, List.setIfInBounds_toArray, List.set_cons_zero, List.set_cons_succ]
        refine takeH 23 (v := .bool false) rfl (by kernel_rfl) (by kernel_rfl) (by kernel_rfl) (fun _ _ _ h => h) hH rfl ?yrb24 ?rrb24
        case yrb24 => intro W hSw; go_simp; first | done | simp only [hgq] | omega | (simp; omega)
        try simp only [Act.put, List.setIfInBounds_toArray, List.set_cons_zero, List.set_cons_succ]
        refine takeH 24 (v := ?vrb25) rfl (by kernel_rfl) (by kernel_rfl) (by kernel_rfl) (fun _ _ _ h => h) hH rfl ?yrb25 ?rrb25
        case yrb25 => intro W hSw; go_simp; try with_reducible rfl
        try simp only [Act.put, List.setIfInBounds_toArray, List.set_cons_zero, List.set_cons_succ]
        refine takeH 25 (v := ?vrb26) rfl (by kernel_rfl) (by kernel_rfl) (by kernel_rfl) (fun _ _ _ h => h) hH rfl ?yrb26 ?rrb26
        case yrb26 => intro W hSw; go_simp; try with_reducible rfl
        try simp only [Act.put, List.setIfInBounds_toArray, List.set_cons_zero, List.set_cons_succ]
        refine wpAnyH_done (by kernel_rfl) ?_ _
        try simp only [Act.put]
        have hWr2 := Lib.hid (show Drawn w4 wr.drew from hWr.out.drewN 1)
        replace hci : wr.drew.cell? ⟨b, off + i, none⟩ = some (.slice (some ⟨Rb i, Ro i, none⟩) ls[i].length cc) := hci
        have HX := Lib.hid (show ∀ j (hj : j < ls[i].length), wr.drew.cell? ⟨Rb i, Ro i + j, none⟩ = some (.int .i64 ((ls[i][j] : Nat) : Int)) from HC.out)
        clear hH hx0 hwr HC hcp hy0 hasc hgq hgd hgd' e1 e2 e3 e4 e5
        generalize wr.drew = W8 at *
        go_wp2
        go_loopw [8] (fun q wr2 => ∃ k : Nat, k ≤ ls[i].length ∧ q = .int .i64 k ∧ Drawn W8 wr2) (fun q _ => ls[i].length - (intOf q).toNat)
        case atStart => exact ⟨0, Nat.zero_le _, rfl, Drawn.refl _⟩
        case round =>
          obtain ⟨k, hk, rfl, hw2⟩ := hrel
          have hci2 := (hw2.cell _).trans hci
          by_cases hkt : k < ls[i].length
          case neg =>
            have hkt' : ¬ (k : Int) < (ls[i].length : Int) := by omega
            have Hw2 := Lib.hid (hWr2.out.trans hw2)
            clear hw2 HLT HUP HX hci hkt hk
            generalize ls[i].length = nn at *
            go_wp2
            go_roundw
            case rel => exact ⟨i + 1, by omega, by go_num, by first | rfl | trivial, Hw2.out⟩
            case measure => simp [intOf]; omega
          case pos =>
            have hkt' : (k : Int) < (ls[i].length : Int) := by omega
            have hxk := (hw2.cell _).trans (HX.out k hkt)
            have hlk := HLT.out k hkt
            have hge : decide ((xs.length : Int) ≤ ((ls[i][k] : Nat) : Int)) = false := decide_eq_false (by omega)
            have Hw2 := Lib.hid (hw2.drewN 1)
            clear hw2
            by_cases hk0 : k = 0
            case pos =>
              have hgd : decide ((0 : Int) < (k : Int)) = false := decide_eq_false (by omega)
              have hgd' : ¬ (0 : Int) < (k : Int) := by omega
              clear hk0 HLT HUP HX hci
              generalize ls[i][k] = x at *
              generalize ls[i].length = nn at *
              go_wp2_with fail
              refine wp_region_held_drew (S := fun W => W.cell? ⟨b, off + i, none⟩ = some (.slice (some ⟨Rb i, Ro i, none⟩) nn cc) ∧ W.cell? ⟨Rb i, Ro i + k, none⟩ = some (.int .i64 ((x : Nat) : Int))) (by kernel_rfl) ⟨hci2, hxk⟩ (fun hH => ?_)
              refine takeH 0 (v := ?vu1a1) rfl (by kernel_rfl) (by kernel_rfl) (by kernel_rfl) (fun _ _ _ h => h) hH rfl ?yu1a1 ?ru1a1
              case yu1a1 => intro W hSw; go_simp; try with_reducible rfl
              try simp only [Act.put, List.setIfInBounds_toArray, List.set_cons_zero, List.set_cons_succ]
              refine takeH 1 (v := ?vu1a2) rfl (by kernel_rfl) (by kernel_rfl) (by kernel_rfl) (fun _ _ _ h => h) hH rfl ?yu1a2 ?ru1a2
              case yu1a2 => intro W hSw; go_simp; try with_reducible rfl
              try simp only [Act.put, List.setIfInBounds_toArray, List.set_cons_zero, List.set_cons_succ]
              refine takeH 2 (v := ?vu1a3) rfl (by kernel_rfl) (by kernel_rfl) (by kernel_rfl) (fun _ _ _ h => h) hH rfl ?yu1a3 ?ru1a3
              case yu1a3 => intro W hSw; go_simp; try with_reducible rfl
              try simp only [Act.put, List.setIfInBounds_toArray, List.set_cons_zero, List.set_cons_succ]
              refine takeH 3 (v := ?vu1a4) rfl (by kernel_rfl) (by kernel_rfl) (by kernel_rfl) (fun _ _ _ h => h) hH rfl ?yu1a4 ?ru1a4
              case yu1a4 => intro W hSw; have hS1 := hSw.1; have hS2 := hSw.2; go_simp; try with_reducible rfl
              try simp only [Act.put, List.setIfInBounds_toArray, List.set_cons_zero, List.set_cons_succ]
              refine takeH 4 (v := ?vu1a5) rfl (by kernel_rfl) (by kernel_rfl) (by kernel_rfl) (fun _ _ _ h => h) hH rfl ?yu1a5 ?ru1a5
              case yu1a5 => intro W hSw; go_simp; try with_reducible rfl
              try simp only [Act.put, List.setIfInBounds_toArray, List.set_cons_zero, List.set_cons_succ]
              refine takeH 5 (v := ?vu1a6) rfl (by kernel_rfl) (by kernel_rfl) (by kernel_rfl) (fun _ _ _ h => h) hH rfl ?yu1a6 ?ru1a6
              case yu1a6 => intro W hSw; go_simp; try with_reducible rfl
              try simp only [Act.put, List.setIfInBounds_toArray, List.set_cons_zero, List.set_cons_succ]
              refine takeH 6 (v := ?vu1a7) rfl (by kernel_rfl) (by kernel_rfl) (by kernel_rfl) (fun _ _ _ h => h) hH rfl ?yu1a7 ?ru1a7
              case yu1a7 => intro W hSw; have hS1 := hSw.1; have hS2 := hSw.2; go_simp; try with_reducible rfl
              try simp only [Act.put, List.setIfInBounds_toArray, List.set_cons_zero, List.set_cons_succ]
              refine takeH 7 (v := ?vu1a8) rfl (by kernel_rfl) (by kernel_rfl) (by kernel_rfl) (fun _ _ _ h => h) hH rfl ?yu1a8 ?ru1a8
              case yu1a8 => intro W hSw; go_simp; try with_reducible rfl
              try simp only [Act.put, List.setIfInBounds_toArray, List.set_cons_zero, List.set_cons_succ]
              refine takeH 8 (v := ?vu1a9) rfl (by kernel_rfl) (by kernel_rfl) (by kernel_rfl) (fun _ _ _ h => h) hH rfl ?yu1a9 ?ru1a9
              case yu1a9 => intro W hSw; go_simp; try with_reducible rfl
              try simp only [Act.put, List.setIfInBounds_toArray, List.set_cons_zero, List.set_cons_succ]
              refine takeH 9 (v := .bool false) rfl (by kernel_rfl) (by kernel_rfl) (by kernel_rfl) (fun _ _ _ h => h) hH rfl ?yu1a10 ?ru1a10
              case yu1a10 => intro W hSw; go_simp; first | done | simp only [hge] | omega | (simp; omega)
              try simp only [Act.put, List.setIfInBounds_toArray, List.set_cons_zero, List.set_cons_succ]
              refine takeH 10 (v := ?vu1a11) rfl (by kernel_rfl) (by kernel_rfl) (by kernel_rfl) (fun _ _ _ h => h) hH rfl ?yu1a11 ?ru1a11
              case yu1a11 => intro W hSw; go_simp; try with_reducible rfl
              try simp only [Act.put, List.setIfInBounds_toArray, List.set_cons_zero, List.set_cons_succ]
              refine takeH 11 (v := ?vu1a12) rfl (by kernel_rfl) (by kernel_rfl) (by kernel_rfl) (fun _ _ _ h => h) hH rfl ?yu1a12 ?ru1a12
              case yu1a12 => intro W hSw; go_simp; try with_reducible rfl
              try simp only [Act.put, List.setIfInBounds_toArray, List.set_cons_zero, List.set_cons_succ]
              refine takeH 12 (v := .bool false) rfl (by kernel_rfl) (by kernel_rfl) (by kernel_rfl) (fun _ _ _ h => h) hH rfl ?yu1a13 ?ru1a13
              case yu1a13 => intro W hSw; go_simp; first | done | simp only [hgd] | omega | (simp; omega)
              try simp only [Act.put, List.setIfInBounds_toArray, List.set_cons_zero, List.set_cons_succ]
              refine takeH 13 (v := ?vu1a14) rfl (by kernel_rfl) (by kernel_rfl) (by kernel_rfl) (fun _ _ _ h => h) hH rfl ?yu1a14 ?ru1a14
              case yu1a14 => intro W hSw; go_simp; try with_reducible rfl
              try simp only [Act.put, List.setIfInBounds_toArray, List.set_cons_zero, List.set_cons_succ]
              refine skipH 14 rfl (by kernel_rfl) (by kernel_rfl) (by kernel_rfl) (fun _ _ _ h => h) hH rfl ?_
              try simp only [Act.put, List.setIfInBounds_toArray, List.set_cons_zero, List.set_cons_succ]
              refine skipH 15 rfl (by kernel_rfl) (by kernel_rfl) (by kernel_rfl) (fun _ _ _ h => h) hH rfl ?_
              try simp only [Act.put, List.setIfInBounds_toArray, List.set_cons_zero, List.set_cons_succ]
              refine skipH 16 rfl (by kernel_rfl) (by kernel_rfl) (by kernel_rfl) (fun _ _ _ h => h) hH rfl ?_
              try simp only [Act.put, List.setIfInBounds_toArray, List.set_cons_zero, List.set_cons_succ]
              refine skipH 17 rfl (by kernel_rfl) (by kernel_rfl) (by kernel_rfl) (fun _ _ _ h => h) hH rfl ?_
              try simp only [Act.put, List.setIfInBounds_toArray, List.set_cons_zero, List.set_cons_succ]
              refine skipH 18 rfl (by kernel_rfl) (by kernel_rfl) (by kernel_rfl) (fun _ _ _ h => h) hH rfl ?_
              try simp only [Act.put, List.setIfInBounds_toArray, List.set_cons_zero, List.set_cons_succ]
              refine skipH 19 rfl (by kernel_rfl) (by kernel_rfl) (by kernel_rfl) (fun _ _ _ h => h) hH rfl ?_
              try simp only [Act.put, List.setIfInBounds_toArray, List.set_cons_zero, List.set_cons_succ]
              refine skipH 20 rfl (by kernel_rfl) (by kernel_rfl) (by kernel_rfl) (fun _ _ _ h => h) hH rfl ?_
              try simp only [Act.put, List.setIfInBounds_toArray, List.set_cons_zero, List.set_cons_succ]
              refine skipH 21 rfl (by kernel_rfl) (by kernel_rfl) (by kernel_rfl) (fun _ _ _ h => h) hH rfl ?_
              try simp only [Act.put, List.setIfInBounds_toArray, List.set_cons_zero, List.set_cons_succ]
              refine skipH 22 rfl (by kernel_rfl) (by kernel_rfl) (by kernel_rfl) (fun _ _ _ h => h) hH rfl ?_
              try simp only [Act.put, List.setIfInBounds_toArray, List.set_cons_zero, List.set_cons_succ]
              refine skipH 23 rfl (by kernel_rfl) (by kernel_rfl) (by kernel_rfl) (fun _ _ _ h => h) hH rfl ?_
              try simp only [Act.put, List.setIfInBounds_toArray, List.set_cons_zero, List.set_cons_succ]
              refine skipH 24 rfl (by kernel_rfl) (by kernel_rfl) (by kernel_rfl) (fun _ _ _ h => h) hH rfl ?_
              try simp only [Act.put, List.setIfInBounds_toArray, List.set_cons_zero, List.set_cons_succ]
              refine skipH 25 rfl (by kernel_rfl) (by kernel_rfl) (by kernel_rfl) (fun _ _ _ h => h) hH rfl ?_
              try simp only [Act.put, List.setIfInBounds_toArray, List.set_cons_zero, List.set_cons_succ]
              refine skipH 26 rfl (by kernel_rfl) (by kernel_rfl) (by kernel_rfl) (fun _ _ _ h => h) hH rfl ?_
              try simp only [Act.put, List.setIfInBounds_toArray, List.set_cons_zero, List.set_cons_succ]
              refine skipH 27 rfl (by kernel_rfl) (by kernel_rfl) (by kernel_rfl) (fun _ _ _ h => h) hH rfl ?_
              try simp only [Act.put, List.setIfInBounds_toArray, List.set_cons_zero, List.set_cons_succ]
              refine skipH 28 rfl (by kernel_rfl) (by kernel_rfl) (by kernel_rfl) (fun _ _ _ h => h) hH rfl ?_
              try simp only [Act.put, List.setIfInBounds_toArray, List.set_cons_zero, List.set_cons_succ]
              refine skipH 29 rfl (by kernel_rfl) (by kernel_rfl) (by kernel_rfl) (fun _ _ _ h => h) hH rfl ?_
              try simp only [Act.put, List.setIfInBounds_toArray, List.set_cons_zero, List.set_cons_succ]
              refine takeH 30 (v := ?vu1a15) rfl (by kernel_rfl) (by kernel_rfl) (by kernel_rfl) (fun _ _ _ h => h) hH rfl ?yu1a15 ?ru1a15
              case yu1a15 => intro W hSw; go_simp; try with_reducible rfl
              try simp only [Act.put, List.setIfInBounds_toArray, List.set_cons_zero, List.set_cons_succ]
              refine takeH 31 (v := ?vu1a16) rfl (by kernel_rfl) (by kernel_rfl) (by kernel_rfl) (fun _ _ _ h => h) hH rfl ?yu1a16 ?ru1a16
              case yu1a16 => intro W hSw; go_simp; try with_reducible rfl
              try simp only [Act.put, List.setIfInBounds_toArray, List.set_cons_zero, List.set_cons_succ]
              refine wpAnyH_done (by kernel_rfl) ?_ _
              try simp only [Act.put]
              clear hH
              go_wp2
              go_roundw
              case rel => exact ⟨k + 1, by omega, by go_num, Hw2.out⟩
              case measure => simp [intOf]; omega
            case neg =>
              have hxp := (Hw2.out.cell _).trans (HX.out (k - 1) (by omega))
              have hup := HUP.out k hkt (by omega)
              have hgd : decide ((0 : Int) < (k : Int)) = true := decide_eq_true (by omega)
              have hgd' : (0 : Int) < (k : Int) := by omega
              have e1 : IntKind.i64.wrap ((k : Int) - 1) = k - 1 := IntWalk.i64_in _ (by omega)
              have e2 : ((k : Int) - 1).toNat = k - 1 := by omega
              have e3 : 0 ≤ (k : Int) - 1 := by omega
              have e4 : (k : Int) - 1 < (ls[i].length : Int) := by omega
              have e5 : 1 ≤ (k : Int) := by omega
              have hgq : decide (((ls[i][k] : Nat) : Int) ≤ ((ls[i][k - 1] : Nat) : Int)) = false := decide_eq_false (by omega)
              clear HLT HUP HX hci
              generalize ls[i][k] = x at *
              generalize ls[i][k - 1] = y at *
              generalize ls[i].length = nn at *
              go_wp2_with fail
              refine wp_region_held_drew (S := fun W => W.cell? ⟨b, off + i, none⟩ = some (.slice (some ⟨Rb i, Ro i, none⟩) nn cc) ∧ W.cell? ⟨Rb i, Ro i + k, none⟩ = some (.int .i64 ((x : Nat) : Int)) ∧ W.cell? ⟨Rb i, Ro i + (k - 1), none⟩ = some (.int .i64 ((y : Nat) : Int))) (by kernel_rfl) ⟨hci2, hxk, hxp⟩ (fun hH => ?_)
              refine takeH 0 (v := ?vu1b1) rfl (by kernel_rfl) (by kernel_rfl) (by kernel_rfl) (fun _ _ _ h => h) hH rfl ?yu1b1 ?ru1b1
              case yu1b1 => intro W hSw; go_simp; try with_reducible rfl
              try simp only [Act.put, List.setIfInBounds_toArray, List.set_cons_zero, List.set_cons_succ]
              refine takeH 1 (v := ?vu1b2) rfl (by kernel_rfl) (by kernel_rfl) (by kernel_rfl) (fun _ _ _ h => h) hH rfl ?yu1b2 ?ru1b2
              case yu1b2 => intro W hSw; go_simp; try with_reducible rfl
              try simp only [Act.put, List.setIfInBounds_toArray, List.set_cons_zero, List.set_cons_succ]
              refine takeH 2 (v := ?vu1b3) rfl (by kernel_rfl) (by kernel_rfl) (by kernel_rfl) (fun _ _ _ h => h) hH rfl ?yu1b3 ?ru1b3
              case yu1b3 => intro W hSw; go_simp; try with_reducible rfl
              try simp only [Act.put, List.setIfInBounds_toArray, List.set_cons_zero, List.set_cons_succ]
              refine takeH 3 (v := ?vu1b4) rfl (by kernel_rfl) (by kernel_rfl) (by kernel_rfl) (fun _ _ _ h => h) hH rfl ?yu1b4 ?ru1b4
              case yu1b4 => intro W hSw; have hS1 := hSw.1; have hS2 := hSw.2.1; have hS3 := hSw.2.2; go_simp; try with_reducible rfl
              try simp only [Act.put, List.setIfInBounds_toArray, List.set_cons_zero, List.set_cons_succ]
              refine takeH 4 (v := ?vu1b5) rfl (by kernel_rfl) (by kernel_rfl) (by kernel_rfl) (fun _ _ _ h => h) hH rfl ?yu1b5 ?ru1b5
              case yu1b5 => intro W hSw; go_simp; try with_reducible rfl
              try simp only [Act.put, List.setIfInBounds_toArray, List.set_cons_zero, List.set_cons_succ]
              refine takeH 5 (v := ?vu1b6) rfl (by kernel_rfl) (by kernel_rfl) (by kernel_rfl) (fun _ _ _ h => h) hH rfl ?yu1b6 ?ru1b6
              case yu1b6 => intro W hSw; go_simp; try with_reducible rfl
              try simp only [Act.put, List.setIfInBounds_toArray, List.set_cons_zero, List.set_cons_succ]
              refine takeH 6 (v := ?vu1b7) rfl (by kernel_rfl) (by kernel_rfl) (by kernel_rfl) (fun _ _ _ h => h) hH rfl ?yu1b7 ?ru1b7
              case yu1b7 => intro W hSw; have hS1 := hSw.1; have hS2 := hSw.2.1; have hS3 := hSw.2.2; go_simp; try with_reducible rfl
              try simp only [Act.put, List.setIfInBounds_toArray, List.set_cons_zero, List.set_cons_succ]
              refine takeH 7 (v := ?vu1b8) rfl (by kernel_rfl) (by kernel_rfl) (by kernel_rfl) (fun _ _ _ h => h) hH rfl ?yu1b8 ?ru1b8
              case yu1b8 => intro W hSw; go_simp; try with_reducible rfl
              try simp only [Act.put, List.setIfInBounds_toArray, List.set_cons_zero, List.set_cons_succ]
              refine takeH 8 (v := ?vu1b9) rfl (by kernel_rfl) (by kernel_rfl) (by kernel_rfl) (fun _ _ _ h => h) hH rfl ?yu1b9 ?ru1b9
              case yu1b9 => intro W hSw; go_simp; try with_reducible rfl
              try simp only [Act.put, List.setIfInBounds_toArray, List.set_cons_zero, List.set_cons_succ]
              refine takeH 9 (v := .bool false) rfl (by kernel_rfl) (by kernel_rfl) (by kernel_rfl) (fun _ _ _ h => h) hH rfl ?yu1b10 ?ru1b10
              case yu1b10 => intro W hSw; go_simp; first | done | simp only [hge] | omega | (simp; omega)
              try simp only [Act.put, List.setIfInBounds_toArray, List.set_cons_zero, List.set_cons_succ]
              refine takeH 10 (v := ?vu1b11) rfl (by kernel_rfl) (by kernel_rfl) (by kernel_rfl) (fun _ _ _ h => h) hH rfl ?yu1b11 ?ru1b11
              case yu1b11 => intro W hSw; go_simp; try with_reducible rfl
              try simp only [Act.put, List.setIfInBounds_toArray, List.set_cons_zero, List.set_cons_succ]
              refine takeH 11 (v := ?vu1b12) rfl (by kernel_rfl) (by kernel_rfl) (by kernel_rfl) (fun _ _ _ h => h) hH rfl ?yu1b12 ?ru1b12
              case yu1b12 => intro W hSw; go_simp; try with_reducible rfl
              try simp only [Act.put, List.setIfInBounds_toArray, List.set_cons_zero, List.set_cons_succ]
              refine takeH 12 (v := .bool true) rfl (by kernel_rfl) (by kernel_rfl) (by kernel_rfl) (fun _ _ _ h => h) hH rfl ?yu1b13 ?ru1b13
              case yu1b13 => intro W hSw; go_simp; first | done | simp only [hgd] | omega | (simp; omega)
              try simp only [Act.put, List.setIfInBounds_toArray, List.set_cons_zero, List.set_cons_succ]
              refine takeH 13 (v := ?vu1b14) rfl (by kernel_rfl) (by kernel_rfl) (by kernel_rfl) (fun _ _ _ h => h) hH rfl ?yu1b14 ?ru1b14
              case yu1b14 => intro W hSw; go_simp; try with_reducible rfl
              try simp only [Act.put, List.setIfInBounds_toArray, List.set_cons_zero, List.set_cons_succ]
              refine takeH 14 (v := ?vu1b15) rfl (by kernel_rfl) (by kernel_rfl) (by kernel_rfl) (fun _ _ _ h => h) hH rfl ?yu1b15 ?ru1b15
              case yu1b15 => intro W hSw; go_simp; try with_reducible rfl
              try simp only [Act.put, List.setIfInBounds_toArray, List.set_cons_zero, List.set_cons_succ]
              refine takeH 15 (v := ?vu1b16) rfl (by kernel_rfl) (by kernel_rfl) (by kernel_rfl) (fun _ _ _ h => h) hH rfl ?yu1b16 ?ru1b16
              case yu1b16 => intro W hSw; go_simp; try with_reducible rfl
              try simp only [Act.put, List.setIfInBounds_toArray, List.set_cons_zero, List.set_cons_succ]
              refine takeH 16 (v := ?vu1b17) rfl (by kernel_rfl) (by kernel_rfl) (by kernel_rfl) (fun _ _ _ h => h) hH rfl ?yu1b17 ?ru1b17
              case yu1b17 => intro W hSw; go_simp; try with_reducible rfl
              try simp only [Act.put, List.setIfInBounds_toArray, List.set_cons_zero, List.set_cons_succ]
              refine takeH 17 (v := ?vu1b18) rfl (by kernel_rfl) (by kernel_rfl) (by kernel_rfl) (fun _ _ _ h => h) hH rfl ?yu1b18 ?ru1b18
              case yu1b18 => intro W hSw; have hS1 := hSw.1; have hS2 := hSw.2.1; have hS3 := hSw.2.2; go_simp; try with_reducible rfl
              try simp only [Act.put, List.setIfInBounds_toArray, List.set_cons_zero, List.set_cons_succ]
              refine takeH 18 (v := ?vu1b19) rfl (by kernel_rfl) (by kernel_rfl) (by kernel_rfl) (fun _ _ _ h => h) hH rfl ?yu1b19 ?ru1b19
              case yu1b19 => intro W hSw; go_simp; try with_reducible rfl
              try simp only [Act.put, List.setIfInBounds_toArray, List.set_cons_zero, List.set_cons_succ]
              refine takeH 19 (v := ?vu1b20) rfl (by kernel_rfl) (by kernel_rfl) (by kernel_rfl) (fun _ _ _ h => h) hH rfl ?yu1b20 ?ru1b20
              case yu1b20 => intro W hSw; go_simp; try with_reducible rfl
              try simp only [Act.put, List.setIfInBounds_toArray, List.set_cons_zero, List.set_cons_succ]
              refine takeH 20 (v := ?vu1b21) rfl (by kernel_rfl) (by kernel_rfl) (by kernel_rfl) (fun _ _ _ h => h) hH rfl ?yu1b21 ?ru1b21
              case yu1b21 => intro W hSw; go_simp; try with_reducible rfl
              try simp only [Act.put, List.setIfInBounds_toArray, List.set_cons_zero, List.set_cons_succ]
              refine takeH 21 (v := ?vu1b22) rfl (by kernel_rfl) (by kernel_rfl) (by kernel_rfl) (fun _ _ _ h => h) hH rfl ?yu1b22 ?ru1b22
              case yu1b22 => intro W hSw; have hS1 := hSw.1; have hS2 := hSw.2.1; have hS3 := hSw.2.2; go_simp; try with_reducible rfl
              try simp only [Act.put, List.setIfInBounds_toArray, List.set_cons_zero, List.set_cons_succ]
              refine takeH 22 (v := ?vu1b23) rfl (by kernel_rfl) (by kernel_rfl) (by kernel_rfl) (fun _ _ _ h => h) hH rfl ?yu1b23 ?ru1b23
              case yu1b23 => intro W hSw; go_simp; try with_reducible rfl
              try simp only [Act.put, List.setIfInBounds_toArray, List.set_cons_zero, List.set_cons_succ]
              refine takeH 23 (v := ?vu1b24) rfl (by kernel_rfl) (by kernel_rfl) (by kernel_rfl) (fun _ _ _ h => h) hH rfl ?yu1b24 ?ru1b24
              case yu1b24 => intro W hSw; go_simp; try with_reducible rfl
              try simp only [Act.put, List.setIfInBounds_toArray, List.set_cons_zero, List.set_cons_succ]
              refine takeH 24 (v := ?vu1b25) rfl (by kernel_rfl) (by kernel_rfl) (by kernel_rfl) (fun _ _ _ h => h) hH rfl ?yu1b25 ?ru1b25
              case yu1b25 => intro W hSw; go_simp; try with_reducible rfl
              try simp only [Act.put, List.setIfInBounds_toArray, List.set_cons_zero, List.set_cons_succ]
              refine takeH 25 (v := ?vu1b26) rfl (by kernel_rfl) (by kernel_rfl) (by kernel_rfl) (fun _ _ _ h => h) hH rfl ?yu1b26 ?ru1b26
              case yu1b26 => intro W hSw; have hS1 := hSw.1; have hS2 := hSw.2.1; have hS3 := hSw.2.2; go_simp; try with_reducible rfl
              try simp only [Act.put, List.setIfInBounds_toArray, List.set_cons_zero, List.set_cons_succ]
              refine takeH 26 (v := ?vu1b27) rfl (by kernel_rfl) (by kernel_rfl) (by kernel_rfl) (fun _ _ _ h => h) hH rfl ?yu1b27 ?ru1b27
              case yu1b27 => intro W hSw; go_simp; try with_reducible rfl
              try simp only [Act.put, List.setIfInBounds_toArray, List.set_cons_zero, List.set_cons_succ]
              refine takeH 27 (v := ?vu1b28) rfl (by kernel_rfl) (by kernel_rfl) (by kernel_rfl) (fun _ _ _ h => h) hH rfl ?yu1b28 ?ru1b28
              case yu1b28 => intro W hSw; go_simp; try with_reducible rfl
              try simp only [Act.put, List.setIfInBounds_toArray, List.set_cons_zero, List.set_cons_succ]
              refine takeH 28 (v := ?vu1b29) rfl (by kernel_rfl) (by kernel_rfl) (by kernel_rfl) (fun _ _ _ h => h) hH rfl ?yu1b29 ?ru1b29
              case yu1b29 => intro W hSw; have hS1 := hSw.1; have hS2 := hSw.2.1; have hS3 := hSw.2.2; go_simp; try with_reducible rfl
              try simp only [Act.put, List.setIfInBounds_toArray, List.set_cons_zero, List.set_cons_succ]
              refine takeH 29 (v := .bool false) rfl (by kernel_rfl) (by kernel_rfl) (by kernel_rfl) (fun _ _ _ h => h) hH rfl ?yu1b30 ?ru1b30
              case yu1b30 => intro W hSw; go_simp; first | done | simp only [hgq] | omega | (simp; omega)
              try simp only [Act.put, List.setIfInBounds_toArray, List.set_cons_zero, List.set_cons_succ]
              refine takeH 30 (v := ?vu1b31) rfl (by kernel_rfl) (by kernel_rfl) (by kernel_rfl) (fun _ _ _ h => h) hH rfl ?yu1b31 ?ru1b31
              case yu1b31 => intro W hSw; go_simp; try with_reducible rfl
              try simp only [Act.put, List.setIfInBounds_toArray, List.set_cons_zero, List.set_cons_succ]
              refine takeH 31 (v := ?vu1b32) rfl (by kernel_rfl) (by kernel_rfl) (by kernel_rfl) (fun _ _ _ h => h) hH rfl ?yu1b32 ?ru1b32
              case yu1b32 => intro W hSw; go_simp; try with_reducible rfl
              try simp only [Act.put, List.setIfInBounds_toArray, List.set_cons_zero, List.set_cons_succ]
              refine wpAnyH_done (by kernel_rfl) ?_ _
              try simp only [Act.put]
              clear hH
              go_wp2
              go_roundw
              case rel => exact ⟨k + 1, by omega, by go_num, Hw2.out⟩
              case measure => simp [intOf]; omega

theorem fnLanesPartition_own : ownKnob Try.prog.godebug = none := by kernel_rfl
theorem fnLanesPartition_laidOut : laidOutB Try.prog = true := by kernel_rfl

set_option maxRecDepth 8000 in
theorem fnLanesPartition_lifted (os : Os) (started : os.Started) (H : Type) (enc : TypeId × Value → H) :
    ReturnsInHanded {} Try.checked os 4 .any (Rows.fnLanesPartitionSpec.pre6 enc Try.prog Try.f4 Rows.fnLanesPartitionRow.domain false) (Rows.fnLanesPartitionSpec.post enc Try.prog Try.f4 false true false false) := by
  refine law_lifted (C := Try.checked) (tb := 4) fnLanesPartition_own fnLanesPartition_laidOut started (by kernel_rfl) Try.func4 rfl Try.underlying4 rfl (by rw [Try.params4]; exact of_decide_eq_true (by kernel_rfl)) ?_
    (ChangeSpec.witness6 (enc := enc) (C := Try.checked) false ⟨#[], #[.slice none 0 0], []⟩ 8 (by kernel_rfl) (by kernel_rfl) (by kernel_rfl) (by kernel_rfl)) ?_
  · intro ds hds
    rw [Try.params4] at hds
    match ds, hds with
    | [d0], _ => rfl
  · intro W base args ds p hval0 hA0
    have hval : ∀ (j : Nat) t v, Try.f4.params[j]? = some t → args[j]? = some v → Value.okWide Try.prog W .any base t v := hval0
    have hA : DataW.TrodAll enc Try.prog W 0 (fun _ => true) true Try.f4.params.toList args.toList ds p := hA0
    rw [Try.params4] at hA hval
    obtain ⟨v0, vs0, d0, ds0, p0, q0, hargs0, rfl, rfl, h0, r0⟩ := trodAll_cons hA
    obtain ⟨hnil, rfl, rfl⟩ := trodAll_nil r0
    subst hnil
    obtain rfl : args = #[v0] := by cases args; simp_all
    obtain ⟨a0, cap0, zs0, rfl, hk0, hm0, hi0, hw0⟩ := open_slice_ints Try.underlying22 Try.underlying5 (by kernel_rfl) (hval 0 22 v0 rfl rfl) h0
    exact fnLanesPartition_walk a0 cap0 zs0 W hk0 hm0 hi0 hw0

set_option maxRecDepth 8000 in
theorem fnLanesPartition_holds : Rows.FnLanesPartitionSaid :=
  OpenClaim.holds_of_wide 4 Try.f4 rfl rfl rfl rfl rfl rfl rfl ⟨rfl, rfl, rfl, rfl, rfl⟩ rfl rfl rfl rfl rfl (by kernel_rfl) Try.func4 (by kernel_rfl)
    (of_decide_eq_true (by kernel_rfl)) (by unfold Func.isWrapper; first | (rw [if_pos (by decide +kernel)]; kernel_rfl) | (rw [if_neg (by decide +kernel)]; exact ⟨rfl, rfl⟩))
    (fun os started H enc _ => fnLanesPartition_lifted os started H enc)

end Go.Proofs.Ytnjjbplocokdeaa
