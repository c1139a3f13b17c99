/- Law FnLanesApart holds for every input; no conditions of our own. -/
import Derived.Test.YtnjjbplocokdeaaRows
import Derived.Test.YtnjjbplocokdeaaBu0
import Derived.Test.YtnjjbplocokdeaaBu1
import Derived.Test.YtnjjbplocokdeaaBu2
import Derived.Test.YtnjjbplocokdeaaBu3
import Derived.Deep.QuietTactic
import Derived.BigQuiet
namespace Go.Proofs.Ytnjjbplocokdeaa
open Go.ChangeShapes Go.WideShapes Go.ChangeAt Go.RowKit

set_option maxRecDepth 8000 in
set_option maxHeartbeats 8000000 in
theorem fnLanesApart_walk (a : Option Addr) (cap : Nat) (zs : List Int) (w : World) (hk : zs.length ≤ cap) (_hm : zs.length ≤ maxLen) (hi : zs = [] ∨ ∃ b off, a = some ⟨b, off, none⟩ ∧ b < w.heap.size ∧ ∀ j (h : j < zs.length), w.cell? ⟨b, off + j, none⟩ = some (.int .u8 zs[j])) (hw : ∀ z ∈ zs, (Lit.int .u8 z).wf = true) :
    Calls Try.prog 5 #[.slice a zs.length cap] w fun e w' => e = .returned (.bool true) ∧ Below w.heap.size w w' := by
  by_cases hl : 1048576 < zs.length
  · go_enter Try.func5, Try.ntmps5
    go_wp2
    go_ret
    exact ⟨rfl, Below.refl _ _⟩
  have hcode := codeAt_of hk (by omega) hi hw
  have Hcode := Lib.hid hcode; clear hcode hi hw
  go_enter Try.func5, Try.ntmps5
  go_wp2_with fail
  refine (spec_DrawLanesOf a cap zs _ Hcode.out).mono ?_
  rintro e1 w1 ⟨xs, vx, rfl, hx, hx17, hb1⟩
  obtain ⟨av, cv, rfl, hcv⟩ := OwnX.sl (l := xs) hx
  obtain ⟨fx, hT⟩ := OwnX.txs (l := xs) hx
  have hw0 := hb1.size
  have Tx := Lib.hid hT
  have Hb := Lib.hid hb1
  clear hx hT hb1
  have HI := Lib.hid (fun W (h : Txs W xs (.slice av xs.length cv) fx) => impl_LanesOf xs av cv fx W (by omega) h)
  have HS := Lib.hid (fun W (h : Txs W xs (.slice av xs.length cv) fx) => spec_LanesOf xs av cv fx W (by omega) h)
  obtain ⟨hn16, hr16⟩ := lns_small xs
  obtain ⟨ls, hls⟩ : ∃ ls, ls = lnsN xs := ⟨_, rfl⟩
  rw [← hls] at HI HS hn16 hr16
  have Hls := Lib.hid hls; have HR := Lib.hid hr16; clear hls hr16
  go_wp2_with fail
  refine (HI.out _ Tx.out).mono ?_
  rintro e w2 ⟨uo, rfl, ho, hb⟩
  obtain ⟨fo, hn⟩ := ho.lns
  obtain ⟨ao, co, rfl⟩ := hn.slice
  have hn' := Lib.hid hn; clear hn ho
  have Tx := Lib.hid (show Txs w2 (xs) (.slice av xs.length cv) fx from Tx.out.under hb)
  have hsw2 := hb.size
  have Hb := Lib.hid (below_step Hb.out Hb.out.size hb)
  have To := Lib.hid (show Lns w2 ls (.slice ao ls.length co) fo from hn'.out)
  clear hn' hb
  go_wp2_with fail
  refine (HS.out _ Tx.out).mono ?_
  rintro e w3 ⟨uk, rfl, ho, hb⟩
  obtain ⟨fk, hn⟩ := ho.lns
  obtain ⟨ak, ck, rfl⟩ := hn.slice
  have hn' := Lib.hid hn; clear hn ho
  have Tx := Lib.hid (show Txs w3 (xs) (.slice av xs.length cv) fx from Tx.out.under hb)
  have To := Lib.hid (show Lns w3 (ls) (.slice ao ls.length co) fo from To.out.under hb)
  have hsw3 := hb.size
  have Hb := Lib.hid (below_step Hb.out Hb.out.size hb)
  have Tk := Lib.hid (show Lns w3 ls (.slice ak ls.length ck) fk from hn'.out)
  clear hn' hb
  clear HI HS
  have HQ := Lib.hid (fun W h h' => laws_sameLanes ls ao ak co ck fo fk W (by omega) (fun l hl => by have := HR.out l hl; omega) h h')
  go_wp2_with fail
  refine (HQ.out _ To.out Tk.out).mono ?_
  rintro e w4 ⟨rfl, hb⟩
  have Tx := Lib.hid (show Txs w4 (xs) (.slice av xs.length cv) fx from Tx.out.under hb)
  have To := Lib.hid (show Lns w4 (ls) (.slice ao ls.length co) fo from To.out.under hb)
  have Tk := Lib.hid (show Lns w4 (ls) (.slice ak ls.length ck) fk from Tk.out.under hb)
  have hsw4 := hb.size
  have Hb := Lib.hid (below_step Hb.out Hb.out.size hb)
  clear hb
  by_cases h0 : ls.length = 0
  case pos =>
    clear HQ
    go_wp2
    go_loopw [6] (fun i wr => i = .int .i64 0 ∧ wr = w4) (fun _ _ => 0)
    case atStart => exact ⟨rfl, by first | trivial | rfl⟩
    case round =>
      obtain ⟨rfl, rfl⟩ := hrel
      have hlt' : ¬ (0 : Int) < (ls.length : Int) := by omega
      go_wp2
      go_ret
      exact ⟨rfl, Hb.out⟩
  replace h0 : 0 < ls.length := by omega
  obtain ⟨hv, hpl⟩ := plw_of Hls.out h0
  have PL := Lib.hid hpl
  obtain ⟨b, off, P, Rb, Ro, rfl, hlr⟩ := lns_rd To.out h0 hpl.pos
  have LR := Lib.hid hlr
  have hx16 := vld_len hv
  clear hpl hlr
  have hx0 : 0 < xs.length := by
    have h1 := PL.out.lt 0 h0 0 (PL.out.pos 0 h0)
    omega
  obtain ⟨bx, ox, hav, hbx, hxat⟩ := Tx.out.at hx0
  have HX := Lib.hid hxat
  subst hav
  clear HQ hxat Tx Tk hx0
  go_wp2
  go_loopw [6] (fun q wr => ∃ qq : Nat, qq ≤ ls.length ∧ q = .int .i64 qq ∧ Below w4.heap.size w4 wr) (fun q _ => ls.length - (intOf q).toNat)
  case atStart => exact ⟨0, Nat.zero_le _, rfl, Below.refl _ _⟩
  case round =>
    obtain ⟨i, hi, rfl, hbi⟩ := hrel
    have Bi := Lib.hid hbi
    have Li := Lib.hid (LR.out.below hbi)
    clear hbi
    by_cases hlt : i < ls.length
    case neg =>
      have hlt' : ¬ (i : Int) < (ls.length : Int) := by omega
      go_wp2
      go_ret
      exact ⟨rfl, below_step Hb.out Hb.out.size Bi.out⟩
    case pos =>
      have hlt' : (i : Int) < (ls.length : Int) := by omega
      go_wp2
      go_loopw [7] (fun q wr => ∃ qq : Nat, qq ≤ i ∧ q = .int .i64 qq ∧ Below w4.heap.size w4 wr) (fun q _ => i - (intOf q).toNat)
      case atStart => exact ⟨0, Nat.zero_le _, rfl, Bi.out⟩
      case round =>
        obtain ⟨k, hk, rfl, hbk⟩ := hrel
        have Bk := Lib.hid hbk
        have Lk := Lib.hid (LR.out.below hbk)
        clear hbk
        by_cases hki : k < i
        case neg =>
          have hki' : ¬ (k : Int) < (i : Int) := by omega
          go_wp2
          go_roundw
          case rel => exact ⟨i + 1, by omega, by go_num, Bk.out⟩
          case measure => simp [intOf]; omega
        case pos =>
          have hki' : (k : Int) < (i : Int) := by omega
          have hkl : k < ls.length := by omega
          have hkl' : (k : Int) < (ls.length : Int) := by omega
          go_wp2
          go_loopw [8] (fun q wr => ∃ qq : Nat, qq ≤ ls[i].length ∧ q = .int .i64 qq ∧ Below w4.heap.size w4 wr) (fun q _ => ls[i].length - (intOf q).toNat)
          case atStart => exact ⟨0, Nat.zero_le _, rfl, Bk.out⟩
          case round =>
            obtain ⟨a, ha, rfl, hba⟩ := hrel
            have Ba := Lib.hid hba
            have La := Lib.hid (LR.out.below hba)
            clear hba
            have hni : ls[i].length ≤ 16 := HR.out _ (List.getElem_mem hlt)
            have hci := (La.out.row i hlt).1
            obtain ⟨cc, hP⟩ := (La.out.row i hlt).2
            rw [hP] at hci
            have HPi := Lib.hid hP
            clear hP
            by_cases hai : a < ls[i].length
            case neg =>
              have hai' : ¬ (a : Int) < (ls[i].length : Int) := by omega
              clear HPi
              go_wp2
              go_roundw
              case rel => exact ⟨k + 1, by omega, by go_num, Ba.out⟩
              case measure => simp [intOf]; omega
            case pos =>
              have hai' : (a : Int) < (ls[i].length : Int) := by omega
              go_wp2
              clear hci
              go_loopw [9] (fun q wr => ∃ qq : Nat, qq ≤ ls[k].length ∧ q = .int .i64 qq ∧ Below w4.heap.size w4 wr) (fun q _ => ls[k].length - (intOf q).toNat)
              case atStart => exact ⟨0, Nat.zero_le _, rfl, Ba.out⟩
              case round =>
                obtain ⟨b', hb', rfl, hbb'⟩ := hrel
                have Bb' := Lib.hid hbb'
                have Lb' := Lib.hid (LR.out.below hbb')
                clear hbb'
                have hnk : ls[k].length ≤ 16 := HR.out _ (List.getElem_mem hkl)
                have hck := (Lb'.out.row k hkl).1
                obtain ⟨ck', hP⟩ := (Lb'.out.row k hkl).2
                rw [hP] at hck
                clear hP
                by_cases hbk : b' < ls[k].length
                case neg =>
                  have hbk' : ¬ (b' : Int) < (ls[k].length : Int) := by omega
                  clear HPi
                  go_wp2
                  go_roundw
                  case rel => exact ⟨a + 1, by omega, by go_num, Bb'.out⟩
                  case measure => simp [intOf]; omega
                case pos =>
                  have hbk' : (b' : Int) < (ls[k].length : Int) := by omega
                  have hci := (Lb'.out.row i hlt).1
                  rw [HPi.out] at hci
                  have hxa := Lb'.out.cell i hlt a hai
                  have hyb := Lb'.out.cell k hkl b' hbk
                  have hx := PL.out.lt i hlt a hai
                  have hy := PL.out.lt k hkl b' hbk
                  have hcf := PL.out.apart i hlt k hkl (by omega) a hai b' hbk
                  rw [gd_tx hx, gd_tx hy] at hcf
                  have HQ := Lib.hid (fun W => impl_TxnsConflict xs[ls[i][a]] xs[ls[k][b']] W)
                  rw [hcf] at HQ
                  have hxat := HX.out
                  obtain ⟨ex0, ex1, ex2, ex3⟩ := hxat (ls[i][a]) hx
                  have dx0 := (Bb'.out.cell (p := ⟨bx, ox + ls[i][a] * 4, none⟩) hbx).trans ex0
                  have dx1 := (Bb'.out.cell (p := ⟨bx, ox + ls[i][a] * 4 + 1, none⟩) hbx).trans ex1
                  have dx2 := (Bb'.out.cell (p := ⟨bx, ox + ls[i][a] * 4 + 2, none⟩) hbx).trans ex2
                  have dx3 := (Bb'.out.cell (p := ⟨bx, ox + ls[i][a] * 4 + 3, none⟩) hbx).trans ex3
                  clear ex0 ex1 ex2 ex3
                  obtain ⟨ey0, ey1, ey2, ey3⟩ := hxat (ls[k][b']) hy
                  have dy0 := (Bb'.out.cell (p := ⟨bx, ox + ls[k][b'] * 4, none⟩) hbx).trans ey0
                  have dy1 := (Bb'.out.cell (p := ⟨bx, ox + ls[k][b'] * 4 + 1, none⟩) hbx).trans ey1
                  have dy2 := (Bb'.out.cell (p := ⟨bx, ox + ls[k][b'] * 4 + 2, none⟩) hbx).trans ey2
                  have dy3 := (Bb'.out.cell (p := ⟨bx, ox + ls[k][b'] * 4 + 3, none⟩) hbx).trans ey3
                  clear ey0 ey1 ey2 ey3
                  have hx' : ((ls[i][a] : Nat) : Int) < (xs.length : Int) := by omega
                  have hy' : ((ls[k][b'] : Nat) : Int) < (xs.length : Int) := by omega
                  clear hxat hcf HPi
                  unfold agT at HQ
                  generalize xs[ls[i][a]] = X at *
                  generalize xs[ls[k][b']] = Y at *
                  obtain ⟨xf, xt, xs', xe⟩ := X
                  obtain ⟨yf, yt, ys', ye⟩ := Y
                  dsimp only at *
                  obtain ⟨x, hxe⟩ : ∃ x, x = ls[i][a] := ⟨_, rfl⟩
                  obtain ⟨y, hye⟩ : ∃ y, y = ls[k][b'] := ⟨_, rfl⟩
                  rw [← hxe] at hxa hx hx' dx0 dx1 dx2 dx3
                  rw [← hye] at hyb hy hy' dy0 dy1 dy2 dy3
                  clear hxe hye
                  go_wp2_with fail
                  refine wp_region_held_drew (S := fun W => W.cell? ⟨b, off + i, none⟩ = some (.slice (some ⟨Rb i, Ro i, none⟩) ls[i].length cc) ∧ W.cell? ⟨Rb i, Ro i + a, none⟩ = some (.int .i64 ((x : Nat) : Int)) ∧ W.cell? ⟨bx, ox + x * 4, none⟩ = some (.int .i64 xf) ∧ W.cell? ⟨bx, ox + x * 4 + 1, none⟩ = some (.int .i64 xt) ∧ W.cell? ⟨bx, ox + x * 4 + 2, none⟩ = some (.int .i64 xs') ∧ W.cell? ⟨bx, ox + x * 4 + 3, none⟩ = some (.int .i64 xe) ∧ W.cell? ⟨b, off + k, none⟩ = some (.slice (some ⟨Rb k, Ro k, none⟩) ls[k].length ck') ∧ W.cell? ⟨Rb k, Ro k + b', none⟩ = some (.int .i64 ((y : Nat) : Int)) ∧ W.cell? ⟨bx, ox + y * 4, none⟩ = some (.int .i64 yf) ∧ W.cell? ⟨bx, ox + y * 4 + 1, none⟩ = some (.int .i64 yt) ∧ W.cell? ⟨bx, ox + y * 4 + 2, none⟩ = some (.int .i64 ys') ∧ W.cell? ⟨bx, ox + y * 4 + 3, none⟩ = some (.int .i64 ye)) (by kernel_rfl) ⟨hci, hxa, dx0, dx1, dx2, dx3, hck, hyb, dy0, dy1, dy2, dy3⟩ (fun hH => ?_)
                  refine takeH 0 (v := ?vap1) rfl (by kernel_rfl) (by kernel_rfl) (by kernel_rfl) (fun _ _ _ h => h) hH rfl ?yap1 ?rap1
                  case yap1 => intro W hSw; go_simp; try with_reducible rfl
                  try simp only [Act.put, List.setIfInBounds_toArray, List.set_cons_zero, List.set_cons_succ]
                  refine takeH 1 (v := ?vap2) rfl (by kernel_rfl) (by kernel_rfl) (by kernel_rfl) (fun _ _ _ h => h) hH rfl ?yap2 ?rap2
                  case yap2 => intro W hSw; go_simp; try with_reducible rfl
                  try simp only [Act.put, List.setIfInBounds_toArray, List.set_cons_zero, List.set_cons_succ]
                  refine takeH 2 (v := ?vap3) rfl (by kernel_rfl) (by kernel_rfl) (by kernel_rfl) (fun _ _ _ h => h) hH rfl ?yap3 ?rap3
                  case yap3 => intro W hSw; go_simp; try with_reducible rfl
                  try simp only [Act.put, List.setIfInBounds_toArray, List.set_cons_zero, List.set_cons_succ]
                  refine takeH 3 (v := ?vap4) rfl (by kernel_rfl) (by kernel_rfl) (by kernel_rfl) (fun _ _ _ h => h) hH rfl ?yap4 ?rap4
                  case yap4 => intro W hSw; go_simp; try with_reducible rfl
                  try simp only [Act.put, List.setIfInBounds_toArray, List.set_cons_zero, List.set_cons_succ]
                  refine takeH 4 (v := ?vap5) rfl (by kernel_rfl) (by kernel_rfl) (by kernel_rfl) (fun _ _ _ h => h) hH rfl ?yap5 ?rap5
                  case yap5 => intro W hSw; obtain ⟨s1, s2, s3, s4, s5, s6, t1, t2, t3, t4, t5, t6⟩ := hSw; go_simp; try with_reducible rfl
                  try simp only [Act.put, List.setIfInBounds_toArray, List.set_cons_zero, List.set_cons_succ]
                  refine takeH 5 (v := ?vap6) rfl (by kernel_rfl) (by kernel_rfl) (by kernel_rfl) (fun _ _ _ h => h) hH rfl ?yap6 ?rap6
                  case yap6 => intro W hSw; go_simp; try with_reducible rfl
                  try simp only [Act.put, List.setIfInBounds_toArray, List.set_cons_zero, List.set_cons_succ]
                  refine takeH 6 (v := ?vap7) rfl (by kernel_rfl) (by kernel_rfl) (by kernel_rfl) (fun _ _ _ h => h) hH rfl ?yap7 ?rap7
                  case yap7 => intro W hSw; go_simp; try with_reducible rfl
                  try simp only [Act.put, List.setIfInBounds_toArray, List.set_cons_zero, List.set_cons_succ]
                  refine takeH 7 (v := ?vap8) rfl (by kernel_rfl) (by kernel_rfl) (by kernel_rfl) (fun _ _ _ h => h) hH rfl ?yap8 ?rap8
                  case yap8 => intro W hSw; obtain ⟨s1, s2, s3, s4, s5, s6, t1, t2, t3, t4, t5, t6⟩ := hSw; go_simp; try with_reducible rfl
                  try simp only [Act.put, List.setIfInBounds_toArray, List.set_cons_zero, List.set_cons_succ]
                  refine takeH 8 (v := ?vap9) rfl (by kernel_rfl) (by kernel_rfl) (by kernel_rfl) (fun _ _ _ h => h) hH rfl ?yap9 ?rap9
                  case yap9 => intro W hSw; go_simp; try with_reducible rfl
                  try simp only [Act.put, List.setIfInBounds_toArray, List.set_cons_zero, List.set_cons_succ]
                  refine takeH 9 (v := ?vap10) rfl (by kernel_rfl) (by kernel_rfl) (by kernel_rfl) (fun _ _ _ h => h) hH rfl ?yap10 ?rap10
                  case yap10 => intro W hSw; obtain ⟨s1, s2, s3, s4, s5, s6, t1, t2, t3, t4, t5, t6⟩ := hSw; go_simp; try with_reducible rfl
                  try simp only [Act.put, List.setIfInBounds_toArray, List.set_cons_zero, List.set_cons_succ]
                  refine takeH 10 (v := ?vap11) rfl (by kernel_rfl) (by kernel_rfl) (by kernel_rfl) (fun _ _ _ h => h) hH rfl ?yap11 ?rap11
                  case yap11 => intro W hSw; go_simp; try with_reducible rfl
                  try simp only [Act.put, List.setIfInBounds_toArray, List.set_cons_zero, List.set_cons_succ]
                  refine takeH 11 (v := ?vap12) rfl (by kernel_rfl) (by kernel_rfl) (by kernel_rfl) (fun _ _ _ h => h) hH rfl ?yap12 ?rap12
                  case yap12 => intro W hSw; go_simp; try with_reducible rfl
                  try simp only [Act.put, List.setIfInBounds_toArray, List.set_cons_zero, List.set_cons_succ]
                  refine takeH 12 (v := ?vap13) rfl (by kernel_rfl) (by kernel_rfl) (by kernel_rfl) (fun _ _ _ h => h) hH rfl ?yap13 ?rap13
                  case yap13 => intro W hSw; go_simp; try with_reducible rfl
                  try simp only [Act.put, List.setIfInBounds_toArray, List.set_cons_zero, List.set_cons_succ]
                  refine takeH 13 (v := ?vap14) rfl (by kernel_rfl) (by kernel_rfl) (by kernel_rfl) (fun _ _ _ h => h) hH rfl ?yap14 ?rap14
                  case yap14 => intro W hSw; go_simp; try with_reducible rfl
                  try simp only [Act.put, List.setIfInBounds_toArray, List.set_cons_zero, List.set_cons_succ]
                  refine takeH 14 (v := ?vap15) rfl (by kernel_rfl) (by kernel_rfl) (by kernel_rfl) (fun _ _ _ h => h) hH rfl ?yap15 ?rap15
                  case yap15 => intro W hSw; obtain ⟨s1, s2, s3, s4, s5, s6, t1, t2, t3, t4, t5, t6⟩ := hSw; go_simp; try with_reducible rfl
                  try simp only [Act.put, List.setIfInBounds_toArray, List.set_cons_zero, List.set_cons_succ]
                  refine takeH 15 (v := ?vap16) rfl (by kernel_rfl) (by kernel_rfl) (by kernel_rfl) (fun _ _ _ h => h) hH rfl ?yap16 ?rap16
                  case yap16 => intro W hSw; go_simp; try with_reducible rfl
                  try simp only [Act.put, List.setIfInBounds_toArray, List.set_cons_zero, List.set_cons_succ]
                  refine takeH 16 (v := ?vap17) rfl (by kernel_rfl) (by kernel_rfl) (by kernel_rfl) (fun _ _ _ h => h) hH rfl ?yap17 ?rap17
                  case yap17 => intro W hSw; go_simp; try with_reducible rfl
                  try simp only [Act.put, List.setIfInBounds_toArray, List.set_cons_zero, List.set_cons_succ]
                  refine takeH 17 (v := ?vap18) rfl (by kernel_rfl) (by kernel_rfl) (by kernel_rfl) (fun _ _ _ h => h) hH rfl ?yap18 ?rap18
                  case yap18 => intro W hSw; obtain ⟨s1, s2, s3, s4, s5, s6, t1, t2, t3, t4, t5, t6⟩ := hSw; go_simp; try with_reducible rfl
                  try simp only [Act.put, List.setIfInBounds_toArray, List.set_cons_zero, List.set_cons_succ]
                  refine takeH 18 (v := ?vap19) rfl (by kernel_rfl) (by kernel_rfl) (by kernel_rfl) (fun _ _ _ h => h) hH rfl ?yap19 ?rap19
                  case yap19 => intro W hSw; go_simp; try with_reducible rfl
                  try simp only [Act.put, List.setIfInBounds_toArray, List.set_cons_zero, List.set_cons_succ]
                  refine takeH 19 (v := ?vap20) rfl (by kernel_rfl) (by kernel_rfl) (by kernel_rfl) (fun _ _ _ h => h) hH rfl ?yap20 ?rap20
                  case yap20 => intro W hSw; obtain ⟨s1, s2, s3, s4, s5, s6, t1, t2, t3, t4, t5, t6⟩ := hSw; go_simp; try with_reducible rfl
                  try simp only [Act.put, List.setIfInBounds_toArray, List.set_cons_zero, List.set_cons_succ]
                  refine callH 20 rfl (by kernel_rfl) rfl (fun K hK => ?_)
                  go_simp
                  refine (HQ.out _).mono ?_
                  rintro e9 w9 ⟨rfl, hb9⟩
                  have B9 := Lib.hid (below_step (Bb'.out.drew) (Bb'.out.drew).size hb9)
                  have hlv : w9.cell? ⟨b, off + i, none⟩ = some (.slice (some ⟨Rb i, Ro i, none⟩) ls[i].length cc) ∧ w9.cell? ⟨Rb i, Ro i + a, none⟩ = some (.int .i64 ((x : Nat) : Int)) ∧ w9.cell? ⟨bx, ox + x * 4, none⟩ = some (.int .i64 xf) ∧ w9.cell? ⟨bx, ox + x * 4 + 1, none⟩ = some (.int .i64 xt) ∧ w9.cell? ⟨bx, ox + x * 4 + 2, none⟩ = some (.int .i64 xs') ∧ w9.cell? ⟨bx, ox + x * 4 + 3, none⟩ = some (.int .i64 xe) ∧ w9.cell? ⟨b, off + k, none⟩ = some (.slice (some ⟨Rb k, Ro k, none⟩) ls[k].length ck') ∧ w9.cell? ⟨Rb k, Ro k + b', none⟩ = some (.int .i64 ((y : Nat) : Int)) ∧ w9.cell? ⟨bx, ox + y * 4, none⟩ = some (.int .i64 yf) ∧ w9.cell? ⟨bx, ox + y * 4 + 1, none⟩ = some (.int .i64 yt) ∧ w9.cell? ⟨bx, ox + y * 4 + 2, none⟩ = some (.int .i64 ys') ∧ w9.cell? ⟨bx, ox + y * 4 + 3, none⟩ = some (.int .i64 ye) := by
                    obtain ⟨s1, s2, s3, s4, s5, s6, t1, t2, t3, t4, t5, t6⟩ := hH
                    have hbx2 := Nat.lt_of_lt_of_le hbx (Bb'.out.drew).size
                    exact ⟨(hb9.cell (p := ⟨b, off + i, none⟩) Lb'.out.lb).trans s1, (hb9.cell (p := ⟨Rb i, Ro i + a, none⟩) (Lb'.out.lr i hlt)).trans s2, (hb9.cell (p := ⟨bx, ox + x * 4, none⟩) hbx2).trans s3, (hb9.cell (p := ⟨bx, ox + x * 4 + 1, none⟩) hbx2).trans s4, (hb9.cell (p := ⟨bx, ox + x * 4 + 2, none⟩) hbx2).trans s5, (hb9.cell (p := ⟨bx, ox + x * 4 + 3, none⟩) hbx2).trans s6, (hb9.cell (p := ⟨b, off + k, none⟩) Lb'.out.lb).trans t1, (hb9.cell (p := ⟨Rb k, Ro k + b', none⟩) (Lb'.out.lr k hkl)).trans t2, (hb9.cell (p := ⟨bx, ox + y * 4, none⟩) hbx2).trans t3, (hb9.cell (p := ⟨bx, ox + y * 4 + 1, none⟩) hbx2).trans t4, (hb9.cell (p := ⟨bx, ox + y * 4 + 2, none⟩) hbx2).trans t5, (hb9.cell (p := ⟨bx, ox + y * 4 + 3, none⟩) hbx2).trans t6⟩
                  refine hK.out _ _ hlv (fun hH => ?_)
                  clear hK K hb9
                  try simp only [Act.put, List.setIfInBounds_toArray, List.set_cons_zero, List.set_cons_succ]
                  refine wpAnyH_done (by kernel_rfl) ?_ _
                  try simp only [Act.put]
                  clear hH hci hck hxa hyb dx0 dx1 dx2 dx3 dy0 dy1 dy2 dy3
                  go_wp2
                  go_roundw
                  case rel => exact ⟨b' + 1, by omega, by go_num, B9.out⟩
                  case measure => simp [intOf]; omega

theorem fnLanesApart_own : ownKnob Try.prog.godebug = none := by kernel_rfl
theorem fnLanesApart_laidOut : laidOutB Try.prog = true := by kernel_rfl

set_option maxRecDepth 8000 in
theorem fnLanesApart_lifted (os : Os) (started : os.Started) (H : Type) (enc : TypeId × Value → H) :
    ReturnsInHanded {} Try.checked os 5 .any (Rows.fnLanesApartSpec.pre6 enc Try.prog Try.f5 Rows.fnLanesApartRow.domain false) (Rows.fnLanesApartSpec.post enc Try.prog Try.f5 false true false false) := by
  refine law_lifted (C := Try.checked) (tb := 4) fnLanesApart_own fnLanesApart_laidOut started (by kernel_rfl) Try.func5 rfl Try.underlying4 rfl (by rw [Try.params5]; exact of_decide_eq_true (by kernel_rfl)) ?_
    (ChangeSpec.witness6 (enc := enc) (C := Try.checked) false ⟨#[], #[.slice none 0 0], []⟩ 8 (by kernel_rfl) (by kernel_rfl) (by kernel_rfl) (by kernel_rfl)) ?_
  · intro ds hds
    rw [Try.params5] at hds
    match ds, hds with
    | [d0], _ => rfl
  · intro W base args ds p hval0 hA0
    have hval : ∀ (j : Nat) t v, Try.f5.params[j]? = some t → args[j]? = some v → Value.okWide Try.prog W .any base t v := hval0
    have hA : DataW.TrodAll enc Try.prog W 0 (fun _ => true) true Try.f5.params.toList args.toList ds p := hA0
    rw [Try.params5] at hA hval
    obtain ⟨v0, vs0, d0, ds0, p0, q0, hargs0, rfl, rfl, h0, r0⟩ := trodAll_cons hA
    obtain ⟨hnil, rfl, rfl⟩ := trodAll_nil r0
    subst hnil
    obtain rfl : args = #[v0] := by cases args; simp_all
    obtain ⟨a0, cap0, zs0, rfl, hk0, hm0, hi0, hw0⟩ := open_slice_ints Try.underlying22 Try.underlying5 (by kernel_rfl) (hval 0 22 v0 rfl rfl) h0
    exact fnLanesApart_walk a0 cap0 zs0 W hk0 hm0 hi0 hw0

set_option maxRecDepth 8000 in
theorem fnLanesApart_holds : Rows.FnLanesApartSaid :=
  OpenClaim.holds_of_wide 5 Try.f5 rfl rfl rfl rfl rfl rfl rfl ⟨rfl, rfl, rfl, rfl, rfl⟩ rfl rfl rfl rfl rfl (by kernel_rfl) Try.func5 (by kernel_rfl)
    (of_decide_eq_true (by kernel_rfl)) (by unfold Func.isWrapper; first | (rw [if_pos (by decide +kernel)]; kernel_rfl) | (rw [if_neg (by decide +kernel)]; exact ⟨rfl, rfl⟩))
    (fun os started H enc _ => fnLanesApart_lifted os started H enc)

end Go.Proofs.Ytnjjbplocokdeaa
