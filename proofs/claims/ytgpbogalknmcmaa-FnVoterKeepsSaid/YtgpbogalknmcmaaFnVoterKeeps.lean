/- Law FnVoterKeeps holds for every input; no conditions of our own. -/
import Derived.Test.YtgpbogalknmcmaaRows
import Derived.Test.YtgpbogalknmcmaaBu0
import Derived.Test.YtgpbogalknmcmaaBu1
import Derived.Test.YtgpbogalknmcmaaBu4
import Derived.Test.YtgpbogalknmcmaaBu5
import Derived.Deep.QuietTactic
import Derived.BigQuiet
namespace Go.Proofs.Ytgpbogalknmcmaa
open Go.ChangeShapes Go.WideShapes Go.ChangeAt Go.RowKit

set_option maxHeartbeats 4000000 in
theorem fnVoterKeeps_walk (a : Option Addr) (cap : Nat) (zs : List Int) (w : World) (hk : zs.length ≤ cap) (_hm : zs.length ≤ maxLen) (hi : zs = [] ∨ ∃ b off, a = some ⟨b, off, none⟩ ∧ b < w.heap.size ∧ ∀ j (h : j < zs.length), w.cell? ⟨b, off + j, none⟩ = some (.int .u8 zs[j])) (hw : ∀ z ∈ zs, (Lit.int .u8 z).wf = true) :
    Calls Try.prog 5 #[.slice a zs.length cap] w fun e w' => e = .returned (.bool true) ∧ Below w.heap.size w w' := by
  by_cases hl : 1048576 < zs.length
  · go_enter Try.func5, Try.ntmps5
    go_wp2
    go_ret
    exact ⟨rfl, Below.refl _ _⟩
  have hcode := codeAt_of hk (by omega) hi hw
  have Hcode := Lib.hid hcode; clear hcode hi hw
  go_enter Try.func5, Try.ntmps5
  go_wp2_with fail
  refine (spec_DrawVoterSign a cap zs _ Hcode.out).mono ?_
  rintro e w1 ⟨f, g, ux, fx, ⟨vr, va, vd⟩, rfl, hx, hgl, hb1⟩
  dsimp only at *
  obtain ⟨ax, cx, rfl⟩ := Vts.slice hx
  have Tx := Lib.hid hx; have Hb := Lib.hid hb1
  clear hx hb1
  have hal : Below w1.heap.size w1 (w1.alloc (.cells #[.int .i64 f, .slice ax g.length cx] 25)) := (Below.refl _ _).alloc (Nat.le_refl _) _
  have Tx := Lib.hid (show Vts (w1.alloc (.cells #[.int .i64 f, .slice ax g.length cx] 25)) g (.slice ax g.length cx) fx from Tx.out.under hal)
  have Sx := Lib.hid (Str.new w1 25 #[.int .i64 f, .slice ax g.length cx])
  have hzx : (w1.alloc (.cells #[.int .i64 f, .slice ax g.length cx] 25)).heap.size = w1.heap.size + 1 := by simp
  have Hb := Lib.hid (below_step Hb.out Hb.out.size hal)
  clear hal
  have hal : Below (w1.alloc (.cells #[.int .i64 f, .slice ax g.length cx] 25)).heap.size (w1.alloc (.cells #[.int .i64 f, .slice ax g.length cx] 25)) ((w1.alloc (.cells #[.int .i64 f, .slice ax g.length cx] 25)).alloc (.cells #[.int .i64 vr, .int .i64 va, .int .i64 vd] 27)) := (Below.refl _ _).alloc (Nat.le_refl _) _
  have Tx := Lib.hid (show Vts ((w1.alloc (.cells #[.int .i64 f, .slice ax g.length cx] 25)).alloc (.cells #[.int .i64 vr, .int .i64 va, .int .i64 vd] 27)) g (.slice ax g.length cx) fx from Tx.out.under hal)
  have Sx := Lib.hid (show Str ((w1.alloc (.cells #[.int .i64 f, .slice ax g.length cx] 25)).alloc (.cells #[.int .i64 vr, .int .i64 va, .int .i64 vd] 27)) (w1.heap.size) 25 #[.int .i64 f, .slice ax g.length cx] from Sx.out.alloc _)
  have Sv := Lib.hid (Str.new (w1.alloc (.cells #[.int .i64 f, .slice ax g.length cx] 25)) 27 #[.int .i64 vr, .int .i64 va, .int .i64 vd])
  have hzv : ((w1.alloc (.cells #[.int .i64 f, .slice ax g.length cx] 25)).alloc (.cells #[.int .i64 vr, .int .i64 va, .int .i64 vd] 27)).heap.size = (w1.alloc (.cells #[.int .i64 f, .slice ax g.length cx] 25)).heap.size + 1 := by simp
  have Hb := Lib.hid (below_step Hb.out Hb.out.size hal)
  clear hal
  have Sv := Lib.hid (show Str ((w1.alloc (.cells #[.int .i64 f, .slice ax g.length cx] 25)).alloc (.cells #[.int .i64 vr, .int .i64 va, .int .i64 vd] 27)) (w1.heap.size + 1) 27 #[.int .i64 vr, .int .i64 va, .int .i64 vd] by have h9 := Sv.out; simp only [World.size_alloc] at h9; exact h9)
  have HI := Lib.hid (fun W h => impl_VoterSign f g (.slice ax g.length cx) fx vr va vd W (by omega) h)
  have HS := Lib.hid (fun W h => spec_VoterSign f g (.slice ax g.length cx) fx vr va vd W (by omega) h)
  have hGl := sg_len f g ⟨vr, va, vd⟩
  have HA := Lib.hid (keeps_fact (f := f) (g := g) (v := ⟨vr, va, vd⟩))
  have cx_0 := Sx.out.cell 0 (v := .int .i64 f) rfl
  have cx_1 := Sx.out.cell 1 (v := .slice ax g.length cx) rfl
  have cv_0 := Sv.out.cell 0 (v := .int .i64 vr) rfl
  have cv_1 := Sv.out.cell 1 (v := .int .i64 va) rfl
  have cv_2 := Sv.out.cell 2 (v := .int .i64 vd) rfl
  go_wp2_with fail
  generalize ((w1.alloc (.cells #[.int .i64 f, .slice ax g.length cx] 25)).alloc (.cells #[.int .i64 vr, .int .i64 va, .int .i64 vd] 27)) = W1 at *
  clear cx_0 cx_1 cv_0 cv_1 cv_2
  refine (HI.out _ Tx.out).mono ?_
  rintro e w2 ⟨vo, rfl, hor, hb⟩
  generalize sgF f g ⟨vr, va, vd⟩ = F at *
  generalize sgG f g ⟨vr, va, vd⟩ = G at *
  generalize sgB f g ⟨vr, va, vd⟩ = B at *
  obtain ⟨fo, hv9⟩ := hor.reads
  obtain ⟨ao, co, rfl⟩ := Vts.slice (show Vts w2 G vo fo from hv9)
  have hT : Vts w2 G (.slice ao G.length co) fo := hv9
  clear hor hv9
  have Tx := Lib.hid (show Vts w2 g (.slice ax g.length cx) fx from Tx.out.under hb)
  have Sx := Lib.hid (show Str w2 (w1.heap.size) 25 #[.int .i64 f, .slice ax g.length cx] from (hb.block _ Sx.out.lt).trans Sx.out)
  have Sv := Lib.hid (show Str w2 (w1.heap.size + 1) 27 #[.int .i64 vr, .int .i64 va, .int .i64 vd] from (hb.block _ Sv.out.lt).trans Sv.out)
  have hsw2 := hb.size
  have Hb := Lib.hid (below_step Hb.out Hb.out.size hb)
  have To := Lib.hid hT
  clear hT hb
  have hal : Below w2.heap.size w2 (w2.alloc (.cells #[.int .i64 F, .slice ao G.length co] 25)) := (Below.refl _ _).alloc (Nat.le_refl _) _
  have Tx := Lib.hid (show Vts (w2.alloc (.cells #[.int .i64 F, .slice ao G.length co] 25)) g (.slice ax g.length cx) fx from Tx.out.under hal)
  have To := Lib.hid (show Vts (w2.alloc (.cells #[.int .i64 F, .slice ao G.length co] 25)) G (.slice ao G.length co) fo from To.out.under hal)
  have Sx := Lib.hid (show Str (w2.alloc (.cells #[.int .i64 F, .slice ao G.length co] 25)) (w1.heap.size) 25 #[.int .i64 f, .slice ax g.length cx] from Sx.out.alloc _)
  have Sv := Lib.hid (show Str (w2.alloc (.cells #[.int .i64 F, .slice ao G.length co] 25)) (w1.heap.size + 1) 27 #[.int .i64 vr, .int .i64 va, .int .i64 vd] from Sv.out.alloc _)
  have Sso := Lib.hid (Str.new w2 25 #[.int .i64 F, .slice ao G.length co])
  have hzso : (w2.alloc (.cells #[.int .i64 F, .slice ao G.length co] 25)).heap.size = w2.heap.size + 1 := by simp
  have Hb := Lib.hid (below_step Hb.out Hb.out.size hal)
  clear hal
  have cx_0 := Sx.out.cell 0 (v := .int .i64 f) rfl
  have cx_1 := Sx.out.cell 1 (v := .slice ax g.length cx) rfl
  have cv_0 := Sv.out.cell 0 (v := .int .i64 vr) rfl
  have cv_1 := Sv.out.cell 1 (v := .int .i64 va) rfl
  have cv_2 := Sv.out.cell 2 (v := .int .i64 vd) rfl
  have cso_0 := Sso.out.cell 0 (v := .int .i64 F) rfl
  have cso_1 := Sso.out.cell 1 (v := .slice ao G.length co) rfl
  go_wp2_with fail
  generalize (w2.alloc (.cells #[.int .i64 F, .slice ao G.length co] 25)) = W2 at *
  clear cx_0 cx_1 cv_0 cv_1 cv_2 cso_0 cso_1
  refine (HS.out _ Tx.out).mono ?_
  rintro e w3 ⟨vk, rfl, hor, hb⟩
  obtain ⟨fk, hv9⟩ := hor.reads
  obtain ⟨ak, ck, rfl⟩ := Vts.slice (show Vts w3 G vk fk from hv9)
  have hT : Vts w3 G (.slice ak G.length ck) fk := hv9
  clear hor hv9
  have Tx := Lib.hid (show Vts w3 g (.slice ax g.length cx) fx from Tx.out.under hb)
  have To := Lib.hid (show Vts w3 G (.slice ao G.length co) fo from To.out.under hb)
  have Sx := Lib.hid (show Str w3 (w1.heap.size) 25 #[.int .i64 f, .slice ax g.length cx] from (hb.block _ Sx.out.lt).trans Sx.out)
  have Sv := Lib.hid (show Str w3 (w1.heap.size + 1) 27 #[.int .i64 vr, .int .i64 va, .int .i64 vd] from (hb.block _ Sv.out.lt).trans Sv.out)
  have Sso := Lib.hid (show Str w3 (w2.heap.size) 25 #[.int .i64 F, .slice ao G.length co] from (hb.block _ Sso.out.lt).trans Sso.out)
  have hsw3 := hb.size
  have Hb := Lib.hid (below_step Hb.out Hb.out.size hb)
  have Tk := Lib.hid hT
  clear hT hb
  have hal : Below w3.heap.size w3 (w3.alloc (.cells #[.int .i64 F, .slice ak G.length ck] 25)) := (Below.refl _ _).alloc (Nat.le_refl _) _
  have Tx := Lib.hid (show Vts (w3.alloc (.cells #[.int .i64 F, .slice ak G.length ck] 25)) g (.slice ax g.length cx) fx from Tx.out.under hal)
  have To := Lib.hid (show Vts (w3.alloc (.cells #[.int .i64 F, .slice ak G.length ck] 25)) G (.slice ao G.length co) fo from To.out.under hal)
  have Tk := Lib.hid (show Vts (w3.alloc (.cells #[.int .i64 F, .slice ak G.length ck] 25)) G (.slice ak G.length ck) fk from Tk.out.under hal)
  have Sx := Lib.hid (show Str (w3.alloc (.cells #[.int .i64 F, .slice ak G.length ck] 25)) (w1.heap.size) 25 #[.int .i64 f, .slice ax g.length cx] from Sx.out.alloc _)
  have Sv := Lib.hid (show Str (w3.alloc (.cells #[.int .i64 F, .slice ak G.length ck] 25)) (w1.heap.size + 1) 27 #[.int .i64 vr, .int .i64 va, .int .i64 vd] from Sv.out.alloc _)
  have Sso := Lib.hid (show Str (w3.alloc (.cells #[.int .i64 F, .slice ak G.length ck] 25)) (w2.heap.size) 25 #[.int .i64 F, .slice ao G.length co] from Sso.out.alloc _)
  have Ssk := Lib.hid (Str.new w3 25 #[.int .i64 F, .slice ak G.length ck])
  have hzsk : (w3.alloc (.cells #[.int .i64 F, .slice ak G.length ck] 25)).heap.size = w3.heap.size + 1 := by simp
  have Hb := Lib.hid (below_step Hb.out Hb.out.size hal)
  clear hal
  have hbb : (B != B) = false := by simp
  have hbe : (B == B) = true := by simp
  have cso_0 := Sso.out.cell 0 (v := .int .i64 F) rfl
  have cso_1 := Sso.out.cell 1 (v := .slice ao G.length co) rfl
  have csk_0 := Ssk.out.cell 0 (v := .int .i64 F) rfl
  have csk_1 := Ssk.out.cell 1 (v := .slice ak G.length ck) rfl
  go_wp2_with fail
  generalize (w3.alloc (.cells #[.int .i64 F, .slice ak G.length ck] 25)) = W3 at *
  clear cso_0 cso_1 csk_0 csk_1
  refine (sameVoter_self F G _ _ fo fk _ (by omega) To.out Tk.out).mono ?_
  rintro e w4 ⟨rfl, hb⟩
  have Tx := Lib.hid (show Vts w4 g (.slice ax g.length cx) fx from Tx.out.under hb)
  have To := Lib.hid (show Vts w4 G (.slice ao G.length co) fo from To.out.under hb)
  have Tk := Lib.hid (show Vts w4 G (.slice ak G.length ck) fk from Tk.out.under hb)
  have Sx := Lib.hid (show Str w4 (w1.heap.size) 25 #[.int .i64 f, .slice ax g.length cx] from (hb.block _ Sx.out.lt).trans Sx.out)
  have Sv := Lib.hid (show Str w4 (w1.heap.size + 1) 27 #[.int .i64 vr, .int .i64 va, .int .i64 vd] from (hb.block _ Sv.out.lt).trans Sv.out)
  have Sso := Lib.hid (show Str w4 (w2.heap.size) 25 #[.int .i64 F, .slice ao G.length co] from (hb.block _ Sso.out.lt).trans Sso.out)
  have Ssk := Lib.hid (show Str w4 (w3.heap.size) 25 #[.int .i64 F, .slice ak G.length ck] from (hb.block _ Ssk.out.lt).trans Ssk.out)
  have hsw4 := hb.size
  have Hb := Lib.hid (below_step Hb.out Hb.out.size hb)
  clear hb
  cases B with
  | false =>
    have cso_0 := Sso.out.cell 0 (v := .int .i64 F) rfl
    have cso_1 := Sso.out.cell 1 (v := .slice ao G.length co) rfl
    have csk_0 := Ssk.out.cell 0 (v := .int .i64 F) rfl
    have csk_1 := Ssk.out.cell 1 (v := .slice ak G.length ck) rfl
    go_wp2_with fail
    clear cso_0 cso_1 csk_0 csk_1
    refine (sameVoter_self F G _ _ fo fk _ (by omega) To.out Tk.out).mono ?_
    rintro e w5 ⟨rfl, hb⟩
    have Tx := Lib.hid (show Vts w5 g (.slice ax g.length cx) fx from Tx.out.under hb)
    have To := Lib.hid (show Vts w5 G (.slice ao G.length co) fo from To.out.under hb)
    have Tk := Lib.hid (show Vts w5 G (.slice ak G.length ck) fk from Tk.out.under hb)
    have Sx := Lib.hid (show Str w5 (w1.heap.size) 25 #[.int .i64 f, .slice ax g.length cx] from (hb.block _ Sx.out.lt).trans Sx.out)
    have Sv := Lib.hid (show Str w5 (w1.heap.size + 1) 27 #[.int .i64 vr, .int .i64 va, .int .i64 vd] from (hb.block _ Sv.out.lt).trans Sv.out)
    have Sso := Lib.hid (show Str w5 (w2.heap.size) 25 #[.int .i64 F, .slice ao G.length co] from (hb.block _ Sso.out.lt).trans Sso.out)
    have Ssk := Lib.hid (show Str w5 (w3.heap.size) 25 #[.int .i64 F, .slice ak G.length ck] from (hb.block _ Ssk.out.lt).trans Ssk.out)
    have hsw5 := hb.size
    have Hb := Lib.hid (below_step Hb.out Hb.out.size hb)
    clear hb
    go_wp2
    go_ret
    exact ⟨by first | rfl | exact ret_bool (by simp) | exact ret_bool (by simp; omega), Hb.out⟩
  | true =>
  have HB4 := Lib.hid Hb.out
  obtain ⟨hF, hin⟩ := HA.out (by first | rfl | trivial)
  have hFf : (F == f) = true := by rw [beq_iff_eq]; exact hF
  clear hF
  have Hin := Lib.hid hin; clear hin HA HI HS
  clear Tk
  clear Ssk
  have cx_0 := Sx.out.cell 0 (v := .int .i64 f) rfl
  have cx_1 := Sx.out.cell 1 (v := .slice ax g.length cx) rfl
  have cso_0 := Sso.out.cell 0 (v := .int .i64 F) rfl
  have cso_1 := Sso.out.cell 1 (v := .slice ao G.length co) rfl
  go_wp2
  clear cx_0 cx_1 cso_0 cso_1
  go_loopw [9] (fun i wr => ∃ k : Nat, k ≤ g.length ∧ i = .int .i64 k ∧ Drawn w4 wr) (fun i _ => g.length - (intOf i).toNat)
  case atStart => exact ⟨0, by omega, rfl, Drawn.refl _⟩
  case round =>
    obtain ⟨k, hk, rfl, hd⟩ := hrel
    have mx_0 := (hd.cell _).trans (Sx.out.cell 0 (v := .int .i64 f) rfl)
    have mx_1 := (hd.cell _).trans (Sx.out.cell 1 (v := .slice ax g.length cx) rfl)
    have mso_0 := (hd.cell _).trans (Sso.out.cell 0 (v := .int .i64 F) rfl)
    have mso_1 := (hd.cell _).trans (Sso.out.cell 1 (v := .slice ao G.length co) rfl)
    by_cases hlt : k < g.length
    · obtain ⟨bx, ox, rfl, hbx, hat⟩ := Vts.at Tx.out (by omega)
      obtain ⟨x0, x1, x2⟩ := hat k hlt
      have X0 := Lib.hid x0; have X1 := Lib.hid x1; have X2 := Lib.hid x2
      have hmem := Hin.out _ (List.getElem_mem hlt)
      clear hat x0 x1 x2
      generalize g[k] = y at *
      have Hmem := Lib.hid hmem; clear hmem
      have Hd0 := Lib.hid hd
      go_wp2
      obtain ⟨W0, hW0⟩ : ∃ W0, W0 = wr := ⟨_, rfl⟩
      subst hW0
      clear hd mx_0 mx_1 mso_0 mso_1
      go_loopw [10, 11] (fun fd i2 wr => ∃ q : Nat, q ≤ G.length ∧ i2 = .int .i64 q ∧ fd = .bool ((G.take q).contains y) ∧ Drawn w4 wr) (fun _ i2 _ => G.length - (intOf i2).toNat)
      case atStart => exact ⟨0, by omega, rfl, rfl, Hd0.out⟩
      case round =>
        clear Hd0
        obtain ⟨q, hq, rfl, rfl, hd⟩ := hrel
        have mx_0 := (hd.cell _).trans (Sx.out.cell 0 (v := .int .i64 f) rfl)
        have mx_1 := (hd.cell _).trans (Sx.out.cell 1 (v := .slice (some ⟨bx, ox, none⟩) g.length cx) rfl)
        have mso_0 := (hd.cell _).trans (Sso.out.cell 0 (v := .int .i64 F) rfl)
        have mso_1 := (hd.cell _).trans (Sso.out.cell 1 (v := .slice ao G.length co) rfl)
        have x0 := (hd.cell _).trans X0.out
        have x1 := (hd.cell _).trans X1.out
        have x2 := (hd.cell _).trans X2.out
        by_cases hql : q < G.length
        · obtain ⟨bo, oo, rfl, hbo, hat⟩ := Vts.at To.out (by omega)
          obtain ⟨g0, g1, g2⟩ := hat q hql
          have y0 := (hd.cell _).trans g0
          have y1 := (hd.cell _).trans g1
          have y2 := (hd.cell _).trans g2
          clear hat g0 g1 g2
          have Hsu := Lib.hid (has_succ (y := y) hql)
          generalize G[q] = z at *
          have Hd := Lib.hid hd; clear hd
          have hqe := fun W => eq_vote z y W
          cases hc : (G.take q).contains y with
          | true =>
            have hsu := Hsu.out
            rw [hc, Bool.true_or] at hsu
            have Hsu := Lib.hid hsu; clear hsu hc
            go_wp2_with fail
            go_quiet (fail)
            clear hqe
            go_wp2
            go_roundw
            case rel => exact ⟨q + 1, by omega, by go_num, by rw [Hsu.out], Hd.out.drewN _⟩
            case measure => simp [intOf]; omega
          | false =>
            have hsu := Hsu.out
            rw [hc, Bool.false_or] at hsu
            have Hsu := Lib.hid hsu; clear hsu hc
            generalize decide (z = y) = dz at *
            go_wp2_with fail
            go_quiet (fail)
            clear hqe
            go_wp2
            go_roundw
            case rel => exact ⟨q + 1, by omega, by go_num, by rw [Hsu.out], Hd.out.drewN _⟩
            case measure => simp [intOf]; omega
        · have hall : (G.take q).contains y = true := by rw [List.take_of_length_le (by omega)]; exact List.contains_iff_mem.2 Hmem.out
          rw [hall]
          have Hd := Lib.hid hd; clear hd hall
          go_wp2
          go_roundw
          case rel => exact ⟨k + 1, by omega, by go_num, Hd.out⟩
          case measure => simp [intOf]; omega
    · have Hb := Lib.hid (below_step HB4.out HB4.out.size (hd.below _))
      clear hd
      have hle : (G.length : Int) ≤ (g.length : Int) + 1 := by omega
      have hle' : G.length ≤ g.length + 1 := by omega
      go_wp2
      go_ret
      exact ⟨by first | rfl | exact ret_bool (by simp) | exact ret_bool (by simp; omega), Hb.out⟩

theorem fnVoterKeeps_own : ownKnob Try.prog.godebug = none := by kernel_rfl
theorem fnVoterKeeps_laidOut : laidOutB Try.prog = true := by kernel_rfl

set_option maxRecDepth 8000 in
theorem fnVoterKeeps_lifted (os : Os) (started : os.Started) (H : Type) (enc : TypeId × Value → H) :
    ReturnsInHanded {} Try.checked os 5 .any (Rows.fnVoterKeepsSpec.pre6 enc Try.prog Try.f5 Rows.fnVoterKeepsRow.domain false) (Rows.fnVoterKeepsSpec.post enc Try.prog Try.f5 false true false false) := by
  refine law_lifted (C := Try.checked) (tb := 4) fnVoterKeeps_own fnVoterKeeps_laidOut started (by kernel_rfl) Try.func5 rfl Try.underlying4 rfl (by rw [Try.params5]; exact of_decide_eq_true (by kernel_rfl)) ?_
    (ChangeSpec.witness6 (enc := enc) (C := Try.checked) false ⟨#[], #[.slice none 0 0], []⟩ 8 (by kernel_rfl) (by kernel_rfl) (by kernel_rfl) (by kernel_rfl)) ?_
  · intro ds hds
    rw [Try.params5] at hds
    match ds, hds with
    | [d0], _ => rfl
  · intro W base args ds p hval0 hA0
    have hval : ∀ (j : Nat) t v, Try.f5.params[j]? = some t → args[j]? = some v → Value.okWide Try.prog W .any base t v := hval0
    have hA : DataW.TrodAll enc Try.prog W 0 (fun _ => true) true Try.f5.params.toList args.toList ds p := hA0
    rw [Try.params5] at hA hval
    obtain ⟨v0, vs0, d0, ds0, p0, q0, hargs0, rfl, rfl, h0, r0⟩ := trodAll_cons hA
    obtain ⟨hnil, rfl, rfl⟩ := trodAll_nil r0
    subst hnil
    obtain rfl : args = #[v0] := by cases args; simp_all
    obtain ⟨a0, cap0, zs0, rfl, hk0, hm0, hi0, hw0⟩ := open_slice_ints Try.underlying22 Try.underlying5 (by kernel_rfl) (hval 0 22 v0 rfl rfl) h0
    exact fnVoterKeeps_walk a0 cap0 zs0 W hk0 hm0 hi0 hw0

theorem fnVoterKeeps_holds : Rows.FnVoterKeepsSaid :=
  OpenClaim.holds_of_wide 5 Try.f5 rfl rfl rfl rfl rfl rfl rfl ⟨rfl, rfl, rfl, rfl, rfl⟩ rfl rfl rfl rfl rfl (by kernel_rfl) Try.func5 (by kernel_rfl)
    (of_decide_eq_true (by kernel_rfl)) (by unfold Func.isWrapper; first | (rw [if_pos (by decide +kernel)]; kernel_rfl) | (rw [if_neg (by decide +kernel)]; exact ⟨rfl, rfl⟩))
    (fun os started H enc _ => fnVoterKeeps_lifted os started H enc)

end Go.Proofs.Ytgpbogalknmcmaa
