/- Law FnVoterForget holds for every input; no conditions of our own. -/
import Derived.Test.YtgpbogalknmcmaaRows
import Derived.Test.YtgpbogalknmcmaaBu0
import Derived.Test.YtgpbogalknmcmaaBu1
import Derived.Test.YtgpbogalknmcmaaBu5
import Derived.Test.YtgpbogalknmcmaaBu4
import Derived.Deep.QuietTactic
import Derived.BigQuiet
import Derived.Test.YtgpbogalknmcmaaBu2
namespace Go.Proofs.Ytgpbogalknmcmaa
open Go.ChangeShapes Go.WideShapes Go.ChangeAt Go.RowKit

set_option maxHeartbeats 4000000 in
theorem fnVoterForget_walk (a : Option Addr) (cap : Nat) (zs : List Int) (a' : Option Addr) (cap' : Nat) (ms : List Int) (w : World) (hk : zs.length ≤ cap) (_hm : zs.length ≤ maxLen) (hi : zs = [] ∨ ∃ b off, a = some ⟨b, off, none⟩ ∧ b < w.heap.size ∧ ∀ j (h : j < zs.length), w.cell? ⟨b, off + j, none⟩ = some (.int .u8 zs[j])) (hw : ∀ z ∈ zs, (Lit.int .u8 z).wf = true)
    (_hk' : ms.length ≤ cap') (hm' : ms.length ≤ maxLen) (_hi' : ms = [] ∨ ∃ b off, a' = some ⟨b, off, none⟩ ∧ b < w.heap.size ∧ ∀ j (h : j < ms.length), w.cell? ⟨b, off + j, none⟩ = some (.int .u8 ms[j])) (_hw' : ∀ z ∈ ms, (Lit.int .u8 z).wf = true) :
    Calls Try.prog 6 #[.slice a zs.length cap, .slice a' ms.length cap'] w fun e w' => e = .returned (.bool true) ∧ Below w.heap.size w w' := by
  unfold maxLen at hm'
  by_cases hl : 1048576 < zs.length
  · go_enter Try.func6, Try.ntmps6
    go_wp2
    go_ret
    exact ⟨rfl, Below.refl _ _⟩
  by_cases hl' : 1048576 < ms.length
  · go_enter Try.func6, Try.ntmps6
    go_wp2
    go_ret
    exact ⟨rfl, Below.refl _ _⟩
  have hcode := codeAt_of hk (by omega) hi hw
  have Hcode := Lib.hid hcode; clear hcode hi hw
  go_enter Try.func6, Try.ntmps6
  go_wp2_with fail
  refine (spec_DrawVoterForget a cap zs _ Hcode.out).mono ?_
  rintro e w1 ⟨f, g, ux, fx, n, rfl, hx, hgl, hb1⟩
  dsimp only at *
  obtain ⟨ax, cx, rfl⟩ := Vts.slice hx
  have Tx := Lib.hid hx; have Hb := Lib.hid hb1
  clear hx hb1
  have hal : Below w1.heap.size w1 (w1.alloc (.cells #[.int .i64 f, .slice ax g.length cx] 25)) := (Below.refl _ _).alloc (Nat.le_refl _) _
  have Tx := Lib.hid (show Vts (w1.alloc (.cells #[.int .i64 f, .slice ax g.length cx] 25)) g (.slice ax g.length cx) fx from Tx.out.under hal)
  have Sx := Lib.hid (Str.new w1 25 #[.int .i64 f, .slice ax g.length cx])
  have hzx : (w1.alloc (.cells #[.int .i64 f, .slice ax g.length cx] 25)).heap.size = w1.heap.size + 1 := by simp
  have Hb := Lib.hid (below_step Hb.out Hb.out.size hal)
  clear hal
  have HI1 := Lib.hid (fun W h => impl_VoterForget f g (.slice ax g.length cx) fx n W (by omega) h)
  have HS := Lib.hid (fun W h => spec_VoterForget f g (.slice ax g.length cx) fx n W (by omega) h)
  have hGl := fg_len f g n
  have HA := Lib.hid (forget_fact (f := f) (g := g) (n := n))
  have cx_0 := Sx.out.cell 0 (v := .int .i64 f) rfl
  have cx_1 := Sx.out.cell 1 (v := .slice ax g.length cx) rfl
  go_wp2_with fail
  generalize (w1.alloc (.cells #[.int .i64 f, .slice ax g.length cx] 25)) = W1 at *
  clear cx_0 cx_1
  refine (HI1.out _ Tx.out).mono ?_
  rintro e w2 ⟨vo, rfl, hor, hb⟩
  generalize fgF f g n = F at *
  generalize fgG f g n = G at *
  generalize fgB f g n = B at *
  obtain ⟨fo, hv9⟩ := hor.reads
  obtain ⟨ao, co, rfl⟩ := Vts.slice (show Vts w2 G vo fo from hv9)
  have hT : Vts w2 G (.slice ao G.length co) fo := hv9
  clear hor hv9
  have Tx := Lib.hid (show Vts w2 g (.slice ax g.length cx) fx from Tx.out.under hb)
  have Sx := Lib.hid (show Str w2 (w1.heap.size) 25 #[.int .i64 f, .slice ax g.length cx] from (hb.block _ Sx.out.lt).trans Sx.out)
  have hsw2 := hb.size
  have Hb := Lib.hid (below_step Hb.out Hb.out.size hb)
  have To := Lib.hid hT
  clear hT hb
  have hal : Below w2.heap.size w2 (w2.alloc (.cells #[.int .i64 F, .slice ao G.length co] 25)) := (Below.refl _ _).alloc (Nat.le_refl _) _
  have Tx := Lib.hid (show Vts (w2.alloc (.cells #[.int .i64 F, .slice ao G.length co] 25)) g (.slice ax g.length cx) fx from Tx.out.under hal)
  have To := Lib.hid (show Vts (w2.alloc (.cells #[.int .i64 F, .slice ao G.length co] 25)) G (.slice ao G.length co) fo from To.out.under hal)
  have Sx := Lib.hid (show Str (w2.alloc (.cells #[.int .i64 F, .slice ao G.length co] 25)) (w1.heap.size) 25 #[.int .i64 f, .slice ax g.length cx] from Sx.out.alloc _)
  have Sso := Lib.hid (Str.new w2 25 #[.int .i64 F, .slice ao G.length co])
  have hzso : (w2.alloc (.cells #[.int .i64 F, .slice ao G.length co] 25)).heap.size = w2.heap.size + 1 := by simp
  have Hb := Lib.hid (below_step Hb.out Hb.out.size hal)
  clear hal
  have cx_0 := Sx.out.cell 0 (v := .int .i64 f) rfl
  have cx_1 := Sx.out.cell 1 (v := .slice ax g.length cx) rfl
  have cso_0 := Sso.out.cell 0 (v := .int .i64 F) rfl
  have cso_1 := Sso.out.cell 1 (v := .slice ao G.length co) rfl
  go_wp2_with fail
  generalize (w2.alloc (.cells #[.int .i64 F, .slice ao G.length co] 25)) = W2 at *
  clear cx_0 cx_1 cso_0 cso_1
  refine (HS.out _ Tx.out).mono ?_
  rintro e w3 ⟨vk, rfl, hor, hb⟩
  obtain ⟨fk, hv9⟩ := hor.reads
  obtain ⟨ak, ck, rfl⟩ := Vts.slice (show Vts w3 G vk fk from hv9)
  have hT : Vts w3 G (.slice ak G.length ck) fk := hv9
  clear hor hv9
  have Tx := Lib.hid (show Vts w3 g (.slice ax g.length cx) fx from Tx.out.under hb)
  have To := Lib.hid (show Vts w3 G (.slice ao G.length co) fo from To.out.under hb)
  have Sx := Lib.hid (show Str w3 (w1.heap.size) 25 #[.int .i64 f, .slice ax g.length cx] from (hb.block _ Sx.out.lt).trans Sx.out)
  have Sso := Lib.hid (show Str w3 (w2.heap.size) 25 #[.int .i64 F, .slice ao G.length co] from (hb.block _ Sso.out.lt).trans Sso.out)
  have hsw3 := hb.size
  have Hb := Lib.hid (below_step Hb.out Hb.out.size hb)
  have Tk := Lib.hid hT
  clear hT hb
  have hal : Below w3.heap.size w3 (w3.alloc (.cells #[.int .i64 F, .slice ak G.length ck] 25)) := (Below.refl _ _).alloc (Nat.le_refl _) _
  have Tx := Lib.hid (show Vts (w3.alloc (.cells #[.int .i64 F, .slice ak G.length ck] 25)) g (.slice ax g.length cx) fx from Tx.out.under hal)
  have To := Lib.hid (show Vts (w3.alloc (.cells #[.int .i64 F, .slice ak G.length ck] 25)) G (.slice ao G.length co) fo from To.out.under hal)
  have Tk := Lib.hid (show Vts (w3.alloc (.cells #[.int .i64 F, .slice ak G.length ck] 25)) G (.slice ak G.length ck) fk from Tk.out.under hal)
  have Sx := Lib.hid (show Str (w3.alloc (.cells #[.int .i64 F, .slice ak G.length ck] 25)) (w1.heap.size) 25 #[.int .i64 f, .slice ax g.length cx] from Sx.out.alloc _)
  have Sso := Lib.hid (show Str (w3.alloc (.cells #[.int .i64 F, .slice ak G.length ck] 25)) (w2.heap.size) 25 #[.int .i64 F, .slice ao G.length co] from Sso.out.alloc _)
  have Ssk := Lib.hid (Str.new w3 25 #[.int .i64 F, .slice ak G.length ck])
  have hzsk : (w3.alloc (.cells #[.int .i64 F, .slice ak G.length ck] 25)).heap.size = w3.heap.size + 1 := by simp
  have Hb := Lib.hid (below_step Hb.out Hb.out.size hal)
  clear hal
  have hbb : (B != B) = false := by simp
  have hbe : (B == B) = true := by simp
  have cso_0 := Sso.out.cell 0 (v := .int .i64 F) rfl
  have cso_1 := Sso.out.cell 1 (v := .slice ao G.length co) rfl
  have csk_0 := Ssk.out.cell 0 (v := .int .i64 F) rfl
  have csk_1 := Ssk.out.cell 1 (v := .slice ak G.length ck) rfl
  go_wp2_with fail
  generalize (w3.alloc (.cells #[.int .i64 F, .slice ak G.length ck] 25)) = W3 at *
  clear cso_0 cso_1 csk_0 csk_1
  refine (sameVoter_self F G _ _ fo fk _ (by omega) To.out Tk.out).mono ?_
  rintro e w4 ⟨rfl, hb⟩
  have Tx := Lib.hid (show Vts w4 g (.slice ax g.length cx) fx from Tx.out.under hb)
  have To := Lib.hid (show Vts w4 G (.slice ao G.length co) fo from To.out.under hb)
  have Tk := Lib.hid (show Vts w4 G (.slice ak G.length ck) fk from Tk.out.under hb)
  have Sx := Lib.hid (show Str w4 (w1.heap.size) 25 #[.int .i64 f, .slice ax g.length cx] from (hb.block _ Sx.out.lt).trans Sx.out)
  have Sso := Lib.hid (show Str w4 (w2.heap.size) 25 #[.int .i64 F, .slice ao G.length co] from (hb.block _ Sso.out.lt).trans Sso.out)
  have Ssk := Lib.hid (show Str w4 (w3.heap.size) 25 #[.int .i64 F, .slice ak G.length ck] from (hb.block _ Ssk.out.lt).trans Ssk.out)
  have hsw4 := hb.size
  have Hb := Lib.hid (below_step Hb.out Hb.out.size hb)
  clear hb
  cases B with
  | false =>
    have cso_0 := Sso.out.cell 0 (v := .int .i64 F) rfl
    have cso_1 := Sso.out.cell 1 (v := .slice ao G.length co) rfl
    have csk_0 := Ssk.out.cell 0 (v := .int .i64 F) rfl
    have csk_1 := Ssk.out.cell 1 (v := .slice ak G.length ck) rfl
    go_wp2_with fail
    clear cso_0 cso_1 csk_0 csk_1
    refine (sameVoter_self F G _ _ fo fk _ (by omega) To.out Tk.out).mono ?_
    rintro e w5 ⟨rfl, hb⟩
    have Tx := Lib.hid (show Vts w5 g (.slice ax g.length cx) fx from Tx.out.under hb)
    have To := Lib.hid (show Vts w5 G (.slice ao G.length co) fo from To.out.under hb)
    have Tk := Lib.hid (show Vts w5 G (.slice ak G.length ck) fk from Tk.out.under hb)
    have Sx := Lib.hid (show Str w5 (w1.heap.size) 25 #[.int .i64 f, .slice ax g.length cx] from (hb.block _ Sx.out.lt).trans Sx.out)
    have Sso := Lib.hid (show Str w5 (w2.heap.size) 25 #[.int .i64 F, .slice ao G.length co] from (hb.block _ Sso.out.lt).trans Sso.out)
    have Ssk := Lib.hid (show Str w5 (w3.heap.size) 25 #[.int .i64 F, .slice ak G.length ck] from (hb.block _ Ssk.out.lt).trans Ssk.out)
    have hsw5 := hb.size
    have Hb := Lib.hid (below_step Hb.out Hb.out.size hb)
    clear hb
    go_wp2
    go_ret
    exact ⟨by first | rfl | exact ret_bool (by simp) | exact ret_bool (by simp; omega), Hb.out⟩
  | true =>
  obtain ⟨hFn, hvb, hno⟩ := HA.out (by first | rfl | trivial)
  clear HA HS HI1
  clear Tk
  clear Ssk
  subst hFn
  obtain ⟨D, hD⟩ : ∃ D, (ms.length : Int) % 991 = D := ⟨_, rfl⟩
  have hD2 : (ms.length : Int).tmod 991 = D := by rw [← hD]; exact Int.tmod_eq_emod_of_nonneg (by omega)
  have HV := impl_VoterValid F G (.slice ao G.length co) fo
  rw [hvb] at HV
  have HV := Lib.hid (fun W h => HV W (by omega) h)
  have HN := Lib.hid (fun a b d W (h : Vts W G (.slice ao G.length co) fo) => impl_VoterSign F G (.slice ao G.length co) fo a b d W (by omega) h)
  have hG9 : ∀ v, (sgG F G v).length ≤ 1000000 := fun v => by have := sg_len F G v; omega
  have HG9 := Lib.hid hG9
  have Hno := Lib.hid hno
  clear hvb hno hG9
  have cx_0 := Sx.out.cell 0 (v := .int .i64 f) rfl
  have cx_1 := Sx.out.cell 1 (v := .slice ax g.length cx) rfl
  have cso_0 := Sso.out.cell 0 (v := .int .i64 F) rfl
  have cso_1 := Sso.out.cell 1 (v := .slice ao G.length co) rfl
  go_wp2
  clear cx_0 cx_1 cso_0 cso_1
  have HB4 := Lib.hid Hb.out
  go_loopw [11] (fun i wr => ∃ k : Nat, k ≤ g.length ∧ i = .int .i64 k ∧ Below w4.heap.size w4 wr) (fun i _ => g.length - (intOf i).toNat)
  case atStart => exact ⟨0, by omega, rfl, Below.refl _ _⟩
  case round =>
    obtain ⟨k, hk, rfl, hb⟩ := hrel
    have H4r := Lib.hid hb
    have Tx := Lib.hid (show Vts wr g (.slice ax g.length cx) fx from Tx.out.under hb)
    have To := Lib.hid (show Vts wr G (.slice ao G.length co) fo from To.out.under hb)
    have Sx := Lib.hid (show Str wr (w1.heap.size) 25 #[.int .i64 f, .slice ax g.length cx] from (hb.block _ Sx.out.lt).trans Sx.out)
    have Sso := Lib.hid (show Str wr (w2.heap.size) 25 #[.int .i64 F, .slice ao G.length co] from (hb.block _ Sso.out.lt).trans Sso.out)
    have hswr := hb.size
    have Hb := Lib.hid (below_step Hb.out Hb.out.size hb)
    clear hb
    by_cases hlt : k < g.length
    · have hlt' : (k : Int) < (g.length : Int) := by omega
      have Hb := Lib.hid H4r.out
      obtain ⟨bx, ox, rfl, hbx, hat⟩ := Vts.at Tx.out (by omega)
      obtain ⟨x0, x1, x2⟩ := hat k hlt
      generalize g[k] = y at *
      obtain ⟨vr, va, vd⟩ := y
      dsimp only at *
      clear hat
      have cx_0 := Sx.out.cell 0 (v := .int .i64 f) rfl
      have cx_1 := Sx.out.cell 1 (v := .slice (some ⟨bx, ox, none⟩) g.length cx) rfl
      have hal : Below wr.heap.size wr (wr.alloc (.cells #[.int .i64 vr, .int .i64 va, .int .i64 vd] 27)) := (Below.refl _ _).alloc (Nat.le_refl _) _
      have Tx := Lib.hid (show Vts (wr.alloc (.cells #[.int .i64 vr, .int .i64 va, .int .i64 vd] 27)) g (.slice (some ⟨bx, ox, none⟩) g.length cx) fx from Tx.out.under hal)
      have To := Lib.hid (show Vts (wr.alloc (.cells #[.int .i64 vr, .int .i64 va, .int .i64 vd] 27)) G (.slice ao G.length co) fo from To.out.under hal)
      have Sx := Lib.hid (show Str (wr.alloc (.cells #[.int .i64 vr, .int .i64 va, .int .i64 vd] 27)) (w1.heap.size) 25 #[.int .i64 f, .slice (some ⟨bx, ox, none⟩) g.length cx] from Sx.out.alloc _)
      have Sso := Lib.hid (show Str (wr.alloc (.cells #[.int .i64 vr, .int .i64 va, .int .i64 vd] 27)) (w2.heap.size) 25 #[.int .i64 F, .slice ao G.length co] from Sso.out.alloc _)
      have Sv := Lib.hid (Str.new wr 27 #[.int .i64 vr, .int .i64 va, .int .i64 vd])
      have hzv : (wr.alloc (.cells #[.int .i64 vr, .int .i64 va, .int .i64 vd] 27)).heap.size = wr.heap.size + 1 := by simp
      have Hb := Lib.hid (below_step Hb.out Hb.out.size hal)
      clear hal
      by_cases hge : F ≤ vr
      · have hge' : decide (F ≤ vr) = true := decide_eq_true hge
        have cv_0 := Sv.out.cell 0 (v := .int .i64 vr) rfl
        have cv_1 := Sv.out.cell 1 (v := .int .i64 va) rfl
        have cv_2 := Sv.out.cell 2 (v := .int .i64 vd) rfl
        go_wp2
        go_roundw
        case rel => exact ⟨k + 1, by omega, by go_num, Hb.out⟩
        case measure => simp [intOf]; omega
      have hge' : decide (F ≤ vr) = false := decide_eq_false hge
      have hn1 := Hno.out ⟨vr, va, vd⟩ (by simp only; omega)
      have hn2 := Hno.out ⟨vr, va, D⟩ (by simp only; omega)
      have H1 := HN.out vr va vd
      rw [hn1] at H1
      have H2 := HN.out vr va D
      rw [hn2] at H2
      have hq1 := HG9.out ⟨vr, va, vd⟩
      have hq2 := HG9.out ⟨vr, va, D⟩
      generalize sgF F G ⟨vr, va, vd⟩ = F1 at *
      generalize sgG F G ⟨vr, va, vd⟩ = G1 at *
      generalize sgF F G ⟨vr, va, D⟩ = F2 at *
      generalize sgG F G ⟨vr, va, D⟩ = G2 at *
      have H1 := Lib.hid H1; have H2 := Lib.hid H2
      clear hn1 hn2
      have cv_0 := Sv.out.cell 0 (v := .int .i64 vr) rfl
      have cv_1 := Sv.out.cell 1 (v := .int .i64 va) rfl
      have cv_2 := Sv.out.cell 2 (v := .int .i64 vd) rfl
      have b0 := (Sv.out.alloc (.cells #[.int .i64 vr, .int .i64 va, .int .i64 vd] 27)).cell 0 (v := .int .i64 vr) rfl
      have b1 := (Sv.out.alloc (.cells #[.int .i64 vr, .int .i64 va, .int .i64 vd] 27)).cell 1 (v := .int .i64 va) rfl
      have b2 := (Sv.out.alloc (.cells #[.int .i64 vr, .int .i64 va, .int .i64 vd] 27)).cell 2 (v := .int .i64 vd) rfl
      have SU := Str.new (wr.alloc (.cells #[.int .i64 vr, .int .i64 va, .int .i64 vd] 27)) 27 #[.int .i64 vr, .int .i64 va, .int .i64 vd]
      have fU2 := SU.frozen 2
      have eU2 := SU.cell 2 (v := .int .i64 vd) rfl
      clear SU
      have hal : Below (wr.alloc (.cells #[.int .i64 vr, .int .i64 va, .int .i64 vd] 27)).heap.size (wr.alloc (.cells #[.int .i64 vr, .int .i64 va, .int .i64 vd] 27)) ((wr.alloc (.cells #[.int .i64 vr, .int .i64 va, .int .i64 vd] 27)).alloc (.cells #[.int .i64 vr, .int .i64 va, .int .i64 D] 27)) := (Below.refl _ _).alloc (Nat.le_refl _) _
      have Tx := Lib.hid (show Vts ((wr.alloc (.cells #[.int .i64 vr, .int .i64 va, .int .i64 vd] 27)).alloc (.cells #[.int .i64 vr, .int .i64 va, .int .i64 D] 27)) g (.slice (some ⟨bx, ox, none⟩) g.length cx) fx from Tx.out.under hal)
      have To := Lib.hid (show Vts ((wr.alloc (.cells #[.int .i64 vr, .int .i64 va, .int .i64 vd] 27)).alloc (.cells #[.int .i64 vr, .int .i64 va, .int .i64 D] 27)) G (.slice ao G.length co) fo from To.out.under hal)
      have Sx := Lib.hid (show Str ((wr.alloc (.cells #[.int .i64 vr, .int .i64 va, .int .i64 vd] 27)).alloc (.cells #[.int .i64 vr, .int .i64 va, .int .i64 D] 27)) (w1.heap.size) 25 #[.int .i64 f, .slice (some ⟨bx, ox, none⟩) g.length cx] from Sx.out.alloc _)
      have Sso := Lib.hid (show Str ((wr.alloc (.cells #[.int .i64 vr, .int .i64 va, .int .i64 vd] 27)).alloc (.cells #[.int .i64 vr, .int .i64 va, .int .i64 D] 27)) (w2.heap.size) 25 #[.int .i64 F, .slice ao G.length co] from Sso.out.alloc _)
      have Sv := Lib.hid (show Str ((wr.alloc (.cells #[.int .i64 vr, .int .i64 va, .int .i64 vd] 27)).alloc (.cells #[.int .i64 vr, .int .i64 va, .int .i64 D] 27)) (wr.heap.size) 27 #[.int .i64 vr, .int .i64 va, .int .i64 vd] from Sv.out.alloc _)
      have Su := Lib.hid (Str.new (wr.alloc (.cells #[.int .i64 vr, .int .i64 va, .int .i64 vd] 27)) 27 #[.int .i64 vr, .int .i64 va, .int .i64 D])
      have hzu : ((wr.alloc (.cells #[.int .i64 vr, .int .i64 va, .int .i64 vd] 27)).alloc (.cells #[.int .i64 vr, .int .i64 va, .int .i64 D] 27)).heap.size = (wr.alloc (.cells #[.int .i64 vr, .int .i64 va, .int .i64 vd] 27)).heap.size + 1 := by simp
      have Hb := Lib.hid (below_step Hb.out Hb.out.size hal)
      clear hal
      have Su := Lib.hid (show Str ((wr.alloc (.cells #[.int .i64 vr, .int .i64 va, .int .i64 vd] 27)).alloc (.cells #[.int .i64 vr, .int .i64 va, .int .i64 D] 27)) (wr.heap.size + 1) 27 #[.int .i64 vr, .int .i64 va, .int .i64 D] by have h9 := Su.out; simp only [World.size_alloc] at h9; exact h9)
      have dso_0 := Sso.out.cell 0 (v := .int .i64 F) rfl
      have dso_1 := Sso.out.cell 1 (v := .slice ao G.length co) rfl
      have dv_0 := Sv.out.cell 0 (v := .int .i64 vr) rfl
      have dv_1 := Sv.out.cell 1 (v := .int .i64 va) rfl
      have dv_2 := Sv.out.cell 2 (v := .int .i64 vd) rfl
      go_wp2_with fail
      generalize ((wr.alloc (.cells #[.int .i64 vr, .int .i64 va, .int .i64 vd] 27)).alloc (.cells #[.int .i64 vr, .int .i64 va, .int .i64 D] 27)) = W9 at *
      clear fU2 eU2 b0 b1 b2 x0 x1 x2 cx_0 cx_1 cv_0 cv_1 cv_2 dso_0 dso_1 dv_0 dv_1 dv_2
      go_wp2_with fail
      refine (H1.out _ To.out).mono ?_
      rintro e w6 ⟨vp, rfl, hor, hb⟩
      obtain ⟨fp, hv9⟩ := hor.reads
      obtain ⟨ap, cp, rfl⟩ := Vts.slice (show Vts w6 G1 vp fp from hv9)
      have hT : Vts w6 G1 (.slice ap G1.length cp) fp := hv9
      clear hor hv9
      have Tx := Lib.hid (show Vts w6 g (.slice (some ⟨bx, ox, none⟩) g.length cx) fx from Tx.out.under hb)
      have To := Lib.hid (show Vts w6 G (.slice ao G.length co) fo from To.out.under hb)
      have Sx := Lib.hid (show Str w6 (w1.heap.size) 25 #[.int .i64 f, .slice (some ⟨bx, ox, none⟩) g.length cx] from (hb.block _ Sx.out.lt).trans Sx.out)
      have Sso := Lib.hid (show Str w6 (w2.heap.size) 25 #[.int .i64 F, .slice ao G.length co] from (hb.block _ Sso.out.lt).trans Sso.out)
      have Sv := Lib.hid (show Str w6 (wr.heap.size) 27 #[.int .i64 vr, .int .i64 va, .int .i64 vd] from (hb.block _ Sv.out.lt).trans Sv.out)
      have Su := Lib.hid (show Str w6 (wr.heap.size + 1) 27 #[.int .i64 vr, .int .i64 va, .int .i64 D] from (hb.block _ Su.out.lt).trans Su.out)
      have hsw6 := hb.size
      have Hb := Lib.hid (below_step Hb.out Hb.out.size hb)
      have Tp := Lib.hid hT
      clear hT hb
      have hal : Below w6.heap.size w6 (w6.alloc (.cells #[.int .i64 F1, .slice ap G1.length cp] 25)) := (Below.refl _ _).alloc (Nat.le_refl _) _
      have Tx := Lib.hid (show Vts (w6.alloc (.cells #[.int .i64 F1, .slice ap G1.length cp] 25)) g (.slice (some ⟨bx, ox, none⟩) g.length cx) fx from Tx.out.under hal)
      have To := Lib.hid (show Vts (w6.alloc (.cells #[.int .i64 F1, .slice ap G1.length cp] 25)) G (.slice ao G.length co) fo from To.out.under hal)
      have Tp := Lib.hid (show Vts (w6.alloc (.cells #[.int .i64 F1, .slice ap G1.length cp] 25)) G1 (.slice ap G1.length cp) fp from Tp.out.under hal)
      have Sx := Lib.hid (show Str (w6.alloc (.cells #[.int .i64 F1, .slice ap G1.length cp] 25)) (w1.heap.size) 25 #[.int .i64 f, .slice (some ⟨bx, ox, none⟩) g.length cx] from Sx.out.alloc _)
      have Sso := Lib.hid (show Str (w6.alloc (.cells #[.int .i64 F1, .slice ap G1.length cp] 25)) (w2.heap.size) 25 #[.int .i64 F, .slice ao G.length co] from Sso.out.alloc _)
      have Sv := Lib.hid (show Str (w6.alloc (.cells #[.int .i64 F1, .slice ap G1.length cp] 25)) (wr.heap.size) 27 #[.int .i64 vr, .int .i64 va, .int .i64 vd] from Sv.out.alloc _)
      have Su := Lib.hid (show Str (w6.alloc (.cells #[.int .i64 F1, .slice ap G1.length cp] 25)) (wr.heap.size + 1) 27 #[.int .i64 vr, .int .i64 va, .int .i64 D] from Su.out.alloc _)
      have Ssp := Lib.hid (Str.new w6 25 #[.int .i64 F1, .slice ap G1.length cp])
      have hzsp : (w6.alloc (.cells #[.int .i64 F1, .slice ap G1.length cp] 25)).heap.size = w6.heap.size + 1 := by simp
      have Hb := Lib.hid (below_step Hb.out Hb.out.size hal)
      clear hal
      have cso_0 := Sso.out.cell 0 (v := .int .i64 F) rfl
      have cso_1 := Sso.out.cell 1 (v := .slice ao G.length co) rfl
      have cu_0 := Su.out.cell 0 (v := .int .i64 vr) rfl
      have cu_1 := Su.out.cell 1 (v := .int .i64 va) rfl
      have cu_2 := Su.out.cell 2 (v := .int .i64 D) rfl
      go_wp2_with fail
      generalize (w6.alloc (.cells #[.int .i64 F1, .slice ap G1.length cp] 25)) = W10 at *
      clear cso_0 cso_1 cu_0 cu_1 cu_2
      refine (H2.out _ To.out).mono ?_
      rintro e w7 ⟨vq, rfl, hor, hb⟩
      obtain ⟨fq, hv9⟩ := hor.reads
      obtain ⟨aq, cq, rfl⟩ := Vts.slice (show Vts w7 G2 vq fq from hv9)
      have hT : Vts w7 G2 (.slice aq G2.length cq) fq := hv9
      clear hor hv9
      have Tx := Lib.hid (show Vts w7 g (.slice (some ⟨bx, ox, none⟩) g.length cx) fx from Tx.out.under hb)
      have To := Lib.hid (show Vts w7 G (.slice ao G.length co) fo from To.out.under hb)
      have Tp := Lib.hid (show Vts w7 G1 (.slice ap G1.length cp) fp from Tp.out.under hb)
      have Sx := Lib.hid (show Str w7 (w1.heap.size) 25 #[.int .i64 f, .slice (some ⟨bx, ox, none⟩) g.length cx] from (hb.block _ Sx.out.lt).trans Sx.out)
      have Sso := Lib.hid (show Str w7 (w2.heap.size) 25 #[.int .i64 F, .slice ao G.length co] from (hb.block _ Sso.out.lt).trans Sso.out)
      have Sv := Lib.hid (show Str w7 (wr.heap.size) 27 #[.int .i64 vr, .int .i64 va, .int .i64 vd] from (hb.block _ Sv.out.lt).trans Sv.out)
      have Su := Lib.hid (show Str w7 (wr.heap.size + 1) 27 #[.int .i64 vr, .int .i64 va, .int .i64 D] from (hb.block _ Su.out.lt).trans Su.out)
      have Ssp := Lib.hid (show Str w7 (w6.heap.size) 25 #[.int .i64 F1, .slice ap G1.length cp] from (hb.block _ Ssp.out.lt).trans Ssp.out)
      have hsw7 := hb.size
      have Hb := Lib.hid (below_step Hb.out Hb.out.size hb)
      have Tq := Lib.hid hT
      clear hT hb
      have hal : Below w7.heap.size w7 (w7.alloc (.cells #[.int .i64 F2, .slice aq G2.length cq] 25)) := (Below.refl _ _).alloc (Nat.le_refl _) _
      have Tx := Lib.hid (show Vts (w7.alloc (.cells #[.int .i64 F2, .slice aq G2.length cq] 25)) g (.slice (some ⟨bx, ox, none⟩) g.length cx) fx from Tx.out.under hal)
      have To := Lib.hid (show Vts (w7.alloc (.cells #[.int .i64 F2, .slice aq G2.length cq] 25)) G (.slice ao G.length co) fo from To.out.under hal)
      have Tp := Lib.hid (show Vts (w7.alloc (.cells #[.int .i64 F2, .slice aq G2.length cq] 25)) G1 (.slice ap G1.length cp) fp from Tp.out.under hal)
      have Tq := Lib.hid (show Vts (w7.alloc (.cells #[.int .i64 F2, .slice aq G2.length cq] 25)) G2 (.slice aq G2.length cq) fq from Tq.out.under hal)
      have Sx := Lib.hid (show Str (w7.alloc (.cells #[.int .i64 F2, .slice aq G2.length cq] 25)) (w1.heap.size) 25 #[.int .i64 f, .slice (some ⟨bx, ox, none⟩) g.length cx] from Sx.out.alloc _)
      have Sso := Lib.hid (show Str (w7.alloc (.cells #[.int .i64 F2, .slice aq G2.length cq] 25)) (w2.heap.size) 25 #[.int .i64 F, .slice ao G.length co] from Sso.out.alloc _)
      have Sv := Lib.hid (show Str (w7.alloc (.cells #[.int .i64 F2, .slice aq G2.length cq] 25)) (wr.heap.size) 27 #[.int .i64 vr, .int .i64 va, .int .i64 vd] from Sv.out.alloc _)
      have Su := Lib.hid (show Str (w7.alloc (.cells #[.int .i64 F2, .slice aq G2.length cq] 25)) (wr.heap.size + 1) 27 #[.int .i64 vr, .int .i64 va, .int .i64 D] from Su.out.alloc _)
      have Ssp := Lib.hid (show Str (w7.alloc (.cells #[.int .i64 F2, .slice aq G2.length cq] 25)) (w6.heap.size) 25 #[.int .i64 F1, .slice ap G1.length cp] from Ssp.out.alloc _)
      have Ssq := Lib.hid (Str.new w7 25 #[.int .i64 F2, .slice aq G2.length cq])
      have hzsq : (w7.alloc (.cells #[.int .i64 F2, .slice aq G2.length cq] 25)).heap.size = w7.heap.size + 1 := by simp
      have Hb := Lib.hid (below_step Hb.out Hb.out.size hal)
      clear hal
      go_wp2
      go_roundw
      case rel => exact ⟨k + 1, by omega, by go_num, Hb.out⟩
      case measure => simp [intOf]; omega
    · skip
      have cx_0 := Sx.out.cell 0 (v := .int .i64 f) rfl
      have cx_1 := Sx.out.cell 1 (v := .slice ax g.length cx) rfl
      have cso_0 := Sso.out.cell 0 (v := .int .i64 F) rfl
      have cso_1 := Sso.out.cell 1 (v := .slice ao G.length co) rfl
      go_wp2_with fail
      clear cx_0 cx_1 cso_0 cso_1
      refine (HV.out _ To.out).mono ?_
      rintro e w8 ⟨rfl, hb⟩
      have H8 := Lib.hid hb
      have Tx := Lib.hid (show Vts w8 g (.slice ax g.length cx) fx from Tx.out.under hb)
      have To := Lib.hid (show Vts w8 G (.slice ao G.length co) fo from To.out.under hb)
      have Sx := Lib.hid (show Str w8 (w1.heap.size) 25 #[.int .i64 f, .slice ax g.length cx] from (hb.block _ Sx.out.lt).trans Sx.out)
      have Sso := Lib.hid (show Str w8 (w2.heap.size) 25 #[.int .i64 F, .slice ao G.length co] from (hb.block _ Sso.out.lt).trans Sso.out)
      have hsw8 := hb.size
      have Hb := Lib.hid (below_step Hb.out Hb.out.size hb)
      clear hb
      have cso_0 := Sso.out.cell 0 (v := .int .i64 F) rfl
      have cso_1 := Sso.out.cell 1 (v := .slice ao G.length co) rfl
      go_wp2
      go_ret
      exact ⟨by first | rfl | exact ret_bool (by simp) | exact ret_bool (by simp; omega), Hb.out⟩

theorem fnVoterForget_own : ownKnob Try.prog.godebug = none := by kernel_rfl
theorem fnVoterForget_laidOut : laidOutB Try.prog = true := by kernel_rfl

set_option maxRecDepth 8000 in
theorem fnVoterForget_lifted (os : Os) (started : os.Started) (H : Type) (enc : TypeId × Value → H) :
    ReturnsInHanded {} Try.checked os 6 .any (Rows.fnVoterForgetSpec.pre6 enc Try.prog Try.f6 Rows.fnVoterForgetRow.domain false) (Rows.fnVoterForgetSpec.post enc Try.prog Try.f6 false true false false) := by
  refine law_lifted (C := Try.checked) (tb := 4) fnVoterForget_own fnVoterForget_laidOut started (by kernel_rfl) Try.func6 rfl Try.underlying4 rfl (by rw [Try.params6]; exact of_decide_eq_true (by kernel_rfl)) ?_
    (ChangeSpec.witness6 (enc := enc) (C := Try.checked) false ⟨#[], #[.slice none 0 0, .slice none 0 0], []⟩ 8 (by kernel_rfl) (by kernel_rfl) (by kernel_rfl) (by kernel_rfl)) ?_
  · intro ds hds
    rw [Try.params6] at hds
    match ds, hds with
    | [d0, d1], _ => rfl
  · intro W base args ds p hval0 hA0
    have hval : ∀ (j : Nat) t v, Try.f6.params[j]? = some t → args[j]? = some v → Value.okWide Try.prog W .any base t v := hval0
    have hA : DataW.TrodAll enc Try.prog W 0 (fun _ => true) true Try.f6.params.toList args.toList ds p := hA0
    rw [Try.params6] at hA hval
    obtain ⟨v0, vs0, d0, ds0, p0, q0, hargs0, rfl, rfl, h0, r0⟩ := trodAll_cons hA
    obtain ⟨v1, vs1, d1, ds1, p1, q1, hargs1, rfl, rfl, h1, r1⟩ := trodAll_cons r0
    obtain ⟨hnil, rfl, rfl⟩ := trodAll_nil r1
    subst hnil
    subst hargs1
    obtain rfl : args = #[v0, v1] := by cases args; simp_all
    obtain ⟨a0, cap0, zs0, rfl, hk0, hm0, hi0, hw0⟩ := open_slice_ints Try.underlying22 Try.underlying5 (by kernel_rfl) (hval 0 22 v0 rfl rfl) h0
    obtain ⟨a1, cap1, zs1, rfl, hk1, hm1, hi1, hw1⟩ := open_slice_ints Try.underlying22 Try.underlying5 (by kernel_rfl) (hval 1 22 v1 rfl rfl) h1
    exact fnVoterForget_walk a0 cap0 zs0 a1 cap1 zs1 W hk0 hm0 hi0 hw0 hk1 hm1 hi1 hw1

set_option maxRecDepth 8000 in
theorem fnVoterForget_holds : Rows.FnVoterForgetSaid :=
  OpenClaim.holds_of_wide 6 Try.f6 rfl rfl rfl rfl rfl rfl rfl ⟨rfl, rfl, rfl, rfl, rfl⟩ rfl rfl rfl rfl rfl (by kernel_rfl) Try.func6 (by kernel_rfl)
    (of_decide_eq_true (by kernel_rfl)) (by unfold Func.isWrapper; first | (rw [if_pos (by decide +kernel)]; kernel_rfl) | (rw [if_neg (by decide +kernel)]; exact ⟨rfl, rfl⟩))
    (fun os started H enc _ => fnVoterForget_lifted os started H enc)

end Go.Proofs.Ytgpbogalknmcmaa
