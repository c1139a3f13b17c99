/- Law FnVoterFull holds for every input; no conditions of our own. -/
import Derived.Test.YtgpbogalknmcmaaRows
import Derived.Test.YtgpbogalknmcmaaBu0
import Derived.Test.YtgpbogalknmcmaaBu1
import Derived.Test.YtgpbogalknmcmaaBu4
import Derived.Test.YtgpbogalknmcmaaBu5
import Derived.Deep.QuietTactic
import Derived.BigQuiet
namespace Go.Proofs.Ytgpbogalknmcmaa
open Go.ChangeShapes Go.WideShapes Go.ChangeAt Go.RowKit

set_option maxHeartbeats 4000000 in
theorem fnVoterFull_walk (a : Option Addr) (cap : Nat) (zs : List Int) (w : World) (hk : zs.length ≤ cap) (_hm : zs.length ≤ maxLen) (hi : zs = [] ∨ ∃ b off, a = some ⟨b, off, none⟩ ∧ b < w.heap.size ∧ ∀ j (h : j < zs.length), w.cell? ⟨b, off + j, none⟩ = some (.int .u8 zs[j])) (hw : ∀ z ∈ zs, (Lit.int .u8 z).wf = true) :
    Calls Try.prog 8 #[.slice a zs.length cap] w fun e w' => e = .returned (.bool true) ∧ Below w.heap.size w w' := by
  by_cases hl : 1048576 < zs.length
  · go_enter Try.func8, Try.ntmps8
    go_wp2
    go_ret
    exact ⟨rfl, Below.refl _ _⟩
  have hcode := codeAt_of hk (by omega) hi hw
  have Hcode := Lib.hid hcode; clear hcode hi hw
  go_enter Try.func8, Try.ntmps8
  go_wp2_with fail
  refine (spec_DrawVoterSign a cap zs _ Hcode.out).mono ?_
  rintro e w1 ⟨f, g, ux, fx, ⟨vr, va, vd⟩, rfl, hx, hgl, hb1⟩
  dsimp only at *
  obtain ⟨ax, cx, rfl⟩ := Vts.slice hx
  have Tx := Lib.hid hx; have Hb := Lib.hid hb1
  clear hx hb1
  have hal : Below w1.heap.size w1 (w1.alloc (.cells #[.int .i64 f, .slice ax g.length cx] 25)) := (Below.refl _ _).alloc (Nat.le_refl _) _
  have Tx := Lib.hid (show Vts (w1.alloc (.cells #[.int .i64 f, .slice ax g.length cx] 25)) g (.slice ax g.length cx) fx from Tx.out.under hal)
  have Sx := Lib.hid (Str.new w1 25 #[.int .i64 f, .slice ax g.length cx])
  have hzx : (w1.alloc (.cells #[.int .i64 f, .slice ax g.length cx] 25)).heap.size = w1.heap.size + 1 := by simp
  have Hb := Lib.hid (below_step Hb.out Hb.out.size hal)
  clear hal
  have hal : Below (w1.alloc (.cells #[.int .i64 f, .slice ax g.length cx] 25)).heap.size (w1.alloc (.cells #[.int .i64 f, .slice ax g.length cx] 25)) ((w1.alloc (.cells #[.int .i64 f, .slice ax g.length cx] 25)).alloc (.cells #[.int .i64 vr, .int .i64 va, .int .i64 vd] 27)) := (Below.refl _ _).alloc (Nat.le_refl _) _
  have Tx := Lib.hid (show Vts ((w1.alloc (.cells #[.int .i64 f, .slice ax g.length cx] 25)).alloc (.cells #[.int .i64 vr, .int .i64 va, .int .i64 vd] 27)) g (.slice ax g.length cx) fx from Tx.out.under hal)
  have Sx := Lib.hid (show Str ((w1.alloc (.cells #[.int .i64 f, .slice ax g.length cx] 25)).alloc (.cells #[.int .i64 vr, .int .i64 va, .int .i64 vd] 27)) (w1.heap.size) 25 #[.int .i64 f, .slice ax g.length cx] from Sx.out.alloc _)
  have Sv := Lib.hid (Str.new (w1.alloc (.cells #[.int .i64 f, .slice ax g.length cx] 25)) 27 #[.int .i64 vr, .int .i64 va, .int .i64 vd])
  have hzv : ((w1.alloc (.cells #[.int .i64 f, .slice ax g.length cx] 25)).alloc (.cells #[.int .i64 vr, .int .i64 va, .int .i64 vd] 27)).heap.size = (w1.alloc (.cells #[.int .i64 f, .slice ax g.length cx] 25)).heap.size + 1 := by simp
  have Hb := Lib.hid (below_step Hb.out Hb.out.size hal)
  clear hal
  have Sv := Lib.hid (show Str ((w1.alloc (.cells #[.int .i64 f, .slice ax g.length cx] 25)).alloc (.cells #[.int .i64 vr, .int .i64 va, .int .i64 vd] 27)) (w1.heap.size + 1) 27 #[.int .i64 vr, .int .i64 va, .int .i64 vd] by have h9 := Sv.out; simp only [World.size_alloc] at h9; exact h9)
  have HI := Lib.hid (fun W h => impl_VoterSign f g (.slice ax g.length cx) fx vr va vd W (by omega) h)
  have HS := Lib.hid (fun W h => spec_VoterSign f g (.slice ax g.length cx) fx vr va vd W (by omega) h)
  have hGl := sg_len f g ⟨vr, va, vd⟩
  have HA := Lib.hid (full_fact (f := f) (g := g) (v := ⟨vr, va, vd⟩))
  have HV := Lib.hid (fun W h => spec_VoterValid f g (.slice ax g.length cx) fx W (by omega) h)
  have cx_0 := Sx.out.cell 0 (v := .int .i64 f) rfl
  have cx_1 := Sx.out.cell 1 (v := .slice ax g.length cx) rfl
  have cv_0 := Sv.out.cell 0 (v := .int .i64 vr) rfl
  have cv_1 := Sv.out.cell 1 (v := .int .i64 va) rfl
  have cv_2 := Sv.out.cell 2 (v := .int .i64 vd) rfl
  go_wp2_with fail
  generalize ((w1.alloc (.cells #[.int .i64 f, .slice ax g.length cx] 25)).alloc (.cells #[.int .i64 vr, .int .i64 va, .int .i64 vd] 27)) = W1 at *
  clear cx_0 cx_1 cv_0 cv_1 cv_2
  refine (HI.out _ Tx.out).mono ?_
  rintro e w2 ⟨vo, rfl, hor, hb⟩
  generalize sgF f g ⟨vr, va, vd⟩ = F at *
  generalize sgG f g ⟨vr, va, vd⟩ = G at *
  generalize sgB f g ⟨vr, va, vd⟩ = B at *
  obtain ⟨fo, hv9⟩ := hor.reads
  obtain ⟨ao, co, rfl⟩ := Vts.slice (show Vts w2 G vo fo from hv9)
  have hT : Vts w2 G (.slice ao G.length co) fo := hv9
  clear hor hv9
  have Tx := Lib.hid (show Vts w2 g (.slice ax g.length cx) fx from Tx.out.under hb)
  have Sx := Lib.hid (show Str w2 (w1.heap.size) 25 #[.int .i64 f, .slice ax g.length cx] from (hb.block _ Sx.out.lt).trans Sx.out)
  have Sv := Lib.hid (show Str w2 (w1.heap.size + 1) 27 #[.int .i64 vr, .int .i64 va, .int .i64 vd] from (hb.block _ Sv.out.lt).trans Sv.out)
  have hsw2 := hb.size
  have Hb := Lib.hid (below_step Hb.out Hb.out.size hb)
  have To := Lib.hid hT
  clear hT hb
  have hal : Below w2.heap.size w2 (w2.alloc (.cells #[.int .i64 F, .slice ao G.length co] 25)) := (Below.refl _ _).alloc (Nat.le_refl _) _
  have Tx := Lib.hid (show Vts (w2.alloc (.cells #[.int .i64 F, .slice ao G.length co] 25)) g (.slice ax g.length cx) fx from Tx.out.under hal)
  have To := Lib.hid (show Vts (w2.alloc (.cells #[.int .i64 F, .slice ao G.length co] 25)) G (.slice ao G.length co) fo from To.out.under hal)
  have Sx := Lib.hid (show Str (w2.alloc (.cells #[.int .i64 F, .slice ao G.length co] 25)) (w1.heap.size) 25 #[.int .i64 f, .slice ax g.length cx] from Sx.out.alloc _)
  have Sv := Lib.hid (show Str (w2.alloc (.cells #[.int .i64 F, .slice ao G.length co] 25)) (w1.heap.size + 1) 27 #[.int .i64 vr, .int .i64 va, .int .i64 vd] from Sv.out.alloc _)
  have Sso := Lib.hid (Str.new w2 25 #[.int .i64 F, .slice ao G.length co])
  have hzso : (w2.alloc (.cells #[.int .i64 F, .slice ao G.length co] 25)).heap.size = w2.heap.size + 1 := by simp
  have Hb := Lib.hid (below_step Hb.out Hb.out.size hal)
  clear hal
  have cx_0 := Sx.out.cell 0 (v := .int .i64 f) rfl
  have cx_1 := Sx.out.cell 1 (v := .slice ax g.length cx) rfl
  have cv_0 := Sv.out.cell 0 (v := .int .i64 vr) rfl
  have cv_1 := Sv.out.cell 1 (v := .int .i64 va) rfl
  have cv_2 := Sv.out.cell 2 (v := .int .i64 vd) rfl
  have cso_0 := Sso.out.cell 0 (v := .int .i64 F) rfl
  have cso_1 := Sso.out.cell 1 (v := .slice ao G.length co) rfl
  go_wp2_with fail
  generalize (w2.alloc (.cells #[.int .i64 F, .slice ao G.length co] 25)) = W2 at *
  clear cx_0 cx_1 cv_0 cv_1 cv_2 cso_0 cso_1
  refine (HS.out _ Tx.out).mono ?_
  rintro e w3 ⟨vk, rfl, hor, hb⟩
  obtain ⟨fk, hv9⟩ := hor.reads
  obtain ⟨ak, ck, rfl⟩ := Vts.slice (show Vts w3 G vk fk from hv9)
  have hT : Vts w3 G (.slice ak G.length ck) fk := hv9
  clear hor hv9
  have Tx := Lib.hid (show Vts w3 g (.slice ax g.length cx) fx from Tx.out.under hb)
  have To := Lib.hid (show Vts w3 G (.slice ao G.length co) fo from To.out.under hb)
  have Sx := Lib.hid (show Str w3 (w1.heap.size) 25 #[.int .i64 f, .slice ax g.length cx] from (hb.block _ Sx.out.lt).trans Sx.out)
  have Sv := Lib.hid (show Str w3 (w1.heap.size + 1) 27 #[.int .i64 vr, .int .i64 va, .int .i64 vd] from (hb.block _ Sv.out.lt).trans Sv.out)
  have Sso := Lib.hid (show Str w3 (w2.heap.size) 25 #[.int .i64 F, .slice ao G.length co] from (hb.block _ Sso.out.lt).trans Sso.out)
  have hsw3 := hb.size
  have Hb := Lib.hid (below_step Hb.out Hb.out.size hb)
  have Tk := Lib.hid hT
  clear hT hb
  have hal : Below w3.heap.size w3 (w3.alloc (.cells #[.int .i64 F, .slice ak G.length ck] 25)) := (Below.refl _ _).alloc (Nat.le_refl _) _
  have Tx := Lib.hid (show Vts (w3.alloc (.cells #[.int .i64 F, .slice ak G.length ck] 25)) g (.slice ax g.length cx) fx from Tx.out.under hal)
  have To := Lib.hid (show Vts (w3.alloc (.cells #[.int .i64 F, .slice ak G.length ck] 25)) G (.slice ao G.length co) fo from To.out.under hal)
  have Tk := Lib.hid (show Vts (w3.alloc (.cells #[.int .i64 F, .slice ak G.length ck] 25)) G (.slice ak G.length ck) fk from Tk.out.under hal)
  have Sx := Lib.hid (show Str (w3.alloc (.cells #[.int .i64 F, .slice ak G.length ck] 25)) (w1.heap.size) 25 #[.int .i64 f, .slice ax g.length cx] from Sx.out.alloc _)
  have Sv := Lib.hid (show Str (w3.alloc (.cells #[.int .i64 F, .slice ak G.length ck] 25)) (w1.heap.size + 1) 27 #[.int .i64 vr, .int .i64 va, .int .i64 vd] from Sv.out.alloc _)
  have Sso := Lib.hid (show Str (w3.alloc (.cells #[.int .i64 F, .slice ak G.length ck] 25)) (w2.heap.size) 25 #[.int .i64 F, .slice ao G.length co] from Sso.out.alloc _)
  have Ssk := Lib.hid (Str.new w3 25 #[.int .i64 F, .slice ak G.length ck])
  have hzsk : (w3.alloc (.cells #[.int .i64 F, .slice ak G.length ck] 25)).heap.size = w3.heap.size + 1 := by simp
  have Hb := Lib.hid (below_step Hb.out Hb.out.size hal)
  clear hal
  have hbb : (B != B) = false := by simp
  have hbe : (B == B) = true := by simp
  have cso_0 := Sso.out.cell 0 (v := .int .i64 F) rfl
  have cso_1 := Sso.out.cell 1 (v := .slice ao G.length co) rfl
  have csk_0 := Ssk.out.cell 0 (v := .int .i64 F) rfl
  have csk_1 := Ssk.out.cell 1 (v := .slice ak G.length ck) rfl
  go_wp2_with fail
  generalize (w3.alloc (.cells #[.int .i64 F, .slice ak G.length ck] 25)) = W3 at *
  clear cso_0 cso_1 csk_0 csk_1
  refine (sameVoter_self F G _ _ fo fk _ (by omega) To.out Tk.out).mono ?_
  rintro e w4 ⟨rfl, hb⟩
  have Tx := Lib.hid (show Vts w4 g (.slice ax g.length cx) fx from Tx.out.under hb)
  have To := Lib.hid (show Vts w4 G (.slice ao G.length co) fo from To.out.under hb)
  have Tk := Lib.hid (show Vts w4 G (.slice ak G.length ck) fk from Tk.out.under hb)
  have Sx := Lib.hid (show Str w4 (w1.heap.size) 25 #[.int .i64 f, .slice ax g.length cx] from (hb.block _ Sx.out.lt).trans Sx.out)
  have Sv := Lib.hid (show Str w4 (w1.heap.size + 1) 27 #[.int .i64 vr, .int .i64 va, .int .i64 vd] from (hb.block _ Sv.out.lt).trans Sv.out)
  have Sso := Lib.hid (show Str w4 (w2.heap.size) 25 #[.int .i64 F, .slice ao G.length co] from (hb.block _ Sso.out.lt).trans Sso.out)
  have Ssk := Lib.hid (show Str w4 (w3.heap.size) 25 #[.int .i64 F, .slice ak G.length ck] from (hb.block _ Ssk.out.lt).trans Ssk.out)
  have hsw4 := hb.size
  have Hb := Lib.hid (below_step Hb.out Hb.out.size hb)
  clear hb
  cases B with
  | true =>
    have cso_0 := Sso.out.cell 0 (v := .int .i64 F) rfl
    have cso_1 := Sso.out.cell 1 (v := .slice ao G.length co) rfl
    have csk_0 := Ssk.out.cell 0 (v := .int .i64 F) rfl
    have csk_1 := Ssk.out.cell 1 (v := .slice ak G.length ck) rfl
    go_wp2_with fail
    clear cso_0 cso_1 csk_0 csk_1
    refine (sameVoter_self F G _ _ fo fk _ (by omega) To.out Tk.out).mono ?_
    rintro e w5 ⟨rfl, hb⟩
    have Tx := Lib.hid (show Vts w5 g (.slice ax g.length cx) fx from Tx.out.under hb)
    have To := Lib.hid (show Vts w5 G (.slice ao G.length co) fo from To.out.under hb)
    have Tk := Lib.hid (show Vts w5 G (.slice ak G.length ck) fk from Tk.out.under hb)
    have Sx := Lib.hid (show Str w5 (w1.heap.size) 25 #[.int .i64 f, .slice ax g.length cx] from (hb.block _ Sx.out.lt).trans Sx.out)
    have Sv := Lib.hid (show Str w5 (w1.heap.size + 1) 27 #[.int .i64 vr, .int .i64 va, .int .i64 vd] from (hb.block _ Sv.out.lt).trans Sv.out)
    have Sso := Lib.hid (show Str w5 (w2.heap.size) 25 #[.int .i64 F, .slice ao G.length co] from (hb.block _ Sso.out.lt).trans Sso.out)
    have Ssk := Lib.hid (show Str w5 (w3.heap.size) 25 #[.int .i64 F, .slice ak G.length ck] from (hb.block _ Ssk.out.lt).trans Ssk.out)
    have hsw5 := hb.size
    have Hb := Lib.hid (below_step Hb.out Hb.out.size hb)
    clear hb
    go_wp2
    go_ret
    exact ⟨by first | rfl | exact ret_bool (by simp) | exact ret_bool (by simp; omega), Hb.out⟩
  | false =>
  have cx_0 := Sx.out.cell 0 (v := .int .i64 f) rfl
  have cx_1 := Sx.out.cell 1 (v := .slice ax g.length cx) rfl
  go_wp2_with fail
  clear cx_0 cx_1
  refine (HV.out _ Tx.out).mono ?_
  rintro e w5 ⟨rfl, hb⟩
  have Tx := Lib.hid (show Vts w5 g (.slice ax g.length cx) fx from Tx.out.under hb)
  have To := Lib.hid (show Vts w5 G (.slice ao G.length co) fo from To.out.under hb)
  have Tk := Lib.hid (show Vts w5 G (.slice ak G.length ck) fk from Tk.out.under hb)
  have Sx := Lib.hid (show Str w5 (w1.heap.size) 25 #[.int .i64 f, .slice ax g.length cx] from (hb.block _ Sx.out.lt).trans Sx.out)
  have Sv := Lib.hid (show Str w5 (w1.heap.size + 1) 27 #[.int .i64 vr, .int .i64 va, .int .i64 vd] from (hb.block _ Sv.out.lt).trans Sv.out)
  have Sso := Lib.hid (show Str w5 (w2.heap.size) 25 #[.int .i64 F, .slice ao G.length co] from (hb.block _ Sso.out.lt).trans Sso.out)
  have Ssk := Lib.hid (show Str w5 (w3.heap.size) 25 #[.int .i64 F, .slice ak G.length ck] from (hb.block _ Ssk.out.lt).trans Ssk.out)
  have hsw5 := hb.size
  have Hb := Lib.hid (below_step Hb.out Hb.out.size hb)
  clear hb
  cases hvb : voterB f g with
  | false =>
    have cso_0 := Sso.out.cell 0 (v := .int .i64 F) rfl
    have cso_1 := Sso.out.cell 1 (v := .slice ao G.length co) rfl
    have csk_0 := Ssk.out.cell 0 (v := .int .i64 F) rfl
    have csk_1 := Ssk.out.cell 1 (v := .slice ak G.length ck) rfl
    go_wp2_with fail
    clear cso_0 cso_1 csk_0 csk_1
    refine (sameVoter_self F G _ _ fo fk _ (by omega) To.out Tk.out).mono ?_
    rintro e w6 ⟨rfl, hb⟩
    have Tx := Lib.hid (show Vts w6 g (.slice ax g.length cx) fx from Tx.out.under hb)
    have To := Lib.hid (show Vts w6 G (.slice ao G.length co) fo from To.out.under hb)
    have Tk := Lib.hid (show Vts w6 G (.slice ak G.length ck) fk from Tk.out.under hb)
    have Sx := Lib.hid (show Str w6 (w1.heap.size) 25 #[.int .i64 f, .slice ax g.length cx] from (hb.block _ Sx.out.lt).trans Sx.out)
    have Sv := Lib.hid (show Str w6 (w1.heap.size + 1) 27 #[.int .i64 vr, .int .i64 va, .int .i64 vd] from (hb.block _ Sv.out.lt).trans Sv.out)
    have Sso := Lib.hid (show Str w6 (w2.heap.size) 25 #[.int .i64 F, .slice ao G.length co] from (hb.block _ Sso.out.lt).trans Sso.out)
    have Ssk := Lib.hid (show Str w6 (w3.heap.size) 25 #[.int .i64 F, .slice ak G.length ck] from (hb.block _ Ssk.out.lt).trans Ssk.out)
    have hsw6 := hb.size
    have Hb := Lib.hid (below_step Hb.out Hb.out.size hb)
    clear hb
    go_wp2
    go_ret
    exact ⟨by first | rfl | exact ret_bool (by simp) | exact ret_bool (by simp; omega), Hb.out⟩
  | true =>
  by_cases hle : (G.length : Int) = (g.length : Int)
  case neg =>
    have hle' : ((G.length : Int) != (g.length : Int)) = true := by simpa using hle
    have cso_0 := Sso.out.cell 0 (v := .int .i64 F) rfl
    have cso_1 := Sso.out.cell 1 (v := .slice ao G.length co) rfl
    have csk_0 := Ssk.out.cell 0 (v := .int .i64 F) rfl
    have csk_1 := Ssk.out.cell 1 (v := .slice ak G.length ck) rfl
    have cx_0 := Sx.out.cell 0 (v := .int .i64 f) rfl
    have cx_1 := Sx.out.cell 1 (v := .slice ax g.length cx) rfl
    go_wp2_with fail
    clear cso_0 cso_1 csk_0 csk_1 cx_0 cx_1
    refine (sameVoter_self F G _ _ fo fk _ (by omega) To.out Tk.out).mono ?_
    rintro e w6 ⟨rfl, hb⟩
    have Tx := Lib.hid (show Vts w6 g (.slice ax g.length cx) fx from Tx.out.under hb)
    have To := Lib.hid (show Vts w6 G (.slice ao G.length co) fo from To.out.under hb)
    have Tk := Lib.hid (show Vts w6 G (.slice ak G.length ck) fk from Tk.out.under hb)
    have Sx := Lib.hid (show Str w6 (w1.heap.size) 25 #[.int .i64 f, .slice ax g.length cx] from (hb.block _ Sx.out.lt).trans Sx.out)
    have Sv := Lib.hid (show Str w6 (w1.heap.size + 1) 27 #[.int .i64 vr, .int .i64 va, .int .i64 vd] from (hb.block _ Sv.out.lt).trans Sv.out)
    have Sso := Lib.hid (show Str w6 (w2.heap.size) 25 #[.int .i64 F, .slice ao G.length co] from (hb.block _ Sso.out.lt).trans Sso.out)
    have Ssk := Lib.hid (show Str w6 (w3.heap.size) 25 #[.int .i64 F, .slice ak G.length ck] from (hb.block _ Ssk.out.lt).trans Ssk.out)
    have hsw6 := hb.size
    have Hb := Lib.hid (below_step Hb.out Hb.out.size hb)
    clear hb
    go_wp2
    go_ret
    exact ⟨by first | rfl | exact ret_bool (by simp) | exact ret_bool (by simp; omega), Hb.out⟩
  have hle' : ((G.length : Int) != (g.length : Int)) = false := by simpa using hle
  obtain ⟨hfa, hfb⟩ := HA.out (by first | rfl | trivial) hvb (by omega)
  have Hfa := Lib.hid hfa; have Hfb := Lib.hid hfb; clear hfa hfb HA HV HI HS hvb
  skip
  have cx_0 := Sx.out.cell 0 (v := .int .i64 f) rfl
  have cx_1 := Sx.out.cell 1 (v := .slice ax g.length cx) rfl
  have cso_0 := Sso.out.cell 0 (v := .int .i64 F) rfl
  have cso_1 := Sso.out.cell 1 (v := .slice ao G.length co) rfl
  have csk_0 := Ssk.out.cell 0 (v := .int .i64 F) rfl
  have csk_1 := Ssk.out.cell 1 (v := .slice ak G.length ck) rfl
  have cv_0 := Sv.out.cell 0 (v := .int .i64 vr) rfl
  have cv_1 := Sv.out.cell 1 (v := .int .i64 va) rfl
  have cv_2 := Sv.out.cell 2 (v := .int .i64 vd) rfl
  go_wp2
  clear cx_0 cx_1 cso_0 cso_1 csk_0 csk_1 cv_0 cv_1 cv_2
  clear hle hle'
  have HB5 := Lib.hid Hb.out
  go_loopw [9] (fun i wr => ∃ k : Nat, k ≤ g.length ∧ i = .int .i64 k ∧ (∀ j (h : j < g.length), j < k → ¬ (g[j].r = vr ∧ g[j].a = va)) ∧ Drawn w5 wr) (fun i _ => g.length - (intOf i).toNat)
  case atStart => exact ⟨0, by omega, rfl, fun j _ h => by omega, Drawn.refl _⟩
  case round =>
    obtain ⟨k, hk, rfl, hno, hd⟩ := hrel
    have Hno := Lib.hid hno; clear hno
    have mx_0 := (hd.cell _).trans (Sx.out.cell 0 (v := .int .i64 f) rfl)
    have mx_1 := (hd.cell _).trans (Sx.out.cell 1 (v := .slice ax g.length cx) rfl)
    have mv_0 := (hd.cell _).trans (Sv.out.cell 0 (v := .int .i64 vr) rfl)
    have mv_1 := (hd.cell _).trans (Sv.out.cell 1 (v := .int .i64 va) rfl)
    have mv_2 := (hd.cell _).trans (Sv.out.cell 2 (v := .int .i64 vd) rfl)
    by_cases hlt : k < g.length
    · obtain ⟨bx, ox, rfl, hbx, hat⟩ := Vts.at Tx.out (by omega)
      obtain ⟨g0, g1, g2⟩ := hat k hlt
      have x0 := (hd.cell _).trans g0
      have x1 := (hd.cell _).trans g1
      have x2 := (hd.cell _).trans g2
      have Hne := Lib.hid (Hfa.out _ (List.getElem_mem hlt))
      have Hnx := Lib.hid (fun (hn : ¬ (g[k].r = vr ∧ g[k].a = va)) j (h : j < g.length) (hj : j < k + 1) => show ¬ (g[j].r = vr ∧ g[j].a = va) from by by_cases e : j = k; (subst e; exact hn); exact Hno.out j h (by omega))
      clear hat g0 g1 g2
      generalize hy : g[k] = y at *
      have Hd := Lib.hid hd; clear hd hy
      obtain ⟨yr, ya, yd⟩ := y
      dsimp only at *
      by_cases hr : yr = vr
      case neg =>
        have hr' : (yr == vr) = false := by rw [beq_eq_false_iff_ne]; exact hr
        have Hr := Lib.hid hr; clear hr
        go_wp2_with fail
        go_quiet (fail)
        go_wp2
        go_roundw
        case rel => exact ⟨k + 1, by omega, by go_num, Hnx.out (fun h => Hr.out h.1), Hd.out.drewN _⟩
        case measure => simp [intOf]; omega
      have hr' : (yr == vr) = true := by rw [beq_iff_eq]; exact hr
      by_cases ha : ya = va
      case neg =>
        have ha' : (ya == va) = false := by rw [beq_eq_false_iff_ne]; exact ha
        have Ha := Lib.hid ha; have Hr := Lib.hid hr; clear ha hr
        go_wp2_with fail
        go_quiet (fail)
        go_wp2
        go_roundw
        case rel => exact ⟨k + 1, by omega, by go_num, Hnx.out (fun h => Ha.out h.2), Hd.out.drewN _⟩
        case measure => simp [intOf]; omega
      have ha' : (ya == va) = true := by rw [beq_iff_eq]; exact ha
      have hne := Hne.out hr ha
      have hd' : (yd != vd) = true := by simpa using hne
      clear hr ha hne
      go_wp2_with fail
      go_quiet (fail)
      go_wp2_with fail
      go_quiet (fail)
      go_wp2
      go_ret
      exact ⟨by first | rfl | exact ret_bool (by simp), below_step HB5.out HB5.out.size (((Hd.out.drewN _).drewN _).below _)⟩
    · have hend := Hfb.out (fun u hu => by obtain ⟨j, hj, rfl⟩ := List.mem_iff_getElem.1 hu; exact Hno.out j hj (by omega))
      have Hb := Lib.hid (below_step HB5.out HB5.out.size (hd.below _))
      clear hd
      try simp only at hend
      by_cases h1 : vr < f
      · go_wp2
        go_ret
        exact ⟨by first | rfl | exact ret_bool (by simp) | exact ret_bool (by simp; omega), Hb.out⟩
      by_cases h2 : (g.length : Int) = 40
      · have h2' : ((g.length : Int) == 40) = true := by rw [beq_iff_eq]; exact h2
        go_wp2
        go_ret
        exact ⟨by first | rfl | exact ret_bool (by simp) | exact ret_bool (by simp; omega), Hb.out⟩
      have h2' : ((g.length : Int) == 40) = false := by rw [beq_eq_false_iff_ne]; exact h2
      have h3 : (g.length : Int) = 0 := by omega
      have h3' : ((g.length : Int) == 0) = true := by rw [beq_iff_eq]; exact h3
      go_wp2
      go_ret
      exact ⟨by first | rfl | exact ret_bool (by simp) | exact ret_bool (by simp; omega), Hb.out⟩

theorem fnVoterFull_own : ownKnob Try.prog.godebug = none := by kernel_rfl
theorem fnVoterFull_laidOut : laidOutB Try.prog = true := by kernel_rfl

set_option maxRecDepth 8000 in
theorem fnVoterFull_lifted (os : Os) (started : os.Started) (H : Type) (enc : TypeId × Value → H) :
    ReturnsInHanded {} Try.checked os 8 .any (Rows.fnVoterFullSpec.pre6 enc Try.prog Try.f8 Rows.fnVoterFullRow.domain false) (Rows.fnVoterFullSpec.post enc Try.prog Try.f8 false true false false) := by
  refine law_lifted (C := Try.checked) (tb := 4) fnVoterFull_own fnVoterFull_laidOut started (by kernel_rfl) Try.func8 rfl Try.underlying4 rfl (by rw [Try.params8]; exact of_decide_eq_true (by kernel_rfl)) ?_
    (ChangeSpec.witness6 (enc := enc) (C := Try.checked) false ⟨#[], #[.slice none 0 0], []⟩ 8 (by kernel_rfl) (by kernel_rfl) (by kernel_rfl) (by kernel_rfl)) ?_
  · intro ds hds
    rw [Try.params8] at hds
    match ds, hds with
    | [d0], _ => rfl
  · intro W base args ds p hval0 hA0
    have hval : ∀ (j : Nat) t v, Try.f8.params[j]? = some t → args[j]? = some v → Value.okWide Try.prog W .any base t v := hval0
    have hA : DataW.TrodAll enc Try.prog W 0 (fun _ => true) true Try.f8.params.toList args.toList ds p := hA0
    rw [Try.params8] at hA hval
    obtain ⟨v0, vs0, d0, ds0, p0, q0, hargs0, rfl, rfl, h0, r0⟩ := trodAll_cons hA
    obtain ⟨hnil, rfl, rfl⟩ := trodAll_nil r0
    subst hnil
    obtain rfl : args = #[v0] := by cases args; simp_all
    obtain ⟨a0, cap0, zs0, rfl, hk0, hm0, hi0, hw0⟩ := open_slice_ints Try.underlying22 Try.underlying5 (by kernel_rfl) (hval 0 22 v0 rfl rfl) h0
    exact fnVoterFull_walk a0 cap0 zs0 W hk0 hm0 hi0 hw0

theorem fnVoterFull_holds : Rows.FnVoterFullSaid :=
  OpenClaim.holds_of_wide 8 Try.f8 rfl rfl rfl rfl rfl rfl rfl ⟨rfl, rfl, rfl, rfl, rfl⟩ rfl rfl rfl rfl rfl (by kernel_rfl) Try.func8 (by kernel_rfl)
    (of_decide_eq_true (by kernel_rfl)) (by unfold Func.isWrapper; first | (rw [if_pos (by decide +kernel)]; kernel_rfl) | (rw [if_neg (by decide +kernel)]; exact ⟨rfl, rfl⟩))
    (fun os started H enc _ => fnVoterFull_lifted os started H enc)

end Go.Proofs.Ytgpbogalknmcmaa
