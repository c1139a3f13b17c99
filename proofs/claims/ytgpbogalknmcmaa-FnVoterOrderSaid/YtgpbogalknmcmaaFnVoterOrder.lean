/- Law FnVoterOrder holds for every input; no conditions of our own. -/
import Derived.Test.YtgpbogalknmcmaaRows
import Derived.Test.YtgpbogalknmcmaaBu0
import Derived.Test.YtgpbogalknmcmaaBu1
import Derived.Test.YtgpbogalknmcmaaBu4
import Derived.Test.YtgpbogalknmcmaaBu5
import Derived.Deep.QuietTactic
import Derived.BigQuiet
namespace Go.Proofs.Ytgpbogalknmcmaa
open Go.ChangeShapes Go.WideShapes Go.ChangeAt Go.RowKit

set_option maxHeartbeats 4000000 in
theorem fnVoterOrder_walk (a : Option Addr) (cap : Nat) (zs : List Int) (a' : Option Addr) (cap' : Nat) (ms : List Int) (w : World) (hk : zs.length ≤ cap) (_hm : zs.length ≤ maxLen) (hi : zs = [] ∨ ∃ b off, a = some ⟨b, off, none⟩ ∧ b < w.heap.size ∧ ∀ j (h : j < zs.length), w.cell? ⟨b, off + j, none⟩ = some (.int .u8 zs[j])) (hw : ∀ z ∈ zs, (Lit.int .u8 z).wf = true)
    (_hk' : ms.length ≤ cap') (hm' : ms.length ≤ maxLen) (_hi' : ms = [] ∨ ∃ b off, a' = some ⟨b, off, none⟩ ∧ b < w.heap.size ∧ ∀ j (h : j < ms.length), w.cell? ⟨b, off + j, none⟩ = some (.int .u8 ms[j])) (_hw' : ∀ z ∈ ms, (Lit.int .u8 z).wf = true) :
    Calls Try.prog 9 #[.slice a zs.length cap, .slice a' ms.length cap'] w fun e w' => e = .returned (.bool true) ∧ Below w.heap.size w w' := by
  unfold maxLen at hm'
  by_cases hl : 1048576 < zs.length
  · go_enter Try.func9, Try.ntmps9
    go_wp2
    go_ret
    exact ⟨rfl, Below.refl _ _⟩
  by_cases hl' : 1048576 < ms.length
  · go_enter Try.func9, Try.ntmps9
    go_wp2
    go_ret
    exact ⟨rfl, Below.refl _ _⟩
  have hcode := codeAt_of hk (by omega) hi hw
  have Hcode := Lib.hid hcode; clear hcode hi hw
  have hcode' := codeAt_of _hk' (by omega) _hi' _hw'
  have Hcode' := Lib.hid hcode'; clear hcode'
  go_enter Try.func9, Try.ntmps9
  go_wp2_with fail
  refine (spec_DrawVoterSign a cap zs _ Hcode.out).mono ?_
  rintro e w1 ⟨f, g, ux, fx, ⟨vr, va, vd⟩, rfl, hx, hgl, hb1⟩
  dsimp only at *
  obtain ⟨ax, cx, rfl⟩ := Vts.slice hx
  have Tx := Lib.hid hx; have Hb := Lib.hid hb1
  clear hx hb1
  have hal : Below w1.heap.size w1 (w1.alloc (.cells #[.int .i64 f, .slice ax g.length cx] 25)) := (Below.refl _ _).alloc (Nat.le_refl _) _
  have Tx := Lib.hid (show Vts (w1.alloc (.cells #[.int .i64 f, .slice ax g.length cx] 25)) g (.slice ax g.length cx) fx from Tx.out.under hal)
  have Sx := Lib.hid (Str.new w1 25 #[.int .i64 f, .slice ax g.length cx])
  have hzx : (w1.alloc (.cells #[.int .i64 f, .slice ax g.length cx] 25)).heap.size = w1.heap.size + 1 := by simp
  have Hb := Lib.hid (below_step Hb.out Hb.out.size hal)
  clear hal
  have hal : Below (w1.alloc (.cells #[.int .i64 f, .slice ax g.length cx] 25)).heap.size (w1.alloc (.cells #[.int .i64 f, .slice ax g.length cx] 25)) ((w1.alloc (.cells #[.int .i64 f, .slice ax g.length cx] 25)).alloc (.cells #[.int .i64 vr, .int .i64 va, .int .i64 vd] 27)) := (Below.refl _ _).alloc (Nat.le_refl _) _
  have Tx := Lib.hid (show Vts ((w1.alloc (.cells #[.int .i64 f, .slice ax g.length cx] 25)).alloc (.cells #[.int .i64 vr, .int .i64 va, .int .i64 vd] 27)) g (.slice ax g.length cx) fx from Tx.out.under hal)
  have Sx := Lib.hid (show Str ((w1.alloc (.cells #[.int .i64 f, .slice ax g.length cx] 25)).alloc (.cells #[.int .i64 vr, .int .i64 va, .int .i64 vd] 27)) (w1.heap.size) 25 #[.int .i64 f, .slice ax g.length cx] from Sx.out.alloc _)
  have Sv := Lib.hid (Str.new (w1.alloc (.cells #[.int .i64 f, .slice ax g.length cx] 25)) 27 #[.int .i64 vr, .int .i64 va, .int .i64 vd])
  have hzv : ((w1.alloc (.cells #[.int .i64 f, .slice ax g.length cx] 25)).alloc (.cells #[.int .i64 vr, .int .i64 va, .int .i64 vd] 27)).heap.size = (w1.alloc (.cells #[.int .i64 f, .slice ax g.length cx] 25)).heap.size + 1 := by simp
  have Hb := Lib.hid (below_step Hb.out Hb.out.size hal)
  clear hal
  have Sv := Lib.hid (show Str ((w1.alloc (.cells #[.int .i64 f, .slice ax g.length cx] 25)).alloc (.cells #[.int .i64 vr, .int .i64 va, .int .i64 vd] 27)) (w1.heap.size + 1) 27 #[.int .i64 vr, .int .i64 va, .int .i64 vd] by have h9 := Sv.out; simp only [World.size_alloc] at h9; exact h9)
  have HI := Lib.hid (fun W h => impl_VoterSign f g (.slice ax g.length cx) fx vr va vd W (by omega) h)
  have HS := Lib.hid (fun W h => spec_VoterSign f g (.slice ax g.length cx) fx vr va vd W (by omega) h)
  have hGl := sg_len f g ⟨vr, va, vd⟩
  have HA := Lib.hid (fun u => order_fact (f := f) (g := g) (v := ⟨vr, va, vd⟩) (u := u))
  have cx_0 := Sx.out.cell 0 (v := .int .i64 f) rfl
  have cx_1 := Sx.out.cell 1 (v := .slice ax g.length cx) rfl
  have cv_0 := Sv.out.cell 0 (v := .int .i64 vr) rfl
  have cv_1 := Sv.out.cell 1 (v := .int .i64 va) rfl
  have cv_2 := Sv.out.cell 2 (v := .int .i64 vd) rfl
  go_wp2_with fail
  generalize ((w1.alloc (.cells #[.int .i64 f, .slice ax g.length cx] 25)).alloc (.cells #[.int .i64 vr, .int .i64 va, .int .i64 vd] 27)) = W1 at *
  clear cx_0 cx_1 cv_0 cv_1 cv_2
  refine (HI.out _ Tx.out).mono ?_
  rintro e w2 ⟨vo, rfl, hor, hb⟩
  generalize sgF f g ⟨vr, va, vd⟩ = F at *
  generalize sgG f g ⟨vr, va, vd⟩ = G at *
  generalize sgB f g ⟨vr, va, vd⟩ = B at *
  obtain ⟨fo, hv9⟩ := hor.reads
  obtain ⟨ao, co, rfl⟩ := Vts.slice (show Vts w2 G vo fo from hv9)
  have hT : Vts w2 G (.slice ao G.length co) fo := hv9
  clear hor hv9
  have Tx := Lib.hid (show Vts w2 g (.slice ax g.length cx) fx from Tx.out.under hb)
  have Sx := Lib.hid (show Str w2 (w1.heap.size) 25 #[.int .i64 f, .slice ax g.length cx] from (hb.block _ Sx.out.lt).trans Sx.out)
  have Sv := Lib.hid (show Str w2 (w1.heap.size + 1) 27 #[.int .i64 vr, .int .i64 va, .int .i64 vd] from (hb.block _ Sv.out.lt).trans Sv.out)
  have hsw2 := hb.size
  have Hb := Lib.hid (below_step Hb.out Hb.out.size hb)
  have To := Lib.hid hT
  clear hT hb
  have hal : Below w2.heap.size w2 (w2.alloc (.cells #[.int .i64 F, .slice ao G.length co] 25)) := (Below.refl _ _).alloc (Nat.le_refl _) _
  have Tx := Lib.hid (show Vts (w2.alloc (.cells #[.int .i64 F, .slice ao G.length co] 25)) g (.slice ax g.length cx) fx from Tx.out.under hal)
  have To := Lib.hid (show Vts (w2.alloc (.cells #[.int .i64 F, .slice ao G.length co] 25)) G (.slice ao G.length co) fo from To.out.under hal)
  have Sx := Lib.hid (show Str (w2.alloc (.cells #[.int .i64 F, .slice ao G.length co] 25)) (w1.heap.size) 25 #[.int .i64 f, .slice ax g.length cx] from Sx.out.alloc _)
  have Sv := Lib.hid (show Str (w2.alloc (.cells #[.int .i64 F, .slice ao G.length co] 25)) (w1.heap.size + 1) 27 #[.int .i64 vr, .int .i64 va, .int .i64 vd] from Sv.out.alloc _)
  have Sso := Lib.hid (Str.new w2 25 #[.int .i64 F, .slice ao G.length co])
  have hzso : (w2.alloc (.cells #[.int .i64 F, .slice ao G.length co] 25)).heap.size = w2.heap.size + 1 := by simp
  have Hb := Lib.hid (below_step Hb.out Hb.out.size hal)
  clear hal
  have cx_0 := Sx.out.cell 0 (v := .int .i64 f) rfl
  have cx_1 := Sx.out.cell 1 (v := .slice ax g.length cx) rfl
  have cv_0 := Sv.out.cell 0 (v := .int .i64 vr) rfl
  have cv_1 := Sv.out.cell 1 (v := .int .i64 va) rfl
  have cv_2 := Sv.out.cell 2 (v := .int .i64 vd) rfl
  have cso_0 := Sso.out.cell 0 (v := .int .i64 F) rfl
  have cso_1 := Sso.out.cell 1 (v := .slice ao G.length co) rfl
  go_wp2_with fail
  generalize (w2.alloc (.cells #[.int .i64 F, .slice ao G.length co] 25)) = W2 at *
  clear cx_0 cx_1 cv_0 cv_1 cv_2 cso_0 cso_1
  refine (HS.out _ Tx.out).mono ?_
  rintro e w3 ⟨vk, rfl, hor, hb⟩
  obtain ⟨fk, hv9⟩ := hor.reads
  obtain ⟨ak, ck, rfl⟩ := Vts.slice (show Vts w3 G vk fk from hv9)
  have hT : Vts w3 G (.slice ak G.length ck) fk := hv9
  clear hor hv9
  have Tx := Lib.hid (show Vts w3 g (.slice ax g.length cx) fx from Tx.out.under hb)
  have To := Lib.hid (show Vts w3 G (.slice ao G.length co) fo from To.out.under hb)
  have Sx := Lib.hid (show Str w3 (w1.heap.size) 25 #[.int .i64 f, .slice ax g.length cx] from (hb.block _ Sx.out.lt).trans Sx.out)
  have Sv := Lib.hid (show Str w3 (w1.heap.size + 1) 27 #[.int .i64 vr, .int .i64 va, .int .i64 vd] from (hb.block _ Sv.out.lt).trans Sv.out)
  have Sso := Lib.hid (show Str w3 (w2.heap.size) 25 #[.int .i64 F, .slice ao G.length co] from (hb.block _ Sso.out.lt).trans Sso.out)
  have hsw3 := hb.size
  have Hb := Lib.hid (below_step Hb.out Hb.out.size hb)
  have Tk := Lib.hid hT
  clear hT hb
  have hal : Below w3.heap.size w3 (w3.alloc (.cells #[.int .i64 F, .slice ak G.length ck] 25)) := (Below.refl _ _).alloc (Nat.le_refl _) _
  have Tx := Lib.hid (show Vts (w3.alloc (.cells #[.int .i64 F, .slice ak G.length ck] 25)) g (.slice ax g.length cx) fx from Tx.out.under hal)
  have To := Lib.hid (show Vts (w3.alloc (.cells #[.int .i64 F, .slice ak G.length ck] 25)) G (.slice ao G.length co) fo from To.out.under hal)
  have Tk := Lib.hid (show Vts (w3.alloc (.cells #[.int .i64 F, .slice ak G.length ck] 25)) G (.slice ak G.length ck) fk from Tk.out.under hal)
  have Sx := Lib.hid (show Str (w3.alloc (.cells #[.int .i64 F, .slice ak G.length ck] 25)) (w1.heap.size) 25 #[.int .i64 f, .slice ax g.length cx] from Sx.out.alloc _)
  have Sv := Lib.hid (show Str (w3.alloc (.cells #[.int .i64 F, .slice ak G.length ck] 25)) (w1.heap.size + 1) 27 #[.int .i64 vr, .int .i64 va, .int .i64 vd] from Sv.out.alloc _)
  have Sso := Lib.hid (show Str (w3.alloc (.cells #[.int .i64 F, .slice ak G.length ck] 25)) (w2.heap.size) 25 #[.int .i64 F, .slice ao G.length co] from Sso.out.alloc _)
  have Ssk := Lib.hid (Str.new w3 25 #[.int .i64 F, .slice ak G.length ck])
  have hzsk : (w3.alloc (.cells #[.int .i64 F, .slice ak G.length ck] 25)).heap.size = w3.heap.size + 1 := by simp
  have Hb := Lib.hid (below_step Hb.out Hb.out.size hal)
  clear hal
  have hbb : (B != B) = false := by simp
  have hbe : (B == B) = true := by simp
  have cso_0 := Sso.out.cell 0 (v := .int .i64 F) rfl
  have cso_1 := Sso.out.cell 1 (v := .slice ao G.length co) rfl
  have csk_0 := Ssk.out.cell 0 (v := .int .i64 F) rfl
  have csk_1 := Ssk.out.cell 1 (v := .slice ak G.length ck) rfl
  go_wp2_with fail
  generalize (w3.alloc (.cells #[.int .i64 F, .slice ak G.length ck] 25)) = W3 at *
  clear cso_0 cso_1 csk_0 csk_1
  refine (sameVoter_self F G _ _ fo fk _ (by omega) To.out Tk.out).mono ?_
  rintro e w4 ⟨rfl, hb⟩
  have Tx := Lib.hid (show Vts w4 g (.slice ax g.length cx) fx from Tx.out.under hb)
  have To := Lib.hid (show Vts w4 G (.slice ao G.length co) fo from To.out.under hb)
  have Tk := Lib.hid (show Vts w4 G (.slice ak G.length ck) fk from Tk.out.under hb)
  have Sx := Lib.hid (show Str w4 (w1.heap.size) 25 #[.int .i64 f, .slice ax g.length cx] from (hb.block _ Sx.out.lt).trans Sx.out)
  have Sv := Lib.hid (show Str w4 (w1.heap.size + 1) 27 #[.int .i64 vr, .int .i64 va, .int .i64 vd] from (hb.block _ Sv.out.lt).trans Sv.out)
  have Sso := Lib.hid (show Str w4 (w2.heap.size) 25 #[.int .i64 F, .slice ao G.length co] from (hb.block _ Sso.out.lt).trans Sso.out)
  have Ssk := Lib.hid (show Str w4 (w3.heap.size) 25 #[.int .i64 F, .slice ak G.length ck] from (hb.block _ Ssk.out.lt).trans Ssk.out)
  have hsw4 := hb.size
  have Hb := Lib.hid (below_step Hb.out Hb.out.size hb)
  clear hb
  cases B with
  | false =>
    have cso_0 := Sso.out.cell 0 (v := .int .i64 F) rfl
    have cso_1 := Sso.out.cell 1 (v := .slice ao G.length co) rfl
    have csk_0 := Ssk.out.cell 0 (v := .int .i64 F) rfl
    have csk_1 := Ssk.out.cell 1 (v := .slice ak G.length ck) rfl
    go_wp2_with fail
    clear cso_0 cso_1 csk_0 csk_1
    refine (sameVoter_self F G _ _ fo fk _ (by omega) To.out Tk.out).mono ?_
    rintro e w5 ⟨rfl, hb⟩
    have Tx := Lib.hid (show Vts w5 g (.slice ax g.length cx) fx from Tx.out.under hb)
    have To := Lib.hid (show Vts w5 G (.slice ao G.length co) fo from To.out.under hb)
    have Tk := Lib.hid (show Vts w5 G (.slice ak G.length ck) fk from Tk.out.under hb)
    have Sx := Lib.hid (show Str w5 (w1.heap.size) 25 #[.int .i64 f, .slice ax g.length cx] from (hb.block _ Sx.out.lt).trans Sx.out)
    have Sv := Lib.hid (show Str w5 (w1.heap.size + 1) 27 #[.int .i64 vr, .int .i64 va, .int .i64 vd] from (hb.block _ Sv.out.lt).trans Sv.out)
    have Sso := Lib.hid (show Str w5 (w2.heap.size) 25 #[.int .i64 F, .slice ao G.length co] from (hb.block _ Sso.out.lt).trans Sso.out)
    have Ssk := Lib.hid (show Str w5 (w3.heap.size) 25 #[.int .i64 F, .slice ak G.length ck] from (hb.block _ Ssk.out.lt).trans Ssk.out)
    have hsw5 := hb.size
    have Hb := Lib.hid (below_step Hb.out Hb.out.size hb)
    clear hb
    go_wp2
    go_ret
    exact ⟨by first | rfl | exact ret_bool (by simp) | exact ret_bool (by simp; omega), Hb.out⟩
  | true =>
  clear Tk
  clear Ssk
  go_wp2_with fail
  refine (spec_DrawVoterSign a' cap' ms _ (Hcode'.out.below Hb.out)).mono ?_
  rintro e w5 ⟨f2, g2, uz, fz, ⟨ur, ua, ud⟩, rfl, hz, hgl2, hb⟩
  dsimp only at *
  have Tx := Lib.hid (show Vts w5 g (.slice ax g.length cx) fx from Tx.out.under hb)
  have To := Lib.hid (show Vts w5 G (.slice ao G.length co) fo from To.out.under hb)
  have Sx := Lib.hid (show Str w5 (w1.heap.size) 25 #[.int .i64 f, .slice ax g.length cx] from (hb.block _ Sx.out.lt).trans Sx.out)
  have Sv := Lib.hid (show Str w5 (w1.heap.size + 1) 27 #[.int .i64 vr, .int .i64 va, .int .i64 vd] from (hb.block _ Sv.out.lt).trans Sv.out)
  have Sso := Lib.hid (show Str w5 (w2.heap.size) 25 #[.int .i64 F, .slice ao G.length co] from (hb.block _ Sso.out.lt).trans Sso.out)
  have hsw5 := hb.size
  have Hb := Lib.hid (below_step Hb.out Hb.out.size hb)
  clear hb
  obtain ⟨az, cz, rfl⟩ := Vts.slice hz
  clear hz
  have hal : Below w5.heap.size w5 (w5.alloc (.cells #[.int .i64 f2, .slice az g2.length cz] 25)) := (Below.refl _ _).alloc (Nat.le_refl _) _
  have Tx := Lib.hid (show Vts (w5.alloc (.cells #[.int .i64 f2, .slice az g2.length cz] 25)) g (.slice ax g.length cx) fx from Tx.out.under hal)
  have To := Lib.hid (show Vts (w5.alloc (.cells #[.int .i64 f2, .slice az g2.length cz] 25)) G (.slice ao G.length co) fo from To.out.under hal)
  have Sx := Lib.hid (show Str (w5.alloc (.cells #[.int .i64 f2, .slice az g2.length cz] 25)) (w1.heap.size) 25 #[.int .i64 f, .slice ax g.length cx] from Sx.out.alloc _)
  have Sv := Lib.hid (show Str (w5.alloc (.cells #[.int .i64 f2, .slice az g2.length cz] 25)) (w1.heap.size + 1) 27 #[.int .i64 vr, .int .i64 va, .int .i64 vd] from Sv.out.alloc _)
  have Sso := Lib.hid (show Str (w5.alloc (.cells #[.int .i64 f2, .slice az g2.length cz] 25)) (w2.heap.size) 25 #[.int .i64 F, .slice ao G.length co] from Sso.out.alloc _)
  have Sz := Lib.hid (Str.new w5 25 #[.int .i64 f2, .slice az g2.length cz])
  have hzz : (w5.alloc (.cells #[.int .i64 f2, .slice az g2.length cz] 25)).heap.size = w5.heap.size + 1 := by simp
  have Hb := Lib.hid (below_step Hb.out Hb.out.size hal)
  clear hal
  have hal : Below (w5.alloc (.cells #[.int .i64 f2, .slice az g2.length cz] 25)).heap.size (w5.alloc (.cells #[.int .i64 f2, .slice az g2.length cz] 25)) ((w5.alloc (.cells #[.int .i64 f2, .slice az g2.length cz] 25)).alloc (.cells #[.int .i64 ur, .int .i64 ua, .int .i64 ud] 27)) := (Below.refl _ _).alloc (Nat.le_refl _) _
  have Tx := Lib.hid (show Vts ((w5.alloc (.cells #[.int .i64 f2, .slice az g2.length cz] 25)).alloc (.cells #[.int .i64 ur, .int .i64 ua, .int .i64 ud] 27)) g (.slice ax g.length cx) fx from Tx.out.under hal)
  have To := Lib.hid (show Vts ((w5.alloc (.cells #[.int .i64 f2, .slice az g2.length cz] 25)).alloc (.cells #[.int .i64 ur, .int .i64 ua, .int .i64 ud] 27)) G (.slice ao G.length co) fo from To.out.under hal)
  have Sx := Lib.hid (show Str ((w5.alloc (.cells #[.int .i64 f2, .slice az g2.length cz] 25)).alloc (.cells #[.int .i64 ur, .int .i64 ua, .int .i64 ud] 27)) (w1.heap.size) 25 #[.int .i64 f, .slice ax g.length cx] from Sx.out.alloc _)
  have Sv := Lib.hid (show Str ((w5.alloc (.cells #[.int .i64 f2, .slice az g2.length cz] 25)).alloc (.cells #[.int .i64 ur, .int .i64 ua, .int .i64 ud] 27)) (w1.heap.size + 1) 27 #[.int .i64 vr, .int .i64 va, .int .i64 vd] from Sv.out.alloc _)
  have Sso := Lib.hid (show Str ((w5.alloc (.cells #[.int .i64 f2, .slice az g2.length cz] 25)).alloc (.cells #[.int .i64 ur, .int .i64 ua, .int .i64 ud] 27)) (w2.heap.size) 25 #[.int .i64 F, .slice ao G.length co] from Sso.out.alloc _)
  have Sz := Lib.hid (show Str ((w5.alloc (.cells #[.int .i64 f2, .slice az g2.length cz] 25)).alloc (.cells #[.int .i64 ur, .int .i64 ua, .int .i64 ud] 27)) (w5.heap.size) 25 #[.int .i64 f2, .slice az g2.length cz] from Sz.out.alloc _)
  have Su := Lib.hid (Str.new (w5.alloc (.cells #[.int .i64 f2, .slice az g2.length cz] 25)) 27 #[.int .i64 ur, .int .i64 ua, .int .i64 ud])
  have hzu : ((w5.alloc (.cells #[.int .i64 f2, .slice az g2.length cz] 25)).alloc (.cells #[.int .i64 ur, .int .i64 ua, .int .i64 ud] 27)).heap.size = (w5.alloc (.cells #[.int .i64 f2, .slice az g2.length cz] 25)).heap.size + 1 := by simp
  have Hb := Lib.hid (below_step Hb.out Hb.out.size hal)
  clear hal
  have Su := Lib.hid (show Str ((w5.alloc (.cells #[.int .i64 f2, .slice az g2.length cz] 25)).alloc (.cells #[.int .i64 ur, .int .i64 ua, .int .i64 ud] 27)) (w5.heap.size + 1) 27 #[.int .i64 ur, .int .i64 ua, .int .i64 ud] by have h9 := Su.out; simp only [World.size_alloc] at h9; exact h9)
  have H2 := Lib.hid (fun W h => impl_VoterSign F G (.slice ao G.length co) fo ur ua ud W (by omega) h)
  have H3 := Lib.hid (fun W h => impl_VoterSign f g (.slice ax g.length cx) fx ur ua ud W (by omega) h)
  have hGl2 := sg_len F G ⟨ur, ua, ud⟩
  have hGl3 := sg_len f g ⟨ur, ua, ud⟩
  have HA := Lib.hid (fun h => HA.out ⟨ur, ua, ud⟩ (by first | rfl | trivial) h)
  have cso_0 := Sso.out.cell 0 (v := .int .i64 F) rfl
  have cso_1 := Sso.out.cell 1 (v := .slice ao G.length co) rfl
  have cu_0 := Su.out.cell 0 (v := .int .i64 ur) rfl
  have cu_1 := Su.out.cell 1 (v := .int .i64 ua) rfl
  have cu_2 := Su.out.cell 2 (v := .int .i64 ud) rfl
  go_wp2_with fail
  generalize ((w5.alloc (.cells #[.int .i64 f2, .slice az g2.length cz] 25)).alloc (.cells #[.int .i64 ur, .int .i64 ua, .int .i64 ud] 27)) = W5 at *
  clear cso_0 cso_1 cu_0 cu_1 cu_2
  refine (H2.out _ To.out).mono ?_
  rintro e w6 ⟨va, rfl, hor, hb⟩
  generalize sgF F G ⟨ur, ua, ud⟩ = F2 at *
  generalize sgG F G ⟨ur, ua, ud⟩ = G2 at *
  generalize sgB F G ⟨ur, ua, ud⟩ = B2 at *
  obtain ⟨fa, hv9⟩ := hor.reads
  obtain ⟨aa, ca, rfl⟩ := Vts.slice (show Vts w6 G2 va fa from hv9)
  have hT : Vts w6 G2 (.slice aa G2.length ca) fa := hv9
  clear hor hv9
  have Tx := Lib.hid (show Vts w6 g (.slice ax g.length cx) fx from Tx.out.under hb)
  have To := Lib.hid (show Vts w6 G (.slice ao G.length co) fo from To.out.under hb)
  have Sx := Lib.hid (show Str w6 (w1.heap.size) 25 #[.int .i64 f, .slice ax g.length cx] from (hb.block _ Sx.out.lt).trans Sx.out)
  have Sv := Lib.hid (show Str w6 (w1.heap.size + 1) 27 #[.int .i64 vr, .int .i64 va, .int .i64 vd] from (hb.block _ Sv.out.lt).trans Sv.out)
  have Sso := Lib.hid (show Str w6 (w2.heap.size) 25 #[.int .i64 F, .slice ao G.length co] from (hb.block _ Sso.out.lt).trans Sso.out)
  have Sz := Lib.hid (show Str w6 (w5.heap.size) 25 #[.int .i64 f2, .slice az g2.length cz] from (hb.block _ Sz.out.lt).trans Sz.out)
  have Su := Lib.hid (show Str w6 (w5.heap.size + 1) 27 #[.int .i64 ur, .int .i64 ua, .int .i64 ud] from (hb.block _ Su.out.lt).trans Su.out)
  have hsw6 := hb.size
  have Hb := Lib.hid (below_step Hb.out Hb.out.size hb)
  have Ta := Lib.hid hT
  clear hT hb
  have hal : Below w6.heap.size w6 (w6.alloc (.cells #[.int .i64 F2, .slice aa G2.length ca] 25)) := (Below.refl _ _).alloc (Nat.le_refl _) _
  have Tx := Lib.hid (show Vts (w6.alloc (.cells #[.int .i64 F2, .slice aa G2.length ca] 25)) g (.slice ax g.length cx) fx from Tx.out.under hal)
  have To := Lib.hid (show Vts (w6.alloc (.cells #[.int .i64 F2, .slice aa G2.length ca] 25)) G (.slice ao G.length co) fo from To.out.under hal)
  have Ta := Lib.hid (show Vts (w6.alloc (.cells #[.int .i64 F2, .slice aa G2.length ca] 25)) G2 (.slice aa G2.length ca) fa from Ta.out.under hal)
  have Sx := Lib.hid (show Str (w6.alloc (.cells #[.int .i64 F2, .slice aa G2.length ca] 25)) (w1.heap.size) 25 #[.int .i64 f, .slice ax g.length cx] from Sx.out.alloc _)
  have Sv := Lib.hid (show Str (w6.alloc (.cells #[.int .i64 F2, .slice aa G2.length ca] 25)) (w1.heap.size + 1) 27 #[.int .i64 vr, .int .i64 va, .int .i64 vd] from Sv.out.alloc _)
  have Sso := Lib.hid (show Str (w6.alloc (.cells #[.int .i64 F2, .slice aa G2.length ca] 25)) (w2.heap.size) 25 #[.int .i64 F, .slice ao G.length co] from Sso.out.alloc _)
  have Sz := Lib.hid (show Str (w6.alloc (.cells #[.int .i64 F2, .slice aa G2.length ca] 25)) (w5.heap.size) 25 #[.int .i64 f2, .slice az g2.length cz] from Sz.out.alloc _)
  have Su := Lib.hid (show Str (w6.alloc (.cells #[.int .i64 F2, .slice aa G2.length ca] 25)) (w5.heap.size + 1) 27 #[.int .i64 ur, .int .i64 ua, .int .i64 ud] from Su.out.alloc _)
  have Ssa := Lib.hid (Str.new w6 25 #[.int .i64 F2, .slice aa G2.length ca])
  have hzsa : (w6.alloc (.cells #[.int .i64 F2, .slice aa G2.length ca] 25)).heap.size = w6.heap.size + 1 := by simp
  have Hb := Lib.hid (below_step Hb.out Hb.out.size hal)
  clear hal
  cases B2 with
  | false =>
    have cso_0 := Sso.out.cell 0 (v := .int .i64 F) rfl
    have cso_1 := Sso.out.cell 1 (v := .slice ao G.length co) rfl
    go_wp2
    go_ret
    exact ⟨by first | rfl | exact ret_bool (by simp) | exact ret_bool (by simp; omega), Hb.out⟩
  | true =>
  obtain ⟨k1, k2, k3, k4⟩ := HA.out (by first | rfl | trivial)
  clear HA
  rw [k1] at H3
  clear k1
  generalize sgF f g ⟨ur, ua, ud⟩ = F3 at *
  generalize sgG f g ⟨ur, ua, ud⟩ = G3 at *
  have cx_0 := Sx.out.cell 0 (v := .int .i64 f) rfl
  have cx_1 := Sx.out.cell 1 (v := .slice ax g.length cx) rfl
  have cu_0 := Su.out.cell 0 (v := .int .i64 ur) rfl
  have cu_1 := Su.out.cell 1 (v := .int .i64 ua) rfl
  have cu_2 := Su.out.cell 2 (v := .int .i64 ud) rfl
  go_wp2_with fail
  generalize (w6.alloc (.cells #[.int .i64 F2, .slice aa G2.length ca] 25)) = W6 at *
  clear cx_0 cx_1 cu_0 cu_1 cu_2
  refine (H3.out _ Tx.out).mono ?_
  rintro e w7 ⟨vb, rfl, hor, hb⟩
  obtain ⟨fb, hv9⟩ := hor.reads
  obtain ⟨ab, cb, rfl⟩ := Vts.slice (show Vts w7 G3 vb fb from hv9)
  have hT : Vts w7 G3 (.slice ab G3.length cb) fb := hv9
  clear hor hv9
  have Tx := Lib.hid (show Vts w7 g (.slice ax g.length cx) fx from Tx.out.under hb)
  have To := Lib.hid (show Vts w7 G (.slice ao G.length co) fo from To.out.under hb)
  have Ta := Lib.hid (show Vts w7 G2 (.slice aa G2.length ca) fa from Ta.out.under hb)
  have Sx := Lib.hid (show Str w7 (w1.heap.size) 25 #[.int .i64 f, .slice ax g.length cx] from (hb.block _ Sx.out.lt).trans Sx.out)
  have Sv := Lib.hid (show Str w7 (w1.heap.size + 1) 27 #[.int .i64 vr, .int .i64 va, .int .i64 vd] from (hb.block _ Sv.out.lt).trans Sv.out)
  have Sso := Lib.hid (show Str w7 (w2.heap.size) 25 #[.int .i64 F, .slice ao G.length co] from (hb.block _ Sso.out.lt).trans Sso.out)
  have Sz := Lib.hid (show Str w7 (w5.heap.size) 25 #[.int .i64 f2, .slice az g2.length cz] from (hb.block _ Sz.out.lt).trans Sz.out)
  have Su := Lib.hid (show Str w7 (w5.heap.size + 1) 27 #[.int .i64 ur, .int .i64 ua, .int .i64 ud] from (hb.block _ Su.out.lt).trans Su.out)
  have Ssa := Lib.hid (show Str w7 (w6.heap.size) 25 #[.int .i64 F2, .slice aa G2.length ca] from (hb.block _ Ssa.out.lt).trans Ssa.out)
  have hsw7 := hb.size
  have Hb := Lib.hid (below_step Hb.out Hb.out.size hb)
  have Tb := Lib.hid hT
  clear hT hb
  have hal : Below w7.heap.size w7 (w7.alloc (.cells #[.int .i64 F3, .slice ab G3.length cb] 25)) := (Below.refl _ _).alloc (Nat.le_refl _) _
  have Tx := Lib.hid (show Vts (w7.alloc (.cells #[.int .i64 F3, .slice ab G3.length cb] 25)) g (.slice ax g.length cx) fx from Tx.out.under hal)
  have To := Lib.hid (show Vts (w7.alloc (.cells #[.int .i64 F3, .slice ab G3.length cb] 25)) G (.slice ao G.length co) fo from To.out.under hal)
  have Ta := Lib.hid (show Vts (w7.alloc (.cells #[.int .i64 F3, .slice ab G3.length cb] 25)) G2 (.slice aa G2.length ca) fa from Ta.out.under hal)
  have Tb := Lib.hid (show Vts (w7.alloc (.cells #[.int .i64 F3, .slice ab G3.length cb] 25)) G3 (.slice ab G3.length cb) fb from Tb.out.under hal)
  have Sx := Lib.hid (show Str (w7.alloc (.cells #[.int .i64 F3, .slice ab G3.length cb] 25)) (w1.heap.size) 25 #[.int .i64 f, .slice ax g.length cx] from Sx.out.alloc _)
  have Sv := Lib.hid (show Str (w7.alloc (.cells #[.int .i64 F3, .slice ab G3.length cb] 25)) (w1.heap.size + 1) 27 #[.int .i64 vr, .int .i64 va, .int .i64 vd] from Sv.out.alloc _)
  have Sso := Lib.hid (show Str (w7.alloc (.cells #[.int .i64 F3, .slice ab G3.length cb] 25)) (w2.heap.size) 25 #[.int .i64 F, .slice ao G.length co] from Sso.out.alloc _)
  have Sz := Lib.hid (show Str (w7.alloc (.cells #[.int .i64 F3, .slice ab G3.length cb] 25)) (w5.heap.size) 25 #[.int .i64 f2, .slice az g2.length cz] from Sz.out.alloc _)
  have Su := Lib.hid (show Str (w7.alloc (.cells #[.int .i64 F3, .slice ab G3.length cb] 25)) (w5.heap.size + 1) 27 #[.int .i64 ur, .int .i64 ua, .int .i64 ud] from Su.out.alloc _)
  have Ssa := Lib.hid (show Str (w7.alloc (.cells #[.int .i64 F3, .slice ab G3.length cb] 25)) (w6.heap.size) 25 #[.int .i64 F2, .slice aa G2.length ca] from Ssa.out.alloc _)
  have Ssb := Lib.hid (Str.new w7 25 #[.int .i64 F3, .slice ab G3.length cb])
  have hzsb : (w7.alloc (.cells #[.int .i64 F3, .slice ab G3.length cb] 25)).heap.size = w7.heap.size + 1 := by simp
  have Hb := Lib.hid (below_step Hb.out Hb.out.size hal)
  clear hal
  have H4 := impl_VoterSign F3 G3 (.slice ab G3.length cb) fb vr va vd
  rw [k2, k3, k4] at H4
  have H4 := Lib.hid (fun W h => H4 W (by omega) h)
  clear k2 k3 k4
  have cv_0 := Sv.out.cell 0 (v := .int .i64 vr) rfl
  have cv_1 := Sv.out.cell 1 (v := .int .i64 va) rfl
  have cv_2 := Sv.out.cell 2 (v := .int .i64 vd) rfl
  have csb_0 := Ssb.out.cell 0 (v := .int .i64 F3) rfl
  have csb_1 := Ssb.out.cell 1 (v := .slice ab G3.length cb) rfl
  go_wp2_with fail
  generalize (w7.alloc (.cells #[.int .i64 F3, .slice ab G3.length cb] 25)) = W7 at *
  clear cv_0 cv_1 cv_2 csb_0 csb_1
  refine (H4.out _ Tb.out).mono ?_
  rintro e w8 ⟨vd, rfl, hor, hb⟩
  obtain ⟨fd, hv9⟩ := hor.reads
  obtain ⟨ad, cd, rfl⟩ := Vts.slice (show Vts w8 G2 vd fd from hv9)
  have hT : Vts w8 G2 (.slice ad G2.length cd) fd := hv9
  clear hor hv9
  have Tx := Lib.hid (show Vts w8 g (.slice ax g.length cx) fx from Tx.out.under hb)
  have To := Lib.hid (show Vts w8 G (.slice ao G.length co) fo from To.out.under hb)
  have Ta := Lib.hid (show Vts w8 G2 (.slice aa G2.length ca) fa from Ta.out.under hb)
  have Tb := Lib.hid (show Vts w8 G3 (.slice ab G3.length cb) fb from Tb.out.under hb)
  have Sx := Lib.hid (show Str w8 (w1.heap.size) 25 #[.int .i64 f, .slice ax g.length cx] from (hb.block _ Sx.out.lt).trans Sx.out)
  have Sv := Lib.hid (show Str w8 (w1.heap.size + 1) 27 #[.int .i64 vr, .int .i64 va, .int .i64 vd] from (hb.block _ Sv.out.lt).trans Sv.out)
  have Sso := Lib.hid (show Str w8 (w2.heap.size) 25 #[.int .i64 F, .slice ao G.length co] from (hb.block _ Sso.out.lt).trans Sso.out)
  have Sz := Lib.hid (show Str w8 (w5.heap.size) 25 #[.int .i64 f2, .slice az g2.length cz] from (hb.block _ Sz.out.lt).trans Sz.out)
  have Su := Lib.hid (show Str w8 (w5.heap.size + 1) 27 #[.int .i64 ur, .int .i64 ua, .int .i64 ud] from (hb.block _ Su.out.lt).trans Su.out)
  have Ssa := Lib.hid (show Str w8 (w6.heap.size) 25 #[.int .i64 F2, .slice aa G2.length ca] from (hb.block _ Ssa.out.lt).trans Ssa.out)
  have Ssb := Lib.hid (show Str w8 (w7.heap.size) 25 #[.int .i64 F3, .slice ab G3.length cb] from (hb.block _ Ssb.out.lt).trans Ssb.out)
  have hsw8 := hb.size
  have Hb := Lib.hid (below_step Hb.out Hb.out.size hb)
  have Td := Lib.hid hT
  clear hT hb
  have hal : Below w8.heap.size w8 (w8.alloc (.cells #[.int .i64 F2, .slice ad G2.length cd] 25)) := (Below.refl _ _).alloc (Nat.le_refl _) _
  have Tx := Lib.hid (show Vts (w8.alloc (.cells #[.int .i64 F2, .slice ad G2.length cd] 25)) g (.slice ax g.length cx) fx from Tx.out.under hal)
  have To := Lib.hid (show Vts (w8.alloc (.cells #[.int .i64 F2, .slice ad G2.length cd] 25)) G (.slice ao G.length co) fo from To.out.under hal)
  have Ta := Lib.hid (show Vts (w8.alloc (.cells #[.int .i64 F2, .slice ad G2.length cd] 25)) G2 (.slice aa G2.length ca) fa from Ta.out.under hal)
  have Tb := Lib.hid (show Vts (w8.alloc (.cells #[.int .i64 F2, .slice ad G2.length cd] 25)) G3 (.slice ab G3.length cb) fb from Tb.out.under hal)
  have Td := Lib.hid (show Vts (w8.alloc (.cells #[.int .i64 F2, .slice ad G2.length cd] 25)) G2 (.slice ad G2.length cd) fd from Td.out.under hal)
  have Sx := Lib.hid (show Str (w8.alloc (.cells #[.int .i64 F2, .slice ad G2.length cd] 25)) (w1.heap.size) 25 #[.int .i64 f, .slice ax g.length cx] from Sx.out.alloc _)
  have Sv := Lib.hid (show Str (w8.alloc (.cells #[.int .i64 F2, .slice ad G2.length cd] 25)) (w1.heap.size + 1) 27 #[.int .i64 vr, .int .i64 va, .int .i64 vd] from Sv.out.alloc _)
  have Sso := Lib.hid (show Str (w8.alloc (.cells #[.int .i64 F2, .slice ad G2.length cd] 25)) (w2.heap.size) 25 #[.int .i64 F, .slice ao G.length co] from Sso.out.alloc _)
  have Sz := Lib.hid (show Str (w8.alloc (.cells #[.int .i64 F2, .slice ad G2.length cd] 25)) (w5.heap.size) 25 #[.int .i64 f2, .slice az g2.length cz] from Sz.out.alloc _)
  have Su := Lib.hid (show Str (w8.alloc (.cells #[.int .i64 F2, .slice ad G2.length cd] 25)) (w5.heap.size + 1) 27 #[.int .i64 ur, .int .i64 ua, .int .i64 ud] from Su.out.alloc _)
  have Ssa := Lib.hid (show Str (w8.alloc (.cells #[.int .i64 F2, .slice ad G2.length cd] 25)) (w6.heap.size) 25 #[.int .i64 F2, .slice aa G2.length ca] from Ssa.out.alloc _)
  have Ssb := Lib.hid (show Str (w8.alloc (.cells #[.int .i64 F2, .slice ad G2.length cd] 25)) (w7.heap.size) 25 #[.int .i64 F3, .slice ab G3.length cb] from Ssb.out.alloc _)
  have Ssd := Lib.hid (Str.new w8 25 #[.int .i64 F2, .slice ad G2.length cd])
  have hzsd : (w8.alloc (.cells #[.int .i64 F2, .slice ad G2.length cd] 25)).heap.size = w8.heap.size + 1 := by simp
  have Hb := Lib.hid (below_step Hb.out Hb.out.size hal)
  clear hal
  have csd_0 := Ssd.out.cell 0 (v := .int .i64 F2) rfl
  have csd_1 := Ssd.out.cell 1 (v := .slice ad G2.length cd) rfl
  have csa_0 := Ssa.out.cell 0 (v := .int .i64 F2) rfl
  have csa_1 := Ssa.out.cell 1 (v := .slice aa G2.length ca) rfl
  go_wp2_with fail
  generalize (w8.alloc (.cells #[.int .i64 F2, .slice ad G2.length cd] 25)) = W8 at *
  clear csd_0 csd_1 csa_0 csa_1
  refine (sameVoter_self F2 G2 _ _ fd fa _ (by omega) Td.out Ta.out).mono ?_
  rintro e w9 ⟨rfl, hb⟩
  have Tx := Lib.hid (show Vts w9 g (.slice ax g.length cx) fx from Tx.out.under hb)
  have To := Lib.hid (show Vts w9 G (.slice ao G.length co) fo from To.out.under hb)
  have Ta := Lib.hid (show Vts w9 G2 (.slice aa G2.length ca) fa from Ta.out.under hb)
  have Tb := Lib.hid (show Vts w9 G3 (.slice ab G3.length cb) fb from Tb.out.under hb)
  have Td := Lib.hid (show Vts w9 G2 (.slice ad G2.length cd) fd from Td.out.under hb)
  have Sx := Lib.hid (show Str w9 (w1.heap.size) 25 #[.int .i64 f, .slice ax g.length cx] from (hb.block _ Sx.out.lt).trans Sx.out)
  have Sv := Lib.hid (show Str w9 (w1.heap.size + 1) 27 #[.int .i64 vr, .int .i64 va, .int .i64 vd] from (hb.block _ Sv.out.lt).trans Sv.out)
  have Sso := Lib.hid (show Str w9 (w2.heap.size) 25 #[.int .i64 F, .slice ao G.length co] from (hb.block _ Sso.out.lt).trans Sso.out)
  have Sz := Lib.hid (show Str w9 (w5.heap.size) 25 #[.int .i64 f2, .slice az g2.length cz] from (hb.block _ Sz.out.lt).trans Sz.out)
  have Su := Lib.hid (show Str w9 (w5.heap.size + 1) 27 #[.int .i64 ur, .int .i64 ua, .int .i64 ud] from (hb.block _ Su.out.lt).trans Su.out)
  have Ssa := Lib.hid (show Str w9 (w6.heap.size) 25 #[.int .i64 F2, .slice aa G2.length ca] from (hb.block _ Ssa.out.lt).trans Ssa.out)
  have Ssb := Lib.hid (show Str w9 (w7.heap.size) 25 #[.int .i64 F3, .slice ab G3.length cb] from (hb.block _ Ssb.out.lt).trans Ssb.out)
  have Ssd := Lib.hid (show Str w9 (w8.heap.size) 25 #[.int .i64 F2, .slice ad G2.length cd] from (hb.block _ Ssd.out.lt).trans Ssd.out)
  have hsw9 := hb.size
  have Hb := Lib.hid (below_step Hb.out Hb.out.size hb)
  clear hb
  go_wp2
  go_ret
  exact ⟨by first | rfl | exact ret_bool (by simp) | exact ret_bool (by simp; omega), Hb.out⟩

theorem fnVoterOrder_own : ownKnob Try.prog.godebug = none := by kernel_rfl
theorem fnVoterOrder_laidOut : laidOutB Try.prog = true := by kernel_rfl

set_option maxRecDepth 8000 in
theorem fnVoterOrder_lifted (os : Os) (started : os.Started) (H : Type) (enc : TypeId × Value → H) :
    ReturnsInHanded {} Try.checked os 9 .any (Rows.fnVoterOrderSpec.pre6 enc Try.prog Try.f9 Rows.fnVoterOrderRow.domain false) (Rows.fnVoterOrderSpec.post enc Try.prog Try.f9 false true false false) := by
  refine law_lifted (C := Try.checked) (tb := 4) fnVoterOrder_own fnVoterOrder_laidOut started (by kernel_rfl) Try.func9 rfl Try.underlying4 rfl (by rw [Try.params9]; exact of_decide_eq_true (by kernel_rfl)) ?_
    (ChangeSpec.witness6 (enc := enc) (C := Try.checked) false ⟨#[], #[.slice none 0 0, .slice none 0 0], []⟩ 8 (by kernel_rfl) (by kernel_rfl) (by kernel_rfl) (by kernel_rfl)) ?_
  · intro ds hds
    rw [Try.params9] at hds
    match ds, hds with
    | [d0, d1], _ => rfl
  · intro W base args ds p hval0 hA0
    have hval : ∀ (j : Nat) t v, Try.f9.params[j]? = some t → args[j]? = some v → Value.okWide Try.prog W .any base t v := hval0
    have hA : DataW.TrodAll enc Try.prog W 0 (fun _ => true) true Try.f9.params.toList args.toList ds p := hA0
    rw [Try.params9] at hA hval
    obtain ⟨v0, vs0, d0, ds0, p0, q0, hargs0, rfl, rfl, h0, r0⟩ := trodAll_cons hA
    obtain ⟨v1, vs1, d1, ds1, p1, q1, hargs1, rfl, rfl, h1, r1⟩ := trodAll_cons r0
    obtain ⟨hnil, rfl, rfl⟩ := trodAll_nil r1
    subst hnil
    subst hargs1
    obtain rfl : args = #[v0, v1] := by cases args; simp_all
    obtain ⟨a0, cap0, zs0, rfl, hk0, hm0, hi0, hw0⟩ := open_slice_ints Try.underlying22 Try.underlying5 (by kernel_rfl) (hval 0 22 v0 rfl rfl) h0
    obtain ⟨a1, cap1, zs1, rfl, hk1, hm1, hi1, hw1⟩ := open_slice_ints Try.underlying22 Try.underlying5 (by kernel_rfl) (hval 1 22 v1 rfl rfl) h1
    exact fnVoterOrder_walk a0 cap0 zs0 a1 cap1 zs1 W hk0 hm0 hi0 hw0 hk1 hm1 hi1 hw1

theorem fnVoterOrder_holds : Rows.FnVoterOrderSaid :=
  OpenClaim.holds_of_wide 9 Try.f9 rfl rfl rfl rfl rfl rfl rfl ⟨rfl, rfl, rfl, rfl, rfl⟩ rfl rfl rfl rfl rfl (by kernel_rfl) Try.func9 (by kernel_rfl)
    (of_decide_eq_true (by kernel_rfl)) (by unfold Func.isWrapper; first | (rw [if_pos (by decide +kernel)]; kernel_rfl) | (rw [if_neg (by decide +kernel)]; exact ⟨rfl, rfl⟩))
    (fun os started H enc _ => fnVoterOrder_lifted os started H enc)

end Go.Proofs.Ytgpbogalknmcmaa
