/- Law FnVoterForgetSteps holds for every input; no conditions of our own. -/
import Derived.Test.YtgpbogalknmcmaaRows
import Derived.Test.YtgpbogalknmcmaaBu0
import Derived.Test.YtgpbogalknmcmaaBu1
import Derived.Test.YtgpbogalknmcmaaBu5
import Derived.Test.YtgpbogalknmcmaaBu4
import Derived.Deep.QuietTactic
import Derived.BigQuiet
namespace Go.Proofs.Ytgpbogalknmcmaa
open Go.ChangeShapes Go.WideShapes Go.ChangeAt Go.RowKit

set_option maxHeartbeats 4000000 in
theorem fnVoterForgetSteps_walk (a : Option Addr) (cap : Nat) (zs : List Int) (a' : Option Addr) (cap' : Nat) (ms : List Int) (w : World) (hk : zs.length ≤ cap) (_hm : zs.length ≤ maxLen) (hi : zs = [] ∨ ∃ b off, a = some ⟨b, off, none⟩ ∧ b < w.heap.size ∧ ∀ j (h : j < zs.length), w.cell? ⟨b, off + j, none⟩ = some (.int .u8 zs[j])) (hw : ∀ z ∈ zs, (Lit.int .u8 z).wf = true)
    (_hk' : ms.length ≤ cap') (hm' : ms.length ≤ maxLen) (_hi' : ms = [] ∨ ∃ b off, a' = some ⟨b, off, none⟩ ∧ b < w.heap.size ∧ ∀ j (h : j < ms.length), w.cell? ⟨b, off + j, none⟩ = some (.int .u8 ms[j])) (_hw' : ∀ z ∈ ms, (Lit.int .u8 z).wf = true) :
    Calls Try.prog 7 #[.slice a zs.length cap, .slice a' ms.length cap'] w fun e w' => e = .returned (.bool true) ∧ Below w.heap.size w w' := by
  unfold maxLen at hm'
  by_cases hl : 1048576 < zs.length
  · go_enter Try.func7, Try.ntmps7
    go_wp2
    go_ret
    exact ⟨rfl, Below.refl _ _⟩
  by_cases hl' : 1048576 < ms.length
  · go_enter Try.func7, Try.ntmps7
    go_wp2
    go_ret
    exact ⟨rfl, Below.refl _ _⟩
  have hcode := codeAt_of hk (by omega) hi hw
  have Hcode := Lib.hid hcode; clear hcode hi hw
  go_enter Try.func7, Try.ntmps7
  go_wp2_with fail
  refine (spec_DrawVoterForget a cap zs _ Hcode.out).mono ?_
  rintro e w1 ⟨f, g, ux, fx, n, rfl, hx, hgl, hb1⟩
  dsimp only at *
  obtain ⟨ax, cx, rfl⟩ := Vts.slice hx
  have Tx := Lib.hid hx; have Hb := Lib.hid hb1
  clear hx hb1
  have hal : Below w1.heap.size w1 (w1.alloc (.cells #[.int .i64 f, .slice ax g.length cx] 25)) := (Below.refl _ _).alloc (Nat.le_refl _) _
  have Tx := Lib.hid (show Vts (w1.alloc (.cells #[.int .i64 f, .slice ax g.length cx] 25)) g (.slice ax g.length cx) fx from Tx.out.under hal)
  have Sx := Lib.hid (Str.new w1 25 #[.int .i64 f, .slice ax g.length cx])
  have hzx : (w1.alloc (.cells #[.int .i64 f, .slice ax g.length cx] 25)).heap.size = w1.heap.size + 1 := by simp
  have Hb := Lib.hid (below_step Hb.out Hb.out.size hal)
  clear hal
  have HI := Lib.hid (fun m W h => impl_VoterForget f g (.slice ax g.length cx) fx m W (by omega) h)
  have HS := Lib.hid (fun W h => spec_VoterForget f g (.slice ax g.length cx) fx n W (by omega) h)
  have hGl := fg_len f g n
  have HL := Lib.hid (fg_len f g)
  have HA := Lib.hid (fg_fact (f := f) (g := g) (n := n))
  have HI1 := Lib.hid (HI.out n)
  have cx_0 := Sx.out.cell 0 (v := .int .i64 f) rfl
  have cx_1 := Sx.out.cell 1 (v := .slice ax g.length cx) rfl
  go_wp2_with fail
  generalize (w1.alloc (.cells #[.int .i64 f, .slice ax g.length cx] 25)) = W1 at *
  clear cx_0 cx_1
  refine (HI1.out _ Tx.out).mono ?_
  rintro e w2 ⟨vo, rfl, hor, hb⟩
  generalize fgF f g n = F at *
  generalize fgG f g n = G at *
  generalize fgB f g n = B at *
  obtain ⟨fo, hv9⟩ := hor.reads
  obtain ⟨ao, co, rfl⟩ := Vts.slice (show Vts w2 G vo fo from hv9)
  have hT : Vts w2 G (.slice ao G.length co) fo := hv9
  clear hor hv9
  have Tx := Lib.hid (show Vts w2 g (.slice ax g.length cx) fx from Tx.out.under hb)
  have Sx := Lib.hid (show Str w2 (w1.heap.size) 25 #[.int .i64 f, .slice ax g.length cx] from (hb.block _ Sx.out.lt).trans Sx.out)
  have hsw2 := hb.size
  have Hb := Lib.hid (below_step Hb.out Hb.out.size hb)
  have To := Lib.hid hT
  clear hT hb
  have hal : Below w2.heap.size w2 (w2.alloc (.cells #[.int .i64 F, .slice ao G.length co] 25)) := (Below.refl _ _).alloc (Nat.le_refl _) _
  have Tx := Lib.hid (show Vts (w2.alloc (.cells #[.int .i64 F, .slice ao G.length co] 25)) g (.slice ax g.length cx) fx from Tx.out.under hal)
  have To := Lib.hid (show Vts (w2.alloc (.cells #[.int .i64 F, .slice ao G.length co] 25)) G (.slice ao G.length co) fo from To.out.under hal)
  have Sx := Lib.hid (show Str (w2.alloc (.cells #[.int .i64 F, .slice ao G.length co] 25)) (w1.heap.size) 25 #[.int .i64 f, .slice ax g.length cx] from Sx.out.alloc _)
  have Sso := Lib.hid (Str.new w2 25 #[.int .i64 F, .slice ao G.length co])
  have hzso : (w2.alloc (.cells #[.int .i64 F, .slice ao G.length co] 25)).heap.size = w2.heap.size + 1 := by simp
  have Hb := Lib.hid (below_step Hb.out Hb.out.size hal)
  clear hal
  have cx_0 := Sx.out.cell 0 (v := .int .i64 f) rfl
  have cx_1 := Sx.out.cell 1 (v := .slice ax g.length cx) rfl
  have cso_0 := Sso.out.cell 0 (v := .int .i64 F) rfl
  have cso_1 := Sso.out.cell 1 (v := .slice ao G.length co) rfl
  go_wp2_with fail
  generalize (w2.alloc (.cells #[.int .i64 F, .slice ao G.length co] 25)) = W2 at *
  clear cx_0 cx_1 cso_0 cso_1
  refine (HS.out _ Tx.out).mono ?_
  rintro e w3 ⟨vk, rfl, hor, hb⟩
  obtain ⟨fk, hv9⟩ := hor.reads
  obtain ⟨ak, ck, rfl⟩ := Vts.slice (show Vts w3 G vk fk from hv9)
  have hT : Vts w3 G (.slice ak G.length ck) fk := hv9
  clear hor hv9
  have Tx := Lib.hid (show Vts w3 g (.slice ax g.length cx) fx from Tx.out.under hb)
  have To := Lib.hid (show Vts w3 G (.slice ao G.length co) fo from To.out.under hb)
  have Sx := Lib.hid (show Str w3 (w1.heap.size) 25 #[.int .i64 f, .slice ax g.length cx] from (hb.block _ Sx.out.lt).trans Sx.out)
  have Sso := Lib.hid (show Str w3 (w2.heap.size) 25 #[.int .i64 F, .slice ao G.length co] from (hb.block _ Sso.out.lt).trans Sso.out)
  have hsw3 := hb.size
  have Hb := Lib.hid (below_step Hb.out Hb.out.size hb)
  have Tk := Lib.hid hT
  clear hT hb
  have hal : Below w3.heap.size w3 (w3.alloc (.cells #[.int .i64 F, .slice ak G.length ck] 25)) := (Below.refl _ _).alloc (Nat.le_refl _) _
  have Tx := Lib.hid (show Vts (w3.alloc (.cells #[.int .i64 F, .slice ak G.length ck] 25)) g (.slice ax g.length cx) fx from Tx.out.under hal)
  have To := Lib.hid (show Vts (w3.alloc (.cells #[.int .i64 F, .slice ak G.length ck] 25)) G (.slice ao G.length co) fo from To.out.under hal)
  have Tk := Lib.hid (show Vts (w3.alloc (.cells #[.int .i64 F, .slice ak G.length ck] 25)) G (.slice ak G.length ck) fk from Tk.out.under hal)
  have Sx := Lib.hid (show Str (w3.alloc (.cells #[.int .i64 F, .slice ak G.length ck] 25)) (w1.heap.size) 25 #[.int .i64 f, .slice ax g.length cx] from Sx.out.alloc _)
  have Sso := Lib.hid (show Str (w3.alloc (.cells #[.int .i64 F, .slice ak G.length ck] 25)) (w2.heap.size) 25 #[.int .i64 F, .slice ao G.length co] from Sso.out.alloc _)
  have Ssk := Lib.hid (Str.new w3 25 #[.int .i64 F, .slice ak G.length ck])
  have hzsk : (w3.alloc (.cells #[.int .i64 F, .slice ak G.length ck] 25)).heap.size = w3.heap.size + 1 := by simp
  have Hb := Lib.hid (below_step Hb.out Hb.out.size hal)
  clear hal
  have hbb : (B != B) = false := by simp
  have hbe : (B == B) = true := by simp
  have cso_0 := Sso.out.cell 0 (v := .int .i64 F) rfl
  have cso_1 := Sso.out.cell 1 (v := .slice ao G.length co) rfl
  have csk_0 := Ssk.out.cell 0 (v := .int .i64 F) rfl
  have csk_1 := Ssk.out.cell 1 (v := .slice ak G.length ck) rfl
  go_wp2_with fail
  generalize (w3.alloc (.cells #[.int .i64 F, .slice ak G.length ck] 25)) = W3 at *
  clear cso_0 cso_1 csk_0 csk_1
  refine (sameVoter_self F G _ _ fo fk _ (by omega) To.out Tk.out).mono ?_
  rintro e w4 ⟨rfl, hb⟩
  have Tx := Lib.hid (show Vts w4 g (.slice ax g.length cx) fx from Tx.out.under hb)
  have To := Lib.hid (show Vts w4 G (.slice ao G.length co) fo from To.out.under hb)
  have Tk := Lib.hid (show Vts w4 G (.slice ak G.length ck) fk from Tk.out.under hb)
  have Sx := Lib.hid (show Str w4 (w1.heap.size) 25 #[.int .i64 f, .slice ax g.length cx] from (hb.block _ Sx.out.lt).trans Sx.out)
  have Sso := Lib.hid (show Str w4 (w2.heap.size) 25 #[.int .i64 F, .slice ao G.length co] from (hb.block _ Sso.out.lt).trans Sso.out)
  have Ssk := Lib.hid (show Str w4 (w3.heap.size) 25 #[.int .i64 F, .slice ak G.length ck] from (hb.block _ Ssk.out.lt).trans Ssk.out)
  have hsw4 := hb.size
  have Hb := Lib.hid (below_step Hb.out Hb.out.size hb)
  clear hb
  cases B with
  | false =>
    have cso_0 := Sso.out.cell 0 (v := .int .i64 F) rfl
    have cso_1 := Sso.out.cell 1 (v := .slice ao G.length co) rfl
    have csk_0 := Ssk.out.cell 0 (v := .int .i64 F) rfl
    have csk_1 := Ssk.out.cell 1 (v := .slice ak G.length ck) rfl
    go_wp2_with fail
    clear cso_0 cso_1 csk_0 csk_1
    refine (sameVoter_self F G _ _ fo fk _ (by omega) To.out Tk.out).mono ?_
    rintro e w5 ⟨rfl, hb⟩
    have Tx := Lib.hid (show Vts w5 g (.slice ax g.length cx) fx from Tx.out.under hb)
    have To := Lib.hid (show Vts w5 G (.slice ao G.length co) fo from To.out.under hb)
    have Tk := Lib.hid (show Vts w5 G (.slice ak G.length ck) fk from Tk.out.under hb)
    have Sx := Lib.hid (show Str w5 (w1.heap.size) 25 #[.int .i64 f, .slice ax g.length cx] from (hb.block _ Sx.out.lt).trans Sx.out)
    have Sso := Lib.hid (show Str w5 (w2.heap.size) 25 #[.int .i64 F, .slice ao G.length co] from (hb.block _ Sso.out.lt).trans Sso.out)
    have Ssk := Lib.hid (show Str w5 (w3.heap.size) 25 #[.int .i64 F, .slice ak G.length ck] from (hb.block _ Ssk.out.lt).trans Ssk.out)
    have hsw5 := hb.size
    have Hb := Lib.hid (below_step Hb.out Hb.out.size hb)
    clear hb
    go_wp2
    go_ret
    exact ⟨by first | rfl | exact ret_bool (by simp) | exact ret_bool (by simp; omega), Hb.out⟩
  | true =>
  obtain ⟨⟨hn0, hn1⟩, hFn, hfa⟩ := HA.out (by first | rfl | trivial)
  clear HA HS HI1
  clear Tk
  clear Ssk
  subst hFn
  have hr0 : 0 ≤ (ms.length : Int) % 4 ∧ (ms.length : Int) % 4 < 4 := by omega
  obtain ⟨k1, k2, k3, k4, k5⟩ := hfa (min (F + (ms.length : Int) % 4) 31) (by omega) (by omega)
  have H2 := impl_VoterForget F G (.slice ao G.length co) fo (min (F + (ms.length : Int) % 4) 31)
  rw [k1, k2, k3] at H2
  have H2 := Lib.hid (fun W h => H2 W (by omega) h)
  have H3 := HI.out (min (F + (ms.length : Int) % 4) 31)
  rw [k4, k5] at H3
  have H3 := Lib.hid H3
  have hGl2 := HL.out (min (F + (ms.length : Int) % 4) 31)
  clear k1 k2 k3 k4 k5 hfa HI HL
  generalize fgG f g (min (F + (ms.length : Int) % 4) 31) = G2 at *
  have cso_0 := Sso.out.cell 0 (v := .int .i64 F) rfl
  have cso_1 := Sso.out.cell 1 (v := .slice ao G.length co) rfl
  go_wp2_with fail
  generalize min (F + (ms.length : Int) % 4) 31 = HH at *
  clear hr0
  clear cso_0 cso_1
  refine (H2.out _ To.out).mono ?_
  rintro e w6 ⟨va, rfl, hor, hb⟩
  obtain ⟨fa, hv9⟩ := hor.reads
  obtain ⟨aa, ca, rfl⟩ := Vts.slice (show Vts w6 G2 va fa from hv9)
  have hT : Vts w6 G2 (.slice aa G2.length ca) fa := hv9
  clear hor hv9
  have Tx := Lib.hid (show Vts w6 g (.slice ax g.length cx) fx from Tx.out.under hb)
  have To := Lib.hid (show Vts w6 G (.slice ao G.length co) fo from To.out.under hb)
  have Sx := Lib.hid (show Str w6 (w1.heap.size) 25 #[.int .i64 f, .slice ax g.length cx] from (hb.block _ Sx.out.lt).trans Sx.out)
  have Sso := Lib.hid (show Str w6 (w2.heap.size) 25 #[.int .i64 F, .slice ao G.length co] from (hb.block _ Sso.out.lt).trans Sso.out)
  have hsw6 := hb.size
  have Hb := Lib.hid (below_step Hb.out Hb.out.size hb)
  have Ta := Lib.hid hT
  clear hT hb
  have hal : Below w6.heap.size w6 (w6.alloc (.cells #[.int .i64 HH, .slice aa G2.length ca] 25)) := (Below.refl _ _).alloc (Nat.le_refl _) _
  have Tx := Lib.hid (show Vts (w6.alloc (.cells #[.int .i64 HH, .slice aa G2.length ca] 25)) g (.slice ax g.length cx) fx from Tx.out.under hal)
  have To := Lib.hid (show Vts (w6.alloc (.cells #[.int .i64 HH, .slice aa G2.length ca] 25)) G (.slice ao G.length co) fo from To.out.under hal)
  have Ta := Lib.hid (show Vts (w6.alloc (.cells #[.int .i64 HH, .slice aa G2.length ca] 25)) G2 (.slice aa G2.length ca) fa from Ta.out.under hal)
  have Sx := Lib.hid (show Str (w6.alloc (.cells #[.int .i64 HH, .slice aa G2.length ca] 25)) (w1.heap.size) 25 #[.int .i64 f, .slice ax g.length cx] from Sx.out.alloc _)
  have Sso := Lib.hid (show Str (w6.alloc (.cells #[.int .i64 HH, .slice aa G2.length ca] 25)) (w2.heap.size) 25 #[.int .i64 F, .slice ao G.length co] from Sso.out.alloc _)
  have Ssa := Lib.hid (Str.new w6 25 #[.int .i64 HH, .slice aa G2.length ca])
  have hzsa : (w6.alloc (.cells #[.int .i64 HH, .slice aa G2.length ca] 25)).heap.size = w6.heap.size + 1 := by simp
  have Hb := Lib.hid (below_step Hb.out Hb.out.size hal)
  clear hal
  have cx_0 := Sx.out.cell 0 (v := .int .i64 f) rfl
  have cx_1 := Sx.out.cell 1 (v := .slice ax g.length cx) rfl
  go_wp2_with fail
  generalize (w6.alloc (.cells #[.int .i64 HH, .slice aa G2.length ca] 25)) = W6 at *
  clear cx_0 cx_1
  refine (H3.out _ Tx.out).mono ?_
  rintro e w7 ⟨vb, rfl, hor, hb⟩
  obtain ⟨fb, hv9⟩ := hor.reads
  obtain ⟨ab, cb, rfl⟩ := Vts.slice (show Vts w7 G2 vb fb from hv9)
  have hT : Vts w7 G2 (.slice ab G2.length cb) fb := hv9
  clear hor hv9
  have Tx := Lib.hid (show Vts w7 g (.slice ax g.length cx) fx from Tx.out.under hb)
  have To := Lib.hid (show Vts w7 G (.slice ao G.length co) fo from To.out.under hb)
  have Ta := Lib.hid (show Vts w7 G2 (.slice aa G2.length ca) fa from Ta.out.under hb)
  have Sx := Lib.hid (show Str w7 (w1.heap.size) 25 #[.int .i64 f, .slice ax g.length cx] from (hb.block _ Sx.out.lt).trans Sx.out)
  have Sso := Lib.hid (show Str w7 (w2.heap.size) 25 #[.int .i64 F, .slice ao G.length co] from (hb.block _ Sso.out.lt).trans Sso.out)
  have Ssa := Lib.hid (show Str w7 (w6.heap.size) 25 #[.int .i64 HH, .slice aa G2.length ca] from (hb.block _ Ssa.out.lt).trans Ssa.out)
  have hsw7 := hb.size
  have Hb := Lib.hid (below_step Hb.out Hb.out.size hb)
  have Tb := Lib.hid hT
  clear hT hb
  have hal : Below w7.heap.size w7 (w7.alloc (.cells #[.int .i64 HH, .slice ab G2.length cb] 25)) := (Below.refl _ _).alloc (Nat.le_refl _) _
  have Tx := Lib.hid (show Vts (w7.alloc (.cells #[.int .i64 HH, .slice ab G2.length cb] 25)) g (.slice ax g.length cx) fx from Tx.out.under hal)
  have To := Lib.hid (show Vts (w7.alloc (.cells #[.int .i64 HH, .slice ab G2.length cb] 25)) G (.slice ao G.length co) fo from To.out.under hal)
  have Ta := Lib.hid (show Vts (w7.alloc (.cells #[.int .i64 HH, .slice ab G2.length cb] 25)) G2 (.slice aa G2.length ca) fa from Ta.out.under hal)
  have Tb := Lib.hid (show Vts (w7.alloc (.cells #[.int .i64 HH, .slice ab G2.length cb] 25)) G2 (.slice ab G2.length cb) fb from Tb.out.under hal)
  have Sx := Lib.hid (show Str (w7.alloc (.cells #[.int .i64 HH, .slice ab G2.length cb] 25)) (w1.heap.size) 25 #[.int .i64 f, .slice ax g.length cx] from Sx.out.alloc _)
  have Sso := Lib.hid (show Str (w7.alloc (.cells #[.int .i64 HH, .slice ab G2.length cb] 25)) (w2.heap.size) 25 #[.int .i64 F, .slice ao G.length co] from Sso.out.alloc _)
  have Ssa := Lib.hid (show Str (w7.alloc (.cells #[.int .i64 HH, .slice ab G2.length cb] 25)) (w6.heap.size) 25 #[.int .i64 HH, .slice aa G2.length ca] from Ssa.out.alloc _)
  have Ssb := Lib.hid (Str.new w7 25 #[.int .i64 HH, .slice ab G2.length cb])
  have hzsb : (w7.alloc (.cells #[.int .i64 HH, .slice ab G2.length cb] 25)).heap.size = w7.heap.size + 1 := by simp
  have Hb := Lib.hid (below_step Hb.out Hb.out.size hal)
  clear hal
  have csa_0 := Ssa.out.cell 0 (v := .int .i64 HH) rfl
  have csa_1 := Ssa.out.cell 1 (v := .slice aa G2.length ca) rfl
  have csb_0 := Ssb.out.cell 0 (v := .int .i64 HH) rfl
  have csb_1 := Ssb.out.cell 1 (v := .slice ab G2.length cb) rfl
  go_wp2_with fail
  generalize (w7.alloc (.cells #[.int .i64 HH, .slice ab G2.length cb] 25)) = W7 at *
  clear csa_0 csa_1 csb_0 csb_1
  refine (sameVoter_self HH G2 _ _ fa fb _ (by omega) Ta.out Tb.out).mono ?_
  rintro e w8 ⟨rfl, hb⟩
  have Tx := Lib.hid (show Vts w8 g (.slice ax g.length cx) fx from Tx.out.under hb)
  have To := Lib.hid (show Vts w8 G (.slice ao G.length co) fo from To.out.under hb)
  have Ta := Lib.hid (show Vts w8 G2 (.slice aa G2.length ca) fa from Ta.out.under hb)
  have Tb := Lib.hid (show Vts w8 G2 (.slice ab G2.length cb) fb from Tb.out.under hb)
  have Sx := Lib.hid (show Str w8 (w1.heap.size) 25 #[.int .i64 f, .slice ax g.length cx] from (hb.block _ Sx.out.lt).trans Sx.out)
  have Sso := Lib.hid (show Str w8 (w2.heap.size) 25 #[.int .i64 F, .slice ao G.length co] from (hb.block _ Sso.out.lt).trans Sso.out)
  have Ssa := Lib.hid (show Str w8 (w6.heap.size) 25 #[.int .i64 HH, .slice aa G2.length ca] from (hb.block _ Ssa.out.lt).trans Ssa.out)
  have Ssb := Lib.hid (show Str w8 (w7.heap.size) 25 #[.int .i64 HH, .slice ab G2.length cb] from (hb.block _ Ssb.out.lt).trans Ssb.out)
  have hsw8 := hb.size
  have Hb := Lib.hid (below_step Hb.out Hb.out.size hb)
  clear hb
  go_wp2
  go_ret
  exact ⟨by first | rfl | exact ret_bool (by simp) | exact ret_bool (by simp; omega), Hb.out⟩

theorem fnVoterForgetSteps_own : ownKnob Try.prog.godebug = none := by kernel_rfl
theorem fnVoterForgetSteps_laidOut : laidOutB Try.prog = true := by kernel_rfl

set_option maxRecDepth 8000 in
theorem fnVoterForgetSteps_lifted (os : Os) (started : os.Started) (H : Type) (enc : TypeId × Value → H) :
    ReturnsInHanded {} Try.checked os 7 .any (Rows.fnVoterForgetStepsSpec.pre6 enc Try.prog Try.f7 Rows.fnVoterForgetStepsRow.domain false) (Rows.fnVoterForgetStepsSpec.post enc Try.prog Try.f7 false true false false) := by
  refine law_lifted (C := Try.checked) (tb := 4) fnVoterForgetSteps_own fnVoterForgetSteps_laidOut started (by kernel_rfl) Try.func7 rfl Try.underlying4 rfl (by rw [Try.params7]; exact of_decide_eq_true (by kernel_rfl)) ?_
    (ChangeSpec.witness6 (enc := enc) (C := Try.checked) false ⟨#[], #[.slice none 0 0, .slice none 0 0], []⟩ 8 (by kernel_rfl) (by kernel_rfl) (by kernel_rfl) (by kernel_rfl)) ?_
  · intro ds hds
    rw [Try.params7] at hds
    match ds, hds with
    | [d0, d1], _ => rfl
  · intro W base args ds p hval0 hA0
    have hval : ∀ (j : Nat) t v, Try.f7.params[j]? = some t → args[j]? = some v → Value.okWide Try.prog W .any base t v := hval0
    have hA : DataW.TrodAll enc Try.prog W 0 (fun _ => true) true Try.f7.params.toList args.toList ds p := hA0
    rw [Try.params7] at hA hval
    obtain ⟨v0, vs0, d0, ds0, p0, q0, hargs0, rfl, rfl, h0, r0⟩ := trodAll_cons hA
    obtain ⟨v1, vs1, d1, ds1, p1, q1, hargs1, rfl, rfl, h1, r1⟩ := trodAll_cons r0
    obtain ⟨hnil, rfl, rfl⟩ := trodAll_nil r1
    subst hnil
    subst hargs1
    obtain rfl : args = #[v0, v1] := by cases args; simp_all
    obtain ⟨a0, cap0, zs0, rfl, hk0, hm0, hi0, hw0⟩ := open_slice_ints Try.underlying22 Try.underlying5 (by kernel_rfl) (hval 0 22 v0 rfl rfl) h0
    obtain ⟨a1, cap1, zs1, rfl, hk1, hm1, hi1, hw1⟩ := open_slice_ints Try.underlying22 Try.underlying5 (by kernel_rfl) (hval 1 22 v1 rfl rfl) h1
    exact fnVoterForgetSteps_walk a0 cap0 zs0 a1 cap1 zs1 W hk0 hm0 hi0 hw0 hk1 hm1 hi1 hw1

theorem fnVoterForgetSteps_holds : Rows.FnVoterForgetStepsSaid :=
  OpenClaim.holds_of_wide 7 Try.f7 rfl rfl rfl rfl rfl rfl rfl ⟨rfl, rfl, rfl, rfl, rfl⟩ rfl rfl rfl rfl rfl (by kernel_rfl) Try.func7 (by kernel_rfl)
    (of_decide_eq_true (by kernel_rfl)) (by unfold Func.isWrapper; first | (rw [if_pos (by decide +kernel)]; kernel_rfl) | (rw [if_neg (by decide +kernel)]; exact ⟨rfl, rfl⟩))
    (fun os started H enc _ => fnVoterForgetSteps_lifted os started H enc)

end Go.Proofs.Ytgpbogalknmcmaa
