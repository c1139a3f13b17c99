/- Law FnStoreForgetSteps holds for every input; no conditions of our own. -/
import Derived.Test.YthojbcecbeapgaaRows
import Derived.Test.YthojbcecbeapgaaBu0
import Derived.Test.YthojbcecbeapgaaBu1
import Derived.Test.YthojbcecbeapgaaBu2
import Derived.Test.YthojbcecbeapgaaBu3
import Derived.Test.YthojbcecbeapgaaBu4
import Derived.Deep.QuietTactic
import Derived.BigQuiet
namespace Go.Proofs.Ythojbcecbeapgaa
open Go.ChangeShapes Go.WideShapes Go.ChangeAt Go.RowKit

set_option maxHeartbeats 4000000 in
theorem fnStoreForgetSteps_walk (a : Option Addr) (cap : Nat) (zs : List Int) (a' : Option Addr) (cap' : Nat) (ms : List Int) (w : World) (hk : zs.length ≤ cap) (_hm : zs.length ≤ maxLen) (hi : zs = [] ∨ ∃ b off, a = some ⟨b, off, none⟩ ∧ b < w.heap.size ∧ ∀ j (h : j < zs.length), w.cell? ⟨b, off + j, none⟩ = some (.int .u8 zs[j])) (hw : ∀ z ∈ zs, (Lit.int .u8 z).wf = true)
    (_hk' : ms.length ≤ cap') (hm' : ms.length ≤ maxLen) (_hi' : ms = [] ∨ ∃ b off, a' = some ⟨b, off, none⟩ ∧ b < w.heap.size ∧ ∀ j (h : j < ms.length), w.cell? ⟨b, off + j, none⟩ = some (.int .u8 ms[j])) (_hw' : ∀ z ∈ ms, (Lit.int .u8 z).wf = true) :
    Calls Try.prog 8 #[.slice a zs.length cap, .slice a' ms.length cap'] w fun e w' => e = .returned (.bool true) ∧ Below w.heap.size w w' := by
  unfold maxLen at hm'
  by_cases hl : 1048576 < zs.length
  · go_enter Try.func8, Try.ntmps8
    go_wp2
    go_ret
    exact ⟨rfl, Below.refl _ _⟩
  by_cases hl' : 1048576 < ms.length
  · go_enter Try.func8, Try.ntmps8
    go_wp2
    go_ret
    exact ⟨rfl, Below.refl _ _⟩
  have hcode := codeAt_of hk (by omega) hi hw
  have Hcode := Lib.hid hcode; clear hcode hi hw
  have hcode' := codeAt_of _hk' (by omega) _hi' _hw'
  have Hcode' := Lib.hid hcode'; clear hcode'
  go_enter Try.func8, Try.ntmps8
  go_wp2_with fail
  refine (spec_DrawStoreForget a cap zs _ Hcode.out).mono ?_
  rintro e w1 ⟨f, l, ux, x, rfl, ho, hl13, hb1⟩
  obtain ⟨ax, cx, rfl, _⟩ := OwnB.sl (l := l) ho
  obtain ⟨fx, hx⟩ := OwnB.bts (l := l) ho
  have Tx := Lib.hid hx
  have Hb := Lib.hid hb1
  clear ho hx hb1
  have hal : Below w1.heap.size w1 (w1.alloc (.cells #[.int .i64 f, .slice ax l.length cx] 25)) := (Below.refl _ _).alloc (Nat.le_refl _) _
  have Tx := Lib.hid (show Bts (w1.alloc (.cells #[.int .i64 f, .slice ax l.length cx] 25)) l (.slice ax l.length cx) fx from Tx.out.under hal)
  have Sx := Lib.hid (Str.new w1 25 #[.int .i64 f, .slice ax l.length cx])
  have Hb := Lib.hid (below_step Hb.out Hb.out.size hal)
  clear hal
  obtain ⟨C, hC⟩ : ∃ C, C = foB f l x := ⟨_, rfl⟩
  obtain ⟨G, hG⟩ : ∃ G, G = foL f l x := ⟨_, rfl⟩
  obtain ⟨F, hF⟩ : ∃ F, F = foF f l x := ⟨_, rfl⟩
  have hGl := foL_len f l x
  rw [← hG] at hGl
  have HI := Lib.hid (fun W (h : Bts W l (.slice ax l.length cx) fx) => impl_StoreForget f l _ fx x W (by omega) h)
  have HS := Lib.hid (fun W (h : Bts W l (.slice ax l.length cx) fx) => spec_StoreForget f l _ fx x W (by omega) h)
  unfold FoP at HI
  unfold SfP at HS
  rw [← hC, ← hG, ← hF] at HI HS
  have HC := Lib.hid hC; have HG := Lib.hid hG; have HF := Lib.hid hF
  clear hC hG hF
  have cx_0 := Sx.out.cell 0 (v := .int .i64 f) rfl
  have cx_1 := Sx.out.cell 1 (v := .slice ax l.length cx) rfl
  go_wp2_with fail
  generalize (w1.alloc (.cells #[.int .i64 f, .slice ax l.length cx] 25)) = W2 at *
  clear cx_0 cx_1
  refine (HI.out _ Tx.out).mono ?_
  rintro e w3 ⟨vo, rfl, ho, hb⟩
  obtain ⟨ao, co, rfl, _⟩ := OwnB.sl (l := G) ho
  obtain ⟨fo, hT⟩ := OwnB.bts (l := G) ho
  clear ho
  have Tx := Lib.hid (show Bts w3 l (.slice ax l.length cx) fx from Tx.out.under hb)
  have Sx := Lib.hid (show Str w3 (w1.heap.size) 25 #[.int .i64 f, .slice ax l.length cx] from (hb.block _ Sx.out.lt).trans Sx.out)
  have hsw3 := hb.size
  have Hb := Lib.hid (below_step Hb.out Hb.out.size hb)
  have To := Lib.hid hT
  clear hT hb
  have hal : Below w3.heap.size w3 (w3.alloc (.cells #[.int .i64 F, .slice ao G.length co] 25)) := (Below.refl _ _).alloc (Nat.le_refl _) _
  have Tx := Lib.hid (show Bts (w3.alloc (.cells #[.int .i64 F, .slice ao G.length co] 25)) l (.slice ax l.length cx) fx from Tx.out.under hal)
  have To := Lib.hid (show Bts (w3.alloc (.cells #[.int .i64 F, .slice ao G.length co] 25)) G (.slice ao G.length co) fo from To.out.under hal)
  have Sx := Lib.hid (show Str (w3.alloc (.cells #[.int .i64 F, .slice ao G.length co] 25)) (w1.heap.size) 25 #[.int .i64 f, .slice ax l.length cx] from Sx.out.alloc _)
  have So := Lib.hid (Str.new w3 25 #[.int .i64 F, .slice ao G.length co])
  have Hb := Lib.hid (below_step Hb.out Hb.out.size hal)
  clear hal
  have cx_0 := Sx.out.cell 0 (v := .int .i64 f) rfl
  have cx_1 := Sx.out.cell 1 (v := .slice ax l.length cx) rfl
  have co_0 := So.out.cell 0 (v := .int .i64 F) rfl
  have co_1 := So.out.cell 1 (v := .slice ao G.length co) rfl
  go_wp2_with fail
  generalize (w3.alloc (.cells #[.int .i64 F, .slice ao G.length co] 25)) = W4 at *
  clear cx_0 cx_1 co_0 co_1
  refine (HS.out _ Tx.out).mono ?_
  rintro e w5 ⟨vk, rfl, ho, hb⟩
  obtain ⟨ak, ck, rfl, _⟩ := OwnB.sl (l := G) ho
  obtain ⟨fk, hT⟩ := OwnB.bts (l := G) ho
  clear ho
  have Tx := Lib.hid (show Bts w5 l (.slice ax l.length cx) fx from Tx.out.under hb)
  have To := Lib.hid (show Bts w5 G (.slice ao G.length co) fo from To.out.under hb)
  have Sx := Lib.hid (show Str w5 (w1.heap.size) 25 #[.int .i64 f, .slice ax l.length cx] from (hb.block _ Sx.out.lt).trans Sx.out)
  have So := Lib.hid (show Str w5 (w3.heap.size) 25 #[.int .i64 F, .slice ao G.length co] from (hb.block _ So.out.lt).trans So.out)
  have hsw5 := hb.size
  have Hb := Lib.hid (below_step Hb.out Hb.out.size hb)
  have Tk := Lib.hid hT
  clear hT hb
  have hal : Below w5.heap.size w5 (w5.alloc (.cells #[.int .i64 F, .slice ak G.length ck] 25)) := (Below.refl _ _).alloc (Nat.le_refl _) _
  have Tx := Lib.hid (show Bts (w5.alloc (.cells #[.int .i64 F, .slice ak G.length ck] 25)) l (.slice ax l.length cx) fx from Tx.out.under hal)
  have To := Lib.hid (show Bts (w5.alloc (.cells #[.int .i64 F, .slice ak G.length ck] 25)) G (.slice ao G.length co) fo from To.out.under hal)
  have Tk := Lib.hid (show Bts (w5.alloc (.cells #[.int .i64 F, .slice ak G.length ck] 25)) G (.slice ak G.length ck) fk from Tk.out.under hal)
  have Sx := Lib.hid (show Str (w5.alloc (.cells #[.int .i64 F, .slice ak G.length ck] 25)) (w1.heap.size) 25 #[.int .i64 f, .slice ax l.length cx] from Sx.out.alloc _)
  have So := Lib.hid (show Str (w5.alloc (.cells #[.int .i64 F, .slice ak G.length ck] 25)) (w3.heap.size) 25 #[.int .i64 F, .slice ao G.length co] from So.out.alloc _)
  have Sk := Lib.hid (Str.new w5 25 #[.int .i64 F, .slice ak G.length ck])
  have Hb := Lib.hid (below_step Hb.out Hb.out.size hal)
  clear hal
  clear HI HS
  have hcc : (C != C) = false := by simp
  have hce : (C == C) = true := by simp
  have cx_0 := Sx.out.cell 0 (v := .int .i64 f) rfl
  have cx_1 := Sx.out.cell 1 (v := .slice ax l.length cx) rfl
  have co_0 := So.out.cell 0 (v := .int .i64 F) rfl
  have co_1 := So.out.cell 1 (v := .slice ao G.length co) rfl
  have ck_0 := Sk.out.cell 0 (v := .int .i64 F) rfl
  have ck_1 := Sk.out.cell 1 (v := .slice ak G.length ck) rfl
  go_wp2_with fail
  generalize (w5.alloc (.cells #[.int .i64 F, .slice ak G.length ck] 25)) = W6 at *
  clear cx_0 cx_1 co_0 co_1 ck_0 ck_1
  refine (laws_sameStore F F G G _ _ fo fk _ (by omega) (by omega) To.out Tk.out).mono ?_
  rintro e w7 ⟨rfl, hb⟩
  rw [decide_eq_true (show F = F ∧ G = G from ⟨rfl, rfl⟩)]
  have Tx := Lib.hid (show Bts w7 l (.slice ax l.length cx) fx from Tx.out.under hb)
  have To := Lib.hid (show Bts w7 G (.slice ao G.length co) fo from To.out.under hb)
  have Tk := Lib.hid (show Bts w7 G (.slice ak G.length ck) fk from Tk.out.under hb)
  have Sx := Lib.hid (show Str w7 (w1.heap.size) 25 #[.int .i64 f, .slice ax l.length cx] from (hb.block _ Sx.out.lt).trans Sx.out)
  have So := Lib.hid (show Str w7 (w3.heap.size) 25 #[.int .i64 F, .slice ao G.length co] from (hb.block _ So.out.lt).trans So.out)
  have Sk := Lib.hid (show Str w7 (w5.heap.size) 25 #[.int .i64 F, .slice ak G.length ck] from (hb.block _ Sk.out.lt).trans Sk.out)
  have hsw7 := hb.size
  have Hb := Lib.hid (below_step Hb.out Hb.out.size hb)
  clear hb
  cases hCb : C with
  | false =>
    rw [hCb] at hcc hce
    have cx_0 := Sx.out.cell 0 (v := .int .i64 f) rfl
    have cx_1 := Sx.out.cell 1 (v := .slice ax l.length cx) rfl
    have co_0 := So.out.cell 0 (v := .int .i64 F) rfl
    have co_1 := So.out.cell 1 (v := .slice ao G.length co) rfl
    have ck_0 := Sk.out.cell 0 (v := .int .i64 F) rfl
    have ck_1 := Sk.out.cell 1 (v := .slice ak G.length ck) rfl
    go_wp2_with fail
    clear cx_0 cx_1 co_0 co_1 ck_0 ck_1
    refine (laws_sameStore F F G G _ _ fo fk _ (by omega) (by omega) To.out Tk.out).mono ?_
    rintro e w8 ⟨rfl, hb⟩
    rw [decide_eq_true (show F = F ∧ G = G from ⟨rfl, rfl⟩)]
    have Tx := Lib.hid (show Bts w8 l (.slice ax l.length cx) fx from Tx.out.under hb)
    have To := Lib.hid (show Bts w8 G (.slice ao G.length co) fo from To.out.under hb)
    have Tk := Lib.hid (show Bts w8 G (.slice ak G.length ck) fk from Tk.out.under hb)
    have Sx := Lib.hid (show Str w8 (w1.heap.size) 25 #[.int .i64 f, .slice ax l.length cx] from (hb.block _ Sx.out.lt).trans Sx.out)
    have So := Lib.hid (show Str w8 (w3.heap.size) 25 #[.int .i64 F, .slice ao G.length co] from (hb.block _ So.out.lt).trans So.out)
    have Sk := Lib.hid (show Str w8 (w5.heap.size) 25 #[.int .i64 F, .slice ak G.length ck] from (hb.block _ Sk.out.lt).trans Sk.out)
    have hsw8 := hb.size
    have Hb := Lib.hid (below_step Hb.out Hb.out.size hb)
    clear hb
    go_wp2
    go_ret
    exact ⟨by first | rfl | exact ret_bool (by simp) | exact ret_bool (by simp; omega), Hb.out⟩
  | true =>
  have Hfo := Lib.hid (show foB f l x = true by rw [← HC.out]; exact hCb)
  have Hgf := Lib.hid (show G = fgL l x ∧ F = x by rw [HG.out, HF.out]; exact fo_yes Hfo.out)
  have hFx : F = x := Hgf.out.2
  subst hFx
  clear hcc hce hCb
  clear Tk
  clear Sk
  obtain ⟨hs1, hx1, hx2⟩ := foB_iff.1 Hfo.out
  have hx0 := (stB_P hs1).1.1
  obtain ⟨y, hy⟩ : ∃ y : Int, y = min (F + (ms.length : Int) % 4) 31 := ⟨_, rfl⟩
  have hy1 : F ≤ y ∧ y ≤ 31 := by omega
  obtain ⟨q1, q2, q3⟩ := p100 Hfo.out hy1.1 hy1.2
  obtain ⟨Y, hY⟩ : ∃ Y, Y = fgL l y := ⟨_, rfl⟩
  have hYl : Y.length ≤ 12 := by rw [hY]; exact Nat.le_trans (fg_len _ _) (stB_P hs1).2.1
  have HA := Lib.hid (fun W (h : Bts W G (.slice ao G.length co) fo) => impl_StoreForget F G _ fo y W (by omega) h)
  have HB := Lib.hid (fun W (h : Bts W l (.slice ax l.length cx) fx) => impl_StoreForget f l _ fx y W (by omega) h)
  unfold FoP at HA HB
  have g1 : foB F G y = true := by rw [Hgf.out.1]; exact q1
  have g2 : fgL G y = Y := by rw [Hgf.out.1, q3, hY]
  rw [g1, (fo_yes g1).1, (fo_yes g1).2, g2] at HA
  rw [q2, (fo_yes q2).1, (fo_yes q2).2, ← hY] at HB
  have Hy := Lib.hid hy
  clear hs1 q1 q2 q3 g1 g2 hY hy
  have hmod : 0 ≤ (ms.length : Int) % 4 ∧ (ms.length : Int) % 4 < 4 := by omega
  obtain ⟨m4, hm4⟩ : ∃ m4, m4 = (ms.length : Int) % 4 := ⟨_, rfl⟩
  have hw4 : IntKind.i64.wrap (F + m4) = F + m4 := IntWalk.i64_in _ (by omega)
  have hmt : (ms.length : Int).tmod 4 = m4 := by rw [Int.tmod_eq_emod_of_nonneg (by omega)]; exact hm4.symm
  rw [← hm4] at hmod Hy
  clear hm4
  by_cases h31 : F + m4 ≤ 31
  case pos =>
    have hyv : y = F + m4 := by have := Hy.out; omega
    rw [hyv] at HA HB
    have hmn : min (F + m4) 31 = F + m4 := by omega
    have h31d : decide (31 < F + m4) = false := decide_eq_false (by omega)
    skip
    clear hyv hy1
    have cx_0 := Sx.out.cell 0 (v := .int .i64 f) rfl
    have cx_1 := Sx.out.cell 1 (v := .slice ax l.length cx) rfl
    have co_0 := So.out.cell 0 (v := .int .i64 F) rfl
    have co_1 := So.out.cell 1 (v := .slice ao G.length co) rfl
    go_wp2_with fail
    clear cx_0 cx_1 co_0 co_1
    refine (HA.out _ To.out).mono ?_
    rintro e w8 ⟨vy, rfl, ho, hb⟩
    obtain ⟨ay, cy, rfl, _⟩ := OwnB.sl (l := Y) ho
    obtain ⟨fy, hT⟩ := OwnB.bts (l := Y) ho
    clear ho
    have Tx := Lib.hid (show Bts w8 l (.slice ax l.length cx) fx from Tx.out.under hb)
    have To := Lib.hid (show Bts w8 G (.slice ao G.length co) fo from To.out.under hb)
    have Sx := Lib.hid (show Str w8 (w1.heap.size) 25 #[.int .i64 f, .slice ax l.length cx] from (hb.block _ Sx.out.lt).trans Sx.out)
    have So := Lib.hid (show Str w8 (w3.heap.size) 25 #[.int .i64 F, .slice ao G.length co] from (hb.block _ So.out.lt).trans So.out)
    have hsw8 := hb.size
    have Hb := Lib.hid (below_step Hb.out Hb.out.size hb)
    have Ty := Lib.hid hT
    clear hT hb
    have hal : Below w8.heap.size w8 (w8.alloc (.cells #[.int .i64 (F + m4), .slice ay Y.length cy] 25)) := (Below.refl _ _).alloc (Nat.le_refl _) _
    have Tx := Lib.hid (show Bts (w8.alloc (.cells #[.int .i64 (F + m4), .slice ay Y.length cy] 25)) l (.slice ax l.length cx) fx from Tx.out.under hal)
    have To := Lib.hid (show Bts (w8.alloc (.cells #[.int .i64 (F + m4), .slice ay Y.length cy] 25)) G (.slice ao G.length co) fo from To.out.under hal)
    have Ty := Lib.hid (show Bts (w8.alloc (.cells #[.int .i64 (F + m4), .slice ay Y.length cy] 25)) Y (.slice ay Y.length cy) fy from Ty.out.under hal)
    have Sx := Lib.hid (show Str (w8.alloc (.cells #[.int .i64 (F + m4), .slice ay Y.length cy] 25)) (w1.heap.size) 25 #[.int .i64 f, .slice ax l.length cx] from Sx.out.alloc _)
    have So := Lib.hid (show Str (w8.alloc (.cells #[.int .i64 (F + m4), .slice ay Y.length cy] 25)) (w3.heap.size) 25 #[.int .i64 F, .slice ao G.length co] from So.out.alloc _)
    have Sy := Lib.hid (Str.new w8 25 #[.int .i64 (F + m4), .slice ay Y.length cy])
    have Hb := Lib.hid (below_step Hb.out Hb.out.size hal)
    clear hal
    have cx_0 := Sx.out.cell 0 (v := .int .i64 f) rfl
    have cx_1 := Sx.out.cell 1 (v := .slice ax l.length cx) rfl
    have co_0 := So.out.cell 0 (v := .int .i64 F) rfl
    have co_1 := So.out.cell 1 (v := .slice ao G.length co) rfl
    have cy_0 := Sy.out.cell 0 (v := .int .i64 (F + m4)) rfl
    have cy_1 := Sy.out.cell 1 (v := .slice ay Y.length cy) rfl
    go_wp2_with fail
    generalize (w8.alloc (.cells #[.int .i64 (F + m4), .slice ay Y.length cy] 25)) = W9 at *
    clear cx_0 cx_1 co_0 co_1 cy_0 cy_1
    refine (HB.out _ Tx.out).mono ?_
    rintro e w10 ⟨vz, rfl, ho, hb⟩
    obtain ⟨az, cz, rfl, _⟩ := OwnB.sl (l := Y) ho
    obtain ⟨fz, hT⟩ := OwnB.bts (l := Y) ho
    clear ho
    have Tx := Lib.hid (show Bts w10 l (.slice ax l.length cx) fx from Tx.out.under hb)
    have To := Lib.hid (show Bts w10 G (.slice ao G.length co) fo from To.out.under hb)
    have Ty := Lib.hid (show Bts w10 Y (.slice ay Y.length cy) fy from Ty.out.under hb)
    have Sx := Lib.hid (show Str w10 (w1.heap.size) 25 #[.int .i64 f, .slice ax l.length cx] from (hb.block _ Sx.out.lt).trans Sx.out)
    have So := Lib.hid (show Str w10 (w3.heap.size) 25 #[.int .i64 F, .slice ao G.length co] from (hb.block _ So.out.lt).trans So.out)
    have Sy := Lib.hid (show Str w10 (w8.heap.size) 25 #[.int .i64 (F + m4), .slice ay Y.length cy] from (hb.block _ Sy.out.lt).trans Sy.out)
    have hsw10 := hb.size
    have Hb := Lib.hid (below_step Hb.out Hb.out.size hb)
    have Tz := Lib.hid hT
    clear hT hb
    have hal : Below w10.heap.size w10 (w10.alloc (.cells #[.int .i64 (F + m4), .slice az Y.length cz] 25)) := (Below.refl _ _).alloc (Nat.le_refl _) _
    have Tx := Lib.hid (show Bts (w10.alloc (.cells #[.int .i64 (F + m4), .slice az Y.length cz] 25)) l (.slice ax l.length cx) fx from Tx.out.under hal)
    have To := Lib.hid (show Bts (w10.alloc (.cells #[.int .i64 (F + m4), .slice az Y.length cz] 25)) G (.slice ao G.length co) fo from To.out.under hal)
    have Ty := Lib.hid (show Bts (w10.alloc (.cells #[.int .i64 (F + m4), .slice az Y.length cz] 25)) Y (.slice ay Y.length cy) fy from Ty.out.under hal)
    have Tz := Lib.hid (show Bts (w10.alloc (.cells #[.int .i64 (F + m4), .slice az Y.length cz] 25)) Y (.slice az Y.length cz) fz from Tz.out.under hal)
    have Sx := Lib.hid (show Str (w10.alloc (.cells #[.int .i64 (F + m4), .slice az Y.length cz] 25)) (w1.heap.size) 25 #[.int .i64 f, .slice ax l.length cx] from Sx.out.alloc _)
    have So := Lib.hid (show Str (w10.alloc (.cells #[.int .i64 (F + m4), .slice az Y.length cz] 25)) (w3.heap.size) 25 #[.int .i64 F, .slice ao G.length co] from So.out.alloc _)
    have Sy := Lib.hid (show Str (w10.alloc (.cells #[.int .i64 (F + m4), .slice az Y.length cz] 25)) (w8.heap.size) 25 #[.int .i64 (F + m4), .slice ay Y.length cy] from Sy.out.alloc _)
    have Sz := Lib.hid (Str.new w10 25 #[.int .i64 (F + m4), .slice az Y.length cz])
    have Hb := Lib.hid (below_step Hb.out Hb.out.size hal)
    clear hal
    have cx_0 := Sx.out.cell 0 (v := .int .i64 f) rfl
    have cx_1 := Sx.out.cell 1 (v := .slice ax l.length cx) rfl
    have co_0 := So.out.cell 0 (v := .int .i64 F) rfl
    have co_1 := So.out.cell 1 (v := .slice ao G.length co) rfl
    have cy_0 := Sy.out.cell 0 (v := .int .i64 (F + m4)) rfl
    have cy_1 := Sy.out.cell 1 (v := .slice ay Y.length cy) rfl
    have cz_0 := Sz.out.cell 0 (v := .int .i64 (F + m4)) rfl
    have cz_1 := Sz.out.cell 1 (v := .slice az Y.length cz) rfl
    go_wp2_with fail
    generalize (w10.alloc (.cells #[.int .i64 (F + m4), .slice az Y.length cz] 25)) = W11 at *
    clear cx_0 cx_1 co_0 co_1 cy_0 cy_1 cz_0 cz_1
    refine (laws_sameStore (F + m4) (F + m4) Y Y _ _ fy fz _ (by omega) (by omega) Ty.out Tz.out).mono ?_
    rintro e w12 ⟨rfl, hb⟩
    rw [decide_eq_true (show ((F + m4 : Int) = F + m4 ∧ Y = Y) from ⟨rfl, rfl⟩)]
    have Tx := Lib.hid (show Bts w12 l (.slice ax l.length cx) fx from Tx.out.under hb)
    have To := Lib.hid (show Bts w12 G (.slice ao G.length co) fo from To.out.under hb)
    have Ty := Lib.hid (show Bts w12 Y (.slice ay Y.length cy) fy from Ty.out.under hb)
    have Tz := Lib.hid (show Bts w12 Y (.slice az Y.length cz) fz from Tz.out.under hb)
    have Sx := Lib.hid (show Str w12 (w1.heap.size) 25 #[.int .i64 f, .slice ax l.length cx] from (hb.block _ Sx.out.lt).trans Sx.out)
    have So := Lib.hid (show Str w12 (w3.heap.size) 25 #[.int .i64 F, .slice ao G.length co] from (hb.block _ So.out.lt).trans So.out)
    have Sy := Lib.hid (show Str w12 (w8.heap.size) 25 #[.int .i64 (F + m4), .slice ay Y.length cy] from (hb.block _ Sy.out.lt).trans Sy.out)
    have Sz := Lib.hid (show Str w12 (w10.heap.size) 25 #[.int .i64 (F + m4), .slice az Y.length cz] from (hb.block _ Sz.out.lt).trans Sz.out)
    have hsw12 := hb.size
    have Hb := Lib.hid (below_step Hb.out Hb.out.size hb)
    clear hb
    go_wp2
    go_ret
    exact ⟨by first | rfl | exact ret_bool (by simp) | exact ret_bool (by simp; omega), Hb.out⟩
  case neg =>
    have hyv : y = 31 := by have := Hy.out; omega
    rw [hyv] at HA HB
    have hmn : min (F + m4) 31 = 31 := by omega
    have h31d : decide (31 < F + m4) = true := decide_eq_true (by omega)
    skip
    clear hyv hy1
    have cx_0 := Sx.out.cell 0 (v := .int .i64 f) rfl
    have cx_1 := Sx.out.cell 1 (v := .slice ax l.length cx) rfl
    have co_0 := So.out.cell 0 (v := .int .i64 F) rfl
    have co_1 := So.out.cell 1 (v := .slice ao G.length co) rfl
    go_wp2_with fail
    clear cx_0 cx_1 co_0 co_1
    refine (HA.out _ To.out).mono ?_
    rintro e w8 ⟨vy, rfl, ho, hb⟩
    obtain ⟨ay, cy, rfl, _⟩ := OwnB.sl (l := Y) ho
    obtain ⟨fy, hT⟩ := OwnB.bts (l := Y) ho
    clear ho
    have Tx := Lib.hid (show Bts w8 l (.slice ax l.length cx) fx from Tx.out.under hb)
    have To := Lib.hid (show Bts w8 G (.slice ao G.length co) fo from To.out.under hb)
    have Sx := Lib.hid (show Str w8 (w1.heap.size) 25 #[.int .i64 f, .slice ax l.length cx] from (hb.block _ Sx.out.lt).trans Sx.out)
    have So := Lib.hid (show Str w8 (w3.heap.size) 25 #[.int .i64 F, .slice ao G.length co] from (hb.block _ So.out.lt).trans So.out)
    have hsw8 := hb.size
    have Hb := Lib.hid (below_step Hb.out Hb.out.size hb)
    have Ty := Lib.hid hT
    clear hT hb
    have hal : Below w8.heap.size w8 (w8.alloc (.cells #[.int .i64 (31), .slice ay Y.length cy] 25)) := (Below.refl _ _).alloc (Nat.le_refl _) _
    have Tx := Lib.hid (show Bts (w8.alloc (.cells #[.int .i64 (31), .slice ay Y.length cy] 25)) l (.slice ax l.length cx) fx from Tx.out.under hal)
    have To := Lib.hid (show Bts (w8.alloc (.cells #[.int .i64 (31), .slice ay Y.length cy] 25)) G (.slice ao G.length co) fo from To.out.under hal)
    have Ty := Lib.hid (show Bts (w8.alloc (.cells #[.int .i64 (31), .slice ay Y.length cy] 25)) Y (.slice ay Y.length cy) fy from Ty.out.under hal)
    have Sx := Lib.hid (show Str (w8.alloc (.cells #[.int .i64 (31), .slice ay Y.length cy] 25)) (w1.heap.size) 25 #[.int .i64 f, .slice ax l.length cx] from Sx.out.alloc _)
    have So := Lib.hid (show Str (w8.alloc (.cells #[.int .i64 (31), .slice ay Y.length cy] 25)) (w3.heap.size) 25 #[.int .i64 F, .slice ao G.length co] from So.out.alloc _)
    have Sy := Lib.hid (Str.new w8 25 #[.int .i64 (31), .slice ay Y.length cy])
    have Hb := Lib.hid (below_step Hb.out Hb.out.size hal)
    clear hal
    have cx_0 := Sx.out.cell 0 (v := .int .i64 f) rfl
    have cx_1 := Sx.out.cell 1 (v := .slice ax l.length cx) rfl
    have co_0 := So.out.cell 0 (v := .int .i64 F) rfl
    have co_1 := So.out.cell 1 (v := .slice ao G.length co) rfl
    have cy_0 := Sy.out.cell 0 (v := .int .i64 (31)) rfl
    have cy_1 := Sy.out.cell 1 (v := .slice ay Y.length cy) rfl
    go_wp2_with fail
    generalize (w8.alloc (.cells #[.int .i64 (31), .slice ay Y.length cy] 25)) = W9 at *
    clear cx_0 cx_1 co_0 co_1 cy_0 cy_1
    refine (HB.out _ Tx.out).mono ?_
    rintro e w10 ⟨vz, rfl, ho, hb⟩
    obtain ⟨az, cz, rfl, _⟩ := OwnB.sl (l := Y) ho
    obtain ⟨fz, hT⟩ := OwnB.bts (l := Y) ho
    clear ho
    have Tx := Lib.hid (show Bts w10 l (.slice ax l.length cx) fx from Tx.out.under hb)
    have To := Lib.hid (show Bts w10 G (.slice ao G.length co) fo from To.out.under hb)
    have Ty := Lib.hid (show Bts w10 Y (.slice ay Y.length cy) fy from Ty.out.under hb)
    have Sx := Lib.hid (show Str w10 (w1.heap.size) 25 #[.int .i64 f, .slice ax l.length cx] from (hb.block _ Sx.out.lt).trans Sx.out)
    have So := Lib.hid (show Str w10 (w3.heap.size) 25 #[.int .i64 F, .slice ao G.length co] from (hb.block _ So.out.lt).trans So.out)
    have Sy := Lib.hid (show Str w10 (w8.heap.size) 25 #[.int .i64 (31), .slice ay Y.length cy] from (hb.block _ Sy.out.lt).trans Sy.out)
    have hsw10 := hb.size
    have Hb := Lib.hid (below_step Hb.out Hb.out.size hb)
    have Tz := Lib.hid hT
    clear hT hb
    have hal : Below w10.heap.size w10 (w10.alloc (.cells #[.int .i64 (31), .slice az Y.length cz] 25)) := (Below.refl _ _).alloc (Nat.le_refl _) _
    have Tx := Lib.hid (show Bts (w10.alloc (.cells #[.int .i64 (31), .slice az Y.length cz] 25)) l (.slice ax l.length cx) fx from Tx.out.under hal)
    have To := Lib.hid (show Bts (w10.alloc (.cells #[.int .i64 (31), .slice az Y.length cz] 25)) G (.slice ao G.length co) fo from To.out.under hal)
    have Ty := Lib.hid (show Bts (w10.alloc (.cells #[.int .i64 (31), .slice az Y.length cz] 25)) Y (.slice ay Y.length cy) fy from Ty.out.under hal)
    have Tz := Lib.hid (show Bts (w10.alloc (.cells #[.int .i64 (31), .slice az Y.length cz] 25)) Y (.slice az Y.length cz) fz from Tz.out.under hal)
    have Sx := Lib.hid (show Str (w10.alloc (.cells #[.int .i64 (31), .slice az Y.length cz] 25)) (w1.heap.size) 25 #[.int .i64 f, .slice ax l.length cx] from Sx.out.alloc _)
    have So := Lib.hid (show Str (w10.alloc (.cells #[.int .i64 (31), .slice az Y.length cz] 25)) (w3.heap.size) 25 #[.int .i64 F, .slice ao G.length co] from So.out.alloc _)
    have Sy := Lib.hid (show Str (w10.alloc (.cells #[.int .i64 (31), .slice az Y.length cz] 25)) (w8.heap.size) 25 #[.int .i64 (31), .slice ay Y.length cy] from Sy.out.alloc _)
    have Sz := Lib.hid (Str.new w10 25 #[.int .i64 (31), .slice az Y.length cz])
    have Hb := Lib.hid (below_step Hb.out Hb.out.size hal)
    clear hal
    have cx_0 := Sx.out.cell 0 (v := .int .i64 f) rfl
    have cx_1 := Sx.out.cell 1 (v := .slice ax l.length cx) rfl
    have co_0 := So.out.cell 0 (v := .int .i64 F) rfl
    have co_1 := So.out.cell 1 (v := .slice ao G.length co) rfl
    have cy_0 := Sy.out.cell 0 (v := .int .i64 (31)) rfl
    have cy_1 := Sy.out.cell 1 (v := .slice ay Y.length cy) rfl
    have cz_0 := Sz.out.cell 0 (v := .int .i64 (31)) rfl
    have cz_1 := Sz.out.cell 1 (v := .slice az Y.length cz) rfl
    go_wp2_with fail
    generalize (w10.alloc (.cells #[.int .i64 (31), .slice az Y.length cz] 25)) = W11 at *
    clear cx_0 cx_1 co_0 co_1 cy_0 cy_1 cz_0 cz_1
    refine (laws_sameStore (31) (31) Y Y _ _ fy fz _ (by omega) (by omega) Ty.out Tz.out).mono ?_
    rintro e w12 ⟨rfl, hb⟩
    rw [decide_eq_true (show ((31 : Int) = 31 ∧ Y = Y) from ⟨rfl, rfl⟩)]
    have Tx := Lib.hid (show Bts w12 l (.slice ax l.length cx) fx from Tx.out.under hb)
    have To := Lib.hid (show Bts w12 G (.slice ao G.length co) fo from To.out.under hb)
    have Ty := Lib.hid (show Bts w12 Y (.slice ay Y.length cy) fy from Ty.out.under hb)
    have Tz := Lib.hid (show Bts w12 Y (.slice az Y.length cz) fz from Tz.out.under hb)
    have Sx := Lib.hid (show Str w12 (w1.heap.size) 25 #[.int .i64 f, .slice ax l.length cx] from (hb.block _ Sx.out.lt).trans Sx.out)
    have So := Lib.hid (show Str w12 (w3.heap.size) 25 #[.int .i64 F, .slice ao G.length co] from (hb.block _ So.out.lt).trans So.out)
    have Sy := Lib.hid (show Str w12 (w8.heap.size) 25 #[.int .i64 (31), .slice ay Y.length cy] from (hb.block _ Sy.out.lt).trans Sy.out)
    have Sz := Lib.hid (show Str w12 (w10.heap.size) 25 #[.int .i64 (31), .slice az Y.length cz] from (hb.block _ Sz.out.lt).trans Sz.out)
    have hsw12 := hb.size
    have Hb := Lib.hid (below_step Hb.out Hb.out.size hb)
    clear hb
    go_wp2
    go_ret
    exact ⟨by first | rfl | exact ret_bool (by simp) | exact ret_bool (by simp; omega), Hb.out⟩

theorem fnStoreForgetSteps_own : ownKnob Try.prog.godebug = none := by kernel_rfl
theorem fnStoreForgetSteps_laidOut : laidOutB Try.prog = true := by kernel_rfl

set_option maxRecDepth 8000 in
theorem fnStoreForgetSteps_lifted (os : Os) (started : os.Started) (H : Type) (enc : TypeId × Value → H) :
    ReturnsInHanded {} Try.checked os 8 .any (Rows.fnStoreForgetStepsSpec.pre6 enc Try.prog Try.f8 Rows.fnStoreForgetStepsRow.domain false) (Rows.fnStoreForgetStepsSpec.post enc Try.prog Try.f8 false true false false) := by
  refine law_lifted (C := Try.checked) (tb := 4) fnStoreForgetSteps_own fnStoreForgetSteps_laidOut started (by kernel_rfl) Try.func8 rfl Try.underlying4 rfl (by rw [Try.params8]; exact of_decide_eq_true (by kernel_rfl)) ?_
    (ChangeSpec.witness6 (enc := enc) (C := Try.checked) false ⟨#[], #[.slice none 0 0, .slice none 0 0], []⟩ 8 (by kernel_rfl) (by kernel_rfl) (by kernel_rfl) (by kernel_rfl)) ?_
  · intro ds hds
    rw [Try.params8] at hds
    match ds, hds with
    | [d0, d1], _ => rfl
  · intro W base args ds p hval0 hA0
    have hval : ∀ (j : Nat) t v, Try.f8.params[j]? = some t → args[j]? = some v → Value.okWide Try.prog W .any base t v := hval0
    have hA : DataW.TrodAll enc Try.prog W 0 (fun _ => true) true Try.f8.params.toList args.toList ds p := hA0
    rw [Try.params8] at hA hval
    obtain ⟨v0, vs0, d0, ds0, p0, q0, hargs0, rfl, rfl, h0, r0⟩ := trodAll_cons hA
    obtain ⟨v1, vs1, d1, ds1, p1, q1, hargs1, rfl, rfl, h1, r1⟩ := trodAll_cons r0
    obtain ⟨hnil, rfl, rfl⟩ := trodAll_nil r1
    subst hnil
    subst hargs1
    obtain rfl : args = #[v0, v1] := by cases args; simp_all
    obtain ⟨a0, cap0, zs0, rfl, hk0, hm0, hi0, hw0⟩ := open_slice_ints Try.underlying22 Try.underlying5 (by kernel_rfl) (hval 0 22 v0 rfl rfl) h0
    obtain ⟨a1, cap1, zs1, rfl, hk1, hm1, hi1, hw1⟩ := open_slice_ints Try.underlying22 Try.underlying5 (by kernel_rfl) (hval 1 22 v1 rfl rfl) h1
    exact fnStoreForgetSteps_walk a0 cap0 zs0 a1 cap1 zs1 W hk0 hm0 hi0 hw0 hk1 hm1 hi1 hw1

set_option maxRecDepth 8000 in
theorem fnStoreForgetSteps_holds : Rows.FnStoreForgetStepsSaid :=
  OpenClaim.holds_of_wide 8 Try.f8 rfl rfl rfl rfl rfl rfl rfl ⟨rfl, rfl, rfl, rfl, rfl⟩ rfl rfl rfl rfl rfl (by kernel_rfl) Try.func8 (by kernel_rfl)
    (of_decide_eq_true (by kernel_rfl)) (by unfold Func.isWrapper; first | (rw [if_pos (by decide +kernel)]; kernel_rfl) | (rw [if_neg (by decide +kernel)]; exact ⟨rfl, rfl⟩))
    (fun os started H enc _ => fnStoreForgetSteps_lifted os started H enc)

end Go.Proofs.Ythojbcecbeapgaa
