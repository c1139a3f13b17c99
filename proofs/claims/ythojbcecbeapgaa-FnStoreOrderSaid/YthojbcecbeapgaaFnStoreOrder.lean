/- Law FnStoreOrder holds for every input; no conditions of our own. -/
import Derived.Test.YthojbcecbeapgaaRows
import Derived.Test.YthojbcecbeapgaaBu0
import Derived.Test.YthojbcecbeapgaaBu1
import Derived.Test.YthojbcecbeapgaaBu2
import Derived.Test.YthojbcecbeapgaaBu3
import Derived.Test.YthojbcecbeapgaaBu4
import Derived.Deep.QuietTactic
import Derived.BigQuiet
namespace Go.Proofs.Ythojbcecbeapgaa
open Go.ChangeShapes Go.WideShapes Go.ChangeAt Go.RowKit

set_option maxHeartbeats 4000000 in
theorem fnStoreOrder_walk (a : Option Addr) (cap : Nat) (zs : List Int) (a' : Option Addr) (cap' : Nat) (ms : List Int) (w : World) (hk : zs.length ≤ cap) (_hm : zs.length ≤ maxLen) (hi : zs = [] ∨ ∃ b off, a = some ⟨b, off, none⟩ ∧ b < w.heap.size ∧ ∀ j (h : j < zs.length), w.cell? ⟨b, off + j, none⟩ = some (.int .u8 zs[j])) (hw : ∀ z ∈ zs, (Lit.int .u8 z).wf = true)
    (_hk' : ms.length ≤ cap') (hm' : ms.length ≤ maxLen) (_hi' : ms = [] ∨ ∃ b off, a' = some ⟨b, off, none⟩ ∧ b < w.heap.size ∧ ∀ j (h : j < ms.length), w.cell? ⟨b, off + j, none⟩ = some (.int .u8 ms[j])) (_hw' : ∀ z ∈ ms, (Lit.int .u8 z).wf = true) :
    Calls Try.prog 9 #[.slice a zs.length cap, .slice a' ms.length cap'] w fun e w' => e = .returned (.bool true) ∧ Below w.heap.size w w' := by
  unfold maxLen at hm'
  by_cases hl : 1048576 < zs.length
  · go_enter Try.func9, Try.ntmps9
    go_wp2
    go_ret
    exact ⟨rfl, Below.refl _ _⟩
  by_cases hl' : 1048576 < ms.length
  · go_enter Try.func9, Try.ntmps9
    go_wp2
    go_ret
    exact ⟨rfl, Below.refl _ _⟩
  have hcode := codeAt_of hk (by omega) hi hw
  have Hcode := Lib.hid hcode; clear hcode hi hw
  have hcode' := codeAt_of _hk' (by omega) _hi' _hw'
  have Hcode' := Lib.hid hcode'; clear hcode'
  go_enter Try.func9, Try.ntmps9
  go_wp2_with fail
  refine (spec_DrawStorePut a cap zs _ Hcode.out).mono ?_
  rintro e w1 ⟨f, l, ux, ⟨bd, ba, br, bs⟩, rfl, ho, hl13, hb1⟩
  unfold agB
  dsimp only at *
  obtain ⟨ax, cx, rfl, _⟩ := OwnB.sl (l := l) ho
  obtain ⟨fx, hx⟩ := OwnB.bts (l := l) ho
  have Tx := Lib.hid hx
  have Hb := Lib.hid hb1
  clear ho hx hb1
  have hal : Below w1.heap.size w1 (w1.alloc (.cells #[.int .i64 f, .slice ax l.length cx] 25)) := (Below.refl _ _).alloc (Nat.le_refl _) _
  have Tx := Lib.hid (show Bts (w1.alloc (.cells #[.int .i64 f, .slice ax l.length cx] 25)) l (.slice ax l.length cx) fx from Tx.out.under hal)
  have Sx := Lib.hid (Str.new w1 25 #[.int .i64 f, .slice ax l.length cx])
  have Hb := Lib.hid (below_step Hb.out Hb.out.size hal)
  clear hal
  have hal : Below (w1.alloc (.cells #[.int .i64 f, .slice ax l.length cx] 25)).heap.size (w1.alloc (.cells #[.int .i64 f, .slice ax l.length cx] 25)) ((w1.alloc (.cells #[.int .i64 f, .slice ax l.length cx] 25)).alloc (.cells #[.int .i64 bd, .int .i64 ba, .int .i64 br, .int .i64 bs] 27)) := (Below.refl _ _).alloc (Nat.le_refl _) _
  have Tx := Lib.hid (show Bts ((w1.alloc (.cells #[.int .i64 f, .slice ax l.length cx] 25)).alloc (.cells #[.int .i64 bd, .int .i64 ba, .int .i64 br, .int .i64 bs] 27)) l (.slice ax l.length cx) fx from Tx.out.under hal)
  have Sx := Lib.hid (show Str ((w1.alloc (.cells #[.int .i64 f, .slice ax l.length cx] 25)).alloc (.cells #[.int .i64 bd, .int .i64 ba, .int .i64 br, .int .i64 bs] 27)) (w1.heap.size) 25 #[.int .i64 f, .slice ax l.length cx] from Sx.out.alloc _)
  have Sb := Lib.hid (Str.new (w1.alloc (.cells #[.int .i64 f, .slice ax l.length cx] 25)) 27 #[.int .i64 bd, .int .i64 ba, .int .i64 br, .int .i64 bs])
  have Hb := Lib.hid (below_step Hb.out Hb.out.size hal)
  clear hal
  have Sb := Lib.hid (show Str ((w1.alloc (.cells #[.int .i64 f, .slice ax l.length cx] 25)).alloc (.cells #[.int .i64 bd, .int .i64 ba, .int .i64 br, .int .i64 bs] 27)) (w1.heap.size + 1) 27 #[.int .i64 bd, .int .i64 ba, .int .i64 br, .int .i64 bs] by have h9 := Sb.out; simp only [World.size_alloc] at h9; exact h9)
  obtain ⟨C, hC⟩ : ∃ C, C = puC f l ⟨bd, ba, br, bs⟩ := ⟨_, rfl⟩
  obtain ⟨G, hG⟩ : ∃ G, G = puL f l ⟨bd, ba, br, bs⟩ := ⟨_, rfl⟩
  obtain ⟨F, hF⟩ : ∃ F, F = puF f l ⟨bd, ba, br, bs⟩ := ⟨_, rfl⟩
  have hGl := puL_len f l ⟨bd, ba, br, bs⟩
  rw [← hG] at hGl
  have HI := Lib.hid (fun W (h : Bts W l (.slice ax l.length cx) fx) => impl_StorePut f l _ fx ⟨bd, ba, br, bs⟩ W (by omega) h)
  have HS := Lib.hid (fun W (h : Bts W l (.slice ax l.length cx) fx) => spec_StorePut f l _ fx bd ba br bs W (by omega) h)
  unfold PuP agB at HI
  unfold SqP agB at HS
  rw [← hC, ← hG, ← hF] at HI HS
  have HC := Lib.hid hC; have HG := Lib.hid hG; have HF := Lib.hid hF
  clear hC hG hF
  have cx_0 := Sx.out.cell 0 (v := .int .i64 f) rfl
  have cx_1 := Sx.out.cell 1 (v := .slice ax l.length cx) rfl
  have cb_0 := Sb.out.cell 0 (v := .int .i64 bd) rfl
  have cb_1 := Sb.out.cell 1 (v := .int .i64 ba) rfl
  have cb_2 := Sb.out.cell 2 (v := .int .i64 br) rfl
  have cb_3 := Sb.out.cell 3 (v := .int .i64 bs) rfl
  go_wp2_with fail
  generalize ((w1.alloc (.cells #[.int .i64 f, .slice ax l.length cx] 25)).alloc (.cells #[.int .i64 bd, .int .i64 ba, .int .i64 br, .int .i64 bs] 27)) = W2 at *
  clear cx_0 cx_1 cb_0 cb_1 cb_2 cb_3
  refine (HI.out _ Tx.out).mono ?_
  rintro e w3 ⟨vo, rfl, ho, hb⟩
  obtain ⟨ao, co, rfl, _⟩ := OwnB.sl (l := G) ho
  obtain ⟨fo, hT⟩ := OwnB.bts (l := G) ho
  clear ho
  have Tx := Lib.hid (show Bts w3 l (.slice ax l.length cx) fx from Tx.out.under hb)
  have Sx := Lib.hid (show Str w3 (w1.heap.size) 25 #[.int .i64 f, .slice ax l.length cx] from (hb.block _ Sx.out.lt).trans Sx.out)
  have Sb := Lib.hid (show Str w3 (w1.heap.size + 1) 27 #[.int .i64 bd, .int .i64 ba, .int .i64 br, .int .i64 bs] from (hb.block _ Sb.out.lt).trans Sb.out)
  have hsw3 := hb.size
  have Hb := Lib.hid (below_step Hb.out Hb.out.size hb)
  have To := Lib.hid hT
  clear hT hb
  have hal : Below w3.heap.size w3 (w3.alloc (.cells #[.int .i64 F, .slice ao G.length co] 25)) := (Below.refl _ _).alloc (Nat.le_refl _) _
  have Tx := Lib.hid (show Bts (w3.alloc (.cells #[.int .i64 F, .slice ao G.length co] 25)) l (.slice ax l.length cx) fx from Tx.out.under hal)
  have To := Lib.hid (show Bts (w3.alloc (.cells #[.int .i64 F, .slice ao G.length co] 25)) G (.slice ao G.length co) fo from To.out.under hal)
  have Sx := Lib.hid (show Str (w3.alloc (.cells #[.int .i64 F, .slice ao G.length co] 25)) (w1.heap.size) 25 #[.int .i64 f, .slice ax l.length cx] from Sx.out.alloc _)
  have Sb := Lib.hid (show Str (w3.alloc (.cells #[.int .i64 F, .slice ao G.length co] 25)) (w1.heap.size + 1) 27 #[.int .i64 bd, .int .i64 ba, .int .i64 br, .int .i64 bs] from Sb.out.alloc _)
  have So := Lib.hid (Str.new w3 25 #[.int .i64 F, .slice ao G.length co])
  have Hb := Lib.hid (below_step Hb.out Hb.out.size hal)
  clear hal
  have cx_0 := Sx.out.cell 0 (v := .int .i64 f) rfl
  have cx_1 := Sx.out.cell 1 (v := .slice ax l.length cx) rfl
  have cb_0 := Sb.out.cell 0 (v := .int .i64 bd) rfl
  have cb_1 := Sb.out.cell 1 (v := .int .i64 ba) rfl
  have cb_2 := Sb.out.cell 2 (v := .int .i64 br) rfl
  have cb_3 := Sb.out.cell 3 (v := .int .i64 bs) rfl
  have co_0 := So.out.cell 0 (v := .int .i64 F) rfl
  have co_1 := So.out.cell 1 (v := .slice ao G.length co) rfl
  go_wp2_with fail
  generalize (w3.alloc (.cells #[.int .i64 F, .slice ao G.length co] 25)) = W4 at *
  clear cx_0 cx_1 cb_0 cb_1 cb_2 cb_3 co_0 co_1
  refine (HS.out _ Tx.out).mono ?_
  rintro e w5 ⟨vk, rfl, ho, hb⟩
  obtain ⟨ak, ck, rfl, _⟩ := OwnB.sl (l := G) ho
  obtain ⟨fk, hT⟩ := OwnB.bts (l := G) ho
  clear ho
  have Tx := Lib.hid (show Bts w5 l (.slice ax l.length cx) fx from Tx.out.under hb)
  have To := Lib.hid (show Bts w5 G (.slice ao G.length co) fo from To.out.under hb)
  have Sx := Lib.hid (show Str w5 (w1.heap.size) 25 #[.int .i64 f, .slice ax l.length cx] from (hb.block _ Sx.out.lt).trans Sx.out)
  have Sb := Lib.hid (show Str w5 (w1.heap.size + 1) 27 #[.int .i64 bd, .int .i64 ba, .int .i64 br, .int .i64 bs] from (hb.block _ Sb.out.lt).trans Sb.out)
  have So := Lib.hid (show Str w5 (w3.heap.size) 25 #[.int .i64 F, .slice ao G.length co] from (hb.block _ So.out.lt).trans So.out)
  have hsw5 := hb.size
  have Hb := Lib.hid (below_step Hb.out Hb.out.size hb)
  have Tk := Lib.hid hT
  clear hT hb
  have hal : Below w5.heap.size w5 (w5.alloc (.cells #[.int .i64 F, .slice ak G.length ck] 25)) := (Below.refl _ _).alloc (Nat.le_refl _) _
  have Tx := Lib.hid (show Bts (w5.alloc (.cells #[.int .i64 F, .slice ak G.length ck] 25)) l (.slice ax l.length cx) fx from Tx.out.under hal)
  have To := Lib.hid (show Bts (w5.alloc (.cells #[.int .i64 F, .slice ak G.length ck] 25)) G (.slice ao G.length co) fo from To.out.under hal)
  have Tk := Lib.hid (show Bts (w5.alloc (.cells #[.int .i64 F, .slice ak G.length ck] 25)) G (.slice ak G.length ck) fk from Tk.out.under hal)
  have Sx := Lib.hid (show Str (w5.alloc (.cells #[.int .i64 F, .slice ak G.length ck] 25)) (w1.heap.size) 25 #[.int .i64 f, .slice ax l.length cx] from Sx.out.alloc _)
  have Sb := Lib.hid (show Str (w5.alloc (.cells #[.int .i64 F, .slice ak G.length ck] 25)) (w1.heap.size + 1) 27 #[.int .i64 bd, .int .i64 ba, .int .i64 br, .int .i64 bs] from Sb.out.alloc _)
  have So := Lib.hid (show Str (w5.alloc (.cells #[.int .i64 F, .slice ak G.length ck] 25)) (w3.heap.size) 25 #[.int .i64 F, .slice ao G.length co] from So.out.alloc _)
  have Sk := Lib.hid (Str.new w5 25 #[.int .i64 F, .slice ak G.length ck])
  have Hb := Lib.hid (below_step Hb.out Hb.out.size hal)
  clear hal
  clear HI HS
  have cx_0 := Sx.out.cell 0 (v := .int .i64 f) rfl
  have cx_1 := Sx.out.cell 1 (v := .slice ax l.length cx) rfl
  have cb_0 := Sb.out.cell 0 (v := .int .i64 bd) rfl
  have cb_1 := Sb.out.cell 1 (v := .int .i64 ba) rfl
  have cb_2 := Sb.out.cell 2 (v := .int .i64 br) rfl
  have cb_3 := Sb.out.cell 3 (v := .int .i64 bs) rfl
  have co_0 := So.out.cell 0 (v := .int .i64 F) rfl
  have co_1 := So.out.cell 1 (v := .slice ao G.length co) rfl
  have ck_0 := Sk.out.cell 0 (v := .int .i64 F) rfl
  have ck_1 := Sk.out.cell 1 (v := .slice ak G.length ck) rfl
  go_wp2_with fail
  generalize (w5.alloc (.cells #[.int .i64 F, .slice ak G.length ck] 25)) = W6 at *
  clear cx_0 cx_1 cb_0 cb_1 cb_2 cb_3 co_0 co_1 ck_0 ck_1
  refine (laws_sameStore F F G G _ _ fo fk _ (by omega) (by omega) To.out Tk.out).mono ?_
  rintro e w7 ⟨rfl, hb⟩
  rw [decide_eq_true (show F = F ∧ G = G from ⟨rfl, rfl⟩)]
  have Tx := Lib.hid (show Bts w7 l (.slice ax l.length cx) fx from Tx.out.under hb)
  have To := Lib.hid (show Bts w7 G (.slice ao G.length co) fo from To.out.under hb)
  have Tk := Lib.hid (show Bts w7 G (.slice ak G.length ck) fk from Tk.out.under hb)
  have Sx := Lib.hid (show Str w7 (w1.heap.size) 25 #[.int .i64 f, .slice ax l.length cx] from (hb.block _ Sx.out.lt).trans Sx.out)
  have Sb := Lib.hid (show Str w7 (w1.heap.size + 1) 27 #[.int .i64 bd, .int .i64 ba, .int .i64 br, .int .i64 bs] from (hb.block _ Sb.out.lt).trans Sb.out)
  have So := Lib.hid (show Str w7 (w3.heap.size) 25 #[.int .i64 F, .slice ao G.length co] from (hb.block _ So.out.lt).trans So.out)
  have Sk := Lib.hid (show Str w7 (w5.heap.size) 25 #[.int .i64 F, .slice ak G.length ck] from (hb.block _ Sk.out.lt).trans Sk.out)
  have hsw7 := hb.size
  have Hb := Lib.hid (below_step Hb.out Hb.out.size hb)
  clear hb
  by_cases h0 : C = 0
  case neg =>
    have h0' : (C == 0) = false := by rw [beq_eq_false_iff_ne]; exact h0
    have h0n : (C != 0) = true := by rw [bne, h0']; rfl
    clear h0
    have cx_0 := Sx.out.cell 0 (v := .int .i64 f) rfl
    have cx_1 := Sx.out.cell 1 (v := .slice ax l.length cx) rfl
    have cb_0 := Sb.out.cell 0 (v := .int .i64 bd) rfl
    have cb_1 := Sb.out.cell 1 (v := .int .i64 ba) rfl
    have cb_2 := Sb.out.cell 2 (v := .int .i64 br) rfl
    have cb_3 := Sb.out.cell 3 (v := .int .i64 bs) rfl
    have co_0 := So.out.cell 0 (v := .int .i64 F) rfl
    have co_1 := So.out.cell 1 (v := .slice ao G.length co) rfl
    have ck_0 := Sk.out.cell 0 (v := .int .i64 F) rfl
    have ck_1 := Sk.out.cell 1 (v := .slice ak G.length ck) rfl
    go_wp2_with fail
    clear cx_0 cx_1 cb_0 cb_1 cb_2 cb_3 co_0 co_1 ck_0 ck_1
    refine (laws_sameStore F F G G _ _ fo fk _ (by omega) (by omega) To.out Tk.out).mono ?_
    rintro e w8 ⟨rfl, hb⟩
    rw [decide_eq_true (show F = F ∧ G = G from ⟨rfl, rfl⟩)]
    have Tx := Lib.hid (show Bts w8 l (.slice ax l.length cx) fx from Tx.out.under hb)
    have To := Lib.hid (show Bts w8 G (.slice ao G.length co) fo from To.out.under hb)
    have Tk := Lib.hid (show Bts w8 G (.slice ak G.length ck) fk from Tk.out.under hb)
    have Sx := Lib.hid (show Str w8 (w1.heap.size) 25 #[.int .i64 f, .slice ax l.length cx] from (hb.block _ Sx.out.lt).trans Sx.out)
    have Sb := Lib.hid (show Str w8 (w1.heap.size + 1) 27 #[.int .i64 bd, .int .i64 ba, .int .i64 br, .int .i64 bs] from (hb.block _ Sb.out.lt).trans Sb.out)
    have So := Lib.hid (show Str w8 (w3.heap.size) 25 #[.int .i64 F, .slice ao G.length co] from (hb.block _ So.out.lt).trans So.out)
    have Sk := Lib.hid (show Str w8 (w5.heap.size) 25 #[.int .i64 F, .slice ak G.length ck] from (hb.block _ Sk.out.lt).trans Sk.out)
    have hsw8 := hb.size
    have Hb := Lib.hid (below_step Hb.out Hb.out.size hb)
    clear hb
    go_wp2
    go_ret
    exact ⟨by first | rfl | exact ret_bool (by simp) | exact ret_bool (by simp; omega), Hb.out⟩
  have h0' : (C == 0) = true := by rw [beq_iff_eq]; exact h0
  have h0n : (C != 0) = false := by rw [bne, h0']; rfl
  clear Tk
  clear Sk
  have Hz := Lib.hid (show puC f l ⟨bd, ba, br, bs⟩ = 0 ∧ G = inS l ⟨bd, ba, br, bs⟩ ∧ F = f from ⟨by rw [← HC.out]; exact h0, by rw [HG.out]; exact (puL_zero (by rw [← HC.out]; exact h0)).1, by rw [HF.out]; exact (puL_zero (by rw [← HC.out]; exact h0)).2⟩)
  have hFf : f = F := Hz.out.2.2.symm
  subst hFf
  clear h0
  have cx_0 := Sx.out.cell 0 (v := .int .i64 f) rfl
  have cx_1 := Sx.out.cell 1 (v := .slice ax l.length cx) rfl
  have cb_0 := Sb.out.cell 0 (v := .int .i64 bd) rfl
  have cb_1 := Sb.out.cell 1 (v := .int .i64 ba) rfl
  have cb_2 := Sb.out.cell 2 (v := .int .i64 br) rfl
  have cb_3 := Sb.out.cell 3 (v := .int .i64 bs) rfl
  have co_0 := So.out.cell 0 (v := .int .i64 f) rfl
  have co_1 := So.out.cell 1 (v := .slice ao G.length co) rfl
  go_wp2_with fail
  clear cx_0 cx_1 cb_0 cb_1 cb_2 cb_3 co_0 co_1
  refine (spec_DrawStorePut a' cap' ms _ (Hcode'.out.below Hb.out)).mono ?_
  rintro e w8 ⟨f2, l2, u2, ⟨ud, ua, ur, us⟩, rfl, ho2, _, hb⟩
  unfold agB
  dsimp only at *
  obtain ⟨a2, c2, rfl, _⟩ := OwnB.sl (l := l2) ho2
  clear ho2
  have Tx := Lib.hid (show Bts w8 l (.slice ax l.length cx) fx from Tx.out.under hb)
  have To := Lib.hid (show Bts w8 G (.slice ao G.length co) fo from To.out.under hb)
  have Sx := Lib.hid (show Str w8 (w1.heap.size) 25 #[.int .i64 f, .slice ax l.length cx] from (hb.block _ Sx.out.lt).trans Sx.out)
  have Sb := Lib.hid (show Str w8 (w1.heap.size + 1) 27 #[.int .i64 bd, .int .i64 ba, .int .i64 br, .int .i64 bs] from (hb.block _ Sb.out.lt).trans Sb.out)
  have So := Lib.hid (show Str w8 (w3.heap.size) 25 #[.int .i64 f, .slice ao G.length co] from (hb.block _ So.out.lt).trans So.out)
  have hsw8 := hb.size
  have Hb := Lib.hid (below_step Hb.out Hb.out.size hb)
  clear hb
  have hal : Below w8.heap.size w8 (w8.alloc (.cells #[.int .i64 f2, .slice a2 l2.length c2] 25)) := (Below.refl _ _).alloc (Nat.le_refl _) _
  have Tx := Lib.hid (show Bts (w8.alloc (.cells #[.int .i64 f2, .slice a2 l2.length c2] 25)) l (.slice ax l.length cx) fx from Tx.out.under hal)
  have To := Lib.hid (show Bts (w8.alloc (.cells #[.int .i64 f2, .slice a2 l2.length c2] 25)) G (.slice ao G.length co) fo from To.out.under hal)
  have Sx := Lib.hid (show Str (w8.alloc (.cells #[.int .i64 f2, .slice a2 l2.length c2] 25)) (w1.heap.size) 25 #[.int .i64 f, .slice ax l.length cx] from Sx.out.alloc _)
  have Sb := Lib.hid (show Str (w8.alloc (.cells #[.int .i64 f2, .slice a2 l2.length c2] 25)) (w1.heap.size + 1) 27 #[.int .i64 bd, .int .i64 ba, .int .i64 br, .int .i64 bs] from Sb.out.alloc _)
  have So := Lib.hid (show Str (w8.alloc (.cells #[.int .i64 f2, .slice a2 l2.length c2] 25)) (w3.heap.size) 25 #[.int .i64 f, .slice ao G.length co] from So.out.alloc _)
  have Sj := Lib.hid (Str.new w8 25 #[.int .i64 f2, .slice a2 l2.length c2])
  have Hb := Lib.hid (below_step Hb.out Hb.out.size hal)
  clear hal
  have hal : Below (w8.alloc (.cells #[.int .i64 f2, .slice a2 l2.length c2] 25)).heap.size (w8.alloc (.cells #[.int .i64 f2, .slice a2 l2.length c2] 25)) ((w8.alloc (.cells #[.int .i64 f2, .slice a2 l2.length c2] 25)).alloc (.cells #[.int .i64 ud, .int .i64 ua, .int .i64 ur, .int .i64 us] 27)) := (Below.refl _ _).alloc (Nat.le_refl _) _
  have Tx := Lib.hid (show Bts ((w8.alloc (.cells #[.int .i64 f2, .slice a2 l2.length c2] 25)).alloc (.cells #[.int .i64 ud, .int .i64 ua, .int .i64 ur, .int .i64 us] 27)) l (.slice ax l.length cx) fx from Tx.out.under hal)
  have To := Lib.hid (show Bts ((w8.alloc (.cells #[.int .i64 f2, .slice a2 l2.length c2] 25)).alloc (.cells #[.int .i64 ud, .int .i64 ua, .int .i64 ur, .int .i64 us] 27)) G (.slice ao G.length co) fo from To.out.under hal)
  have Sx := Lib.hid (show Str ((w8.alloc (.cells #[.int .i64 f2, .slice a2 l2.length c2] 25)).alloc (.cells #[.int .i64 ud, .int .i64 ua, .int .i64 ur, .int .i64 us] 27)) (w1.heap.size) 25 #[.int .i64 f, .slice ax l.length cx] from Sx.out.alloc _)
  have Sb := Lib.hid (show Str ((w8.alloc (.cells #[.int .i64 f2, .slice a2 l2.length c2] 25)).alloc (.cells #[.int .i64 ud, .int .i64 ua, .int .i64 ur, .int .i64 us] 27)) (w1.heap.size + 1) 27 #[.int .i64 bd, .int .i64 ba, .int .i64 br, .int .i64 bs] from Sb.out.alloc _)
  have So := Lib.hid (show Str ((w8.alloc (.cells #[.int .i64 f2, .slice a2 l2.length c2] 25)).alloc (.cells #[.int .i64 ud, .int .i64 ua, .int .i64 ur, .int .i64 us] 27)) (w3.heap.size) 25 #[.int .i64 f, .slice ao G.length co] from So.out.alloc _)
  have Sj := Lib.hid (show Str ((w8.alloc (.cells #[.int .i64 f2, .slice a2 l2.length c2] 25)).alloc (.cells #[.int .i64 ud, .int .i64 ua, .int .i64 ur, .int .i64 us] 27)) (w8.heap.size) 25 #[.int .i64 f2, .slice a2 l2.length c2] from Sj.out.alloc _)
  have Su := Lib.hid (Str.new (w8.alloc (.cells #[.int .i64 f2, .slice a2 l2.length c2] 25)) 27 #[.int .i64 ud, .int .i64 ua, .int .i64 ur, .int .i64 us])
  have Hb := Lib.hid (below_step Hb.out Hb.out.size hal)
  clear hal
  have Su := Lib.hid (show Str ((w8.alloc (.cells #[.int .i64 f2, .slice a2 l2.length c2] 25)).alloc (.cells #[.int .i64 ud, .int .i64 ua, .int .i64 ur, .int .i64 us] 27)) (w8.heap.size + 1) 27 #[.int .i64 ud, .int .i64 ua, .int .i64 ur, .int .i64 us] by have h9 := Su.out; simp only [World.size_alloc] at h9; exact h9)
  obtain ⟨C2, hC2⟩ : ∃ C2, C2 = puC f G ⟨ud, ua, ur, us⟩ := ⟨_, rfl⟩
  obtain ⟨G2, hG2⟩ : ∃ G2, G2 = puL f G ⟨ud, ua, ur, us⟩ := ⟨_, rfl⟩
  obtain ⟨F2, hF2⟩ : ∃ F2, F2 = puF f G ⟨ud, ua, ur, us⟩ := ⟨_, rfl⟩
  have hG2l := puL_len f G ⟨ud, ua, ur, us⟩
  rw [← hG2] at hG2l
  have HI2 := Lib.hid (fun W (h : Bts W G (.slice ao G.length co) fo) => impl_StorePut f G _ fo ⟨ud, ua, ur, us⟩ W (by omega) h)
  unfold PuP agB at HI2
  rw [← hC2, ← hG2, ← hF2] at HI2
  have HC2 := Lib.hid hC2; have HG2 := Lib.hid hG2; have HF2 := Lib.hid hF2
  clear hC2 hG2 hF2
  have cx_0 := Sx.out.cell 0 (v := .int .i64 f) rfl
  have cx_1 := Sx.out.cell 1 (v := .slice ax l.length cx) rfl
  have cb_0 := Sb.out.cell 0 (v := .int .i64 bd) rfl
  have cb_1 := Sb.out.cell 1 (v := .int .i64 ba) rfl
  have cb_2 := Sb.out.cell 2 (v := .int .i64 br) rfl
  have cb_3 := Sb.out.cell 3 (v := .int .i64 bs) rfl
  have co_0 := So.out.cell 0 (v := .int .i64 f) rfl
  have co_1 := So.out.cell 1 (v := .slice ao G.length co) rfl
  have cj_0 := Sj.out.cell 0 (v := .int .i64 f2) rfl
  have cj_1 := Sj.out.cell 1 (v := .slice a2 l2.length c2) rfl
  have cu_0 := Su.out.cell 0 (v := .int .i64 ud) rfl
  have cu_1 := Su.out.cell 1 (v := .int .i64 ua) rfl
  have cu_2 := Su.out.cell 2 (v := .int .i64 ur) rfl
  have cu_3 := Su.out.cell 3 (v := .int .i64 us) rfl
  go_wp2_with fail
  generalize ((w8.alloc (.cells #[.int .i64 f2, .slice a2 l2.length c2] 25)).alloc (.cells #[.int .i64 ud, .int .i64 ua, .int .i64 ur, .int .i64 us] 27)) = W9 at *
  clear cx_0 cx_1 cb_0 cb_1 cb_2 cb_3 co_0 co_1 cj_0 cj_1 cu_0 cu_1 cu_2 cu_3
  refine (HI2.out _ To.out).mono ?_
  rintro e w10 ⟨vy, rfl, ho, hb⟩
  obtain ⟨ay, cy, rfl, _⟩ := OwnB.sl (l := G2) ho
  obtain ⟨fy, hT⟩ := OwnB.bts (l := G2) ho
  clear ho
  have Tx := Lib.hid (show Bts w10 l (.slice ax l.length cx) fx from Tx.out.under hb)
  have To := Lib.hid (show Bts w10 G (.slice ao G.length co) fo from To.out.under hb)
  have Sx := Lib.hid (show Str w10 (w1.heap.size) 25 #[.int .i64 f, .slice ax l.length cx] from (hb.block _ Sx.out.lt).trans Sx.out)
  have Sb := Lib.hid (show Str w10 (w1.heap.size + 1) 27 #[.int .i64 bd, .int .i64 ba, .int .i64 br, .int .i64 bs] from (hb.block _ Sb.out.lt).trans Sb.out)
  have So := Lib.hid (show Str w10 (w3.heap.size) 25 #[.int .i64 f, .slice ao G.length co] from (hb.block _ So.out.lt).trans So.out)
  have Sj := Lib.hid (show Str w10 (w8.heap.size) 25 #[.int .i64 f2, .slice a2 l2.length c2] from (hb.block _ Sj.out.lt).trans Sj.out)
  have Su := Lib.hid (show Str w10 (w8.heap.size + 1) 27 #[.int .i64 ud, .int .i64 ua, .int .i64 ur, .int .i64 us] from (hb.block _ Su.out.lt).trans Su.out)
  have hsw10 := hb.size
  have Hb := Lib.hid (below_step Hb.out Hb.out.size hb)
  have Ty := Lib.hid hT
  clear hT hb
  have hal : Below w10.heap.size w10 (w10.alloc (.cells #[.int .i64 F2, .slice ay G2.length cy] 25)) := (Below.refl _ _).alloc (Nat.le_refl _) _
  have Tx := Lib.hid (show Bts (w10.alloc (.cells #[.int .i64 F2, .slice ay G2.length cy] 25)) l (.slice ax l.length cx) fx from Tx.out.under hal)
  have To := Lib.hid (show Bts (w10.alloc (.cells #[.int .i64 F2, .slice ay G2.length cy] 25)) G (.slice ao G.length co) fo from To.out.under hal)
  have Ty := Lib.hid (show Bts (w10.alloc (.cells #[.int .i64 F2, .slice ay G2.length cy] 25)) G2 (.slice ay G2.length cy) fy from Ty.out.under hal)
  have Sx := Lib.hid (show Str (w10.alloc (.cells #[.int .i64 F2, .slice ay G2.length cy] 25)) (w1.heap.size) 25 #[.int .i64 f, .slice ax l.length cx] from Sx.out.alloc _)
  have Sb := Lib.hid (show Str (w10.alloc (.cells #[.int .i64 F2, .slice ay G2.length cy] 25)) (w1.heap.size + 1) 27 #[.int .i64 bd, .int .i64 ba, .int .i64 br, .int .i64 bs] from Sb.out.alloc _)
  have So := Lib.hid (show Str (w10.alloc (.cells #[.int .i64 F2, .slice ay G2.length cy] 25)) (w3.heap.size) 25 #[.int .i64 f, .slice ao G.length co] from So.out.alloc _)
  have Sj := Lib.hid (show Str (w10.alloc (.cells #[.int .i64 F2, .slice ay G2.length cy] 25)) (w8.heap.size) 25 #[.int .i64 f2, .slice a2 l2.length c2] from Sj.out.alloc _)
  have Su := Lib.hid (show Str (w10.alloc (.cells #[.int .i64 F2, .slice ay G2.length cy] 25)) (w8.heap.size + 1) 27 #[.int .i64 ud, .int .i64 ua, .int .i64 ur, .int .i64 us] from Su.out.alloc _)
  have Sy := Lib.hid (Str.new w10 25 #[.int .i64 F2, .slice ay G2.length cy])
  have Hb := Lib.hid (below_step Hb.out Hb.out.size hal)
  clear hal
  by_cases h2 : C2 = 0
  case neg =>
    have h2' : (C2 == 0) = false := by rw [beq_eq_false_iff_ne]; exact h2
    have h2n : (C2 != 0) = true := by rw [bne, h2']; rfl
    clear h2
    have cx_0 := Sx.out.cell 0 (v := .int .i64 f) rfl
    have cx_1 := Sx.out.cell 1 (v := .slice ax l.length cx) rfl
    have cb_0 := Sb.out.cell 0 (v := .int .i64 bd) rfl
    have cb_1 := Sb.out.cell 1 (v := .int .i64 ba) rfl
    have cb_2 := Sb.out.cell 2 (v := .int .i64 br) rfl
    have cb_3 := Sb.out.cell 3 (v := .int .i64 bs) rfl
    have co_0 := So.out.cell 0 (v := .int .i64 f) rfl
    have co_1 := So.out.cell 1 (v := .slice ao G.length co) rfl
    have cj_0 := Sj.out.cell 0 (v := .int .i64 f2) rfl
    have cj_1 := Sj.out.cell 1 (v := .slice a2 l2.length c2) rfl
    have cu_0 := Su.out.cell 0 (v := .int .i64 ud) rfl
    have cu_1 := Su.out.cell 1 (v := .int .i64 ua) rfl
    have cu_2 := Su.out.cell 2 (v := .int .i64 ur) rfl
    have cu_3 := Su.out.cell 3 (v := .int .i64 us) rfl
    have cy_0 := Sy.out.cell 0 (v := .int .i64 F2) rfl
    have cy_1 := Sy.out.cell 1 (v := .slice ay G2.length cy) rfl
    go_wp2
    go_ret
    exact ⟨by first | rfl | exact ret_bool (by simp) | exact ret_bool (by simp; omega), Hb.out⟩
  have h2' : (C2 == 0) = true := by rw [beq_iff_eq]; exact h2
  have h2n : (C2 != 0) = false := by rw [bne, h2']; rfl
  have hz2 : puC f G ⟨ud, ua, ur, us⟩ = 0 := by rw [← HC2.out]; exact h2
  obtain ⟨p1, p2, p3⟩ := pu_order (f := f) (l := l) (b := ⟨bd, ba, br, bs⟩) (u := ⟨ud, ua, ur, us⟩) Hz.out.1 (by rw [← Hz.out.2.1]; exact hz2)
  have HF2f := Lib.hid (show F2 = f by rw [HF2.out]; exact (puL_zero hz2).2)
  obtain ⟨Z, hZ⟩ : ∃ Z, Z = inS l ⟨ud, ua, ur, us⟩ := ⟨_, rfl⟩
  rw [← hZ] at p2 p3
  have hzl : Z.length ≤ 12 := by have := puL_len f l ⟨ud, ua, ur, us⟩; rw [(puL_zero p1).1, ← hZ] at this; exact this
  have hwG : inS Z ⟨bd, ba, br, bs⟩ = G2 := by rw [p3, HG2.out, (puL_zero hz2).1, Hz.out.2.1]
  have HI3 := Lib.hid (fun W (h : Bts W l (.slice ax l.length cx) fx) => impl_StorePut f l _ fx ⟨ud, ua, ur, us⟩ W (by omega) h)
  unfold PuP agB at HI3
  rw [p1, (puL_zero p1).1, (puL_zero p1).2, ← hZ] at HI3
  have HI4 := Lib.hid (fun W v fq (h : Bts W Z v fq) => impl_StorePut f Z v fq ⟨bd, ba, br, bs⟩ W (by omega) h)
  unfold PuP agB at HI4
  rw [p2, (puL_zero p2).1, (puL_zero p2).2, hwG] at HI4
  clear h2 hz2 p1 p2 p3 hZ hwG
  have cx_0 := Sx.out.cell 0 (v := .int .i64 f) rfl
  have cx_1 := Sx.out.cell 1 (v := .slice ax l.length cx) rfl
  have cb_0 := Sb.out.cell 0 (v := .int .i64 bd) rfl
  have cb_1 := Sb.out.cell 1 (v := .int .i64 ba) rfl
  have cb_2 := Sb.out.cell 2 (v := .int .i64 br) rfl
  have cb_3 := Sb.out.cell 3 (v := .int .i64 bs) rfl
  have co_0 := So.out.cell 0 (v := .int .i64 f) rfl
  have co_1 := So.out.cell 1 (v := .slice ao G.length co) rfl
  have cj_0 := Sj.out.cell 0 (v := .int .i64 f2) rfl
  have cj_1 := Sj.out.cell 1 (v := .slice a2 l2.length c2) rfl
  have cu_0 := Su.out.cell 0 (v := .int .i64 ud) rfl
  have cu_1 := Su.out.cell 1 (v := .int .i64 ua) rfl
  have cu_2 := Su.out.cell 2 (v := .int .i64 ur) rfl
  have cu_3 := Su.out.cell 3 (v := .int .i64 us) rfl
  have cy_0 := Sy.out.cell 0 (v := .int .i64 F2) rfl
  have cy_1 := Sy.out.cell 1 (v := .slice ay G2.length cy) rfl
  go_wp2_with fail
  generalize (w10.alloc (.cells #[.int .i64 F2, .slice ay G2.length cy] 25)) = W11 at *
  clear cx_0 cx_1 cb_0 cb_1 cb_2 cb_3 co_0 co_1 cj_0 cj_1 cu_0 cu_1 cu_2 cu_3 cy_0 cy_1
  refine (HI3.out _ Tx.out).mono ?_
  rintro e w12 ⟨vz, rfl, ho, hb⟩
  obtain ⟨az, cz, rfl, _⟩ := OwnB.sl (l := Z) ho
  obtain ⟨fz, hT⟩ := OwnB.bts (l := Z) ho
  clear ho
  have Tx := Lib.hid (show Bts w12 l (.slice ax l.length cx) fx from Tx.out.under hb)
  have To := Lib.hid (show Bts w12 G (.slice ao G.length co) fo from To.out.under hb)
  have Ty := Lib.hid (show Bts w12 G2 (.slice ay G2.length cy) fy from Ty.out.under hb)
  have Sx := Lib.hid (show Str w12 (w1.heap.size) 25 #[.int .i64 f, .slice ax l.length cx] from (hb.block _ Sx.out.lt).trans Sx.out)
  have Sb := Lib.hid (show Str w12 (w1.heap.size + 1) 27 #[.int .i64 bd, .int .i64 ba, .int .i64 br, .int .i64 bs] from (hb.block _ Sb.out.lt).trans Sb.out)
  have So := Lib.hid (show Str w12 (w3.heap.size) 25 #[.int .i64 f, .slice ao G.length co] from (hb.block _ So.out.lt).trans So.out)
  have Sj := Lib.hid (show Str w12 (w8.heap.size) 25 #[.int .i64 f2, .slice a2 l2.length c2] from (hb.block _ Sj.out.lt).trans Sj.out)
  have Su := Lib.hid (show Str w12 (w8.heap.size + 1) 27 #[.int .i64 ud, .int .i64 ua, .int .i64 ur, .int .i64 us] from (hb.block _ Su.out.lt).trans Su.out)
  have Sy := Lib.hid (show Str w12 (w10.heap.size) 25 #[.int .i64 F2, .slice ay G2.length cy] from (hb.block _ Sy.out.lt).trans Sy.out)
  have hsw12 := hb.size
  have Hb := Lib.hid (below_step Hb.out Hb.out.size hb)
  have Tz := Lib.hid hT
  clear hT hb
  have hal : Below w12.heap.size w12 (w12.alloc (.cells #[.int .i64 f, .slice az Z.length cz] 25)) := (Below.refl _ _).alloc (Nat.le_refl _) _
  have Tx := Lib.hid (show Bts (w12.alloc (.cells #[.int .i64 f, .slice az Z.length cz] 25)) l (.slice ax l.length cx) fx from Tx.out.under hal)
  have To := Lib.hid (show Bts (w12.alloc (.cells #[.int .i64 f, .slice az Z.length cz] 25)) G (.slice ao G.length co) fo from To.out.under hal)
  have Ty := Lib.hid (show Bts (w12.alloc (.cells #[.int .i64 f, .slice az Z.length cz] 25)) G2 (.slice ay G2.length cy) fy from Ty.out.under hal)
  have Tz := Lib.hid (show Bts (w12.alloc (.cells #[.int .i64 f, .slice az Z.length cz] 25)) Z (.slice az Z.length cz) fz from Tz.out.under hal)
  have Sx := Lib.hid (show Str (w12.alloc (.cells #[.int .i64 f, .slice az Z.length cz] 25)) (w1.heap.size) 25 #[.int .i64 f, .slice ax l.length cx] from Sx.out.alloc _)
  have Sb := Lib.hid (show Str (w12.alloc (.cells #[.int .i64 f, .slice az Z.length cz] 25)) (w1.heap.size + 1) 27 #[.int .i64 bd, .int .i64 ba, .int .i64 br, .int .i64 bs] from Sb.out.alloc _)
  have So := Lib.hid (show Str (w12.alloc (.cells #[.int .i64 f, .slice az Z.length cz] 25)) (w3.heap.size) 25 #[.int .i64 f, .slice ao G.length co] from So.out.alloc _)
  have Sj := Lib.hid (show Str (w12.alloc (.cells #[.int .i64 f, .slice az Z.length cz] 25)) (w8.heap.size) 25 #[.int .i64 f2, .slice a2 l2.length c2] from Sj.out.alloc _)
  have Su := Lib.hid (show Str (w12.alloc (.cells #[.int .i64 f, .slice az Z.length cz] 25)) (w8.heap.size + 1) 27 #[.int .i64 ud, .int .i64 ua, .int .i64 ur, .int .i64 us] from Su.out.alloc _)
  have Sy := Lib.hid (show Str (w12.alloc (.cells #[.int .i64 f, .slice az Z.length cz] 25)) (w10.heap.size) 25 #[.int .i64 F2, .slice ay G2.length cy] from Sy.out.alloc _)
  have Sz := Lib.hid (Str.new w12 25 #[.int .i64 f, .slice az Z.length cz])
  have Hb := Lib.hid (below_step Hb.out Hb.out.size hal)
  clear hal
  have cx_0 := Sx.out.cell 0 (v := .int .i64 f) rfl
  have cx_1 := Sx.out.cell 1 (v := .slice ax l.length cx) rfl
  have cb_0 := Sb.out.cell 0 (v := .int .i64 bd) rfl
  have cb_1 := Sb.out.cell 1 (v := .int .i64 ba) rfl
  have cb_2 := Sb.out.cell 2 (v := .int .i64 br) rfl
  have cb_3 := Sb.out.cell 3 (v := .int .i64 bs) rfl
  have co_0 := So.out.cell 0 (v := .int .i64 f) rfl
  have co_1 := So.out.cell 1 (v := .slice ao G.length co) rfl
  have cj_0 := Sj.out.cell 0 (v := .int .i64 f2) rfl
  have cj_1 := Sj.out.cell 1 (v := .slice a2 l2.length c2) rfl
  have cu_0 := Su.out.cell 0 (v := .int .i64 ud) rfl
  have cu_1 := Su.out.cell 1 (v := .int .i64 ua) rfl
  have cu_2 := Su.out.cell 2 (v := .int .i64 ur) rfl
  have cu_3 := Su.out.cell 3 (v := .int .i64 us) rfl
  have cy_0 := Sy.out.cell 0 (v := .int .i64 F2) rfl
  have cy_1 := Sy.out.cell 1 (v := .slice ay G2.length cy) rfl
  have cz_0 := Sz.out.cell 0 (v := .int .i64 f) rfl
  have cz_1 := Sz.out.cell 1 (v := .slice az Z.length cz) rfl
  go_wp2_with fail
  generalize (w12.alloc (.cells #[.int .i64 f, .slice az Z.length cz] 25)) = W13 at *
  clear cx_0 cx_1 cb_0 cb_1 cb_2 cb_3 co_0 co_1 cj_0 cj_1 cu_0 cu_1 cu_2 cu_3 cy_0 cy_1 cz_0 cz_1
  refine (HI4.out _ _ _ Tz.out).mono ?_
  rintro e w14 ⟨vq, rfl, ho, hb⟩
  obtain ⟨aq, cq, rfl, _⟩ := OwnB.sl (l := G2) ho
  obtain ⟨fq, hT⟩ := OwnB.bts (l := G2) ho
  clear ho
  have Tx := Lib.hid (show Bts w14 l (.slice ax l.length cx) fx from Tx.out.under hb)
  have To := Lib.hid (show Bts w14 G (.slice ao G.length co) fo from To.out.under hb)
  have Ty := Lib.hid (show Bts w14 G2 (.slice ay G2.length cy) fy from Ty.out.under hb)
  have Tz := Lib.hid (show Bts w14 Z (.slice az Z.length cz) fz from Tz.out.under hb)
  have Sx := Lib.hid (show Str w14 (w1.heap.size) 25 #[.int .i64 f, .slice ax l.length cx] from (hb.block _ Sx.out.lt).trans Sx.out)
  have Sb := Lib.hid (show Str w14 (w1.heap.size + 1) 27 #[.int .i64 bd, .int .i64 ba, .int .i64 br, .int .i64 bs] from (hb.block _ Sb.out.lt).trans Sb.out)
  have So := Lib.hid (show Str w14 (w3.heap.size) 25 #[.int .i64 f, .slice ao G.length co] from (hb.block _ So.out.lt).trans So.out)
  have Sj := Lib.hid (show Str w14 (w8.heap.size) 25 #[.int .i64 f2, .slice a2 l2.length c2] from (hb.block _ Sj.out.lt).trans Sj.out)
  have Su := Lib.hid (show Str w14 (w8.heap.size + 1) 27 #[.int .i64 ud, .int .i64 ua, .int .i64 ur, .int .i64 us] from (hb.block _ Su.out.lt).trans Su.out)
  have Sy := Lib.hid (show Str w14 (w10.heap.size) 25 #[.int .i64 F2, .slice ay G2.length cy] from (hb.block _ Sy.out.lt).trans Sy.out)
  have Sz := Lib.hid (show Str w14 (w12.heap.size) 25 #[.int .i64 f, .slice az Z.length cz] from (hb.block _ Sz.out.lt).trans Sz.out)
  have hsw14 := hb.size
  have Hb := Lib.hid (below_step Hb.out Hb.out.size hb)
  have Tq := Lib.hid hT
  clear hT hb
  have hal : Below w14.heap.size w14 (w14.alloc (.cells #[.int .i64 f, .slice aq G2.length cq] 25)) := (Below.refl _ _).alloc (Nat.le_refl _) _
  have Tx := Lib.hid (show Bts (w14.alloc (.cells #[.int .i64 f, .slice aq G2.length cq] 25)) l (.slice ax l.length cx) fx from Tx.out.under hal)
  have To := Lib.hid (show Bts (w14.alloc (.cells #[.int .i64 f, .slice aq G2.length cq] 25)) G (.slice ao G.length co) fo from To.out.under hal)
  have Ty := Lib.hid (show Bts (w14.alloc (.cells #[.int .i64 f, .slice aq G2.length cq] 25)) G2 (.slice ay G2.length cy) fy from Ty.out.under hal)
  have Tz := Lib.hid (show Bts (w14.alloc (.cells #[.int .i64 f, .slice aq G2.length cq] 25)) Z (.slice az Z.length cz) fz from Tz.out.under hal)
  have Tq := Lib.hid (show Bts (w14.alloc (.cells #[.int .i64 f, .slice aq G2.length cq] 25)) G2 (.slice aq G2.length cq) fq from Tq.out.under hal)
  have Sx := Lib.hid (show Str (w14.alloc (.cells #[.int .i64 f, .slice aq G2.length cq] 25)) (w1.heap.size) 25 #[.int .i64 f, .slice ax l.length cx] from Sx.out.alloc _)
  have Sb := Lib.hid (show Str (w14.alloc (.cells #[.int .i64 f, .slice aq G2.length cq] 25)) (w1.heap.size + 1) 27 #[.int .i64 bd, .int .i64 ba, .int .i64 br, .int .i64 bs] from Sb.out.alloc _)
  have So := Lib.hid (show Str (w14.alloc (.cells #[.int .i64 f, .slice aq G2.length cq] 25)) (w3.heap.size) 25 #[.int .i64 f, .slice ao G.length co] from So.out.alloc _)
  have Sj := Lib.hid (show Str (w14.alloc (.cells #[.int .i64 f, .slice aq G2.length cq] 25)) (w8.heap.size) 25 #[.int .i64 f2, .slice a2 l2.length c2] from Sj.out.alloc _)
  have Su := Lib.hid (show Str (w14.alloc (.cells #[.int .i64 f, .slice aq G2.length cq] 25)) (w8.heap.size + 1) 27 #[.int .i64 ud, .int .i64 ua, .int .i64 ur, .int .i64 us] from Su.out.alloc _)
  have Sy := Lib.hid (show Str (w14.alloc (.cells #[.int .i64 f, .slice aq G2.length cq] 25)) (w10.heap.size) 25 #[.int .i64 F2, .slice ay G2.length cy] from Sy.out.alloc _)
  have Sz := Lib.hid (show Str (w14.alloc (.cells #[.int .i64 f, .slice aq G2.length cq] 25)) (w12.heap.size) 25 #[.int .i64 f, .slice az Z.length cz] from Sz.out.alloc _)
  have Sq := Lib.hid (Str.new w14 25 #[.int .i64 f, .slice aq G2.length cq])
  have Hb := Lib.hid (below_step Hb.out Hb.out.size hal)
  clear hal
  have cx_0 := Sx.out.cell 0 (v := .int .i64 f) rfl
  have cx_1 := Sx.out.cell 1 (v := .slice ax l.length cx) rfl
  have cb_0 := Sb.out.cell 0 (v := .int .i64 bd) rfl
  have cb_1 := Sb.out.cell 1 (v := .int .i64 ba) rfl
  have cb_2 := Sb.out.cell 2 (v := .int .i64 br) rfl
  have cb_3 := Sb.out.cell 3 (v := .int .i64 bs) rfl
  have co_0 := So.out.cell 0 (v := .int .i64 f) rfl
  have co_1 := So.out.cell 1 (v := .slice ao G.length co) rfl
  have cj_0 := Sj.out.cell 0 (v := .int .i64 f2) rfl
  have cj_1 := Sj.out.cell 1 (v := .slice a2 l2.length c2) rfl
  have cu_0 := Su.out.cell 0 (v := .int .i64 ud) rfl
  have cu_1 := Su.out.cell 1 (v := .int .i64 ua) rfl
  have cu_2 := Su.out.cell 2 (v := .int .i64 ur) rfl
  have cu_3 := Su.out.cell 3 (v := .int .i64 us) rfl
  have cy_0 := Sy.out.cell 0 (v := .int .i64 F2) rfl
  have cy_1 := Sy.out.cell 1 (v := .slice ay G2.length cy) rfl
  have cz_0 := Sz.out.cell 0 (v := .int .i64 f) rfl
  have cz_1 := Sz.out.cell 1 (v := .slice az Z.length cz) rfl
  have cq_0 := Sq.out.cell 0 (v := .int .i64 f) rfl
  have cq_1 := Sq.out.cell 1 (v := .slice aq G2.length cq) rfl
  go_wp2_with fail
  generalize (w14.alloc (.cells #[.int .i64 f, .slice aq G2.length cq] 25)) = W15 at *
  clear cx_0 cx_1 cb_0 cb_1 cb_2 cb_3 co_0 co_1 cj_0 cj_1 cu_0 cu_1 cu_2 cu_3 cy_0 cy_1 cz_0 cz_1 cq_0 cq_1
  refine (laws_sameStore f F2 G2 G2 _ _ fq fy _ (by omega) (by omega) Tq.out Ty.out).mono ?_
  rintro e w16 ⟨rfl, hb⟩
  rw [decide_eq_true (show f = F2 ∧ G2 = G2 from ⟨HF2f.out.symm, rfl⟩)]
  have Tx := Lib.hid (show Bts w16 l (.slice ax l.length cx) fx from Tx.out.under hb)
  have To := Lib.hid (show Bts w16 G (.slice ao G.length co) fo from To.out.under hb)
  have Ty := Lib.hid (show Bts w16 G2 (.slice ay G2.length cy) fy from Ty.out.under hb)
  have Tz := Lib.hid (show Bts w16 Z (.slice az Z.length cz) fz from Tz.out.under hb)
  have Tq := Lib.hid (show Bts w16 G2 (.slice aq G2.length cq) fq from Tq.out.under hb)
  have Sx := Lib.hid (show Str w16 (w1.heap.size) 25 #[.int .i64 f, .slice ax l.length cx] from (hb.block _ Sx.out.lt).trans Sx.out)
  have Sb := Lib.hid (show Str w16 (w1.heap.size + 1) 27 #[.int .i64 bd, .int .i64 ba, .int .i64 br, .int .i64 bs] from (hb.block _ Sb.out.lt).trans Sb.out)
  have So := Lib.hid (show Str w16 (w3.heap.size) 25 #[.int .i64 f, .slice ao G.length co] from (hb.block _ So.out.lt).trans So.out)
  have Sj := Lib.hid (show Str w16 (w8.heap.size) 25 #[.int .i64 f2, .slice a2 l2.length c2] from (hb.block _ Sj.out.lt).trans Sj.out)
  have Su := Lib.hid (show Str w16 (w8.heap.size + 1) 27 #[.int .i64 ud, .int .i64 ua, .int .i64 ur, .int .i64 us] from (hb.block _ Su.out.lt).trans Su.out)
  have Sy := Lib.hid (show Str w16 (w10.heap.size) 25 #[.int .i64 F2, .slice ay G2.length cy] from (hb.block _ Sy.out.lt).trans Sy.out)
  have Sz := Lib.hid (show Str w16 (w12.heap.size) 25 #[.int .i64 f, .slice az Z.length cz] from (hb.block _ Sz.out.lt).trans Sz.out)
  have Sq := Lib.hid (show Str w16 (w14.heap.size) 25 #[.int .i64 f, .slice aq G2.length cq] from (hb.block _ Sq.out.lt).trans Sq.out)
  have hsw16 := hb.size
  have Hb := Lib.hid (below_step Hb.out Hb.out.size hb)
  clear hb
  go_wp2
  go_ret
  exact ⟨by first | rfl | exact ret_bool (by simp) | exact ret_bool (by simp; omega), Hb.out⟩

theorem fnStoreOrder_own : ownKnob Try.prog.godebug = none := by kernel_rfl
theorem fnStoreOrder_laidOut : laidOutB Try.prog = true := by kernel_rfl

set_option maxRecDepth 8000 in
theorem fnStoreOrder_lifted (os : Os) (started : os.Started) (H : Type) (enc : TypeId × Value → H) :
    ReturnsInHanded {} Try.checked os 9 .any (Rows.fnStoreOrderSpec.pre6 enc Try.prog Try.f9 Rows.fnStoreOrderRow.domain false) (Rows.fnStoreOrderSpec.post enc Try.prog Try.f9 false true false false) := by
  refine law_lifted (C := Try.checked) (tb := 4) fnStoreOrder_own fnStoreOrder_laidOut started (by kernel_rfl) Try.func9 rfl Try.underlying4 rfl (by rw [Try.params9]; exact of_decide_eq_true (by kernel_rfl)) ?_
    (ChangeSpec.witness6 (enc := enc) (C := Try.checked) false ⟨#[], #[.slice none 0 0, .slice none 0 0], []⟩ 8 (by kernel_rfl) (by kernel_rfl) (by kernel_rfl) (by kernel_rfl)) ?_
  · intro ds hds
    rw [Try.params9] at hds
    match ds, hds with
    | [d0, d1], _ => rfl
  · intro W base args ds p hval0 hA0
    have hval : ∀ (j : Nat) t v, Try.f9.params[j]? = some t → args[j]? = some v → Value.okWide Try.prog W .any base t v := hval0
    have hA : DataW.TrodAll enc Try.prog W 0 (fun _ => true) true Try.f9.params.toList args.toList ds p := hA0
    rw [Try.params9] at hA hval
    obtain ⟨v0, vs0, d0, ds0, p0, q0, hargs0, rfl, rfl, h0, r0⟩ := trodAll_cons hA
    obtain ⟨v1, vs1, d1, ds1, p1, q1, hargs1, rfl, rfl, h1, r1⟩ := trodAll_cons r0
    obtain ⟨hnil, rfl, rfl⟩ := trodAll_nil r1
    subst hnil
    subst hargs1
    obtain rfl : args = #[v0, v1] := by cases args; simp_all
    obtain ⟨a0, cap0, zs0, rfl, hk0, hm0, hi0, hw0⟩ := open_slice_ints Try.underlying22 Try.underlying5 (by kernel_rfl) (hval 0 22 v0 rfl rfl) h0
    obtain ⟨a1, cap1, zs1, rfl, hk1, hm1, hi1, hw1⟩ := open_slice_ints Try.underlying22 Try.underlying5 (by kernel_rfl) (hval 1 22 v1 rfl rfl) h1
    exact fnStoreOrder_walk a0 cap0 zs0 a1 cap1 zs1 W hk0 hm0 hi0 hw0 hk1 hm1 hi1 hw1

set_option maxRecDepth 8000 in
theorem fnStoreOrder_holds : Rows.FnStoreOrderSaid :=
  OpenClaim.holds_of_wide 9 Try.f9 rfl rfl rfl rfl rfl rfl rfl ⟨rfl, rfl, rfl, rfl, rfl⟩ rfl rfl rfl rfl rfl (by kernel_rfl) Try.func9 (by kernel_rfl)
    (of_decide_eq_true (by kernel_rfl)) (by unfold Func.isWrapper; first | (rw [if_pos (by decide +kernel)]; kernel_rfl) | (rw [if_neg (by decide +kernel)]; exact ⟨rfl, rfl⟩))
    (fun os started H enc _ => fnStoreOrder_lifted os started H enc)

end Go.Proofs.Ythojbcecbeapgaa
