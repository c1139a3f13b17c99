/- Law FnStoreOthers holds for every input; no conditions of our own. -/
import Derived.Test.YthojbcecbeapgabRows
import Derived.Test.YthojbcecbeapgabBu0
import Derived.Test.YthojbcecbeapgabBu1
import Derived.Test.YthojbcecbeapgabBu2
import Derived.Test.YthojbcecbeapgabBu3
import Derived.Test.YthojbcecbeapgabBu4
import Derived.Deep.QuietTactic
import Derived.BigQuiet
namespace Go.Proofs.Ythojbcecbeapgab
open Go.ChangeShapes Go.WideShapes Go.ChangeAt Go.RowKit

set_option maxHeartbeats 4000000 in
theorem fnStoreOthers_walk (a : Option Addr) (cap : Nat) (zs : List Int) (a' : Option Addr) (cap' : Nat) (ms : List Int) (w : World) (hk : zs.length ≤ cap) (_hm : zs.length ≤ maxLen) (hi : zs = [] ∨ ∃ b off, a = some ⟨b, off, none⟩ ∧ b < w.heap.size ∧ ∀ j (h : j < zs.length), w.cell? ⟨b, off + j, none⟩ = some (.int .u8 zs[j])) (hw : ∀ z ∈ zs, (Lit.int .u8 z).wf = true)
    (_hk' : ms.length ≤ cap') (hm' : ms.length ≤ maxLen) (_hi' : ms = [] ∨ ∃ b off, a' = some ⟨b, off, none⟩ ∧ b < w.heap.size ∧ ∀ j (h : j < ms.length), w.cell? ⟨b, off + j, none⟩ = some (.int .u8 ms[j])) (_hw' : ∀ z ∈ ms, (Lit.int .u8 z).wf = true) :
    Calls Try.prog 3 #[.slice a zs.length cap, .slice a' ms.length cap'] w fun e w' => e = .returned (.bool true) ∧ Below w.heap.size w w' := by
  unfold maxLen at hm'
  by_cases hl : 1048576 < zs.length
  · go_enter Try.func3, Try.ntmps3
    go_wp2
    go_ret
    exact ⟨rfl, Below.refl _ _⟩
  by_cases hl' : 1048576 < ms.length
  · go_enter Try.func3, Try.ntmps3
    go_wp2
    go_ret
    exact ⟨rfl, Below.refl _ _⟩
  have hcode := codeAt_of hk (by omega) hi hw
  have Hcode := Lib.hid hcode; clear hcode hi hw
  have hcode' := codeAt_of _hk' (by omega) _hi' _hw'
  have Hcode' := Lib.hid hcode'; clear hcode'
  go_enter Try.func3, Try.ntmps3
  go_wp2_with fail
  refine (spec_DrawStorePut a cap zs _ Hcode.out).mono ?_
  rintro e w1 ⟨f, l, ux, ⟨bd, ba, br, bs⟩, rfl, ho, hl13, hb1⟩
  unfold agB
  dsimp only at *
  obtain ⟨ax, cx, rfl, _⟩ := OwnB.sl (l := l) ho
  obtain ⟨fx, hx⟩ := OwnB.bts (l := l) ho
  have Tx := Lib.hid hx
  have Hb := Lib.hid hb1
  clear ho hx hb1
  have hal : Below w1.heap.size w1 (w1.alloc (.cells #[.int .i64 f, .slice ax l.length cx] 25)) := (Below.refl _ _).alloc (Nat.le_refl _) _
  have Tx := Lib.hid (show Bts (w1.alloc (.cells #[.int .i64 f, .slice ax l.length cx] 25)) l (.slice ax l.length cx) fx from Tx.out.under hal)
  have Sx := Lib.hid (Str.new w1 25 #[.int .i64 f, .slice ax l.length cx])
  have Hb := Lib.hid (below_step Hb.out Hb.out.size hal)
  clear hal
  have hal : Below (w1.alloc (.cells #[.int .i64 f, .slice ax l.length cx] 25)).heap.size (w1.alloc (.cells #[.int .i64 f, .slice ax l.length cx] 25)) ((w1.alloc (.cells #[.int .i64 f, .slice ax l.length cx] 25)).alloc (.cells #[.int .i64 bd, .int .i64 ba, .int .i64 br, .int .i64 bs] 27)) := (Below.refl _ _).alloc (Nat.le_refl _) _
  have Tx := Lib.hid (show Bts ((w1.alloc (.cells #[.int .i64 f, .slice ax l.length cx] 25)).alloc (.cells #[.int .i64 bd, .int .i64 ba, .int .i64 br, .int .i64 bs] 27)) l (.slice ax l.length cx) fx from Tx.out.under hal)
  have Sx := Lib.hid (show Str ((w1.alloc (.cells #[.int .i64 f, .slice ax l.length cx] 25)).alloc (.cells #[.int .i64 bd, .int .i64 ba, .int .i64 br, .int .i64 bs] 27)) (w1.heap.size) 25 #[.int .i64 f, .slice ax l.length cx] from Sx.out.alloc _)
  have Sb := Lib.hid (Str.new (w1.alloc (.cells #[.int .i64 f, .slice ax l.length cx] 25)) 27 #[.int .i64 bd, .int .i64 ba, .int .i64 br, .int .i64 bs])
  have Hb := Lib.hid (below_step Hb.out Hb.out.size hal)
  clear hal
  have Sb := Lib.hid (show Str ((w1.alloc (.cells #[.int .i64 f, .slice ax l.length cx] 25)).alloc (.cells #[.int .i64 bd, .int .i64 ba, .int .i64 br, .int .i64 bs] 27)) (w1.heap.size + 1) 27 #[.int .i64 bd, .int .i64 ba, .int .i64 br, .int .i64 bs] by have h9 := Sb.out; simp only [World.size_alloc] at h9; exact h9)
  obtain ⟨C, hC⟩ : ∃ C, C = puC f l ⟨bd, ba, br, bs⟩ := ⟨_, rfl⟩
  obtain ⟨G, hG⟩ : ∃ G, G = puL f l ⟨bd, ba, br, bs⟩ := ⟨_, rfl⟩
  obtain ⟨F, hF⟩ : ∃ F, F = puF f l ⟨bd, ba, br, bs⟩ := ⟨_, rfl⟩
  have hGl := puL_len f l ⟨bd, ba, br, bs⟩
  rw [← hG] at hGl
  have HI := Lib.hid (fun W (h : Bts W l (.slice ax l.length cx) fx) => impl_StorePut f l _ fx ⟨bd, ba, br, bs⟩ W (by omega) h)
  have HS := Lib.hid (fun W (h : Bts W l (.slice ax l.length cx) fx) => spec_StorePut f l _ fx bd ba br bs W (by omega) h)
  unfold PuP agB at HI
  unfold SqP agB at HS
  rw [← hC, ← hG, ← hF] at HI HS
  have HC := Lib.hid hC; have HG := Lib.hid hG; have HF := Lib.hid hF
  clear hC hG hF
  have cx_0 := Sx.out.cell 0 (v := .int .i64 f) rfl
  have cx_1 := Sx.out.cell 1 (v := .slice ax l.length cx) rfl
  have cb_0 := Sb.out.cell 0 (v := .int .i64 bd) rfl
  have cb_1 := Sb.out.cell 1 (v := .int .i64 ba) rfl
  have cb_2 := Sb.out.cell 2 (v := .int .i64 br) rfl
  have cb_3 := Sb.out.cell 3 (v := .int .i64 bs) rfl
  go_wp2_with fail
  generalize ((w1.alloc (.cells #[.int .i64 f, .slice ax l.length cx] 25)).alloc (.cells #[.int .i64 bd, .int .i64 ba, .int .i64 br, .int .i64 bs] 27)) = W2 at *
  clear cx_0 cx_1 cb_0 cb_1 cb_2 cb_3
  refine (HI.out _ Tx.out).mono ?_
  rintro e w3 ⟨vo, rfl, ho, hb⟩
  obtain ⟨ao, co, rfl, _⟩ := OwnB.sl (l := G) ho
  obtain ⟨fo, hT⟩ := OwnB.bts (l := G) ho
  clear ho
  have Tx := Lib.hid (show Bts w3 l (.slice ax l.length cx) fx from Tx.out.under hb)
  have Sx := Lib.hid (show Str w3 (w1.heap.size) 25 #[.int .i64 f, .slice ax l.length cx] from (hb.block _ Sx.out.lt).trans Sx.out)
  have Sb := Lib.hid (show Str w3 (w1.heap.size + 1) 27 #[.int .i64 bd, .int .i64 ba, .int .i64 br, .int .i64 bs] from (hb.block _ Sb.out.lt).trans Sb.out)
  have hsw3 := hb.size
  have Hb := Lib.hid (below_step Hb.out Hb.out.size hb)
  have To := Lib.hid hT
  clear hT hb
  have hal : Below w3.heap.size w3 (w3.alloc (.cells #[.int .i64 F, .slice ao G.length co] 25)) := (Below.refl _ _).alloc (Nat.le_refl _) _
  have Tx := Lib.hid (show Bts (w3.alloc (.cells #[.int .i64 F, .slice ao G.length co] 25)) l (.slice ax l.length cx) fx from Tx.out.under hal)
  have To := Lib.hid (show Bts (w3.alloc (.cells #[.int .i64 F, .slice ao G.length co] 25)) G (.slice ao G.length co) fo from To.out.under hal)
  have Sx := Lib.hid (show Str (w3.alloc (.cells #[.int .i64 F, .slice ao G.length co] 25)) (w1.heap.size) 25 #[.int .i64 f, .slice ax l.length cx] from Sx.out.alloc _)
  have Sb := Lib.hid (show Str (w3.alloc (.cells #[.int .i64 F, .slice ao G.length co] 25)) (w1.heap.size + 1) 27 #[.int .i64 bd, .int .i64 ba, .int .i64 br, .int .i64 bs] from Sb.out.alloc _)
  have So := Lib.hid (Str.new w3 25 #[.int .i64 F, .slice ao G.length co])
  have Hb := Lib.hid (below_step Hb.out Hb.out.size hal)
  clear hal
  have cx_0 := Sx.out.cell 0 (v := .int .i64 f) rfl
  have cx_1 := Sx.out.cell 1 (v := .slice ax l.length cx) rfl
  have cb_0 := Sb.out.cell 0 (v := .int .i64 bd) rfl
  have cb_1 := Sb.out.cell 1 (v := .int .i64 ba) rfl
  have cb_2 := Sb.out.cell 2 (v := .int .i64 br) rfl
  have cb_3 := Sb.out.cell 3 (v := .int .i64 bs) rfl
  have co_0 := So.out.cell 0 (v := .int .i64 F) rfl
  have co_1 := So.out.cell 1 (v := .slice ao G.length co) rfl
  go_wp2_with fail
  generalize (w3.alloc (.cells #[.int .i64 F, .slice ao G.length co] 25)) = W4 at *
  clear cx_0 cx_1 cb_0 cb_1 cb_2 cb_3 co_0 co_1
  refine (HS.out _ Tx.out).mono ?_
  rintro e w5 ⟨vk, rfl, ho, hb⟩
  obtain ⟨ak, ck, rfl, _⟩ := OwnB.sl (l := G) ho
  obtain ⟨fk, hT⟩ := OwnB.bts (l := G) ho
  clear ho
  have Tx := Lib.hid (show Bts w5 l (.slice ax l.length cx) fx from Tx.out.under hb)
  have To := Lib.hid (show Bts w5 G (.slice ao G.length co) fo from To.out.under hb)
  have Sx := Lib.hid (show Str w5 (w1.heap.size) 25 #[.int .i64 f, .slice ax l.length cx] from (hb.block _ Sx.out.lt).trans Sx.out)
  have Sb := Lib.hid (show Str w5 (w1.heap.size + 1) 27 #[.int .i64 bd, .int .i64 ba, .int .i64 br, .int .i64 bs] from (hb.block _ Sb.out.lt).trans Sb.out)
  have So := Lib.hid (show Str w5 (w3.heap.size) 25 #[.int .i64 F, .slice ao G.length co] from (hb.block _ So.out.lt).trans So.out)
  have hsw5 := hb.size
  have Hb := Lib.hid (below_step Hb.out Hb.out.size hb)
  have Tk := Lib.hid hT
  clear hT hb
  have hal : Below w5.heap.size w5 (w5.alloc (.cells #[.int .i64 F, .slice ak G.length ck] 25)) := (Below.refl _ _).alloc (Nat.le_refl _) _
  have Tx := Lib.hid (show Bts (w5.alloc (.cells #[.int .i64 F, .slice ak G.length ck] 25)) l (.slice ax l.length cx) fx from Tx.out.under hal)
  have To := Lib.hid (show Bts (w5.alloc (.cells #[.int .i64 F, .slice ak G.length ck] 25)) G (.slice ao G.length co) fo from To.out.under hal)
  have Tk := Lib.hid (show Bts (w5.alloc (.cells #[.int .i64 F, .slice ak G.length ck] 25)) G (.slice ak G.length ck) fk from Tk.out.under hal)
  have Sx := Lib.hid (show Str (w5.alloc (.cells #[.int .i64 F, .slice ak G.length ck] 25)) (w1.heap.size) 25 #[.int .i64 f, .slice ax l.length cx] from Sx.out.alloc _)
  have Sb := Lib.hid (show Str (w5.alloc (.cells #[.int .i64 F, .slice ak G.length ck] 25)) (w1.heap.size + 1) 27 #[.int .i64 bd, .int .i64 ba, .int .i64 br, .int .i64 bs] from Sb.out.alloc _)
  have So := Lib.hid (show Str (w5.alloc (.cells #[.int .i64 F, .slice ak G.length ck] 25)) (w3.heap.size) 25 #[.int .i64 F, .slice ao G.length co] from So.out.alloc _)
  have Sk := Lib.hid (Str.new w5 25 #[.int .i64 F, .slice ak G.length ck])
  have Hb := Lib.hid (below_step Hb.out Hb.out.size hal)
  clear hal
  clear HI HS
  have cx_0 := Sx.out.cell 0 (v := .int .i64 f) rfl
  have cx_1 := Sx.out.cell 1 (v := .slice ax l.length cx) rfl
  have cb_0 := Sb.out.cell 0 (v := .int .i64 bd) rfl
  have cb_1 := Sb.out.cell 1 (v := .int .i64 ba) rfl
  have cb_2 := Sb.out.cell 2 (v := .int .i64 br) rfl
  have cb_3 := Sb.out.cell 3 (v := .int .i64 bs) rfl
  have co_0 := So.out.cell 0 (v := .int .i64 F) rfl
  have co_1 := So.out.cell 1 (v := .slice ao G.length co) rfl
  have ck_0 := Sk.out.cell 0 (v := .int .i64 F) rfl
  have ck_1 := Sk.out.cell 1 (v := .slice ak G.length ck) rfl
  go_wp2_with fail
  generalize (w5.alloc (.cells #[.int .i64 F, .slice ak G.length ck] 25)) = W6 at *
  clear cx_0 cx_1 cb_0 cb_1 cb_2 cb_3 co_0 co_1 ck_0 ck_1
  refine (laws_sameStore F F G G _ _ fo fk _ (by omega) (by omega) To.out Tk.out).mono ?_
  rintro e w7 ⟨rfl, hb⟩
  rw [decide_eq_true (show F = F ∧ G = G from ⟨rfl, rfl⟩)]
  have Tx := Lib.hid (show Bts w7 l (.slice ax l.length cx) fx from Tx.out.under hb)
  have To := Lib.hid (show Bts w7 G (.slice ao G.length co) fo from To.out.under hb)
  have Tk := Lib.hid (show Bts w7 G (.slice ak G.length ck) fk from Tk.out.under hb)
  have Sx := Lib.hid (show Str w7 (w1.heap.size) 25 #[.int .i64 f, .slice ax l.length cx] from (hb.block _ Sx.out.lt).trans Sx.out)
  have Sb := Lib.hid (show Str w7 (w1.heap.size + 1) 27 #[.int .i64 bd, .int .i64 ba, .int .i64 br, .int .i64 bs] from (hb.block _ Sb.out.lt).trans Sb.out)
  have So := Lib.hid (show Str w7 (w3.heap.size) 25 #[.int .i64 F, .slice ao G.length co] from (hb.block _ So.out.lt).trans So.out)
  have Sk := Lib.hid (show Str w7 (w5.heap.size) 25 #[.int .i64 F, .slice ak G.length ck] from (hb.block _ Sk.out.lt).trans Sk.out)
  have hsw7 := hb.size
  have Hb := Lib.hid (below_step Hb.out Hb.out.size hb)
  clear hb
  by_cases h0 : C = 0
  case neg =>
    have h0' : (C == 0) = false := by rw [beq_eq_false_iff_ne]; exact h0
    have h0n : (C != 0) = true := by rw [bne, h0']; rfl
    clear h0
    have cx_0 := Sx.out.cell 0 (v := .int .i64 f) rfl
    have cx_1 := Sx.out.cell 1 (v := .slice ax l.length cx) rfl
    have cb_0 := Sb.out.cell 0 (v := .int .i64 bd) rfl
    have cb_1 := Sb.out.cell 1 (v := .int .i64 ba) rfl
    have cb_2 := Sb.out.cell 2 (v := .int .i64 br) rfl
    have cb_3 := Sb.out.cell 3 (v := .int .i64 bs) rfl
    have co_0 := So.out.cell 0 (v := .int .i64 F) rfl
    have co_1 := So.out.cell 1 (v := .slice ao G.length co) rfl
    have ck_0 := Sk.out.cell 0 (v := .int .i64 F) rfl
    have ck_1 := Sk.out.cell 1 (v := .slice ak G.length ck) rfl
    go_wp2_with fail
    clear cx_0 cx_1 cb_0 cb_1 cb_2 cb_3 co_0 co_1 ck_0 ck_1
    refine (laws_sameStore F F G G _ _ fo fk _ (by omega) (by omega) To.out Tk.out).mono ?_
    rintro e w8 ⟨rfl, hb⟩
    rw [decide_eq_true (show F = F ∧ G = G from ⟨rfl, rfl⟩)]
    have Tx := Lib.hid (show Bts w8 l (.slice ax l.length cx) fx from Tx.out.under hb)
    have To := Lib.hid (show Bts w8 G (.slice ao G.length co) fo from To.out.under hb)
    have Tk := Lib.hid (show Bts w8 G (.slice ak G.length ck) fk from Tk.out.under hb)
    have Sx := Lib.hid (show Str w8 (w1.heap.size) 25 #[.int .i64 f, .slice ax l.length cx] from (hb.block _ Sx.out.lt).trans Sx.out)
    have Sb := Lib.hid (show Str w8 (w1.heap.size + 1) 27 #[.int .i64 bd, .int .i64 ba, .int .i64 br, .int .i64 bs] from (hb.block _ Sb.out.lt).trans Sb.out)
    have So := Lib.hid (show Str w8 (w3.heap.size) 25 #[.int .i64 F, .slice ao G.length co] from (hb.block _ So.out.lt).trans So.out)
    have Sk := Lib.hid (show Str w8 (w5.heap.size) 25 #[.int .i64 F, .slice ak G.length ck] from (hb.block _ Sk.out.lt).trans Sk.out)
    have hsw8 := hb.size
    have Hb := Lib.hid (below_step Hb.out Hb.out.size hb)
    clear hb
    go_wp2
    go_ret
    exact ⟨by first | rfl | exact ret_bool (by simp) | exact ret_bool (by simp; omega), Hb.out⟩
  have h0' : (C == 0) = true := by rw [beq_iff_eq]; exact h0
  have h0n : (C != 0) = false := by rw [bne, h0']; rfl
  clear Tk
  clear Sk
  have Hz := Lib.hid (show puC f l ⟨bd, ba, br, bs⟩ = 0 ∧ G = inS l ⟨bd, ba, br, bs⟩ ∧ F = f from ⟨by rw [← HC.out]; exact h0, by rw [HG.out]; exact (puL_zero (by rw [← HC.out]; exact h0)).1, by rw [HF.out]; exact (puL_zero (by rw [← HC.out]; exact h0)).2⟩)
  have hFf : f = F := Hz.out.2.2.symm
  subst hFf
  clear h0
  have hba := (btB_iff.1 (pu_zero.1 Hz.out.1).2.1).2.1
  dsimp only at hba
  obtain ⟨m6, hm6⟩ : ∃ m6, m6 = (ms.length : Int) % 6 := ⟨_, rfl⟩
  have hmod : 0 ≤ m6 ∧ m6 < 6 := by omega
  have hmt : (ms.length : Int).tmod 6 = m6 := by rw [Int.tmod_eq_emod_of_nonneg (by omega)]; exact hm6.symm
  have hw1 : IntKind.i64.wrap (ba + 1) = ba + 1 := IntWalk.i64_in _ (by omega)
  have hw2 : IntKind.i64.wrap (ba + 1 + m6) = ba + 1 + m6 := IntWalk.i64_in _ (by omega)
  obtain ⟨n, hn⟩ : ∃ n, n = (ba + 1 + m6) % 7 := ⟨_, rfl⟩
  have hnt : (ba + 1 + m6).tmod 7 = n := by rw [Int.tmod_eq_emod_of_nonneg (by omega)]; exact hn.symm
  have hn2 : (ba + 1 + m6) % 7 = n := hn.symm
  have hm2 : (ms.length : Int) % 6 = m6 := hm6.symm
  have Hn := Lib.hid hn
  clear hm6 hn
  by_cases hne : n = ba
  case pos =>
    have hne' : (n == ba) = true := by rw [beq_iff_eq]; exact hne
    clear hne
    have cx_0 := Sx.out.cell 0 (v := .int .i64 f) rfl
    have cx_1 := Sx.out.cell 1 (v := .slice ax l.length cx) rfl
    have cb_0 := Sb.out.cell 0 (v := .int .i64 bd) rfl
    have cb_1 := Sb.out.cell 1 (v := .int .i64 ba) rfl
    have cb_2 := Sb.out.cell 2 (v := .int .i64 br) rfl
    have cb_3 := Sb.out.cell 3 (v := .int .i64 bs) rfl
    have co_0 := So.out.cell 0 (v := .int .i64 f) rfl
    have co_1 := So.out.cell 1 (v := .slice ao G.length co) rfl
    go_wp2_with fail
    refine wp_region_held_drew (S := fun W' => W'.cell? ⟨w1.heap.size, 0, none⟩ = some (.int .i64 f) ∧ W'.cell? ⟨w1.heap.size, 1, none⟩ = some (.slice ax l.length cx) ∧ W'.cell? ⟨w1.heap.size + 1, 0, none⟩ = some (.int .i64 bd) ∧ W'.cell? ⟨w1.heap.size + 1, 1, none⟩ = some (.int .i64 ba) ∧ W'.cell? ⟨w1.heap.size + 1, 2, none⟩ = some (.int .i64 br) ∧ W'.cell? ⟨w1.heap.size + 1, 3, none⟩ = some (.int .i64 bs) ∧ W'.cell? ⟨w3.heap.size, 0, none⟩ = some (.int .i64 f) ∧ W'.cell? ⟨w3.heap.size, 1, none⟩ = some (.slice ao G.length co)) (by kernel_rfl) ⟨Sx.out.cell 0 (v := .int .i64 f) rfl, Sx.out.cell 1 (v := .slice ax l.length cx) rfl, Sb.out.cell 0 (v := .int .i64 bd) rfl, Sb.out.cell 1 (v := .int .i64 ba) rfl, Sb.out.cell 2 (v := .int .i64 br) rfl, Sb.out.cell 3 (v := .int .i64 bs) rfl, So.out.cell 0 (v := .int .i64 f) rfl, So.out.cell 1 (v := .slice ao G.length co) rfl⟩ (fun hH => ?_)
    clear cx_0 cx_1 cb_0 cb_1 cb_2 cb_3 co_0 co_1
    have hdr : Below w7.heap.size w7 w7.drew := (Below.refl _ _).drew
    have Tx := Lib.hid (show Bts w7.drew l (.slice ax l.length cx) fx from Tx.out.under hdr)
    have To := Lib.hid (show Bts w7.drew G (.slice ao G.length co) fo from To.out.under hdr)
    have Sx := Lib.hid (show Str w7.drew (w1.heap.size) 25 #[.int .i64 f, .slice ax l.length cx] from (hdr.block _ Sx.out.lt).trans Sx.out)
    have Sb := Lib.hid (show Str w7.drew (w1.heap.size + 1) 27 #[.int .i64 bd, .int .i64 ba, .int .i64 br, .int .i64 bs] from (hdr.block _ Sb.out.lt).trans Sb.out)
    have So := Lib.hid (show Str w7.drew (w3.heap.size) 25 #[.int .i64 f, .slice ao G.length co] from (hdr.block _ So.out.lt).trans So.out)
    have hsw7.drew := hdr.size
    have Hb := Lib.hid (below_step Hb.out Hb.out.size hdr)
    clear hdr
    generalize w7.drew = wd at *
    refine takeH 0 (v := ?voa1) rfl (by kernel_rfl) (by kernel_rfl) (by kernel_rfl) (fun _ _ _ h => h) hH rfl ?yoa1 ?roa1
    case yoa1 => intro W hSw; go_simp; try with_reducible rfl
    try simp only [Act.put, List.setIfInBounds_toArray, List.set_cons_zero, List.set_cons_succ]
    refine takeH 1 (v := ?voa2) rfl (by kernel_rfl) (by kernel_rfl) (by kernel_rfl) (fun _ _ _ h => h) hH rfl ?yoa2 ?roa2
    case yoa2 => intro W hSw; go_simp; try with_reducible rfl
    try simp only [Act.put, List.setIfInBounds_toArray, List.set_cons_zero, List.set_cons_succ]
    refine takeH 2 (v := ?voa3) rfl (by kernel_rfl) (by kernel_rfl) (by kernel_rfl) (fun _ _ _ h => h) hH rfl ?yoa3 ?roa3
    case yoa3 => intro W hSw; go_simp; try with_reducible rfl
    try simp only [Act.put, List.setIfInBounds_toArray, List.set_cons_zero, List.set_cons_succ]
    refine takeH 3 (v := .bool true) rfl (by kernel_rfl) (by kernel_rfl) (by kernel_rfl) (fun _ _ _ h => h) hH rfl ?yoa4 ?roa4
    case yoa4 => intro W hSw; go_simp; first | done | simp only [hne'] | omega | (simp; omega)
    try simp only [Act.put, List.setIfInBounds_toArray, List.set_cons_zero, List.set_cons_succ]
    refine takeH 4 (v := ?voa5) rfl (by kernel_rfl) (by kernel_rfl) (by kernel_rfl) (fun _ _ _ h => h) hH rfl ?yoa5 ?roa5
    case yoa5 => intro W hSw; go_simp; try with_reducible rfl
    try simp only [Act.put, List.setIfInBounds_toArray, List.set_cons_zero, List.set_cons_succ]
    refine skipH 5 rfl (by kernel_rfl) (by kernel_rfl) (by kernel_rfl) (fun _ _ _ h => h) hH rfl ?_
    try simp only [Act.put, List.setIfInBounds_toArray, List.set_cons_zero, List.set_cons_succ]
    refine skipH 6 rfl (by kernel_rfl) (by kernel_rfl) (by kernel_rfl) (fun _ _ _ h => h) hH rfl ?_
    try simp only [Act.put, List.setIfInBounds_toArray, List.set_cons_zero, List.set_cons_succ]
    refine skipH 7 rfl (by kernel_rfl) (by kernel_rfl) (by kernel_rfl) (fun _ _ _ h => h) hH rfl ?_
    try simp only [Act.put, List.setIfInBounds_toArray, List.set_cons_zero, List.set_cons_succ]
    refine skipH 8 rfl (by kernel_rfl) (by kernel_rfl) (by kernel_rfl) (fun _ _ _ h => h) hH rfl ?_
    try simp only [Act.put, List.setIfInBounds_toArray, List.set_cons_zero, List.set_cons_succ]
    refine skipH 9 rfl (by kernel_rfl) (by kernel_rfl) (by kernel_rfl) (fun _ _ _ h => h) hH rfl ?_
    try simp only [Act.put, List.setIfInBounds_toArray, List.set_cons_zero, List.set_cons_succ]
    refine skipH 10 rfl (by kernel_rfl) (by kernel_rfl) (by kernel_rfl) (fun _ _ _ h => h) hH rfl ?_
    try simp only [Act.put, List.setIfInBounds_toArray, List.set_cons_zero, List.set_cons_succ]
    refine skipH 11 rfl (by kernel_rfl) (by kernel_rfl) (by kernel_rfl) (fun _ _ _ h => h) hH rfl ?_
    try simp only [Act.put, List.setIfInBounds_toArray, List.set_cons_zero, List.set_cons_succ]
    refine takeH 12 (v := ?voa6) rfl (by kernel_rfl) (by kernel_rfl) (by kernel_rfl) (fun _ _ _ h => h) hH rfl ?yoa6 ?roa6
    case yoa6 => intro W hSw; go_simp; try with_reducible rfl
    try simp only [Act.put, List.setIfInBounds_toArray, List.set_cons_zero, List.set_cons_succ]
    refine takeH 13 (v := ?voa7) rfl (by kernel_rfl) (by kernel_rfl) (by kernel_rfl) (fun _ _ _ h => h) hH rfl ?yoa7 ?roa7
    case yoa7 => intro W hSw; go_simp; try with_reducible rfl
    try simp only [Act.put, List.setIfInBounds_toArray, List.set_cons_zero, List.set_cons_succ]
    refine wpAnyH_done (by kernel_rfl) ?_ _
    try simp only [Act.put]
    clear hH
    go_wp2
    go_ret
    exact ⟨by first | rfl | exact ret_bool (by simp) | exact ret_bool (by simp; omega), Hb.out⟩
  have hp := p102 (f := f) (l := l) (b := ⟨bd, ba, br, bs⟩) (a := n) Hz.out.1 hne
  rw [← Hz.out.2.1] at hp
  have hne' : (n == ba) = false := by rw [beq_eq_false_iff_ne]; exact hne
  obtain ⟨N, hN⟩ : ∃ N, N = uzZ f l n := ⟨_, rfl⟩
  rw [← hN] at hp
  have HU1 := Lib.hid (fun W (h : Bts W G (.slice ao G.length co) fo) => impl_StoreUsed f G _ fo n W (by omega) h)
  rw [hp] at HU1
  have HU2 := Lib.hid (fun W (h : Bts W l (.slice ax l.length cx) fx) => impl_StoreUsed f l _ fx n W (by omega) h)
  rw [← hN] at HU2
  clear hne hp hN
  have cx_0 := Sx.out.cell 0 (v := .int .i64 f) rfl
  have cx_1 := Sx.out.cell 1 (v := .slice ax l.length cx) rfl
  have cb_0 := Sb.out.cell 0 (v := .int .i64 bd) rfl
  have cb_1 := Sb.out.cell 1 (v := .int .i64 ba) rfl
  have cb_2 := Sb.out.cell 2 (v := .int .i64 br) rfl
  have cb_3 := Sb.out.cell 3 (v := .int .i64 bs) rfl
  have co_0 := So.out.cell 0 (v := .int .i64 f) rfl
  have co_1 := So.out.cell 1 (v := .slice ao G.length co) rfl
  go_wp2_with fail
  refine wp_region_held_drew (S := fun W' => W'.cell? ⟨w1.heap.size, 0, none⟩ = some (.int .i64 f) ∧ W'.cell? ⟨w1.heap.size, 1, none⟩ = some (.slice ax l.length cx) ∧ W'.cell? ⟨w1.heap.size + 1, 0, none⟩ = some (.int .i64 bd) ∧ W'.cell? ⟨w1.heap.size + 1, 1, none⟩ = some (.int .i64 ba) ∧ W'.cell? ⟨w1.heap.size + 1, 2, none⟩ = some (.int .i64 br) ∧ W'.cell? ⟨w1.heap.size + 1, 3, none⟩ = some (.int .i64 bs) ∧ W'.cell? ⟨w3.heap.size, 0, none⟩ = some (.int .i64 f) ∧ W'.cell? ⟨w3.heap.size, 1, none⟩ = some (.slice ao G.length co)) (by kernel_rfl) ⟨Sx.out.cell 0 (v := .int .i64 f) rfl, Sx.out.cell 1 (v := .slice ax l.length cx) rfl, Sb.out.cell 0 (v := .int .i64 bd) rfl, Sb.out.cell 1 (v := .int .i64 ba) rfl, Sb.out.cell 2 (v := .int .i64 br) rfl, Sb.out.cell 3 (v := .int .i64 bs) rfl, So.out.cell 0 (v := .int .i64 f) rfl, So.out.cell 1 (v := .slice ao G.length co) rfl⟩ (fun hH => ?_)
  clear cx_0 cx_1 cb_0 cb_1 cb_2 cb_3 co_0 co_1
  have hdr : Below w7.heap.size w7 w7.drew := (Below.refl _ _).drew
  have Tx := Lib.hid (show Bts w7.drew l (.slice ax l.length cx) fx from Tx.out.under hdr)
  have To := Lib.hid (show Bts w7.drew G (.slice ao G.length co) fo from To.out.under hdr)
  have Sx := Lib.hid (show Str w7.drew (w1.heap.size) 25 #[.int .i64 f, .slice ax l.length cx] from (hdr.block _ Sx.out.lt).trans Sx.out)
  have Sb := Lib.hid (show Str w7.drew (w1.heap.size + 1) 27 #[.int .i64 bd, .int .i64 ba, .int .i64 br, .int .i64 bs] from (hdr.block _ Sb.out.lt).trans Sb.out)
  have So := Lib.hid (show Str w7.drew (w3.heap.size) 25 #[.int .i64 f, .slice ao G.length co] from (hdr.block _ So.out.lt).trans So.out)
  have hsw7.drew := hdr.size
  have Hb := Lib.hid (below_step Hb.out Hb.out.size hdr)
  clear hdr
  generalize w7.drew = wd at *
  refine takeH 0 (v := ?vob1) rfl (by kernel_rfl) (by kernel_rfl) (by kernel_rfl) (fun _ _ _ h => h) hH rfl ?yob1 ?rob1
  case yob1 => intro W hSw; go_simp; try with_reducible rfl
  try simp only [Act.put, List.setIfInBounds_toArray, List.set_cons_zero, List.set_cons_succ]
  refine takeH 1 (v := ?vob2) rfl (by kernel_rfl) (by kernel_rfl) (by kernel_rfl) (fun _ _ _ h => h) hH rfl ?yob2 ?rob2
  case yob2 => intro W hSw; go_simp; try with_reducible rfl
  try simp only [Act.put, List.setIfInBounds_toArray, List.set_cons_zero, List.set_cons_succ]
  refine takeH 2 (v := ?vob3) rfl (by kernel_rfl) (by kernel_rfl) (by kernel_rfl) (fun _ _ _ h => h) hH rfl ?yob3 ?rob3
  case yob3 => intro W hSw; go_simp; try with_reducible rfl
  try simp only [Act.put, List.setIfInBounds_toArray, List.set_cons_zero, List.set_cons_succ]
  refine takeH 3 (v := .bool false) rfl (by kernel_rfl) (by kernel_rfl) (by kernel_rfl) (fun _ _ _ h => h) hH rfl ?yob4 ?rob4
  case yob4 => intro W hSw; go_simp; first | done | simp only [hne'] | omega | (simp; omega)
  try simp only [Act.put, List.setIfInBounds_toArray, List.set_cons_zero, List.set_cons_succ]
  refine takeH 4 (v := ?vob5) rfl (by kernel_rfl) (by kernel_rfl) (by kernel_rfl) (fun _ _ _ h => h) hH rfl ?yob5 ?rob5
  case yob5 => intro W hSw; go_simp; try with_reducible rfl
  try simp only [Act.put, List.setIfInBounds_toArray, List.set_cons_zero, List.set_cons_succ]
  refine takeH 5 (v := ?vob6) rfl (by kernel_rfl) (by kernel_rfl) (by kernel_rfl) (fun _ _ _ h => h) hH rfl ?yob6 ?rob6
  case yob6 => intro W hSw; go_simp; try with_reducible rfl
  try simp only [Act.put, List.setIfInBounds_toArray, List.set_cons_zero, List.set_cons_succ]
  refine takeH 6 (v := ?vob7) rfl (by kernel_rfl) (by kernel_rfl) (by kernel_rfl) (fun _ _ _ h => h) hH rfl ?yob7 ?rob7
  case yob7 => intro W hSw; go_simp; try with_reducible rfl
  try simp only [Act.put, List.setIfInBounds_toArray, List.set_cons_zero, List.set_cons_succ]
  refine takeH 8 (v := ?vob8) rfl (by kernel_rfl) (by kernel_rfl) (by kernel_rfl) (fun _ _ _ h => h) hH rfl ?yob8 ?rob8
  case yob8 => intro W hSw; go_simp; try with_reducible rfl
  try simp only [Act.put, List.setIfInBounds_toArray, List.set_cons_zero, List.set_cons_succ]
  refine takeH 9 (v := ?vob9) rfl (by kernel_rfl) (by kernel_rfl) (by kernel_rfl) (fun _ _ _ h => h) hH rfl ?yob9 ?rob9
  case yob9 => intro W hSw; go_simp; try with_reducible rfl
  try simp only [Act.put, List.setIfInBounds_toArray, List.set_cons_zero, List.set_cons_succ]
  refine callH 7 rfl (by kernel_rfl) rfl (fun K hK => ?_)
  go_simp
  go_at_call 14
  refine (HU1.out _ To.out).mono ?_
  rintro e we ⟨rfl, hb⟩
  have Tx := Lib.hid (show Bts we l (.slice ax l.length cx) fx from Tx.out.under hb)
  have To := Lib.hid (show Bts we G (.slice ao G.length co) fo from To.out.under hb)
  have Sx := Lib.hid (show Str we (w1.heap.size) 25 #[.int .i64 f, .slice ax l.length cx] from (hb.block _ Sx.out.lt).trans Sx.out)
  have Sb := Lib.hid (show Str we (w1.heap.size + 1) 27 #[.int .i64 bd, .int .i64 ba, .int .i64 br, .int .i64 bs] from (hb.block _ Sb.out.lt).trans Sb.out)
  have So := Lib.hid (show Str we (w3.heap.size) 25 #[.int .i64 f, .slice ao G.length co] from (hb.block _ So.out.lt).trans So.out)
  have hswe := hb.size
  have Hb := Lib.hid (below_step Hb.out Hb.out.size hb)
  clear hb
  refine hK.out _ _ ⟨Sx.out.cell 0 (v := .int .i64 f) rfl, Sx.out.cell 1 (v := .slice ax l.length cx) rfl, Sb.out.cell 0 (v := .int .i64 bd) rfl, Sb.out.cell 1 (v := .int .i64 ba) rfl, Sb.out.cell 2 (v := .int .i64 br) rfl, Sb.out.cell 3 (v := .int .i64 bs) rfl, So.out.cell 0 (v := .int .i64 f) rfl, So.out.cell 1 (v := .slice ao G.length co) rfl⟩ (fun hH => ?_)
  clear hK K
  try simp only [Act.put, List.setIfInBounds_toArray, List.set_cons_zero, List.set_cons_succ]
  refine callH 10 rfl (by kernel_rfl) rfl (fun K hK => ?_)
  go_simp
  go_at_call 14
  refine (HU2.out _ Tx.out).mono ?_
  rintro e wf ⟨rfl, hb⟩
  have Tx := Lib.hid (show Bts wf l (.slice ax l.length cx) fx from Tx.out.under hb)
  have To := Lib.hid (show Bts wf G (.slice ao G.length co) fo from To.out.under hb)
  have Sx := Lib.hid (show Str wf (w1.heap.size) 25 #[.int .i64 f, .slice ax l.length cx] from (hb.block _ Sx.out.lt).trans Sx.out)
  have Sb := Lib.hid (show Str wf (w1.heap.size + 1) 27 #[.int .i64 bd, .int .i64 ba, .int .i64 br, .int .i64 bs] from (hb.block _ Sb.out.lt).trans Sb.out)
  have So := Lib.hid (show Str wf (w3.heap.size) 25 #[.int .i64 f, .slice ao G.length co] from (hb.block _ So.out.lt).trans So.out)
  have hswf := hb.size
  have Hb := Lib.hid (below_step Hb.out Hb.out.size hb)
  clear hb
  refine hK.out _ _ ⟨Sx.out.cell 0 (v := .int .i64 f) rfl, Sx.out.cell 1 (v := .slice ax l.length cx) rfl, Sb.out.cell 0 (v := .int .i64 bd) rfl, Sb.out.cell 1 (v := .int .i64 ba) rfl, Sb.out.cell 2 (v := .int .i64 br) rfl, Sb.out.cell 3 (v := .int .i64 bs) rfl, So.out.cell 0 (v := .int .i64 f) rfl, So.out.cell 1 (v := .slice ao G.length co) rfl⟩ (fun hH => ?_)
  clear hK K
  try simp only [Act.put, List.setIfInBounds_toArray, List.set_cons_zero, List.set_cons_succ]
  refine takeH 11 (v := ?vob10) rfl (by kernel_rfl) (by kernel_rfl) (by kernel_rfl) (fun _ _ _ h => h) hH rfl ?yob10 ?rob10
  case yob10 => intro W hSw; go_simp; try with_reducible rfl
  try simp only [Act.put, List.setIfInBounds_toArray, List.set_cons_zero, List.set_cons_succ]
  refine takeH 12 (v := ?vob11) rfl (by kernel_rfl) (by kernel_rfl) (by kernel_rfl) (fun _ _ _ h => h) hH rfl ?yob11 ?rob11
  case yob11 => intro W hSw; go_simp; try with_reducible rfl
  try simp only [Act.put, List.setIfInBounds_toArray, List.set_cons_zero, List.set_cons_succ]
  refine takeH 13 (v := ?vob12) rfl (by kernel_rfl) (by kernel_rfl) (by kernel_rfl) (fun _ _ _ h => h) hH rfl ?yob12 ?rob12
  case yob12 => intro W hSw; go_simp; try with_reducible rfl
  try simp only [Act.put, List.setIfInBounds_toArray, List.set_cons_zero, List.set_cons_succ]
  refine wpAnyH_done (by kernel_rfl) ?_ _
  try simp only [Act.put]
  clear hH
  go_wp2
  go_ret
  exact ⟨by first | rfl | exact ret_bool (by simp) | exact ret_bool (by simp; omega), Hb.out⟩

theorem fnStoreOthers_own : ownKnob Try.prog.godebug = none := by kernel_rfl
theorem fnStoreOthers_laidOut : laidOutB Try.prog = true := by kernel_rfl

set_option maxRecDepth 8000 in
theorem fnStoreOthers_lifted (os : Os) (started : os.Started) (H : Type) (enc : TypeId × Value → H) :
    ReturnsInHanded {} Try.checked os 3 .any (Rows.fnStoreOthersSpec.pre6 enc Try.prog Try.f3 Rows.fnStoreOthersRow.domain false) (Rows.fnStoreOthersSpec.post enc Try.prog Try.f3 false true false false) := by
  refine law_lifted (C := Try.checked) (tb := 4) fnStoreOthers_own fnStoreOthers_laidOut started (by kernel_rfl) Try.func3 rfl Try.underlying4 rfl (by rw [Try.params3]; exact of_decide_eq_true (by kernel_rfl)) ?_
    (ChangeSpec.witness6 (enc := enc) (C := Try.checked) false ⟨#[], #[.slice none 0 0, .slice none 0 0], []⟩ 8 (by kernel_rfl) (by kernel_rfl) (by kernel_rfl) (by kernel_rfl)) ?_
  · intro ds hds
    rw [Try.params3] at hds
    match ds, hds with
    | [d0, d1], _ => rfl
  · intro W base args ds p hval0 hA0
    have hval : ∀ (j : Nat) t v, Try.f3.params[j]? = some t → args[j]? = some v → Value.okWide Try.prog W .any base t v := hval0
    have hA : DataW.TrodAll enc Try.prog W 0 (fun _ => true) true Try.f3.params.toList args.toList ds p := hA0
    rw [Try.params3] at hA hval
    obtain ⟨v0, vs0, d0, ds0, p0, q0, hargs0, rfl, rfl, h0, r0⟩ := trodAll_cons hA
    obtain ⟨v1, vs1, d1, ds1, p1, q1, hargs1, rfl, rfl, h1, r1⟩ := trodAll_cons r0
    obtain ⟨hnil, rfl, rfl⟩ := trodAll_nil r1
    subst hnil
    subst hargs1
    obtain rfl : args = #[v0, v1] := by cases args; simp_all
    obtain ⟨a0, cap0, zs0, rfl, hk0, hm0, hi0, hw0⟩ := open_slice_ints Try.underlying22 Try.underlying5 (by kernel_rfl) (hval 0 22 v0 rfl rfl) h0
    obtain ⟨a1, cap1, zs1, rfl, hk1, hm1, hi1, hw1⟩ := open_slice_ints Try.underlying22 Try.underlying5 (by kernel_rfl) (hval 1 22 v1 rfl rfl) h1
    exact fnStoreOthers_walk a0 cap0 zs0 a1 cap1 zs1 W hk0 hm0 hi0 hw0 hk1 hm1 hi1 hw1

set_option maxRecDepth 8000 in
theorem fnStoreOthers_holds : Rows.FnStoreOthersSaid :=
  OpenClaim.holds_of_wide 3 Try.f3 rfl rfl rfl rfl rfl rfl rfl ⟨rfl, rfl, rfl, rfl, rfl⟩ rfl rfl rfl rfl rfl (by kernel_rfl) Try.func3 (by kernel_rfl)
    (of_decide_eq_true (by kernel_rfl)) (by unfold Func.isWrapper; first | (rw [if_pos (by decide +kernel)]; kernel_rfl) | (rw [if_neg (by decide +kernel)]; exact ⟨rfl, rfl⟩))
    (fun os started H enc _ => fnStoreOthers_lifted os started H enc)

end Go.Proofs.Ythojbcecbeapgab
