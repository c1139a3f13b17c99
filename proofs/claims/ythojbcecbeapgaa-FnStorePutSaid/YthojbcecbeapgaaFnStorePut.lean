/- Law FnStorePut holds for every input; no conditions of our own. -/
import Derived.Test.YthojbcecbeapgaaRows
import Derived.Test.YthojbcecbeapgaaBu0
import Derived.Test.YthojbcecbeapgaaBu1
import Derived.Test.YthojbcecbeapgaaBu2
import Derived.Test.YthojbcecbeapgaaBu3
import Derived.Test.YthojbcecbeapgaaBu4
import Derived.Deep.QuietTactic
import Derived.BigQuiet
namespace Go.Proofs.Ythojbcecbeapgaa
open Go.ChangeShapes Go.WideShapes Go.ChangeAt Go.RowKit

set_option maxHeartbeats 4000000 in
theorem fnStorePut_walk (a : Option Addr) (cap : Nat) (zs : List Int) (w : World) (hk : zs.length ≤ cap) (_hm : zs.length ≤ maxLen) (hi : zs = [] ∨ ∃ b off, a = some ⟨b, off, none⟩ ∧ b < w.heap.size ∧ ∀ j (h : j < zs.length), w.cell? ⟨b, off + j, none⟩ = some (.int .u8 zs[j])) (hw : ∀ z ∈ zs, (Lit.int .u8 z).wf = true) :
    Calls Try.prog 3 #[.slice a zs.length cap] w fun e w' => e = .returned (.bool true) ∧ Below w.heap.size w w' := by
  by_cases hl : 1048576 < zs.length
  · go_enter Try.func3, Try.ntmps3
    go_wp2
    go_ret
    exact ⟨rfl, Below.refl _ _⟩
  have hcode := codeAt_of hk (by omega) hi hw
  have Hcode := Lib.hid hcode; clear hcode hi hw
  go_enter Try.func3, Try.ntmps3
  go_wp2_with fail
  refine (spec_DrawStorePut a cap zs _ Hcode.out).mono ?_
  rintro e w1 ⟨f, l, ux, ⟨bd, ba, br, bs⟩, rfl, ho, hl13, hb1⟩
  unfold agB
  dsimp only at *
  obtain ⟨ax, cx, rfl, _⟩ := OwnB.sl (l := l) ho
  obtain ⟨fx, hx⟩ := OwnB.bts (l := l) ho
  have Tx := Lib.hid hx
  have Hb := Lib.hid hb1
  clear ho hx hb1
  have hal : Below w1.heap.size w1 (w1.alloc (.cells #[.int .i64 f, .slice ax l.length cx] 25)) := (Below.refl _ _).alloc (Nat.le_refl _) _
  have Tx := Lib.hid (show Bts (w1.alloc (.cells #[.int .i64 f, .slice ax l.length cx] 25)) l (.slice ax l.length cx) fx from Tx.out.under hal)
  have Sx := Lib.hid (Str.new w1 25 #[.int .i64 f, .slice ax l.length cx])
  have Hb := Lib.hid (below_step Hb.out Hb.out.size hal)
  clear hal
  have hal : Below (w1.alloc (.cells #[.int .i64 f, .slice ax l.length cx] 25)).heap.size (w1.alloc (.cells #[.int .i64 f, .slice ax l.length cx] 25)) ((w1.alloc (.cells #[.int .i64 f, .slice ax l.length cx] 25)).alloc (.cells #[.int .i64 bd, .int .i64 ba, .int .i64 br, .int .i64 bs] 27)) := (Below.refl _ _).alloc (Nat.le_refl _) _
  have Tx := Lib.hid (show Bts ((w1.alloc (.cells #[.int .i64 f, .slice ax l.length cx] 25)).alloc (.cells #[.int .i64 bd, .int .i64 ba, .int .i64 br, .int .i64 bs] 27)) l (.slice ax l.length cx) fx from Tx.out.under hal)
  have Sx := Lib.hid (show Str ((w1.alloc (.cells #[.int .i64 f, .slice ax l.length cx] 25)).alloc (.cells #[.int .i64 bd, .int .i64 ba, .int .i64 br, .int .i64 bs] 27)) (w1.heap.size) 25 #[.int .i64 f, .slice ax l.length cx] from Sx.out.alloc _)
  have Sb := Lib.hid (Str.new (w1.alloc (.cells #[.int .i64 f, .slice ax l.length cx] 25)) 27 #[.int .i64 bd, .int .i64 ba, .int .i64 br, .int .i64 bs])
  have Hb := Lib.hid (below_step Hb.out Hb.out.size hal)
  clear hal
  have Sb := Lib.hid (show Str ((w1.alloc (.cells #[.int .i64 f, .slice ax l.length cx] 25)).alloc (.cells #[.int .i64 bd, .int .i64 ba, .int .i64 br, .int .i64 bs] 27)) (w1.heap.size + 1) 27 #[.int .i64 bd, .int .i64 ba, .int .i64 br, .int .i64 bs] by have h9 := Sb.out; simp only [World.size_alloc] at h9; exact h9)
  obtain ⟨C, hC⟩ : ∃ C, C = puC f l ⟨bd, ba, br, bs⟩ := ⟨_, rfl⟩
  obtain ⟨G, hG⟩ : ∃ G, G = puL f l ⟨bd, ba, br, bs⟩ := ⟨_, rfl⟩
  obtain ⟨F, hF⟩ : ∃ F, F = puF f l ⟨bd, ba, br, bs⟩ := ⟨_, rfl⟩
  have hGl := puL_len f l ⟨bd, ba, br, bs⟩
  rw [← hG] at hGl
  have HI := Lib.hid (fun W (h : Bts W l (.slice ax l.length cx) fx) => impl_StorePut f l _ fx ⟨bd, ba, br, bs⟩ W (by omega) h)
  have HS := Lib.hid (fun W (h : Bts W l (.slice ax l.length cx) fx) => spec_StorePut f l _ fx bd ba br bs W (by omega) h)
  unfold PuP agB at HI
  unfold SqP agB at HS
  rw [← hC, ← hG, ← hF] at HI HS
  have HC := Lib.hid hC; have HG := Lib.hid hG; have HF := Lib.hid hF
  clear hC hG hF
  have cx_0 := Sx.out.cell 0 (v := .int .i64 f) rfl
  have cx_1 := Sx.out.cell 1 (v := .slice ax l.length cx) rfl
  have cb_0 := Sb.out.cell 0 (v := .int .i64 bd) rfl
  have cb_1 := Sb.out.cell 1 (v := .int .i64 ba) rfl
  have cb_2 := Sb.out.cell 2 (v := .int .i64 br) rfl
  have cb_3 := Sb.out.cell 3 (v := .int .i64 bs) rfl
  go_wp2_with fail
  generalize ((w1.alloc (.cells #[.int .i64 f, .slice ax l.length cx] 25)).alloc (.cells #[.int .i64 bd, .int .i64 ba, .int .i64 br, .int .i64 bs] 27)) = W2 at *
  clear cx_0 cx_1 cb_0 cb_1 cb_2 cb_3
  refine (HI.out _ Tx.out).mono ?_
  rintro e w3 ⟨vo, rfl, ho, hb⟩
  obtain ⟨ao, co, rfl, _⟩ := OwnB.sl (l := G) ho
  obtain ⟨fo, hT⟩ := OwnB.bts (l := G) ho
  clear ho
  have Tx := Lib.hid (show Bts w3 l (.slice ax l.length cx) fx from Tx.out.under hb)
  have Sx := Lib.hid (show Str w3 (w1.heap.size) 25 #[.int .i64 f, .slice ax l.length cx] from (hb.block _ Sx.out.lt).trans Sx.out)
  have Sb := Lib.hid (show Str w3 (w1.heap.size + 1) 27 #[.int .i64 bd, .int .i64 ba, .int .i64 br, .int .i64 bs] from (hb.block _ Sb.out.lt).trans Sb.out)
  have hsw3 := hb.size
  have Hb := Lib.hid (below_step Hb.out Hb.out.size hb)
  have To := Lib.hid hT
  clear hT hb
  have hal : Below w3.heap.size w3 (w3.alloc (.cells #[.int .i64 F, .slice ao G.length co] 25)) := (Below.refl _ _).alloc (Nat.le_refl _) _
  have Tx := Lib.hid (show Bts (w3.alloc (.cells #[.int .i64 F, .slice ao G.length co] 25)) l (.slice ax l.length cx) fx from Tx.out.under hal)
  have To := Lib.hid (show Bts (w3.alloc (.cells #[.int .i64 F, .slice ao G.length co] 25)) G (.slice ao G.length co) fo from To.out.under hal)
  have Sx := Lib.hid (show Str (w3.alloc (.cells #[.int .i64 F, .slice ao G.length co] 25)) (w1.heap.size) 25 #[.int .i64 f, .slice ax l.length cx] from Sx.out.alloc _)
  have Sb := Lib.hid (show Str (w3.alloc (.cells #[.int .i64 F, .slice ao G.length co] 25)) (w1.heap.size + 1) 27 #[.int .i64 bd, .int .i64 ba, .int .i64 br, .int .i64 bs] from Sb.out.alloc _)
  have So := Lib.hid (Str.new w3 25 #[.int .i64 F, .slice ao G.length co])
  have Hb := Lib.hid (below_step Hb.out Hb.out.size hal)
  clear hal
  have cx_0 := Sx.out.cell 0 (v := .int .i64 f) rfl
  have cx_1 := Sx.out.cell 1 (v := .slice ax l.length cx) rfl
  have cb_0 := Sb.out.cell 0 (v := .int .i64 bd) rfl
  have cb_1 := Sb.out.cell 1 (v := .int .i64 ba) rfl
  have cb_2 := Sb.out.cell 2 (v := .int .i64 br) rfl
  have cb_3 := Sb.out.cell 3 (v := .int .i64 bs) rfl
  have co_0 := So.out.cell 0 (v := .int .i64 F) rfl
  have co_1 := So.out.cell 1 (v := .slice ao G.length co) rfl
  go_wp2_with fail
  generalize (w3.alloc (.cells #[.int .i64 F, .slice ao G.length co] 25)) = W4 at *
  clear cx_0 cx_1 cb_0 cb_1 cb_2 cb_3 co_0 co_1
  refine (HS.out _ Tx.out).mono ?_
  rintro e w5 ⟨vk, rfl, ho, hb⟩
  obtain ⟨ak, ck, rfl, _⟩ := OwnB.sl (l := G) ho
  obtain ⟨fk, hT⟩ := OwnB.bts (l := G) ho
  clear ho
  have Tx := Lib.hid (show Bts w5 l (.slice ax l.length cx) fx from Tx.out.under hb)
  have To := Lib.hid (show Bts w5 G (.slice ao G.length co) fo from To.out.under hb)
  have Sx := Lib.hid (show Str w5 (w1.heap.size) 25 #[.int .i64 f, .slice ax l.length cx] from (hb.block _ Sx.out.lt).trans Sx.out)
  have Sb := Lib.hid (show Str w5 (w1.heap.size + 1) 27 #[.int .i64 bd, .int .i64 ba, .int .i64 br, .int .i64 bs] from (hb.block _ Sb.out.lt).trans Sb.out)
  have So := Lib.hid (show Str w5 (w3.heap.size) 25 #[.int .i64 F, .slice ao G.length co] from (hb.block _ So.out.lt).trans So.out)
  have hsw5 := hb.size
  have Hb := Lib.hid (below_step Hb.out Hb.out.size hb)
  have Tk := Lib.hid hT
  clear hT hb
  have hal : Below w5.heap.size w5 (w5.alloc (.cells #[.int .i64 F, .slice ak G.length ck] 25)) := (Below.refl _ _).alloc (Nat.le_refl _) _
  have Tx := Lib.hid (show Bts (w5.alloc (.cells #[.int .i64 F, .slice ak G.length ck] 25)) l (.slice ax l.length cx) fx from Tx.out.under hal)
  have To := Lib.hid (show Bts (w5.alloc (.cells #[.int .i64 F, .slice ak G.length ck] 25)) G (.slice ao G.length co) fo from To.out.under hal)
  have Tk := Lib.hid (show Bts (w5.alloc (.cells #[.int .i64 F, .slice ak G.length ck] 25)) G (.slice ak G.length ck) fk from Tk.out.under hal)
  have Sx := Lib.hid (show Str (w5.alloc (.cells #[.int .i64 F, .slice ak G.length ck] 25)) (w1.heap.size) 25 #[.int .i64 f, .slice ax l.length cx] from Sx.out.alloc _)
  have Sb := Lib.hid (show Str (w5.alloc (.cells #[.int .i64 F, .slice ak G.length ck] 25)) (w1.heap.size + 1) 27 #[.int .i64 bd, .int .i64 ba, .int .i64 br, .int .i64 bs] from Sb.out.alloc _)
  have So := Lib.hid (show Str (w5.alloc (.cells #[.int .i64 F, .slice ak G.length ck] 25)) (w3.heap.size) 25 #[.int .i64 F, .slice ao G.length co] from So.out.alloc _)
  have Sk := Lib.hid (Str.new w5 25 #[.int .i64 F, .slice ak G.length ck])
  have Hb := Lib.hid (below_step Hb.out Hb.out.size hal)
  clear hal
  clear HI HS
  have cx_0 := Sx.out.cell 0 (v := .int .i64 f) rfl
  have cx_1 := Sx.out.cell 1 (v := .slice ax l.length cx) rfl
  have cb_0 := Sb.out.cell 0 (v := .int .i64 bd) rfl
  have cb_1 := Sb.out.cell 1 (v := .int .i64 ba) rfl
  have cb_2 := Sb.out.cell 2 (v := .int .i64 br) rfl
  have cb_3 := Sb.out.cell 3 (v := .int .i64 bs) rfl
  have co_0 := So.out.cell 0 (v := .int .i64 F) rfl
  have co_1 := So.out.cell 1 (v := .slice ao G.length co) rfl
  have ck_0 := Sk.out.cell 0 (v := .int .i64 F) rfl
  have ck_1 := Sk.out.cell 1 (v := .slice ak G.length ck) rfl
  go_wp2_with fail
  generalize (w5.alloc (.cells #[.int .i64 F, .slice ak G.length ck] 25)) = W6 at *
  clear cx_0 cx_1 cb_0 cb_1 cb_2 cb_3 co_0 co_1 ck_0 ck_1
  refine (laws_sameStore F F G G _ _ fo fk _ (by omega) (by omega) To.out Tk.out).mono ?_
  rintro e w7 ⟨rfl, hb⟩
  rw [decide_eq_true (show F = F ∧ G = G from ⟨rfl, rfl⟩)]
  have Tx := Lib.hid (show Bts w7 l (.slice ax l.length cx) fx from Tx.out.under hb)
  have To := Lib.hid (show Bts w7 G (.slice ao G.length co) fo from To.out.under hb)
  have Tk := Lib.hid (show Bts w7 G (.slice ak G.length ck) fk from Tk.out.under hb)
  have Sx := Lib.hid (show Str w7 (w1.heap.size) 25 #[.int .i64 f, .slice ax l.length cx] from (hb.block _ Sx.out.lt).trans Sx.out)
  have Sb := Lib.hid (show Str w7 (w1.heap.size + 1) 27 #[.int .i64 bd, .int .i64 ba, .int .i64 br, .int .i64 bs] from (hb.block _ Sb.out.lt).trans Sb.out)
  have So := Lib.hid (show Str w7 (w3.heap.size) 25 #[.int .i64 F, .slice ao G.length co] from (hb.block _ So.out.lt).trans So.out)
  have Sk := Lib.hid (show Str w7 (w5.heap.size) 25 #[.int .i64 F, .slice ak G.length ck] from (hb.block _ Sk.out.lt).trans Sk.out)
  have hsw7 := hb.size
  have Hb := Lib.hid (below_step Hb.out Hb.out.size hb)
  clear hb
  by_cases h0 : C = 0
  case neg =>
    have h0' : (C == 0) = false := by rw [beq_eq_false_iff_ne]; exact h0
    have h0n : (C != 0) = true := by rw [bne, h0']; rfl
    clear h0
    have cx_0 := Sx.out.cell 0 (v := .int .i64 f) rfl
    have cx_1 := Sx.out.cell 1 (v := .slice ax l.length cx) rfl
    have cb_0 := Sb.out.cell 0 (v := .int .i64 bd) rfl
    have cb_1 := Sb.out.cell 1 (v := .int .i64 ba) rfl
    have cb_2 := Sb.out.cell 2 (v := .int .i64 br) rfl
    have cb_3 := Sb.out.cell 3 (v := .int .i64 bs) rfl
    have co_0 := So.out.cell 0 (v := .int .i64 F) rfl
    have co_1 := So.out.cell 1 (v := .slice ao G.length co) rfl
    have ck_0 := Sk.out.cell 0 (v := .int .i64 F) rfl
    have ck_1 := Sk.out.cell 1 (v := .slice ak G.length ck) rfl
    go_wp2_with fail
    clear cx_0 cx_1 cb_0 cb_1 cb_2 cb_3 co_0 co_1 ck_0 ck_1
    refine (laws_sameStore F F G G _ _ fo fk _ (by omega) (by omega) To.out Tk.out).mono ?_
    rintro e w8 ⟨rfl, hb⟩
    rw [decide_eq_true (show F = F ∧ G = G from ⟨rfl, rfl⟩)]
    have Tx := Lib.hid (show Bts w8 l (.slice ax l.length cx) fx from Tx.out.under hb)
    have To := Lib.hid (show Bts w8 G (.slice ao G.length co) fo from To.out.under hb)
    have Tk := Lib.hid (show Bts w8 G (.slice ak G.length ck) fk from Tk.out.under hb)
    have Sx := Lib.hid (show Str w8 (w1.heap.size) 25 #[.int .i64 f, .slice ax l.length cx] from (hb.block _ Sx.out.lt).trans Sx.out)
    have Sb := Lib.hid (show Str w8 (w1.heap.size + 1) 27 #[.int .i64 bd, .int .i64 ba, .int .i64 br, .int .i64 bs] from (hb.block _ Sb.out.lt).trans Sb.out)
    have So := Lib.hid (show Str w8 (w3.heap.size) 25 #[.int .i64 F, .slice ao G.length co] from (hb.block _ So.out.lt).trans So.out)
    have Sk := Lib.hid (show Str w8 (w5.heap.size) 25 #[.int .i64 F, .slice ak G.length ck] from (hb.block _ Sk.out.lt).trans Sk.out)
    have hsw8 := hb.size
    have Hb := Lib.hid (below_step Hb.out Hb.out.size hb)
    clear hb
    go_wp2
    go_ret
    exact ⟨by first | rfl | exact ret_bool (by simp) | exact ret_bool (by simp; omega), Hb.out⟩
  have h0' : (C == 0) = true := by rw [beq_iff_eq]; exact h0
  have h0n : (C != 0) = false := by rw [bne, h0']; rfl
  clear Tk
  clear Sk
  have Hz := Lib.hid (show puC f l ⟨bd, ba, br, bs⟩ = 0 ∧ G = inS l ⟨bd, ba, br, bs⟩ ∧ F = f from ⟨by rw [← HC.out]; exact h0, by rw [HG.out]; exact (puL_zero (by rw [← HC.out]; exact h0)).1, by rw [HF.out]; exact (puL_zero (by rw [← HC.out]; exact h0)).2⟩)
  have hFf : f = F := Hz.out.2.2.symm
  subst hFf
  clear h0
  have hp := p95 (f := f) (l := l) (b := ⟨bd, ba, br, bs⟩) Hz.out.1
  rw [← Hz.out.2.1] at hp
  dsimp only at hp
  obtain ⟨hg, hu, hv, hu0, hb1, hb2⟩ := hp
  have HGt := Lib.hid (fun W (h : Bts W G (.slice ao G.length co) fo) => impl_StoreGet f G _ fo bd W (by omega) h)
  rw [hg] at HGt
  unfold agB at HGt
  dsimp only at HGt
  obtain ⟨N, hN⟩ : ∃ N, N = uzZ f l ba := ⟨_, rfl⟩
  rw [← hN] at hu hu0
  have HU1 := Lib.hid (fun W (h : Bts W G (.slice ao G.length co) fo) => impl_StoreUsed f G _ fo ba W (by omega) h)
  rw [hu] at HU1
  have HU2 := Lib.hid (fun W (h : Bts W l (.slice ax l.length cx) fx) => impl_StoreUsed f l _ fx ba W (by omega) h)
  rw [← hN] at HU2
  have HVd := Lib.hid (fun W (h : Bts W G (.slice ao G.length co) fo) => impl_StoreValid f G _ fo W (by omega) h)
  rw [hv] at HVd
  clear hg hu hv hN
  have cx_0 := Sx.out.cell 0 (v := .int .i64 f) rfl
  have cx_1 := Sx.out.cell 1 (v := .slice ax l.length cx) rfl
  have cb_0 := Sb.out.cell 0 (v := .int .i64 bd) rfl
  have cb_1 := Sb.out.cell 1 (v := .int .i64 ba) rfl
  have cb_2 := Sb.out.cell 2 (v := .int .i64 br) rfl
  have cb_3 := Sb.out.cell 3 (v := .int .i64 bs) rfl
  have co_0 := So.out.cell 0 (v := .int .i64 f) rfl
  have co_1 := So.out.cell 1 (v := .slice ao G.length co) rfl
  go_wp2_with fail
  clear cx_0 cx_1 cb_0 cb_1 cb_2 cb_3 co_0 co_1
  refine (HGt.out _ To.out).mono ?_
  rintro e w8 ⟨rfl, hb⟩
  have Tx := Lib.hid (show Bts w8 l (.slice ax l.length cx) fx from Tx.out.under hb)
  have To := Lib.hid (show Bts w8 G (.slice ao G.length co) fo from To.out.under hb)
  have Sx := Lib.hid (show Str w8 (w1.heap.size) 25 #[.int .i64 f, .slice ax l.length cx] from (hb.block _ Sx.out.lt).trans Sx.out)
  have Sb := Lib.hid (show Str w8 (w1.heap.size + 1) 27 #[.int .i64 bd, .int .i64 ba, .int .i64 br, .int .i64 bs] from (hb.block _ Sb.out.lt).trans Sb.out)
  have So := Lib.hid (show Str w8 (w3.heap.size) 25 #[.int .i64 f, .slice ao G.length co] from (hb.block _ So.out.lt).trans So.out)
  have hsw8 := hb.size
  have Hb := Lib.hid (below_step Hb.out Hb.out.size hb)
  clear hb
  have hal : Below w8.heap.size w8 (w8.alloc (.cells #[.int .i64 bd, .int .i64 ba, .int .i64 br, .int .i64 bs] 27)) := (Below.refl _ _).alloc (Nat.le_refl _) _
  have Tx := Lib.hid (show Bts (w8.alloc (.cells #[.int .i64 bd, .int .i64 ba, .int .i64 br, .int .i64 bs] 27)) l (.slice ax l.length cx) fx from Tx.out.under hal)
  have To := Lib.hid (show Bts (w8.alloc (.cells #[.int .i64 bd, .int .i64 ba, .int .i64 br, .int .i64 bs] 27)) G (.slice ao G.length co) fo from To.out.under hal)
  have Sx := Lib.hid (show Str (w8.alloc (.cells #[.int .i64 bd, .int .i64 ba, .int .i64 br, .int .i64 bs] 27)) (w1.heap.size) 25 #[.int .i64 f, .slice ax l.length cx] from Sx.out.alloc _)
  have Sb := Lib.hid (show Str (w8.alloc (.cells #[.int .i64 bd, .int .i64 ba, .int .i64 br, .int .i64 bs] 27)) (w1.heap.size + 1) 27 #[.int .i64 bd, .int .i64 ba, .int .i64 br, .int .i64 bs] from Sb.out.alloc _)
  have So := Lib.hid (show Str (w8.alloc (.cells #[.int .i64 bd, .int .i64 ba, .int .i64 br, .int .i64 bs] 27)) (w3.heap.size) 25 #[.int .i64 f, .slice ao G.length co] from So.out.alloc _)
  have Sy := Lib.hid (Str.new w8 27 #[.int .i64 bd, .int .i64 ba, .int .i64 br, .int .i64 bs])
  have Hb := Lib.hid (below_step Hb.out Hb.out.size hal)
  clear hal
  have hq := fun W => eql_bt ⟨bd, ba, br, bs⟩ ⟨bd, ba, br, bs⟩ W
  rw [decide_eq_true (rfl : (⟨bd, ba, br, bs⟩ : Bt) = ⟨bd, ba, br, bs⟩)] at hq
  dsimp only at hq
  have hw : IntKind.i64.wrap (N + bs) = N + bs := IntWalk.i64_in _ (by omega)
  have cx_0 := Sx.out.cell 0 (v := .int .i64 f) rfl
  have cx_1 := Sx.out.cell 1 (v := .slice ax l.length cx) rfl
  have cb_0 := Sb.out.cell 0 (v := .int .i64 bd) rfl
  have cb_1 := Sb.out.cell 1 (v := .int .i64 ba) rfl
  have cb_2 := Sb.out.cell 2 (v := .int .i64 br) rfl
  have cb_3 := Sb.out.cell 3 (v := .int .i64 bs) rfl
  have co_0 := So.out.cell 0 (v := .int .i64 f) rfl
  have co_1 := So.out.cell 1 (v := .slice ao G.length co) rfl
  have cy_0 := Sy.out.cell 0 (v := .int .i64 bd) rfl
  have cy_1 := Sy.out.cell 1 (v := .int .i64 ba) rfl
  have cy_2 := Sy.out.cell 2 (v := .int .i64 br) rfl
  have cy_3 := Sy.out.cell 3 (v := .int .i64 bs) rfl
  go_wp2_with fail
  generalize (w8.alloc (.cells #[.int .i64 bd, .int .i64 ba, .int .i64 br, .int .i64 bs] 27)) = WD at *
  refine wp_region_held_drew (S := fun W' => W'.cell? ⟨w1.heap.size, 0, none⟩ = some (.int .i64 f) ∧ W'.cell? ⟨w1.heap.size, 1, none⟩ = some (.slice ax l.length cx) ∧ W'.cell? ⟨w1.heap.size + 1, 0, none⟩ = some (.int .i64 bd) ∧ W'.cell? ⟨w1.heap.size + 1, 1, none⟩ = some (.int .i64 ba) ∧ W'.cell? ⟨w1.heap.size + 1, 2, none⟩ = some (.int .i64 br) ∧ W'.cell? ⟨w1.heap.size + 1, 3, none⟩ = some (.int .i64 bs) ∧ W'.cell? ⟨w3.heap.size, 0, none⟩ = some (.int .i64 f) ∧ W'.cell? ⟨w3.heap.size, 1, none⟩ = some (.slice ao G.length co) ∧ W'.cell? ⟨w8.heap.size, 0, none⟩ = some (.int .i64 bd) ∧ W'.cell? ⟨w8.heap.size, 1, none⟩ = some (.int .i64 ba) ∧ W'.cell? ⟨w8.heap.size, 2, none⟩ = some (.int .i64 br) ∧ W'.cell? ⟨w8.heap.size, 3, none⟩ = some (.int .i64 bs)) (by kernel_rfl) ⟨Sx.out.cell 0 (v := .int .i64 f) rfl, Sx.out.cell 1 (v := .slice ax l.length cx) rfl, Sb.out.cell 0 (v := .int .i64 bd) rfl, Sb.out.cell 1 (v := .int .i64 ba) rfl, Sb.out.cell 2 (v := .int .i64 br) rfl, Sb.out.cell 3 (v := .int .i64 bs) rfl, So.out.cell 0 (v := .int .i64 f) rfl, So.out.cell 1 (v := .slice ao G.length co) rfl, Sy.out.cell 0 (v := .int .i64 bd) rfl, Sy.out.cell 1 (v := .int .i64 ba) rfl, Sy.out.cell 2 (v := .int .i64 br) rfl, Sy.out.cell 3 (v := .int .i64 bs) rfl⟩ (fun hH => ?_)
  clear cx_0 cx_1 cb_0 cb_1 cb_2 cb_3 co_0 co_1 cy_0 cy_1 cy_2 cy_3
  have hdr : Below WD.heap.size WD WD.drew := (Below.refl _ _).drew
  have Tx := Lib.hid (show Bts WD.drew l (.slice ax l.length cx) fx from Tx.out.under hdr)
  have To := Lib.hid (show Bts WD.drew G (.slice ao G.length co) fo from To.out.under hdr)
  have Sx := Lib.hid (show Str WD.drew (w1.heap.size) 25 #[.int .i64 f, .slice ax l.length cx] from (hdr.block _ Sx.out.lt).trans Sx.out)
  have Sb := Lib.hid (show Str WD.drew (w1.heap.size + 1) 27 #[.int .i64 bd, .int .i64 ba, .int .i64 br, .int .i64 bs] from (hdr.block _ Sb.out.lt).trans Sb.out)
  have So := Lib.hid (show Str WD.drew (w3.heap.size) 25 #[.int .i64 f, .slice ao G.length co] from (hdr.block _ So.out.lt).trans So.out)
  have Sy := Lib.hid (show Str WD.drew (w8.heap.size) 27 #[.int .i64 bd, .int .i64 ba, .int .i64 br, .int .i64 bs] from (hdr.block _ Sy.out.lt).trans Sy.out)
  have hsWD.drew := hdr.size
  have Hb := Lib.hid (below_step Hb.out Hb.out.size hdr)
  clear hdr
  generalize WD.drew = we at *
  refine takeH 0 (v := ?vpq1) rfl (by kernel_rfl) (by kernel_rfl) (by kernel_rfl) (fun _ _ _ h => h) hH rfl ?ypq1 ?rpq1
  case ypq1 => intro W hSw; go_simp; try with_reducible rfl
  try simp only [Act.put, List.setIfInBounds_toArray, List.set_cons_zero, List.set_cons_succ]
  refine takeH 1 (v := ?vpq2) rfl (by kernel_rfl) (by kernel_rfl) (by kernel_rfl) (fun _ _ _ h => h) hH rfl ?ypq2 ?rpq2
  case ypq2 => intro W hSw; go_simp; try with_reducible rfl
  try simp only [Act.put, List.setIfInBounds_toArray, List.set_cons_zero, List.set_cons_succ]
  refine takeH 2 (v := ?vpq3) rfl (by kernel_rfl) (by kernel_rfl) (by kernel_rfl) (fun _ _ _ h => h) hH rfl ?ypq3 ?rpq3
  case ypq3 => intro W hSw; go_simp; try with_reducible rfl
  try simp only [Act.put, List.setIfInBounds_toArray, List.set_cons_zero, List.set_cons_succ]
  refine takeH 3 (v := ?vpq4) rfl (by kernel_rfl) (by kernel_rfl) (by kernel_rfl) (fun _ _ _ h => h) hH rfl ?ypq4 ?rpq4
  case ypq4 => intro W hSw; go_simp; try with_reducible rfl
  try simp only [Act.put, List.setIfInBounds_toArray, List.set_cons_zero, List.set_cons_succ]
  refine takeH 4 (v := ?vpq5) rfl (by kernel_rfl) (by kernel_rfl) (by kernel_rfl) (fun _ _ _ h => h) hH rfl ?ypq5 ?rpq5
  case ypq5 => intro W hSw; have hqw := hq W; go_simp; try with_reducible rfl
  try simp only [Act.put, List.setIfInBounds_toArray, List.set_cons_zero, List.set_cons_succ]
  refine takeH 5 (v := ?vpq6) rfl (by kernel_rfl) (by kernel_rfl) (by kernel_rfl) (fun _ _ _ h => h) hH rfl ?ypq6 ?rpq6
  case ypq6 => intro W hSw; go_simp; try with_reducible rfl
  try simp only [Act.put, List.setIfInBounds_toArray, List.set_cons_zero, List.set_cons_succ]
  refine takeH 6 (v := ?vpq7) rfl (by kernel_rfl) (by kernel_rfl) (by kernel_rfl) (fun _ _ _ h => h) hH rfl ?ypq7 ?rpq7
  case ypq7 => intro W hSw; go_simp; try with_reducible rfl
  try simp only [Act.put, List.setIfInBounds_toArray, List.set_cons_zero, List.set_cons_succ]
  refine takeH 7 (v := ?vpq8) rfl (by kernel_rfl) (by kernel_rfl) (by kernel_rfl) (fun _ _ _ h => h) hH rfl ?ypq8 ?rpq8
  case ypq8 => intro W hSw; go_simp; try with_reducible rfl
  try simp only [Act.put, List.setIfInBounds_toArray, List.set_cons_zero, List.set_cons_succ]
  refine takeH 8 (v := ?vpq9) rfl (by kernel_rfl) (by kernel_rfl) (by kernel_rfl) (fun _ _ _ h => h) hH rfl ?ypq9 ?rpq9
  case ypq9 => intro W hSw; go_simp; try with_reducible rfl
  try simp only [Act.put, List.setIfInBounds_toArray, List.set_cons_zero, List.set_cons_succ]
  refine takeH 9 (v := ?vpq10) rfl (by kernel_rfl) (by kernel_rfl) (by kernel_rfl) (fun _ _ _ h => h) hH rfl ?ypq10 ?rpq10
  case ypq10 => intro W hSw; go_simp; try with_reducible rfl
  try simp only [Act.put, List.setIfInBounds_toArray, List.set_cons_zero, List.set_cons_succ]
  refine takeH 11 (v := ?vpq11) rfl (by kernel_rfl) (by kernel_rfl) (by kernel_rfl) (fun _ _ _ h => h) hH rfl ?ypq11 ?rpq11
  case ypq11 => intro W hSw; go_simp; try with_reducible rfl
  try simp only [Act.put, List.setIfInBounds_toArray, List.set_cons_zero, List.set_cons_succ]
  refine takeH 12 (v := ?vpq12) rfl (by kernel_rfl) (by kernel_rfl) (by kernel_rfl) (fun _ _ _ h => h) hH rfl ?ypq12 ?rpq12
  case ypq12 => intro W hSw; go_simp; try with_reducible rfl
  try simp only [Act.put, List.setIfInBounds_toArray, List.set_cons_zero, List.set_cons_succ]
  refine takeH 13 (v := ?vpq13) rfl (by kernel_rfl) (by kernel_rfl) (by kernel_rfl) (fun _ _ _ h => h) hH rfl ?ypq13 ?rpq13
  case ypq13 => intro W hSw; go_simp; try with_reducible rfl
  try simp only [Act.put, List.setIfInBounds_toArray, List.set_cons_zero, List.set_cons_succ]
  refine takeH 15 (v := ?vpq14) rfl (by kernel_rfl) (by kernel_rfl) (by kernel_rfl) (fun _ _ _ h => h) hH rfl ?ypq14 ?rpq14
  case ypq14 => intro W hSw; go_simp; try with_reducible rfl
  try simp only [Act.put, List.setIfInBounds_toArray, List.set_cons_zero, List.set_cons_succ]
  refine takeH 16 (v := ?vpq15) rfl (by kernel_rfl) (by kernel_rfl) (by kernel_rfl) (fun _ _ _ h => h) hH rfl ?ypq15 ?rpq15
  case ypq15 => intro W hSw; go_simp; try with_reducible rfl
  try simp only [Act.put, List.setIfInBounds_toArray, List.set_cons_zero, List.set_cons_succ]
  refine callH 10 rfl (by kernel_rfl) rfl (fun K hK => ?_)
  go_simp
  go_at_call 15
  refine (HU1.out _ To.out).mono ?_
  rintro e wf ⟨rfl, hb⟩
  have Tx := Lib.hid (show Bts wf l (.slice ax l.length cx) fx from Tx.out.under hb)
  have To := Lib.hid (show Bts wf G (.slice ao G.length co) fo from To.out.under hb)
  have Sx := Lib.hid (show Str wf (w1.heap.size) 25 #[.int .i64 f, .slice ax l.length cx] from (hb.block _ Sx.out.lt).trans Sx.out)
  have Sb := Lib.hid (show Str wf (w1.heap.size + 1) 27 #[.int .i64 bd, .int .i64 ba, .int .i64 br, .int .i64 bs] from (hb.block _ Sb.out.lt).trans Sb.out)
  have So := Lib.hid (show Str wf (w3.heap.size) 25 #[.int .i64 f, .slice ao G.length co] from (hb.block _ So.out.lt).trans So.out)
  have Sy := Lib.hid (show Str wf (w8.heap.size) 27 #[.int .i64 bd, .int .i64 ba, .int .i64 br, .int .i64 bs] from (hb.block _ Sy.out.lt).trans Sy.out)
  have hswf := hb.size
  have Hb := Lib.hid (below_step Hb.out Hb.out.size hb)
  clear hb
  refine hK.out _ _ ⟨Sx.out.cell 0 (v := .int .i64 f) rfl, Sx.out.cell 1 (v := .slice ax l.length cx) rfl, Sb.out.cell 0 (v := .int .i64 bd) rfl, Sb.out.cell 1 (v := .int .i64 ba) rfl, Sb.out.cell 2 (v := .int .i64 br) rfl, Sb.out.cell 3 (v := .int .i64 bs) rfl, So.out.cell 0 (v := .int .i64 f) rfl, So.out.cell 1 (v := .slice ao G.length co) rfl, Sy.out.cell 0 (v := .int .i64 bd) rfl, Sy.out.cell 1 (v := .int .i64 ba) rfl, Sy.out.cell 2 (v := .int .i64 br) rfl, Sy.out.cell 3 (v := .int .i64 bs) rfl⟩ (fun hH => ?_)
  clear hK K
  try simp only [Act.put, List.setIfInBounds_toArray, List.set_cons_zero, List.set_cons_succ]
  refine callH 14 rfl (by kernel_rfl) rfl (fun K hK => ?_)
  go_simp
  go_at_call 15
  refine (HU2.out _ Tx.out).mono ?_
  rintro e wg ⟨rfl, hb⟩
  have Tx := Lib.hid (show Bts wg l (.slice ax l.length cx) fx from Tx.out.under hb)
  have To := Lib.hid (show Bts wg G (.slice ao G.length co) fo from To.out.under hb)
  have Sx := Lib.hid (show Str wg (w1.heap.size) 25 #[.int .i64 f, .slice ax l.length cx] from (hb.block _ Sx.out.lt).trans Sx.out)
  have Sb := Lib.hid (show Str wg (w1.heap.size + 1) 27 #[.int .i64 bd, .int .i64 ba, .int .i64 br, .int .i64 bs] from (hb.block _ Sb.out.lt).trans Sb.out)
  have So := Lib.hid (show Str wg (w3.heap.size) 25 #[.int .i64 f, .slice ao G.length co] from (hb.block _ So.out.lt).trans So.out)
  have Sy := Lib.hid (show Str wg (w8.heap.size) 27 #[.int .i64 bd, .int .i64 ba, .int .i64 br, .int .i64 bs] from (hb.block _ Sy.out.lt).trans Sy.out)
  have hswg := hb.size
  have Hb := Lib.hid (below_step Hb.out Hb.out.size hb)
  clear hb
  refine hK.out _ _ ⟨Sx.out.cell 0 (v := .int .i64 f) rfl, Sx.out.cell 1 (v := .slice ax l.length cx) rfl, Sb.out.cell 0 (v := .int .i64 bd) rfl, Sb.out.cell 1 (v := .int .i64 ba) rfl, Sb.out.cell 2 (v := .int .i64 br) rfl, Sb.out.cell 3 (v := .int .i64 bs) rfl, So.out.cell 0 (v := .int .i64 f) rfl, So.out.cell 1 (v := .slice ao G.length co) rfl, Sy.out.cell 0 (v := .int .i64 bd) rfl, Sy.out.cell 1 (v := .int .i64 ba) rfl, Sy.out.cell 2 (v := .int .i64 br) rfl, Sy.out.cell 3 (v := .int .i64 bs) rfl⟩ (fun hH => ?_)
  clear hK K
  try simp only [Act.put, List.setIfInBounds_toArray, List.set_cons_zero, List.set_cons_succ]
  refine takeH 17 (v := ?vpq16) rfl (by kernel_rfl) (by kernel_rfl) (by kernel_rfl) (fun _ _ _ h => h) hH rfl ?ypq16 ?rpq16
  case ypq16 => intro W hSw; go_simp; try with_reducible rfl
  try simp only [Act.put, List.setIfInBounds_toArray, List.set_cons_zero, List.set_cons_succ]
  refine takeH 18 (v := .bool true) rfl (by kernel_rfl) (by kernel_rfl) (by kernel_rfl) (fun _ _ _ h => h) hH rfl ?ypq17 ?rpq17
  case ypq17 => intro W hSw; go_simp; first | done | (simp [hw])
  try simp only [Act.put, List.setIfInBounds_toArray, List.set_cons_zero, List.set_cons_succ]
  refine takeH 19 (v := ?vpq18) rfl (by kernel_rfl) (by kernel_rfl) (by kernel_rfl) (fun _ _ _ h => h) hH rfl ?ypq18 ?rpq18
  case ypq18 => intro W hSw; go_simp; try with_reducible rfl
  try simp only [Act.put, List.setIfInBounds_toArray, List.set_cons_zero, List.set_cons_succ]
  refine takeH 20 (v := ?vpq19) rfl (by kernel_rfl) (by kernel_rfl) (by kernel_rfl) (fun _ _ _ h => h) hH rfl ?ypq19 ?rpq19
  case ypq19 => intro W hSw; go_simp; try with_reducible rfl
  try simp only [Act.put, List.setIfInBounds_toArray, List.set_cons_zero, List.set_cons_succ]
  refine takeH 21 (v := ?vpq20) rfl (by kernel_rfl) (by kernel_rfl) (by kernel_rfl) (fun _ _ _ h => h) hH rfl ?ypq20 ?rpq20
  case ypq20 => intro W hSw; go_simp; try with_reducible rfl
  try simp only [Act.put, List.setIfInBounds_toArray, List.set_cons_zero, List.set_cons_succ]
  refine callH 22 rfl (by kernel_rfl) rfl (fun K hK => ?_)
  go_simp
  go_at_call 16
  refine (HVd.out _ To.out).mono ?_
  rintro e wh ⟨rfl, hb⟩
  have Tx := Lib.hid (show Bts wh l (.slice ax l.length cx) fx from Tx.out.under hb)
  have To := Lib.hid (show Bts wh G (.slice ao G.length co) fo from To.out.under hb)
  have Sx := Lib.hid (show Str wh (w1.heap.size) 25 #[.int .i64 f, .slice ax l.length cx] from (hb.block _ Sx.out.lt).trans Sx.out)
  have Sb := Lib.hid (show Str wh (w1.heap.size + 1) 27 #[.int .i64 bd, .int .i64 ba, .int .i64 br, .int .i64 bs] from (hb.block _ Sb.out.lt).trans Sb.out)
  have So := Lib.hid (show Str wh (w3.heap.size) 25 #[.int .i64 f, .slice ao G.length co] from (hb.block _ So.out.lt).trans So.out)
  have Sy := Lib.hid (show Str wh (w8.heap.size) 27 #[.int .i64 bd, .int .i64 ba, .int .i64 br, .int .i64 bs] from (hb.block _ Sy.out.lt).trans Sy.out)
  have hswh := hb.size
  have Hb := Lib.hid (below_step Hb.out Hb.out.size hb)
  clear hb
  refine hK.out _ _ ⟨Sx.out.cell 0 (v := .int .i64 f) rfl, Sx.out.cell 1 (v := .slice ax l.length cx) rfl, Sb.out.cell 0 (v := .int .i64 bd) rfl, Sb.out.cell 1 (v := .int .i64 ba) rfl, Sb.out.cell 2 (v := .int .i64 br) rfl, Sb.out.cell 3 (v := .int .i64 bs) rfl, So.out.cell 0 (v := .int .i64 f) rfl, So.out.cell 1 (v := .slice ao G.length co) rfl, Sy.out.cell 0 (v := .int .i64 bd) rfl, Sy.out.cell 1 (v := .int .i64 ba) rfl, Sy.out.cell 2 (v := .int .i64 br) rfl, Sy.out.cell 3 (v := .int .i64 bs) rfl⟩ (fun hH => ?_)
  clear hK K
  try simp only [Act.put, List.setIfInBounds_toArray, List.set_cons_zero, List.set_cons_succ]
  refine takeH 23 (v := ?vpq21) rfl (by kernel_rfl) (by kernel_rfl) (by kernel_rfl) (fun _ _ _ h => h) hH rfl ?ypq21 ?rpq21
  case ypq21 => intro W hSw; go_simp; try with_reducible rfl
  try simp only [Act.put, List.setIfInBounds_toArray, List.set_cons_zero, List.set_cons_succ]
  refine takeH 24 (v := ?vpq22) rfl (by kernel_rfl) (by kernel_rfl) (by kernel_rfl) (fun _ _ _ h => h) hH rfl ?ypq22 ?rpq22
  case ypq22 => intro W hSw; go_simp; try with_reducible rfl
  try simp only [Act.put, List.setIfInBounds_toArray, List.set_cons_zero, List.set_cons_succ]
  refine wpAnyH_done (by kernel_rfl) ?_ _
  try simp only [Act.put]
  clear hH hq
  go_wp2
  go_ret
  exact ⟨by first | rfl | exact ret_bool (by simp) | exact ret_bool (by simp; omega), Hb.out⟩

theorem fnStorePut_own : ownKnob Try.prog.godebug = none := by kernel_rfl
theorem fnStorePut_laidOut : laidOutB Try.prog = true := by kernel_rfl

set_option maxRecDepth 8000 in
theorem fnStorePut_lifted (os : Os) (started : os.Started) (H : Type) (enc : TypeId × Value → H) :
    ReturnsInHanded {} Try.checked os 3 .any (Rows.fnStorePutSpec.pre6 enc Try.prog Try.f3 Rows.fnStorePutRow.domain false) (Rows.fnStorePutSpec.post enc Try.prog Try.f3 false true false false) := by
  refine law_lifted (C := Try.checked) (tb := 4) fnStorePut_own fnStorePut_laidOut started (by kernel_rfl) Try.func3 rfl Try.underlying4 rfl (by rw [Try.params3]; exact of_decide_eq_true (by kernel_rfl)) ?_
    (ChangeSpec.witness6 (enc := enc) (C := Try.checked) false ⟨#[], #[.slice none 0 0], []⟩ 8 (by kernel_rfl) (by kernel_rfl) (by kernel_rfl) (by kernel_rfl)) ?_
  · intro ds hds
    rw [Try.params3] at hds
    match ds, hds with
    | [d0], _ => rfl
  · intro W base args ds p hval0 hA0
    have hval : ∀ (j : Nat) t v, Try.f3.params[j]? = some t → args[j]? = some v → Value.okWide Try.prog W .any base t v := hval0
    have hA : DataW.TrodAll enc Try.prog W 0 (fun _ => true) true Try.f3.params.toList args.toList ds p := hA0
    rw [Try.params3] at hA hval
    obtain ⟨v0, vs0, d0, ds0, p0, q0, hargs0, rfl, rfl, h0, r0⟩ := trodAll_cons hA
    obtain ⟨hnil, rfl, rfl⟩ := trodAll_nil r0
    subst hnil
    obtain rfl : args = #[v0] := by cases args; simp_all
    obtain ⟨a0, cap0, zs0, rfl, hk0, hm0, hi0, hw0⟩ := open_slice_ints Try.underlying22 Try.underlying5 (by kernel_rfl) (hval 0 22 v0 rfl rfl) h0
    exact fnStorePut_walk a0 cap0 zs0 W hk0 hm0 hi0 hw0

set_option maxRecDepth 8000 in
theorem fnStorePut_holds : Rows.FnStorePutSaid :=
  OpenClaim.holds_of_wide 3 Try.f3 rfl rfl rfl rfl rfl rfl rfl ⟨rfl, rfl, rfl, rfl, rfl⟩ rfl rfl rfl rfl rfl (by kernel_rfl) Try.func3 (by kernel_rfl)
    (of_decide_eq_true (by kernel_rfl)) (by unfold Func.isWrapper; first | (rw [if_pos (by decide +kernel)]; kernel_rfl) | (rw [if_neg (by decide +kernel)]; exact ⟨rfl, rfl⟩))
    (fun os started H enc _ => fnStorePut_lifted os started H enc)

end Go.Proofs.Ythojbcecbeapgaa
