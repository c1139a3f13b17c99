/- Law FnStoreCodes holds for every input; no conditions of our own. -/
import Derived.Test.YthojbcecbeapgaaRows
import Derived.Test.YthojbcecbeapgaaBu0
import Derived.Test.YthojbcecbeapgaaBu1
import Derived.Test.YthojbcecbeapgaaBu2
import Derived.Test.YthojbcecbeapgaaBu3
import Derived.Test.YthojbcecbeapgaaBu4
import Derived.Deep.QuietTactic
import Derived.BigQuiet
namespace Go.Proofs.Ythojbcecbeapgaa
open Go.ChangeShapes Go.WideShapes Go.ChangeAt Go.RowKit

set_option maxHeartbeats 4000000 in
theorem fnStoreCodes_walk (a : Option Addr) (cap : Nat) (zs : List Int) (w : World) (hk : zs.length ≤ cap) (_hm : zs.length ≤ maxLen) (hi : zs = [] ∨ ∃ b off, a = some ⟨b, off, none⟩ ∧ b < w.heap.size ∧ ∀ j (h : j < zs.length), w.cell? ⟨b, off + j, none⟩ = some (.int .u8 zs[j])) (hw : ∀ z ∈ zs, (Lit.int .u8 z).wf = true) :
    Calls Try.prog 6 #[.slice a zs.length cap] w fun e w' => e = .returned (.bool true) ∧ Below w.heap.size w w' := by
  by_cases hl : 1048576 < zs.length
  · go_enter Try.func6, Try.ntmps6
    go_wp2
    go_ret
    exact ⟨rfl, Below.refl _ _⟩
  have hcode := codeAt_of hk (by omega) hi hw
  have Hcode := Lib.hid hcode; clear hcode hi hw
  go_enter Try.func6, Try.ntmps6
  go_wp2_with fail
  refine (spec_DrawStorePut a cap zs _ Hcode.out).mono ?_
  rintro e w1 ⟨f, l, ux, ⟨bd, ba, br, bs⟩, rfl, ho, hl13, hb1⟩
  unfold agB
  dsimp only at *
  obtain ⟨ax, cx, rfl, _⟩ := OwnB.sl (l := l) ho
  obtain ⟨fx, hx⟩ := OwnB.bts (l := l) ho
  have Tx := Lib.hid hx
  have Hb := Lib.hid hb1
  clear ho hx hb1
  have hal : Below w1.heap.size w1 (w1.alloc (.cells #[.int .i64 f, .slice ax l.length cx] 25)) := (Below.refl _ _).alloc (Nat.le_refl _) _
  have Tx := Lib.hid (show Bts (w1.alloc (.cells #[.int .i64 f, .slice ax l.length cx] 25)) l (.slice ax l.length cx) fx from Tx.out.under hal)
  have Sx := Lib.hid (Str.new w1 25 #[.int .i64 f, .slice ax l.length cx])
  have Hb := Lib.hid (below_step Hb.out Hb.out.size hal)
  clear hal
  have hal : Below (w1.alloc (.cells #[.int .i64 f, .slice ax l.length cx] 25)).heap.size (w1.alloc (.cells #[.int .i64 f, .slice ax l.length cx] 25)) ((w1.alloc (.cells #[.int .i64 f, .slice ax l.length cx] 25)).alloc (.cells #[.int .i64 bd, .int .i64 ba, .int .i64 br, .int .i64 bs] 27)) := (Below.refl _ _).alloc (Nat.le_refl _) _
  have Tx := Lib.hid (show Bts ((w1.alloc (.cells #[.int .i64 f, .slice ax l.length cx] 25)).alloc (.cells #[.int .i64 bd, .int .i64 ba, .int .i64 br, .int .i64 bs] 27)) l (.slice ax l.length cx) fx from Tx.out.under hal)
  have Sx := Lib.hid (show Str ((w1.alloc (.cells #[.int .i64 f, .slice ax l.length cx] 25)).alloc (.cells #[.int .i64 bd, .int .i64 ba, .int .i64 br, .int .i64 bs] 27)) (w1.heap.size) 25 #[.int .i64 f, .slice ax l.length cx] from Sx.out.alloc _)
  have Sb := Lib.hid (Str.new (w1.alloc (.cells #[.int .i64 f, .slice ax l.length cx] 25)) 27 #[.int .i64 bd, .int .i64 ba, .int .i64 br, .int .i64 bs])
  have Hb := Lib.hid (below_step Hb.out Hb.out.size hal)
  clear hal
  have Sb := Lib.hid (show Str ((w1.alloc (.cells #[.int .i64 f, .slice ax l.length cx] 25)).alloc (.cells #[.int .i64 bd, .int .i64 ba, .int .i64 br, .int .i64 bs] 27)) (w1.heap.size + 1) 27 #[.int .i64 bd, .int .i64 ba, .int .i64 br, .int .i64 bs] by have h9 := Sb.out; simp only [World.size_alloc] at h9; exact h9)
  obtain ⟨C, hC⟩ : ∃ C, C = puC f l ⟨bd, ba, br, bs⟩ := ⟨_, rfl⟩
  obtain ⟨G, hG⟩ : ∃ G, G = puL f l ⟨bd, ba, br, bs⟩ := ⟨_, rfl⟩
  obtain ⟨F, hF⟩ : ∃ F, F = puF f l ⟨bd, ba, br, bs⟩ := ⟨_, rfl⟩
  have hGl := puL_len f l ⟨bd, ba, br, bs⟩
  rw [← hG] at hGl
  have HI := Lib.hid (fun W (h : Bts W l (.slice ax l.length cx) fx) => impl_StorePut f l _ fx ⟨bd, ba, br, bs⟩ W (by omega) h)
  have HS := Lib.hid (fun W (h : Bts W l (.slice ax l.length cx) fx) => spec_StorePut f l _ fx bd ba br bs W (by omega) h)
  unfold PuP agB at HI
  unfold SqP agB at HS
  rw [← hC, ← hG, ← hF] at HI HS
  have HC := Lib.hid hC; have HG := Lib.hid hG; have HF := Lib.hid hF
  clear hC hG hF
  have cx_0 := Sx.out.cell 0 (v := .int .i64 f) rfl
  have cx_1 := Sx.out.cell 1 (v := .slice ax l.length cx) rfl
  have cb_0 := Sb.out.cell 0 (v := .int .i64 bd) rfl
  have cb_1 := Sb.out.cell 1 (v := .int .i64 ba) rfl
  have cb_2 := Sb.out.cell 2 (v := .int .i64 br) rfl
  have cb_3 := Sb.out.cell 3 (v := .int .i64 bs) rfl
  go_wp2_with fail
  generalize ((w1.alloc (.cells #[.int .i64 f, .slice ax l.length cx] 25)).alloc (.cells #[.int .i64 bd, .int .i64 ba, .int .i64 br, .int .i64 bs] 27)) = W2 at *
  clear cx_0 cx_1 cb_0 cb_1 cb_2 cb_3
  refine (HI.out _ Tx.out).mono ?_
  rintro e w3 ⟨vo, rfl, ho, hb⟩
  obtain ⟨ao, co, rfl, _⟩ := OwnB.sl (l := G) ho
  obtain ⟨fo, hT⟩ := OwnB.bts (l := G) ho
  clear ho
  have Tx := Lib.hid (show Bts w3 l (.slice ax l.length cx) fx from Tx.out.under hb)
  have Sx := Lib.hid (show Str w3 (w1.heap.size) 25 #[.int .i64 f, .slice ax l.length cx] from (hb.block _ Sx.out.lt).trans Sx.out)
  have Sb := Lib.hid (show Str w3 (w1.heap.size + 1) 27 #[.int .i64 bd, .int .i64 ba, .int .i64 br, .int .i64 bs] from (hb.block _ Sb.out.lt).trans Sb.out)
  have hsw3 := hb.size
  have Hb := Lib.hid (below_step Hb.out Hb.out.size hb)
  have To := Lib.hid hT
  clear hT hb
  have hal : Below w3.heap.size w3 (w3.alloc (.cells #[.int .i64 F, .slice ao G.length co] 25)) := (Below.refl _ _).alloc (Nat.le_refl _) _
  have Tx := Lib.hid (show Bts (w3.alloc (.cells #[.int .i64 F, .slice ao G.length co] 25)) l (.slice ax l.length cx) fx from Tx.out.under hal)
  have To := Lib.hid (show Bts (w3.alloc (.cells #[.int .i64 F, .slice ao G.length co] 25)) G (.slice ao G.length co) fo from To.out.under hal)
  have Sx := Lib.hid (show Str (w3.alloc (.cells #[.int .i64 F, .slice ao G.length co] 25)) (w1.heap.size) 25 #[.int .i64 f, .slice ax l.length cx] from Sx.out.alloc _)
  have Sb := Lib.hid (show Str (w3.alloc (.cells #[.int .i64 F, .slice ao G.length co] 25)) (w1.heap.size + 1) 27 #[.int .i64 bd, .int .i64 ba, .int .i64 br, .int .i64 bs] from Sb.out.alloc _)
  have So := Lib.hid (Str.new w3 25 #[.int .i64 F, .slice ao G.length co])
  have Hb := Lib.hid (below_step Hb.out Hb.out.size hal)
  clear hal
  have cx_0 := Sx.out.cell 0 (v := .int .i64 f) rfl
  have cx_1 := Sx.out.cell 1 (v := .slice ax l.length cx) rfl
  have cb_0 := Sb.out.cell 0 (v := .int .i64 bd) rfl
  have cb_1 := Sb.out.cell 1 (v := .int .i64 ba) rfl
  have cb_2 := Sb.out.cell 2 (v := .int .i64 br) rfl
  have cb_3 := Sb.out.cell 3 (v := .int .i64 bs) rfl
  have co_0 := So.out.cell 0 (v := .int .i64 F) rfl
  have co_1 := So.out.cell 1 (v := .slice ao G.length co) rfl
  go_wp2_with fail
  generalize (w3.alloc (.cells #[.int .i64 F, .slice ao G.length co] 25)) = W4 at *
  clear cx_0 cx_1 cb_0 cb_1 cb_2 cb_3 co_0 co_1
  refine (HS.out _ Tx.out).mono ?_
  rintro e w5 ⟨vk, rfl, ho, hb⟩
  obtain ⟨ak, ck, rfl, _⟩ := OwnB.sl (l := G) ho
  obtain ⟨fk, hT⟩ := OwnB.bts (l := G) ho
  clear ho
  have Tx := Lib.hid (show Bts w5 l (.slice ax l.length cx) fx from Tx.out.under hb)
  have To := Lib.hid (show Bts w5 G (.slice ao G.length co) fo from To.out.under hb)
  have Sx := Lib.hid (show Str w5 (w1.heap.size) 25 #[.int .i64 f, .slice ax l.length cx] from (hb.block _ Sx.out.lt).trans Sx.out)
  have Sb := Lib.hid (show Str w5 (w1.heap.size + 1) 27 #[.int .i64 bd, .int .i64 ba, .int .i64 br, .int .i64 bs] from (hb.block _ Sb.out.lt).trans Sb.out)
  have So := Lib.hid (show Str w5 (w3.heap.size) 25 #[.int .i64 F, .slice ao G.length co] from (hb.block _ So.out.lt).trans So.out)
  have hsw5 := hb.size
  have Hb := Lib.hid (below_step Hb.out Hb.out.size hb)
  have Tk := Lib.hid hT
  clear hT hb
  have hal : Below w5.heap.size w5 (w5.alloc (.cells #[.int .i64 F, .slice ak G.length ck] 25)) := (Below.refl _ _).alloc (Nat.le_refl _) _
  have Tx := Lib.hid (show Bts (w5.alloc (.cells #[.int .i64 F, .slice ak G.length ck] 25)) l (.slice ax l.length cx) fx from Tx.out.under hal)
  have To := Lib.hid (show Bts (w5.alloc (.cells #[.int .i64 F, .slice ak G.length ck] 25)) G (.slice ao G.length co) fo from To.out.under hal)
  have Tk := Lib.hid (show Bts (w5.alloc (.cells #[.int .i64 F, .slice ak G.length ck] 25)) G (.slice ak G.length ck) fk from Tk.out.under hal)
  have Sx := Lib.hid (show Str (w5.alloc (.cells #[.int .i64 F, .slice ak G.length ck] 25)) (w1.heap.size) 25 #[.int .i64 f, .slice ax l.length cx] from Sx.out.alloc _)
  have Sb := Lib.hid (show Str (w5.alloc (.cells #[.int .i64 F, .slice ak G.length ck] 25)) (w1.heap.size + 1) 27 #[.int .i64 bd, .int .i64 ba, .int .i64 br, .int .i64 bs] from Sb.out.alloc _)
  have So := Lib.hid (show Str (w5.alloc (.cells #[.int .i64 F, .slice ak G.length ck] 25)) (w3.heap.size) 25 #[.int .i64 F, .slice ao G.length co] from So.out.alloc _)
  have Sk := Lib.hid (Str.new w5 25 #[.int .i64 F, .slice ak G.length ck])
  have Hb := Lib.hid (below_step Hb.out Hb.out.size hal)
  clear hal
  clear HI HS
  have cx_0 := Sx.out.cell 0 (v := .int .i64 f) rfl
  have cx_1 := Sx.out.cell 1 (v := .slice ax l.length cx) rfl
  have cb_0 := Sb.out.cell 0 (v := .int .i64 bd) rfl
  have cb_1 := Sb.out.cell 1 (v := .int .i64 ba) rfl
  have cb_2 := Sb.out.cell 2 (v := .int .i64 br) rfl
  have cb_3 := Sb.out.cell 3 (v := .int .i64 bs) rfl
  have co_0 := So.out.cell 0 (v := .int .i64 F) rfl
  have co_1 := So.out.cell 1 (v := .slice ao G.length co) rfl
  have ck_0 := Sk.out.cell 0 (v := .int .i64 F) rfl
  have ck_1 := Sk.out.cell 1 (v := .slice ak G.length ck) rfl
  go_wp2_with fail
  generalize (w5.alloc (.cells #[.int .i64 F, .slice ak G.length ck] 25)) = W6 at *
  clear cx_0 cx_1 cb_0 cb_1 cb_2 cb_3 co_0 co_1 ck_0 ck_1
  refine (laws_sameStore F F G G _ _ fo fk _ (by omega) (by omega) To.out Tk.out).mono ?_
  rintro e w7 ⟨rfl, hb⟩
  rw [decide_eq_true (show F = F ∧ G = G from ⟨rfl, rfl⟩)]
  have Tx := Lib.hid (show Bts w7 l (.slice ax l.length cx) fx from Tx.out.under hb)
  have To := Lib.hid (show Bts w7 G (.slice ao G.length co) fo from To.out.under hb)
  have Tk := Lib.hid (show Bts w7 G (.slice ak G.length ck) fk from Tk.out.under hb)
  have Sx := Lib.hid (show Str w7 (w1.heap.size) 25 #[.int .i64 f, .slice ax l.length cx] from (hb.block _ Sx.out.lt).trans Sx.out)
  have Sb := Lib.hid (show Str w7 (w1.heap.size + 1) 27 #[.int .i64 bd, .int .i64 ba, .int .i64 br, .int .i64 bs] from (hb.block _ Sb.out.lt).trans Sb.out)
  have So := Lib.hid (show Str w7 (w3.heap.size) 25 #[.int .i64 F, .slice ao G.length co] from (hb.block _ So.out.lt).trans So.out)
  have Sk := Lib.hid (show Str w7 (w5.heap.size) 25 #[.int .i64 F, .slice ak G.length ck] from (hb.block _ Sk.out.lt).trans Sk.out)
  have hsw7 := hb.size
  have Hb := Lib.hid (below_step Hb.out Hb.out.size hb)
  clear hb
  by_cases h0 : C = 4
  case pos =>
    have h0' : (C == 4) = true := by rw [beq_iff_eq]; exact h0
    have h0n : (C != 4) = false := by rw [bne, h0']; rfl
    clear h0
    have cx_0 := Sx.out.cell 0 (v := .int .i64 f) rfl
    have cx_1 := Sx.out.cell 1 (v := .slice ax l.length cx) rfl
    have cb_0 := Sb.out.cell 0 (v := .int .i64 bd) rfl
    have cb_1 := Sb.out.cell 1 (v := .int .i64 ba) rfl
    have cb_2 := Sb.out.cell 2 (v := .int .i64 br) rfl
    have cb_3 := Sb.out.cell 3 (v := .int .i64 bs) rfl
    have co_0 := So.out.cell 0 (v := .int .i64 F) rfl
    have co_1 := So.out.cell 1 (v := .slice ao G.length co) rfl
    have ck_0 := Sk.out.cell 0 (v := .int .i64 F) rfl
    have ck_1 := Sk.out.cell 1 (v := .slice ak G.length ck) rfl
    go_wp2_with fail
    clear cx_0 cx_1 cb_0 cb_1 cb_2 cb_3 co_0 co_1 ck_0 ck_1
    refine (laws_sameStore F F G G _ _ fo fk _ (by omega) (by omega) To.out Tk.out).mono ?_
    rintro e w8 ⟨rfl, hb⟩
    rw [decide_eq_true (show F = F ∧ G = G from ⟨rfl, rfl⟩)]
    have Tx := Lib.hid (show Bts w8 l (.slice ax l.length cx) fx from Tx.out.under hb)
    have To := Lib.hid (show Bts w8 G (.slice ao G.length co) fo from To.out.under hb)
    have Tk := Lib.hid (show Bts w8 G (.slice ak G.length ck) fk from Tk.out.under hb)
    have Sx := Lib.hid (show Str w8 (w1.heap.size) 25 #[.int .i64 f, .slice ax l.length cx] from (hb.block _ Sx.out.lt).trans Sx.out)
    have Sb := Lib.hid (show Str w8 (w1.heap.size + 1) 27 #[.int .i64 bd, .int .i64 ba, .int .i64 br, .int .i64 bs] from (hb.block _ Sb.out.lt).trans Sb.out)
    have So := Lib.hid (show Str w8 (w3.heap.size) 25 #[.int .i64 F, .slice ao G.length co] from (hb.block _ So.out.lt).trans So.out)
    have Sk := Lib.hid (show Str w8 (w5.heap.size) 25 #[.int .i64 F, .slice ak G.length ck] from (hb.block _ Sk.out.lt).trans Sk.out)
    have hsw8 := hb.size
    have Hb := Lib.hid (below_step Hb.out Hb.out.size hb)
    clear hb
    go_wp2
    go_ret
    exact ⟨by first | rfl | exact ret_bool (by simp) | exact ret_bool (by simp; omega), Hb.out⟩
  have h0' : (C == 4) = false := by rw [beq_eq_false_iff_ne]; exact h0
  have h0n : (C != 4) = true := by rw [bne, h0']; rfl
  clear Tk
  clear Sk
  have h4 : puC f l ⟨bd, ba, br, bs⟩ ≠ 4 := by rw [← HC.out]; exact h0
  obtain ⟨hp1, hp2, hp3, hp4⟩ := p98 h4
  dsimp only at hp1 hp2 hp3 hp4
  rw [← HC.out] at hp1
  obtain ⟨N, hN⟩ : ∃ N, N = uzZ f l ba := ⟨_, rfl⟩
  rw [← hN] at hp1 hp2
  have Hsm := Lib.hid (show C ≠ 0 → G = l ∧ F = f from fun h => by rw [HG.out, HF.out]; exact puL_other (by rw [← HC.out]; exact h) h4)
  have HGt := Lib.hid (fun W (h : Bts W l (.slice ax l.length cx) fx) => impl_StoreGet f l _ fx bd W (by omega) h)
  unfold agB at HGt
  generalize hkn : (geR f l bd).2 = kn at *
  generalize (geR f l bd).1 = y at *
  have HU := Lib.hid (fun W (h : Bts W l (.slice ax l.length cx) fx) => impl_StoreUsed f l _ fx ba W (by omega) h)
  rw [← hN] at HU
  have hw : IntKind.i64.wrap (N + bs) = N + bs := IntWalk.i64_in _ (by omega)
  have Hp := Lib.hid hp1
  clear hp1 hN hkn h0 h4
  have cx_0 := Sx.out.cell 0 (v := .int .i64 f) rfl
  have cx_1 := Sx.out.cell 1 (v := .slice ax l.length cx) rfl
  have cb_0 := Sb.out.cell 0 (v := .int .i64 bd) rfl
  have cb_1 := Sb.out.cell 1 (v := .int .i64 ba) rfl
  have cb_2 := Sb.out.cell 2 (v := .int .i64 br) rfl
  have cb_3 := Sb.out.cell 3 (v := .int .i64 bs) rfl
  have co_0 := So.out.cell 0 (v := .int .i64 F) rfl
  have co_1 := So.out.cell 1 (v := .slice ao G.length co) rfl
  go_wp2_with fail
  clear cx_0 cx_1 cb_0 cb_1 cb_2 cb_3 co_0 co_1
  refine (HGt.out _ Tx.out).mono ?_
  rintro e w8 ⟨rfl, hb⟩
  have Tx := Lib.hid (show Bts w8 l (.slice ax l.length cx) fx from Tx.out.under hb)
  have To := Lib.hid (show Bts w8 G (.slice ao G.length co) fo from To.out.under hb)
  have Sx := Lib.hid (show Str w8 (w1.heap.size) 25 #[.int .i64 f, .slice ax l.length cx] from (hb.block _ Sx.out.lt).trans Sx.out)
  have Sb := Lib.hid (show Str w8 (w1.heap.size + 1) 27 #[.int .i64 bd, .int .i64 ba, .int .i64 br, .int .i64 bs] from (hb.block _ Sb.out.lt).trans Sb.out)
  have So := Lib.hid (show Str w8 (w3.heap.size) 25 #[.int .i64 F, .slice ao G.length co] from (hb.block _ So.out.lt).trans So.out)
  have hsw8 := hb.size
  have Hb := Lib.hid (below_step Hb.out Hb.out.size hb)
  clear hb
  have hal : Below w8.heap.size w8 (w8.alloc (.cells #[.int .i64 y.d, .int .i64 y.a, .int .i64 y.r, .int .i64 y.s] 27)) := (Below.refl _ _).alloc (Nat.le_refl _) _
  have Tx := Lib.hid (show Bts (w8.alloc (.cells #[.int .i64 y.d, .int .i64 y.a, .int .i64 y.r, .int .i64 y.s] 27)) l (.slice ax l.length cx) fx from Tx.out.under hal)
  have To := Lib.hid (show Bts (w8.alloc (.cells #[.int .i64 y.d, .int .i64 y.a, .int .i64 y.r, .int .i64 y.s] 27)) G (.slice ao G.length co) fo from To.out.under hal)
  have Sx := Lib.hid (show Str (w8.alloc (.cells #[.int .i64 y.d, .int .i64 y.a, .int .i64 y.r, .int .i64 y.s] 27)) (w1.heap.size) 25 #[.int .i64 f, .slice ax l.length cx] from Sx.out.alloc _)
  have Sb := Lib.hid (show Str (w8.alloc (.cells #[.int .i64 y.d, .int .i64 y.a, .int .i64 y.r, .int .i64 y.s] 27)) (w1.heap.size + 1) 27 #[.int .i64 bd, .int .i64 ba, .int .i64 br, .int .i64 bs] from Sb.out.alloc _)
  have So := Lib.hid (show Str (w8.alloc (.cells #[.int .i64 y.d, .int .i64 y.a, .int .i64 y.r, .int .i64 y.s] 27)) (w3.heap.size) 25 #[.int .i64 F, .slice ao G.length co] from So.out.alloc _)
  have Sy := Lib.hid (Str.new w8 27 #[.int .i64 y.d, .int .i64 y.a, .int .i64 y.r, .int .i64 y.s])
  have Hb := Lib.hid (below_step Hb.out Hb.out.size hal)
  clear hal
  have cx_0 := Sx.out.cell 0 (v := .int .i64 f) rfl
  have cx_1 := Sx.out.cell 1 (v := .slice ax l.length cx) rfl
  have cb_0 := Sb.out.cell 0 (v := .int .i64 bd) rfl
  have cb_1 := Sb.out.cell 1 (v := .int .i64 ba) rfl
  have cb_2 := Sb.out.cell 2 (v := .int .i64 br) rfl
  have cb_3 := Sb.out.cell 3 (v := .int .i64 bs) rfl
  have co_0 := So.out.cell 0 (v := .int .i64 F) rfl
  have co_1 := So.out.cell 1 (v := .slice ao G.length co) rfl
  have cy_0 := Sy.out.cell 0 (v := .int .i64 y.d) rfl
  have cy_1 := Sy.out.cell 1 (v := .int .i64 y.a) rfl
  have cy_2 := Sy.out.cell 2 (v := .int .i64 y.r) rfl
  have cy_3 := Sy.out.cell 3 (v := .int .i64 y.s) rfl
  go_wp2_with fail
  generalize (w8.alloc (.cells #[.int .i64 y.d, .int .i64 y.a, .int .i64 y.r, .int .i64 y.s] 27)) = WE at *
  clear cx_0 cx_1 cb_0 cb_1 cb_2 cb_3 co_0 co_1 cy_0 cy_1 cy_2 cy_3
  by_cases h12 : l.length = 12
  case pos =>
    have h12d : ((l.length : Int) == 12) = true := by rw [beq_iff_eq]; omega
    have H12 := Lib.hid h12; clear h12
    have cx_0 := Sx.out.cell 0 (v := .int .i64 f) rfl
    have cx_1 := Sx.out.cell 1 (v := .slice ax l.length cx) rfl
    have cb_0 := Sb.out.cell 0 (v := .int .i64 bd) rfl
    have cb_1 := Sb.out.cell 1 (v := .int .i64 ba) rfl
    have cb_2 := Sb.out.cell 2 (v := .int .i64 br) rfl
    have cb_3 := Sb.out.cell 3 (v := .int .i64 bs) rfl
    have co_0 := So.out.cell 0 (v := .int .i64 F) rfl
    have co_1 := So.out.cell 1 (v := .slice ao G.length co) rfl
    have cy_0 := Sy.out.cell 0 (v := .int .i64 y.d) rfl
    have cy_1 := Sy.out.cell 1 (v := .int .i64 y.a) rfl
    have cy_2 := Sy.out.cell 2 (v := .int .i64 y.r) rfl
    have cy_3 := Sy.out.cell 3 (v := .int .i64 y.s) rfl
    refine wp_region_held_drew (S := fun W' => W'.cell? ⟨w1.heap.size, 0, none⟩ = some (.int .i64 f) ∧ W'.cell? ⟨w1.heap.size, 1, none⟩ = some (.slice ax l.length cx) ∧ W'.cell? ⟨w1.heap.size + 1, 0, none⟩ = some (.int .i64 bd) ∧ W'.cell? ⟨w1.heap.size + 1, 1, none⟩ = some (.int .i64 ba) ∧ W'.cell? ⟨w1.heap.size + 1, 2, none⟩ = some (.int .i64 br) ∧ W'.cell? ⟨w1.heap.size + 1, 3, none⟩ = some (.int .i64 bs) ∧ W'.cell? ⟨w3.heap.size, 0, none⟩ = some (.int .i64 F) ∧ W'.cell? ⟨w3.heap.size, 1, none⟩ = some (.slice ao G.length co) ∧ W'.cell? ⟨w8.heap.size, 0, none⟩ = some (.int .i64 y.d) ∧ W'.cell? ⟨w8.heap.size, 1, none⟩ = some (.int .i64 y.a) ∧ W'.cell? ⟨w8.heap.size, 2, none⟩ = some (.int .i64 y.r) ∧ W'.cell? ⟨w8.heap.size, 3, none⟩ = some (.int .i64 y.s)) (by kernel_rfl) ⟨Sx.out.cell 0 (v := .int .i64 f) rfl, Sx.out.cell 1 (v := .slice ax l.length cx) rfl, Sb.out.cell 0 (v := .int .i64 bd) rfl, Sb.out.cell 1 (v := .int .i64 ba) rfl, Sb.out.cell 2 (v := .int .i64 br) rfl, Sb.out.cell 3 (v := .int .i64 bs) rfl, So.out.cell 0 (v := .int .i64 F) rfl, So.out.cell 1 (v := .slice ao G.length co) rfl, Sy.out.cell 0 (v := .int .i64 y.d) rfl, Sy.out.cell 1 (v := .int .i64 y.a) rfl, Sy.out.cell 2 (v := .int .i64 y.r) rfl, Sy.out.cell 3 (v := .int .i64 y.s) rfl⟩ (fun hH => ?_)
    clear cx_0 cx_1 cb_0 cb_1 cb_2 cb_3 co_0 co_1 cy_0 cy_1 cy_2 cy_3
    have hdr : Below WE.heap.size WE WE.drew := (Below.refl _ _).drew
    have Tx := Lib.hid (show Bts WE.drew l (.slice ax l.length cx) fx from Tx.out.under hdr)
    have To := Lib.hid (show Bts WE.drew G (.slice ao G.length co) fo from To.out.under hdr)
    have Sx := Lib.hid (show Str WE.drew (w1.heap.size) 25 #[.int .i64 f, .slice ax l.length cx] from (hdr.block _ Sx.out.lt).trans Sx.out)
    have Sb := Lib.hid (show Str WE.drew (w1.heap.size + 1) 27 #[.int .i64 bd, .int .i64 ba, .int .i64 br, .int .i64 bs] from (hdr.block _ Sb.out.lt).trans Sb.out)
    have So := Lib.hid (show Str WE.drew (w3.heap.size) 25 #[.int .i64 F, .slice ao G.length co] from (hdr.block _ So.out.lt).trans So.out)
    have Sy := Lib.hid (show Str WE.drew (w8.heap.size) 27 #[.int .i64 y.d, .int .i64 y.a, .int .i64 y.r, .int .i64 y.s] from (hdr.block _ Sy.out.lt).trans Sy.out)
    have hsWE.drew := hdr.size
    have Hb := Lib.hid (below_step Hb.out Hb.out.size hdr)
    clear hdr
    generalize WE.drew = wf at *
    refine takeH 0 (v := ?vca1) rfl (by kernel_rfl) (by kernel_rfl) (by kernel_rfl) (fun _ _ _ h => h) hH rfl ?yca1 ?rca1
    case yca1 => intro W hSw; go_simp; try with_reducible rfl
    try simp only [Act.put, List.setIfInBounds_toArray, List.set_cons_zero, List.set_cons_succ]
    refine takeH 1 (v := ?vca2) rfl (by kernel_rfl) (by kernel_rfl) (by kernel_rfl) (fun _ _ _ h => h) hH rfl ?yca2 ?rca2
    case yca2 => intro W hSw; go_simp; try with_reducible rfl
    try simp only [Act.put, List.setIfInBounds_toArray, List.set_cons_zero, List.set_cons_succ]
    refine takeH 2 (v := ?vca3) rfl (by kernel_rfl) (by kernel_rfl) (by kernel_rfl) (fun _ _ _ h => h) hH rfl ?yca3 ?rca3
    case yca3 => intro W hSw; go_simp; try with_reducible rfl
    try simp only [Act.put, List.setIfInBounds_toArray, List.set_cons_zero, List.set_cons_succ]
    refine takeH 3 (v := .bool true) rfl (by kernel_rfl) (by kernel_rfl) (by kernel_rfl) (fun _ _ _ h => h) hH rfl ?yca4 ?rca4
    case yca4 => intro W hSw; go_simp; first | done | simp only [h12d] | omega | (simp; omega)
    try simp only [Act.put, List.setIfInBounds_toArray, List.set_cons_zero, List.set_cons_succ]
    refine takeH 4 (v := ?vca5) rfl (by kernel_rfl) (by kernel_rfl) (by kernel_rfl) (fun _ _ _ h => h) hH rfl ?yca5 ?rca5
    case yca5 => intro W hSw; go_simp; try with_reducible rfl
    try simp only [Act.put, List.setIfInBounds_toArray, List.set_cons_zero, List.set_cons_succ]
    refine skipH 5 rfl (by kernel_rfl) (by kernel_rfl) (by kernel_rfl) (fun _ _ _ h => h) hH rfl ?_
    try simp only [Act.put, List.setIfInBounds_toArray, List.set_cons_zero, List.set_cons_succ]
    refine skipH 6 rfl (by kernel_rfl) (by kernel_rfl) (by kernel_rfl) (fun _ _ _ h => h) hH rfl ?_
    try simp only [Act.put, List.setIfInBounds_toArray, List.set_cons_zero, List.set_cons_succ]
    refine skipH 7 rfl (by kernel_rfl) (by kernel_rfl) (by kernel_rfl) (fun _ _ _ h => h) hH rfl ?_
    try simp only [Act.put, List.setIfInBounds_toArray, List.set_cons_zero, List.set_cons_succ]
    refine skipH 8 rfl (by kernel_rfl) (by kernel_rfl) (by kernel_rfl) (fun _ _ _ h => h) hH rfl ?_
    try simp only [Act.put, List.setIfInBounds_toArray, List.set_cons_zero, List.set_cons_succ]
    refine skipH 9 rfl (by kernel_rfl) (by kernel_rfl) (by kernel_rfl) (fun _ _ _ h => h) hH rfl ?_
    try simp only [Act.put, List.setIfInBounds_toArray, List.set_cons_zero, List.set_cons_succ]
    refine skipH 10 rfl (by kernel_rfl) (by kernel_rfl) (by kernel_rfl) (fun _ _ _ h => h) hH rfl ?_
    try simp only [Act.put, List.setIfInBounds_toArray, List.set_cons_zero, List.set_cons_succ]
    refine skipH 11 rfl (by kernel_rfl) (by kernel_rfl) (by kernel_rfl) (fun _ _ _ h => h) hH rfl ?_
    try simp only [Act.put, List.setIfInBounds_toArray, List.set_cons_zero, List.set_cons_succ]
    refine skipH 12 rfl (by kernel_rfl) (by kernel_rfl) (by kernel_rfl) (fun _ _ _ h => h) hH rfl ?_
    try simp only [Act.put, List.setIfInBounds_toArray, List.set_cons_zero, List.set_cons_succ]
    refine takeH 13 (v := ?vca6) rfl (by kernel_rfl) (by kernel_rfl) (by kernel_rfl) (fun _ _ _ h => h) hH rfl ?yca6 ?rca6
    case yca6 => intro W hSw; go_simp; try with_reducible rfl
    try simp only [Act.put, List.setIfInBounds_toArray, List.set_cons_zero, List.set_cons_succ]
    refine takeH 14 (v := ?vca7) rfl (by kernel_rfl) (by kernel_rfl) (by kernel_rfl) (fun _ _ _ h => h) hH rfl ?yca7 ?rca7
    case yca7 => intro W hSw; go_simp; try with_reducible rfl
    try simp only [Act.put, List.setIfInBounds_toArray, List.set_cons_zero, List.set_cons_succ]
    refine wpAnyH_done (by kernel_rfl) ?_ _
    try simp only [Act.put]
    clear hH h12d
    cases kn with
    | true =>
      have hC : C = 1 := by rw [Hp.out, if_pos rfl]
      have k0 : (C == 0) = false := by rw [hC]; rfl
      have k1 : (C == 1) = true := by rw [hC]; rfl
      have k2 : (C == 2) = false := by rw [hC]; rfl
      have k3 : (C == 3) = false := by rw [hC]; rfl
      have HGF := Lib.hid (Hsm.out (by rw [hC]; omega))
      clear hC
      have cx_0 := Sx.out.cell 0 (v := .int .i64 f) rfl
      have cx_1 := Sx.out.cell 1 (v := .slice ax l.length cx) rfl
      have cb_0 := Sb.out.cell 0 (v := .int .i64 bd) rfl
      have cb_1 := Sb.out.cell 1 (v := .int .i64 ba) rfl
      have cb_2 := Sb.out.cell 2 (v := .int .i64 br) rfl
      have cb_3 := Sb.out.cell 3 (v := .int .i64 bs) rfl
      have co_0 := So.out.cell 0 (v := .int .i64 F) rfl
      have co_1 := So.out.cell 1 (v := .slice ao G.length co) rfl
      go_wp2_with fail
      clear cx_0 cx_1 cb_0 cb_1 cb_2 cb_3 co_0 co_1
      refine (laws_sameStore F f G l _ _ fo fx _ (by omega) (by omega) To.out Tx.out).mono ?_
      rintro e w9 ⟨rfl, hb⟩
      rw [decide_eq_true (show F = f ∧ G = l from ⟨HGF.out.2, HGF.out.1⟩)]
      have Tx := Lib.hid (show Bts w9 l (.slice ax l.length cx) fx from Tx.out.under hb)
      have To := Lib.hid (show Bts w9 G (.slice ao G.length co) fo from To.out.under hb)
      have Sx := Lib.hid (show Str w9 (w1.heap.size) 25 #[.int .i64 f, .slice ax l.length cx] from (hb.block _ Sx.out.lt).trans Sx.out)
      have Sb := Lib.hid (show Str w9 (w1.heap.size + 1) 27 #[.int .i64 bd, .int .i64 ba, .int .i64 br, .int .i64 bs] from (hb.block _ Sb.out.lt).trans Sb.out)
      have So := Lib.hid (show Str w9 (w3.heap.size) 25 #[.int .i64 F, .slice ao G.length co] from (hb.block _ So.out.lt).trans So.out)
      have Sy := Lib.hid (show Str w9 (w8.heap.size) 27 #[.int .i64 y.d, .int .i64 y.a, .int .i64 y.r, .int .i64 y.s] from (hb.block _ Sy.out.lt).trans Sy.out)
      have hsw9 := hb.size
      have Hb := Lib.hid (below_step Hb.out Hb.out.size hb)
      clear hb
      go_wp2
      go_ret
      exact ⟨by first | rfl | exact ret_bool (by simp) | exact ret_bool (by simp; omega), Hb.out⟩
    | false =>
      by_cases hlt : br < f
      case pos =>
        have hltd : decide (br < f) = true := decide_eq_true hlt
        have hC : C = 2 := by rw [Hp.out, if_neg (by simp), if_pos hlt]
        have k0 : (C == 0) = false := by rw [hC]; rfl
        have k1 : (C == 1) = false := by rw [hC]; rfl
        have k2 : (C == 2) = true := by rw [hC]; rfl
        have k3 : (C == 3) = false := by rw [hC]; rfl
        have HGF := Lib.hid (Hsm.out (by rw [hC]; omega))
        clear hC
        have cx_0 := Sx.out.cell 0 (v := .int .i64 f) rfl
        have cx_1 := Sx.out.cell 1 (v := .slice ax l.length cx) rfl
        have cb_0 := Sb.out.cell 0 (v := .int .i64 bd) rfl
        have cb_1 := Sb.out.cell 1 (v := .int .i64 ba) rfl
        have cb_2 := Sb.out.cell 2 (v := .int .i64 br) rfl
        have cb_3 := Sb.out.cell 3 (v := .int .i64 bs) rfl
        have co_0 := So.out.cell 0 (v := .int .i64 F) rfl
        have co_1 := So.out.cell 1 (v := .slice ao G.length co) rfl
        go_wp2_with fail
        clear cx_0 cx_1 cb_0 cb_1 cb_2 cb_3 co_0 co_1
        refine (laws_sameStore F f G l _ _ fo fx _ (by omega) (by omega) To.out Tx.out).mono ?_
        rintro e w9 ⟨rfl, hb⟩
        rw [decide_eq_true (show F = f ∧ G = l from ⟨HGF.out.2, HGF.out.1⟩)]
        have Tx := Lib.hid (show Bts w9 l (.slice ax l.length cx) fx from Tx.out.under hb)
        have To := Lib.hid (show Bts w9 G (.slice ao G.length co) fo from To.out.under hb)
        have Sx := Lib.hid (show Str w9 (w1.heap.size) 25 #[.int .i64 f, .slice ax l.length cx] from (hb.block _ Sx.out.lt).trans Sx.out)
        have Sb := Lib.hid (show Str w9 (w1.heap.size + 1) 27 #[.int .i64 bd, .int .i64 ba, .int .i64 br, .int .i64 bs] from (hb.block _ Sb.out.lt).trans Sb.out)
        have So := Lib.hid (show Str w9 (w3.heap.size) 25 #[.int .i64 F, .slice ao G.length co] from (hb.block _ So.out.lt).trans So.out)
        have Sy := Lib.hid (show Str w9 (w8.heap.size) 27 #[.int .i64 y.d, .int .i64 y.a, .int .i64 y.r, .int .i64 y.s] from (hb.block _ Sy.out.lt).trans Sy.out)
        have hsw9 := hb.size
        have Hb := Lib.hid (below_step Hb.out Hb.out.size hb)
        clear hb
        go_wp2
        go_ret
        exact ⟨by first | rfl | exact ret_bool (by simp) | exact ret_bool (by simp; omega), Hb.out⟩
      have hltd : decide (br < f) = false := decide_eq_false hlt
      have hfb : f ≤ br := by omega
      have hC : C = 3 := by rw [Hp.out, if_neg (by simp), if_neg (show ¬ br < f by omega), if_pos (.inl H12.out)]
      have k0 : (C == 0) = false := by rw [hC]; rfl
      have k1 : (C == 1) = false := by rw [hC]; rfl
      have k2 : (C == 2) = false := by rw [hC]; rfl
      have k3 : (C == 3) = true := by rw [hC]; rfl
      have HGF := Lib.hid (Hsm.out (by rw [hC]; omega))
      clear hC
      have cx_0 := Sx.out.cell 0 (v := .int .i64 f) rfl
      have cx_1 := Sx.out.cell 1 (v := .slice ax l.length cx) rfl
      have cb_0 := Sb.out.cell 0 (v := .int .i64 bd) rfl
      have cb_1 := Sb.out.cell 1 (v := .int .i64 ba) rfl
      have cb_2 := Sb.out.cell 2 (v := .int .i64 br) rfl
      have cb_3 := Sb.out.cell 3 (v := .int .i64 bs) rfl
      have co_0 := So.out.cell 0 (v := .int .i64 F) rfl
      have co_1 := So.out.cell 1 (v := .slice ao G.length co) rfl
      go_wp2_with fail
      clear cx_0 cx_1 cb_0 cb_1 cb_2 cb_3 co_0 co_1
      refine (laws_sameStore F f G l _ _ fo fx _ (by omega) (by omega) To.out Tx.out).mono ?_
      rintro e w9 ⟨rfl, hb⟩
      rw [decide_eq_true (show F = f ∧ G = l from ⟨HGF.out.2, HGF.out.1⟩)]
      have Tx := Lib.hid (show Bts w9 l (.slice ax l.length cx) fx from Tx.out.under hb)
      have To := Lib.hid (show Bts w9 G (.slice ao G.length co) fo from To.out.under hb)
      have Sx := Lib.hid (show Str w9 (w1.heap.size) 25 #[.int .i64 f, .slice ax l.length cx] from (hb.block _ Sx.out.lt).trans Sx.out)
      have Sb := Lib.hid (show Str w9 (w1.heap.size + 1) 27 #[.int .i64 bd, .int .i64 ba, .int .i64 br, .int .i64 bs] from (hb.block _ Sb.out.lt).trans Sb.out)
      have So := Lib.hid (show Str w9 (w3.heap.size) 25 #[.int .i64 F, .slice ao G.length co] from (hb.block _ So.out.lt).trans So.out)
      have Sy := Lib.hid (show Str w9 (w8.heap.size) 27 #[.int .i64 y.d, .int .i64 y.a, .int .i64 y.r, .int .i64 y.s] from (hb.block _ Sy.out.lt).trans Sy.out)
      have hsw9 := hb.size
      have Hb := Lib.hid (below_step Hb.out Hb.out.size hb)
      clear hb
      go_wp2
      go_ret
      exact ⟨by first | rfl | exact ret_bool (by simp) | exact ret_bool (by simp; omega), Hb.out⟩
  case neg =>
    have h12d : ((l.length : Int) == 12) = false := by rw [beq_eq_false_iff_ne]; omega
    by_cases h30 : 30 < N + bs
    case pos =>
      have h30d : decide (30 < N + bs) = true := decide_eq_true h30
      have H30 := Lib.hid h30; clear h30
      clear h12
      have cx_0 := Sx.out.cell 0 (v := .int .i64 f) rfl
      have cx_1 := Sx.out.cell 1 (v := .slice ax l.length cx) rfl
      have cb_0 := Sb.out.cell 0 (v := .int .i64 bd) rfl
      have cb_1 := Sb.out.cell 1 (v := .int .i64 ba) rfl
      have cb_2 := Sb.out.cell 2 (v := .int .i64 br) rfl
      have cb_3 := Sb.out.cell 3 (v := .int .i64 bs) rfl
      have co_0 := So.out.cell 0 (v := .int .i64 F) rfl
      have co_1 := So.out.cell 1 (v := .slice ao G.length co) rfl
      have cy_0 := Sy.out.cell 0 (v := .int .i64 y.d) rfl
      have cy_1 := Sy.out.cell 1 (v := .int .i64 y.a) rfl
      have cy_2 := Sy.out.cell 2 (v := .int .i64 y.r) rfl
      have cy_3 := Sy.out.cell 3 (v := .int .i64 y.s) rfl
      refine wp_region_held_drew (S := fun W' => W'.cell? ⟨w1.heap.size, 0, none⟩ = some (.int .i64 f) ∧ W'.cell? ⟨w1.heap.size, 1, none⟩ = some (.slice ax l.length cx) ∧ W'.cell? ⟨w1.heap.size + 1, 0, none⟩ = some (.int .i64 bd) ∧ W'.cell? ⟨w1.heap.size + 1, 1, none⟩ = some (.int .i64 ba) ∧ W'.cell? ⟨w1.heap.size + 1, 2, none⟩ = some (.int .i64 br) ∧ W'.cell? ⟨w1.heap.size + 1, 3, none⟩ = some (.int .i64 bs) ∧ W'.cell? ⟨w3.heap.size, 0, none⟩ = some (.int .i64 F) ∧ W'.cell? ⟨w3.heap.size, 1, none⟩ = some (.slice ao G.length co) ∧ W'.cell? ⟨w8.heap.size, 0, none⟩ = some (.int .i64 y.d) ∧ W'.cell? ⟨w8.heap.size, 1, none⟩ = some (.int .i64 y.a) ∧ W'.cell? ⟨w8.heap.size, 2, none⟩ = some (.int .i64 y.r) ∧ W'.cell? ⟨w8.heap.size, 3, none⟩ = some (.int .i64 y.s)) (by kernel_rfl) ⟨Sx.out.cell 0 (v := .int .i64 f) rfl, Sx.out.cell 1 (v := .slice ax l.length cx) rfl, Sb.out.cell 0 (v := .int .i64 bd) rfl, Sb.out.cell 1 (v := .int .i64 ba) rfl, Sb.out.cell 2 (v := .int .i64 br) rfl, Sb.out.cell 3 (v := .int .i64 bs) rfl, So.out.cell 0 (v := .int .i64 F) rfl, So.out.cell 1 (v := .slice ao G.length co) rfl, Sy.out.cell 0 (v := .int .i64 y.d) rfl, Sy.out.cell 1 (v := .int .i64 y.a) rfl, Sy.out.cell 2 (v := .int .i64 y.r) rfl, Sy.out.cell 3 (v := .int .i64 y.s) rfl⟩ (fun hH => ?_)
      clear cx_0 cx_1 cb_0 cb_1 cb_2 cb_3 co_0 co_1 cy_0 cy_1 cy_2 cy_3
      have hdr : Below WE.heap.size WE WE.drew := (Below.refl _ _).drew
      have Tx := Lib.hid (show Bts WE.drew l (.slice ax l.length cx) fx from Tx.out.under hdr)
      have To := Lib.hid (show Bts WE.drew G (.slice ao G.length co) fo from To.out.under hdr)
      have Sx := Lib.hid (show Str WE.drew (w1.heap.size) 25 #[.int .i64 f, .slice ax l.length cx] from (hdr.block _ Sx.out.lt).trans Sx.out)
      have Sb := Lib.hid (show Str WE.drew (w1.heap.size + 1) 27 #[.int .i64 bd, .int .i64 ba, .int .i64 br, .int .i64 bs] from (hdr.block _ Sb.out.lt).trans Sb.out)
      have So := Lib.hid (show Str WE.drew (w3.heap.size) 25 #[.int .i64 F, .slice ao G.length co] from (hdr.block _ So.out.lt).trans So.out)
      have Sy := Lib.hid (show Str WE.drew (w8.heap.size) 27 #[.int .i64 y.d, .int .i64 y.a, .int .i64 y.r, .int .i64 y.s] from (hdr.block _ Sy.out.lt).trans Sy.out)
      have hsWE.drew := hdr.size
      have Hb := Lib.hid (below_step Hb.out Hb.out.size hdr)
      clear hdr
      generalize WE.drew = wf at *
      refine takeH 0 (v := ?vcb1) rfl (by kernel_rfl) (by kernel_rfl) (by kernel_rfl) (fun _ _ _ h => h) hH rfl ?ycb1 ?rcb1
      case ycb1 => intro W hSw; go_simp; try with_reducible rfl
      try simp only [Act.put, List.setIfInBounds_toArray, List.set_cons_zero, List.set_cons_succ]
      refine takeH 1 (v := ?vcb2) rfl (by kernel_rfl) (by kernel_rfl) (by kernel_rfl) (fun _ _ _ h => h) hH rfl ?ycb2 ?rcb2
      case ycb2 => intro W hSw; go_simp; try with_reducible rfl
      try simp only [Act.put, List.setIfInBounds_toArray, List.set_cons_zero, List.set_cons_succ]
      refine takeH 2 (v := ?vcb3) rfl (by kernel_rfl) (by kernel_rfl) (by kernel_rfl) (fun _ _ _ h => h) hH rfl ?ycb3 ?rcb3
      case ycb3 => intro W hSw; go_simp; try with_reducible rfl
      try simp only [Act.put, List.setIfInBounds_toArray, List.set_cons_zero, List.set_cons_succ]
      refine takeH 3 (v := .bool false) rfl (by kernel_rfl) (by kernel_rfl) (by kernel_rfl) (fun _ _ _ h => h) hH rfl ?ycb4 ?rcb4
      case ycb4 => intro W hSw; go_simp; first | done | simp only [h12d] | omega | (simp; omega)
      try simp only [Act.put, List.setIfInBounds_toArray, List.set_cons_zero, List.set_cons_succ]
      refine takeH 4 (v := ?vcb5) rfl (by kernel_rfl) (by kernel_rfl) (by kernel_rfl) (fun _ _ _ h => h) hH rfl ?ycb5 ?rcb5
      case ycb5 => intro W hSw; go_simp; try with_reducible rfl
      try simp only [Act.put, List.setIfInBounds_toArray, List.set_cons_zero, List.set_cons_succ]
      refine takeH 5 (v := ?vcb6) rfl (by kernel_rfl) (by kernel_rfl) (by kernel_rfl) (fun _ _ _ h => h) hH rfl ?ycb6 ?rcb6
      case ycb6 => intro W hSw; go_simp; try with_reducible rfl
      try simp only [Act.put, List.setIfInBounds_toArray, List.set_cons_zero, List.set_cons_succ]
      refine takeH 6 (v := ?vcb7) rfl (by kernel_rfl) (by kernel_rfl) (by kernel_rfl) (fun _ _ _ h => h) hH rfl ?ycb7 ?rcb7
      case ycb7 => intro W hSw; go_simp; try with_reducible rfl
      try simp only [Act.put, List.setIfInBounds_toArray, List.set_cons_zero, List.set_cons_succ]
      refine takeH 7 (v := ?vcb8) rfl (by kernel_rfl) (by kernel_rfl) (by kernel_rfl) (fun _ _ _ h => h) hH rfl ?ycb8 ?rcb8
      case ycb8 => intro W hSw; go_simp; try with_reducible rfl
      try simp only [Act.put, List.setIfInBounds_toArray, List.set_cons_zero, List.set_cons_succ]
      refine takeH 9 (v := ?vcb9) rfl (by kernel_rfl) (by kernel_rfl) (by kernel_rfl) (fun _ _ _ h => h) hH rfl ?ycb9 ?rcb9
      case ycb9 => intro W hSw; go_simp; try with_reducible rfl
      try simp only [Act.put, List.setIfInBounds_toArray, List.set_cons_zero, List.set_cons_succ]
      refine takeH 10 (v := ?vcb10) rfl (by kernel_rfl) (by kernel_rfl) (by kernel_rfl) (fun _ _ _ h => h) hH rfl ?ycb10 ?rcb10
      case ycb10 => intro W hSw; go_simp; try with_reducible rfl
      try simp only [Act.put, List.setIfInBounds_toArray, List.set_cons_zero, List.set_cons_succ]
      refine callH 8 rfl (by kernel_rfl) rfl (fun K hK => ?_)
      go_simp
      go_at_call 15
      refine (HU.out _ Tx.out).mono ?_
      rintro e wg ⟨rfl, hb⟩
      have Tx := Lib.hid (show Bts wg l (.slice ax l.length cx) fx from Tx.out.under hb)
      have To := Lib.hid (show Bts wg G (.slice ao G.length co) fo from To.out.under hb)
      have Sx := Lib.hid (show Str wg (w1.heap.size) 25 #[.int .i64 f, .slice ax l.length cx] from (hb.block _ Sx.out.lt).trans Sx.out)
      have Sb := Lib.hid (show Str wg (w1.heap.size + 1) 27 #[.int .i64 bd, .int .i64 ba, .int .i64 br, .int .i64 bs] from (hb.block _ Sb.out.lt).trans Sb.out)
      have So := Lib.hid (show Str wg (w3.heap.size) 25 #[.int .i64 F, .slice ao G.length co] from (hb.block _ So.out.lt).trans So.out)
      have Sy := Lib.hid (show Str wg (w8.heap.size) 27 #[.int .i64 y.d, .int .i64 y.a, .int .i64 y.r, .int .i64 y.s] from (hb.block _ Sy.out.lt).trans Sy.out)
      have hswg := hb.size
      have Hb := Lib.hid (below_step Hb.out Hb.out.size hb)
      clear hb
      refine hK.out _ _ ⟨Sx.out.cell 0 (v := .int .i64 f) rfl, Sx.out.cell 1 (v := .slice ax l.length cx) rfl, Sb.out.cell 0 (v := .int .i64 bd) rfl, Sb.out.cell 1 (v := .int .i64 ba) rfl, Sb.out.cell 2 (v := .int .i64 br) rfl, Sb.out.cell 3 (v := .int .i64 bs) rfl, So.out.cell 0 (v := .int .i64 F) rfl, So.out.cell 1 (v := .slice ao G.length co) rfl, Sy.out.cell 0 (v := .int .i64 y.d) rfl, Sy.out.cell 1 (v := .int .i64 y.a) rfl, Sy.out.cell 2 (v := .int .i64 y.r) rfl, Sy.out.cell 3 (v := .int .i64 y.s) rfl⟩ (fun hH => ?_)
      clear hK K
      try simp only [Act.put, List.setIfInBounds_toArray, List.set_cons_zero, List.set_cons_succ]
      refine takeH 11 (v := ?vcb11) rfl (by kernel_rfl) (by kernel_rfl) (by kernel_rfl) (fun _ _ _ h => h) hH rfl ?ycb11 ?rcb11
      case ycb11 => intro W hSw; go_simp; try with_reducible rfl
      try simp only [Act.put, List.setIfInBounds_toArray, List.set_cons_zero, List.set_cons_succ]
      refine takeH 12 (v := .bool true) rfl (by kernel_rfl) (by kernel_rfl) (by kernel_rfl) (fun _ _ _ h => h) hH rfl ?ycb12 ?rcb12
      case ycb12 => intro W hSw; go_simp; first | done | simp only [h30d] | omega | (simp; omega)
      try simp only [Act.put, List.setIfInBounds_toArray, List.set_cons_zero, List.set_cons_succ]
      refine takeH 13 (v := ?vcb13) rfl (by kernel_rfl) (by kernel_rfl) (by kernel_rfl) (fun _ _ _ h => h) hH rfl ?ycb13 ?rcb13
      case ycb13 => intro W hSw; go_simp; try with_reducible rfl
      try simp only [Act.put, List.setIfInBounds_toArray, List.set_cons_zero, List.set_cons_succ]
      refine takeH 14 (v := ?vcb14) rfl (by kernel_rfl) (by kernel_rfl) (by kernel_rfl) (fun _ _ _ h => h) hH rfl ?ycb14 ?rcb14
      case ycb14 => intro W hSw; go_simp; try with_reducible rfl
      try simp only [Act.put, List.setIfInBounds_toArray, List.set_cons_zero, List.set_cons_succ]
      refine wpAnyH_done (by kernel_rfl) ?_ _
      try simp only [Act.put]
      clear hH h12d
      cases kn with
      | true =>
        have hC : C = 1 := by rw [Hp.out, if_pos rfl]
        have k0 : (C == 0) = false := by rw [hC]; rfl
        have k1 : (C == 1) = true := by rw [hC]; rfl
        have k2 : (C == 2) = false := by rw [hC]; rfl
        have k3 : (C == 3) = false := by rw [hC]; rfl
        have HGF := Lib.hid (Hsm.out (by rw [hC]; omega))
        clear hC
        have cx_0 := Sx.out.cell 0 (v := .int .i64 f) rfl
        have cx_1 := Sx.out.cell 1 (v := .slice ax l.length cx) rfl
        have cb_0 := Sb.out.cell 0 (v := .int .i64 bd) rfl
        have cb_1 := Sb.out.cell 1 (v := .int .i64 ba) rfl
        have cb_2 := Sb.out.cell 2 (v := .int .i64 br) rfl
        have cb_3 := Sb.out.cell 3 (v := .int .i64 bs) rfl
        have co_0 := So.out.cell 0 (v := .int .i64 F) rfl
        have co_1 := So.out.cell 1 (v := .slice ao G.length co) rfl
        go_wp2_with fail
        clear cx_0 cx_1 cb_0 cb_1 cb_2 cb_3 co_0 co_1
        refine (laws_sameStore F f G l _ _ fo fx _ (by omega) (by omega) To.out Tx.out).mono ?_
        rintro e w9 ⟨rfl, hb⟩
        rw [decide_eq_true (show F = f ∧ G = l from ⟨HGF.out.2, HGF.out.1⟩)]
        have Tx := Lib.hid (show Bts w9 l (.slice ax l.length cx) fx from Tx.out.under hb)
        have To := Lib.hid (show Bts w9 G (.slice ao G.length co) fo from To.out.under hb)
        have Sx := Lib.hid (show Str w9 (w1.heap.size) 25 #[.int .i64 f, .slice ax l.length cx] from (hb.block _ Sx.out.lt).trans Sx.out)
        have Sb := Lib.hid (show Str w9 (w1.heap.size + 1) 27 #[.int .i64 bd, .int .i64 ba, .int .i64 br, .int .i64 bs] from (hb.block _ Sb.out.lt).trans Sb.out)
        have So := Lib.hid (show Str w9 (w3.heap.size) 25 #[.int .i64 F, .slice ao G.length co] from (hb.block _ So.out.lt).trans So.out)
        have Sy := Lib.hid (show Str w9 (w8.heap.size) 27 #[.int .i64 y.d, .int .i64 y.a, .int .i64 y.r, .int .i64 y.s] from (hb.block _ Sy.out.lt).trans Sy.out)
        have hsw9 := hb.size
        have Hb := Lib.hid (below_step Hb.out Hb.out.size hb)
        clear hb
        go_wp2
        go_ret
        exact ⟨by first | rfl | exact ret_bool (by simp) | exact ret_bool (by simp; omega), Hb.out⟩
      | false =>
        by_cases hlt : br < f
        case pos =>
          have hltd : decide (br < f) = true := decide_eq_true hlt
          have hC : C = 2 := by rw [Hp.out, if_neg (by simp), if_pos hlt]
          have k0 : (C == 0) = false := by rw [hC]; rfl
          have k1 : (C == 1) = false := by rw [hC]; rfl
          have k2 : (C == 2) = true := by rw [hC]; rfl
          have k3 : (C == 3) = false := by rw [hC]; rfl
          have HGF := Lib.hid (Hsm.out (by rw [hC]; omega))
          clear hC
          have cx_0 := Sx.out.cell 0 (v := .int .i64 f) rfl
          have cx_1 := Sx.out.cell 1 (v := .slice ax l.length cx) rfl
          have cb_0 := Sb.out.cell 0 (v := .int .i64 bd) rfl
          have cb_1 := Sb.out.cell 1 (v := .int .i64 ba) rfl
          have cb_2 := Sb.out.cell 2 (v := .int .i64 br) rfl
          have cb_3 := Sb.out.cell 3 (v := .int .i64 bs) rfl
          have co_0 := So.out.cell 0 (v := .int .i64 F) rfl
          have co_1 := So.out.cell 1 (v := .slice ao G.length co) rfl
          go_wp2_with fail
          clear cx_0 cx_1 cb_0 cb_1 cb_2 cb_3 co_0 co_1
          refine (laws_sameStore F f G l _ _ fo fx _ (by omega) (by omega) To.out Tx.out).mono ?_
          rintro e w9 ⟨rfl, hb⟩
          rw [decide_eq_true (show F = f ∧ G = l from ⟨HGF.out.2, HGF.out.1⟩)]
          have Tx := Lib.hid (show Bts w9 l (.slice ax l.length cx) fx from Tx.out.under hb)
          have To := Lib.hid (show Bts w9 G (.slice ao G.length co) fo from To.out.under hb)
          have Sx := Lib.hid (show Str w9 (w1.heap.size) 25 #[.int .i64 f, .slice ax l.length cx] from (hb.block _ Sx.out.lt).trans Sx.out)
          have Sb := Lib.hid (show Str w9 (w1.heap.size + 1) 27 #[.int .i64 bd, .int .i64 ba, .int .i64 br, .int .i64 bs] from (hb.block _ Sb.out.lt).trans Sb.out)
          have So := Lib.hid (show Str w9 (w3.heap.size) 25 #[.int .i64 F, .slice ao G.length co] from (hb.block _ So.out.lt).trans So.out)
          have Sy := Lib.hid (show Str w9 (w8.heap.size) 27 #[.int .i64 y.d, .int .i64 y.a, .int .i64 y.r, .int .i64 y.s] from (hb.block _ Sy.out.lt).trans Sy.out)
          have hsw9 := hb.size
          have Hb := Lib.hid (below_step Hb.out Hb.out.size hb)
          clear hb
          go_wp2
          go_ret
          exact ⟨by first | rfl | exact ret_bool (by simp) | exact ret_bool (by simp; omega), Hb.out⟩
        have hltd : decide (br < f) = false := decide_eq_false hlt
        have hfb : f ≤ br := by omega
        have hC : C = 3 := by rw [Hp.out, if_neg (by simp), if_neg (show ¬ br < f by omega), if_pos (.inr H30.out)]
        have k0 : (C == 0) = false := by rw [hC]; rfl
        have k1 : (C == 1) = false := by rw [hC]; rfl
        have k2 : (C == 2) = false := by rw [hC]; rfl
        have k3 : (C == 3) = true := by rw [hC]; rfl
        have HGF := Lib.hid (Hsm.out (by rw [hC]; omega))
        clear hC
        have cx_0 := Sx.out.cell 0 (v := .int .i64 f) rfl
        have cx_1 := Sx.out.cell 1 (v := .slice ax l.length cx) rfl
        have cb_0 := Sb.out.cell 0 (v := .int .i64 bd) rfl
        have cb_1 := Sb.out.cell 1 (v := .int .i64 ba) rfl
        have cb_2 := Sb.out.cell 2 (v := .int .i64 br) rfl
        have cb_3 := Sb.out.cell 3 (v := .int .i64 bs) rfl
        have co_0 := So.out.cell 0 (v := .int .i64 F) rfl
        have co_1 := So.out.cell 1 (v := .slice ao G.length co) rfl
        go_wp2_with fail
        clear cx_0 cx_1 cb_0 cb_1 cb_2 cb_3 co_0 co_1
        refine (laws_sameStore F f G l _ _ fo fx _ (by omega) (by omega) To.out Tx.out).mono ?_
        rintro e w9 ⟨rfl, hb⟩
        rw [decide_eq_true (show F = f ∧ G = l from ⟨HGF.out.2, HGF.out.1⟩)]
        have Tx := Lib.hid (show Bts w9 l (.slice ax l.length cx) fx from Tx.out.under hb)
        have To := Lib.hid (show Bts w9 G (.slice ao G.length co) fo from To.out.under hb)
        have Sx := Lib.hid (show Str w9 (w1.heap.size) 25 #[.int .i64 f, .slice ax l.length cx] from (hb.block _ Sx.out.lt).trans Sx.out)
        have Sb := Lib.hid (show Str w9 (w1.heap.size + 1) 27 #[.int .i64 bd, .int .i64 ba, .int .i64 br, .int .i64 bs] from (hb.block _ Sb.out.lt).trans Sb.out)
        have So := Lib.hid (show Str w9 (w3.heap.size) 25 #[.int .i64 F, .slice ao G.length co] from (hb.block _ So.out.lt).trans So.out)
        have Sy := Lib.hid (show Str w9 (w8.heap.size) 27 #[.int .i64 y.d, .int .i64 y.a, .int .i64 y.r, .int .i64 y.s] from (hb.block _ Sy.out.lt).trans Sy.out)
        have hsw9 := hb.size
        have Hb := Lib.hid (below_step Hb.out Hb.out.size hb)
        clear hb
        go_wp2
        go_ret
        exact ⟨by first | rfl | exact ret_bool (by simp) | exact ret_bool (by simp; omega), Hb.out⟩
    skip
    case neg =>
      have h30d : decide (30 < N + bs) = false := decide_eq_false h30
      have hnf : ¬ (l.length = 12 ∨ 30 < N + bs) := by omega
      have Hnf := Lib.hid hnf; clear hnf h30
      clear h12
      have cx_0 := Sx.out.cell 0 (v := .int .i64 f) rfl
      have cx_1 := Sx.out.cell 1 (v := .slice ax l.length cx) rfl
      have cb_0 := Sb.out.cell 0 (v := .int .i64 bd) rfl
      have cb_1 := Sb.out.cell 1 (v := .int .i64 ba) rfl
      have cb_2 := Sb.out.cell 2 (v := .int .i64 br) rfl
      have cb_3 := Sb.out.cell 3 (v := .int .i64 bs) rfl
      have co_0 := So.out.cell 0 (v := .int .i64 F) rfl
      have co_1 := So.out.cell 1 (v := .slice ao G.length co) rfl
      have cy_0 := Sy.out.cell 0 (v := .int .i64 y.d) rfl
      have cy_1 := Sy.out.cell 1 (v := .int .i64 y.a) rfl
      have cy_2 := Sy.out.cell 2 (v := .int .i64 y.r) rfl
      have cy_3 := Sy.out.cell 3 (v := .int .i64 y.s) rfl
      refine wp_region_held_drew (S := fun W' => W'.cell? ⟨w1.heap.size, 0, none⟩ = some (.int .i64 f) ∧ W'.cell? ⟨w1.heap.size, 1, none⟩ = some (.slice ax l.length cx) ∧ W'.cell? ⟨w1.heap.size + 1, 0, none⟩ = some (.int .i64 bd) ∧ W'.cell? ⟨w1.heap.size + 1, 1, none⟩ = some (.int .i64 ba) ∧ W'.cell? ⟨w1.heap.size + 1, 2, none⟩ = some (.int .i64 br) ∧ W'.cell? ⟨w1.heap.size + 1, 3, none⟩ = some (.int .i64 bs) ∧ W'.cell? ⟨w3.heap.size, 0, none⟩ = some (.int .i64 F) ∧ W'.cell? ⟨w3.heap.size, 1, none⟩ = some (.slice ao G.length co) ∧ W'.cell? ⟨w8.heap.size, 0, none⟩ = some (.int .i64 y.d) ∧ W'.cell? ⟨w8.heap.size, 1, none⟩ = some (.int .i64 y.a) ∧ W'.cell? ⟨w8.heap.size, 2, none⟩ = some (.int .i64 y.r) ∧ W'.cell? ⟨w8.heap.size, 3, none⟩ = some (.int .i64 y.s)) (by kernel_rfl) ⟨Sx.out.cell 0 (v := .int .i64 f) rfl, Sx.out.cell 1 (v := .slice ax l.length cx) rfl, Sb.out.cell 0 (v := .int .i64 bd) rfl, Sb.out.cell 1 (v := .int .i64 ba) rfl, Sb.out.cell 2 (v := .int .i64 br) rfl, Sb.out.cell 3 (v := .int .i64 bs) rfl, So.out.cell 0 (v := .int .i64 F) rfl, So.out.cell 1 (v := .slice ao G.length co) rfl, Sy.out.cell 0 (v := .int .i64 y.d) rfl, Sy.out.cell 1 (v := .int .i64 y.a) rfl, Sy.out.cell 2 (v := .int .i64 y.r) rfl, Sy.out.cell 3 (v := .int .i64 y.s) rfl⟩ (fun hH => ?_)
      clear cx_0 cx_1 cb_0 cb_1 cb_2 cb_3 co_0 co_1 cy_0 cy_1 cy_2 cy_3
      have hdr : Below WE.heap.size WE WE.drew := (Below.refl _ _).drew
      have Tx := Lib.hid (show Bts WE.drew l (.slice ax l.length cx) fx from Tx.out.under hdr)
      have To := Lib.hid (show Bts WE.drew G (.slice ao G.length co) fo from To.out.under hdr)
      have Sx := Lib.hid (show Str WE.drew (w1.heap.size) 25 #[.int .i64 f, .slice ax l.length cx] from (hdr.block _ Sx.out.lt).trans Sx.out)
      have Sb := Lib.hid (show Str WE.drew (w1.heap.size + 1) 27 #[.int .i64 bd, .int .i64 ba, .int .i64 br, .int .i64 bs] from (hdr.block _ Sb.out.lt).trans Sb.out)
      have So := Lib.hid (show Str WE.drew (w3.heap.size) 25 #[.int .i64 F, .slice ao G.length co] from (hdr.block _ So.out.lt).trans So.out)
      have Sy := Lib.hid (show Str WE.drew (w8.heap.size) 27 #[.int .i64 y.d, .int .i64 y.a, .int .i64 y.r, .int .i64 y.s] from (hdr.block _ Sy.out.lt).trans Sy.out)
      have hsWE.drew := hdr.size
      have Hb := Lib.hid (below_step Hb.out Hb.out.size hdr)
      clear hdr
      generalize WE.drew = wf at *
      refine takeH 0 (v := ?vcc1) rfl (by kernel_rfl) (by kernel_rfl) (by kernel_rfl) (fun _ _ _ h => h) hH rfl ?ycc1 ?rcc1
      case ycc1 => intro W hSw; go_simp; try with_reducible rfl
      try simp only [Act.put, List.setIfInBounds_toArray, List.set_cons_zero, List.set_cons_succ]
      refine takeH 1 (v := ?vcc2) rfl (by kernel_rfl) (by kernel_rfl) (by kernel_rfl) (fun _ _ _ h => h) hH rfl ?ycc2 ?rcc2
      case ycc2 => intro W hSw; go_simp; try with_reducible rfl
      try simp only [Act.put, List.setIfInBounds_toArray, List.set_cons_zero, List.set_cons_succ]
      refine takeH 2 (v := ?vcc3) rfl (by kernel_rfl) (by kernel_rfl) (by kernel_rfl) (fun _ _ _ h => h) hH rfl ?ycc3 ?rcc3
      case ycc3 => intro W hSw; go_simp; try with_reducible rfl
      try simp only [Act.put, List.setIfInBounds_toArray, List.set_cons_zero, List.set_cons_succ]
      refine takeH 3 (v := .bool false) rfl (by kernel_rfl) (by kernel_rfl) (by kernel_rfl) (fun _ _ _ h => h) hH rfl ?ycc4 ?rcc4
      case ycc4 => intro W hSw; go_simp; first | done | simp only [h12d] | omega | (simp; omega)
      try simp only [Act.put, List.setIfInBounds_toArray, List.set_cons_zero, List.set_cons_succ]
      refine takeH 4 (v := ?vcc5) rfl (by kernel_rfl) (by kernel_rfl) (by kernel_rfl) (fun _ _ _ h => h) hH rfl ?ycc5 ?rcc5
      case ycc5 => intro W hSw; go_simp; try with_reducible rfl
      try simp only [Act.put, List.setIfInBounds_toArray, List.set_cons_zero, List.set_cons_succ]
      refine takeH 5 (v := ?vcc6) rfl (by kernel_rfl) (by kernel_rfl) (by kernel_rfl) (fun _ _ _ h => h) hH rfl ?ycc6 ?rcc6
      case ycc6 => intro W hSw; go_simp; try with_reducible rfl
      try simp only [Act.put, List.setIfInBounds_toArray, List.set_cons_zero, List.set_cons_succ]
      refine takeH 6 (v := ?vcc7) rfl (by kernel_rfl) (by kernel_rfl) (by kernel_rfl) (fun _ _ _ h => h) hH rfl ?ycc7 ?rcc7
      case ycc7 => intro W hSw; go_simp; try with_reducible rfl
      try simp only [Act.put, List.setIfInBounds_toArray, List.set_cons_zero, List.set_cons_succ]
      refine takeH 7 (v := ?vcc8) rfl (by kernel_rfl) (by kernel_rfl) (by kernel_rfl) (fun _ _ _ h => h) hH rfl ?ycc8 ?rcc8
      case ycc8 => intro W hSw; go_simp; try with_reducible rfl
      try simp only [Act.put, List.setIfInBounds_toArray, List.set_cons_zero, List.set_cons_succ]
      refine takeH 9 (v := ?vcc9) rfl (by kernel_rfl) (by kernel_rfl) (by kernel_rfl) (fun _ _ _ h => h) hH rfl ?ycc9 ?rcc9
      case ycc9 => intro W hSw; go_simp; try with_reducible rfl
      try simp only [Act.put, List.setIfInBounds_toArray, List.set_cons_zero, List.set_cons_succ]
      refine takeH 10 (v := ?vcc10) rfl (by kernel_rfl) (by kernel_rfl) (by kernel_rfl) (fun _ _ _ h => h) hH rfl ?ycc10 ?rcc10
      case ycc10 => intro W hSw; go_simp; try with_reducible rfl
      try simp only [Act.put, List.setIfInBounds_toArray, List.set_cons_zero, List.set_cons_succ]
      refine callH 8 rfl (by kernel_rfl) rfl (fun K hK => ?_)
      go_simp
      go_at_call 15
      refine (HU.out _ Tx.out).mono ?_
      rintro e wg ⟨rfl, hb⟩
      have Tx := Lib.hid (show Bts wg l (.slice ax l.length cx) fx from Tx.out.under hb)
      have To := Lib.hid (show Bts wg G (.slice ao G.length co) fo from To.out.under hb)
      have Sx := Lib.hid (show Str wg (w1.heap.size) 25 #[.int .i64 f, .slice ax l.length cx] from (hb.block _ Sx.out.lt).trans Sx.out)
      have Sb := Lib.hid (show Str wg (w1.heap.size + 1) 27 #[.int .i64 bd, .int .i64 ba, .int .i64 br, .int .i64 bs] from (hb.block _ Sb.out.lt).trans Sb.out)
      have So := Lib.hid (show Str wg (w3.heap.size) 25 #[.int .i64 F, .slice ao G.length co] from (hb.block _ So.out.lt).trans So.out)
      have Sy := Lib.hid (show Str wg (w8.heap.size) 27 #[.int .i64 y.d, .int .i64 y.a, .int .i64 y.r, .int .i64 y.s] from (hb.block _ Sy.out.lt).trans Sy.out)
      have hswg := hb.size
      have Hb := Lib.hid (below_step Hb.out Hb.out.size hb)
      clear hb
      refine hK.out _ _ ⟨Sx.out.cell 0 (v := .int .i64 f) rfl, Sx.out.cell 1 (v := .slice ax l.length cx) rfl, Sb.out.cell 0 (v := .int .i64 bd) rfl, Sb.out.cell 1 (v := .int .i64 ba) rfl, Sb.out.cell 2 (v := .int .i64 br) rfl, Sb.out.cell 3 (v := .int .i64 bs) rfl, So.out.cell 0 (v := .int .i64 F) rfl, So.out.cell 1 (v := .slice ao G.length co) rfl, Sy.out.cell 0 (v := .int .i64 y.d) rfl, Sy.out.cell 1 (v := .int .i64 y.a) rfl, Sy.out.cell 2 (v := .int .i64 y.r) rfl, Sy.out.cell 3 (v := .int .i64 y.s) rfl⟩ (fun hH => ?_)
      clear hK K
      try simp only [Act.put, List.setIfInBounds_toArray, List.set_cons_zero, List.set_cons_succ]
      refine takeH 11 (v := ?vcc11) rfl (by kernel_rfl) (by kernel_rfl) (by kernel_rfl) (fun _ _ _ h => h) hH rfl ?ycc11 ?rcc11
      case ycc11 => intro W hSw; go_simp; try with_reducible rfl
      try simp only [Act.put, List.setIfInBounds_toArray, List.set_cons_zero, List.set_cons_succ]
      refine takeH 12 (v := .bool false) rfl (by kernel_rfl) (by kernel_rfl) (by kernel_rfl) (fun _ _ _ h => h) hH rfl ?ycc12 ?rcc12
      case ycc12 => intro W hSw; go_simp; first | done | simp only [h30d] | omega | (simp; omega)
      try simp only [Act.put, List.setIfInBounds_toArray, List.set_cons_zero, List.set_cons_succ]
      refine takeH 13 (v := ?vcc13) rfl (by kernel_rfl) (by kernel_rfl) (by kernel_rfl) (fun _ _ _ h => h) hH rfl ?ycc13 ?rcc13
      case ycc13 => intro W hSw; go_simp; try with_reducible rfl
      try simp only [Act.put, List.setIfInBounds_toArray, List.set_cons_zero, List.set_cons_succ]
      refine takeH 14 (v := ?vcc14) rfl (by kernel_rfl) (by kernel_rfl) (by kernel_rfl) (fun _ _ _ h => h) hH rfl ?ycc14 ?rcc14
      case ycc14 => intro W hSw; go_simp; try with_reducible rfl
      try simp only [Act.put, List.setIfInBounds_toArray, List.set_cons_zero, List.set_cons_succ]
      refine wpAnyH_done (by kernel_rfl) ?_ _
      try simp only [Act.put]
      clear hH h12d
      cases kn with
      | true =>
        have hC : C = 1 := by rw [Hp.out, if_pos rfl]
        have k0 : (C == 0) = false := by rw [hC]; rfl
        have k1 : (C == 1) = true := by rw [hC]; rfl
        have k2 : (C == 2) = false := by rw [hC]; rfl
        have k3 : (C == 3) = false := by rw [hC]; rfl
        have HGF := Lib.hid (Hsm.out (by rw [hC]; omega))
        clear hC
        have cx_0 := Sx.out.cell 0 (v := .int .i64 f) rfl
        have cx_1 := Sx.out.cell 1 (v := .slice ax l.length cx) rfl
        have cb_0 := Sb.out.cell 0 (v := .int .i64 bd) rfl
        have cb_1 := Sb.out.cell 1 (v := .int .i64 ba) rfl
        have cb_2 := Sb.out.cell 2 (v := .int .i64 br) rfl
        have cb_3 := Sb.out.cell 3 (v := .int .i64 bs) rfl
        have co_0 := So.out.cell 0 (v := .int .i64 F) rfl
        have co_1 := So.out.cell 1 (v := .slice ao G.length co) rfl
        go_wp2_with fail
        clear cx_0 cx_1 cb_0 cb_1 cb_2 cb_3 co_0 co_1
        refine (laws_sameStore F f G l _ _ fo fx _ (by omega) (by omega) To.out Tx.out).mono ?_
        rintro e w9 ⟨rfl, hb⟩
        rw [decide_eq_true (show F = f ∧ G = l from ⟨HGF.out.2, HGF.out.1⟩)]
        have Tx := Lib.hid (show Bts w9 l (.slice ax l.length cx) fx from Tx.out.under hb)
        have To := Lib.hid (show Bts w9 G (.slice ao G.length co) fo from To.out.under hb)
        have Sx := Lib.hid (show Str w9 (w1.heap.size) 25 #[.int .i64 f, .slice ax l.length cx] from (hb.block _ Sx.out.lt).trans Sx.out)
        have Sb := Lib.hid (show Str w9 (w1.heap.size + 1) 27 #[.int .i64 bd, .int .i64 ba, .int .i64 br, .int .i64 bs] from (hb.block _ Sb.out.lt).trans Sb.out)
        have So := Lib.hid (show Str w9 (w3.heap.size) 25 #[.int .i64 F, .slice ao G.length co] from (hb.block _ So.out.lt).trans So.out)
        have Sy := Lib.hid (show Str w9 (w8.heap.size) 27 #[.int .i64 y.d, .int .i64 y.a, .int .i64 y.r, .int .i64 y.s] from (hb.block _ Sy.out.lt).trans Sy.out)
        have hsw9 := hb.size
        have Hb := Lib.hid (below_step Hb.out Hb.out.size hb)
        clear hb
        go_wp2
        go_ret
        exact ⟨by first | rfl | exact ret_bool (by simp) | exact ret_bool (by simp; omega), Hb.out⟩
      | false =>
        by_cases hlt : br < f
        case pos =>
          have hltd : decide (br < f) = true := decide_eq_true hlt
          have hC : C = 2 := by rw [Hp.out, if_neg (by simp), if_pos hlt]
          have k0 : (C == 0) = false := by rw [hC]; rfl
          have k1 : (C == 1) = false := by rw [hC]; rfl
          have k2 : (C == 2) = true := by rw [hC]; rfl
          have k3 : (C == 3) = false := by rw [hC]; rfl
          have HGF := Lib.hid (Hsm.out (by rw [hC]; omega))
          clear hC
          have cx_0 := Sx.out.cell 0 (v := .int .i64 f) rfl
          have cx_1 := Sx.out.cell 1 (v := .slice ax l.length cx) rfl
          have cb_0 := Sb.out.cell 0 (v := .int .i64 bd) rfl
          have cb_1 := Sb.out.cell 1 (v := .int .i64 ba) rfl
          have cb_2 := Sb.out.cell 2 (v := .int .i64 br) rfl
          have cb_3 := Sb.out.cell 3 (v := .int .i64 bs) rfl
          have co_0 := So.out.cell 0 (v := .int .i64 F) rfl
          have co_1 := So.out.cell 1 (v := .slice ao G.length co) rfl
          go_wp2_with fail
          clear cx_0 cx_1 cb_0 cb_1 cb_2 cb_3 co_0 co_1
          refine (laws_sameStore F f G l _ _ fo fx _ (by omega) (by omega) To.out Tx.out).mono ?_
          rintro e w9 ⟨rfl, hb⟩
          rw [decide_eq_true (show F = f ∧ G = l from ⟨HGF.out.2, HGF.out.1⟩)]
          have Tx := Lib.hid (show Bts w9 l (.slice ax l.length cx) fx from Tx.out.under hb)
          have To := Lib.hid (show Bts w9 G (.slice ao G.length co) fo from To.out.under hb)
          have Sx := Lib.hid (show Str w9 (w1.heap.size) 25 #[.int .i64 f, .slice ax l.length cx] from (hb.block _ Sx.out.lt).trans Sx.out)
          have Sb := Lib.hid (show Str w9 (w1.heap.size + 1) 27 #[.int .i64 bd, .int .i64 ba, .int .i64 br, .int .i64 bs] from (hb.block _ Sb.out.lt).trans Sb.out)
          have So := Lib.hid (show Str w9 (w3.heap.size) 25 #[.int .i64 F, .slice ao G.length co] from (hb.block _ So.out.lt).trans So.out)
          have Sy := Lib.hid (show Str w9 (w8.heap.size) 27 #[.int .i64 y.d, .int .i64 y.a, .int .i64 y.r, .int .i64 y.s] from (hb.block _ Sy.out.lt).trans Sy.out)
          have hsw9 := hb.size
          have Hb := Lib.hid (below_step Hb.out Hb.out.size hb)
          clear hb
          go_wp2
          go_ret
          exact ⟨by first | rfl | exact ret_bool (by simp) | exact ret_bool (by simp; omega), Hb.out⟩
        have hltd : decide (br < f) = false := decide_eq_false hlt
        have hfb : f ≤ br := by omega
        have hC : C = 0 := by rw [Hp.out, if_neg (by simp), if_neg (show ¬ br < f by omega), if_neg Hnf.out]
        have k0 : (C == 0) = true := by rw [hC]; rfl
        have k1 : (C == 1) = false := by rw [hC]; rfl
        have k2 : (C == 2) = false := by rw [hC]; rfl
        have k3 : (C == 3) = false := by rw [hC]; rfl
        clear hC
        have cx_0 := Sx.out.cell 0 (v := .int .i64 f) rfl
        have cx_1 := Sx.out.cell 1 (v := .slice ax l.length cx) rfl
        have cb_0 := Sb.out.cell 0 (v := .int .i64 bd) rfl
        have cb_1 := Sb.out.cell 1 (v := .int .i64 ba) rfl
        have cb_2 := Sb.out.cell 2 (v := .int .i64 br) rfl
        have cb_3 := Sb.out.cell 3 (v := .int .i64 bs) rfl
        have co_0 := So.out.cell 0 (v := .int .i64 F) rfl
        have co_1 := So.out.cell 1 (v := .slice ao G.length co) rfl
        go_wp2
        go_ret
        exact ⟨by first | rfl | exact ret_bool (by simp) | exact ret_bool (by simp; omega), Hb.out⟩

theorem fnStoreCodes_own : ownKnob Try.prog.godebug = none := by kernel_rfl
theorem fnStoreCodes_laidOut : laidOutB Try.prog = true := by kernel_rfl

set_option maxRecDepth 8000 in
theorem fnStoreCodes_lifted (os : Os) (started : os.Started) (H : Type) (enc : TypeId × Value → H) :
    ReturnsInHanded {} Try.checked os 6 .any (Rows.fnStoreCodesSpec.pre6 enc Try.prog Try.f6 Rows.fnStoreCodesRow.domain false) (Rows.fnStoreCodesSpec.post enc Try.prog Try.f6 false true false false) := by
  refine law_lifted (C := Try.checked) (tb := 4) fnStoreCodes_own fnStoreCodes_laidOut started (by kernel_rfl) Try.func6 rfl Try.underlying4 rfl (by rw [Try.params6]; exact of_decide_eq_true (by kernel_rfl)) ?_
    (ChangeSpec.witness6 (enc := enc) (C := Try.checked) false ⟨#[], #[.slice none 0 0], []⟩ 8 (by kernel_rfl) (by kernel_rfl) (by kernel_rfl) (by kernel_rfl)) ?_
  · intro ds hds
    rw [Try.params6] at hds
    match ds, hds with
    | [d0], _ => rfl
  · intro W base args ds p hval0 hA0
    have hval : ∀ (j : Nat) t v, Try.f6.params[j]? = some t → args[j]? = some v → Value.okWide Try.prog W .any base t v := hval0
    have hA : DataW.TrodAll enc Try.prog W 0 (fun _ => true) true Try.f6.params.toList args.toList ds p := hA0
    rw [Try.params6] at hA hval
    obtain ⟨v0, vs0, d0, ds0, p0, q0, hargs0, rfl, rfl, h0, r0⟩ := trodAll_cons hA
    obtain ⟨hnil, rfl, rfl⟩ := trodAll_nil r0
    subst hnil
    obtain rfl : args = #[v0] := by cases args; simp_all
    obtain ⟨a0, cap0, zs0, rfl, hk0, hm0, hi0, hw0⟩ := open_slice_ints Try.underlying22 Try.underlying5 (by kernel_rfl) (hval 0 22 v0 rfl rfl) h0
    exact fnStoreCodes_walk a0 cap0 zs0 W hk0 hm0 hi0 hw0

set_option maxRecDepth 8000 in
theorem fnStoreCodes_holds : Rows.FnStoreCodesSaid :=
  OpenClaim.holds_of_wide 6 Try.f6 rfl rfl rfl rfl rfl rfl rfl ⟨rfl, rfl, rfl, rfl, rfl⟩ rfl rfl rfl rfl rfl (by kernel_rfl) Try.func6 (by kernel_rfl)
    (of_decide_eq_true (by kernel_rfl)) (by unfold Func.isWrapper; first | (rw [if_pos (by decide +kernel)]; kernel_rfl) | (rw [if_neg (by decide +kernel)]; exact ⟨rfl, rfl⟩))
    (fun os started H enc _ => fnStoreCodes_lifted os started H enc)

end Go.Proofs.Ythojbcecbeapgaa
