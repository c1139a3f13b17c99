/- Law FnLedgerRun holds for every input; no conditions of our own. -/
import Derived.Test.YtfnhafgjdnlhiaaRows
import Derived.Test.YtfnhafgjdnlhiaaBu0
import Derived.Test.YtfnhafgjdnlhiaaBu1
import Derived.Test.YtfnhafgjdnlhiaaBu3
import Derived.Test.YtfnhafgjdnlhiaaBu2
import Derived.Deep.QuietTactic
import Derived.BigQuiet
namespace Go.Proofs.Ytfnhafgjdnlhiaa
open Go.ChangeShapes Go.WideShapes Go.ChangeAt Go.RowKit

set_option maxHeartbeats 4000000 in
theorem fnLedgerRun_walk (a : Option Addr) (cap : Nat) (zs : List Int) (a' : Option Addr) (cap' : Nat) (ms : List Int) (w : World) (hk : zs.length ≤ cap) (_hm : zs.length ≤ maxLen) (hi : zs = [] ∨ ∃ b off, a = some ⟨b, off, none⟩ ∧ b < w.heap.size ∧ ∀ j (h : j < zs.length), w.cell? ⟨b, off + j, none⟩ = some (.int .u8 zs[j])) (hw : ∀ z ∈ zs, (Lit.int .u8 z).wf = true)
    (_hk' : ms.length ≤ cap') (hm' : ms.length ≤ maxLen) (_hi' : ms = [] ∨ ∃ b off, a' = some ⟨b, off, none⟩ ∧ b < w.heap.size ∧ ∀ j (h : j < ms.length), w.cell? ⟨b, off + j, none⟩ = some (.int .u8 ms[j])) (_hw' : ∀ z ∈ ms, (Lit.int .u8 z).wf = true) :
    Calls Try.prog 4 #[.slice a zs.length cap, .slice a' ms.length cap'] w fun e w' => e = .returned (.bool true) ∧ Below w.heap.size w w' := by
  unfold maxLen at hm'
  by_cases hl : 1048576 < zs.length
  · go_enter Try.func4, Try.ntmps4
    go_wp2
    go_ret
    exact ⟨rfl, Below.refl _ _⟩
  by_cases hl' : 1048576 < ms.length
  · go_enter Try.func4, Try.ntmps4
    go_wp2
    go_ret
    exact ⟨rfl, Below.refl _ _⟩
  have hcode := codeAt_of hk (by omega) hi hw
  have Hcode := Lib.hid hcode; clear hcode hi hw
  go_enter Try.func4, Try.ntmps4
  go_wp2_with fail
  refine (spec_DrawLedgerRun a cap zs _ Hcode.out).mono ?_
  rintro e1 w1 ⟨l, n, ux, xs, vx, rfl, ho, hx, hl6, hx17, hb1⟩
  obtain ⟨ax, cx, rfl, _, _⟩ := ho.ints
  obtain ⟨av, cv, rfl, hcv⟩ := OwnX.sl (l := xs) hx
  obtain ⟨fx, hT⟩ := OwnX.txs (l := xs) hx
  have hw0 := hb1.size
  have Tl := Lib.hid ho; have Tx := Lib.hid hT
  have Hb := Lib.hid hb1
  clear ho hx hT hb1
  have hal : Below w1.heap.size w1 (w1.alloc (.cells #[.slice ax l.length cx, .int .i64 n] 25)) := (Below.refl _ _).alloc (Nat.le_refl _) _
  have Tl := Lib.hid (show Own 3 (w1.alloc (.cells #[.slice ax l.length cx, .int .i64 n] 25)) w.heap.size (.slice ax l.length cx) (l) from Tl.out.below hal)
  have Tx := Lib.hid (show Txs (w1.alloc (.cells #[.slice ax l.length cx, .int .i64 n] 25)) (xs) (.slice av xs.length cv) fx from Tx.out.under hal)
  have Sl := Lib.hid (Str.new w1 25 #[.slice ax l.length cx, .int .i64 n])
  have Hb := Lib.hid (below_step Hb.out Hb.out.size hal)
  clear hal
  obtain ⟨G, hG⟩ : ∃ G, G = ruL l n xs := ⟨_, rfl⟩
  obtain ⟨F, hF⟩ : ∃ F, F = ruF l n xs := ⟨_, rfl⟩
  obtain ⟨Ko, hK⟩ : ∃ Ko, Ko = ruO l n xs := ⟨_, rfl⟩
  have hGl : G.length ≤ 6 := by rw [hG]; exact ru_len l n xs
  have hKl : Ko.length ≤ 16 := by rw [hK]; exact ru_lenO l n xs
  have HI := Lib.hid (fun W (h : IntsAt W ax l) (h3 : Txs W xs (.slice av xs.length cv) fx) => impl_LedgerRun ax cx l n xs _ fx W (by omega) (by omega) h h3)
  have HS := Lib.hid (fun W (h : IntsAt W ax l) (h2 : SrcAt W ax cx l) (h3 : Txs W xs (.slice av xs.length cv) fx) => spec_LedgerRun ax cx l n xs _ fx W (by omega) (by omega) h h2 h3)
  unfold RuP at HI HS
  rw [← hG, ← hF, ← hK] at HI HS
  have HG := Lib.hid hG; have HF := Lib.hid hF; have HK := Lib.hid hK
  have Hl6 := Lib.hid hl6; have Hx17 := Lib.hid hx17; have HGl := Lib.hid hGl; have HKl := Lib.hid hKl
  clear hG hF hK
  have cl_0 := Sl.out.cell 0 (v := .slice ax l.length cx) rfl
  have cl_1 := Sl.out.cell 1 (v := .int .i64 n) rfl
  go_wp2_with fail
  generalize (w1.alloc (.cells #[.slice ax l.length cx, .int .i64 n] 25)) = W2 at *
  clear cl_0 cl_1
  refine (HI.out _ Tl.out.at Tx.out).mono ?_
  rintro e w3 ⟨v, u, rfl, ho, hk, hb⟩
  have hwb := Hb.out.size
  obtain ⟨ao, co, rfl, _, _⟩ := ho.ints
  obtain ⟨bbo, bco, rfl, _⟩ := hk.slice
  have ho' := Lib.hid (ho.mono (show w.heap.size ≤ _ by omega)); have hk' := Lib.hid (hk.mono (show w.heap.size ≤ _ by omega))
  clear ho hk
  have Tl := Lib.hid (show Own 3 w3 w.heap.size (.slice ax l.length cx) (l) from Tl.out.below hb)
  have Tx := Lib.hid (show Txs w3 (xs) (.slice av xs.length cv) fx from Tx.out.under hb)
  have Sl := Lib.hid (show Str w3 (w1.heap.size) 25 #[.slice ax l.length cx, .int .i64 n] from (hb.block _ Sl.out.lt).trans Sl.out)
  have hsw3 := hb.size
  have Hb := Lib.hid (below_step Hb.out Hb.out.size hb)
  have To := Lib.hid (show Own 3 w3 w.heap.size (.slice ao (G).length co) (G) from ho'.out)
  have Tob := Lib.hid (show OwnB 4 w3 w.heap.size (.slice bbo (Ko).length bco) (Ko) from hk'.out)
  clear ho' hk' hb hwb
  have hal : Below w3.heap.size w3 (w3.alloc (.cells #[.slice ao G.length co, .int .i64 F] 25)) := (Below.refl _ _).alloc (Nat.le_refl _) _
  have Tl := Lib.hid (show Own 3 (w3.alloc (.cells #[.slice ao G.length co, .int .i64 F] 25)) w.heap.size (.slice ax l.length cx) (l) from Tl.out.below hal)
  have Tx := Lib.hid (show Txs (w3.alloc (.cells #[.slice ao G.length co, .int .i64 F] 25)) (xs) (.slice av xs.length cv) fx from Tx.out.under hal)
  have To := Lib.hid (show Own 3 (w3.alloc (.cells #[.slice ao G.length co, .int .i64 F] 25)) w.heap.size (.slice ao (G).length co) (G) from To.out.below hal)
  have Tob := Lib.hid (show OwnB 4 (w3.alloc (.cells #[.slice ao G.length co, .int .i64 F] 25)) w.heap.size (.slice bbo (Ko).length bco) (Ko) from Tob.out.below hal)
  have Sl := Lib.hid (show Str (w3.alloc (.cells #[.slice ao G.length co, .int .i64 F] 25)) (w1.heap.size) 25 #[.slice ax l.length cx, .int .i64 n] from Sl.out.alloc _)
  have So := Lib.hid (Str.new w3 25 #[.slice ao G.length co, .int .i64 F])
  have Hb := Lib.hid (below_step Hb.out Hb.out.size hal)
  clear hal
  have cl_0 := Sl.out.cell 0 (v := .slice ax l.length cx) rfl
  have cl_1 := Sl.out.cell 1 (v := .int .i64 n) rfl
  have co_0 := So.out.cell 0 (v := .slice ao G.length co) rfl
  have co_1 := So.out.cell 1 (v := .int .i64 F) rfl
  go_wp2_with fail
  generalize (w3.alloc (.cells #[.slice ao G.length co, .int .i64 F] 25)) = W4 at *
  clear cl_0 cl_1 co_0 co_1
  refine (HS.out _ Tl.out.at (own_src Tl.out) Tx.out).mono ?_
  rintro e w5 ⟨v, u, rfl, ho, hk, hb⟩
  have hwb := Hb.out.size
  obtain ⟨ak, ck, rfl, _, _⟩ := ho.ints
  obtain ⟨bbk, bck, rfl, _⟩ := hk.slice
  have ho' := Lib.hid (ho.mono (show w.heap.size ≤ _ by omega)); have hk' := Lib.hid (hk.mono (show w.heap.size ≤ _ by omega))
  clear ho hk
  have Tl := Lib.hid (show Own 3 w5 w.heap.size (.slice ax l.length cx) (l) from Tl.out.below hb)
  have Tx := Lib.hid (show Txs w5 (xs) (.slice av xs.length cv) fx from Tx.out.under hb)
  have To := Lib.hid (show Own 3 w5 w.heap.size (.slice ao (G).length co) (G) from To.out.below hb)
  have Tob := Lib.hid (show OwnB 4 w5 w.heap.size (.slice bbo (Ko).length bco) (Ko) from Tob.out.below hb)
  have Sl := Lib.hid (show Str w5 (w1.heap.size) 25 #[.slice ax l.length cx, .int .i64 n] from (hb.block _ Sl.out.lt).trans Sl.out)
  have So := Lib.hid (show Str w5 (w3.heap.size) 25 #[.slice ao G.length co, .int .i64 F] from (hb.block _ So.out.lt).trans So.out)
  have hsw5 := hb.size
  have Hb := Lib.hid (below_step Hb.out Hb.out.size hb)
  have Tk := Lib.hid (show Own 3 w5 w.heap.size (.slice ak (G).length ck) (G) from ho'.out)
  have Tkb := Lib.hid (show OwnB 4 w5 w.heap.size (.slice bbk (Ko).length bck) (Ko) from hk'.out)
  clear ho' hk' hb hwb
  have hal : Below w5.heap.size w5 (w5.alloc (.cells #[.slice ak G.length ck, .int .i64 F] 25)) := (Below.refl _ _).alloc (Nat.le_refl _) _
  have Tl := Lib.hid (show Own 3 (w5.alloc (.cells #[.slice ak G.length ck, .int .i64 F] 25)) w.heap.size (.slice ax l.length cx) (l) from Tl.out.below hal)
  have Tx := Lib.hid (show Txs (w5.alloc (.cells #[.slice ak G.length ck, .int .i64 F] 25)) (xs) (.slice av xs.length cv) fx from Tx.out.under hal)
  have To := Lib.hid (show Own 3 (w5.alloc (.cells #[.slice ak G.length ck, .int .i64 F] 25)) w.heap.size (.slice ao (G).length co) (G) from To.out.below hal)
  have Tob := Lib.hid (show OwnB 4 (w5.alloc (.cells #[.slice ak G.length ck, .int .i64 F] 25)) w.heap.size (.slice bbo (Ko).length bco) (Ko) from Tob.out.below hal)
  have Tk := Lib.hid (show Own 3 (w5.alloc (.cells #[.slice ak G.length ck, .int .i64 F] 25)) w.heap.size (.slice ak (G).length ck) (G) from Tk.out.below hal)
  have Tkb := Lib.hid (show OwnB 4 (w5.alloc (.cells #[.slice ak G.length ck, .int .i64 F] 25)) w.heap.size (.slice bbk (Ko).length bck) (Ko) from Tkb.out.below hal)
  have Sl := Lib.hid (show Str (w5.alloc (.cells #[.slice ak G.length ck, .int .i64 F] 25)) (w1.heap.size) 25 #[.slice ax l.length cx, .int .i64 n] from Sl.out.alloc _)
  have So := Lib.hid (show Str (w5.alloc (.cells #[.slice ak G.length ck, .int .i64 F] 25)) (w3.heap.size) 25 #[.slice ao G.length co, .int .i64 F] from So.out.alloc _)
  have Sk := Lib.hid (Str.new w5 25 #[.slice ak G.length ck, .int .i64 F])
  have Hb := Lib.hid (below_step Hb.out Hb.out.size hal)
  clear hal
  clear HI HS
  have cl_0 := Sl.out.cell 0 (v := .slice ax l.length cx) rfl
  have cl_1 := Sl.out.cell 1 (v := .int .i64 n) rfl
  have co_0 := So.out.cell 0 (v := .slice ao G.length co) rfl
  have co_1 := So.out.cell 1 (v := .int .i64 F) rfl
  have ck_0 := Sk.out.cell 0 (v := .slice ak G.length ck) rfl
  have ck_1 := Sk.out.cell 1 (v := .int .i64 F) rfl
  go_wp2_with fail
  generalize (w5.alloc (.cells #[.slice ak G.length ck, .int .i64 F] 25)) = W6 at *
  clear cl_0 cl_1 co_0 co_1 ck_0 ck_1
  refine (laws_sameLedger _ _ _ _ (G) (F) _ (by omega) To.out.at Tk.out.at).mono ?_
  rintro e w7 ⟨rfl, hb⟩
  have Tl := Lib.hid (show Own 3 w7 w.heap.size (.slice ax l.length cx) (l) from Tl.out.below hb)
  have Tx := Lib.hid (show Txs w7 (xs) (.slice av xs.length cv) fx from Tx.out.under hb)
  have To := Lib.hid (show Own 3 w7 w.heap.size (.slice ao (G).length co) (G) from To.out.below hb)
  have Tob := Lib.hid (show OwnB 4 w7 w.heap.size (.slice bbo (Ko).length bco) (Ko) from Tob.out.below hb)
  have Tk := Lib.hid (show Own 3 w7 w.heap.size (.slice ak (G).length ck) (G) from Tk.out.below hb)
  have Tkb := Lib.hid (show OwnB 4 w7 w.heap.size (.slice bbk (Ko).length bck) (Ko) from Tkb.out.below hb)
  have Sl := Lib.hid (show Str w7 (w1.heap.size) 25 #[.slice ax l.length cx, .int .i64 n] from (hb.block _ Sl.out.lt).trans Sl.out)
  have So := Lib.hid (show Str w7 (w3.heap.size) 25 #[.slice ao G.length co, .int .i64 F] from (hb.block _ So.out.lt).trans So.out)
  have Sk := Lib.hid (show Str w7 (w5.heap.size) 25 #[.slice ak G.length ck, .int .i64 F] from (hb.block _ Sk.out.lt).trans Sk.out)
  have hsw7 := hb.size
  have Hb := Lib.hid (below_step Hb.out Hb.out.size hb)
  clear hb
  have cl_0 := Sl.out.cell 0 (v := .slice ax l.length cx) rfl
  have cl_1 := Sl.out.cell 1 (v := .int .i64 n) rfl
  have co_0 := So.out.cell 0 (v := .slice ao G.length co) rfl
  have co_1 := So.out.cell 1 (v := .int .i64 F) rfl
  have ck_0 := Sk.out.cell 0 (v := .slice ak G.length ck) rfl
  have ck_1 := Sk.out.cell 1 (v := .int .i64 F) rfl
  go_wp2_with fail
  clear cl_0 cl_1 co_0 co_1 ck_0 ck_1
  refine (laws_sameBools _ _ _ _ (Ko) _ (by omega) Tob.out.at Tkb.out.at).mono ?_
  rintro e w8 ⟨rfl, hb⟩
  have Tl := Lib.hid (show Own 3 w8 w.heap.size (.slice ax l.length cx) (l) from Tl.out.below hb)
  have Tx := Lib.hid (show Txs w8 (xs) (.slice av xs.length cv) fx from Tx.out.under hb)
  have To := Lib.hid (show Own 3 w8 w.heap.size (.slice ao (G).length co) (G) from To.out.below hb)
  have Tob := Lib.hid (show OwnB 4 w8 w.heap.size (.slice bbo (Ko).length bco) (Ko) from Tob.out.below hb)
  have Tk := Lib.hid (show Own 3 w8 w.heap.size (.slice ak (G).length ck) (G) from Tk.out.below hb)
  have Tkb := Lib.hid (show OwnB 4 w8 w.heap.size (.slice bbk (Ko).length bck) (Ko) from Tkb.out.below hb)
  have Sl := Lib.hid (show Str w8 (w1.heap.size) 25 #[.slice ax l.length cx, .int .i64 n] from (hb.block _ Sl.out.lt).trans Sl.out)
  have So := Lib.hid (show Str w8 (w3.heap.size) 25 #[.slice ao G.length co, .int .i64 F] from (hb.block _ So.out.lt).trans So.out)
  have Sk := Lib.hid (show Str w8 (w5.heap.size) 25 #[.slice ak G.length ck, .int .i64 F] from (hb.block _ Sk.out.lt).trans Sk.out)
  have hsw8 := hb.size
  have Hb := Lib.hid (below_step Hb.out Hb.out.size hb)
  clear hb
  have hbr : ruB l n xs = true ∨ ruB l n xs = false := by cases ruB l n xs <;> simp
  rcases hbr with hbr | hbr
  case inr =>
    obtain ⟨q1, q2, q3⟩ := ru_no hbr
    have hG0 : G.length = 0 := by rw [HG.out, q1]; rfl
    have hz : ((G.length : Int) == 0) = true := by rw [beq_iff_eq]; omega
    clear q1 q2 q3 hbr hG0 HG HF HK
    have cl_0 := Sl.out.cell 0 (v := .slice ax l.length cx) rfl
    have cl_1 := Sl.out.cell 1 (v := .int .i64 n) rfl
    have co_0 := So.out.cell 0 (v := .slice ao G.length co) rfl
    have co_1 := So.out.cell 1 (v := .int .i64 F) rfl
    have ck_0 := Sk.out.cell 0 (v := .slice ak G.length ck) rfl
    have ck_1 := Sk.out.cell 1 (v := .int .i64 F) rfl
    go_wp2_with fail
    clear cl_0 cl_1 co_0 co_1 ck_0 ck_1
    refine (laws_sameLedger _ _ _ _ (G) (F) _ (by omega) To.out.at Tk.out.at).mono ?_
    rintro e w9 ⟨rfl, hb⟩
    have Tl := Lib.hid (show Own 3 w9 w.heap.size (.slice ax l.length cx) (l) from Tl.out.below hb)
    have Tx := Lib.hid (show Txs w9 (xs) (.slice av xs.length cv) fx from Tx.out.under hb)
    have To := Lib.hid (show Own 3 w9 w.heap.size (.slice ao (G).length co) (G) from To.out.below hb)
    have Tob := Lib.hid (show OwnB 4 w9 w.heap.size (.slice bbo (Ko).length bco) (Ko) from Tob.out.below hb)
    have Tk := Lib.hid (show Own 3 w9 w.heap.size (.slice ak (G).length ck) (G) from Tk.out.below hb)
    have Tkb := Lib.hid (show OwnB 4 w9 w.heap.size (.slice bbk (Ko).length bck) (Ko) from Tkb.out.below hb)
    have Sl := Lib.hid (show Str w9 (w1.heap.size) 25 #[.slice ax l.length cx, .int .i64 n] from (hb.block _ Sl.out.lt).trans Sl.out)
    have So := Lib.hid (show Str w9 (w3.heap.size) 25 #[.slice ao G.length co, .int .i64 F] from (hb.block _ So.out.lt).trans So.out)
    have Sk := Lib.hid (show Str w9 (w5.heap.size) 25 #[.slice ak G.length ck, .int .i64 F] from (hb.block _ Sk.out.lt).trans Sk.out)
    have hsw9 := hb.size
    have Hb := Lib.hid (below_step Hb.out Hb.out.size hb)
    clear hb
    have cl_0 := Sl.out.cell 0 (v := .slice ax l.length cx) rfl
    have cl_1 := Sl.out.cell 1 (v := .int .i64 n) rfl
    have co_0 := So.out.cell 0 (v := .slice ao G.length co) rfl
    have co_1 := So.out.cell 1 (v := .int .i64 F) rfl
    have ck_0 := Sk.out.cell 0 (v := .slice ak G.length ck) rfl
    have ck_1 := Sk.out.cell 1 (v := .int .i64 F) rfl
    go_wp2_with fail
    clear cl_0 cl_1 co_0 co_1 ck_0 ck_1
    refine (laws_sameBools _ _ _ _ (Ko) _ (by omega) Tob.out.at Tkb.out.at).mono ?_
    rintro e w10 ⟨rfl, hb⟩
    have Tl := Lib.hid (show Own 3 w10 w.heap.size (.slice ax l.length cx) (l) from Tl.out.below hb)
    have Tx := Lib.hid (show Txs w10 (xs) (.slice av xs.length cv) fx from Tx.out.under hb)
    have To := Lib.hid (show Own 3 w10 w.heap.size (.slice ao (G).length co) (G) from To.out.below hb)
    have Tob := Lib.hid (show OwnB 4 w10 w.heap.size (.slice bbo (Ko).length bco) (Ko) from Tob.out.below hb)
    have Tk := Lib.hid (show Own 3 w10 w.heap.size (.slice ak (G).length ck) (G) from Tk.out.below hb)
    have Tkb := Lib.hid (show OwnB 4 w10 w.heap.size (.slice bbk (Ko).length bck) (Ko) from Tkb.out.below hb)
    have Sl := Lib.hid (show Str w10 (w1.heap.size) 25 #[.slice ax l.length cx, .int .i64 n] from (hb.block _ Sl.out.lt).trans Sl.out)
    have So := Lib.hid (show Str w10 (w3.heap.size) 25 #[.slice ao G.length co, .int .i64 F] from (hb.block _ So.out.lt).trans So.out)
    have Sk := Lib.hid (show Str w10 (w5.heap.size) 25 #[.slice ak G.length ck, .int .i64 F] from (hb.block _ Sk.out.lt).trans Sk.out)
    have hsw10 := hb.size
    have Hb := Lib.hid (below_step Hb.out Hb.out.size hb)
    clear hb
    go_wp2
    go_ret
    exact ⟨by first | rfl | exact ret_bool (by simp) | exact ret_bool (by simp; omega), Hb.out⟩
  obtain ⟨hv, hn58, hx16⟩ := ru_iff.1 hbr
  obtain ⟨q1, q2, q3⟩ := ru_yes hbr
  obtain ⟨-, hv2, hn0, -⟩ := ldB_iff.1 hv
  have hz : ((G.length : Int) == 0) = false := by rw [beq_eq_false_iff_ne, HG.out, q1, (rn_len _ _).1]; omega
  have HG := Lib.hid (HG.out.trans q1); have HF := Lib.hid (HF.out.trans q2); have HK := Lib.hid (HK.out.trans q3)
  have H6 := Lib.hid hv2; have Hv := Lib.hid hv; have Hr := Lib.hid hbr
  clear q1 q2 q3 hbr hv2 hv
  obtain ⟨k, hkd⟩ : ∃ k : Nat, k = ms.length % (xs.length + 1) := ⟨_, rfl⟩
  have hkx : k ≤ xs.length := by have := Nat.mod_lt ms.length (show 0 < xs.length + 1 by omega); omega
  have hw1 : IntKind.i64.wrap ((xs.length : Int) + 1) = (xs.length : Int) + 1 := IntWalk.i64_in _ (by omega)
  have hw2 : ((ms.length : Int)).tmod ((xs.length : Int) + 1) = (k : Int) := by rw [Int.tmod_eq_emod_of_nonneg (by omega), hkd]; simp
  have hw3 : (((xs.length : Int) + 1) == 0) = false := by rw [beq_eq_false_iff_ne]; omega
  have hw4 : ¬ ((xs.length : Int) + 1 = 0) := by omega
  clear hkd
  obtain ⟨p1, p2, p3, p4, p5⟩ := ru_parts Hr.out k hkx
  obtain ⟨hs1, ⟨fq, ht1⟩, ad, ac, fr, hs2, ht2⟩ := tx_parts Tx.out hcv hkx
  have HS1 := Lib.hid hs1; have HS2 := Lib.hid hs2; have Tt := Lib.hid ht1; have Td := Lib.hid ht2
  clear hs1 hs2 ht1 ht2
  obtain ⟨q1, q2, q3⟩ := ru_yes p1
  have hlk : (rnL l (xs.take k)).length = l.length := (rn_len _ _).1
  have hAk : (rnO l (xs.take k)).length = (xs.take k).length := (rn_len _ _).2
  have hBk : (rnO (rnL l (xs.take k)) (xs.drop k)).length = (xs.drop k).length := (rn_len _ _).2
  have htk : (xs.take k).length ≤ xs.length := by rw [List.length_take]; omega
  have hdk : (xs.drop k).length ≤ xs.length := by rw [List.length_drop]; omega
  have HI1 := fun W (h : IntsAt W ax l) (h3 : Txs W (xs.take k) (.slice av (xs.take k).length cv) fq) => impl_LedgerRun ax cx l n (xs.take k) _ fq W (by omega) (by omega) h h3
  unfold RuP at HI1
  rw [q1, q2, q3] at HI1
  clear q1 q2 q3
  obtain ⟨D, hD⟩ : ∃ D, D = xs.drop k := ⟨_, rfl⟩
  obtain ⟨P, hP⟩ : ∃ P, P = xs.take k := ⟨_, rfl⟩
  rw [← hD] at Td HS2 p3 p4 p5 hBk hdk
  rw [← hP] at Tt HS1 p1 p2 p3 p4 p5 hAk hBk htk hlk HI1
  clear hD hP
  obtain ⟨L1, hL1⟩ : ∃ L1, L1 = rnL l P := ⟨_, rfl⟩
  obtain ⟨F1, hF1⟩ : ∃ F1, F1 = rnF l n P := ⟨_, rfl⟩
  obtain ⟨A1, hA1⟩ : ∃ A1, A1 = rnO l P := ⟨_, rfl⟩
  rw [← hL1] at p2 p3 p4 p5 hBk hlk HI1
  rw [← hF1] at p2 p4 HI1
  rw [← hA1] at p5 hAk HI1
  clear hL1 hF1 hA1 p1
  have HI1 := Lib.hid HI1
  have HI2 := Lib.hid (fun (hF : F1 ≤ 5850) a c W (h : IntsAt W a L1) (h3 : Txs W D (.slice ad D.length ac) fr) => (show Calls Try.prog 9 #[.agg #[.slice a L1.length c, .int .i64 F1], .slice ad D.length ac] W fun e w' => ∃ v u, e = .returned (.tuple #[.agg #[v, .int .i64 F], u]) ∧ Own 3 w' W.heap.size v G ∧ OwnB 4 w' W.heap.size u (rnO L1 D) ∧ Below W.heap.size W w' from by
    have hr : ruB L1 F1 D = true := ru_iff.2 ⟨p2, hF, by omega⟩
    obtain ⟨z1, z2, z3⟩ := ru_yes hr
    have hh := impl_LedgerRun a c L1 F1 D _ fr W (by omega) (by omega) h h3
    unfold RuP at hh
    rw [z1, z2, z3, p3, p4, ← HG.out, ← HF.out] at hh
    exact hh))
  obtain ⟨A2, hA2⟩ : ∃ A2, A2 = rnO L1 D := ⟨_, rfl⟩
  rw [← hA2] at p5 hBk HI2
  clear hA2 p2 p3 p4
  have hp5 : A1 ++ A2 = Ko := by rw [HK.out, ← p5]
  have Hp5 := Lib.hid hp5; clear p5 hp5
  have hA1l : A1.length ≤ 17 := by omega
  have hA2l : A2.length ≤ 17 := by omega
  have HlL1 := Lib.hid hlk
  have hL6 : L1.length ≤ 6 := by omega
  clear hlk hAk hBk htk hdk
  have HP := Lib.hid (show P.length = P.length from rfl)
  have cl_0 := Sl.out.cell 0 (v := .slice ax l.length cx) rfl
  have cl_1 := Sl.out.cell 1 (v := .int .i64 n) rfl
  have ck_0 := Sk.out.cell 0 (v := .slice ak G.length ck) rfl
  have ck_1 := Sk.out.cell 1 (v := .int .i64 F) rfl
  go_wp2_with fail
  clear ck_0 ck_1
  clear Tk
  clear Sk
  have hdr : Below w8.heap.size w8 w8.drew := (Below.refl _ _).drew
  clear cl_0 cl_1
  have Tl := Lib.hid (show Own 3 w8.drew w.heap.size (.slice ax l.length cx) (l) from Tl.out.below hdr)
  have Tx := Lib.hid (show Txs w8.drew (xs) (.slice av xs.length cv) fx from Tx.out.under hdr)
  have To := Lib.hid (show Own 3 w8.drew w.heap.size (.slice ao (G).length co) (G) from To.out.below hdr)
  have Tob := Lib.hid (show OwnB 4 w8.drew w.heap.size (.slice bbo (Ko).length bco) (Ko) from Tob.out.below hdr)
  have Tkb := Lib.hid (show OwnB 4 w8.drew w.heap.size (.slice bbk (Ko).length bck) (Ko) from Tkb.out.below hdr)
  have Tt := Lib.hid (show Txs w8.drew (P) (.slice av P.length cv) fq from Tt.out.under hdr)
  have Td := Lib.hid (show Txs w8.drew (D) (.slice ad D.length ac) fr from Td.out.under hdr)
  have Sl := Lib.hid (show Str w8.drew (w1.heap.size) 25 #[.slice ax l.length cx, .int .i64 n] from (hdr.block _ Sl.out.lt).trans Sl.out)
  have So := Lib.hid (show Str w8.drew (w3.heap.size) 25 #[.slice ao G.length co, .int .i64 F] from (hdr.block _ So.out.lt).trans So.out)
  have Hb := Lib.hid (below_step Hb.out Hb.out.size hdr)
  refine wp_region_held_drew (S := fun W' => W'.cell? ⟨w1.heap.size, 0, none⟩ = some (.slice ax l.length cx) ∧ W'.cell? ⟨w1.heap.size, 1, none⟩ = some (.int .i64 n)) (by kernel_rfl) ⟨Sl.out.cell 0 (v := .slice ax l.length cx) rfl, Sl.out.cell 1 (v := .int .i64 n) rfl⟩ (fun hH => ?_)
  clear hdr
  generalize w8.drew = w9 at *
  refine takeH 0 (v := ?vra1) rfl (by kernel_rfl) (by kernel_rfl) (by kernel_rfl) (fun _ _ _ h => h) hH rfl ?yra1 ?rra1
  case yra1 => intro W hSw; go_simp; try with_reducible rfl
  try simp only [Act.put, List.setIfInBounds_toArray, List.set_cons_zero, List.set_cons_succ]
  refine takeH 1 (v := ?vra2) rfl (by kernel_rfl) (by kernel_rfl) (by kernel_rfl) (fun _ _ _ h => h) hH rfl ?yra2 ?rra2
  case yra2 => intro W hSw; go_simp; try with_reducible rfl
  try simp only [Act.put, List.setIfInBounds_toArray, List.set_cons_zero, List.set_cons_succ]
  refine takeH 2 (v := ?vra3) rfl (by kernel_rfl) (by kernel_rfl) (by kernel_rfl) (fun _ _ _ h => h) hH rfl ?yra3 ?rra3
  case yra3 => intro W hSw; go_simp; try with_reducible rfl
  try simp only [Act.put, List.setIfInBounds_toArray, List.set_cons_zero, List.set_cons_succ]
  refine takeH 3 (v := .slice av P.length cv) rfl (by kernel_rfl) (by kernel_rfl) (by kernel_rfl) (fun _ _ _ h => h) hH rfl ?yra4 ?rra4
  case yra4 => intro W hSw; have hr := HS1.out W; go_simp
  try simp only [Act.put, List.setIfInBounds_toArray, List.set_cons_zero, List.set_cons_succ]
  refine twoH 4 8 rfl rfl (by kernel_rfl) rfl rfl (fun K hK => ?_) (fun K hK => ?_)
  rotate_left
  · skip
    go_simp
    have hNl := Lib.hid (show w9.heap.size ≠ w1.heap.size from by have := Sl.out.lt; omega)
    have hNo := Lib.hid (show w9.heap.size ≠ w3.heap.size from by have := So.out.lt; omega)
    have hMl := Lib.hid (show (.slice ax l.length cx : Value).ownBlock ≠ some w9.heap.size from fun e => by have := (Tl.out.lt _ e).2; omega)
    have hMx := Lib.hid (show w9.heap.size ∉ fx from fun hm => by have := Rd.lt Tx.out _ hm; omega)
    have hMo := Lib.hid (show (.slice ao (G).length co : Value).ownBlock ≠ some w9.heap.size from fun e => by have := (To.out.lt _ e).2; omega)
    have hMob := Lib.hid (show (.slice bbo (Ko).length bco : Value).ownBlock ≠ some w9.heap.size from fun e => by have := (Tob.out.lt _ e).2; omega)
    have hMkb := Lib.hid (show (.slice bbk (Ko).length bck : Value).ownBlock ≠ some w9.heap.size from fun e => by have := (Tkb.out.lt _ e).2; omega)
    have hMt := Lib.hid (show w9.heap.size ∉ fq from fun hm => by have := Rd.lt Tt.out _ hm; omega)
    have hMd := Lib.hid (show w9.heap.size ∉ fr from fun hm => by have := Rd.lt Td.out _ hm; omega)
    have hlo := Lib.hid (show w.heap.size ≤ w9.heap.size from Hb.out.size)
    have hal : Below w9.heap.size w9 (w9.alloc (.cells #[.slice none 0 0, .int .i64 0] 25)) := (Below.refl _ _).alloc (Nat.le_refl _) _
    have Tl := Lib.hid (show Own 3 (w9.alloc (.cells #[.slice none 0 0, .int .i64 0] 25)) w.heap.size (.slice ax l.length cx) (l) from Tl.out.below hal)
    have Tx := Lib.hid (show Txs (w9.alloc (.cells #[.slice none 0 0, .int .i64 0] 25)) (xs) (.slice av xs.length cv) fx from Tx.out.under hal)
    have To := Lib.hid (show Own 3 (w9.alloc (.cells #[.slice none 0 0, .int .i64 0] 25)) w.heap.size (.slice ao (G).length co) (G) from To.out.below hal)
    have Tob := Lib.hid (show OwnB 4 (w9.alloc (.cells #[.slice none 0 0, .int .i64 0] 25)) w.heap.size (.slice bbo (Ko).length bco) (Ko) from Tob.out.below hal)
    have Tkb := Lib.hid (show OwnB 4 (w9.alloc (.cells #[.slice none 0 0, .int .i64 0] 25)) w.heap.size (.slice bbk (Ko).length bck) (Ko) from Tkb.out.below hal)
    have Tt := Lib.hid (show Txs (w9.alloc (.cells #[.slice none 0 0, .int .i64 0] 25)) (P) (.slice av P.length cv) fq from Tt.out.under hal)
    have Td := Lib.hid (show Txs (w9.alloc (.cells #[.slice none 0 0, .int .i64 0] 25)) (D) (.slice ad D.length ac) fr from Td.out.under hal)
    have Sl := Lib.hid (show Str (w9.alloc (.cells #[.slice none 0 0, .int .i64 0] 25)) (w1.heap.size) 25 #[.slice ax l.length cx, .int .i64 n] from Sl.out.alloc _)
    have So := Lib.hid (show Str (w9.alloc (.cells #[.slice none 0 0, .int .i64 0] 25)) (w3.heap.size) 25 #[.slice ao G.length co, .int .i64 F] from So.out.alloc _)
    have SN := Lib.hid (Str.new w9 25 #[.slice none 0 0, .int .i64 0])
    have Hb := Lib.hid (below_step Hb.out Hb.out.size hal)
    clear hal
    have hxl := SN.out.lt
    generalize (w9.alloc (.cells #[.slice none 0 0, .int .i64 0] 25)) = w10 at *
    generalize w9.heap.size = Xp at *
    refine hK.out _ _ ⟨Sl.out.cell 0 (v := .slice ax l.length cx) rfl, Sl.out.cell 1 (v := .int .i64 n) rfl⟩ (fun hH => ?_)
    clear hK K
    try simp only [Act.put, List.setIfInBounds_toArray, List.set_cons_zero, List.set_cons_succ]
    refine callH 4 rfl (by kernel_rfl) rfl (fun K hK => ?_)
    go_simp
    refine (HI1.out _ Tl.out.at Tt.out).mono ?_
    rintro e1 w11 ⟨v, u, rfl, ho, hk, hb⟩
    have hwb := Hb.out.size
    obtain ⟨ap, cp, rfl, _, _⟩ := ho.ints
    obtain ⟨bbp, bcp, rfl, _⟩ := hk.slice
    have ho' := Lib.hid (ho.mono (show w.heap.size ≤ _ by omega)); have hk' := Lib.hid (hk.mono (show w.heap.size ≤ _ by omega))
    have hMp := Lib.hid (show (.slice ap (L1).length cp : Value).ownBlock ≠ some Xp from fun e => by have := (ho.lt _ e).1; omega)
    have hMpb := Lib.hid (show (.slice bbp (A1).length bcp : Value).ownBlock ≠ some Xp from fun e => by have := (hk.lt _ e).1; omega)
    clear ho hk
    have Tl := Lib.hid (show Own 3 w11 w.heap.size (.slice ax l.length cx) (l) from Tl.out.below hb)
    have Tx := Lib.hid (show Txs w11 (xs) (.slice av xs.length cv) fx from Tx.out.under hb)
    have To := Lib.hid (show Own 3 w11 w.heap.size (.slice ao (G).length co) (G) from To.out.below hb)
    have Tob := Lib.hid (show OwnB 4 w11 w.heap.size (.slice bbo (Ko).length bco) (Ko) from Tob.out.below hb)
    have Tkb := Lib.hid (show OwnB 4 w11 w.heap.size (.slice bbk (Ko).length bck) (Ko) from Tkb.out.below hb)
    have Tt := Lib.hid (show Txs w11 (P) (.slice av P.length cv) fq from Tt.out.under hb)
    have Td := Lib.hid (show Txs w11 (D) (.slice ad D.length ac) fr from Td.out.under hb)
    have Sl := Lib.hid (show Str w11 (w1.heap.size) 25 #[.slice ax l.length cx, .int .i64 n] from (hb.block _ Sl.out.lt).trans Sl.out)
    have So := Lib.hid (show Str w11 (w3.heap.size) 25 #[.slice ao G.length co, .int .i64 F] from (hb.block _ So.out.lt).trans So.out)
    have SN := Lib.hid (show Str w11 (Xp) 25 #[.slice none 0 0, .int .i64 0] from (hb.block _ SN.out.lt).trans SN.out)
    have hsw11 := hb.size
    have Hb := Lib.hid (below_step Hb.out Hb.out.size hb)
    have Tp := Lib.hid (show Own 3 w11 w.heap.size (.slice ap (L1).length cp) (L1) from ho'.out)
    have Tpb := Lib.hid (show OwnB 4 w11 w.heap.size (.slice bbp (A1).length bcp) (A1) from hk'.out)
    clear ho' hk' hb hwb
    refine hK.out _ _ ⟨Sl.out.cell 0 (v := .slice ax l.length cx) rfl, Sl.out.cell 1 (v := .int .i64 n) rfl⟩ (fun hH => ?_)
    clear hK K
    try simp only [Act.put, List.setIfInBounds_toArray, List.set_cons_zero, List.set_cons_succ]
    refine takeH 5 (v := ?vra5) rfl (by kernel_rfl) (by kernel_rfl) (by kernel_rfl) (fun _ _ _ h => h) hH rfl ?yra5 ?rra5
    case yra5 => intro W hSw; go_simp; try with_reducible rfl
    try simp only [Act.put, List.setIfInBounds_toArray, List.set_cons_zero, List.set_cons_succ]
    refine takeH 6 (v := ?vra6) rfl (by kernel_rfl) (by kernel_rfl) (by kernel_rfl) (fun _ _ _ h => h) hH rfl ?yra6 ?rra6
    case yra6 => intro W hSw; go_simp; try with_reducible rfl
    try simp only [Act.put, List.setIfInBounds_toArray, List.set_cons_zero, List.set_cons_succ]
    refine takeH 7 (v := ?vra7) rfl (by kernel_rfl) (by kernel_rfl) (by kernel_rfl) (fun _ _ _ h => h) hH rfl ?yra7 ?rra7
    case yra7 => intro W hSw; go_simp; try with_reducible rfl
    try simp only [Act.put, List.setIfInBounds_toArray, List.set_cons_zero, List.set_cons_succ]
    refine callH 9 rfl (by kernel_rfl) rfl (fun K hK => ?_)
    have y0 := SN.out.frozen 0
    have y1 := SN.out.frozen 1
    have v0 := SN.out.cell 0 (v := .slice none 0 0) rfl
    have v1 := SN.out.cell 1 (v := .int .i64 0) rfl
    go_simp
    clear y0 y1 v0 v1
    have Sl := Lib.hid (show Str (w11.setCell ⟨Xp, 0, none⟩ (.slice ap (L1).length cp)) (w1.heap.size) 25 #[.slice ax l.length cx, .int .i64 n] from Sl.out.other (Ne.symm hNl.out) _ _)
    have So := Lib.hid (show Str (w11.setCell ⟨Xp, 0, none⟩ (.slice ap (L1).length cp)) (w3.heap.size) 25 #[.slice ao G.length co, .int .i64 F] from So.out.other (Ne.symm hNo.out) _ _)
    have Tl := Lib.hid (show Own 3 (w11.setCell ⟨Xp, 0, none⟩ (.slice ap (L1).length cp)) w.heap.size (.slice ax l.length cx) (l) from Tl.out.set_other hMl.out 0 _)
    have Tx := Lib.hid (show Txs (w11.setCell ⟨Xp, 0, none⟩ (.slice ap (L1).length cp)) (xs) (.slice av xs.length cv) fx from Rd.grown (grownBy_set w11 Xp 0 _) Tx.out (fun r e => by cases e; exact hMx.out))
    have To := Lib.hid (show Own 3 (w11.setCell ⟨Xp, 0, none⟩ (.slice ap (L1).length cp)) w.heap.size (.slice ao (G).length co) (G) from To.out.set_other hMo.out 0 _)
    have Tob := Lib.hid (show OwnB 4 (w11.setCell ⟨Xp, 0, none⟩ (.slice ap (L1).length cp)) w.heap.size (.slice bbo (Ko).length bco) (Ko) from Tob.out.set_other hMob.out 0 _)
    have Tkb := Lib.hid (show OwnB 4 (w11.setCell ⟨Xp, 0, none⟩ (.slice ap (L1).length cp)) w.heap.size (.slice bbk (Ko).length bck) (Ko) from Tkb.out.set_other hMkb.out 0 _)
    have Tt := Lib.hid (show Txs (w11.setCell ⟨Xp, 0, none⟩ (.slice ap (L1).length cp)) (P) (.slice av P.length cv) fq from Rd.grown (grownBy_set w11 Xp 0 _) Tt.out (fun r e => by cases e; exact hMt.out))
    have Td := Lib.hid (show Txs (w11.setCell ⟨Xp, 0, none⟩ (.slice ap (L1).length cp)) (D) (.slice ad D.length ac) fr from Rd.grown (grownBy_set w11 Xp 0 _) Td.out (fun r e => by cases e; exact hMd.out))
    have Tp := Lib.hid (show Own 3 (w11.setCell ⟨Xp, 0, none⟩ (.slice ap (L1).length cp)) w.heap.size (.slice ap (L1).length cp) (L1) from Tp.out.set_other hMp.out 0 _)
    have Tpb := Lib.hid (show OwnB 4 (w11.setCell ⟨Xp, 0, none⟩ (.slice ap (L1).length cp)) w.heap.size (.slice bbp (A1).length bcp) (A1) from Tpb.out.set_other hMpb.out 0 _)
    have SN := Lib.hid (show Str (w11.setCell ⟨Xp, 0, none⟩ (.slice ap (L1).length cp)) (Xp) 25 #[.slice ap (L1).length cp, .int .i64 0] from SN.out.set 0 _)
    have Hb := Lib.hid (Hb.out.setCell (p := ⟨Xp, 0, none⟩) hlo.out (.slice ap (L1).length cp))
    have Sl := Lib.hid (show Str ((w11.setCell ⟨Xp, 0, none⟩ (.slice ap (L1).length cp)).setCell ⟨Xp, 1, none⟩ (.int .i64 (F1))) (w1.heap.size) 25 #[.slice ax l.length cx, .int .i64 n] from Sl.out.other (Ne.symm hNl.out) _ _)
    have So := Lib.hid (show Str ((w11.setCell ⟨Xp, 0, none⟩ (.slice ap (L1).length cp)).setCell ⟨Xp, 1, none⟩ (.int .i64 (F1))) (w3.heap.size) 25 #[.slice ao G.length co, .int .i64 F] from So.out.other (Ne.symm hNo.out) _ _)
    have Tl := Lib.hid (show Own 3 ((w11.setCell ⟨Xp, 0, none⟩ (.slice ap (L1).length cp)).setCell ⟨Xp, 1, none⟩ (.int .i64 (F1))) w.heap.size (.slice ax l.length cx) (l) from Tl.out.set_other hMl.out 1 _)
    have Tx := Lib.hid (show Txs ((w11.setCell ⟨Xp, 0, none⟩ (.slice ap (L1).length cp)).setCell ⟨Xp, 1, none⟩ (.int .i64 (F1))) (xs) (.slice av xs.length cv) fx from Rd.grown (grownBy_set (w11.setCell ⟨Xp, 0, none⟩ (.slice ap (L1).length cp)) Xp 1 _) Tx.out (fun r e => by cases e; exact hMx.out))
    have To := Lib.hid (show Own 3 ((w11.setCell ⟨Xp, 0, none⟩ (.slice ap (L1).length cp)).setCell ⟨Xp, 1, none⟩ (.int .i64 (F1))) w.heap.size (.slice ao (G).length co) (G) from To.out.set_other hMo.out 1 _)
    have Tob := Lib.hid (show OwnB 4 ((w11.setCell ⟨Xp, 0, none⟩ (.slice ap (L1).length cp)).setCell ⟨Xp, 1, none⟩ (.int .i64 (F1))) w.heap.size (.slice bbo (Ko).length bco) (Ko) from Tob.out.set_other hMob.out 1 _)
    have Tkb := Lib.hid (show OwnB 4 ((w11.setCell ⟨Xp, 0, none⟩ (.slice ap (L1).length cp)).setCell ⟨Xp, 1, none⟩ (.int .i64 (F1))) w.heap.size (.slice bbk (Ko).length bck) (Ko) from Tkb.out.set_other hMkb.out 1 _)
    have Tt := Lib.hid (show Txs ((w11.setCell ⟨Xp, 0, none⟩ (.slice ap (L1).length cp)).setCell ⟨Xp, 1, none⟩ (.int .i64 (F1))) (P) (.slice av P.length cv) fq from Rd.grown (grownBy_set (w11.setCell ⟨Xp, 0, none⟩ (.slice ap (L1).length cp)) Xp 1 _) Tt.out (fun r e => by cases e; exact hMt.out))
    have Td := Lib.hid (show Txs ((w11.setCell ⟨Xp, 0, none⟩ (.slice ap (L1).length cp)).setCell ⟨Xp, 1, none⟩ (.int .i64 (F1))) (D) (.slice ad D.length ac) fr from Rd.grown (grownBy_set (w11.setCell ⟨Xp, 0, none⟩ (.slice ap (L1).length cp)) Xp 1 _) Td.out (fun r e => by cases e; exact hMd.out))
    have Tp := Lib.hid (show Own 3 ((w11.setCell ⟨Xp, 0, none⟩ (.slice ap (L1).length cp)).setCell ⟨Xp, 1, none⟩ (.int .i64 (F1))) w.heap.size (.slice ap (L1).length cp) (L1) from Tp.out.set_other hMp.out 1 _)
    have Tpb := Lib.hid (show OwnB 4 ((w11.setCell ⟨Xp, 0, none⟩ (.slice ap (L1).length cp)).setCell ⟨Xp, 1, none⟩ (.int .i64 (F1))) w.heap.size (.slice bbp (A1).length bcp) (A1) from Tpb.out.set_other hMpb.out 1 _)
    have SN := Lib.hid (show Str ((w11.setCell ⟨Xp, 0, none⟩ (.slice ap (L1).length cp)).setCell ⟨Xp, 1, none⟩ (.int .i64 (F1))) (Xp) 25 #[.slice ap (L1).length cp, .int .i64 (F1)] from SN.out.set 1 _)
    have Hb := Lib.hid (Hb.out.setCell (p := ⟨Xp, 1, none⟩) hlo.out (.int .i64 (F1)))
    refine hK.out _ _ ⟨Sl.out.cell 0 (v := .slice ax l.length cx) rfl, Sl.out.cell 1 (v := .int .i64 n) rfl⟩ (fun hH => ?_)
    clear hK K
    try simp only [Act.put, List.setIfInBounds_toArray, List.set_cons_zero, List.set_cons_succ]
    generalize ((w11.setCell ⟨Xp, 0, none⟩ (.slice ap (L1).length cp)).setCell ⟨Xp, 1, none⟩ (.int .i64 (F1))) = w12 at *
    refine callH 10 rfl (by kernel_rfl) rfl (fun K hK => ?_)
    go_simp
    refine hK.out _ _ ⟨Sl.out.cell 0 (v := .slice ax l.length cx) rfl, Sl.out.cell 1 (v := .int .i64 n) rfl⟩ (fun hH => ?_)
    clear hK K
    try simp only [Act.put, List.setIfInBounds_toArray, List.set_cons_zero, List.set_cons_succ]
    refine wpAnyH_done (by kernel_rfl) ?_ _
    try simp only [Act.put]
    clear hH hlo hxl hNl hNo hMl hMx hMo hMob hMkb hMt hMd hMp hMpb
    have Sp := SN; clear SN
    by_cases hF5 : 5850 < F1
    case pos =>
      have hd5 : decide (5850 < F1) = true := decide_eq_true hF5
      have cp_0 := Sp.out.cell 0 (v := .slice ap (L1).length cp) rfl
      have cp_1 := Sp.out.cell 1 (v := .int .i64 (F1)) rfl
      go_wp2
      go_ret
      exact ⟨rfl, Hb.out⟩
    have hd5 : decide (5850 < F1) = false := decide_eq_false hF5
    have HI3 := Lib.hid (HI2.out (by omega))
    have cp_0 := Sp.out.cell 0 (v := .slice ap (L1).length cp) rfl
    have cp_1 := Sp.out.cell 1 (v := .int .i64 (F1)) rfl
    go_wp2_with fail
    have hdr : Below w12.heap.size w12 w12.drew := (Below.refl _ _).drew
    clear cp_0 cp_1
    have Tl := Lib.hid (show Own 3 w12.drew w.heap.size (.slice ax l.length cx) (l) from Tl.out.below hdr)
    have Tx := Lib.hid (show Txs w12.drew (xs) (.slice av xs.length cv) fx from Tx.out.under hdr)
    have To := Lib.hid (show Own 3 w12.drew w.heap.size (.slice ao (G).length co) (G) from To.out.below hdr)
    have Tob := Lib.hid (show OwnB 4 w12.drew w.heap.size (.slice bbo (Ko).length bco) (Ko) from Tob.out.below hdr)
    have Tkb := Lib.hid (show OwnB 4 w12.drew w.heap.size (.slice bbk (Ko).length bck) (Ko) from Tkb.out.below hdr)
    have Tt := Lib.hid (show Txs w12.drew (P) (.slice av P.length cv) fq from Tt.out.under hdr)
    have Td := Lib.hid (show Txs w12.drew (D) (.slice ad D.length ac) fr from Td.out.under hdr)
    have Tp := Lib.hid (show Own 3 w12.drew w.heap.size (.slice ap (L1).length cp) (L1) from Tp.out.below hdr)
    have Tpb := Lib.hid (show OwnB 4 w12.drew w.heap.size (.slice bbp (A1).length bcp) (A1) from Tpb.out.below hdr)
    have Sl := Lib.hid (show Str w12.drew (w1.heap.size) 25 #[.slice ax l.length cx, .int .i64 n] from (hdr.block _ Sl.out.lt).trans Sl.out)
    have So := Lib.hid (show Str w12.drew (w3.heap.size) 25 #[.slice ao G.length co, .int .i64 F] from (hdr.block _ So.out.lt).trans So.out)
    have Sp := Lib.hid (show Str w12.drew (Xp) 25 #[.slice ap (L1).length cp, .int .i64 (F1)] from (hdr.block _ Sp.out.lt).trans Sp.out)
    have Hb := Lib.hid (below_step Hb.out Hb.out.size hdr)
    refine wp_region_held_drew (S := fun W' => W'.cell? ⟨Xp, 0, none⟩ = some (.slice ap (L1).length cp) ∧ W'.cell? ⟨Xp, 1, none⟩ = some (.int .i64 (F1))) (by kernel_rfl) ⟨Sp.out.cell 0 (v := .slice ap (L1).length cp) rfl, Sp.out.cell 1 (v := .int .i64 (F1)) rfl⟩ (fun hH => ?_)
    clear hdr
    generalize w12.drew = w13 at *
    refine takeH 0 (v := ?vrb1x1) rfl (by kernel_rfl) (by kernel_rfl) (by kernel_rfl) (fun _ _ _ h => h) hH rfl ?yrb1x1 ?rrb1x1
    case yrb1x1 => intro W hSw; go_simp; try with_reducible rfl
    try simp only [Act.put, List.setIfInBounds_toArray, List.set_cons_zero, List.set_cons_succ]
    refine takeH 1 (v := ?vrb1x2) rfl (by kernel_rfl) (by kernel_rfl) (by kernel_rfl) (fun _ _ _ h => h) hH rfl ?yrb1x2 ?rrb1x2
    case yrb1x2 => intro W hSw; go_simp; try with_reducible rfl
    try simp only [Act.put, List.setIfInBounds_toArray, List.set_cons_zero, List.set_cons_succ]
    refine takeH 2 (v := ?vrb1x3) rfl (by kernel_rfl) (by kernel_rfl) (by kernel_rfl) (fun _ _ _ h => h) hH rfl ?yrb1x3 ?rrb1x3
    case yrb1x3 => intro W hSw; go_simp; try with_reducible rfl
    try simp only [Act.put, List.setIfInBounds_toArray, List.set_cons_zero, List.set_cons_succ]
    refine takeH 3 (v := .slice ad D.length ac) rfl (by kernel_rfl) (by kernel_rfl) (by kernel_rfl) (fun _ _ _ h => h) hH rfl ?yrb1x4 ?rrb1x4
    case yrb1x4 => intro W hSw; have hr := HS2.out W; go_simp
    try simp only [Act.put, List.setIfInBounds_toArray, List.set_cons_zero, List.set_cons_succ]
    refine twoH 4 8 rfl rfl (by kernel_rfl) rfl rfl (fun K hK => ?_) (fun K hK => ?_)
    rotate_left
    · skip
      go_simp
      have hNl := Lib.hid (show w13.heap.size ≠ w1.heap.size from by have := Sl.out.lt; omega)
      have hNo := Lib.hid (show w13.heap.size ≠ w3.heap.size from by have := So.out.lt; omega)
      have hNp := Lib.hid (show w13.heap.size ≠ Xp from by have := Sp.out.lt; omega)
      have hMl := Lib.hid (show (.slice ax l.length cx : Value).ownBlock ≠ some w13.heap.size from fun e => by have := (Tl.out.lt _ e).2; omega)
      have hMx := Lib.hid (show w13.heap.size ∉ fx from fun hm => by have := Rd.lt Tx.out _ hm; omega)
      have hMo := Lib.hid (show (.slice ao (G).length co : Value).ownBlock ≠ some w13.heap.size from fun e => by have := (To.out.lt _ e).2; omega)
      have hMob := Lib.hid (show (.slice bbo (Ko).length bco : Value).ownBlock ≠ some w13.heap.size from fun e => by have := (Tob.out.lt _ e).2; omega)
      have hMkb := Lib.hid (show (.slice bbk (Ko).length bck : Value).ownBlock ≠ some w13.heap.size from fun e => by have := (Tkb.out.lt _ e).2; omega)
      have hMt := Lib.hid (show w13.heap.size ∉ fq from fun hm => by have := Rd.lt Tt.out _ hm; omega)
      have hMd := Lib.hid (show w13.heap.size ∉ fr from fun hm => by have := Rd.lt Td.out _ hm; omega)
      have hMp := Lib.hid (show (.slice ap (L1).length cp : Value).ownBlock ≠ some w13.heap.size from fun e => by have := (Tp.out.lt _ e).2; omega)
      have hMpb := Lib.hid (show (.slice bbp (A1).length bcp : Value).ownBlock ≠ some w13.heap.size from fun e => by have := (Tpb.out.lt _ e).2; omega)
      have hlo := Lib.hid (show w.heap.size ≤ w13.heap.size from Hb.out.size)
      have hal : Below w13.heap.size w13 (w13.alloc (.cells #[.slice none 0 0, .int .i64 0] 25)) := (Below.refl _ _).alloc (Nat.le_refl _) _
      have Tl := Lib.hid (show Own 3 (w13.alloc (.cells #[.slice none 0 0, .int .i64 0] 25)) w.heap.size (.slice ax l.length cx) (l) from Tl.out.below hal)
      have Tx := Lib.hid (show Txs (w13.alloc (.cells #[.slice none 0 0, .int .i64 0] 25)) (xs) (.slice av xs.length cv) fx from Tx.out.under hal)
      have To := Lib.hid (show Own 3 (w13.alloc (.cells #[.slice none 0 0, .int .i64 0] 25)) w.heap.size (.slice ao (G).length co) (G) from To.out.below hal)
      have Tob := Lib.hid (show OwnB 4 (w13.alloc (.cells #[.slice none 0 0, .int .i64 0] 25)) w.heap.size (.slice bbo (Ko).length bco) (Ko) from Tob.out.below hal)
      have Tkb := Lib.hid (show OwnB 4 (w13.alloc (.cells #[.slice none 0 0, .int .i64 0] 25)) w.heap.size (.slice bbk (Ko).length bck) (Ko) from Tkb.out.below hal)
      have Tt := Lib.hid (show Txs (w13.alloc (.cells #[.slice none 0 0, .int .i64 0] 25)) (P) (.slice av P.length cv) fq from Tt.out.under hal)
      have Td := Lib.hid (show Txs (w13.alloc (.cells #[.slice none 0 0, .int .i64 0] 25)) (D) (.slice ad D.length ac) fr from Td.out.under hal)
      have Tp := Lib.hid (show Own 3 (w13.alloc (.cells #[.slice none 0 0, .int .i64 0] 25)) w.heap.size (.slice ap (L1).length cp) (L1) from Tp.out.below hal)
      have Tpb := Lib.hid (show OwnB 4 (w13.alloc (.cells #[.slice none 0 0, .int .i64 0] 25)) w.heap.size (.slice bbp (A1).length bcp) (A1) from Tpb.out.below hal)
      have Sl := Lib.hid (show Str (w13.alloc (.cells #[.slice none 0 0, .int .i64 0] 25)) (w1.heap.size) 25 #[.slice ax l.length cx, .int .i64 n] from Sl.out.alloc _)
      have So := Lib.hid (show Str (w13.alloc (.cells #[.slice none 0 0, .int .i64 0] 25)) (w3.heap.size) 25 #[.slice ao G.length co, .int .i64 F] from So.out.alloc _)
      have Sp := Lib.hid (show Str (w13.alloc (.cells #[.slice none 0 0, .int .i64 0] 25)) (Xp) 25 #[.slice ap (L1).length cp, .int .i64 (F1)] from Sp.out.alloc _)
      have SN := Lib.hid (Str.new w13 25 #[.slice none 0 0, .int .i64 0])
      have Hb := Lib.hid (below_step Hb.out Hb.out.size hal)
      clear hal
      have hxl := SN.out.lt
      generalize (w13.alloc (.cells #[.slice none 0 0, .int .i64 0] 25)) = w14 at *
      generalize w13.heap.size = Xy at *
      refine hK.out _ _ ⟨Sp.out.cell 0 (v := .slice ap (L1).length cp) rfl, Sp.out.cell 1 (v := .int .i64 (F1)) rfl⟩ (fun hH => ?_)
      clear hK K
      try simp only [Act.put, List.setIfInBounds_toArray, List.set_cons_zero, List.set_cons_succ]
      refine callH 4 rfl (by kernel_rfl) rfl (fun K hK => ?_)
      go_simp
      refine (HI3.out _ _ _ Tp.out.at Td.out).mono ?_
      rintro e1 w15 ⟨v, u, rfl, ho, hk, hb⟩
      have hwb := Hb.out.size
      obtain ⟨ay, cy, rfl, _, _⟩ := ho.ints
      obtain ⟨bby, bcy, rfl, _⟩ := hk.slice
      have ho' := Lib.hid (ho.mono (show w.heap.size ≤ _ by omega)); have hk' := Lib.hid (hk.mono (show w.heap.size ≤ _ by omega))
      have hMy := Lib.hid (show (.slice ay (G).length cy : Value).ownBlock ≠ some Xy from fun e => by have := (ho.lt _ e).1; omega)
      have hMyb := Lib.hid (show (.slice bby (A2).length bcy : Value).ownBlock ≠ some Xy from fun e => by have := (hk.lt _ e).1; omega)
      clear ho hk
      have Tl := Lib.hid (show Own 3 w15 w.heap.size (.slice ax l.length cx) (l) from Tl.out.below hb)
      have Tx := Lib.hid (show Txs w15 (xs) (.slice av xs.length cv) fx from Tx.out.under hb)
      have To := Lib.hid (show Own 3 w15 w.heap.size (.slice ao (G).length co) (G) from To.out.below hb)
      have Tob := Lib.hid (show OwnB 4 w15 w.heap.size (.slice bbo (Ko).length bco) (Ko) from Tob.out.below hb)
      have Tkb := Lib.hid (show OwnB 4 w15 w.heap.size (.slice bbk (Ko).length bck) (Ko) from Tkb.out.below hb)
      have Tt := Lib.hid (show Txs w15 (P) (.slice av P.length cv) fq from Tt.out.under hb)
      have Td := Lib.hid (show Txs w15 (D) (.slice ad D.length ac) fr from Td.out.under hb)
      have Tp := Lib.hid (show Own 3 w15 w.heap.size (.slice ap (L1).length cp) (L1) from Tp.out.below hb)
      have Tpb := Lib.hid (show OwnB 4 w15 w.heap.size (.slice bbp (A1).length bcp) (A1) from Tpb.out.below hb)
      have Sl := Lib.hid (show Str w15 (w1.heap.size) 25 #[.slice ax l.length cx, .int .i64 n] from (hb.block _ Sl.out.lt).trans Sl.out)
      have So := Lib.hid (show Str w15 (w3.heap.size) 25 #[.slice ao G.length co, .int .i64 F] from (hb.block _ So.out.lt).trans So.out)
      have Sp := Lib.hid (show Str w15 (Xp) 25 #[.slice ap (L1).length cp, .int .i64 (F1)] from (hb.block _ Sp.out.lt).trans Sp.out)
      have SN := Lib.hid (show Str w15 (Xy) 25 #[.slice none 0 0, .int .i64 0] from (hb.block _ SN.out.lt).trans SN.out)
      have hsw15 := hb.size
      have Hb := Lib.hid (below_step Hb.out Hb.out.size hb)
      have Ty := Lib.hid (show Own 3 w15 w.heap.size (.slice ay (G).length cy) (G) from ho'.out)
      have Tyb := Lib.hid (show OwnB 4 w15 w.heap.size (.slice bby (A2).length bcy) (A2) from hk'.out)
      clear ho' hk' hb hwb
      refine hK.out _ _ ⟨Sp.out.cell 0 (v := .slice ap (L1).length cp) rfl, Sp.out.cell 1 (v := .int .i64 (F1)) rfl⟩ (fun hH => ?_)
      clear hK K
      try simp only [Act.put, List.setIfInBounds_toArray, List.set_cons_zero, List.set_cons_succ]
      refine takeH 5 (v := ?vrb1x5) rfl (by kernel_rfl) (by kernel_rfl) (by kernel_rfl) (fun _ _ _ h => h) hH rfl ?yrb1x5 ?rrb1x5
      case yrb1x5 => intro W hSw; go_simp; try with_reducible rfl
      try simp only [Act.put, List.setIfInBounds_toArray, List.set_cons_zero, List.set_cons_succ]
      refine takeH 6 (v := ?vrb1x6) rfl (by kernel_rfl) (by kernel_rfl) (by kernel_rfl) (fun _ _ _ h => h) hH rfl ?yrb1x6 ?rrb1x6
      case yrb1x6 => intro W hSw; go_simp; try with_reducible rfl
      try simp only [Act.put, List.setIfInBounds_toArray, List.set_cons_zero, List.set_cons_succ]
      refine takeH 7 (v := ?vrb1x7) rfl (by kernel_rfl) (by kernel_rfl) (by kernel_rfl) (fun _ _ _ h => h) hH rfl ?yrb1x7 ?rrb1x7
      case yrb1x7 => intro W hSw; go_simp; try with_reducible rfl
      try simp only [Act.put, List.setIfInBounds_toArray, List.set_cons_zero, List.set_cons_succ]
      refine callH 9 rfl (by kernel_rfl) rfl (fun K hK => ?_)
      have y0 := SN.out.frozen 0
      have y1 := SN.out.frozen 1
      have v0 := SN.out.cell 0 (v := .slice none 0 0) rfl
      have v1 := SN.out.cell 1 (v := .int .i64 0) rfl
      go_simp
      clear y0 y1 v0 v1
      have Sl := Lib.hid (show Str (w15.setCell ⟨Xy, 0, none⟩ (.slice ay (G).length cy)) (w1.heap.size) 25 #[.slice ax l.length cx, .int .i64 n] from Sl.out.other (Ne.symm hNl.out) _ _)
      have So := Lib.hid (show Str (w15.setCell ⟨Xy, 0, none⟩ (.slice ay (G).length cy)) (w3.heap.size) 25 #[.slice ao G.length co, .int .i64 F] from So.out.other (Ne.symm hNo.out) _ _)
      have Sp := Lib.hid (show Str (w15.setCell ⟨Xy, 0, none⟩ (.slice ay (G).length cy)) (Xp) 25 #[.slice ap (L1).length cp, .int .i64 (F1)] from Sp.out.other (Ne.symm hNp.out) _ _)
      have Tl := Lib.hid (show Own 3 (w15.setCell ⟨Xy, 0, none⟩ (.slice ay (G).length cy)) w.heap.size (.slice ax l.length cx) (l) from Tl.out.set_other hMl.out 0 _)
      have Tx := Lib.hid (show Txs (w15.setCell ⟨Xy, 0, none⟩ (.slice ay (G).length cy)) (xs) (.slice av xs.length cv) fx from Rd.grown (grownBy_set w15 Xy 0 _) Tx.out (fun r e => by cases e; exact hMx.out))
      have To := Lib.hid (show Own 3 (w15.setCell ⟨Xy, 0, none⟩ (.slice ay (G).length cy)) w.heap.size (.slice ao (G).length co) (G) from To.out.set_other hMo.out 0 _)
      have Tob := Lib.hid (show OwnB 4 (w15.setCell ⟨Xy, 0, none⟩ (.slice ay (G).length cy)) w.heap.size (.slice bbo (Ko).length bco) (Ko) from Tob.out.set_other hMob.out 0 _)
      have Tkb := Lib.hid (show OwnB 4 (w15.setCell ⟨Xy, 0, none⟩ (.slice ay (G).length cy)) w.heap.size (.slice bbk (Ko).length bck) (Ko) from Tkb.out.set_other hMkb.out 0 _)
      have Tt := Lib.hid (show Txs (w15.setCell ⟨Xy, 0, none⟩ (.slice ay (G).length cy)) (P) (.slice av P.length cv) fq from Rd.grown (grownBy_set w15 Xy 0 _) Tt.out (fun r e => by cases e; exact hMt.out))
      have Td := Lib.hid (show Txs (w15.setCell ⟨Xy, 0, none⟩ (.slice ay (G).length cy)) (D) (.slice ad D.length ac) fr from Rd.grown (grownBy_set w15 Xy 0 _) Td.out (fun r e => by cases e; exact hMd.out))
      have Tp := Lib.hid (show Own 3 (w15.setCell ⟨Xy, 0, none⟩ (.slice ay (G).length cy)) w.heap.size (.slice ap (L1).length cp) (L1) from Tp.out.set_other hMp.out 0 _)
      have Tpb := Lib.hid (show OwnB 4 (w15.setCell ⟨Xy, 0, none⟩ (.slice ay (G).length cy)) w.heap.size (.slice bbp (A1).length bcp) (A1) from Tpb.out.set_other hMpb.out 0 _)
      have Ty := Lib.hid (show Own 3 (w15.setCell ⟨Xy, 0, none⟩ (.slice ay (G).length cy)) w.heap.size (.slice ay (G).length cy) (G) from Ty.out.set_other hMy.out 0 _)
      have Tyb := Lib.hid (show OwnB 4 (w15.setCell ⟨Xy, 0, none⟩ (.slice ay (G).length cy)) w.heap.size (.slice bby (A2).length bcy) (A2) from Tyb.out.set_other hMyb.out 0 _)
      have SN := Lib.hid (show Str (w15.setCell ⟨Xy, 0, none⟩ (.slice ay (G).length cy)) (Xy) 25 #[.slice ay (G).length cy, .int .i64 0] from SN.out.set 0 _)
      have Hb := Lib.hid (Hb.out.setCell (p := ⟨Xy, 0, none⟩) hlo.out (.slice ay (G).length cy))
      have Sl := Lib.hid (show Str ((w15.setCell ⟨Xy, 0, none⟩ (.slice ay (G).length cy)).setCell ⟨Xy, 1, none⟩ (.int .i64 (F))) (w1.heap.size) 25 #[.slice ax l.length cx, .int .i64 n] from Sl.out.other (Ne.symm hNl.out) _ _)
      have So := Lib.hid (show Str ((w15.setCell ⟨Xy, 0, none⟩ (.slice ay (G).length cy)).setCell ⟨Xy, 1, none⟩ (.int .i64 (F))) (w3.heap.size) 25 #[.slice ao G.length co, .int .i64 F] from So.out.other (Ne.symm hNo.out) _ _)
      have Sp := Lib.hid (show Str ((w15.setCell ⟨Xy, 0, none⟩ (.slice ay (G).length cy)).setCell ⟨Xy, 1, none⟩ (.int .i64 (F))) (Xp) 25 #[.slice ap (L1).length cp, .int .i64 (F1)] from Sp.out.other (Ne.symm hNp.out) _ _)
      have Tl := Lib.hid (show Own 3 ((w15.setCell ⟨Xy, 0, none⟩ (.slice ay (G).length cy)).setCell ⟨Xy, 1, none⟩ (.int .i64 (F))) w.heap.size (.slice ax l.length cx) (l) from Tl.out.set_other hMl.out 1 _)
      have Tx := Lib.hid (show Txs ((w15.setCell ⟨Xy, 0, none⟩ (.slice ay (G).length cy)).setCell ⟨Xy, 1, none⟩ (.int .i64 (F))) (xs) (.slice av xs.length cv) fx from Rd.grown (grownBy_set (w15.setCell ⟨Xy, 0, none⟩ (.slice ay (G).length cy)) Xy 1 _) Tx.out (fun r e => by cases e; exact hMx.out))
      have To := Lib.hid (show Own 3 ((w15.setCell ⟨Xy, 0, none⟩ (.slice ay (G).length cy)).setCell ⟨Xy, 1, none⟩ (.int .i64 (F))) w.heap.size (.slice ao (G).length co) (G) from To.out.set_other hMo.out 1 _)
      have Tob := Lib.hid (show OwnB 4 ((w15.setCell ⟨Xy, 0, none⟩ (.slice ay (G).length cy)).setCell ⟨Xy, 1, none⟩ (.int .i64 (F))) w.heap.size (.slice bbo (Ko).length bco) (Ko) from Tob.out.set_other hMob.out 1 _)
      have Tkb := Lib.hid (show OwnB 4 ((w15.setCell ⟨Xy, 0, none⟩ (.slice ay (G).length cy)).setCell ⟨Xy, 1, none⟩ (.int .i64 (F))) w.heap.size (.slice bbk (Ko).length bck) (Ko) from Tkb.out.set_other hMkb.out 1 _)
      have Tt := Lib.hid (show Txs ((w15.setCell ⟨Xy, 0, none⟩ (.slice ay (G).length cy)).setCell ⟨Xy, 1, none⟩ (.int .i64 (F))) (P) (.slice av P.length cv) fq from Rd.grown (grownBy_set (w15.setCell ⟨Xy, 0, none⟩ (.slice ay (G).length cy)) Xy 1 _) Tt.out (fun r e => by cases e; exact hMt.out))
      have Td := Lib.hid (show Txs ((w15.setCell ⟨Xy, 0, none⟩ (.slice ay (G).length cy)).setCell ⟨Xy, 1, none⟩ (.int .i64 (F))) (D) (.slice ad D.length ac) fr from Rd.grown (grownBy_set (w15.setCell ⟨Xy, 0, none⟩ (.slice ay (G).length cy)) Xy 1 _) Td.out (fun r e => by cases e; exact hMd.out))
      have Tp := Lib.hid (show Own 3 ((w15.setCell ⟨Xy, 0, none⟩ (.slice ay (G).length cy)).setCell ⟨Xy, 1, none⟩ (.int .i64 (F))) w.heap.size (.slice ap (L1).length cp) (L1) from Tp.out.set_other hMp.out 1 _)
      have Tpb := Lib.hid (show OwnB 4 ((w15.setCell ⟨Xy, 0, none⟩ (.slice ay (G).length cy)).setCell ⟨Xy, 1, none⟩ (.int .i64 (F))) w.heap.size (.slice bbp (A1).length bcp) (A1) from Tpb.out.set_other hMpb.out 1 _)
      have Ty := Lib.hid (show Own 3 ((w15.setCell ⟨Xy, 0, none⟩ (.slice ay (G).length cy)).setCell ⟨Xy, 1, none⟩ (.int .i64 (F))) w.heap.size (.slice ay (G).length cy) (G) from Ty.out.set_other hMy.out 1 _)
      have Tyb := Lib.hid (show OwnB 4 ((w15.setCell ⟨Xy, 0, none⟩ (.slice ay (G).length cy)).setCell ⟨Xy, 1, none⟩ (.int .i64 (F))) w.heap.size (.slice bby (A2).length bcy) (A2) from Tyb.out.set_other hMyb.out 1 _)
      have SN := Lib.hid (show Str ((w15.setCell ⟨Xy, 0, none⟩ (.slice ay (G).length cy)).setCell ⟨Xy, 1, none⟩ (.int .i64 (F))) (Xy) 25 #[.slice ay (G).length cy, .int .i64 (F)] from SN.out.set 1 _)
      have Hb := Lib.hid (Hb.out.setCell (p := ⟨Xy, 1, none⟩) hlo.out (.int .i64 (F)))
      refine hK.out _ _ ⟨Sp.out.cell 0 (v := .slice ap (L1).length cp) rfl, Sp.out.cell 1 (v := .int .i64 (F1)) rfl⟩ (fun hH => ?_)
      clear hK K
      try simp only [Act.put, List.setIfInBounds_toArray, List.set_cons_zero, List.set_cons_succ]
      generalize ((w15.setCell ⟨Xy, 0, none⟩ (.slice ay (G).length cy)).setCell ⟨Xy, 1, none⟩ (.int .i64 (F))) = w16 at *
      refine callH 10 rfl (by kernel_rfl) rfl (fun K hK => ?_)
      go_simp
      refine hK.out _ _ ⟨Sp.out.cell 0 (v := .slice ap (L1).length cp) rfl, Sp.out.cell 1 (v := .int .i64 (F1)) rfl⟩ (fun hH => ?_)
      clear hK K
      try simp only [Act.put, List.setIfInBounds_toArray, List.set_cons_zero, List.set_cons_succ]
      refine wpAnyH_done (by kernel_rfl) ?_ _
      try simp only [Act.put]
      clear hH hlo hxl hNl hNo hNp hMl hMx hMo hMob hMkb hMt hMd hMp hMpb hMy hMyb
      have Sy := SN; clear SN
      have cl_0 := Sl.out.cell 0 (v := .slice ax l.length cx) rfl
      have cl_1 := Sl.out.cell 1 (v := .int .i64 n) rfl
      have co_0 := So.out.cell 0 (v := .slice ao G.length co) rfl
      have co_1 := So.out.cell 1 (v := .int .i64 F) rfl
      have cp_0 := Sp.out.cell 0 (v := .slice ap (L1).length cp) rfl
      have cp_1 := Sp.out.cell 1 (v := .int .i64 (F1)) rfl
      have cy_0 := Sy.out.cell 0 (v := .slice ay (G).length cy) rfl
      have cy_1 := Sy.out.cell 1 (v := .int .i64 (F)) rfl
      go_wp2_with fail
      clear cl_0 cl_1 co_0 co_1 cp_0 cp_1 cy_0 cy_1
      refine (laws_sameLedger _ _ _ _ (G) (F) _ (by omega) Ty.out.at To.out.at).mono ?_
      rintro e w17 ⟨rfl, hb⟩
      have Tl := Lib.hid (show Own 3 w17 w.heap.size (.slice ax l.length cx) (l) from Tl.out.below hb)
      have Tx := Lib.hid (show Txs w17 (xs) (.slice av xs.length cv) fx from Tx.out.under hb)
      have To := Lib.hid (show Own 3 w17 w.heap.size (.slice ao (G).length co) (G) from To.out.below hb)
      have Tob := Lib.hid (show OwnB 4 w17 w.heap.size (.slice bbo (Ko).length bco) (Ko) from Tob.out.below hb)
      have Tkb := Lib.hid (show OwnB 4 w17 w.heap.size (.slice bbk (Ko).length bck) (Ko) from Tkb.out.below hb)
      have Tt := Lib.hid (show Txs w17 (P) (.slice av P.length cv) fq from Tt.out.under hb)
      have Td := Lib.hid (show Txs w17 (D) (.slice ad D.length ac) fr from Td.out.under hb)
      have Tp := Lib.hid (show Own 3 w17 w.heap.size (.slice ap (L1).length cp) (L1) from Tp.out.below hb)
      have Tpb := Lib.hid (show OwnB 4 w17 w.heap.size (.slice bbp (A1).length bcp) (A1) from Tpb.out.below hb)
      have Ty := Lib.hid (show Own 3 w17 w.heap.size (.slice ay (G).length cy) (G) from Ty.out.below hb)
      have Tyb := Lib.hid (show OwnB 4 w17 w.heap.size (.slice bby (A2).length bcy) (A2) from Tyb.out.below hb)
      have Sl := Lib.hid (show Str w17 (w1.heap.size) 25 #[.slice ax l.length cx, .int .i64 n] from (hb.block _ Sl.out.lt).trans Sl.out)
      have So := Lib.hid (show Str w17 (w3.heap.size) 25 #[.slice ao G.length co, .int .i64 F] from (hb.block _ So.out.lt).trans So.out)
      have Sp := Lib.hid (show Str w17 (Xp) 25 #[.slice ap (L1).length cp, .int .i64 (F1)] from (hb.block _ Sp.out.lt).trans Sp.out)
      have Sy := Lib.hid (show Str w17 (Xy) 25 #[.slice ay (G).length cy, .int .i64 (F)] from (hb.block _ Sy.out.lt).trans Sy.out)
      have hsw17 := hb.size
      have Hb := Lib.hid (below_step Hb.out Hb.out.size hb)
      clear hb
      have hE : Below w17.heap.size w17 (w17.alloc (.cells #[] 4)) := (Below.refl _ _).alloc (Nat.le_refl _) _
      have hO := ownB_empty 4 w17 (Nat.le_refl _)
      have HE := Lib.hid hE; have HO := Lib.hid hO
      have Hp1 := Lib.hid (Tpb.out.below hE); have Hp2 := Lib.hid (Tyb.out.below hE)
      have hz1 : w17.heap.size ≤ (w17.alloc (.cells #[] 4)).heap.size := hE.size
      clear hE hO
      have hn1 : ([] : List Bool).length + A1.length ≤ 1048577 := by simp; omega
      have hl3 : A1.length + A2.length ≤ 1048577 := by omega
      go_wp2_with (at_builtin; first | (refine wpList_app_b TBo rfl (.tmp 94) (.tmp 95) rfl w17.heap.size w.heap.size (.slice (some ⟨w17.heap.size, 0, none⟩) 0 0) (.slice bbp A1.length bcp) [] A1 rfl HO.out rfl Hp1.out hn1 hz1 ?_; intro v8 w8 ho8 hg8; rw [List.nil_append] at ho8; obtain ⟨b8, c8, rfl, hm8⟩ := ho8.slice; clear hm8; have Hb8 := Lib.hid (HE.out.grown hg8 HE.out.size (fun g e => (HO.out.lt g e).1)); have Ho8 := Lib.hid ho8; clear ho8 hg8; have hs8 : w17.heap.size ≤ w8.heap.size := Hb8.out.size; have Hp2 := Lib.hid (Tyb.out.below Hb8.out)) | (refine wpList_app_b TBo rfl (.tmp 96) (.tmp 97) rfl w17.heap.size w.heap.size (.slice b8 A1.length c8) (.slice bby A2.length bcy) A1 A2 rfl Ho8.out rfl Hp2.out hl3 hs8 ?_; intro v9 w9 ho9 hg9; rw [Hp5.out] at ho9; obtain ⟨b9, c9, rfl, hm9⟩ := ho9.slice; clear hm9; have Hb9 := Lib.hid (Hb8.out.grown hg9 Hb8.out.size (fun g e => (Ho8.out.lt g e).1)); have Ho9 := Lib.hid ho9; clear ho9 hg9))
      have Tl := Lib.hid (show Own 3 w9 w.heap.size (.slice ax l.length cx) (l) from Tl.out.below Hb9.out)
      have Tx := Lib.hid (show Txs w9 (xs) (.slice av xs.length cv) fx from Tx.out.under Hb9.out)
      have To := Lib.hid (show Own 3 w9 w.heap.size (.slice ao (G).length co) (G) from To.out.below Hb9.out)
      have Tob := Lib.hid (show OwnB 4 w9 w.heap.size (.slice bbo (Ko).length bco) (Ko) from Tob.out.below Hb9.out)
      have Tkb := Lib.hid (show OwnB 4 w9 w.heap.size (.slice bbk (Ko).length bck) (Ko) from Tkb.out.below Hb9.out)
      have Tt := Lib.hid (show Txs w9 (P) (.slice av P.length cv) fq from Tt.out.under Hb9.out)
      have Td := Lib.hid (show Txs w9 (D) (.slice ad D.length ac) fr from Td.out.under Hb9.out)
      have Tp := Lib.hid (show Own 3 w9 w.heap.size (.slice ap (L1).length cp) (L1) from Tp.out.below Hb9.out)
      have Tpb := Lib.hid (show OwnB 4 w9 w.heap.size (.slice bbp (A1).length bcp) (A1) from Tpb.out.below Hb9.out)
      have Ty := Lib.hid (show Own 3 w9 w.heap.size (.slice ay (G).length cy) (G) from Ty.out.below Hb9.out)
      have Tyb := Lib.hid (show OwnB 4 w9 w.heap.size (.slice bby (A2).length bcy) (A2) from Tyb.out.below Hb9.out)
      have Sl := Lib.hid (show Str w9 (w1.heap.size) 25 #[.slice ax l.length cx, .int .i64 n] from (Hb9.out.block _ Sl.out.lt).trans Sl.out)
      have So := Lib.hid (show Str w9 (w3.heap.size) 25 #[.slice ao G.length co, .int .i64 F] from (Hb9.out.block _ So.out.lt).trans So.out)
      have Sp := Lib.hid (show Str w9 (Xp) 25 #[.slice ap (L1).length cp, .int .i64 (F1)] from (Hb9.out.block _ Sp.out.lt).trans Sp.out)
      have Sy := Lib.hid (show Str w9 (Xy) 25 #[.slice ay (G).length cy, .int .i64 (F)] from (Hb9.out.block _ Sy.out.lt).trans Sy.out)
      have hsw9 := Hb9.out.size
      have Hb := Lib.hid (below_step Hb.out Hb.out.size Hb9.out)
      refine (laws_sameBools _ _ _ _ Ko _ (by omega) Ho9.out.at Tob.out.at).mono ?_
      rintro e9 wz ⟨rfl, hbz⟩
      have Hb := Lib.hid (below_step Hb.out Hb.out.size hbz)
      clear hbz
      go_wp2
      go_ret
      exact ⟨rfl, Hb.out⟩
    go_simp
    refine (HI3.out _ _ _ Tp.out.at Td.out).mono ?_
    rintro e1 w14 ⟨v, u, rfl, ho, hk, hb⟩
    have hwb := Hb.out.size
    obtain ⟨ay, cy, rfl, _, _⟩ := ho.ints
    obtain ⟨bby, bcy, rfl, _⟩ := hk.slice
    have ho' := Lib.hid (ho.mono (show w.heap.size ≤ _ by omega)); have hk' := Lib.hid (hk.mono (show w.heap.size ≤ _ by omega))
    clear ho hk
    have Tl := Lib.hid (show Own 3 w14 w.heap.size (.slice ax l.length cx) (l) from Tl.out.below hb)
    have Tx := Lib.hid (show Txs w14 (xs) (.slice av xs.length cv) fx from Tx.out.under hb)
    have To := Lib.hid (show Own 3 w14 w.heap.size (.slice ao (G).length co) (G) from To.out.below hb)
    have Tob := Lib.hid (show OwnB 4 w14 w.heap.size (.slice bbo (Ko).length bco) (Ko) from Tob.out.below hb)
    have Tkb := Lib.hid (show OwnB 4 w14 w.heap.size (.slice bbk (Ko).length bck) (Ko) from Tkb.out.below hb)
    have Tt := Lib.hid (show Txs w14 (P) (.slice av P.length cv) fq from Tt.out.under hb)
    have Td := Lib.hid (show Txs w14 (D) (.slice ad D.length ac) fr from Td.out.under hb)
    have Tp := Lib.hid (show Own 3 w14 w.heap.size (.slice ap (L1).length cp) (L1) from Tp.out.below hb)
    have Tpb := Lib.hid (show OwnB 4 w14 w.heap.size (.slice bbp (A1).length bcp) (A1) from Tpb.out.below hb)
    have Sl := Lib.hid (show Str w14 (w1.heap.size) 25 #[.slice ax l.length cx, .int .i64 n] from (hb.block _ Sl.out.lt).trans Sl.out)
    have So := Lib.hid (show Str w14 (w3.heap.size) 25 #[.slice ao G.length co, .int .i64 F] from (hb.block _ So.out.lt).trans So.out)
    have Sp := Lib.hid (show Str w14 (Xp) 25 #[.slice ap (L1).length cp, .int .i64 (F1)] from (hb.block _ Sp.out.lt).trans Sp.out)
    have hsw14 := hb.size
    have Hb := Lib.hid (below_step Hb.out Hb.out.size hb)
    have Ty := Lib.hid (show Own 3 w14 w.heap.size (.slice ay (G).length cy) (G) from ho'.out)
    have Tyb := Lib.hid (show OwnB 4 w14 w.heap.size (.slice bby (A2).length bcy) (A2) from hk'.out)
    clear ho' hk' hb hwb
    refine hK.out _ _ ⟨Sp.out.cell 0 (v := .slice ap (L1).length cp) rfl, Sp.out.cell 1 (v := .int .i64 (F1)) rfl⟩ (fun hH => ?_)
    clear hK K
    try simp only [Act.put, List.setIfInBounds_toArray, List.set_cons_zero, List.set_cons_succ]
    refine takeH 5 (v := ?vrb1x8) rfl (by kernel_rfl) (by kernel_rfl) (by kernel_rfl) (fun _ _ _ h => h) hH rfl ?yrb1x8 ?rrb1x8
    case yrb1x8 => intro W hSw; go_simp; try with_reducible rfl
    try simp only [Act.put, List.setIfInBounds_toArray, List.set_cons_zero, List.set_cons_succ]
    refine takeH 6 (v := ?vrb1x9) rfl (by kernel_rfl) (by kernel_rfl) (by kernel_rfl) (fun _ _ _ h => h) hH rfl ?yrb1x9 ?rrb1x9
    case yrb1x9 => intro W hSw; go_simp; try with_reducible rfl
    try simp only [Act.put, List.setIfInBounds_toArray, List.set_cons_zero, List.set_cons_succ]
    refine takeH 7 (v := ?vrb1x10) rfl (by kernel_rfl) (by kernel_rfl) (by kernel_rfl) (fun _ _ _ h => h) hH rfl ?yrb1x10 ?rrb1x10
    case yrb1x10 => intro W hSw; go_simp; try with_reducible rfl
    try simp only [Act.put, List.setIfInBounds_toArray, List.set_cons_zero, List.set_cons_succ]
    refine callH 8 rfl (by kernel_rfl) rfl (fun K hK => ?_)
    go_simp
    have hNl := Lib.hid (show w14.heap.size ≠ w1.heap.size from by have := Sl.out.lt; omega)
    have hNo := Lib.hid (show w14.heap.size ≠ w3.heap.size from by have := So.out.lt; omega)
    have hNp := Lib.hid (show w14.heap.size ≠ Xp from by have := Sp.out.lt; omega)
    have hMl := Lib.hid (show (.slice ax l.length cx : Value).ownBlock ≠ some w14.heap.size from fun e => by have := (Tl.out.lt _ e).2; omega)
    have hMx := Lib.hid (show w14.heap.size ∉ fx from fun hm => by have := Rd.lt Tx.out _ hm; omega)
    have hMo := Lib.hid (show (.slice ao (G).length co : Value).ownBlock ≠ some w14.heap.size from fun e => by have := (To.out.lt _ e).2; omega)
    have hMob := Lib.hid (show (.slice bbo (Ko).length bco : Value).ownBlock ≠ some w14.heap.size from fun e => by have := (Tob.out.lt _ e).2; omega)
    have hMkb := Lib.hid (show (.slice bbk (Ko).length bck : Value).ownBlock ≠ some w14.heap.size from fun e => by have := (Tkb.out.lt _ e).2; omega)
    have hMt := Lib.hid (show w14.heap.size ∉ fq from fun hm => by have := Rd.lt Tt.out _ hm; omega)
    have hMd := Lib.hid (show w14.heap.size ∉ fr from fun hm => by have := Rd.lt Td.out _ hm; omega)
    have hMp := Lib.hid (show (.slice ap (L1).length cp : Value).ownBlock ≠ some w14.heap.size from fun e => by have := (Tp.out.lt _ e).2; omega)
    have hMpb := Lib.hid (show (.slice bbp (A1).length bcp : Value).ownBlock ≠ some w14.heap.size from fun e => by have := (Tpb.out.lt _ e).2; omega)
    have hMy := Lib.hid (show (.slice ay (G).length cy : Value).ownBlock ≠ some w14.heap.size from fun e => by have := (Ty.out.lt _ e).2; omega)
    have hMyb := Lib.hid (show (.slice bby (A2).length bcy : Value).ownBlock ≠ some w14.heap.size from fun e => by have := (Tyb.out.lt _ e).2; omega)
    have hlo := Lib.hid (show w.heap.size ≤ w14.heap.size from Hb.out.size)
    have hal : Below w14.heap.size w14 (w14.alloc (.cells #[.slice none 0 0, .int .i64 0] 25)) := (Below.refl _ _).alloc (Nat.le_refl _) _
    have Tl := Lib.hid (show Own 3 (w14.alloc (.cells #[.slice none 0 0, .int .i64 0] 25)) w.heap.size (.slice ax l.length cx) (l) from Tl.out.below hal)
    have Tx := Lib.hid (show Txs (w14.alloc (.cells #[.slice none 0 0, .int .i64 0] 25)) (xs) (.slice av xs.length cv) fx from Tx.out.under hal)
    have To := Lib.hid (show Own 3 (w14.alloc (.cells #[.slice none 0 0, .int .i64 0] 25)) w.heap.size (.slice ao (G).length co) (G) from To.out.below hal)
    have Tob := Lib.hid (show OwnB 4 (w14.alloc (.cells #[.slice none 0 0, .int .i64 0] 25)) w.heap.size (.slice bbo (Ko).length bco) (Ko) from Tob.out.below hal)
    have Tkb := Lib.hid (show OwnB 4 (w14.alloc (.cells #[.slice none 0 0, .int .i64 0] 25)) w.heap.size (.slice bbk (Ko).length bck) (Ko) from Tkb.out.below hal)
    have Tt := Lib.hid (show Txs (w14.alloc (.cells #[.slice none 0 0, .int .i64 0] 25)) (P) (.slice av P.length cv) fq from Tt.out.under hal)
    have Td := Lib.hid (show Txs (w14.alloc (.cells #[.slice none 0 0, .int .i64 0] 25)) (D) (.slice ad D.length ac) fr from Td.out.under hal)
    have Tp := Lib.hid (show Own 3 (w14.alloc (.cells #[.slice none 0 0, .int .i64 0] 25)) w.heap.size (.slice ap (L1).length cp) (L1) from Tp.out.below hal)
    have Tpb := Lib.hid (show OwnB 4 (w14.alloc (.cells #[.slice none 0 0, .int .i64 0] 25)) w.heap.size (.slice bbp (A1).length bcp) (A1) from Tpb.out.below hal)
    have Ty := Lib.hid (show Own 3 (w14.alloc (.cells #[.slice none 0 0, .int .i64 0] 25)) w.heap.size (.slice ay (G).length cy) (G) from Ty.out.below hal)
    have Tyb := Lib.hid (show OwnB 4 (w14.alloc (.cells #[.slice none 0 0, .int .i64 0] 25)) w.heap.size (.slice bby (A2).length bcy) (A2) from Tyb.out.below hal)
    have Sl := Lib.hid (show Str (w14.alloc (.cells #[.slice none 0 0, .int .i64 0] 25)) (w1.heap.size) 25 #[.slice ax l.length cx, .int .i64 n] from Sl.out.alloc _)
    have So := Lib.hid (show Str (w14.alloc (.cells #[.slice none 0 0, .int .i64 0] 25)) (w3.heap.size) 25 #[.slice ao G.length co, .int .i64 F] from So.out.alloc _)
    have Sp := Lib.hid (show Str (w14.alloc (.cells #[.slice none 0 0, .int .i64 0] 25)) (Xp) 25 #[.slice ap (L1).length cp, .int .i64 (F1)] from Sp.out.alloc _)
    have SN := Lib.hid (Str.new w14 25 #[.slice none 0 0, .int .i64 0])
    have Hb := Lib.hid (below_step Hb.out Hb.out.size hal)
    clear hal
    have hxl := SN.out.lt
    generalize (w14.alloc (.cells #[.slice none 0 0, .int .i64 0] 25)) = w15 at *
    generalize w14.heap.size = Xy at *
    refine hK.out _ _ ⟨Sp.out.cell 0 (v := .slice ap (L1).length cp) rfl, Sp.out.cell 1 (v := .int .i64 (F1)) rfl⟩ (fun hH => ?_)
    clear hK K
    try simp only [Act.put, List.setIfInBounds_toArray, List.set_cons_zero, List.set_cons_succ]
    refine callH 9 rfl (by kernel_rfl) rfl (fun K hK => ?_)
    have y0 := SN.out.frozen 0
    have y1 := SN.out.frozen 1
    have v0 := SN.out.cell 0 (v := .slice none 0 0) rfl
    have v1 := SN.out.cell 1 (v := .int .i64 0) rfl
    go_simp
    clear y0 y1 v0 v1
    have Sl := Lib.hid (show Str (w15.setCell ⟨Xy, 0, none⟩ (.slice ay (G).length cy)) (w1.heap.size) 25 #[.slice ax l.length cx, .int .i64 n] from Sl.out.other (Ne.symm hNl.out) _ _)
    have So := Lib.hid (show Str (w15.setCell ⟨Xy, 0, none⟩ (.slice ay (G).length cy)) (w3.heap.size) 25 #[.slice ao G.length co, .int .i64 F] from So.out.other (Ne.symm hNo.out) _ _)
    have Sp := Lib.hid (show Str (w15.setCell ⟨Xy, 0, none⟩ (.slice ay (G).length cy)) (Xp) 25 #[.slice ap (L1).length cp, .int .i64 (F1)] from Sp.out.other (Ne.symm hNp.out) _ _)
    have Tl := Lib.hid (show Own 3 (w15.setCell ⟨Xy, 0, none⟩ (.slice ay (G).length cy)) w.heap.size (.slice ax l.length cx) (l) from Tl.out.set_other hMl.out 0 _)
    have Tx := Lib.hid (show Txs (w15.setCell ⟨Xy, 0, none⟩ (.slice ay (G).length cy)) (xs) (.slice av xs.length cv) fx from Rd.grown (grownBy_set w15 Xy 0 _) Tx.out (fun r e => by cases e; exact hMx.out))
    have To := Lib.hid (show Own 3 (w15.setCell ⟨Xy, 0, none⟩ (.slice ay (G).length cy)) w.heap.size (.slice ao (G).length co) (G) from To.out.set_other hMo.out 0 _)
    have Tob := Lib.hid (show OwnB 4 (w15.setCell ⟨Xy, 0, none⟩ (.slice ay (G).length cy)) w.heap.size (.slice bbo (Ko).length bco) (Ko) from Tob.out.set_other hMob.out 0 _)
    have Tkb := Lib.hid (show OwnB 4 (w15.setCell ⟨Xy, 0, none⟩ (.slice ay (G).length cy)) w.heap.size (.slice bbk (Ko).length bck) (Ko) from Tkb.out.set_other hMkb.out 0 _)
    have Tt := Lib.hid (show Txs (w15.setCell ⟨Xy, 0, none⟩ (.slice ay (G).length cy)) (P) (.slice av P.length cv) fq from Rd.grown (grownBy_set w15 Xy 0 _) Tt.out (fun r e => by cases e; exact hMt.out))
    have Td := Lib.hid (show Txs (w15.setCell ⟨Xy, 0, none⟩ (.slice ay (G).length cy)) (D) (.slice ad D.length ac) fr from Rd.grown (grownBy_set w15 Xy 0 _) Td.out (fun r e => by cases e; exact hMd.out))
    have Tp := Lib.hid (show Own 3 (w15.setCell ⟨Xy, 0, none⟩ (.slice ay (G).length cy)) w.heap.size (.slice ap (L1).length cp) (L1) from Tp.out.set_other hMp.out 0 _)
    have Tpb := Lib.hid (show OwnB 4 (w15.setCell ⟨Xy, 0, none⟩ (.slice ay (G).length cy)) w.heap.size (.slice bbp (A1).length bcp) (A1) from Tpb.out.set_other hMpb.out 0 _)
    have Ty := Lib.hid (show Own 3 (w15.setCell ⟨Xy, 0, none⟩ (.slice ay (G).length cy)) w.heap.size (.slice ay (G).length cy) (G) from Ty.out.set_other hMy.out 0 _)
    have Tyb := Lib.hid (show OwnB 4 (w15.setCell ⟨Xy, 0, none⟩ (.slice ay (G).length cy)) w.heap.size (.slice bby (A2).length bcy) (A2) from Tyb.out.set_other hMyb.out 0 _)
    have SN := Lib.hid (show Str (w15.setCell ⟨Xy, 0, none⟩ (.slice ay (G).length cy)) (Xy) 25 #[.slice ay (G).length cy, .int .i64 0] from SN.out.set 0 _)
    have Hb := Lib.hid (Hb.out.setCell (p := ⟨Xy, 0, none⟩) hlo.out (.slice ay (G).length cy))
    have Sl := Lib.hid (show Str ((w15.setCell ⟨Xy, 0, none⟩ (.slice ay (G).length cy)).setCell ⟨Xy, 1, none⟩ (.int .i64 (F))) (w1.heap.size) 25 #[.slice ax l.length cx, .int .i64 n] from Sl.out.other (Ne.symm hNl.out) _ _)
    have So := Lib.hid (show Str ((w15.setCell ⟨Xy, 0, none⟩ (.slice ay (G).length cy)).setCell ⟨Xy, 1, none⟩ (.int .i64 (F))) (w3.heap.size) 25 #[.slice ao G.length co, .int .i64 F] from So.out.other (Ne.symm hNo.out) _ _)
    have Sp := Lib.hid (show Str ((w15.setCell ⟨Xy, 0, none⟩ (.slice ay (G).length cy)).setCell ⟨Xy, 1, none⟩ (.int .i64 (F))) (Xp) 25 #[.slice ap (L1).length cp, .int .i64 (F1)] from Sp.out.other (Ne.symm hNp.out) _ _)
    have Tl := Lib.hid (show Own 3 ((w15.setCell ⟨Xy, 0, none⟩ (.slice ay (G).length cy)).setCell ⟨Xy, 1, none⟩ (.int .i64 (F))) w.heap.size (.slice ax l.length cx) (l) from Tl.out.set_other hMl.out 1 _)
    have Tx := Lib.hid (show Txs ((w15.setCell ⟨Xy, 0, none⟩ (.slice ay (G).length cy)).setCell ⟨Xy, 1, none⟩ (.int .i64 (F))) (xs) (.slice av xs.length cv) fx from Rd.grown (grownBy_set (w15.setCell ⟨Xy, 0, none⟩ (.slice ay (G).length cy)) Xy 1 _) Tx.out (fun r e => by cases e; exact hMx.out))
    have To := Lib.hid (show Own 3 ((w15.setCell ⟨Xy, 0, none⟩ (.slice ay (G).length cy)).setCell ⟨Xy, 1, none⟩ (.int .i64 (F))) w.heap.size (.slice ao (G).length co) (G) from To.out.set_other hMo.out 1 _)
    have Tob := Lib.hid (show OwnB 4 ((w15.setCell ⟨Xy, 0, none⟩ (.slice ay (G).length cy)).setCell ⟨Xy, 1, none⟩ (.int .i64 (F))) w.heap.size (.slice bbo (Ko).length bco) (Ko) from Tob.out.set_other hMob.out 1 _)
    have Tkb := Lib.hid (show OwnB 4 ((w15.setCell ⟨Xy, 0, none⟩ (.slice ay (G).length cy)).setCell ⟨Xy, 1, none⟩ (.int .i64 (F))) w.heap.size (.slice bbk (Ko).length bck) (Ko) from Tkb.out.set_other hMkb.out 1 _)
    have Tt := Lib.hid (show Txs ((w15.setCell ⟨Xy, 0, none⟩ (.slice ay (G).length cy)).setCell ⟨Xy, 1, none⟩ (.int .i64 (F))) (P) (.slice av P.length cv) fq from Rd.grown (grownBy_set (w15.setCell ⟨Xy, 0, none⟩ (.slice ay (G).length cy)) Xy 1 _) Tt.out (fun r e => by cases e; exact hMt.out))
    have Td := Lib.hid (show Txs ((w15.setCell ⟨Xy, 0, none⟩ (.slice ay (G).length cy)).setCell ⟨Xy, 1, none⟩ (.int .i64 (F))) (D) (.slice ad D.length ac) fr from Rd.grown (grownBy_set (w15.setCell ⟨Xy, 0, none⟩ (.slice ay (G).length cy)) Xy 1 _) Td.out (fun r e => by cases e; exact hMd.out))
    have Tp := Lib.hid (show Own 3 ((w15.setCell ⟨Xy, 0, none⟩ (.slice ay (G).length cy)).setCell ⟨Xy, 1, none⟩ (.int .i64 (F))) w.heap.size (.slice ap (L1).length cp) (L1) from Tp.out.set_other hMp.out 1 _)
    have Tpb := Lib.hid (show OwnB 4 ((w15.setCell ⟨Xy, 0, none⟩ (.slice ay (G).length cy)).setCell ⟨Xy, 1, none⟩ (.int .i64 (F))) w.heap.size (.slice bbp (A1).length bcp) (A1) from Tpb.out.set_other hMpb.out 1 _)
    have Ty := Lib.hid (show Own 3 ((w15.setCell ⟨Xy, 0, none⟩ (.slice ay (G).length cy)).setCell ⟨Xy, 1, none⟩ (.int .i64 (F))) w.heap.size (.slice ay (G).length cy) (G) from Ty.out.set_other hMy.out 1 _)
    have Tyb := Lib.hid (show OwnB 4 ((w15.setCell ⟨Xy, 0, none⟩ (.slice ay (G).length cy)).setCell ⟨Xy, 1, none⟩ (.int .i64 (F))) w.heap.size (.slice bby (A2).length bcy) (A2) from Tyb.out.set_other hMyb.out 1 _)
    have SN := Lib.hid (show Str ((w15.setCell ⟨Xy, 0, none⟩ (.slice ay (G).length cy)).setCell ⟨Xy, 1, none⟩ (.int .i64 (F))) (Xy) 25 #[.slice ay (G).length cy, .int .i64 (F)] from SN.out.set 1 _)
    have Hb := Lib.hid (Hb.out.setCell (p := ⟨Xy, 1, none⟩) hlo.out (.int .i64 (F)))
    refine hK.out _ _ ⟨Sp.out.cell 0 (v := .slice ap (L1).length cp) rfl, Sp.out.cell 1 (v := .int .i64 (F1)) rfl⟩ (fun hH => ?_)
    clear hK K
    try simp only [Act.put, List.setIfInBounds_toArray, List.set_cons_zero, List.set_cons_succ]
    generalize ((w15.setCell ⟨Xy, 0, none⟩ (.slice ay (G).length cy)).setCell ⟨Xy, 1, none⟩ (.int .i64 (F))) = w16 at *
    refine callH 10 rfl (by kernel_rfl) rfl (fun K hK => ?_)
    go_simp
    refine hK.out _ _ ⟨Sp.out.cell 0 (v := .slice ap (L1).length cp) rfl, Sp.out.cell 1 (v := .int .i64 (F1)) rfl⟩ (fun hH => ?_)
    clear hK K
    try simp only [Act.put, List.setIfInBounds_toArray, List.set_cons_zero, List.set_cons_succ]
    refine wpAnyH_done (by kernel_rfl) ?_ _
    try simp only [Act.put]
    clear hH hlo hxl hNl hNo hNp hMl hMx hMo hMob hMkb hMt hMd hMp hMpb hMy hMyb
    have Sy := SN; clear SN
    have cl_0 := Sl.out.cell 0 (v := .slice ax l.length cx) rfl
    have cl_1 := Sl.out.cell 1 (v := .int .i64 n) rfl
    have co_0 := So.out.cell 0 (v := .slice ao G.length co) rfl
    have co_1 := So.out.cell 1 (v := .int .i64 F) rfl
    have cp_0 := Sp.out.cell 0 (v := .slice ap (L1).length cp) rfl
    have cp_1 := Sp.out.cell 1 (v := .int .i64 (F1)) rfl
    have cy_0 := Sy.out.cell 0 (v := .slice ay (G).length cy) rfl
    have cy_1 := Sy.out.cell 1 (v := .int .i64 (F)) rfl
    go_wp2_with fail
    clear cl_0 cl_1 co_0 co_1 cp_0 cp_1 cy_0 cy_1
    refine (laws_sameLedger _ _ _ _ (G) (F) _ (by omega) Ty.out.at To.out.at).mono ?_
    rintro e w17 ⟨rfl, hb⟩
    have Tl := Lib.hid (show Own 3 w17 w.heap.size (.slice ax l.length cx) (l) from Tl.out.below hb)
    have Tx := Lib.hid (show Txs w17 (xs) (.slice av xs.length cv) fx from Tx.out.under hb)
    have To := Lib.hid (show Own 3 w17 w.heap.size (.slice ao (G).length co) (G) from To.out.below hb)
    have Tob := Lib.hid (show OwnB 4 w17 w.heap.size (.slice bbo (Ko).length bco) (Ko) from Tob.out.below hb)
    have Tkb := Lib.hid (show OwnB 4 w17 w.heap.size (.slice bbk (Ko).length bck) (Ko) from Tkb.out.below hb)
    have Tt := Lib.hid (show Txs w17 (P) (.slice av P.length cv) fq from Tt.out.under hb)
    have Td := Lib.hid (show Txs w17 (D) (.slice ad D.length ac) fr from Td.out.under hb)
    have Tp := Lib.hid (show Own 3 w17 w.heap.size (.slice ap (L1).length cp) (L1) from Tp.out.below hb)
    have Tpb := Lib.hid (show OwnB 4 w17 w.heap.size (.slice bbp (A1).length bcp) (A1) from Tpb.out.below hb)
    have Ty := Lib.hid (show Own 3 w17 w.heap.size (.slice ay (G).length cy) (G) from Ty.out.below hb)
    have Tyb := Lib.hid (show OwnB 4 w17 w.heap.size (.slice bby (A2).length bcy) (A2) from Tyb.out.below hb)
    have Sl := Lib.hid (show Str w17 (w1.heap.size) 25 #[.slice ax l.length cx, .int .i64 n] from (hb.block _ Sl.out.lt).trans Sl.out)
    have So := Lib.hid (show Str w17 (w3.heap.size) 25 #[.slice ao G.length co, .int .i64 F] from (hb.block _ So.out.lt).trans So.out)
    have Sp := Lib.hid (show Str w17 (Xp) 25 #[.slice ap (L1).length cp, .int .i64 (F1)] from (hb.block _ Sp.out.lt).trans Sp.out)
    have Sy := Lib.hid (show Str w17 (Xy) 25 #[.slice ay (G).length cy, .int .i64 (F)] from (hb.block _ Sy.out.lt).trans Sy.out)
    have hsw17 := hb.size
    have Hb := Lib.hid (below_step Hb.out Hb.out.size hb)
    clear hb
    have hE : Below w17.heap.size w17 (w17.alloc (.cells #[] 4)) := (Below.refl _ _).alloc (Nat.le_refl _) _
    have hO := ownB_empty 4 w17 (Nat.le_refl _)
    have HE := Lib.hid hE; have HO := Lib.hid hO
    have Hp1 := Lib.hid (Tpb.out.below hE); have Hp2 := Lib.hid (Tyb.out.below hE)
    have hz1 : w17.heap.size ≤ (w17.alloc (.cells #[] 4)).heap.size := hE.size
    clear hE hO
    have hn1 : ([] : List Bool).length + A1.length ≤ 1048577 := by simp; omega
    have hl3 : A1.length + A2.length ≤ 1048577 := by omega
    go_wp2_with (at_builtin; first | (refine wpList_app_b TBo rfl (.tmp 94) (.tmp 95) rfl w17.heap.size w.heap.size (.slice (some ⟨w17.heap.size, 0, none⟩) 0 0) (.slice bbp A1.length bcp) [] A1 rfl HO.out rfl Hp1.out hn1 hz1 ?_; intro v8 w8 ho8 hg8; rw [List.nil_append] at ho8; obtain ⟨b8, c8, rfl, hm8⟩ := ho8.slice; clear hm8; have Hb8 := Lib.hid (HE.out.grown hg8 HE.out.size (fun g e => (HO.out.lt g e).1)); have Ho8 := Lib.hid ho8; clear ho8 hg8; have hs8 : w17.heap.size ≤ w8.heap.size := Hb8.out.size; have Hp2 := Lib.hid (Tyb.out.below Hb8.out)) | (refine wpList_app_b TBo rfl (.tmp 96) (.tmp 97) rfl w17.heap.size w.heap.size (.slice b8 A1.length c8) (.slice bby A2.length bcy) A1 A2 rfl Ho8.out rfl Hp2.out hl3 hs8 ?_; intro v9 w9 ho9 hg9; rw [Hp5.out] at ho9; obtain ⟨b9, c9, rfl, hm9⟩ := ho9.slice; clear hm9; have Hb9 := Lib.hid (Hb8.out.grown hg9 Hb8.out.size (fun g e => (Ho8.out.lt g e).1)); have Ho9 := Lib.hid ho9; clear ho9 hg9))
    have Tl := Lib.hid (show Own 3 w9 w.heap.size (.slice ax l.length cx) (l) from Tl.out.below Hb9.out)
    have Tx := Lib.hid (show Txs w9 (xs) (.slice av xs.length cv) fx from Tx.out.under Hb9.out)
    have To := Lib.hid (show Own 3 w9 w.heap.size (.slice ao (G).length co) (G) from To.out.below Hb9.out)
    have Tob := Lib.hid (show OwnB 4 w9 w.heap.size (.slice bbo (Ko).length bco) (Ko) from Tob.out.below Hb9.out)
    have Tkb := Lib.hid (show OwnB 4 w9 w.heap.size (.slice bbk (Ko).length bck) (Ko) from Tkb.out.below Hb9.out)
    have Tt := Lib.hid (show Txs w9 (P) (.slice av P.length cv) fq from Tt.out.under Hb9.out)
    have Td := Lib.hid (show Txs w9 (D) (.slice ad D.length ac) fr from Td.out.under Hb9.out)
    have Tp := Lib.hid (show Own 3 w9 w.heap.size (.slice ap (L1).length cp) (L1) from Tp.out.below Hb9.out)
    have Tpb := Lib.hid (show OwnB 4 w9 w.heap.size (.slice bbp (A1).length bcp) (A1) from Tpb.out.below Hb9.out)
    have Ty := Lib.hid (show Own 3 w9 w.heap.size (.slice ay (G).length cy) (G) from Ty.out.below Hb9.out)
    have Tyb := Lib.hid (show OwnB 4 w9 w.heap.size (.slice bby (A2).length bcy) (A2) from Tyb.out.below Hb9.out)
    have Sl := Lib.hid (show Str w9 (w1.heap.size) 25 #[.slice ax l.length cx, .int .i64 n] from (Hb9.out.block _ Sl.out.lt).trans Sl.out)
    have So := Lib.hid (show Str w9 (w3.heap.size) 25 #[.slice ao G.length co, .int .i64 F] from (Hb9.out.block _ So.out.lt).trans So.out)
    have Sp := Lib.hid (show Str w9 (Xp) 25 #[.slice ap (L1).length cp, .int .i64 (F1)] from (Hb9.out.block _ Sp.out.lt).trans Sp.out)
    have Sy := Lib.hid (show Str w9 (Xy) 25 #[.slice ay (G).length cy, .int .i64 (F)] from (Hb9.out.block _ Sy.out.lt).trans Sy.out)
    have hsw9 := Hb9.out.size
    have Hb := Lib.hid (below_step Hb.out Hb.out.size Hb9.out)
    refine (laws_sameBools _ _ _ _ Ko _ (by omega) Ho9.out.at Tob.out.at).mono ?_
    rintro e9 wz ⟨rfl, hbz⟩
    have Hb := Lib.hid (below_step Hb.out Hb.out.size hbz)
    clear hbz
    go_wp2
    go_ret
    exact ⟨rfl, Hb.out⟩
  go_simp
  refine (HI1.out _ Tl.out.at Tt.out).mono ?_
  rintro e1 w10 ⟨v, u, rfl, ho, hk, hb⟩
  have hwb := Hb.out.size
  obtain ⟨ap, cp, rfl, _, _⟩ := ho.ints
  obtain ⟨bbp, bcp, rfl, _⟩ := hk.slice
  have ho' := Lib.hid (ho.mono (show w.heap.size ≤ _ by omega)); have hk' := Lib.hid (hk.mono (show w.heap.size ≤ _ by omega))
  clear ho hk
  have Tl := Lib.hid (show Own 3 w10 w.heap.size (.slice ax l.length cx) (l) from Tl.out.below hb)
  have Tx := Lib.hid (show Txs w10 (xs) (.slice av xs.length cv) fx from Tx.out.under hb)
  have To := Lib.hid (show Own 3 w10 w.heap.size (.slice ao (G).length co) (G) from To.out.below hb)
  have Tob := Lib.hid (show OwnB 4 w10 w.heap.size (.slice bbo (Ko).length bco) (Ko) from Tob.out.below hb)
  have Tkb := Lib.hid (show OwnB 4 w10 w.heap.size (.slice bbk (Ko).length bck) (Ko) from Tkb.out.below hb)
  have Tt := Lib.hid (show Txs w10 (P) (.slice av P.length cv) fq from Tt.out.under hb)
  have Td := Lib.hid (show Txs w10 (D) (.slice ad D.length ac) fr from Td.out.under hb)
  have Sl := Lib.hid (show Str w10 (w1.heap.size) 25 #[.slice ax l.length cx, .int .i64 n] from (hb.block _ Sl.out.lt).trans Sl.out)
  have So := Lib.hid (show Str w10 (w3.heap.size) 25 #[.slice ao G.length co, .int .i64 F] from (hb.block _ So.out.lt).trans So.out)
  have hsw10 := hb.size
  have Hb := Lib.hid (below_step Hb.out Hb.out.size hb)
  have Tp := Lib.hid (show Own 3 w10 w.heap.size (.slice ap (L1).length cp) (L1) from ho'.out)
  have Tpb := Lib.hid (show OwnB 4 w10 w.heap.size (.slice bbp (A1).length bcp) (A1) from hk'.out)
  clear ho' hk' hb hwb
  refine hK.out _ _ ⟨Sl.out.cell 0 (v := .slice ax l.length cx) rfl, Sl.out.cell 1 (v := .int .i64 n) rfl⟩ (fun hH => ?_)
  clear hK K
  try simp only [Act.put, List.setIfInBounds_toArray, List.set_cons_zero, List.set_cons_succ]
  refine takeH 5 (v := ?vra8) rfl (by kernel_rfl) (by kernel_rfl) (by kernel_rfl) (fun _ _ _ h => h) hH rfl ?yra8 ?rra8
  case yra8 => intro W hSw; go_simp; try with_reducible rfl
  try simp only [Act.put, List.setIfInBounds_toArray, List.set_cons_zero, List.set_cons_succ]
  refine takeH 6 (v := ?vra9) rfl (by kernel_rfl) (by kernel_rfl) (by kernel_rfl) (fun _ _ _ h => h) hH rfl ?yra9 ?rra9
  case yra9 => intro W hSw; go_simp; try with_reducible rfl
  try simp only [Act.put, List.setIfInBounds_toArray, List.set_cons_zero, List.set_cons_succ]
  refine takeH 7 (v := ?vra10) rfl (by kernel_rfl) (by kernel_rfl) (by kernel_rfl) (fun _ _ _ h => h) hH rfl ?yra10 ?rra10
  case yra10 => intro W hSw; go_simp; try with_reducible rfl
  try simp only [Act.put, List.setIfInBounds_toArray, List.set_cons_zero, List.set_cons_succ]
  refine callH 8 rfl (by kernel_rfl) rfl (fun K hK => ?_)
  go_simp
  have hNl := Lib.hid (show w10.heap.size ≠ w1.heap.size from by have := Sl.out.lt; omega)
  have hNo := Lib.hid (show w10.heap.size ≠ w3.heap.size from by have := So.out.lt; omega)
  have hMl := Lib.hid (show (.slice ax l.length cx : Value).ownBlock ≠ some w10.heap.size from fun e => by have := (Tl.out.lt _ e).2; omega)
  have hMx := Lib.hid (show w10.heap.size ∉ fx from fun hm => by have := Rd.lt Tx.out _ hm; omega)
  have hMo := Lib.hid (show (.slice ao (G).length co : Value).ownBlock ≠ some w10.heap.size from fun e => by have := (To.out.lt _ e).2; omega)
  have hMob := Lib.hid (show (.slice bbo (Ko).length bco : Value).ownBlock ≠ some w10.heap.size from fun e => by have := (Tob.out.lt _ e).2; omega)
  have hMkb := Lib.hid (show (.slice bbk (Ko).length bck : Value).ownBlock ≠ some w10.heap.size from fun e => by have := (Tkb.out.lt _ e).2; omega)
  have hMt := Lib.hid (show w10.heap.size ∉ fq from fun hm => by have := Rd.lt Tt.out _ hm; omega)
  have hMd := Lib.hid (show w10.heap.size ∉ fr from fun hm => by have := Rd.lt Td.out _ hm; omega)
  have hMp := Lib.hid (show (.slice ap (L1).length cp : Value).ownBlock ≠ some w10.heap.size from fun e => by have := (Tp.out.lt _ e).2; omega)
  have hMpb := Lib.hid (show (.slice bbp (A1).length bcp : Value).ownBlock ≠ some w10.heap.size from fun e => by have := (Tpb.out.lt _ e).2; omega)
  have hlo := Lib.hid (show w.heap.size ≤ w10.heap.size from Hb.out.size)
  have hal : Below w10.heap.size w10 (w10.alloc (.cells #[.slice none 0 0, .int .i64 0] 25)) := (Below.refl _ _).alloc (Nat.le_refl _) _
  have Tl := Lib.hid (show Own 3 (w10.alloc (.cells #[.slice none 0 0, .int .i64 0] 25)) w.heap.size (.slice ax l.length cx) (l) from Tl.out.below hal)
  have Tx := Lib.hid (show Txs (w10.alloc (.cells #[.slice none 0 0, .int .i64 0] 25)) (xs) (.slice av xs.length cv) fx from Tx.out.under hal)
  have To := Lib.hid (show Own 3 (w10.alloc (.cells #[.slice none 0 0, .int .i64 0] 25)) w.heap.size (.slice ao (G).length co) (G) from To.out.below hal)
  have Tob := Lib.hid (show OwnB 4 (w10.alloc (.cells #[.slice none 0 0, .int .i64 0] 25)) w.heap.size (.slice bbo (Ko).length bco) (Ko) from Tob.out.below hal)
  have Tkb := Lib.hid (show OwnB 4 (w10.alloc (.cells #[.slice none 0 0, .int .i64 0] 25)) w.heap.size (.slice bbk (Ko).length bck) (Ko) from Tkb.out.below hal)
  have Tt := Lib.hid (show Txs (w10.alloc (.cells #[.slice none 0 0, .int .i64 0] 25)) (P) (.slice av P.length cv) fq from Tt.out.under hal)
  have Td := Lib.hid (show Txs (w10.alloc (.cells #[.slice none 0 0, .int .i64 0] 25)) (D) (.slice ad D.length ac) fr from Td.out.under hal)
  have Tp := Lib.hid (show Own 3 (w10.alloc (.cells #[.slice none 0 0, .int .i64 0] 25)) w.heap.size (.slice ap (L1).length cp) (L1) from Tp.out.below hal)
  have Tpb := Lib.hid (show OwnB 4 (w10.alloc (.cells #[.slice none 0 0, .int .i64 0] 25)) w.heap.size (.slice bbp (A1).length bcp) (A1) from Tpb.out.below hal)
  have Sl := Lib.hid (show Str (w10.alloc (.cells #[.slice none 0 0, .int .i64 0] 25)) (w1.heap.size) 25 #[.slice ax l.length cx, .int .i64 n] from Sl.out.alloc _)
  have So := Lib.hid (show Str (w10.alloc (.cells #[.slice none 0 0, .int .i64 0] 25)) (w3.heap.size) 25 #[.slice ao G.length co, .int .i64 F] from So.out.alloc _)
  have SN := Lib.hid (Str.new w10 25 #[.slice none 0 0, .int .i64 0])
  have Hb := Lib.hid (below_step Hb.out Hb.out.size hal)
  clear hal
  have hxl := SN.out.lt
  generalize (w10.alloc (.cells #[.slice none 0 0, .int .i64 0] 25)) = w11 at *
  generalize w10.heap.size = Xp at *
  refine hK.out _ _ ⟨Sl.out.cell 0 (v := .slice ax l.length cx) rfl, Sl.out.cell 1 (v := .int .i64 n) rfl⟩ (fun hH => ?_)
  clear hK K
  try simp only [Act.put, List.setIfInBounds_toArray, List.set_cons_zero, List.set_cons_succ]
  refine callH 9 rfl (by kernel_rfl) rfl (fun K hK => ?_)
  have y0 := SN.out.frozen 0
  have y1 := SN.out.frozen 1
  have v0 := SN.out.cell 0 (v := .slice none 0 0) rfl
  have v1 := SN.out.cell 1 (v := .int .i64 0) rfl
  go_simp
  clear y0 y1 v0 v1
  have Sl := Lib.hid (show Str (w11.setCell ⟨Xp, 0, none⟩ (.slice ap (L1).length cp)) (w1.heap.size) 25 #[.slice ax l.length cx, .int .i64 n] from Sl.out.other (Ne.symm hNl.out) _ _)
  have So := Lib.hid (show Str (w11.setCell ⟨Xp, 0, none⟩ (.slice ap (L1).length cp)) (w3.heap.size) 25 #[.slice ao G.length co, .int .i64 F] from So.out.other (Ne.symm hNo.out) _ _)
  have Tl := Lib.hid (show Own 3 (w11.setCell ⟨Xp, 0, none⟩ (.slice ap (L1).length cp)) w.heap.size (.slice ax l.length cx) (l) from Tl.out.set_other hMl.out 0 _)
  have Tx := Lib.hid (show Txs (w11.setCell ⟨Xp, 0, none⟩ (.slice ap (L1).length cp)) (xs) (.slice av xs.length cv) fx from Rd.grown (grownBy_set w11 Xp 0 _) Tx.out (fun r e => by cases e; exact hMx.out))
  have To := Lib.hid (show Own 3 (w11.setCell ⟨Xp, 0, none⟩ (.slice ap (L1).length cp)) w.heap.size (.slice ao (G).length co) (G) from To.out.set_other hMo.out 0 _)
  have Tob := Lib.hid (show OwnB 4 (w11.setCell ⟨Xp, 0, none⟩ (.slice ap (L1).length cp)) w.heap.size (.slice bbo (Ko).length bco) (Ko) from Tob.out.set_other hMob.out 0 _)
  have Tkb := Lib.hid (show OwnB 4 (w11.setCell ⟨Xp, 0, none⟩ (.slice ap (L1).length cp)) w.heap.size (.slice bbk (Ko).length bck) (Ko) from Tkb.out.set_other hMkb.out 0 _)
  have Tt := Lib.hid (show Txs (w11.setCell ⟨Xp, 0, none⟩ (.slice ap (L1).length cp)) (P) (.slice av P.length cv) fq from Rd.grown (grownBy_set w11 Xp 0 _) Tt.out (fun r e => by cases e; exact hMt.out))
  have Td := Lib.hid (show Txs (w11.setCell ⟨Xp, 0, none⟩ (.slice ap (L1).length cp)) (D) (.slice ad D.length ac) fr from Rd.grown (grownBy_set w11 Xp 0 _) Td.out (fun r e => by cases e; exact hMd.out))
  have Tp := Lib.hid (show Own 3 (w11.setCell ⟨Xp, 0, none⟩ (.slice ap (L1).length cp)) w.heap.size (.slice ap (L1).length cp) (L1) from Tp.out.set_other hMp.out 0 _)
  have Tpb := Lib.hid (show OwnB 4 (w11.setCell ⟨Xp, 0, none⟩ (.slice ap (L1).length cp)) w.heap.size (.slice bbp (A1).length bcp) (A1) from Tpb.out.set_other hMpb.out 0 _)
  have SN := Lib.hid (show Str (w11.setCell ⟨Xp, 0, none⟩ (.slice ap (L1).length cp)) (Xp) 25 #[.slice ap (L1).length cp, .int .i64 0] from SN.out.set 0 _)
  have Hb := Lib.hid (Hb.out.setCell (p := ⟨Xp, 0, none⟩) hlo.out (.slice ap (L1).length cp))
  have Sl := Lib.hid (show Str ((w11.setCell ⟨Xp, 0, none⟩ (.slice ap (L1).length cp)).setCell ⟨Xp, 1, none⟩ (.int .i64 (F1))) (w1.heap.size) 25 #[.slice ax l.length cx, .int .i64 n] from Sl.out.other (Ne.symm hNl.out) _ _)
  have So := Lib.hid (show Str ((w11.setCell ⟨Xp, 0, none⟩ (.slice ap (L1).length cp)).setCell ⟨Xp, 1, none⟩ (.int .i64 (F1))) (w3.heap.size) 25 #[.slice ao G.length co, .int .i64 F] from So.out.other (Ne.symm hNo.out) _ _)
  have Tl := Lib.hid (show Own 3 ((w11.setCell ⟨Xp, 0, none⟩ (.slice ap (L1).length cp)).setCell ⟨Xp, 1, none⟩ (.int .i64 (F1))) w.heap.size (.slice ax l.length cx) (l) from Tl.out.set_other hMl.out 1 _)
  have Tx := Lib.hid (show Txs ((w11.setCell ⟨Xp, 0, none⟩ (.slice ap (L1).length cp)).setCell ⟨Xp, 1, none⟩ (.int .i64 (F1))) (xs) (.slice av xs.length cv) fx from Rd.grown (grownBy_set (w11.setCell ⟨Xp, 0, none⟩ (.slice ap (L1).length cp)) Xp 1 _) Tx.out (fun r e => by cases e; exact hMx.out))
  have To := Lib.hid (show Own 3 ((w11.setCell ⟨Xp, 0, none⟩ (.slice ap (L1).length cp)).setCell ⟨Xp, 1, none⟩ (.int .i64 (F1))) w.heap.size (.slice ao (G).length co) (G) from To.out.set_other hMo.out 1 _)
  have Tob := Lib.hid (show OwnB 4 ((w11.setCell ⟨Xp, 0, none⟩ (.slice ap (L1).length cp)).setCell ⟨Xp, 1, none⟩ (.int .i64 (F1))) w.heap.size (.slice bbo (Ko).length bco) (Ko) from Tob.out.set_other hMob.out 1 _)
  have Tkb := Lib.hid (show OwnB 4 ((w11.setCell ⟨Xp, 0, none⟩ (.slice ap (L1).length cp)).setCell ⟨Xp, 1, none⟩ (.int .i64 (F1))) w.heap.size (.slice bbk (Ko).length bck) (Ko) from Tkb.out.set_other hMkb.out 1 _)
  have Tt := Lib.hid (show Txs ((w11.setCell ⟨Xp, 0, none⟩ (.slice ap (L1).length cp)).setCell ⟨Xp, 1, none⟩ (.int .i64 (F1))) (P) (.slice av P.length cv) fq from Rd.grown (grownBy_set (w11.setCell ⟨Xp, 0, none⟩ (.slice ap (L1).length cp)) Xp 1 _) Tt.out (fun r e => by cases e; exact hMt.out))
  have Td := Lib.hid (show Txs ((w11.setCell ⟨Xp, 0, none⟩ (.slice ap (L1).length cp)).setCell ⟨Xp, 1, none⟩ (.int .i64 (F1))) (D) (.slice ad D.length ac) fr from Rd.grown (grownBy_set (w11.setCell ⟨Xp, 0, none⟩ (.slice ap (L1).length cp)) Xp 1 _) Td.out (fun r e => by cases e; exact hMd.out))
  have Tp := Lib.hid (show Own 3 ((w11.setCell ⟨Xp, 0, none⟩ (.slice ap (L1).length cp)).setCell ⟨Xp, 1, none⟩ (.int .i64 (F1))) w.heap.size (.slice ap (L1).length cp) (L1) from Tp.out.set_other hMp.out 1 _)
  have Tpb := Lib.hid (show OwnB 4 ((w11.setCell ⟨Xp, 0, none⟩ (.slice ap (L1).length cp)).setCell ⟨Xp, 1, none⟩ (.int .i64 (F1))) w.heap.size (.slice bbp (A1).length bcp) (A1) from Tpb.out.set_other hMpb.out 1 _)
  have SN := Lib.hid (show Str ((w11.setCell ⟨Xp, 0, none⟩ (.slice ap (L1).length cp)).setCell ⟨Xp, 1, none⟩ (.int .i64 (F1))) (Xp) 25 #[.slice ap (L1).length cp, .int .i64 (F1)] from SN.out.set 1 _)
  have Hb := Lib.hid (Hb.out.setCell (p := ⟨Xp, 1, none⟩) hlo.out (.int .i64 (F1)))
  refine hK.out _ _ ⟨Sl.out.cell 0 (v := .slice ax l.length cx) rfl, Sl.out.cell 1 (v := .int .i64 n) rfl⟩ (fun hH => ?_)
  clear hK K
  try simp only [Act.put, List.setIfInBounds_toArray, List.set_cons_zero, List.set_cons_succ]
  generalize ((w11.setCell ⟨Xp, 0, none⟩ (.slice ap (L1).length cp)).setCell ⟨Xp, 1, none⟩ (.int .i64 (F1))) = w12 at *
  refine callH 10 rfl (by kernel_rfl) rfl (fun K hK => ?_)
  go_simp
  refine hK.out _ _ ⟨Sl.out.cell 0 (v := .slice ax l.length cx) rfl, Sl.out.cell 1 (v := .int .i64 n) rfl⟩ (fun hH => ?_)
  clear hK K
  try simp only [Act.put, List.setIfInBounds_toArray, List.set_cons_zero, List.set_cons_succ]
  refine wpAnyH_done (by kernel_rfl) ?_ _
  try simp only [Act.put]
  clear hH hlo hxl hNl hNo hMl hMx hMo hMob hMkb hMt hMd hMp hMpb
  have Sp := SN; clear SN
  by_cases hF5 : 5850 < F1
  case pos =>
    have hd5 : decide (5850 < F1) = true := decide_eq_true hF5
    have cp_0 := Sp.out.cell 0 (v := .slice ap (L1).length cp) rfl
    have cp_1 := Sp.out.cell 1 (v := .int .i64 (F1)) rfl
    go_wp2
    go_ret
    exact ⟨rfl, Hb.out⟩
  have hd5 : decide (5850 < F1) = false := decide_eq_false hF5
  have HI3 := Lib.hid (HI2.out (by omega))
  have cp_0 := Sp.out.cell 0 (v := .slice ap (L1).length cp) rfl
  have cp_1 := Sp.out.cell 1 (v := .int .i64 (F1)) rfl
  go_wp2_with fail
  have hdr : Below w12.heap.size w12 w12.drew := (Below.refl _ _).drew
  clear cp_0 cp_1
  have Tl := Lib.hid (show Own 3 w12.drew w.heap.size (.slice ax l.length cx) (l) from Tl.out.below hdr)
  have Tx := Lib.hid (show Txs w12.drew (xs) (.slice av xs.length cv) fx from Tx.out.under hdr)
  have To := Lib.hid (show Own 3 w12.drew w.heap.size (.slice ao (G).length co) (G) from To.out.below hdr)
  have Tob := Lib.hid (show OwnB 4 w12.drew w.heap.size (.slice bbo (Ko).length bco) (Ko) from Tob.out.below hdr)
  have Tkb := Lib.hid (show OwnB 4 w12.drew w.heap.size (.slice bbk (Ko).length bck) (Ko) from Tkb.out.below hdr)
  have Tt := Lib.hid (show Txs w12.drew (P) (.slice av P.length cv) fq from Tt.out.under hdr)
  have Td := Lib.hid (show Txs w12.drew (D) (.slice ad D.length ac) fr from Td.out.under hdr)
  have Tp := Lib.hid (show Own 3 w12.drew w.heap.size (.slice ap (L1).length cp) (L1) from Tp.out.below hdr)
  have Tpb := Lib.hid (show OwnB 4 w12.drew w.heap.size (.slice bbp (A1).length bcp) (A1) from Tpb.out.below hdr)
  have Sl := Lib.hid (show Str w12.drew (w1.heap.size) 25 #[.slice ax l.length cx, .int .i64 n] from (hdr.block _ Sl.out.lt).trans Sl.out)
  have So := Lib.hid (show Str w12.drew (w3.heap.size) 25 #[.slice ao G.length co, .int .i64 F] from (hdr.block _ So.out.lt).trans So.out)
  have Sp := Lib.hid (show Str w12.drew (Xp) 25 #[.slice ap (L1).length cp, .int .i64 (F1)] from (hdr.block _ Sp.out.lt).trans Sp.out)
  have Hb := Lib.hid (below_step Hb.out Hb.out.size hdr)
  refine wp_region_held_drew (S := fun W' => W'.cell? ⟨Xp, 0, none⟩ = some (.slice ap (L1).length cp) ∧ W'.cell? ⟨Xp, 1, none⟩ = some (.int .i64 (F1))) (by kernel_rfl) ⟨Sp.out.cell 0 (v := .slice ap (L1).length cp) rfl, Sp.out.cell 1 (v := .int .i64 (F1)) rfl⟩ (fun hH => ?_)
  clear hdr
  generalize w12.drew = w13 at *
  refine takeH 0 (v := ?vrb2x1) rfl (by kernel_rfl) (by kernel_rfl) (by kernel_rfl) (fun _ _ _ h => h) hH rfl ?yrb2x1 ?rrb2x1
  case yrb2x1 => intro W hSw; go_simp; try with_reducible rfl
  try simp only [Act.put, List.setIfInBounds_toArray, List.set_cons_zero, List.set_cons_succ]
  refine takeH 1 (v := ?vrb2x2) rfl (by kernel_rfl) (by kernel_rfl) (by kernel_rfl) (fun _ _ _ h => h) hH rfl ?yrb2x2 ?rrb2x2
  case yrb2x2 => intro W hSw; go_simp; try with_reducible rfl
  try simp only [Act.put, List.setIfInBounds_toArray, List.set_cons_zero, List.set_cons_succ]
  refine takeH 2 (v := ?vrb2x3) rfl (by kernel_rfl) (by kernel_rfl) (by kernel_rfl) (fun _ _ _ h => h) hH rfl ?yrb2x3 ?rrb2x3
  case yrb2x3 => intro W hSw; go_simp; try with_reducible rfl
  try simp only [Act.put, List.setIfInBounds_toArray, List.set_cons_zero, List.set_cons_succ]
  refine takeH 3 (v := .slice ad D.length ac) rfl (by kernel_rfl) (by kernel_rfl) (by kernel_rfl) (fun _ _ _ h => h) hH rfl ?yrb2x4 ?rrb2x4
  case yrb2x4 => intro W hSw; have hr := HS2.out W; go_simp
  try simp only [Act.put, List.setIfInBounds_toArray, List.set_cons_zero, List.set_cons_succ]
  refine twoH 4 8 rfl rfl (by kernel_rfl) rfl rfl (fun K hK => ?_) (fun K hK => ?_)
  rotate_left
  · skip
    go_simp
    have hNl := Lib.hid (show w13.heap.size ≠ w1.heap.size from by have := Sl.out.lt; omega)
    have hNo := Lib.hid (show w13.heap.size ≠ w3.heap.size from by have := So.out.lt; omega)
    have hNp := Lib.hid (show w13.heap.size ≠ Xp from by have := Sp.out.lt; omega)
    have hMl := Lib.hid (show (.slice ax l.length cx : Value).ownBlock ≠ some w13.heap.size from fun e => by have := (Tl.out.lt _ e).2; omega)
    have hMx := Lib.hid (show w13.heap.size ∉ fx from fun hm => by have := Rd.lt Tx.out _ hm; omega)
    have hMo := Lib.hid (show (.slice ao (G).length co : Value).ownBlock ≠ some w13.heap.size from fun e => by have := (To.out.lt _ e).2; omega)
    have hMob := Lib.hid (show (.slice bbo (Ko).length bco : Value).ownBlock ≠ some w13.heap.size from fun e => by have := (Tob.out.lt _ e).2; omega)
    have hMkb := Lib.hid (show (.slice bbk (Ko).length bck : Value).ownBlock ≠ some w13.heap.size from fun e => by have := (Tkb.out.lt _ e).2; omega)
    have hMt := Lib.hid (show w13.heap.size ∉ fq from fun hm => by have := Rd.lt Tt.out _ hm; omega)
    have hMd := Lib.hid (show w13.heap.size ∉ fr from fun hm => by have := Rd.lt Td.out _ hm; omega)
    have hMp := Lib.hid (show (.slice ap (L1).length cp : Value).ownBlock ≠ some w13.heap.size from fun e => by have := (Tp.out.lt _ e).2; omega)
    have hMpb := Lib.hid (show (.slice bbp (A1).length bcp : Value).ownBlock ≠ some w13.heap.size from fun e => by have := (Tpb.out.lt _ e).2; omega)
    have hlo := Lib.hid (show w.heap.size ≤ w13.heap.size from Hb.out.size)
    have hal : Below w13.heap.size w13 (w13.alloc (.cells #[.slice none 0 0, .int .i64 0] 25)) := (Below.refl _ _).alloc (Nat.le_refl _) _
    have Tl := Lib.hid (show Own 3 (w13.alloc (.cells #[.slice none 0 0, .int .i64 0] 25)) w.heap.size (.slice ax l.length cx) (l) from Tl.out.below hal)
    have Tx := Lib.hid (show Txs (w13.alloc (.cells #[.slice none 0 0, .int .i64 0] 25)) (xs) (.slice av xs.length cv) fx from Tx.out.under hal)
    have To := Lib.hid (show Own 3 (w13.alloc (.cells #[.slice none 0 0, .int .i64 0] 25)) w.heap.size (.slice ao (G).length co) (G) from To.out.below hal)
    have Tob := Lib.hid (show OwnB 4 (w13.alloc (.cells #[.slice none 0 0, .int .i64 0] 25)) w.heap.size (.slice bbo (Ko).length bco) (Ko) from Tob.out.below hal)
    have Tkb := Lib.hid (show OwnB 4 (w13.alloc (.cells #[.slice none 0 0, .int .i64 0] 25)) w.heap.size (.slice bbk (Ko).length bck) (Ko) from Tkb.out.below hal)
    have Tt := Lib.hid (show Txs (w13.alloc (.cells #[.slice none 0 0, .int .i64 0] 25)) (P) (.slice av P.length cv) fq from Tt.out.under hal)
    have Td := Lib.hid (show Txs (w13.alloc (.cells #[.slice none 0 0, .int .i64 0] 25)) (D) (.slice ad D.length ac) fr from Td.out.under hal)
    have Tp := Lib.hid (show Own 3 (w13.alloc (.cells #[.slice none 0 0, .int .i64 0] 25)) w.heap.size (.slice ap (L1).length cp) (L1) from Tp.out.below hal)
    have Tpb := Lib.hid (show OwnB 4 (w13.alloc (.cells #[.slice none 0 0, .int .i64 0] 25)) w.heap.size (.slice bbp (A1).length bcp) (A1) from Tpb.out.below hal)
    have Sl := Lib.hid (show Str (w13.alloc (.cells #[.slice none 0 0, .int .i64 0] 25)) (w1.heap.size) 25 #[.slice ax l.length cx, .int .i64 n] from Sl.out.alloc _)
    have So := Lib.hid (show Str (w13.alloc (.cells #[.slice none 0 0, .int .i64 0] 25)) (w3.heap.size) 25 #[.slice ao G.length co, .int .i64 F] from So.out.alloc _)
    have Sp := Lib.hid (show Str (w13.alloc (.cells #[.slice none 0 0, .int .i64 0] 25)) (Xp) 25 #[.slice ap (L1).length cp, .int .i64 (F1)] from Sp.out.alloc _)
    have SN := Lib.hid (Str.new w13 25 #[.slice none 0 0, .int .i64 0])
    have Hb := Lib.hid (below_step Hb.out Hb.out.size hal)
    clear hal
    have hxl := SN.out.lt
    generalize (w13.alloc (.cells #[.slice none 0 0, .int .i64 0] 25)) = w14 at *
    generalize w13.heap.size = Xy at *
    refine hK.out _ _ ⟨Sp.out.cell 0 (v := .slice ap (L1).length cp) rfl, Sp.out.cell 1 (v := .int .i64 (F1)) rfl⟩ (fun hH => ?_)
    clear hK K
    try simp only [Act.put, List.setIfInBounds_toArray, List.set_cons_zero, List.set_cons_succ]
    refine callH 4 rfl (by kernel_rfl) rfl (fun K hK => ?_)
    go_simp
    refine (HI3.out _ _ _ Tp.out.at Td.out).mono ?_
    rintro e1 w15 ⟨v, u, rfl, ho, hk, hb⟩
    have hwb := Hb.out.size
    obtain ⟨ay, cy, rfl, _, _⟩ := ho.ints
    obtain ⟨bby, bcy, rfl, _⟩ := hk.slice
    have ho' := Lib.hid (ho.mono (show w.heap.size ≤ _ by omega)); have hk' := Lib.hid (hk.mono (show w.heap.size ≤ _ by omega))
    have hMy := Lib.hid (show (.slice ay (G).length cy : Value).ownBlock ≠ some Xy from fun e => by have := (ho.lt _ e).1; omega)
    have hMyb := Lib.hid (show (.slice bby (A2).length bcy : Value).ownBlock ≠ some Xy from fun e => by have := (hk.lt _ e).1; omega)
    clear ho hk
    have Tl := Lib.hid (show Own 3 w15 w.heap.size (.slice ax l.length cx) (l) from Tl.out.below hb)
    have Tx := Lib.hid (show Txs w15 (xs) (.slice av xs.length cv) fx from Tx.out.under hb)
    have To := Lib.hid (show Own 3 w15 w.heap.size (.slice ao (G).length co) (G) from To.out.below hb)
    have Tob := Lib.hid (show OwnB 4 w15 w.heap.size (.slice bbo (Ko).length bco) (Ko) from Tob.out.below hb)
    have Tkb := Lib.hid (show OwnB 4 w15 w.heap.size (.slice bbk (Ko).length bck) (Ko) from Tkb.out.below hb)
    have Tt := Lib.hid (show Txs w15 (P) (.slice av P.length cv) fq from Tt.out.under hb)
    have Td := Lib.hid (show Txs w15 (D) (.slice ad D.length ac) fr from Td.out.under hb)
    have Tp := Lib.hid (show Own 3 w15 w.heap.size (.slice ap (L1).length cp) (L1) from Tp.out.below hb)
    have Tpb := Lib.hid (show OwnB 4 w15 w.heap.size (.slice bbp (A1).length bcp) (A1) from Tpb.out.below hb)
    have Sl := Lib.hid (show Str w15 (w1.heap.size) 25 #[.slice ax l.length cx, .int .i64 n] from (hb.block _ Sl.out.lt).trans Sl.out)
    have So := Lib.hid (show Str w15 (w3.heap.size) 25 #[.slice ao G.length co, .int .i64 F] from (hb.block _ So.out.lt).trans So.out)
    have Sp := Lib.hid (show Str w15 (Xp) 25 #[.slice ap (L1).length cp, .int .i64 (F1)] from (hb.block _ Sp.out.lt).trans Sp.out)
    have SN := Lib.hid (show Str w15 (Xy) 25 #[.slice none 0 0, .int .i64 0] from (hb.block _ SN.out.lt).trans SN.out)
    have hsw15 := hb.size
    have Hb := Lib.hid (below_step Hb.out Hb.out.size hb)
    have Ty := Lib.hid (show Own 3 w15 w.heap.size (.slice ay (G).length cy) (G) from ho'.out)
    have Tyb := Lib.hid (show OwnB 4 w15 w.heap.size (.slice bby (A2).length bcy) (A2) from hk'.out)
    clear ho' hk' hb hwb
    refine hK.out _ _ ⟨Sp.out.cell 0 (v := .slice ap (L1).length cp) rfl, Sp.out.cell 1 (v := .int .i64 (F1)) rfl⟩ (fun hH => ?_)
    clear hK K
    try simp only [Act.put, List.setIfInBounds_toArray, List.set_cons_zero, List.set_cons_succ]
    refine takeH 5 (v := ?vrb2x5) rfl (by kernel_rfl) (by kernel_rfl) (by kernel_rfl) (fun _ _ _ h => h) hH rfl ?yrb2x5 ?rrb2x5
    case yrb2x5 => intro W hSw; go_simp; try with_reducible rfl
    try simp only [Act.put, List.setIfInBounds_toArray, List.set_cons_zero, List.set_cons_succ]
    refine takeH 6 (v := ?vrb2x6) rfl (by kernel_rfl) (by kernel_rfl) (by kernel_rfl) (fun _ _ _ h => h) hH rfl ?yrb2x6 ?rrb2x6
    case yrb2x6 => intro W hSw; go_simp; try with_reducible rfl
    try simp only [Act.put, List.setIfInBounds_toArray, List.set_cons_zero, List.set_cons_succ]
    refine takeH 7 (v := ?vrb2x7) rfl (by kernel_rfl) (by kernel_rfl) (by kernel_rfl) (fun _ _ _ h => h) hH rfl ?yrb2x7 ?rrb2x7
    case yrb2x7 => intro W hSw; go_simp; try with_reducible rfl
    try simp only [Act.put, List.setIfInBounds_toArray, List.set_cons_zero, List.set_cons_succ]
    refine callH 9 rfl (by kernel_rfl) rfl (fun K hK => ?_)
    have y0 := SN.out.frozen 0
    have y1 := SN.out.frozen 1
    have v0 := SN.out.cell 0 (v := .slice none 0 0) rfl
    have v1 := SN.out.cell 1 (v := .int .i64 0) rfl
    go_simp
    clear y0 y1 v0 v1
    have Sl := Lib.hid (show Str (w15.setCell ⟨Xy, 0, none⟩ (.slice ay (G).length cy)) (w1.heap.size) 25 #[.slice ax l.length cx, .int .i64 n] from Sl.out.other (Ne.symm hNl.out) _ _)
    have So := Lib.hid (show Str (w15.setCell ⟨Xy, 0, none⟩ (.slice ay (G).length cy)) (w3.heap.size) 25 #[.slice ao G.length co, .int .i64 F] from So.out.other (Ne.symm hNo.out) _ _)
    have Sp := Lib.hid (show Str (w15.setCell ⟨Xy, 0, none⟩ (.slice ay (G).length cy)) (Xp) 25 #[.slice ap (L1).length cp, .int .i64 (F1)] from Sp.out.other (Ne.symm hNp.out) _ _)
    have Tl := Lib.hid (show Own 3 (w15.setCell ⟨Xy, 0, none⟩ (.slice ay (G).length cy)) w.heap.size (.slice ax l.length cx) (l) from Tl.out.set_other hMl.out 0 _)
    have Tx := Lib.hid (show Txs (w15.setCell ⟨Xy, 0, none⟩ (.slice ay (G).length cy)) (xs) (.slice av xs.length cv) fx from Rd.grown (grownBy_set w15 Xy 0 _) Tx.out (fun r e => by cases e; exact hMx.out))
    have To := Lib.hid (show Own 3 (w15.setCell ⟨Xy, 0, none⟩ (.slice ay (G).length cy)) w.heap.size (.slice ao (G).length co) (G) from To.out.set_other hMo.out 0 _)
    have Tob := Lib.hid (show OwnB 4 (w15.setCell ⟨Xy, 0, none⟩ (.slice ay (G).length cy)) w.heap.size (.slice bbo (Ko).length bco) (Ko) from Tob.out.set_other hMob.out 0 _)
    have Tkb := Lib.hid (show OwnB 4 (w15.setCell ⟨Xy, 0, none⟩ (.slice ay (G).length cy)) w.heap.size (.slice bbk (Ko).length bck) (Ko) from Tkb.out.set_other hMkb.out 0 _)
    have Tt := Lib.hid (show Txs (w15.setCell ⟨Xy, 0, none⟩ (.slice ay (G).length cy)) (P) (.slice av P.length cv) fq from Rd.grown (grownBy_set w15 Xy 0 _) Tt.out (fun r e => by cases e; exact hMt.out))
    have Td := Lib.hid (show Txs (w15.setCell ⟨Xy, 0, none⟩ (.slice ay (G).length cy)) (D) (.slice ad D.length ac) fr from Rd.grown (grownBy_set w15 Xy 0 _) Td.out (fun r e => by cases e; exact hMd.out))
    have Tp := Lib.hid (show Own 3 (w15.setCell ⟨Xy, 0, none⟩ (.slice ay (G).length cy)) w.heap.size (.slice ap (L1).length cp) (L1) from Tp.out.set_other hMp.out 0 _)
    have Tpb := Lib.hid (show OwnB 4 (w15.setCell ⟨Xy, 0, none⟩ (.slice ay (G).length cy)) w.heap.size (.slice bbp (A1).length bcp) (A1) from Tpb.out.set_other hMpb.out 0 _)
    have Ty := Lib.hid (show Own 3 (w15.setCell ⟨Xy, 0, none⟩ (.slice ay (G).length cy)) w.heap.size (.slice ay (G).length cy) (G) from Ty.out.set_other hMy.out 0 _)
    have Tyb := Lib.hid (show OwnB 4 (w15.setCell ⟨Xy, 0, none⟩ (.slice ay (G).length cy)) w.heap.size (.slice bby (A2).length bcy) (A2) from Tyb.out.set_other hMyb.out 0 _)
    have SN := Lib.hid (show Str (w15.setCell ⟨Xy, 0, none⟩ (.slice ay (G).length cy)) (Xy) 25 #[.slice ay (G).length cy, .int .i64 0] from SN.out.set 0 _)
    have Hb := Lib.hid (Hb.out.setCell (p := ⟨Xy, 0, none⟩) hlo.out (.slice ay (G).length cy))
    have Sl := Lib.hid (show Str ((w15.setCell ⟨Xy, 0, none⟩ (.slice ay (G).length cy)).setCell ⟨Xy, 1, none⟩ (.int .i64 (F))) (w1.heap.size) 25 #[.slice ax l.length cx, .int .i64 n] from Sl.out.other (Ne.symm hNl.out) _ _)
    have So := Lib.hid (show Str ((w15.setCell ⟨Xy, 0, none⟩ (.slice ay (G).length cy)).setCell ⟨Xy, 1, none⟩ (.int .i64 (F))) (w3.heap.size) 25 #[.slice ao G.length co, .int .i64 F] from So.out.other (Ne.symm hNo.out) _ _)
    have Sp := Lib.hid (show Str ((w15.setCell ⟨Xy, 0, none⟩ (.slice ay (G).length cy)).setCell ⟨Xy, 1, none⟩ (.int .i64 (F))) (Xp) 25 #[.slice ap (L1).length cp, .int .i64 (F1)] from Sp.out.other (Ne.symm hNp.out) _ _)
    have Tl := Lib.hid (show Own 3 ((w15.setCell ⟨Xy, 0, none⟩ (.slice ay (G).length cy)).setCell ⟨Xy, 1, none⟩ (.int .i64 (F))) w.heap.size (.slice ax l.length cx) (l) from Tl.out.set_other hMl.out 1 _)
    have Tx := Lib.hid (show Txs ((w15.setCell ⟨Xy, 0, none⟩ (.slice ay (G).length cy)).setCell ⟨Xy, 1, none⟩ (.int .i64 (F))) (xs) (.slice av xs.length cv) fx from Rd.grown (grownBy_set (w15.setCell ⟨Xy, 0, none⟩ (.slice ay (G).length cy)) Xy 1 _) Tx.out (fun r e => by cases e; exact hMx.out))
    have To := Lib.hid (show Own 3 ((w15.setCell ⟨Xy, 0, none⟩ (.slice ay (G).length cy)).setCell ⟨Xy, 1, none⟩ (.int .i64 (F))) w.heap.size (.slice ao (G).length co) (G) from To.out.set_other hMo.out 1 _)
    have Tob := Lib.hid (show OwnB 4 ((w15.setCell ⟨Xy, 0, none⟩ (.slice ay (G).length cy)).setCell ⟨Xy, 1, none⟩ (.int .i64 (F))) w.heap.size (.slice bbo (Ko).length bco) (Ko) from Tob.out.set_other hMob.out 1 _)
    have Tkb := Lib.hid (show OwnB 4 ((w15.setCell ⟨Xy, 0, none⟩ (.slice ay (G).length cy)).setCell ⟨Xy, 1, none⟩ (.int .i64 (F))) w.heap.size (.slice bbk (Ko).length bck) (Ko) from Tkb.out.set_other hMkb.out 1 _)
    have Tt := Lib.hid (show Txs ((w15.setCell ⟨Xy, 0, none⟩ (.slice ay (G).length cy)).setCell ⟨Xy, 1, none⟩ (.int .i64 (F))) (P) (.slice av P.length cv) fq from Rd.grown (grownBy_set (w15.setCell ⟨Xy, 0, none⟩ (.slice ay (G).length cy)) Xy 1 _) Tt.out (fun r e => by cases e; exact hMt.out))
    have Td := Lib.hid (show Txs ((w15.setCell ⟨Xy, 0, none⟩ (.slice ay (G).length cy)).setCell ⟨Xy, 1, none⟩ (.int .i64 (F))) (D) (.slice ad D.length ac) fr from Rd.grown (grownBy_set (w15.setCell ⟨Xy, 0, none⟩ (.slice ay (G).length cy)) Xy 1 _) Td.out (fun r e => by cases e; exact hMd.out))
    have Tp := Lib.hid (show Own 3 ((w15.setCell ⟨Xy, 0, none⟩ (.slice ay (G).length cy)).setCell ⟨Xy, 1, none⟩ (.int .i64 (F))) w.heap.size (.slice ap (L1).length cp) (L1) from Tp.out.set_other hMp.out 1 _)
    have Tpb := Lib.hid (show OwnB 4 ((w15.setCell ⟨Xy, 0, none⟩ (.slice ay (G).length cy)).setCell ⟨Xy, 1, none⟩ (.int .i64 (F))) w.heap.size (.slice bbp (A1).length bcp) (A1) from Tpb.out.set_other hMpb.out 1 _)
    have Ty := Lib.hid (show Own 3 ((w15.setCell ⟨Xy, 0, none⟩ (.slice ay (G).length cy)).setCell ⟨Xy, 1, none⟩ (.int .i64 (F))) w.heap.size (.slice ay (G).length cy) (G) from Ty.out.set_other hMy.out 1 _)
    have Tyb := Lib.hid (show OwnB 4 ((w15.setCell ⟨Xy, 0, none⟩ (.slice ay (G).length cy)).setCell ⟨Xy, 1, none⟩ (.int .i64 (F))) w.heap.size (.slice bby (A2).length bcy) (A2) from Tyb.out.set_other hMyb.out 1 _)
    have SN := Lib.hid (show Str ((w15.setCell ⟨Xy, 0, none⟩ (.slice ay (G).length cy)).setCell ⟨Xy, 1, none⟩ (.int .i64 (F))) (Xy) 25 #[.slice ay (G).length cy, .int .i64 (F)] from SN.out.set 1 _)
    have Hb := Lib.hid (Hb.out.setCell (p := ⟨Xy, 1, none⟩) hlo.out (.int .i64 (F)))
    refine hK.out _ _ ⟨Sp.out.cell 0 (v := .slice ap (L1).length cp) rfl, Sp.out.cell 1 (v := .int .i64 (F1)) rfl⟩ (fun hH => ?_)
    clear hK K
    try simp only [Act.put, List.setIfInBounds_toArray, List.set_cons_zero, List.set_cons_succ]
    generalize ((w15.setCell ⟨Xy, 0, none⟩ (.slice ay (G).length cy)).setCell ⟨Xy, 1, none⟩ (.int .i64 (F))) = w16 at *
    refine callH 10 rfl (by kernel_rfl) rfl (fun K hK => ?_)
    go_simp
    refine hK.out _ _ ⟨Sp.out.cell 0 (v := .slice ap (L1).length cp) rfl, Sp.out.cell 1 (v := .int .i64 (F1)) rfl⟩ (fun hH => ?_)
    clear hK K
    try simp only [Act.put, List.setIfInBounds_toArray, List.set_cons_zero, List.set_cons_succ]
    refine wpAnyH_done (by kernel_rfl) ?_ _
    try simp only [Act.put]
    clear hH hlo hxl hNl hNo hNp hMl hMx hMo hMob hMkb hMt hMd hMp hMpb hMy hMyb
    have Sy := SN; clear SN
    have cl_0 := Sl.out.cell 0 (v := .slice ax l.length cx) rfl
    have cl_1 := Sl.out.cell 1 (v := .int .i64 n) rfl
    have co_0 := So.out.cell 0 (v := .slice ao G.length co) rfl
    have co_1 := So.out.cell 1 (v := .int .i64 F) rfl
    have cp_0 := Sp.out.cell 0 (v := .slice ap (L1).length cp) rfl
    have cp_1 := Sp.out.cell 1 (v := .int .i64 (F1)) rfl
    have cy_0 := Sy.out.cell 0 (v := .slice ay (G).length cy) rfl
    have cy_1 := Sy.out.cell 1 (v := .int .i64 (F)) rfl
    go_wp2_with fail
    clear cl_0 cl_1 co_0 co_1 cp_0 cp_1 cy_0 cy_1
    refine (laws_sameLedger _ _ _ _ (G) (F) _ (by omega) Ty.out.at To.out.at).mono ?_
    rintro e w17 ⟨rfl, hb⟩
    have Tl := Lib.hid (show Own 3 w17 w.heap.size (.slice ax l.length cx) (l) from Tl.out.below hb)
    have Tx := Lib.hid (show Txs w17 (xs) (.slice av xs.length cv) fx from Tx.out.under hb)
    have To := Lib.hid (show Own 3 w17 w.heap.size (.slice ao (G).length co) (G) from To.out.below hb)
    have Tob := Lib.hid (show OwnB 4 w17 w.heap.size (.slice bbo (Ko).length bco) (Ko) from Tob.out.below hb)
    have Tkb := Lib.hid (show OwnB 4 w17 w.heap.size (.slice bbk (Ko).length bck) (Ko) from Tkb.out.below hb)
    have Tt := Lib.hid (show Txs w17 (P) (.slice av P.length cv) fq from Tt.out.under hb)
    have Td := Lib.hid (show Txs w17 (D) (.slice ad D.length ac) fr from Td.out.under hb)
    have Tp := Lib.hid (show Own 3 w17 w.heap.size (.slice ap (L1).length cp) (L1) from Tp.out.below hb)
    have Tpb := Lib.hid (show OwnB 4 w17 w.heap.size (.slice bbp (A1).length bcp) (A1) from Tpb.out.below hb)
    have Ty := Lib.hid (show Own 3 w17 w.heap.size (.slice ay (G).length cy) (G) from Ty.out.below hb)
    have Tyb := Lib.hid (show OwnB 4 w17 w.heap.size (.slice bby (A2).length bcy) (A2) from Tyb.out.below hb)
    have Sl := Lib.hid (show Str w17 (w1.heap.size) 25 #[.slice ax l.length cx, .int .i64 n] from (hb.block _ Sl.out.lt).trans Sl.out)
    have So := Lib.hid (show Str w17 (w3.heap.size) 25 #[.slice ao G.length co, .int .i64 F] from (hb.block _ So.out.lt).trans So.out)
    have Sp := Lib.hid (show Str w17 (Xp) 25 #[.slice ap (L1).length cp, .int .i64 (F1)] from (hb.block _ Sp.out.lt).trans Sp.out)
    have Sy := Lib.hid (show Str w17 (Xy) 25 #[.slice ay (G).length cy, .int .i64 (F)] from (hb.block _ Sy.out.lt).trans Sy.out)
    have hsw17 := hb.size
    have Hb := Lib.hid (below_step Hb.out Hb.out.size hb)
    clear hb
    have hE : Below w17.heap.size w17 (w17.alloc (.cells #[] 4)) := (Below.refl _ _).alloc (Nat.le_refl _) _
    have hO := ownB_empty 4 w17 (Nat.le_refl _)
    have HE := Lib.hid hE; have HO := Lib.hid hO
    have Hp1 := Lib.hid (Tpb.out.below hE); have Hp2 := Lib.hid (Tyb.out.below hE)
    have hz1 : w17.heap.size ≤ (w17.alloc (.cells #[] 4)).heap.size := hE.size
    clear hE hO
    have hn1 : ([] : List Bool).length + A1.length ≤ 1048577 := by simp; omega
    have hl3 : A1.length + A2.length ≤ 1048577 := by omega
    go_wp2_with (at_builtin; first | (refine wpList_app_b TBo rfl (.tmp 94) (.tmp 95) rfl w17.heap.size w.heap.size (.slice (some ⟨w17.heap.size, 0, none⟩) 0 0) (.slice bbp A1.length bcp) [] A1 rfl HO.out rfl Hp1.out hn1 hz1 ?_; intro v8 w8 ho8 hg8; rw [List.nil_append] at ho8; obtain ⟨b8, c8, rfl, hm8⟩ := ho8.slice; clear hm8; have Hb8 := Lib.hid (HE.out.grown hg8 HE.out.size (fun g e => (HO.out.lt g e).1)); have Ho8 := Lib.hid ho8; clear ho8 hg8; have hs8 : w17.heap.size ≤ w8.heap.size := Hb8.out.size; have Hp2 := Lib.hid (Tyb.out.below Hb8.out)) | (refine wpList_app_b TBo rfl (.tmp 96) (.tmp 97) rfl w17.heap.size w.heap.size (.slice b8 A1.length c8) (.slice bby A2.length bcy) A1 A2 rfl Ho8.out rfl Hp2.out hl3 hs8 ?_; intro v9 w9 ho9 hg9; rw [Hp5.out] at ho9; obtain ⟨b9, c9, rfl, hm9⟩ := ho9.slice; clear hm9; have Hb9 := Lib.hid (Hb8.out.grown hg9 Hb8.out.size (fun g e => (Ho8.out.lt g e).1)); have Ho9 := Lib.hid ho9; clear ho9 hg9))
    have Tl := Lib.hid (show Own 3 w9 w.heap.size (.slice ax l.length cx) (l) from Tl.out.below Hb9.out)
    have Tx := Lib.hid (show Txs w9 (xs) (.slice av xs.length cv) fx from Tx.out.under Hb9.out)
    have To := Lib.hid (show Own 3 w9 w.heap.size (.slice ao (G).length co) (G) from To.out.below Hb9.out)
    have Tob := Lib.hid (show OwnB 4 w9 w.heap.size (.slice bbo (Ko).length bco) (Ko) from Tob.out.below Hb9.out)
    have Tkb := Lib.hid (show OwnB 4 w9 w.heap.size (.slice bbk (Ko).length bck) (Ko) from Tkb.out.below Hb9.out)
    have Tt := Lib.hid (show Txs w9 (P) (.slice av P.length cv) fq from Tt.out.under Hb9.out)
    have Td := Lib.hid (show Txs w9 (D) (.slice ad D.length ac) fr from Td.out.under Hb9.out)
    have Tp := Lib.hid (show Own 3 w9 w.heap.size (.slice ap (L1).length cp) (L1) from Tp.out.below Hb9.out)
    have Tpb := Lib.hid (show OwnB 4 w9 w.heap.size (.slice bbp (A1).length bcp) (A1) from Tpb.out.below Hb9.out)
    have Ty := Lib.hid (show Own 3 w9 w.heap.size (.slice ay (G).length cy) (G) from Ty.out.below Hb9.out)
    have Tyb := Lib.hid (show OwnB 4 w9 w.heap.size (.slice bby (A2).length bcy) (A2) from Tyb.out.below Hb9.out)
    have Sl := Lib.hid (show Str w9 (w1.heap.size) 25 #[.slice ax l.length cx, .int .i64 n] from (Hb9.out.block _ Sl.out.lt).trans Sl.out)
    have So := Lib.hid (show Str w9 (w3.heap.size) 25 #[.slice ao G.length co, .int .i64 F] from (Hb9.out.block _ So.out.lt).trans So.out)
    have Sp := Lib.hid (show Str w9 (Xp) 25 #[.slice ap (L1).length cp, .int .i64 (F1)] from (Hb9.out.block _ Sp.out.lt).trans Sp.out)
    have Sy := Lib.hid (show Str w9 (Xy) 25 #[.slice ay (G).length cy, .int .i64 (F)] from (Hb9.out.block _ Sy.out.lt).trans Sy.out)
    have hsw9 := Hb9.out.size
    have Hb := Lib.hid (below_step Hb.out Hb.out.size Hb9.out)
    refine (laws_sameBools _ _ _ _ Ko _ (by omega) Ho9.out.at Tob.out.at).mono ?_
    rintro e9 wz ⟨rfl, hbz⟩
    have Hb := Lib.hid (below_step Hb.out Hb.out.size hbz)
    clear hbz
    go_wp2
    go_ret
    exact ⟨rfl, Hb.out⟩
  go_simp
  refine (HI3.out _ _ _ Tp.out.at Td.out).mono ?_
  rintro e1 w14 ⟨v, u, rfl, ho, hk, hb⟩
  have hwb := Hb.out.size
  obtain ⟨ay, cy, rfl, _, _⟩ := ho.ints
  obtain ⟨bby, bcy, rfl, _⟩ := hk.slice
  have ho' := Lib.hid (ho.mono (show w.heap.size ≤ _ by omega)); have hk' := Lib.hid (hk.mono (show w.heap.size ≤ _ by omega))
  clear ho hk
  have Tl := Lib.hid (show Own 3 w14 w.heap.size (.slice ax l.length cx) (l) from Tl.out.below hb)
  have Tx := Lib.hid (show Txs w14 (xs) (.slice av xs.length cv) fx from Tx.out.under hb)
  have To := Lib.hid (show Own 3 w14 w.heap.size (.slice ao (G).length co) (G) from To.out.below hb)
  have Tob := Lib.hid (show OwnB 4 w14 w.heap.size (.slice bbo (Ko).length bco) (Ko) from Tob.out.below hb)
  have Tkb := Lib.hid (show OwnB 4 w14 w.heap.size (.slice bbk (Ko).length bck) (Ko) from Tkb.out.below hb)
  have Tt := Lib.hid (show Txs w14 (P) (.slice av P.length cv) fq from Tt.out.under hb)
  have Td := Lib.hid (show Txs w14 (D) (.slice ad D.length ac) fr from Td.out.under hb)
  have Tp := Lib.hid (show Own 3 w14 w.heap.size (.slice ap (L1).length cp) (L1) from Tp.out.below hb)
  have Tpb := Lib.hid (show OwnB 4 w14 w.heap.size (.slice bbp (A1).length bcp) (A1) from Tpb.out.below hb)
  have Sl := Lib.hid (show Str w14 (w1.heap.size) 25 #[.slice ax l.length cx, .int .i64 n] from (hb.block _ Sl.out.lt).trans Sl.out)
  have So := Lib.hid (show Str w14 (w3.heap.size) 25 #[.slice ao G.length co, .int .i64 F] from (hb.block _ So.out.lt).trans So.out)
  have Sp := Lib.hid (show Str w14 (Xp) 25 #[.slice ap (L1).length cp, .int .i64 (F1)] from (hb.block _ Sp.out.lt).trans Sp.out)
  have hsw14 := hb.size
  have Hb := Lib.hid (below_step Hb.out Hb.out.size hb)
  have Ty := Lib.hid (show Own 3 w14 w.heap.size (.slice ay (G).length cy) (G) from ho'.out)
  have Tyb := Lib.hid (show OwnB 4 w14 w.heap.size (.slice bby (A2).length bcy) (A2) from hk'.out)
  clear ho' hk' hb hwb
  refine hK.out _ _ ⟨Sp.out.cell 0 (v := .slice ap (L1).length cp) rfl, Sp.out.cell 1 (v := .int .i64 (F1)) rfl⟩ (fun hH => ?_)
  clear hK K
  try simp only [Act.put, List.setIfInBounds_toArray, List.set_cons_zero, List.set_cons_succ]
  refine takeH 5 (v := ?vrb2x8) rfl (by kernel_rfl) (by kernel_rfl) (by kernel_rfl) (fun _ _ _ h => h) hH rfl ?yrb2x8 ?rrb2x8
  case yrb2x8 => intro W hSw; go_simp; try with_reducible rfl
  try simp only [Act.put, List.setIfInBounds_toArray, List.set_cons_zero, List.set_cons_succ]
  refine takeH 6 (v := ?vrb2x9) rfl (by kernel_rfl) (by kernel_rfl) (by kernel_rfl) (fun _ _ _ h => h) hH rfl ?yrb2x9 ?rrb2x9
  case yrb2x9 => intro W hSw; go_simp; try with_reducible rfl
  try simp only [Act.put, List.setIfInBounds_toArray, List.set_cons_zero, List.set_cons_succ]
  refine takeH 7 (v := ?vrb2x10) rfl (by kernel_rfl) (by kernel_rfl) (by kernel_rfl) (fun _ _ _ h => h) hH rfl ?yrb2x10 ?rrb2x10
  case yrb2x10 => intro W hSw; go_simp; try with_reducible rfl
  try simp only [Act.put, List.setIfInBounds_toArray, List.set_cons_zero, List.set_cons_succ]
  refine callH 8 rfl (by kernel_rfl) rfl (fun K hK => ?_)
  go_simp
  have hNl := Lib.hid (show w14.heap.size ≠ w1.heap.size from by have := Sl.out.lt; omega)
  have hNo := Lib.hid (show w14.heap.size ≠ w3.heap.size from by have := So.out.lt; omega)
  have hNp := Lib.hid (show w14.heap.size ≠ Xp from by have := Sp.out.lt; omega)
  have hMl := Lib.hid (show (.slice ax l.length cx : Value).ownBlock ≠ some w14.heap.size from fun e => by have := (Tl.out.lt _ e).2; omega)
  have hMx := Lib.hid (show w14.heap.size ∉ fx from fun hm => by have := Rd.lt Tx.out _ hm; omega)
  have hMo := Lib.hid (show (.slice ao (G).length co : Value).ownBlock ≠ some w14.heap.size from fun e => by have := (To.out.lt _ e).2; omega)
  have hMob := Lib.hid (show (.slice bbo (Ko).length bco : Value).ownBlock ≠ some w14.heap.size from fun e => by have := (Tob.out.lt _ e).2; omega)
  have hMkb := Lib.hid (show (.slice bbk (Ko).length bck : Value).ownBlock ≠ some w14.heap.size from fun e => by have := (Tkb.out.lt _ e).2; omega)
  have hMt := Lib.hid (show w14.heap.size ∉ fq from fun hm => by have := Rd.lt Tt.out _ hm; omega)
  have hMd := Lib.hid (show w14.heap.size ∉ fr from fun hm => by have := Rd.lt Td.out _ hm; omega)
  have hMp := Lib.hid (show (.slice ap (L1).length cp : Value).ownBlock ≠ some w14.heap.size from fun e => by have := (Tp.out.lt _ e).2; omega)
  have hMpb := Lib.hid (show (.slice bbp (A1).length bcp : Value).ownBlock ≠ some w14.heap.size from fun e => by have := (Tpb.out.lt _ e).2; omega)
  have hMy := Lib.hid (show (.slice ay (G).length cy : Value).ownBlock ≠ some w14.heap.size from fun e => by have := (Ty.out.lt _ e).2; omega)
  have hMyb := Lib.hid (show (.slice bby (A2).length bcy : Value).ownBlock ≠ some w14.heap.size from fun e => by have := (Tyb.out.lt _ e).2; omega)
  have hlo := Lib.hid (show w.heap.size ≤ w14.heap.size from Hb.out.size)
  have hal : Below w14.heap.size w14 (w14.alloc (.cells #[.slice none 0 0, .int .i64 0] 25)) := (Below.refl _ _).alloc (Nat.le_refl _) _
  have Tl := Lib.hid (show Own 3 (w14.alloc (.cells #[.slice none 0 0, .int .i64 0] 25)) w.heap.size (.slice ax l.length cx) (l) from Tl.out.below hal)
  have Tx := Lib.hid (show Txs (w14.alloc (.cells #[.slice none 0 0, .int .i64 0] 25)) (xs) (.slice av xs.length cv) fx from Tx.out.under hal)
  have To := Lib.hid (show Own 3 (w14.alloc (.cells #[.slice none 0 0, .int .i64 0] 25)) w.heap.size (.slice ao (G).length co) (G) from To.out.below hal)
  have Tob := Lib.hid (show OwnB 4 (w14.alloc (.cells #[.slice none 0 0, .int .i64 0] 25)) w.heap.size (.slice bbo (Ko).length bco) (Ko) from Tob.out.below hal)
  have Tkb := Lib.hid (show OwnB 4 (w14.alloc (.cells #[.slice none 0 0, .int .i64 0] 25)) w.heap.size (.slice bbk (Ko).length bck) (Ko) from Tkb.out.below hal)
  have Tt := Lib.hid (show Txs (w14.alloc (.cells #[.slice none 0 0, .int .i64 0] 25)) (P) (.slice av P.length cv) fq from Tt.out.under hal)
  have Td := Lib.hid (show Txs (w14.alloc (.cells #[.slice none 0 0, .int .i64 0] 25)) (D) (.slice ad D.length ac) fr from Td.out.under hal)
  have Tp := Lib.hid (show Own 3 (w14.alloc (.cells #[.slice none 0 0, .int .i64 0] 25)) w.heap.size (.slice ap (L1).length cp) (L1) from Tp.out.below hal)
  have Tpb := Lib.hid (show OwnB 4 (w14.alloc (.cells #[.slice none 0 0, .int .i64 0] 25)) w.heap.size (.slice bbp (A1).length bcp) (A1) from Tpb.out.below hal)
  have Ty := Lib.hid (show Own 3 (w14.alloc (.cells #[.slice none 0 0, .int .i64 0] 25)) w.heap.size (.slice ay (G).length cy) (G) from Ty.out.below hal)
  have Tyb := Lib.hid (show OwnB 4 (w14.alloc (.cells #[.slice none 0 0, .int .i64 0] 25)) w.heap.size (.slice bby (A2).length bcy) (A2) from Tyb.out.below hal)
  have Sl := Lib.hid (show Str (w14.alloc (.cells #[.slice none 0 0, .int .i64 0] 25)) (w1.heap.size) 25 #[.slice ax l.length cx, .int .i64 n] from Sl.out.alloc _)
  have So := Lib.hid (show Str (w14.alloc (.cells #[.slice none 0 0, .int .i64 0] 25)) (w3.heap.size) 25 #[.slice ao G.length co, .int .i64 F] from So.out.alloc _)
  have Sp := Lib.hid (show Str (w14.alloc (.cells #[.slice none 0 0, .int .i64 0] 25)) (Xp) 25 #[.slice ap (L1).length cp, .int .i64 (F1)] from Sp.out.alloc _)
  have SN := Lib.hid (Str.new w14 25 #[.slice none 0 0, .int .i64 0])
  have Hb := Lib.hid (below_step Hb.out Hb.out.size hal)
  clear hal
  have hxl := SN.out.lt
  generalize (w14.alloc (.cells #[.slice none 0 0, .int .i64 0] 25)) = w15 at *
  generalize w14.heap.size = Xy at *
  refine hK.out _ _ ⟨Sp.out.cell 0 (v := .slice ap (L1).length cp) rfl, Sp.out.cell 1 (v := .int .i64 (F1)) rfl⟩ (fun hH => ?_)
  clear hK K
  try simp only [Act.put, List.setIfInBounds_toArray, List.set_cons_zero, List.set_cons_succ]
  refine callH 9 rfl (by kernel_rfl) rfl (fun K hK => ?_)
  have y0 := SN.out.frozen 0
  have y1 := SN.out.frozen 1
  have v0 := SN.out.cell 0 (v := .slice none 0 0) rfl
  have v1 := SN.out.cell 1 (v := .int .i64 0) rfl
  go_simp
  clear y0 y1 v0 v1
  have Sl := Lib.hid (show Str (w15.setCell ⟨Xy, 0, none⟩ (.slice ay (G).length cy)) (w1.heap.size) 25 #[.slice ax l.length cx, .int .i64 n] from Sl.out.other (Ne.symm hNl.out) _ _)
  have So := Lib.hid (show Str (w15.setCell ⟨Xy, 0, none⟩ (.slice ay (G).length cy)) (w3.heap.size) 25 #[.slice ao G.length co, .int .i64 F] from So.out.other (Ne.symm hNo.out) _ _)
  have Sp := Lib.hid (show Str (w15.setCell ⟨Xy, 0, none⟩ (.slice ay (G).length cy)) (Xp) 25 #[.slice ap (L1).length cp, .int .i64 (F1)] from Sp.out.other (Ne.symm hNp.out) _ _)
  have Tl := Lib.hid (show Own 3 (w15.setCell ⟨Xy, 0, none⟩ (.slice ay (G).length cy)) w.heap.size (.slice ax l.length cx) (l) from Tl.out.set_other hMl.out 0 _)
  have Tx := Lib.hid (show Txs (w15.setCell ⟨Xy, 0, none⟩ (.slice ay (G).length cy)) (xs) (.slice av xs.length cv) fx from Rd.grown (grownBy_set w15 Xy 0 _) Tx.out (fun r e => by cases e; exact hMx.out))
  have To := Lib.hid (show Own 3 (w15.setCell ⟨Xy, 0, none⟩ (.slice ay (G).length cy)) w.heap.size (.slice ao (G).length co) (G) from To.out.set_other hMo.out 0 _)
  have Tob := Lib.hid (show OwnB 4 (w15.setCell ⟨Xy, 0, none⟩ (.slice ay (G).length cy)) w.heap.size (.slice bbo (Ko).length bco) (Ko) from Tob.out.set_other hMob.out 0 _)
  have Tkb := Lib.hid (show OwnB 4 (w15.setCell ⟨Xy, 0, none⟩ (.slice ay (G).length cy)) w.heap.size (.slice bbk (Ko).length bck) (Ko) from Tkb.out.set_other hMkb.out 0 _)
  have Tt := Lib.hid (show Txs (w15.setCell ⟨Xy, 0, none⟩ (.slice ay (G).length cy)) (P) (.slice av P.length cv) fq from Rd.grown (grownBy_set w15 Xy 0 _) Tt.out (fun r e => by cases e; exact hMt.out))
  have Td := Lib.hid (show Txs (w15.setCell ⟨Xy, 0, none⟩ (.slice ay (G).length cy)) (D) (.slice ad D.length ac) fr from Rd.grown (grownBy_set w15 Xy 0 _) Td.out (fun r e => by cases e; exact hMd.out))
  have Tp := Lib.hid (show Own 3 (w15.setCell ⟨Xy, 0, none⟩ (.slice ay (G).length cy)) w.heap.size (.slice ap (L1).length cp) (L1) from Tp.out.set_other hMp.out 0 _)
  have Tpb := Lib.hid (show OwnB 4 (w15.setCell ⟨Xy, 0, none⟩ (.slice ay (G).length cy)) w.heap.size (.slice bbp (A1).length bcp) (A1) from Tpb.out.set_other hMpb.out 0 _)
  have Ty := Lib.hid (show Own 3 (w15.setCell ⟨Xy, 0, none⟩ (.slice ay (G).length cy)) w.heap.size (.slice ay (G).length cy) (G) from Ty.out.set_other hMy.out 0 _)
  have Tyb := Lib.hid (show OwnB 4 (w15.setCell ⟨Xy, 0, none⟩ (.slice ay (G).length cy)) w.heap.size (.slice bby (A2).length bcy) (A2) from Tyb.out.set_other hMyb.out 0 _)
  have SN := Lib.hid (show Str (w15.setCell ⟨Xy, 0, none⟩ (.slice ay (G).length cy)) (Xy) 25 #[.slice ay (G).length cy, .int .i64 0] from SN.out.set 0 _)
  have Hb := Lib.hid (Hb.out.setCell (p := ⟨Xy, 0, none⟩) hlo.out (.slice ay (G).length cy))
  have Sl := Lib.hid (show Str ((w15.setCell ⟨Xy, 0, none⟩ (.slice ay (G).length cy)).setCell ⟨Xy, 1, none⟩ (.int .i64 (F))) (w1.heap.size) 25 #[.slice ax l.length cx, .int .i64 n] from Sl.out.other (Ne.symm hNl.out) _ _)
  have So := Lib.hid (show Str ((w15.setCell ⟨Xy, 0, none⟩ (.slice ay (G).length cy)).setCell ⟨Xy, 1, none⟩ (.int .i64 (F))) (w3.heap.size) 25 #[.slice ao G.length co, .int .i64 F] from So.out.other (Ne.symm hNo.out) _ _)
  have Sp := Lib.hid (show Str ((w15.setCell ⟨Xy, 0, none⟩ (.slice ay (G).length cy)).setCell ⟨Xy, 1, none⟩ (.int .i64 (F))) (Xp) 25 #[.slice ap (L1).length cp, .int .i64 (F1)] from Sp.out.other (Ne.symm hNp.out) _ _)
  have Tl := Lib.hid (show Own 3 ((w15.setCell ⟨Xy, 0, none⟩ (.slice ay (G).length cy)).setCell ⟨Xy, 1, none⟩ (.int .i64 (F))) w.heap.size (.slice ax l.length cx) (l) from Tl.out.set_other hMl.out 1 _)
  have Tx := Lib.hid (show Txs ((w15.setCell ⟨Xy, 0, none⟩ (.slice ay (G).length cy)).setCell ⟨Xy, 1, none⟩ (.int .i64 (F))) (xs) (.slice av xs.length cv) fx from Rd.grown (grownBy_set (w15.setCell ⟨Xy, 0, none⟩ (.slice ay (G).length cy)) Xy 1 _) Tx.out (fun r e => by cases e; exact hMx.out))
  have To := Lib.hid (show Own 3 ((w15.setCell ⟨Xy, 0, none⟩ (.slice ay (G).length cy)).setCell ⟨Xy, 1, none⟩ (.int .i64 (F))) w.heap.size (.slice ao (G).length co) (G) from To.out.set_other hMo.out 1 _)
  have Tob := Lib.hid (show OwnB 4 ((w15.setCell ⟨Xy, 0, none⟩ (.slice ay (G).length cy)).setCell ⟨Xy, 1, none⟩ (.int .i64 (F))) w.heap.size (.slice bbo (Ko).length bco) (Ko) from Tob.out.set_other hMob.out 1 _)
  have Tkb := Lib.hid (show OwnB 4 ((w15.setCell ⟨Xy, 0, none⟩ (.slice ay (G).length cy)).setCell ⟨Xy, 1, none⟩ (.int .i64 (F))) w.heap.size (.slice bbk (Ko).length bck) (Ko) from Tkb.out.set_other hMkb.out 1 _)
  have Tt := Lib.hid (show Txs ((w15.setCell ⟨Xy, 0, none⟩ (.slice ay (G).length cy)).setCell ⟨Xy, 1, none⟩ (.int .i64 (F))) (P) (.slice av P.length cv) fq from Rd.grown (grownBy_set (w15.setCell ⟨Xy, 0, none⟩ (.slice ay (G).length cy)) Xy 1 _) Tt.out (fun r e => by cases e; exact hMt.out))
  have Td := Lib.hid (show Txs ((w15.setCell ⟨Xy, 0, none⟩ (.slice ay (G).length cy)).setCell ⟨Xy, 1, none⟩ (.int .i64 (F))) (D) (.slice ad D.length ac) fr from Rd.grown (grownBy_set (w15.setCell ⟨Xy, 0, none⟩ (.slice ay (G).length cy)) Xy 1 _) Td.out (fun r e => by cases e; exact hMd.out))
  have Tp := Lib.hid (show Own 3 ((w15.setCell ⟨Xy, 0, none⟩ (.slice ay (G).length cy)).setCell ⟨Xy, 1, none⟩ (.int .i64 (F))) w.heap.size (.slice ap (L1).length cp) (L1) from Tp.out.set_other hMp.out 1 _)
  have Tpb := Lib.hid (show OwnB 4 ((w15.setCell ⟨Xy, 0, none⟩ (.slice ay (G).length cy)).setCell ⟨Xy, 1, none⟩ (.int .i64 (F))) w.heap.size (.slice bbp (A1).length bcp) (A1) from Tpb.out.set_other hMpb.out 1 _)
  have Ty := Lib.hid (show Own 3 ((w15.setCell ⟨Xy, 0, none⟩ (.slice ay (G).length cy)).setCell ⟨Xy, 1, none⟩ (.int .i64 (F))) w.heap.size (.slice ay (G).length cy) (G) from Ty.out.set_other hMy.out 1 _)
  have Tyb := Lib.hid (show OwnB 4 ((w15.setCell ⟨Xy, 0, none⟩ (.slice ay (G).length cy)).setCell ⟨Xy, 1, none⟩ (.int .i64 (F))) w.heap.size (.slice bby (A2).length bcy) (A2) from Tyb.out.set_other hMyb.out 1 _)
  have SN := Lib.hid (show Str ((w15.setCell ⟨Xy, 0, none⟩ (.slice ay (G).length cy)).setCell ⟨Xy, 1, none⟩ (.int .i64 (F))) (Xy) 25 #[.slice ay (G).length cy, .int .i64 (F)] from SN.out.set 1 _)
  have Hb := Lib.hid (Hb.out.setCell (p := ⟨Xy, 1, none⟩) hlo.out (.int .i64 (F)))
  refine hK.out _ _ ⟨Sp.out.cell 0 (v := .slice ap (L1).length cp) rfl, Sp.out.cell 1 (v := .int .i64 (F1)) rfl⟩ (fun hH => ?_)
  clear hK K
  try simp only [Act.put, List.setIfInBounds_toArray, List.set_cons_zero, List.set_cons_succ]
  generalize ((w15.setCell ⟨Xy, 0, none⟩ (.slice ay (G).length cy)).setCell ⟨Xy, 1, none⟩ (.int .i64 (F))) = w16 at *
  refine callH 10 rfl (by kernel_rfl) rfl (fun K hK => ?_)
  go_simp
  refine hK.out _ _ ⟨Sp.out.cell 0 (v := .slice ap (L1).length cp) rfl, Sp.out.cell 1 (v := .int .i64 (F1)) rfl⟩ (fun hH => ?_)
  clear hK K
  try simp only [Act.put, List.setIfInBounds_toArray, List.set_cons_zero, List.set_cons_succ]
  refine wpAnyH_done (by kernel_rfl) ?_ _
  try simp only [Act.put]
  clear hH hlo hxl hNl hNo hNp hMl hMx hMo hMob hMkb hMt hMd hMp hMpb hMy hMyb
  have Sy := SN; clear SN
  have cl_0 := Sl.out.cell 0 (v := .slice ax l.length cx) rfl
  have cl_1 := Sl.out.cell 1 (v := .int .i64 n) rfl
  have co_0 := So.out.cell 0 (v := .slice ao G.length co) rfl
  have co_1 := So.out.cell 1 (v := .int .i64 F) rfl
  have cp_0 := Sp.out.cell 0 (v := .slice ap (L1).length cp) rfl
  have cp_1 := Sp.out.cell 1 (v := .int .i64 (F1)) rfl
  have cy_0 := Sy.out.cell 0 (v := .slice ay (G).length cy) rfl
  have cy_1 := Sy.out.cell 1 (v := .int .i64 (F)) rfl
  go_wp2_with fail
  clear cl_0 cl_1 co_0 co_1 cp_0 cp_1 cy_0 cy_1
  refine (laws_sameLedger _ _ _ _ (G) (F) _ (by omega) Ty.out.at To.out.at).mono ?_
  rintro e w17 ⟨rfl, hb⟩
  have Tl := Lib.hid (show Own 3 w17 w.heap.size (.slice ax l.length cx) (l) from Tl.out.below hb)
  have Tx := Lib.hid (show Txs w17 (xs) (.slice av xs.length cv) fx from Tx.out.under hb)
  have To := Lib.hid (show Own 3 w17 w.heap.size (.slice ao (G).length co) (G) from To.out.below hb)
  have Tob := Lib.hid (show OwnB 4 w17 w.heap.size (.slice bbo (Ko).length bco) (Ko) from Tob.out.below hb)
  have Tkb := Lib.hid (show OwnB 4 w17 w.heap.size (.slice bbk (Ko).length bck) (Ko) from Tkb.out.below hb)
  have Tt := Lib.hid (show Txs w17 (P) (.slice av P.length cv) fq from Tt.out.under hb)
  have Td := Lib.hid (show Txs w17 (D) (.slice ad D.length ac) fr from Td.out.under hb)
  have Tp := Lib.hid (show Own 3 w17 w.heap.size (.slice ap (L1).length cp) (L1) from Tp.out.below hb)
  have Tpb := Lib.hid (show OwnB 4 w17 w.heap.size (.slice bbp (A1).length bcp) (A1) from Tpb.out.below hb)
  have Ty := Lib.hid (show Own 3 w17 w.heap.size (.slice ay (G).length cy) (G) from Ty.out.below hb)
  have Tyb := Lib.hid (show OwnB 4 w17 w.heap.size (.slice bby (A2).length bcy) (A2) from Tyb.out.below hb)
  have Sl := Lib.hid (show Str w17 (w1.heap.size) 25 #[.slice ax l.length cx, .int .i64 n] from (hb.block _ Sl.out.lt).trans Sl.out)
  have So := Lib.hid (show Str w17 (w3.heap.size) 25 #[.slice ao G.length co, .int .i64 F] from (hb.block _ So.out.lt).trans So.out)
  have Sp := Lib.hid (show Str w17 (Xp) 25 #[.slice ap (L1).length cp, .int .i64 (F1)] from (hb.block _ Sp.out.lt).trans Sp.out)
  have Sy := Lib.hid (show Str w17 (Xy) 25 #[.slice ay (G).length cy, .int .i64 (F)] from (hb.block _ Sy.out.lt).trans Sy.out)
  have hsw17 := hb.size
  have Hb := Lib.hid (below_step Hb.out Hb.out.size hb)
  clear hb
  have hE : Below w17.heap.size w17 (w17.alloc (.cells #[] 4)) := (Below.refl _ _).alloc (Nat.le_refl _) _
  have hO := ownB_empty 4 w17 (Nat.le_refl _)
  have HE := Lib.hid hE; have HO := Lib.hid hO
  have Hp1 := Lib.hid (Tpb.out.below hE); have Hp2 := Lib.hid (Tyb.out.below hE)
  have hz1 : w17.heap.size ≤ (w17.alloc (.cells #[] 4)).heap.size := hE.size
  clear hE hO
  have hn1 : ([] : List Bool).length + A1.length ≤ 1048577 := by simp; omega
  have hl3 : A1.length + A2.length ≤ 1048577 := by omega
  go_wp2_with (at_builtin; first | (refine wpList_app_b TBo rfl (.tmp 94) (.tmp 95) rfl w17.heap.size w.heap.size (.slice (some ⟨w17.heap.size, 0, none⟩) 0 0) (.slice bbp A1.length bcp) [] A1 rfl HO.out rfl Hp1.out hn1 hz1 ?_; intro v8 w8 ho8 hg8; rw [List.nil_append] at ho8; obtain ⟨b8, c8, rfl, hm8⟩ := ho8.slice; clear hm8; have Hb8 := Lib.hid (HE.out.grown hg8 HE.out.size (fun g e => (HO.out.lt g e).1)); have Ho8 := Lib.hid ho8; clear ho8 hg8; have hs8 : w17.heap.size ≤ w8.heap.size := Hb8.out.size; have Hp2 := Lib.hid (Tyb.out.below Hb8.out)) | (refine wpList_app_b TBo rfl (.tmp 96) (.tmp 97) rfl w17.heap.size w.heap.size (.slice b8 A1.length c8) (.slice bby A2.length bcy) A1 A2 rfl Ho8.out rfl Hp2.out hl3 hs8 ?_; intro v9 w9 ho9 hg9; rw [Hp5.out] at ho9; obtain ⟨b9, c9, rfl, hm9⟩ := ho9.slice; clear hm9; have Hb9 := Lib.hid (Hb8.out.grown hg9 Hb8.out.size (fun g e => (Ho8.out.lt g e).1)); have Ho9 := Lib.hid ho9; clear ho9 hg9))
  have Tl := Lib.hid (show Own 3 w9 w.heap.size (.slice ax l.length cx) (l) from Tl.out.below Hb9.out)
  have Tx := Lib.hid (show Txs w9 (xs) (.slice av xs.length cv) fx from Tx.out.under Hb9.out)
  have To := Lib.hid (show Own 3 w9 w.heap.size (.slice ao (G).length co) (G) from To.out.below Hb9.out)
  have Tob := Lib.hid (show OwnB 4 w9 w.heap.size (.slice bbo (Ko).length bco) (Ko) from Tob.out.below Hb9.out)
  have Tkb := Lib.hid (show OwnB 4 w9 w.heap.size (.slice bbk (Ko).length bck) (Ko) from Tkb.out.below Hb9.out)
  have Tt := Lib.hid (show Txs w9 (P) (.slice av P.length cv) fq from Tt.out.under Hb9.out)
  have Td := Lib.hid (show Txs w9 (D) (.slice ad D.length ac) fr from Td.out.under Hb9.out)
  have Tp := Lib.hid (show Own 3 w9 w.heap.size (.slice ap (L1).length cp) (L1) from Tp.out.below Hb9.out)
  have Tpb := Lib.hid (show OwnB 4 w9 w.heap.size (.slice bbp (A1).length bcp) (A1) from Tpb.out.below Hb9.out)
  have Ty := Lib.hid (show Own 3 w9 w.heap.size (.slice ay (G).length cy) (G) from Ty.out.below Hb9.out)
  have Tyb := Lib.hid (show OwnB 4 w9 w.heap.size (.slice bby (A2).length bcy) (A2) from Tyb.out.below Hb9.out)
  have Sl := Lib.hid (show Str w9 (w1.heap.size) 25 #[.slice ax l.length cx, .int .i64 n] from (Hb9.out.block _ Sl.out.lt).trans Sl.out)
  have So := Lib.hid (show Str w9 (w3.heap.size) 25 #[.slice ao G.length co, .int .i64 F] from (Hb9.out.block _ So.out.lt).trans So.out)
  have Sp := Lib.hid (show Str w9 (Xp) 25 #[.slice ap (L1).length cp, .int .i64 (F1)] from (Hb9.out.block _ Sp.out.lt).trans Sp.out)
  have Sy := Lib.hid (show Str w9 (Xy) 25 #[.slice ay (G).length cy, .int .i64 (F)] from (Hb9.out.block _ Sy.out.lt).trans Sy.out)
  have hsw9 := Hb9.out.size
  have Hb := Lib.hid (below_step Hb.out Hb.out.size Hb9.out)
  refine (laws_sameBools _ _ _ _ Ko _ (by omega) Ho9.out.at Tob.out.at).mono ?_
  rintro e9 wz ⟨rfl, hbz⟩
  have Hb := Lib.hid (below_step Hb.out Hb.out.size hbz)
  clear hbz
  go_wp2
  go_ret
  exact ⟨rfl, Hb.out⟩

theorem fnLedgerRun_own : ownKnob Try.prog.godebug = none := by kernel_rfl
theorem fnLedgerRun_laidOut : laidOutB Try.prog = true := by kernel_rfl

set_option maxRecDepth 8000 in
theorem fnLedgerRun_lifted (os : Os) (started : os.Started) (H : Type) (enc : TypeId × Value → H) :
    ReturnsInHanded {} Try.checked os 4 .any (Rows.fnLedgerRunSpec.pre6 enc Try.prog Try.f4 Rows.fnLedgerRunRow.domain false) (Rows.fnLedgerRunSpec.post enc Try.prog Try.f4 false true false false) := by
  refine law_lifted (C := Try.checked) (tb := 4) fnLedgerRun_own fnLedgerRun_laidOut started (by kernel_rfl) Try.func4 rfl Try.underlying4 rfl (by rw [Try.params4]; exact of_decide_eq_true (by kernel_rfl)) ?_
    (ChangeSpec.witness6 (enc := enc) (C := Try.checked) false ⟨#[], #[.slice none 0 0, .slice none 0 0], []⟩ 8 (by kernel_rfl) (by kernel_rfl) (by kernel_rfl) (by kernel_rfl)) ?_
  · intro ds hds
    rw [Try.params4] at hds
    match ds, hds with
    | [d0, d1], _ => rfl
  · intro W base args ds p hval0 hA0
    have hval : ∀ (j : Nat) t v, Try.f4.params[j]? = some t → args[j]? = some v → Value.okWide Try.prog W .any base t v := hval0
    have hA : DataW.TrodAll enc Try.prog W 0 (fun _ => true) true Try.f4.params.toList args.toList ds p := hA0
    rw [Try.params4] at hA hval
    obtain ⟨v0, vs0, d0, ds0, p0, q0, hargs0, rfl, rfl, h0, r0⟩ := trodAll_cons hA
    obtain ⟨v1, vs1, d1, ds1, p1, q1, hargs1, rfl, rfl, h1, r1⟩ := trodAll_cons r0
    obtain ⟨hnil, rfl, rfl⟩ := trodAll_nil r1
    subst hnil
    subst hargs1
    obtain rfl : args = #[v0, v1] := by cases args; simp_all
    obtain ⟨a0, cap0, zs0, rfl, hk0, hm0, hi0, hw0⟩ := open_slice_ints Try.underlying22 Try.underlying5 (by kernel_rfl) (hval 0 22 v0 rfl rfl) h0
    obtain ⟨a1, cap1, zs1, rfl, hk1, hm1, hi1, hw1⟩ := open_slice_ints Try.underlying22 Try.underlying5 (by kernel_rfl) (hval 1 22 v1 rfl rfl) h1
    exact fnLedgerRun_walk a0 cap0 zs0 a1 cap1 zs1 W hk0 hm0 hi0 hw0 hk1 hm1 hi1 hw1

set_option maxRecDepth 8000 in
theorem fnLedgerRun_holds : Rows.FnLedgerRunSaid :=
  OpenClaim.holds_of_wide 4 Try.f4 rfl rfl rfl rfl rfl rfl rfl ⟨rfl, rfl, rfl, rfl, rfl⟩ rfl rfl rfl rfl rfl (by kernel_rfl) Try.func4 (by kernel_rfl)
    (of_decide_eq_true (by kernel_rfl)) (by unfold Func.isWrapper; first | (rw [if_pos (by decide +kernel)]; kernel_rfl) | (rw [if_neg (by decide +kernel)]; exact ⟨rfl, rfl⟩))
    (fun os started H enc _ => fnLedgerRun_lifted os started H enc)

end Go.Proofs.Ytfnhafgjdnlhiaa
