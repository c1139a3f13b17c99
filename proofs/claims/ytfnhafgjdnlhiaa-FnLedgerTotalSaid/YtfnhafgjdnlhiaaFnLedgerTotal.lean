/- Law FnLedgerTotal holds for every input; no conditions of our own. -/
import Derived.Test.YtfnhafgjdnlhiaaRows
import Derived.Test.YtfnhafgjdnlhiaaBu0
import Derived.Test.YtfnhafgjdnlhiaaBu1
import Derived.Test.YtfnhafgjdnlhiaaBu3
import Derived.Test.YtfnhafgjdnlhiaaBu2
import Derived.Deep.QuietTactic
import Derived.BigQuiet
namespace Go.Proofs.Ytfnhafgjdnlhiaa
open Go.ChangeShapes Go.WideShapes Go.ChangeAt Go.RowKit

set_option maxHeartbeats 4000000 in
theorem fnLedgerTotal_walk (a : Option Addr) (cap : Nat) (zs : List Int) (w : World) (hk : zs.length ≤ cap) (_hm : zs.length ≤ maxLen) (hi : zs = [] ∨ ∃ b off, a = some ⟨b, off, none⟩ ∧ b < w.heap.size ∧ ∀ j (h : j < zs.length), w.cell? ⟨b, off + j, none⟩ = some (.int .u8 zs[j])) (hw : ∀ z ∈ zs, (Lit.int .u8 z).wf = true) :
    Calls Try.prog 3 #[.slice a zs.length cap] w fun e w' => e = .returned (.bool true) ∧ Below w.heap.size w w' := by
  by_cases hl : 1048576 < zs.length
  · go_enter Try.func3, Try.ntmps3
    go_wp2
    go_ret
    exact ⟨rfl, Below.refl _ _⟩
  have hcode := codeAt_of hk (by omega) hi hw
  have Hcode := Lib.hid hcode; clear hcode hi hw
  go_enter Try.func3, Try.ntmps3
  go_wp2_with fail
  refine (spec_DrawLedgerRun a cap zs _ Hcode.out).mono ?_
  rintro e1 w1 ⟨l, n, ux, xs, vx, rfl, ho, hx, hl6, hx17, hb1⟩
  obtain ⟨ax, cx, rfl, _, _⟩ := ho.ints
  obtain ⟨av, cv, rfl, hcv⟩ := OwnX.sl (l := xs) hx
  obtain ⟨fx, hT⟩ := OwnX.txs (l := xs) hx
  have hw0 := hb1.size
  have Tl := Lib.hid ho; have Tx := Lib.hid hT
  have Hb := Lib.hid hb1
  clear ho hx hT hb1
  have hal : Below w1.heap.size w1 (w1.alloc (.cells #[.slice ax l.length cx, .int .i64 n] 25)) := (Below.refl _ _).alloc (Nat.le_refl _) _
  have Tl := Lib.hid (show Own 3 (w1.alloc (.cells #[.slice ax l.length cx, .int .i64 n] 25)) w.heap.size (.slice ax l.length cx) (l) from Tl.out.below hal)
  have Tx := Lib.hid (show Txs (w1.alloc (.cells #[.slice ax l.length cx, .int .i64 n] 25)) (xs) (.slice av xs.length cv) fx from Tx.out.under hal)
  have Sl := Lib.hid (Str.new w1 25 #[.slice ax l.length cx, .int .i64 n])
  have Hb := Lib.hid (below_step Hb.out Hb.out.size hal)
  clear hal
  obtain ⟨G, hG⟩ : ∃ G, G = ruL l n xs := ⟨_, rfl⟩
  obtain ⟨F, hF⟩ : ∃ F, F = ruF l n xs := ⟨_, rfl⟩
  obtain ⟨Ko, hK⟩ : ∃ Ko, Ko = ruO l n xs := ⟨_, rfl⟩
  have hGl : G.length ≤ 6 := by rw [hG]; exact ru_len l n xs
  have hKl : Ko.length ≤ 16 := by rw [hK]; exact ru_lenO l n xs
  have HI := Lib.hid (fun W (h : IntsAt W ax l) (h3 : Txs W xs (.slice av xs.length cv) fx) => impl_LedgerRun ax cx l n xs _ fx W (by omega) (by omega) h h3)
  have HS := Lib.hid (fun W (h : IntsAt W ax l) (h2 : SrcAt W ax cx l) (h3 : Txs W xs (.slice av xs.length cv) fx) => spec_LedgerRun ax cx l n xs _ fx W (by omega) (by omega) h h2 h3)
  unfold RuP at HI HS
  rw [← hG, ← hF, ← hK] at HI HS
  have HG := Lib.hid hG; have HF := Lib.hid hF; have HK := Lib.hid hK
  have Hl6 := Lib.hid hl6; have Hx17 := Lib.hid hx17; have HGl := Lib.hid hGl; have HKl := Lib.hid hKl
  clear hG hF hK
  have cl_0 := Sl.out.cell 0 (v := .slice ax l.length cx) rfl
  have cl_1 := Sl.out.cell 1 (v := .int .i64 n) rfl
  go_wp2_with fail
  generalize (w1.alloc (.cells #[.slice ax l.length cx, .int .i64 n] 25)) = W2 at *
  clear cl_0 cl_1
  refine (HI.out _ Tl.out.at Tx.out).mono ?_
  rintro e w3 ⟨v, u, rfl, ho, hk, hb⟩
  have hwb := Hb.out.size
  obtain ⟨ao, co, rfl, _, _⟩ := ho.ints
  obtain ⟨bbo, bco, rfl, _⟩ := hk.slice
  have ho' := Lib.hid (ho.mono (show w.heap.size ≤ _ by omega)); have hk' := Lib.hid (hk.mono (show w.heap.size ≤ _ by omega))
  clear ho hk
  have Tl := Lib.hid (show Own 3 w3 w.heap.size (.slice ax l.length cx) (l) from Tl.out.below hb)
  have Tx := Lib.hid (show Txs w3 (xs) (.slice av xs.length cv) fx from Tx.out.under hb)
  have Sl := Lib.hid (show Str w3 (w1.heap.size) 25 #[.slice ax l.length cx, .int .i64 n] from (hb.block _ Sl.out.lt).trans Sl.out)
  have hsw3 := hb.size
  have Hb := Lib.hid (below_step Hb.out Hb.out.size hb)
  have To := Lib.hid (show Own 3 w3 w.heap.size (.slice ao (G).length co) (G) from ho'.out)
  have Tob := Lib.hid (show OwnB 4 w3 w.heap.size (.slice bbo (Ko).length bco) (Ko) from hk'.out)
  clear ho' hk' hb hwb
  have hal : Below w3.heap.size w3 (w3.alloc (.cells #[.slice ao G.length co, .int .i64 F] 25)) := (Below.refl _ _).alloc (Nat.le_refl _) _
  have Tl := Lib.hid (show Own 3 (w3.alloc (.cells #[.slice ao G.length co, .int .i64 F] 25)) w.heap.size (.slice ax l.length cx) (l) from Tl.out.below hal)
  have Tx := Lib.hid (show Txs (w3.alloc (.cells #[.slice ao G.length co, .int .i64 F] 25)) (xs) (.slice av xs.length cv) fx from Tx.out.under hal)
  have To := Lib.hid (show Own 3 (w3.alloc (.cells #[.slice ao G.length co, .int .i64 F] 25)) w.heap.size (.slice ao (G).length co) (G) from To.out.below hal)
  have Tob := Lib.hid (show OwnB 4 (w3.alloc (.cells #[.slice ao G.length co, .int .i64 F] 25)) w.heap.size (.slice bbo (Ko).length bco) (Ko) from Tob.out.below hal)
  have Sl := Lib.hid (show Str (w3.alloc (.cells #[.slice ao G.length co, .int .i64 F] 25)) (w1.heap.size) 25 #[.slice ax l.length cx, .int .i64 n] from Sl.out.alloc _)
  have So := Lib.hid (Str.new w3 25 #[.slice ao G.length co, .int .i64 F])
  have Hb := Lib.hid (below_step Hb.out Hb.out.size hal)
  clear hal
  have cl_0 := Sl.out.cell 0 (v := .slice ax l.length cx) rfl
  have cl_1 := Sl.out.cell 1 (v := .int .i64 n) rfl
  have co_0 := So.out.cell 0 (v := .slice ao G.length co) rfl
  have co_1 := So.out.cell 1 (v := .int .i64 F) rfl
  go_wp2_with fail
  generalize (w3.alloc (.cells #[.slice ao G.length co, .int .i64 F] 25)) = W4 at *
  clear cl_0 cl_1 co_0 co_1
  refine (HS.out _ Tl.out.at (own_src Tl.out) Tx.out).mono ?_
  rintro e w5 ⟨v, u, rfl, ho, hk, hb⟩
  have hwb := Hb.out.size
  obtain ⟨ak, ck, rfl, _, _⟩ := ho.ints
  obtain ⟨bbk, bck, rfl, _⟩ := hk.slice
  have ho' := Lib.hid (ho.mono (show w.heap.size ≤ _ by omega)); have hk' := Lib.hid (hk.mono (show w.heap.size ≤ _ by omega))
  clear ho hk
  have Tl := Lib.hid (show Own 3 w5 w.heap.size (.slice ax l.length cx) (l) from Tl.out.below hb)
  have Tx := Lib.hid (show Txs w5 (xs) (.slice av xs.length cv) fx from Tx.out.under hb)
  have To := Lib.hid (show Own 3 w5 w.heap.size (.slice ao (G).length co) (G) from To.out.below hb)
  have Tob := Lib.hid (show OwnB 4 w5 w.heap.size (.slice bbo (Ko).length bco) (Ko) from Tob.out.below hb)
  have Sl := Lib.hid (show Str w5 (w1.heap.size) 25 #[.slice ax l.length cx, .int .i64 n] from (hb.block _ Sl.out.lt).trans Sl.out)
  have So := Lib.hid (show Str w5 (w3.heap.size) 25 #[.slice ao G.length co, .int .i64 F] from (hb.block _ So.out.lt).trans So.out)
  have hsw5 := hb.size
  have Hb := Lib.hid (below_step Hb.out Hb.out.size hb)
  have Tk := Lib.hid (show Own 3 w5 w.heap.size (.slice ak (G).length ck) (G) from ho'.out)
  have Tkb := Lib.hid (show OwnB 4 w5 w.heap.size (.slice bbk (Ko).length bck) (Ko) from hk'.out)
  clear ho' hk' hb hwb
  have hal : Below w5.heap.size w5 (w5.alloc (.cells #[.slice ak G.length ck, .int .i64 F] 25)) := (Below.refl _ _).alloc (Nat.le_refl _) _
  have Tl := Lib.hid (show Own 3 (w5.alloc (.cells #[.slice ak G.length ck, .int .i64 F] 25)) w.heap.size (.slice ax l.length cx) (l) from Tl.out.below hal)
  have Tx := Lib.hid (show Txs (w5.alloc (.cells #[.slice ak G.length ck, .int .i64 F] 25)) (xs) (.slice av xs.length cv) fx from Tx.out.under hal)
  have To := Lib.hid (show Own 3 (w5.alloc (.cells #[.slice ak G.length ck, .int .i64 F] 25)) w.heap.size (.slice ao (G).length co) (G) from To.out.below hal)
  have Tob := Lib.hid (show OwnB 4 (w5.alloc (.cells #[.slice ak G.length ck, .int .i64 F] 25)) w.heap.size (.slice bbo (Ko).length bco) (Ko) from Tob.out.below hal)
  have Tk := Lib.hid (show Own 3 (w5.alloc (.cells #[.slice ak G.length ck, .int .i64 F] 25)) w.heap.size (.slice ak (G).length ck) (G) from Tk.out.below hal)
  have Tkb := Lib.hid (show OwnB 4 (w5.alloc (.cells #[.slice ak G.length ck, .int .i64 F] 25)) w.heap.size (.slice bbk (Ko).length bck) (Ko) from Tkb.out.below hal)
  have Sl := Lib.hid (show Str (w5.alloc (.cells #[.slice ak G.length ck, .int .i64 F] 25)) (w1.heap.size) 25 #[.slice ax l.length cx, .int .i64 n] from Sl.out.alloc _)
  have So := Lib.hid (show Str (w5.alloc (.cells #[.slice ak G.length ck, .int .i64 F] 25)) (w3.heap.size) 25 #[.slice ao G.length co, .int .i64 F] from So.out.alloc _)
  have Sk := Lib.hid (Str.new w5 25 #[.slice ak G.length ck, .int .i64 F])
  have Hb := Lib.hid (below_step Hb.out Hb.out.size hal)
  clear hal
  clear HI HS
  have cl_0 := Sl.out.cell 0 (v := .slice ax l.length cx) rfl
  have cl_1 := Sl.out.cell 1 (v := .int .i64 n) rfl
  have co_0 := So.out.cell 0 (v := .slice ao G.length co) rfl
  have co_1 := So.out.cell 1 (v := .int .i64 F) rfl
  have ck_0 := Sk.out.cell 0 (v := .slice ak G.length ck) rfl
  have ck_1 := Sk.out.cell 1 (v := .int .i64 F) rfl
  go_wp2_with fail
  generalize (w5.alloc (.cells #[.slice ak G.length ck, .int .i64 F] 25)) = W6 at *
  clear cl_0 cl_1 co_0 co_1 ck_0 ck_1
  refine (laws_sameLedger _ _ _ _ (G) (F) _ (by omega) To.out.at Tk.out.at).mono ?_
  rintro e w7 ⟨rfl, hb⟩
  have Tl := Lib.hid (show Own 3 w7 w.heap.size (.slice ax l.length cx) (l) from Tl.out.below hb)
  have Tx := Lib.hid (show Txs w7 (xs) (.slice av xs.length cv) fx from Tx.out.under hb)
  have To := Lib.hid (show Own 3 w7 w.heap.size (.slice ao (G).length co) (G) from To.out.below hb)
  have Tob := Lib.hid (show OwnB 4 w7 w.heap.size (.slice bbo (Ko).length bco) (Ko) from Tob.out.below hb)
  have Tk := Lib.hid (show Own 3 w7 w.heap.size (.slice ak (G).length ck) (G) from Tk.out.below hb)
  have Tkb := Lib.hid (show OwnB 4 w7 w.heap.size (.slice bbk (Ko).length bck) (Ko) from Tkb.out.below hb)
  have Sl := Lib.hid (show Str w7 (w1.heap.size) 25 #[.slice ax l.length cx, .int .i64 n] from (hb.block _ Sl.out.lt).trans Sl.out)
  have So := Lib.hid (show Str w7 (w3.heap.size) 25 #[.slice ao G.length co, .int .i64 F] from (hb.block _ So.out.lt).trans So.out)
  have Sk := Lib.hid (show Str w7 (w5.heap.size) 25 #[.slice ak G.length ck, .int .i64 F] from (hb.block _ Sk.out.lt).trans Sk.out)
  have hsw7 := hb.size
  have Hb := Lib.hid (below_step Hb.out Hb.out.size hb)
  clear hb
  have cl_0 := Sl.out.cell 0 (v := .slice ax l.length cx) rfl
  have cl_1 := Sl.out.cell 1 (v := .int .i64 n) rfl
  have co_0 := So.out.cell 0 (v := .slice ao G.length co) rfl
  have co_1 := So.out.cell 1 (v := .int .i64 F) rfl
  have ck_0 := Sk.out.cell 0 (v := .slice ak G.length ck) rfl
  have ck_1 := Sk.out.cell 1 (v := .int .i64 F) rfl
  go_wp2_with fail
  clear cl_0 cl_1 co_0 co_1 ck_0 ck_1
  refine (laws_sameBools _ _ _ _ (Ko) _ (by omega) Tob.out.at Tkb.out.at).mono ?_
  rintro e w8 ⟨rfl, hb⟩
  have Tl := Lib.hid (show Own 3 w8 w.heap.size (.slice ax l.length cx) (l) from Tl.out.below hb)
  have Tx := Lib.hid (show Txs w8 (xs) (.slice av xs.length cv) fx from Tx.out.under hb)
  have To := Lib.hid (show Own 3 w8 w.heap.size (.slice ao (G).length co) (G) from To.out.below hb)
  have Tob := Lib.hid (show OwnB 4 w8 w.heap.size (.slice bbo (Ko).length bco) (Ko) from Tob.out.below hb)
  have Tk := Lib.hid (show Own 3 w8 w.heap.size (.slice ak (G).length ck) (G) from Tk.out.below hb)
  have Tkb := Lib.hid (show OwnB 4 w8 w.heap.size (.slice bbk (Ko).length bck) (Ko) from Tkb.out.below hb)
  have Sl := Lib.hid (show Str w8 (w1.heap.size) 25 #[.slice ax l.length cx, .int .i64 n] from (hb.block _ Sl.out.lt).trans Sl.out)
  have So := Lib.hid (show Str w8 (w3.heap.size) 25 #[.slice ao G.length co, .int .i64 F] from (hb.block _ So.out.lt).trans So.out)
  have Sk := Lib.hid (show Str w8 (w5.heap.size) 25 #[.slice ak G.length ck, .int .i64 F] from (hb.block _ Sk.out.lt).trans Sk.out)
  have hsw8 := hb.size
  have Hb := Lib.hid (below_step Hb.out Hb.out.size hb)
  clear hb
  have hbr : ruB l n xs = true ∨ ruB l n xs = false := by cases ruB l n xs <;> simp
  rcases hbr with hbr | hbr
  case inr =>
    obtain ⟨q1, q2, q3⟩ := ru_no hbr
    have hG0 : G.length = 0 := by rw [HG.out, q1]; rfl
    have hz : ((G.length : Int) == 0) = true := by rw [beq_iff_eq]; omega
    clear q1 q2 q3 hbr hG0 HG HF HK
    have cl_0 := Sl.out.cell 0 (v := .slice ax l.length cx) rfl
    have cl_1 := Sl.out.cell 1 (v := .int .i64 n) rfl
    have co_0 := So.out.cell 0 (v := .slice ao G.length co) rfl
    have co_1 := So.out.cell 1 (v := .int .i64 F) rfl
    have ck_0 := Sk.out.cell 0 (v := .slice ak G.length ck) rfl
    have ck_1 := Sk.out.cell 1 (v := .int .i64 F) rfl
    go_wp2_with fail
    clear cl_0 cl_1 co_0 co_1 ck_0 ck_1
    refine (laws_sameLedger _ _ _ _ (G) (F) _ (by omega) To.out.at Tk.out.at).mono ?_
    rintro e w9 ⟨rfl, hb⟩
    have Tl := Lib.hid (show Own 3 w9 w.heap.size (.slice ax l.length cx) (l) from Tl.out.below hb)
    have Tx := Lib.hid (show Txs w9 (xs) (.slice av xs.length cv) fx from Tx.out.under hb)
    have To := Lib.hid (show Own 3 w9 w.heap.size (.slice ao (G).length co) (G) from To.out.below hb)
    have Tob := Lib.hid (show OwnB 4 w9 w.heap.size (.slice bbo (Ko).length bco) (Ko) from Tob.out.below hb)
    have Tk := Lib.hid (show Own 3 w9 w.heap.size (.slice ak (G).length ck) (G) from Tk.out.below hb)
    have Tkb := Lib.hid (show OwnB 4 w9 w.heap.size (.slice bbk (Ko).length bck) (Ko) from Tkb.out.below hb)
    have Sl := Lib.hid (show Str w9 (w1.heap.size) 25 #[.slice ax l.length cx, .int .i64 n] from (hb.block _ Sl.out.lt).trans Sl.out)
    have So := Lib.hid (show Str w9 (w3.heap.size) 25 #[.slice ao G.length co, .int .i64 F] from (hb.block _ So.out.lt).trans So.out)
    have Sk := Lib.hid (show Str w9 (w5.heap.size) 25 #[.slice ak G.length ck, .int .i64 F] from (hb.block _ Sk.out.lt).trans Sk.out)
    have hsw9 := hb.size
    have Hb := Lib.hid (below_step Hb.out Hb.out.size hb)
    clear hb
    have cl_0 := Sl.out.cell 0 (v := .slice ax l.length cx) rfl
    have cl_1 := Sl.out.cell 1 (v := .int .i64 n) rfl
    have co_0 := So.out.cell 0 (v := .slice ao G.length co) rfl
    have co_1 := So.out.cell 1 (v := .int .i64 F) rfl
    have ck_0 := Sk.out.cell 0 (v := .slice ak G.length ck) rfl
    have ck_1 := Sk.out.cell 1 (v := .int .i64 F) rfl
    go_wp2_with fail
    clear cl_0 cl_1 co_0 co_1 ck_0 ck_1
    refine (laws_sameBools _ _ _ _ (Ko) _ (by omega) Tob.out.at Tkb.out.at).mono ?_
    rintro e w10 ⟨rfl, hb⟩
    have Tl := Lib.hid (show Own 3 w10 w.heap.size (.slice ax l.length cx) (l) from Tl.out.below hb)
    have Tx := Lib.hid (show Txs w10 (xs) (.slice av xs.length cv) fx from Tx.out.under hb)
    have To := Lib.hid (show Own 3 w10 w.heap.size (.slice ao (G).length co) (G) from To.out.below hb)
    have Tob := Lib.hid (show OwnB 4 w10 w.heap.size (.slice bbo (Ko).length bco) (Ko) from Tob.out.below hb)
    have Tk := Lib.hid (show Own 3 w10 w.heap.size (.slice ak (G).length ck) (G) from Tk.out.below hb)
    have Tkb := Lib.hid (show OwnB 4 w10 w.heap.size (.slice bbk (Ko).length bck) (Ko) from Tkb.out.below hb)
    have Sl := Lib.hid (show Str w10 (w1.heap.size) 25 #[.slice ax l.length cx, .int .i64 n] from (hb.block _ Sl.out.lt).trans Sl.out)
    have So := Lib.hid (show Str w10 (w3.heap.size) 25 #[.slice ao G.length co, .int .i64 F] from (hb.block _ So.out.lt).trans So.out)
    have Sk := Lib.hid (show Str w10 (w5.heap.size) 25 #[.slice ak G.length ck, .int .i64 F] from (hb.block _ Sk.out.lt).trans Sk.out)
    have hsw10 := hb.size
    have Hb := Lib.hid (below_step Hb.out Hb.out.size hb)
    clear hb
    go_wp2
    go_ret
    exact ⟨by first | rfl | exact ret_bool (by simp) | exact ret_bool (by simp; omega), Hb.out⟩
  obtain ⟨hv, hn58, hx16⟩ := ru_iff.1 hbr
  obtain ⟨q1, q2, q3⟩ := ru_yes hbr
  obtain ⟨-, hv2, hn0, -⟩ := ldB_iff.1 hv
  have hz : ((G.length : Int) == 0) = false := by rw [beq_eq_false_iff_ne, HG.out, q1, (rn_len _ _).1]; omega
  have HG := Lib.hid (HG.out.trans q1); have HF := Lib.hid (HF.out.trans q2); have HK := Lib.hid (HK.out.trans q3)
  have H6 := Lib.hid hv2; have Hv := Lib.hid hv; have Hr := Lib.hid hbr
  clear q1 q2 q3 hbr hv2 hv
  have ht : totZ G F = totZ l n := by rw [HG.out, HF.out]; unfold totZ; rw [Hv.out, rn_valid xs l n Hv.out (by omega), if_pos rfl, if_pos rfl]; exact rn_sum xs l n H6.out
  have hval : ldB G F = true := by rw [HG.out, HF.out]; exact rn_valid xs l n Hv.out (by omega)
  have HT1 := fun W (h : IntsAt W ao G) => impl_LedgerTotal ao co G F W (by omega) h
  have HT2 := Lib.hid (fun W (h : IntsAt W ax l) => impl_LedgerTotal ax cx l n W (by omega) h)
  have HV := fun W (h : IntsAt W ao G) => impl_LedgerValid ao co G F W (by omega) h
  rw [ht] at HT1
  rw [hval] at HV
  have HT1 := Lib.hid HT1; have HV := Lib.hid HV
  clear ht hval
  generalize totZ l n = Z at *
  have co_0 := So.out.cell 0 (v := .slice ao G.length co) rfl
  have co_1 := So.out.cell 1 (v := .int .i64 F) rfl
  have cl_0 := Sl.out.cell 0 (v := .slice ax l.length cx) rfl
  have cl_1 := Sl.out.cell 1 (v := .int .i64 n) rfl
  have ck_0 := Sk.out.cell 0 (v := .slice ak G.length ck) rfl
  have ck_1 := Sk.out.cell 1 (v := .int .i64 F) rfl
  go_wp2_with fail
  clear ck_0 ck_1
  clear Tk
  clear Sk
  have hdr : Below w8.heap.size w8 w8.drew := (Below.refl _ _).drew
  clear co_0 co_1 cl_0 cl_1
  have Tl := Lib.hid (show Own 3 w8.drew w.heap.size (.slice ax l.length cx) (l) from Tl.out.below hdr)
  have Tx := Lib.hid (show Txs w8.drew (xs) (.slice av xs.length cv) fx from Tx.out.under hdr)
  have To := Lib.hid (show Own 3 w8.drew w.heap.size (.slice ao (G).length co) (G) from To.out.below hdr)
  have Tob := Lib.hid (show OwnB 4 w8.drew w.heap.size (.slice bbo (Ko).length bco) (Ko) from Tob.out.below hdr)
  have Tkb := Lib.hid (show OwnB 4 w8.drew w.heap.size (.slice bbk (Ko).length bck) (Ko) from Tkb.out.below hdr)
  have Sl := Lib.hid (show Str w8.drew (w1.heap.size) 25 #[.slice ax l.length cx, .int .i64 n] from (hdr.block _ Sl.out.lt).trans Sl.out)
  have So := Lib.hid (show Str w8.drew (w3.heap.size) 25 #[.slice ao G.length co, .int .i64 F] from (hdr.block _ So.out.lt).trans So.out)
  have Hb := Lib.hid (below_step Hb.out Hb.out.size hdr)
  refine wp_region_held_drew (S := fun W' => W'.cell? ⟨w3.heap.size, 0, none⟩ = some (.slice ao G.length co) ∧ W'.cell? ⟨w3.heap.size, 1, none⟩ = some (.int .i64 F) ∧ W'.cell? ⟨w1.heap.size, 0, none⟩ = some (.slice ax l.length cx) ∧ W'.cell? ⟨w1.heap.size, 1, none⟩ = some (.int .i64 n)) (by kernel_rfl) ⟨So.out.cell 0 (v := .slice ao G.length co) rfl, So.out.cell 1 (v := .int .i64 F) rfl, Sl.out.cell 0 (v := .slice ax l.length cx) rfl, Sl.out.cell 1 (v := .int .i64 n) rfl⟩ (fun hH => ?_)
  clear hdr
  generalize w8.drew = w9 at *
  refine takeH 0 (v := ?vta1) rfl (by kernel_rfl) (by kernel_rfl) (by kernel_rfl) (fun _ _ _ h => h) hH rfl ?yta1 ?rta1
  case yta1 => intro W hSw; go_simp; try with_reducible rfl
  try simp only [Act.put, List.setIfInBounds_toArray, List.set_cons_zero, List.set_cons_succ]
  refine takeH 2 (v := ?vta2) rfl (by kernel_rfl) (by kernel_rfl) (by kernel_rfl) (fun _ _ _ h => h) hH rfl ?yta2 ?rta2
  case yta2 => intro W hSw; go_simp; try with_reducible rfl
  try simp only [Act.put, List.setIfInBounds_toArray, List.set_cons_zero, List.set_cons_succ]
  refine callH 1 rfl (by kernel_rfl) rfl (fun K hK => ?_)
  go_simp
  refine (HT1.out _ To.out.at).mono ?_
  rintro e1 w10 ⟨rfl, hb⟩
  have Tl := Lib.hid (show Own 3 w10 w.heap.size (.slice ax l.length cx) (l) from Tl.out.below hb)
  have Tx := Lib.hid (show Txs w10 (xs) (.slice av xs.length cv) fx from Tx.out.under hb)
  have To := Lib.hid (show Own 3 w10 w.heap.size (.slice ao (G).length co) (G) from To.out.below hb)
  have Tob := Lib.hid (show OwnB 4 w10 w.heap.size (.slice bbo (Ko).length bco) (Ko) from Tob.out.below hb)
  have Tkb := Lib.hid (show OwnB 4 w10 w.heap.size (.slice bbk (Ko).length bck) (Ko) from Tkb.out.below hb)
  have Sl := Lib.hid (show Str w10 (w1.heap.size) 25 #[.slice ax l.length cx, .int .i64 n] from (hb.block _ Sl.out.lt).trans Sl.out)
  have So := Lib.hid (show Str w10 (w3.heap.size) 25 #[.slice ao G.length co, .int .i64 F] from (hb.block _ So.out.lt).trans So.out)
  have hsw10 := hb.size
  have Hb := Lib.hid (below_step Hb.out Hb.out.size hb)
  clear hb
  refine hK.out _ _ ⟨So.out.cell 0 (v := .slice ao G.length co) rfl, So.out.cell 1 (v := .int .i64 F) rfl, Sl.out.cell 0 (v := .slice ax l.length cx) rfl, Sl.out.cell 1 (v := .int .i64 n) rfl⟩ (fun hH => ?_)
  clear hK K
  try simp only [Act.put, List.setIfInBounds_toArray, List.set_cons_zero, List.set_cons_succ]
  refine callH 3 rfl (by kernel_rfl) rfl (fun K hK => ?_)
  go_simp
  refine (HT2.out _ Tl.out.at).mono ?_
  rintro e1 w11 ⟨rfl, hb⟩
  have Tl := Lib.hid (show Own 3 w11 w.heap.size (.slice ax l.length cx) (l) from Tl.out.below hb)
  have Tx := Lib.hid (show Txs w11 (xs) (.slice av xs.length cv) fx from Tx.out.under hb)
  have To := Lib.hid (show Own 3 w11 w.heap.size (.slice ao (G).length co) (G) from To.out.below hb)
  have Tob := Lib.hid (show OwnB 4 w11 w.heap.size (.slice bbo (Ko).length bco) (Ko) from Tob.out.below hb)
  have Tkb := Lib.hid (show OwnB 4 w11 w.heap.size (.slice bbk (Ko).length bck) (Ko) from Tkb.out.below hb)
  have Sl := Lib.hid (show Str w11 (w1.heap.size) 25 #[.slice ax l.length cx, .int .i64 n] from (hb.block _ Sl.out.lt).trans Sl.out)
  have So := Lib.hid (show Str w11 (w3.heap.size) 25 #[.slice ao G.length co, .int .i64 F] from (hb.block _ So.out.lt).trans So.out)
  have hsw11 := hb.size
  have Hb := Lib.hid (below_step Hb.out Hb.out.size hb)
  clear hb
  refine hK.out _ _ ⟨So.out.cell 0 (v := .slice ao G.length co) rfl, So.out.cell 1 (v := .int .i64 F) rfl, Sl.out.cell 0 (v := .slice ax l.length cx) rfl, Sl.out.cell 1 (v := .int .i64 n) rfl⟩ (fun hH => ?_)
  clear hK K
  try simp only [Act.put, List.setIfInBounds_toArray, List.set_cons_zero, List.set_cons_succ]
  refine takeH 4 (v := ?vta3) rfl (by kernel_rfl) (by kernel_rfl) (by kernel_rfl) (fun _ _ _ h => h) hH rfl ?yta3 ?rta3
  case yta3 => intro W hSw; go_simp; try with_reducible rfl
  try simp only [Act.put, List.setIfInBounds_toArray, List.set_cons_zero, List.set_cons_succ]
  refine takeH 5 (v := ?vta4) rfl (by kernel_rfl) (by kernel_rfl) (by kernel_rfl) (fun _ _ _ h => h) hH rfl ?yta4 ?rta4
  case yta4 => intro W hSw; go_simp; try with_reducible rfl
  try simp only [Act.put, List.setIfInBounds_toArray, List.set_cons_zero, List.set_cons_succ]
  refine takeH 6 (v := ?vta5) rfl (by kernel_rfl) (by kernel_rfl) (by kernel_rfl) (fun _ _ _ h => h) hH rfl ?yta5 ?rta5
  case yta5 => intro W hSw; go_simp; try with_reducible rfl
  try simp only [Act.put, List.setIfInBounds_toArray, List.set_cons_zero, List.set_cons_succ]
  refine callH 7 rfl (by kernel_rfl) rfl (fun K hK => ?_)
  go_simp
  refine (HV.out _ To.out.at).mono ?_
  rintro e1 w12 ⟨rfl, hb⟩
  have Tl := Lib.hid (show Own 3 w12 w.heap.size (.slice ax l.length cx) (l) from Tl.out.below hb)
  have Tx := Lib.hid (show Txs w12 (xs) (.slice av xs.length cv) fx from Tx.out.under hb)
  have To := Lib.hid (show Own 3 w12 w.heap.size (.slice ao (G).length co) (G) from To.out.below hb)
  have Tob := Lib.hid (show OwnB 4 w12 w.heap.size (.slice bbo (Ko).length bco) (Ko) from Tob.out.below hb)
  have Tkb := Lib.hid (show OwnB 4 w12 w.heap.size (.slice bbk (Ko).length bck) (Ko) from Tkb.out.below hb)
  have Sl := Lib.hid (show Str w12 (w1.heap.size) 25 #[.slice ax l.length cx, .int .i64 n] from (hb.block _ Sl.out.lt).trans Sl.out)
  have So := Lib.hid (show Str w12 (w3.heap.size) 25 #[.slice ao G.length co, .int .i64 F] from (hb.block _ So.out.lt).trans So.out)
  have hsw12 := hb.size
  have Hb := Lib.hid (below_step Hb.out Hb.out.size hb)
  clear hb
  refine hK.out _ _ ⟨So.out.cell 0 (v := .slice ao G.length co) rfl, So.out.cell 1 (v := .int .i64 F) rfl, Sl.out.cell 0 (v := .slice ax l.length cx) rfl, Sl.out.cell 1 (v := .int .i64 n) rfl⟩ (fun hH => ?_)
  clear hK K
  try simp only [Act.put, List.setIfInBounds_toArray, List.set_cons_zero, List.set_cons_succ]
  refine takeH 8 (v := ?vta6) rfl (by kernel_rfl) (by kernel_rfl) (by kernel_rfl) (fun _ _ _ h => h) hH rfl ?yta6 ?rta6
  case yta6 => intro W hSw; go_simp; try with_reducible rfl
  try simp only [Act.put, List.setIfInBounds_toArray, List.set_cons_zero, List.set_cons_succ]
  refine takeH 9 (v := ?vta7) rfl (by kernel_rfl) (by kernel_rfl) (by kernel_rfl) (fun _ _ _ h => h) hH rfl ?yta7 ?rta7
  case yta7 => intro W hSw; go_simp; try with_reducible rfl
  try simp only [Act.put, List.setIfInBounds_toArray, List.set_cons_zero, List.set_cons_succ]
  refine wpAnyH_done (by kernel_rfl) ?_ _
  try simp only [Act.put]
  clear hH
  go_wp2
  go_ret
  exact ⟨by first | rfl | exact ret_bool (by simp) | exact ret_bool (by simp; omega), Hb.out⟩

theorem fnLedgerTotal_own : ownKnob Try.prog.godebug = none := by kernel_rfl
theorem fnLedgerTotal_laidOut : laidOutB Try.prog = true := by kernel_rfl

set_option maxRecDepth 8000 in
theorem fnLedgerTotal_lifted (os : Os) (started : os.Started) (H : Type) (enc : TypeId × Value → H) :
    ReturnsInHanded {} Try.checked os 3 .any (Rows.fnLedgerTotalSpec.pre6 enc Try.prog Try.f3 Rows.fnLedgerTotalRow.domain false) (Rows.fnLedgerTotalSpec.post enc Try.prog Try.f3 false true false false) := by
  refine law_lifted (C := Try.checked) (tb := 4) fnLedgerTotal_own fnLedgerTotal_laidOut started (by kernel_rfl) Try.func3 rfl Try.underlying4 rfl (by rw [Try.params3]; exact of_decide_eq_true (by kernel_rfl)) ?_
    (ChangeSpec.witness6 (enc := enc) (C := Try.checked) false ⟨#[], #[.slice none 0 0], []⟩ 8 (by kernel_rfl) (by kernel_rfl) (by kernel_rfl) (by kernel_rfl)) ?_
  · intro ds hds
    rw [Try.params3] at hds
    match ds, hds with
    | [d0], _ => rfl
  · intro W base args ds p hval0 hA0
    have hval : ∀ (j : Nat) t v, Try.f3.params[j]? = some t → args[j]? = some v → Value.okWide Try.prog W .any base t v := hval0
    have hA : DataW.TrodAll enc Try.prog W 0 (fun _ => true) true Try.f3.params.toList args.toList ds p := hA0
    rw [Try.params3] at hA hval
    obtain ⟨v0, vs0, d0, ds0, p0, q0, hargs0, rfl, rfl, h0, r0⟩ := trodAll_cons hA
    obtain ⟨hnil, rfl, rfl⟩ := trodAll_nil r0
    subst hnil
    obtain rfl : args = #[v0] := by cases args; simp_all
    obtain ⟨a0, cap0, zs0, rfl, hk0, hm0, hi0, hw0⟩ := open_slice_ints Try.underlying22 Try.underlying5 (by kernel_rfl) (hval 0 22 v0 rfl rfl) h0
    exact fnLedgerTotal_walk a0 cap0 zs0 W hk0 hm0 hi0 hw0

set_option maxRecDepth 8000 in
theorem fnLedgerTotal_holds : Rows.FnLedgerTotalSaid :=
  OpenClaim.holds_of_wide 3 Try.f3 rfl rfl rfl rfl rfl rfl rfl ⟨rfl, rfl, rfl, rfl, rfl⟩ rfl rfl rfl rfl rfl (by kernel_rfl) Try.func3 (by kernel_rfl)
    (of_decide_eq_true (by kernel_rfl)) (by unfold Func.isWrapper; first | (rw [if_pos (by decide +kernel)]; kernel_rfl) | (rw [if_neg (by decide +kernel)]; exact ⟨rfl, rfl⟩))
    (fun os started H enc _ => fnLedgerTotal_lifted os started H enc)

end Go.Proofs.Ytfnhafgjdnlhiaa
