/- Law FnLedgerStep holds for every input; no conditions of our own. -/
import Derived.Test.YtfnhafgjdnlhiaaRows
import Derived.Test.YtfnhafgjdnlhiaaBu0
import Derived.Test.YtfnhafgjdnlhiaaBu1
import Derived.Test.YtfnhafgjdnlhiaaBu3
import Derived.Test.YtfnhafgjdnlhiaaBu2
import Derived.Deep.QuietTactic
import Derived.BigQuiet
namespace Go.Proofs.Ytfnhafgjdnlhiaa
open Go.ChangeShapes Go.WideShapes Go.ChangeAt Go.RowKit

set_option maxHeartbeats 4000000 in
theorem fnLedgerStep_walk (a : Option Addr) (cap : Nat) (zs : List Int) (w : World) (hk : zs.length ≤ cap) (_hm : zs.length ≤ maxLen) (hi : zs = [] ∨ ∃ b off, a = some ⟨b, off, none⟩ ∧ b < w.heap.size ∧ ∀ j (h : j < zs.length), w.cell? ⟨b, off + j, none⟩ = some (.int .u8 zs[j])) (hw : ∀ z ∈ zs, (Lit.int .u8 z).wf = true) :
    Calls Try.prog 5 #[.slice a zs.length cap] w fun e w' => e = .returned (.bool true) ∧ Below w.heap.size w w' := by
  by_cases hl : 1048576 < zs.length
  · go_enter Try.func5, Try.ntmps5
    go_wp2
    go_ret
    exact ⟨rfl, Below.refl _ _⟩
  have hcode := codeAt_of hk (by omega) hi hw
  have Hcode := Lib.hid hcode; clear hcode hi hw
  go_enter Try.func5, Try.ntmps5
  go_wp2_with fail
  refine (spec_DrawLedgerRun a cap zs _ Hcode.out).mono ?_
  rintro e1 w1 ⟨l, n, ux, xs, vx, rfl, ho, hx, hl6, hx17, hb1⟩
  obtain ⟨ax, cx, rfl, _, _⟩ := ho.ints
  obtain ⟨av, cv, rfl, hcv⟩ := OwnX.sl (l := xs) hx
  obtain ⟨fx, hT⟩ := OwnX.txs (l := xs) hx
  have hw0 := hb1.size
  have Tl := Lib.hid ho; have Tx := Lib.hid hT
  have Hb := Lib.hid hb1
  clear ho hx hT hb1
  have hal : Below w1.heap.size w1 (w1.alloc (.cells #[.slice ax l.length cx, .int .i64 n] 25)) := (Below.refl _ _).alloc (Nat.le_refl _) _
  have Tl := Lib.hid (show Own 3 (w1.alloc (.cells #[.slice ax l.length cx, .int .i64 n] 25)) w.heap.size (.slice ax l.length cx) (l) from Tl.out.below hal)
  have Tx := Lib.hid (show Txs (w1.alloc (.cells #[.slice ax l.length cx, .int .i64 n] 25)) (xs) (.slice av xs.length cv) fx from Tx.out.under hal)
  have Sl := Lib.hid (Str.new w1 25 #[.slice ax l.length cx, .int .i64 n])
  have Hb := Lib.hid (below_step Hb.out Hb.out.size hal)
  clear hal
  obtain ⟨G, hG⟩ : ∃ G, G = ruL l n xs := ⟨_, rfl⟩
  obtain ⟨F, hF⟩ : ∃ F, F = ruF l n xs := ⟨_, rfl⟩
  obtain ⟨Ko, hK⟩ : ∃ Ko, Ko = ruO l n xs := ⟨_, rfl⟩
  have hGl : G.length ≤ 6 := by rw [hG]; exact ru_len l n xs
  have hKl : Ko.length ≤ 16 := by rw [hK]; exact ru_lenO l n xs
  have HI := Lib.hid (fun W (h : IntsAt W ax l) (h3 : Txs W xs (.slice av xs.length cv) fx) => impl_LedgerRun ax cx l n xs _ fx W (by omega) (by omega) h h3)
  have HS := Lib.hid (fun W (h : IntsAt W ax l) (h2 : SrcAt W ax cx l) (h3 : Txs W xs (.slice av xs.length cv) fx) => spec_LedgerRun ax cx l n xs _ fx W (by omega) (by omega) h h2 h3)
  unfold RuP at HI HS
  rw [← hG, ← hF, ← hK] at HI HS
  have HG := Lib.hid hG; have HF := Lib.hid hF; have HK := Lib.hid hK
  have Hl6 := Lib.hid hl6; have Hx17 := Lib.hid hx17; have HGl := Lib.hid hGl; have HKl := Lib.hid hKl
  clear hG hF hK
  have cl_0 := Sl.out.cell 0 (v := .slice ax l.length cx) rfl
  have cl_1 := Sl.out.cell 1 (v := .int .i64 n) rfl
  go_wp2_with fail
  generalize (w1.alloc (.cells #[.slice ax l.length cx, .int .i64 n] 25)) = W2 at *
  clear cl_0 cl_1
  refine (HI.out _ Tl.out.at Tx.out).mono ?_
  rintro e w3 ⟨v, u, rfl, ho, hk, hb⟩
  have hwb := Hb.out.size
  obtain ⟨ao, co, rfl, _, _⟩ := ho.ints
  obtain ⟨bbo, bco, rfl, _⟩ := hk.slice
  have ho' := Lib.hid (ho.mono (show w.heap.size ≤ _ by omega)); have hk' := Lib.hid (hk.mono (show w.heap.size ≤ _ by omega))
  clear ho hk
  have Tl := Lib.hid (show Own 3 w3 w.heap.size (.slice ax l.length cx) (l) from Tl.out.below hb)
  have Tx := Lib.hid (show Txs w3 (xs) (.slice av xs.length cv) fx from Tx.out.under hb)
  have Sl := Lib.hid (show Str w3 (w1.heap.size) 25 #[.slice ax l.length cx, .int .i64 n] from (hb.block _ Sl.out.lt).trans Sl.out)
  have hsw3 := hb.size
  have Hb := Lib.hid (below_step Hb.out Hb.out.size hb)
  have To := Lib.hid (show Own 3 w3 w.heap.size (.slice ao (G).length co) (G) from ho'.out)
  have Tob := Lib.hid (show OwnB 4 w3 w.heap.size (.slice bbo (Ko).length bco) (Ko) from hk'.out)
  clear ho' hk' hb hwb
  have hal : Below w3.heap.size w3 (w3.alloc (.cells #[.slice ao G.length co, .int .i64 F] 25)) := (Below.refl _ _).alloc (Nat.le_refl _) _
  have Tl := Lib.hid (show Own 3 (w3.alloc (.cells #[.slice ao G.length co, .int .i64 F] 25)) w.heap.size (.slice ax l.length cx) (l) from Tl.out.below hal)
  have Tx := Lib.hid (show Txs (w3.alloc (.cells #[.slice ao G.length co, .int .i64 F] 25)) (xs) (.slice av xs.length cv) fx from Tx.out.under hal)
  have To := Lib.hid (show Own 3 (w3.alloc (.cells #[.slice ao G.length co, .int .i64 F] 25)) w.heap.size (.slice ao (G).length co) (G) from To.out.below hal)
  have Tob := Lib.hid (show OwnB 4 (w3.alloc (.cells #[.slice ao G.length co, .int .i64 F] 25)) w.heap.size (.slice bbo (Ko).length bco) (Ko) from Tob.out.below hal)
  have Sl := Lib.hid (show Str (w3.alloc (.cells #[.slice ao G.length co, .int .i64 F] 25)) (w1.heap.size) 25 #[.slice ax l.length cx, .int .i64 n] from Sl.out.alloc _)
  have So := Lib.hid (Str.new w3 25 #[.slice ao G.length co, .int .i64 F])
  have Hb := Lib.hid (below_step Hb.out Hb.out.size hal)
  clear hal
  have cl_0 := Sl.out.cell 0 (v := .slice ax l.length cx) rfl
  have cl_1 := Sl.out.cell 1 (v := .int .i64 n) rfl
  have co_0 := So.out.cell 0 (v := .slice ao G.length co) rfl
  have co_1 := So.out.cell 1 (v := .int .i64 F) rfl
  go_wp2_with fail
  generalize (w3.alloc (.cells #[.slice ao G.length co, .int .i64 F] 25)) = W4 at *
  clear cl_0 cl_1 co_0 co_1
  refine (HS.out _ Tl.out.at (own_src Tl.out) Tx.out).mono ?_
  rintro e w5 ⟨v, u, rfl, ho, hk, hb⟩
  have hwb := Hb.out.size
  obtain ⟨ak, ck, rfl, _, _⟩ := ho.ints
  obtain ⟨bbk, bck, rfl, _⟩ := hk.slice
  have ho' := Lib.hid (ho.mono (show w.heap.size ≤ _ by omega)); have hk' := Lib.hid (hk.mono (show w.heap.size ≤ _ by omega))
  clear ho hk
  have Tl := Lib.hid (show Own 3 w5 w.heap.size (.slice ax l.length cx) (l) from Tl.out.below hb)
  have Tx := Lib.hid (show Txs w5 (xs) (.slice av xs.length cv) fx from Tx.out.under hb)
  have To := Lib.hid (show Own 3 w5 w.heap.size (.slice ao (G).length co) (G) from To.out.below hb)
  have Tob := Lib.hid (show OwnB 4 w5 w.heap.size (.slice bbo (Ko).length bco) (Ko) from Tob.out.below hb)
  have Sl := Lib.hid (show Str w5 (w1.heap.size) 25 #[.slice ax l.length cx, .int .i64 n] from (hb.block _ Sl.out.lt).trans Sl.out)
  have So := Lib.hid (show Str w5 (w3.heap.size) 25 #[.slice ao G.length co, .int .i64 F] from (hb.block _ So.out.lt).trans So.out)
  have hsw5 := hb.size
  have Hb := Lib.hid (below_step Hb.out Hb.out.size hb)
  have Tk := Lib.hid (show Own 3 w5 w.heap.size (.slice ak (G).length ck) (G) from ho'.out)
  have Tkb := Lib.hid (show OwnB 4 w5 w.heap.size (.slice bbk (Ko).length bck) (Ko) from hk'.out)
  clear ho' hk' hb hwb
  have hal : Below w5.heap.size w5 (w5.alloc (.cells #[.slice ak G.length ck, .int .i64 F] 25)) := (Below.refl _ _).alloc (Nat.le_refl _) _
  have Tl := Lib.hid (show Own 3 (w5.alloc (.cells #[.slice ak G.length ck, .int .i64 F] 25)) w.heap.size (.slice ax l.length cx) (l) from Tl.out.below hal)
  have Tx := Lib.hid (show Txs (w5.alloc (.cells #[.slice ak G.length ck, .int .i64 F] 25)) (xs) (.slice av xs.length cv) fx from Tx.out.under hal)
  have To := Lib.hid (show Own 3 (w5.alloc (.cells #[.slice ak G.length ck, .int .i64 F] 25)) w.heap.size (.slice ao (G).length co) (G) from To.out.below hal)
  have Tob := Lib.hid (show OwnB 4 (w5.alloc (.cells #[.slice ak G.length ck, .int .i64 F] 25)) w.heap.size (.slice bbo (Ko).length bco) (Ko) from Tob.out.below hal)
  have Tk := Lib.hid (show Own 3 (w5.alloc (.cells #[.slice ak G.length ck, .int .i64 F] 25)) w.heap.size (.slice ak (G).length ck) (G) from Tk.out.below hal)
  have Tkb := Lib.hid (show OwnB 4 (w5.alloc (.cells #[.slice ak G.length ck, .int .i64 F] 25)) w.heap.size (.slice bbk (Ko).length bck) (Ko) from Tkb.out.below hal)
  have Sl := Lib.hid (show Str (w5.alloc (.cells #[.slice ak G.length ck, .int .i64 F] 25)) (w1.heap.size) 25 #[.slice ax l.length cx, .int .i64 n] from Sl.out.alloc _)
  have So := Lib.hid (show Str (w5.alloc (.cells #[.slice ak G.length ck, .int .i64 F] 25)) (w3.heap.size) 25 #[.slice ao G.length co, .int .i64 F] from So.out.alloc _)
  have Sk := Lib.hid (Str.new w5 25 #[.slice ak G.length ck, .int .i64 F])
  have Hb := Lib.hid (below_step Hb.out Hb.out.size hal)
  clear hal
  clear HI HS
  have cl_0 := Sl.out.cell 0 (v := .slice ax l.length cx) rfl
  have cl_1 := Sl.out.cell 1 (v := .int .i64 n) rfl
  have co_0 := So.out.cell 0 (v := .slice ao G.length co) rfl
  have co_1 := So.out.cell 1 (v := .int .i64 F) rfl
  have ck_0 := Sk.out.cell 0 (v := .slice ak G.length ck) rfl
  have ck_1 := Sk.out.cell 1 (v := .int .i64 F) rfl
  go_wp2_with fail
  generalize (w5.alloc (.cells #[.slice ak G.length ck, .int .i64 F] 25)) = W6 at *
  clear cl_0 cl_1 co_0 co_1 ck_0 ck_1
  refine (laws_sameLedger _ _ _ _ (G) (F) _ (by omega) To.out.at Tk.out.at).mono ?_
  rintro e w7 ⟨rfl, hb⟩
  have Tl := Lib.hid (show Own 3 w7 w.heap.size (.slice ax l.length cx) (l) from Tl.out.below hb)
  have Tx := Lib.hid (show Txs w7 (xs) (.slice av xs.length cv) fx from Tx.out.under hb)
  have To := Lib.hid (show Own 3 w7 w.heap.size (.slice ao (G).length co) (G) from To.out.below hb)
  have Tob := Lib.hid (show OwnB 4 w7 w.heap.size (.slice bbo (Ko).length bco) (Ko) from Tob.out.below hb)
  have Tk := Lib.hid (show Own 3 w7 w.heap.size (.slice ak (G).length ck) (G) from Tk.out.below hb)
  have Tkb := Lib.hid (show OwnB 4 w7 w.heap.size (.slice bbk (Ko).length bck) (Ko) from Tkb.out.below hb)
  have Sl := Lib.hid (show Str w7 (w1.heap.size) 25 #[.slice ax l.length cx, .int .i64 n] from (hb.block _ Sl.out.lt).trans Sl.out)
  have So := Lib.hid (show Str w7 (w3.heap.size) 25 #[.slice ao G.length co, .int .i64 F] from (hb.block _ So.out.lt).trans So.out)
  have Sk := Lib.hid (show Str w7 (w5.heap.size) 25 #[.slice ak G.length ck, .int .i64 F] from (hb.block _ Sk.out.lt).trans Sk.out)
  have hsw7 := hb.size
  have Hb := Lib.hid (below_step Hb.out Hb.out.size hb)
  clear hb
  have cl_0 := Sl.out.cell 0 (v := .slice ax l.length cx) rfl
  have cl_1 := Sl.out.cell 1 (v := .int .i64 n) rfl
  have co_0 := So.out.cell 0 (v := .slice ao G.length co) rfl
  have co_1 := So.out.cell 1 (v := .int .i64 F) rfl
  have ck_0 := Sk.out.cell 0 (v := .slice ak G.length ck) rfl
  have ck_1 := Sk.out.cell 1 (v := .int .i64 F) rfl
  go_wp2_with fail
  clear cl_0 cl_1 co_0 co_1 ck_0 ck_1
  refine (laws_sameBools _ _ _ _ (Ko) _ (by omega) Tob.out.at Tkb.out.at).mono ?_
  rintro e w8 ⟨rfl, hb⟩
  have Tl := Lib.hid (show Own 3 w8 w.heap.size (.slice ax l.length cx) (l) from Tl.out.below hb)
  have Tx := Lib.hid (show Txs w8 (xs) (.slice av xs.length cv) fx from Tx.out.under hb)
  have To := Lib.hid (show Own 3 w8 w.heap.size (.slice ao (G).length co) (G) from To.out.below hb)
  have Tob := Lib.hid (show OwnB 4 w8 w.heap.size (.slice bbo (Ko).length bco) (Ko) from Tob.out.below hb)
  have Tk := Lib.hid (show Own 3 w8 w.heap.size (.slice ak (G).length ck) (G) from Tk.out.below hb)
  have Tkb := Lib.hid (show OwnB 4 w8 w.heap.size (.slice bbk (Ko).length bck) (Ko) from Tkb.out.below hb)
  have Sl := Lib.hid (show Str w8 (w1.heap.size) 25 #[.slice ax l.length cx, .int .i64 n] from (hb.block _ Sl.out.lt).trans Sl.out)
  have So := Lib.hid (show Str w8 (w3.heap.size) 25 #[.slice ao G.length co, .int .i64 F] from (hb.block _ So.out.lt).trans So.out)
  have Sk := Lib.hid (show Str w8 (w5.heap.size) 25 #[.slice ak G.length ck, .int .i64 F] from (hb.block _ Sk.out.lt).trans Sk.out)
  have hsw8 := hb.size
  have Hb := Lib.hid (below_step Hb.out Hb.out.size hb)
  clear hb
  have hbr : ruB l n xs = true ∨ ruB l n xs = false := by cases ruB l n xs <;> simp
  rcases hbr with hbr | hbr
  case inr =>
    obtain ⟨q1, q2, q3⟩ := ru_no hbr
    have hG0 : G.length = 0 := by rw [HG.out, q1]; rfl
    have hz : ((G.length : Int) == 0) = true := by rw [beq_iff_eq]; omega
    clear q1 q2 q3 hbr hG0 HG HF HK
    have cl_0 := Sl.out.cell 0 (v := .slice ax l.length cx) rfl
    have cl_1 := Sl.out.cell 1 (v := .int .i64 n) rfl
    have co_0 := So.out.cell 0 (v := .slice ao G.length co) rfl
    have co_1 := So.out.cell 1 (v := .int .i64 F) rfl
    have ck_0 := Sk.out.cell 0 (v := .slice ak G.length ck) rfl
    have ck_1 := Sk.out.cell 1 (v := .int .i64 F) rfl
    go_wp2_with fail
    clear cl_0 cl_1 co_0 co_1 ck_0 ck_1
    refine (laws_sameLedger _ _ _ _ (G) (F) _ (by omega) To.out.at Tk.out.at).mono ?_
    rintro e w9 ⟨rfl, hb⟩
    have Tl := Lib.hid (show Own 3 w9 w.heap.size (.slice ax l.length cx) (l) from Tl.out.below hb)
    have Tx := Lib.hid (show Txs w9 (xs) (.slice av xs.length cv) fx from Tx.out.under hb)
    have To := Lib.hid (show Own 3 w9 w.heap.size (.slice ao (G).length co) (G) from To.out.below hb)
    have Tob := Lib.hid (show OwnB 4 w9 w.heap.size (.slice bbo (Ko).length bco) (Ko) from Tob.out.below hb)
    have Tk := Lib.hid (show Own 3 w9 w.heap.size (.slice ak (G).length ck) (G) from Tk.out.below hb)
    have Tkb := Lib.hid (show OwnB 4 w9 w.heap.size (.slice bbk (Ko).length bck) (Ko) from Tkb.out.below hb)
    have Sl := Lib.hid (show Str w9 (w1.heap.size) 25 #[.slice ax l.length cx, .int .i64 n] from (hb.block _ Sl.out.lt).trans Sl.out)
    have So := Lib.hid (show Str w9 (w3.heap.size) 25 #[.slice ao G.length co, .int .i64 F] from (hb.block _ So.out.lt).trans So.out)
    have Sk := Lib.hid (show Str w9 (w5.heap.size) 25 #[.slice ak G.length ck, .int .i64 F] from (hb.block _ Sk.out.lt).trans Sk.out)
    have hsw9 := hb.size
    have Hb := Lib.hid (below_step Hb.out Hb.out.size hb)
    clear hb
    have cl_0 := Sl.out.cell 0 (v := .slice ax l.length cx) rfl
    have cl_1 := Sl.out.cell 1 (v := .int .i64 n) rfl
    have co_0 := So.out.cell 0 (v := .slice ao G.length co) rfl
    have co_1 := So.out.cell 1 (v := .int .i64 F) rfl
    have ck_0 := Sk.out.cell 0 (v := .slice ak G.length ck) rfl
    have ck_1 := Sk.out.cell 1 (v := .int .i64 F) rfl
    go_wp2_with fail
    clear cl_0 cl_1 co_0 co_1 ck_0 ck_1
    refine (laws_sameBools _ _ _ _ (Ko) _ (by omega) Tob.out.at Tkb.out.at).mono ?_
    rintro e w10 ⟨rfl, hb⟩
    have Tl := Lib.hid (show Own 3 w10 w.heap.size (.slice ax l.length cx) (l) from Tl.out.below hb)
    have Tx := Lib.hid (show Txs w10 (xs) (.slice av xs.length cv) fx from Tx.out.under hb)
    have To := Lib.hid (show Own 3 w10 w.heap.size (.slice ao (G).length co) (G) from To.out.below hb)
    have Tob := Lib.hid (show OwnB 4 w10 w.heap.size (.slice bbo (Ko).length bco) (Ko) from Tob.out.below hb)
    have Tk := Lib.hid (show Own 3 w10 w.heap.size (.slice ak (G).length ck) (G) from Tk.out.below hb)
    have Tkb := Lib.hid (show OwnB 4 w10 w.heap.size (.slice bbk (Ko).length bck) (Ko) from Tkb.out.below hb)
    have Sl := Lib.hid (show Str w10 (w1.heap.size) 25 #[.slice ax l.length cx, .int .i64 n] from (hb.block _ Sl.out.lt).trans Sl.out)
    have So := Lib.hid (show Str w10 (w3.heap.size) 25 #[.slice ao G.length co, .int .i64 F] from (hb.block _ So.out.lt).trans So.out)
    have Sk := Lib.hid (show Str w10 (w5.heap.size) 25 #[.slice ak G.length ck, .int .i64 F] from (hb.block _ Sk.out.lt).trans Sk.out)
    have hsw10 := hb.size
    have Hb := Lib.hid (below_step Hb.out Hb.out.size hb)
    clear hb
    go_wp2
    go_ret
    exact ⟨by first | rfl | exact ret_bool (by simp) | exact ret_bool (by simp; omega), Hb.out⟩
  obtain ⟨hv, hn58, hx16⟩ := ru_iff.1 hbr
  obtain ⟨q1, q2, q3⟩ := ru_yes hbr
  obtain ⟨-, hv2, hn0, -⟩ := ldB_iff.1 hv
  have hz : ((G.length : Int) == 0) = false := by rw [beq_eq_false_iff_ne, HG.out, q1, (rn_len _ _).1]; omega
  have HG := Lib.hid (HG.out.trans q1); have HF := Lib.hid (HF.out.trans q2); have HK := Lib.hid (HK.out.trans q3)
  have H6 := Lib.hid hv2; have Hv := Lib.hid hv; have Hr := Lib.hid hbr
  clear q1 q2 q3 hbr hv2 hv
  have cl_0 := Sl.out.cell 0 (v := .slice ax l.length cx) rfl
  have cl_1 := Sl.out.cell 1 (v := .int .i64 n) rfl
  have ck_0 := Sk.out.cell 0 (v := .slice ak G.length ck) rfl
  have ck_1 := Sk.out.cell 1 (v := .int .i64 F) rfl
  have Hn1 := Lib.hid (show (Value.slice ax l.length cx).ownBlock ≠ some w8.heap.size from fun e => by have := (Tl.out.lt _ e).2; omega)
  have Hn2 := Lib.hid (show w8.heap.size ≠ w3.heap.size from by have := So.out.lt; omega)
  have Hn3 := Lib.hid (show (Value.slice ao G.length co).ownBlock ≠ some w8.heap.size from fun e => by have := (To.out.lt _ e).2; omega)
  have Hn4 := Lib.hid (show (Value.slice bbo Ko.length bco).ownBlock ≠ some w8.heap.size from fun e => by have := (Tob.out.lt _ e).2; omega)
  have Hn5 := Lib.hid (show w8.heap.size ∉ fx from fun hm => by have := Rd.lt Tx.out _ hm; omega)
  have Hn6 := Lib.hid (show w.heap.size ≤ w8.heap.size from Hb.out.size)
  have hal : Below w8.heap.size w8 (w8.alloc (.cells #[.slice ax l.length cx, .int .i64 n] 25)) := (Below.refl _ _).alloc (Nat.le_refl _) _
  have Tl := Lib.hid (show Own 3 (w8.alloc (.cells #[.slice ax l.length cx, .int .i64 n] 25)) w.heap.size (.slice ax l.length cx) (l) from Tl.out.below hal)
  have Tx := Lib.hid (show Txs (w8.alloc (.cells #[.slice ax l.length cx, .int .i64 n] 25)) (xs) (.slice av xs.length cv) fx from Tx.out.under hal)
  have To := Lib.hid (show Own 3 (w8.alloc (.cells #[.slice ax l.length cx, .int .i64 n] 25)) w.heap.size (.slice ao (G).length co) (G) from To.out.below hal)
  have Tob := Lib.hid (show OwnB 4 (w8.alloc (.cells #[.slice ax l.length cx, .int .i64 n] 25)) w.heap.size (.slice bbo (Ko).length bco) (Ko) from Tob.out.below hal)
  have Tk := Lib.hid (show Own 3 (w8.alloc (.cells #[.slice ax l.length cx, .int .i64 n] 25)) w.heap.size (.slice ak (G).length ck) (G) from Tk.out.below hal)
  have Tkb := Lib.hid (show OwnB 4 (w8.alloc (.cells #[.slice ax l.length cx, .int .i64 n] 25)) w.heap.size (.slice bbk (Ko).length bck) (Ko) from Tkb.out.below hal)
  have Sl := Lib.hid (show Str (w8.alloc (.cells #[.slice ax l.length cx, .int .i64 n] 25)) (w1.heap.size) 25 #[.slice ax l.length cx, .int .i64 n] from Sl.out.alloc _)
  have So := Lib.hid (show Str (w8.alloc (.cells #[.slice ax l.length cx, .int .i64 n] 25)) (w3.heap.size) 25 #[.slice ao G.length co, .int .i64 F] from So.out.alloc _)
  have Sk := Lib.hid (show Str (w8.alloc (.cells #[.slice ax l.length cx, .int .i64 n] 25)) (w5.heap.size) 25 #[.slice ak G.length ck, .int .i64 F] from Sk.out.alloc _)
  have Sy := Lib.hid (Str.new w8 25 #[.slice ax l.length cx, .int .i64 n])
  have Hb := Lib.hid (below_step Hb.out Hb.out.size hal)
  clear hal
  go_wp2
  generalize (w8.alloc (.cells #[.slice ax l.length cx, .int .i64 n] 25)) = W9 at *
  clear cl_0 cl_1 ck_0 ck_1
  skip
  have hOl := Sy.out.lt
  obtain ⟨O, hO⟩ : ∃ O, O = w8.heap.size := ⟨_, rfl⟩
  have HR := Lib.hid (show Lsw 25 3 4 w O (w3.heap.size) ax cx l n ao co G F (.slice bbo Ko.length bco) Ko (.slice av xs.length cv) xs fx W9 from ⟨by rw [hO]; exact Sy.out, Tl.out, So.out, To.out, Tob.out, Tx.out, (by rw [hO]; exact Hn1.out), (by rw [hO]; exact Hn2.out), (by rw [hO]; exact Hn3.out), (by rw [hO]; exact Hn4.out), (by rw [hO]; exact Hn5.out), (by rw [hO]; exact Hn6.out), Hb.out⟩)
  rw [← hO]
  clear hO hOl
  clear Hn1 Hn2 Hn3 Hn4 Hn5 Hn6 Sl So Sk Sy Tl To Tk Tx Tob Tkb Hb
  have hL0 : rnL l (xs.take 0) = l := rfl
  have hF0 : rnF l n (xs.take 0) = n := rfl
  have Hv2 := Lib.hid (fun k (h : k ≤ xs.length) => rn_ok Hv.out (show n + 9 * (xs.length : Int) ≤ 5994 by omega) k h)
  have HFk := Lib.hid (fun k => rn_fee (xs.take k) l n)
  have HKo := Lib.hid (show ∀ k (h : k < Ko.length) (h' : k < xs.length), Ko[k] = okT (rnL l (xs.take k)) xs[k] from fun k h h' => by have e := HK.out; subst e; exact rnO_at xs l k h h')
  have HKl := Lib.hid (show Ko.length = xs.length by rw [HK.out, (rn_len _ _).2])
  go_loopw [10] (fun i wr => ∃ (k : Nat) (ua : Option Addr) (uc : Nat), k ≤ xs.length ∧ i = .int .i64 k ∧ Lsw 25 3 4 w O (w3.heap.size) ua uc (rnL l (xs.take k)) (rnF l n (xs.take k)) ao co G F (.slice bbo Ko.length bco) Ko (.slice av xs.length cv) xs fx wr) (fun i _ => xs.length - (intOf i).toNat)
  case atStart => exact ⟨0, ax, cx, by omega, rfl, by rw [hL0, hF0]; exact HR.out⟩
  case round =>
    clear HR hL0 hF0
    obtain ⟨k, ua, uc, hk, rfl, hr⟩ := hrel
    have HR := Lib.hid hr; clear hr
    have Hvk := Lib.hid (Hv2.out k hk)
    have hfk := HFk.out k
    have HLk := Lib.hid (show (rnL l (xs.take k)).length = l.length from (rn_len _ _).1)
    have htl : (xs.take k).length ≤ k := by rw [List.length_take]; omega
    by_cases hlt : k < xs.length
    case pos =>
      have Htk := Lib.hid (rn_take hlt l n)
      have hlt' : (k : Int) < (xs.length : Int) := by omega
      obtain ⟨tb, toff, rfl, htb, hcc⟩ := HR.out.tx.at (by omega)
      clear hcc
      have hkk : k < Ko.length := by have := HKl.out; omega
      have Hkk := Lib.hid (HKo.out k hkk hlt)
      have hkk' : (k : Int) < (Ko.length : Int) := by omega
      obtain ⟨L, hL⟩ : ∃ L, L = rnL l (xs.take k) := ⟨_, rfl⟩
      obtain ⟨m, hm⟩ : ∃ m, m = rnF l n (xs.take k) := ⟨_, rfl⟩
      rw [← hL, ← hm] at HR Hvk
      rw [← hm] at hfk
      rw [← hL] at HLk Hkk
      rw [← hL, ← hm] at Htk
      clear hL hm
      have HCk := Lib.hid (fun W (hb : Txs W xs (.slice (some ⟨tb, toff, none⟩) xs.length cv) fx) => (show W.cell? ⟨tb, toff + k * 4, none⟩ = some (.int .i64 xs[k].f) ∧ W.cell? ⟨tb, toff + k * 4 + 1, none⟩ = some (.int .i64 xs[k].t) ∧ W.cell? ⟨tb, toff + k * 4 + 2, none⟩ = some (.int .i64 xs[k].s) ∧ W.cell? ⟨tb, toff + k * 4 + 3, none⟩ = some (.int .i64 xs[k].e) from by obtain ⟨b', o', e, _, hc⟩ := hb.at (by omega); simp only [Option.some.injEq, Addr.mk.injEq, and_true] at e; obtain ⟨rfl, rfl⟩ := e; exact hc k hlt))
      have hroom : roomB L m 1 = true := room_iff.2 ⟨Hvk.out, by omega⟩
      have hA := fun W ua uc (h : IntsAt W ua L) => impl_LedgerApply ua uc L m xs[k] W (by have := HLk.out; omega) h
      unfold LaP agT at hA
      rw [(la_yes hroom).1, (la_yes hroom).2.1, (la_yes hroom).2.2] at hA
      have HA := Lib.hid hA; clear hA hroom
      generalize xs[k] = x at *
      have hdr : Below wr.heap.size wr wr.drew := (Below.refl _ _).drew
      go_wp2_with fail
      have HR := Lib.hid (HR.out.below hdr); clear hdr
      refine wp_region_held_drew (S := fun w' => w'.cell? ⟨tb, toff + k * 4, none⟩ = some (.int .i64 x.f) ∧ w'.cell? ⟨tb, toff + k * 4 + 1, none⟩ = some (.int .i64 x.t) ∧ w'.cell? ⟨tb, toff + k * 4 + 2, none⟩ = some (.int .i64 x.s) ∧ w'.cell? ⟨tb, toff + k * 4 + 3, none⟩ = some (.int .i64 x.e) ∧ w'.cell? ⟨O, 0, none⟩ = some (.slice ua L.length uc) ∧ w'.cell? ⟨O, 1, none⟩ = some (.int .i64 m)) (by kernel_rfl) ⟨(HCk.out _ HR.out.tx).1, (HCk.out _ HR.out.tx).2.1, (HCk.out _ HR.out.tx).2.2.1, (HCk.out _ HR.out.tx).2.2.2, HR.out.sx.cell 0 rfl, HR.out.sx.cell 1 rfl⟩ (fun hH => ?_)
      generalize wr.drew = wd at *
      refine takeH 0 (v := ?vst1) rfl (by kernel_rfl) (by kernel_rfl) (by kernel_rfl) (fun _ _ _ h => h) hH rfl ?yst1 ?rst1
      case yst1 => intro W hSw; go_simp; try with_reducible rfl
      try simp only [Act.put, List.setIfInBounds_toArray, List.set_cons_zero, List.set_cons_succ]
      refine takeH 1 (v := ?vst2) rfl (by kernel_rfl) (by kernel_rfl) (by kernel_rfl) (fun _ _ _ h => h) hH rfl ?yst2 ?rst2
      case yst2 => intro W hSw; go_simp; try with_reducible rfl
      try simp only [Act.put, List.setIfInBounds_toArray, List.set_cons_zero, List.set_cons_succ]
      refine takeH 2 (v := ?vst3) rfl (by kernel_rfl) (by kernel_rfl) (by kernel_rfl) (fun _ _ _ h => h) hH rfl ?yst3 ?rst3
      case yst3 => intro W hSw; go_simp; try with_reducible rfl
      try simp only [Act.put, List.setIfInBounds_toArray, List.set_cons_zero, List.set_cons_succ]
      refine takeH 3 (v := ?vst4) rfl (by kernel_rfl) (by kernel_rfl) (by kernel_rfl) (fun _ _ _ h => h) hH rfl ?yst4 ?rst4
      case yst4 => intro W hSw; go_simp; try with_reducible rfl
      try simp only [Act.put, List.setIfInBounds_toArray, List.set_cons_zero, List.set_cons_succ]
      refine takeH 4 (v := ?vst5) rfl (by kernel_rfl) (by kernel_rfl) (by kernel_rfl) (fun _ _ _ h => h) hH rfl ?yst5 ?rst5
      case yst5 => intro W hSw; go_simp; try with_reducible rfl
      try simp only [Act.put, List.setIfInBounds_toArray, List.set_cons_zero, List.set_cons_succ]
      refine twoH 5 9 rfl rfl (by kernel_rfl) rfl rfl (fun K hK => ?_) (fun K hK => ?_)
      rotate_left
      · skip
        go_simp
        have hal : Below wd.heap.size wd (wd.alloc (.cells #[.slice none 0 0, .int .i64 0] 25)) := (Below.refl _ _).alloc (Nat.le_refl _) _
        have SX := Lib.hid (Str.new wd 25 #[.slice none 0 0, .int .i64 0])
        have HXO := Lib.hid (HR.out.fresh (Nat.le_refl wd.heap.size))
        have HR := Lib.hid (HR.out.below hal)
        have hX2 : wd.heap.size < (wd.alloc (.cells #[.slice none 0 0, .int .i64 0] 25)).heap.size := by simp
        clear hal
        refine hK.out _ _ ⟨(HCk.out _ HR.out.tx).1, (HCk.out _ HR.out.tx).2.1, (HCk.out _ HR.out.tx).2.2.1, (HCk.out _ HR.out.tx).2.2.2, HR.out.sx.cell 0 rfl, HR.out.sx.cell 1 rfl⟩ (fun hH => ?_)
        clear hK K
        try simp only [Act.put, List.setIfInBounds_toArray, List.set_cons_zero, List.set_cons_succ]
        generalize (wd.alloc (.cells #[.slice none 0 0, .int .i64 0] 25)) = wl at *
        generalize wd.heap.size = X at *
        refine callH 5 rfl (by kernel_rfl) rfl (fun K hK => ?_)
        go_simp
        refine (HA.out _ _ _ HR.out.own.at).mono ?_
        rintro e w7 ⟨v9, rfl, ho9, hb9⟩
        have hsO := HR.out.sx.lt
        have hsw := HR.out.bel.size
        have HR := Lib.hid (HR.out.below hb9)
        have SX := Lib.hid (show Str w7 X 25 #[.slice none 0 0, .int .i64 0] from (hb9.block _ SX.out.lt).trans SX.out)
        generalize apL L x = L2 at *
        obtain ⟨ga, gc, rfl, _, _⟩ := ho9.ints
        have HO9 := Lib.hid (ho9.mono (show w.heap.size ≤ _ by omega))
        have HN9 := Lib.hid (show (Value.slice ga L2.length gc).ownBlock ≠ some O from fun e => by have := (ho9.lt _ e).1; omega)
        have HNX := Lib.hid (show (Value.slice ga L2.length gc).ownBlock ≠ some X from fun e => by have := (ho9.lt _ e).1; have := hX2; omega)
        clear ho9 hb9
        refine hK.out _ _ ⟨(HCk.out _ HR.out.tx).1, (HCk.out _ HR.out.tx).2.1, (HCk.out _ HR.out.tx).2.2.1, (HCk.out _ HR.out.tx).2.2.2, HR.out.sx.cell 0 rfl, HR.out.sx.cell 1 rfl⟩ (fun hH => ?_)
        clear hK K
        try simp only [Act.put, List.setIfInBounds_toArray, List.set_cons_zero, List.set_cons_succ]
        refine takeH 6 (v := ?vst6) rfl (by kernel_rfl) (by kernel_rfl) (by kernel_rfl) (fun _ _ _ h => h) hH rfl ?yst6 ?rst6
        case yst6 => intro W hSw; go_simp; try with_reducible rfl
        try simp only [Act.put, List.setIfInBounds_toArray, List.set_cons_zero, List.set_cons_succ]
        refine takeH 7 (v := ?vst7) rfl (by kernel_rfl) (by kernel_rfl) (by kernel_rfl) (fun _ _ _ h => h) hH rfl ?yst7 ?rst7
        case yst7 => intro W hSw; go_simp; try with_reducible rfl
        try simp only [Act.put, List.setIfInBounds_toArray, List.set_cons_zero, List.set_cons_succ]
        refine takeH 8 (v := ?vst8) rfl (by kernel_rfl) (by kernel_rfl) (by kernel_rfl) (fun _ _ _ h => h) hH rfl ?yst8 ?rst8
        case yst8 => intro W hSw; go_simp; try with_reducible rfl
        try simp only [Act.put, List.setIfInBounds_toArray, List.set_cons_zero, List.set_cons_succ]
        refine callH 10 rfl (by kernel_rfl) rfl (fun K hK => ?_)
        have y0 := SX.out.frozen 0
        have y1 := SX.out.frozen 1
        have v0 := SX.out.cell 0 (v := .slice none 0 0) rfl
        have v1 := SX.out.cell 1 (v := .int .i64 0) rfl
        go_simp
        clear y0 y1 v0 v1
        have HR := Lib.hid ((HR.out.other HXO.out.1 HXO.out.2.1 HXO.out.2.2.1 HXO.out.2.2.2.1 HXO.out.2.2.2.2.1 HXO.out.2.2.2.2.2.1 HXO.out.2.2.2.2.2.2 0 (.slice ga L2.length gc)).other HXO.out.1 HXO.out.2.1 HXO.out.2.2.1 HXO.out.2.2.2.1 HXO.out.2.2.2.2.1 HXO.out.2.2.2.2.2.1 HXO.out.2.2.2.2.2.2 1 (.int .i64 (apF L m x)))
        have SX := Lib.hid ((SX.out.set 0 (.slice ga L2.length gc)).set 1 (.int .i64 (apF L m x)))
        have HO9 := Lib.hid ((HO9.out.set_other HNX.out 0 (.slice ga L2.length gc)).set_other HNX.out 1 (.int .i64 (apF L m x)))
        refine hK.out _ _ ⟨(HCk.out _ HR.out.tx).1, (HCk.out _ HR.out.tx).2.1, (HCk.out _ HR.out.tx).2.2.1, (HCk.out _ HR.out.tx).2.2.2, HR.out.sx.cell 0 rfl, HR.out.sx.cell 1 rfl⟩ (fun hH => ?_)
        clear hK K
        try simp only [Act.put, List.setIfInBounds_toArray, List.set_cons_zero, List.set_cons_succ]
        generalize ((w7.setCell ⟨X, 0, none⟩ (.slice ga L2.length gc)).setCell ⟨X, 1, none⟩ (.int .i64 (apF L m x))) = we at *
        refine callH 11 rfl (by kernel_rfl) rfl (fun K hK => ?_)
        go_simp
        refine hK.out _ _ ⟨(HCk.out _ HR.out.tx).1, (HCk.out _ HR.out.tx).2.1, (HCk.out _ HR.out.tx).2.2.1, (HCk.out _ HR.out.tx).2.2.2, HR.out.sx.cell 0 rfl, HR.out.sx.cell 1 rfl⟩ (fun hH => ?_)
        clear hK K
        try simp only [Act.put, List.setIfInBounds_toArray, List.set_cons_zero, List.set_cons_succ]
        refine wpAnyH_done (by kernel_rfl) ?_ _
        try simp only [Act.put]
        clear hH
        obtain ⟨kb, koff, hkb, _, hkc⟩ := HR.out.ob.at.cell (by omega)
        have ck := hkc k hkk
        clear hkc
        have Hk9 := Lib.hid Hkk.out
        generalize Ko[k] = bk at *
        obtain rfl := Hk9.out
        have hnn : (okT L x != okT L x) = false := by simp
        subst hkb
        have y0 := HR.out.sx.frozen 0
        have y1 := HR.out.sx.frozen 1
        have v0 := HR.out.sx.cell 0 (v := .slice ua L.length uc) rfl
        have v1 := HR.out.sx.cell 1 (v := .int .i64 m) rfl
        have x0 := SX.out.cell 0 (v := .slice ga L2.length gc) rfl
        have x1 := SX.out.cell 1 (v := .int .i64 (apF L m x)) rfl
        have HR := Lib.hid (HR.out.move (m2 := apF L m x) HO9.out HN9.out)
        go_wp2
        go_roundw
        case rel => exact ⟨k + 1, ga, gc, by omega, by go_num, by rw [Htk.out.1, Htk.out.2.1]; exact HR.out⟩
        case measure => simp [intOf]; omega
      go_simp
      refine (HA.out _ _ _ HR.out.own.at).mono ?_
      rintro e w7 ⟨v9, rfl, ho9, hb9⟩
      have hsO := HR.out.sx.lt
      have hsw := HR.out.bel.size
      have HR := Lib.hid (HR.out.below hb9)
      generalize apL L x = L2 at *
      obtain ⟨ga, gc, rfl, _, _⟩ := ho9.ints
      have HO9 := Lib.hid (ho9.mono (show w.heap.size ≤ _ by omega))
      have HN9 := Lib.hid (show (Value.slice ga L2.length gc).ownBlock ≠ some O from fun e => by have := (ho9.lt _ e).1; omega)
      clear ho9 hb9
      refine hK.out _ _ ⟨(HCk.out _ HR.out.tx).1, (HCk.out _ HR.out.tx).2.1, (HCk.out _ HR.out.tx).2.2.1, (HCk.out _ HR.out.tx).2.2.2, HR.out.sx.cell 0 rfl, HR.out.sx.cell 1 rfl⟩ (fun hH => ?_)
      clear hK K
      try simp only [Act.put, List.setIfInBounds_toArray, List.set_cons_zero, List.set_cons_succ]
      refine takeH 6 (v := ?vst9) rfl (by kernel_rfl) (by kernel_rfl) (by kernel_rfl) (fun _ _ _ h => h) hH rfl ?yst9 ?rst9
      case yst9 => intro W hSw; go_simp; try with_reducible rfl
      try simp only [Act.put, List.setIfInBounds_toArray, List.set_cons_zero, List.set_cons_succ]
      refine takeH 7 (v := ?vst10) rfl (by kernel_rfl) (by kernel_rfl) (by kernel_rfl) (fun _ _ _ h => h) hH rfl ?yst10 ?rst10
      case yst10 => intro W hSw; go_simp; try with_reducible rfl
      try simp only [Act.put, List.setIfInBounds_toArray, List.set_cons_zero, List.set_cons_succ]
      refine takeH 8 (v := ?vst11) rfl (by kernel_rfl) (by kernel_rfl) (by kernel_rfl) (fun _ _ _ h => h) hH rfl ?yst11 ?rst11
      case yst11 => intro W hSw; go_simp; try with_reducible rfl
      try simp only [Act.put, List.setIfInBounds_toArray, List.set_cons_zero, List.set_cons_succ]
      refine callH 9 rfl (by kernel_rfl) rfl (fun K hK => ?_)
      go_simp
      have hal : Below w7.heap.size w7 (w7.alloc (.cells #[.slice none 0 0, .int .i64 0] 25)) := (Below.refl _ _).alloc (Nat.le_refl _) _
      have SX := Lib.hid (Str.new w7 25 #[.slice none 0 0, .int .i64 0])
      have HXO := Lib.hid (HR.out.fresh (Nat.le_refl w7.heap.size))
      have HNX := Lib.hid (show (Value.slice ga L2.length gc).ownBlock ≠ some w7.heap.size from fun e => by have := (HO9.out.lt _ e).2; omega)
      have HO9 := Lib.hid (HO9.out.below hal)
      have HR := Lib.hid (HR.out.below hal)
      have hX2 : w7.heap.size < (w7.alloc (.cells #[.slice none 0 0, .int .i64 0] 25)).heap.size := by simp
      clear hal
      refine hK.out _ _ ⟨(HCk.out _ HR.out.tx).1, (HCk.out _ HR.out.tx).2.1, (HCk.out _ HR.out.tx).2.2.1, (HCk.out _ HR.out.tx).2.2.2, HR.out.sx.cell 0 rfl, HR.out.sx.cell 1 rfl⟩ (fun hH => ?_)
      clear hK K
      try simp only [Act.put, List.setIfInBounds_toArray, List.set_cons_zero, List.set_cons_succ]
      generalize (w7.alloc (.cells #[.slice none 0 0, .int .i64 0] 25)) = wl at *
      generalize w7.heap.size = X at *
      refine callH 10 rfl (by kernel_rfl) rfl (fun K hK => ?_)
      have y0 := SX.out.frozen 0
      have y1 := SX.out.frozen 1
      have v0 := SX.out.cell 0 (v := .slice none 0 0) rfl
      have v1 := SX.out.cell 1 (v := .int .i64 0) rfl
      go_simp
      clear y0 y1 v0 v1
      have HR := Lib.hid ((HR.out.other HXO.out.1 HXO.out.2.1 HXO.out.2.2.1 HXO.out.2.2.2.1 HXO.out.2.2.2.2.1 HXO.out.2.2.2.2.2.1 HXO.out.2.2.2.2.2.2 0 (.slice ga L2.length gc)).other HXO.out.1 HXO.out.2.1 HXO.out.2.2.1 HXO.out.2.2.2.1 HXO.out.2.2.2.2.1 HXO.out.2.2.2.2.2.1 HXO.out.2.2.2.2.2.2 1 (.int .i64 (apF L m x)))
      have SX := Lib.hid ((SX.out.set 0 (.slice ga L2.length gc)).set 1 (.int .i64 (apF L m x)))
      have HO9 := Lib.hid ((HO9.out.set_other HNX.out 0 (.slice ga L2.length gc)).set_other HNX.out 1 (.int .i64 (apF L m x)))
      refine hK.out _ _ ⟨(HCk.out _ HR.out.tx).1, (HCk.out _ HR.out.tx).2.1, (HCk.out _ HR.out.tx).2.2.1, (HCk.out _ HR.out.tx).2.2.2, HR.out.sx.cell 0 rfl, HR.out.sx.cell 1 rfl⟩ (fun hH => ?_)
      clear hK K
      try simp only [Act.put, List.setIfInBounds_toArray, List.set_cons_zero, List.set_cons_succ]
      generalize ((wl.setCell ⟨X, 0, none⟩ (.slice ga L2.length gc)).setCell ⟨X, 1, none⟩ (.int .i64 (apF L m x))) = we at *
      refine callH 11 rfl (by kernel_rfl) rfl (fun K hK => ?_)
      go_simp
      refine hK.out _ _ ⟨(HCk.out _ HR.out.tx).1, (HCk.out _ HR.out.tx).2.1, (HCk.out _ HR.out.tx).2.2.1, (HCk.out _ HR.out.tx).2.2.2, HR.out.sx.cell 0 rfl, HR.out.sx.cell 1 rfl⟩ (fun hH => ?_)
      clear hK K
      try simp only [Act.put, List.setIfInBounds_toArray, List.set_cons_zero, List.set_cons_succ]
      refine wpAnyH_done (by kernel_rfl) ?_ _
      try simp only [Act.put]
      clear hH
      obtain ⟨kb, koff, hkb, _, hkc⟩ := HR.out.ob.at.cell (by omega)
      have ck := hkc k hkk
      clear hkc
      have Hk9 := Lib.hid Hkk.out
      generalize Ko[k] = bk at *
      obtain rfl := Hk9.out
      have hnn : (okT L x != okT L x) = false := by simp
      subst hkb
      have y0 := HR.out.sx.frozen 0
      have y1 := HR.out.sx.frozen 1
      have v0 := HR.out.sx.cell 0 (v := .slice ua L.length uc) rfl
      have v1 := HR.out.sx.cell 1 (v := .int .i64 m) rfl
      have x0 := SX.out.cell 0 (v := .slice ga L2.length gc) rfl
      have x1 := SX.out.cell 1 (v := .int .i64 (apF L m x)) rfl
      have HR := Lib.hid (HR.out.move (m2 := apF L m x) HO9.out HN9.out)
      go_wp2
      go_roundw
      case rel => exact ⟨k + 1, ga, gc, by omega, by go_num, by rw [Htk.out.1, Htk.out.2.1]; exact HR.out⟩
      case measure => simp [intOf]; omega
    case neg =>
      have e : xs.take k = xs := List.take_of_length_le (by omega)
      have hlt' : ¬ (k : Int) < (xs.length : Int) := by omega
      have hR := HR.out
      rw [e, ← HG.out, ← HF.out] at hR
      have HR := Lib.hid hR; clear hR e
      by_cases hx0 : xs.length = 0
      · have hxb : ((xs.length : Int) == 0) = true := by rw [beq_iff_eq]; omega
        clear hx0
        go_wp2
        go_ret
        exact ⟨rfl, HR.out.bel⟩
      have hxb : ((xs.length : Int) == 0) = false := by rw [beq_eq_false_iff_ne]; omega
      clear hx0
      have v0 := HR.out.sx.cell 0 (v := .slice ua G.length uc) rfl
      have v1 := HR.out.sx.cell 1 (v := .int .i64 F) rfl
      have x0 := HR.out.so.cell 0 (v := .slice ao G.length co) rfl
      have x1 := HR.out.so.cell 1 (v := .int .i64 F) rfl
      go_wp2_with fail
      refine (laws_sameLedger _ _ _ _ G F _ (by omega) HR.out.own.at HR.out.ow.at).mono ?_
      rintro e9 w9 ⟨rfl, hb9⟩
      have HR := Lib.hid (HR.out.below hb9)
      clear hb9 v0 v1 x0 x1
      go_wp2
      go_ret
      exact ⟨rfl, HR.out.bel⟩

theorem fnLedgerStep_own : ownKnob Try.prog.godebug = none := by kernel_rfl
theorem fnLedgerStep_laidOut : laidOutB Try.prog = true := by kernel_rfl

set_option maxRecDepth 8000 in
theorem fnLedgerStep_lifted (os : Os) (started : os.Started) (H : Type) (enc : TypeId × Value → H) :
    ReturnsInHanded {} Try.checked os 5 .any (Rows.fnLedgerStepSpec.pre6 enc Try.prog Try.f5 Rows.fnLedgerStepRow.domain false) (Rows.fnLedgerStepSpec.post enc Try.prog Try.f5 false true false false) := by
  refine law_lifted (C := Try.checked) (tb := 4) fnLedgerStep_own fnLedgerStep_laidOut started (by kernel_rfl) Try.func5 rfl Try.underlying4 rfl (by rw [Try.params5]; exact of_decide_eq_true (by kernel_rfl)) ?_
    (ChangeSpec.witness6 (enc := enc) (C := Try.checked) false ⟨#[], #[.slice none 0 0], []⟩ 8 (by kernel_rfl) (by kernel_rfl) (by kernel_rfl) (by kernel_rfl)) ?_
  · intro ds hds
    rw [Try.params5] at hds
    match ds, hds with
    | [d0], _ => rfl
  · intro W base args ds p hval0 hA0
    have hval : ∀ (j : Nat) t v, Try.f5.params[j]? = some t → args[j]? = some v → Value.okWide Try.prog W .any base t v := hval0
    have hA : DataW.TrodAll enc Try.prog W 0 (fun _ => true) true Try.f5.params.toList args.toList ds p := hA0
    rw [Try.params5] at hA hval
    obtain ⟨v0, vs0, d0, ds0, p0, q0, hargs0, rfl, rfl, h0, r0⟩ := trodAll_cons hA
    obtain ⟨hnil, rfl, rfl⟩ := trodAll_nil r0
    subst hnil
    obtain rfl : args = #[v0] := by cases args; simp_all
    obtain ⟨a0, cap0, zs0, rfl, hk0, hm0, hi0, hw0⟩ := open_slice_ints Try.underlying22 Try.underlying5 (by kernel_rfl) (hval 0 22 v0 rfl rfl) h0
    exact fnLedgerStep_walk a0 cap0 zs0 W hk0 hm0 hi0 hw0

set_option maxRecDepth 8000 in
theorem fnLedgerStep_holds : Rows.FnLedgerStepSaid :=
  OpenClaim.holds_of_wide 5 Try.f5 rfl rfl rfl rfl rfl rfl rfl ⟨rfl, rfl, rfl, rfl, rfl⟩ rfl rfl rfl rfl rfl (by kernel_rfl) Try.func5 (by kernel_rfl)
    (of_decide_eq_true (by kernel_rfl)) (by unfold Func.isWrapper; first | (rw [if_pos (by decide +kernel)]; kernel_rfl) | (rw [if_neg (by decide +kernel)]; exact ⟨rfl, rfl⟩))
    (fun os started H enc _ => fnLedgerStep_lifted os started H enc)

end Go.Proofs.Ytfnhafgjdnlhiaa
