/- Law FnLedgerFailed holds for every input; no conditions of our own. -/
import Derived.Test.YtfnhafgjdnlhiaaRows
import Derived.Test.YtfnhafgjdnlhiaaBu0
import Derived.Test.YtfnhafgjdnlhiaaBu1
import Derived.Test.YtfnhafgjdnlhiaaBu3
import Derived.Test.YtfnhafgjdnlhiaaBu2
import Derived.Deep.QuietTactic
import Derived.BigQuiet
namespace Go.Proofs.Ytfnhafgjdnlhiaa
open Go.ChangeShapes Go.WideShapes Go.ChangeAt Go.RowKit

set_option maxHeartbeats 4000000 in
theorem fnLedgerFailed_walk (a : Option Addr) (cap : Nat) (zs : List Int) (w : World) (hk : zs.length ≤ cap) (_hm : zs.length ≤ maxLen) (hi : zs = [] ∨ ∃ b off, a = some ⟨b, off, none⟩ ∧ b < w.heap.size ∧ ∀ j (h : j < zs.length), w.cell? ⟨b, off + j, none⟩ = some (.int .u8 zs[j])) (hw : ∀ z ∈ zs, (Lit.int .u8 z).wf = true) :
    Calls Try.prog 6 #[.slice a zs.length cap] w fun e w' => e = .returned (.bool true) ∧ Below w.heap.size w w' := by
  by_cases hl : 1048576 < zs.length
  · go_enter Try.func6, Try.ntmps6
    go_wp2
    go_ret
    exact ⟨rfl, Below.refl _ _⟩
  have hcode := codeAt_of hk (by omega) hi hw
  have Hcode := Lib.hid hcode; clear hcode hi hw
  go_enter Try.func6, Try.ntmps6
  go_wp2_with fail
  refine (spec_DrawLedgerRun a cap zs _ Hcode.out).mono ?_
  rintro e1 w1 ⟨l, n, ux, xs, vx, rfl, ho, hx, hl6, hx17, hb1⟩
  obtain ⟨ax, cx, rfl, _, _⟩ := ho.ints
  obtain ⟨av, cv, rfl, hcv⟩ := OwnX.sl (l := xs) hx
  obtain ⟨fx, hT⟩ := OwnX.txs (l := xs) hx
  have hw0 := hb1.size
  have Tl := Lib.hid ho; have Tx := Lib.hid hT
  have Hb := Lib.hid hb1
  clear ho hx hT hb1
  have hal : Below w1.heap.size w1 (w1.alloc (.cells #[.slice ax l.length cx, .int .i64 n] 25)) := (Below.refl _ _).alloc (Nat.le_refl _) _
  have Tl := Lib.hid (show Own 3 (w1.alloc (.cells #[.slice ax l.length cx, .int .i64 n] 25)) w.heap.size (.slice ax l.length cx) (l) from Tl.out.below hal)
  have Tx := Lib.hid (show Txs (w1.alloc (.cells #[.slice ax l.length cx, .int .i64 n] 25)) (xs) (.slice av xs.length cv) fx from Tx.out.under hal)
  have Sl := Lib.hid (Str.new w1 25 #[.slice ax l.length cx, .int .i64 n])
  have Hb := Lib.hid (below_step Hb.out Hb.out.size hal)
  clear hal
  obtain ⟨G, hG⟩ : ∃ G, G = ruL l n xs := ⟨_, rfl⟩
  obtain ⟨F, hF⟩ : ∃ F, F = ruF l n xs := ⟨_, rfl⟩
  obtain ⟨Ko, hK⟩ : ∃ Ko, Ko = ruO l n xs := ⟨_, rfl⟩
  have hGl : G.length ≤ 6 := by rw [hG]; exact ru_len l n xs
  have hKl : Ko.length ≤ 16 := by rw [hK]; exact ru_lenO l n xs
  have HI := Lib.hid (fun W (h : IntsAt W ax l) (h3 : Txs W xs (.slice av xs.length cv) fx) => impl_LedgerRun ax cx l n xs _ fx W (by omega) (by omega) h h3)
  have HS := Lib.hid (fun W (h : IntsAt W ax l) (h2 : SrcAt W ax cx l) (h3 : Txs W xs (.slice av xs.length cv) fx) => spec_LedgerRun ax cx l n xs _ fx W (by omega) (by omega) h h2 h3)
  unfold RuP at HI HS
  rw [← hG, ← hF, ← hK] at HI HS
  have HG := Lib.hid hG; have HF := Lib.hid hF; have HK := Lib.hid hK
  have Hl6 := Lib.hid hl6; have Hx17 := Lib.hid hx17; have HGl := Lib.hid hGl; have HKl := Lib.hid hKl
  clear hG hF hK
  have cl_0 := Sl.out.cell 0 (v := .slice ax l.length cx) rfl
  have cl_1 := Sl.out.cell 1 (v := .int .i64 n) rfl
  go_wp2_with fail
  generalize (w1.alloc (.cells #[.slice ax l.length cx, .int .i64 n] 25)) = W2 at *
  clear cl_0 cl_1
  refine (HI.out _ Tl.out.at Tx.out).mono ?_
  rintro e w3 ⟨v, u, rfl, ho, hk, hb⟩
  have hwb := Hb.out.size
  obtain ⟨ao, co, rfl, _, _⟩ := ho.ints
  obtain ⟨bbo, bco, rfl, _⟩ := hk.slice
  have ho' := Lib.hid (ho.mono (show w.heap.size ≤ _ by omega)); have hk' := Lib.hid (hk.mono (show w.heap.size ≤ _ by omega))
  clear ho hk
  have Tl := Lib.hid (show Own 3 w3 w.heap.size (.slice ax l.length cx) (l) from Tl.out.below hb)
  have Tx := Lib.hid (show Txs w3 (xs) (.slice av xs.length cv) fx from Tx.out.under hb)
  have Sl := Lib.hid (show Str w3 (w1.heap.size) 25 #[.slice ax l.length cx, .int .i64 n] from (hb.block _ Sl.out.lt).trans Sl.out)
  have hsw3 := hb.size
  have Hb := Lib.hid (below_step Hb.out Hb.out.size hb)
  have To := Lib.hid (show Own 3 w3 w.heap.size (.slice ao (G).length co) (G) from ho'.out)
  have Tob := Lib.hid (show OwnB 4 w3 w.heap.size (.slice bbo (Ko).length bco) (Ko) from hk'.out)
  clear ho' hk' hb hwb
  have hal : Below w3.heap.size w3 (w3.alloc (.cells #[.slice ao G.length co, .int .i64 F] 25)) := (Below.refl _ _).alloc (Nat.le_refl _) _
  have Tl := Lib.hid (show Own 3 (w3.alloc (.cells #[.slice ao G.length co, .int .i64 F] 25)) w.heap.size (.slice ax l.length cx) (l) from Tl.out.below hal)
  have Tx := Lib.hid (show Txs (w3.alloc (.cells #[.slice ao G.length co, .int .i64 F] 25)) (xs) (.slice av xs.length cv) fx from Tx.out.under hal)
  have To := Lib.hid (show Own 3 (w3.alloc (.cells #[.slice ao G.length co, .int .i64 F] 25)) w.heap.size (.slice ao (G).length co) (G) from To.out.below hal)
  have Tob := Lib.hid (show OwnB 4 (w3.alloc (.cells #[.slice ao G.length co, .int .i64 F] 25)) w.heap.size (.slice bbo (Ko).length bco) (Ko) from Tob.out.below hal)
  have Sl := Lib.hid (show Str (w3.alloc (.cells #[.slice ao G.length co, .int .i64 F] 25)) (w1.heap.size) 25 #[.slice ax l.length cx, .int .i64 n] from Sl.out.alloc _)
  have So := Lib.hid (Str.new w3 25 #[.slice ao G.length co, .int .i64 F])
  have Hb := Lib.hid (below_step Hb.out Hb.out.size hal)
  clear hal
  have cl_0 := Sl.out.cell 0 (v := .slice ax l.length cx) rfl
  have cl_1 := Sl.out.cell 1 (v := .int .i64 n) rfl
  have co_0 := So.out.cell 0 (v := .slice ao G.length co) rfl
  have co_1 := So.out.cell 1 (v := .int .i64 F) rfl
  go_wp2_with fail
  generalize (w3.alloc (.cells #[.slice ao G.length co, .int .i64 F] 25)) = W4 at *
  clear cl_0 cl_1 co_0 co_1
  refine (HS.out _ Tl.out.at (own_src Tl.out) Tx.out).mono ?_
  rintro e w5 ⟨v, u, rfl, ho, hk, hb⟩
  have hwb := Hb.out.size
  obtain ⟨ak, ck, rfl, _, _⟩ := ho.ints
  obtain ⟨bbk, bck, rfl, _⟩ := hk.slice
  have ho' := Lib.hid (ho.mono (show w.heap.size ≤ _ by omega)); have hk' := Lib.hid (hk.mono (show w.heap.size ≤ _ by omega))
  clear ho hk
  have Tl := Lib.hid (show Own 3 w5 w.heap.size (.slice ax l.length cx) (l) from Tl.out.below hb)
  have Tx := Lib.hid (show Txs w5 (xs) (.slice av xs.length cv) fx from Tx.out.under hb)
  have To := Lib.hid (show Own 3 w5 w.heap.size (.slice ao (G).length co) (G) from To.out.below hb)
  have Tob := Lib.hid (show OwnB 4 w5 w.heap.size (.slice bbo (Ko).length bco) (Ko) from Tob.out.below hb)
  have Sl := Lib.hid (show Str w5 (w1.heap.size) 25 #[.slice ax l.length cx, .int .i64 n] from (hb.block _ Sl.out.lt).trans Sl.out)
  have So := Lib.hid (show Str w5 (w3.heap.size) 25 #[.slice ao G.length co, .int .i64 F] from (hb.block _ So.out.lt).trans So.out)
  have hsw5 := hb.size
  have Hb := Lib.hid (below_step Hb.out Hb.out.size hb)
  have Tk := Lib.hid (show Own 3 w5 w.heap.size (.slice ak (G).length ck) (G) from ho'.out)
  have Tkb := Lib.hid (show OwnB 4 w5 w.heap.size (.slice bbk (Ko).length bck) (Ko) from hk'.out)
  clear ho' hk' hb hwb
  have hal : Below w5.heap.size w5 (w5.alloc (.cells #[.slice ak G.length ck, .int .i64 F] 25)) := (Below.refl _ _).alloc (Nat.le_refl _) _
  have Tl := Lib.hid (show Own 3 (w5.alloc (.cells #[.slice ak G.length ck, .int .i64 F] 25)) w.heap.size (.slice ax l.length cx) (l) from Tl.out.below hal)
  have Tx := Lib.hid (show Txs (w5.alloc (.cells #[.slice ak G.length ck, .int .i64 F] 25)) (xs) (.slice av xs.length cv) fx from Tx.out.under hal)
  have To := Lib.hid (show Own 3 (w5.alloc (.cells #[.slice ak G.length ck, .int .i64 F] 25)) w.heap.size (.slice ao (G).length co) (G) from To.out.below hal)
  have Tob := Lib.hid (show OwnB 4 (w5.alloc (.cells #[.slice ak G.length ck, .int .i64 F] 25)) w.heap.size (.slice bbo (Ko).length bco) (Ko) from Tob.out.below hal)
  have Tk := Lib.hid (show Own 3 (w5.alloc (.cells #[.slice ak G.length ck, .int .i64 F] 25)) w.heap.size (.slice ak (G).length ck) (G) from Tk.out.below hal)
  have Tkb := Lib.hid (show OwnB 4 (w5.alloc (.cells #[.slice ak G.length ck, .int .i64 F] 25)) w.heap.size (.slice bbk (Ko).length bck) (Ko) from Tkb.out.below hal)
  have Sl := Lib.hid (show Str (w5.alloc (.cells #[.slice ak G.length ck, .int .i64 F] 25)) (w1.heap.size) 25 #[.slice ax l.length cx, .int .i64 n] from Sl.out.alloc _)
  have So := Lib.hid (show Str (w5.alloc (.cells #[.slice ak G.length ck, .int .i64 F] 25)) (w3.heap.size) 25 #[.slice ao G.length co, .int .i64 F] from So.out.alloc _)
  have Sk := Lib.hid (Str.new w5 25 #[.slice ak G.length ck, .int .i64 F])
  have Hb := Lib.hid (below_step Hb.out Hb.out.size hal)
  clear hal
  clear HI HS
  have cl_0 := Sl.out.cell 0 (v := .slice ax l.length cx) rfl
  have cl_1 := Sl.out.cell 1 (v := .int .i64 n) rfl
  have co_0 := So.out.cell 0 (v := .slice ao G.length co) rfl
  have co_1 := So.out.cell 1 (v := .int .i64 F) rfl
  have ck_0 := Sk.out.cell 0 (v := .slice ak G.length ck) rfl
  have ck_1 := Sk.out.cell 1 (v := .int .i64 F) rfl
  go_wp2_with fail
  generalize (w5.alloc (.cells #[.slice ak G.length ck, .int .i64 F] 25)) = W6 at *
  clear cl_0 cl_1 co_0 co_1 ck_0 ck_1
  refine (laws_sameLedger _ _ _ _ (G) (F) _ (by omega) To.out.at Tk.out.at).mono ?_
  rintro e w7 ⟨rfl, hb⟩
  have Tl := Lib.hid (show Own 3 w7 w.heap.size (.slice ax l.length cx) (l) from Tl.out.below hb)
  have Tx := Lib.hid (show Txs w7 (xs) (.slice av xs.length cv) fx from Tx.out.under hb)
  have To := Lib.hid (show Own 3 w7 w.heap.size (.slice ao (G).length co) (G) from To.out.below hb)
  have Tob := Lib.hid (show OwnB 4 w7 w.heap.size (.slice bbo (Ko).length bco) (Ko) from Tob.out.below hb)
  have Tk := Lib.hid (show Own 3 w7 w.heap.size (.slice ak (G).length ck) (G) from Tk.out.below hb)
  have Tkb := Lib.hid (show OwnB 4 w7 w.heap.size (.slice bbk (Ko).length bck) (Ko) from Tkb.out.below hb)
  have Sl := Lib.hid (show Str w7 (w1.heap.size) 25 #[.slice ax l.length cx, .int .i64 n] from (hb.block _ Sl.out.lt).trans Sl.out)
  have So := Lib.hid (show Str w7 (w3.heap.size) 25 #[.slice ao G.length co, .int .i64 F] from (hb.block _ So.out.lt).trans So.out)
  have Sk := Lib.hid (show Str w7 (w5.heap.size) 25 #[.slice ak G.length ck, .int .i64 F] from (hb.block _ Sk.out.lt).trans Sk.out)
  have hsw7 := hb.size
  have Hb := Lib.hid (below_step Hb.out Hb.out.size hb)
  clear hb
  have cl_0 := Sl.out.cell 0 (v := .slice ax l.length cx) rfl
  have cl_1 := Sl.out.cell 1 (v := .int .i64 n) rfl
  have co_0 := So.out.cell 0 (v := .slice ao G.length co) rfl
  have co_1 := So.out.cell 1 (v := .int .i64 F) rfl
  have ck_0 := Sk.out.cell 0 (v := .slice ak G.length ck) rfl
  have ck_1 := Sk.out.cell 1 (v := .int .i64 F) rfl
  go_wp2_with fail
  clear cl_0 cl_1 co_0 co_1 ck_0 ck_1
  refine (laws_sameBools _ _ _ _ (Ko) _ (by omega) Tob.out.at Tkb.out.at).mono ?_
  rintro e w8 ⟨rfl, hb⟩
  have Tl := Lib.hid (show Own 3 w8 w.heap.size (.slice ax l.length cx) (l) from Tl.out.below hb)
  have Tx := Lib.hid (show Txs w8 (xs) (.slice av xs.length cv) fx from Tx.out.under hb)
  have To := Lib.hid (show Own 3 w8 w.heap.size (.slice ao (G).length co) (G) from To.out.below hb)
  have Tob := Lib.hid (show OwnB 4 w8 w.heap.size (.slice bbo (Ko).length bco) (Ko) from Tob.out.below hb)
  have Tk := Lib.hid (show Own 3 w8 w.heap.size (.slice ak (G).length ck) (G) from Tk.out.below hb)
  have Tkb := Lib.hid (show OwnB 4 w8 w.heap.size (.slice bbk (Ko).length bck) (Ko) from Tkb.out.below hb)
  have Sl := Lib.hid (show Str w8 (w1.heap.size) 25 #[.slice ax l.length cx, .int .i64 n] from (hb.block _ Sl.out.lt).trans Sl.out)
  have So := Lib.hid (show Str w8 (w3.heap.size) 25 #[.slice ao G.length co, .int .i64 F] from (hb.block _ So.out.lt).trans So.out)
  have Sk := Lib.hid (show Str w8 (w5.heap.size) 25 #[.slice ak G.length ck, .int .i64 F] from (hb.block _ Sk.out.lt).trans Sk.out)
  have hsw8 := hb.size
  have Hb := Lib.hid (below_step Hb.out Hb.out.size hb)
  clear hb
  have hbr : ruB l n xs = true ∨ ruB l n xs = false := by cases ruB l n xs <;> simp
  rcases hbr with hbr | hbr
  case inr =>
    obtain ⟨q1, q2, q3⟩ := ru_no hbr
    have hG0 : G.length = 0 := by rw [HG.out, q1]; rfl
    have hz : ((G.length : Int) == 0) = true := by rw [beq_iff_eq]; omega
    clear q1 q2 q3 hbr hG0 HG HF HK
    have cl_0 := Sl.out.cell 0 (v := .slice ax l.length cx) rfl
    have cl_1 := Sl.out.cell 1 (v := .int .i64 n) rfl
    have co_0 := So.out.cell 0 (v := .slice ao G.length co) rfl
    have co_1 := So.out.cell 1 (v := .int .i64 F) rfl
    have ck_0 := Sk.out.cell 0 (v := .slice ak G.length ck) rfl
    have ck_1 := Sk.out.cell 1 (v := .int .i64 F) rfl
    go_wp2_with fail
    clear cl_0 cl_1 co_0 co_1 ck_0 ck_1
    refine (laws_sameLedger _ _ _ _ (G) (F) _ (by omega) To.out.at Tk.out.at).mono ?_
    rintro e w9 ⟨rfl, hb⟩
    have Tl := Lib.hid (show Own 3 w9 w.heap.size (.slice ax l.length cx) (l) from Tl.out.below hb)
    have Tx := Lib.hid (show Txs w9 (xs) (.slice av xs.length cv) fx from Tx.out.under hb)
    have To := Lib.hid (show Own 3 w9 w.heap.size (.slice ao (G).length co) (G) from To.out.below hb)
    have Tob := Lib.hid (show OwnB 4 w9 w.heap.size (.slice bbo (Ko).length bco) (Ko) from Tob.out.below hb)
    have Tk := Lib.hid (show Own 3 w9 w.heap.size (.slice ak (G).length ck) (G) from Tk.out.below hb)
    have Tkb := Lib.hid (show OwnB 4 w9 w.heap.size (.slice bbk (Ko).length bck) (Ko) from Tkb.out.below hb)
    have Sl := Lib.hid (show Str w9 (w1.heap.size) 25 #[.slice ax l.length cx, .int .i64 n] from (hb.block _ Sl.out.lt).trans Sl.out)
    have So := Lib.hid (show Str w9 (w3.heap.size) 25 #[.slice ao G.length co, .int .i64 F] from (hb.block _ So.out.lt).trans So.out)
    have Sk := Lib.hid (show Str w9 (w5.heap.size) 25 #[.slice ak G.length ck, .int .i64 F] from (hb.block _ Sk.out.lt).trans Sk.out)
    have hsw9 := hb.size
    have Hb := Lib.hid (below_step Hb.out Hb.out.size hb)
    clear hb
    have cl_0 := Sl.out.cell 0 (v := .slice ax l.length cx) rfl
    have cl_1 := Sl.out.cell 1 (v := .int .i64 n) rfl
    have co_0 := So.out.cell 0 (v := .slice ao G.length co) rfl
    have co_1 := So.out.cell 1 (v := .int .i64 F) rfl
    have ck_0 := Sk.out.cell 0 (v := .slice ak G.length ck) rfl
    have ck_1 := Sk.out.cell 1 (v := .int .i64 F) rfl
    go_wp2_with fail
    clear cl_0 cl_1 co_0 co_1 ck_0 ck_1
    refine (laws_sameBools _ _ _ _ (Ko) _ (by omega) Tob.out.at Tkb.out.at).mono ?_
    rintro e w10 ⟨rfl, hb⟩
    have Tl := Lib.hid (show Own 3 w10 w.heap.size (.slice ax l.length cx) (l) from Tl.out.below hb)
    have Tx := Lib.hid (show Txs w10 (xs) (.slice av xs.length cv) fx from Tx.out.under hb)
    have To := Lib.hid (show Own 3 w10 w.heap.size (.slice ao (G).length co) (G) from To.out.below hb)
    have Tob := Lib.hid (show OwnB 4 w10 w.heap.size (.slice bbo (Ko).length bco) (Ko) from Tob.out.below hb)
    have Tk := Lib.hid (show Own 3 w10 w.heap.size (.slice ak (G).length ck) (G) from Tk.out.below hb)
    have Tkb := Lib.hid (show OwnB 4 w10 w.heap.size (.slice bbk (Ko).length bck) (Ko) from Tkb.out.below hb)
    have Sl := Lib.hid (show Str w10 (w1.heap.size) 25 #[.slice ax l.length cx, .int .i64 n] from (hb.block _ Sl.out.lt).trans Sl.out)
    have So := Lib.hid (show Str w10 (w3.heap.size) 25 #[.slice ao G.length co, .int .i64 F] from (hb.block _ So.out.lt).trans So.out)
    have Sk := Lib.hid (show Str w10 (w5.heap.size) 25 #[.slice ak G.length ck, .int .i64 F] from (hb.block _ Sk.out.lt).trans Sk.out)
    have hsw10 := hb.size
    have Hb := Lib.hid (below_step Hb.out Hb.out.size hb)
    clear hb
    go_wp2
    go_ret
    exact ⟨by first | rfl | exact ret_bool (by simp) | exact ret_bool (by simp; omega), Hb.out⟩
  obtain ⟨hv, hn58, hx16⟩ := ru_iff.1 hbr
  obtain ⟨q1, q2, q3⟩ := ru_yes hbr
  obtain ⟨-, hv2, hn0, -⟩ := ldB_iff.1 hv
  have hz : ((G.length : Int) == 0) = false := by rw [beq_eq_false_iff_ne, HG.out, q1, (rn_len _ _).1]; omega
  have HG := Lib.hid (HG.out.trans q1); have HF := Lib.hid (HF.out.trans q2); have HK := Lib.hid (HK.out.trans q3)
  have H6 := Lib.hid hv2; have Hv := Lib.hid hv; have Hr := Lib.hid hbr
  clear q1 q2 q3 hbr hv2 hv
  have hE : Below w8.heap.size w8 (w8.alloc (.cells #[] 41)) := (Below.refl _ _).alloc (Nat.le_refl _) _
  have hO := OwnX.fresh 41 w8
  have HE := Lib.hid hE; have HO := Lib.hid hO; clear hE hO
  have HKo := Lib.hid (show ∀ k (h : k < Ko.length) (h' : k < xs.length), Ko[k] = okT (rnL l (xs.take k)) xs[k] from fun k h h' => by have e := HK.out; subst e; exact rnO_at xs l k h h')
  have HKl := Lib.hid (show Ko.length = xs.length by rw [HK.out, (rn_len _ _).2])
  have ck_0 := Sk.out.cell 0 (v := .slice ak G.length ck) rfl
  have ck_1 := Sk.out.cell 1 (v := .int .i64 F) rfl
  go_wp2
  clear ck_0 ck_1
  clear Tk
  clear Sk
  generalize (w8.alloc (.cells #[] 41)) = wz at *
  have hs0 : sucL l (xs.take 0) = [] := rfl
  go_loopw [9, 10] (fun u i wr => ∃ k : Nat, k ≤ xs.length ∧ i = .int .i64 k ∧ Below w8.heap.size w8 wr ∧ OwnX 41 wr w8.heap.size u (sucL l (xs.take k))) (fun _ i _ => xs.length - (intOf i).toNat)
  case atStart => exact ⟨0, by omega, rfl, HE.out, by rw [hs0]; exact HO.out⟩
  case round =>
    clear HE HO hs0
    obtain ⟨k, hk, rfl, hbel, hox⟩ := hrel
    obtain ⟨au, cu, rfl, hcu⟩ := OwnX.sl hox
    have Hbel := Lib.hid hbel; have HX := Lib.hid hox; clear hbel hox
    have hwr := Hbel.out.size
    by_cases hlt : k < xs.length
    case pos =>
      have hlt' : (k : Int) < (xs.length : Int) := by omega
      have hkk : k < Ko.length := by have := HKl.out; omega
      have hkk' : (k : Int) < (Ko.length : Int) := by omega
      have Hkk := Lib.hid (HKo.out k hkk hlt)
      have Hst := Lib.hid (suc_take hlt l)
      obtain ⟨kb, koff, hkb, _, hkc⟩ := (Tob.out.below Hbel.out).at.cell (by omega)
      have ck := hkc k hkk
      obtain ⟨tb, toff, hav, _, hcc⟩ := (Tx.out.under Hbel.out).at (by omega)
      obtain ⟨c0, c1, c2, c3⟩ := hcc k hlt
      clear hkc hcc
      have Hsl := Lib.hid (show (sucL l (xs.take k)).length ≤ 17 from Nat.le_trans (suc_len _ _) (by rw [List.length_take]; omega))
      obtain ⟨S, hS⟩ : ∃ S, S = sucL l (xs.take k) := ⟨_, rfl⟩
      rw [← hS] at HX Hst Hsl hcu
      rw [← hS]
      clear hS
      generalize rnL l (xs.take k) = L at *
      generalize Ko[k] = bk at *
      generalize xs[k] = x at *
      have hbk := Hkk.out
      generalize okT L x = b2 at *
      subst hbk
      cases bk with
      | false =>
        subst hkb hav
        have Hs2 := Lib.hid (show sucL l (xs.take (k + 1)) = S from Hst.out.trans (by simp))
        go_wp2
        go_roundw
        case rel => exact ⟨k + 1, by omega, by go_num, Hbel.out, by rw [Hs2.out]; exact HX.out⟩
        case measure => simp [intOf]; omega
      | true =>
        subst hkb hav
        have Hs2 := Lib.hid (show sucL l (xs.take (k + 1)) = S ++ [x] from Hst.out.trans (by simp))
        have hal : Below wr.heap.size wr (wr.alloc (.cells #[.int .i64 x.f, .int .i64 x.t, .int .i64 x.s, .int .i64 x.e] 41)) := (Below.refl _ _).alloc (Nat.le_refl _) _
        have HX := Lib.hid (OwnN.below HX.out hal)
        have Hbel := Lib.hid (below_step Hbel.out Hbel.out.size hal)
        have Hsrc := Lib.hid (show TSrc (wr.alloc (.cells #[.int .i64 x.f, .int .i64 x.t, .int .i64 x.s, .int .i64 x.e] 41)) (some ⟨wr.heap.size, 0, none⟩) 1 [x] from .inr ⟨_, rfl, srcX_one (x := x) (Str.new wr 41 #[.int .i64 x.f, .int .i64 x.t, .int .i64 x.s, .int .i64 x.e])⟩)
        clear hal
        have hol : S.length + 1 ≤ 1048577 := by have := Hsl.out; omega
        have hw9 : w8.heap.size ≤ (wr.alloc (.cells #[.int .i64 x.f, .int .i64 x.t, .int .i64 x.s, .int .i64 x.e] 41)).heap.size := Hbel.out.size
        go_wp2_with (at_builtin; refine wpList_app_X rfl (.tmp 69) (.tmp 74) rfl w8.heap.size (.slice au S.length cu) S [x] (some ⟨wr.heap.size, 0, none⟩) 1 rfl HX.out rfl Hsrc.out hol hw9 ?_; intro v9 w9 ho9 hg9 hat9)
        have Hbel := Lib.hid (Hbel.out.grown hg9 Hbel.out.size (fun g e => (OwnN.lt HX.out g e).1))
        have HX := Lib.hid ho9
        clear ho9 hg9 hat9 c0 c1 c2 c3 ck
        generalize S ++ [x] = ys at *
        go_wp2
        go_roundw
        case rel => exact ⟨k + 1, by omega, by go_num, Hbel.out, by rw [Hs2.out]; exact HX.out⟩
        case measure => simp [intOf]; omega
    case neg =>
      have e : xs.take k = xs := List.take_of_length_le (by omega)
      have hlt' : ¬ (k : Int) < (xs.length : Int) := by omega
      have hX := HX.out
      rw [e] at hX hcu ⊢
      have HX := Lib.hid hX; clear hX e
      obtain ⟨q1, q2, q3⟩ := ru_suc Hr.out
      have hSl := Nat.le_trans (suc_len xs l) hx16
      generalize sucL l xs = S at *
      have Tl := Lib.hid (show Own 3 wr w.heap.size (.slice ax l.length cx) (l) from Tl.out.below Hbel.out)
      have Tx := Lib.hid (show Txs wr (xs) (.slice av xs.length cv) fx from Tx.out.under Hbel.out)
      have To := Lib.hid (show Own 3 wr w.heap.size (.slice ao (G).length co) (G) from To.out.below Hbel.out)
      have Tob := Lib.hid (show OwnB 4 wr w.heap.size (.slice bbo (Ko).length bco) (Ko) from Tob.out.below Hbel.out)
      have Tkb := Lib.hid (show OwnB 4 wr w.heap.size (.slice bbk (Ko).length bck) (Ko) from Tkb.out.below Hbel.out)
      have Sl := Lib.hid (show Str wr (w1.heap.size) 25 #[.slice ax l.length cx, .int .i64 n] from (Hbel.out.block _ Sl.out.lt).trans Sl.out)
      have So := Lib.hid (show Str wr (w3.heap.size) 25 #[.slice ao G.length co, .int .i64 F] from (Hbel.out.block _ So.out.lt).trans So.out)
      have hswr := Hbel.out.size
      have Hb := Lib.hid (below_step Hb.out Hb.out.size Hbel.out)
      obtain ⟨fS, hTS⟩ := OwnX.txs HX.out
      have HI := fun W (h : IntsAt W ax l) (h3 : Txs W S (.slice au S.length cu) fS) => impl_LedgerRun ax cx l n S _ fS W (by omega) (by omega) h h3
      unfold RuP at HI
      rw [q1, q2, ← HG.out, ← HF.out] at HI
      have Hq3 := Lib.hid q3
      have hAl := ru_lenO l n S
      generalize ruO l n S = A at *
      have HI := Lib.hid HI
      have TS := Lib.hid hTS; clear hTS HX q1 q2 q3 Hbel
      have cl_0 := Sl.out.cell 0 (v := .slice ax l.length cx) rfl
      have cl_1 := Sl.out.cell 1 (v := .int .i64 n) rfl
      have co_0 := So.out.cell 0 (v := .slice ao G.length co) rfl
      have co_1 := So.out.cell 1 (v := .int .i64 F) rfl
      go_wp2_with fail
      clear cl_0 cl_1 co_0 co_1
      refine (HI.out _ Tl.out.at TS.out).mono ?_
      rintro e w9 ⟨v, u, rfl, ho, hk, hb⟩
      have hwb := Hb.out.size
      obtain ⟨ay, cy, rfl, _, _⟩ := ho.ints
      obtain ⟨bby, bcy, rfl, _⟩ := hk.slice
      have ho' := Lib.hid (ho.mono (show w.heap.size ≤ _ by omega)); have hk' := Lib.hid (hk.mono (show w.heap.size ≤ _ by omega))
      clear ho hk
      have Tl := Lib.hid (show Own 3 w9 w.heap.size (.slice ax l.length cx) (l) from Tl.out.below hb)
      have Tx := Lib.hid (show Txs w9 (xs) (.slice av xs.length cv) fx from Tx.out.under hb)
      have To := Lib.hid (show Own 3 w9 w.heap.size (.slice ao (G).length co) (G) from To.out.below hb)
      have Tob := Lib.hid (show OwnB 4 w9 w.heap.size (.slice bbo (Ko).length bco) (Ko) from Tob.out.below hb)
      have Tkb := Lib.hid (show OwnB 4 w9 w.heap.size (.slice bbk (Ko).length bck) (Ko) from Tkb.out.below hb)
      have TS := Lib.hid (show Txs w9 (S) (.slice au S.length cu) fS from TS.out.under hb)
      have Sl := Lib.hid (show Str w9 (w1.heap.size) 25 #[.slice ax l.length cx, .int .i64 n] from (hb.block _ Sl.out.lt).trans Sl.out)
      have So := Lib.hid (show Str w9 (w3.heap.size) 25 #[.slice ao G.length co, .int .i64 F] from (hb.block _ So.out.lt).trans So.out)
      have hsw9 := hb.size
      have Hb := Lib.hid (below_step Hb.out Hb.out.size hb)
      have Ty := Lib.hid (show Own 3 w9 w.heap.size (.slice ay (G).length cy) (G) from ho'.out)
      have Tyb := Lib.hid (show OwnB 4 w9 w.heap.size (.slice bby (A).length bcy) (A) from hk'.out)
      clear ho' hk' hb hwb
      have hal : Below w9.heap.size w9 (w9.alloc (.cells #[.slice ay G.length cy, .int .i64 F] 25)) := (Below.refl _ _).alloc (Nat.le_refl _) _
      have Tl := Lib.hid (show Own 3 (w9.alloc (.cells #[.slice ay G.length cy, .int .i64 F] 25)) w.heap.size (.slice ax l.length cx) (l) from Tl.out.below hal)
      have Tx := Lib.hid (show Txs (w9.alloc (.cells #[.slice ay G.length cy, .int .i64 F] 25)) (xs) (.slice av xs.length cv) fx from Tx.out.under hal)
      have To := Lib.hid (show Own 3 (w9.alloc (.cells #[.slice ay G.length cy, .int .i64 F] 25)) w.heap.size (.slice ao (G).length co) (G) from To.out.below hal)
      have Tob := Lib.hid (show OwnB 4 (w9.alloc (.cells #[.slice ay G.length cy, .int .i64 F] 25)) w.heap.size (.slice bbo (Ko).length bco) (Ko) from Tob.out.below hal)
      have Tkb := Lib.hid (show OwnB 4 (w9.alloc (.cells #[.slice ay G.length cy, .int .i64 F] 25)) w.heap.size (.slice bbk (Ko).length bck) (Ko) from Tkb.out.below hal)
      have TS := Lib.hid (show Txs (w9.alloc (.cells #[.slice ay G.length cy, .int .i64 F] 25)) (S) (.slice au S.length cu) fS from TS.out.under hal)
      have Ty := Lib.hid (show Own 3 (w9.alloc (.cells #[.slice ay G.length cy, .int .i64 F] 25)) w.heap.size (.slice ay (G).length cy) (G) from Ty.out.below hal)
      have Tyb := Lib.hid (show OwnB 4 (w9.alloc (.cells #[.slice ay G.length cy, .int .i64 F] 25)) w.heap.size (.slice bby (A).length bcy) (A) from Tyb.out.below hal)
      have Sl := Lib.hid (show Str (w9.alloc (.cells #[.slice ay G.length cy, .int .i64 F] 25)) (w1.heap.size) 25 #[.slice ax l.length cx, .int .i64 n] from Sl.out.alloc _)
      have So := Lib.hid (show Str (w9.alloc (.cells #[.slice ay G.length cy, .int .i64 F] 25)) (w3.heap.size) 25 #[.slice ao G.length co, .int .i64 F] from So.out.alloc _)
      have Sy := Lib.hid (Str.new w9 25 #[.slice ay G.length cy, .int .i64 F])
      have Hb := Lib.hid (below_step Hb.out Hb.out.size hal)
      clear hal
      go_wp2
      generalize (w9.alloc (.cells #[.slice ay G.length cy, .int .i64 F] 25)) = W10 at *
      go_loopw [13] (fun i wr => ∃ k : Nat, k ≤ A.length ∧ i = .int .i64 k ∧ Drawn W10 wr) (fun i _ => A.length - (intOf i).toNat)
      case atStart => exact ⟨0, by omega, rfl, Drawn.refl _⟩
      case round =>
        clear hlt hlt' hk
        obtain ⟨k, hk, rfl, hwr⟩ := hrel
        by_cases hlt : k < A.length
        case pos =>
          have hlt' : (k : Int) < (A.length : Int) := by omega
          have hAt := Hq3.out _ (List.getElem_mem hlt)
          obtain ⟨kb, koff, hkb, _, hkc⟩ := Tyb.out.at.cell (by omega)
          have ck := (hwr.cell _).trans (hkc k hlt)
          rw [hAt] at ck
          clear hkc hAt
          subst hkb
          go_wp2
          go_roundw
          case rel => exact ⟨k + 1, by omega, by go_num, hwr⟩
          case measure => simp [intOf]; omega
        case neg =>
          have hlt' : ¬ (k : Int) < (A.length : Int) := by omega
          have Tl := Lib.hid (show Own 3 wr w.heap.size (.slice ax l.length cx) (l) from Tl.out.below (hwr.below W10.heap.size))
          have Tx := Lib.hid (show Txs wr (xs) (.slice av xs.length cv) fx from Tx.out.under (hwr.below W10.heap.size))
          have To := Lib.hid (show Own 3 wr w.heap.size (.slice ao (G).length co) (G) from To.out.below (hwr.below W10.heap.size))
          have Tob := Lib.hid (show OwnB 4 wr w.heap.size (.slice bbo (Ko).length bco) (Ko) from Tob.out.below (hwr.below W10.heap.size))
          have Tkb := Lib.hid (show OwnB 4 wr w.heap.size (.slice bbk (Ko).length bck) (Ko) from Tkb.out.below (hwr.below W10.heap.size))
          have TS := Lib.hid (show Txs wr (S) (.slice au S.length cu) fS from TS.out.under (hwr.below W10.heap.size))
          have Ty := Lib.hid (show Own 3 wr w.heap.size (.slice ay (G).length cy) (G) from Ty.out.below (hwr.below W10.heap.size))
          have Tyb := Lib.hid (show OwnB 4 wr w.heap.size (.slice bby (A).length bcy) (A) from Tyb.out.below (hwr.below W10.heap.size))
          have Sl := Lib.hid (show Str wr (w1.heap.size) 25 #[.slice ax l.length cx, .int .i64 n] from ((hwr.below W10.heap.size).block _ Sl.out.lt).trans Sl.out)
          have So := Lib.hid (show Str wr (w3.heap.size) 25 #[.slice ao G.length co, .int .i64 F] from ((hwr.below W10.heap.size).block _ So.out.lt).trans So.out)
          have Sy := Lib.hid (show Str wr (w9.heap.size) 25 #[.slice ay G.length cy, .int .i64 F] from ((hwr.below W10.heap.size).block _ Sy.out.lt).trans Sy.out)
          have hswr := (hwr.below W10.heap.size).size
          have Hb := Lib.hid (below_step Hb.out Hb.out.size (hwr.below W10.heap.size))
          have cy_0 := Sy.out.cell 0 (v := .slice ay G.length cy) rfl
          have cy_1 := Sy.out.cell 1 (v := .int .i64 F) rfl
          have co_0 := So.out.cell 0 (v := .slice ao G.length co) rfl
          have co_1 := So.out.cell 1 (v := .int .i64 F) rfl
          go_wp2_with fail
          clear cy_0 cy_1 co_0 co_1
          refine (laws_sameLedger _ _ _ _ (G) (F) _ (by omega) Ty.out.at To.out.at).mono ?_
          rintro e w11 ⟨rfl, hb⟩
          have Tl := Lib.hid (show Own 3 w11 w.heap.size (.slice ax l.length cx) (l) from Tl.out.below hb)
          have Tx := Lib.hid (show Txs w11 (xs) (.slice av xs.length cv) fx from Tx.out.under hb)
          have To := Lib.hid (show Own 3 w11 w.heap.size (.slice ao (G).length co) (G) from To.out.below hb)
          have Tob := Lib.hid (show OwnB 4 w11 w.heap.size (.slice bbo (Ko).length bco) (Ko) from Tob.out.below hb)
          have Tkb := Lib.hid (show OwnB 4 w11 w.heap.size (.slice bbk (Ko).length bck) (Ko) from Tkb.out.below hb)
          have TS := Lib.hid (show Txs w11 (S) (.slice au S.length cu) fS from TS.out.under hb)
          have Ty := Lib.hid (show Own 3 w11 w.heap.size (.slice ay (G).length cy) (G) from Ty.out.below hb)
          have Tyb := Lib.hid (show OwnB 4 w11 w.heap.size (.slice bby (A).length bcy) (A) from Tyb.out.below hb)
          have Sl := Lib.hid (show Str w11 (w1.heap.size) 25 #[.slice ax l.length cx, .int .i64 n] from (hb.block _ Sl.out.lt).trans Sl.out)
          have So := Lib.hid (show Str w11 (w3.heap.size) 25 #[.slice ao G.length co, .int .i64 F] from (hb.block _ So.out.lt).trans So.out)
          have Sy := Lib.hid (show Str w11 (w9.heap.size) 25 #[.slice ay G.length cy, .int .i64 F] from (hb.block _ Sy.out.lt).trans Sy.out)
          have hsw11 := hb.size
          have Hb := Lib.hid (below_step Hb.out Hb.out.size hb)
          clear hb
          go_wp2
          go_ret
          exact ⟨by first | rfl | exact ret_bool (by simp) | exact ret_bool (by simp; omega), Hb.out⟩

theorem fnLedgerFailed_own : ownKnob Try.prog.godebug = none := by kernel_rfl
theorem fnLedgerFailed_laidOut : laidOutB Try.prog = true := by kernel_rfl

set_option maxRecDepth 8000 in
theorem fnLedgerFailed_lifted (os : Os) (started : os.Started) (H : Type) (enc : TypeId × Value → H) :
    ReturnsInHanded {} Try.checked os 6 .any (Rows.fnLedgerFailedSpec.pre6 enc Try.prog Try.f6 Rows.fnLedgerFailedRow.domain false) (Rows.fnLedgerFailedSpec.post enc Try.prog Try.f6 false true false false) := by
  refine law_lifted (C := Try.checked) (tb := 4) fnLedgerFailed_own fnLedgerFailed_laidOut started (by kernel_rfl) Try.func6 rfl Try.underlying4 rfl (by rw [Try.params6]; exact of_decide_eq_true (by kernel_rfl)) ?_
    (ChangeSpec.witness6 (enc := enc) (C := Try.checked) false ⟨#[], #[.slice none 0 0], []⟩ 8 (by kernel_rfl) (by kernel_rfl) (by kernel_rfl) (by kernel_rfl)) ?_
  · intro ds hds
    rw [Try.params6] at hds
    match ds, hds with
    | [d0], _ => rfl
  · intro W base args ds p hval0 hA0
    have hval : ∀ (j : Nat) t v, Try.f6.params[j]? = some t → args[j]? = some v → Value.okWide Try.prog W .any base t v := hval0
    have hA : DataW.TrodAll enc Try.prog W 0 (fun _ => true) true Try.f6.params.toList args.toList ds p := hA0
    rw [Try.params6] at hA hval
    obtain ⟨v0, vs0, d0, ds0, p0, q0, hargs0, rfl, rfl, h0, r0⟩ := trodAll_cons hA
    obtain ⟨hnil, rfl, rfl⟩ := trodAll_nil r0
    subst hnil
    obtain rfl : args = #[v0] := by cases args; simp_all
    obtain ⟨a0, cap0, zs0, rfl, hk0, hm0, hi0, hw0⟩ := open_slice_ints Try.underlying22 Try.underlying5 (by kernel_rfl) (hval 0 22 v0 rfl rfl) h0
    exact fnLedgerFailed_walk a0 cap0 zs0 W hk0 hm0 hi0 hw0

set_option maxRecDepth 8000 in
theorem fnLedgerFailed_holds : Rows.FnLedgerFailedSaid :=
  OpenClaim.holds_of_wide 6 Try.f6 rfl rfl rfl rfl rfl rfl rfl ⟨rfl, rfl, rfl, rfl, rfl⟩ rfl rfl rfl rfl rfl (by kernel_rfl) Try.func6 (by kernel_rfl)
    (of_decide_eq_true (by kernel_rfl)) (by unfold Func.isWrapper; first | (rw [if_pos (by decide +kernel)]; kernel_rfl) | (rw [if_neg (by decide +kernel)]; exact ⟨rfl, rfl⟩))
    (fun os started H enc _ => fnLedgerFailed_lifted os started H enc)

end Go.Proofs.Ytfnhafgjdnlhiaa
