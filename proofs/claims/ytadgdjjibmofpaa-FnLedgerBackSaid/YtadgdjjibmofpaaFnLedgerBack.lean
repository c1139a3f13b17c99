/- Law FnLedgerBack holds for every input; no conditions of our own. -/
import Derived.Test.YtadgdjjibmofpaaRows
import Derived.Test.YtadgdjjibmofpaaBu0
import Derived.Test.YtadgdjjibmofpaaBu1
import Derived.Test.YtadgdjjibmofpaaBu2
import Derived.Deep.QuietTactic
import Derived.BigQuiet
namespace Go.Proofs.Ytadgdjjibmofpaa
open Go.ChangeShapes Go.WideShapes Go.ChangeAt Go.RowKit

set_option maxHeartbeats 4000000 in
theorem fnLedgerBack_walk (a : Option Addr) (cap : Nat) (zs : List Int) (w : World) (hk : zs.length ≤ cap) (_hm : zs.length ≤ maxLen) (hi : zs = [] ∨ ∃ b off, a = some ⟨b, off, none⟩ ∧ b < w.heap.size ∧ ∀ j (h : j < zs.length), w.cell? ⟨b, off + j, none⟩ = some (.int .u8 zs[j])) (hw : ∀ z ∈ zs, (Lit.int .u8 z).wf = true) :
    Calls Try.prog 10 #[.slice a zs.length cap] w fun e w' => e = .returned (.bool true) ∧ Below w.heap.size w w' := by
  by_cases hl : 1048576 < zs.length
  · go_enter Try.func10, Try.ntmps10
    go_wp2
    go_ret
    exact ⟨rfl, Below.refl _ _⟩
  have hcode := codeAt_of hk (by omega) hi hw
  have Hcode := Lib.hid hcode; clear hcode hi hw
  go_enter Try.func10, Try.ntmps10
  go_wp2_with fail
  refine (spec_DrawLedgerApply a cap zs _ Hcode.out).mono ?_
  rintro e1 w1 ⟨l, n, ux, ⟨f, t, s, ee⟩, rfl, ho, hl6, hb1⟩
  unfold agT
  dsimp only at *
  obtain ⟨ax, cx, rfl, _, _⟩ := ho.ints
  have hw0 := hb1.size
  have Tl := Lib.hid ho
  have Hb := Lib.hid hb1
  clear ho hb1
  have hal : Below w1.heap.size w1 (w1.alloc (.cells #[.slice ax l.length cx, .int .i64 n] 25)) := (Below.refl _ _).alloc (Nat.le_refl _) _
  have Tl := Lib.hid (show Own 3 (w1.alloc (.cells #[.slice ax l.length cx, .int .i64 n] 25)) w.heap.size (.slice ax l.length cx) (l) from Tl.out.below hal)
  have Sl := Lib.hid (Str.new w1 25 #[.slice ax l.length cx, .int .i64 n])
  have Hb := Lib.hid (below_step Hb.out Hb.out.size hal)
  clear hal
  have hal : Below (w1.alloc (.cells #[.slice ax l.length cx, .int .i64 n] 25)).heap.size (w1.alloc (.cells #[.slice ax l.length cx, .int .i64 n] 25)) ((w1.alloc (.cells #[.slice ax l.length cx, .int .i64 n] 25)).alloc (.cells #[.int .i64 f, .int .i64 t, .int .i64 s, .int .i64 ee] 27)) := (Below.refl _ _).alloc (Nat.le_refl _) _
  have Tl := Lib.hid (show Own 3 ((w1.alloc (.cells #[.slice ax l.length cx, .int .i64 n] 25)).alloc (.cells #[.int .i64 f, .int .i64 t, .int .i64 s, .int .i64 ee] 27)) w.heap.size (.slice ax l.length cx) (l) from Tl.out.below hal)
  have Sl := Lib.hid (show Str ((w1.alloc (.cells #[.slice ax l.length cx, .int .i64 n] 25)).alloc (.cells #[.int .i64 f, .int .i64 t, .int .i64 s, .int .i64 ee] 27)) (w1.heap.size) 25 #[.slice ax l.length cx, .int .i64 n] from Sl.out.alloc _)
  have St := Lib.hid (Str.new (w1.alloc (.cells #[.slice ax l.length cx, .int .i64 n] 25)) 27 #[.int .i64 f, .int .i64 t, .int .i64 s, .int .i64 ee])
  have Hb := Lib.hid (below_step Hb.out Hb.out.size hal)
  clear hal
  have St := Lib.hid (show Str ((w1.alloc (.cells #[.slice ax l.length cx, .int .i64 n] 25)).alloc (.cells #[.int .i64 f, .int .i64 t, .int .i64 s, .int .i64 ee] 27)) (w1.heap.size + 1) 27 #[.int .i64 f, .int .i64 t, .int .i64 s, .int .i64 ee] by have h9 := St.out; simp only [World.size_alloc] at h9; exact h9)
  obtain ⟨C, hC⟩ : ∃ C, C = laO l n ⟨f, t, s, ee⟩ := ⟨_, rfl⟩
  obtain ⟨G, hG⟩ : ∃ G, G = laL l n ⟨f, t, s, ee⟩ := ⟨_, rfl⟩
  obtain ⟨F, hF⟩ : ∃ F, F = laF l n ⟨f, t, s, ee⟩ := ⟨_, rfl⟩
  have hGl : G.length ≤ 6 := by rw [hG]; exact la_len hl6
  have HI := Lib.hid (fun W (h : IntsAt W ax l) => impl_LedgerApply ax cx l n ⟨f, t, s, ee⟩ W (by omega) h)
  have HS := Lib.hid (fun W (h : IntsAt W ax l) (h2 : SrcAt W ax cx l) => spec_LedgerApply ax cx l n ⟨f, t, s, ee⟩ W (by omega) h h2)
  unfold LaP agT at HI HS
  rw [← hC, ← hG, ← hF] at HI HS
  dsimp only at HI HS
  have HC := Lib.hid hC; have HG := Lib.hid hG; have HF := Lib.hid hF
  have Hl6 := Lib.hid hl6; have HGl := Lib.hid hGl
  clear hC hG hF
  have cl_0 := Sl.out.cell 0 (v := .slice ax l.length cx) rfl
  have cl_1 := Sl.out.cell 1 (v := .int .i64 n) rfl
  have ct_0 := St.out.cell 0 (v := .int .i64 f) rfl
  have ct_1 := St.out.cell 1 (v := .int .i64 t) rfl
  have ct_2 := St.out.cell 2 (v := .int .i64 s) rfl
  have ct_3 := St.out.cell 3 (v := .int .i64 ee) rfl
  go_wp2_with fail
  generalize ((w1.alloc (.cells #[.slice ax l.length cx, .int .i64 n] 25)).alloc (.cells #[.int .i64 f, .int .i64 t, .int .i64 s, .int .i64 ee] 27)) = W2 at *
  clear cl_0 cl_1 ct_0 ct_1 ct_2 ct_3
  refine (HI.out _ Tl.out.at).mono ?_
  rintro e w3 ⟨v, rfl, ho, hb⟩
  have hwb := Hb.out.size
  obtain ⟨ao, co, rfl, _, _⟩ := ho.ints
  have ho' := Lib.hid (ho.mono (show w.heap.size ≤ _ by omega))
  clear ho
  have Tl := Lib.hid (show Own 3 w3 w.heap.size (.slice ax l.length cx) (l) from Tl.out.below hb)
  have Sl := Lib.hid (show Str w3 (w1.heap.size) 25 #[.slice ax l.length cx, .int .i64 n] from (hb.block _ Sl.out.lt).trans Sl.out)
  have St := Lib.hid (show Str w3 (w1.heap.size + 1) 27 #[.int .i64 f, .int .i64 t, .int .i64 s, .int .i64 ee] from (hb.block _ St.out.lt).trans St.out)
  have hsw3 := hb.size
  have Hb := Lib.hid (below_step Hb.out Hb.out.size hb)
  have To := Lib.hid (show Own 3 w3 w.heap.size (.slice ao (G).length co) (G) from ho'.out)
  clear ho' hb hwb
  have hal : Below w3.heap.size w3 (w3.alloc (.cells #[.slice ao G.length co, .int .i64 F] 25)) := (Below.refl _ _).alloc (Nat.le_refl _) _
  have Tl := Lib.hid (show Own 3 (w3.alloc (.cells #[.slice ao G.length co, .int .i64 F] 25)) w.heap.size (.slice ax l.length cx) (l) from Tl.out.below hal)
  have To := Lib.hid (show Own 3 (w3.alloc (.cells #[.slice ao G.length co, .int .i64 F] 25)) w.heap.size (.slice ao (G).length co) (G) from To.out.below hal)
  have Sl := Lib.hid (show Str (w3.alloc (.cells #[.slice ao G.length co, .int .i64 F] 25)) (w1.heap.size) 25 #[.slice ax l.length cx, .int .i64 n] from Sl.out.alloc _)
  have St := Lib.hid (show Str (w3.alloc (.cells #[.slice ao G.length co, .int .i64 F] 25)) (w1.heap.size + 1) 27 #[.int .i64 f, .int .i64 t, .int .i64 s, .int .i64 ee] from St.out.alloc _)
  have So := Lib.hid (Str.new w3 25 #[.slice ao G.length co, .int .i64 F])
  have Hb := Lib.hid (below_step Hb.out Hb.out.size hal)
  clear hal
  have cl_0 := Sl.out.cell 0 (v := .slice ax l.length cx) rfl
  have cl_1 := Sl.out.cell 1 (v := .int .i64 n) rfl
  have ct_0 := St.out.cell 0 (v := .int .i64 f) rfl
  have ct_1 := St.out.cell 1 (v := .int .i64 t) rfl
  have ct_2 := St.out.cell 2 (v := .int .i64 s) rfl
  have ct_3 := St.out.cell 3 (v := .int .i64 ee) rfl
  have co_0 := So.out.cell 0 (v := .slice ao G.length co) rfl
  have co_1 := So.out.cell 1 (v := .int .i64 F) rfl
  go_wp2_with fail
  generalize (w3.alloc (.cells #[.slice ao G.length co, .int .i64 F] 25)) = W4 at *
  clear cl_0 cl_1 ct_0 ct_1 ct_2 ct_3 co_0 co_1
  refine (HS.out _ Tl.out.at (own_src Tl.out)).mono ?_
  rintro e w5 ⟨v, rfl, ho, hb⟩
  have hwb := Hb.out.size
  obtain ⟨ak, ck, rfl, _, _⟩ := ho.ints
  have ho' := Lib.hid (ho.mono (show w.heap.size ≤ _ by omega))
  clear ho
  have Tl := Lib.hid (show Own 3 w5 w.heap.size (.slice ax l.length cx) (l) from Tl.out.below hb)
  have To := Lib.hid (show Own 3 w5 w.heap.size (.slice ao (G).length co) (G) from To.out.below hb)
  have Sl := Lib.hid (show Str w5 (w1.heap.size) 25 #[.slice ax l.length cx, .int .i64 n] from (hb.block _ Sl.out.lt).trans Sl.out)
  have St := Lib.hid (show Str w5 (w1.heap.size + 1) 27 #[.int .i64 f, .int .i64 t, .int .i64 s, .int .i64 ee] from (hb.block _ St.out.lt).trans St.out)
  have So := Lib.hid (show Str w5 (w3.heap.size) 25 #[.slice ao G.length co, .int .i64 F] from (hb.block _ So.out.lt).trans So.out)
  have hsw5 := hb.size
  have Hb := Lib.hid (below_step Hb.out Hb.out.size hb)
  have Tk := Lib.hid (show Own 3 w5 w.heap.size (.slice ak (G).length ck) (G) from ho'.out)
  clear ho' hb hwb
  have hal : Below w5.heap.size w5 (w5.alloc (.cells #[.slice ak G.length ck, .int .i64 F] 25)) := (Below.refl _ _).alloc (Nat.le_refl _) _
  have Tl := Lib.hid (show Own 3 (w5.alloc (.cells #[.slice ak G.length ck, .int .i64 F] 25)) w.heap.size (.slice ax l.length cx) (l) from Tl.out.below hal)
  have To := Lib.hid (show Own 3 (w5.alloc (.cells #[.slice ak G.length ck, .int .i64 F] 25)) w.heap.size (.slice ao (G).length co) (G) from To.out.below hal)
  have Tk := Lib.hid (show Own 3 (w5.alloc (.cells #[.slice ak G.length ck, .int .i64 F] 25)) w.heap.size (.slice ak (G).length ck) (G) from Tk.out.below hal)
  have Sl := Lib.hid (show Str (w5.alloc (.cells #[.slice ak G.length ck, .int .i64 F] 25)) (w1.heap.size) 25 #[.slice ax l.length cx, .int .i64 n] from Sl.out.alloc _)
  have St := Lib.hid (show Str (w5.alloc (.cells #[.slice ak G.length ck, .int .i64 F] 25)) (w1.heap.size + 1) 27 #[.int .i64 f, .int .i64 t, .int .i64 s, .int .i64 ee] from St.out.alloc _)
  have So := Lib.hid (show Str (w5.alloc (.cells #[.slice ak G.length ck, .int .i64 F] 25)) (w3.heap.size) 25 #[.slice ao G.length co, .int .i64 F] from So.out.alloc _)
  have Sk := Lib.hid (Str.new w5 25 #[.slice ak G.length ck, .int .i64 F])
  have Hb := Lib.hid (below_step Hb.out Hb.out.size hal)
  clear hal
  clear HI HS
  have cl_0 := Sl.out.cell 0 (v := .slice ax l.length cx) rfl
  have cl_1 := Sl.out.cell 1 (v := .int .i64 n) rfl
  have ct_0 := St.out.cell 0 (v := .int .i64 f) rfl
  have ct_1 := St.out.cell 1 (v := .int .i64 t) rfl
  have ct_2 := St.out.cell 2 (v := .int .i64 s) rfl
  have ct_3 := St.out.cell 3 (v := .int .i64 ee) rfl
  have co_0 := So.out.cell 0 (v := .slice ao G.length co) rfl
  have co_1 := So.out.cell 1 (v := .int .i64 F) rfl
  have ck_0 := Sk.out.cell 0 (v := .slice ak G.length ck) rfl
  have ck_1 := Sk.out.cell 1 (v := .int .i64 F) rfl
  go_wp2_with fail
  generalize (w5.alloc (.cells #[.slice ak G.length ck, .int .i64 F] 25)) = W6 at *
  clear cl_0 cl_1 ct_0 ct_1 ct_2 ct_3 co_0 co_1 ck_0 ck_1
  refine (laws_sameLedger _ _ _ _ (G) (F) _ (by omega) To.out.at Tk.out.at).mono ?_
  rintro e w7 ⟨rfl, hb⟩
  have Tl := Lib.hid (show Own 3 w7 w.heap.size (.slice ax l.length cx) (l) from Tl.out.below hb)
  have To := Lib.hid (show Own 3 w7 w.heap.size (.slice ao (G).length co) (G) from To.out.below hb)
  have Tk := Lib.hid (show Own 3 w7 w.heap.size (.slice ak (G).length ck) (G) from Tk.out.below hb)
  have Sl := Lib.hid (show Str w7 (w1.heap.size) 25 #[.slice ax l.length cx, .int .i64 n] from (hb.block _ Sl.out.lt).trans Sl.out)
  have St := Lib.hid (show Str w7 (w1.heap.size + 1) 27 #[.int .i64 f, .int .i64 t, .int .i64 s, .int .i64 ee] from (hb.block _ St.out.lt).trans St.out)
  have So := Lib.hid (show Str w7 (w3.heap.size) 25 #[.slice ao G.length co, .int .i64 F] from (hb.block _ So.out.lt).trans So.out)
  have Sk := Lib.hid (show Str w7 (w5.heap.size) 25 #[.slice ak G.length ck, .int .i64 F] from (hb.block _ Sk.out.lt).trans Sk.out)
  have hsw7 := hb.size
  have Hb := Lib.hid (below_step Hb.out Hb.out.size hb)
  clear hb
  cases C with
  | false =>
    have cl_0 := Sl.out.cell 0 (v := .slice ax l.length cx) rfl
    have cl_1 := Sl.out.cell 1 (v := .int .i64 n) rfl
    have ct_0 := St.out.cell 0 (v := .int .i64 f) rfl
    have ct_1 := St.out.cell 1 (v := .int .i64 t) rfl
    have ct_2 := St.out.cell 2 (v := .int .i64 s) rfl
    have ct_3 := St.out.cell 3 (v := .int .i64 ee) rfl
    have co_0 := So.out.cell 0 (v := .slice ao G.length co) rfl
    have co_1 := So.out.cell 1 (v := .int .i64 F) rfl
    have ck_0 := Sk.out.cell 0 (v := .slice ak G.length ck) rfl
    have ck_1 := Sk.out.cell 1 (v := .int .i64 F) rfl
    go_wp2_with fail
    clear cl_0 cl_1 ct_0 ct_1 ct_2 ct_3 co_0 co_1 ck_0 ck_1
    refine (laws_sameLedger _ _ _ _ (G) (F) _ (by omega) To.out.at Tk.out.at).mono ?_
    rintro e w8 ⟨rfl, hb⟩
    have Tl := Lib.hid (show Own 3 w8 w.heap.size (.slice ax l.length cx) (l) from Tl.out.below hb)
    have To := Lib.hid (show Own 3 w8 w.heap.size (.slice ao (G).length co) (G) from To.out.below hb)
    have Tk := Lib.hid (show Own 3 w8 w.heap.size (.slice ak (G).length ck) (G) from Tk.out.below hb)
    have Sl := Lib.hid (show Str w8 (w1.heap.size) 25 #[.slice ax l.length cx, .int .i64 n] from (hb.block _ Sl.out.lt).trans Sl.out)
    have St := Lib.hid (show Str w8 (w1.heap.size + 1) 27 #[.int .i64 f, .int .i64 t, .int .i64 s, .int .i64 ee] from (hb.block _ St.out.lt).trans St.out)
    have So := Lib.hid (show Str w8 (w3.heap.size) 25 #[.slice ao G.length co, .int .i64 F] from (hb.block _ So.out.lt).trans So.out)
    have Sk := Lib.hid (show Str w8 (w5.heap.size) 25 #[.slice ak G.length ck, .int .i64 F] from (hb.block _ Sk.out.lt).trans Sk.out)
    have hsw8 := hb.size
    have Hb := Lib.hid (below_step Hb.out Hb.out.size hb)
    clear hb
    go_wp2
    go_ret
    exact ⟨by first | rfl | exact ret_bool (by simp) | exact ret_bool (by simp; omega), Hb.out⟩
  | true =>
  by_cases hee : 0 < ee
  case pos =>
    have hd : decide (0 < ee) = true := decide_eq_true hee
    clear hee
    have cl_0 := Sl.out.cell 0 (v := .slice ax l.length cx) rfl
    have cl_1 := Sl.out.cell 1 (v := .int .i64 n) rfl
    have ct_0 := St.out.cell 0 (v := .int .i64 f) rfl
    have ct_1 := St.out.cell 1 (v := .int .i64 t) rfl
    have ct_2 := St.out.cell 2 (v := .int .i64 s) rfl
    have ct_3 := St.out.cell 3 (v := .int .i64 ee) rfl
    have co_0 := So.out.cell 0 (v := .slice ao G.length co) rfl
    have co_1 := So.out.cell 1 (v := .int .i64 F) rfl
    have ck_0 := Sk.out.cell 0 (v := .slice ak G.length ck) rfl
    have ck_1 := Sk.out.cell 1 (v := .int .i64 F) rfl
    go_wp2_with fail
    clear cl_0 cl_1 ct_0 ct_1 ct_2 ct_3 co_0 co_1 ck_0 ck_1
    refine (laws_sameLedger _ _ _ _ (G) (F) _ (by omega) To.out.at Tk.out.at).mono ?_
    rintro e w8 ⟨rfl, hb⟩
    have Tl := Lib.hid (show Own 3 w8 w.heap.size (.slice ax l.length cx) (l) from Tl.out.below hb)
    have To := Lib.hid (show Own 3 w8 w.heap.size (.slice ao (G).length co) (G) from To.out.below hb)
    have Tk := Lib.hid (show Own 3 w8 w.heap.size (.slice ak (G).length ck) (G) from Tk.out.below hb)
    have Sl := Lib.hid (show Str w8 (w1.heap.size) 25 #[.slice ax l.length cx, .int .i64 n] from (hb.block _ Sl.out.lt).trans Sl.out)
    have St := Lib.hid (show Str w8 (w1.heap.size + 1) 27 #[.int .i64 f, .int .i64 t, .int .i64 s, .int .i64 ee] from (hb.block _ St.out.lt).trans St.out)
    have So := Lib.hid (show Str w8 (w3.heap.size) 25 #[.slice ao G.length co, .int .i64 F] from (hb.block _ So.out.lt).trans So.out)
    have Sk := Lib.hid (show Str w8 (w5.heap.size) 25 #[.slice ak G.length ck, .int .i64 F] from (hb.block _ Sk.out.lt).trans Sk.out)
    have hsw8 := hb.size
    have Hb := Lib.hid (below_step Hb.out Hb.out.size hb)
    clear hb
    go_wp2
    go_ret
    exact ⟨by first | rfl | exact ret_bool (by simp) | exact ret_bool (by simp; omega), Hb.out⟩
  have hd : decide (0 < ee) = false := decide_eq_false hee
  obtain ⟨hv, hok, hGe, hFe⟩ := la_true HC.out.symm
  rw [← HG.out] at hGe
  rw [← HF.out] at hFe
  have he9 := (txB_iff.1 (okT_iff.1 hok).1).2.2.2.2
  dsimp only at he9 hFe
  obtain rfl : ee = 0 := by omega
  have hF0 : F = n := by omega
  have hn9 := la_room HC.out.symm
  obtain ⟨q1, q2, q3⟩ := ap_back hv hok rfl
  skip
  obtain ⟨y1, y2, y3⟩ : laL G F ⟨t, f, s, 0⟩ = l ∧ laF G F ⟨t, f, s, 0⟩ = n ∧ laO G F ⟨t, f, s, 0⟩ = true := la_back hn9 hok hGe HF.out
  have HI := Lib.hid (fun W (h : IntsAt W ao G) => impl_LedgerApply ao co G F ⟨t, f, s, 0⟩ W (by have := HGl.out; omega) h)
  unfold LaP agT at HI
  rw [y1, y2, y3] at HI
  dsimp only at HI
  clear y1 y2 y3 q1 q2 q3 hok hGe hFe he9 hv hn9 hF0 hee HC HG HF
  have hl6 := Hl6.out
  clear Tk
  clear Sk
  have cl_0 := Sl.out.cell 0 (v := .slice ax l.length cx) rfl
  have cl_1 := Sl.out.cell 1 (v := .int .i64 n) rfl
  have ct_0 := St.out.cell 0 (v := .int .i64 f) rfl
  have ct_1 := St.out.cell 1 (v := .int .i64 t) rfl
  have ct_2 := St.out.cell 2 (v := .int .i64 s) rfl
  have ct_3 := St.out.cell 3 (v := .int .i64 0) rfl
  have co_0 := So.out.cell 0 (v := .slice ao G.length co) rfl
  have co_1 := So.out.cell 1 (v := .int .i64 F) rfl
  go_wp2_with fail
  clear cl_0 cl_1 ct_0 ct_1 ct_2 ct_3 co_0 co_1
  refine (HI.out _ To.out.at).mono ?_
  rintro e w8 ⟨v, rfl, ho, hb⟩
  have hwb := Hb.out.size
  obtain ⟨ay, cy, rfl, _, _⟩ := ho.ints
  have ho' := Lib.hid (ho.mono (show w.heap.size ≤ _ by omega))
  clear ho
  have Tl := Lib.hid (show Own 3 w8 w.heap.size (.slice ax l.length cx) (l) from Tl.out.below hb)
  have To := Lib.hid (show Own 3 w8 w.heap.size (.slice ao (G).length co) (G) from To.out.below hb)
  have Sl := Lib.hid (show Str w8 (w1.heap.size) 25 #[.slice ax l.length cx, .int .i64 n] from (hb.block _ Sl.out.lt).trans Sl.out)
  have St := Lib.hid (show Str w8 (w1.heap.size + 1) 27 #[.int .i64 f, .int .i64 t, .int .i64 s, .int .i64 0] from (hb.block _ St.out.lt).trans St.out)
  have So := Lib.hid (show Str w8 (w3.heap.size) 25 #[.slice ao G.length co, .int .i64 F] from (hb.block _ So.out.lt).trans So.out)
  have hsw8 := hb.size
  have Hb := Lib.hid (below_step Hb.out Hb.out.size hb)
  have Ty := Lib.hid (show Own 3 w8 w.heap.size (.slice ay (l).length cy) (l) from ho'.out)
  clear ho' hb hwb
  have hal : Below w8.heap.size w8 (w8.alloc (.cells #[.slice ay l.length cy, .int .i64 n] 25)) := (Below.refl _ _).alloc (Nat.le_refl _) _
  have Tl := Lib.hid (show Own 3 (w8.alloc (.cells #[.slice ay l.length cy, .int .i64 n] 25)) w.heap.size (.slice ax l.length cx) (l) from Tl.out.below hal)
  have To := Lib.hid (show Own 3 (w8.alloc (.cells #[.slice ay l.length cy, .int .i64 n] 25)) w.heap.size (.slice ao (G).length co) (G) from To.out.below hal)
  have Ty := Lib.hid (show Own 3 (w8.alloc (.cells #[.slice ay l.length cy, .int .i64 n] 25)) w.heap.size (.slice ay (l).length cy) (l) from Ty.out.below hal)
  have Sl := Lib.hid (show Str (w8.alloc (.cells #[.slice ay l.length cy, .int .i64 n] 25)) (w1.heap.size) 25 #[.slice ax l.length cx, .int .i64 n] from Sl.out.alloc _)
  have St := Lib.hid (show Str (w8.alloc (.cells #[.slice ay l.length cy, .int .i64 n] 25)) (w1.heap.size + 1) 27 #[.int .i64 f, .int .i64 t, .int .i64 s, .int .i64 0] from St.out.alloc _)
  have So := Lib.hid (show Str (w8.alloc (.cells #[.slice ay l.length cy, .int .i64 n] 25)) (w3.heap.size) 25 #[.slice ao G.length co, .int .i64 F] from So.out.alloc _)
  have Sy := Lib.hid (Str.new w8 25 #[.slice ay l.length cy, .int .i64 n])
  have Hb := Lib.hid (below_step Hb.out Hb.out.size hal)
  clear hal
  have cl_0 := Sl.out.cell 0 (v := .slice ax l.length cx) rfl
  have cl_1 := Sl.out.cell 1 (v := .int .i64 n) rfl
  have ct_0 := St.out.cell 0 (v := .int .i64 f) rfl
  have ct_1 := St.out.cell 1 (v := .int .i64 t) rfl
  have ct_2 := St.out.cell 2 (v := .int .i64 s) rfl
  have ct_3 := St.out.cell 3 (v := .int .i64 0) rfl
  have co_0 := So.out.cell 0 (v := .slice ao G.length co) rfl
  have co_1 := So.out.cell 1 (v := .int .i64 F) rfl
  have cy_0 := Sy.out.cell 0 (v := .slice ay l.length cy) rfl
  have cy_1 := Sy.out.cell 1 (v := .int .i64 n) rfl
  go_wp2_with fail
  generalize (w8.alloc (.cells #[.slice ay l.length cy, .int .i64 n] 25)) = W9 at *
  clear cl_0 cl_1 ct_0 ct_1 ct_2 ct_3 co_0 co_1 cy_0 cy_1
  refine (laws_sameLedger _ _ _ _ (l) (n) _ (by omega) Ty.out.at Tl.out.at).mono ?_
  rintro e w10 ⟨rfl, hb⟩
  have Tl := Lib.hid (show Own 3 w10 w.heap.size (.slice ax l.length cx) (l) from Tl.out.below hb)
  have To := Lib.hid (show Own 3 w10 w.heap.size (.slice ao (G).length co) (G) from To.out.below hb)
  have Ty := Lib.hid (show Own 3 w10 w.heap.size (.slice ay (l).length cy) (l) from Ty.out.below hb)
  have Sl := Lib.hid (show Str w10 (w1.heap.size) 25 #[.slice ax l.length cx, .int .i64 n] from (hb.block _ Sl.out.lt).trans Sl.out)
  have St := Lib.hid (show Str w10 (w1.heap.size + 1) 27 #[.int .i64 f, .int .i64 t, .int .i64 s, .int .i64 0] from (hb.block _ St.out.lt).trans St.out)
  have So := Lib.hid (show Str w10 (w3.heap.size) 25 #[.slice ao G.length co, .int .i64 F] from (hb.block _ So.out.lt).trans So.out)
  have Sy := Lib.hid (show Str w10 (w8.heap.size) 25 #[.slice ay l.length cy, .int .i64 n] from (hb.block _ Sy.out.lt).trans Sy.out)
  have hsw10 := hb.size
  have Hb := Lib.hid (below_step Hb.out Hb.out.size hb)
  clear hb
  go_wp2
  go_ret
  exact ⟨by first | rfl | exact ret_bool (by simp) | exact ret_bool (by simp; omega), Hb.out⟩

theorem fnLedgerBack_own : ownKnob Try.prog.godebug = none := by kernel_rfl
theorem fnLedgerBack_laidOut : laidOutB Try.prog = true := by kernel_rfl

set_option maxRecDepth 8000 in
theorem fnLedgerBack_lifted (os : Os) (started : os.Started) (H : Type) (enc : TypeId × Value → H) :
    ReturnsInHanded {} Try.checked os 10 .any (Rows.fnLedgerBackSpec.pre6 enc Try.prog Try.f10 Rows.fnLedgerBackRow.domain false) (Rows.fnLedgerBackSpec.post enc Try.prog Try.f10 false true false false) := by
  refine law_lifted (C := Try.checked) (tb := 4) fnLedgerBack_own fnLedgerBack_laidOut started (by kernel_rfl) Try.func10 rfl Try.underlying4 rfl (by rw [Try.params10]; exact of_decide_eq_true (by kernel_rfl)) ?_
    (ChangeSpec.witness6 (enc := enc) (C := Try.checked) false ⟨#[], #[.slice none 0 0], []⟩ 8 (by kernel_rfl) (by kernel_rfl) (by kernel_rfl) (by kernel_rfl)) ?_
  · intro ds hds
    rw [Try.params10] at hds
    match ds, hds with
    | [d0], _ => rfl
  · intro W base args ds p hval0 hA0
    have hval : ∀ (j : Nat) t v, Try.f10.params[j]? = some t → args[j]? = some v → Value.okWide Try.prog W .any base t v := hval0
    have hA : DataW.TrodAll enc Try.prog W 0 (fun _ => true) true Try.f10.params.toList args.toList ds p := hA0
    rw [Try.params10] at hA hval
    obtain ⟨v0, vs0, d0, ds0, p0, q0, hargs0, rfl, rfl, h0, r0⟩ := trodAll_cons hA
    obtain ⟨hnil, rfl, rfl⟩ := trodAll_nil r0
    subst hnil
    obtain rfl : args = #[v0] := by cases args; simp_all
    obtain ⟨a0, cap0, zs0, rfl, hk0, hm0, hi0, hw0⟩ := open_slice_ints Try.underlying22 Try.underlying5 (by kernel_rfl) (hval 0 22 v0 rfl rfl) h0
    exact fnLedgerBack_walk a0 cap0 zs0 W hk0 hm0 hi0 hw0

set_option maxRecDepth 8000 in
theorem fnLedgerBack_holds : Rows.FnLedgerBackSaid :=
  OpenClaim.holds_of_wide 10 Try.f10 rfl rfl rfl rfl rfl rfl rfl ⟨rfl, rfl, rfl, rfl, rfl⟩ rfl rfl rfl rfl rfl (by kernel_rfl) Try.func10 (by kernel_rfl)
    (of_decide_eq_true (by kernel_rfl)) (by unfold Func.isWrapper; first | (rw [if_pos (by decide +kernel)]; kernel_rfl) | (rw [if_neg (by decide +kernel)]; exact ⟨rfl, rfl⟩))
    (fun os started H enc _ => fnLedgerBack_lifted os started H enc)

end Go.Proofs.Ytadgdjjibmofpaa
