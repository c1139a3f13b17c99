/- Law FnLedgerFail holds for every input; no conditions of our own. -/
import Derived.Test.YtadgdjjibmofpaaRows
import Derived.Test.YtadgdjjibmofpaaBu0
import Derived.Test.YtadgdjjibmofpaaBu1
import Derived.Test.YtadgdjjibmofpaaBu2
import Derived.Deep.QuietTactic
import Derived.BigQuiet
namespace Go.Proofs.Ytadgdjjibmofpaa
open Go.ChangeShapes Go.WideShapes Go.ChangeAt Go.RowKit

set_option maxHeartbeats 4000000 in
theorem fnLedgerFail_walk (a : Option Addr) (cap : Nat) (zs : List Int) (w : World) (hk : zs.length ≤ cap) (_hm : zs.length ≤ maxLen) (hi : zs = [] ∨ ∃ b off, a = some ⟨b, off, none⟩ ∧ b < w.heap.size ∧ ∀ j (h : j < zs.length), w.cell? ⟨b, off + j, none⟩ = some (.int .u8 zs[j])) (hw : ∀ z ∈ zs, (Lit.int .u8 z).wf = true) :
    Calls Try.prog 5 #[.slice a zs.length cap] w fun e w' => e = .returned (.bool true) ∧ Below w.heap.size w w' := by
  by_cases hl : 1048576 < zs.length
  · go_enter Try.func5, Try.ntmps5
    go_wp2
    go_ret
    exact ⟨rfl, Below.refl _ _⟩
  have hcode := codeAt_of hk (by omega) hi hw
  have Hcode := Lib.hid hcode; clear hcode hi hw
  go_enter Try.func5, Try.ntmps5
  go_wp2_with fail
  refine (spec_DrawLedgerApply a cap zs _ Hcode.out).mono ?_
  rintro e1 w1 ⟨l, n, ux, ⟨f, t, s, ee⟩, rfl, ho, hl6, hb1⟩
  unfold agT
  dsimp only at *
  obtain ⟨ax, cx, rfl, _, _⟩ := ho.ints
  have hw0 := hb1.size
  replace Tl := Lib.hid ho
  replace Hb := Lib.hid hb1
  clear ho hb1
  have hal : Below w1.heap.size w1 (w1.alloc (.cells #[.slice ax l.length cx, .int .i64 n] 25)) := (Below.refl _ _).alloc (Nat.le_refl _) _
  replace Tl := Lib.hid (show Own 3 (w1.alloc (.cells #[.slice ax l.length cx, .int .i64 n] 25)) w.heap.size (.slice ax l.length cx) (l) from Tl.out.below hal)
  replace Sl := Lib.hid (Str.new w1 25 #[.slice ax l.length cx, .int .i64 n])
  replace Hb := Lib.hid (below_step Hb.out Hb.out.size hal)
  clear hal
  have hal : Below (w1.alloc (.cells #[.slice ax l.length cx, .int .i64 n] 25)).heap.size (w1.alloc (.cells #[.slice ax l.length cx, .int .i64 n] 25)) ((w1.alloc (.cells #[.slice ax l.length cx, .int .i64 n] 25)).alloc (.cells #[.int .i64 f, .int .i64 t, .int .i64 s, .int .i64 ee] 27)) := (Below.refl _ _).alloc (Nat.le_refl _) _
  replace Tl := Lib.hid (show Own 3 ((w1.alloc (.cells #[.slice ax l.length cx, .int .i64 n] 25)).alloc (.cells #[.int .i64 f, .int .i64 t, .int .i64 s, .int .i64 ee] 27)) w.heap.size (.slice ax l.length cx) (l) from Tl.out.below hal)
  replace Sl := Lib.hid (show Str ((w1.alloc (.cells #[.slice ax l.length cx, .int .i64 n] 25)).alloc (.cells #[.int .i64 f, .int .i64 t, .int .i64 s, .int .i64 ee] 27)) (w1.heap.size) 25 #[.slice ax l.length cx, .int .i64 n] from Sl.out.alloc _)
  replace St := Lib.hid (Str.new (w1.alloc (.cells #[.slice ax l.length cx, .int .i64 n] 25)) 27 #[.int .i64 f, .int .i64 t, .int .i64 s, .int .i64 ee])
  replace Hb := Lib.hid (below_step Hb.out Hb.out.size hal)
  clear hal
  replace St := Lib.hid (show Str ((w1.alloc (.cells #[.slice ax l.length cx, .int .i64 n] 25)).alloc (.cells #[.int .i64 f, .int .i64 t, .int .i64 s, .int .i64 ee] 27)) (w1.heap.size + 1) 27 #[.int .i64 f, .int .i64 t, .int .i64 s, .int .i64 ee] by have h9 := St.out; simp only [World.size_alloc] at h9; exact h9)
  obtain ⟨C, hC⟩ : ∃ C, C = laO l n ⟨f, t, s, ee⟩ := ⟨_, rfl⟩
  obtain ⟨G, hG⟩ : ∃ G, G = laL l n ⟨f, t, s, ee⟩ := ⟨_, rfl⟩
  obtain ⟨F, hF⟩ : ∃ F, F = laF l n ⟨f, t, s, ee⟩ := ⟨_, rfl⟩
  have hGl : G.length ≤ 6 := by rw [hG]; exact la_len hl6
  have HI := Lib.hid (fun W (h : IntsAt W ax l) => impl_LedgerApply ax cx l n ⟨f, t, s, ee⟩ W (by omega) h)
  have HS := Lib.hid (fun W (h : IntsAt W ax l) (h2 : SrcAt W ax cx l) => spec_LedgerApply ax cx l n ⟨f, t, s, ee⟩ W (by omega) h h2)
  unfold LaP agT at HI HS
  rw [← hC, ← hG, ← hF] at HI HS
  dsimp only at HI HS
  have HC := Lib.hid hC; have HG := Lib.hid hG; have HF := Lib.hid hF
  have Hl6 := Lib.hid hl6; have HGl := Lib.hid hGl
  clear hC hG hF
  have cl_0 := Sl.out.cell 0 (v := .slice ax l.length cx) rfl
  have cl_1 := Sl.out.cell 1 (v := .int .i64 n) rfl
  have ct_0 := St.out.cell 0 (v := .int .i64 f) rfl
  have ct_1 := St.out.cell 1 (v := .int .i64 t) rfl
  have ct_2 := St.out.cell 2 (v := .int .i64 s) rfl
  have ct_3 := St.out.cell 3 (v := .int .i64 ee) rfl
  go_wp2_with fail
  generalize ((w1.alloc (.cells #[.slice ax l.length cx, .int .i64 n] 25)).alloc (.cells #[.int .i64 f, .int .i64 t, .int .i64 s, .int .i64 ee] 27)) = W2 at *
  clear cl_0 cl_1 ct_0 ct_1 ct_2 ct_3
  refine (HI.out _ Tl.out.at).mono ?_
  rintro e w3 ⟨v, rfl, ho, hb⟩
  have hwb := Hb.out.size
  obtain ⟨ao, co, rfl, _, _⟩ := ho.ints
  have ho' := Lib.hid (ho.mono (show w.heap.size ≤ _ by omega))
  clear ho
  replace Tl := Lib.hid (show Own 3 w3 w.heap.size (.slice ax l.length cx) (l) from Tl.out.below hb)
  replace Sl := Lib.hid (show Str w3 (w1.heap.size) 25 #[.slice ax l.length cx, .int .i64 n] from (hb.block _ Sl.out.lt).trans Sl.out)
  replace St := Lib.hid (show Str w3 (w1.heap.size + 1) 27 #[.int .i64 f, .int .i64 t, .int .i64 s, .int .i64 ee] from (hb.block _ St.out.lt).trans St.out)
  have hsw3 := hb.size
  replace Hb := Lib.hid (below_step Hb.out Hb.out.size hb)
  replace To := Lib.hid (show Own 3 w3 w.heap.size (.slice ao (G).length co) (G) from ho'.out)
  clear ho' hb hwb
  have hal : Below w3.heap.size w3 (w3.alloc (.cells #[.slice ao G.length co, .int .i64 F] 25)) := (Below.refl _ _).alloc (Nat.le_refl _) _
  replace Tl := Lib.hid (show Own 3 (w3.alloc (.cells #[.slice ao G.length co, .int .i64 F] 25)) w.heap.size (.slice ax l.length cx) (l) from Tl.out.below hal)
  replace To := Lib.hid (show Own 3 (w3.alloc (.cells #[.slice ao G.length co, .int .i64 F] 25)) w.heap.size (.slice ao (G).length co) (G) from To.out.below hal)
  replace Sl := Lib.hid (show Str (w3.alloc (.cells #[.slice ao G.length co, .int .i64 F] 25)) (w1.heap.size) 25 #[.slice ax l.length cx, .int .i64 n] from Sl.out.alloc _)
  replace St := Lib.hid (show Str (w3.alloc (.cells #[.slice ao G.length co, .int .i64 F] 25)) (w1.heap.size + 1) 27 #[.int .i64 f, .int .i64 t, .int .i64 s, .int .i64 ee] from St.out.alloc _)
  replace So := Lib.hid (Str.new w3 25 #[.slice ao G.length co, .int .i64 F])
  replace Hb := Lib.hid (below_step Hb.out Hb.out.size hal)
  clear hal
  have cl_0 := Sl.out.cell 0 (v := .slice ax l.length cx) rfl
  have cl_1 := Sl.out.cell 1 (v := .int .i64 n) rfl
  have ct_0 := St.out.cell 0 (v := .int .i64 f) rfl
  have ct_1 := St.out.cell 1 (v := .int .i64 t) rfl
  have ct_2 := St.out.cell 2 (v := .int .i64 s) rfl
  have ct_3 := St.out.cell 3 (v := .int .i64 ee) rfl
  have co_0 := So.out.cell 0 (v := .slice ao G.length co) rfl
  have co_1 := So.out.cell 1 (v := .int .i64 F) rfl
  go_wp2_with fail
  generalize (w3.alloc (.cells #[.slice ao G.length co, .int .i64 F] 25)) = W4 at *
  clear cl_0 cl_1 ct_0 ct_1 ct_2 ct_3 co_0 co_1
  refine (HS.out _ Tl.out.at (own_src Tl.out)).mono ?_
  rintro e w5 ⟨v, rfl, ho, hb⟩
  have hwb := Hb.out.size
  obtain ⟨ak, ck, rfl, _, _⟩ := ho.ints
  have ho' := Lib.hid (ho.mono (show w.heap.size ≤ _ by omega))
  clear ho
  replace Tl := Lib.hid (show Own 3 w5 w.heap.size (.slice ax l.length cx) (l) from Tl.out.below hb)
  replace To := Lib.hid (show Own 3 w5 w.heap.size (.slice ao (G).length co) (G) from To.out.below hb)
  replace Sl := Lib.hid (show Str w5 (w1.heap.size) 25 #[.slice ax l.length cx, .int .i64 n] from (hb.block _ Sl.out.lt).trans Sl.out)
  replace St := Lib.hid (show Str w5 (w1.heap.size + 1) 27 #[.int .i64 f, .int .i64 t, .int .i64 s, .int .i64 ee] from (hb.block _ St.out.lt).trans St.out)
  replace So := Lib.hid (show Str w5 (w3.heap.size) 25 #[.slice ao G.length co, .int .i64 F] from (hb.block _ So.out.lt).trans So.out)
  have hsw5 := hb.size
  replace Hb := Lib.hid (below_step Hb.out Hb.out.size hb)
  replace Tk := Lib.hid (show Own 3 w5 w.heap.size (.slice ak (G).length ck) (G) from ho'.out)
  clear ho' hb hwb
  have hal : Below w5.heap.size w5 (w5.alloc (.cells #[.slice ak G.length ck, .int .i64 F] 25)) := (Below.refl _ _).alloc (Nat.le_refl _) _
  replace Tl := Lib.hid (show Own 3 (w5.alloc (.cells #[.slice ak G.length ck, .int .i64 F] 25)) w.heap.size (.slice ax l.length cx) (l) from Tl.out.below hal)
  replace To := Lib.hid (show Own 3 (w5.alloc (.cells #[.slice ak G.length ck, .int .i64 F] 25)) w.heap.size (.slice ao (G).length co) (G) from To.out.below hal)
  replace Tk := Lib.hid (show Own 3 (w5.alloc (.cells #[.slice ak G.length ck, .int .i64 F] 25)) w.heap.size (.slice ak (G).length ck) (G) from Tk.out.below hal)
  replace Sl := Lib.hid (show Str (w5.alloc (.cells #[.slice ak G.length ck, .int .i64 F] 25)) (w1.heap.size) 25 #[.slice ax l.length cx, .int .i64 n] from Sl.out.alloc _)
  replace St := Lib.hid (show Str (w5.alloc (.cells #[.slice ak G.length ck, .int .i64 F] 25)) (w1.heap.size + 1) 27 #[.int .i64 f, .int .i64 t, .int .i64 s, .int .i64 ee] from St.out.alloc _)
  replace So := Lib.hid (show Str (w5.alloc (.cells #[.slice ak G.length ck, .int .i64 F] 25)) (w3.heap.size) 25 #[.slice ao G.length co, .int .i64 F] from So.out.alloc _)
  replace Sk := Lib.hid (Str.new w5 25 #[.slice ak G.length ck, .int .i64 F])
  replace Hb := Lib.hid (below_step Hb.out Hb.out.size hal)
  clear hal
  clear HI HS
  have cl_0 := Sl.out.cell 0 (v := .slice ax l.length cx) rfl
  have cl_1 := Sl.out.cell 1 (v := .int .i64 n) rfl
  have ct_0 := St.out.cell 0 (v := .int .i64 f) rfl
  have ct_1 := St.out.cell 1 (v := .int .i64 t) rfl
  have ct_2 := St.out.cell 2 (v := .int .i64 s) rfl
  have ct_3 := St.out.cell 3 (v := .int .i64 ee) rfl
  have co_0 := So.out.cell 0 (v := .slice ao G.length co) rfl
  have co_1 := So.out.cell 1 (v := .int .i64 F) rfl
  have ck_0 := Sk.out.cell 0 (v := .slice ak G.length ck) rfl
  have ck_1 := Sk.out.cell 1 (v := .int .i64 F) rfl
  go_wp2_with fail
  generalize (w5.alloc (.cells #[.slice ak G.length ck, .int .i64 F] 25)) = W6 at *
  clear cl_0 cl_1 ct_0 ct_1 ct_2 ct_3 co_0 co_1 ck_0 ck_1
  refine (laws_sameLedger _ _ _ _ (G) (F) _ (by omega) To.out.at Tk.out.at).mono ?_
  rintro e w7 ⟨rfl, hb⟩
  replace Tl := Lib.hid (show Own 3 w7 w.heap.size (.slice ax l.length cx) (l) from Tl.out.below hb)
  replace To := Lib.hid (show Own 3 w7 w.heap.size (.slice ao (G).length co) (G) from To.out.below hb)
  replace Tk := Lib.hid (show Own 3 w7 w.heap.size (.slice ak (G).length ck) (G) from Tk.out.below hb)
  replace Sl := Lib.hid (show Str w7 (w1.heap.size) 25 #[.slice ax l.length cx, .int .i64 n] from (hb.block _ Sl.out.lt).trans Sl.out)
  replace St := Lib.hid (show Str w7 (w1.heap.size + 1) 27 #[.int .i64 f, .int .i64 t, .int .i64 s, .int .i64 ee] from (hb.block _ St.out.lt).trans St.out)
  replace So := Lib.hid (show Str w7 (w3.heap.size) 25 #[.slice ao G.length co, .int .i64 F] from (hb.block _ So.out.lt).trans So.out)
  replace Sk := Lib.hid (show Str w7 (w5.heap.size) 25 #[.slice ak G.length ck, .int .i64 F] from (hb.block _ Sk.out.lt).trans Sk.out)
  have hsw7 := hb.size
  replace Hb := Lib.hid (below_step Hb.out Hb.out.size hb)
  clear hb
  have hbr : roomB l n 1 = true ∨ roomB l n 1 = false := by cases roomB l n 1 <;> simp
  rcases hbr with hbr | hbr
  case inr =>
    obtain ⟨q1, q2, q3⟩ := la_no (x := ⟨f, t, s, ee⟩) hbr
    have hG0 : G.length = 0 := by rw [HG.out, q1]; rfl
    have hz : ((G.length : Int) == 0) = true := by rw [beq_iff_eq]; omega
    have hC0 : C = false := HC.out.trans q3
    clear q1 q2 q3 hbr hG0 HG HF HC
    subst hC0
    have cl_0 := Sl.out.cell 0 (v := .slice ax l.length cx) rfl
    have cl_1 := Sl.out.cell 1 (v := .int .i64 n) rfl
    have ct_0 := St.out.cell 0 (v := .int .i64 f) rfl
    have ct_1 := St.out.cell 1 (v := .int .i64 t) rfl
    have ct_2 := St.out.cell 2 (v := .int .i64 s) rfl
    have ct_3 := St.out.cell 3 (v := .int .i64 ee) rfl
    have co_0 := So.out.cell 0 (v := .slice ao G.length co) rfl
    have co_1 := So.out.cell 1 (v := .int .i64 F) rfl
    have ck_0 := Sk.out.cell 0 (v := .slice ak G.length ck) rfl
    have ck_1 := Sk.out.cell 1 (v := .int .i64 F) rfl
    go_wp2_with fail
    clear cl_0 cl_1 ct_0 ct_1 ct_2 ct_3 co_0 co_1 ck_0 ck_1
    refine (laws_sameLedger _ _ _ _ (G) (F) _ (by omega) To.out.at Tk.out.at).mono ?_
    rintro e w8 ⟨rfl, hb⟩
    replace Tl := Lib.hid (show Own 3 w8 w.heap.size (.slice ax l.length cx) (l) from Tl.out.below hb)
    replace To := Lib.hid (show Own 3 w8 w.heap.size (.slice ao (G).length co) (G) from To.out.below hb)
    replace Tk := Lib.hid (show Own 3 w8 w.heap.size (.slice ak (G).length ck) (G) from Tk.out.below hb)
    replace Sl := Lib.hid (show Str w8 (w1.heap.size) 25 #[.slice ax l.length cx, .int .i64 n] from (hb.block _ Sl.out.lt).trans Sl.out)
    replace St := Lib.hid (show Str w8 (w1.heap.size + 1) 27 #[.int .i64 f, .int .i64 t, .int .i64 s, .int .i64 ee] from (hb.block _ St.out.lt).trans St.out)
    replace So := Lib.hid (show Str w8 (w3.heap.size) 25 #[.slice ao G.length co, .int .i64 F] from (hb.block _ So.out.lt).trans So.out)
    replace Sk := Lib.hid (show Str w8 (w5.heap.size) 25 #[.slice ak G.length ck, .int .i64 F] from (hb.block _ Sk.out.lt).trans Sk.out)
    have hsw8 := hb.size
    replace Hb := Lib.hid (below_step Hb.out Hb.out.size hb)
    clear hb
    go_wp2
    go_ret
    exact ⟨by first | rfl | exact ret_bool (by simp) | exact ret_bool (by simp; omega), Hb.out⟩
  obtain ⟨hv, hn9⟩ := room_iff.1 hbr
  obtain ⟨q1, q2, q3⟩ := la_yes (x := ⟨f, t, s, ee⟩) hbr
  obtain ⟨hv1, hv2, hv3, hv4⟩ := ldB_iff.1 hv
  have hG6 : G.length = l.length := by rw [HG.out, q1, ap_len]
  have hz : ((G.length : Int) == 0) = false := by rw [beq_eq_false_iff_ne]; omega
  have hCo : C = okT l ⟨f, t, s, ee⟩ := HC.out.trans q3
  have HGe := Lib.hid (HG.out.trans q1); have HFe := Lib.hid (HF.out.trans q2); have HCo := Lib.hid hCo; have Hv1 := Lib.hid hv1; have H6 := Lib.hid hv2; have Hv := Lib.hid hv
  clear q1 q2 q3 hbr hG6 hCo hv hv1 hv2 HG HF HC
  have HT := fun W => impl_TxnValid ⟨f, t, s, ee⟩ W
  unfold agT at HT
  dsimp only at HT
  have hbt : txB ⟨f, t, s, ee⟩ = true ∨ txB ⟨f, t, s, ee⟩ = false := by cases txB ⟨f, t, s, ee⟩ <;> simp
  rcases hbt with hbt | hbt
  case inr =>
    rw [hbt] at HT
    have HT := Lib.hid HT
    have Hok := Lib.hid (show okT l ⟨f, t, s, ee⟩ = false by unfold okT; rw [hbt]; rfl)
    clear hbt
    have ct_0 := St.out.cell 0 (v := .int .i64 f) rfl
    have ct_1 := St.out.cell 1 (v := .int .i64 t) rfl
    have ct_2 := St.out.cell 2 (v := .int .i64 s) rfl
    have ct_3 := St.out.cell 3 (v := .int .i64 ee) rfl
    have ck_0 := Sk.out.cell 0 (v := .slice ak G.length ck) rfl
    have ck_1 := Sk.out.cell 1 (v := .int .i64 F) rfl
    go_wp2_with fail
    clear ck_0 ck_1
    clear Tk
    clear Sk
    have hdr : Below w7.heap.size w7 w7.drew := (Below.refl _ _).drew
    clear ct_0 ct_1 ct_2 ct_3
    replace Tl := Lib.hid (show Own 3 w7.drew w.heap.size (.slice ax l.length cx) (l) from Tl.out.below hdr)
    replace To := Lib.hid (show Own 3 w7.drew w.heap.size (.slice ao (G).length co) (G) from To.out.below hdr)
    replace Sl := Lib.hid (show Str w7.drew (w1.heap.size) 25 #[.slice ax l.length cx, .int .i64 n] from (hdr.block _ Sl.out.lt).trans Sl.out)
    replace St := Lib.hid (show Str w7.drew (w1.heap.size + 1) 27 #[.int .i64 f, .int .i64 t, .int .i64 s, .int .i64 ee] from (hdr.block _ St.out.lt).trans St.out)
    replace So := Lib.hid (show Str w7.drew (w3.heap.size) 25 #[.slice ao G.length co, .int .i64 F] from (hdr.block _ So.out.lt).trans So.out)
    replace Hb := Lib.hid (below_step Hb.out Hb.out.size hdr)
    refine wp_region_held_drew (S := fun W' => W'.cell? ⟨w1.heap.size + 1, 0, none⟩ = some (.int .i64 f) ∧ W'.cell? ⟨w1.heap.size + 1, 1, none⟩ = some (.int .i64 t) ∧ W'.cell? ⟨w1.heap.size + 1, 2, none⟩ = some (.int .i64 s) ∧ W'.cell? ⟨w1.heap.size + 1, 3, none⟩ = some (.int .i64 ee)) (by kernel_rfl) ⟨St.out.cell 0 (v := .int .i64 f) rfl, St.out.cell 1 (v := .int .i64 t) rfl, St.out.cell 2 (v := .int .i64 s) rfl, St.out.cell 3 (v := .int .i64 ee) rfl⟩ (fun hH => ?_)
    clear hdr
    generalize w7.drew = w8 at *
    refine takeH 0 (v := ?vfa1) rfl (by kernel_rfl) (by kernel_rfl) (by kernel_rfl) (fun _ _ _ h => h) hH rfl ?yfa1 ?rfa1
    case yfa1 => intro W hSw; go_simp; try with_reducible rfl
    try simp only [Act.put, List.setIfInBounds_toArray, List.set_cons_zero, List.set_cons_succ]
    refine callH 1 rfl (by kernel_rfl) rfl (fun K hK => ?_)
    go_simp
    refine (HT.out _).mono ?_
    rintro e1 w9 ⟨rfl, hb⟩
    replace Tl := Lib.hid (show Own 3 w9 w.heap.size (.slice ax l.length cx) (l) from Tl.out.below hb)
    replace To := Lib.hid (show Own 3 w9 w.heap.size (.slice ao (G).length co) (G) from To.out.below hb)
    replace Sl := Lib.hid (show Str w9 (w1.heap.size) 25 #[.slice ax l.length cx, .int .i64 n] from (hb.block _ Sl.out.lt).trans Sl.out)
    replace St := Lib.hid (show Str w9 (w1.heap.size + 1) 27 #[.int .i64 f, .int .i64 t, .int .i64 s, .int .i64 ee] from (hb.block _ St.out.lt).trans St.out)
    replace So := Lib.hid (show Str w9 (w3.heap.size) 25 #[.slice ao G.length co, .int .i64 F] from (hb.block _ So.out.lt).trans So.out)
    have hsw9 := hb.size
    replace Hb := Lib.hid (below_step Hb.out Hb.out.size hb)
    clear hb
    refine hK.out _ _ ⟨St.out.cell 0 (v := .int .i64 f) rfl, St.out.cell 1 (v := .int .i64 t) rfl, St.out.cell 2 (v := .int .i64 s) rfl, St.out.cell 3 (v := .int .i64 ee) rfl⟩ (fun hH => ?_)
    clear hK K
    try simp only [Act.put, List.setIfInBounds_toArray, List.set_cons_zero, List.set_cons_succ]
    refine takeH 2 (v := ?vfa2) rfl (by kernel_rfl) (by kernel_rfl) (by kernel_rfl) (fun _ _ _ h => h) hH rfl ?yfa2 ?rfa2
    case yfa2 => intro W hSw; go_simp; try with_reducible rfl
    try simp only [Act.put, List.setIfInBounds_toArray, List.set_cons_zero, List.set_cons_succ]
    refine skipH 3 rfl (by kernel_rfl) (by kernel_rfl) (by kernel_rfl) (fun _ _ _ h => h) hH rfl ?_
    try simp only [Act.put, List.setIfInBounds_toArray, List.set_cons_zero, List.set_cons_succ]
    refine skipH 4 rfl (by kernel_rfl) (by kernel_rfl) (by kernel_rfl) (fun _ _ _ h => h) hH rfl ?_
    try simp only [Act.put, List.setIfInBounds_toArray, List.set_cons_zero, List.set_cons_succ]
    refine skipH 5 rfl (by kernel_rfl) (by kernel_rfl) (by kernel_rfl) (fun _ _ _ h => h) hH rfl ?_
    try simp only [Act.put, List.setIfInBounds_toArray, List.set_cons_zero, List.set_cons_succ]
    refine skipH 6 rfl (by kernel_rfl) (by kernel_rfl) (by kernel_rfl) (fun _ _ _ h => h) hH rfl ?_
    try simp only [Act.put, List.setIfInBounds_toArray, List.set_cons_zero, List.set_cons_succ]
    refine skipH 7 rfl (by kernel_rfl) (by kernel_rfl) (by kernel_rfl) (fun _ _ _ h => h) hH rfl ?_
    try simp only [Act.put, List.setIfInBounds_toArray, List.set_cons_zero, List.set_cons_succ]
    refine skipH 8 rfl (by kernel_rfl) (by kernel_rfl) (by kernel_rfl) (fun _ _ _ h => h) hH rfl ?_
    try simp only [Act.put, List.setIfInBounds_toArray, List.set_cons_zero, List.set_cons_succ]
    refine skipH 9 rfl (by kernel_rfl) (by kernel_rfl) (by kernel_rfl) (fun _ _ _ h => h) hH rfl ?_
    try simp only [Act.put, List.setIfInBounds_toArray, List.set_cons_zero, List.set_cons_succ]
    refine skipH 10 rfl (by kernel_rfl) (by kernel_rfl) (by kernel_rfl) (fun _ _ _ h => h) hH rfl ?_
    try simp only [Act.put, List.setIfInBounds_toArray, List.set_cons_zero, List.set_cons_succ]
    refine skipH 11 rfl (by kernel_rfl) (by kernel_rfl) (by kernel_rfl) (fun _ _ _ h => h) hH rfl ?_
    try simp only [Act.put, List.setIfInBounds_toArray, List.set_cons_zero, List.set_cons_succ]
    refine skipH 12 rfl (by kernel_rfl) (by kernel_rfl) (by kernel_rfl) (fun _ _ _ h => h) hH rfl ?_
    try simp only [Act.put, List.setIfInBounds_toArray, List.set_cons_zero, List.set_cons_succ]
    refine skipH 13 rfl (by kernel_rfl) (by kernel_rfl) (by kernel_rfl) (fun _ _ _ h => h) hH rfl ?_
    try simp only [Act.put, List.setIfInBounds_toArray, List.set_cons_zero, List.set_cons_succ]
    refine skipH 14 rfl (by kernel_rfl) (by kernel_rfl) (by kernel_rfl) (fun _ _ _ h => h) hH rfl ?_
    try simp only [Act.put, List.setIfInBounds_toArray, List.set_cons_zero, List.set_cons_succ]
    refine takeH 15 (v := ?vfa3) rfl (by kernel_rfl) (by kernel_rfl) (by kernel_rfl) (fun _ _ _ h => h) hH rfl ?yfa3 ?rfa3
    case yfa3 => intro W hSw; go_simp; try with_reducible rfl
    try simp only [Act.put, List.setIfInBounds_toArray, List.set_cons_zero, List.set_cons_succ]
    refine takeH 16 (v := ?vfa4) rfl (by kernel_rfl) (by kernel_rfl) (by kernel_rfl) (fun _ _ _ h => h) hH rfl ?yfa4 ?rfa4
    case yfa4 => intro W hSw; go_simp; try with_reducible rfl
    try simp only [Act.put, List.setIfInBounds_toArray, List.set_cons_zero, List.set_cons_succ]
    refine skipH 17 rfl (by kernel_rfl) (by kernel_rfl) (by kernel_rfl) (fun _ _ _ h => h) hH rfl ?_
    try simp only [Act.put, List.setIfInBounds_toArray, List.set_cons_zero, List.set_cons_succ]
    refine skipH 18 rfl (by kernel_rfl) (by kernel_rfl) (by kernel_rfl) (fun _ _ _ h => h) hH rfl ?_
    try simp only [Act.put, List.setIfInBounds_toArray, List.set_cons_zero, List.set_cons_succ]
    refine skipH 19 rfl (by kernel_rfl) (by kernel_rfl) (by kernel_rfl) (fun _ _ _ h => h) hH rfl ?_
    try simp only [Act.put, List.setIfInBounds_toArray, List.set_cons_zero, List.set_cons_succ]
    refine skipH 20 rfl (by kernel_rfl) (by kernel_rfl) (by kernel_rfl) (fun _ _ _ h => h) hH rfl ?_
    try simp only [Act.put, List.setIfInBounds_toArray, List.set_cons_zero, List.set_cons_succ]
    refine skipH 21 rfl (by kernel_rfl) (by kernel_rfl) (by kernel_rfl) (fun _ _ _ h => h) hH rfl ?_
    try simp only [Act.put, List.setIfInBounds_toArray, List.set_cons_zero, List.set_cons_succ]
    refine skipH 22 rfl (by kernel_rfl) (by kernel_rfl) (by kernel_rfl) (fun _ _ _ h => h) hH rfl ?_
    try simp only [Act.put, List.setIfInBounds_toArray, List.set_cons_zero, List.set_cons_succ]
    refine skipH 23 rfl (by kernel_rfl) (by kernel_rfl) (by kernel_rfl) (fun _ _ _ h => h) hH rfl ?_
    try simp only [Act.put, List.setIfInBounds_toArray, List.set_cons_zero, List.set_cons_succ]
    refine skipH 24 rfl (by kernel_rfl) (by kernel_rfl) (by kernel_rfl) (fun _ _ _ h => h) hH rfl ?_
    try simp only [Act.put, List.setIfInBounds_toArray, List.set_cons_zero, List.set_cons_succ]
    refine skipH 25 rfl (by kernel_rfl) (by kernel_rfl) (by kernel_rfl) (fun _ _ _ h => h) hH rfl ?_
    try simp only [Act.put, List.setIfInBounds_toArray, List.set_cons_zero, List.set_cons_succ]
    refine skipH 26 rfl (by kernel_rfl) (by kernel_rfl) (by kernel_rfl) (fun _ _ _ h => h) hH rfl ?_
    try simp only [Act.put, List.setIfInBounds_toArray, List.set_cons_zero, List.set_cons_succ]
    refine takeH 27 (v := ?vfa5) rfl (by kernel_rfl) (by kernel_rfl) (by kernel_rfl) (fun _ _ _ h => h) hH rfl ?yfa5 ?rfa5
    case yfa5 => intro W hSw; go_simp; try with_reducible rfl
    try simp only [Act.put, List.setIfInBounds_toArray, List.set_cons_zero, List.set_cons_succ]
    refine takeH 28 (v := ?vfa6) rfl (by kernel_rfl) (by kernel_rfl) (by kernel_rfl) (fun _ _ _ h => h) hH rfl ?yfa6 ?rfa6
    case yfa6 => intro W hSw; go_simp; try with_reducible rfl
    try simp only [Act.put, List.setIfInBounds_toArray, List.set_cons_zero, List.set_cons_succ]
    refine wpAnyH_done (by kernel_rfl) ?_ _
    try simp only [Act.put]
    obtain ⟨hs1, hs2⟩ := ap_no (n := n) Hok.out
    have hgl := HGe.out.trans hs1
    have hfn := HFe.out.trans hs2
    have HQ := Lib.hid (show ∀ W, IntsAt W ao G → IntsAt W ax l → Calls Try.prog 14 #[.agg #[.slice ao G.length co, .int .i64 F], .agg #[.slice ax l.length cx, .int .i64 n]] W fun e w' => e = .returned (.bool true) ∧ Below W.heap.size W w' from by clear hH; intro W h1 h2; subst hgl hfn; exact laws_sameLedger _ _ _ _ _ _ W (by omega) h1 h2)
    obtain rfl : C = false := HCo.out.trans Hok.out
    clear hs1 hs2 hgl hfn HGe HFe HCo hH
    have cl_0 := Sl.out.cell 0 (v := .slice ax l.length cx) rfl
    have cl_1 := Sl.out.cell 1 (v := .int .i64 n) rfl
    have ct_0 := St.out.cell 0 (v := .int .i64 f) rfl
    have ct_1 := St.out.cell 1 (v := .int .i64 t) rfl
    have ct_2 := St.out.cell 2 (v := .int .i64 s) rfl
    have ct_3 := St.out.cell 3 (v := .int .i64 ee) rfl
    have co_0 := So.out.cell 0 (v := .slice ao G.length co) rfl
    have co_1 := So.out.cell 1 (v := .int .i64 F) rfl
    go_wp2_with fail
    clear cl_0 cl_1 ct_0 ct_1 ct_2 ct_3 co_0 co_1
    refine (HQ.out _ To.out.at Tl.out.at).mono ?_
    rintro e w10 ⟨rfl, hb⟩
    replace Tl := Lib.hid (show Own 3 w10 w.heap.size (.slice ax l.length cx) (l) from Tl.out.below hb)
    replace To := Lib.hid (show Own 3 w10 w.heap.size (.slice ao (G).length co) (G) from To.out.below hb)
    replace Sl := Lib.hid (show Str w10 (w1.heap.size) 25 #[.slice ax l.length cx, .int .i64 n] from (hb.block _ Sl.out.lt).trans Sl.out)
    replace St := Lib.hid (show Str w10 (w1.heap.size + 1) 27 #[.int .i64 f, .int .i64 t, .int .i64 s, .int .i64 ee] from (hb.block _ St.out.lt).trans St.out)
    replace So := Lib.hid (show Str w10 (w3.heap.size) 25 #[.slice ao G.length co, .int .i64 F] from (hb.block _ So.out.lt).trans So.out)
    have hsw10 := hb.size
    replace Hb := Lib.hid (below_step Hb.out Hb.out.size hb)
    clear hb
    go_wp2
    go_ret
    exact ⟨by first | rfl | exact ret_bool (by simp) | exact ret_bool (by simp; omega), Hb.out⟩
  rw [hbt] at HT
  have HT := Lib.hid HT
  obtain ⟨hx1, hx2, hx3, hx4, hx5⟩ := txB_iff.1 hbt
  dsimp only at hx1 hx2 hx3 hx4 hx5
  obtain ⟨i, rfl⟩ : ∃ i : Nat, f = i := ⟨f.toNat, by omega⟩
  obtain ⟨j, rfl⟩ : ∃ j : Nat, t = j := ⟨t.toNat, by omega⟩
  have h6 := H6.out
  have hil : i < l.length := by omega
  have hjl : j < l.length := by omega
  clear h6
  have hil' : (i : Int) < (l.length : Int) := by omega
  have hjl' : (j : Int) < (l.length : Int) := by omega
  obtain ⟨b, off, hax, _, hc1⟩ := IntsAt.cell Tl.out.at (by omega)
  obtain ⟨bi, hbi⟩ : ∃ z, z = l[i] := ⟨_, rfl⟩
  obtain ⟨bj, hbj⟩ : ∃ z, z = l[j] := ⟨_, rfl⟩
  have hr1 := Hv1.out _ (List.getElem_mem hil)
  have hr2 := Hv1.out _ (List.getElem_mem hjl)
  rw [← hbi] at hr1
  rw [← hbj] at hr2
  clear hc1
  have HCI := Lib.hid (show ∀ W, Own 3 W w.heap.size (.slice ax l.length cx) l → W.cell? ⟨b, off + i, none⟩ = some (.int .i64 bi) from fun W h => by obtain ⟨b', off', e, _, hc⟩ := IntsAt.cell h.at (by omega); rw [hax] at e; simp only [Option.some.injEq, Addr.mk.injEq, and_true] at e; obtain ⟨rfl, rfl⟩ := e; rw [hbi]; exact hc i hil)
  have HCJ := Lib.hid (show ∀ W, Own 3 W w.heap.size (.slice ax l.length cx) l → W.cell? ⟨b, off + j, none⟩ = some (.int .i64 bj) from fun W h => by obtain ⟨b', off', e, _, hc⟩ := IntsAt.cell h.at (by omega); rw [hax] at e; simp only [Option.some.injEq, Addr.mk.injEq, and_true] at e; obtain ⟨rfl, rfl⟩ := e; rw [hbj]; exact hc j hjl)
  have HX := Lib.hid (show okT l ⟨i, j, s, ee⟩ = (decide (s + ee ≤ bi) && decide (bj + s ≤ 999)) from by unfold okT; rw [hbt, bal_at (by simpa using hil), bal_at (by simpa using hjl), hbi, hbj]; rfl)
  clear hbi hbj hbt hx3
  subst hax
  have w1' : IntKind.i64.wrap (s + ee) = s + ee := IntWalk.i64_in _ (by omega)
  have w2' : IntKind.i64.wrap (bj + s) = bj + s := IntWalk.i64_in _ (by omega)
  have ct_0 := St.out.cell 0 (v := .int .i64 i) rfl
  have ct_1 := St.out.cell 1 (v := .int .i64 j) rfl
  have ct_2 := St.out.cell 2 (v := .int .i64 s) rfl
  have ct_3 := St.out.cell 3 (v := .int .i64 ee) rfl
  have cl_0 := Sl.out.cell 0 (v := .slice (some ⟨b, off, none⟩) l.length cx) rfl
  have cl_1 := Sl.out.cell 1 (v := .int .i64 n) rfl
  have ck_0 := Sk.out.cell 0 (v := .slice ak G.length ck) rfl
  have ck_1 := Sk.out.cell 1 (v := .int .i64 F) rfl
  go_wp2_with fail
  clear ck_0 ck_1
  clear Tk
  clear Sk
  have hdr : Below w7.heap.size w7 w7.drew := (Below.refl _ _).drew
  clear ct_0 ct_1 ct_2 ct_3 cl_0 cl_1
  replace Tl := Lib.hid (show Own 3 w7.drew w.heap.size (.slice (some ⟨b, off, none⟩) l.length cx) (l) from Tl.out.below hdr)
  replace To := Lib.hid (show Own 3 w7.drew w.heap.size (.slice ao (G).length co) (G) from To.out.below hdr)
  replace Sl := Lib.hid (show Str w7.drew (w1.heap.size) 25 #[.slice (some ⟨b, off, none⟩) l.length cx, .int .i64 n] from (hdr.block _ Sl.out.lt).trans Sl.out)
  replace St := Lib.hid (show Str w7.drew (w1.heap.size + 1) 27 #[.int .i64 i, .int .i64 j, .int .i64 s, .int .i64 ee] from (hdr.block _ St.out.lt).trans St.out)
  replace So := Lib.hid (show Str w7.drew (w3.heap.size) 25 #[.slice ao G.length co, .int .i64 F] from (hdr.block _ So.out.lt).trans So.out)
  replace Hb := Lib.hid (below_step Hb.out Hb.out.size hdr)
  refine wp_region_held_drew (S := fun W' => W'.cell? ⟨w1.heap.size + 1, 0, none⟩ = some (.int .i64 i) ∧ W'.cell? ⟨w1.heap.size + 1, 1, none⟩ = some (.int .i64 j) ∧ W'.cell? ⟨w1.heap.size + 1, 2, none⟩ = some (.int .i64 s) ∧ W'.cell? ⟨w1.heap.size + 1, 3, none⟩ = some (.int .i64 ee) ∧ W'.cell? ⟨w1.heap.size, 0, none⟩ = some (.slice (some ⟨b, off, none⟩) l.length cx) ∧ W'.cell? ⟨w1.heap.size, 1, none⟩ = some (.int .i64 n) ∧ W'.cell? ⟨b, off + i, none⟩ = some (.int .i64 bi) ∧ W'.cell? ⟨b, off + j, none⟩ = some (.int .i64 bj)) (by kernel_rfl) ⟨St.out.cell 0 (v := .int .i64 i) rfl, St.out.cell 1 (v := .int .i64 j) rfl, St.out.cell 2 (v := .int .i64 s) rfl, St.out.cell 3 (v := .int .i64 ee) rfl, Sl.out.cell 0 (v := .slice (some ⟨b, off, none⟩) l.length cx) rfl, Sl.out.cell 1 (v := .int .i64 n) rfl, HCI.out _ Tl.out, HCJ.out _ Tl.out⟩ (fun hH => ?_)
  clear hdr
  generalize w7.drew = w8 at *
  refine takeH 0 (v := ?vfb1) rfl (by kernel_rfl) (by kernel_rfl) (by kernel_rfl) (fun _ _ _ h => h) hH rfl ?yfb1 ?rfb1
  case yfb1 => intro W hSw; go_simp; try with_reducible rfl
  try simp only [Act.put, List.setIfInBounds_toArray, List.set_cons_zero, List.set_cons_succ]
  refine callH 1 rfl (by kernel_rfl) rfl (fun K hK => ?_)
  go_simp
  refine (HT.out _).mono ?_
  rintro e1 w9 ⟨rfl, hb⟩
  replace Tl := Lib.hid (show Own 3 w9 w.heap.size (.slice (some ⟨b, off, none⟩) l.length cx) (l) from Tl.out.below hb)
  replace To := Lib.hid (show Own 3 w9 w.heap.size (.slice ao (G).length co) (G) from To.out.below hb)
  replace Sl := Lib.hid (show Str w9 (w1.heap.size) 25 #[.slice (some ⟨b, off, none⟩) l.length cx, .int .i64 n] from (hb.block _ Sl.out.lt).trans Sl.out)
  replace St := Lib.hid (show Str w9 (w1.heap.size + 1) 27 #[.int .i64 i, .int .i64 j, .int .i64 s, .int .i64 ee] from (hb.block _ St.out.lt).trans St.out)
  replace So := Lib.hid (show Str w9 (w3.heap.size) 25 #[.slice ao G.length co, .int .i64 F] from (hb.block _ So.out.lt).trans So.out)
  have hsw9 := hb.size
  replace Hb := Lib.hid (below_step Hb.out Hb.out.size hb)
  clear hb
  refine hK.out _ _ ⟨St.out.cell 0 (v := .int .i64 i) rfl, St.out.cell 1 (v := .int .i64 j) rfl, St.out.cell 2 (v := .int .i64 s) rfl, St.out.cell 3 (v := .int .i64 ee) rfl, Sl.out.cell 0 (v := .slice (some ⟨b, off, none⟩) l.length cx) rfl, Sl.out.cell 1 (v := .int .i64 n) rfl, HCI.out _ Tl.out, HCJ.out _ Tl.out⟩ (fun hH => ?_)
  clear hK K
  try simp only [Act.put, List.setIfInBounds_toArray, List.set_cons_zero, List.set_cons_succ]
  refine takeH 2 (v := ?vfb2) rfl (by kernel_rfl) (by kernel_rfl) (by kernel_rfl) (fun _ _ _ h => h) hH rfl ?yfb2 ?rfb2
  case yfb2 => intro W hSw; go_simp; try with_reducible rfl
  try simp only [Act.put, List.setIfInBounds_toArray, List.set_cons_zero, List.set_cons_succ]
  refine takeH 3 (v := ?vfb3) rfl (by kernel_rfl) (by kernel_rfl) (by kernel_rfl) (fun _ _ _ h => h) hH rfl ?yfb3 ?rfb3
  case yfb3 => intro W hSw; go_simp; try with_reducible rfl
  try simp only [Act.put, List.setIfInBounds_toArray, List.set_cons_zero, List.set_cons_succ]
  refine takeH 4 (v := ?vfb4) rfl (by kernel_rfl) (by kernel_rfl) (by kernel_rfl) (fun _ _ _ h => h) hH rfl ?yfb4 ?rfb4
  case yfb4 => intro W hSw; go_simp; try with_reducible rfl
  try simp only [Act.put, List.setIfInBounds_toArray, List.set_cons_zero, List.set_cons_succ]
  refine takeH 5 (v := ?vfb5) rfl (by kernel_rfl) (by kernel_rfl) (by kernel_rfl) (fun _ _ _ h => h) hH rfl ?yfb5 ?rfb5
  case yfb5 => intro W hSw; go_simp; try with_reducible rfl
  try simp only [Act.put, List.setIfInBounds_toArray, List.set_cons_zero, List.set_cons_succ]
  refine takeH 6 (v := ?vfb6) rfl (by kernel_rfl) (by kernel_rfl) (by kernel_rfl) (fun _ _ _ h => h) hH rfl ?yfb6 ?rfb6
  case yfb6 => intro W hSw; go_simp; try with_reducible rfl
  try simp only [Act.put, List.setIfInBounds_toArray, List.set_cons_zero, List.set_cons_succ]
  refine takeH 7 (v := ?vfb7) rfl (by kernel_rfl) (by kernel_rfl) (by kernel_rfl) (fun _ _ _ h => h) hH rfl ?yfb7 ?rfb7
  case yfb7 => intro W hSw; go_simp; try with_reducible rfl
  try simp only [Act.put, List.setIfInBounds_toArray, List.set_cons_zero, List.set_cons_succ]
  refine takeH 8 (v := ?vfb8) rfl (by kernel_rfl) (by kernel_rfl) (by kernel_rfl) (fun _ _ _ h => h) hH rfl ?yfb8 ?rfb8
  case yfb8 => intro W hSw; go_simp; try with_reducible rfl
  try simp only [Act.put, List.setIfInBounds_toArray, List.set_cons_zero, List.set_cons_succ]
  refine takeH 9 (v := ?vfb9) rfl (by kernel_rfl) (by kernel_rfl) (by kernel_rfl) (fun _ _ _ h => h) hH rfl ?yfb9 ?rfb9
  case yfb9 => intro W hSw; go_simp; try with_reducible rfl
  try simp only [Act.put, List.setIfInBounds_toArray, List.set_cons_zero, List.set_cons_succ]
  refine takeH 10 (v := ?vfb10) rfl (by kernel_rfl) (by kernel_rfl) (by kernel_rfl) (fun _ _ _ h => h) hH rfl ?yfb10 ?rfb10
  case yfb10 => intro W hSw; go_simp; try with_reducible rfl
  try simp only [Act.put, List.setIfInBounds_toArray, List.set_cons_zero, List.set_cons_succ]
  refine takeH 11 (v := ?vfb11) rfl (by kernel_rfl) (by kernel_rfl) (by kernel_rfl) (fun _ _ _ h => h) hH rfl ?yfb11 ?rfb11
  case yfb11 => intro W hSw; go_simp; try with_reducible rfl
  try simp only [Act.put, List.setIfInBounds_toArray, List.set_cons_zero, List.set_cons_succ]
  refine takeH 12 (v := ?vfb12) rfl (by kernel_rfl) (by kernel_rfl) (by kernel_rfl) (fun _ _ _ h => h) hH rfl ?yfb12 ?rfb12
  case yfb12 => intro W hSw; go_simp; try with_reducible rfl
  try simp only [Act.put, List.setIfInBounds_toArray, List.set_cons_zero, List.set_cons_succ]
  refine takeH 13 (v := .int .i64 (s + ee)) rfl (by kernel_rfl) (by kernel_rfl) (by kernel_rfl) (fun _ _ _ h => h) hH rfl ?yfb13 ?rfb13
  case yfb13 => intro W hSw; go_simp; first | done | (simp [w1'])
  try simp only [Act.put, List.setIfInBounds_toArray, List.set_cons_zero, List.set_cons_succ]
  refine takeH 14 (v := ?vfb14) rfl (by kernel_rfl) (by kernel_rfl) (by kernel_rfl) (fun _ _ _ h => h) hH rfl ?yfb14 ?rfb14
  case yfb14 => intro W hSw; go_simp; try with_reducible rfl
  try simp only [Act.put, List.setIfInBounds_toArray, List.set_cons_zero, List.set_cons_succ]
  by_cases h1 : s + ee ≤ bi
  case neg =>
    have d1 : decide (s + ee ≤ bi) = false := decide_eq_false h1
    have Hok := Lib.hid (HX.out.trans (by rw [d1, Bool.false_and]))
    rw [d1]
    refine takeH 15 (v := ?vfb15) rfl (by kernel_rfl) (by kernel_rfl) (by kernel_rfl) (fun _ _ _ h => h) hH rfl ?yfb15 ?rfb15
    case yfb15 => intro W hSw; go_simp; try with_reducible rfl
    try simp only [Act.put, List.setIfInBounds_toArray, List.set_cons_zero, List.set_cons_succ]
    refine takeH 16 (v := ?vfb16) rfl (by kernel_rfl) (by kernel_rfl) (by kernel_rfl) (fun _ _ _ h => h) hH rfl ?yfb16 ?rfb16
    case yfb16 => intro W hSw; go_simp; try with_reducible rfl
    try simp only [Act.put, List.setIfInBounds_toArray, List.set_cons_zero, List.set_cons_succ]
    refine skipH 17 rfl (by kernel_rfl) (by kernel_rfl) (by kernel_rfl) (fun _ _ _ h => h) hH rfl ?_
    try simp only [Act.put, List.setIfInBounds_toArray, List.set_cons_zero, List.set_cons_succ]
    refine skipH 18 rfl (by kernel_rfl) (by kernel_rfl) (by kernel_rfl) (fun _ _ _ h => h) hH rfl ?_
    try simp only [Act.put, List.setIfInBounds_toArray, List.set_cons_zero, List.set_cons_succ]
    refine skipH 19 rfl (by kernel_rfl) (by kernel_rfl) (by kernel_rfl) (fun _ _ _ h => h) hH rfl ?_
    try simp only [Act.put, List.setIfInBounds_toArray, List.set_cons_zero, List.set_cons_succ]
    refine skipH 20 rfl (by kernel_rfl) (by kernel_rfl) (by kernel_rfl) (fun _ _ _ h => h) hH rfl ?_
    try simp only [Act.put, List.setIfInBounds_toArray, List.set_cons_zero, List.set_cons_succ]
    refine skipH 21 rfl (by kernel_rfl) (by kernel_rfl) (by kernel_rfl) (fun _ _ _ h => h) hH rfl ?_
    try simp only [Act.put, List.setIfInBounds_toArray, List.set_cons_zero, List.set_cons_succ]
    refine skipH 22 rfl (by kernel_rfl) (by kernel_rfl) (by kernel_rfl) (fun _ _ _ h => h) hH rfl ?_
    try simp only [Act.put, List.setIfInBounds_toArray, List.set_cons_zero, List.set_cons_succ]
    refine skipH 23 rfl (by kernel_rfl) (by kernel_rfl) (by kernel_rfl) (fun _ _ _ h => h) hH rfl ?_
    try simp only [Act.put, List.setIfInBounds_toArray, List.set_cons_zero, List.set_cons_succ]
    refine skipH 24 rfl (by kernel_rfl) (by kernel_rfl) (by kernel_rfl) (fun _ _ _ h => h) hH rfl ?_
    try simp only [Act.put, List.setIfInBounds_toArray, List.set_cons_zero, List.set_cons_succ]
    refine skipH 25 rfl (by kernel_rfl) (by kernel_rfl) (by kernel_rfl) (fun _ _ _ h => h) hH rfl ?_
    try simp only [Act.put, List.setIfInBounds_toArray, List.set_cons_zero, List.set_cons_succ]
    refine skipH 26 rfl (by kernel_rfl) (by kernel_rfl) (by kernel_rfl) (fun _ _ _ h => h) hH rfl ?_
    try simp only [Act.put, List.setIfInBounds_toArray, List.set_cons_zero, List.set_cons_succ]
    refine takeH 27 (v := ?vfb17) rfl (by kernel_rfl) (by kernel_rfl) (by kernel_rfl) (fun _ _ _ h => h) hH rfl ?yfb17 ?rfb17
    case yfb17 => intro W hSw; go_simp; try with_reducible rfl
    try simp only [Act.put, List.setIfInBounds_toArray, List.set_cons_zero, List.set_cons_succ]
    refine takeH 28 (v := ?vfb18) rfl (by kernel_rfl) (by kernel_rfl) (by kernel_rfl) (fun _ _ _ h => h) hH rfl ?yfb18 ?rfb18
    case yfb18 => intro W hSw; go_simp; try with_reducible rfl
    try simp only [Act.put, List.setIfInBounds_toArray, List.set_cons_zero, List.set_cons_succ]
    refine wpAnyH_done (by kernel_rfl) ?_ _
    try simp only [Act.put]
    obtain ⟨hs1, hs2⟩ := ap_no (n := n) Hok.out
    have hgl := HGe.out.trans hs1
    have hfn := HFe.out.trans hs2
    have HQ := Lib.hid (show ∀ W, IntsAt W ao G → IntsAt W (some ⟨b, off, none⟩) l → Calls Try.prog 14 #[.agg #[.slice ao G.length co, .int .i64 F], .agg #[.slice (some ⟨b, off, none⟩) l.length cx, .int .i64 n]] W fun e w' => e = .returned (.bool true) ∧ Below W.heap.size W w' from by clear hH; intro W h1 h2; subst hgl hfn; exact laws_sameLedger _ _ _ _ _ _ W (by omega) h1 h2)
    obtain rfl : C = false := HCo.out.trans Hok.out
    clear hs1 hs2 hgl hfn HGe HFe HCo hH
    have cl_0 := Sl.out.cell 0 (v := .slice (some ⟨b, off, none⟩) l.length cx) rfl
    have cl_1 := Sl.out.cell 1 (v := .int .i64 n) rfl
    have ct_0 := St.out.cell 0 (v := .int .i64 i) rfl
    have ct_1 := St.out.cell 1 (v := .int .i64 j) rfl
    have ct_2 := St.out.cell 2 (v := .int .i64 s) rfl
    have ct_3 := St.out.cell 3 (v := .int .i64 ee) rfl
    have co_0 := So.out.cell 0 (v := .slice ao G.length co) rfl
    have co_1 := So.out.cell 1 (v := .int .i64 F) rfl
    go_wp2_with fail
    clear cl_0 cl_1 ct_0 ct_1 ct_2 ct_3 co_0 co_1
    refine (HQ.out _ To.out.at Tl.out.at).mono ?_
    rintro e w10 ⟨rfl, hb⟩
    replace Tl := Lib.hid (show Own 3 w10 w.heap.size (.slice (some ⟨b, off, none⟩) l.length cx) (l) from Tl.out.below hb)
    replace To := Lib.hid (show Own 3 w10 w.heap.size (.slice ao (G).length co) (G) from To.out.below hb)
    replace Sl := Lib.hid (show Str w10 (w1.heap.size) 25 #[.slice (some ⟨b, off, none⟩) l.length cx, .int .i64 n] from (hb.block _ Sl.out.lt).trans Sl.out)
    replace St := Lib.hid (show Str w10 (w1.heap.size + 1) 27 #[.int .i64 i, .int .i64 j, .int .i64 s, .int .i64 ee] from (hb.block _ St.out.lt).trans St.out)
    replace So := Lib.hid (show Str w10 (w3.heap.size) 25 #[.slice ao G.length co, .int .i64 F] from (hb.block _ So.out.lt).trans So.out)
    have hsw10 := hb.size
    replace Hb := Lib.hid (below_step Hb.out Hb.out.size hb)
    clear hb
    go_wp2
    go_ret
    exact ⟨by first | rfl | exact ret_bool (by simp) | exact ret_bool (by simp; omega), Hb.out⟩
  have d1 : decide (s + ee ≤ bi) = true := decide_eq_true h1
  have Hok := Lib.hid (HX.out.trans (by rw [d1, Bool.true_and]))
  rw [d1]
  refine takeH 15 (v := ?vfb19) rfl (by kernel_rfl) (by kernel_rfl) (by kernel_rfl) (fun _ _ _ h => h) hH rfl ?yfb19 ?rfb19
  case yfb19 => intro W hSw; go_simp; try with_reducible rfl
  try simp only [Act.put, List.setIfInBounds_toArray, List.set_cons_zero, List.set_cons_succ]
  refine takeH 16 (v := ?vfb20) rfl (by kernel_rfl) (by kernel_rfl) (by kernel_rfl) (fun _ _ _ h => h) hH rfl ?yfb20 ?rfb20
  case yfb20 => intro W hSw; go_simp; try with_reducible rfl
  try simp only [Act.put, List.setIfInBounds_toArray, List.set_cons_zero, List.set_cons_succ]
  refine takeH 17 (v := ?vfb21) rfl (by kernel_rfl) (by kernel_rfl) (by kernel_rfl) (fun _ _ _ h => h) hH rfl ?yfb21 ?rfb21
  case yfb21 => intro W hSw; go_simp; try with_reducible rfl
  try simp only [Act.put, List.setIfInBounds_toArray, List.set_cons_zero, List.set_cons_succ]
  refine takeH 18 (v := ?vfb22) rfl (by kernel_rfl) (by kernel_rfl) (by kernel_rfl) (fun _ _ _ h => h) hH rfl ?yfb22 ?rfb22
  case yfb22 => intro W hSw; go_simp; try with_reducible rfl
  try simp only [Act.put, List.setIfInBounds_toArray, List.set_cons_zero, List.set_cons_succ]
  refine takeH 19 (v := ?vfb23) rfl (by kernel_rfl) (by kernel_rfl) (by kernel_rfl) (fun _ _ _ h => h) hH rfl ?yfb23 ?rfb23
  case yfb23 => intro W hSw; go_simp; try with_reducible rfl
  try simp only [Act.put, List.setIfInBounds_toArray, List.set_cons_zero, List.set_cons_succ]
  refine takeH 20 (v := ?vfb24) rfl (by kernel_rfl) (by kernel_rfl) (by kernel_rfl) (fun _ _ _ h => h) hH rfl ?yfb24 ?rfb24
  case yfb24 => intro W hSw; go_simp; try with_reducible rfl
  try simp only [Act.put, List.setIfInBounds_toArray, List.set_cons_zero, List.set_cons_succ]
  refine takeH 21 (v := ?vfb25) rfl (by kernel_rfl) (by kernel_rfl) (by kernel_rfl) (fun _ _ _ h => h) hH rfl ?yfb25 ?rfb25
  case yfb25 => intro W hSw; go_simp; try with_reducible rfl
  try simp only [Act.put, List.setIfInBounds_toArray, List.set_cons_zero, List.set_cons_succ]
  refine takeH 22 (v := ?vfb26) rfl (by kernel_rfl) (by kernel_rfl) (by kernel_rfl) (fun _ _ _ h => h) hH rfl ?yfb26 ?rfb26
  case yfb26 => intro W hSw; go_simp; try with_reducible rfl
  try simp only [Act.put, List.setIfInBounds_toArray, List.set_cons_zero, List.set_cons_succ]
  refine takeH 23 (v := ?vfb27) rfl (by kernel_rfl) (by kernel_rfl) (by kernel_rfl) (fun _ _ _ h => h) hH rfl ?yfb27 ?rfb27
  case yfb27 => intro W hSw; go_simp; try with_reducible rfl
  try simp only [Act.put, List.setIfInBounds_toArray, List.set_cons_zero, List.set_cons_succ]
  refine takeH 24 (v := ?vfb28) rfl (by kernel_rfl) (by kernel_rfl) (by kernel_rfl) (fun _ _ _ h => h) hH rfl ?yfb28 ?rfb28
  case yfb28 => intro W hSw; go_simp; try with_reducible rfl
  try simp only [Act.put, List.setIfInBounds_toArray, List.set_cons_zero, List.set_cons_succ]
  refine takeH 25 (v := .int .i64 (bj + s)) rfl (by kernel_rfl) (by kernel_rfl) (by kernel_rfl) (fun _ _ _ h => h) hH rfl ?yfb29 ?rfb29
  case yfb29 => intro W hSw; go_simp; first | done | (simp [w2'])
  try simp only [Act.put, List.setIfInBounds_toArray, List.set_cons_zero, List.set_cons_succ]
  refine takeH 26 (v := ?vfb30) rfl (by kernel_rfl) (by kernel_rfl) (by kernel_rfl) (fun _ _ _ h => h) hH rfl ?yfb30 ?rfb30
  case yfb30 => intro W hSw; go_simp; try with_reducible rfl
  try simp only [Act.put, List.setIfInBounds_toArray, List.set_cons_zero, List.set_cons_succ]
  by_cases h2 : bj + s ≤ 999
  case neg =>
    have d2 : decide (bj + s ≤ 999) = false := decide_eq_false h2
    have Hok := Lib.hid (Hok.out.trans d2)
    rw [d2]
    refine takeH 27 (v := ?vfb31) rfl (by kernel_rfl) (by kernel_rfl) (by kernel_rfl) (fun _ _ _ h => h) hH rfl ?yfb31 ?rfb31
    case yfb31 => intro W hSw; go_simp; try with_reducible rfl
    try simp only [Act.put, List.setIfInBounds_toArray, List.set_cons_zero, List.set_cons_succ]
    refine takeH 28 (v := ?vfb32) rfl (by kernel_rfl) (by kernel_rfl) (by kernel_rfl) (fun _ _ _ h => h) hH rfl ?yfb32 ?rfb32
    case yfb32 => intro W hSw; go_simp; try with_reducible rfl
    try simp only [Act.put, List.setIfInBounds_toArray, List.set_cons_zero, List.set_cons_succ]
    refine wpAnyH_done (by kernel_rfl) ?_ _
    try simp only [Act.put]
    obtain ⟨hs1, hs2⟩ := ap_no (n := n) Hok.out
    have hgl := HGe.out.trans hs1
    have hfn := HFe.out.trans hs2
    have HQ := Lib.hid (show ∀ W, IntsAt W ao G → IntsAt W (some ⟨b, off, none⟩) l → Calls Try.prog 14 #[.agg #[.slice ao G.length co, .int .i64 F], .agg #[.slice (some ⟨b, off, none⟩) l.length cx, .int .i64 n]] W fun e w' => e = .returned (.bool true) ∧ Below W.heap.size W w' from by clear hH; intro W h1 h2; subst hgl hfn; exact laws_sameLedger _ _ _ _ _ _ W (by omega) h1 h2)
    obtain rfl : C = false := HCo.out.trans Hok.out
    clear hs1 hs2 hgl hfn HGe HFe HCo hH
    have cl_0 := Sl.out.cell 0 (v := .slice (some ⟨b, off, none⟩) l.length cx) rfl
    have cl_1 := Sl.out.cell 1 (v := .int .i64 n) rfl
    have ct_0 := St.out.cell 0 (v := .int .i64 i) rfl
    have ct_1 := St.out.cell 1 (v := .int .i64 j) rfl
    have ct_2 := St.out.cell 2 (v := .int .i64 s) rfl
    have ct_3 := St.out.cell 3 (v := .int .i64 ee) rfl
    have co_0 := So.out.cell 0 (v := .slice ao G.length co) rfl
    have co_1 := So.out.cell 1 (v := .int .i64 F) rfl
    go_wp2_with fail
    clear cl_0 cl_1 ct_0 ct_1 ct_2 ct_3 co_0 co_1
    refine (HQ.out _ To.out.at Tl.out.at).mono ?_
    rintro e w10 ⟨rfl, hb⟩
    replace Tl := Lib.hid (show Own 3 w10 w.heap.size (.slice (some ⟨b, off, none⟩) l.length cx) (l) from Tl.out.below hb)
    replace To := Lib.hid (show Own 3 w10 w.heap.size (.slice ao (G).length co) (G) from To.out.below hb)
    replace Sl := Lib.hid (show Str w10 (w1.heap.size) 25 #[.slice (some ⟨b, off, none⟩) l.length cx, .int .i64 n] from (hb.block _ Sl.out.lt).trans Sl.out)
    replace St := Lib.hid (show Str w10 (w1.heap.size + 1) 27 #[.int .i64 i, .int .i64 j, .int .i64 s, .int .i64 ee] from (hb.block _ St.out.lt).trans St.out)
    replace So := Lib.hid (show Str w10 (w3.heap.size) 25 #[.slice ao G.length co, .int .i64 F] from (hb.block _ So.out.lt).trans So.out)
    have hsw10 := hb.size
    replace Hb := Lib.hid (below_step Hb.out Hb.out.size hb)
    clear hb
    go_wp2
    go_ret
    exact ⟨by first | rfl | exact ret_bool (by simp) | exact ret_bool (by simp; omega), Hb.out⟩
  have d2 : decide (bj + s ≤ 999) = true := decide_eq_true h2
  have Hok := Lib.hid (Hok.out.trans d2)
  rw [d2]
  refine takeH 27 (v := ?vfb33) rfl (by kernel_rfl) (by kernel_rfl) (by kernel_rfl) (fun _ _ _ h => h) hH rfl ?yfb33 ?rfb33
  case yfb33 => intro W hSw; go_simp; try with_reducible rfl
  try simp only [Act.put, List.setIfInBounds_toArray, List.set_cons_zero, List.set_cons_succ]
  refine takeH 28 (v := ?vfb34) rfl (by kernel_rfl) (by kernel_rfl) (by kernel_rfl) (fun _ _ _ h => h) hH rfl ?yfb34 ?rfb34
  case yfb34 => intro W hSw; go_simp; try with_reducible rfl
  try simp only [Act.put, List.setIfInBounds_toArray, List.set_cons_zero, List.set_cons_succ]
  refine wpAnyH_done (by kernel_rfl) ?_ _
  try simp only [Act.put]
  obtain rfl : C = true := HCo.out.trans Hok.out
  clear hH
  go_wp2
  go_ret
  exact ⟨by first | rfl | exact ret_bool (by simp) | exact ret_bool (by simp; omega), Hb.out⟩

theorem fnLedgerFail_own : ownKnob Try.prog.godebug = none := by kernel_rfl
theorem fnLedgerFail_laidOut : laidOutB Try.prog = true := by kernel_rfl

set_option maxRecDepth 8000 in
theorem fnLedgerFail_lifted (os : Os) (started : os.Started) (H : Type) (enc : TypeId × Value → H) :
    ReturnsInHanded {} Try.checked os 5 .any (Rows.fnLedgerFailSpec.pre6 enc Try.prog Try.f5 Rows.fnLedgerFailRow.domain false) (Rows.fnLedgerFailSpec.post enc Try.prog Try.f5 false true false false) := by
  refine law_lifted (C := Try.checked) (tb := 4) fnLedgerFail_own fnLedgerFail_laidOut started (by kernel_rfl) Try.func5 rfl Try.underlying4 rfl (by rw [Try.params5]; exact of_decide_eq_true (by kernel_rfl)) ?_
    (ChangeSpec.witness6 (enc := enc) (C := Try.checked) false ⟨#[], #[.slice none 0 0], []⟩ 8 (by kernel_rfl) (by kernel_rfl) (by kernel_rfl) (by kernel_rfl)) ?_
  · intro ds hds
    rw [Try.params5] at hds
    match ds, hds with
    | [d0], _ => rfl
  · intro W base args ds p hval0 hA0
    have hval : ∀ (j : Nat) t v, Try.f5.params[j]? = some t → args[j]? = some v → Value.okWide Try.prog W .any base t v := hval0
    have hA : DataW.TrodAll enc Try.prog W 0 (fun _ => true) true Try.f5.params.toList args.toList ds p := hA0
    rw [Try.params5] at hA hval
    obtain ⟨v0, vs0, d0, ds0, p0, q0, hargs0, rfl, rfl, h0, r0⟩ := trodAll_cons hA
    obtain ⟨hnil, rfl, rfl⟩ := trodAll_nil r0
    subst hnil
    obtain rfl : args = #[v0] := by cases args; simp_all
    obtain ⟨a0, cap0, zs0, rfl, hk0, hm0, hi0, hw0⟩ := open_slice_ints Try.underlying22 Try.underlying5 (by kernel_rfl) (hval 0 22 v0 rfl rfl) h0
    exact fnLedgerFail_walk a0 cap0 zs0 W hk0 hm0 hi0 hw0

set_option maxRecDepth 8000 in
theorem fnLedgerFail_holds : Rows.FnLedgerFailSaid :=
  OpenClaim.holds_of_wide 5 Try.f5 rfl rfl rfl rfl rfl rfl rfl ⟨rfl, rfl, rfl, rfl, rfl⟩ rfl rfl rfl rfl rfl (by kernel_rfl) Try.func5 (by kernel_rfl)
    (of_decide_eq_true (by kernel_rfl)) (by unfold Func.isWrapper; first | (rw [if_pos (by decide +kernel)]; kernel_rfl) | (rw [if_neg (by decide +kernel)]; exact ⟨rfl, rfl⟩))
    (fun os started H enc _ => fnLedgerFail_lifted os started H enc)

end Go.Proofs.Ytadgdjjibmofpaa
