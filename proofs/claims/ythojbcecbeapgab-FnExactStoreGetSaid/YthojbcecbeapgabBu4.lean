/- Texts that the laws of this folder share, one behind another; no conditions. -/
import Derived.Test.YthojbcecbeapgabRows
import Derived.Test.YthojbcecbeapgabBu1
import Derived.Test.YthojbcecbeapgabBu2
import Derived.Test.YthojbcecbeapgabBu0
import Derived.Deep.QuietTactic
import Derived.BigQuiet
import Derived.Test.YthojbcecbeapgabBu3

/- The reference's StoreForget and the laws' comparison of stores, each by a walk of its text; condition: a list has at most 2^20 batches. -/
namespace Go.Proofs.Ythojbcecbeapgab
open Go.RowKit

/-- What the reference's StoreForget answers. -/
def SfP (E : TypeId) (f : Int) (l : List Bt) (x : Int) (w : World) (e : Ending) (w' : World) : Prop := ∃ v, e = .returned (.tuple #[.agg #[.int .i64 (foF f l x), v], .bool (foB f l x)]) ∧ OwnB E w' w.heap.size v (foL f l x) ∧ Below w.heap.size w w'
theorem SfP.mk {E : TypeId} {f : Int} {l : List Bt} {x : Int} {w w' : World} {e : Ending} (f' : Int) (l' : List Bt) (c : Bool) (v : Value) (h : e = .returned (.tuple #[.agg #[.int .i64 f', v], .bool c])) (h1 : foF f l x = f') (h2 : foL f l x = l') (h3 : foB f l x = c) {B : Nat} (ho : OwnB E w' B v l') (hB : w.heap.size ≤ B) (hb : Below w.heap.size w w') : SfP E f l x w e w' := ⟨v, by rw [h, h1, h3], by rw [h2]; exact OwnN.mono ho hB, hb⟩
set_option maxHeartbeats 4000000 in
set_option maxRecDepth 8000 in
theorem spec_StoreForget (f : Int) (l : List Bt) (v : Value) (fp : List Nat) (x : Int) (w : World) (hbig : l.length ≤ 1048577) (hl : Bts w l v fp) :
    Calls Try.prog 28 #[.agg #[.int .i64 f, v], .int .i64 x] w (SfP 27 f l x w) := by
  obtain ⟨va, vc, rfl, _⟩ := hl.slice
  have hb0 : Below w.heap.size w ((w.alloc (.cells #[.int .i64 f, .slice va l.length vc] 25)).alloc (.cells #[.int .i64 0, .slice none 0 0] 25)) := ((Below.refl _ _).alloc (Nat.le_refl _) _).alloc (by simp) _
  have sX := (Str.new w 25 #[.int .i64 f, .slice va l.length vc]).alloc (.cells #[.int .i64 0, .slice none 0 0] 25)
  have sR := Str.new (w.alloc (.cells #[.int .i64 f, .slice va l.length vc] 25)) 25 #[.int .i64 0, .slice none 0 0]
  simp only [World.size_alloc] at sR
  have hz0 : w.heap.size + 2 = ((w.alloc (.cells #[.int .i64 f, .slice va l.length vc] 25)).alloc (.cells #[.int .i64 0, .slice none 0 0] 25)).heap.size := by simp
  have SX := Lib.hid sX; have SR := Lib.hid sR; have Hb := Lib.hid hb0; have Hl := Lib.hid hl
  have Hz := Lib.hid hz0
  have z0 := sX.cell 0 (v := .int .i64 f) rfl
  have z1 := sX.cell 1 (v := .slice va l.length vc) rfl
  clear hb0 sX sR hl hz0
  go_enter Try.func28, Try.ntmps28
  go_wp2_with fail
  generalize (w.alloc (.cells #[.int .i64 f, .slice va l.length vc] 25)).alloc (.cells #[.int .i64 0, .slice none 0 0] 25) = W0 at *
  refine (spec_StoreValid f l _ fp W0 hbig (Hl.out.under Hb.out)).mono ?_
  rintro e w1 ⟨rfl, hb1⟩
  have SX := Lib.hid (show Str w1 w.heap.size 25 #[.int .i64 f, .slice va l.length vc] from (hb1.block _ SX.out.lt).trans SX.out)
  have SR := Lib.hid (show Str w1 (w.heap.size + 1) 25 #[.int .i64 0, .slice none 0 0] from (hb1.block _ SR.out.lt).trans SR.out)
  have Hb := Lib.hid (below_step Hb.out Hb.out.size hb1)
  have Hz1 := Lib.hid (show w.heap.size + 1 < w1.heap.size by have := Hz.out; have := hb1.size; omega)
  clear hb1 z0 z1
  cases hs : stB f l with
  | false =>
    have Hc := Lib.hid (show foB f l x = false ∧ foL f l x = [] ∧ foF f l x = 0 from by have h4 : foB f l x = false := (by cases e : foB f l x with | false => rfl | true => exact absurd (foB_iff.1 e) (by rintro ⟨h1, h2, h3⟩; rw [hs] at h1; cases h1)); exact ⟨h4, fo_no h4⟩)
    clear hs
    have f0 := SR.out.frozen 0
    have f1 := SR.out.frozen 1
    have k0 := SR.out.cell 0 (v := .int .i64 0) rfl
    have k1 := SR.out.cell 1 (v := .slice none 0 0) rfl
    have sF := (SR.out.set 0 (.int .i64 0)).set 1 (.slice none 0 0)
    have e0 := sF.cell 0 (v := .int .i64 0) rfl
    have e1 := sF.cell 1 (v := .slice none 0 0) rfl
    clear sF
    have HbF := Lib.hid ((Hb.out.setCell (p := ⟨w.heap.size + 1, 0, none⟩) (by simp only; omega) (.int .i64 0)).setCell (p := ⟨w.heap.size + 1, 1, none⟩) (by simp only; omega) (.slice none 0 0))
    go_wp2
    refine bodyPost_ret (v := .tuple #[.agg #[.int .i64 0, .slice none 0 0], .bool false]) (by simp [results, Try.f28, go_sem, e0, e1]) rfl ?_
    exact SfP.mk 0 [] false _ rfl Hc.out.2.2 Hc.out.2.1 Hc.out.1 (⟨by simp, World.ownsRow_nil _ _ _ _⟩ : OwnB _ _ w.heap.size _ _) (Nat.le_refl _) HbF.out
  | true =>
  have Hs := Lib.hid hs
  clear hs
  have z0 := SX.out.cell 0 (v := .int .i64 f) rfl
  have z1 := SX.out.cell 1 (v := .slice va l.length vc) rfl
  go_wp2_with fail
  refine (spec_l6In x f 31 w1).mono ?_
  rintro e w2 ⟨rfl, rfl⟩
  by_cases hx : f ≤ x ∧ x ≤ 31
  case neg =>
    rw [decide_eq_false hx]
    have Hc := Lib.hid (show foB f l x = false ∧ foL f l x = [] ∧ foF f l x = 0 from by have h4 : foB f l x = false := (by cases e : foB f l x with | false => rfl | true => exact absurd (foB_iff.1 e) (by rintro ⟨h1, h2, h3⟩; omega)); exact ⟨h4, fo_no h4⟩)
    clear hx z0 z1
    have f0 := SR.out.frozen 0
    have f1 := SR.out.frozen 1
    have k0 := SR.out.cell 0 (v := .int .i64 0) rfl
    have k1 := SR.out.cell 1 (v := .slice none 0 0) rfl
    have sF := (SR.out.set 0 (.int .i64 0)).set 1 (.slice none 0 0)
    have e0 := sF.cell 0 (v := .int .i64 0) rfl
    have e1 := sF.cell 1 (v := .slice none 0 0) rfl
    clear sF
    have HbF := Lib.hid ((Hb.out.setCell (p := ⟨w.heap.size + 1, 0, none⟩) (by simp only; omega) (.int .i64 0)).setCell (p := ⟨w.heap.size + 1, 1, none⟩) (by simp only; omega) (.slice none 0 0))
    go_wp2
    refine bodyPost_ret (v := .tuple #[.agg #[.int .i64 0, .slice none 0 0], .bool false]) (by simp [results, Try.f28, go_sem, e0, e1]) rfl ?_
    exact SfP.mk 0 [] false _ rfl Hc.out.2.2 Hc.out.2.1 Hc.out.1 (⟨by simp, World.ownsRow_nil _ _ _ _⟩ : OwnB _ _ w.heap.size _ _) (Nat.le_refl _) HbF.out
  rw [decide_eq_true hx]
  have hfo : foB f l x = true := foB_iff.2 ⟨Hs.out, hx⟩
  have Hc := Lib.hid (show foB f l x = true ∧ foL f l x = fgL l x ∧ foF f l x = x from ⟨hfo, fo_yes hfo⟩)
  have hg12 := (stB_P Hs.out).2.1
  clear hfo hx
  have halL : Below w1.heap.size w1 ((w1.alloc (.cells #[] 27)).alloc (.cells #[.int .i64 x, .slice (some ⟨w1.heap.size, 0, none⟩) 0 0] 25)) := ((Below.refl _ _).alloc (Nat.le_refl _) _).alloc (by simp) _
  have ol : OwnB 27 ((w1.alloc (.cells #[] 27)).alloc (.cells #[.int .i64 x, .slice (some ⟨w1.heap.size, 0, none⟩) 0 0] 25)) w1.heap.size (.slice (some ⟨w1.heap.size, 0, none⟩) 0 0) [] := OwnN.below (OwnB.fresh 27 w1) ((Below.refl _ _).alloc (Nat.le_refl _) _)
  have so := Str.new (w1.alloc (.cells #[] 27)) 25 #[.int .i64 x, .slice (some ⟨w1.heap.size, 0, none⟩) 0 0]
  have hzo : (w1.alloc (.cells #[] 27)).heap.size = w1.heap.size + 1 := by simp
  rw [hzo] at so
  have SX := Lib.hid (show Str _ w.heap.size 25 #[.int .i64 f, .slice va l.length vc] from (halL.block _ SX.out.lt).trans SX.out)
  have SR := Lib.hid (show Str _ (w.heap.size + 1) 25 #[.int .i64 0, .slice none 0 0] from (halL.block _ SR.out.lt).trans SR.out)
  have Hb := Lib.hid (below_step Hb.out Hb.out.size halL)
  have SO := Lib.hid so; have OL := Lib.hid ol
  clear halL ol so hzo z0 z1
  go_wp2
  generalize (w1.alloc (.cells #[] 27)).alloc (.cells #[.int .i64 x, .slice (some ⟨w1.heap.size, 0, none⟩) 0 0] 25) = W3 at *
  obtain ⟨LB, hLB⟩ : ∃ LB, LB = w1.heap.size := ⟨_, rfl⟩
  have hLz := Hz1.out
  rw [← hLB] at SO OL hLz
  rw [← hLB]
  clear hLB
  go_loopw [7] (fun i wr => ∃ (k : Nat) (u : Value), k ≤ l.length ∧ i = .int .i64 k ∧ OwnB 27 wr LB u (fgL (l.take k) x) ∧ Str wr (LB + 1) 25 #[.int .i64 x, u] ∧ (∀ g, u.ownBlock = some g → g ≠ LB + 1) ∧ Str wr w.heap.size 25 #[.int .i64 f, .slice va l.length vc] ∧ Str wr (w.heap.size + 1) 25 #[.int .i64 0, .slice none 0 0] ∧ Below w.heap.size w wr) (fun i _ => l.length - (intOf i).toNat)
  case atStart => exact ⟨0, _, by omega, rfl, by rw [List.take_zero]; exact OL.out, SO.out, (fun g e => by have e' : some LB = some g := e; injection e' with e'; omega), SX.out, SR.out, Hb.out⟩
  case round =>
    clear SX SR SO OL Hb
    obtain ⟨k, u, hk, rfl, ou, so, hne, sx, sr, hb⟩ := hrel
    obtain ⟨au, cu, rfl, _⟩ := ou.sl
    have SX := Lib.hid sx; have SR := Lib.hid sr; have SO := Lib.hid so; have OL := Lib.hid ou; have Hb := Lib.hid hb; have Hne := Lib.hid hne
    have x1 := sx.cell 1 (v := .slice va l.length vc) rfl
    clear sx sr ou hb hne
    by_cases hlt : k < l.length
    case neg =>
      have hlt' : ¬ (k : Int) < (l.length : Int) := by omega
      have hkl : l.take k = l := List.take_of_length_le (by omega)
      rw [hkl] at OL SO Hne
      obtain ⟨nn, hnn⟩ : ∃ nn, nn = (fgL l x).length := ⟨_, rfl⟩
      rw [← hnn] at OL SO Hne
      have o0 := SO.out.cell 0 (v := .int .i64 x) rfl
      have o1 := SO.out.cell 1 (v := .slice au nn cu) rfl
      have f0 := SR.out.frozen 0
      have f1 := SR.out.frozen 1
      have k0 := SR.out.cell 0 (v := .int .i64 0) rfl
      have k1 := SR.out.cell 1 (v := .slice none 0 0) rfl
      have sF := (SR.out.set 0 (.int .i64 x)).set 1 (.slice au nn cu)
      have e0 := sF.cell 0 (v := .int .i64 x) rfl
      have e1 := sF.cell 1 (v := .slice au nn cu) rfl
      have hneR : ∀ g, (Value.slice au nn cu).ownBlock = some g → g ≠ w.heap.size + 1 := fun g e => by have := (OL.out.lt g e).1; omega
      have HoF := Lib.hid ((OwnB.setc OL.out hneR 0 (.int .i64 x)).setc hneR 1 (.slice au nn cu))
      have HbF := Lib.hid ((Hb.out.setCell (p := ⟨w.heap.size + 1, 0, none⟩) (by simp only; omega) (.int .i64 x)).setCell (p := ⟨w.heap.size + 1, 1, none⟩) (by simp only; omega) (.slice au nn cu))
      clear sF hkl hlt hnn so hneR
      go_wp2
      refine bodyPost_ret (v := .tuple #[.agg #[.int .i64 x, .slice au nn cu], .bool true]) (by simp [results, Try.f28, go_sem, e0, e1]) rfl ?_
      exact SfP.mk x (fgL l x) true _ rfl Hc.out.2.2 Hc.out.2.1 Hc.out.1 HoF.out (by omega) HbF.out
    have hlt' : (k : Int) < (l.length : Int) := by omega
    obtain ⟨gb, off, rfl, hgb, hat⟩ := Hl.out.at (by omega)
    obtain ⟨d0, d1, d2, d3⟩ := hat k hlt
    have c0 := (Hb.out.cell (p := ⟨gb, off + k * 4, none⟩) hgb).trans d0
    have c1 := (Hb.out.cell (p := ⟨gb, off + k * 4 + 1, none⟩) hgb).trans d1
    have c2 := (Hb.out.cell (p := ⟨gb, off + k * 4 + 2, none⟩) hgb).trans d2
    have c3 := (Hb.out.cell (p := ⟨gb, off + k * 4 + 3, none⟩) hgb).trans d3
    have Hfg := Lib.hid (fg_take hlt x)
    clear hat d0 d1 d2 d3
    generalize l[k] = y at *
    obtain ⟨yd, ya, yr, ys⟩ := y
    dsimp only at *
    by_cases hr : x ≤ yr
    case neg =>
      have hr' : decide (x ≤ yr) = false := decide_eq_false hr
      have Hf2 := Lib.hid (show fgL (l.take (k + 1)) x = fgL (l.take k) x by rw [Hfg.out, if_neg hr])
      clear so hr
      go_wp2
      go_roundw
      case rel => exact ⟨k + 1, .slice au (fgL (l.take k) x).length cu, by omega, by go_num, by rw [Hf2.out]; exact OL.out, SO.out, Hne.out, SX.out, SR.out, Hb.out⟩
      case measure => simp [intOf]; omega
    have hr' : decide (x ≤ yr) = true := decide_eq_true hr
    have Hf2 := Lib.hid (show fgL (l.take (k + 1)) x = fgL (l.take k) x ++ [⟨yd, ya, yr, ys⟩] by rw [Hfg.out, if_pos hr])
    have hG12 : (fgL (l.take k) x).length ≤ 12 := Nat.le_trans (fg_len _ _) (by rw [List.length_take]; omega)
    clear so hr Hfg
    generalize fgL (l.take k) x = G at *
    have o1 := SO.out.cell 1 (v := .slice au G.length cu) rfl
    go_wp2_with fail
    refine wp_region_L 10 (fun W => W.cell? ⟨LB + 1, 1, none⟩ = some (.slice au G.length cu) ∧ W.cell? ⟨w.heap.size, 1, none⟩ = some (.slice (some ⟨gb, off, none⟩) l.length vc) ∧ W.cell? ⟨gb, off + k * 4, none⟩ = some (.int .i64 yd) ∧ W.cell? ⟨gb, off + k * 4 + 1, none⟩ = some (.int .i64 ya) ∧ W.cell? ⟨gb, off + k * 4 + 2, none⟩ = some (.int .i64 yr) ∧ W.cell? ⟨gb, off + k * 4 + 3, none⟩ = some (.int .i64 ys)) (by kernel_rfl) ⟨o1, x1, c0, c1, c2, c3⟩ (fun hH => ?_)
    have SX := Lib.hid (show Str wr.drew w.heap.size 25 #[.int .i64 f, .slice (some ⟨gb, off, none⟩) l.length vc] from SX.out)
    have SR := Lib.hid (show Str wr.drew (w.heap.size + 1) 25 #[.int .i64 0, .slice none 0 0] from SR.out)
    have SO := Lib.hid (show Str wr.drew (LB + 1) 25 #[.int .i64 x, .slice au G.length cu] from SO.out)
    have OL := Lib.hid (OwnN.below OL.out (Below.refl _ _).drew)
    have Hb := Lib.hid Hb.out.drew
    clear o1 x1 c0 c1 c2 c3
    generalize wr.drew = wd at *
    refine takeL 0 (v := ?vfa1) rfl (by kernel_rfl) (by kernel_rfl) (by kernel_rfl) (by kernel_rfl) (by kernel_rfl) (fun _ _ _ h => h) hH rfl ?yfa1 ?rfa1
    case yfa1 => intro W hSw; go_simp; try with_reducible rfl
    try simp only [Act.put, List.setIfInBounds_toArray, List.set_cons_zero, List.set_cons_succ]
    refine takeL 1 (v := ?vfa2) rfl (by kernel_rfl) (by kernel_rfl) (by kernel_rfl) (by kernel_rfl) (by kernel_rfl) (fun _ _ _ h => h) hH rfl ?yfa2 ?rfa2
    case yfa2 => intro W hSw; go_simp; try with_reducible rfl
    try simp only [Act.put, List.setIfInBounds_toArray, List.set_cons_zero, List.set_cons_succ]
    refine takeL 2 (v := ?vfa3) rfl (by kernel_rfl) (by kernel_rfl) (by kernel_rfl) (by kernel_rfl) (by kernel_rfl) (fun _ _ _ h => h) hH rfl ?yfa3 ?rfa3
    case yfa3 => intro W hSw; go_simp; try with_reducible rfl
    try simp only [Act.put, List.setIfInBounds_toArray, List.set_cons_zero, List.set_cons_succ]
    refine takeL 3 (v := ?vfa4) rfl (by kernel_rfl) (by kernel_rfl) (by kernel_rfl) (by kernel_rfl) (by kernel_rfl) (fun _ _ _ h => h) hH rfl ?yfa4 ?rfa4
    case yfa4 => intro W hSw; go_simp; try with_reducible rfl
    try simp only [Act.put, List.setIfInBounds_toArray, List.set_cons_zero, List.set_cons_succ]
    refine takeL 4 (v := ?vfa5) rfl (by kernel_rfl) (by kernel_rfl) (by kernel_rfl) (by kernel_rfl) (by kernel_rfl) (fun _ _ _ h => h) hH rfl ?yfa5 ?rfa5
    case yfa5 => intro W hSw; go_simp; try with_reducible rfl
    try simp only [Act.put, List.setIfInBounds_toArray, List.set_cons_zero, List.set_cons_succ]
    refine takeL 5 (v := ?vfa6) rfl (by kernel_rfl) (by kernel_rfl) (by kernel_rfl) (by kernel_rfl) (by kernel_rfl) (fun _ _ _ h => h) hH rfl ?yfa6 ?rfa6
    case yfa6 => intro W hSw; go_simp; try with_reducible rfl
    try simp only [Act.put, List.setIfInBounds_toArray, List.set_cons_zero, List.set_cons_succ]
    refine takeL 6 (v := ?vfa7) rfl (by kernel_rfl) (by kernel_rfl) (by kernel_rfl) (by kernel_rfl) (by kernel_rfl) (fun _ _ _ h => h) hH rfl ?yfa7 ?rfa7
    case yfa7 => intro W hSw; go_simp; try with_reducible rfl
    try simp only [Act.put, List.setIfInBounds_toArray, List.set_cons_zero, List.set_cons_succ]
    have hgd : gb < wd.heap.size := Nat.lt_of_lt_of_le hgb Hb.out.size
    refine callL 7 rfl (by kernel_rfl) rfl (fun K hK => ?_)
    go_simp
    have hal : Below wd.heap.size wd (wd.alloc (.cells #[.int .i64 yd, .int .i64 ya, .int .i64 yr, .int .i64 ys] 27)) := (Below.refl _ _).alloc (Nat.le_refl _) _
    refine hK.out _ _ ⟨(hal.cell (p := ⟨LB + 1, 1, none⟩) SO.out.lt).trans hH.1, (hal.cell (p := ⟨w.heap.size, 1, none⟩) SX.out.lt).trans hH.2.1, (hal.cell (p := ⟨gb, off + k * 4, none⟩) hgd).trans hH.2.2.1, (hal.cell (p := ⟨gb, off + k * 4 + 1, none⟩) hgd).trans hH.2.2.2.1, (hal.cell (p := ⟨gb, off + k * 4 + 2, none⟩) hgd).trans hH.2.2.2.2.1, (hal.cell (p := ⟨gb, off + k * 4 + 3, none⟩) hgd).trans hH.2.2.2.2.2⟩ (fun hH => ?_)
    clear hK K
    try simp only [Act.put, List.setIfInBounds_toArray, List.set_cons_zero, List.set_cons_succ]
    have SX := Lib.hid (show Str (wd.alloc (.cells #[.int .i64 yd, .int .i64 ya, .int .i64 yr, .int .i64 ys] 27)) w.heap.size 25 #[.int .i64 f, .slice (some ⟨gb, off, none⟩) l.length vc] from SX.out.alloc _)
    have SR := Lib.hid (show Str (wd.alloc (.cells #[.int .i64 yd, .int .i64 ya, .int .i64 yr, .int .i64 ys] 27)) (w.heap.size + 1) 25 #[.int .i64 0, .slice none 0 0] from SR.out.alloc _)
    have SO := Lib.hid (show Str (wd.alloc (.cells #[.int .i64 yd, .int .i64 ya, .int .i64 yr, .int .i64 ys] 27)) (LB + 1) 25 #[.int .i64 x, .slice au G.length cu] from SO.out.alloc _)
    have OL := Lib.hid (OwnN.below OL.out hal)
    have Hb := Lib.hid (below_step Hb.out Hb.out.size hal)
    have Hsrc := Lib.hid (srcB_one (Str.new wd 27 #[.int .i64 yd, .int .i64 ya, .int .i64 yr, .int .i64 ys]))
    have hgd : gb < (wd.alloc (.cells #[.int .i64 yd, .int .i64 ya, .int .i64 yr, .int .i64 ys] 27)).heap.size := Nat.lt_of_lt_of_le hgd hal.size
    have hH7 := hH
    clear hal
    generalize (wd.alloc (.cells #[.int .i64 yd, .int .i64 ya, .int .i64 yr, .int .i64 ys] 27)) = we at *
    generalize wd.heap.size = PB at *
    refine callL 8 rfl (by kernel_rfl) rfl (fun K hK => ?_)
    have hLw : LB ≤ we.heap.size := by have := SO.out.lt; omega
    refine op_app_B (.tmp 38) (.tmp 44) rfl LB _ G [⟨yd, ya, yr, ys⟩] (some ⟨PB, 0, none⟩) 1 rfl OL.out rfl (.inr ⟨_, rfl, Hsrc.out⟩) (by simp only [List.length_singleton]; omega) hLw (fun u8 w8 ho8 hg8 hat8 => ?_)
    have hLB9 : ∀ g, (Value.slice au G.length cu).ownBlock = some g → w.heap.size + 2 ≤ g ∧ g ≠ LB + 1 := fun g e => ⟨by have := (OL.out.lt g e).1; omega, Hne.out g e⟩
    have SX := Lib.hid (SX.out.kept hg8 (fun e => by have := hLB9 _ e.symm; omega))
    have SR := Lib.hid (SR.out.kept hg8 (fun e => by have := hLB9 _ e.symm; omega))
    have SO0 := SO.out.lt
    have SO := Lib.hid (SO.out.kept hg8 (fun e => (hLB9 _ e.symm).2 rfl))
    have Hb := Lib.hid (Hb.out.grown hg8 Hb.out.size (fun g e => by have := hLB9 g e; omega))
    have Hne8 := Lib.hid (show ∀ g, u8.ownBlock = some g → g ≠ LB + 1 from fun g e => by rcases hat8 g e with h | h; exact (hLB9 g h).2; omega)
    have hcell : ∀ j x, we.cell? ⟨gb, j, none⟩ = some x → w8.cell? ⟨gb, j, none⟩ = some x := fun j x h => hg8.cell h (fun e => by have := (hLB9 gb e.symm).1; omega)
    have OL := Lib.hid ho8
    refine hK.out _ _ ⟨SO.out.cell 1 rfl, SX.out.cell 1 rfl, hcell _ _ hH7.2.2.1, hcell _ _ hH7.2.2.2.1, hcell _ _ hH7.2.2.2.2.1, hcell _ _ hH7.2.2.2.2.2⟩ (fun hH => ?_)
    clear hK K hcell hg8 hat8 ho8 hH7 Hsrc
    try simp only [Act.put, List.setIfInBounds_toArray, List.set_cons_zero, List.set_cons_succ]
    obtain ⟨G2, hG2⟩ : ∃ G2, G2 = G ++ [(⟨yd, ya, yr, ys⟩ : Bt)] := ⟨_, rfl⟩
    rw [← hG2] at OL
    have HG2 := Lib.hid hG2
    clear hG2
    obtain ⟨a8, c8, rfl, _⟩ := OL.out.sl
    refine callL 9 rfl (by kernel_rfl) rfl (fun K hK => ?_)
    go_simp
    refine hK.out _ _ hH (fun hH => ?_)
    clear hK K
    try simp only [Act.put, List.setIfInBounds_toArray, List.set_cons_zero, List.set_cons_succ]
    have oc := SO.out.cell 1 (v := .slice au G.length cu) rfl
    have of := SO.out.frozen 1
    refine lastL rfl (by kernel_rfl) (by kernel_rfl) (by kernel_rfl) rfl (fun K hK => ?_)
    go_simp
    refine hK.out _ _ ?_
    clear hK K
    try simp only [Act.put]
    clear hH oc of
    have HoF := Lib.hid (OwnB.setc OL.out Hne8.out 1 (.slice a8 G2.length c8))
    have SOF := Lib.hid (SO.out.set 1 (.slice a8 G2.length c8))
    have SXF := Lib.hid (SX.out.other (B' := LB + 1) (by omega) 1 (.slice a8 G2.length c8))
    have SRF := Lib.hid (SR.out.other (B' := LB + 1) (by omega) 1 (.slice a8 G2.length c8))
    have HbF := Lib.hid (Hb.out.setCell (p := ⟨LB + 1, 1, none⟩) (by simp only; omega) (.slice a8 G2.length c8))
    go_wp2
    go_roundw
    case rel => exact ⟨k + 1, .slice a8 G2.length c8, by omega, by go_num, by rw [Hf2.out, ← HG2.out]; exact HoF.out, SOF.out, Hne8.out, SXF.out, SRF.out, HbF.out⟩
    case measure => simp [intOf]; omega

end Go.Proofs.Ythojbcecbeapgab

/- Batches as rows of fields, for the exact laws; contracts in the form that these want; no conditions. -/
namespace Go.Proofs.Ythojbcecbeapgab
open Go.RowKit

theorem rows_bt : ∀ {es : List (List Fd)}, (∀ e ∈ es, batchP e) → ∃ g : List Bt, es = g.map btF
  | [], _ => ⟨[], rfl⟩
  | e :: es, h => by
    obtain ⟨x0, x1, x2, x3, rfl⟩ := h _ List.mem_cons_self
    obtain ⟨g, rfl⟩ := rows_bt (es := es) fun e he => h e (List.mem_cons_of_mem _ he)
    exact ⟨⟨x0, x1, x2, x3⟩ :: g, rfl⟩
theorem bt_rowsP (l : List Bt) : ∀ e ∈ l.map btF, batchP e := fun e he => by
  obtain ⟨x, _, rfl⟩ := List.mem_map.1 he
  exact ⟨x.d, x.a, x.r, x.s, rfl⟩
theorem bt_ln (l : List Bt) : ∀ n, lnTo (l.map btF) n = 0 := fun n => by
  unfold lnTo
  rw [← List.map_take, List.map_map]
  have : ((l.take n).map (lnE ∘ btF)) = (l.take n).map fun _ => 0 := List.map_congr_left fun x _ => rfl
  rw [this]
  induction l.take n with
  | nil => rfl
  | cons a r ih => simp only [List.map_cons, List.sum_cons]; omega
theorem bt_answer {l : List Bt} (h : l.length ≤ 12) : (l.map btF).length ≤ 1048577 ∧ (∀ e ∈ l.map btF, batchP e) ∧ (∀ e ∈ l.map btF, lnE e ≤ 1099511627776) ∧ ∀ k, kTo (l.map btF) k (l.map btF).length ≤ k + 1048577 * 2 := by
  refine ⟨by rw [List.length_map]; omega, bt_rowsP l, fun e he => ?_, fun k => ?_⟩
  · have := lnTo_in (es := l.map btF) (m := 0) (by rw [bt_ln]; exact Nat.le_refl _) e he
    omega
  · have := kTo_bd (batchP_len (bt_rowsP l)) k (l.map btF).length (Nat.le_refl _)
    rw [bt_ln, List.length_map] at this
    rw [List.length_map]
    omega
theorem ownB_R {w : World} {B : Nat} {v : Value} {l : List Bt} (h : OwnB 27 w B v l) : OwnR 27 3 4 w B w.heap.size v (l.map btF) := by
  have := OwnN.ownR (Ei := 3) h (Nat.le_refl _)
  rw [List.map_map] at this
  exact this
theorem pu_rows {f : FuncId} {args : Array Value} {w : World} {x : Int} {l : List Bt} {b : Bt} (h : Calls Try.prog f args w (PuP 27 x l b w)) :
    Calls Try.prog f args w fun e w' => ∃ u, e = .returned (.tuple #[.agg #[.int .i64 (puF x l b), u], .int .i64 (puC x l b)]) ∧ OwnR 27 3 4 w' w.heap.size w'.heap.size u ((puL x l b).map btF) ∧ Below w.heap.size w w' :=
  h.mono fun _ _ ⟨u, h1, h2, h3⟩ => ⟨u, h1, ownB_R h2, h3⟩
theorem fo_rows {f : FuncId} {args : Array Value} {w : World} {x n : Int} {l : List Bt} (h : Calls Try.prog f args w (FoP 27 x l n w)) :
    Calls Try.prog f args w fun e w' => ∃ u, e = .returned (.tuple #[.agg #[.int .i64 (foF x l n), u], .bool (foB x l n)]) ∧ OwnR 27 3 4 w' w.heap.size w'.heap.size u ((foL x l n).map btF) ∧ Below w.heap.size w w' :=
  h.mono fun _ _ ⟨u, h1, h2, h3⟩ => ⟨u, h1, ownB_R h2, h3⟩

end Go.Proofs.Ythojbcecbeapgab
