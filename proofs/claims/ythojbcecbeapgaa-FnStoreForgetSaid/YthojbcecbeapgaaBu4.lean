/- Texts that the laws of this folder share, one behind another; no conditions. -/
import Derived.Test.YthojbcecbeapgaaRows
import Derived.Test.YthojbcecbeapgaaBu1
import Derived.Test.YthojbcecbeapgaaBu2
import Derived.Test.YthojbcecbeapgaaBu0
import Derived.Deep.QuietTactic
import Derived.BigQuiet
import Derived.Test.YthojbcecbeapgaaBu3

/- The reference's StoreForget and the laws' comparison of stores, each by a walk of its text; condition: a list has at most 2^20 batches. -/
namespace Go.Proofs.Ythojbcecbeapgaa
open Go.RowKit

/-- What the reference's StoreForget answers. -/
def SfP (E : TypeId) (f : Int) (l : List Bt) (x : Int) (w : World) (e : Ending) (w' : World) : Prop := ∃ v, e = .returned (.tuple #[.agg #[.int .i64 (foF f l x), v], .bool (foB f l x)]) ∧ OwnB E w' w.heap.size v (foL f l x) ∧ Below w.heap.size w w'
theorem SfP.mk {E : TypeId} {f : Int} {l : List Bt} {x : Int} {w w' : World} {e : Ending} (f' : Int) (l' : List Bt) (c : Bool) (v : Value) (h : e = .returned (.tuple #[.agg #[.int .i64 f', v], .bool c])) (h1 : foF f l x = f') (h2 : foL f l x = l') (h3 : foB f l x = c) {B : Nat} (ho : OwnB E w' B v l') (hB : w.heap.size ≤ B) (hb : Below w.heap.size w w') : SfP E f l x w e w' := ⟨v, by rw [h, h1, h3], by rw [h2]; exact OwnN.mono ho hB, hb⟩
set_option maxHeartbeats 4000000 in
set_option maxRecDepth 8000 in
theorem spec_StoreForget (f : Int) (l : List Bt) (v : Value) (fp : List Nat) (x : Int) (w : World) (hbig : l.length ≤ 1048577) (hl : Bts w l v fp) :
    Calls Try.prog 21 #[.agg #[.int .i64 f, v], .int .i64 x] w (SfP 27 f l x w) := by
  obtain ⟨va, vc, rfl, _⟩ := hl.slice
  have hb0 : Below w.heap.size w ((w.alloc (.cells #[.int .i64 f, .slice va l.length vc] 25)).alloc (.cells #[.int .i64 0, .slice none 0 0] 25)) := ((Below.refl _ _).alloc (Nat.le_refl _) _).alloc (by simp) _
  have sX := (Str.new w 25 #[.int .i64 f, .slice va l.length vc]).alloc (.cells #[.int .i64 0, .slice none 0 0] 25)
  have sR := Str.new (w.alloc (.cells #[.int .i64 f, .slice va l.length vc] 25)) 25 #[.int .i64 0, .slice none 0 0]
  simp only [World.size_alloc] at sR
  have hz0 : w.heap.size + 2 = ((w.alloc (.cells #[.int .i64 f, .slice va l.length vc] 25)).alloc (.cells #[.int .i64 0, .slice none 0 0] 25)).heap.size := by simp
  have SX := Lib.hid sX; have SR := Lib.hid sR; have Hb := Lib.hid hb0; have Hl := Lib.hid hl
  have Hz := Lib.hid hz0
  have z0 := sX.cell 0 (v := .int .i64 f) rfl
  have z1 := sX.cell 1 (v := .slice va l.length vc) rfl
  clear hb0 sX sR hl hz0
  go_enter Try.func21, Try.ntmps21
  go_wp2_with fail
  generalize (w.alloc (.cells #[.int .i64 f, .slice va l.length vc] 25)).alloc (.cells #[.int .i64 0, .slice none 0 0] 25) = W0 at *
  refine (spec_StoreValid f l _ fp W0 hbig (Hl.out.under Hb.out)).mono ?_
  rintro e w1 ⟨rfl, hb1⟩
  have SX := Lib.hid (show Str w1 w.heap.size 25 #[.int .i64 f, .slice va l.length vc] from (hb1.block _ SX.out.lt).trans SX.out)
  have SR := Lib.hid (show Str w1 (w.heap.size + 1) 25 #[.int .i64 0, .slice none 0 0] from (hb1.block _ SR.out.lt).trans SR.out)
  have Hb := Lib.hid (below_step Hb.out Hb.out.size hb1)
  have Hz1 := Lib.hid (show w.heap.size + 1 < w1.heap.size by have := Hz.out; have := hb1.size; omega)
  clear hb1 z0 z1
  cases hs : stB f l with
  | false =>
    have Hc := Lib.hid (show foB f l x = false ∧ foL f l x = [] ∧ foF f l x = 0 from by have h4 : foB f l x = false := (by cases e : foB f l x with | false => rfl | true => exact absurd (foB_iff.1 e) (by rintro ⟨h1, h2, h3⟩; rw [hs] at h1; cases h1)); exact ⟨h4, fo_no h4⟩)
    clear hs
    have f0 := SR.out.frozen 0
    have f1 := SR.out.frozen 1
    have k0 := SR.out.cell 0 (v := .int .i64 0) rfl
    have k1 := SR.out.cell 1 (v := .slice none 0 0) rfl
    have sF := (SR.out.set 0 (.int .i64 0)).set 1 (.slice none 0 0)
    have e0 := sF.cell 0 (v := .int .i64 0) rfl
    have e1 := sF.cell 1 (v := .slice none 0 0) rfl
    clear sF
    have HbF := Lib.hid ((Hb.out.setCell (p := ⟨w.heap.size + 1, 0, none⟩) (by simp only; omega) (.int .i64 0)).setCell (p := ⟨w.heap.size + 1, 1, none⟩) (by simp only; omega) (.slice none 0 0))
    go_wp2
    refine bodyPost_ret (v := .tuple #[.agg #[.int .i64 0, .slice none 0 0], .bool false]) (by simp [results, Try.f21, go_sem, e0, e1]) rfl ?_
    exact SfP.mk 0 [] false _ rfl Hc.out.2.2 Hc.out.2.1 Hc.out.1 (⟨by simp, World.ownsRow_nil _ _ _ _⟩ : OwnB _ _ w.heap.size _ _) (Nat.le_refl _) HbF.out
  | true =>
  have Hs := Lib.hid hs
  clear hs
  have z0 := SX.out.cell 0 (v := .int .i64 f) rfl
  have z1 := SX.out.cell 1 (v := .slice va l.length vc) rfl
  go_wp2_with fail
  refine (spec_l6In x f 31 w1).mono ?_
  rintro e w2 ⟨rfl, rfl⟩
  by_cases hx : f ≤ x ∧ x ≤ 31
  case neg =>
    rw [decide_eq_false hx]
    have Hc := Lib.hid (show foB f l x = false ∧ foL f l x = [] ∧ foF f l x = 0 from by have h4 : foB f l x = false := (by cases e : foB f l x with | false => rfl | true => exact absurd (foB_iff.1 e) (by rintro ⟨h1, h2, h3⟩; omega)); exact ⟨h4, fo_no h4⟩)
    clear hx z0 z1
    have f0 := SR.out.frozen 0
    have f1 := SR.out.frozen 1
    have k0 := SR.out.cell 0 (v := .int .i64 0) rfl
    have k1 := SR.out.cell 1 (v := .slice none 0 0) rfl
    have sF := (SR.out.set 0 (.int .i64 0)).set 1 (.slice none 0 0)
    have e0 := sF.cell 0 (v := .int .i64 0) rfl
    have e1 := sF.cell 1 (v := .slice none 0 0) rfl
    clear sF
    have HbF := Lib.hid ((Hb.out.setCell (p := ⟨w.heap.size + 1, 0, none⟩) (by simp only; omega) (.int .i64 0)).setCell (p := ⟨w.heap.size + 1, 1, none⟩) (by simp only; omega) (.slice none 0 0))
    go_wp2
    refine bodyPost_ret (v := .tuple #[.agg #[.int .i64 0, .slice none 0 0], .bool false]) (by simp [results, Try.f21, go_sem, e0, e1]) rfl ?_
    exact SfP.mk 0 [] false _ rfl Hc.out.2.2 Hc.out.2.1 Hc.out.1 (⟨by simp, World.ownsRow_nil _ _ _ _⟩ : OwnB _ _ w.heap.size _ _) (Nat.le_refl _) HbF.out
  rw [decide_eq_true hx]
  have hfo : foB f l x = true := foB_iff.2 ⟨Hs.out, hx⟩
  have Hc := Lib.hid (show foB f l x = true ∧ foL f l x = fgL l x ∧ foF f l x = x from ⟨hfo, fo_yes hfo⟩)
  have hg12 := (stB_P Hs.out).2.1
  clear hfo hx
  have halL : Below w1.heap.size w1 ((w1.alloc (.cells #[] 27)).alloc (.cells #[.int .i64 x, .slice (some ⟨w1.heap.size, 0, none⟩) 0 0] 25)) := ((Below.refl _ _).alloc (Nat.le_refl _) _).alloc (by simp) _
  have ol : OwnB 27 ((w1.alloc (.cells #[] 27)).alloc (.cells #[.int .i64 x, .slice (some ⟨w1.heap.size, 0, none⟩) 0 0] 25)) w1.heap.size (.slice (some ⟨w1.heap.size, 0, none⟩) 0 0) [] := OwnN.below (OwnB.fresh 27 w1) ((Below.refl _ _).alloc (Nat.le_refl _) _)
  have so := Str.new (w1.alloc (.cells #[] 27)) 25 #[.int .i64 x, .slice (some ⟨w1.heap.size, 0, none⟩) 0 0]
  have hzo : (w1.alloc (.cells #[] 27)).heap.size = w1.heap.size + 1 := by simp
  rw [hzo] at so
  have SX := Lib.hid (show Str _ w.heap.size 25 #[.int .i64 f, .slice va l.length vc] from (halL.block _ SX.out.lt).trans SX.out)
  have SR := Lib.hid (show Str _ (w.heap.size + 1) 25 #[.int .i64 0, .slice none 0 0] from (halL.block _ SR.out.lt).trans SR.out)
  have Hb := Lib.hid (below_step Hb.out Hb.out.size halL)
  have SO := Lib.hid so; have OL := Lib.hid ol
  clear halL ol so hzo z0 z1
  go_wp2
  generalize (w1.alloc (.cells #[] 27)).alloc (.cells #[.int .i64 x, .slice (some ⟨w1.heap.size, 0, none⟩) 0 0] 25) = W3 at *
  obtain ⟨LB, hLB⟩ : ∃ LB, LB = w1.heap.size := ⟨_, rfl⟩
  have hLz := Hz1.out
  rw [← hLB] at SO OL hLz
  rw [← hLB]
  clear hLB
  go_loopw [7] (fun i wr => ∃ (k : Nat) (u : Value), k ≤ l.length ∧ i = .int .i64 k ∧ OwnB 27 wr LB u (fgL (l.take k) x) ∧ Str wr (LB + 1) 25 #[.int .i64 x, u] ∧ (∀ g, u.ownBlock = some g → g ≠ LB + 1) ∧ Str wr w.heap.size 25 #[.int .i64 f, .slice va l.length vc] ∧ Str wr (w.heap.size + 1) 25 #[.int .i64 0, .slice none 0 0] ∧ Below w.heap.size w wr) (fun i _ => l.length - (intOf i).toNat)
  case atStart => exact ⟨0, _, by omega, rfl, by rw [List.take_zero]; exact OL.out, SO.out, (fun g e => by have e' : some LB = some g := e; injection e' with e'; omega), SX.out, SR.out, Hb.out⟩
  case round =>
    clear SX SR SO OL Hb
    obtain ⟨k, u, hk, rfl, ou, so, hne, sx, sr, hb⟩ := hrel
    obtain ⟨au, cu, rfl, _⟩ := ou.sl
    have SX := Lib.hid sx; have SR := Lib.hid sr; have SO := Lib.hid so; have OL := Lib.hid ou; have Hb := Lib.hid hb; have Hne := Lib.hid hne
    have x1 := sx.cell 1 (v := .slice va l.length vc) rfl
    clear sx sr ou hb hne
    by_cases hlt : k < l.length
    case neg =>
      have hlt' : ¬ (k : Int) < (l.length : Int) := by omega
      have hkl : l.take k = l := List.take_of_length_le (by omega)
      rw [hkl] at OL SO Hne
      obtain ⟨nn, hnn⟩ : ∃ nn, nn = (fgL l x).length := ⟨_, rfl⟩
      rw [← hnn] at OL SO Hne
      have o0 := SO.out.cell 0 (v := .int .i64 x) rfl
      have o1 := SO.out.cell 1 (v := .slice au nn cu) rfl
      have f0 := SR.out.frozen 0
      have f1 := SR.out.frozen 1
      have k0 := SR.out.cell 0 (v := .int .i64 0) rfl
      have k1 := SR.out.cell 1 (v := .slice none 0 0) rfl
      have sF := (SR.out.set 0 (.int .i64 x)).set 1 (.slice au nn cu)
      have e0 := sF.cell 0 (v := .int .i64 x) rfl
      have e1 := sF.cell 1 (v := .slice au nn cu) rfl
      have hneR : ∀ g, (Value.slice au nn cu).ownBlock = some g → g ≠ w.heap.size + 1 := fun g e => by have := (OL.out.lt g e).1; omega
      have HoF := Lib.hid ((OwnB.setc OL.out hneR 0 (.int .i64 x)).setc hneR 1 (.slice au nn cu))
      have HbF := Lib.hid ((Hb.out.setCell (p := ⟨w.heap.size + 1, 0, none⟩) (by simp only; omega) (.int .i64 x)).setCell (p := ⟨w.heap.size + 1, 1, none⟩) (by simp only; omega) (.slice au nn cu))
      clear sF hkl hlt hnn so hneR
      go_wp2
      refine bodyPost_ret (v := .tuple #[.agg #[.int .i64 x, .slice au nn cu], .bool true]) (by simp [results, Try.f21, go_sem, e0, e1]) rfl ?_
      exact SfP.mk x (fgL l x) true _ rfl Hc.out.2.2 Hc.out.2.1 Hc.out.1 HoF.out (by omega) HbF.out
    have hlt' : (k : Int) < (l.length : Int) := by omega
    obtain ⟨gb, off, rfl, hgb, hat⟩ := Hl.out.at (by omega)
    obtain ⟨d0, d1, d2, d3⟩ := hat k hlt
    have c0 := (Hb.out.cell (p := ⟨gb, off + k * 4, none⟩) hgb).trans d0
    have c1 := (Hb.out.cell (p := ⟨gb, off + k * 4 + 1, none⟩) hgb).trans d1
    have c2 := (Hb.out.cell (p := ⟨gb, off + k * 4 + 2, none⟩) hgb).trans d2
    have c3 := (Hb.out.cell (p := ⟨gb, off + k * 4 + 3, none⟩) hgb).trans d3
    have Hfg := Lib.hid (fg_take hlt x)
    clear hat d0 d1 d2 d3
    generalize l[k] = y at *
    obtain ⟨yd, ya, yr, ys⟩ := y
    dsimp only at *
    by_cases hr : x ≤ yr
    case neg =>
      have hr' : decide (x ≤ yr) = false := decide_eq_false hr
      have Hf2 := Lib.hid (show fgL (l.take (k + 1)) x = fgL (l.take k) x by rw [Hfg.out, if_neg hr])
      clear so hr
      go_wp2
      go_roundw
      case rel => exact ⟨k + 1, .slice au (fgL (l.take k) x).length cu, by omega, by go_num, by rw [Hf2.out]; exact OL.out, SO.out, Hne.out, SX.out, SR.out, Hb.out⟩
      case measure => simp [intOf]; omega
    have hr' : decide (x ≤ yr) = true := decide_eq_true hr
    have Hf2 := Lib.hid (show fgL (l.take (k + 1)) x = fgL (l.take k) x ++ [⟨yd, ya, yr, ys⟩] by rw [Hfg.out, if_pos hr])
    have hG12 : (fgL (l.take k) x).length ≤ 12 := Nat.le_trans (fg_len _ _) (by rw [List.length_take]; omega)
    clear so hr Hfg
    generalize fgL (l.take k) x = G at *
    have o1 := SO.out.cell 1 (v := .slice au G.length cu) rfl
    go_wp2_with fail
    refine wp_region_L 10 (fun W => W.cell? ⟨LB + 1, 1, none⟩ = some (.slice au G.length cu) ∧ W.cell? ⟨w.heap.size, 1, none⟩ = some (.slice (some ⟨gb, off, none⟩) l.length vc) ∧ W.cell? ⟨gb, off + k * 4, none⟩ = some (.int .i64 yd) ∧ W.cell? ⟨gb, off + k * 4 + 1, none⟩ = some (.int .i64 ya) ∧ W.cell? ⟨gb, off + k * 4 + 2, none⟩ = some (.int .i64 yr) ∧ W.cell? ⟨gb, off + k * 4 + 3, none⟩ = some (.int .i64 ys)) (by kernel_rfl) ⟨o1, x1, c0, c1, c2, c3⟩ (fun hH => ?_)
    have SX := Lib.hid (show Str wr.drew w.heap.size 25 #[.int .i64 f, .slice (some ⟨gb, off, none⟩) l.length vc] from SX.out)
    have SR := Lib.hid (show Str wr.drew (w.heap.size + 1) 25 #[.int .i64 0, .slice none 0 0] from SR.out)
    have SO := Lib.hid (show Str wr.drew (LB + 1) 25 #[.int .i64 x, .slice au G.length cu] from SO.out)
    have OL := Lib.hid (OwnN.below OL.out (Below.refl _ _).drew)
    have Hb := Lib.hid Hb.out.drew
    clear o1 x1 c0 c1 c2 c3
    generalize wr.drew = wd at *
    refine takeL 0 (v := ?vfa1) rfl (by kernel_rfl) (by kernel_rfl) (by kernel_rfl) (by kernel_rfl) (by kernel_rfl) (fun _ _ _ h => h) hH rfl ?yfa1 ?rfa1
    case yfa1 => intro W hSw; go_simp; try with_reducible rfl
    try simp only [Act.put, List.setIfInBounds_toArray, List.set_cons_zero, List.set_cons_succ]
    refine takeL 1 (v := ?vfa2) rfl (by kernel_rfl) (by kernel_rfl) (by kernel_rfl) (by kernel_rfl) (by kernel_rfl) (fun _ _ _ h => h) hH rfl ?yfa2 ?rfa2
    case yfa2 => intro W hSw; go_simp; try with_reducible rfl
    try simp only [Act.put, List.setIfInBounds_toArray, List.set_cons_zero, List.set_cons_succ]
    refine takeL 2 (v := ?vfa3) rfl (by kernel_rfl) (by kernel_rfl) (by kernel_rfl) (by kernel_rfl) (by kernel_rfl) (fun _ _ _ h => h) hH rfl ?yfa3 ?rfa3
    case yfa3 => intro W hSw; go_simp; try with_reducible rfl
    try simp only [Act.put, List.setIfInBounds_toArray, List.set_cons_zero, List.set_cons_succ]
    refine takeL 3 (v := ?vfa4) rfl (by kernel_rfl) (by kernel_rfl) (by kernel_rfl) (by kernel_rfl) (by kernel_rfl) (fun _ _ _ h => h) hH rfl ?yfa4 ?rfa4
    case yfa4 => intro W hSw; go_simp; try with_reducible rfl
    try simp only [Act.put, List.setIfInBounds_toArray, List.set_cons_zero, List.set_cons_succ]
    refine takeL 4 (v := ?vfa5) rfl (by kernel_rfl) (by kernel_rfl) (by kernel_rfl) (by kernel_rfl) (by kernel_rfl) (fun _ _ _ h => h) hH rfl ?yfa5 ?rfa5
    case yfa5 => intro W hSw; go_simp; try with_reducible rfl
    try simp only [Act.put, List.setIfInBounds_toArray, List.set_cons_zero, List.set_cons_succ]
    refine takeL 5 (v := ?vfa6) rfl (by kernel_rfl) (by kernel_rfl) (by kernel_rfl) (by kernel_rfl) (by kernel_rfl) (fun _ _ _ h => h) hH rfl ?yfa6 ?rfa6
    case yfa6 => intro W hSw; go_simp; try with_reducible rfl
    try simp only [Act.put, List.setIfInBounds_toArray, List.set_cons_zero, List.set_cons_succ]
    refine takeL 6 (v := ?vfa7) rfl (by kernel_rfl) (by kernel_rfl) (by kernel_rfl) (by kernel_rfl) (by kernel_rfl) (fun _ _ _ h => h) hH rfl ?yfa7 ?rfa7
    case yfa7 => intro W hSw; go_simp; try with_reducible rfl
    try simp only [Act.put, List.setIfInBounds_toArray, List.set_cons_zero, List.set_cons_succ]
    have hgd : gb < wd.heap.size := Nat.lt_of_lt_of_le hgb Hb.out.size
    refine callL 7 rfl (by kernel_rfl) rfl (fun K hK => ?_)
    go_simp
    have hal : Below wd.heap.size wd (wd.alloc (.cells #[.int .i64 yd, .int .i64 ya, .int .i64 yr, .int .i64 ys] 27)) := (Below.refl _ _).alloc (Nat.le_refl _) _
    refine hK.out _ _ ⟨(hal.cell (p := ⟨LB + 1, 1, none⟩) SO.out.lt).trans hH.1, (hal.cell (p := ⟨w.heap.size, 1, none⟩) SX.out.lt).trans hH.2.1, (hal.cell (p := ⟨gb, off + k * 4, none⟩) hgd).trans hH.2.2.1, (hal.cell (p := ⟨gb, off + k * 4 + 1, none⟩) hgd).trans hH.2.2.2.1, (hal.cell (p := ⟨gb, off + k * 4 + 2, none⟩) hgd).trans hH.2.2.2.2.1, (hal.cell (p := ⟨gb, off + k * 4 + 3, none⟩) hgd).trans hH.2.2.2.2.2⟩ (fun hH => ?_)
    clear hK K
    try simp only [Act.put, List.setIfInBounds_toArray, List.set_cons_zero, List.set_cons_succ]
    have SX := Lib.hid (show Str (wd.alloc (.cells #[.int .i64 yd, .int .i64 ya, .int .i64 yr, .int .i64 ys] 27)) w.heap.size 25 #[.int .i64 f, .slice (some ⟨gb, off, none⟩) l.length vc] from SX.out.alloc _)
    have SR := Lib.hid (show Str (wd.alloc (.cells #[.int .i64 yd, .int .i64 ya, .int .i64 yr, .int .i64 ys] 27)) (w.heap.size + 1) 25 #[.int .i64 0, .slice none 0 0] from SR.out.alloc _)
    have SO := Lib.hid (show Str (wd.alloc (.cells #[.int .i64 yd, .int .i64 ya, .int .i64 yr, .int .i64 ys] 27)) (LB + 1) 25 #[.int .i64 x, .slice au G.length cu] from SO.out.alloc _)
    have OL := Lib.hid (OwnN.below OL.out hal)
    have Hb := Lib.hid (below_step Hb.out Hb.out.size hal)
    have Hsrc := Lib.hid (srcB_one (Str.new wd 27 #[.int .i64 yd, .int .i64 ya, .int .i64 yr, .int .i64 ys]))
    have hgd : gb < (wd.alloc (.cells #[.int .i64 yd, .int .i64 ya, .int .i64 yr, .int .i64 ys] 27)).heap.size := Nat.lt_of_lt_of_le hgd hal.size
    have hH7 := hH
    clear hal
    generalize (wd.alloc (.cells #[.int .i64 yd, .int .i64 ya, .int .i64 yr, .int .i64 ys] 27)) = we at *
    generalize wd.heap.size = PB at *
    refine callL 8 rfl (by kernel_rfl) rfl (fun K hK => ?_)
    have hLw : LB ≤ we.heap.size := by have := SO.out.lt; omega
    refine op_app_B (.tmp 38) (.tmp 44) rfl LB _ G [⟨yd, ya, yr, ys⟩] (some ⟨PB, 0, none⟩) 1 rfl OL.out rfl (.inr ⟨_, rfl, Hsrc.out⟩) (by simp only [List.length_singleton]; omega) hLw (fun u8 w8 ho8 hg8 hat8 => ?_)
    have hLB9 : ∀ g, (Value.slice au G.length cu).ownBlock = some g → w.heap.size + 2 ≤ g ∧ g ≠ LB + 1 := fun g e => ⟨by have := (OL.out.lt g e).1; omega, Hne.out g e⟩
    have SX := Lib.hid (SX.out.kept hg8 (fun e => by have := hLB9 _ e.symm; omega))
    have SR := Lib.hid (SR.out.kept hg8 (fun e => by have := hLB9 _ e.symm; omega))
    have SO0 := SO.out.lt
    have SO := Lib.hid (SO.out.kept hg8 (fun e => (hLB9 _ e.symm).2 rfl))
    have Hb := Lib.hid (Hb.out.grown hg8 Hb.out.size (fun g e => by have := hLB9 g e; omega))
    have Hne8 := Lib.hid (show ∀ g, u8.ownBlock = some g → g ≠ LB + 1 from fun g e => by rcases hat8 g e with h | h; exact (hLB9 g h).2; omega)
    have hcell : ∀ j x, we.cell? ⟨gb, j, none⟩ = some x → w8.cell? ⟨gb, j, none⟩ = some x := fun j x h => hg8.cell h (fun e => by have := (hLB9 gb e.symm).1; omega)
    have OL := Lib.hid ho8
    refine hK.out _ _ ⟨SO.out.cell 1 rfl, SX.out.cell 1 rfl, hcell _ _ hH7.2.2.1, hcell _ _ hH7.2.2.2.1, hcell _ _ hH7.2.2.2.2.1, hcell _ _ hH7.2.2.2.2.2⟩ (fun hH => ?_)
    clear hK K hcell hg8 hat8 ho8 hH7 Hsrc
    try simp only [Act.put, List.setIfInBounds_toArray, List.set_cons_zero, List.set_cons_succ]
    obtain ⟨G2, hG2⟩ : ∃ G2, G2 = G ++ [(⟨yd, ya, yr, ys⟩ : Bt)] := ⟨_, rfl⟩
    rw [← hG2] at OL
    have HG2 := Lib.hid hG2
    clear hG2
    obtain ⟨a8, c8, rfl, _⟩ := OL.out.sl
    refine callL 9 rfl (by kernel_rfl) rfl (fun K hK => ?_)
    go_simp
    refine hK.out _ _ hH (fun hH => ?_)
    clear hK K
    try simp only [Act.put, List.setIfInBounds_toArray, List.set_cons_zero, List.set_cons_succ]
    have oc := SO.out.cell 1 (v := .slice au G.length cu) rfl
    have of := SO.out.frozen 1
    refine lastL rfl (by kernel_rfl) (by kernel_rfl) (by kernel_rfl) rfl (fun K hK => ?_)
    go_simp
    refine hK.out _ _ ?_
    clear hK K
    try simp only [Act.put]
    clear hH oc of
    have HoF := Lib.hid (OwnB.setc OL.out Hne8.out 1 (.slice a8 G2.length c8))
    have SOF := Lib.hid (SO.out.set 1 (.slice a8 G2.length c8))
    have SXF := Lib.hid (SX.out.other (B' := LB + 1) (by omega) 1 (.slice a8 G2.length c8))
    have SRF := Lib.hid (SR.out.other (B' := LB + 1) (by omega) 1 (.slice a8 G2.length c8))
    have HbF := Lib.hid (Hb.out.setCell (p := ⟨LB + 1, 1, none⟩) (by simp only; omega) (.slice a8 G2.length c8))
    go_wp2
    go_roundw
    case rel => exact ⟨k + 1, .slice a8 G2.length c8, by omega, by go_num, by rw [Hf2.out, ← HG2.out]; exact HoF.out, SOF.out, Hne8.out, SXF.out, SRF.out, HbF.out⟩
    case measure => simp [intOf]; omega

end Go.Proofs.Ythojbcecbeapgaa

/- What the laws' comparison of two stores answers, by a walk of its text; conditions: the lists are shorter than 2^40. -/
namespace Go.Proofs.Ythojbcecbeapgaa
open Go.RowKit

theorem neq_bt (x y : Bt) (w : World) : (binOp .neq 27 (.agg #[.int .i64 x.d, .int .i64 x.a, .int .i64 x.r, .int .i64 x.s]) (.agg #[.int .i64 y.d, .int .i64 y.a, .int .i64 y.r, .int .i64 y.s])).run Try.prog w = .ok (.bool (!decide (x = y))) w := by
  have hS : Try.prog.underlying 27 = some (.struct (Try.prog.fieldsOf 27)) := by kernel_rfl
  have hp : Try.prog.stoodInHeld 27 = false := by kernel_rfl
  rw [run_neq_struct, show (10000 : Nat) = 9999 + 1 from rfl, run_equalIn_agg w 9999 27 _ _ hS hp]
  simp only [Program.fieldsOf, Try.underlying27]
  obtain ⟨a, b, c, d⟩ := x
  obtain ⟨a', b', c', d'⟩ := y
  go_simp
  by_cases h1 : a = a' <;> by_cases h2 : b = b' <;> by_cases h3 : c = c' <;> by_cases h4 : d = d' <;> simp [h1, h2, h3, h4]
theorem eql_bt (x y : Bt) (w : World) : (binOp .eql 27 (.agg #[.int .i64 x.d, .int .i64 x.a, .int .i64 x.r, .int .i64 x.s]) (.agg #[.int .i64 y.d, .int .i64 y.a, .int .i64 y.r, .int .i64 y.s])).run Try.prog w = .ok (.bool (decide (x = y))) w := by
  have hS : Try.prog.underlying 27 = some (.struct (Try.prog.fieldsOf 27)) := by kernel_rfl
  have hp : Try.prog.stoodInHeld 27 = false := by kernel_rfl
  rw [run_eql_struct, show (10000 : Nat) = 9999 + 1 from rfl, run_equalIn_agg w 9999 27 _ _ hS hp]
  simp only [Program.fieldsOf, Try.underlying27]
  obtain ⟨a, b, c, d⟩ := x
  obtain ⟨a', b', c', d'⟩ := y
  go_simp
  by_cases h1 : a = a' <;> by_cases h2 : b = b' <;> by_cases h3 : c = c' <;> by_cases h4 : d = d' <;> simp [h1, h2, h3, h4]
set_option maxHeartbeats 2000000 in
theorem laws_sameStore (f f2 : Int) (l m : List Bt) (v v2 : Value) (fp fp2 : List Nat) (w : World) (hbig : l.length ≤ 1099511627776) (hbig2 : m.length ≤ 1099511627776) (hr : Bts w l v fp) (hr2 : Bts w m v2 fp2) :
    Calls Try.prog 13 #[.agg #[.int .i64 f, v], .agg #[.int .i64 f2, v2]] w fun e w' => e = .returned (.bool (decide (f = f2 ∧ l = m))) ∧ Below w.heap.size w w' := by
  obtain ⟨va, vc, rfl, _⟩ := hr.slice
  obtain ⟨va2, vc2, rfl, _⟩ := hr2.slice
  have hb0 : Below w.heap.size w ((w.alloc (.cells #[.int .i64 f, .slice va l.length vc] 25)).alloc (.cells #[.int .i64 f2, .slice va2 m.length vc2] 25)) := ((Below.refl _ _).alloc (Nat.le_refl _) _).alloc (by simp) _
  have sA := (Str.new w 25 #[.int .i64 f, .slice va l.length vc]).alloc (.cells #[.int .i64 f2, .slice va2 m.length vc2] 25)
  have sB := Str.new (w.alloc (.cells #[.int .i64 f, .slice va l.length vc] 25)) 25 #[.int .i64 f2, .slice va2 m.length vc2]
  simp only [World.size_alloc] at sB
  have SA := Lib.hid sA; have SB := Lib.hid sB; have Hb := Lib.hid hb0
  have Hr := Lib.hid hr; have Hr2 := Lib.hid hr2
  have a0 := sA.cell 0 (v := .int .i64 f) rfl
  have a1 := sA.cell 1 (v := .slice va l.length vc) rfl
  have b0 := sB.cell 0 (v := .int .i64 f2) rfl
  have b1 := sB.cell 1 (v := .slice va2 m.length vc2) rfl
  clear sA sB hb0 hr hr2
  by_cases hf : f = f2
  case neg =>
    have hf' : (f == f2) = false := by rw [beq_eq_false_iff_ne]; exact hf
    have hf2 : (f != f2) = true := by rw [bne, hf']; rfl
    have Hz := Lib.hid (show decide (f = f2 ∧ l = m) = false from decide_eq_false fun h => hf h.1)
    clear hf
    go_enter Try.func13, Try.ntmps13
    go_wp2
    go_ret
    exact ⟨by first | rfl | exact ret_bool (by rw [Hz.out]), Hb.out⟩
  have hf' : (f == f2) = true := by rw [beq_iff_eq]; exact hf
  have hf2 : (f != f2) = false := by rw [bne, hf']; rfl
  have Hf := Lib.hid hf
  clear hf
  by_cases hl : l.length = m.length
  case neg =>
    have hl' : ((l.length : Int) == (m.length : Int)) = false := by rw [beq_eq_false_iff_ne]; omega
    have hl2 : ((l.length : Int) != (m.length : Int)) = true := by rw [bne, hl']; rfl
    have Hz := Lib.hid (show decide (f = f2 ∧ l = m) = false from decide_eq_false fun h => hl (by rw [h.2]))
    clear hl
    go_enter Try.func13, Try.ntmps13
    go_wp2
    go_ret
    exact ⟨by first | rfl | exact ret_bool (by rw [Hz.out]), Hb.out⟩
  have hl' : ((l.length : Int) == (m.length : Int)) = true := by rw [beq_iff_eq]; omega
  have hl2 : ((l.length : Int) != (m.length : Int)) = false := by rw [bne, hl']; rfl
  have Hl := Lib.hid hl
  clear hl
  go_enter Try.func13, Try.ntmps13
  go_wp2
  generalize (w.alloc (.cells #[.int .i64 f, .slice va l.length vc] 25)).alloc (.cells #[.int .i64 f2, .slice va2 m.length vc2] 25) = W0 at *
  clear hl' hl2 hf' hf2
  go_loopw [5] (fun i wr => ∃ k : Nat, k ≤ l.length ∧ i = .int .i64 k ∧ Hid (∀ j (h : j < l.length) (h' : j < m.length), j < k → l[j] = m[j]) ∧ Drawn W0 wr) (fun i _ => l.length - (intOf i).toNat)
  case atStart => exact ⟨0, by omega, rfl, Lib.hid (fun _ _ _ h => by omega), Drawn.refl _⟩
  case round =>
    obtain ⟨k, hk, rfl, Hup, hwr⟩ := hrel
    have a1 := (hwr.cell _).trans a1
    have b1 := (hwr.cell _).trans b1
    by_cases hlt : k < l.length
    · have hlt2 : k < m.length := by have := Hl.out; omega
      obtain ⟨b, off, rfl, hb, hat⟩ := (show Bts wr l (.slice va l.length vc) fp from (Hr.out.under Hb.out).under (hwr.below _)).at (by omega)
      obtain ⟨c0, c1, c2, c3⟩ := hat k hlt
      obtain ⟨b2, off2, rfl, hb2, hat2⟩ := (show Bts wr m (.slice va2 m.length vc2) fp2 from (Hr2.out.under Hb.out).under (hwr.below _)).at (by omega)
      obtain ⟨d0, d1, d2, d3⟩ := hat2 k hlt2
      have Hwr := Lib.hid hwr
      have Hne := Lib.hid (fun (h : ¬ l[k] = m[k]) => show decide (f = f2 ∧ l = m) = false from decide_eq_false fun e => h (by simp only [e.2]))
      have Hnx := Lib.hid (fun (h : l[k] = m[k]) => show ∀ j (h : j < l.length) (h' : j < m.length), j < k + 1 → l[j] = m[j] from fun j h1 h2 h3 => by
        by_cases e : j = k
        · subst e; exact h
        · exact Hup.out j h1 h2 (by omega))
      clear hat hat2 hwr Hup
      generalize l[k] = x at *
      generalize m[k] = y at *
      have hq := fun W => neq_bt x y W
      have hlt' : (k : Int) < (l.length : Int) := by omega
      have hlt2' : (k : Int) < (m.length : Int) := by omega
      by_cases e : x = y
      · rw [decide_eq_true e] at hq
        have Hn := Lib.hid (Hnx.out e)
        clear e Hne Hnx
        go_wp2_with fail
        go_quiet (fail)
        clear hq
        go_wp2
        go_roundw
        case rel => exact ⟨k + 1, by omega, by go_num, Hn, Hwr.out.drewN _⟩
        case measure => simp [intOf]; omega
      · rw [decide_eq_false e] at hq
        have Hz := Lib.hid (Hne.out e)
        clear e Hne Hnx
        go_wp2_with fail
        go_quiet (fail)
        clear hq
        go_wp2
        go_ret
        exact ⟨by first | rfl | exact ret_bool (by rw [Hz.out]), below_step Hb.out Hb.out.size ((Hwr.out.drewN _).below _)⟩
    · have Hwr := Lib.hid hwr; clear hwr
      have Hz := Lib.hid (show decide (f = f2 ∧ l = m) = true from decide_eq_true ⟨Hf.out, List.ext_getElem Hl.out fun j h1 h2 => Hup.out j h1 h2 (by omega)⟩)
      clear Hup
      go_wp2
      go_ret
      exact ⟨by first | rfl | exact ret_bool (by rw [Hz.out]), below_step Hb.out Hb.out.size (Hwr.out.below _)⟩

end Go.Proofs.Ythojbcecbeapgaa

/- The draws of digests, leaves and texts: what is drawn is short and lies in new memory; each by a walk of its text; condition: at most 2^40 picks. -/
namespace Go.Proofs.Ythojbcecbeapgaa
open Go.RowKit

/-- Numbers between -1 and 991. -/
def Digs (xs : List Int) : Prop := ∀ x ∈ xs, -1 ≤ x ∧ x ≤ 991
theorem digs_app {xs zs : List Int} (h : Digs xs) (k : Digs zs) : Digs (xs ++ zs) := fun x hx => by
  rcases List.mem_append.1 hx with hx | hx
  · exact h x hx
  · exact k x hx
theorem digs_one {z : Int} (h1 : -1 ≤ z) (h2 : z ≤ 991) : Digs [z] := fun x hx => by simp at hx; subst hx; exact ⟨h1, h2⟩
theorem digs_set {xs : List Int} (h : Digs xs) (j : Nat) {z : Int} (h1 : -1 ≤ z) (h2 : z ≤ 991) : Digs (xs.set j z) := fun x hx => by
  rcases List.mem_or_eq_of_mem_set hx with hx | rfl
  · exact h x hx
  · exact ⟨h1, h2⟩
theorem grown_row' {w a b : World} {R : Nat} {row : Option Nat} (h : w.grownBy a (some R)) (k : a.grownBy b row) (hr : ∀ g, row = some g → w.heap.size ≤ g) : w.grownBy b (some R) :=
  ⟨k.os.trans h.os, k.tape.trans h.tape, k.output.trans h.output, Nat.le_trans h.size k.size, fun i hi hne => (k.block i (Nat.lt_of_lt_of_le hi h.size) (fun e => by have := hr i e.symm; omega)).trans (h.block i hi hne)⟩
theorem below_of_row' {w w' : World} {R B : Nat} (h : w.grownBy w' (some R)) (hR : B ≤ R) (hB : B ≤ w.heap.size) : Below B w w' :=
  ⟨h.os, h.tape, h.output, h.size, fun k hk => h.block k (by omega) (fun e => by injection e with e; omega)⟩
theorem dig4_at (k : Nat) (hk : k < 4) : ∃ z : Int, (#[Value.int .i64 (-1), .int .i64 0, .int .i64 990, .int .i64 991] : Array Value)[k]? = some (.int .i64 z) ∧ -1 ≤ z ∧ z ≤ 991 := by
  match k, hk with
  | 0, _ => exact ⟨-1, rfl, by omega, by omega⟩
  | 1, _ => exact ⟨0, rfl, by omega, by omega⟩
  | 2, _ => exact ⟨990, rfl, by omega, by omega⟩
  | 3, _ => exact ⟨991, rfl, by omega, by omega⟩

theorem drawDigest (R p : Nat) (w : World) (hp : p ≤ 1000000) (hr : Rdr w R p) :
    Calls Try.prog 38 #[.pointer (some ⟨R, 0, none⟩)] w fun e w' => ∃ (d : Int) (p' : Nat), e = .returned (.int .i64 d) ∧ -1 ≤ d ∧ d ≤ 991 ∧ Rdr w' R p' ∧ p' ≤ p + 3 ∧ w.grownBy w' (some R) := by
  have Hr := Lib.hid hr; clear hr
  go_enter Try.func38, Try.ntmps38
  go_wp2_with fail
  refine (pick_any R 16 p _ (by omega) Hr.out (by omega)).mono ?_
  rintro e w1 ⟨x, rfl, hx0, hx1, hr1, hg1⟩
  have Hr1 := Lib.hid (hr1.alloc (.cells #[.int .i64 (-1), .int .i64 0, .int .i64 990, .int .i64 991] 3))
  have Hr1' := Lib.hid hr1; clear hr1
  have Hg1 := Lib.hid hg1; clear hg1
  have hRs := Hr1'.out.lt
  by_cases h0 : x = 0
  · subst h0
    go_wp2_with fail
    refine (pick_any R 4 (p + 1) _ (by omega) Hr1.out (by omega)).mono ?_
    rintro e w2 ⟨u, rfl, hu0, hu1, hr2, hg2⟩
    obtain ⟨u, rfl⟩ := Int.eq_ofNat_of_zero_le hu0
    obtain ⟨z, hz, hz1, hz2⟩ := dig4_at u (by omega)
    have hcell := lit_cell hg2 (by simp; omega) hz
    have Hg2 := Lib.hid (grownBy_trans (grownBy_trans Hg1.out (World.grownBy_alloc _ _ _)) hg2)
    have hu4 : u < 4 := by omega
    have Hr2 := Lib.hid hr2
    clear hg2 hz hu0 hu1 hr2
    go_wp2
    go_ret
    exact ⟨z, _, rfl, hz1, hz2, Hr2.out, by omega, Hg2.out⟩
  · have h0' : (x == 0) = false := by rw [beq_eq_false_iff_ne]; exact h0
    go_wp2_with fail
    refine (pick_any R 99 (p + 1) _ (by omega) Hr1'.out (by omega)).mono ?_
    rintro e w2 ⟨u, rfl, hu0, hu1, hr2, hg2⟩
    have Hr2 := Lib.hid hr2
    have Hg2 := Lib.hid (grownBy_trans Hg1.out hg2)
    clear hr2 hg2
    go_wp2_with fail
    refine (pick_any R 10 (p + 2) _ (by omega) Hr2.out (by omega)).mono ?_
    rintro e w3 ⟨y, rfl, hy0, hy1, hr3, hg3⟩
    have Hr3 := Lib.hid hr3
    have Hg3 := Lib.hid (grownBy_trans Hg2.out hg3)
    clear hr3 hg3
    go_wp2
    go_ret
    exact ⟨_, _, rfl, by omega, by omega, Hr3.out, by omega, Hg3.out⟩

end Go.Proofs.Ythojbcecbeapgaa

/- The draw of a batch, by a walk of its text; condition: at most 2^19 picks. -/
namespace Go.Proofs.Ythojbcecbeapgaa
open Go.RowKit

theorem rnd3_at (k : Nat) (hk : k < 3) : ∃ z : Int, (#[Value.int .i64 (-1), .int .i64 30, .int .i64 31] : Array Value)[k]? = some (.int .i64 z) ∧ -1 ≤ z ∧ z ≤ 31 := by
  match k, hk with
  | 0, _ => exact ⟨-1, rfl, by omega, by omega⟩
  | 1, _ => exact ⟨30, rfl, by omega, by omega⟩
  | 2, _ => exact ⟨31, rfl, by omega, by omega⟩
theorem grown_set {w a : World} {R B : Nat} (h : w.grownBy a (some R)) (hB : w.heap.size ≤ B) (j : Nat) (v : Value) : w.grownBy (a.setCell ⟨B, j, none⟩ v) (some R) := grown_row h (grownBy_set a B j v) (fun g e => by cases e; exact hB)

set_option maxHeartbeats 4000000 in
theorem drawBatch (R p : Nat) (w : World) (hp : p ≤ 900000) (hr : Rdr w R p) (hR : R < w.heap.size) :
    Calls Try.prog 24 #[.pointer (some ⟨R, 0, none⟩)] w fun e w' => ∃ (b : Bt) (p' : Nat), e = .returned (agB b) ∧ (-1048576 ≤ b.s ∧ b.s ≤ 1048576) ∧ Rdr w' R p' ∧ p' ≤ p + 9 ∧ w.grownBy w' (some R) := by
  have Hr0 := Lib.hid (hr.alloc (.cells #[.int .i64 0, .int .i64 0, .int .i64 0, .int .i64 0] 27)); clear hr
  have SA := Lib.hid (Str.new w 27 #[.int .i64 0, .int .i64 0, .int .i64 0, .int .i64 0])
  have Hg0 := Lib.hid (World.grownBy_alloc w (.cells #[.int .i64 0, .int .i64 0, .int .i64 0, .int .i64 0] 27) (some R))
  have hz0 : (w.alloc (.cells #[.int .i64 0, .int .i64 0, .int .i64 0, .int .i64 0] 27)).heap.size = w.heap.size + 1 := by simp
  go_enter Try.func24, Try.ntmps24
  have Hr := Hr0; clear Hr0
  have Hg := Hg0; clear Hg0
  go_wp2_with fail
  generalize w.alloc (.cells #[.int .i64 0, .int .i64 0, .int .i64 0, .int .i64 0] 27) = W0 at *
  refine (pick_any R 20 (p) _ (by omega) Hr.out (by omega)).mono ?_
  rintro e w1 ⟨x, rfl, hx0, hx1, hr', hg'⟩
  have hsz' := hg'.size
  have Hr := Lib.hid hr'
  have Hg := Lib.hid (grownBy_trans Hg.out hg')
  have SA := Lib.hid (show Str w1 w.heap.size 27 #[.int .i64 0, .int .i64 0, .int .i64 0, .int .i64 0] from SA.out.kept hg' (by simp; omega))
  clear hr' hg'
  go_wp2_with fail
  refine (pick_any R 3 (p + 1) _ (by omega) Hr.out (by omega)).mono ?_
  rintro e w2 ⟨y, rfl, hy0, hy1, hr', hg'⟩
  have hsz' := hg'.size
  have Hr := Lib.hid hr'
  have Hg := Lib.hid (grownBy_trans Hg.out hg')
  have SA := Lib.hid (show Str w2 w.heap.size 27 #[.int .i64 0, .int .i64 0, .int .i64 0, .int .i64 0] from SA.out.kept hg' (by simp; omega))
  clear hr' hg'
  go_wp2_with fail
  refine (pick_any R 8 (p + 1 + 1) _ (by omega) Hr.out (by omega)).mono ?_
  rintro e w3 ⟨z, rfl, hz0, hz1, hr', hg'⟩
  have hsz' := hg'.size
  have Hr := Lib.hid hr'
  have Hg := Lib.hid (grownBy_trans Hg.out hg')
  have SA := Lib.hid (show Str w3 w.heap.size 27 #[.int .i64 0, .int .i64 0, .int .i64 0, .int .i64 0] from SA.out.kept hg' (by simp; omega))
  clear hr' hg'
  go_wp2_with fail
  refine (pick_any R 12 (p + 1 + 1 + 1) _ (by omega) Hr.out (by omega)).mono ?_
  rintro e w3b ⟨s, rfl, hs0, hs1, hr', hg'⟩
  have hsz' := hg'.size
  have Hr := Lib.hid hr'
  have Hg := Lib.hid (grownBy_trans Hg.out hg')
  have SA := Lib.hid (show Str w3b w.heap.size 27 #[.int .i64 0, .int .i64 0, .int .i64 0, .int .i64 0] from SA.out.kept hg' (by simp; omega))
  clear hr' hg'
  have hw3 : w.heap.size + 1 ≤ w3b.heap.size := by omega
  have Hr := Lib.hid (Hr.out.alloc (.cells #[.int .i64 x, .int .i64 y, .int .i64 z, .int .i64 (1 + s)] 27))
  have SC := Lib.hid (Str.new w3b 27 #[.int .i64 x, .int .i64 y, .int .i64 z, .int .i64 (1 + s)])
  have SA := Lib.hid (show Str (w3b.alloc (.cells #[.int .i64 x, .int .i64 y, .int .i64 z, .int .i64 (1 + s)] 27)) w.heap.size 27 #[.int .i64 0, .int .i64 0, .int .i64 0, .int .i64 0] from SA.out.alloc _)
  have Hg := Lib.hid (grownBy_trans Hg.out (World.grownBy_alloc w3b (.cells #[.int .i64 x, .int .i64 y, .int .i64 z, .int .i64 (1 + s)] 27) (some R)))
  have hz3 : (w3b.alloc (.cells #[.int .i64 x, .int .i64 y, .int .i64 z, .int .i64 (1 + s)] 27)).heap.size = w3b.heap.size + 1 := by simp
  have hRC : R < w3b.heap.size := by omega
  go_wp2_with fail
  generalize w3b.alloc (.cells #[.int .i64 x, .int .i64 y, .int .i64 z, .int .i64 (1 + s)] 27) = W3 at *
  refine (pick_any R 24 (p + 1 + 1 + 1 + 1) _ (by omega) Hr.out (by omega)).mono ?_
  rintro e w4 ⟨q, rfl, hq0, hq1, hr', hg'⟩
  have hsz' := hg'.size
  have Hr := Lib.hid hr'
  have Hg := Lib.hid (grownBy_trans Hg.out hg')
  have SA := Lib.hid (show Str w4 w.heap.size 27 #[.int .i64 0, .int .i64 0, .int .i64 0, .int .i64 0] from SA.out.kept hg' (by simp; omega))
  have SC := Lib.hid (show Str w4 w3b.heap.size 27 #[.int .i64 x, .int .i64 y, .int .i64 z, .int .i64 (1 + s)] from SC.out.kept hg' (by simp; omega))
  clear hr' hg'
  by_cases h0 : q = 0
  case pos =>
    subst h0
    go_wp2_with fail
    refine (drawDigest R (p + 1 + 1 + 1 + 1 + 1) _ (by omega) Hr.out).mono ?_
    rintro e w5 ⟨d, p', rfl, hd0, hd1, hr', hp', hg'⟩
    have hsz5 := hg'.size
    have Hr := Lib.hid hr'
    have Hg := Lib.hid (grownBy_trans Hg.out hg')
    have SA := Lib.hid (show Str w5 w.heap.size 27 #[.int .i64 0, .int .i64 0, .int .i64 0, .int .i64 0] from SA.out.kept hg' (by simp; omega))
    have SC := Lib.hid (show Str w5 w3b.heap.size 27 #[.int .i64 x, .int .i64 y, .int .i64 z, .int .i64 (1 + s)] from SC.out.kept hg' (by simp; omega))
    clear hr' hg'
    have fc := SC.out.frozen 0
    have cc := SC.out.cell 0 (v := .int .i64 (x)) rfl
    have SC := Lib.hid (show Str (w5.setCell ⟨w3b.heap.size, 0, none⟩ (.int .i64 (d))) w3b.heap.size 27 #[.int .i64 (d), .int .i64 (y), .int .i64 (z), .int .i64 (1 + s)] from SC.out.set 0 _)
    have SA := Lib.hid (show Str (w5.setCell ⟨w3b.heap.size, 0, none⟩ (.int .i64 (d))) w.heap.size 27 #[.int .i64 0, .int .i64 0, .int .i64 0, .int .i64 0] from SA.out.other (by omega) _ _)
    have Hr := Lib.hid (Hr.out.kept (grownBy_set w5 w3b.heap.size 0 (.int .i64 (d))) (fun g e => by cases e; omega))
    have Hg := Lib.hid (grown_set Hg.out (B := w3b.heap.size) (by omega) 0 (.int .i64 (d)))
    have a0 := SA.out.cell 0 (v := .int .i64 0) rfl
    have f0 := SA.out.frozen 0
    have a1 := SA.out.cell 1 (v := .int .i64 0) rfl
    have f1 := SA.out.frozen 1
    have a2 := SA.out.cell 2 (v := .int .i64 0) rfl
    have f2 := SA.out.frozen 2
    have a3 := SA.out.cell 3 (v := .int .i64 0) rfl
    have f3 := SA.out.frozen 3
    have c0 := SC.out.cell 0 (v := .int .i64 (d)) rfl
    have c1 := SC.out.cell 1 (v := .int .i64 (y)) rfl
    have c2 := SC.out.cell 2 (v := .int .i64 (z)) rfl
    have c3 := SC.out.cell 3 (v := .int .i64 (1 + s)) rfl
    have sF := ((((SA.out.set 0 (.int .i64 (d))).set 1 (.int .i64 (y))).set 2 (.int .i64 (z))).set 3 (.int .i64 (1 + s)))
    have e0 := sF.cell 0 (v := .int .i64 (d)) rfl
    have e1 := sF.cell 1 (v := .int .i64 (y)) rfl
    have e2 := sF.cell 2 (v := .int .i64 (z)) rfl
    have e3 := sF.cell 3 (v := .int .i64 (1 + s)) rfl
    clear sF
    go_wp2
    refine bodyPost_ret (v := .agg #[.int .i64 (d), .int .i64 (y), .int .i64 (z), .int .i64 (1 + s)]) (by simp [results, Try.f24, go_sem, e0, e1, e2, e3]) rfl ?_
    exact ⟨⟨d, y, z, 1 + s⟩, _, rfl, (by simp only; omega), ((((Hr.out.kept (grownBy_set _ w.heap.size 0 _) (fun g e => by cases e; omega)).kept (grownBy_set _ w.heap.size 1 _) (fun g e => by cases e; omega)).kept (grownBy_set _ w.heap.size 2 _) (fun g e => by cases e; omega)).kept (grownBy_set _ w.heap.size 3 _) (fun g e => by cases e; omega)), by omega, (grown_set (grown_set (grown_set (grown_set Hg.out (Nat.le_refl _) _ _) (Nat.le_refl _) _ _) (Nat.le_refl _) _ _) (Nat.le_refl _) _ _)⟩
  have h0' : (q == 0) = false := by rw [beq_eq_false_iff_ne]; exact h0
  by_cases h1 : q = 1
  case pos =>
    subst h1
    go_wp2_with fail
    refine (pick_any R 9 (p + 1 + 1 + 1 + 1 + 1) _ (by omega) Hr.out (by omega)).mono ?_
    rintro e w5 ⟨u, rfl, hu0, hu1, hr', hg'⟩
    have hsz' := hg'.size
    have Hr := Lib.hid hr'
    have Hg := Lib.hid (grownBy_trans Hg.out hg')
    have SA := Lib.hid (show Str w5 w.heap.size 27 #[.int .i64 0, .int .i64 0, .int .i64 0, .int .i64 0] from SA.out.kept hg' (by simp; omega))
    have SC := Lib.hid (show Str w5 w3b.heap.size 27 #[.int .i64 x, .int .i64 y, .int .i64 z, .int .i64 (1 + s)] from SC.out.kept hg' (by simp; omega))
    clear hr' hg'
    have fc := SC.out.frozen 1
    have cc := SC.out.cell 1 (v := .int .i64 (y)) rfl
    have SC := Lib.hid (show Str (w5.setCell ⟨w3b.heap.size, 1, none⟩ (.int .i64 (u - 1))) w3b.heap.size 27 #[.int .i64 (x), .int .i64 (u - 1), .int .i64 (z), .int .i64 (1 + s)] from SC.out.set 1 _)
    have SA := Lib.hid (show Str (w5.setCell ⟨w3b.heap.size, 1, none⟩ (.int .i64 (u - 1))) w.heap.size 27 #[.int .i64 0, .int .i64 0, .int .i64 0, .int .i64 0] from SA.out.other (by omega) _ _)
    have Hr := Lib.hid (Hr.out.kept (grownBy_set w5 w3b.heap.size 1 (.int .i64 (u - 1))) (fun g e => by cases e; omega))
    have Hg := Lib.hid (grown_set Hg.out (B := w3b.heap.size) (by omega) 1 (.int .i64 (u - 1)))
    have a0 := SA.out.cell 0 (v := .int .i64 0) rfl
    have f0 := SA.out.frozen 0
    have a1 := SA.out.cell 1 (v := .int .i64 0) rfl
    have f1 := SA.out.frozen 1
    have a2 := SA.out.cell 2 (v := .int .i64 0) rfl
    have f2 := SA.out.frozen 2
    have a3 := SA.out.cell 3 (v := .int .i64 0) rfl
    have f3 := SA.out.frozen 3
    have c0 := SC.out.cell 0 (v := .int .i64 (x)) rfl
    have c1 := SC.out.cell 1 (v := .int .i64 (u - 1)) rfl
    have c2 := SC.out.cell 2 (v := .int .i64 (z)) rfl
    have c3 := SC.out.cell 3 (v := .int .i64 (1 + s)) rfl
    have sF := ((((SA.out.set 0 (.int .i64 (x))).set 1 (.int .i64 (u - 1))).set 2 (.int .i64 (z))).set 3 (.int .i64 (1 + s)))
    have e0 := sF.cell 0 (v := .int .i64 (x)) rfl
    have e1 := sF.cell 1 (v := .int .i64 (u - 1)) rfl
    have e2 := sF.cell 2 (v := .int .i64 (z)) rfl
    have e3 := sF.cell 3 (v := .int .i64 (1 + s)) rfl
    clear sF
    go_wp2
    refine bodyPost_ret (v := .agg #[.int .i64 (x), .int .i64 (u - 1), .int .i64 (z), .int .i64 (1 + s)]) (by simp [results, Try.f24, go_sem, e0, e1, e2, e3]) rfl ?_
    exact ⟨⟨x, u - 1, z, 1 + s⟩, _, rfl, (by simp only; omega), ((((Hr.out.kept (grownBy_set _ w.heap.size 0 _) (fun g e => by cases e; omega)).kept (grownBy_set _ w.heap.size 1 _) (fun g e => by cases e; omega)).kept (grownBy_set _ w.heap.size 2 _) (fun g e => by cases e; omega)).kept (grownBy_set _ w.heap.size 3 _) (fun g e => by cases e; omega)), by omega, (grown_set (grown_set (grown_set (grown_set Hg.out (Nat.le_refl _) _ _) (Nat.le_refl _) _ _) (Nat.le_refl _) _ _) (Nat.le_refl _) _ _)⟩
  have h1' : (q == 1) = false := by rw [beq_eq_false_iff_ne]; exact h1
  by_cases h2 : q = 2
  case pos =>
    subst h2
    have Hr := Lib.hid (Hr.out.alloc (.cells #[.int .i64 (-1), .int .i64 30, .int .i64 31] 3))
    have SA := Lib.hid (show Str (w4.alloc (.cells #[.int .i64 (-1), .int .i64 30, .int .i64 31] 3)) w.heap.size 27 #[.int .i64 0, .int .i64 0, .int .i64 0, .int .i64 0] from SA.out.alloc _)
    have SC := Lib.hid (show Str (w4.alloc (.cells #[.int .i64 (-1), .int .i64 30, .int .i64 31] 3)) w3b.heap.size 27 #[.int .i64 x, .int .i64 y, .int .i64 z, .int .i64 (1 + s)] from SC.out.alloc _)
    have Hg := Lib.hid (grownBy_trans Hg.out (World.grownBy_alloc w4 (.cells #[.int .i64 (-1), .int .i64 30, .int .i64 31] 3) (some R)))
    go_wp2_with fail
    refine (pick_any R 3 (p + 1 + 1 + 1 + 1 + 1) _ (by omega) Hr.out (by omega)).mono ?_
    rintro e w5 ⟨u, rfl, hu0, hu1, hr', hg'⟩
    have hsz5 := hg'.size
    simp only [World.size_alloc] at hsz5
    obtain ⟨u, rfl⟩ := Int.eq_ofNat_of_zero_le hu0
    obtain ⟨t, ht, ht1, ht2⟩ := rnd3_at u (by omega)
    have hcell := lit_cell hg' (by simp; omega) ht
    have hu4 : u < 3 := by omega
    have Hr := Lib.hid hr'
    have Hg := Lib.hid (grownBy_trans Hg.out hg')
    have SA := Lib.hid (show Str w5 w.heap.size 27 #[.int .i64 0, .int .i64 0, .int .i64 0, .int .i64 0] from SA.out.kept hg' (by simp; omega))
    have SC := Lib.hid (show Str w5 w3b.heap.size 27 #[.int .i64 x, .int .i64 y, .int .i64 z, .int .i64 (1 + s)] from SC.out.kept hg' (by simp; omega))
    clear hr' hg' ht hu0 hu1
    have fc := SC.out.frozen 2
    have cc := SC.out.cell 2 (v := .int .i64 (z)) rfl
    have SC := Lib.hid (show Str (w5.setCell ⟨w3b.heap.size, 2, none⟩ (.int .i64 (t))) w3b.heap.size 27 #[.int .i64 (x), .int .i64 (y), .int .i64 (t), .int .i64 (1 + s)] from SC.out.set 2 _)
    have SA := Lib.hid (show Str (w5.setCell ⟨w3b.heap.size, 2, none⟩ (.int .i64 (t))) w.heap.size 27 #[.int .i64 0, .int .i64 0, .int .i64 0, .int .i64 0] from SA.out.other (by omega) _ _)
    have Hr := Lib.hid (Hr.out.kept (grownBy_set w5 w3b.heap.size 2 (.int .i64 (t))) (fun g e => by cases e; omega))
    have Hg := Lib.hid (grown_set Hg.out (B := w3b.heap.size) (by omega) 2 (.int .i64 (t)))
    have a0 := SA.out.cell 0 (v := .int .i64 0) rfl
    have f0 := SA.out.frozen 0
    have a1 := SA.out.cell 1 (v := .int .i64 0) rfl
    have f1 := SA.out.frozen 1
    have a2 := SA.out.cell 2 (v := .int .i64 0) rfl
    have f2 := SA.out.frozen 2
    have a3 := SA.out.cell 3 (v := .int .i64 0) rfl
    have f3 := SA.out.frozen 3
    have c0 := SC.out.cell 0 (v := .int .i64 (x)) rfl
    have c1 := SC.out.cell 1 (v := .int .i64 (y)) rfl
    have c2 := SC.out.cell 2 (v := .int .i64 (t)) rfl
    have c3 := SC.out.cell 3 (v := .int .i64 (1 + s)) rfl
    have sF := ((((SA.out.set 0 (.int .i64 (x))).set 1 (.int .i64 (y))).set 2 (.int .i64 (t))).set 3 (.int .i64 (1 + s)))
    have e0 := sF.cell 0 (v := .int .i64 (x)) rfl
    have e1 := sF.cell 1 (v := .int .i64 (y)) rfl
    have e2 := sF.cell 2 (v := .int .i64 (t)) rfl
    have e3 := sF.cell 3 (v := .int .i64 (1 + s)) rfl
    clear sF
    go_wp2
    refine bodyPost_ret (v := .agg #[.int .i64 (x), .int .i64 (y), .int .i64 (t), .int .i64 (1 + s)]) (by simp [results, Try.f24, go_sem, e0, e1, e2, e3]) rfl ?_
    exact ⟨⟨x, y, t, 1 + s⟩, _, rfl, (by simp only; omega), ((((Hr.out.kept (grownBy_set _ w.heap.size 0 _) (fun g e => by cases e; omega)).kept (grownBy_set _ w.heap.size 1 _) (fun g e => by cases e; omega)).kept (grownBy_set _ w.heap.size 2 _) (fun g e => by cases e; omega)).kept (grownBy_set _ w.heap.size 3 _) (fun g e => by cases e; omega)), by omega, (grown_set (grown_set (grown_set (grown_set Hg.out (Nat.le_refl _) _ _) (Nat.le_refl _) _ _) (Nat.le_refl _) _ _) (Nat.le_refl _) _ _)⟩
  have h2' : (q == 2) = false := by rw [beq_eq_false_iff_ne]; exact h2
  by_cases h3 : q = 3
  case pos =>
    subst h3
    go_wp2_with fail
    refine (pick_any R 2 (p + 1 + 1 + 1 + 1 + 1) _ (by omega) Hr.out (by omega)).mono ?_
    rintro e w5 ⟨u, rfl, hu0, hu1, hr', hg'⟩
    have hsz' := hg'.size
    have Hr := Lib.hid hr'
    have Hg := Lib.hid (grownBy_trans Hg.out hg')
    have SA := Lib.hid (show Str w5 w.heap.size 27 #[.int .i64 0, .int .i64 0, .int .i64 0, .int .i64 0] from SA.out.kept hg' (by simp; omega))
    have SC := Lib.hid (show Str w5 w3b.heap.size 27 #[.int .i64 x, .int .i64 y, .int .i64 z, .int .i64 (1 + s)] from SC.out.kept hg' (by simp; omega))
    clear hr' hg'
    have fc := SC.out.frozen 3
    have cc := SC.out.cell 3 (v := .int .i64 (1 + s)) rfl
    have SC := Lib.hid (show Str (w5.setCell ⟨w3b.heap.size, 3, none⟩ (.int .i64 (u * 13))) w3b.heap.size 27 #[.int .i64 (x), .int .i64 (y), .int .i64 (z), .int .i64 (u * 13)] from SC.out.set 3 _)
    have SA := Lib.hid (show Str (w5.setCell ⟨w3b.heap.size, 3, none⟩ (.int .i64 (u * 13))) w.heap.size 27 #[.int .i64 0, .int .i64 0, .int .i64 0, .int .i64 0] from SA.out.other (by omega) _ _)
    have Hr := Lib.hid (Hr.out.kept (grownBy_set w5 w3b.heap.size 3 (.int .i64 (u * 13))) (fun g e => by cases e; omega))
    have Hg := Lib.hid (grown_set Hg.out (B := w3b.heap.size) (by omega) 3 (.int .i64 (u * 13)))
    have a0 := SA.out.cell 0 (v := .int .i64 0) rfl
    have f0 := SA.out.frozen 0
    have a1 := SA.out.cell 1 (v := .int .i64 0) rfl
    have f1 := SA.out.frozen 1
    have a2 := SA.out.cell 2 (v := .int .i64 0) rfl
    have f2 := SA.out.frozen 2
    have a3 := SA.out.cell 3 (v := .int .i64 0) rfl
    have f3 := SA.out.frozen 3
    have c0 := SC.out.cell 0 (v := .int .i64 (x)) rfl
    have c1 := SC.out.cell 1 (v := .int .i64 (y)) rfl
    have c2 := SC.out.cell 2 (v := .int .i64 (z)) rfl
    have c3 := SC.out.cell 3 (v := .int .i64 (u * 13)) rfl
    have sF := ((((SA.out.set 0 (.int .i64 (x))).set 1 (.int .i64 (y))).set 2 (.int .i64 (z))).set 3 (.int .i64 (u * 13)))
    have e0 := sF.cell 0 (v := .int .i64 (x)) rfl
    have e1 := sF.cell 1 (v := .int .i64 (y)) rfl
    have e2 := sF.cell 2 (v := .int .i64 (z)) rfl
    have e3 := sF.cell 3 (v := .int .i64 (u * 13)) rfl
    clear sF
    go_wp2
    refine bodyPost_ret (v := .agg #[.int .i64 (x), .int .i64 (y), .int .i64 (z), .int .i64 (u * 13)]) (by simp [results, Try.f24, go_sem, e0, e1, e2, e3]) rfl ?_
    exact ⟨⟨x, y, z, u * 13⟩, _, rfl, (by simp only; omega), ((((Hr.out.kept (grownBy_set _ w.heap.size 0 _) (fun g e => by cases e; omega)).kept (grownBy_set _ w.heap.size 1 _) (fun g e => by cases e; omega)).kept (grownBy_set _ w.heap.size 2 _) (fun g e => by cases e; omega)).kept (grownBy_set _ w.heap.size 3 _) (fun g e => by cases e; omega)), by omega, (grown_set (grown_set (grown_set (grown_set Hg.out (Nat.le_refl _) _ _) (Nat.le_refl _) _ _) (Nat.le_refl _) _ _) (Nat.le_refl _) _ _)⟩
  have h3' : (q == 3) = false := by rw [beq_eq_false_iff_ne]; exact h3
  have a0 := SA.out.cell 0 (v := .int .i64 0) rfl
  have f0 := SA.out.frozen 0
  have a1 := SA.out.cell 1 (v := .int .i64 0) rfl
  have f1 := SA.out.frozen 1
  have a2 := SA.out.cell 2 (v := .int .i64 0) rfl
  have f2 := SA.out.frozen 2
  have a3 := SA.out.cell 3 (v := .int .i64 0) rfl
  have f3 := SA.out.frozen 3
  have c0 := SC.out.cell 0 (v := .int .i64 (x)) rfl
  have c1 := SC.out.cell 1 (v := .int .i64 (y)) rfl
  have c2 := SC.out.cell 2 (v := .int .i64 (z)) rfl
  have c3 := SC.out.cell 3 (v := .int .i64 (1 + s)) rfl
  have sF := ((((SA.out.set 0 (.int .i64 (x))).set 1 (.int .i64 (y))).set 2 (.int .i64 (z))).set 3 (.int .i64 (1 + s)))
  have e0 := sF.cell 0 (v := .int .i64 (x)) rfl
  have e1 := sF.cell 1 (v := .int .i64 (y)) rfl
  have e2 := sF.cell 2 (v := .int .i64 (z)) rfl
  have e3 := sF.cell 3 (v := .int .i64 (1 + s)) rfl
  clear sF
  go_wp2
  refine bodyPost_ret (v := .agg #[.int .i64 (x), .int .i64 (y), .int .i64 (z), .int .i64 (1 + s)]) (by simp [results, Try.f24, go_sem, e0, e1, e2, e3]) rfl ?_
  exact ⟨⟨x, y, z, 1 + s⟩, _, rfl, (by simp only; omega), ((((Hr.out.kept (grownBy_set _ w.heap.size 0 _) (fun g e => by cases e; omega)).kept (grownBy_set _ w.heap.size 1 _) (fun g e => by cases e; omega)).kept (grownBy_set _ w.heap.size 2 _) (fun g e => by cases e; omega)).kept (grownBy_set _ w.heap.size 3 _) (fun g e => by cases e; omega)), by omega, (grown_set (grown_set (grown_set (grown_set Hg.out (Nat.le_refl _) _ _) (Nat.le_refl _) _ _) (Nat.le_refl _) _ _) (Nat.le_refl _) _ _)⟩

end Go.Proofs.Ythojbcecbeapgaa

/- The state of a store while it is drawn: its struct, its list of batches of the call's own, the reader; steps of the world; nothing here speaks of the program but types. -/
namespace Go.Proofs.Ythojbcecbeapgaa
open Go.RowKit

theorem OwnN.setI {E : TypeId} {sz : Nat} {w : World} {B g n cap : Nat} {es : List (List Int)} (h : OwnN E sz w B (.slice (some ⟨g, 0, none⟩) n cap) es) (hn : n = es.length) {k j : Nat} (hk : k < es.length) (hj : j < sz) (z : Int) :
    OwnN E sz (w.setCell ⟨g, k * sz + j, none⟩ (.int .i64 z)) B (.slice (some ⟨g, 0, none⟩) n cap) (es.set k ((es[k]).set j z)) := by
  subst hn
  have hsz := h.szs _ (List.getElem_mem hk)
  have hst := (World.ownsRow.stored (w := w) (base := B) (e := E) (size := sz) (g := g) (n := es.length) (cap := cap) h.row (k * sz + j) (.int .i64 z)).1
  have hszs : ∀ e ∈ es.set k ((es[k]).set j z), e.length = sz := fun e he => by
    rcases List.mem_or_eq_of_mem_set he with he | rfl
    · exact h.szs e he
    · rw [List.length_set]; exact hsz
  have hfl : (flN es).set (k * sz + j) (.int .i64 z) = flN (es.set k ((es[k]).set j z)) := by
    have hl1 := flN_len h.szs
    have hl2 := flN_len hszs
    rw [List.length_set] at hl2
    have hpos : 0 < sz := by omega
    refine List.ext_getElem? fun p => ?_
    by_cases hp : p < es.length * sz
    · have e1 : p = p / sz * sz + p % sz := by rw [Nat.mul_comm]; exact (Nat.div_add_mod p sz).symm
      have hk1 : p / sz < es.length := (Nat.div_lt_iff_lt_mul hpos).2 hp
      have hj1 : p % sz < sz := Nat.mod_lt _ hpos
      have hk2 : p / sz < (es.set k ((es[k]).set j z)).length := by rw [List.length_set]; exact hk1
      have r1 := flN_at h.szs (p / sz) (p % sz) hk1 hj1
      have r2 := flN_at hszs (p / sz) (p % sz) hk2 hj1
      rw [← e1] at r1 r2
      rw [r2]
      by_cases e : p = k * sz + j
      · have hkk : p / sz = k := by rw [e, Nat.add_comm, Nat.add_mul_div_right _ _ hpos, Nat.div_eq_of_lt hj, Nat.zero_add]
        have hjj : p % sz = j := by rw [e, Nat.add_comm, Nat.add_mul_mod_self_right, Nat.mod_eq_of_lt hj]
        have hg : (es.set k ((es[k]).set j z))[p / sz] = (es[k]).set j z := by simp only [hkk]; rw [List.getElem_set_self]
        rw [hg, hjj, ← e, List.getElem?_set_self (by rw [hl1]; exact hp)]
        have hj' : j < es[k].length := by omega
        simp [rwN, hj']
      · rw [List.getElem?_set_ne (fun e2 => e e2.symm), r1]
        by_cases e2 : p / sz = k
        · have hj2 : p % sz ≠ j := fun e3 => e (by rw [e1, e2, e3])
          have hg : (es.set k ((es[k]).set j z))[p / sz] = (es[k]).set j z := by simp only [e2]; rw [List.getElem_set_self]
          have hg2 : es[p / sz] = es[k] := by simp only [e2]
          rw [hg, hg2]
          unfold rwN
          rw [List.map_set, List.getElem?_set_ne (fun e3 => hj2 e3.symm)]
        · have hg : (es.set k ((es[k]).set j z))[p / sz] = es[p / sz] := List.getElem_set_ne (fun e3 => e2 e3.symm) _
          rw [hg]
    · rw [List.getElem?_eq_none (by rw [List.length_set, hl1]; omega), List.getElem?_eq_none (by rw [hl2]; omega)]
  refine ⟨hszs, ?_⟩
  rw [← hfl, List.length_set]
  exact hst
theorem OwnB.setS {E : TypeId} {w : World} {B g n cap : Nat} {l : List Bt} (h : OwnB E w B (.slice (some ⟨g, 0, none⟩) n cap) l) (hn : n = l.length) {k : Nat} (hk : k < l.length) (z : Int) :
    OwnB E (w.setCell ⟨g, k * 4 + 3, none⟩ (.int .i64 z)) B (.slice (some ⟨g, 0, none⟩) n cap) (l.set k ⟨l[k].d, l[k].a, l[k].r, z⟩) := by
  have hk' : k < (l.map btN).length := by simpa using hk
  have := OwnN.setI (k := k) (j := 3) h (by rw [List.length_map]; exact hn) hk' (by omega) z
  have e : (l.map btN).set k (((l.map btN)[k]).set 3 z) = (l.set k ⟨l[k].d, l[k].a, l[k].r, z⟩).map btN := by rw [List.map_set, List.getElem_map]; rfl
  rw [e] at this
  exact this

structure Bst (R : Nat) (w : World) (X : Nat) (f : Int) (p : Nat) (wr : World) (u : Value) (l : List Bt) : Prop where
  sx : Str wr X 25 #[.int .i64 f, u]
  own : OwnB 27 wr w.heap.size u l
  nx : ∀ b, u.ownBlock = some b → b ≠ X ∧ b ≠ w.heap.size
  sr : Str wr w.heap.size 25 #[.int .i64 0, .slice none 0 0]
  rd : Rdr wr R p
  gr : w.grownBy wr (some R)
  hR : R < w.heap.size
  hX : w.heap.size < X
section
variable {R : Nat} {w : World} {X : Nat} {f : Int} {p : Nat} {wr : World} {u : Value} {l : List Bt}
theorem Bst.picked (h : Bst R w X f p wr u l) {w2 : World} {p2 : Nat} (hg : wr.grownBy w2 (some R)) (hr : Rdr w2 R p2) : Bst R w X f p2 w2 u l := by
  have h1 := h.hR; have h2 := h.hX
  exact ⟨h.sx.kept hg (by simp; omega), OwnN.kept h.own hg (fun b e e' => by have := (OwnN.lt h.own b e).1; cases e'; omega), h.nx, h.sr.kept hg (by simp; omega), hr, grownBy_trans h.gr hg, h1, h2⟩
theorem Bst.below (h : Bst R w X f p wr u l) {w2 : World} (hb : Below wr.heap.size wr w2) : Bst R w X f p w2 u l :=
  ⟨(hb.block _ h.sx.lt).trans h.sx, OwnN.below h.own hb, h.nx, (hb.block _ h.sr.lt).trans h.sr, h.rd.kept (below_grown hb) (by simp), grown_row h.gr (below_grown hb) (by simp), h.hR, h.hX⟩
theorem Bst.put (h : Bst R w X f p wr u l) {w2 : World} {u2 : Value} {l2 : List Bt} (ho : OwnB 27 w2 w.heap.size u2 l2) (hg : wr.grownBy w2 u.ownBlock) (hat : ∀ b, u2.ownBlock = some b → u.ownBlock = some b ∨ wr.heap.size ≤ b) :
    Bst R w X f p (w2.setCell ⟨X, 1, none⟩ u2) u2 l2 ∧ Str w2 X 25 #[.int .i64 f, u] := by
  have h1 := h.hR; have h2 := h.hX; have h3 := h.sx.lt; have h4 := h.sr.lt
  have hn : ∀ b, u2.ownBlock = some b → b ≠ X ∧ b ≠ w.heap.size := fun b e => by
    rcases hat b e with h' | h'
    · exact h.nx b h'
    · omega
  have hsx : Str w2 X 25 #[.int .i64 f, u] := h.sx.kept hg (fun e => (h.nx X e.symm).1 rfl)
  have hsr : Str w2 w.heap.size 25 #[.int .i64 0, .slice none 0 0] := h.sr.kept hg (fun e => (h.nx _ e.symm).2 rfl)
  exact ⟨⟨hsx.set 1 u2, OwnB.setc ho (fun b e => (hn b e).1) _ _, hn, hsr.other (by omega) _ _, (h.rd.kept hg (fun b e => by have := (OwnN.lt h.own b e).1; omega)).kept (grownBy_set w2 X 1 u2) (fun b e => by cases e; omega),
    grown_set (grown_row h.gr hg (fun b e => (OwnN.lt h.own b e).1)) (by omega) 1 u2, h1, h2⟩, hsx⟩
theorem Bst.move (h : Bst R w X f p wr u l) {f2 : Int} {u2 : Value} {l2 : List Bt} (ho : OwnB 27 wr w.heap.size u2 l2) (hn : ∀ b, u2.ownBlock = some b → b ≠ X ∧ b ≠ w.heap.size) :
    Bst R w X f2 p ((wr.setCell ⟨X, 0, none⟩ (.int .i64 f2)).setCell ⟨X, 1, none⟩ u2) u2 l2 := by
  have h1 := h.hR; have h2 := h.hX
  exact ⟨(h.sx.set 0 _).set 1 _, OwnB.setc (OwnB.setc ho (fun b e => (hn b e).1) _ _) (fun b e => (hn b e).1) _ _, hn, (h.sr.other (by omega) _ _).other (by omega) _ _,
    (h.rd.kept (grownBy_set _ X 0 _) (fun b e => by cases e; omega)).kept (grownBy_set _ X 1 _) (fun b e => by cases e; omega), grown_set (grown_set h.gr (by omega) 0 _) (by omega) 1 _, h1, h2⟩
theorem Bst.floor (h : Bst R w X f p wr u l) (f2 : Int) : Bst R w X f2 p (wr.setCell ⟨X, 0, none⟩ (.int .i64 f2)) u l := by
  have h1 := h.hR; have h2 := h.hX
  exact ⟨h.sx.set 0 _, OwnB.setc h.own (fun b e => (h.nx b e).1) _ _, h.nx, h.sr.other (by omega) _ _, h.rd.kept (grownBy_set _ X 0 _) (fun b e => by cases e; omega), grown_set h.gr (by omega) 0 _, h1, h2⟩
theorem Bst.cell (h : Bst R w X f p wr u l) {Y : Nat} (h1 : Y ≠ X) (h2 : Y ≠ w.heap.size) (h3 : ∀ b, u.ownBlock = some b → b ≠ Y) (hlo : w.heap.size ≤ Y) (j : Nat) (v : Value) : Bst R w X f p (wr.setCell ⟨Y, j, none⟩ v) u l := by
  have k1 := h.hR; have k2 := h.hX
  exact ⟨h.sx.other (Ne.symm h1) _ _, OwnB.setc h.own h3 _ _, h.nx, h.sr.other (Ne.symm h2) _ _, h.rd.kept (grownBy_set _ Y j _) (fun b e => by cases e; omega), grown_set h.gr hlo j _, k1, k2⟩
/-- The size of a batch of the list is set. -/
theorem Bst.size {g n cap : Nat} (h : Bst R w X f p wr (.slice (some ⟨g, 0, none⟩) n cap) l) (hn : n = l.length) {k : Nat} (hk : k < l.length) (z : Int) : Bst R w X f p (wr.setCell ⟨g, k * 4 + 3, none⟩ (.int .i64 z)) (.slice (some ⟨g, 0, none⟩) n cap) (l.set k ⟨l[k].d, l[k].a, l[k].r, z⟩) := by
  have k1 := h.hR; have k2 := h.hX
  have hg := h.nx g rfl
  have hlo := OwnN.lt h.own g rfl
  exact ⟨h.sx.other (fun e => hg.1 e.symm) _ _, OwnB.setS h.own hn hk z, h.nx, h.sr.other (fun e => hg.2 e.symm) _ _, h.rd.kept (grownBy_set _ g _ _) (fun b e => by cases e; omega), grown_set h.gr hlo.1 _ _, k1, k2⟩
/-- What a drawn store is. -/
def StDraw (R p : Nat) (w : World) (e : Ending) (w' : World) : Prop := ∃ (f : Int) (l : List Bt) (u : Value) (p' : Nat), e = .returned (.agg #[.int .i64 f, u]) ∧ OwnB 27 w' w.heap.size u l ∧ l.length ≤ 13 ∧ (-1 ≤ f ∧ f ≤ 34) ∧ Rdr w' R p' ∧ p' ≤ p + 500 ∧ w.grownBy w' (some R)
theorem Bst.fin (h : Bst R w X f p wr u l) {p0 : Nat} {e : Ending} (he : e = .returned (.agg #[.int .i64 f, u])) (hl : l.length ≤ 13) (hf : -1 ≤ f ∧ f ≤ 34) (hp : p ≤ p0 + 500) :
    StDraw R p0 w e ((wr.setCell ⟨w.heap.size, 0, none⟩ (.int .i64 f)).setCell ⟨w.heap.size, 1, none⟩ u) :=
  ⟨f, l, u, p, he, OwnB.setc (OwnB.setc h.own (fun b e => (h.nx b e).2) _ _) (fun b e => (h.nx b e).2) _ _, hl, hf, (h.rd.kept (grownBy_set _ w.heap.size 0 _) (fun b e => by cases e; exact h.hR)).kept (grownBy_set _ w.heap.size 1 _) (fun b e => by cases e; exact h.hR), hp,
    grown_set (grown_set h.gr (Nat.le_refl _) 0 _) (Nat.le_refl _) 1 _⟩
end

end Go.Proofs.Ythojbcecbeapgaa

/- The draw of a store, by a walk of its text; condition: at most 2^19 picks. -/
namespace Go.Proofs.Ythojbcecbeapgaa
open Go.RowKit

set_option maxHeartbeats 8000000 in
set_option maxRecDepth 8000 in
theorem drawStore (R p : Nat) (w : World) (hp : p ≤ 500000) (hr : Rdr w R p) (hR : R < w.heap.size) :
    Calls Try.prog 23 #[.pointer (some ⟨R, 0, none⟩)] w (StDraw R p w) := by
  have SR := Lib.hid (Str.new w 25 #[.int .i64 0, .slice none 0 0])
  have Hr := Lib.hid (hr.alloc (.cells #[.int .i64 0, .slice none 0 0] 25)); clear hr
  have Hg := Lib.hid (World.grownBy_alloc w (.cells #[.int .i64 0, .slice none 0 0] 25) (some R))
  have hz0 : (w.alloc (.cells #[.int .i64 0, .slice none 0 0] 25)).heap.size = w.heap.size + 1 := by simp
  have Hz0 := Lib.hid hz0
  have hz1 : w.heap.size < (w.alloc (.cells #[.int .i64 0, .slice none 0 0] 25)).heap.size := by omega
  clear hz0
  go_enter Try.func23, Try.ntmps23
  go_wp2_with fail
  generalize w.alloc (.cells #[.int .i64 0, .slice none 0 0] 25) = W0 at *
  refine (pick_any R 3 p _ (by omega) Hr.out (by omega)).mono ?_
  rintro e w2 ⟨q, rfl, hq0, hq1, hr', hg'⟩
  have hsw2 := hg'.size
  have ho0 : OwnB 27 (w2.alloc (.cells #[] 27)) w.heap.size (.slice (some ⟨w2.heap.size, 0, none⟩) 0 0) [] := OwnN.mono (OwnB.fresh 27 w2) (by omega)
  have hal2 : Below (w2.alloc (.cells #[] 27)).heap.size (w2.alloc (.cells #[] 27)) ((w2.alloc (.cells #[] 27)).alloc (.cells #[.int .i64 q, (.slice (some ⟨w2.heap.size, 0, none⟩) 0 0)] 25)) := (Below.refl _ _).alloc (Nat.le_refl _) _
  have hzL : (w2.alloc (.cells #[] 27)).heap.size = w2.heap.size + 1 := by simp
  have HV := Lib.hid (show Bst R w (w2.heap.size + 1) q (p + 1) ((w2.alloc (.cells #[] 27)).alloc (.cells #[.int .i64 q, (.slice (some ⟨w2.heap.size, 0, none⟩) 0 0)] 25)) (.slice (some ⟨w2.heap.size, 0, none⟩) 0 0) [] from ⟨by rw [← hzL]; exact Str.new _ _ _, OwnN.below ho0 hal2, (fun b e => (show w2.heap.size = b by simpa [Value.ownBlock] using e) ▸ ⟨by omega, by omega⟩), ((SR.out.kept hg' (by simp; omega)).alloc _).alloc _, (hr'.alloc _).alloc _, grown_row (grown_row (grownBy_trans Hg.out hg') (World.grownBy_alloc w2 _ none) (by simp)) (World.grownBy_alloc _ _ none) (by simp), hR, by omega⟩)
  have hzE : w2.heap.size + 1 < ((w2.alloc (.cells #[] 27)).alloc (.cells #[.int .i64 q, (.slice (some ⟨w2.heap.size, 0, none⟩) 0 0)] 25)).heap.size := by simp
  clear hr' hg' ho0 hal2 hzL SR Hr Hg
  go_wp2
  generalize ((w2.alloc (.cells #[] 27)).alloc (.cells #[.int .i64 q, (.slice (some ⟨w2.heap.size, 0, none⟩) 0 0)] 25)) = W3 at *
  obtain ⟨X, hX⟩ : ∃ X, X = w2.heap.size + 1 := ⟨_, rfl⟩
  rw [← hX] at HV
  rw [← hX]
  have hwX : w.heap.size < X := by omega
  clear hX
  generalize w2.heap.size = LB at *
  clear hzE hsw2
  have h0l : ([] : List Bt).length ≤ 12 := by simp
  generalize ([] : List Bt) = l0 at *
  skip
  go_loopw [4] (fun i wr => ∃ (k p' : Nat) (u : Value) (l : List Bt), k ≤ 25 ∧ i = .int .i64 k ∧ p' ≤ p + 1 + 14 * k ∧ l.length ≤ 12 ∧ Bst R w X q p' wr u l) (fun i _ => 26 - (intOf i).toNat)
  case atStart => exact ⟨0, p + 1, _, l0, by omega, rfl, by omega, h0l, HV.out⟩
  case round =>
    clear HV h0l
    obtain ⟨k, p', u, l, hk, rfl, hpk, hl12, hv⟩ := hrel
    obtain ⟨au, cu, rfl, _⟩ := hv.own.sl
    have HV := Lib.hid hv; clear hv
    have hsz := HV.out.sr.lt
    have hRw := HV.out.hR
    go_wp2_with fail
    refine (pick_any R 26 (p') _ (by omega) HV.out.rd (by omega)).mono ?_
    rintro e w3 ⟨n, rfl, hn0, hn1, hr', hg'⟩
    have hsw3 := hg'.size
    have HV := Lib.hid (HV.out.picked hg' hr')
    clear hr' hg'
    by_cases hlt : (k : Int) < n
    case pos =>
      have hk25 : k < 25 := by omega
      have hlt' : decide ((k : Int) < n) = true := decide_eq_true hlt
      go_wp2_with fail
      refine (drawBatch R (p' + 1) _ (by omega) HV.out.rd (by omega)).mono ?_
      rintro e w4 ⟨b, p4, rfl, _, hr', hp4, hg'⟩
      have hs4 := hg'.size
      have HV := Lib.hid (HV.out.picked hg' hr')
      clear hr' hg'
      unfold agB
      have hal : Below w4.heap.size w4 (w4.alloc (.cells #[.int .i64 b.d, .int .i64 b.a, .int .i64 b.r, .int .i64 b.s] 27)) := (Below.refl _ _).alloc (Nat.le_refl _) _
      have SB := Lib.hid (Str.new w4 27 #[.int .i64 b.d, .int .i64 b.a, .int .i64 b.r, .int .i64 b.s])
      have HnB := Lib.hid (show ∀ g, (Value.slice au l.length cu).ownBlock = some g → g ≠ w4.heap.size from fun g e => by have := (OwnN.lt HV.out.own g e).2; omega)
      have HBX := Lib.hid (show w4.heap.size ≠ X ∧ w4.heap.size ≠ w.heap.size ∧ w.heap.size ≤ w4.heap.size from by have := HV.out.sx.lt; have := HV.out.sr.lt; omega)
      have HV := Lib.hid (HV.out.below hal)
      have hzB : w4.heap.size < (w4.alloc (.cells #[.int .i64 b.d, .int .i64 b.a, .int .i64 b.r, .int .i64 b.s] 27)).heap.size := by simp
      clear hal
      go_wp2_with fail
      generalize w4.alloc (.cells #[.int .i64 b.d, .int .i64 b.a, .int .i64 b.r, .int .i64 b.s] 27) = W5 at *
      obtain ⟨BB, hBB⟩ : ∃ BB, BB = w4.heap.size := ⟨_, rfl⟩
      rw [← hBB] at SB HnB HBX hzB hs4
      try rw [← hBB]
      clear hBB
      refine (pick_any R 2 p4 _ (by omega) HV.out.rd (by omega)).mono ?_
      rintro e w6 ⟨y, rfl, hy0, hy1, hr', hg'⟩
      have hs6 := hg'.size
      have HV := Lib.hid (HV.out.picked hg' hr')
      have SB := Lib.hid (SB.out.kept hg' (by simp; have := HBX.out; omega))
      clear hr' hg'
      by_cases hy : y = 0
      case pos =>
        subst hy
        go_wp2_with fail
        refine (pick_any R 7 (p4 + 1) _ (by omega) HV.out.rd (by omega)).mono ?_
        rintro e w7 ⟨x, rfl, hx0, hx1, hr', hg'⟩
        have hsw7 := hg'.size
        have HV := Lib.hid (HV.out.picked hg' hr')
        have SB := Lib.hid (SB.out.kept hg' (by simp; have := HBX.out; omega))
        clear hr' hg'
        have fB := SB.out.frozen 1
        have cB := SB.out.cell 1 (v := .int .i64 (b.a)) rfl
        have HV := Lib.hid (HV.out.cell HBX.out.1 HBX.out.2.1 HnB.out HBX.out.2.2 1 (.int .i64 (x)))
        have SB := Lib.hid (show Str (w7.setCell ⟨BB, 1, none⟩ (.int .i64 (x))) BB 27 #[.int .i64 (b.d), .int .i64 (x), .int .i64 (b.r), .int .i64 (b.s)] from SB.out.set 1 _)
        go_wp2_with fail
        clear fB cB
        generalize w7.setCell ⟨BB, 1, none⟩ (.int .i64 x) = W7 at *
        refine (pick_any R 3 (p4 + 1 + 1) _ (by omega) HV.out.rd (by omega)).mono ?_
        rintro e w8 ⟨z, rfl, hz0, hz1, hr', hg'⟩
        have HV := Lib.hid (HV.out.picked hg' hr')
        have SB := Lib.hid (SB.out.kept hg' (by simp; have := HBX.out; omega))
        clear hr' hg'
        have fB := SB.out.frozen 3
        have cB := SB.out.cell 3 (v := .int .i64 (b.s)) rfl
        have HV := Lib.hid (HV.out.cell HBX.out.1 HBX.out.2.1 HnB.out HBX.out.2.2 3 (.int .i64 (1 + z)))
        have SB := Lib.hid (show Str (w8.setCell ⟨BB, 3, none⟩ (.int .i64 (1 + z))) BB 27 #[.int .i64 (b.d), .int .i64 x, .int .i64 (b.r), .int .i64 (1 + z)] from SB.out.set 3 _)
        skip
        have x0 := HV.out.sx.cell 0 (v := .int .i64 q) rfl
        have x1 := HV.out.sx.cell 1 (v := .slice au l.length cu) rfl
        have b0 := SB.out.cell 0 (v := .int .i64 (b.d)) rfl
        have b1 := SB.out.cell 1 (v := .int .i64 (x)) rfl
        have b2 := SB.out.cell 2 (v := .int .i64 (b.r)) rfl
        have b3 := SB.out.cell 3 (v := .int .i64 (1 + z)) rfl
        obtain ⟨fq, hfq⟩ := HV.out.own.bts
        have HS := Lib.hid (spec_StorePut q l _ fq (b.d) (x) (b.r) (1 + z) (w8.setCell ⟨BB, 3, none⟩ (.int .i64 (1 + z))) (by omega) hfq)
        unfold agB at HS
        clear hfq
        go_wp2_with fail
        refine HS.out.mono ?_
        rintro e w9 ⟨v9, rfl, ho9, hb9⟩
        clear HS x0 x1 b0 b1 b2 b3
        have Hl9 := Lib.hid (puL_len q l ⟨b.d, x, b.r, 1 + z⟩)
        have Hf9 := Lib.hid (fun h => (puL_zero (f := q) (l := l) (b := ⟨b.d, x, b.r, 1 + z⟩) h).2)
        generalize puL q l ⟨b.d, x, b.r, 1 + z⟩ = l9 at *
        generalize puF q l ⟨b.d, x, b.r, 1 + z⟩ = f9 at *
        generalize puC q l ⟨b.d, x, b.r, 1 + z⟩ = c9 at *
        obtain ⟨a9, k9, rfl, _⟩ := ho9.sl
        have hsx9 := HV.out.sx.lt
        have hsr9 := HV.out.sr.lt
        have hs9 := hb9.size
        have HO := Lib.hid (OwnN.mono ho9 (B' := w.heap.size) (by omega))
        have Hn9 := Lib.hid (show ∀ g, (Value.slice a9 l9.length k9).ownBlock = some g → g ≠ X ∧ g ≠ w.heap.size from fun g e => by have := (OwnN.lt ho9 g e).1; omega)
        have HV := Lib.hid (HV.out.below hb9)
        clear ho9 hb9 SB HnB
        have hal : Below w9.heap.size w9 (w9.alloc (.cells #[.int .i64 f9, .slice a9 l9.length k9] 25)) := (Below.refl _ _).alloc (Nat.le_refl _) _
        have SY := Lib.hid (Str.new w9 25 #[.int .i64 f9, .slice a9 l9.length k9])
        have HO := Lib.hid (OwnN.below HO.out hal)
        have HV := Lib.hid (HV.out.below hal)
        clear hal
        by_cases hc9 : c9 = 0
        case neg =>
          have hc9' : (c9 == 0) = false := by rw [beq_eq_false_iff_ne]; exact hc9
          clear Hf9 hc9
          go_wp2
          go_roundw
          case rel => exact ⟨k + 1, p4 + 1 + 1 + 1, _, l, by omega, by go_num, by omega, hl12, HV.out⟩
          case measure => simp [intOf]; omega
        case pos =>
          have hff := (Hf9.out hc9).symm
          subst hff
          have hc9' : (c9 == 0) = true := by rw [beq_iff_eq]; exact hc9
          clear Hf9 hc9
          have y0 := SY.out.cell 0 (v := .int .i64 q) rfl
          have y1 := SY.out.cell 1 (v := .slice a9 l9.length k9) rfl
          have x0 := HV.out.sx.cell 0 (v := .int .i64 q) rfl
          have x1 := HV.out.sx.cell 1 (v := .slice au l.length cu) rfl
          have z0 := HV.out.sx.frozen 0
          have z1 := HV.out.sx.frozen 1
          have HM := Lib.hid (HV.out.move (f2 := q) HO.out Hn9.out)
          go_wp2
          go_roundw
          case rel => exact ⟨k + 1, p4 + 1 + 1 + 1, _, l9, by omega, by go_num, by omega, Hl9.out, HM.out⟩
          case measure => simp [intOf]; omega
      case neg =>
        have hy' : (y == 0) = false := by rw [beq_eq_false_iff_ne]; exact hy
        clear hy
        have x0 := HV.out.sx.cell 0 (v := .int .i64 q) rfl
        have x1 := HV.out.sx.cell 1 (v := .slice au l.length cu) rfl
        have b0 := SB.out.cell 0 (v := .int .i64 (b.d)) rfl
        have b1 := SB.out.cell 1 (v := .int .i64 (b.a)) rfl
        have b2 := SB.out.cell 2 (v := .int .i64 (b.r)) rfl
        have b3 := SB.out.cell 3 (v := .int .i64 (b.s)) rfl
        obtain ⟨fq, hfq⟩ := HV.out.own.bts
        have HS := Lib.hid (spec_StorePut q l _ fq (b.d) (b.a) (b.r) (b.s) w6 (by omega) hfq)
        unfold agB at HS
        clear hfq
        go_wp2_with fail
        refine HS.out.mono ?_
        rintro e w9 ⟨v9, rfl, ho9, hb9⟩
        clear HS x0 x1 b0 b1 b2 b3
        have Hl9 := Lib.hid (puL_len q l ⟨b.d, b.a, b.r, b.s⟩)
        have Hf9 := Lib.hid (fun h => (puL_zero (f := q) (l := l) (b := ⟨b.d, b.a, b.r, b.s⟩) h).2)
        generalize puL q l ⟨b.d, b.a, b.r, b.s⟩ = l9 at *
        generalize puF q l ⟨b.d, b.a, b.r, b.s⟩ = f9 at *
        generalize puC q l ⟨b.d, b.a, b.r, b.s⟩ = c9 at *
        obtain ⟨a9, k9, rfl, _⟩ := ho9.sl
        have hsx9 := HV.out.sx.lt
        have hsr9 := HV.out.sr.lt
        have hs9 := hb9.size
        have HO := Lib.hid (OwnN.mono ho9 (B' := w.heap.size) (by omega))
        have Hn9 := Lib.hid (show ∀ g, (Value.slice a9 l9.length k9).ownBlock = some g → g ≠ X ∧ g ≠ w.heap.size from fun g e => by have := (OwnN.lt ho9 g e).1; omega)
        have HV := Lib.hid (HV.out.below hb9)
        clear ho9 hb9 SB HnB
        have hal : Below w9.heap.size w9 (w9.alloc (.cells #[.int .i64 f9, .slice a9 l9.length k9] 25)) := (Below.refl _ _).alloc (Nat.le_refl _) _
        have SY := Lib.hid (Str.new w9 25 #[.int .i64 f9, .slice a9 l9.length k9])
        have HO := Lib.hid (OwnN.below HO.out hal)
        have HV := Lib.hid (HV.out.below hal)
        clear hal
        by_cases hc9 : c9 = 0
        case neg =>
          have hc9' : (c9 == 0) = false := by rw [beq_eq_false_iff_ne]; exact hc9
          clear Hf9 hc9
          go_wp2
          go_roundw
          case rel => exact ⟨k + 1, p4 + 1, _, l, by omega, by go_num, by omega, hl12, HV.out⟩
          case measure => simp [intOf]; omega
        case pos =>
          have hff := (Hf9.out hc9).symm
          subst hff
          have hc9' : (c9 == 0) = true := by rw [beq_iff_eq]; exact hc9
          clear Hf9 hc9
          have y0 := SY.out.cell 0 (v := .int .i64 q) rfl
          have y1 := SY.out.cell 1 (v := .slice a9 l9.length k9) rfl
          have x0 := HV.out.sx.cell 0 (v := .int .i64 q) rfl
          have x1 := HV.out.sx.cell 1 (v := .slice au l.length cu) rfl
          have z0 := HV.out.sx.frozen 0
          have z1 := HV.out.sx.frozen 1
          have HM := Lib.hid (HV.out.move (f2 := q) HO.out Hn9.out)
          go_wp2
          go_roundw
          case rel => exact ⟨k + 1, p4 + 1, _, l9, by omega, by go_num, by omega, Hl9.out, HM.out⟩
          case measure => simp [intOf]; omega
    case neg =>
      have hlt' : decide ((k : Int) < n) = false := decide_eq_false hlt
      obtain ⟨p9, hp9, hpp9⟩ : ∃ p9, p9 = p' + 1 ∧ p9 ≤ p + 400 := ⟨_, rfl, by omega⟩
      rw [← hp9] at HV
      clear hp9 hlt
      go_wp2_with fail
      refine (pick_any R 16 p9 _ (by omega) HV.out.rd (by omega)).mono ?_
      rintro e w5 ⟨s, rfl, hs0, hs1, hr', hg'⟩
      have HV := Lib.hid (HV.out.picked hg' hr')
      clear hr' hg'
      by_cases s0 : s = 0
      case pos =>
        subst s0
        go_wp2_with fail
        refine (pick_any R 34 (p9 + 1) _ (by omega) HV.out.rd (by omega)).mono ?_
        rintro e w6 ⟨z, rfl, hz0, hz1, hr', hg'⟩
        have hsw6 := hg'.size
        have HV := Lib.hid (HV.out.picked hg' hr')
        clear hr' hg'
        have c0 := HV.out.sx.cell 0 (v := .int .i64 q) rfl
        have z0 := HV.out.sx.frozen 0
        have HV := Lib.hid (HV.out.floor (z - 1))
        have x0 := HV.out.sx.cell 0 (v := .int .i64 (z - 1)) rfl
        have x1 := HV.out.sx.cell 1 (v := .slice au l.length cu) rfl
        have r0 := HV.out.sr.frozen 0
        have r1 := HV.out.sr.frozen 1
        have v0 := HV.out.sr.cell 0 (v := .int .i64 0) rfl
        have v1 := HV.out.sr.cell 1 (v := .slice none 0 0) rfl
        have sF := (HV.out.sr.set 0 (.int .i64 (z - 1))).set 1 (.slice au l.length cu)
        have e0 := sF.cell 0 (v := .int .i64 (z - 1)) rfl
        have e1 := sF.cell 1 (v := .slice au l.length cu) rfl
        clear sF
        go_wp2
        refine bodyPost_ret (v := .agg #[.int .i64 (z - 1), .slice au l.length cu]) (by simp [results, Try.f23, go_sem, e0, e1]) rfl ?_
        exact HV.out.fin rfl (by omega) (by omega) (by omega)
      have s0' : (s == 0) = false := by rw [beq_eq_false_iff_ne]; exact s0
      by_cases s1 : s = 1
      case pos =>
        subst s1
        have c0 := HV.out.sx.cell 0 (v := .int .i64 q) rfl
        have c1 := HV.out.sx.cell 1 (v := .slice au l.length cu) rfl
        go_wp2_with fail
        refine wp_region_L 7 (fun w' => w'.cell? ⟨X, 0, none⟩ = some (.int .i64 q) ∧ w'.cell? ⟨X, 1, none⟩ = some (.slice au l.length cu)) (by kernel_rfl) ⟨c0, c1⟩ (fun hH => ?_)
        have HV := Lib.hid (HV.out.below ((Below.refl _ w5).drew))
        clear c0 c1
        generalize w5.drew = wd at *
        refine takeL 0 (v := ?vrs1) rfl (by kernel_rfl) (by kernel_rfl) (by kernel_rfl) (by kernel_rfl) (by kernel_rfl) (fun _ _ _ h => h) hH rfl ?yrs1 ?rrs1
        case yrs1 => intro W hSw; go_simp; try with_reducible rfl
        try simp only [Act.put, List.setIfInBounds_toArray, List.set_cons_zero, List.set_cons_succ]
        refine takeL 1 (v := ?vrs2) rfl (by kernel_rfl) (by kernel_rfl) (by kernel_rfl) (by kernel_rfl) (by kernel_rfl) (fun _ _ _ h => h) hH rfl ?yrs2 ?rrs2
        case yrs2 => intro W hSw; go_simp; try with_reducible rfl
        try simp only [Act.put, List.setIfInBounds_toArray, List.set_cons_zero, List.set_cons_succ]
        refine takeL 2 (v := ?vrs3) rfl (by kernel_rfl) (by kernel_rfl) (by kernel_rfl) (by kernel_rfl) (by kernel_rfl) (fun _ _ _ h => h) hH rfl ?yrs3 ?rrs3
        case yrs3 => intro W hSw; go_simp; try with_reducible rfl
        try simp only [Act.put, List.setIfInBounds_toArray, List.set_cons_zero, List.set_cons_succ]
        refine callL 3 rfl (by kernel_rfl) rfl (fun K hK => ?_)
        go_simp
        go_at_call 24
        refine (drawBatch R (p9 + 1) _ (by omega) HV.out.rd (by have := HV.out.sr.lt; have := HV.out.hR; omega)).mono ?_
        rintro e wv ⟨b, p2, rfl, _, hr', hp2, hg'⟩
        have HV := Lib.hid (HV.out.picked hg' hr')
        clear hr' hg'
        refine hK.out _ _ ⟨HV.out.sx.cell 0 rfl, HV.out.sx.cell 1 rfl⟩ (fun hH => ?_)
        clear hK K
        try simp only [Act.put, List.setIfInBounds_toArray, List.set_cons_zero, List.set_cons_succ]
        unfold agB
        refine callL 4 rfl (by kernel_rfl) rfl (fun K hK => ?_)
        go_simp
        have hal : Below wv.heap.size wv (wv.alloc (.cells #[.int .i64 b.d, .int .i64 b.a, .int .i64 b.r, .int .i64 b.s] 27)) := (Below.refl _ _).alloc (Nat.le_refl _) _
        have HV := Lib.hid (HV.out.below hal)
        have HS := Lib.hid (srcB_one (Str.new wv 27 #[.int .i64 b.d, .int .i64 b.a, .int .i64 b.r, .int .i64 b.s]))
        clear hal
        refine hK.out _ _ ⟨HV.out.sx.cell 0 rfl, HV.out.sx.cell 1 rfl⟩ (fun hH => ?_)
        clear hK K
        try simp only [Act.put, List.setIfInBounds_toArray, List.set_cons_zero, List.set_cons_succ]
        generalize hwa : (wv.alloc (.cells #[.int .i64 b.d, .int .i64 b.a, .int .i64 b.r, .int .i64 b.s] 27)) = wa at *
        have Hwa := Lib.hid hwa; clear hwa
        refine callL 5 rfl (by kernel_rfl) rfl (fun K hK => ?_)
        refine op_app_B (.tmp 50) (.tmp 53) rfl w.heap.size _ l [(⟨b.d, b.a, b.r, b.s⟩ : Bt)] (some ⟨wv.heap.size, 0, none⟩) 1 rfl HV.out.own rfl (.inr ⟨_, rfl, HS.out⟩) (by simp; omega) (by have := HV.out.sr.lt; omega) ?_
        intro u9 w9 ho9 hg9 hat9
        generalize hgg : l ++ [(⟨b.d, b.a, b.r, b.s⟩ : Bt)] = l9 at ho9
        have hl9 : l9.length ≤ 13 := by rw [← hgg]; simp; omega
        clear hgg
        have hg9 : wa.grownBy w9 (Value.slice au l.length cu).ownBlock := hg9
        have hat9 : ∀ b, u9.ownBlock = some b → (Value.slice au l.length cu).ownBlock = some b ∨ wa.heap.size ≤ b := hat9
        obtain ⟨hput, hst⟩ := HV.out.put ho9 hg9 hat9
        have Hst := Lib.hid hst; have Hput := Lib.hid hput; clear hput hst hg9 hat9
        obtain ⟨a9, c9, rfl, _⟩ := ho9.sl
        have Ho9 := Lib.hid ho9; clear ho9
        refine hK.out _ _ ⟨Hst.out.cell 0 rfl, Hst.out.cell 1 rfl⟩ (fun hH => ?_)
        clear hK K
        try simp only [Act.put, List.setIfInBounds_toArray, List.set_cons_zero, List.set_cons_succ]
        refine takeL 6 (v := ?vrs4) rfl (by kernel_rfl) (by kernel_rfl) (by kernel_rfl) (by kernel_rfl) (by kernel_rfl) (fun _ _ _ h => h) hH rfl ?yrs4 ?rrs4
        case yrs4 => intro W hSw; go_simp; try with_reducible rfl
        try simp only [Act.put, List.setIfInBounds_toArray, List.set_cons_zero, List.set_cons_succ]
        have k0 := Hst.out.frozen 1
        have k1 := Hst.out.cell 1 (v := .slice au l.length cu) rfl
        refine lastL rfl (by kernel_rfl) (by kernel_rfl) (by kernel_rfl) rfl (fun K hK => ?_)
        go_simp
        refine hK.out _ _ ?_
        clear hK K
        try simp only [Act.put]
        clear k0 k1 hH
        have HV := Hput
        generalize (w9.setCell ⟨X, 1, none⟩ (Value.slice a9 l9.length c9)) = wb at *
        have x0 := HV.out.sx.cell 0 (v := .int .i64 q) rfl
        have x1 := HV.out.sx.cell 1 (v := .slice a9 l9.length c9) rfl
        have r0 := HV.out.sr.frozen 0
        have r1 := HV.out.sr.frozen 1
        have v0 := HV.out.sr.cell 0 (v := .int .i64 0) rfl
        have v1 := HV.out.sr.cell 1 (v := .slice none 0 0) rfl
        have sF := (HV.out.sr.set 0 (.int .i64 (q))).set 1 (.slice a9 l9.length c9)
        have e0 := sF.cell 0 (v := .int .i64 (q)) rfl
        have e1 := sF.cell 1 (v := .slice a9 l9.length c9) rfl
        clear sF
        go_wp2
        refine bodyPost_ret (v := .agg #[.int .i64 (q), .slice a9 l9.length c9]) (by simp [results, Try.f23, go_sem, e0, e1]) rfl ?_
        exact HV.out.fin rfl hl9 (by omega) (by omega)
      have s1' : (s == 1) = false := by rw [beq_eq_false_iff_ne]; exact s1
      have x0 := HV.out.sx.cell 0 (v := .int .i64 q) rfl
      have x1 := HV.out.sx.cell 1 (v := .slice au l.length cu) rfl
      by_cases s2 : s = 2 ∧ 0 < l.length
      case neg =>
        by_cases s3 : s = 2
        case pos =>
          have hl0 : ¬ (0 : Int) < (l.length : Int) := by omega
          subst s3
          clear s2
          have r0 := HV.out.sr.frozen 0
          have r1 := HV.out.sr.frozen 1
          have v0 := HV.out.sr.cell 0 (v := .int .i64 0) rfl
          have v1 := HV.out.sr.cell 1 (v := .slice none 0 0) rfl
          have sF := (HV.out.sr.set 0 (.int .i64 (q))).set 1 (.slice au l.length cu)
          have e0 := sF.cell 0 (v := .int .i64 (q)) rfl
          have e1 := sF.cell 1 (v := .slice au l.length cu) rfl
          clear sF
          go_wp2
          refine bodyPost_ret (v := .agg #[.int .i64 (q), .slice au l.length cu]) (by simp [results, Try.f23, go_sem, e0, e1]) rfl ?_
          exact HV.out.fin rfl (by omega) (by omega) (by omega)
        have s3' : (s == 2) = false := by rw [beq_eq_false_iff_ne]; exact s3
        clear s2 s3
        have r0 := HV.out.sr.frozen 0
        have r1 := HV.out.sr.frozen 1
        have v0 := HV.out.sr.cell 0 (v := .int .i64 0) rfl
        have v1 := HV.out.sr.cell 1 (v := .slice none 0 0) rfl
        have sF := (HV.out.sr.set 0 (.int .i64 (q))).set 1 (.slice au l.length cu)
        have e0 := sF.cell 0 (v := .int .i64 (q)) rfl
        have e1 := sF.cell 1 (v := .slice au l.length cu) rfl
        clear sF
        go_wp2
        refine bodyPost_ret (v := .agg #[.int .i64 (q), .slice au l.length cu]) (by simp [results, Try.f23, go_sem, e0, e1]) rfl ?_
        exact HV.out.fin rfl (by omega) (by omega) (by omega)
      obtain ⟨rfl, hl0⟩ := s2
      have hl0' : (0 : Int) < (l.length : Int) := by omega
      obtain ⟨gb, rfl, hgX⟩ : ∃ gb, au = some ⟨gb, 0, none⟩ ∧ gb ≠ X := by
        have h1 := HV.out.own.row
        rcases h1.2 with ⟨h, h0⟩ | ⟨g, cap, cur, h, _⟩
        · rw [List.length_map] at h0; omega
        · injection h with h1 _ _; subst h1; exact ⟨g, rfl, (HV.out.nx g rfl).1⟩
      go_wp2_with fail
      refine wp_region_L 11 (fun w' => w'.cell? ⟨X, 0, none⟩ = some (.int .i64 q) ∧ w'.cell? ⟨X, 1, none⟩ = some (.slice (some ⟨gb, 0, none⟩) l.length cu)) (by kernel_rfl) ⟨x0, x1⟩ (fun hH => ?_)
      have HV := Lib.hid (HV.out.below ((Below.refl _ w5).drew))
      clear x0 x1
      generalize w5.drew = wd at *
      refine takeL 0 (v := ?vrz1) rfl (by kernel_rfl) (by kernel_rfl) (by kernel_rfl) (by kernel_rfl) (by kernel_rfl) (fun _ _ _ h => h) hH rfl ?yrz1 ?rrz1
      case yrz1 => intro W hSw; go_simp; try with_reducible rfl
      try simp only [Act.put, List.setIfInBounds_toArray, List.set_cons_zero, List.set_cons_succ]
      refine takeL 1 (v := ?vrz2) rfl (by kernel_rfl) (by kernel_rfl) (by kernel_rfl) (by kernel_rfl) (by kernel_rfl) (fun _ _ _ h => h) hH rfl ?yrz2 ?rrz2
      case yrz2 => intro W hSw; go_simp; try with_reducible rfl
      try simp only [Act.put, List.setIfInBounds_toArray, List.set_cons_zero, List.set_cons_succ]
      refine takeL 2 (v := ?vrz3) rfl (by kernel_rfl) (by kernel_rfl) (by kernel_rfl) (by kernel_rfl) (by kernel_rfl) (fun _ _ _ h => h) hH rfl ?yrz3 ?rrz3
      case yrz3 => intro W hSw; go_simp; try with_reducible rfl
      try simp only [Act.put, List.setIfInBounds_toArray, List.set_cons_zero, List.set_cons_succ]
      refine takeL 3 (v := ?vrz4) rfl (by kernel_rfl) (by kernel_rfl) (by kernel_rfl) (by kernel_rfl) (by kernel_rfl) (fun _ _ _ h => h) hH rfl ?yrz4 ?rrz4
      case yrz4 => intro W hSw; go_simp; try with_reducible rfl
      try simp only [Act.put, List.setIfInBounds_toArray, List.set_cons_zero, List.set_cons_succ]
      refine takeL 4 (v := ?vrz5) rfl (by kernel_rfl) (by kernel_rfl) (by kernel_rfl) (by kernel_rfl) (by kernel_rfl) (fun _ _ _ h => h) hH rfl ?yrz5 ?rrz5
      case yrz5 => intro W hSw; go_simp; try with_reducible rfl
      try simp only [Act.put, List.setIfInBounds_toArray, List.set_cons_zero, List.set_cons_succ]
      refine takeL 5 (v := ?vrz6) rfl (by kernel_rfl) (by kernel_rfl) (by kernel_rfl) (by kernel_rfl) (by kernel_rfl) (fun _ _ _ h => h) hH rfl ?yrz6 ?rrz6
      case yrz6 => intro W hSw; go_simp; try with_reducible rfl
      try simp only [Act.put, List.setIfInBounds_toArray, List.set_cons_zero, List.set_cons_succ]
      refine takeL 7 (v := ?vrz7) rfl (by kernel_rfl) (by kernel_rfl) (by kernel_rfl) (by kernel_rfl) (by kernel_rfl) (fun _ _ _ h => h) hH rfl ?yrz7 ?rrz7
      case yrz7 => intro W hSw; go_simp; try with_reducible rfl
      try simp only [Act.put, List.setIfInBounds_toArray, List.set_cons_zero, List.set_cons_succ]
      refine callL 6 rfl (by kernel_rfl) rfl (fun K hK => ?_)
      go_simp
      go_at_call 34
      refine (pick_any R _ (p9 + 1) _ (by omega) HV.out.rd (by omega)).mono ?_
      rintro e w7 ⟨j, rfl, hj0, hj1, hr', hg'⟩
      have HV := Lib.hid (HV.out.picked hg' hr')
      clear hr' hg'
      refine hK.out _ _ ⟨HV.out.sx.cell 0 rfl, HV.out.sx.cell 1 rfl⟩ (fun hH => ?_)
      clear hK K
      try simp only [Act.put, List.setIfInBounds_toArray, List.set_cons_zero, List.set_cons_succ]
      obtain ⟨j, rfl⟩ := Int.eq_ofNat_of_zero_le hj0
      have hjl : j < l.length := by omega
      have hjl' : (j : Int) < (l.length : Int) := by omega
      clear hj0 hj1
      refine callL 8 rfl (by kernel_rfl) rfl (fun K hK => ?_)
      go_simp
      go_at_call 34
      refine (pick_any R 15 (p9 + 1 + 1) _ (by omega) HV.out.rd (by omega)).mono ?_
      rintro e w8 ⟨z, rfl, hz0, hz1, hr', hg'⟩
      have HV := Lib.hid (HV.out.picked hg' hr')
      clear hr' hg'
      refine hK.out _ _ ⟨HV.out.sx.cell 0 rfl, HV.out.sx.cell 1 rfl⟩ (fun hH => ?_)
      clear hK K
      try simp only [Act.put, List.setIfInBounds_toArray, List.set_cons_zero, List.set_cons_succ]
      refine callL 9 rfl (by kernel_rfl) rfl (fun K hK => ?_)
      go_simp
      refine hK.out _ _ hH (fun hH => ?_)
      clear hK K
      try simp only [Act.put, List.setIfInBounds_toArray, List.set_cons_zero, List.set_cons_succ]
      refine callL 10 rfl (by kernel_rfl) rfl (fun K hK => ?_)
      go_simp
      refine hK.out _ _ hH (fun hH => ?_)
      clear hK K
      try simp only [Act.put, List.setIfInBounds_toArray, List.set_cons_zero, List.set_cons_succ]
      have hjm : j < (l.map btN).length := by rw [List.length_map]; exact hjl
      obtain ⟨hc, hfz⟩ := HV.out.own.cell (k := j) (j := 3) hjm (by omega)
      have hrw : (rwN (l.map btN)[j])[3]? = some (.int .i64 l[j].s) := by rw [List.getElem_map]; rfl
      rw [hrw] at hc
      clear hrw hjm
      refine lastL rfl (by kernel_rfl) (by kernel_rfl) (by kernel_rfl) rfl (fun K hK => ?_)
      go_simp
      refine hK.out _ _ ?_
      clear hK K
      try simp only [Act.put]
      clear hH hc hfz
      have HV := Lib.hid (HV.out.size rfl hjl z)
      have hls : (l.set j ⟨l[j].d, l[j].a, l[j].r, z⟩).length ≤ 13 := by rw [List.length_set]; omega
      generalize l.set j ⟨l[j].d, l[j].a, l[j].r, z⟩ = l9 at *
      generalize w8.setCell ⟨gb, j * 4 + 3, none⟩ (.int .i64 z) = wb at *
      have x0 := HV.out.sx.cell 0 (v := .int .i64 q) rfl
      have x1 := HV.out.sx.cell 1 (v := .slice (some ⟨gb, 0, none⟩) l.length cu) rfl
      have r0 := HV.out.sr.frozen 0
      have r1 := HV.out.sr.frozen 1
      have v0 := HV.out.sr.cell 0 (v := .int .i64 0) rfl
      have v1 := HV.out.sr.cell 1 (v := .slice none 0 0) rfl
      have sF := (HV.out.sr.set 0 (.int .i64 (q))).set 1 (.slice (some ⟨gb, 0, none⟩) l.length cu)
      have e0 := sF.cell 0 (v := .int .i64 (q)) rfl
      have e1 := sF.cell 1 (v := .slice (some ⟨gb, 0, none⟩) l.length cu) rfl
      clear sF
      go_wp2
      refine bodyPost_ret (v := .agg #[.int .i64 (q), .slice (some ⟨gb, 0, none⟩) l.length cu]) (by simp [results, Try.f23, go_sem, e0, e1]) rfl ?_
      exact HV.out.fin rfl hls (by omega) (by omega)

end Go.Proofs.Ythojbcecbeapgaa

/- The draws of a store with a batch, an author, a digest or a floor, each by a walk of its text; condition: the code has at most 2^40 bytes. -/
namespace Go.Proofs.Ythojbcecbeapgaa
open Go.RowKit

/-- What is drawn: a store and a batch. -/
def SbD (E : TypeId) (w : World) (e : Ending) (w' : World) : Prop := ∃ (f : Int) (l : List Bt) (u : Value) (b : Bt), e = .returned (.tuple #[.agg #[.int .i64 f, u], agB b]) ∧ OwnB E w' w.heap.size u l ∧ l.length ≤ 13 ∧ Below w.heap.size w w'
/-- What is drawn: a store and a number. -/
def SnD (E : TypeId) (w : World) (e : Ending) (w' : World) : Prop := ∃ (f : Int) (l : List Bt) (u : Value) (n : Int), e = .returned (.tuple #[.agg #[.int .i64 f, u], .int .i64 n]) ∧ OwnB E w' w.heap.size u l ∧ l.length ≤ 13 ∧ Below w.heap.size w w'
theorem SbD.mk {E : TypeId} {w w' : World} {e : Ending} (f : Int) (l : List Bt) (u : Value) (b : Bt) (h : e = .returned (.tuple #[.agg #[.int .i64 f, u], agB b])) (ho : OwnB E w' w.heap.size u l) (hl : l.length ≤ 13) (hb : Below w.heap.size w w') : SbD E w e w' := ⟨f, l, u, b, h, ho, hl, hb⟩
theorem SnD.mk {E : TypeId} {w w' : World} {e : Ending} (f : Int) (l : List Bt) (u : Value) (n : Int) (h : e = .returned (.tuple #[.agg #[.int .i64 f, u], .int .i64 n])) (ho : OwnB E w' w.heap.size u l) (hl : l.length ≤ 13) (hb : Below w.heap.size w w') : SnD E w e w' := ⟨f, l, u, n, h, ho, hl, hb⟩
/-- While it is drawn: A the answer's store, X the store, R the reader. -/
structure Sdw (R : Nat) (w : World) (A X : Nat) (f : Int) (p : Nat) (W : World) (u : Value) (l : List Bt) : Prop where
  sa : Str W A 25 #[.int .i64 0, .slice none 0 0]
  sx : Str W X 25 #[.int .i64 f, u]
  own : OwnB 27 W w.heap.size u l
  nx : ∀ g, u.ownBlock = some g → R < g ∧ g ≠ X
  rd : Rdr W R p
  bel : Below w.heap.size w W
  ds : w.heap.size ≤ A ∧ A < R ∧ R < X
section
variable {R : Nat} {w : World} {A X : Nat} {f : Int} {p : Nat} {W W' : World} {u : Value} {l : List Bt}
theorem Sdw.picked (h : Sdw R w A X f p W u l) {p2 : Nat} (hg : W.grownBy W' (some R)) (hr : Rdr W' R p2) : Sdw R w A X f p2 W' u l := by
  obtain ⟨d1, d2, d3⟩ := h.ds
  exact ⟨h.sa.kept hg (by simp; omega), h.sx.kept hg (by simp; omega), OwnN.kept h.own hg (fun g e e2 => by have := (h.nx g e).1; injection e2 with e2; omega), h.nx, hr, h.bel.grown hg h.bel.size (fun g e => by cases e; omega), h.ds⟩
theorem Sdw.drew (h : Sdw R w A X f p W u l) : Sdw R w A X f p W.drew u l := ⟨h.sa, h.sx, OwnN.below h.own (Below.refl _ _).drew, h.nx, h.rd.drewN 1, h.bel.drew, h.ds⟩
/-- The answer's store is set. -/
theorem Sdw.res (h : Sdw R w A X f p W u l) : Str ((W.setCell ⟨A, 0, none⟩ (.int .i64 f)).setCell ⟨A, 1, none⟩ u) A 25 #[.int .i64 f, u] ∧ Str ((W.setCell ⟨A, 0, none⟩ (.int .i64 f)).setCell ⟨A, 1, none⟩ u) X 25 #[.int .i64 f, u] ∧
    OwnB 27 ((W.setCell ⟨A, 0, none⟩ (.int .i64 f)).setCell ⟨A, 1, none⟩ u) w.heap.size u l ∧ Below w.heap.size w ((W.setCell ⟨A, 0, none⟩ (.int .i64 f)).setCell ⟨A, 1, none⟩ u) := by
  obtain ⟨d1, d2, d3⟩ := h.ds
  have n : ∀ g, u.ownBlock = some g → g ≠ A := fun g e => by have := (h.nx g e).1; omega
  exact ⟨(h.sa.set 0 _).set 1 _, (h.sx.other (by omega) _ _).other (by omega) _ _, OwnB.setc (OwnB.setc h.own n _ _) n _ _, (h.bel.setCell (p := ⟨A, 0, none⟩) (by simp only; omega) _).setCell (p := ⟨A, 1, none⟩) (by simp only; omega) _⟩
end

set_option maxHeartbeats 2000000 in
theorem spec_DrawStorePut (a : Option Addr) (cap : Nat) (zs : List Int) (w : World) (h : CodeAt w a cap zs) :
    Calls Try.prog 10 #[.slice a zs.length cap] w (SbD 27 w) := by
  have hb0 : Below w.heap.size w ((w.alloc (.cells #[.int .i64 0, .slice none 0 0] 25)).alloc (.cells #[.int .i64 0, .int .i64 0, .int .i64 0, .int .i64 0] 27)) := ((Below.refl _ _).alloc (Nat.le_refl _) _).alloc (by simp) _
  have sa := (Str.new w 25 #[.int .i64 0, .slice none 0 0]).alloc (.cells #[.int .i64 0, .int .i64 0, .int .i64 0, .int .i64 0] 27)
  have sb := Str.new (w.alloc (.cells #[.int .i64 0, .slice none 0 0] 25)) 27 #[.int .i64 0, .int .i64 0, .int .i64 0, .int .i64 0]
  simp only [World.size_alloc] at sb
  have SB := Lib.hid sb
  have hz0 : ((w.alloc (.cells #[.int .i64 0, .slice none 0 0] 25)).alloc (.cells #[.int .i64 0, .int .i64 0, .int .i64 0, .int .i64 0] 27)).heap.size = w.heap.size + 2 := by simp
  have Hz0 := Lib.hid hz0; clear hz0
  have Hb0 := Lib.hid hb0
  have SA := Lib.hid sa
  have hcode : CodeAt ((w.alloc (.cells #[.int .i64 0, .slice none 0 0] 25)).alloc (.cells #[.int .i64 0, .int .i64 0, .int .i64 0, .int .i64 0] 27)) a cap zs := h.below hb0
  have Hc := Lib.hid hcode
  clear hb0 sa hcode h sb
  go_enter Try.func10, Try.ntmps10
  go_wp2_with fail
  generalize ((w.alloc (.cells #[.int .i64 0, .slice none 0 0] 25)).alloc (.cells #[.int .i64 0, .int .i64 0, .int .i64 0, .int .i64 0] 27)) = W0 at *
  refine (open_any a cap zs _ Hc.out).mono ?_
  rintro e w1 ⟨R, rfl, hR1, hR2, hr1, hb1⟩
  have hRs : w.heap.size + 2 ≤ R := by have := Hz0.out; omega
  have hz1 := hb1.size
  have SA := Lib.hid (show Str w1 w.heap.size 25 #[.int .i64 0, .slice none 0 0] from (hb1.block _ SA.out.lt).trans SA.out)
  have SB := Lib.hid (show Str w1 (w.heap.size + 1) 27 #[.int .i64 0, .int .i64 0, .int .i64 0, .int .i64 0] from (hb1.block _ SB.out.lt).trans SB.out)
  have Hb1 := Lib.hid (below_step Hb0.out Hb0.out.size hb1)
  have Hr1 := Lib.hid hr1
  clear hb1 hr1
  go_wp2_with fail
  refine (drawStore R 0 _ (by omega) Hr1.out hR2).mono ?_
  rintro e w2 ⟨f, l, u, p2, rfl, ho, hl13, hf, hr2, hp2, hg2⟩
  have hs2 := hg2.size
  obtain ⟨au, cu, rfl, _⟩ := ho.sl
  have hal : Below w2.heap.size w2 (w2.alloc (.cells #[.int .i64 f, .slice au l.length cu] 25)) := (Below.refl _ _).alloc (Nat.le_refl _) _
  have HV := Lib.hid (show Sdw R w w.heap.size w2.heap.size f p2 (w2.alloc (.cells #[.int .i64 f, .slice au l.length cu] 25)) (.slice au l.length cu) l from ⟨(SA.out.kept hg2 (by simp; omega)).alloc _, Str.new w2 25 _, OwnN.mono (OwnN.below ho hal) (by omega), (fun g e => by have := OwnN.lt ho g e; omega), hr2.alloc _, (Hb1.out.grown hg2 Hb1.out.size (fun g e => by cases e; omega)).alloc (by omega) _, by omega⟩)
  have SB := Lib.hid (show Str (w2.alloc (.cells #[.int .i64 f, .slice au l.length cu] 25)) (w.heap.size + 1) 27 #[.int .i64 0, .int .i64 0, .int .i64 0, .int .i64 0] from (SB.out.kept hg2 (by simp; omega)).alloc _)
  have hXs : w2.heap.size < (w2.alloc (.cells #[.int .i64 f, .slice au l.length cu] 25)).heap.size := by simp
  clear hal ho hr2 hg2 SA Hb0 Hb1 Hr1
  have x0 := HV.out.sx.cell 0 (v := .int .i64 f) rfl
  have x1 := HV.out.sx.cell 1 (v := .slice au l.length cu) rfl
  go_wp2_with fail
  generalize (w2.alloc (.cells #[.int .i64 f, .slice au l.length cu] 25)) = w3 at *
  generalize w2.heap.size = X at *
  have hXR : R < X := by omega
  refine wp_region_held_drew (S := fun W => W.cell? ⟨X, 0, none⟩ = some (.int .i64 f) ∧ W.cell? ⟨X, 1, none⟩ = some (.slice au l.length cu)) (by kernel_rfl) ⟨x0, x1⟩ (fun hH => ?_)
  have HV := Lib.hid HV.out.drew
  have hXs : X < w3.drew.heap.size := hXs
  have SB := Lib.hid (show Str w3.drew (w.heap.size + 1) 27 #[.int .i64 0, .int .i64 0, .int .i64 0, .int .i64 0] from SB.out)
  clear x0 x1
  generalize w3.drew = wd at *
  refine takeH 0 (v := ?vpa1) rfl (by kernel_rfl) (by kernel_rfl) (by kernel_rfl) (fun _ _ _ h => h) hH rfl ?ypa1 ?rpa1
  case ypa1 => intro W hSw; go_simp; try with_reducible rfl
  try simp only [Act.put, List.setIfInBounds_toArray, List.set_cons_zero, List.set_cons_succ]
  refine takeH 1 (v := ?vpa2) rfl (by kernel_rfl) (by kernel_rfl) (by kernel_rfl) (fun _ _ _ h => h) hH rfl ?ypa2 ?rpa2
  case ypa2 => intro W hSw; go_simp; try with_reducible rfl
  try simp only [Act.put, List.setIfInBounds_toArray, List.set_cons_zero, List.set_cons_succ]
  refine callH 2 rfl (by kernel_rfl) rfl (fun K hK => ?_)
  go_simp
  go_at_call 24
  refine (drawBatch R p2 _ (by omega) HV.out.rd (by have := HV.out.sx.lt; omega)).mono ?_
  rintro e w4 ⟨b, p4, rfl, _, hr', hp4, hg'⟩
  have HV := Lib.hid (HV.out.picked hg' hr')
  have SB := Lib.hid (SB.out.kept hg' (by simp; omega))
  clear hr' hg'
  refine hK.out _ _ ⟨HV.out.sx.cell 0 rfl, HV.out.sx.cell 1 rfl⟩ (fun hH => ?_)
  clear hK K
  try simp only [Act.put, List.setIfInBounds_toArray, List.set_cons_zero, List.set_cons_succ]
  obtain ⟨sa9, sx9, ho9, hb9⟩ := HV.out.res
  have Hsa := Lib.hid sa9; have Hsx := Lib.hid sx9; have Ho9 := Lib.hid ho9; have Hb9 := Lib.hid hb9
  clear sa9 sx9 ho9 hb9
  refine callH 3 rfl (by kernel_rfl) rfl (fun K hK => ?_)
  have y0 := HV.out.sa.frozen 0
  have y1 := HV.out.sa.frozen 1
  have a0 := HV.out.sa.cell 0 (v := .int .i64 0) rfl
  have a1 := HV.out.sa.cell 1 (v := .slice none 0 0) rfl
  go_simp
  clear y0 y1 a0 a1
  refine hK.out _ _ ⟨Hsx.out.cell 0 rfl, Hsx.out.cell 1 rfl⟩ (fun hH => ?_)
  clear hK K
  try simp only [Act.put, List.setIfInBounds_toArray, List.set_cons_zero, List.set_cons_succ]
  have SB := Lib.hid ((SB.out.other (B' := w.heap.size) (by omega) 0 (.int .i64 f)).other (B' := w.heap.size) (by omega) 1 (.slice au l.length cu))
  have Hne9 := Lib.hid (show ∀ g, (Value.slice au l.length cu).ownBlock = some g → g ≠ w.heap.size + 1 from fun g e => by have := (HV.out.nx g e).1; omega)
  generalize ((w4.setCell ⟨w.heap.size, 0, none⟩ (.int .i64 f)).setCell ⟨w.heap.size, 1, none⟩ (.slice au l.length cu)) = we at *
  have SB0 := SB
  have Hsa := Lib.hid (Str.other (B' := w.heap.size + 1) (Str.other (B' := w.heap.size + 1) (Str.other (B' := w.heap.size + 1) (Str.other (B' := w.heap.size + 1) Hsa.out (by omega) 0 (.int .i64 b.d)) (by omega) 1 (.int .i64 b.a)) (by omega) 2 (.int .i64 b.r)) (by omega) 3 (.int .i64 b.s))
  have Hsx := Lib.hid (Str.other (B' := w.heap.size + 1) (Str.other (B' := w.heap.size + 1) (Str.other (B' := w.heap.size + 1) (Str.other (B' := w.heap.size + 1) Hsx.out (by omega) 0 (.int .i64 b.d)) (by omega) 1 (.int .i64 b.a)) (by omega) 2 (.int .i64 b.r)) (by omega) 3 (.int .i64 b.s))
  have Ho9 := Lib.hid (OwnB.setc (OwnB.setc (OwnB.setc (OwnB.setc Ho9.out Hne9.out 0 (.int .i64 b.d)) Hne9.out 1 (.int .i64 b.a)) Hne9.out 2 (.int .i64 b.r)) Hne9.out 3 (.int .i64 b.s))
  have Hb9 := Lib.hid ((((Hb9.out.setCell (p := ⟨w.heap.size + 1, 0, none⟩) (by simp) (.int .i64 b.d)).setCell (p := ⟨w.heap.size + 1, 1, none⟩) (by simp) (.int .i64 b.a)).setCell (p := ⟨w.heap.size + 1, 2, none⟩) (by simp) (.int .i64 b.r)).setCell (p := ⟨w.heap.size + 1, 3, none⟩) (by simp) (.int .i64 b.s))
  have SB := Lib.hid ((((SB0.out.set 0 (.int .i64 b.d)).set 1 (.int .i64 b.a)).set 2 (.int .i64 b.r)).set 3 (.int .i64 b.s))
  unfold agB
  refine callH 4 rfl (by kernel_rfl) rfl (fun K hK => ?_)
  have y0 := SB0.out.frozen 0
  have y1 := SB0.out.frozen 1
  have y2 := SB0.out.frozen 2
  have y3 := SB0.out.frozen 3
  have a0 := SB0.out.cell 0 (v := .int .i64 0) rfl
  have a1 := SB0.out.cell 1 (v := .int .i64 0) rfl
  have a2 := SB0.out.cell 2 (v := .int .i64 0) rfl
  have a3 := SB0.out.cell 3 (v := .int .i64 0) rfl
  go_simp
  clear y0 a0 y1 a1 y2 a2 y3 a3
  refine hK.out _ _ ⟨Hsx.out.cell 0 rfl, Hsx.out.cell 1 rfl⟩ (fun hH => ?_)
  clear hK K
  try simp only [Act.put, List.setIfInBounds_toArray, List.set_cons_zero, List.set_cons_succ]
  generalize ((((we.setCell ⟨w.heap.size + 1, 0, none⟩ (.int .i64 b.d)).setCell ⟨w.heap.size + 1, 1, none⟩ (.int .i64 b.a)).setCell ⟨w.heap.size + 1, 2, none⟩ (.int .i64 b.r)).setCell ⟨w.heap.size + 1, 3, none⟩ (.int .i64 b.s)) = wf at *
  refine wpAnyH_done (by kernel_rfl) ?_ _
  try simp only [Act.put]
  clear hH SB0
  have e0 := Hsa.out.cell 0 (v := .int .i64 f) rfl
  have e1 := Hsa.out.cell 1 (v := .slice au l.length cu) rfl
  have g0 := SB.out.cell 0 (v := .int .i64 b.d) rfl
  have g1 := SB.out.cell 1 (v := .int .i64 b.a) rfl
  have g2 := SB.out.cell 2 (v := .int .i64 b.r) rfl
  have g3 := SB.out.cell 3 (v := .int .i64 b.s) rfl
  go_wp2
  refine bodyPost_ret (v := .tuple #[.agg #[.int .i64 f, .slice au l.length cu], .agg #[.int .i64 b.d, .int .i64 b.a, .int .i64 b.r, .int .i64 b.s]]) (by simp [results, Try.f10, go_sem, e0, e1, g0, g1, g2, g3]) rfl ?_
  exact SbD.mk f l _ b rfl Ho9.out hl13 Hb9.out

set_option maxHeartbeats 2000000 in
theorem spec_DrawStoreUsed (a : Option Addr) (cap : Nat) (zs : List Int) (w : World) (h : CodeAt w a cap zs) :
    Calls Try.prog 17 #[.slice a zs.length cap] w (SnD 27 w) := by
  have hb0 : Below w.heap.size w (w.alloc (.cells #[.int .i64 0, .slice none 0 0] 25)) := (Below.refl _ _).alloc (Nat.le_refl _) _
  have sa := Str.new w 25 #[.int .i64 0, .slice none 0 0]
  have hz0 : (w.alloc (.cells #[.int .i64 0, .slice none 0 0] 25)).heap.size = w.heap.size + 1 := by simp
  have Hz0 := Lib.hid hz0; clear hz0
  have Hb0 := Lib.hid hb0
  have SA := Lib.hid sa
  have hcode : CodeAt (w.alloc (.cells #[.int .i64 0, .slice none 0 0] 25)) a cap zs := h.below hb0
  have Hc := Lib.hid hcode
  clear hb0 sa hcode h
  go_enter Try.func17, Try.ntmps17
  go_wp2_with fail
  generalize (w.alloc (.cells #[.int .i64 0, .slice none 0 0] 25)) = W0 at *
  refine (open_any a cap zs _ Hc.out).mono ?_
  rintro e w1 ⟨R, rfl, hR1, hR2, hr1, hb1⟩
  have hRs : w.heap.size + 1 ≤ R := by have := Hz0.out; omega
  have hz1 := hb1.size
  have SA := Lib.hid (show Str w1 w.heap.size 25 #[.int .i64 0, .slice none 0 0] from (hb1.block _ SA.out.lt).trans SA.out)
  have Hb1 := Lib.hid (below_step Hb0.out Hb0.out.size hb1)
  have Hr1 := Lib.hid hr1
  clear hb1 hr1
  go_wp2_with fail
  refine (drawStore R 0 _ (by omega) Hr1.out hR2).mono ?_
  rintro e w2 ⟨f, l, u, p2, rfl, ho, hl13, hf, hr2, hp2, hg2⟩
  have hs2 := hg2.size
  obtain ⟨au, cu, rfl, _⟩ := ho.sl
  have hal : Below w2.heap.size w2 (w2.alloc (.cells #[.int .i64 f, .slice au l.length cu] 25)) := (Below.refl _ _).alloc (Nat.le_refl _) _
  have HV := Lib.hid (show Sdw R w w.heap.size w2.heap.size f p2 (w2.alloc (.cells #[.int .i64 f, .slice au l.length cu] 25)) (.slice au l.length cu) l from ⟨(SA.out.kept hg2 (by simp; omega)).alloc _, Str.new w2 25 _, OwnN.mono (OwnN.below ho hal) (by omega), (fun g e => by have := OwnN.lt ho g e; omega), hr2.alloc _, (Hb1.out.grown hg2 Hb1.out.size (fun g e => by cases e; omega)).alloc (by omega) _, by omega⟩)
  have hXs : w2.heap.size < (w2.alloc (.cells #[.int .i64 f, .slice au l.length cu] 25)).heap.size := by simp
  clear hal ho hr2 hg2 SA Hb0 Hb1 Hr1
  have x0 := HV.out.sx.cell 0 (v := .int .i64 f) rfl
  have x1 := HV.out.sx.cell 1 (v := .slice au l.length cu) rfl
  go_wp2_with fail
  generalize (w2.alloc (.cells #[.int .i64 f, .slice au l.length cu] 25)) = w3 at *
  generalize w2.heap.size = X at *
  have hXR : R < X := by omega
  refine wp_region_held_drew (S := fun W => W.cell? ⟨X, 0, none⟩ = some (.int .i64 f) ∧ W.cell? ⟨X, 1, none⟩ = some (.slice au l.length cu)) (by kernel_rfl) ⟨x0, x1⟩ (fun hH => ?_)
  have HV := Lib.hid HV.out.drew
  have hXs : X < w3.drew.heap.size := hXs
  skip
  clear x0 x1
  generalize w3.drew = wd at *
  refine takeH 0 (v := ?vua1) rfl (by kernel_rfl) (by kernel_rfl) (by kernel_rfl) (fun _ _ _ h => h) hH rfl ?yua1 ?rua1
  case yua1 => intro W hSw; go_simp; try with_reducible rfl
  try simp only [Act.put, List.setIfInBounds_toArray, List.set_cons_zero, List.set_cons_succ]
  refine takeH 1 (v := ?vua2) rfl (by kernel_rfl) (by kernel_rfl) (by kernel_rfl) (fun _ _ _ h => h) hH rfl ?yua2 ?rua2
  case yua2 => intro W hSw; go_simp; try with_reducible rfl
  try simp only [Act.put, List.setIfInBounds_toArray, List.set_cons_zero, List.set_cons_succ]
  refine callH 2 rfl (by kernel_rfl) rfl (fun K hK => ?_)
  go_simp
  go_at_call 34
  refine (pick_any R 9 (p2) _ (by omega) HV.out.rd (by omega)).mono ?_
  rintro e w4 ⟨n, rfl, hn0, hn1, hr', hg'⟩
  have hsw4 := hg'.size
  have HV := Lib.hid (HV.out.picked hg' hr')
  refine hK.out _ _ ⟨HV.out.sx.cell 0 rfl, HV.out.sx.cell 1 rfl⟩ (fun hH => ?_)
  clear hK K
  try simp only [Act.put, List.setIfInBounds_toArray, List.set_cons_zero, List.set_cons_succ]
  clear hr' hg'
  refine takeH 3 (v := ?vua3) rfl (by kernel_rfl) (by kernel_rfl) (by kernel_rfl) (fun _ _ _ h => h) hH rfl ?yua3 ?rua3
  case yua3 => intro W hSw; go_simp; try with_reducible rfl
  try simp only [Act.put, List.setIfInBounds_toArray, List.set_cons_zero, List.set_cons_succ]
  obtain ⟨sa9, sx9, ho9, hb9⟩ := HV.out.res
  have Hsa := Lib.hid sa9; have Hsx := Lib.hid sx9; have Ho9 := Lib.hid ho9; have Hb9 := Lib.hid hb9
  clear sa9 sx9 ho9 hb9
  refine callH 4 rfl (by kernel_rfl) rfl (fun K hK => ?_)
  have y0 := HV.out.sa.frozen 0
  have y1 := HV.out.sa.frozen 1
  have a0 := HV.out.sa.cell 0 (v := .int .i64 0) rfl
  have a1 := HV.out.sa.cell 1 (v := .slice none 0 0) rfl
  go_simp
  clear y0 y1 a0 a1
  refine hK.out _ _ ⟨Hsx.out.cell 0 rfl, Hsx.out.cell 1 rfl⟩ (fun hH => ?_)
  clear hK K
  try simp only [Act.put, List.setIfInBounds_toArray, List.set_cons_zero, List.set_cons_succ]
  generalize ((w4.setCell ⟨w.heap.size, 0, none⟩ (.int .i64 f)).setCell ⟨w.heap.size, 1, none⟩ (.slice au l.length cu)) = we at *
  refine takeH 5 (v := ?vua4) rfl (by kernel_rfl) (by kernel_rfl) (by kernel_rfl) (fun _ _ _ h => h) hH rfl ?yua4 ?rua4
  case yua4 => intro W hSw; go_simp; try with_reducible rfl
  try simp only [Act.put, List.setIfInBounds_toArray, List.set_cons_zero, List.set_cons_succ]
  refine wpAnyH_done (by kernel_rfl) ?_ _
  try simp only [Act.put]
  clear hH
  have e0 := Hsa.out.cell 0 (v := .int .i64 f) rfl
  have e1 := Hsa.out.cell 1 (v := .slice au l.length cu) rfl
  go_wp2
  refine bodyPost_ret (v := .tuple #[.agg #[.int .i64 f, .slice au l.length cu], .int .i64 (IntKind.i64.wrap (n - 1))]) (by simp [results, Try.f17, go_sem, e0, e1]) rfl ?_
  exact SnD.mk f l _ (IntKind.i64.wrap (n - 1)) rfl Ho9.out hl13 Hb9.out

set_option maxHeartbeats 2000000 in
theorem spec_DrawStoreForget (a : Option Addr) (cap : Nat) (zs : List Int) (w : World) (h : CodeAt w a cap zs) :
    Calls Try.prog 19 #[.slice a zs.length cap] w (SnD 27 w) := by
  have hb0 : Below w.heap.size w (w.alloc (.cells #[.int .i64 0, .slice none 0 0] 25)) := (Below.refl _ _).alloc (Nat.le_refl _) _
  have sa := Str.new w 25 #[.int .i64 0, .slice none 0 0]
  have hz0 : (w.alloc (.cells #[.int .i64 0, .slice none 0 0] 25)).heap.size = w.heap.size + 1 := by simp
  have Hz0 := Lib.hid hz0; clear hz0
  have Hb0 := Lib.hid hb0
  have SA := Lib.hid sa
  have hcode : CodeAt (w.alloc (.cells #[.int .i64 0, .slice none 0 0] 25)) a cap zs := h.below hb0
  have Hc := Lib.hid hcode
  clear hb0 sa hcode h
  go_enter Try.func19, Try.ntmps19
  go_wp2_with fail
  generalize (w.alloc (.cells #[.int .i64 0, .slice none 0 0] 25)) = W0 at *
  refine (open_any a cap zs _ Hc.out).mono ?_
  rintro e w1 ⟨R, rfl, hR1, hR2, hr1, hb1⟩
  have hRs : w.heap.size + 1 ≤ R := by have := Hz0.out; omega
  have hz1 := hb1.size
  have SA := Lib.hid (show Str w1 w.heap.size 25 #[.int .i64 0, .slice none 0 0] from (hb1.block _ SA.out.lt).trans SA.out)
  have Hb1 := Lib.hid (below_step Hb0.out Hb0.out.size hb1)
  have Hr1 := Lib.hid hr1
  clear hb1 hr1
  go_wp2_with fail
  refine (drawStore R 0 _ (by omega) Hr1.out hR2).mono ?_
  rintro e w2 ⟨f, l, u, p2, rfl, ho, hl13, hf, hr2, hp2, hg2⟩
  have hs2 := hg2.size
  obtain ⟨au, cu, rfl, _⟩ := ho.sl
  have hal : Below w2.heap.size w2 (w2.alloc (.cells #[.int .i64 f, .slice au l.length cu] 25)) := (Below.refl _ _).alloc (Nat.le_refl _) _
  have HV := Lib.hid (show Sdw R w w.heap.size w2.heap.size f p2 (w2.alloc (.cells #[.int .i64 f, .slice au l.length cu] 25)) (.slice au l.length cu) l from ⟨(SA.out.kept hg2 (by simp; omega)).alloc _, Str.new w2 25 _, OwnN.mono (OwnN.below ho hal) (by omega), (fun g e => by have := OwnN.lt ho g e; omega), hr2.alloc _, (Hb1.out.grown hg2 Hb1.out.size (fun g e => by cases e; omega)).alloc (by omega) _, by omega⟩)
  have hXs : w2.heap.size < (w2.alloc (.cells #[.int .i64 f, .slice au l.length cu] 25)).heap.size := by simp
  clear hal ho hr2 hg2 SA Hb0 Hb1 Hr1
  have x0 := HV.out.sx.cell 0 (v := .int .i64 f) rfl
  have x1 := HV.out.sx.cell 1 (v := .slice au l.length cu) rfl
  go_wp2_with fail
  generalize (w2.alloc (.cells #[.int .i64 f, .slice au l.length cu] 25)) = w3 at *
  generalize w2.heap.size = X at *
  have hXR : R < X := by omega
  refine wp_region_held_drew (S := fun W => W.cell? ⟨X, 0, none⟩ = some (.int .i64 f) ∧ W.cell? ⟨X, 1, none⟩ = some (.slice au l.length cu)) (by kernel_rfl) ⟨x0, x1⟩ (fun hH => ?_)
  have HV := Lib.hid HV.out.drew
  have hXs : X < w3.drew.heap.size := hXs
  skip
  clear x0 x1
  generalize w3.drew = wd at *
  refine takeH 0 (v := ?vfa1) rfl (by kernel_rfl) (by kernel_rfl) (by kernel_rfl) (fun _ _ _ h => h) hH rfl ?yfa1 ?rfa1
  case yfa1 => intro W hSw; go_simp; try with_reducible rfl
  try simp only [Act.put, List.setIfInBounds_toArray, List.set_cons_zero, List.set_cons_succ]
  refine takeH 1 (v := ?vfa2) rfl (by kernel_rfl) (by kernel_rfl) (by kernel_rfl) (fun _ _ _ h => h) hH rfl ?yfa2 ?rfa2
  case yfa2 => intro W hSw; go_simp; try with_reducible rfl
  try simp only [Act.put, List.setIfInBounds_toArray, List.set_cons_zero, List.set_cons_succ]
  refine takeH 2 (v := ?vfa3) rfl (by kernel_rfl) (by kernel_rfl) (by kernel_rfl) (fun _ _ _ h => h) hH rfl ?yfa3 ?rfa3
  case yfa3 => intro W hSw; go_simp; try with_reducible rfl
  try simp only [Act.put, List.setIfInBounds_toArray, List.set_cons_zero, List.set_cons_succ]
  refine takeH 3 (v := ?vfa4) rfl (by kernel_rfl) (by kernel_rfl) (by kernel_rfl) (fun _ _ _ h => h) hH rfl ?yfa4 ?rfa4
  case yfa4 => intro W hSw; go_simp; try with_reducible rfl
  try simp only [Act.put, List.setIfInBounds_toArray, List.set_cons_zero, List.set_cons_succ]
  refine takeH 6 (v := ?vfa5) rfl (by kernel_rfl) (by kernel_rfl) (by kernel_rfl) (fun _ _ _ h => h) hH rfl ?yfa5 ?rfa5
  case yfa5 => intro W hSw; go_simp; try with_reducible rfl
  try simp only [Act.put, List.setIfInBounds_toArray, List.set_cons_zero, List.set_cons_succ]
  refine takeH 11 (v := ?vfa6) rfl (by kernel_rfl) (by kernel_rfl) (by kernel_rfl) (fun _ _ _ h => h) hH rfl ?yfa6 ?rfa6
  case yfa6 => intro W hSw; go_simp; try with_reducible rfl
  try simp only [Act.put, List.setIfInBounds_toArray, List.set_cons_zero, List.set_cons_succ]
  refine callH 4 rfl (by kernel_rfl) rfl (fun K hK => ?_)
  go_simp
  go_at_call 34
  refine (pick_any R 8 (p2) _ (by omega) HV.out.rd (by omega)).mono ?_
  rintro e w4 ⟨n, rfl, hn0, hn1, hr', hg'⟩
  have hsw4 := hg'.size
  have HV := Lib.hid (HV.out.picked hg' hr')
  refine hK.out _ _ ⟨HV.out.sx.cell 0 rfl, HV.out.sx.cell 1 rfl⟩ (fun hH => ?_)
  clear hK K
  try simp only [Act.put, List.setIfInBounds_toArray, List.set_cons_zero, List.set_cons_succ]
  clear hr' hg'
  refine takeH 5 (v := ?vfa7) rfl (by kernel_rfl) (by kernel_rfl) (by kernel_rfl) (fun _ _ _ h => h) hH rfl ?yfa7 ?rfa7
  case yfa7 => intro W hSw; go_simp; try with_reducible rfl
  try simp only [Act.put, List.setIfInBounds_toArray, List.set_cons_zero, List.set_cons_succ]
  refine callH 7 rfl (by kernel_rfl) rfl (fun K hK => ?_)
  go_simp
  go_at_call 34
  refine (pick_any R 10 (p2 + 1) _ (by omega) HV.out.rd (by omega)).mono ?_
  rintro e w5 ⟨m, rfl, hm0, hm1, hr', hg'⟩
  have hsw5 := hg'.size
  have HV := Lib.hid (HV.out.picked hg' hr')
  refine hK.out _ _ ⟨HV.out.sx.cell 0 rfl, HV.out.sx.cell 1 rfl⟩ (fun hH => ?_)
  clear hK K
  try simp only [Act.put, List.setIfInBounds_toArray, List.set_cons_zero, List.set_cons_succ]
  clear hr' hg'
  refine takeH 8 (v := ?vfa8) rfl (by kernel_rfl) (by kernel_rfl) (by kernel_rfl) (fun _ _ _ h => h) hH rfl ?yfa8 ?rfa8
  case yfa8 => intro W hSw; go_simp; try with_reducible rfl
  try simp only [Act.put, List.setIfInBounds_toArray, List.set_cons_zero, List.set_cons_succ]
  refine takeH 9 (v := ?vfa9) rfl (by kernel_rfl) (by kernel_rfl) (by kernel_rfl) (fun _ _ _ h => h) hH rfl ?yfa9 ?rfa9
  case yfa9 => intro W hSw; go_simp; try with_reducible rfl
  try simp only [Act.put, List.setIfInBounds_toArray, List.set_cons_zero, List.set_cons_succ]
  refine takeH 10 (v := ?vfa10) rfl (by kernel_rfl) (by kernel_rfl) (by kernel_rfl) (fun _ _ _ h => h) hH rfl ?yfa10 ?rfa10
  case yfa10 => intro W hSw; go_simp; try with_reducible rfl
  try simp only [Act.put, List.setIfInBounds_toArray, List.set_cons_zero, List.set_cons_succ]
  refine callH 12 rfl (by kernel_rfl) rfl (fun K hK => ?_)
  go_simp
  go_at_call 34
  refine (pick_any R 20 (p2 + 1 + 1) _ (by omega) HV.out.rd (by omega)).mono ?_
  rintro e w6 ⟨k, rfl, hk0, hk1, hr', hg'⟩
  have hsw6 := hg'.size
  have HV := Lib.hid (HV.out.picked hg' hr')
  refine hK.out _ _ ⟨HV.out.sx.cell 0 rfl, HV.out.sx.cell 1 rfl⟩ (fun hH => ?_)
  clear hK K
  try simp only [Act.put, List.setIfInBounds_toArray, List.set_cons_zero, List.set_cons_succ]
  clear hr' hg'
  refine takeH 13 (v := ?vfa11) rfl (by kernel_rfl) (by kernel_rfl) (by kernel_rfl) (fun _ _ _ h => h) hH rfl ?yfa11 ?rfa11
  case yfa11 => intro W hSw; go_simp; try with_reducible rfl
  try simp only [Act.put, List.setIfInBounds_toArray, List.set_cons_zero, List.set_cons_succ]
  refine takeH 14 (v := ?vfa12) rfl (by kernel_rfl) (by kernel_rfl) (by kernel_rfl) (fun _ _ _ h => h) hH rfl ?yfa12 ?rfa12
  case yfa12 => intro W hSw; go_simp; try with_reducible rfl
  try simp only [Act.put, List.setIfInBounds_toArray, List.set_cons_zero, List.set_cons_succ]
  refine takeH 15 (v := ?vfa13) rfl (by kernel_rfl) (by kernel_rfl) (by kernel_rfl) (fun _ _ _ h => h) hH rfl ?yfa13 ?rfa13
  case yfa13 => intro W hSw; go_simp; try with_reducible rfl
  try simp only [Act.put, List.setIfInBounds_toArray, List.set_cons_zero, List.set_cons_succ]
  obtain ⟨sa9, sx9, ho9, hb9⟩ := HV.out.res
  have Hsa := Lib.hid sa9; have Hsx := Lib.hid sx9; have Ho9 := Lib.hid ho9; have Hb9 := Lib.hid hb9
  clear sa9 sx9 ho9 hb9
  refine callH 16 rfl (by kernel_rfl) rfl (fun K hK => ?_)
  have y0 := HV.out.sa.frozen 0
  have y1 := HV.out.sa.frozen 1
  have a0 := HV.out.sa.cell 0 (v := .int .i64 0) rfl
  have a1 := HV.out.sa.cell 1 (v := .slice none 0 0) rfl
  go_simp
  clear y0 y1 a0 a1
  refine hK.out _ _ ⟨Hsx.out.cell 0 rfl, Hsx.out.cell 1 rfl⟩ (fun hH => ?_)
  clear hK K
  try simp only [Act.put, List.setIfInBounds_toArray, List.set_cons_zero, List.set_cons_succ]
  generalize ((w6.setCell ⟨w.heap.size, 0, none⟩ (.int .i64 f)).setCell ⟨w.heap.size, 1, none⟩ (.slice au l.length cu)) = we at *
  refine takeH 17 (v := ?vfa14) rfl (by kernel_rfl) (by kernel_rfl) (by kernel_rfl) (fun _ _ _ h => h) hH rfl ?yfa14 ?rfa14
  case yfa14 => intro W hSw; go_simp; try with_reducible rfl
  try simp only [Act.put, List.setIfInBounds_toArray, List.set_cons_zero, List.set_cons_succ]
  refine wpAnyH_done (by kernel_rfl) ?_ _
  try simp only [Act.put]
  clear hH
  have e0 := Hsa.out.cell 0 (v := .int .i64 f) rfl
  have e1 := Hsa.out.cell 1 (v := .slice au l.length cu) rfl
  go_wp2
  refine bodyPost_ret (v := .tuple #[.agg #[.int .i64 f, .slice au l.length cu], .int .i64 (IntKind.i64.wrap (IntKind.i64.wrap (IntKind.i64.wrap (f + n) - IntKind.i64.wrap (IntKind.i64.wrap (m.tdiv 9) * 2)) + IntKind.i64.wrap (IntKind.i64.wrap (k.tdiv 19) * 30)))]) (by simp [results, Try.f19, go_sem, e0, e1]) rfl ?_
  exact SnD.mk f l _ (IntKind.i64.wrap (IntKind.i64.wrap (IntKind.i64.wrap (f + n) - IntKind.i64.wrap (IntKind.i64.wrap (m.tdiv 9) * 2)) + IntKind.i64.wrap (IntKind.i64.wrap (k.tdiv 19) * 30))) rfl Ho9.out hl13 Hb9.out

end Go.Proofs.Ythojbcecbeapgaa
