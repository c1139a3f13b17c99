/- The draw of a voter, by a walk of its text; condition: at most 2^19 picks. -/
import Derived.Test.YtkndndcjchlpdaaRows
import Derived.Test.YtkndndcjchlpdaaVd3
import Derived.Test.YtkndndcjchlpdaaVa4
import Derived.Test.YtkndndcjchlpdaaVt2
import Derived.Deep.QuietTactic
import Derived.BigQuiet
namespace Go.Proofs.Ytkndndcjchlpdaa
open Go.RowKit

/-- What stands behind a drawn vote and its signing. -/
def R12 (F : Nat → Vt → Int → Value → Bool → Act) (R : Nat) (w : World) (X : Nat) (q : Int) (p' : Nat) (u : Value) (g : List Vt) : Exit → Act → World → Prop
  | .normal, a', w' => ∃ (Y : Nat) (v : Vt) (f' : Int) (u' : Value) (b : Bool) (g' : List Vt) (p2 : Nat), a' = F Y v f' u' b ∧ p2 ≤ p' + 8 ∧ Vst R w X q p2 w' u g ∧ Str w' Y 25 #[.int .i64 f', u'] ∧ OwnV 27 w' w.heap.size u' g' ∧ (∀ b, u'.ownBlock = some b → b ≠ X ∧ b ≠ w.heap.size) ∧ g'.length ≤ 41
  | _, _, _ => False
theorem sg_short (f : Int) (g : List Vt) (v : Vt) : (sgG f g v).length ≤ g.length + 1 := by
  have h := congrArg List.length (low_up g v)
  rw [List.length_append] at h
  unfold sgG
  split
  · unfold signG
    split
    · omega
    · split
      · omega
      · simp only [List.length_append, List.length_cons]; omega
  · simp
set_option maxHeartbeats 8000000 in
set_option maxRecDepth 8000 in
theorem drawVoter (R p : Nat) (w : World) (hp : p ≤ 500000) (hr : Rdr w R p) (hR : R < w.heap.size) :
    Calls Try.prog 36 #[.pointer (some ⟨R, 0, none⟩)] w (VoterDraw R p w) := by
  skip
  have SR := Lib.hid (Str.new w 25 #[.int .i64 0, .slice none 0 0])
  have Hr := Lib.hid (hr.alloc (.cells #[.int .i64 0, .slice none 0 0] 25)); clear hr
  have Hg := Lib.hid (World.grownBy_alloc w (.cells #[.int .i64 0, .slice none 0 0] 25) (some R))
  have hz0 : (w.alloc (.cells #[.int .i64 0, .slice none 0 0] 25)).heap.size = w.heap.size + 1 := by simp
  have Hz0 := Lib.hid hz0
  have hz1 : w.heap.size < (w.alloc (.cells #[.int .i64 0, .slice none 0 0] 25)).heap.size := by omega
  clear hz0
  go_enter Try.func36, Try.ntmps36
  go_wp2_with fail
  generalize w.alloc (.cells #[.int .i64 0, .slice none 0 0] 25) = W0 at *
  refine (pick_any R 3 (p) _ (by omega) Hr.out (by omega)).mono ?_
  rintro e w1 ⟨x, rfl, hx0, hx1, hr', hg'⟩
  have hsw1 := hg'.size
  have SR := Lib.hid (SR.out.kept hg' (by simp; omega))
  have Hr := Lib.hid hr'
  have Hg := Lib.hid (grownBy_trans Hg.out hg')
  clear hr' hg'
  go_wp2_with fail
  refine (pick_any R 2 (p + 1) _ (by omega) Hr.out (by omega)).mono ?_
  rintro e w2 ⟨y, rfl, hy0, hy1, hr', hg'⟩
  have hsw2 := hg'.size
  obtain ⟨q, hq, hq0, hq2⟩ : ∃ q : Int, x * y = q ∧ 0 ≤ q ∧ q ≤ 2 := by
    refine ⟨_, rfl, ?_⟩
    rcases (show y = 0 ∨ y = 1 by omega) with rfl | rfl <;> simp <;> omega
  have ho0 : OwnV 27 (w2.alloc (.cells #[] 27)) w.heap.size (.slice (some ⟨w2.heap.size, 0, none⟩) 0 0) [] := (OwnV.empty 27 w2).mono (by omega)
  have hal2 : Below (w2.alloc (.cells #[] 27)).heap.size (w2.alloc (.cells #[] 27)) ((w2.alloc (.cells #[] 27)).alloc (.cells #[.int .i64 q, (.slice (some ⟨w2.heap.size, 0, none⟩) 0 0)] 25)) := (Below.refl _ _).alloc (Nat.le_refl _) _
  have hzL : (w2.alloc (.cells #[] 27)).heap.size = w2.heap.size + 1 := by simp
  have HV := Lib.hid (show Vst R w (w2.heap.size + 1) q (p + 1 + 1) ((w2.alloc (.cells #[] 27)).alloc (.cells #[.int .i64 q, (.slice (some ⟨w2.heap.size, 0, none⟩) 0 0)] 25)) (.slice (some ⟨w2.heap.size, 0, none⟩) 0 0) [] from ⟨by rw [← hzL]; exact Str.new _ _ _, ho0.below hal2, (fun b e => (show w2.heap.size = b by simpa [Value.ownBlock] using e) ▸ ⟨by omega, by omega⟩), ((SR.out.kept hg' (by simp; omega)).alloc _).alloc _, (hr'.alloc _).alloc _, grown_row (grown_row (grownBy_trans Hg.out hg') (World.grownBy_alloc w2 _ none) (by simp)) (World.grownBy_alloc _ _ none) (by simp), hR, by omega⟩)
  have hzE : w2.heap.size + 1 < ((w2.alloc (.cells #[] 27)).alloc (.cells #[.int .i64 q, (.slice (some ⟨w2.heap.size, 0, none⟩) 0 0)] 25)).heap.size := by simp
  clear hr' hg' ho0 hal2 hzL SR Hr Hg
  go_wp2_with fail
  clear hq
  generalize ((w2.alloc (.cells #[] 27)).alloc (.cells #[.int .i64 q, (.slice (some ⟨w2.heap.size, 0, none⟩) 0 0)] 25)) = W3 at *
  generalize hX : w2.heap.size + 1 = X at *
  have hwX : w.heap.size < X := by omega
  clear hX
  refine (pick_any R 14 (p + 1 + 1) _ (by omega) HV.out.rd (by have := HV.out.sr.lt; omega)).mono ?_
  rintro e w3 ⟨n, rfl, hn0, hn1, hr', hg'⟩
  have hsw3 := hg'.size
  have HV := Lib.hid (HV.out.picked hg' hr')
  clear hr' hg'
  go_wp2_with fail
  refine (pick_any R 12 (p + 1 + 1 + 1) _ (by omega) HV.out.rd (by have := HV.out.sr.lt; omega)).mono ?_
  rintro e w4 ⟨t, rfl, ht0, ht1, hr', hg'⟩
  have hsw4 := hg'.size
  have HV := Lib.hid (HV.out.picked hg' hr')
  clear hr' hg'
  by_cases ht : t = 0
  case neg =>
    have ht' : (t == 0) = false := by rw [beq_eq_false_iff_ne]; exact ht
    clear ht0 ht1
    obtain ⟨p9, hpp, hp9⟩ : ∃ p9, p + 1 + 1 + 1 + 1 = p9 ∧ p9 ≤ p + 10 := ⟨_, rfl, by omega⟩
    rw [hpp] at HV
    clear hpp
    obtain ⟨g, hg40, hgn⟩ : ∃ g : List Vt, g.length ≤ 40 ∧ g = [] := ⟨[], by simp, rfl⟩
    rw [← hgn] at HV
    clear hgn
    obtain ⟨n, rfl⟩ := Int.eq_ofNat_of_zero_le hn0
    have hn13 : n ≤ 13 := by omega
    clear hn1
    have Hp9 := Lib.hid hp9
    go_wp2
    go_loopw [6] (fun i wr => ∃ (k p' : Nat) (u : Value) (g : List Vt), k ≤ n ∧ i = .int .i64 k ∧ p' ≤ p9 + 8 * k ∧ g.length ≤ 40 ∧ Vst R w X q p' wr u g) (fun i _ => n - (intOf i).toNat)
    case atStart => exact ⟨0, p9, _, g, by omega, rfl, by omega, hg40, HV.out⟩
    case round =>
      clear HV hg40
      obtain ⟨k, p', u, g, hk, rfl, hpk, hg40, hv⟩ := hrel
      obtain ⟨au, cu, rfl⟩ := hv.own.slice
      have hsz := hv.sr.lt
      have hxl := hv.sx.lt
      have HV := Lib.hid hv; clear hv
      by_cases hlt : k < n
      · skip
        have c0 := HV.out.sx.cell 0 (v := .int .i64 q) rfl
        have c1 := HV.out.sx.cell 1 (v := .slice au g.length cu) rfl
        go_wp2_with fail
        skip
        clear c0 c1
        refine Code.wp_mono (Q := R12 ?Fu R w X q p' (Value.slice au g.length cu) g) ?hq ?hc
        case hc =>
          refine wp_region_held_drew (S := fun w' => w'.cell? ⟨X, 0, none⟩ = some (.int .i64 q) ∧ w'.cell? ⟨X, 1, none⟩ = some (.slice au g.length cu)) (by kernel_rfl) ⟨HV.out.sx.cell 0 rfl, HV.out.sx.cell 1 rfl⟩ (fun hH => ?_)
          have HV := Lib.hid (HV.out.below ((Below.refl _ wr).drew))
          have hszd : w.heap.size < wr.drew.heap.size := hsz
          have hxld : X < wr.drew.heap.size := hxl
          generalize wr.drew = wd at *
          refine takeH 0 (v := ?vrau1) rfl (by kernel_rfl) (by kernel_rfl) (by kernel_rfl) (fun _ _ _ h => h) hH rfl ?yrau1 ?rrau1
          case yrau1 => intro W hSw; go_simp; try with_reducible rfl
          try simp only [Act.put, List.setIfInBounds_toArray, List.set_cons_zero, List.set_cons_succ]
          refine takeH 1 (v := ?vrau2) rfl (by kernel_rfl) (by kernel_rfl) (by kernel_rfl) (fun _ _ _ h => h) hH rfl ?yrau2 ?rrau2
          case yrau2 => intro W hSw; go_simp; try with_reducible rfl
          try simp only [Act.put, List.setIfInBounds_toArray, List.set_cons_zero, List.set_cons_succ]
          refine twoH 2 7 rfl rfl (by kernel_rfl) rfl rfl (fun K hK => ?_) (fun K hK => ?_)
          · skip
            go_simp
            go_at_call 37
            refine (drawVote R p' _ (by omega) HV.out.rd (by have := HV.out.sr.lt; have := HV.out.hR; omega)).mono ?_
            rintro e wv ⟨v, p2, rfl, hv1, hv2, hr', hp2, hg'⟩
            have HV := Lib.hid (HV.out.picked hg' hr')
            have hsv := hg'.size
            clear hr' hg' hv1 hv2
            refine hK.out _ _ ⟨HV.out.sx.cell 0 rfl, HV.out.sx.cell 1 rfl⟩ (fun hH => ?_)
            clear hK K
            try simp only [Act.put, List.setIfInBounds_toArray, List.set_cons_zero, List.set_cons_succ]
            refine twoH 3 7 rfl rfl (by kernel_rfl) rfl rfl (fun K hK => ?_) (fun K hK => ?_)
            · skip
              go_simp
              go_at_call 13
              obtain ⟨fq, hfq⟩ := HV.out.own.vts
              refine (spec_VoterSign q g _ fq v.r v.a v.d _ (by omega) hfq).mono ?_
              rintro e wy ⟨u', rfl, hor, hb'⟩
              have hgl9 := Nat.le_trans (sg_short q g ⟨v.r, v.a, v.d⟩) (show g.length + 1 ≤ 41 by omega)
              generalize sgG q g ⟨v.r, v.a, v.d⟩ = g' at *
              generalize sgF q g ⟨v.r, v.a, v.d⟩ = f' at *
              generalize sgB q g ⟨v.r, v.a, v.d⟩ = b' at *
              obtain ⟨ay, cy, rfl⟩ := hor.ownV.slice
              have hsy := hb'.size
              have hsw := HV.out.sr.lt
              have hsX := HV.out.sx.lt
              have Hnu := Lib.hid (show ∀ b, (Value.slice ay g'.length cy).ownBlock = some b → b ≠ X ∧ b ≠ w.heap.size from fun b e => by have h1 := (hor.lt b e).1; omega)
              have HO := Lib.hid (hor.ownV.mono (B' := w.heap.size) (by omega))
              have HV := Lib.hid (HV.out.below hb')
              clear hor hb' hfq
              refine hK.out _ _ ⟨HV.out.sx.cell 0 rfl, HV.out.sx.cell 1 rfl⟩ (fun hH => ?_)
              clear hK K
              try simp only [Act.put, List.setIfInBounds_toArray, List.set_cons_zero, List.set_cons_succ]
              refine takeH 4 (v := ?vrbu1) rfl (by kernel_rfl) (by kernel_rfl) (by kernel_rfl) (fun _ _ _ h => h) hH rfl ?yrbu1 ?rrbu1
              case yrbu1 => intro W hSw; go_simp; try with_reducible rfl
              try simp only [Act.put, List.setIfInBounds_toArray, List.set_cons_zero, List.set_cons_succ]
              refine takeH 5 (v := ?vrbu2) rfl (by kernel_rfl) (by kernel_rfl) (by kernel_rfl) (fun _ _ _ h => h) hH rfl ?yrbu2 ?rrbu2
              case yrbu2 => intro W hSw; go_simp; try with_reducible rfl
              try simp only [Act.put, List.setIfInBounds_toArray, List.set_cons_zero, List.set_cons_succ]
              refine takeH 6 (v := ?vrbu3) rfl (by kernel_rfl) (by kernel_rfl) (by kernel_rfl) (fun _ _ _ h => h) hH rfl ?yrbu3 ?rrbu3
              case yrbu3 => intro W hSw; go_simp; try with_reducible rfl
              try simp only [Act.put, List.setIfInBounds_toArray, List.set_cons_zero, List.set_cons_succ]
              refine callH 7 rfl (by kernel_rfl) rfl (fun K hK => ?_)
              go_simp
              have hal : Below wy.heap.size wy (wy.alloc (.cells #[.int .i64 0, .slice none 0 0] 25)) := (Below.refl _ _).alloc (Nat.le_refl _) _
              have hsw9 := HV.out.sr.lt
              have hsX9 := HV.out.sx.lt
              have SY := Lib.hid (Str.new wy 25 #[.int .i64 0, .slice none 0 0])
              have HgY := Lib.hid (show ∀ b, (Value.slice au g.length cu).ownBlock = some b → b ≠ wy.heap.size from fun b e => by have := (HV.out.own.lt b e).2; omega)
              have HnY := Lib.hid (show ∀ b, (Value.slice ay g'.length cy).ownBlock = some b → b ≠ wy.heap.size from fun b e => by have := (HO.out.lt b e).2; omega)
              have HO := Lib.hid (HO.out.below hal)
              have HV := Lib.hid (HV.out.below hal)
              clear hal
              refine hK.out _ _ ⟨HV.out.sx.cell 0 rfl, HV.out.sx.cell 1 rfl⟩ (fun hH => ?_)
              clear hK K
              try simp only [Act.put, List.setIfInBounds_toArray, List.set_cons_zero, List.set_cons_succ]
              have hYX : wy.heap.size ≠ X := by omega
              have hYw : wy.heap.size ≠ w.heap.size := by omega
              have hYl : w.heap.size ≤ wy.heap.size := by omega
              generalize (wy.alloc (.cells #[.int .i64 0, .slice none 0 0] 25)) = wa at *
              generalize wy.heap.size = Y at *
              have y0 := SY.out.frozen 0
              have y1 := SY.out.frozen 1
              have d0 := SY.out.cell 0 (v := .int .i64 0) rfl
              have d1 := SY.out.cell 1 (v := .slice none 0 0) rfl
              refine callH 8 rfl (by kernel_rfl) rfl (fun K hK => ?_)
              go_simp
              clear y0 y1 d0 d1
              have HV := Lib.hid (HV.out.beside hYX hYw HgY.out hYl (.int .i64 f') (Value.slice ay g'.length cy))
              have SY := Lib.hid ((SY.out.set 0 (.int .i64 f')).set 1 (Value.slice ay g'.length cy))
              have HO := Lib.hid ((HO.out.setc HnY.out 0 (.int .i64 f')).setc HnY.out 1 (Value.slice ay g'.length cy))
              refine hK.out _ _ ⟨HV.out.sx.cell 0 rfl, HV.out.sx.cell 1 rfl⟩ (fun hH => ?_)
              clear hK K
              try simp only [Act.put, List.setIfInBounds_toArray, List.set_cons_zero, List.set_cons_succ]
              generalize ((wa.setCell ⟨Y, 0, none⟩ (.int .i64 f')).setCell ⟨Y, 1, none⟩ (Value.slice ay g'.length cy)) = wz at *
              refine takeH 9 (v := ?vrbzu1) rfl (by kernel_rfl) (by kernel_rfl) (by kernel_rfl) (fun _ _ _ h => h) hH rfl ?yrbzu1 ?rrbzu1
              case yrbzu1 => intro W hSw; go_simp; try with_reducible rfl
              try simp only [Act.put, List.setIfInBounds_toArray, List.set_cons_zero, List.set_cons_succ]
              refine wpAnyH_done (by kernel_rfl) ?_ _
              try simp only [Act.put]
              generalize (Value.slice ay g'.length cy) = u' at *
              refine ⟨Y, v, f', u', b', g', p2, ?_, hp2, HV.out, SY.out, HO.out, Hnu.out, hgl9⟩
              rfl
            · skip
              go_simp
              have hal : Below wv.heap.size wv (wv.alloc (.cells #[.int .i64 0, .slice none 0 0] 25)) := (Below.refl _ _).alloc (Nat.le_refl _) _
              have hsw9 := HV.out.sr.lt
              have hsX9 := HV.out.sx.lt
              have SY := Lib.hid (Str.new wv 25 #[.int .i64 0, .slice none 0 0])
              have HgY := Lib.hid (show ∀ b, (Value.slice au g.length cu).ownBlock = some b → b ≠ wv.heap.size from fun b e => by have := (HV.out.own.lt b e).2; omega)
              have HV := Lib.hid (HV.out.below hal)
              clear hal
              refine hK.out _ _ ⟨HV.out.sx.cell 0 rfl, HV.out.sx.cell 1 rfl⟩ (fun hH => ?_)
              clear hK K
              try simp only [Act.put, List.setIfInBounds_toArray, List.set_cons_zero, List.set_cons_succ]
              have hYX : wv.heap.size ≠ X := by omega
              have hYw : wv.heap.size ≠ w.heap.size := by omega
              have hYl : w.heap.size ≤ wv.heap.size := by omega
              generalize (wv.alloc (.cells #[.int .i64 0, .slice none 0 0] 25)) = wa at *
              generalize wv.heap.size = Y at *
              refine callH 3 rfl (by kernel_rfl) rfl (fun K hK => ?_)
              go_simp
              go_at_call 13
              obtain ⟨fq, hfq⟩ := HV.out.own.vts
              refine (spec_VoterSign q g _ fq v.r v.a v.d _ (by omega) hfq).mono ?_
              rintro e wy ⟨u', rfl, hor, hb'⟩
              have hgl9 := Nat.le_trans (sg_short q g ⟨v.r, v.a, v.d⟩) (show g.length + 1 ≤ 41 by omega)
              generalize sgG q g ⟨v.r, v.a, v.d⟩ = g' at *
              generalize sgF q g ⟨v.r, v.a, v.d⟩ = f' at *
              generalize sgB q g ⟨v.r, v.a, v.d⟩ = b' at *
              obtain ⟨ay, cy, rfl⟩ := hor.ownV.slice
              have hsy := hb'.size
              have hsw := HV.out.sr.lt
              have hsX := HV.out.sx.lt
              have Hnu := Lib.hid (show ∀ b, (Value.slice ay g'.length cy).ownBlock = some b → b ≠ X ∧ b ≠ w.heap.size from fun b e => by have h1 := (hor.lt b e).1; omega)
              have HnY := Lib.hid (show ∀ b, (Value.slice ay g'.length cy).ownBlock = some b → b ≠ Y from fun b e => by have h1 := (hor.lt b e).1; have := SY.out.lt; omega)
              have SY := Lib.hid (show Str wy Y 25 #[.int .i64 0, .slice none 0 0] from (hb'.block _ SY.out.lt).trans SY.out)
              have HO := Lib.hid (hor.ownV.mono (B' := w.heap.size) (by omega))
              have HV := Lib.hid (HV.out.below hb')
              clear hor hb' hfq
              refine hK.out _ _ ⟨HV.out.sx.cell 0 rfl, HV.out.sx.cell 1 rfl⟩ (fun hH => ?_)
              clear hK K
              try simp only [Act.put, List.setIfInBounds_toArray, List.set_cons_zero, List.set_cons_succ]
              refine takeH 4 (v := ?vrcu1) rfl (by kernel_rfl) (by kernel_rfl) (by kernel_rfl) (fun _ _ _ h => h) hH rfl ?yrcu1 ?rrcu1
              case yrcu1 => intro W hSw; go_simp; try with_reducible rfl
              try simp only [Act.put, List.setIfInBounds_toArray, List.set_cons_zero, List.set_cons_succ]
              refine takeH 5 (v := ?vrcu2) rfl (by kernel_rfl) (by kernel_rfl) (by kernel_rfl) (fun _ _ _ h => h) hH rfl ?yrcu2 ?rrcu2
              case yrcu2 => intro W hSw; go_simp; try with_reducible rfl
              try simp only [Act.put, List.setIfInBounds_toArray, List.set_cons_zero, List.set_cons_succ]
              refine takeH 6 (v := ?vrcu3) rfl (by kernel_rfl) (by kernel_rfl) (by kernel_rfl) (fun _ _ _ h => h) hH rfl ?yrcu3 ?rrcu3
              case yrcu3 => intro W hSw; go_simp; try with_reducible rfl
              try simp only [Act.put, List.setIfInBounds_toArray, List.set_cons_zero, List.set_cons_succ]
              have y0 := SY.out.frozen 0
              have y1 := SY.out.frozen 1
              have d0 := SY.out.cell 0 (v := .int .i64 0) rfl
              have d1 := SY.out.cell 1 (v := .slice none 0 0) rfl
              refine callH 8 rfl (by kernel_rfl) rfl (fun K hK => ?_)
              go_simp
              clear y0 y1 d0 d1
              have HV := Lib.hid (HV.out.beside hYX hYw HgY.out hYl (.int .i64 f') (Value.slice ay g'.length cy))
              have SY := Lib.hid ((SY.out.set 0 (.int .i64 f')).set 1 (Value.slice ay g'.length cy))
              have HO := Lib.hid ((HO.out.setc HnY.out 0 (.int .i64 f')).setc HnY.out 1 (Value.slice ay g'.length cy))
              refine hK.out _ _ ⟨HV.out.sx.cell 0 rfl, HV.out.sx.cell 1 rfl⟩ (fun hH => ?_)
              clear hK K
              try simp only [Act.put, List.setIfInBounds_toArray, List.set_cons_zero, List.set_cons_succ]
              generalize ((wy.setCell ⟨Y, 0, none⟩ (.int .i64 f')).setCell ⟨Y, 1, none⟩ (Value.slice ay g'.length cy)) = wz at *
              refine takeH 9 (v := ?vrczu1) rfl (by kernel_rfl) (by kernel_rfl) (by kernel_rfl) (fun _ _ _ h => h) hH rfl ?yrczu1 ?rrczu1
              case yrczu1 => intro W hSw; go_simp; try with_reducible rfl
              try simp only [Act.put, List.setIfInBounds_toArray, List.set_cons_zero, List.set_cons_succ]
              refine wpAnyH_done (by kernel_rfl) ?_ _
              try simp only [Act.put]
              generalize (Value.slice ay g'.length cy) = u' at *
              refine ⟨Y, v, f', u', b', g', p2, ?_, hp2, HV.out, SY.out, HO.out, Hnu.out, hgl9⟩
              rfl
          · skip
            go_simp
            have hal : Below wd.heap.size wd (wd.alloc (.cells #[.int .i64 0, .slice none 0 0] 25)) := (Below.refl _ _).alloc (Nat.le_refl _) _
            have hsw9 := HV.out.sr.lt
            have hsX9 := HV.out.sx.lt
            have SY := Lib.hid (Str.new wd 25 #[.int .i64 0, .slice none 0 0])
            have HgY := Lib.hid (show ∀ b, (Value.slice au g.length cu).ownBlock = some b → b ≠ wd.heap.size from fun b e => by have := (HV.out.own.lt b e).2; omega)
            have HV := Lib.hid (HV.out.below hal)
            clear hal
            refine hK.out _ _ ⟨HV.out.sx.cell 0 rfl, HV.out.sx.cell 1 rfl⟩ (fun hH => ?_)
            clear hK K
            try simp only [Act.put, List.setIfInBounds_toArray, List.set_cons_zero, List.set_cons_succ]
            have hYX : wd.heap.size ≠ X := by omega
            have hYw : wd.heap.size ≠ w.heap.size := by omega
            have hYl : w.heap.size ≤ wd.heap.size := by omega
            generalize (wd.alloc (.cells #[.int .i64 0, .slice none 0 0] 25)) = wa at *
            generalize wd.heap.size = Y at *
            refine callH 2 rfl (by kernel_rfl) rfl (fun K hK => ?_)
            go_simp
            go_at_call 37
            refine (drawVote R p' _ (by omega) HV.out.rd (by have := HV.out.sr.lt; have := HV.out.hR; omega)).mono ?_
            rintro e wv ⟨v, p2, rfl, hv1, hv2, hr', hp2, hg'⟩
            have HV := Lib.hid (HV.out.picked hg' hr')
            have hsv := hg'.size
            have SY := Lib.hid (SY.out.kept hg' (by have := HV.out.hR; simp; omega))
            clear hr' hg' hv1 hv2
            refine hK.out _ _ ⟨HV.out.sx.cell 0 rfl, HV.out.sx.cell 1 rfl⟩ (fun hH => ?_)
            clear hK K
            try simp only [Act.put, List.setIfInBounds_toArray, List.set_cons_zero, List.set_cons_succ]
            refine callH 3 rfl (by kernel_rfl) rfl (fun K hK => ?_)
            go_simp
            go_at_call 13
            obtain ⟨fq, hfq⟩ := HV.out.own.vts
            refine (spec_VoterSign q g _ fq v.r v.a v.d _ (by omega) hfq).mono ?_
            rintro e wy ⟨u', rfl, hor, hb'⟩
            have hgl9 := Nat.le_trans (sg_short q g ⟨v.r, v.a, v.d⟩) (show g.length + 1 ≤ 41 by omega)
            generalize sgG q g ⟨v.r, v.a, v.d⟩ = g' at *
            generalize sgF q g ⟨v.r, v.a, v.d⟩ = f' at *
            generalize sgB q g ⟨v.r, v.a, v.d⟩ = b' at *
            obtain ⟨ay, cy, rfl⟩ := hor.ownV.slice
            have hsy := hb'.size
            have hsw := HV.out.sr.lt
            have hsX := HV.out.sx.lt
            have Hnu := Lib.hid (show ∀ b, (Value.slice ay g'.length cy).ownBlock = some b → b ≠ X ∧ b ≠ w.heap.size from fun b e => by have h1 := (hor.lt b e).1; omega)
            have HnY := Lib.hid (show ∀ b, (Value.slice ay g'.length cy).ownBlock = some b → b ≠ Y from fun b e => by have h1 := (hor.lt b e).1; have := SY.out.lt; omega)
            have SY := Lib.hid (show Str wy Y 25 #[.int .i64 0, .slice none 0 0] from (hb'.block _ SY.out.lt).trans SY.out)
            have HO := Lib.hid (hor.ownV.mono (B' := w.heap.size) (by omega))
            have HV := Lib.hid (HV.out.below hb')
            clear hor hb' hfq
            refine hK.out _ _ ⟨HV.out.sx.cell 0 rfl, HV.out.sx.cell 1 rfl⟩ (fun hH => ?_)
            clear hK K
            try simp only [Act.put, List.setIfInBounds_toArray, List.set_cons_zero, List.set_cons_succ]
            refine takeH 4 (v := ?vrdu1) rfl (by kernel_rfl) (by kernel_rfl) (by kernel_rfl) (fun _ _ _ h => h) hH rfl ?yrdu1 ?rrdu1
            case yrdu1 => intro W hSw; go_simp; try with_reducible rfl
            try simp only [Act.put, List.setIfInBounds_toArray, List.set_cons_zero, List.set_cons_succ]
            refine takeH 5 (v := ?vrdu2) rfl (by kernel_rfl) (by kernel_rfl) (by kernel_rfl) (fun _ _ _ h => h) hH rfl ?yrdu2 ?rrdu2
            case yrdu2 => intro W hSw; go_simp; try with_reducible rfl
            try simp only [Act.put, List.setIfInBounds_toArray, List.set_cons_zero, List.set_cons_succ]
            refine takeH 6 (v := ?vrdu3) rfl (by kernel_rfl) (by kernel_rfl) (by kernel_rfl) (fun _ _ _ h => h) hH rfl ?yrdu3 ?rrdu3
            case yrdu3 => intro W hSw; go_simp; try with_reducible rfl
            try simp only [Act.put, List.setIfInBounds_toArray, List.set_cons_zero, List.set_cons_succ]
            have y0 := SY.out.frozen 0
            have y1 := SY.out.frozen 1
            have d0 := SY.out.cell 0 (v := .int .i64 0) rfl
            have d1 := SY.out.cell 1 (v := .slice none 0 0) rfl
            refine callH 8 rfl (by kernel_rfl) rfl (fun K hK => ?_)
            go_simp
            clear y0 y1 d0 d1
            have HV := Lib.hid (HV.out.beside hYX hYw HgY.out hYl (.int .i64 f') (Value.slice ay g'.length cy))
            have SY := Lib.hid ((SY.out.set 0 (.int .i64 f')).set 1 (Value.slice ay g'.length cy))
            have HO := Lib.hid ((HO.out.setc HnY.out 0 (.int .i64 f')).setc HnY.out 1 (Value.slice ay g'.length cy))
            refine hK.out _ _ ⟨HV.out.sx.cell 0 rfl, HV.out.sx.cell 1 rfl⟩ (fun hH => ?_)
            clear hK K
            try simp only [Act.put, List.setIfInBounds_toArray, List.set_cons_zero, List.set_cons_succ]
            generalize ((wy.setCell ⟨Y, 0, none⟩ (.int .i64 f')).setCell ⟨Y, 1, none⟩ (Value.slice ay g'.length cy)) = wz at *
            refine takeH 9 (v := ?vrdzu1) rfl (by kernel_rfl) (by kernel_rfl) (by kernel_rfl) (fun _ _ _ h => h) hH rfl ?yrdzu1 ?rrdzu1
            case yrdzu1 => intro W hSw; go_simp; try with_reducible rfl
            try simp only [Act.put, List.setIfInBounds_toArray, List.set_cons_zero, List.set_cons_succ]
            refine wpAnyH_done (by kernel_rfl) ?_ _
            try simp only [Act.put]
            generalize (Value.slice ay g'.length cy) = u' at *
            refine ⟨Y, v, f', u', b', g', p2, ?_, hp2, HV.out, SY.out, HO.out, Hnu.out, hgl9⟩
            rfl
        case hq =>
          intro e a w1 hx
          unfold R12 at hx
          cases e <;> first | exact hx.elim | skip
          obtain ⟨Y, v, f', u', b', g', p2, rfl, hp2, hv, sy, ho', hnu, hg41⟩ := hx
          clear HV
          obtain ⟨ay, cy, rfl⟩ := ho'.slice
          have hsz1 := hv.sr.lt
          have HV := Lib.hid hv; have SY := Lib.hid sy; have HO := Lib.hid ho'; have Hnu := Lib.hid hnu
          clear hv sy ho' hnu
          have y0 := SY.out.cell 0 (v := .int .i64 f') rfl
          have y1 := SY.out.cell 1 (v := .slice ay g'.length cy) rfl
          skip
          obtain ⟨fq, hfq⟩ := HO.out.vts
          have HVV := Lib.hid (fun h9 => spec_VoterValid f' g' _ fq w1 h9 hfq)
          have Hbig := Lib.hid (show g'.length ≤ 1099511627776 by omega)
          clear hfq
          go_wp2_with fail
          refine (HVV.out Hbig.out).mono ?_
          rintro e w2 ⟨rfl, hb2⟩
          have HV := Lib.hid (HV.out.below hb2)
          have SY := Lib.hid (show Str w2 Y 25 #[.int .i64 f', .slice ay g'.length cy] from (hb2.block _ SY.out.lt).trans SY.out)
          have HO := Lib.hid (HO.out.below hb2)
          clear hb2 HVV y0 y1
          cases hvb : voterB f' g' with
          | false =>
            have c0 := HV.out.sx.cell 0 (v := .int .i64 q) rfl
            have c1 := HV.out.sx.cell 1 (v := .slice au g.length cu) rfl
            have y0 := SY.out.cell 0 (v := .int .i64 f') rfl
            have y1 := SY.out.cell 1 (v := .slice ay g'.length cy) rfl
            go_wp2
            go_roundw
            case rel => exact ⟨k + 1, p2, _, g, by omega, by go_num, by omega, hg40, HV.out⟩
            case measure => simp [intOf]; omega
          | true =>
          obtain ⟨_, _, hg40'⟩ := voter_len hvb
          have Hvb := Lib.hid hvb; clear hvb
          by_cases hff : f' = q
          case neg =>
            have hff' : (f' == q) = false := by rw [beq_eq_false_iff_ne]; exact hff
            have c0 := HV.out.sx.cell 0 (v := .int .i64 q) rfl
            have c1 := HV.out.sx.cell 1 (v := .slice au g.length cu) rfl
            have y0 := SY.out.cell 0 (v := .int .i64 f') rfl
            have y1 := SY.out.cell 1 (v := .slice ay g'.length cy) rfl
            go_wp2
            go_roundw
            case rel => exact ⟨k + 1, p2, _, g, by omega, by go_num, by omega, hg40, HV.out⟩
            case measure => simp [intOf]; omega
          have hff' : (f' == q) = true := by rw [beq_iff_eq]; exact hff
          have c0 := HV.out.sx.cell 0 (v := .int .i64 q) rfl
          have c1 := HV.out.sx.cell 1 (v := .slice au g.length cu) rfl
          have z0 := HV.out.sx.frozen 0
          have z1 := HV.out.sx.frozen 1
          have y0 := SY.out.cell 0 (v := .int .i64 f') rfl
          have y1 := SY.out.cell 1 (v := .slice ay g'.length cy) rfl
          have HM := Lib.hid (show Vst R w X q p2 ((w2.setCell ⟨X, 0, none⟩ (.int .i64 f')).setCell ⟨X, 1, none⟩ (.slice ay g'.length cy)) (.slice ay g'.length cy) g' by have h9 := HV.out.move (f2 := f') HO.out Hnu.out; rw [hff] at h9 ⊢; exact h9)
          have Hff := Lib.hid hff; clear hff
          go_wp2
          go_roundw
          case rel => exact ⟨k + 1, p2, _, g', by omega, by go_num, by omega, hg40', HM.out⟩
          case measure => simp [intOf]; omega
      · skip
        go_wp2_with fail
        refine (pick_any R 16 p' _ (by omega) HV.out.rd (by have := HV.out.sr.lt; have := HV.out.hR; omega)).mono ?_
        rintro e w5 ⟨s, rfl, hs0, hs1, hr', hg'⟩
        have HV := Lib.hid (HV.out.picked hg' hr')
        clear hr' hg'
        by_cases s0 : s = 0
        case pos =>
          subst s0
          go_wp2_with fail
          refine (pick_any R 35 (p' + 1) _ (by omega) HV.out.rd (by have := HV.out.sr.lt; omega)).mono ?_
          rintro e w6 ⟨z, rfl, hz0, hz1, hr', hg'⟩
          have hsw6 := hg'.size
          have HV := Lib.hid (HV.out.picked hg' hr')
          clear hr' hg'
          have c0 := HV.out.sx.cell 0 (v := .int .i64 q) rfl
          have c1 := HV.out.sx.cell 1 (v := .slice au g.length cu) rfl
          have z0 := HV.out.sx.frozen 0
          have HV0 := HV
          have HV := Lib.hid (HV.out.floor (z - 1))
          have x0 := HV.out.sx.cell 0 (v := .int .i64 (z - 1)) rfl
          have x1 := HV.out.sx.cell 1 (v := .slice au g.length cu) rfl
          have r0 := HV.out.sr.frozen 0
          have r1 := HV.out.sr.frozen 1
          have v0 := HV.out.sr.cell 0 (v := .int .i64 0) rfl
          have v1 := HV.out.sr.cell 1 (v := .slice none 0 0) rfl
          have sF := (HV.out.sr.set 0 (.int .i64 (z - 1))).set 1 (Value.slice au g.length cu)
          have e0 := sF.cell 0 (v := .int .i64 (z - 1)) rfl
          have e1 := sF.cell 1 (v := Value.slice au g.length cu) rfl
          clear sF
          go_wp2
          refine bodyPost_ret (v := .agg #[.int .i64 (z - 1), Value.slice au g.length cu]) (by simp [results, Try.f36, go_sem, e0, e1]) rfl ?_
          exact HV.out.fin rfl (by omega) (by omega) (by have := Hp9.out; omega)
        have s0' : (s == 0) = false := by rw [beq_eq_false_iff_ne]; exact s0
        by_cases s1 : s = 1
        case pos =>
          subst s1
          have c0 := HV.out.sx.cell 0 (v := .int .i64 q) rfl
          have c1 := HV.out.sx.cell 1 (v := .slice au g.length cu) rfl
          go_wp2_with fail
          refine wp_region_L 7 (fun w' => w'.cell? ⟨X, 0, none⟩ = some (.int .i64 q) ∧ w'.cell? ⟨X, 1, none⟩ = some (.slice au g.length cu)) (by kernel_rfl) ⟨c0, c1⟩ (fun hH => ?_)
          have HV := Lib.hid (HV.out.below ((Below.refl _ w5).drew))
          clear c0 c1
          generalize w5.drew = wd at *
          refine takeL 0 (v := ?vrsu1) rfl (by kernel_rfl) (by kernel_rfl) (by kernel_rfl) (by kernel_rfl) (by kernel_rfl) (fun _ _ _ h => h) hH rfl ?yrsu1 ?rrsu1
          case yrsu1 => intro W hSw; go_simp; try with_reducible rfl
          try simp only [Act.put, List.setIfInBounds_toArray, List.set_cons_zero, List.set_cons_succ]
          refine takeL 1 (v := ?vrsu2) rfl (by kernel_rfl) (by kernel_rfl) (by kernel_rfl) (by kernel_rfl) (by kernel_rfl) (fun _ _ _ h => h) hH rfl ?yrsu2 ?rrsu2
          case yrsu2 => intro W hSw; go_simp; try with_reducible rfl
          try simp only [Act.put, List.setIfInBounds_toArray, List.set_cons_zero, List.set_cons_succ]
          refine takeL 2 (v := ?vrsu3) rfl (by kernel_rfl) (by kernel_rfl) (by kernel_rfl) (by kernel_rfl) (by kernel_rfl) (fun _ _ _ h => h) hH rfl ?yrsu3 ?rrsu3
          case yrsu3 => intro W hSw; go_simp; try with_reducible rfl
          try simp only [Act.put, List.setIfInBounds_toArray, List.set_cons_zero, List.set_cons_succ]
          refine callL 3 rfl (by kernel_rfl) rfl (fun K hK => ?_)
          go_simp
          go_at_call 37
          refine (drawVote R (p' + 1) _ (by omega) HV.out.rd (by have := HV.out.sr.lt; have := HV.out.hR; omega)).mono ?_
          rintro e wv ⟨v, p2, rfl, hv1, hv2, hr', hp2, hg'⟩
          have HV := Lib.hid (HV.out.picked hg' hr')
          clear hr' hg' hv1 hv2
          refine hK.out _ _ ⟨HV.out.sx.cell 0 rfl, HV.out.sx.cell 1 rfl⟩ (fun hH => ?_)
          clear hK K
          try simp only [Act.put, List.setIfInBounds_toArray, List.set_cons_zero, List.set_cons_succ]
          refine callL 4 rfl (by kernel_rfl) rfl (fun K hK => ?_)
          go_simp
          have hal : Below wv.heap.size wv (wv.alloc (.cells #[.int .i64 v.r, .int .i64 v.a, .int .i64 v.d] 27)) := (Below.refl _ _).alloc (Nat.le_refl _) _
          have HV := Lib.hid (HV.out.below hal)
          have HS := Lib.hid (srcV_one (Str.new wv 27 #[.int .i64 v.r, .int .i64 v.a, .int .i64 v.d]))
          clear hal
          refine hK.out _ _ ⟨HV.out.sx.cell 0 rfl, HV.out.sx.cell 1 rfl⟩ (fun hH => ?_)
          clear hK K
          try simp only [Act.put, List.setIfInBounds_toArray, List.set_cons_zero, List.set_cons_succ]
          generalize hwa : (wv.alloc (.cells #[.int .i64 v.r, .int .i64 v.a, .int .i64 v.d] 27)) = wa at *
          have Hwa := Lib.hid hwa; clear hwa
          refine callL 5 rfl (by kernel_rfl) rfl (fun K hK => ?_)
          refine op_app_V (.tmp 74) (.tmp 77) rfl w.heap.size _ g [(⟨v.r, v.a, v.d⟩ : Vt)] (some ⟨wv.heap.size, 0, none⟩) 1 rfl HV.out.own rfl (.inr ⟨_, rfl, HS.out⟩) (by simp; omega) (by have := HV.out.sr.lt; omega) ?_
          intro u9 w9 ho9 hg9 hat9
          generalize hgg : g ++ [(⟨v.r, v.a, v.d⟩ : Vt)] = g9 at ho9
          have hl9 : g9.length ≤ 41 := by rw [← hgg]; simp; omega
          clear hgg
          have hg9 : wa.grownBy w9 (Value.slice au g.length cu).ownBlock := hg9
          have hat9 : ∀ b, u9.ownBlock = some b → (Value.slice au g.length cu).ownBlock = some b ∨ wa.heap.size ≤ b := hat9
          obtain ⟨hput, hst⟩ := HV.out.put ho9 hg9 hat9
          have Hst := Lib.hid hst; have Hput := Lib.hid hput; clear hput hst hg9 hat9
          obtain ⟨a9, c9, rfl⟩ := ho9.slice
          have Ho9 := Lib.hid ho9; clear ho9
          refine hK.out _ _ ⟨Hst.out.cell 0 rfl, Hst.out.cell 1 rfl⟩ (fun hH => ?_)
          clear hK K
          try simp only [Act.put, List.setIfInBounds_toArray, List.set_cons_zero, List.set_cons_succ]
          refine takeL 6 (v := ?vrsu4) rfl (by kernel_rfl) (by kernel_rfl) (by kernel_rfl) (by kernel_rfl) (by kernel_rfl) (fun _ _ _ h => h) hH rfl ?yrsu4 ?rrsu4
          case yrsu4 => intro W hSw; go_simp; try with_reducible rfl
          try simp only [Act.put, List.setIfInBounds_toArray, List.set_cons_zero, List.set_cons_succ]
          have k0 := Hst.out.frozen 1
          have k1 := Hst.out.cell 1 (v := .slice au g.length cu) rfl
          refine lastL rfl (by kernel_rfl) (by kernel_rfl) (by kernel_rfl) rfl (fun K hK => ?_)
          go_simp
          refine hK.out _ _ ?_
          clear hK K
          try simp only [Act.put]
          clear k0 k1
          have HV := Hput
          generalize (w9.setCell ⟨X, 1, none⟩ (Value.slice a9 g9.length c9)) = wb at *
          have x0 := HV.out.sx.cell 0 (v := .int .i64 q) rfl
          have x1 := HV.out.sx.cell 1 (v := .slice a9 g9.length c9) rfl
          have r0 := HV.out.sr.frozen 0
          have r1 := HV.out.sr.frozen 1
          have v0 := HV.out.sr.cell 0 (v := .int .i64 0) rfl
          have v1 := HV.out.sr.cell 1 (v := .slice none 0 0) rfl
          have sF := (HV.out.sr.set 0 (.int .i64 (q))).set 1 (Value.slice a9 g9.length c9)
          have e0 := sF.cell 0 (v := .int .i64 (q)) rfl
          have e1 := sF.cell 1 (v := Value.slice a9 g9.length c9) rfl
          clear sF
          go_wp2
          refine bodyPost_ret (v := .agg #[.int .i64 (q), Value.slice a9 g9.length c9]) (by simp [results, Try.f36, go_sem, e0, e1]) rfl ?_
          exact HV.out.fin rfl hl9 (by omega) (by have := Hp9.out; omega)
        have s1' : (s == 1) = false := by rw [beq_eq_false_iff_ne]; exact s1
        have x0 := HV.out.sx.cell 0 (v := .int .i64 q) rfl
        have x1 := HV.out.sx.cell 1 (v := .slice au g.length cu) rfl
        have r0 := HV.out.sr.frozen 0
        have r1 := HV.out.sr.frozen 1
        have v0 := HV.out.sr.cell 0 (v := .int .i64 0) rfl
        have v1 := HV.out.sr.cell 1 (v := .slice none 0 0) rfl
        have sF := (HV.out.sr.set 0 (.int .i64 (q))).set 1 (Value.slice au g.length cu)
        have e0 := sF.cell 0 (v := .int .i64 (q)) rfl
        have e1 := sF.cell 1 (v := Value.slice au g.length cu) rfl
        clear sF
        go_wp2
        refine bodyPost_ret (v := .agg #[.int .i64 (q), Value.slice au g.length cu]) (by simp [results, Try.f36, go_sem, e0, e1]) rfl ?_
        exact HV.out.fin rfl (by omega) (by omega) (by have := Hp9.out; omega)
  subst ht
  go_wp2
  go_loopw [5] (fun i wr => ∃ (k : Nat) (u : Value) (g : List Vt), k ≤ 40 ∧ i = .int .i64 k ∧ g.length = k ∧ Vst R w X q (p + 1 + 1 + 1 + 1) wr u g) (fun i _ => 40 - (intOf i).toNat)
  case atStart => exact ⟨0, _, [], by omega, rfl, rfl, HV.out⟩
  case round =>
    obtain ⟨k, u, g, hk, rfl, hgk, hv⟩ := hrel
    clear HV
    obtain ⟨au, cu, rfl⟩ := hv.own.slice
    have Hgk := Lib.hid hgk
    have hg40 : g.length ≤ 40 := by omega
    clear hgk
    have HV := Lib.hid hv; clear hv
    by_cases hlt : (k : Int) < 40
    · skip
      have c0 := HV.out.sx.cell 0 (v := .int .i64 q) rfl
      have c1 := HV.out.sx.cell 1 (v := .slice au g.length cu) rfl
      have hd7 : (k : Int) / 7 ≤ 5 ∧ 0 ≤ (k : Int) / 7 := by omega
      obtain ⟨hd71, hd72⟩ := hd7
      have hal : Below wr.heap.size wr (wr.alloc (.cells #[.int .i64 (q + (k : Int) / 7), .int .i64 ((k : Int) % 7), .int .i64 (k : Int)] 27)) := (Below.refl _ _).alloc (Nat.le_refl _) _
      have HV := Lib.hid (HV.out.below hal)
      have HS := Lib.hid (srcV_one (Str.new wr 27 #[.int .i64 (q + (k : Int) / 7), .int .i64 ((k : Int) % 7), .int .i64 (k : Int)]))
      clear hal
      go_wp2_with (at_builtin; (refine wpList_app_V rfl (.tmp 26) (.tmp 36) rfl w.heap.size _ g [(⟨q + (k : Int) / 7, (k : Int) % 7, (k : Int)⟩ : Vt)] (some ⟨wr.heap.size, 0, none⟩) 1 rfl HV.out.own rfl (.inr ⟨_, rfl, HS.out⟩) (by simp; omega) (by have := HV.out.sr.lt; omega) ?_); (intro u9 w9 ho9 hg9 hat9); (generalize hgg : g ++ [(⟨q + (k : Int) / 7, (k : Int) % 7, (k : Int)⟩ : Vt)] = g9 at ho9); (have Hgg := Lib.hid hgg); (clear hgg); (obtain ⟨a9, c9, rfl⟩ := ho9.slice); (obtain ⟨Hput, k0, k1⟩ := HV.out.put2 ho9 hg9 hat9))
      go_roundw
      case rel => exact ⟨k + 1, _, g9, by omega, by go_num, by rw [← Hgg.out, List.length_append, Hgk.out]; rfl, Hput.out⟩
      case measure => simp [intOf]; omega
    · skip
      go_wp2_with fail
      refine (pick_any R 2 (p + 1 + 1 + 1 + 1) _ (by omega) HV.out.rd (by have := HV.out.sr.lt; have := HV.out.hR; omega)).mono ?_
      rintro e w5 ⟨n, rfl, hn0, hn1, hr', hg'⟩
      have HV := Lib.hid (HV.out.picked hg' hr')
      clear hr' hg'
      have hn1 : n < 14 ∨ n = 0 := by omega
      obtain ⟨p9, hpp, hp9⟩ : ∃ p9, p + 1 + 1 + 1 + 1 + 1 = p9 ∧ p9 ≤ p + 10 := ⟨_, rfl, by omega⟩
      rw [hpp] at HV
      clear hpp Hgk
      obtain ⟨n, rfl⟩ := Int.eq_ofNat_of_zero_le hn0
      have hn13 : n ≤ 13 := by omega
      clear hn1
      have Hp9 := Lib.hid hp9
      go_wp2
      go_loopw [6] (fun i wr => ∃ (k p' : Nat) (u : Value) (g : List Vt), k ≤ n ∧ i = .int .i64 k ∧ p' ≤ p9 + 8 * k ∧ g.length ≤ 40 ∧ Vst R w X q p' wr u g) (fun i _ => n - (intOf i).toNat)
      case atStart => exact ⟨0, p9, _, g, by omega, rfl, by omega, hg40, HV.out⟩
      case round =>
        clear HV hg40
        obtain ⟨k, p', u, g, hk, rfl, hpk, hg40, hv⟩ := hrel
        obtain ⟨au, cu, rfl⟩ := hv.own.slice
        have hsz := hv.sr.lt
        have hxl := hv.sx.lt
        have HV := Lib.hid hv; clear hv
        by_cases hlt : k < n
        · skip
          have c0 := HV.out.sx.cell 0 (v := .int .i64 q) rfl
          have c1 := HV.out.sx.cell 1 (v := .slice au g.length cu) rfl
          go_wp2_with fail
          skip
          clear c0 c1
          refine Code.wp_mono (Q := R12 ?Fw R w X q p' (Value.slice au g.length cu) g) ?hq ?hc
          case hc =>
            refine wp_region_held_drew (S := fun w' => w'.cell? ⟨X, 0, none⟩ = some (.int .i64 q) ∧ w'.cell? ⟨X, 1, none⟩ = some (.slice au g.length cu)) (by kernel_rfl) ⟨HV.out.sx.cell 0 rfl, HV.out.sx.cell 1 rfl⟩ (fun hH => ?_)
            have HV := Lib.hid (HV.out.below ((Below.refl _ wr).drew))
            have hszd : w.heap.size < wr.drew.heap.size := hsz
            have hxld : X < wr.drew.heap.size := hxl
            generalize wr.drew = wd at *
            refine takeH 0 (v := ?vraw1) rfl (by kernel_rfl) (by kernel_rfl) (by kernel_rfl) (fun _ _ _ h => h) hH rfl ?yraw1 ?rraw1
            case yraw1 => intro W hSw; go_simp; try with_reducible rfl
            try simp only [Act.put, List.setIfInBounds_toArray, List.set_cons_zero, List.set_cons_succ]
            refine takeH 1 (v := ?vraw2) rfl (by kernel_rfl) (by kernel_rfl) (by kernel_rfl) (fun _ _ _ h => h) hH rfl ?yraw2 ?rraw2
            case yraw2 => intro W hSw; go_simp; try with_reducible rfl
            try simp only [Act.put, List.setIfInBounds_toArray, List.set_cons_zero, List.set_cons_succ]
            refine twoH 2 7 rfl rfl (by kernel_rfl) rfl rfl (fun K hK => ?_) (fun K hK => ?_)
            · skip
              go_simp
              go_at_call 37
              refine (drawVote R p' _ (by omega) HV.out.rd (by have := HV.out.sr.lt; have := HV.out.hR; omega)).mono ?_
              rintro e wv ⟨v, p2, rfl, hv1, hv2, hr', hp2, hg'⟩
              have HV := Lib.hid (HV.out.picked hg' hr')
              have hsv := hg'.size
              clear hr' hg' hv1 hv2
              refine hK.out _ _ ⟨HV.out.sx.cell 0 rfl, HV.out.sx.cell 1 rfl⟩ (fun hH => ?_)
              clear hK K
              try simp only [Act.put, List.setIfInBounds_toArray, List.set_cons_zero, List.set_cons_succ]
              refine twoH 3 7 rfl rfl (by kernel_rfl) rfl rfl (fun K hK => ?_) (fun K hK => ?_)
              · skip
                go_simp
                go_at_call 13
                obtain ⟨fq, hfq⟩ := HV.out.own.vts
                refine (spec_VoterSign q g _ fq v.r v.a v.d _ (by omega) hfq).mono ?_
                rintro e wy ⟨u', rfl, hor, hb'⟩
                have hgl9 := Nat.le_trans (sg_short q g ⟨v.r, v.a, v.d⟩) (show g.length + 1 ≤ 41 by omega)
                generalize sgG q g ⟨v.r, v.a, v.d⟩ = g' at *
                generalize sgF q g ⟨v.r, v.a, v.d⟩ = f' at *
                generalize sgB q g ⟨v.r, v.a, v.d⟩ = b' at *
                obtain ⟨ay, cy, rfl⟩ := hor.ownV.slice
                have hsy := hb'.size
                have hsw := HV.out.sr.lt
                have hsX := HV.out.sx.lt
                have Hnu := Lib.hid (show ∀ b, (Value.slice ay g'.length cy).ownBlock = some b → b ≠ X ∧ b ≠ w.heap.size from fun b e => by have h1 := (hor.lt b e).1; omega)
                have HO := Lib.hid (hor.ownV.mono (B' := w.heap.size) (by omega))
                have HV := Lib.hid (HV.out.below hb')
                clear hor hb' hfq
                refine hK.out _ _ ⟨HV.out.sx.cell 0 rfl, HV.out.sx.cell 1 rfl⟩ (fun hH => ?_)
                clear hK K
                try simp only [Act.put, List.setIfInBounds_toArray, List.set_cons_zero, List.set_cons_succ]
                refine takeH 4 (v := ?vrbw1) rfl (by kernel_rfl) (by kernel_rfl) (by kernel_rfl) (fun _ _ _ h => h) hH rfl ?yrbw1 ?rrbw1
                case yrbw1 => intro W hSw; go_simp; try with_reducible rfl
                try simp only [Act.put, List.setIfInBounds_toArray, List.set_cons_zero, List.set_cons_succ]
                refine takeH 5 (v := ?vrbw2) rfl (by kernel_rfl) (by kernel_rfl) (by kernel_rfl) (fun _ _ _ h => h) hH rfl ?yrbw2 ?rrbw2
                case yrbw2 => intro W hSw; go_simp; try with_reducible rfl
                try simp only [Act.put, List.setIfInBounds_toArray, List.set_cons_zero, List.set_cons_succ]
                refine takeH 6 (v := ?vrbw3) rfl (by kernel_rfl) (by kernel_rfl) (by kernel_rfl) (fun _ _ _ h => h) hH rfl ?yrbw3 ?rrbw3
                case yrbw3 => intro W hSw; go_simp; try with_reducible rfl
                try simp only [Act.put, List.setIfInBounds_toArray, List.set_cons_zero, List.set_cons_succ]
                refine callH 7 rfl (by kernel_rfl) rfl (fun K hK => ?_)
                go_simp
                have hal : Below wy.heap.size wy (wy.alloc (.cells #[.int .i64 0, .slice none 0 0] 25)) := (Below.refl _ _).alloc (Nat.le_refl _) _
                have hsw9 := HV.out.sr.lt
                have hsX9 := HV.out.sx.lt
                have SY := Lib.hid (Str.new wy 25 #[.int .i64 0, .slice none 0 0])
                have HgY := Lib.hid (show ∀ b, (Value.slice au g.length cu).ownBlock = some b → b ≠ wy.heap.size from fun b e => by have := (HV.out.own.lt b e).2; omega)
                have HnY := Lib.hid (show ∀ b, (Value.slice ay g'.length cy).ownBlock = some b → b ≠ wy.heap.size from fun b e => by have := (HO.out.lt b e).2; omega)
                have HO := Lib.hid (HO.out.below hal)
                have HV := Lib.hid (HV.out.below hal)
                clear hal
                refine hK.out _ _ ⟨HV.out.sx.cell 0 rfl, HV.out.sx.cell 1 rfl⟩ (fun hH => ?_)
                clear hK K
                try simp only [Act.put, List.setIfInBounds_toArray, List.set_cons_zero, List.set_cons_succ]
                have hYX : wy.heap.size ≠ X := by omega
                have hYw : wy.heap.size ≠ w.heap.size := by omega
                have hYl : w.heap.size ≤ wy.heap.size := by omega
                generalize (wy.alloc (.cells #[.int .i64 0, .slice none 0 0] 25)) = wa at *
                generalize wy.heap.size = Y at *
                have y0 := SY.out.frozen 0
                have y1 := SY.out.frozen 1
                have d0 := SY.out.cell 0 (v := .int .i64 0) rfl
                have d1 := SY.out.cell 1 (v := .slice none 0 0) rfl
                refine callH 8 rfl (by kernel_rfl) rfl (fun K hK => ?_)
                go_simp
                clear y0 y1 d0 d1
                have HV := Lib.hid (HV.out.beside hYX hYw HgY.out hYl (.int .i64 f') (Value.slice ay g'.length cy))
                have SY := Lib.hid ((SY.out.set 0 (.int .i64 f')).set 1 (Value.slice ay g'.length cy))
                have HO := Lib.hid ((HO.out.setc HnY.out 0 (.int .i64 f')).setc HnY.out 1 (Value.slice ay g'.length cy))
                refine hK.out _ _ ⟨HV.out.sx.cell 0 rfl, HV.out.sx.cell 1 rfl⟩ (fun hH => ?_)
                clear hK K
                try simp only [Act.put, List.setIfInBounds_toArray, List.set_cons_zero, List.set_cons_succ]
                generalize ((wa.setCell ⟨Y, 0, none⟩ (.int .i64 f')).setCell ⟨Y, 1, none⟩ (Value.slice ay g'.length cy)) = wz at *
                refine takeH 9 (v := ?vrbzw1) rfl (by kernel_rfl) (by kernel_rfl) (by kernel_rfl) (fun _ _ _ h => h) hH rfl ?yrbzw1 ?rrbzw1
                case yrbzw1 => intro W hSw; go_simp; try with_reducible rfl
                try simp only [Act.put, List.setIfInBounds_toArray, List.set_cons_zero, List.set_cons_succ]
                refine wpAnyH_done (by kernel_rfl) ?_ _
                try simp only [Act.put]
                generalize (Value.slice ay g'.length cy) = u' at *
                refine ⟨Y, v, f', u', b', g', p2, ?_, hp2, HV.out, SY.out, HO.out, Hnu.out, hgl9⟩
                rfl
              · skip
                go_simp
                have hal : Below wv.heap.size wv (wv.alloc (.cells #[.int .i64 0, .slice none 0 0] 25)) := (Below.refl _ _).alloc (Nat.le_refl _) _
                have hsw9 := HV.out.sr.lt
                have hsX9 := HV.out.sx.lt
                have SY := Lib.hid (Str.new wv 25 #[.int .i64 0, .slice none 0 0])
                have HgY := Lib.hid (show ∀ b, (Value.slice au g.length cu).ownBlock = some b → b ≠ wv.heap.size from fun b e => by have := (HV.out.own.lt b e).2; omega)
                have HV := Lib.hid (HV.out.below hal)
                clear hal
                refine hK.out _ _ ⟨HV.out.sx.cell 0 rfl, HV.out.sx.cell 1 rfl⟩ (fun hH => ?_)
                clear hK K
                try simp only [Act.put, List.setIfInBounds_toArray, List.set_cons_zero, List.set_cons_succ]
                have hYX : wv.heap.size ≠ X := by omega
                have hYw : wv.heap.size ≠ w.heap.size := by omega
                have hYl : w.heap.size ≤ wv.heap.size := by omega
                generalize (wv.alloc (.cells #[.int .i64 0, .slice none 0 0] 25)) = wa at *
                generalize wv.heap.size = Y at *
                refine callH 3 rfl (by kernel_rfl) rfl (fun K hK => ?_)
                go_simp
                go_at_call 13
                obtain ⟨fq, hfq⟩ := HV.out.own.vts
                refine (spec_VoterSign q g _ fq v.r v.a v.d _ (by omega) hfq).mono ?_
                rintro e wy ⟨u', rfl, hor, hb'⟩
                have hgl9 := Nat.le_trans (sg_short q g ⟨v.r, v.a, v.d⟩) (show g.length + 1 ≤ 41 by omega)
                generalize sgG q g ⟨v.r, v.a, v.d⟩ = g' at *
                generalize sgF q g ⟨v.r, v.a, v.d⟩ = f' at *
                generalize sgB q g ⟨v.r, v.a, v.d⟩ = b' at *
                obtain ⟨ay, cy, rfl⟩ := hor.ownV.slice
                have hsy := hb'.size
                have hsw := HV.out.sr.lt
                have hsX := HV.out.sx.lt
                have Hnu := Lib.hid (show ∀ b, (Value.slice ay g'.length cy).ownBlock = some b → b ≠ X ∧ b ≠ w.heap.size from fun b e => by have h1 := (hor.lt b e).1; omega)
                have HnY := Lib.hid (show ∀ b, (Value.slice ay g'.length cy).ownBlock = some b → b ≠ Y from fun b e => by have h1 := (hor.lt b e).1; have := SY.out.lt; omega)
                have SY := Lib.hid (show Str wy Y 25 #[.int .i64 0, .slice none 0 0] from (hb'.block _ SY.out.lt).trans SY.out)
                have HO := Lib.hid (hor.ownV.mono (B' := w.heap.size) (by omega))
                have HV := Lib.hid (HV.out.below hb')
                clear hor hb' hfq
                refine hK.out _ _ ⟨HV.out.sx.cell 0 rfl, HV.out.sx.cell 1 rfl⟩ (fun hH => ?_)
                clear hK K
                try simp only [Act.put, List.setIfInBounds_toArray, List.set_cons_zero, List.set_cons_succ]
                refine takeH 4 (v := ?vrcw1) rfl (by kernel_rfl) (by kernel_rfl) (by kernel_rfl) (fun _ _ _ h => h) hH rfl ?yrcw1 ?rrcw1
                case yrcw1 => intro W hSw; go_simp; try with_reducible rfl
                try simp only [Act.put, List.setIfInBounds_toArray, List.set_cons_zero, List.set_cons_succ]
                refine takeH 5 (v := ?vrcw2) rfl (by kernel_rfl) (by kernel_rfl) (by kernel_rfl) (fun _ _ _ h => h) hH rfl ?yrcw2 ?rrcw2
                case yrcw2 => intro W hSw; go_simp; try with_reducible rfl
                try simp only [Act.put, List.setIfInBounds_toArray, List.set_cons_zero, List.set_cons_succ]
                refine takeH 6 (v := ?vrcw3) rfl (by kernel_rfl) (by kernel_rfl) (by kernel_rfl) (fun _ _ _ h => h) hH rfl ?yrcw3 ?rrcw3
                case yrcw3 => intro W hSw; go_simp; try with_reducible rfl
                try simp only [Act.put, List.setIfInBounds_toArray, List.set_cons_zero, List.set_cons_succ]
                have y0 := SY.out.frozen 0
                have y1 := SY.out.frozen 1
                have d0 := SY.out.cell 0 (v := .int .i64 0) rfl
                have d1 := SY.out.cell 1 (v := .slice none 0 0) rfl
                refine callH 8 rfl (by kernel_rfl) rfl (fun K hK => ?_)
                go_simp
                clear y0 y1 d0 d1
                have HV := Lib.hid (HV.out.beside hYX hYw HgY.out hYl (.int .i64 f') (Value.slice ay g'.length cy))
                have SY := Lib.hid ((SY.out.set 0 (.int .i64 f')).set 1 (Value.slice ay g'.length cy))
                have HO := Lib.hid ((HO.out.setc HnY.out 0 (.int .i64 f')).setc HnY.out 1 (Value.slice ay g'.length cy))
                refine hK.out _ _ ⟨HV.out.sx.cell 0 rfl, HV.out.sx.cell 1 rfl⟩ (fun hH => ?_)
                clear hK K
                try simp only [Act.put, List.setIfInBounds_toArray, List.set_cons_zero, List.set_cons_succ]
                generalize ((wy.setCell ⟨Y, 0, none⟩ (.int .i64 f')).setCell ⟨Y, 1, none⟩ (Value.slice ay g'.length cy)) = wz at *
                refine takeH 9 (v := ?vrczw1) rfl (by kernel_rfl) (by kernel_rfl) (by kernel_rfl) (fun _ _ _ h => h) hH rfl ?yrczw1 ?rrczw1
                case yrczw1 => intro W hSw; go_simp; try with_reducible rfl
                try simp only [Act.put, List.setIfInBounds_toArray, List.set_cons_zero, List.set_cons_succ]
                refine wpAnyH_done (by kernel_rfl) ?_ _
                try simp only [Act.put]
                generalize (Value.slice ay g'.length cy) = u' at *
                refine ⟨Y, v, f', u', b', g', p2, ?_, hp2, HV.out, SY.out, HO.out, Hnu.out, hgl9⟩
                rfl
            · skip
              go_simp
              have hal : Below wd.heap.size wd (wd.alloc (.cells #[.int .i64 0, .slice none 0 0] 25)) := (Below.refl _ _).alloc (Nat.le_refl _) _
              have hsw9 := HV.out.sr.lt
              have hsX9 := HV.out.sx.lt
              have SY := Lib.hid (Str.new wd 25 #[.int .i64 0, .slice none 0 0])
              have HgY := Lib.hid (show ∀ b, (Value.slice au g.length cu).ownBlock = some b → b ≠ wd.heap.size from fun b e => by have := (HV.out.own.lt b e).2; omega)
              have HV := Lib.hid (HV.out.below hal)
              clear hal
              refine hK.out _ _ ⟨HV.out.sx.cell 0 rfl, HV.out.sx.cell 1 rfl⟩ (fun hH => ?_)
              clear hK K
              try simp only [Act.put, List.setIfInBounds_toArray, List.set_cons_zero, List.set_cons_succ]
              have hYX : wd.heap.size ≠ X := by omega
              have hYw : wd.heap.size ≠ w.heap.size := by omega
              have hYl : w.heap.size ≤ wd.heap.size := by omega
              generalize (wd.alloc (.cells #[.int .i64 0, .slice none 0 0] 25)) = wa at *
              generalize wd.heap.size = Y at *
              refine callH 2 rfl (by kernel_rfl) rfl (fun K hK => ?_)
              go_simp
              go_at_call 37
              refine (drawVote R p' _ (by omega) HV.out.rd (by have := HV.out.sr.lt; have := HV.out.hR; omega)).mono ?_
              rintro e wv ⟨v, p2, rfl, hv1, hv2, hr', hp2, hg'⟩
              have HV := Lib.hid (HV.out.picked hg' hr')
              have hsv := hg'.size
              have SY := Lib.hid (SY.out.kept hg' (by have := HV.out.hR; simp; omega))
              clear hr' hg' hv1 hv2
              refine hK.out _ _ ⟨HV.out.sx.cell 0 rfl, HV.out.sx.cell 1 rfl⟩ (fun hH => ?_)
              clear hK K
              try simp only [Act.put, List.setIfInBounds_toArray, List.set_cons_zero, List.set_cons_succ]
              refine callH 3 rfl (by kernel_rfl) rfl (fun K hK => ?_)
              go_simp
              go_at_call 13
              obtain ⟨fq, hfq⟩ := HV.out.own.vts
              refine (spec_VoterSign q g _ fq v.r v.a v.d _ (by omega) hfq).mono ?_
              rintro e wy ⟨u', rfl, hor, hb'⟩
              have hgl9 := Nat.le_trans (sg_short q g ⟨v.r, v.a, v.d⟩) (show g.length + 1 ≤ 41 by omega)
              generalize sgG q g ⟨v.r, v.a, v.d⟩ = g' at *
              generalize sgF q g ⟨v.r, v.a, v.d⟩ = f' at *
              generalize sgB q g ⟨v.r, v.a, v.d⟩ = b' at *
              obtain ⟨ay, cy, rfl⟩ := hor.ownV.slice
              have hsy := hb'.size
              have hsw := HV.out.sr.lt
              have hsX := HV.out.sx.lt
              have Hnu := Lib.hid (show ∀ b, (Value.slice ay g'.length cy).ownBlock = some b → b ≠ X ∧ b ≠ w.heap.size from fun b e => by have h1 := (hor.lt b e).1; omega)
              have HnY := Lib.hid (show ∀ b, (Value.slice ay g'.length cy).ownBlock = some b → b ≠ Y from fun b e => by have h1 := (hor.lt b e).1; have := SY.out.lt; omega)
              have SY := Lib.hid (show Str wy Y 25 #[.int .i64 0, .slice none 0 0] from (hb'.block _ SY.out.lt).trans SY.out)
              have HO := Lib.hid (hor.ownV.mono (B' := w.heap.size) (by omega))
              have HV := Lib.hid (HV.out.below hb')
              clear hor hb' hfq
              refine hK.out _ _ ⟨HV.out.sx.cell 0 rfl, HV.out.sx.cell 1 rfl⟩ (fun hH => ?_)
              clear hK K
              try simp only [Act.put, List.setIfInBounds_toArray, List.set_cons_zero, List.set_cons_succ]
              refine takeH 4 (v := ?vrdw1) rfl (by kernel_rfl) (by kernel_rfl) (by kernel_rfl) (fun _ _ _ h => h) hH rfl ?yrdw1 ?rrdw1
              case yrdw1 => intro W hSw; go_simp; try with_reducible rfl
              try simp only [Act.put, List.setIfInBounds_toArray, List.set_cons_zero, List.set_cons_succ]
              refine takeH 5 (v := ?vrdw2) rfl (by kernel_rfl) (by kernel_rfl) (by kernel_rfl) (fun _ _ _ h => h) hH rfl ?yrdw2 ?rrdw2
              case yrdw2 => intro W hSw; go_simp; try with_reducible rfl
              try simp only [Act.put, List.setIfInBounds_toArray, List.set_cons_zero, List.set_cons_succ]
              refine takeH 6 (v := ?vrdw3) rfl (by kernel_rfl) (by kernel_rfl) (by kernel_rfl) (fun _ _ _ h => h) hH rfl ?yrdw3 ?rrdw3
              case yrdw3 => intro W hSw; go_simp; try with_reducible rfl
              try simp only [Act.put, List.setIfInBounds_toArray, List.set_cons_zero, List.set_cons_succ]
              have y0 := SY.out.frozen 0
              have y1 := SY.out.frozen 1
              have d0 := SY.out.cell 0 (v := .int .i64 0) rfl
              have d1 := SY.out.cell 1 (v := .slice none 0 0) rfl
              refine callH 8 rfl (by kernel_rfl) rfl (fun K hK => ?_)
              go_simp
              clear y0 y1 d0 d1
              have HV := Lib.hid (HV.out.beside hYX hYw HgY.out hYl (.int .i64 f') (Value.slice ay g'.length cy))
              have SY := Lib.hid ((SY.out.set 0 (.int .i64 f')).set 1 (Value.slice ay g'.length cy))
              have HO := Lib.hid ((HO.out.setc HnY.out 0 (.int .i64 f')).setc HnY.out 1 (Value.slice ay g'.length cy))
              refine hK.out _ _ ⟨HV.out.sx.cell 0 rfl, HV.out.sx.cell 1 rfl⟩ (fun hH => ?_)
              clear hK K
              try simp only [Act.put, List.setIfInBounds_toArray, List.set_cons_zero, List.set_cons_succ]
              generalize ((wy.setCell ⟨Y, 0, none⟩ (.int .i64 f')).setCell ⟨Y, 1, none⟩ (Value.slice ay g'.length cy)) = wz at *
              refine takeH 9 (v := ?vrdzw1) rfl (by kernel_rfl) (by kernel_rfl) (by kernel_rfl) (fun _ _ _ h => h) hH rfl ?yrdzw1 ?rrdzw1
              case yrdzw1 => intro W hSw; go_simp; try with_reducible rfl
              try simp only [Act.put, List.setIfInBounds_toArray, List.set_cons_zero, List.set_cons_succ]
              refine wpAnyH_done (by kernel_rfl) ?_ _
              try simp only [Act.put]
              generalize (Value.slice ay g'.length cy) = u' at *
              refine ⟨Y, v, f', u', b', g', p2, ?_, hp2, HV.out, SY.out, HO.out, Hnu.out, hgl9⟩
              rfl
          case hq =>
            intro e a w1 hx
            unfold R12 at hx
            cases e <;> first | exact hx.elim | skip
            obtain ⟨Y, v, f', u', b', g', p2, rfl, hp2, hv, sy, ho', hnu, hg41⟩ := hx
            clear HV
            obtain ⟨ay, cy, rfl⟩ := ho'.slice
            have hsz1 := hv.sr.lt
            have HV := Lib.hid hv; have SY := Lib.hid sy; have HO := Lib.hid ho'; have Hnu := Lib.hid hnu
            clear hv sy ho' hnu
            have y0 := SY.out.cell 0 (v := .int .i64 f') rfl
            have y1 := SY.out.cell 1 (v := .slice ay g'.length cy) rfl
            skip
            obtain ⟨fq, hfq⟩ := HO.out.vts
            have HVV := Lib.hid (fun h9 => spec_VoterValid f' g' _ fq w1 h9 hfq)
            have Hbig := Lib.hid (show g'.length ≤ 1099511627776 by omega)
            clear hfq
            go_wp2_with fail
            refine (HVV.out Hbig.out).mono ?_
            rintro e w2 ⟨rfl, hb2⟩
            have HV := Lib.hid (HV.out.below hb2)
            have SY := Lib.hid (show Str w2 Y 25 #[.int .i64 f', .slice ay g'.length cy] from (hb2.block _ SY.out.lt).trans SY.out)
            have HO := Lib.hid (HO.out.below hb2)
            clear hb2 HVV y0 y1
            cases hvb : voterB f' g' with
            | false =>
              have c0 := HV.out.sx.cell 0 (v := .int .i64 q) rfl
              have c1 := HV.out.sx.cell 1 (v := .slice au g.length cu) rfl
              have y0 := SY.out.cell 0 (v := .int .i64 f') rfl
              have y1 := SY.out.cell 1 (v := .slice ay g'.length cy) rfl
              go_wp2
              go_roundw
              case rel => exact ⟨k + 1, p2, _, g, by omega, by go_num, by omega, hg40, HV.out⟩
              case measure => simp [intOf]; omega
            | true =>
            obtain ⟨_, _, hg40'⟩ := voter_len hvb
            have Hvb := Lib.hid hvb; clear hvb
            by_cases hff : f' = q
            case neg =>
              have hff' : (f' == q) = false := by rw [beq_eq_false_iff_ne]; exact hff
              have c0 := HV.out.sx.cell 0 (v := .int .i64 q) rfl
              have c1 := HV.out.sx.cell 1 (v := .slice au g.length cu) rfl
              have y0 := SY.out.cell 0 (v := .int .i64 f') rfl
              have y1 := SY.out.cell 1 (v := .slice ay g'.length cy) rfl
              go_wp2
              go_roundw
              case rel => exact ⟨k + 1, p2, _, g, by omega, by go_num, by omega, hg40, HV.out⟩
              case measure => simp [intOf]; omega
            have hff' : (f' == q) = true := by rw [beq_iff_eq]; exact hff
            have c0 := HV.out.sx.cell 0 (v := .int .i64 q) rfl
            have c1 := HV.out.sx.cell 1 (v := .slice au g.length cu) rfl
            have z0 := HV.out.sx.frozen 0
            have z1 := HV.out.sx.frozen 1
            have y0 := SY.out.cell 0 (v := .int .i64 f') rfl
            have y1 := SY.out.cell 1 (v := .slice ay g'.length cy) rfl
            have HM := Lib.hid (show Vst R w X q p2 ((w2.setCell ⟨X, 0, none⟩ (.int .i64 f')).setCell ⟨X, 1, none⟩ (.slice ay g'.length cy)) (.slice ay g'.length cy) g' by have h9 := HV.out.move (f2 := f') HO.out Hnu.out; rw [hff] at h9 ⊢; exact h9)
            have Hff := Lib.hid hff; clear hff
            go_wp2
            go_roundw
            case rel => exact ⟨k + 1, p2, _, g', by omega, by go_num, by omega, hg40', HM.out⟩
            case measure => simp [intOf]; omega
        · skip
          go_wp2_with fail
          refine (pick_any R 16 p' _ (by omega) HV.out.rd (by have := HV.out.sr.lt; have := HV.out.hR; omega)).mono ?_
          rintro e w5 ⟨s, rfl, hs0, hs1, hr', hg'⟩
          have HV := Lib.hid (HV.out.picked hg' hr')
          clear hr' hg'
          by_cases s0 : s = 0
          case pos =>
            subst s0
            go_wp2_with fail
            refine (pick_any R 35 (p' + 1) _ (by omega) HV.out.rd (by have := HV.out.sr.lt; omega)).mono ?_
            rintro e w6 ⟨z, rfl, hz0, hz1, hr', hg'⟩
            have hsw6 := hg'.size
            have HV := Lib.hid (HV.out.picked hg' hr')
            clear hr' hg'
            have c0 := HV.out.sx.cell 0 (v := .int .i64 q) rfl
            have c1 := HV.out.sx.cell 1 (v := .slice au g.length cu) rfl
            have z0 := HV.out.sx.frozen 0
            have HV0 := HV
            have HV := Lib.hid (HV.out.floor (z - 1))
            have x0 := HV.out.sx.cell 0 (v := .int .i64 (z - 1)) rfl
            have x1 := HV.out.sx.cell 1 (v := .slice au g.length cu) rfl
            have r0 := HV.out.sr.frozen 0
            have r1 := HV.out.sr.frozen 1
            have v0 := HV.out.sr.cell 0 (v := .int .i64 0) rfl
            have v1 := HV.out.sr.cell 1 (v := .slice none 0 0) rfl
            have sF := (HV.out.sr.set 0 (.int .i64 (z - 1))).set 1 (Value.slice au g.length cu)
            have e0 := sF.cell 0 (v := .int .i64 (z - 1)) rfl
            have e1 := sF.cell 1 (v := Value.slice au g.length cu) rfl
            clear sF
            go_wp2
            refine bodyPost_ret (v := .agg #[.int .i64 (z - 1), Value.slice au g.length cu]) (by simp [results, Try.f36, go_sem, e0, e1]) rfl ?_
            exact HV.out.fin rfl (by omega) (by omega) (by have := Hp9.out; omega)
          have s0' : (s == 0) = false := by rw [beq_eq_false_iff_ne]; exact s0
          by_cases s1 : s = 1
          case pos =>
            subst s1
            have c0 := HV.out.sx.cell 0 (v := .int .i64 q) rfl
            have c1 := HV.out.sx.cell 1 (v := .slice au g.length cu) rfl
            go_wp2_with fail
            refine wp_region_L 7 (fun w' => w'.cell? ⟨X, 0, none⟩ = some (.int .i64 q) ∧ w'.cell? ⟨X, 1, none⟩ = some (.slice au g.length cu)) (by kernel_rfl) ⟨c0, c1⟩ (fun hH => ?_)
            have HV := Lib.hid (HV.out.below ((Below.refl _ w5).drew))
            clear c0 c1
            generalize w5.drew = wd at *
            refine takeL 0 (v := ?vrsw1) rfl (by kernel_rfl) (by kernel_rfl) (by kernel_rfl) (by kernel_rfl) (by kernel_rfl) (fun _ _ _ h => h) hH rfl ?yrsw1 ?rrsw1
            case yrsw1 => intro W hSw; go_simp; try with_reducible rfl
            try simp only [Act.put, List.setIfInBounds_toArray, List.set_cons_zero, List.set_cons_succ]
            refine takeL 1 (v := ?vrsw2) rfl (by kernel_rfl) (by kernel_rfl) (by kernel_rfl) (by kernel_rfl) (by kernel_rfl) (fun _ _ _ h => h) hH rfl ?yrsw2 ?rrsw2
            case yrsw2 => intro W hSw; go_simp; try with_reducible rfl
            try simp only [Act.put, List.setIfInBounds_toArray, List.set_cons_zero, List.set_cons_succ]
            refine takeL 2 (v := ?vrsw3) rfl (by kernel_rfl) (by kernel_rfl) (by kernel_rfl) (by kernel_rfl) (by kernel_rfl) (fun _ _ _ h => h) hH rfl ?yrsw3 ?rrsw3
            case yrsw3 => intro W hSw; go_simp; try with_reducible rfl
            try simp only [Act.put, List.setIfInBounds_toArray, List.set_cons_zero, List.set_cons_succ]
            refine callL 3 rfl (by kernel_rfl) rfl (fun K hK => ?_)
            go_simp
            go_at_call 37
            refine (drawVote R (p' + 1) _ (by omega) HV.out.rd (by have := HV.out.sr.lt; have := HV.out.hR; omega)).mono ?_
            rintro e wv ⟨v, p2, rfl, hv1, hv2, hr', hp2, hg'⟩
            have HV := Lib.hid (HV.out.picked hg' hr')
            clear hr' hg' hv1 hv2
            refine hK.out _ _ ⟨HV.out.sx.cell 0 rfl, HV.out.sx.cell 1 rfl⟩ (fun hH => ?_)
            clear hK K
            try simp only [Act.put, List.setIfInBounds_toArray, List.set_cons_zero, List.set_cons_succ]
            refine callL 4 rfl (by kernel_rfl) rfl (fun K hK => ?_)
            go_simp
            have hal : Below wv.heap.size wv (wv.alloc (.cells #[.int .i64 v.r, .int .i64 v.a, .int .i64 v.d] 27)) := (Below.refl _ _).alloc (Nat.le_refl _) _
            have HV := Lib.hid (HV.out.below hal)
            have HS := Lib.hid (srcV_one (Str.new wv 27 #[.int .i64 v.r, .int .i64 v.a, .int .i64 v.d]))
            clear hal
            refine hK.out _ _ ⟨HV.out.sx.cell 0 rfl, HV.out.sx.cell 1 rfl⟩ (fun hH => ?_)
            clear hK K
            try simp only [Act.put, List.setIfInBounds_toArray, List.set_cons_zero, List.set_cons_succ]
            generalize hwa : (wv.alloc (.cells #[.int .i64 v.r, .int .i64 v.a, .int .i64 v.d] 27)) = wa at *
            have Hwa := Lib.hid hwa; clear hwa
            refine callL 5 rfl (by kernel_rfl) rfl (fun K hK => ?_)
            refine op_app_V (.tmp 74) (.tmp 77) rfl w.heap.size _ g [(⟨v.r, v.a, v.d⟩ : Vt)] (some ⟨wv.heap.size, 0, none⟩) 1 rfl HV.out.own rfl (.inr ⟨_, rfl, HS.out⟩) (by simp; omega) (by have := HV.out.sr.lt; omega) ?_
            intro u9 w9 ho9 hg9 hat9
            generalize hgg : g ++ [(⟨v.r, v.a, v.d⟩ : Vt)] = g9 at ho9
            have hl9 : g9.length ≤ 41 := by rw [← hgg]; simp; omega
            clear hgg
            have hg9 : wa.grownBy w9 (Value.slice au g.length cu).ownBlock := hg9
            have hat9 : ∀ b, u9.ownBlock = some b → (Value.slice au g.length cu).ownBlock = some b ∨ wa.heap.size ≤ b := hat9
            obtain ⟨hput, hst⟩ := HV.out.put ho9 hg9 hat9
            have Hst := Lib.hid hst; have Hput := Lib.hid hput; clear hput hst hg9 hat9
            obtain ⟨a9, c9, rfl⟩ := ho9.slice
            have Ho9 := Lib.hid ho9; clear ho9
            refine hK.out _ _ ⟨Hst.out.cell 0 rfl, Hst.out.cell 1 rfl⟩ (fun hH => ?_)
            clear hK K
            try simp only [Act.put, List.setIfInBounds_toArray, List.set_cons_zero, List.set_cons_succ]
            refine takeL 6 (v := ?vrsw4) rfl (by kernel_rfl) (by kernel_rfl) (by kernel_rfl) (by kernel_rfl) (by kernel_rfl) (fun _ _ _ h => h) hH rfl ?yrsw4 ?rrsw4
            case yrsw4 => intro W hSw; go_simp; try with_reducible rfl
            try simp only [Act.put, List.setIfInBounds_toArray, List.set_cons_zero, List.set_cons_succ]
            have k0 := Hst.out.frozen 1
            have k1 := Hst.out.cell 1 (v := .slice au g.length cu) rfl
            refine lastL rfl (by kernel_rfl) (by kernel_rfl) (by kernel_rfl) rfl (fun K hK => ?_)
            go_simp
            refine hK.out _ _ ?_
            clear hK K
            try simp only [Act.put]
            clear k0 k1
            have HV := Hput
            generalize (w9.setCell ⟨X, 1, none⟩ (Value.slice a9 g9.length c9)) = wb at *
            have x0 := HV.out.sx.cell 0 (v := .int .i64 q) rfl
            have x1 := HV.out.sx.cell 1 (v := .slice a9 g9.length c9) rfl
            have r0 := HV.out.sr.frozen 0
            have r1 := HV.out.sr.frozen 1
            have v0 := HV.out.sr.cell 0 (v := .int .i64 0) rfl
            have v1 := HV.out.sr.cell 1 (v := .slice none 0 0) rfl
            have sF := (HV.out.sr.set 0 (.int .i64 (q))).set 1 (Value.slice a9 g9.length c9)
            have e0 := sF.cell 0 (v := .int .i64 (q)) rfl
            have e1 := sF.cell 1 (v := Value.slice a9 g9.length c9) rfl
            clear sF
            go_wp2
            refine bodyPost_ret (v := .agg #[.int .i64 (q), Value.slice a9 g9.length c9]) (by simp [results, Try.f36, go_sem, e0, e1]) rfl ?_
            exact HV.out.fin rfl hl9 (by omega) (by have := Hp9.out; omega)
          have s1' : (s == 1) = false := by rw [beq_eq_false_iff_ne]; exact s1
          have x0 := HV.out.sx.cell 0 (v := .int .i64 q) rfl
          have x1 := HV.out.sx.cell 1 (v := .slice au g.length cu) rfl
          have r0 := HV.out.sr.frozen 0
          have r1 := HV.out.sr.frozen 1
          have v0 := HV.out.sr.cell 0 (v := .int .i64 0) rfl
          have v1 := HV.out.sr.cell 1 (v := .slice none 0 0) rfl
          have sF := (HV.out.sr.set 0 (.int .i64 (q))).set 1 (Value.slice au g.length cu)
          have e0 := sF.cell 0 (v := .int .i64 (q)) rfl
          have e1 := sF.cell 1 (v := Value.slice au g.length cu) rfl
          clear sF
          go_wp2
          refine bodyPost_ret (v := .agg #[.int .i64 (q), Value.slice au g.length cu]) (by simp [results, Try.f36, go_sem, e0, e1]) rfl ?_
          exact HV.out.fin rfl (by omega) (by omega) (by have := Hp9.out; omega)

end Go.Proofs.Ytkndndcjchlpdaa
