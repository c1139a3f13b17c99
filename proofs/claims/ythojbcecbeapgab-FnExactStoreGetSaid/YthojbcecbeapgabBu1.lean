/- Texts that the laws of this folder share, one behind another; no conditions. -/
import Derived.Test.YthojbcecbeapgabRows
import Derived.Test.YthojbcecbeapgabBu0
import Derived.Deep.QuietTactic
import Derived.BigQuiet
import Derived.Maps.AppendAt
import Derived.RangeFuncNested
import Derived.RangeFuncBound
import Derived.RangeFuncCalls
import Derived.RangeFuncLeaves
import Derived.Shelf.Abstract
import Derived.Shelf.RegionOpen
import Derived.WalkKit
import Derived.OwnWalkIn
import Derived.TacticsInMore
import Derived.LoopNIn
import Derived.LoopIn
import Derived.Deep.RegionHeld3

/- The exact laws' functions on stores: sameness, copies, sizes, marks, each by a walk of its text; conditions: the lists are no longer than the laws' bound. -/
namespace Go.Proofs.Ythojbcecbeapgab
open Go.RowKit

theorem ownR_set {E Ei : TypeId} {sz : Nat} {w : World} {B hi : Nat} {v : Value} {es : List (List Fd)} (h : OwnR E Ei sz w B hi v es) {g' : Nat} (hs : hi ≤ w.heap.size) (hg : g' < B) (j : Nat) (u : Value) : OwnR E Ei sz (w.setCell ⟨g', j, none⟩ u) B hi v es :=
  h.same fun g h1 h2 => (grownBy_set w g' j u).block g (by omega) (by simp; omega)

set_option maxRecDepth 8000 in
/-- A Store that came in by value. -/
theorem open_Store {H : Type} {enc : TypeId × Value → H} {W : World} {base : Nat} {v : Value} {d : DataW H} {p : List MemPlace} (hv : Value.okWide Try.prog W .any base 41 v) (h : DataW.Trod enc Try.prog W 0 (fun _ => true) true 41 v d p) :
    ∃ x0 v1 es1 fp1, v = .agg #[.int .i64 x0, v1] ∧ (-9223372036854775808 ≤ x0 ∧ x0 ≤ 9223372036854775807) ∧ Rd W (rowsD es1) v1 fp1 ∧ es1.length ≤ maxLen ∧ ∀ e ∈ es1, batchP e ∧ fitE e := by
  obtain ⟨cs, rfl, hl, hf⟩ := open_struct (Gs := [IntG, RowsG [IntG, IntG, IntG, IntG]]) Try.underlying41 (by kernel_rfl) rfl (fun j h h' => by
    match j, h, h' with
    | 0, _, _ => exact ⟨rfl, opens_int Try.underlying3 (by kernel_rfl)⟩
    | 1, _, _ => exact ⟨rfl, opens_slice_struct (Gs := [IntG, IntG, IntG, IntG]) Try.underlying39 (by kernel_rfl) Try.underlying46 (by kernel_rfl) (Nat.zero_lt_succ _) rfl (fun j h h' => by
      match j, h, h' with
      | 0, _, _ => exact ⟨rfl, opens_int Try.underlying3 (by kernel_rfl)⟩
      | 1, _, _ => exact ⟨rfl, opens_int Try.underlying3 (by kernel_rfl)⟩
      | 2, _, _ => exact ⟨rfl, opens_int Try.underlying3 (by kernel_rfl)⟩
      | 3, _, _ => exact ⟨rfl, opens_int Try.underlying3 (by kernel_rfl)⟩)⟩) hv h
  match cs, hl with
  | [u0, u1], _ =>
    obtain ⟨d0, f0, r0, x0, rfl, b0⟩ := hf 0 (by simp) (by simp)
    obtain ⟨rfl, _⟩ := Rd.int (show Rd W (.i x0) u0 f0 from r0)
    obtain ⟨d1, f1, r1, g1⟩ := hf 1 (by simp) (by simp)
    obtain ⟨es, rfl, hl, hp⟩ := rows_of g1 (P := fun e => batchP e ∧ fitE e) (fun e he hf => by
      match e, he with
      | [d0, d1, d2, d3], _ =>
        obtain ⟨x0, rfl, b0⟩ := hf 0 (by simp) (by simp)
        obtain ⟨x1, rfl, b1⟩ := hf 1 (by simp) (by simp)
        obtain ⟨x2, rfl, b2⟩ := hf 2 (by simp) (by simp)
        obtain ⟨x3, rfl, b3⟩ := hf 3 (by simp) (by simp)
        exact ⟨[.i x0, .i x1, .i x2, .i x3], rfl, ⟨x0, x1, x2, x3, rfl⟩, fun _ hx => by
          simp at hx
          rcases hx with rfl | rfl | rfl | rfl
          · exact b0
          · exact b1
          · exact b2
          · exact b3, fun _ hx => by simp at hx⟩)
    exact ⟨x0, u1, es, f1, rfl, b0, r1, hl, hp⟩

theorem laws_eqStoreR (x0 : Int) (es : List (List Fd)) (v v' : Value) (fp fp' : List Nat) (w : World) (hbig : es.length ≤ 1099511627776) (hp : ∀ e ∈ es, batchP e) (hl : ∀ e ∈ es, lnE e ≤ 1099511627776) (hr : Rd w (rowsD es) v fp) (hr' : Rd w (rowsD es) v' fp') :
    Calls Try.prog 22 #[.agg #[.int .i64 x0, v], .agg #[.int .i64 x0, v']] w fun e w' => e = .returned (.bool true) ∧ Below w.heap.size w w' := by
  obtain ⟨a, cap, rfl⟩ := Rd.slice hr
  obtain ⟨a', cap', rfl⟩ := Rd.slice hr'
  rw [List.length_map] at *
  generalize hv : Value.slice a es.length cap = v at *
  generalize hv' : Value.slice a' es.length cap' = v' at *
  have hb : Below w.heap.size w ((w.alloc (.cells #[.int .i64 x0, v] 25)).alloc (.cells #[.int .i64 x0, v'] 25)) := ((Below.refl _ w).alloc (Nat.le_refl _) _).alloc (by simp) _
  have s0 := (Str.new w 25 #[.int .i64 x0, v]).alloc (.cells #[.int .i64 x0, v'] 25)
  have s1 := Str.new (w.alloc (.cells #[.int .i64 x0, v] 25)) 25 #[.int .i64 x0, v']
  simp only [World.size_alloc] at s1
  have k0 := s0.cell 0 (v := .int .i64 x0) rfl
  have k1 := s0.cell 1 (v := v) rfl
  have j0 := s1.cell 0 (v := .int .i64 x0) rfl
  have j1 := s1.cell 1 (v := v') rfl
  have H := Lib.hid (laws_eqBatchSR es v v' fp fp' ((w.alloc (.cells #[.int .i64 x0, v] 25)).alloc (.cells #[.int .i64 x0, v'] 25)) hbig hp hl (hr.under hb) (hr'.under hb))
  have Hb := Lib.hid hb; clear hb s0 s1 hr hr' hp hl
  have hc : v.oneCell' = true := by rw [← hv]; rfl
  have hc' : v'.oneCell' = true := by rw [← hv']; rfl
  subst hv hv'
  go_enter Try.func22, Try.ntmps22
  go_wp2_with fail
  refine H.out.mono ?_
  rintro e w1 ⟨rfl, hb1⟩
  have Hb1 := Lib.hid (below_step Hb.out Hb.out.size hb1)
  go_wp2
  go_ret
  exact ⟨rfl, Hb1.out⟩

theorem laws_szStoreR (x0 : Int) (es : List (List Fd)) (v : Value) (fp : List Nat) (left : Nat) (w : World) (hl : left ≤ 1048576) (hbig : es.length ≤ 9223372036854775807) (hp : ∀ e ∈ es, batchP e) (hr : Rd w (rowsD es) v fp) :
    Calls Try.prog 18 #[.agg #[.int .i64 x0, v], .int .i64 (left : Int)] w fun e w' => e = .returned (.int .i64 (if es.length + lnTo es es.length ≤ left then ((left - es.length - lnTo es es.length : Nat) : Int) else -1)) ∧ Below w.heap.size w w' := by
  obtain ⟨a, cap, rfl⟩ := Rd.slice hr
  rw [List.length_map] at *
  generalize hv : Value.slice a es.length cap = v at *
  have hb : Below w.heap.size w (w.alloc (.cells #[.int .i64 x0, v] 41)) := (Below.refl _ w).alloc (Nat.le_refl _) _
  have s0 := Str.new w 41 #[.int .i64 x0, v]
  have k0 := s0.cell 0 (v := .int .i64 x0) rfl
  have k1 := s0.cell 1 (v := v) rfl
  have H := Lib.hid (laws_szBatchSR es v fp left _ hl hbig hp (hr.under hb))
  have Hb := Lib.hid hb; clear hb s0 hr hp
  subst hv
  by_cases h : es.length + lnTo es es.length ≤ left
  · rw [if_pos h] at H ⊢
    generalize left - es.length - lnTo es es.length = q at *
    have g9 : decide ((q : Int) < 0) = false := decide_eq_false (by omega)
    go_enter Try.func18, Try.ntmps18
    go_wp2_with fail
    refine H.out.mono ?_
    rintro e w1 ⟨rfl, hb1⟩
    have Hb1 := Lib.hid (below_step Hb.out Hb.out.size hb1)
    go_wp2
    go_ret
    exact ⟨rfl, Hb1.out⟩
  · rw [if_neg h] at H ⊢
    go_enter Try.func18, Try.ntmps18
    go_wp2_with fail
    refine H.out.mono ?_
    rintro e w1 ⟨rfl, hb1⟩
    have Hb1 := Lib.hid (below_step Hb.out Hb.out.size hb1)
    go_wp2
    go_ret
    exact ⟨rfl, Hb1.out⟩

set_option maxHeartbeats 1000000 in
theorem laws_toStoreR (x0 : Int) (es : List (List Fd)) (v : Value) (fp : List Nat) (w : World) (hbig : es.length ≤ 1048576) (hp : ∀ e ∈ es, batchP e) (hl : ∀ e ∈ es, lnE e ≤ 1048576) (hr : Rd w (rowsD es) v fp) :
    Calls Try.prog 20 #[.agg #[.int .i64 x0, v]] w fun e w' => ∃ u, e = .returned (.agg #[.int .i64 x0, u]) ∧ OwnR 27 3 4 w' w.heap.size w'.heap.size u es ∧ Below w.heap.size w w' := by
  obtain ⟨a, cap, rfl⟩ := Rd.slice hr
  rw [List.length_map] at *
  generalize hv : Value.slice a es.length cap = v at *
  have hbW : Below w.heap.size w (((w.alloc (.cells #[.int .i64 x0, v] 41)).alloc (.cells #[.int .i64 0, .slice none 0 0] 25)).alloc (.cells #[.int .i64 x0, .slice none 0 0] 25)) := (((Below.refl _ w).alloc (Nat.le_refl _) _).alloc (by simp) _).alloc (by simp; omega) _
  have s0 := ((Str.new w 41 #[.int .i64 x0, v]).alloc (.cells #[.int .i64 0, .slice none 0 0] 25)).alloc (.cells #[.int .i64 x0, .slice none 0 0] 25)
  have s1 := (Str.new (w.alloc (.cells #[.int .i64 x0, v] 41)) 25 #[.int .i64 0, .slice none 0 0]).alloc (.cells #[.int .i64 x0, .slice none 0 0] 25)
  have s2 := Str.new ((w.alloc (.cells #[.int .i64 x0, v] 41)).alloc (.cells #[.int .i64 0, .slice none 0 0] 25)) 25 #[.int .i64 x0, .slice none 0 0]
  have hzW : (((w.alloc (.cells #[.int .i64 x0, v] 41)).alloc (.cells #[.int .i64 0, .slice none 0 0] 25)).alloc (.cells #[.int .i64 x0, .slice none 0 0] 25)).heap.size = w.heap.size + 3 := by simp
  simp only [World.size_alloc] at s1 s2
  have k0 := s0.cell 0 (v := .int .i64 x0) rfl
  have k1 := s0.cell 1 (v := v) rfl
  have H := Lib.hid (laws_toBatchSR es v fp (((w.alloc (.cells #[.int .i64 x0, v] 41)).alloc (.cells #[.int .i64 0, .slice none 0 0] 25)).alloc (.cells #[.int .i64 x0, .slice none 0 0] 25)) hbig hp hl (hr.under hbW))
  have Hb := Lib.hid hbW
  have S1 := Lib.hid s1
  have S2 := Lib.hid s2
  clear s0 s1 s2 hbW hr hp hl
  subst hv
  go_enter Try.func20, Try.ntmps20
  go_wp2_with fail
  generalize (((w.alloc (.cells #[.int .i64 x0, .slice a es.length cap] 41)).alloc (.cells #[.int .i64 0, .slice none 0 0] 25)).alloc (.cells #[.int .i64 x0, .slice none 0 0] 25)) = W0 at *
  refine H.out.mono ?_
  rintro e w6 ⟨u, rfl, hown, hb6⟩
  have hs6 := hb6.size
  have t1 : Str w6 (w.heap.size + 1) 25 #[.int .i64 0, .slice none 0 0] := (hb6.block _ (by omega)).trans S1.out
  have t2 : Str w6 (w.heap.size + 1 + 1) 25 #[.int .i64 x0, .slice none 0 0] := (hb6.block _ (by omega)).trans S2.out
  have HbF := Lib.hid (below_step Hb.out Hb.out.size hb6)
  obtain ⟨a6, c6, rfl, hml6⟩ := hown.slice
  have Hown := Lib.hid hown
  clear hown hb6 S1 S2 k0 k1 H
  have k0 := t1.cell 0 (v := .int .i64 0) rfl
  have k1 := t1.cell 1 (v := .slice none 0 0) rfl
  have f0 := t1.frozen 0
  have f1 := t1.frozen 1
  have j0 := t2.cell 0 (v := .int .i64 x0) rfl
  have j1 := t2.cell 1 (v := .slice none 0 0) rfl
  have g1 := t2.frozen 1
  have hne : w.heap.size + 1 ≠ w.heap.size + 1 + 1 := by omega
  have u := ((t1.other hne 1 (.slice a6 es.length c6)).set 0 (.int .i64 x0)).set 1 (.slice a6 es.length c6)
  have e0 := u.cell 0 (v := .int .i64 x0) rfl
  have e1 := u.cell 1 (v := .slice a6 es.length c6) rfl
  clear u t1 t2
  go_wp2
  refine bodyPost_ret (v := .agg #[.int .i64 x0, .slice a6 es.length c6]) (by simp [results, Try.f20, go_sem, e0, e1]) rfl ?_
  exact ⟨_, rfl, OwnR.from (OwnR.mono (ownR_set (ownR_set (ownR_set Hown.out (Nat.le_refl _) (by omega) 1 _) (by simp) (by omega) 0 _) (by simp) (by omega) 1 _) (by simp)) (by omega), ((HbF.out.setCell (p := ⟨w.heap.size + 1 + 1, 1, none⟩) (by simp only; omega) _).setCell (p := ⟨w.heap.size + 1, 0, none⟩) (by simp only; omega) _).setCell (p := ⟨w.heap.size + 1, 1, none⟩) (by simp only; omega) _⟩

theorem laws_markStoreR (x0 : Int) (es : List (List Fd)) (v : Value) (k B hi : Nat) (w : World) (hk : kTo es k es.length ≤ 1099511627776) (hp : ∀ e ∈ es, batchP e) (hs : hi ≤ w.heap.size) (hown : OwnR 27 3 4 w B hi v es) :
    Calls Try.prog 24 #[.agg #[.int .i64 x0, v], .int .i64 k] w fun e w' => e = .returned (.int .i64 ((kTo es k es.length : Nat) : Int)) ∧ OwnR 27 3 4 w' B hi v (mkTo es k es.length) ∧ Btw B hi w w' := by
  have H := Lib.hid (laws_markBatchSR es v k B hi _ hk hp (hown.below ((Below.refl _ w).alloc (Nat.le_refl _) (.cells #[.int .i64 x0, v] 25)) hs))
  obtain ⟨a, cap, rfl, hml⟩ := hown.slice
  have Ha := Lib.hid (Btw.alloc (lo := B) (hi := hi) w (.cells #[.int .i64 x0, .slice a es.length cap] 25))
  clear hown
  go_enter Try.func24, Try.ntmps24
  go_wp2_with fail
  refine H.out.mono ?_
  rintro e w1 ⟨rfl, ho, hg⟩
  have Hg := Lib.hid (Ha.out.trans hg)
  have Ho := Lib.hid ho
  clear ho hg
  go_wp2
  go_ret
  exact ⟨rfl, Ho.out, Hg.out⟩

theorem laws_heldStoreR (x0 : Int) (es : List (List Fd)) (v : Value) (k B hi : Nat) (w : World) (hk : kTo es k es.length ≤ 1099511627776) (hp : ∀ e ∈ es, batchP e) (hs : hi ≤ w.heap.size) (hown : OwnR 27 3 4 w B hi v (mkTo es k es.length)) :
    Calls Try.prog 25 #[.agg #[.int .i64 x0, v], .int .i64 k] w fun e w' => e = .returned (.int .i64 ((kTo es k es.length : Nat) : Int)) ∧ Below w.heap.size w w' := by
  have hb : Below w.heap.size w (w.alloc (.cells #[.int .i64 x0, v] 25)) := (Below.refl _ w).alloc (Nat.le_refl _) _
  have H := Lib.hid (laws_heldBatchSR es v k B hi _ hk hp (hown.below hb hs))
  obtain ⟨a, cap, rfl, hml⟩ := hown.slice
  rw [mkTo_len] at *
  have Hb := Lib.hid hb; clear hb hown
  generalize kTo es k es.length = m at *
  have hneg : decide ((m : Int) < 0) = false := decide_eq_false (by omega)
  go_enter Try.func25, Try.ntmps25
  go_wp2_with fail
  refine H.out.mono ?_
  rintro e w1 ⟨rfl, hd⟩
  have Hb1 := Lib.hid (Hb.out.trans (hd.below _))
  go_wp2
  go_ret
  exact ⟨rfl, Hb1.out⟩

end Go.Proofs.Ythojbcecbeapgab

/- Parts of a list that reads as data: its head and its tail; general steps, nothing here speaks of the program. -/
namespace Go.Proofs.Ythojbcecbeapgab
open Go.RowKit

theorem Rd.cut {w : World} {es : List (List Dt)} {g off n cap sz : Nat} {fp : List Nat} (h : Rd w (.l es) (.slice (some ⟨g, off, none⟩) n cap) fp) (hsz : ∀ e ∈ es, e.length = sz) (k m o2 cap2 : Nat) (hk : k + m ≤ es.length) (ho : 0 < m → o2 = off + k * sz) (hcap2 : k + m ≤ cap → m ≤ cap2) :
    ∃ fp', Rd w (.l ((es.drop k).take m)) (.slice (some ⟨g, o2, none⟩) m cap2) fp' ∧ ∀ r ∈ fp', r ∈ fp := by
  rcases Nat.eq_zero_or_pos m with h0 | h0
  · subst h0
    exact ⟨[], by rw [List.take_zero]; exact .nil _ _ (fun e => by cases e), by simp⟩
  · generalize hd : Dt.l es = d at h
    generalize hv : Value.slice (some ⟨g, off, none⟩) n cap = v at h
    cases h with
    | i n => cases hd
    | b x => cases hd
    | s t => cases hd
    | nil a cap hn => cases hd; simp at hk; omega
    | l sz' es' g' off' cap' V F hne' hsz' hcap hgl hc hrd =>
      cases hd
      simp only [Value.slice.injEq, Option.some.injEq, Addr.mk.injEq, and_true] at hv
      obtain ⟨⟨rfl, rfl⟩, rfl, rfl⟩ := hv
      have hss : sz' = sz := by
        have h0 := List.getElem_mem hne'
        rw [← hsz' _ h0, hsz _ h0]
      subst hss
      have hl : ((es.drop k).take m).length = m := by rw [List.length_take, List.length_drop]; omega
      have hget : ∀ i (hi : i < ((es.drop k).take m).length) (hi' : k + i < es.length), ((es.drop k).take m)[i] = es[k + i] := by
        intro i hi hi'
        rw [List.getElem_take, List.getElem_drop]
      have := Rd.l (w := w) sz' ((es.drop k).take m) g o2 cap2 (fun i j => V (k + i) j) (fun i j => F (k + i) j) (by omega) (fun e he => hsz' e (List.mem_of_mem_drop (List.mem_of_mem_take he))) (by rw [hl]; exact hcap2 (by omega)) hgl
        (fun i j hi hj => by
          rw [ho h0, show off + k * sz' + (i * sz' + j) = off + ((k + i) * sz' + j) by rw [Nat.add_mul]; omega]
          exact hc (k + i) j (by omega) hj)
        (fun i j hi hj => by
          have hi' : k + i < es.length := by omega
          have e := hget i hi hi'
          simp only [e] at hj ⊢
          exact hrd (k + i) j hi' hj)
      rw [hl] at this
      refine ⟨_, this, fun r hr => ?_⟩
      rcases List.mem_cons.1 hr with rfl | hr
      · simp
      · obtain ⟨i, hi, hr⟩ := List.mem_flatMap.1 hr
        obtain ⟨j, hj, hr⟩ := List.mem_flatMap.1 hr
        rw [List.mem_range] at hi hj
        exact List.mem_cons_of_mem _ (List.mem_flatMap.2 ⟨k + i, List.mem_range.2 (by omega), List.mem_flatMap.2 ⟨j, List.mem_range.2 hj, hr⟩⟩)
theorem Rd.lens {w : World} {es : List (List Dt)} {a : Option Addr} {n cap : Nat} {fp : List Nat} (h : Rd w (.l es) (.slice a n cap) fp) : n = es.length := by
  obtain ⟨a', c', e⟩ := Rd.slice h
  cases e; rfl
/-- The tail of a list, and where it lies. -/
theorem Rd.tail {w : World} {es : List (List Dt)} {g off n cap sz : Nat} {fp : List Nat} (h : Rd w (.l es) (.slice (some ⟨g, off, none⟩) n cap) fp) (hsz : ∀ e ∈ es, e.length = sz) (k : Nat) (hk : k ≤ es.length) :
    ∃ o2, (if cap = k then some (⟨g, off, none⟩ : Addr) else some ⟨g, off + k * sz, none⟩) = some ⟨g, o2, none⟩ ∧ ∃ fp', Rd w (.l (es.drop k)) (.slice (some ⟨g, o2, none⟩) (es.length - k) (cap - k)) fp' ∧ ∀ r ∈ fp', r ∈ fp := by
  have key : ∀ o2, (k < es.length → o2 = off + k * sz) → ∃ fp', Rd w (.l (es.drop k)) (.slice (some ⟨g, o2, none⟩) (es.length - k) (cap - k)) fp' ∧ ∀ r ∈ fp', r ∈ fp := by
    intro o2 ho
    have := h.cut hsz k (es.length - k) o2 (cap - k) (by omega) (fun hm => ho (by omega)) (fun hc => by omega)
    rwa [List.take_of_length_le (by rw [List.length_drop]; omega)] at this
  by_cases hc : cap = k
  · refine ⟨off, by rw [if_pos hc], key off fun hlt => ?_⟩
    obtain ⟨_, _, _, _, _, _, hcap, _⟩ := Rd.at h (by omega) hsz
    have := h.lens
    omega
  · exact ⟨off + k * sz, by rw [if_neg hc], key _ fun _ => rfl⟩

end Go.Proofs.Ythojbcecbeapgab

/- Lists of rows of numbers in memory of their own, cell by cell; an append to them at an operation; general steps, nothing here speaks of the program. -/
namespace Go.Proofs.Ythojbcecbeapgab
open Go.RowKit

def rwN (e : List Int) : List Value := e.map (Value.int .i64)
def flN (es : List (List Int)) : List Value := es.flatMap rwN
theorem flN_app (es es2 : List (List Int)) : flN (es ++ es2) = flN es ++ flN es2 := by unfold flN; rw [List.flatMap_append]
theorem flN_len {sz : Nat} : ∀ {es : List (List Int)}, (∀ e ∈ es, e.length = sz) → (flN es).length = es.length * sz
  | [], _ => by simp [flN]
  | x :: es, h => by
    have ih := flN_len (es := es) fun e he => h e (List.mem_cons_of_mem _ he)
    have hx := h x (by simp)
    unfold flN at *
    rw [List.flatMap_cons, List.length_append, ih, List.length_cons, Nat.add_mul]
    simp [rwN, hx]; omega
theorem flN_at {sz : Nat} : ∀ {es : List (List Int)}, (∀ e ∈ es, e.length = sz) → ∀ (k j : Nat) (hk : k < es.length), j < sz → (flN es)[k * sz + j]? = (rwN es[k])[j]?
  | x :: es, h, 0, j, _, hj => by
    have hx := h x (by simp)
    unfold flN
    rw [List.flatMap_cons, List.getElem?_append_left (by simp [rwN, hx]; omega)]
    simp
  | x :: es, h, k + 1, j, hk, hj => by
    have hx := h x (by simp)
    have hk' : k < es.length := by simpa using hk
    have ih := flN_at (es := es) (fun e he => h e (List.mem_cons_of_mem _ he)) k j hk' hj
    unfold flN at *
    have hlx : (rwN x).length = sz := by simp [rwN, hx]
    rw [List.flatMap_cons, List.getElem?_append_right (by rw [hlx, Nat.add_mul]; omega)]
    rw [show (k + 1) * sz + j - (rwN x).length = k * sz + j by rw [hlx, Nat.add_mul]; omega, ih]
    simp
theorem flN_int {es : List (List Int)} {c : Value} (h : c ∈ flN es) : ∃ x, c = .int .i64 x := by
  unfold flN at h
  obtain ⟨e, _, hc⟩ := List.mem_flatMap.1 h
  unfold rwN at hc
  obtain ⟨x, _, rfl⟩ := List.mem_map.1 hc
  exact ⟨x, rfl⟩
/-- v owns rows of sz numbers, in a block from B on. -/
structure OwnN (E : TypeId) (sz : Nat) (w : World) (B : Nat) (v : Value) (es : List (List Int)) : Prop where
  szs : ∀ e ∈ es, e.length = sz
  row : w.ownsRow B E sz v es.length (flN es)
section
variable {E : TypeId} {sz : Nat} {w w' : World} {B : Nat} {v : Value} {es : List (List Int)}
theorem OwnN.lt (h : OwnN E sz w B v es) : ∀ g, v.ownBlock = some g → B ≤ g ∧ g < w.heap.size := World.ownsRow.lt h.row
theorem OwnN.slice (h : OwnN E sz w B v es) : ∃ a c, v = .slice a es.length c ∧ es.length ≤ c := by
  rcases h.row.2 with ⟨rfl, h0⟩ | ⟨g, cap, cur, rfl, _, _, hn, _⟩
  · exact ⟨none, 0, by rw [h0], by omega⟩
  · exact ⟨_, _, rfl, hn⟩
theorem OwnN.same (h : OwnN E sz w B v es) (hb : ∀ g, v.ownBlock = some g → w'.heap[g]? = w.heap[g]?) : OwnN E sz w' B v es := ⟨h.szs, row_same h.row hb⟩
theorem OwnN.below (h : OwnN E sz w B v es) (hb : Below w.heap.size w w') : OwnN E sz w' B v es := h.same fun g e => hb.block g (h.lt g e).2
theorem OwnN.kept {row : Option Nat} (h : OwnN E sz w B v es) (hg : w.grownBy w' row) (hne : ∀ g, v.ownBlock = some g → row ≠ some g) : OwnN E sz w' B v es :=
  h.same fun g e => hg.block g (h.lt g e).2 (fun e' => hne g e e'.symm)
theorem OwnN.mono {B' : Nat} (h : OwnN E sz w B v es) (hB : B' ≤ B) : OwnN E sz w B' v es := by
  refine ⟨h.szs, h.row.1, ?_⟩
  rcases h.row.2 with h0 | ⟨g, cap, cur, e, hb, rest⟩
  · exact .inl h0
  · exact .inr ⟨g, cap, cur, e, by omega, rest⟩
theorem OwnN.empty (E : TypeId) (sz : Nat) (w : World) : OwnN E sz (w.alloc (.cells #[] E)) w.heap.size (.slice (some ⟨w.heap.size, 0, none⟩) 0 0) [] :=
  ⟨by simp, by simp [flN], .inr ⟨w.heap.size, 0, #[], rfl, Nat.le_refl _, Str.new w E #[], Nat.le_refl _, Nat.zero_le _, by simp, by simp [flN]⟩⟩
theorem OwnN.ownR {Ei : TypeId} {hi : Nat} (h : OwnN E sz w B v es) (hh : w.heap.size ≤ hi) : OwnR E Ei sz w B hi v (es.map fun e => e.map Fd.i) := by
  have hn : ∀ (p : Nat) c, (flN es)[p]? = some c → c.ownBlock = none := fun p c hc => by obtain ⟨x, rfl⟩ := flN_int (List.mem_of_getElem? hc); rfl
  refine ⟨fun e he => by obtain ⟨x, hx, rfl⟩ := List.mem_map.1 he; rw [List.length_map]; exact h.szs x hx, flN es, by rw [List.length_map]; exact h.row, fun k j hk hj => ?_, ?_, ?_, ?_, fun g e => Nat.lt_of_lt_of_le (h.lt g e).2 hh⟩
  · have hk' : k < es.length := by simpa using hk
    have he : (es.map fun e => e.map Fd.i)[k] = es[k].map Fd.i := by simp
    have hl : es[k].length = sz := h.szs _ (List.getElem_mem hk')
    have hj' : j < es[k].length := by rw [he, List.length_map] at hj; exact hj
    rw [flN_at h.szs k j hk' (by omega)]
    refine ⟨.int .i64 es[k][j], by simp [rwN, hj'], ?_⟩
    simp only [he, List.getElem_map]
    rfl
  · intro p q c d hc _ _ g e; rw [hn p c hc] at e; cases e
  · intro p c hc g e; rw [hn p c hc] at e; cases e
  · intro p c g hc e; rw [hn p c hc] at e; cases e
theorem OwnN.cell {g n cap : Nat} (h : OwnN E sz w B (.slice (some ⟨g, 0, none⟩) n cap) es) {k j : Nat} (hk : k < es.length) (hj : j < sz) : w.cell? ⟨g, k * sz + j, none⟩ = (rwN es[k])[j]? ∧ w.frozen? ⟨g, k * sz + j, none⟩ = false := by
  have hl : es[k].length = sz := h.szs _ (List.getElem_mem hk)
  have hc := flN_at h.szs k j hk hj
  have he : (rwN es[k])[j]? = some (.int .i64 (es[k][j]'(by omega))) := by simp [rwN, show j < es[k].length by omega]
  have h0 := World.ownsRow.cells h.row (g := g) rfl _ _ (hc.trans he)
  rw [addr_add] at h0
  refine ⟨h0.trans he.symm, ?_⟩
  rcases h.row.2 with ⟨h', _⟩ | ⟨g', cap', cur, h', _, hg, _⟩
  · simp at h'
  · simp only [Value.slice.injEq, Option.some.injEq, Addr.mk.injEq, and_true] at h'
    obtain ⟨rfl, _⟩ := h'
    exact frozen_of_row w g _ cur E hg
end
/-- The rows' cells from this place on. -/
def SrcN (w : World) (ad : Addr) (es : List (List Int)) : Prop := ∀ (j : Nat) u, (flN es)[j]? = some u → w.cell? (ad.add j) = some u
theorem SrcN.below {w w' : World} {ad : Addr} {es : List (List Int)} (h : SrcN w ad es) (hb : Below w.heap.size w w') : SrcN w' ad es := fun j u hj => (hb.cell (World.block_lt_of_cell? _ _ (h j u hj))).trans (h j u hj)
theorem SrcN.new (w : World) (E : TypeId) (e : List Int) : SrcN (w.alloc (.cells (rwN e).toArray E)) ⟨w.heap.size, 0, none⟩ [e] := by
  intro j u hu
  rw [addr_add, World.cell?_alloc_at _ _ _ _ rfl]
  simpa [flN] using hu
theorem OwnN.src {E : TypeId} {sz : Nat} {w : World} {B g n cap : Nat} {es : List (List Int)} (h : OwnN E sz w B (.slice (some ⟨g, 0, none⟩) n cap) es) : SrcN w ⟨g, 0, none⟩ es := fun j u hj => World.ownsRow.cells h.row (g := g) rfl j u hj

/-- 'append(s, t...)' at an operation: s is the call's own, the rows of t lie at ad. -/
theorem op_app_N {P : Program} {T E : TypeId} {sz bytes : Nat} {z0 : Value} (hsl : P.underlying T = some (.slice E)) (hinf : (P.info? E).map (fun i => (i.zero, i.size, i.bytes)) = some (some z0, sz, bytes)) (hz0 : z0.cells.size = sz) (hpos : 0 < sz) (hby : bytes ≤ 1000)
    {w : World} {o : Oper} {a : Act} {K : Act → World → Prop} {Q : Exit → Act → World → Prop} (s x : Operand) (ho : o.op = .call { callee := .builtin .append, args := #[s, x], argTypes := #[T, T] }) (B : Nat) (v : Value) (es es2 : List (List Int)) (ad : Option Addr) (c : Nat)
    (hs : a.eval s = v) (hb : OwnN E sz w B v es) (hx : a.eval x = .slice ad es2.length c) (hs2 : ∀ e ∈ es2, e.length = sz) (hsrc : (ad = none ∧ es2 = [] ∧ c = 0) ∨ ∃ q, ad = some q ∧ SrcN w q es2) (hlen : es.length + es2.length ≤ 1048577) (hB : B ≤ w.heap.size)
    (h : ∀ v' w', OwnN E sz w' B v' (es ++ es2) → w.grownBy w' v.ownBlock → (∀ g, v'.ownBlock = some g → v.ownBlock = some g ∨ w.heap.size ≤ g) → K (a.put o.dst v') w') : Oper.wp P o a w K Q := by
  obtain ⟨i, hi, hz, hsz, hbb⟩ := info_parts hinf
  have hall : ∀ e ∈ es ++ es2, e.length = sz := fun e he => by
    rcases List.mem_append.1 he with h1 | h1
    · exact hb.szs e h1
    · exact hs2 e h1
  have run : ∃ v' w', (Builtin.append_ #[T, T] o.type #[v, .slice ad es2.length c]).run P w = .ok v' w' ∧ OwnN E sz w' B v' (es ++ es2) ∧ w.grownBy w' v.ownBlock ∧ (v'.ownBlock = v.ownBlock ∨ v'.ownBlock = some w.heap.size) := by
    rcases hsrc with ⟨rfl, rfl, rfl⟩ | ⟨q, rfl, hq⟩
    · exact ⟨v, w, run_append_owned_none (P := P) (w := w) B T o.type E i sz hsl hi v es.length _ hb.row, by simpa using hb, World.grownBy.refl _ _, .inl rfl⟩
    · obtain ⟨v', w', h1, h2, h3, _, h4⟩ := run_append_own_at (P := P) w B T o.type E i z0 sz bytes hsl hi hz hsz hbb hz0 hpos v es.length _ hb.row q es2.length c (flN es2) (flN_len hs2) hq (fun u hu => by obtain ⟨x, rfl⟩ := flN_int hu; rfl) (by unfold maxLen; omega) (by
        have := Nat.mul_le_mul (show es.length + es2.length ≤ 1048577 from hlen) hby; omega) hB
      exact ⟨v', w', h1, ⟨hall, by rw [List.length_append, flN_app]; exact h2⟩, h3, h4⟩
  obtain ⟨v', w', hrun, h1, hg, h4⟩ := run
  unfold Oper.wp execOp
  simp only [ho, resolve, invoke, builtin, Sem.run_bind, Sem.run_pure, Result.andThen_ok, List.map_toArray, List.map_cons, List.map_nil, hs, hx, hrun]
  exact h v' w' h1 hg fun g e => by
    rcases h4 with h4 | h4
    · exact .inl (by rw [← h4]; exact e)
    · rw [h4] at e; cases e; exact .inr (Nat.le_refl _)

end Go.Proofs.Ythojbcecbeapgab

/- Batch stores: what the functions of chapter 23 answer, on lists; plain facts, nothing here speaks of the program. -/
namespace Go.Proofs.Ythojbcecbeapgab
open Go.RowKit

/-- A batch. -/
structure Bt where
  d : Int
  a : Int
  r : Int
  s : Int
deriving DecidableEq
def btB (b : Bt) : Bool := decide (0 ≤ b.d ∧ b.d ≤ 990) && decide (0 ≤ b.a ∧ b.a ≤ 6) && decide (0 ≤ b.r ∧ b.r ≤ 30) && decide (1 ≤ b.s ∧ b.s ≤ 12)
theorem btB_iff {b : Bt} : btB b = true ↔ (0 ≤ b.d ∧ b.d ≤ 990) ∧ (0 ≤ b.a ∧ b.a ≤ 6) ∧ (0 ≤ b.r ∧ b.r ≤ 30) ∧ 1 ≤ b.s ∧ b.s ≤ 12 := by
  unfold btB; simp only [Bool.and_eq_true, decide_eq_true_eq]; omega
/-- What an author uses. -/
def usZ (l : List Bt) (a : Int) : Int := (l.map fun b => if b.a = a then b.s else 0).sum
theorem usZ_cons (b : Bt) (l : List Bt) (a : Int) : usZ (b :: l) a = (if b.a = a then b.s else 0) + usZ l a := by unfold usZ; simp
theorem usZ_app (l m : List Bt) (a : Int) : usZ (l ++ m) a = usZ l a + usZ m a := by unfold usZ; simp
theorem usZ_nonneg {l : List Bt} (h : ∀ b ∈ l, btB b = true) (a : Int) : 0 ≤ usZ l a := by
  induction l with
  | nil => simp [usZ]
  | cons b r ih =>
    have h1 := btB_iff.1 (h b (by simp))
    have h2 := ih fun x hx => h x (by simp [hx])
    rw [usZ_cons]
    split <;> omega
/-- A store is valid. -/
def stP (f : Int) (l : List Bt) : Prop := (0 ≤ f ∧ f ≤ 31) ∧ l.length ≤ 12 ∧ l.Pairwise (fun x y => x.d < y.d) ∧ ∀ b ∈ l, btB b = true ∧ f ≤ b.r ∧ usZ l b.a ≤ 30
instance (f : Int) (l : List Bt) : Decidable (stP f l) := by unfold stP; infer_instance
def stB (f : Int) (l : List Bt) : Bool := decide (stP f l)
/-- Ahead of a batch, and behind. -/
def loS (l : List Bt) (d : Int) : List Bt := l.takeWhile fun x => decide (x.d < d)
def hiS (l : List Bt) (d : Int) : List Bt := l.dropWhile fun x => decide (x.d < d)
theorem lo_hi (l : List Bt) (d : Int) : loS l d ++ hiS l d = l := List.takeWhile_append_dropWhile
/-- With a batch put in. -/
def inS (l : List Bt) (b : Bt) : List Bt := loS l b.d ++ b :: hiS l b.d
theorem mem_inS {l : List Bt} {b x : Bt} : x ∈ inS l b ↔ x = b ∨ x ∈ l := by
  have h := lo_hi l b.d
  unfold inS
  constructor
  · intro hx
    rcases List.mem_append.1 hx with h1 | h1
    · exact .inr (by rw [← h]; exact List.mem_append_left _ h1)
    · rcases List.mem_cons.1 h1 with h2 | h2
      · exact .inl h2
      · exact .inr (by rw [← h]; exact List.mem_append_right _ h2)
  · rintro (rfl | hx)
    · simp
    · rw [← h] at hx
      rcases List.mem_append.1 hx with h1 | h1
      · exact List.mem_append_left _ h1
      · exact List.mem_append_right _ (List.mem_cons_of_mem _ h1)
theorem inS_len (l : List Bt) (b : Bt) : (inS l b).length = l.length + 1 := by
  have h := congrArg List.length (lo_hi l b.d)
  rw [List.length_append] at h
  unfold inS; simp; omega
theorem usZ_inS (l : List Bt) (b : Bt) (a : Int) : usZ (inS l b) a = usZ l a + if b.a = a then b.s else 0 := by
  have h := congrArg (usZ · a) (lo_hi l b.d)
  simp only [usZ_app] at h
  unfold inS
  rw [usZ_app, usZ_cons]
  omega
theorem mem_lo {l : List Bt} {d : Int} {x : Bt} (h : x ∈ loS l d) : x.d < d := by
  unfold loS at h
  induction l with
  | nil => cases h
  | cons y r ih =>
    rw [List.takeWhile_cons] at h
    split at h
    · rename_i hy
      rcases List.mem_cons.1 h with rfl | h
      · exact of_decide_eq_true hy
      · exact ih h
    · cases h
theorem mem_hi {l : List Bt} {d : Int} (hs : l.Pairwise fun x y => x.d < y.d) {x : Bt} (h : x ∈ hiS l d) : d ≤ x.d := by
  unfold hiS at h
  induction l with
  | nil => cases h
  | cons y r ih =>
    rw [List.dropWhile_cons] at h
    rw [List.pairwise_cons] at hs
    split at h
    · exact ih hs.2 h
    · rename_i hy
      have hy : ¬ y.d < d := by simpa using hy
      rcases List.mem_cons.1 h with rfl | h
      · omega
      · have := hs.1 _ h; omega
/-- No stored batch has the digest. -/
def knB (l : List Bt) (d : Int) : Bool := l.any fun x => decide (x.d = d)
theorem kn_no {l : List Bt} {d : Int} (h : knB l d = false) : ∀ x ∈ l, x.d ≠ d := fun x hx e => by
  unfold knB at h
  rw [List.any_eq_false] at h
  exact h x hx (by simpa using e)
theorem kn_yes {l : List Bt} {d : Int} : knB l d = true ↔ ∃ x ∈ l, x.d = d := by unfold knB; simp
theorem inS_sorted {l : List Bt} {b : Bt} (hs : l.Pairwise fun x y => x.d < y.d) (hk : knB l b.d = false) : (inS l b).Pairwise fun x y => x.d < y.d := by
  have h := lo_hi l b.d
  have hs' := hs
  rw [← h, List.pairwise_append] at hs'
  unfold inS
  rw [List.pairwise_append]
  refine ⟨hs'.1, List.pairwise_cons.2 ⟨fun y hy => ?_, hs'.2.1⟩, fun x hx y hy => ?_⟩
  · have h1 := mem_hi hs hy
    have h2 := kn_no hk y (by rw [← h]; exact List.mem_append_right _ hy)
    omega
  · rcases List.mem_cons.1 hy with rfl | hy
    · exact mem_lo hx
    · exact hs'.2.2 x hx y hy
/-- The code of a put. -/
def puC (f : Int) (l : List Bt) (b : Bt) : Int :=
  if stB f l = true ∧ btB b = true then if knB l b.d = true then 1 else if b.r < f then 2 else if 12 ≤ l.length ∨ 30 < usZ l b.a + b.s then 3 else 0 else 4
theorem pu_zero {f : Int} {l : List Bt} {b : Bt} : puC f l b = 0 ↔ stB f l = true ∧ btB b = true ∧ knB l b.d = false ∧ f ≤ b.r ∧ l.length < 12 ∧ usZ l b.a + b.s ≤ 30 := by
  unfold puC
  constructor
  · intro h
    split at h
    · rename_i h1
      split at h
      · omega
      · rename_i h2
        split at h
        · omega
        · split at h
          · omega
          · exact ⟨h1.1, h1.2, by simpa using h2, by omega, by omega, by omega⟩
    · omega
  · rintro ⟨h1, h2, h3, h4, h5, h6⟩
    rw [if_pos ⟨h1, h2⟩, if_neg (by rw [h3]; simp), if_neg (by omega), if_neg (by omega)]
theorem pu_valid {f : Int} {l : List Bt} {b : Bt} (h : puC f l b = 0) : stB f (inS l b) = true := by
  obtain ⟨h1, h2, h3, h4, h5, h6⟩ := pu_zero.1 h
  have h1 : stP f l := of_decide_eq_true h1
  obtain ⟨hf, hl, hs, hb⟩ := h1
  refine decide_eq_true ⟨hf, by rw [inS_len]; omega, inS_sorted hs h3, fun x hx => ?_⟩
  rw [usZ_inS]
  rcases mem_inS.1 hx with rfl | hx
  · refine ⟨h2, h4, ?_⟩
    rw [if_pos rfl]; exact h6
  · obtain ⟨c1, c2, c3⟩ := hb x hx
    refine ⟨c1, c2, ?_⟩
    split
    · rename_i e
      rw [e] at h6
      exact h6
    · omega
/-- P96. -/
theorem pu_twice {f : Int} {l : List Bt} {b : Bt} (h : puC f l b = 0) : puC f (inS l b) b = 1 := by
  have hv := pu_valid h
  have hb := (pu_zero.1 h).2.1
  unfold puC
  rw [if_pos ⟨hv, hb⟩, if_pos (kn_yes.2 ⟨b, mem_inS.2 (.inl rfl), rfl⟩)]
/-- Ascending lists with the same members are equal. -/
theorem asc_eq : ∀ {l m : List Bt}, l.Pairwise (fun x y => x.d < y.d) → m.Pairwise (fun x y => x.d < y.d) → (∀ x, x ∈ l ↔ x ∈ m) → l = m
  | [], [], _, _, _ => rfl
  | [], y :: m, _, _, h => by have := (h y).2 (by simp); cases this
  | x :: l, [], _, _, h => by have := (h x).1 (by simp); cases this
  | x :: l, y :: m, hl, hm, h => by
    rw [List.pairwise_cons] at hl hm
    have hxy : x = y := by
      rcases List.mem_cons.1 ((h x).1 (by simp)) with e | e
      · exact e
      · rcases List.mem_cons.1 ((h y).2 (by simp)) with e2 | e2
        · exact e2.symm
        · have := hm.1 _ e; have := hl.1 _ e2; omega
    subst hxy
    rw [asc_eq hl.2 hm.2 fun z => ⟨fun hz => ?_, fun hz => ?_⟩]
    · rcases List.mem_cons.1 ((h z).1 (by simp [hz])) with e | e
      · subst e; have := hl.1 _ hz; omega
      · exact e
    · rcases List.mem_cons.1 ((h z).2 (by simp [hz])) with e | e
      · subst e; have := hm.1 _ hz; omega
      · exact e
/-- P101: two batches in either order. -/
theorem pu_order {f : Int} {l : List Bt} {b u : Bt} (h : puC f l b = 0) (h2 : puC f (inS l b) u = 0) : puC f l u = 0 ∧ puC f (inS l u) b = 0 ∧ inS (inS l u) b = inS (inS l b) u := by
  obtain ⟨a1, a2, a3, a4, a5, a6⟩ := pu_zero.1 h
  obtain ⟨b1, b2, b3, b4, b5, b6⟩ := pu_zero.1 h2
  rw [inS_len] at b5
  rw [usZ_inS] at b6
  have hlv : stP f l := of_decide_eq_true a1
  have hbs := btB_iff.1 a2
  have hne : u.d ≠ b.d := fun e => kn_no b3 b (mem_inS.2 (.inl rfl)) e.symm
  have hku : knB l u.d = false := by
    cases e : knB l u.d with
    | false => rfl
    | true => obtain ⟨x, hx, he⟩ := kn_yes.1 e; exact absurd he (kn_no b3 x (mem_inS.2 (.inr hx)))
  have h3 : puC f l u = 0 := pu_zero.2 ⟨a1, b2, hku, b4, by omega, by split at b6 <;> omega⟩
  have hkb : knB (inS l u) b.d = false := by
    cases e : knB (inS l u) b.d with
    | false => rfl
    | true =>
      obtain ⟨x, hx, he⟩ := kn_yes.1 e
      rcases mem_inS.1 hx with rfl | hx
      · exact absurd he hne
      · exact absurd he (kn_no a3 x hx)
  have h4 : puC f (inS l u) b = 0 := pu_zero.2 ⟨pu_valid h3, a2, hkb, a4, by rw [inS_len]; omega, by
    rw [usZ_inS]
    split
    · rename_i e
      rw [if_pos e.symm, e] at b6
      omega
    · omega⟩
  refine ⟨h3, h4, asc_eq ?_ ?_ fun x => ?_⟩
  · exact (show stP _ _ from of_decide_eq_true (pu_valid h4)).2.2.1
  · exact (show stP _ _ from of_decide_eq_true (pu_valid h2)).2.2.1
  · simp only [mem_inS]
    constructor
    · rintro (h | h | h)
      · exact .inr (.inl h)
      · exact .inl h
      · exact .inr (.inr h)
    · rintro (h | h | h)
      · exact .inr (.inl h)
      · exact .inl h
      · exact .inr (.inr h)
/-- What is left behind a raised floor. -/
def fgL (l : List Bt) (x : Int) : List Bt := l.filter fun b => decide (x ≤ b.r)
theorem fg_mem {l : List Bt} {x : Int} {b : Bt} : b ∈ fgL l x ↔ b ∈ l ∧ x ≤ b.r := by unfold fgL; simp
theorem fg_len (l : List Bt) (x : Int) : (fgL l x).length ≤ l.length := List.length_filter_le _ _
theorem fg_steps (l : List Bt) {x y : Int} (h : x ≤ y) : fgL (fgL l x) y = fgL l y := by
  unfold fgL
  rw [List.filter_filter]
  refine List.filter_congr fun b _ => ?_
  by_cases hb : y ≤ b.r
  · rw [decide_eq_true hb, decide_eq_true (show x ≤ b.r by omega)]; rfl
  · rw [decide_eq_false hb]; rfl
theorem us_fg {l : List Bt} (h : ∀ b ∈ l, btB b = true) (x a : Int) : usZ (fgL l x) a ≤ usZ l a := by
  induction l with
  | nil => simp [fgL]
  | cons b r ih =>
    have h1 := btB_iff.1 (h b (by simp))
    have h2 := ih fun z hz => h z (by simp [hz])
    unfold fgL at *
    rw [List.filter_cons, usZ_cons]
    split
    · rw [usZ_cons]; omega
    · split <;> omega
theorem fg_valid {f x : Int} {l : List Bt} (h : stB f l = true) (h1 : f ≤ x) (h2 : x ≤ 31) : stB x (fgL l x) = true := by
  have h : stP f l := of_decide_eq_true h
  obtain ⟨hf, hl, hs, hb⟩ := h
  refine decide_eq_true ⟨by omega, Nat.le_trans (fg_len l x) hl, hs.filter _, fun b hb' => ?_⟩
  obtain ⟨h3, h4⟩ := fg_mem.1 hb'
  obtain ⟨c1, c2, c3⟩ := hb b h3
  exact ⟨c1, h4, Int.le_trans (us_fg (fun z hz => (hb z hz).1) x b.a) c3⟩
/-- The batch with a digest. -/
def geF (l : List Bt) (d : Int) : Option Bt := l.find? fun x => decide (x.d = d)
theorem ge_some {l : List Bt} {d : Int} {b : Bt} (h : geF l d = some b) : b ∈ l ∧ b.d = d := ⟨List.mem_of_find?_eq_some h, by have := List.find?_some h; simpa using this⟩
theorem ge_uni {l : List Bt} (hs : l.Pairwise fun x y => x.d < y.d) {b : Bt} (hb : b ∈ l) : geF l b.d = some b := by
  unfold geF
  induction l with
  | nil => cases hb
  | cons x r ih =>
    rw [List.pairwise_cons] at hs
    rcases List.mem_cons.1 hb with rfl | hb
    · simp
    · have := hs.1 _ hb
      rw [List.find?_cons_of_neg (by simp; omega)]
      exact ih hs.2 hb
theorem ge_none {l : List Bt} {d : Int} : geF l d = none ↔ knB l d = false := by
  unfold geF knB
  rw [List.find?_eq_none, List.any_eq_false]
/-- P98: just the kept batches are found. -/
theorem ge_fg {l : List Bt} (hs : l.Pairwise fun x y => x.d < y.d) {b : Bt} (hb : b ∈ l) (x : Int) : (geF (fgL l x) b.d).isSome = decide (x ≤ b.r) := by
  by_cases h : x ≤ b.r
  · rw [ge_uni (l := fgL l x) (hs.filter _) (fg_mem.2 ⟨hb, h⟩), decide_eq_true h]; rfl
  · rw [decide_eq_false h]
    cases e : geF (fgL l x) b.d with
    | none => rfl
    | some y =>
      obtain ⟨h1, h2⟩ := ge_some e
      obtain ⟨h3, h4⟩ := fg_mem.1 h1
      have e1 := ge_uni hs h3
      have e2 := ge_uni hs hb
      rw [h2, e2] at e1
      have := Option.some.inj e1
      subst this
      omega

end Go.Proofs.Ythojbcecbeapgab

/- Lists of batches in memory; conditions: the lists are shorter than 2^40. -/
namespace Go.Proofs.Ythojbcecbeapgab
open Go.RowKit

def btF (b : Bt) : List Fd := [.i b.d, .i b.a, .i b.r, .i b.s]
def btN (b : Bt) : List Int := [b.d, b.a, b.r, b.s]
/-- A list of batches in memory. -/
def Bts (w : World) (l : List Bt) (v : Value) (fp : List Nat) : Prop := Rd w (rowsD (l.map btF)) v fp
theorem Bts.under {w w' : World} {l : List Bt} {v : Value} {fp : List Nat} (h : Bts w l v fp) (hb : Below w.heap.size w w') : Bts w' l v fp := Rd.under h hb
theorem Bts.slice {w : World} {l : List Bt} {v : Value} {fp : List Nat} (h : Bts w l v fp) : ∃ a cap, v = .slice a l.length cap ∧ l.length ≤ cap := by
  have h' : Rd w (.l ((l.map btF).map fun e => e.map Fd.dt)) v fp := h
  obtain ⟨a, cap, ⟨rfl, hc⟩ | ⟨he, a, cap, rfl⟩⟩ := Rd.list h'
  · exact ⟨a, cap, by simp, by simpa using hc⟩
  · have : l = [] := by simpa using he
    subst this
    exact ⟨a, cap, rfl, Nat.zero_le _⟩
theorem Bts.at {w : World} {l : List Bt} {a : Option Addr} {n cap : Nat} {fp : List Nat} (h : Bts w l (.slice a n cap) fp) (hne : 0 < l.length) : ∃ b off, a = some ⟨b, off, none⟩ ∧ b < w.heap.size ∧ ∀ k (hk : k < l.length),
    w.cell? ⟨b, off + k * 4, none⟩ = some (.int .i64 l[k].d) ∧ w.cell? ⟨b, off + k * 4 + 1, none⟩ = some (.int .i64 l[k].a) ∧ w.cell? ⟨b, off + k * 4 + 2, none⟩ = some (.int .i64 l[k].r) ∧ w.cell? ⟨b, off + k * 4 + 3, none⟩ = some (.int .i64 l[k].s) := by
  obtain ⟨b, off, rfl, hb, hc⟩ := rows_at (es := l.map btF) (m := 4) h (by simpa using hne) (fun e he => by obtain ⟨x, _, rfl⟩ := List.mem_map.1 he; rfl)
  refine ⟨b, off, rfl, hb, fun k hk => ?_⟩
  have hk' : k < (l.map btF).length := by simpa using hk
  have he : (l.map btF)[k] = btF l[k] := by simp
  obtain ⟨c0, _, h0, r0⟩ := hc k hk' 0 (by rw [he]; simp [btF])
  obtain ⟨c1, _, h1, r1⟩ := hc k hk' 1 (by rw [he]; simp [btF])
  obtain ⟨c2, _, h2, r2⟩ := hc k hk' 2 (by rw [he]; simp [btF])
  obtain ⟨c3, _, h3, r3⟩ := hc k hk' 3 (by rw [he]; simp [btF])
  obtain rfl := rd_i r0 (x := l[k].d) (by simp only [he]; rfl)
  obtain rfl := rd_i r1 (x := l[k].a) (by simp only [he]; rfl)
  obtain rfl := rd_i r2 (x := l[k].r) (by simp only [he]; rfl)
  obtain rfl := rd_i r3 (x := l[k].s) (by simp only [he]; rfl)
  exact ⟨h0, h1, h2, h3⟩
theorem bts_of {E : TypeId} {w : World} {B : Nat} {v : Value} {l : List Bt} (h : OwnN E 4 w B v (l.map btN)) : ∃ a cap fp, v = .slice a l.length cap ∧ l.length ≤ cap ∧ Bts w l v fp := by
  obtain ⟨fp, hr⟩ := (h.ownR (Ei := E) (Nat.le_refl _)).reads
  obtain ⟨a, cap, rfl, hc⟩ := h.slice
  rw [List.length_map] at hr hc ⊢
  refine ⟨a, cap, fp, rfl, hc, ?_⟩
  unfold Bts
  rw [List.map_map] at hr
  exact hr
/-- A first part of a list of batches. -/
theorem bt_cut {w : World} {l : List Bt} {a : Option Addr} {cap : Nat} {fp : List Nat} (h : Bts w l (.slice a l.length cap) fp) {k : Nat} (hk : k ≤ l.length) : ∃ fq, Bts w (l.take k) (.slice a (l.take k).length cap) fq := by
  rw [List.length_take, Nat.min_eq_left hk]
  by_cases h0 : k = 0
  · subst h0
    refine ⟨[], ?_⟩
    unfold Bts rowsD
    rw [List.take_zero]
    refine .nil _ _ fun e => ?_
    subst e
    exact Rd.nilcap h
  · obtain ⟨b, off, rfl, _⟩ := h.at (by omega)
    have hrow : ∀ e ∈ (l.map btF).map (fun e => e.map Fd.dt), e.length = 4 := by
      intro e he
      rw [List.map_map] at he
      obtain ⟨x, _, rfl⟩ := List.mem_map.1 he
      rfl
    have hz : ((l.map btF).map fun e => e.map Fd.dt).length = l.length := by simp
    obtain ⟨fq, hq⟩ := Rd.cut (g := b) (off := off) (n := l.length) (cap := cap) h hrow 0 k off cap (by omega) (fun _ => by omega) (fun _ => by omega)
    refine ⟨fq, ?_⟩
    unfold Bts rowsD
    rw [List.map_take, List.map_take]
    rw [List.drop_zero] at hq
    exact hq.1

end Go.Proofs.Ythojbcecbeapgab

/- The reference's tests of batches and what an author uses, each by a walk of its text; condition: the list has at most 2^20 batches. -/
namespace Go.Proofs.Ythojbcecbeapgab
open Go.RowKit

theorem spec_l23Batch (d a r s : Int) (w : World) :
    Calls Try.prog 36 #[.agg #[.int .i64 d, .int .i64 a, .int .i64 r, .int .i64 s]] w fun e w' => e = .returned (.bool (btB ⟨d, a, r, s⟩)) ∧ Below w.heap.size w w' := by
  have hb0 : Below w.heap.size w (w.alloc (.cells #[.int .i64 d, .int .i64 a, .int .i64 r, .int .i64 s] 27)) := (Below.refl _ _).alloc (Nat.le_refl _) _
  have s0 := Str.new w 27 #[.int .i64 d, .int .i64 a, .int .i64 r, .int .i64 s]
  have k0 := s0.cell 0 (v := .int .i64 d) rfl
  have k1 := s0.cell 1 (v := .int .i64 a) rfl
  have k2 := s0.cell 2 (v := .int .i64 r) rfl
  have k3 := s0.cell 3 (v := .int .i64 s) rfl
  have H0 := Lib.hid (fun W => spec_l2Digest d W)
  have H1 := Lib.hid (fun W => spec_l6In a 0 6 W)
  have H2 := Lib.hid (fun W => spec_l6In r 0 30 W)
  have H3 := Lib.hid (fun W => spec_l6In s 1 12 W)
  have Hb0 := Lib.hid hb0; clear hb0 s0
  have Hres := Lib.hid (show btB ⟨d, a, r, s⟩ = (digB d && decide (0 ≤ a ∧ a ≤ 6) && decide (0 ≤ r ∧ r ≤ 30) && decide (1 ≤ s ∧ s ≤ 12)) from rfl)
  generalize decide (0 ≤ a ∧ a ≤ 6) = xa at *
  generalize decide (0 ≤ r ∧ r ≤ 30) = xr at *
  generalize decide (1 ≤ s ∧ s ≤ 12) = xs at *
  generalize digB d = xd at *
  go_enter Try.func36, Try.ntmps36
  go_wp2_with fail
  generalize w.alloc (.cells #[.int .i64 d, .int .i64 a, .int .i64 r, .int .i64 s] 27) = W0 at *
  refine (H0.out W0).mono ?_
  rintro e w1 ⟨rfl, rfl⟩
  cases xd with
  | false =>
    go_wp2
    go_ret
    exact ⟨ret_bool (by rw [Hres.out]; rfl), Hb0.out⟩
  | true =>
  go_wp2_with fail
  refine (H1.out W0).mono ?_
  rintro e w1 ⟨rfl, rfl⟩
  cases xa with
  | false =>
    go_wp2
    go_ret
    exact ⟨ret_bool (by rw [Hres.out]; rfl), Hb0.out⟩
  | true =>
  go_wp2_with fail
  refine (H2.out W0).mono ?_
  rintro e w1 ⟨rfl, rfl⟩
  cases xr with
  | false =>
    go_wp2
    go_ret
    exact ⟨ret_bool (by rw [Hres.out]; rfl), Hb0.out⟩
  | true =>
  go_wp2_with fail
  refine (H3.out W0).mono ?_
  rintro e w1 ⟨rfl, rfl⟩
  go_wp2
  go_ret
  exact ⟨ret_bool (by rw [Hres.out]; cases xs <;> rfl), Hb0.out⟩

theorem usZ_take {l : List Bt} {k : Nat} (h : k < l.length) (a : Int) : usZ (l.take (k + 1)) a = usZ (l.take k) a + if l[k].a = a then l[k].s else 0 := by
  rw [List.take_succ_eq_append_getElem h, usZ_app, usZ_cons]; simp [usZ]
theorem usZ_bd {l : List Bt} {m : Int} (hm : 0 ≤ m) (h : ∀ b ∈ l, 0 - m ≤ b.s ∧ b.s ≤ m) (a : Int) : 0 - m * l.length ≤ usZ l a ∧ usZ l a ≤ m * l.length := by
  induction l with
  | nil => simp [usZ]
  | cons b r ih =>
    have h1 := h b (by simp)
    have h2 := ih fun x hx => h x (by simp [hx])
    rw [usZ_cons, List.length_cons]
    have : m * ((r.length + 1 : Nat) : Int) = m * r.length + m := by rw [Int.natCast_add, Int.mul_add]; omega
    rw [this]
    split <;> omega
set_option maxHeartbeats 2000000 in
theorem spec_l23Used (l : List Bt) (v : Value) (fp : List Nat) (a : Int) (w : World) (hbig : l.length ≤ 1048577) (hl : Bts w l v fp) :
    Calls Try.prog 37 #[v, .int .i64 a] w fun e w' => ∃ n, e = .returned (.int .i64 n) ∧ ((∀ b ∈ l, -1048576 ≤ b.s ∧ b.s ≤ 1048576) → n = usZ l a) ∧ Drawn w w' := by
  obtain ⟨va, vc, rfl, _⟩ := hl.slice
  have Hl := Lib.hid hl; clear hl
  obtain ⟨Bd, hBd⟩ : ∃ Bd : Prop, Bd = ∀ b ∈ l, -1048576 ≤ b.s ∧ b.s ≤ 1048576 := ⟨_, rfl⟩
  have Hstep := Lib.hid (fun k (h : k < l.length) N (hb : Bd) (hN : N = usZ (l.take k) a) (he : l[k].a = a) => show IntKind.i64.wrap (N + l[k].s) = usZ (l.take (k + 1)) a from by
    subst hBd
    have h1 := usZ_bd (l := l.take k) (m := 1048576) (by omega) (fun b hb' => by have := hb b (List.mem_of_mem_take hb'); omega) a
    have h2 := hb l[k] (List.getElem_mem h)
    have h3 : (l.take k).length ≤ 1048577 := by rw [List.length_take]; omega
    rw [usZ_take h a, if_pos he, hN]
    exact IntWalk.i64_in _ (by omega))
  have Hsame := Lib.hid (fun k (h : k < l.length) N (hN : N = usZ (l.take k) a) (he : ¬ l[k].a = a) => show N = usZ (l.take (k + 1)) a from by rw [usZ_take h a, if_neg he, hN]; omega)
  have H0 := Lib.hid (show usZ (l.take 0) a = 0 from rfl)
  have He := Lib.hid (show usZ (l.take l.length) a = usZ l a by rw [List.take_length])
  rw [← hBd]
  clear hBd
  go_enter Try.func37, Try.ntmps37
  go_wp2
  go_loopw [5, 6] (fun n i wr => ∃ (k : Nat) (N : Int), k ≤ l.length ∧ i = .int .i64 k ∧ n = .int .i64 N ∧ Hid (Bd → N = usZ (l.take k) a) ∧ Drawn w wr) (fun _ i _ => l.length - (intOf i).toNat)
  case atStart => exact ⟨0, 0, by omega, rfl, rfl, Lib.hid (fun _ => H0.out.symm), Drawn.refl _⟩
  case round =>
    obtain ⟨k, N, hk, rfl, rfl, HN, hwr⟩ := hrel
    have Hwr := Lib.hid hwr; clear hwr
    by_cases hlt : k < l.length
    · have hlt' : (k : Int) < (l.length : Int) := by omega
      obtain ⟨b, off, rfl, hb, hat⟩ := (Hl.out.under (Hwr.out.below _)).at (by omega)
      obtain ⟨_, c1, _, c3⟩ := hat k hlt
      have Hst := Lib.hid (Hstep.out k hlt N)
      have Hsm := Lib.hid (Hsame.out k hlt N)
      clear hat
      generalize l[k] = x at *
      obtain ⟨xd, xa, xr, xs⟩ := x
      dsimp only at *
      by_cases ha : xa = a
      · have ha' : (xa == a) = true := by rw [beq_iff_eq]; exact ha
        have Hn := Lib.hid (fun hb => Hst.out hb (HN.out hb) ha)
        clear ha
        go_wp2
        go_roundw
        case rel => exact ⟨k + 1, _, by omega, by go_num, rfl, Lib.hid (fun hb => (IntWalk.i64_left _).symm.trans (Hn.out hb)), Hwr.out⟩
        case measure => simp [intOf]; omega
      · have ha' : (xa == a) = false := by rw [beq_eq_false_iff_ne]; exact ha
        have Hn := Lib.hid (fun hb => Hsm.out (HN.out hb) ha)
        clear ha
        go_wp2
        go_roundw
        case rel => exact ⟨k + 1, N, by omega, by go_num, rfl, Hn, Hwr.out⟩
        case measure => simp [intOf]; omega
    · obtain rfl : k = l.length := by omega
      have Hn := Lib.hid (fun hb => (HN.out hb).trans He.out)
      go_wp2
      go_ret
      exact ⟨N, rfl, Hn.out, Hwr.out⟩

end Go.Proofs.Ythojbcecbeapgab

/- The reference's test of stores, by a walk of its text; condition: the list has at most 2^20 batches. -/
namespace Go.Proofs.Ythojbcecbeapgab
open Go.RowKit

/-- The j-th batch passes the test. -/
def okS (f : Int) (l : List Bt) (j : Nat) : Prop := ∃ h : j < l.length, btB l[j] = true ∧ f ≤ l[j].r ∧ (0 < j → (l[j - 1]'(by omega)).d < l[j].d) ∧ ((∀ b ∈ l, -1048576 ≤ b.s ∧ b.s ≤ 1048576) → usZ l l[j].a ≤ 30)
theorem st_small {f : Int} {l : List Bt} (h : stP f l) : ∀ b ∈ l, -1048576 ≤ b.s ∧ b.s ≤ 1048576 := fun b hb => by have := btB_iff.1 (h.2.2.2 b hb).1; omega
theorem st_ok {f : Int} {l : List Bt} (h : stP f l) {j : Nat} (hj : j < l.length) : okS f l j :=
  ⟨hj, (h.2.2.2 _ (List.getElem_mem hj)).1, (h.2.2.2 _ (List.getElem_mem hj)).2.1, fun h0 => List.pairwise_iff_getElem.1 h.2.2.1 (j - 1) j (by omega) hj (by omega), fun _ => (h.2.2.2 _ (List.getElem_mem hj)).2.2⟩
theorem st_all {f : Int} {l : List Bt} (h : ∀ j, j < l.length → okS f l j) : stB f l = decide ((0 ≤ f ∧ f ≤ 31) ∧ l.length ≤ 12) := by
  have hb : ∀ b ∈ l, btB b = true ∧ f ≤ b.r ∧ usZ l b.a ≤ 30 := by
    have h0 : ∀ b ∈ l, btB b = true := fun b hb => by
      obtain ⟨j, hj, rfl⟩ := List.mem_iff_getElem.1 hb
      obtain ⟨_, h1, _⟩ := h j hj
      exact h1
    have hsm : ∀ b ∈ l, -1048576 ≤ b.s ∧ b.s ≤ 1048576 := fun b hb => by have := btB_iff.1 (h0 b hb); omega
    intro b hb
    obtain ⟨j, hj, rfl⟩ := List.mem_iff_getElem.1 hb
    obtain ⟨_, h1, h2, _, h4⟩ := h j hj
    exact ⟨h1, h2, h4 hsm⟩
  have hs : l.Pairwise fun x y => x.d < y.d := by
    rw [List.pairwise_iff_getElem]
    intro i j hi hj hij
    induction j with
    | zero => omega
    | succ j ih =>
      obtain ⟨_, _, _, h3, _⟩ := h (j + 1) hj
      have h3 := h3 (by omega)
      have e : j + 1 - 1 = j := by omega
      simp only [e] at h3
      by_cases e2 : i = j
      · subst e2; exact h3
      · have := ih (by omega) (by omega); omega
  unfold stB
  refine decide_eq_decide.2 ⟨fun h => ⟨h.1, h.2.1⟩, fun h => ⟨h.1, h.2, hs, hb⟩⟩
theorem st_no {f : Int} {l : List Bt} {j : Nat} (hj : j < l.length) (h : ¬ okS f l j) : stB f l = false := decide_eq_false fun hs => h (st_ok hs hj)
set_option maxHeartbeats 4000000 in
set_option maxRecDepth 8000 in
theorem spec_StoreValid (f : Int) (l : List Bt) (v : Value) (fp : List Nat) (w : World) (hbig : l.length ≤ 1048577) (hl : Bts w l v fp) :
    Calls Try.prog 19 #[.agg #[.int .i64 f, v]] w fun e w' => e = .returned (.bool (stB f l)) ∧ Below w.heap.size w w' := by
  obtain ⟨va, vc, rfl, _⟩ := hl.slice
  have hb0 : Below w.heap.size w (w.alloc (.cells #[.int .i64 f, .slice va l.length vc] 25)) := (Below.refl _ _).alloc (Nat.le_refl _) _
  have s0 := Str.new w 25 #[.int .i64 f, .slice va l.length vc]
  have hsz0 : (w.alloc (.cells #[.int .i64 f, .slice va l.length vc] 25)).heap.size = w.heap.size + 1 := by simp
  have Hl := Lib.hid (hl.under hb0); clear hl
  have Hb0 := Lib.hid hb0; clear hb0
  have Hs0 := Lib.hid s0; clear s0
  have HI := Lib.hid (fun W => spec_l6In f 0 31 W)
  have Hall := Lib.hid (st_all (f := f) (l := l))
  have Hno := Lib.hid (fun j => st_no (f := f) (l := l) (j := j))
  go_enter Try.func19, Try.ntmps19
  go_wp2_with fail
  generalize w.alloc (.cells #[.int .i64 f, .slice va l.length vc] 25) = W0 at *
  generalize hSe : w.heap.size = SB at *
  go_loopw [3, 4] (fun i _ wr => ∃ k : Nat, k ≤ l.length ∧ i = .int .i64 k ∧ Hid (∀ j, j < k → okS f l j) ∧ Below W0.heap.size W0 wr) (fun i _ _ => l.length - (intOf i).toNat)
  case atStart => exact ⟨0, by omega, rfl, Lib.hid (fun j h => by omega), Below.refl _ _⟩
  case round =>
    obtain ⟨k, hk, rfl, Hup, hbel⟩ := hrel
    have s1 := (hbel.block _ Hs0.out.lt).trans Hs0.out
    have z0 := Str.cell s1 0 (v := .int .i64 f) rfl
    have z1 := Str.cell s1 1 (v := .slice va l.length vc) rfl
    have hwl : SB < wr.heap.size := by have := hbel.size; omega
    clear s1
    by_cases hlt : k < l.length
    · have hlt' : (k : Int) < (l.length : Int) := by omega
      have Hl1 := Lib.hid (Hl.out.under hbel)
      obtain ⟨b, off, rfl, hb, hat⟩ := Hl1.out.at (by omega)
      obtain ⟨c0, c1, c2, c3⟩ := hat k hlt
      have Hat := Lib.hid hat; clear hat
      have hbA : Below wr.heap.size wr (wr.alloc (.cells #[.int .i64 l[k].d, .int .i64 l[k].a, .int .i64 l[k].r, .int .i64 l[k].s] 27)) := (Below.refl _ _).alloc (Nat.le_refl _) _
      have sA := Str.new wr 27 #[.int .i64 l[k].d, .int .i64 l[k].a, .int .i64 l[k].r, .int .i64 l[k].s]
      have y0 := sA.cell 0 (v := .int .i64 l[k].d) rfl
      have y1 := sA.cell 1 (v := .int .i64 l[k].a) rfl
      have y2 := sA.cell 2 (v := .int .i64 l[k].r) rfl
      have y3 := sA.cell 3 (v := .int .i64 l[k].s) rfl
      have z0 := (hbA.cell (p := ⟨SB, 0, none⟩) hwl).trans z0
      have z1 := (hbA.cell (p := ⟨SB, 1, none⟩) hwl).trans z1
      have hsA : (wr.alloc (.cells #[.int .i64 l[k].d, .int .i64 l[k].a, .int .i64 l[k].r, .int .i64 l[k].s] 27)).heap.size = wr.heap.size + 1 := by simp
      have HbB := Lib.hid (below_step hbel hbel.size hbA)
      have hSB : SB < (wr.alloc (.cells #[.int .i64 l[k].d, .int .i64 l[k].a, .int .i64 l[k].r, .int .i64 l[k].s] 27)).heap.size := by omega
      have hVB : wr.heap.size < (wr.alloc (.cells #[.int .i64 l[k].d, .int .i64 l[k].a, .int .i64 l[k].r, .int .i64 l[k].s] 27)).heap.size := by omega
      have hbB : b < (wr.alloc (.cells #[.int .i64 l[k].d, .int .i64 l[k].a, .int .i64 l[k].r, .int .i64 l[k].s] 27)).heap.size := by omega
      have HbA := Lib.hid hbA
      obtain ⟨pd, hpd⟩ : ∃ pd, ∀ h0 : 0 < k, (l[k - 1]'(by omega)).d = pd := by
        by_cases h0 : 0 < k
        · exact ⟨(l[k - 1]'(by omega)).d, fun _ => rfl⟩
        · exact ⟨0, fun h => absurd h h0⟩
      have HV := Lib.hid (fun W => spec_l23Batch l[k].d l[k].a l[k].r l[k].s W)
      have HU := Lib.hid (fun W (hb : Below W0.heap.size W0 W) => spec_l23Used l (.slice (some ⟨b, off, none⟩) l.length vc) fp l[k].a W hbig (Hl.out.under hb))
      have Hno1 := Lib.hid (fun (h : btB l[k] = false) => Hno.out k hlt fun ⟨_, h1, _⟩ => by rw [h] at h1; cases h1)
      have Hno2 := Lib.hid (fun (h : l[k].r < f) => Hno.out k hlt fun ⟨_, _, h1, _⟩ => by omega)
      have Hno3 := Lib.hid (fun (h0 : 0 < k) (h : ¬ pd < l[k].d) => Hno.out k hlt fun ⟨_, _, _, h1, _⟩ => h (by rw [← hpd h0]; exact h1 h0))
      have Hno4 := Lib.hid (fun n (hn : (∀ b ∈ l, -1048576 ≤ b.s ∧ b.s ≤ 1048576) → n = usZ l l[k].a) (h : 30 < n) => show stB f l = false from decide_eq_false fun hs => by
        have h1 := (st_ok hs hlt)
        obtain ⟨_, _, _, _, h4⟩ := h1
        have := h4 (st_small hs)
        have := hn (st_small hs)
        omega)
      have Hyes := Lib.hid (fun n (hn : (∀ b ∈ l, -1048576 ≤ b.s ∧ b.s ≤ 1048576) → n = usZ l l[k].a) (h : n ≤ 30) (h1 : btB l[k] = true) (h2 : f ≤ l[k].r) (h3 : 0 < k → pd < l[k].d) => show ∀ j, j < k + 1 → okS f l j from fun j hj => by
        by_cases e : j = k
        · subst e
          exact ⟨hlt, h1, h2, fun h0 => by rw [hpd h0]; exact h3 h0, fun hb => by rw [← hn hb]; exact h⟩
        · exact Hup.out j (by omega))
      have Hpd := Lib.hid (fun (h0 : 0 < k) => show wr.cell? ⟨b, off + (k - 1) * 4, none⟩ = some (.int .i64 pd) by rw [← hpd h0]; exact (Hat.out (k - 1) (by omega)).1)
      have hw1 : IntKind.i64.wrap ((k : Int) - 1) = k - 1 := IntWalk.i64_in _ (by omega)
      clear hbA sA hbel Hup hpd Hat
      generalize hx : l[k] = x at *
      obtain ⟨xd, xa, xr, xs⟩ := x
      dsimp only at *
      clear hx
      cases h1 : btB ⟨xd, xa, xr, xs⟩ with
      | false =>
        rw [h1] at HV
        have Hz := Lib.hid (Hno1.out h1)
        clear h1 hw1
        go_wp2_with fail
        generalize wr.alloc (.cells #[.int .i64 xd, .int .i64 xa, .int .i64 xr, .int .i64 xs] 27) = wB at *
        generalize hVe : wr.heap.size = VB at *
        clear hVe
        refine wp_region_held_drew (S := fun W => Below wB.heap.size wB W ∧ W.cell? ⟨SB, 0, none⟩ = some (.int .i64 f) ∧ W.cell? ⟨SB, 1, none⟩ = some (.slice (some ⟨b, off, none⟩) l.length vc) ∧ W.cell? ⟨VB, 0, none⟩ = some (.int .i64 xd) ∧ W.cell? ⟨VB, 1, none⟩ = some (.int .i64 xa) ∧ W.cell? ⟨VB, 2, none⟩ = some (.int .i64 xr) ∧ W.cell? ⟨VB, 3, none⟩ = some (.int .i64 xs)) (by kernel_rfl) ⟨(Below.refl _ _).drew, z0, z1, y0, y1, y2, y3⟩ (fun hH => ?_)
        refine takeH 0 (v := ?vsa1) rfl (by kernel_rfl) (by kernel_rfl) (by kernel_rfl) (fun _ _ _ h => h) hH rfl ?ysa1 ?rsa1
        case ysa1 => intro W hSw; go_simp; try with_reducible rfl
        try simp only [Act.put, List.setIfInBounds_toArray, List.set_cons_zero, List.set_cons_succ]
        refine callH 1 rfl (by kernel_rfl) rfl (fun K hK => ?_)
        go_simp
        go_at_call 36
        refine (HV.out _).mono ?_
        rintro e wv ⟨rfl, hbz⟩
        refine hK.out _ _ ⟨below_step hH.1 hH.1.size hbz, (hbz.cell (p := ⟨SB, 0, none⟩) (Nat.lt_of_lt_of_le hSB hH.1.size)).trans hH.2.1, (hbz.cell (p := ⟨SB, 1, none⟩) (Nat.lt_of_lt_of_le hSB hH.1.size)).trans hH.2.2.1, (hbz.cell (p := ⟨VB, 0, none⟩) (Nat.lt_of_lt_of_le hVB hH.1.size)).trans hH.2.2.2.1, (hbz.cell (p := ⟨VB, 1, none⟩) (Nat.lt_of_lt_of_le hVB hH.1.size)).trans hH.2.2.2.2.1, (hbz.cell (p := ⟨VB, 2, none⟩) (Nat.lt_of_lt_of_le hVB hH.1.size)).trans hH.2.2.2.2.2.1, (hbz.cell (p := ⟨VB, 3, none⟩) (Nat.lt_of_lt_of_le hVB hH.1.size)).trans hH.2.2.2.2.2.2⟩ (fun hH => ?_)
        clear hK K
        try simp only [Act.put, List.setIfInBounds_toArray, List.set_cons_zero, List.set_cons_succ]
        refine takeH 2 (v := ?vsa2) rfl (by kernel_rfl) (by kernel_rfl) (by kernel_rfl) (fun _ _ _ h => h) hH rfl ?ysa2 ?rsa2
        case ysa2 => intro W hSw; go_simp; try with_reducible rfl
        try simp only [Act.put, List.setIfInBounds_toArray, List.set_cons_zero, List.set_cons_succ]
        refine takeH 3 (v := ?vsa3) rfl (by kernel_rfl) (by kernel_rfl) (by kernel_rfl) (fun _ _ _ h => h) hH rfl ?ysa3 ?rsa3
        case ysa3 => intro W hSw; go_simp; try with_reducible rfl
        try simp only [Act.put, List.setIfInBounds_toArray, List.set_cons_zero, List.set_cons_succ]
        refine skipH 4 rfl (by kernel_rfl) (by kernel_rfl) (by kernel_rfl) (fun _ _ _ h => h) hH rfl ?_
        try simp only [Act.put, List.setIfInBounds_toArray, List.set_cons_zero, List.set_cons_succ]
        refine skipH 5 rfl (by kernel_rfl) (by kernel_rfl) (by kernel_rfl) (fun _ _ _ h => h) hH rfl ?_
        try simp only [Act.put, List.setIfInBounds_toArray, List.set_cons_zero, List.set_cons_succ]
        refine skipH 6 rfl (by kernel_rfl) (by kernel_rfl) (by kernel_rfl) (fun _ _ _ h => h) hH rfl ?_
        try simp only [Act.put, List.setIfInBounds_toArray, List.set_cons_zero, List.set_cons_succ]
        refine skipH 7 rfl (by kernel_rfl) (by kernel_rfl) (by kernel_rfl) (fun _ _ _ h => h) hH rfl ?_
        try simp only [Act.put, List.setIfInBounds_toArray, List.set_cons_zero, List.set_cons_succ]
        refine skipH 8 rfl (by kernel_rfl) (by kernel_rfl) (by kernel_rfl) (fun _ _ _ h => h) hH rfl ?_
        try simp only [Act.put, List.setIfInBounds_toArray, List.set_cons_zero, List.set_cons_succ]
        refine takeH 9 (v := ?vsa4) rfl (by kernel_rfl) (by kernel_rfl) (by kernel_rfl) (fun _ _ _ h => h) hH rfl ?ysa4 ?rsa4
        case ysa4 => intro W hSw; go_simp; try with_reducible rfl
        try simp only [Act.put, List.setIfInBounds_toArray, List.set_cons_zero, List.set_cons_succ]
        refine takeH 10 (v := ?vsa5) rfl (by kernel_rfl) (by kernel_rfl) (by kernel_rfl) (fun _ _ _ h => h) hH rfl ?ysa5 ?rsa5
        case ysa5 => intro W hSw; go_simp; try with_reducible rfl
        try simp only [Act.put, List.setIfInBounds_toArray, List.set_cons_zero, List.set_cons_succ]
        refine skipH 11 rfl (by kernel_rfl) (by kernel_rfl) (by kernel_rfl) (fun _ _ _ h => h) hH rfl ?_
        try simp only [Act.put, List.setIfInBounds_toArray, List.set_cons_zero, List.set_cons_succ]
        refine skipH 12 rfl (by kernel_rfl) (by kernel_rfl) (by kernel_rfl) (fun _ _ _ h => h) hH rfl ?_
        try simp only [Act.put, List.setIfInBounds_toArray, List.set_cons_zero, List.set_cons_succ]
        refine skipH 13 rfl (by kernel_rfl) (by kernel_rfl) (by kernel_rfl) (fun _ _ _ h => h) hH rfl ?_
        try simp only [Act.put, List.setIfInBounds_toArray, List.set_cons_zero, List.set_cons_succ]
        refine skipH 14 rfl (by kernel_rfl) (by kernel_rfl) (by kernel_rfl) (fun _ _ _ h => h) hH rfl ?_
        try simp only [Act.put, List.setIfInBounds_toArray, List.set_cons_zero, List.set_cons_succ]
        refine skipH 15 rfl (by kernel_rfl) (by kernel_rfl) (by kernel_rfl) (fun _ _ _ h => h) hH rfl ?_
        try simp only [Act.put, List.setIfInBounds_toArray, List.set_cons_zero, List.set_cons_succ]
        refine skipH 16 rfl (by kernel_rfl) (by kernel_rfl) (by kernel_rfl) (fun _ _ _ h => h) hH rfl ?_
        try simp only [Act.put, List.setIfInBounds_toArray, List.set_cons_zero, List.set_cons_succ]
        refine skipH 17 rfl (by kernel_rfl) (by kernel_rfl) (by kernel_rfl) (fun _ _ _ h => h) hH rfl ?_
        try simp only [Act.put, List.setIfInBounds_toArray, List.set_cons_zero, List.set_cons_succ]
        refine skipH 18 rfl (by kernel_rfl) (by kernel_rfl) (by kernel_rfl) (fun _ _ _ h => h) hH rfl ?_
        try simp only [Act.put, List.setIfInBounds_toArray, List.set_cons_zero, List.set_cons_succ]
        refine skipH 19 rfl (by kernel_rfl) (by kernel_rfl) (by kernel_rfl) (fun _ _ _ h => h) hH rfl ?_
        try simp only [Act.put, List.setIfInBounds_toArray, List.set_cons_zero, List.set_cons_succ]
        refine skipH 20 rfl (by kernel_rfl) (by kernel_rfl) (by kernel_rfl) (fun _ _ _ h => h) hH rfl ?_
        try simp only [Act.put, List.setIfInBounds_toArray, List.set_cons_zero, List.set_cons_succ]
        refine skipH 21 rfl (by kernel_rfl) (by kernel_rfl) (by kernel_rfl) (fun _ _ _ h => h) hH rfl ?_
        try simp only [Act.put, List.setIfInBounds_toArray, List.set_cons_zero, List.set_cons_succ]
        refine skipH 22 rfl (by kernel_rfl) (by kernel_rfl) (by kernel_rfl) (fun _ _ _ h => h) hH rfl ?_
        try simp only [Act.put, List.setIfInBounds_toArray, List.set_cons_zero, List.set_cons_succ]
        refine skipH 23 rfl (by kernel_rfl) (by kernel_rfl) (by kernel_rfl) (fun _ _ _ h => h) hH rfl ?_
        try simp only [Act.put, List.setIfInBounds_toArray, List.set_cons_zero, List.set_cons_succ]
        refine skipH 24 rfl (by kernel_rfl) (by kernel_rfl) (by kernel_rfl) (fun _ _ _ h => h) hH rfl ?_
        try simp only [Act.put, List.setIfInBounds_toArray, List.set_cons_zero, List.set_cons_succ]
        refine takeH 25 (v := ?vsa6) rfl (by kernel_rfl) (by kernel_rfl) (by kernel_rfl) (fun _ _ _ h => h) hH rfl ?ysa6 ?rsa6
        case ysa6 => intro W hSw; go_simp; try with_reducible rfl
        try simp only [Act.put, List.setIfInBounds_toArray, List.set_cons_zero, List.set_cons_succ]
        refine takeH 26 (v := ?vsa7) rfl (by kernel_rfl) (by kernel_rfl) (by kernel_rfl) (fun _ _ _ h => h) hH rfl ?ysa7 ?rsa7
        case ysa7 => intro W hSw; go_simp; try with_reducible rfl
        try simp only [Act.put, List.setIfInBounds_toArray, List.set_cons_zero, List.set_cons_succ]
        refine skipH 27 rfl (by kernel_rfl) (by kernel_rfl) (by kernel_rfl) (fun _ _ _ h => h) hH rfl ?_
        try simp only [Act.put, List.setIfInBounds_toArray, List.set_cons_zero, List.set_cons_succ]
        refine skipH 28 rfl (by kernel_rfl) (by kernel_rfl) (by kernel_rfl) (fun _ _ _ h => h) hH rfl ?_
        try simp only [Act.put, List.setIfInBounds_toArray, List.set_cons_zero, List.set_cons_succ]
        refine skipH 29 rfl (by kernel_rfl) (by kernel_rfl) (by kernel_rfl) (fun _ _ _ h => h) hH rfl ?_
        try simp only [Act.put, List.setIfInBounds_toArray, List.set_cons_zero, List.set_cons_succ]
        refine skipH 30 rfl (by kernel_rfl) (by kernel_rfl) (by kernel_rfl) (fun _ _ _ h => h) hH rfl ?_
        try simp only [Act.put, List.setIfInBounds_toArray, List.set_cons_zero, List.set_cons_succ]
        refine skipH 31 rfl (by kernel_rfl) (by kernel_rfl) (by kernel_rfl) (fun _ _ _ h => h) hH rfl ?_
        try simp only [Act.put, List.setIfInBounds_toArray, List.set_cons_zero, List.set_cons_succ]
        refine skipH 32 rfl (by kernel_rfl) (by kernel_rfl) (by kernel_rfl) (fun _ _ _ h => h) hH rfl ?_
        try simp only [Act.put, List.setIfInBounds_toArray, List.set_cons_zero, List.set_cons_succ]
        refine takeH 33 (v := ?vsa8) rfl (by kernel_rfl) (by kernel_rfl) (by kernel_rfl) (fun _ _ _ h => h) hH rfl ?ysa8 ?rsa8
        case ysa8 => intro W hSw; go_simp; try with_reducible rfl
        try simp only [Act.put, List.setIfInBounds_toArray, List.set_cons_zero, List.set_cons_succ]
        have Hbz := Lib.hid hH.1
        refine wpAnyH_done (by kernel_rfl) ?_ _
        try simp only [Act.put]
        clear hH z0 z1 y0 y1 y2 y3
        go_wp2
        go_ret
        exact ⟨ret_bool (by rw [(Hz.out)]), by rw [hSe]; exact Hb0.out.trans ((below_step HbB.out HbB.out.size Hbz.out).mono (by omega))⟩
      | true =>
      rw [h1] at HV
      by_cases h2 : xr < f
      · have g2 : decide (xr < f) = true := decide_eq_true h2
        have Hz := Lib.hid (Hno2.out h2)
        clear h1 h2 hw1
        go_wp2_with fail
        generalize wr.alloc (.cells #[.int .i64 xd, .int .i64 xa, .int .i64 xr, .int .i64 xs] 27) = wB at *
        generalize hVe : wr.heap.size = VB at *
        clear hVe
        refine wp_region_held_drew (S := fun W => Below wB.heap.size wB W ∧ W.cell? ⟨SB, 0, none⟩ = some (.int .i64 f) ∧ W.cell? ⟨SB, 1, none⟩ = some (.slice (some ⟨b, off, none⟩) l.length vc) ∧ W.cell? ⟨VB, 0, none⟩ = some (.int .i64 xd) ∧ W.cell? ⟨VB, 1, none⟩ = some (.int .i64 xa) ∧ W.cell? ⟨VB, 2, none⟩ = some (.int .i64 xr) ∧ W.cell? ⟨VB, 3, none⟩ = some (.int .i64 xs)) (by kernel_rfl) ⟨(Below.refl _ _).drew, z0, z1, y0, y1, y2, y3⟩ (fun hH => ?_)
        refine takeH 0 (v := ?vsb1) rfl (by kernel_rfl) (by kernel_rfl) (by kernel_rfl) (fun _ _ _ h => h) hH rfl ?ysb1 ?rsb1
        case ysb1 => intro W hSw; go_simp; try with_reducible rfl
        try simp only [Act.put, List.setIfInBounds_toArray, List.set_cons_zero, List.set_cons_succ]
        refine callH 1 rfl (by kernel_rfl) rfl (fun K hK => ?_)
        go_simp
        go_at_call 36
        refine (HV.out _).mono ?_
        rintro e wv ⟨rfl, hbz⟩
        refine hK.out _ _ ⟨below_step hH.1 hH.1.size hbz, (hbz.cell (p := ⟨SB, 0, none⟩) (Nat.lt_of_lt_of_le hSB hH.1.size)).trans hH.2.1, (hbz.cell (p := ⟨SB, 1, none⟩) (Nat.lt_of_lt_of_le hSB hH.1.size)).trans hH.2.2.1, (hbz.cell (p := ⟨VB, 0, none⟩) (Nat.lt_of_lt_of_le hVB hH.1.size)).trans hH.2.2.2.1, (hbz.cell (p := ⟨VB, 1, none⟩) (Nat.lt_of_lt_of_le hVB hH.1.size)).trans hH.2.2.2.2.1, (hbz.cell (p := ⟨VB, 2, none⟩) (Nat.lt_of_lt_of_le hVB hH.1.size)).trans hH.2.2.2.2.2.1, (hbz.cell (p := ⟨VB, 3, none⟩) (Nat.lt_of_lt_of_le hVB hH.1.size)).trans hH.2.2.2.2.2.2⟩ (fun hH => ?_)
        clear hK K
        try simp only [Act.put, List.setIfInBounds_toArray, List.set_cons_zero, List.set_cons_succ]
        refine takeH 2 (v := ?vsb2) rfl (by kernel_rfl) (by kernel_rfl) (by kernel_rfl) (fun _ _ _ h => h) hH rfl ?ysb2 ?rsb2
        case ysb2 => intro W hSw; go_simp; try with_reducible rfl
        try simp only [Act.put, List.setIfInBounds_toArray, List.set_cons_zero, List.set_cons_succ]
        refine takeH 3 (v := ?vsb3) rfl (by kernel_rfl) (by kernel_rfl) (by kernel_rfl) (fun _ _ _ h => h) hH rfl ?ysb3 ?rsb3
        case ysb3 => intro W hSw; go_simp; try with_reducible rfl
        try simp only [Act.put, List.setIfInBounds_toArray, List.set_cons_zero, List.set_cons_succ]
        refine takeH 4 (v := ?vsb4) rfl (by kernel_rfl) (by kernel_rfl) (by kernel_rfl) (fun _ _ _ h => h) hH rfl ?ysb4 ?rsb4
        case ysb4 => intro W hSw; go_simp; try with_reducible rfl
        try simp only [Act.put, List.setIfInBounds_toArray, List.set_cons_zero, List.set_cons_succ]
        refine takeH 5 (v := ?vsb5) rfl (by kernel_rfl) (by kernel_rfl) (by kernel_rfl) (fun _ _ _ h => h) hH rfl ?ysb5 ?rsb5
        case ysb5 => intro W hSw; go_simp; try with_reducible rfl
        try simp only [Act.put, List.setIfInBounds_toArray, List.set_cons_zero, List.set_cons_succ]
        refine takeH 6 (v := ?vsb6) rfl (by kernel_rfl) (by kernel_rfl) (by kernel_rfl) (fun _ _ _ h => h) hH rfl ?ysb6 ?rsb6
        case ysb6 => intro W hSw; go_simp; try with_reducible rfl
        try simp only [Act.put, List.setIfInBounds_toArray, List.set_cons_zero, List.set_cons_succ]
        refine takeH 7 (v := ?vsb7) rfl (by kernel_rfl) (by kernel_rfl) (by kernel_rfl) (fun _ _ _ h => h) hH rfl ?ysb7 ?rsb7
        case ysb7 => intro W hSw; go_simp; try with_reducible rfl
        try simp only [Act.put, List.setIfInBounds_toArray, List.set_cons_zero, List.set_cons_succ]
        refine takeH 8 (v := ?vsb8) rfl (by kernel_rfl) (by kernel_rfl) (by kernel_rfl) (fun _ _ _ h => h) hH rfl ?ysb8 ?rsb8
        case ysb8 => intro W hSw; go_simp; try with_reducible rfl
        try simp only [Act.put, List.setIfInBounds_toArray, List.set_cons_zero, List.set_cons_succ]
        refine takeH 9 (v := ?vsb9) rfl (by kernel_rfl) (by kernel_rfl) (by kernel_rfl) (fun _ _ _ h => h) hH rfl ?ysb9 ?rsb9
        case ysb9 => intro W hSw; go_simp; try with_reducible rfl
        try simp only [Act.put, List.setIfInBounds_toArray, List.set_cons_zero, List.set_cons_succ]
        refine takeH 10 (v := ?vsb10) rfl (by kernel_rfl) (by kernel_rfl) (by kernel_rfl) (fun _ _ _ h => h) hH rfl ?ysb10 ?rsb10
        case ysb10 => intro W hSw; go_simp; try with_reducible rfl
        try simp only [Act.put, List.setIfInBounds_toArray, List.set_cons_zero, List.set_cons_succ]
        refine skipH 11 rfl (by kernel_rfl) (by kernel_rfl) (by kernel_rfl) (fun _ _ _ h => h) hH rfl ?_
        try simp only [Act.put, List.setIfInBounds_toArray, List.set_cons_zero, List.set_cons_succ]
        refine skipH 12 rfl (by kernel_rfl) (by kernel_rfl) (by kernel_rfl) (fun _ _ _ h => h) hH rfl ?_
        try simp only [Act.put, List.setIfInBounds_toArray, List.set_cons_zero, List.set_cons_succ]
        refine skipH 13 rfl (by kernel_rfl) (by kernel_rfl) (by kernel_rfl) (fun _ _ _ h => h) hH rfl ?_
        try simp only [Act.put, List.setIfInBounds_toArray, List.set_cons_zero, List.set_cons_succ]
        refine skipH 14 rfl (by kernel_rfl) (by kernel_rfl) (by kernel_rfl) (fun _ _ _ h => h) hH rfl ?_
        try simp only [Act.put, List.setIfInBounds_toArray, List.set_cons_zero, List.set_cons_succ]
        refine skipH 15 rfl (by kernel_rfl) (by kernel_rfl) (by kernel_rfl) (fun _ _ _ h => h) hH rfl ?_
        try simp only [Act.put, List.setIfInBounds_toArray, List.set_cons_zero, List.set_cons_succ]
        refine skipH 16 rfl (by kernel_rfl) (by kernel_rfl) (by kernel_rfl) (fun _ _ _ h => h) hH rfl ?_
        try simp only [Act.put, List.setIfInBounds_toArray, List.set_cons_zero, List.set_cons_succ]
        refine skipH 17 rfl (by kernel_rfl) (by kernel_rfl) (by kernel_rfl) (fun _ _ _ h => h) hH rfl ?_
        try simp only [Act.put, List.setIfInBounds_toArray, List.set_cons_zero, List.set_cons_succ]
        refine skipH 18 rfl (by kernel_rfl) (by kernel_rfl) (by kernel_rfl) (fun _ _ _ h => h) hH rfl ?_
        try simp only [Act.put, List.setIfInBounds_toArray, List.set_cons_zero, List.set_cons_succ]
        refine skipH 19 rfl (by kernel_rfl) (by kernel_rfl) (by kernel_rfl) (fun _ _ _ h => h) hH rfl ?_
        try simp only [Act.put, List.setIfInBounds_toArray, List.set_cons_zero, List.set_cons_succ]
        refine skipH 20 rfl (by kernel_rfl) (by kernel_rfl) (by kernel_rfl) (fun _ _ _ h => h) hH rfl ?_
        try simp only [Act.put, List.setIfInBounds_toArray, List.set_cons_zero, List.set_cons_succ]
        refine skipH 21 rfl (by kernel_rfl) (by kernel_rfl) (by kernel_rfl) (fun _ _ _ h => h) hH rfl ?_
        try simp only [Act.put, List.setIfInBounds_toArray, List.set_cons_zero, List.set_cons_succ]
        refine skipH 22 rfl (by kernel_rfl) (by kernel_rfl) (by kernel_rfl) (fun _ _ _ h => h) hH rfl ?_
        try simp only [Act.put, List.setIfInBounds_toArray, List.set_cons_zero, List.set_cons_succ]
        refine skipH 23 rfl (by kernel_rfl) (by kernel_rfl) (by kernel_rfl) (fun _ _ _ h => h) hH rfl ?_
        try simp only [Act.put, List.setIfInBounds_toArray, List.set_cons_zero, List.set_cons_succ]
        refine skipH 24 rfl (by kernel_rfl) (by kernel_rfl) (by kernel_rfl) (fun _ _ _ h => h) hH rfl ?_
        try simp only [Act.put, List.setIfInBounds_toArray, List.set_cons_zero, List.set_cons_succ]
        refine takeH 25 (v := ?vsb11) rfl (by kernel_rfl) (by kernel_rfl) (by kernel_rfl) (fun _ _ _ h => h) hH rfl ?ysb11 ?rsb11
        case ysb11 => intro W hSw; go_simp; try with_reducible rfl
        try simp only [Act.put, List.setIfInBounds_toArray, List.set_cons_zero, List.set_cons_succ]
        refine takeH 26 (v := ?vsb12) rfl (by kernel_rfl) (by kernel_rfl) (by kernel_rfl) (fun _ _ _ h => h) hH rfl ?ysb12 ?rsb12
        case ysb12 => intro W hSw; go_simp; try with_reducible rfl
        try simp only [Act.put, List.setIfInBounds_toArray, List.set_cons_zero, List.set_cons_succ]
        refine skipH 27 rfl (by kernel_rfl) (by kernel_rfl) (by kernel_rfl) (fun _ _ _ h => h) hH rfl ?_
        try simp only [Act.put, List.setIfInBounds_toArray, List.set_cons_zero, List.set_cons_succ]
        refine skipH 28 rfl (by kernel_rfl) (by kernel_rfl) (by kernel_rfl) (fun _ _ _ h => h) hH rfl ?_
        try simp only [Act.put, List.setIfInBounds_toArray, List.set_cons_zero, List.set_cons_succ]
        refine skipH 29 rfl (by kernel_rfl) (by kernel_rfl) (by kernel_rfl) (fun _ _ _ h => h) hH rfl ?_
        try simp only [Act.put, List.setIfInBounds_toArray, List.set_cons_zero, List.set_cons_succ]
        refine skipH 30 rfl (by kernel_rfl) (by kernel_rfl) (by kernel_rfl) (fun _ _ _ h => h) hH rfl ?_
        try simp only [Act.put, List.setIfInBounds_toArray, List.set_cons_zero, List.set_cons_succ]
        refine skipH 31 rfl (by kernel_rfl) (by kernel_rfl) (by kernel_rfl) (fun _ _ _ h => h) hH rfl ?_
        try simp only [Act.put, List.setIfInBounds_toArray, List.set_cons_zero, List.set_cons_succ]
        refine skipH 32 rfl (by kernel_rfl) (by kernel_rfl) (by kernel_rfl) (fun _ _ _ h => h) hH rfl ?_
        try simp only [Act.put, List.setIfInBounds_toArray, List.set_cons_zero, List.set_cons_succ]
        refine takeH 33 (v := ?vsb13) rfl (by kernel_rfl) (by kernel_rfl) (by kernel_rfl) (fun _ _ _ h => h) hH rfl ?ysb13 ?rsb13
        case ysb13 => intro W hSw; go_simp; try with_reducible rfl
        try simp only [Act.put, List.setIfInBounds_toArray, List.set_cons_zero, List.set_cons_succ]
        have Hbz := Lib.hid hH.1
        refine wpAnyH_done (by kernel_rfl) ?_ _
        try simp only [Act.put]
        clear hH z0 z1 y0 y1 y2 y3
        go_wp2
        go_ret
        exact ⟨ret_bool (by rw [(Hz.out)]), by rw [hSe]; exact Hb0.out.trans ((below_step HbB.out HbB.out.size Hbz.out).mono (by omega))⟩
      have g2 : decide (xr < f) = false := decide_eq_false h2
      have Hf := Lib.hid (show f ≤ xr by omega)
      by_cases h0 : 0 < k
      · have g0 : decide ((0 : Int) < (k : Int)) = true := decide_eq_true (by omega)
        have g0' : (0 : Int) < (k : Int) := by omega
        have p0 := (HbA.out.cell (p := ⟨b, off + (k - 1) * 4, none⟩) hb).trans (Hpd.out h0)
        have e3 : ((k : Int) - 1).toNat = k - 1 := by omega
        have e4 : 0 ≤ (k : Int) - 1 := by omega
        have e5 : 1 ≤ (k : Int) := by omega
        have e6 : (k : Int) - 1 < l.length := by omega
        by_cases h3 : pd < xd
        · have g3 : decide (xd ≤ pd) = false := decide_eq_false (by omega)
          have Hok := Lib.hid (fun (_ : 0 < k) => h3)
          have H1 := Lib.hid h1
          clear h1 h2 h0 h3
          go_wp2_with fail
          generalize wr.alloc (.cells #[.int .i64 xd, .int .i64 xa, .int .i64 xr, .int .i64 xs] 27) = wB at *
          generalize hVe : wr.heap.size = VB at *
          clear hVe
          refine wp_region_held_drew (S := fun W => Below wB.heap.size wB W ∧ W.cell? ⟨SB, 0, none⟩ = some (.int .i64 f) ∧ W.cell? ⟨SB, 1, none⟩ = some (.slice (some ⟨b, off, none⟩) l.length vc) ∧ W.cell? ⟨VB, 0, none⟩ = some (.int .i64 xd) ∧ W.cell? ⟨VB, 1, none⟩ = some (.int .i64 xa) ∧ W.cell? ⟨VB, 2, none⟩ = some (.int .i64 xr) ∧ W.cell? ⟨VB, 3, none⟩ = some (.int .i64 xs) ∧ W.cell? ⟨b, off + (k - 1) * 4, none⟩ = some (.int .i64 pd)) (by kernel_rfl) ⟨(Below.refl _ _).drew, z0, z1, y0, y1, y2, y3, p0⟩ (fun hH => ?_)
          refine takeH 0 (v := ?vsc1) rfl (by kernel_rfl) (by kernel_rfl) (by kernel_rfl) (fun _ _ _ h => h) hH rfl ?ysc1 ?rsc1
          case ysc1 => intro W hSw; go_simp; try with_reducible rfl
          try simp only [Act.put, List.setIfInBounds_toArray, List.set_cons_zero, List.set_cons_succ]
          refine callH 1 rfl (by kernel_rfl) rfl (fun K hK => ?_)
          go_simp
          go_at_call 36
          refine (HV.out _).mono ?_
          rintro e wv ⟨rfl, hbz⟩
          refine hK.out _ _ ⟨below_step hH.1 hH.1.size hbz, (hbz.cell (p := ⟨SB, 0, none⟩) (Nat.lt_of_lt_of_le hSB hH.1.size)).trans hH.2.1, (hbz.cell (p := ⟨SB, 1, none⟩) (Nat.lt_of_lt_of_le hSB hH.1.size)).trans hH.2.2.1, (hbz.cell (p := ⟨VB, 0, none⟩) (Nat.lt_of_lt_of_le hVB hH.1.size)).trans hH.2.2.2.1, (hbz.cell (p := ⟨VB, 1, none⟩) (Nat.lt_of_lt_of_le hVB hH.1.size)).trans hH.2.2.2.2.1, (hbz.cell (p := ⟨VB, 2, none⟩) (Nat.lt_of_lt_of_le hVB hH.1.size)).trans hH.2.2.2.2.2.1, (hbz.cell (p := ⟨VB, 3, none⟩) (Nat.lt_of_lt_of_le hVB hH.1.size)).trans hH.2.2.2.2.2.2.1, (hbz.cell (p := ⟨b, off + (k - 1) * 4, none⟩) (Nat.lt_of_lt_of_le hbB hH.1.size)).trans hH.2.2.2.2.2.2.2⟩ (fun hH => ?_)
          clear hK K
          try simp only [Act.put, List.setIfInBounds_toArray, List.set_cons_zero, List.set_cons_succ]
          refine takeH 2 (v := ?vsc2) rfl (by kernel_rfl) (by kernel_rfl) (by kernel_rfl) (fun _ _ _ h => h) hH rfl ?ysc2 ?rsc2
          case ysc2 => intro W hSw; go_simp; try with_reducible rfl
          try simp only [Act.put, List.setIfInBounds_toArray, List.set_cons_zero, List.set_cons_succ]
          refine takeH 3 (v := ?vsc3) rfl (by kernel_rfl) (by kernel_rfl) (by kernel_rfl) (fun _ _ _ h => h) hH rfl ?ysc3 ?rsc3
          case ysc3 => intro W hSw; go_simp; try with_reducible rfl
          try simp only [Act.put, List.setIfInBounds_toArray, List.set_cons_zero, List.set_cons_succ]
          refine takeH 4 (v := ?vsc4) rfl (by kernel_rfl) (by kernel_rfl) (by kernel_rfl) (fun _ _ _ h => h) hH rfl ?ysc4 ?rsc4
          case ysc4 => intro W hSw; go_simp; try with_reducible rfl
          try simp only [Act.put, List.setIfInBounds_toArray, List.set_cons_zero, List.set_cons_succ]
          refine takeH 5 (v := ?vsc5) rfl (by kernel_rfl) (by kernel_rfl) (by kernel_rfl) (fun _ _ _ h => h) hH rfl ?ysc5 ?rsc5
          case ysc5 => intro W hSw; go_simp; try with_reducible rfl
          try simp only [Act.put, List.setIfInBounds_toArray, List.set_cons_zero, List.set_cons_succ]
          refine takeH 6 (v := ?vsc6) rfl (by kernel_rfl) (by kernel_rfl) (by kernel_rfl) (fun _ _ _ h => h) hH rfl ?ysc6 ?rsc6
          case ysc6 => intro W hSw; go_simp; try with_reducible rfl
          try simp only [Act.put, List.setIfInBounds_toArray, List.set_cons_zero, List.set_cons_succ]
          refine takeH 7 (v := ?vsc7) rfl (by kernel_rfl) (by kernel_rfl) (by kernel_rfl) (fun _ _ _ h => h) hH rfl ?ysc7 ?rsc7
          case ysc7 => intro W hSw; go_simp; try with_reducible rfl
          try simp only [Act.put, List.setIfInBounds_toArray, List.set_cons_zero, List.set_cons_succ]
          refine takeH 8 (v := ?vsc8) rfl (by kernel_rfl) (by kernel_rfl) (by kernel_rfl) (fun _ _ _ h => h) hH rfl ?ysc8 ?rsc8
          case ysc8 => intro W hSw; go_simp; try with_reducible rfl
          try simp only [Act.put, List.setIfInBounds_toArray, List.set_cons_zero, List.set_cons_succ]
          refine takeH 9 (v := ?vsc9) rfl (by kernel_rfl) (by kernel_rfl) (by kernel_rfl) (fun _ _ _ h => h) hH rfl ?ysc9 ?rsc9
          case ysc9 => intro W hSw; go_simp; try with_reducible rfl
          try simp only [Act.put, List.setIfInBounds_toArray, List.set_cons_zero, List.set_cons_succ]
          refine takeH 10 (v := ?vsc10) rfl (by kernel_rfl) (by kernel_rfl) (by kernel_rfl) (fun _ _ _ h => h) hH rfl ?ysc10 ?rsc10
          case ysc10 => intro W hSw; go_simp; try with_reducible rfl
          try simp only [Act.put, List.setIfInBounds_toArray, List.set_cons_zero, List.set_cons_succ]
          refine takeH 11 (v := ?vsc11) rfl (by kernel_rfl) (by kernel_rfl) (by kernel_rfl) (fun _ _ _ h => h) hH rfl ?ysc11 ?rsc11
          case ysc11 => intro W hSw; go_simp; try with_reducible rfl
          try simp only [Act.put, List.setIfInBounds_toArray, List.set_cons_zero, List.set_cons_succ]
          refine takeH 12 (v := .bool true) rfl (by kernel_rfl) (by kernel_rfl) (by kernel_rfl) (fun _ _ _ h => h) hH rfl ?ysc12 ?rsc12
          case ysc12 => intro W hSw; go_simp; first | done | simp only [g0, g0', decide_true] | omega | (simp; omega)
          try simp only [Act.put, List.setIfInBounds_toArray, List.set_cons_zero, List.set_cons_succ]
          refine takeH 13 (v := ?vsc13) rfl (by kernel_rfl) (by kernel_rfl) (by kernel_rfl) (fun _ _ _ h => h) hH rfl ?ysc13 ?rsc13
          case ysc13 => intro W hSw; go_simp; try with_reducible rfl
          try simp only [Act.put, List.setIfInBounds_toArray, List.set_cons_zero, List.set_cons_succ]
          refine takeH 14 (v := ?vsc14) rfl (by kernel_rfl) (by kernel_rfl) (by kernel_rfl) (fun _ _ _ h => h) hH rfl ?ysc14 ?rsc14
          case ysc14 => intro W hSw; go_simp; try with_reducible rfl
          try simp only [Act.put, List.setIfInBounds_toArray, List.set_cons_zero, List.set_cons_succ]
          refine takeH 15 (v := ?vsc15) rfl (by kernel_rfl) (by kernel_rfl) (by kernel_rfl) (fun _ _ _ h => h) hH rfl ?ysc15 ?rsc15
          case ysc15 => intro W hSw; go_simp; try with_reducible rfl
          try simp only [Act.put, List.setIfInBounds_toArray, List.set_cons_zero, List.set_cons_succ]
          refine takeH 16 (v := ?vsc16) rfl (by kernel_rfl) (by kernel_rfl) (by kernel_rfl) (fun _ _ _ h => h) hH rfl ?ysc16 ?rsc16
          case ysc16 => intro W hSw; go_simp; try with_reducible rfl
          try simp only [Act.put, List.setIfInBounds_toArray, List.set_cons_zero, List.set_cons_succ]
          refine takeH 17 (v := ?vsc17) rfl (by kernel_rfl) (by kernel_rfl) (by kernel_rfl) (fun _ _ _ h => h) hH rfl ?ysc17 ?rsc17
          case ysc17 => intro W hSw; go_simp; try with_reducible rfl
          try simp only [Act.put, List.setIfInBounds_toArray, List.set_cons_zero, List.set_cons_succ]
          refine takeH 18 (v := ?vsc18) rfl (by kernel_rfl) (by kernel_rfl) (by kernel_rfl) (fun _ _ _ h => h) hH rfl ?ysc18 ?rsc18
          case ysc18 => intro W hSw; go_simp; try with_reducible rfl
          try simp only [Act.put, List.setIfInBounds_toArray, List.set_cons_zero, List.set_cons_succ]
          refine takeH 19 (v := ?vsc19) rfl (by kernel_rfl) (by kernel_rfl) (by kernel_rfl) (fun _ _ _ h => h) hH rfl ?ysc19 ?rsc19
          case ysc19 => intro W hSw; go_simp; try with_reducible rfl
          try simp only [Act.put, List.setIfInBounds_toArray, List.set_cons_zero, List.set_cons_succ]
          refine takeH 20 (v := ?vsc20) rfl (by kernel_rfl) (by kernel_rfl) (by kernel_rfl) (fun _ _ _ h => h) hH rfl ?ysc20 ?rsc20
          case ysc20 => intro W hSw; go_simp; try with_reducible rfl
          try simp only [Act.put, List.setIfInBounds_toArray, List.set_cons_zero, List.set_cons_succ]
          refine takeH 21 (v := ?vsc21) rfl (by kernel_rfl) (by kernel_rfl) (by kernel_rfl) (fun _ _ _ h => h) hH rfl ?ysc21 ?rsc21
          case ysc21 => intro W hSw; go_simp; try with_reducible rfl
          try simp only [Act.put, List.setIfInBounds_toArray, List.set_cons_zero, List.set_cons_succ]
          refine takeH 22 (v := ?vsc22) rfl (by kernel_rfl) (by kernel_rfl) (by kernel_rfl) (fun _ _ _ h => h) hH rfl ?ysc22 ?rsc22
          case ysc22 => intro W hSw; go_simp; try with_reducible rfl
          try simp only [Act.put, List.setIfInBounds_toArray, List.set_cons_zero, List.set_cons_succ]
          refine takeH 23 (v := ?vsc23) rfl (by kernel_rfl) (by kernel_rfl) (by kernel_rfl) (fun _ _ _ h => h) hH rfl ?ysc23 ?rsc23
          case ysc23 => intro W hSw; go_simp; try with_reducible rfl
          try simp only [Act.put, List.setIfInBounds_toArray, List.set_cons_zero, List.set_cons_succ]
          refine takeH 24 (v := ?vsc24) rfl (by kernel_rfl) (by kernel_rfl) (by kernel_rfl) (fun _ _ _ h => h) hH rfl ?ysc24 ?rsc24
          case ysc24 => intro W hSw; go_simp; try with_reducible rfl
          try simp only [Act.put, List.setIfInBounds_toArray, List.set_cons_zero, List.set_cons_succ]
          refine takeH 25 (v := ?vsc25) rfl (by kernel_rfl) (by kernel_rfl) (by kernel_rfl) (fun _ _ _ h => h) hH rfl ?ysc25 ?rsc25
          case ysc25 => intro W hSw; go_simp; try with_reducible rfl
          try simp only [Act.put, List.setIfInBounds_toArray, List.set_cons_zero, List.set_cons_succ]
          refine takeH 26 (v := ?vsc26) rfl (by kernel_rfl) (by kernel_rfl) (by kernel_rfl) (fun _ _ _ h => h) hH rfl ?ysc26 ?rsc26
          case ysc26 => intro W hSw; go_simp; try with_reducible rfl
          try simp only [Act.put, List.setIfInBounds_toArray, List.set_cons_zero, List.set_cons_succ]
          refine takeH 27 (v := ?vsc27) rfl (by kernel_rfl) (by kernel_rfl) (by kernel_rfl) (fun _ _ _ h => h) hH rfl ?ysc27 ?rsc27
          case ysc27 => intro W hSw; go_simp; try with_reducible rfl
          try simp only [Act.put, List.setIfInBounds_toArray, List.set_cons_zero, List.set_cons_succ]
          refine takeH 28 (v := ?vsc28) rfl (by kernel_rfl) (by kernel_rfl) (by kernel_rfl) (fun _ _ _ h => h) hH rfl ?ysc28 ?rsc28
          case ysc28 => intro W hSw; go_simp; try with_reducible rfl
          try simp only [Act.put, List.setIfInBounds_toArray, List.set_cons_zero, List.set_cons_succ]
          refine takeH 29 (v := ?vsc29) rfl (by kernel_rfl) (by kernel_rfl) (by kernel_rfl) (fun _ _ _ h => h) hH rfl ?ysc29 ?rsc29
          case ysc29 => intro W hSw; go_simp; try with_reducible rfl
          try simp only [Act.put, List.setIfInBounds_toArray, List.set_cons_zero, List.set_cons_succ]
          refine takeH 30 (v := ?vsc30) rfl (by kernel_rfl) (by kernel_rfl) (by kernel_rfl) (fun _ _ _ h => h) hH rfl ?ysc30 ?rsc30
          case ysc30 => intro W hSw; go_simp; try with_reducible rfl
          try simp only [Act.put, List.setIfInBounds_toArray, List.set_cons_zero, List.set_cons_succ]
          refine callH 31 rfl (by kernel_rfl) rfl (fun K hK => ?_)
          go_simp
          go_at_call 37
          refine (HU.out _ (below_step HbB.out HbB.out.size hH.1)).mono ?_
          rintro e wz ⟨n, rfl, hn, hdz⟩
          have Hn := Lib.hid hn
          have hbz := hdz.below wv.heap.size
          refine hK.out _ _ ⟨below_step hH.1 hH.1.size hbz, (hbz.cell (p := ⟨SB, 0, none⟩) (Nat.lt_of_lt_of_le hSB hH.1.size)).trans hH.2.1, (hbz.cell (p := ⟨SB, 1, none⟩) (Nat.lt_of_lt_of_le hSB hH.1.size)).trans hH.2.2.1, (hbz.cell (p := ⟨VB, 0, none⟩) (Nat.lt_of_lt_of_le hVB hH.1.size)).trans hH.2.2.2.1, (hbz.cell (p := ⟨VB, 1, none⟩) (Nat.lt_of_lt_of_le hVB hH.1.size)).trans hH.2.2.2.2.1, (hbz.cell (p := ⟨VB, 2, none⟩) (Nat.lt_of_lt_of_le hVB hH.1.size)).trans hH.2.2.2.2.2.1, (hbz.cell (p := ⟨VB, 3, none⟩) (Nat.lt_of_lt_of_le hVB hH.1.size)).trans hH.2.2.2.2.2.2.1, (hbz.cell (p := ⟨b, off + (k - 1) * 4, none⟩) (Nat.lt_of_lt_of_le hbB hH.1.size)).trans hH.2.2.2.2.2.2.2⟩ (fun hH => ?_)
          clear hK K
          try simp only [Act.put, List.setIfInBounds_toArray, List.set_cons_zero, List.set_cons_succ]
          refine takeH 32 (v := ?vsc31) rfl (by kernel_rfl) (by kernel_rfl) (by kernel_rfl) (fun _ _ _ h => h) hH rfl ?ysc31 ?rsc31
          case ysc31 => intro W hSw; go_simp; try with_reducible rfl
          try simp only [Act.put, List.setIfInBounds_toArray, List.set_cons_zero, List.set_cons_succ]
          refine takeH 33 (v := ?vsc32) rfl (by kernel_rfl) (by kernel_rfl) (by kernel_rfl) (fun _ _ _ h => h) hH rfl ?ysc32 ?rsc32
          case ysc32 => intro W hSw; go_simp; try with_reducible rfl
          try simp only [Act.put, List.setIfInBounds_toArray, List.set_cons_zero, List.set_cons_succ]
          have Hbz := Lib.hid hH.1
          refine wpAnyH_done (by kernel_rfl) ?_ _
          try simp only [Act.put]
          clear hH z0 z1 y0 y1 y2 y3 p0
          by_cases h30 : 30 < n
          · have g30 : decide (30 < n) = true := decide_eq_true h30
            have Hz := Lib.hid (Hno4.out n Hn.out h30)
            go_wp2
            go_ret
            exact ⟨ret_bool (by rw [Hz.out]), by rw [hSe]; exact Hb0.out.trans ((below_step HbB.out HbB.out.size Hbz.out).mono (by omega))⟩
          · have g30 : decide (30 < n) = false := decide_eq_false h30
            have Hy := Lib.hid (Hyes.out n Hn.out (by omega) H1.out Hf.out Hok.out)
            go_wp2
            go_roundw
            case rel => exact ⟨k + 1, by omega, by go_num, Hy, below_step HbB.out HbB.out.size Hbz.out⟩
            case measure => simp [intOf]; omega
        · have g3 : decide (xd ≤ pd) = true := decide_eq_true (by omega)
          have Hz := Lib.hid (Hno3.out h0 h3)
          clear h1 h2 h0 h3
          go_wp2_with fail
          generalize wr.alloc (.cells #[.int .i64 xd, .int .i64 xa, .int .i64 xr, .int .i64 xs] 27) = wB at *
          generalize hVe : wr.heap.size = VB at *
          clear hVe
          refine wp_region_held_drew (S := fun W => Below wB.heap.size wB W ∧ W.cell? ⟨SB, 0, none⟩ = some (.int .i64 f) ∧ W.cell? ⟨SB, 1, none⟩ = some (.slice (some ⟨b, off, none⟩) l.length vc) ∧ W.cell? ⟨VB, 0, none⟩ = some (.int .i64 xd) ∧ W.cell? ⟨VB, 1, none⟩ = some (.int .i64 xa) ∧ W.cell? ⟨VB, 2, none⟩ = some (.int .i64 xr) ∧ W.cell? ⟨VB, 3, none⟩ = some (.int .i64 xs) ∧ W.cell? ⟨b, off + (k - 1) * 4, none⟩ = some (.int .i64 pd)) (by kernel_rfl) ⟨(Below.refl _ _).drew, z0, z1, y0, y1, y2, y3, p0⟩ (fun hH => ?_)
          refine takeH 0 (v := ?vsd1) rfl (by kernel_rfl) (by kernel_rfl) (by kernel_rfl) (fun _ _ _ h => h) hH rfl ?ysd1 ?rsd1
          case ysd1 => intro W hSw; go_simp; try with_reducible rfl
          try simp only [Act.put, List.setIfInBounds_toArray, List.set_cons_zero, List.set_cons_succ]
          refine callH 1 rfl (by kernel_rfl) rfl (fun K hK => ?_)
          go_simp
          go_at_call 36
          refine (HV.out _).mono ?_
          rintro e wv ⟨rfl, hbz⟩
          refine hK.out _ _ ⟨below_step hH.1 hH.1.size hbz, (hbz.cell (p := ⟨SB, 0, none⟩) (Nat.lt_of_lt_of_le hSB hH.1.size)).trans hH.2.1, (hbz.cell (p := ⟨SB, 1, none⟩) (Nat.lt_of_lt_of_le hSB hH.1.size)).trans hH.2.2.1, (hbz.cell (p := ⟨VB, 0, none⟩) (Nat.lt_of_lt_of_le hVB hH.1.size)).trans hH.2.2.2.1, (hbz.cell (p := ⟨VB, 1, none⟩) (Nat.lt_of_lt_of_le hVB hH.1.size)).trans hH.2.2.2.2.1, (hbz.cell (p := ⟨VB, 2, none⟩) (Nat.lt_of_lt_of_le hVB hH.1.size)).trans hH.2.2.2.2.2.1, (hbz.cell (p := ⟨VB, 3, none⟩) (Nat.lt_of_lt_of_le hVB hH.1.size)).trans hH.2.2.2.2.2.2.1, (hbz.cell (p := ⟨b, off + (k - 1) * 4, none⟩) (Nat.lt_of_lt_of_le hbB hH.1.size)).trans hH.2.2.2.2.2.2.2⟩ (fun hH => ?_)
          clear hK K
          try simp only [Act.put, List.setIfInBounds_toArray, List.set_cons_zero, List.set_cons_succ]
          refine takeH 2 (v := ?vsd2) rfl (by kernel_rfl) (by kernel_rfl) (by kernel_rfl) (fun _ _ _ h => h) hH rfl ?ysd2 ?rsd2
          case ysd2 => intro W hSw; go_simp; try with_reducible rfl
          try simp only [Act.put, List.setIfInBounds_toArray, List.set_cons_zero, List.set_cons_succ]
          refine takeH 3 (v := ?vsd3) rfl (by kernel_rfl) (by kernel_rfl) (by kernel_rfl) (fun _ _ _ h => h) hH rfl ?ysd3 ?rsd3
          case ysd3 => intro W hSw; go_simp; try with_reducible rfl
          try simp only [Act.put, List.setIfInBounds_toArray, List.set_cons_zero, List.set_cons_succ]
          refine takeH 4 (v := ?vsd4) rfl (by kernel_rfl) (by kernel_rfl) (by kernel_rfl) (fun _ _ _ h => h) hH rfl ?ysd4 ?rsd4
          case ysd4 => intro W hSw; go_simp; try with_reducible rfl
          try simp only [Act.put, List.setIfInBounds_toArray, List.set_cons_zero, List.set_cons_succ]
          refine takeH 5 (v := ?vsd5) rfl (by kernel_rfl) (by kernel_rfl) (by kernel_rfl) (fun _ _ _ h => h) hH rfl ?ysd5 ?rsd5
          case ysd5 => intro W hSw; go_simp; try with_reducible rfl
          try simp only [Act.put, List.setIfInBounds_toArray, List.set_cons_zero, List.set_cons_succ]
          refine takeH 6 (v := ?vsd6) rfl (by kernel_rfl) (by kernel_rfl) (by kernel_rfl) (fun _ _ _ h => h) hH rfl ?ysd6 ?rsd6
          case ysd6 => intro W hSw; go_simp; try with_reducible rfl
          try simp only [Act.put, List.setIfInBounds_toArray, List.set_cons_zero, List.set_cons_succ]
          refine takeH 7 (v := ?vsd7) rfl (by kernel_rfl) (by kernel_rfl) (by kernel_rfl) (fun _ _ _ h => h) hH rfl ?ysd7 ?rsd7
          case ysd7 => intro W hSw; go_simp; try with_reducible rfl
          try simp only [Act.put, List.setIfInBounds_toArray, List.set_cons_zero, List.set_cons_succ]
          refine takeH 8 (v := ?vsd8) rfl (by kernel_rfl) (by kernel_rfl) (by kernel_rfl) (fun _ _ _ h => h) hH rfl ?ysd8 ?rsd8
          case ysd8 => intro W hSw; go_simp; try with_reducible rfl
          try simp only [Act.put, List.setIfInBounds_toArray, List.set_cons_zero, List.set_cons_succ]
          refine takeH 9 (v := ?vsd9) rfl (by kernel_rfl) (by kernel_rfl) (by kernel_rfl) (fun _ _ _ h => h) hH rfl ?ysd9 ?rsd9
          case ysd9 => intro W hSw; go_simp; try with_reducible rfl
          try simp only [Act.put, List.setIfInBounds_toArray, List.set_cons_zero, List.set_cons_succ]
          refine takeH 10 (v := ?vsd10) rfl (by kernel_rfl) (by kernel_rfl) (by kernel_rfl) (fun _ _ _ h => h) hH rfl ?ysd10 ?rsd10
          case ysd10 => intro W hSw; go_simp; try with_reducible rfl
          try simp only [Act.put, List.setIfInBounds_toArray, List.set_cons_zero, List.set_cons_succ]
          refine takeH 11 (v := ?vsd11) rfl (by kernel_rfl) (by kernel_rfl) (by kernel_rfl) (fun _ _ _ h => h) hH rfl ?ysd11 ?rsd11
          case ysd11 => intro W hSw; go_simp; try with_reducible rfl
          try simp only [Act.put, List.setIfInBounds_toArray, List.set_cons_zero, List.set_cons_succ]
          refine takeH 12 (v := .bool true) rfl (by kernel_rfl) (by kernel_rfl) (by kernel_rfl) (fun _ _ _ h => h) hH rfl ?ysd12 ?rsd12
          case ysd12 => intro W hSw; go_simp; first | done | simp only [g0, g0', decide_true] | omega | (simp; omega)
          try simp only [Act.put, List.setIfInBounds_toArray, List.set_cons_zero, List.set_cons_succ]
          refine takeH 13 (v := ?vsd13) rfl (by kernel_rfl) (by kernel_rfl) (by kernel_rfl) (fun _ _ _ h => h) hH rfl ?ysd13 ?rsd13
          case ysd13 => intro W hSw; go_simp; try with_reducible rfl
          try simp only [Act.put, List.setIfInBounds_toArray, List.set_cons_zero, List.set_cons_succ]
          refine takeH 14 (v := ?vsd14) rfl (by kernel_rfl) (by kernel_rfl) (by kernel_rfl) (fun _ _ _ h => h) hH rfl ?ysd14 ?rsd14
          case ysd14 => intro W hSw; go_simp; try with_reducible rfl
          try simp only [Act.put, List.setIfInBounds_toArray, List.set_cons_zero, List.set_cons_succ]
          refine takeH 15 (v := ?vsd15) rfl (by kernel_rfl) (by kernel_rfl) (by kernel_rfl) (fun _ _ _ h => h) hH rfl ?ysd15 ?rsd15
          case ysd15 => intro W hSw; go_simp; try with_reducible rfl
          try simp only [Act.put, List.setIfInBounds_toArray, List.set_cons_zero, List.set_cons_succ]
          refine takeH 16 (v := ?vsd16) rfl (by kernel_rfl) (by kernel_rfl) (by kernel_rfl) (fun _ _ _ h => h) hH rfl ?ysd16 ?rsd16
          case ysd16 => intro W hSw; go_simp; try with_reducible rfl
          try simp only [Act.put, List.setIfInBounds_toArray, List.set_cons_zero, List.set_cons_succ]
          refine takeH 17 (v := ?vsd17) rfl (by kernel_rfl) (by kernel_rfl) (by kernel_rfl) (fun _ _ _ h => h) hH rfl ?ysd17 ?rsd17
          case ysd17 => intro W hSw; go_simp; try with_reducible rfl
          try simp only [Act.put, List.setIfInBounds_toArray, List.set_cons_zero, List.set_cons_succ]
          refine takeH 18 (v := ?vsd18) rfl (by kernel_rfl) (by kernel_rfl) (by kernel_rfl) (fun _ _ _ h => h) hH rfl ?ysd18 ?rsd18
          case ysd18 => intro W hSw; go_simp; try with_reducible rfl
          try simp only [Act.put, List.setIfInBounds_toArray, List.set_cons_zero, List.set_cons_succ]
          refine takeH 19 (v := ?vsd19) rfl (by kernel_rfl) (by kernel_rfl) (by kernel_rfl) (fun _ _ _ h => h) hH rfl ?ysd19 ?rsd19
          case ysd19 => intro W hSw; go_simp; try with_reducible rfl
          try simp only [Act.put, List.setIfInBounds_toArray, List.set_cons_zero, List.set_cons_succ]
          refine takeH 20 (v := ?vsd20) rfl (by kernel_rfl) (by kernel_rfl) (by kernel_rfl) (fun _ _ _ h => h) hH rfl ?ysd20 ?rsd20
          case ysd20 => intro W hSw; go_simp; try with_reducible rfl
          try simp only [Act.put, List.setIfInBounds_toArray, List.set_cons_zero, List.set_cons_succ]
          refine takeH 21 (v := ?vsd21) rfl (by kernel_rfl) (by kernel_rfl) (by kernel_rfl) (fun _ _ _ h => h) hH rfl ?ysd21 ?rsd21
          case ysd21 => intro W hSw; go_simp; try with_reducible rfl
          try simp only [Act.put, List.setIfInBounds_toArray, List.set_cons_zero, List.set_cons_succ]
          refine takeH 22 (v := ?vsd22) rfl (by kernel_rfl) (by kernel_rfl) (by kernel_rfl) (fun _ _ _ h => h) hH rfl ?ysd22 ?rsd22
          case ysd22 => intro W hSw; go_simp; try with_reducible rfl
          try simp only [Act.put, List.setIfInBounds_toArray, List.set_cons_zero, List.set_cons_succ]
          refine takeH 23 (v := ?vsd23) rfl (by kernel_rfl) (by kernel_rfl) (by kernel_rfl) (fun _ _ _ h => h) hH rfl ?ysd23 ?rsd23
          case ysd23 => intro W hSw; go_simp; try with_reducible rfl
          try simp only [Act.put, List.setIfInBounds_toArray, List.set_cons_zero, List.set_cons_succ]
          refine takeH 24 (v := ?vsd24) rfl (by kernel_rfl) (by kernel_rfl) (by kernel_rfl) (fun _ _ _ h => h) hH rfl ?ysd24 ?rsd24
          case ysd24 => intro W hSw; go_simp; try with_reducible rfl
          try simp only [Act.put, List.setIfInBounds_toArray, List.set_cons_zero, List.set_cons_succ]
          refine takeH 25 (v := ?vsd25) rfl (by kernel_rfl) (by kernel_rfl) (by kernel_rfl) (fun _ _ _ h => h) hH rfl ?ysd25 ?rsd25
          case ysd25 => intro W hSw; go_simp; try with_reducible rfl
          try simp only [Act.put, List.setIfInBounds_toArray, List.set_cons_zero, List.set_cons_succ]
          refine takeH 26 (v := ?vsd26) rfl (by kernel_rfl) (by kernel_rfl) (by kernel_rfl) (fun _ _ _ h => h) hH rfl ?ysd26 ?rsd26
          case ysd26 => intro W hSw; go_simp; try with_reducible rfl
          try simp only [Act.put, List.setIfInBounds_toArray, List.set_cons_zero, List.set_cons_succ]
          refine skipH 27 rfl (by kernel_rfl) (by kernel_rfl) (by kernel_rfl) (fun _ _ _ h => h) hH rfl ?_
          try simp only [Act.put, List.setIfInBounds_toArray, List.set_cons_zero, List.set_cons_succ]
          refine skipH 28 rfl (by kernel_rfl) (by kernel_rfl) (by kernel_rfl) (fun _ _ _ h => h) hH rfl ?_
          try simp only [Act.put, List.setIfInBounds_toArray, List.set_cons_zero, List.set_cons_succ]
          refine skipH 29 rfl (by kernel_rfl) (by kernel_rfl) (by kernel_rfl) (fun _ _ _ h => h) hH rfl ?_
          try simp only [Act.put, List.setIfInBounds_toArray, List.set_cons_zero, List.set_cons_succ]
          refine skipH 30 rfl (by kernel_rfl) (by kernel_rfl) (by kernel_rfl) (fun _ _ _ h => h) hH rfl ?_
          try simp only [Act.put, List.setIfInBounds_toArray, List.set_cons_zero, List.set_cons_succ]
          refine skipH 31 rfl (by kernel_rfl) (by kernel_rfl) (by kernel_rfl) (fun _ _ _ h => h) hH rfl ?_
          try simp only [Act.put, List.setIfInBounds_toArray, List.set_cons_zero, List.set_cons_succ]
          refine skipH 32 rfl (by kernel_rfl) (by kernel_rfl) (by kernel_rfl) (fun _ _ _ h => h) hH rfl ?_
          try simp only [Act.put, List.setIfInBounds_toArray, List.set_cons_zero, List.set_cons_succ]
          refine takeH 33 (v := ?vsd27) rfl (by kernel_rfl) (by kernel_rfl) (by kernel_rfl) (fun _ _ _ h => h) hH rfl ?ysd27 ?rsd27
          case ysd27 => intro W hSw; go_simp; try with_reducible rfl
          try simp only [Act.put, List.setIfInBounds_toArray, List.set_cons_zero, List.set_cons_succ]
          have Hbz := Lib.hid hH.1
          refine wpAnyH_done (by kernel_rfl) ?_ _
          try simp only [Act.put]
          clear hH z0 z1 y0 y1 y2 y3 p0
          go_wp2
          go_ret
          exact ⟨ret_bool (by rw [(Hz.out)]), by rw [hSe]; exact Hb0.out.trans ((below_step HbB.out HbB.out.size Hbz.out).mono (by omega))⟩
      · have g0 : decide ((0 : Int) < (k : Int)) = false := decide_eq_false (by omega)
        have g0' : ¬ (0 : Int) < (k : Int) := by omega
        have Hok := Lib.hid (fun (h : 0 < k) => show pd < xd from absurd h h0)
        have H1 := Lib.hid h1
        clear h1 h2 h0 hw1
        go_wp2_with fail
        generalize wr.alloc (.cells #[.int .i64 xd, .int .i64 xa, .int .i64 xr, .int .i64 xs] 27) = wB at *
        generalize hVe : wr.heap.size = VB at *
        clear hVe
        refine wp_region_held_drew (S := fun W => Below wB.heap.size wB W ∧ W.cell? ⟨SB, 0, none⟩ = some (.int .i64 f) ∧ W.cell? ⟨SB, 1, none⟩ = some (.slice (some ⟨b, off, none⟩) l.length vc) ∧ W.cell? ⟨VB, 0, none⟩ = some (.int .i64 xd) ∧ W.cell? ⟨VB, 1, none⟩ = some (.int .i64 xa) ∧ W.cell? ⟨VB, 2, none⟩ = some (.int .i64 xr) ∧ W.cell? ⟨VB, 3, none⟩ = some (.int .i64 xs)) (by kernel_rfl) ⟨(Below.refl _ _).drew, z0, z1, y0, y1, y2, y3⟩ (fun hH => ?_)
        refine takeH 0 (v := ?vse1) rfl (by kernel_rfl) (by kernel_rfl) (by kernel_rfl) (fun _ _ _ h => h) hH rfl ?yse1 ?rse1
        case yse1 => intro W hSw; go_simp; try with_reducible rfl
        try simp only [Act.put, List.setIfInBounds_toArray, List.set_cons_zero, List.set_cons_succ]
        refine callH 1 rfl (by kernel_rfl) rfl (fun K hK => ?_)
        go_simp
        go_at_call 36
        refine (HV.out _).mono ?_
        rintro e wv ⟨rfl, hbz⟩
        refine hK.out _ _ ⟨below_step hH.1 hH.1.size hbz, (hbz.cell (p := ⟨SB, 0, none⟩) (Nat.lt_of_lt_of_le hSB hH.1.size)).trans hH.2.1, (hbz.cell (p := ⟨SB, 1, none⟩) (Nat.lt_of_lt_of_le hSB hH.1.size)).trans hH.2.2.1, (hbz.cell (p := ⟨VB, 0, none⟩) (Nat.lt_of_lt_of_le hVB hH.1.size)).trans hH.2.2.2.1, (hbz.cell (p := ⟨VB, 1, none⟩) (Nat.lt_of_lt_of_le hVB hH.1.size)).trans hH.2.2.2.2.1, (hbz.cell (p := ⟨VB, 2, none⟩) (Nat.lt_of_lt_of_le hVB hH.1.size)).trans hH.2.2.2.2.2.1, (hbz.cell (p := ⟨VB, 3, none⟩) (Nat.lt_of_lt_of_le hVB hH.1.size)).trans hH.2.2.2.2.2.2⟩ (fun hH => ?_)
        clear hK K
        try simp only [Act.put, List.setIfInBounds_toArray, List.set_cons_zero, List.set_cons_succ]
        refine takeH 2 (v := ?vse2) rfl (by kernel_rfl) (by kernel_rfl) (by kernel_rfl) (fun _ _ _ h => h) hH rfl ?yse2 ?rse2
        case yse2 => intro W hSw; go_simp; try with_reducible rfl
        try simp only [Act.put, List.setIfInBounds_toArray, List.set_cons_zero, List.set_cons_succ]
        refine takeH 3 (v := ?vse3) rfl (by kernel_rfl) (by kernel_rfl) (by kernel_rfl) (fun _ _ _ h => h) hH rfl ?yse3 ?rse3
        case yse3 => intro W hSw; go_simp; try with_reducible rfl
        try simp only [Act.put, List.setIfInBounds_toArray, List.set_cons_zero, List.set_cons_succ]
        refine takeH 4 (v := ?vse4) rfl (by kernel_rfl) (by kernel_rfl) (by kernel_rfl) (fun _ _ _ h => h) hH rfl ?yse4 ?rse4
        case yse4 => intro W hSw; go_simp; try with_reducible rfl
        try simp only [Act.put, List.setIfInBounds_toArray, List.set_cons_zero, List.set_cons_succ]
        refine takeH 5 (v := ?vse5) rfl (by kernel_rfl) (by kernel_rfl) (by kernel_rfl) (fun _ _ _ h => h) hH rfl ?yse5 ?rse5
        case yse5 => intro W hSw; go_simp; try with_reducible rfl
        try simp only [Act.put, List.setIfInBounds_toArray, List.set_cons_zero, List.set_cons_succ]
        refine takeH 6 (v := ?vse6) rfl (by kernel_rfl) (by kernel_rfl) (by kernel_rfl) (fun _ _ _ h => h) hH rfl ?yse6 ?rse6
        case yse6 => intro W hSw; go_simp; try with_reducible rfl
        try simp only [Act.put, List.setIfInBounds_toArray, List.set_cons_zero, List.set_cons_succ]
        refine takeH 7 (v := ?vse7) rfl (by kernel_rfl) (by kernel_rfl) (by kernel_rfl) (fun _ _ _ h => h) hH rfl ?yse7 ?rse7
        case yse7 => intro W hSw; go_simp; try with_reducible rfl
        try simp only [Act.put, List.setIfInBounds_toArray, List.set_cons_zero, List.set_cons_succ]
        refine takeH 8 (v := ?vse8) rfl (by kernel_rfl) (by kernel_rfl) (by kernel_rfl) (fun _ _ _ h => h) hH rfl ?yse8 ?rse8
        case yse8 => intro W hSw; go_simp; try with_reducible rfl
        try simp only [Act.put, List.setIfInBounds_toArray, List.set_cons_zero, List.set_cons_succ]
        refine takeH 9 (v := ?vse9) rfl (by kernel_rfl) (by kernel_rfl) (by kernel_rfl) (fun _ _ _ h => h) hH rfl ?yse9 ?rse9
        case yse9 => intro W hSw; go_simp; try with_reducible rfl
        try simp only [Act.put, List.setIfInBounds_toArray, List.set_cons_zero, List.set_cons_succ]
        refine takeH 10 (v := ?vse10) rfl (by kernel_rfl) (by kernel_rfl) (by kernel_rfl) (fun _ _ _ h => h) hH rfl ?yse10 ?rse10
        case yse10 => intro W hSw; go_simp; try with_reducible rfl
        try simp only [Act.put, List.setIfInBounds_toArray, List.set_cons_zero, List.set_cons_succ]
        refine takeH 11 (v := ?vse11) rfl (by kernel_rfl) (by kernel_rfl) (by kernel_rfl) (fun _ _ _ h => h) hH rfl ?yse11 ?rse11
        case yse11 => intro W hSw; go_simp; try with_reducible rfl
        try simp only [Act.put, List.setIfInBounds_toArray, List.set_cons_zero, List.set_cons_succ]
        refine takeH 12 (v := .bool false) rfl (by kernel_rfl) (by kernel_rfl) (by kernel_rfl) (fun _ _ _ h => h) hH rfl ?yse12 ?rse12
        case yse12 => intro W hSw; go_simp; first | done | simp only [g0, g0', decide_false] | omega | (simp; omega)
        try simp only [Act.put, List.setIfInBounds_toArray, List.set_cons_zero, List.set_cons_succ]
        refine takeH 13 (v := ?vse13) rfl (by kernel_rfl) (by kernel_rfl) (by kernel_rfl) (fun _ _ _ h => h) hH rfl ?yse13 ?rse13
        case yse13 => intro W hSw; go_simp; try with_reducible rfl
        try simp only [Act.put, List.setIfInBounds_toArray, List.set_cons_zero, List.set_cons_succ]
        refine skipH 14 rfl (by kernel_rfl) (by kernel_rfl) (by kernel_rfl) (fun _ _ _ h => h) hH rfl ?_
        try simp only [Act.put, List.setIfInBounds_toArray, List.set_cons_zero, List.set_cons_succ]
        refine skipH 15 rfl (by kernel_rfl) (by kernel_rfl) (by kernel_rfl) (fun _ _ _ h => h) hH rfl ?_
        try simp only [Act.put, List.setIfInBounds_toArray, List.set_cons_zero, List.set_cons_succ]
        refine skipH 16 rfl (by kernel_rfl) (by kernel_rfl) (by kernel_rfl) (fun _ _ _ h => h) hH rfl ?_
        try simp only [Act.put, List.setIfInBounds_toArray, List.set_cons_zero, List.set_cons_succ]
        refine skipH 17 rfl (by kernel_rfl) (by kernel_rfl) (by kernel_rfl) (fun _ _ _ h => h) hH rfl ?_
        try simp only [Act.put, List.setIfInBounds_toArray, List.set_cons_zero, List.set_cons_succ]
        refine skipH 18 rfl (by kernel_rfl) (by kernel_rfl) (by kernel_rfl) (fun _ _ _ h => h) hH rfl ?_
        try simp only [Act.put, List.setIfInBounds_toArray, List.set_cons_zero, List.set_cons_succ]
        refine skipH 19 rfl (by kernel_rfl) (by kernel_rfl) (by kernel_rfl) (fun _ _ _ h => h) hH rfl ?_
        try simp only [Act.put, List.setIfInBounds_toArray, List.set_cons_zero, List.set_cons_succ]
        refine skipH 20 rfl (by kernel_rfl) (by kernel_rfl) (by kernel_rfl) (fun _ _ _ h => h) hH rfl ?_
        try simp only [Act.put, List.setIfInBounds_toArray, List.set_cons_zero, List.set_cons_succ]
        refine skipH 21 rfl (by kernel_rfl) (by kernel_rfl) (by kernel_rfl) (fun _ _ _ h => h) hH rfl ?_
        try simp only [Act.put, List.setIfInBounds_toArray, List.set_cons_zero, List.set_cons_succ]
        refine skipH 22 rfl (by kernel_rfl) (by kernel_rfl) (by kernel_rfl) (fun _ _ _ h => h) hH rfl ?_
        try simp only [Act.put, List.setIfInBounds_toArray, List.set_cons_zero, List.set_cons_succ]
        refine skipH 23 rfl (by kernel_rfl) (by kernel_rfl) (by kernel_rfl) (fun _ _ _ h => h) hH rfl ?_
        try simp only [Act.put, List.setIfInBounds_toArray, List.set_cons_zero, List.set_cons_succ]
        refine takeH 24 (v := ?vse14) rfl (by kernel_rfl) (by kernel_rfl) (by kernel_rfl) (fun _ _ _ h => h) hH rfl ?yse14 ?rse14
        case yse14 => intro W hSw; go_simp; try with_reducible rfl
        try simp only [Act.put, List.setIfInBounds_toArray, List.set_cons_zero, List.set_cons_succ]
        refine takeH 25 (v := ?vse15) rfl (by kernel_rfl) (by kernel_rfl) (by kernel_rfl) (fun _ _ _ h => h) hH rfl ?yse15 ?rse15
        case yse15 => intro W hSw; go_simp; try with_reducible rfl
        try simp only [Act.put, List.setIfInBounds_toArray, List.set_cons_zero, List.set_cons_succ]
        refine takeH 26 (v := ?vse16) rfl (by kernel_rfl) (by kernel_rfl) (by kernel_rfl) (fun _ _ _ h => h) hH rfl ?yse16 ?rse16
        case yse16 => intro W hSw; go_simp; try with_reducible rfl
        try simp only [Act.put, List.setIfInBounds_toArray, List.set_cons_zero, List.set_cons_succ]
        refine takeH 27 (v := ?vse17) rfl (by kernel_rfl) (by kernel_rfl) (by kernel_rfl) (fun _ _ _ h => h) hH rfl ?yse17 ?rse17
        case yse17 => intro W hSw; go_simp; try with_reducible rfl
        try simp only [Act.put, List.setIfInBounds_toArray, List.set_cons_zero, List.set_cons_succ]
        refine takeH 28 (v := ?vse18) rfl (by kernel_rfl) (by kernel_rfl) (by kernel_rfl) (fun _ _ _ h => h) hH rfl ?yse18 ?rse18
        case yse18 => intro W hSw; go_simp; try with_reducible rfl
        try simp only [Act.put, List.setIfInBounds_toArray, List.set_cons_zero, List.set_cons_succ]
        refine takeH 29 (v := ?vse19) rfl (by kernel_rfl) (by kernel_rfl) (by kernel_rfl) (fun _ _ _ h => h) hH rfl ?yse19 ?rse19
        case yse19 => intro W hSw; go_simp; try with_reducible rfl
        try simp only [Act.put, List.setIfInBounds_toArray, List.set_cons_zero, List.set_cons_succ]
        refine takeH 30 (v := ?vse20) rfl (by kernel_rfl) (by kernel_rfl) (by kernel_rfl) (fun _ _ _ h => h) hH rfl ?yse20 ?rse20
        case yse20 => intro W hSw; go_simp; try with_reducible rfl
        try simp only [Act.put, List.setIfInBounds_toArray, List.set_cons_zero, List.set_cons_succ]
        refine callH 31 rfl (by kernel_rfl) rfl (fun K hK => ?_)
        go_simp
        go_at_call 37
        refine (HU.out _ (below_step HbB.out HbB.out.size hH.1)).mono ?_
        rintro e wz ⟨n, rfl, hn, hdz⟩
        have Hn := Lib.hid hn
        have hbz := hdz.below wv.heap.size
        refine hK.out _ _ ⟨below_step hH.1 hH.1.size hbz, (hbz.cell (p := ⟨SB, 0, none⟩) (Nat.lt_of_lt_of_le hSB hH.1.size)).trans hH.2.1, (hbz.cell (p := ⟨SB, 1, none⟩) (Nat.lt_of_lt_of_le hSB hH.1.size)).trans hH.2.2.1, (hbz.cell (p := ⟨VB, 0, none⟩) (Nat.lt_of_lt_of_le hVB hH.1.size)).trans hH.2.2.2.1, (hbz.cell (p := ⟨VB, 1, none⟩) (Nat.lt_of_lt_of_le hVB hH.1.size)).trans hH.2.2.2.2.1, (hbz.cell (p := ⟨VB, 2, none⟩) (Nat.lt_of_lt_of_le hVB hH.1.size)).trans hH.2.2.2.2.2.1, (hbz.cell (p := ⟨VB, 3, none⟩) (Nat.lt_of_lt_of_le hVB hH.1.size)).trans hH.2.2.2.2.2.2⟩ (fun hH => ?_)
        clear hK K
        try simp only [Act.put, List.setIfInBounds_toArray, List.set_cons_zero, List.set_cons_succ]
        refine takeH 32 (v := ?vse21) rfl (by kernel_rfl) (by kernel_rfl) (by kernel_rfl) (fun _ _ _ h => h) hH rfl ?yse21 ?rse21
        case yse21 => intro W hSw; go_simp; try with_reducible rfl
        try simp only [Act.put, List.setIfInBounds_toArray, List.set_cons_zero, List.set_cons_succ]
        refine takeH 33 (v := ?vse22) rfl (by kernel_rfl) (by kernel_rfl) (by kernel_rfl) (fun _ _ _ h => h) hH rfl ?yse22 ?rse22
        case yse22 => intro W hSw; go_simp; try with_reducible rfl
        try simp only [Act.put, List.setIfInBounds_toArray, List.set_cons_zero, List.set_cons_succ]
        have Hbz := Lib.hid hH.1
        refine wpAnyH_done (by kernel_rfl) ?_ _
        try simp only [Act.put]
        clear hH z0 z1 y0 y1 y2 y3
        by_cases h30 : 30 < n
        · have g30 : decide (30 < n) = true := decide_eq_true h30
          have Hz := Lib.hid (Hno4.out n Hn.out h30)
          go_wp2
          go_ret
          exact ⟨ret_bool (by rw [Hz.out]), by rw [hSe]; exact Hb0.out.trans ((below_step HbB.out HbB.out.size Hbz.out).mono (by omega))⟩
        · have g30 : decide (30 < n) = false := decide_eq_false h30
          have Hy := Lib.hid (Hyes.out n Hn.out (by omega) H1.out Hf.out Hok.out)
          go_wp2
          go_roundw
          case rel => exact ⟨k + 1, by omega, by go_num, Hy, below_step HbB.out HbB.out.size Hbz.out⟩
          case measure => simp [intOf]; omega
    · have Ha := Lib.hid (Hall.out fun j hj => Hup.out j (by omega))
      have Hbel := Lib.hid hbel; clear hbel
      go_wp2_with fail
      refine (HI.out wr).mono ?_
      rintro e w1 ⟨rfl, rfl⟩
      by_cases hf : 0 ≤ f ∧ f ≤ 31
      · rw [decide_eq_true hf]
        have Hz := Lib.hid (show stB f l = decide (l.length ≤ 12) by rw [Ha.out]; exact decide_eq_decide.2 ⟨fun h => h.2, fun h => ⟨hf, h⟩⟩)
        have hlz : decide ((l.length : Int) ≤ 12) = decide (l.length ≤ 12) := decide_eq_decide.2 (by omega)
        clear hf
        go_wp2
        go_ret
        exact ⟨ret_bool (by rw [Hz.out]), by rw [hSe]; exact Hb0.out.trans (Hbel.out.mono (by omega))⟩
      · rw [decide_eq_false hf]
        have Hz := Lib.hid (show stB f l = false by rw [Ha.out]; exact decide_eq_false fun h => hf h.1)
        clear hf
        go_wp2
        go_ret
        exact ⟨ret_bool (by rw [Hz.out]), by rw [hSe]; exact Hb0.out.trans (Hbel.out.mono (by omega))⟩

end Go.Proofs.Ythojbcecbeapgab

/- The reference's StoreUsed, by a walk of its text; condition: the list has at most 2^20 batches. -/
namespace Go.Proofs.Ythojbcecbeapgab
open Go.RowKit

/-- What StoreUsed answers. -/
def uzZ (f : Int) (l : List Bt) (a : Int) : Int := if stB f l = true ∧ 0 ≤ a ∧ a ≤ 6 then usZ l a else -1
theorem stB_P {f : Int} {l : List Bt} (h : stB f l = true) : stP f l := of_decide_eq_true h
theorem spec_StoreUsed (f : Int) (l : List Bt) (v : Value) (fp : List Nat) (a : Int) (w : World) (hbig : l.length ≤ 1048577) (hl : Bts w l v fp) :
    Calls Try.prog 26 #[.agg #[.int .i64 f, v], .int .i64 a] w fun e w' => e = .returned (.int .i64 (uzZ f l a)) ∧ Below w.heap.size w w' := by
  obtain ⟨va, vc, rfl, _⟩ := hl.slice
  have hb0 : Below w.heap.size w (w.alloc (.cells #[.int .i64 f, .slice va l.length vc] 25)) := (Below.refl _ _).alloc (Nat.le_refl _) _
  have s0 := Str.new w 25 #[.int .i64 f, .slice va l.length vc]
  have z0 := s0.cell 0 (v := .int .i64 f) rfl
  have z1 := s0.cell 1 (v := .slice va l.length vc) rfl
  have hz : w.heap.size < (w.alloc (.cells #[.int .i64 f, .slice va l.length vc] 25)).heap.size := by simp
  have Hl := Lib.hid (hl.under hb0); clear hl s0
  have Hb0 := Lib.hid hb0; clear hb0
  have HV := Lib.hid (fun W (hr : Bts W l (.slice va l.length vc) fp) => spec_StoreValid f l (.slice va l.length vc) fp W hbig hr)
  have HU := Lib.hid (fun W (hr : Bts W l (.slice va l.length vc) fp) => spec_l23Used l (.slice va l.length vc) fp a W hbig hr)
  have HI := Lib.hid (fun W => spec_l6In a 0 6 W)
  go_enter Try.func26, Try.ntmps26
  go_wp2_with fail
  generalize w.alloc (.cells #[.int .i64 f, .slice va l.length vc] 25) = W0 at *
  refine (HV.out W0 Hl.out).mono ?_
  rintro e w1 ⟨rfl, hb1⟩
  have z0 := (hb1.cell (p := ⟨w.heap.size, 0, none⟩) hz).trans z0
  have z1 := (hb1.cell (p := ⟨w.heap.size, 1, none⟩) hz).trans z1
  have Hl1 := Lib.hid (Hl.out.under hb1)
  have Hb1 := Lib.hid (below_step Hb0.out Hb0.out.size hb1)
  clear hb1
  cases hs : stB f l with
  | false =>
    have Hr := Lib.hid (show uzZ f l a = -1 by unfold uzZ; rw [if_neg (by rw [hs]; simp)])
    clear hs
    go_wp2
    go_ret
    exact ⟨by rw [Hr.out]; rfl, Hb1.out⟩
  | true =>
  go_wp2_with fail
  refine (HI.out w1).mono ?_
  rintro e w2 ⟨rfl, rfl⟩
  by_cases ha : 0 ≤ a ∧ a ≤ 6
  · rw [decide_eq_true ha]
    have Hr := Lib.hid (show uzZ f l a = usZ l a by unfold uzZ; rw [if_pos ⟨hs, ha⟩])
    have Hsm := Lib.hid (st_small (stB_P hs))
    clear hs ha
    go_wp2_with fail
    refine (HU.out w1 Hl1.out).mono ?_
    rintro e w3 ⟨n, rfl, hn, hd⟩
    have Hn := Lib.hid (hn Hsm.out)
    have Hd := Lib.hid (below_step Hb1.out Hb1.out.size (hd.below _))
    clear hn hd
    go_wp2
    go_ret
    exact ⟨by rw [Hr.out, ← Hn.out]; rfl, Hd.out⟩
  · rw [decide_eq_false ha]
    have Hr := Lib.hid (show uzZ f l a = -1 by unfold uzZ; rw [if_neg (fun h => ha h.2)])
    clear hs ha
    go_wp2
    go_ret
    exact ⟨by rw [Hr.out]; rfl, Hb1.out⟩

end Go.Proofs.Ythojbcecbeapgab

/- The reference's StoreGet, by a walk of its text; condition: the list has at most 2^20 batches. -/
namespace Go.Proofs.Ythojbcecbeapgab
open Go.RowKit

def bt0 : Bt := ⟨0, 0, 0, 0⟩
/-- What StoreGet answers. -/
def geR (f : Int) (l : List Bt) (d : Int) : Bt × Bool := match (if stB f l = true then geF l d else none) with | some b => (b, true) | none => (bt0, false)
def agB (b : Bt) : Value := .agg #[.int .i64 b.d, .int .i64 b.a, .int .i64 b.r, .int .i64 b.s]
theorem geR_no {f : Int} {l : List Bt} {d : Int} (h : stB f l = false) : geR f l d = (bt0, false) := by unfold geR; rw [if_neg (by rw [h]; simp)]
theorem geR_yes {f : Int} {l : List Bt} {d : Int} (h : stB f l = true) {k : Nat} (hk : k < l.length) (he : l[k].d = d) (_hup : ∀ j (hj : j < l.length), j < k → l[j].d ≠ d) : geR f l d = (l[k], true) := by
  have hg : geF l d = some l[k] := by
    rw [← he]; exact ge_uni (stB_P h).2.2.1 (List.getElem_mem hk)
  unfold geR
  rw [if_pos h, hg]
theorem geR_end {f : Int} {l : List Bt} {d : Int} (hup : ∀ j (hj : j < l.length), l[j].d ≠ d) : geR f l d = (bt0, false) := by
  have hg : geF l d = none := ge_none.2 (by
    cases e : knB l d with
    | false => rfl
    | true =>
      obtain ⟨x, hx, he⟩ := kn_yes.1 e
      obtain ⟨j, hj, rfl⟩ := List.mem_iff_getElem.1 hx
      exact absurd he (hup j hj))
  unfold geR
  split
  · rename_i b e
    rw [hg] at e
    split at e <;> cases e
  · rfl
set_option maxHeartbeats 2000000 in
theorem spec_StoreGet (f : Int) (l : List Bt) (v : Value) (fp : List Nat) (d : Int) (w : World) (hbig : l.length ≤ 1048577) (hl : Bts w l v fp) :
    Calls Try.prog 17 #[.agg #[.int .i64 f, v], .int .i64 d] w fun e w' => e = .returned (.tuple #[agB (geR f l d).1, .bool (geR f l d).2]) ∧ Below w.heap.size w w' := by
  obtain ⟨va, vc, rfl, _⟩ := hl.slice
  have hb0 : Below w.heap.size w ((w.alloc (.cells #[.int .i64 f, .slice va l.length vc] 25)).alloc (.cells #[.int .i64 0, .int .i64 0, .int .i64 0, .int .i64 0] 27)) := ((Below.refl _ _).alloc (Nat.le_refl _) _).alloc (by simp) _
  have sS := (Str.new w 25 #[.int .i64 f, .slice va l.length vc]).alloc (.cells #[.int .i64 0, .int .i64 0, .int .i64 0, .int .i64 0] 27)
  have sR := Str.new (w.alloc (.cells #[.int .i64 f, .slice va l.length vc] 25)) 27 #[.int .i64 0, .int .i64 0, .int .i64 0, .int .i64 0]
  have hz1 : (w.alloc (.cells #[.int .i64 f, .slice va l.length vc] 25)).heap.size = w.heap.size + 1 := by simp
  rw [hz1] at sR
  have Hl := Lib.hid (hl.under hb0); clear hl
  have Hb0 := Lib.hid hb0; clear hb0
  have HsS := Lib.hid sS; have HsR := Lib.hid sR
  clear sS sR hz1
  have HV := Lib.hid (fun W v (hr : Bts W l v fp) => spec_StoreValid f l v fp W hbig hr)
  have Hend := Lib.hid (geR_end (f := f) (l := l) (d := d))
  have Hyes := Lib.hid (fun (h : stB f l = true) k (hk : k < l.length) => geR_yes h hk (d := d))
  have Hno := Lib.hid (geR_no (f := f) (l := l) (d := d))
  go_enter Try.func17, Try.ntmps17
  go_wp2_with fail
  generalize (w.alloc (.cells #[.int .i64 f, .slice va l.length vc] 25)).alloc (.cells #[.int .i64 0, .int .i64 0, .int .i64 0, .int .i64 0] 27) = W0 at *
  go_loopw [6] (fun i wr => ∃ k : Nat, k ≤ l.length ∧ i = .int .i64 k ∧ Hid (∀ j (hj : j < l.length), j < k → l[j].d ≠ d) ∧ Below W0.heap.size W0 wr) (fun i _ => l.length - (intOf i).toNat)
  case atStart => exact ⟨0, by omega, rfl, Lib.hid (fun j _ h => by omega), Below.refl _ _⟩
  case round =>
    obtain ⟨k, hk, rfl, Hup, hbel⟩ := hrel
    have HsS1 := Lib.hid (show Str wr w.heap.size 25 #[.int .i64 f, .slice va l.length vc] from (hbel.block _ HsS.out.lt).trans HsS.out)
    have HsR1 := Lib.hid (show Str wr (w.heap.size + 1) 27 #[.int .i64 0, .int .i64 0, .int .i64 0, .int .i64 0] from (hbel.block _ HsR.out.lt).trans HsR.out)
    have z0 := HsS1.out.cell 0 (v := .int .i64 f) rfl
    have z1 := HsS1.out.cell 1 (v := .slice va l.length vc) rfl
    have Hl1 := Lib.hid (Hl.out.under hbel)
    have Hbel := Lib.hid hbel; clear hbel
    by_cases hlt : k < l.length
    · have hlt' : (k : Int) < (l.length : Int) := by omega
      go_wp2_with fail
      refine (HV.out wr _ Hl1.out).mono ?_
      rintro e w2 ⟨rfl, hb2⟩
      have HsR2 := Lib.hid (show Str w2 (w.heap.size + 1) 27 #[.int .i64 0, .int .i64 0, .int .i64 0, .int .i64 0] from (hb2.block _ HsR1.out.lt).trans HsR1.out)
      have HsS2 := Lib.hid (show Str w2 w.heap.size 25 #[.int .i64 f, .slice va l.length vc] from (hb2.block _ HsS1.out.lt).trans HsS1.out)
      have z0 := HsS2.out.cell 0 (v := .int .i64 f) rfl
      have z1 := HsS2.out.cell 1 (v := .slice va l.length vc) rfl
      have Hl2 := Lib.hid (Hl1.out.under hb2)
      have Hb2 := Lib.hid (below_step Hbel.out Hbel.out.size hb2)
      have Hb2w := Lib.hid (below_step Hb0.out Hb0.out.size Hb2.out)
      clear hb2
      cases hs : stB f l with
      | false =>
        have Hr := Lib.hid (Hno.out hs)
        clear hs
        have f0 := HsR2.out.frozen 0
        have k0 := HsR2.out.cell 0 (v := .int .i64 0) rfl
        have f1 := HsR2.out.frozen 1
        have k1 := HsR2.out.cell 1 (v := .int .i64 0) rfl
        have f2 := HsR2.out.frozen 2
        have k2 := HsR2.out.cell 2 (v := .int .i64 0) rfl
        have f3 := HsR2.out.frozen 3
        have k3 := HsR2.out.cell 3 (v := .int .i64 0) rfl
        have sF := ((((HsR2.out.set 0 (.int .i64 0)).set 1 (.int .i64 0)).set 2 (.int .i64 0)).set 3 (.int .i64 0))
        have e0 := sF.cell 0 (v := .int .i64 0) rfl
        have e1 := sF.cell 1 (v := .int .i64 0) rfl
        have e2 := sF.cell 2 (v := .int .i64 0) rfl
        have e3 := sF.cell 3 (v := .int .i64 0) rfl
        clear sF
        have HbF := Lib.hid ((((Hb2w.out.setCell (p := ⟨w.heap.size + 1, 0, none⟩) (Nat.le_succ _) (.int .i64 0)).setCell (p := ⟨w.heap.size + 1, 1, none⟩) (Nat.le_succ _) (.int .i64 0)).setCell (p := ⟨w.heap.size + 1, 2, none⟩) (Nat.le_succ _) (.int .i64 0)).setCell (p := ⟨w.heap.size + 1, 3, none⟩) (Nat.le_succ _) (.int .i64 0))
        go_wp2
        refine bodyPost_ret (v := .tuple #[.agg #[.int .i64 0, .int .i64 0, .int .i64 0, .int .i64 0], .bool false]) (by simp [results, Try.f17, go_sem, e0, e1, e2, e3]) rfl ?_
        exact ⟨by rw [Hr.out]; rfl, HbF.out⟩
      | true =>
      obtain ⟨b, off, rfl, hb, hat⟩ := Hl2.out.at (by omega)
      obtain ⟨c0, c1, c2, c3⟩ := hat k hlt
      have Hy := Lib.hid (fun (h : l[k].d = d) => Hyes.out hs k hlt h (fun j hj => Hup.out j hj))
      have Hn := Lib.hid (fun (h : ¬ l[k].d = d) => show ∀ j (hj : j < l.length), j < k + 1 → l[j].d ≠ d from fun j hj h2 => by
        by_cases e : j = k
        · subst e; exact h
        · exact Hup.out j hj (by omega))
      clear hat hs
      generalize l[k] = x at *
      obtain ⟨xd, xa, xr, xs⟩ := x
      dsimp only at *
      by_cases he : xd = d
      · have he' : (xd == d) = true := by rw [beq_iff_eq]; exact he
        have Hr := Lib.hid (Hy.out he)
        clear he Hy Hn
        have f0 := HsR2.out.frozen 0
        have k0 := HsR2.out.cell 0 (v := .int .i64 0) rfl
        have f1 := HsR2.out.frozen 1
        have k1 := HsR2.out.cell 1 (v := .int .i64 0) rfl
        have f2 := HsR2.out.frozen 2
        have k2 := HsR2.out.cell 2 (v := .int .i64 0) rfl
        have f3 := HsR2.out.frozen 3
        have k3 := HsR2.out.cell 3 (v := .int .i64 0) rfl
        have sF := ((((HsR2.out.set 0 (.int .i64 xd)).set 1 (.int .i64 xa)).set 2 (.int .i64 xr)).set 3 (.int .i64 xs))
        have e0 := sF.cell 0 (v := .int .i64 xd) rfl
        have e1 := sF.cell 1 (v := .int .i64 xa) rfl
        have e2 := sF.cell 2 (v := .int .i64 xr) rfl
        have e3 := sF.cell 3 (v := .int .i64 xs) rfl
        clear sF
        have HbF := Lib.hid ((((Hb2w.out.setCell (p := ⟨w.heap.size + 1, 0, none⟩) (Nat.le_succ _) (.int .i64 xd)).setCell (p := ⟨w.heap.size + 1, 1, none⟩) (Nat.le_succ _) (.int .i64 xa)).setCell (p := ⟨w.heap.size + 1, 2, none⟩) (Nat.le_succ _) (.int .i64 xr)).setCell (p := ⟨w.heap.size + 1, 3, none⟩) (Nat.le_succ _) (.int .i64 xs))
        go_wp2
        refine bodyPost_ret (v := .tuple #[.agg #[.int .i64 xd, .int .i64 xa, .int .i64 xr, .int .i64 xs], .bool true]) (by simp [results, Try.f17, go_sem, e0, e1, e2, e3]) rfl ?_
        exact ⟨by rw [Hr.out]; rfl, HbF.out⟩
      · have he' : (xd == d) = false := by rw [beq_eq_false_iff_ne]; exact he
        have Hn2 := Lib.hid (Hn.out he)
        clear he Hy Hn
        go_wp2
        go_roundw
        case rel => exact ⟨k + 1, by omega, by go_num, Hn2, Hb2.out⟩
        case measure => simp [intOf]; omega
    · have Hr := Lib.hid (Hend.out fun j hj => Hup.out j hj (by omega))
      have Hb2w := Lib.hid (below_step Hb0.out Hb0.out.size Hbel.out)
      have f0 := HsR1.out.frozen 0
      have k0 := HsR1.out.cell 0 (v := .int .i64 0) rfl
      have f1 := HsR1.out.frozen 1
      have k1 := HsR1.out.cell 1 (v := .int .i64 0) rfl
      have f2 := HsR1.out.frozen 2
      have k2 := HsR1.out.cell 2 (v := .int .i64 0) rfl
      have f3 := HsR1.out.frozen 3
      have k3 := HsR1.out.cell 3 (v := .int .i64 0) rfl
      have sF := ((((HsR1.out.set 0 (.int .i64 0)).set 1 (.int .i64 0)).set 2 (.int .i64 0)).set 3 (.int .i64 0))
      have e0 := sF.cell 0 (v := .int .i64 0) rfl
      have e1 := sF.cell 1 (v := .int .i64 0) rfl
      have e2 := sF.cell 2 (v := .int .i64 0) rfl
      have e3 := sF.cell 3 (v := .int .i64 0) rfl
      clear sF
      have HbF := Lib.hid ((((Hb2w.out.setCell (p := ⟨w.heap.size + 1, 0, none⟩) (Nat.le_succ _) (.int .i64 0)).setCell (p := ⟨w.heap.size + 1, 1, none⟩) (Nat.le_succ _) (.int .i64 0)).setCell (p := ⟨w.heap.size + 1, 2, none⟩) (Nat.le_succ _) (.int .i64 0)).setCell (p := ⟨w.heap.size + 1, 3, none⟩) (Nat.le_succ _) (.int .i64 0))
      go_wp2
      refine bodyPost_ret (v := .tuple #[.agg #[.int .i64 0, .int .i64 0, .int .i64 0, .int .i64 0], .bool false]) (by simp [results, Try.f17, go_sem, e0, e1, e2, e3]) rfl ?_
      exact ⟨by rw [Hr.out]; rfl, HbF.out⟩

end Go.Proofs.Ythojbcecbeapgab

/- What StorePut and StoreForget answer, and what the promises of chapter 23 say of these answers; plain facts, nothing here speaks of the program. -/
namespace Go.Proofs.Ythojbcecbeapgab
open Go.RowKit

def puL (f : Int) (l : List Bt) (b : Bt) : List Bt := if puC f l b = 4 then [] else if puC f l b = 0 then inS l b else l
def puF (f : Int) (l : List Bt) (b : Bt) : Int := if puC f l b = 4 then 0 else f
theorem pu_four {f : Int} {l : List Bt} {b : Bt} : puC f l b = 4 ↔ ¬ (stB f l = true ∧ btB b = true) := by
  unfold puC
  constructor
  · intro h
    split at h
    · split at h
      · omega
      · split at h
        · omega
        · split at h <;> omega
    · assumption
  · intro h; rw [if_neg h]
theorem pu_some {f : Int} {l : List Bt} {b : Bt} (h : puC f l b ≠ 4) : stB f l = true ∧ btB b = true := by
  by_cases e : stB f l = true ∧ btB b = true
  · exact e
  · exact absurd (pu_four.2 e) h
theorem puL_len (f : Int) (l : List Bt) (b : Bt) : (puL f l b).length ≤ 12 := by
  unfold puL
  split
  · simp
  · rename_i h
    split
    · rename_i h0
      exact (stB_P (pu_valid h0)).2.1
    · exact (stB_P (pu_some h).1).2.1
theorem puL_zero {f : Int} {l : List Bt} {b : Bt} (h : puC f l b = 0) : puL f l b = inS l b ∧ puF f l b = f := by
  unfold puL puF; rw [h]; exact ⟨rfl, rfl⟩
theorem puL_other {f : Int} {l : List Bt} {b : Bt} (h : puC f l b ≠ 0) (h4 : puC f l b ≠ 4) : puL f l b = l ∧ puF f l b = f := by
  unfold puL puF; rw [if_neg h4, if_neg h, if_neg h4]; exact ⟨rfl, rfl⟩
theorem puL_bad {f : Int} {l : List Bt} {b : Bt} (h : puC f l b = 4) : puL f l b = [] ∧ puF f l b = 0 := by
  unfold puL puF; rw [if_pos h, if_pos h]; exact ⟨rfl, rfl⟩
/-- What StoreForget answers. -/
def foB (f : Int) (l : List Bt) (x : Int) : Bool := stB f l && decide (f ≤ x ∧ x ≤ 31)
def foL (f : Int) (l : List Bt) (x : Int) : List Bt := if foB f l x = true then fgL l x else []
def foF (f : Int) (l : List Bt) (x : Int) : Int := if foB f l x = true then x else 0
theorem foB_iff {f : Int} {l : List Bt} {x : Int} : foB f l x = true ↔ stB f l = true ∧ f ≤ x ∧ x ≤ 31 := by unfold foB; rw [Bool.and_eq_true, decide_eq_true_eq]
theorem fo_yes {f : Int} {l : List Bt} {x : Int} (h : foB f l x = true) : foL f l x = fgL l x ∧ foF f l x = x := by unfold foL foF; rw [if_pos h, if_pos h]; exact ⟨rfl, rfl⟩
theorem fo_no {f : Int} {l : List Bt} {x : Int} (h : foB f l x = false) : foL f l x = [] ∧ foF f l x = 0 := by unfold foL foF; rw [h]; exact ⟨rfl, rfl⟩
theorem foL_len (f : Int) (l : List Bt) (x : Int) : (foL f l x).length ≤ 12 := by
  unfold foL
  split
  · rename_i h; exact Nat.le_trans (fg_len l x) (stB_P (foB_iff.1 h).1).2.1
  · simp
/-! the promises -/
theorem us_le {f : Int} {l : List Bt} (h : stB f l = true) (a : Int) : usZ l a ≤ 30 := by
  by_cases e : ∃ b ∈ l, b.a = a
  · obtain ⟨b, hb, rfl⟩ := e; exact ((stB_P h).2.2.2 b hb).2.2
  · have : usZ l a = 0 := by
      clear h
      induction l with
      | nil => rfl
      | cons x r ih =>
        rw [usZ_cons, if_neg (fun h => e ⟨x, by simp, h⟩), ih fun ⟨b, hb, h⟩ => e ⟨b, by simp [hb], h⟩]; rfl
    omega
theorem uz_le (f : Int) (l : List Bt) (a : Int) : uzZ f l a ≤ 30 := by
  unfold uzZ
  split
  · rename_i h; exact us_le h.1 a
  · omega
theorem uz_of {f : Int} {l : List Bt} {a : Int} (h : stB f l = true) (h0 : 0 ≤ a) (h1 : a ≤ 6) : uzZ f l a = usZ l a := by unfold uzZ; rw [if_pos ⟨h, h0, h1⟩]
theorem uz_bd {f : Int} {l : List Bt} {a : Int} (h : stB f l = true) (h0 : 0 ≤ a) (h1 : a ≤ 6) : 0 ≤ uzZ f l a ∧ uzZ f l a ≤ 30 := by
  refine ⟨?_, uz_le f l a⟩
  rw [uz_of h h0 h1]
  exact usZ_nonneg (fun b hb => ((stB_P h).2.2.2 b hb).1) a
theorem geR_eq {f : Int} {l : List Bt} {d : Int} (h : stB f l = true) : geR f l d = match geF l d with | some b => (b, true) | none => (bt0, false) := by unfold geR; rw [if_pos h]; first | done | (cases geF l d <;> rfl)
/-- P95. -/
theorem p95 {f : Int} {l : List Bt} {b : Bt} (h : puC f l b = 0) : geR f (inS l b) b.d = (b, true) ∧ uzZ f (inS l b) b.a = uzZ f l b.a + b.s ∧ stB f (inS l b) = true ∧ (0 ≤ uzZ f l b.a ∧ uzZ f l b.a ≤ 30) ∧ 1 ≤ b.s ∧ b.s ≤ 12 := by
  obtain ⟨h1, h2, h3, h4, h5, h6⟩ := pu_zero.1 h
  have hv := pu_valid h
  have hb := btB_iff.1 h2
  refine ⟨?_, ?_, hv, uz_bd h1 hb.2.1.1 hb.2.1.2, hb.2.2.2⟩
  · rw [geR_eq hv, ge_uni (stB_P hv).2.2.1 (mem_inS.2 (.inl rfl))]
  · rw [uz_of hv hb.2.1.1 hb.2.1.2, uz_of h1 hb.2.1.1 hb.2.1.2, usZ_inS, if_pos rfl]
/-- P98. -/
theorem p98 {f : Int} {l : List Bt} {b : Bt} (h : puC f l b ≠ 4) : puC f l b = (if (geR f l b.d).2 = true then 1 else if b.r < f then 2 else if l.length = 12 ∨ 30 < uzZ f l b.a + b.s then 3 else 0) ∧ (0 ≤ uzZ f l b.a ∧ uzZ f l b.a ≤ 30) ∧ 1 ≤ b.s ∧ b.s ≤ 12 := by
  obtain ⟨h1, h2⟩ := pu_some h
  have hb := btB_iff.1 h2
  refine ⟨?_, uz_bd h1 hb.2.1.1 hb.2.1.2, hb.2.2.2⟩
  have hl := (stB_P h1).2.1
  have hk : (geR f l b.d).2 = knB l b.d := by
    rw [geR_eq h1]
    cases e : geF l b.d with
    | none => rw [ge_none.1 e]
    | some x => obtain ⟨e1, e2⟩ := ge_some e; rw [kn_yes.2 ⟨x, e1, e2⟩]
  rw [hk, uz_of h1 hb.2.1.1 hb.2.1.2]
  unfold puC
  rw [if_pos ⟨h1, h2⟩]
  by_cases e1 : knB l b.d = true
  · rw [if_pos e1, if_pos e1]
  · rw [if_neg e1, if_neg e1]
    by_cases e2 : b.r < f
    · rw [if_pos e2, if_pos e2]
    · rw [if_neg e2, if_neg e2]
      by_cases e3 : 12 ≤ l.length ∨ 30 < usZ l b.a + b.s
      · rw [if_pos e3, if_pos (by omega)]
      · rw [if_neg e3, if_neg (by omega)]
/-- P99. -/
theorem p99 {f : Int} {l : List Bt} {x : Int} (h : foB f l x = true) : stB x (fgL l x) = true ∧ ∀ k (hk : k < l.length), (geR x (fgL l x) l[k].d).2 = decide (x ≤ l[k].r) := by
  obtain ⟨h1, h2, h3⟩ := foB_iff.1 h
  have hv := fg_valid h1 h2 h3
  refine ⟨hv, fun k hk => ?_⟩
  have := ge_fg (stB_P h1).2.2.1 (List.getElem_mem hk) x
  rw [geR_eq hv]
  rw [← this]
  cases geF (fgL l x) l[k].d <;> rfl
/-- P100. -/
theorem p100 {f : Int} {l : List Bt} {x y : Int} (h : foB f l x = true) (hy : x ≤ y) (hy2 : y ≤ 31) : foB x (fgL l x) y = true ∧ foB f l y = true ∧ fgL (fgL l x) y = fgL l y := by
  obtain ⟨h1, h2, h3⟩ := foB_iff.1 h
  exact ⟨foB_iff.2 ⟨(p99 h).1, hy, hy2⟩, foB_iff.2 ⟨h1, by omega, hy2⟩, fg_steps l hy⟩
/-- P102. -/
theorem p102 {f : Int} {l : List Bt} {b : Bt} {a : Int} (h : puC f l b = 0) (hn : a ≠ b.a) : uzZ f (inS l b) a = uzZ f l a := by
  have e : usZ (inS l b) a = usZ l a := by rw [usZ_inS, if_neg (fun e => hn e.symm), Int.add_zero]
  unfold uzZ
  rw [pu_valid h, (pu_zero.1 h).1, e]
/-- P103. -/
theorem p103 {f : Int} {l : List Bt} {d : Int} (h : (geR f l d).2 = true) : (geR f l d).1.d = d ∧ f ≤ (geR f l d).1.r := by
  by_cases hv : stB f l = true
  · rw [geR_eq hv] at h ⊢
    cases e : geF l d with
    | none => rw [e] at h; cases h
    | some b => obtain ⟨e1, e2⟩ := ge_some e; exact ⟨e2, ((stB_P hv).2.2.2 b e1).2.1⟩
  · rw [geR_no (by simpa using hv)] at h; cases h

end Go.Proofs.Ythojbcecbeapgab

/- Batches of a store, one after another: plain facts; and batches in memory as a linked list: how it lies, what stays of it when other memory is made or written, how it grows and shrinks; nothing here walks the program. -/
namespace Go.Proofs.Ythojbcecbeapgab
open Go.RowKit

/-! a valid store grows batch by batch -/
theorem us_take {l : List Bt} (h : ∀ b ∈ l, btB b = true) (k : Nat) (a : Int) : usZ (l.take k) a ≤ usZ l a := by
  have h1 := usZ_app (l.take k) (l.drop k) a
  rw [List.take_append_drop] at h1
  have h2 := usZ_nonneg (l := l.drop k) (fun b hb => h b (List.mem_of_mem_drop hb)) a
  omega
theorem us_small {l : List Bt} (h : ∀ b ∈ l, btB b = true) (a : Int) : 0 ≤ usZ l a ∧ usZ l a ≤ 12 * l.length := by
  refine ⟨usZ_nonneg h a, ?_⟩
  induction l with
  | nil => simp [usZ]
  | cons b r ih =>
    have h1 := btB_iff.1 (h b (by simp))
    have h2 := ih fun x hx => h x (by simp [hx])
    rw [usZ_cons, List.length_cons]
    split <;> omega
theorem st_take {f : Int} {l : List Bt} (h : stB f l = true) (k : Nat) : stB f (l.take k) = true := by
  have h := stB_P h
  refine decide_eq_true ⟨h.1, by rw [List.length_take]; have := h.2.1; omega, h.2.2.1.sublist (List.take_sublist _ _), fun b hb => ?_⟩
  obtain ⟨c1, c2, c3⟩ := h.2.2.2 b (List.mem_of_mem_take hb)
  exact ⟨c1, c2, Int.le_trans (us_take (fun x hx => (h.2.2.2 x hx).1) k b.a) c3⟩
theorem lo_all {l : List Bt} {d : Int} (h : ∀ x ∈ l, x.d < d) : loS l d = l ∧ hiS l d = [] := by
  have h' : ∀ x ∈ l, decide (x.d < d) = true := fun x hx => decide_eq_true (h x hx)
  have e1 := List.takeWhile_append_of_pos (l₂ := []) h'
  have e2 := List.dropWhile_append_of_pos (l₂ := []) h'
  rw [List.append_nil] at e1 e2
  unfold loS hiS
  rw [e1, e2]
  exact ⟨by simp, rfl⟩
theorem take_lt {l : List Bt} {k : Nat} (hk : k < l.length) (hs : (l.take k).Pairwise fun x y => x.d < y.d) (ho : ∀ h : 0 < k, (l[k - 1]'(by omega)).d < l[k].d) : ∀ x ∈ l.take k, x.d < l[k].d := by
  intro x hx
  obtain ⟨j, hj, rfl⟩ := List.mem_iff_getElem.1 hx
  rw [List.length_take] at hj
  rw [List.getElem_take]
  have ho := ho (by omega)
  by_cases e : j = k - 1
  · subst e; exact ho
  · have h1 := List.pairwise_iff_getElem.1 hs j (k - 1) (by rw [List.length_take]; omega) (by rw [List.length_take]; omega) (by omega)
    rw [List.getElem_take, List.getElem_take] at h1
    omega
theorem take_in {l : List Bt} {k : Nat} (hk : k < l.length) (hs : (l.take k).Pairwise fun x y => x.d < y.d) (ho : ∀ h : 0 < k, (l[k - 1]'(by omega)).d < l[k].d) : inS (l.take k) l[k] = l.take (k + 1) := by
  obtain ⟨h1, h2⟩ := lo_all (take_lt hk hs ho)
  unfold inS
  rw [h1, h2, ← List.take_append_getElem hk]
theorem st_next {f : Int} {l : List Bt} {k : Nat} (hk : k < l.length) (hv : stB f (l.take k) = true) :
    stB f (l.take (k + 1)) = true ↔ (∀ h : 0 < k, (l[k - 1]'(by omega)).d < l[k].d) ∧ puC f (l.take k) l[k] = 0 := by
  have hs := (stB_P hv).2.2.1
  constructor
  · intro h
    have h' := stB_P h
    have ho : ∀ h : 0 < k, (l[k - 1]'(by omega)).d < l[k].d := fun h0 => by
      have h1 := List.pairwise_iff_getElem.1 h'.2.2.1 (k - 1) k (by rw [List.length_take]; omega) (by rw [List.length_take]; omega) (by omega)
      rw [List.getElem_take, List.getElem_take] at h1
      exact h1
    have hm : l[k] ∈ l.take (k + 1) := by rw [List.mem_take_iff_getElem]; exact ⟨k, by omega, rfl⟩
    obtain ⟨c1, c2, c3⟩ := h'.2.2.2 _ hm
    refine ⟨ho, pu_zero.2 ⟨hv, c1, ?_, c2, ?_, ?_⟩⟩
    · cases e : knB (l.take k) l[k].d with
      | false => rfl
      | true => obtain ⟨x, hx, he⟩ := kn_yes.1 e; have := take_lt hk hs ho x hx; omega
    · have := h'.2.1; rw [List.length_take] at this ⊢; omega
    · rw [usZ_take hk] at c3
      rw [if_pos rfl] at c3
      exact c3
  · rintro ⟨ho, h⟩
    rw [← take_in hk hs ho]
    exact pu_valid h
/-- The code, where the store is valid. -/
def pcZ (f : Int) (l : List Bt) (b : Bt) : Int := if btB b = true then if knB l b.d = true then 1 else if b.r < f then 2 else if 12 ≤ l.length ∨ 30 < usZ l b.a + b.s then 3 else 0 else 4
theorem pu_pc {f : Int} {l : List Bt} {b : Bt} (h : stB f l = true) : puC f l b = pcZ f l b := by
  unfold puC pcZ
  by_cases hb : btB b = true
  · rw [if_pos ⟨h, hb⟩, if_pos hb]
  · rw [if_neg (fun h => hb h.2), if_neg hb]
/-- Where a digest stands. -/
theorem ge_split {l : List Bt} {d : Int} {k : Nat} (hs : l.Pairwise fun x y => x.d < y.d) (h1 : loS l d = l.take k) (h2 : hiS l d = l.drop k) : geF l d = match l[k]? with | some b => if b.d = d then some b else none | none => none := by
  have hno : ∀ x ∈ l, x.d = d → ∃ h : k < l.length, x = l[k] := fun x hx e => by
    rw [← List.take_append_drop k l] at hx
    rcases List.mem_append.1 hx with hx | hx
    · rw [← h1] at hx; have := mem_lo hx; omega
    · obtain ⟨j, hj, rfl⟩ := List.mem_iff_getElem.1 hx
      rw [List.length_drop] at hj
      rw [List.getElem_drop] at e ⊢
      have hk : k < l.length := by omega
      have hm : d ≤ l[k].d := mem_hi hs (d := d) (by rw [h2, List.mem_iff_getElem]; exact ⟨0, by rw [List.length_drop]; omega, by rw [List.getElem_drop]; simp⟩)
      refine ⟨hk, ?_⟩
      by_cases e0 : j = 0
      · subst e0; simp
      · have := List.pairwise_iff_getElem.1 hs k (k + j) hk (by omega) (by omega)
        omega
  cases hl : l[k]? with
  | none =>
    refine ge_none.2 ?_
    cases e : knB l d with
    | false => rfl
    | true =>
      obtain ⟨x, hx, he⟩ := kn_yes.1 e
      obtain ⟨h, _⟩ := hno x hx he
      rw [List.getElem?_eq_getElem h] at hl; cases hl
  | some b =>
    obtain ⟨h, rfl⟩ := List.getElem?_eq_some_iff.1 hl
    dsimp only
    by_cases e : l[k].d = d
    · rw [if_pos e, ← e]; exact ge_uni hs (List.getElem_mem h)
    · rw [if_neg e]
      refine ge_none.2 ?_
      cases e2 : knB l d with
      | false => rfl
      | true =>
        obtain ⟨x, hx, he⟩ := kn_yes.1 e2
        obtain ⟨_, rfl⟩ := hno x hx he
        exact absurd he e
theorem kn_ge {l : List Bt} {d : Int} : knB l d = (geF l d).isSome := by
  cases e : geF l d with
  | none => rw [ge_none.1 e]; rfl
  | some b => obtain ⟨h1, h2⟩ := ge_some e; rw [kn_yes.2 ⟨b, h1, h2⟩]; rfl
/-- The place of a digest, found from the left. -/
theorem lo_at {l : List Bt} {d : Int} {k : Nat} (hk : k ≤ l.length) (h1 : ∀ j (hj : j < l.length), j < k → l[j].d < d) (h2 : ∀ h : k < l.length, ¬ l[k].d < d) : loS l d = l.take k ∧ hiS l d = l.drop k := by
  have e := List.take_append_drop k l
  have ha : ∀ x ∈ l.take k, decide (x.d < d) = true := fun x hx => by
    obtain ⟨j, hj, rfl⟩ := List.mem_iff_getElem.1 hx
    rw [List.length_take] at hj
    rw [List.getElem_take]
    exact decide_eq_true (h1 j (by omega) (by omega))
  have hb : (l.drop k).takeWhile (fun x => decide (x.d < d)) = [] ∧ (l.drop k).dropWhile (fun x => decide (x.d < d)) = l.drop k := by
    cases hd : l.drop k with
    | nil => exact ⟨rfl, rfl⟩
    | cons y r =>
      have hk' : k < l.length := by
        have := congrArg List.length hd
        rw [List.length_drop, List.length_cons] at this; omega
      have hy : y = l[k] := by
        have := congrArg (·[0]?) hd
        simp only [List.getElem?_drop, List.getElem?_cons_zero, Nat.add_zero] at this
        rw [List.getElem?_eq_getElem hk'] at this
        exact (Option.some.inj this).symm
      have hn := h2 hk'
      rw [← hy] at hn
      constructor
      · rw [List.takeWhile_cons_of_neg (by simpa using hn)]
      · rw [List.dropWhile_cons_of_neg (by simpa using hn)]
  have e1 := List.takeWhile_append_of_pos (l₂ := l.drop k) ha
  have e2 := List.dropWhile_append_of_pos (l₂ := l.drop k) ha
  rw [e] at e1 e2
  unfold loS hiS
  rw [e1, e2, hb.1, hb.2, List.append_nil]
  exact ⟨rfl, rfl⟩
/-- What is left behind a raised floor, batch by batch. -/
theorem fg_take {l : List Bt} {k : Nat} (h : k < l.length) (x : Int) : fgL (l.take (k + 1)) x = if x ≤ l[k].r then fgL (l.take k) x ++ [l[k]] else fgL (l.take k) x := by
  rw [List.take_succ_eq_append_getElem h]
  unfold fgL
  rw [List.filter_append, List.filter_cons, List.filter_nil]
  by_cases e : x ≤ l[k].r
  · rw [decide_eq_true e, if_pos rfl, if_pos e]
  · rw [decide_eq_false e, if_neg (by simp), if_neg e, List.append_nil]

/-! a linked list in memory -/
def ptV (q : Nat) : Value := .pointer (some ⟨q, 0, none⟩)
theorem ptV_ne (q : Nat) : ptV q ≠ .pointer none := by intro h; cases h
theorem ptV_inj {p q : Nat} (h : ptV p = ptV q) : p = q := by unfold ptV at h; simp only [Value.pointer.injEq, Option.some.injEq, Addr.mk.injEq, and_true] at h; exact h
/-- What points to the k-th batch. -/
def nxV (ns : List (Nat × Bt)) (k : Nat) : Value := match ns[k]? with | some x => ptV x.1 | none => .pointer none
theorem nxV_at {ns : List (Nat × Bt)} {k : Nat} {x : Nat × Bt} (h : ns[k]? = some x) : nxV ns k = ptV x.1 := by unfold nxV; rw [h]
theorem nxV_end {ns : List (Nat × Bt)} {k : Nat} (h : ns[k]? = none) : nxV ns k = .pointer none := by unfold nxV; rw [h]
theorem nxV_ptr (ns : List (Nat × Bt)) (k : Nat) : ∃ a, nxV ns k = .pointer a := by unfold nxV; cases ns[k]? with | none => exact ⟨_, rfl⟩ | some x => exact ⟨_, rfl⟩
def blkV : Value → Nat
  | .pointer (some a) => a.block
  | _ => 0
/-- Where the batch that is pointed to stands. -/
def ixA (ns : List (Nat × Bt)) (v : Value) : Nat := ns.findIdx fun x => decide (x.1 = blkV v)
def ndV (b : Bt) (n : Value) : Array Value := #[.int .i64 b.d, .int .i64 b.a, .int .i64 b.r, .int .i64 b.s, n]
theorem ndV_set (b : Bt) (n v : Value) : (ndV b n).setIfInBounds 4 v = ndV b v := by simp [ndV]
/-- The batches behind the first one, which is not stored. -/
def bsL (ns : List (Nat × Bt)) : List Bt := (ns.drop 1).map Prod.snd
theorem bsL_at (ns : List (Nat × Bt)) (j : Nat) : (bsL ns)[j]? = (ns[j + 1]?).map Prod.snd := by unfold bsL; rw [List.getElem?_map, List.getElem?_drop, Nat.add_comm]
theorem bsL_len (ns : List (Nat × Bt)) : (bsL ns).length = ns.length - 1 := by unfold bsL; simp
def insA (ns : List (Nat × Bt)) (k : Nat) (x : Nat × Bt) : List (Nat × Bt) := ns.take (k + 1) ++ x :: ns.drop (k + 1)
theorem insA_at {ns : List (Nat × Bt)} {k : Nat} (hk : k < ns.length) (x : Nat × Bt) (j : Nat) : (insA ns k x)[j]? = if j < k + 1 then ns[j]? else if j = k + 1 then some x else ns[j - 1]? := by
  have hl : (ns.take (k + 1)).length = k + 1 := by rw [List.length_take]; omega
  unfold insA
  by_cases h : j < k + 1
  · rw [if_pos h, List.getElem?_append_left (by omega), List.getElem?_take_of_lt h]
  · rw [if_neg h, List.getElem?_append_right (by omega), hl]
    by_cases e : j = k + 1
    · subst e; rw [if_pos rfl, Nat.sub_self]; rfl
    · rw [if_neg e, show j - (k + 1) = (j - k - 2) + 1 by omega, List.getElem?_cons_succ, List.getElem?_drop]
      congr 1; omega
theorem insA_bs {ns : List (Nat × Bt)} {k : Nat} (hk : k < ns.length) (x : Nat × Bt) : bsL (insA ns k x) = (bsL ns).take k ++ x.2 :: (bsL ns).drop k := by
  refine List.ext_getElem? fun j => ?_
  rw [bsL_at, insA_at hk]
  have hl : ((bsL ns).take k).length = k := by rw [List.length_take, bsL_len]; omega
  by_cases h : j < k
  · rw [if_pos (by omega), List.getElem?_append_left (by omega), List.getElem?_take_of_lt h, bsL_at]
  · rw [if_neg (by omega), List.getElem?_append_right (by omega), hl]
    by_cases e : j = k
    · subst e; rw [if_pos rfl, Nat.sub_self]; rfl
    · rw [if_neg (by omega), show j - k = (j - k - 1) + 1 by omega, List.getElem?_cons_succ, List.getElem?_drop, bsL_at]
      congr 2; omega
def delA (ns : List (Nat × Bt)) (k : Nat) : List (Nat × Bt) := ns.take (k + 1) ++ ns.drop (k + 2)
theorem delA_at {ns : List (Nat × Bt)} {k : Nat} (hk : k < ns.length) (j : Nat) : (delA ns k)[j]? = if j < k + 1 then ns[j]? else ns[j + 1]? := by
  have hl : (ns.take (k + 1)).length = k + 1 := by rw [List.length_take]; omega
  unfold delA
  by_cases h : j < k + 1
  · rw [if_pos h, List.getElem?_append_left (by omega), List.getElem?_take_of_lt h]
  · rw [if_neg h, List.getElem?_append_right (by omega), hl, List.getElem?_drop]
    congr 1; omega
theorem delA_bs {ns : List (Nat × Bt)} {k : Nat} (hk : k < ns.length) : bsL (delA ns k) = (bsL ns).take k ++ (bsL ns).drop (k + 1) := by
  refine List.ext_getElem? fun j => ?_
  rw [bsL_at, delA_at hk]
  have hl : ((bsL ns).take k).length = k := by rw [List.length_take, bsL_len]; omega
  by_cases h : j < k
  · rw [if_pos (by omega), List.getElem?_append_left (by omega), List.getElem?_take_of_lt h, bsL_at]
  · rw [if_neg (by omega), List.getElem?_append_right (by omega), hl, List.getElem?_drop, bsL_at]
    congr 2; omega
theorem nxV_insA_lt {ns : List (Nat × Bt)} {k : Nat} (hk : k < ns.length) (x : Nat × Bt) {j : Nat} (h : j < k + 1) : nxV (insA ns k x) j = nxV ns j := by unfold nxV; rw [insA_at hk, if_pos h]
theorem nxV_insA_new {ns : List (Nat × Bt)} {k : Nat} (hk : k < ns.length) (x : Nat × Bt) : nxV (insA ns k x) (k + 1) = ptV x.1 := by unfold nxV; rw [insA_at hk, if_neg (by omega), if_pos rfl]
theorem nxV_insA_gt {ns : List (Nat × Bt)} {k : Nat} (hk : k < ns.length) (x : Nat × Bt) {j : Nat} (h : k + 1 < j) : nxV (insA ns k x) j = nxV ns (j - 1) := by unfold nxV; rw [insA_at hk, if_neg (by omega), if_neg (by omega)]
theorem nxV_delA_lt {ns : List (Nat × Bt)} {k : Nat} (hk : k < ns.length) {j : Nat} (h : j < k + 1) : nxV (delA ns k) j = nxV ns j := by unfold nxV; rw [delA_at hk, if_pos h]
theorem nxV_delA_ge {ns : List (Nat × Bt)} {k : Nat} (hk : k < ns.length) {j : Nat} (h : k + 1 ≤ j) : nxV (delA ns k) j = nxV ns (j + 1) := by unfold nxV; rw [delA_at hk, if_neg (by omega)]

/-- How many batches come from here on. -/
def chN (w : World) : Nat → Value → Nat
  | n + 1, .pointer (some a) => 1 + chN w n ((w.cell? ⟨a.block, 4, none⟩).getD (.pointer none))
  | _, _ => 0
theorem delA_tk {ns : List (Nat × Bt)} {k : Nat} (hk : k < ns.length) : (bsL (delA ns k)).take k = (bsL ns).take k ∧ (bsL (delA ns k)).drop k = (bsL ns).drop (k + 1) := by
  have hl : ((bsL ns).take k).length = k := by rw [List.length_take, bsL_len]; omega
  rw [delA_bs hk]
  constructor
  · rw [List.take_append_of_le_length (by omega), List.take_of_length_le (by omega)]
  · rw [List.drop_append_of_le_length (by omega), List.drop_of_length_le (by omega), List.nil_append]
theorem delA_len {ns : List (Nat × Bt)} {k : Nat} (hk : k + 1 < ns.length) : (delA ns k).length = ns.length - 1 := by unfold delA; rw [List.length_append, List.length_take, List.length_drop]; omega
/-- The next batch of what is left, where one is there. -/
theorem next_at {ns : List (Nat × Bt)} {l : List Bt} {k j q : Nat} {b : Bt} (h : ns[k + 1]? = some (q, b)) (hd : (bsL ns).drop k = l.drop j) : ∃ h : j < l.length, l[j] = b ∧ (bsL ns).drop (k + 1) = l.drop (j + 1) ∧ (bsL ns).take (k + 1) = (bsL ns).take k ++ [b] := by
  have e := bsL_at ns k
  rw [h] at e
  obtain ⟨hk, hke⟩ := List.getElem?_eq_some_iff.1 e
  have e1 : (l.drop j)[0]? = some b := by rw [← hd, List.getElem?_drop, Nat.add_zero]; exact e
  rw [List.getElem?_drop, Nat.add_zero] at e1
  obtain ⟨hj, hje⟩ := List.getElem?_eq_some_iff.1 e1
  refine ⟨hj, hje, ?_, ?_⟩
  · have := congrArg (List.drop 1) hd
    rwa [List.drop_drop, List.drop_drop] at this
  · have h2 := List.take_append_getElem hk
    rw [← h2, hke]
theorem next_end {ns : List (Nat × Bt)} {l : List Bt} {k j : Nat} (h : ns[k + 1]? = none) (hd : (bsL ns).drop k = l.drop j) : l.take j = l ∧ (bsL ns).take k = bsL ns := by
  have hl := List.getElem?_eq_none_iff.1 h
  have hb := bsL_len ns
  have e1 : (bsL ns).drop k = [] := List.drop_of_length_le (by omega)
  rw [e1] at hd
  have := congrArg List.length hd
  rw [List.length_drop, List.length_nil] at this
  exact ⟨List.take_of_length_le (by omega), List.take_of_length_le (by omega)⟩

/-- A store: its struct points to the first of its batches, each of these to the next; all of it lies from block lo on, below block hi. -/
structure LS (w : World) (lo hi P : Nat) (f : Int) (ns : List (Nat × Bt)) : Prop where
  ne : 0 < ns.length
  st : Str w P 80 #[.int .i64 f, nxV ns 0]
  nd : ∀ (k q : Nat) (b : Bt), ns[k]? = some (q, b) → Str w q 69 (ndV b (nxV ns (k + 1)))
  dj : ∀ (i j q : Nat) (b b' : Bt), ns[i]? = some (q, b) → ns[j]? = some (q, b') → i = j
  inn : ∀ (k q : Nat) (b : Bt), ns[k]? = some (q, b) → lo ≤ q ∧ q < hi ∧ q ≠ P
  loP : lo ≤ P
  ltP : P < hi
  le : hi ≤ w.heap.size
section
variable {w w' : World} {lo hi P : Nat} {f : Int} {ns : List (Nat × Bt)}
theorem LS.kept {row : Option Nat} (h : LS w lo hi P f ns) (hg : w.grownBy w' row) (hrow : ∀ m, row = some m → hi ≤ m ∨ m < lo) : LS w' lo hi P f ns :=
  ⟨h.ne, h.st.kept hg fun e => by have := hrow P e.symm; have := h.loP; have := h.ltP; omega, fun k q b e => (h.nd k q b e).kept hg fun e2 => by have := hrow q e2.symm; have := h.inn k q b e; omega, h.dj, h.inn, h.loP, h.ltP, Nat.le_trans h.le hg.size⟩
theorem LS.under (h : LS w lo hi P f ns) (hb : Below w.heap.size w w') : LS w' lo hi P f ns := h.kept (below_grown hb) fun _ e => by cases e
theorem LS.cell (h : LS w lo hi P f ns) : w.cell? ⟨P, 0, none⟩ = some (.int .i64 f) ∧ w.cell? ⟨P, 1, none⟩ = some (nxV ns 0) ∧ w.frozen? ⟨P, 0, none⟩ = false ∧ w.frozen? ⟨P, 1, none⟩ = false :=
  ⟨h.st.cell 0 (v := .int .i64 f) rfl, h.st.cell 1 (v := nxV ns 0) rfl, h.st.frozen 0, h.st.frozen 1⟩
theorem LS.node (h : LS w lo hi P f ns) {k q : Nat} {b : Bt} (e : ns[k]? = some (q, b)) : w.cell? ⟨q, 0, none⟩ = some (.int .i64 b.d) ∧ w.cell? ⟨q, 1, none⟩ = some (.int .i64 b.a) ∧ w.cell? ⟨q, 2, none⟩ = some (.int .i64 b.r) ∧ w.cell? ⟨q, 3, none⟩ = some (.int .i64 b.s) ∧ w.cell? ⟨q, 4, none⟩ = some (nxV ns (k + 1)) ∧ ∀ j, w.frozen? ⟨q, j, none⟩ = false := by
  have s := h.nd k q b e
  exact ⟨s.cell 0 (v := .int .i64 b.d) rfl, s.cell 1 (v := .int .i64 b.a) rfl, s.cell 2 (v := .int .i64 b.r) rfl, s.cell 3 (v := .int .i64 b.s) rfl, s.cell 4 (v := nxV ns (k + 1)) rfl, fun j => s.frozen j⟩
/-- An empty store. -/
theorem LS.new {H : Nat} {b0 : Bt} (hs : Str w P 80 #[.int .i64 f, ptV H]) (hh : Str w H 69 (ndV b0 (.pointer none))) (h1 : lo ≤ H) (h2 : H < hi) (h3 : H ≠ P) (h4 : lo ≤ P) (h5 : P < hi) (h6 : hi ≤ w.heap.size) : LS w lo hi P f [(H, b0)] := by
  refine ⟨by simp, hs, fun k q b e => ?_, fun i j q b b' e e' => ?_, fun k q b e => ?_, h4, h5, h6⟩
  · rcases k with _ | k
    · simp only [List.getElem?_cons_zero, Option.some.injEq, Prod.mk.injEq] at e
      obtain ⟨rfl, rfl⟩ := e
      exact hh
    · simp at e
  · rcases i with _ | i
    · rcases j with _ | j
      · rfl
      · simp at e'
    · simp at e
  · rcases k with _ | k
    · simp only [List.getElem?_cons_zero, Option.some.injEq, Prod.mk.injEq] at e
      obtain ⟨rfl, rfl⟩ := e
      exact ⟨h1, h2, h3⟩
    · simp at e
/-- A new batch behind the k-th. -/
theorem LS.put {w1 : World} {hi2 k q Q : Nat} {b b0 : Bt} (h : LS w lo hi P f ns) (hg : w.grownBy w1 none) (hk : ns[k]? = some (q, b0)) (hQ : hi ≤ Q) (hQ2 : Q < hi2) (hh : hi ≤ hi2) (hz : hi2 ≤ w1.heap.size) (hs : Str w1 Q 69 (ndV b (nxV ns (k + 1)))) :
    LS (w1.setCell ⟨q, 4, none⟩ (ptV Q)) lo hi2 P f (insA ns k (Q, b)) := by
  obtain ⟨hkl, hke⟩ := List.getElem?_eq_some_iff.1 hk
  have h1 := h.kept hg fun _ e => by cases e
  have hq := h.inn k q b0 hk
  have hg2 := grownBy_set w1 q 4 (ptV Q)
  have hoth : ∀ (i p : Nat) (c : Bt), ns[i]? = some (p, c) → i ≠ k → p ≠ q := fun i p c e hne e2 => by subst e2; exact hne (h.dj i k p c b0 e hk)
  refine ⟨by unfold insA; rw [List.length_append, List.length_cons]; omega, ?_, fun j p c e => ?_, fun i j p c c' e e' => ?_, fun j p c e => ?_, h.loP, Nat.lt_of_lt_of_le h.ltP hh, by rw [World.size_setCell]; exact hz⟩
  · rw [nxV_insA_lt hkl _ (by omega)]
    exact h1.st.kept hg2 (by simpa using fun e => hq.2.2 e.symm)
  · rw [insA_at hkl] at e
    split at e
    · rename_i hj
      by_cases ejk : j = k
      · subst ejk
        rw [hk] at e
        simp only [Option.some.injEq, Prod.mk.injEq] at e
        obtain ⟨rfl, rfl⟩ := e
        rw [nxV_insA_new hkl]
        have := (h1.nd j q b0 hk).set 4 (ptV Q)
        rwa [ndV_set] at this
      · rw [nxV_insA_lt hkl _ (by omega)]
        exact (h1.nd j p c e).kept hg2 (by simpa using hoth j p c e ejk)
    · split at e
      · rename_i _ hj
        subst hj
        simp only [Option.some.injEq, Prod.mk.injEq] at e
        obtain ⟨rfl, rfl⟩ := e
        rw [nxV_insA_gt hkl _ (by omega)]
        exact hs.kept hg2 (by simp; omega)
      · rw [nxV_insA_gt hkl _ (by omega)]
        have := (h1.nd (j - 1) p c e).kept hg2 (by simpa using hoth (j - 1) p c e (by omega))
        rwa [show j - 1 + 1 = j + 1 - 1 by omega] at this
  · have hold : ∀ (i p : Nat) (c : Bt), ns[i]? = some (p, c) → p ≠ Q := fun i p c e => by have := h.inn i p c e; omega
    rw [insA_at hkl] at e e'
    split at e <;> split at e' <;> (try split at e) <;> (try split at e')
    all_goals first
      | exact h.dj _ _ _ _ _ e e'
      | (simp only [Option.some.injEq, Prod.mk.injEq] at e; exact absurd e.1.symm (hold _ _ _ e'))
      | (simp only [Option.some.injEq, Prod.mk.injEq] at e'; exact absurd e'.1.symm (hold _ _ _ e))
      | omega
      | (have := h.dj _ _ _ _ _ e e'; omega)
  · rw [insA_at hkl] at e
    split at e
    · have := h.inn _ _ _ e; omega
    · split at e
      · simp only [Option.some.injEq, Prod.mk.injEq] at e
        obtain ⟨rfl, rfl⟩ := e
        have := h.loP; have := h.ltP; omega
      · have := h.inn _ _ _ e; omega
/-- The batch behind the k-th is taken out. -/
theorem LS.del {k q : Nat} {b0 : Bt} (h : LS w lo hi P f ns) (hk : ns[k]? = some (q, b0)) : LS (w.setCell ⟨q, 4, none⟩ (nxV ns (k + 2))) lo hi P f (delA ns k) := by
  obtain ⟨hkl, hke⟩ := List.getElem?_eq_some_iff.1 hk
  have hq := h.inn k q b0 hk
  have hg2 := grownBy_set w q 4 (nxV ns (k + 2))
  have hoth : ∀ (i p : Nat) (c : Bt), ns[i]? = some (p, c) → i ≠ k → p ≠ q := fun i p c e hne e2 => by subst e2; exact hne (h.dj i k p c b0 e hk)
  refine ⟨by unfold delA; rw [List.length_append, List.length_take]; omega, ?_, fun j p c e => ?_, fun i j p c c' e e' => ?_, fun j p c e => ?_, h.loP, h.ltP, by rw [World.size_setCell]; exact h.le⟩
  · rw [nxV_delA_lt hkl (by omega)]
    exact h.st.kept hg2 (by simpa using fun e => hq.2.2 e.symm)
  · rw [delA_at hkl] at e
    split at e
    · by_cases ejk : j = k
      · subst ejk
        rw [hk] at e
        simp only [Option.some.injEq, Prod.mk.injEq] at e
        obtain ⟨rfl, rfl⟩ := e
        rw [nxV_delA_ge hkl (by omega)]
        have := (h.nd j q b0 hk).set 4 (nxV ns (j + 2))
        rwa [ndV_set] at this
      · rw [nxV_delA_lt hkl (by omega)]
        exact (h.nd j p c e).kept hg2 (by simpa using hoth j p c e ejk)
    · rw [nxV_delA_ge hkl (by omega)]
      exact (h.nd (j + 1) p c e).kept hg2 (by simpa using hoth (j + 1) p c e (by omega))
  · rw [delA_at hkl] at e e'
    split at e <;> split at e' <;> have := h.dj _ _ _ _ _ e e' <;> omega
  · rw [delA_at hkl] at e
    split at e <;> exact h.inn _ _ _ e
theorem LS.floor (h : LS w lo hi P f ns) (f' : Int) : LS (w.setCell ⟨P, 0, none⟩ (.int .i64 f')) lo hi P f' ns := by
  have hg2 := grownBy_set w P 0 (.int .i64 f')
  refine ⟨h.ne, ?_, fun k q b e => (h.nd k q b e).kept hg2 (by simpa using (h.inn k q b e).2.2), h.dj, h.inn, h.loP, h.ltP, by rw [World.size_setCell]; exact h.le⟩
  exact h.st.set 0 (.int .i64 f')
theorem LS.ix (h : LS w lo hi P f ns) {k q : Nat} {b : Bt} (hk : ns[k]? = some (q, b)) : ixA ns (.pointer (some ⟨q, 0, none⟩)) = k := by
  obtain ⟨hl, he⟩ := List.getElem?_eq_some_iff.1 hk
  unfold ixA
  rw [List.findIdx_eq hl]
  refine ⟨by rw [he]; simp [blkV], fun j hj => ?_⟩
  have hjl : j < ns.length := by omega
  have e : ns[j]? = some (ns[j].1, ns[j].2) := List.getElem?_eq_getElem hjl
  refine decide_eq_false fun e2 => ?_
  rw [show ns[j].1 = q from e2] at e
  have := h.dj j k q _ _ e hk
  omega
theorem LS.chn (h : LS w lo hi P f ns) : ∀ (N k q : Nat) (b : Bt), ns[k]? = some (q, b) → ns.length - k ≤ N → chN w N (.pointer (some ⟨q, 0, none⟩)) = ns.length - k
  | 0, k, q, b, hk, hN => by have := (List.getElem?_eq_some_iff.1 hk).1; omega
  | N + 1, k, q, b, hk, hN => by
    have hl := (List.getElem?_eq_some_iff.1 hk).1
    have c := (h.node hk).2.2.2.2.1
    show 1 + chN w N ((w.cell? ⟨q, 4, none⟩).getD (.pointer none)) = _
    rw [c, Option.getD_some]
    cases hn : ns[k + 1]? with
    | none =>
      rw [nxV_end hn]
      have := List.getElem?_eq_none_iff.1 hn
      have e : chN w N (.pointer none) = 0 := by cases N <;> rfl
      omega
    | some x =>
      obtain ⟨q2, b2⟩ := x
      rw [nxV_at hn]
      have := LS.chn h N (k + 1) q2 b2 hn (by omega)
      show 1 + chN w N (.pointer (some ⟨q2, 0, none⟩)) = _
      omega
theorem LS.head (h : LS w lo hi P f ns) : ∃ q b, ns[0]? = some (q, b) := ⟨_, _, List.getElem?_eq_getElem h.ne⟩
end

end Go.Proofs.Ythojbcecbeapgab

/- impl's tests of batches, and how it finds a batch in its linked list, each by a walk of its text; no conditions but that the list lies as it should. -/
namespace Go.Proofs.Ythojbcecbeapgab
open Go.RowKit

theorem bt_isRound (n : Int) (w : World) : Calls Try.prog 58 #[.int .i64 n] w fun e w' => e = .returned (.bool (decide (0 ≤ n ∧ n ≤ 30))) ∧ w = w' := by
  obtain ⟨z, hz⟩ : ∃ z, z = decide (0 ≤ n ∧ n ≤ 30) := ⟨_, rfl⟩
  rw [← hz]
  by_cases h : 0 ≤ n
  · have Hf := Lib.hid (show z = decide (n ≤ 30) from hz.trans (decide_eq_decide.2 (by omega))); clear hz
    go_enter Try.func58, Try.ntmps58
    go_wp2
    go_ret
    exact ⟨ret_bool Hf.out.symm, rfl⟩
  · have Hf := Lib.hid (show z = false from hz.trans (decide_eq_false (by omega))); clear hz
    go_enter Try.func58, Try.ntmps58
    go_wp2
    go_ret
    exact ⟨ret_bool Hf.out.symm, rfl⟩
theorem bt_isDigest (n : Int) (w : World) : Calls Try.prog 57 #[.int .i64 n] w fun e w' => e = .returned (.bool (decide (0 ≤ n ∧ n ≤ 990))) ∧ w = w' := by
  obtain ⟨z, hz⟩ : ∃ z, z = decide (0 ≤ n ∧ n ≤ 990) := ⟨_, rfl⟩
  rw [← hz]
  by_cases h : 0 ≤ n
  · have Hf := Lib.hid (show z = decide (n < 991) from hz.trans (decide_eq_decide.2 (by omega))); clear hz
    go_enter Try.func57, Try.ntmps57
    go_wp2
    go_ret
    exact ⟨ret_bool Hf.out.symm, rfl⟩
  · have Hf := Lib.hid (show z = false from hz.trans (decide_eq_false (by omega))); clear hz
    go_enter Try.func57, Try.ntmps57
    go_wp2
    go_ret
    exact ⟨ret_bool Hf.out.symm, rfl⟩
theorem impl_isAuthor (n : Int) (w : World) : Calls Try.prog 38 #[.int .i64 n] w fun e w' => e = .returned (.bool (decide (0 ≤ n ∧ n ≤ 6))) ∧ w = w' := by
  obtain ⟨z, hz⟩ : ∃ z, z = decide (0 ≤ n ∧ n ≤ 6) := ⟨_, rfl⟩
  rw [← hz]
  by_cases h : 0 ≤ n
  · have Hf := Lib.hid (show z = decide (n < 7) from hz.trans (decide_eq_decide.2 (by omega))); clear hz
    go_enter Try.func38, Try.ntmps38
    go_wp2
    go_ret
    exact ⟨ret_bool Hf.out.symm, rfl⟩
  · have Hf := Lib.hid (show z = false from hz.trans (decide_eq_false (by omega))); clear hz
    go_enter Try.func38, Try.ntmps38
    go_wp2
    go_ret
    exact ⟨ret_bool Hf.out.symm, rfl⟩
theorem impl_isFloor (n : Int) (w : World) : Calls Try.prog 48 #[.int .i64 n] w fun e w' => e = .returned (.bool (decide (0 ≤ n ∧ n ≤ 31))) ∧ w = w' := by
  obtain ⟨z, hz⟩ : ∃ z, z = decide (0 ≤ n ∧ n ≤ 31) := ⟨_, rfl⟩
  rw [← hz]
  by_cases h : 0 ≤ n
  · have Hf := Lib.hid (show z = decide (n ≤ 31) from hz.trans (decide_eq_decide.2 (by omega))); clear hz
    go_enter Try.func48, Try.ntmps48
    go_wp2
    go_ret
    exact ⟨ret_bool Hf.out.symm, rfl⟩
  · have Hf := Lib.hid (show z = false from hz.trans (decide_eq_false (by omega))); clear hz
    go_enter Try.func48, Try.ntmps48
    go_wp2
    go_ret
    exact ⟨ret_bool Hf.out.symm, rfl⟩

theorem batch_valid (b : Bt) (w : World) :
    Calls Try.prog 51 #[agB b] w fun e w' => e = .returned (.bool (btB b)) ∧ Below w.heap.size w w' := by
  obtain ⟨d, a, r, s⟩ := b
  have hb0 : Below w.heap.size w (w.alloc (.cells #[.int .i64 d, .int .i64 a, .int .i64 r, .int .i64 s] 27)) := (Below.refl _ _).alloc (Nat.le_refl _) _
  have s0 := Str.new w 27 #[.int .i64 d, .int .i64 a, .int .i64 r, .int .i64 s]
  have k0 := s0.cell 0 (v := .int .i64 d) rfl
  have k1 := s0.cell 1 (v := .int .i64 a) rfl
  have k2 := s0.cell 2 (v := .int .i64 r) rfl
  have k3 := s0.cell 3 (v := .int .i64 s) rfl
  have H1 := Lib.hid (fun W => bt_isDigest d W)
  have H2 := Lib.hid (fun W => impl_isAuthor a W)
  have H3 := Lib.hid (fun W => bt_isRound r W)
  have Hb0 := Lib.hid hb0; clear hb0 s0
  have Hres := Lib.hid (show btB ⟨d, a, r, s⟩ = (decide (0 ≤ d ∧ d ≤ 990) && decide (0 ≤ a ∧ a ≤ 6) && decide (0 ≤ r ∧ r ≤ 30) && decide (1 ≤ s ∧ s ≤ 12)) from rfl)
  generalize decide (0 ≤ a ∧ a ≤ 6) = xa at *
  generalize decide (0 ≤ r ∧ r ≤ 30) = xr at *
  generalize decide (0 ≤ d ∧ d ≤ 990) = xd at *
  unfold agB
  go_enter Try.func51, Try.ntmps51
  go_wp2_with fail
  generalize w.alloc (.cells #[.int .i64 d, .int .i64 a, .int .i64 r, .int .i64 s] 27) = W0 at *
  refine (H1.out W0).mono ?_
  rintro e w1 ⟨rfl, rfl⟩
  cases xd with
  | false =>
    go_wp2
    go_ret
    exact ⟨ret_bool (by rw [Hres.out]; rfl), Hb0.out⟩
  | true =>
  go_wp2_with fail
  refine (H2.out W0).mono ?_
  rintro e w1 ⟨rfl, rfl⟩
  cases xa with
  | false =>
    go_wp2
    go_ret
    exact ⟨ret_bool (by rw [Hres.out]; rfl), Hb0.out⟩
  | true =>
  go_wp2_with fail
  refine (H3.out W0).mono ?_
  rintro e w1 ⟨rfl, rfl⟩
  cases xr with
  | false =>
    go_wp2
    go_ret
    exact ⟨ret_bool (by rw [Hres.out]; rfl), Hb0.out⟩
  | true =>
  by_cases h : 1 ≤ s
  · have Hf := Lib.hid (show decide (1 ≤ s ∧ s ≤ 12) = decide (s ≤ 12) from decide_eq_decide.2 (by omega))
    go_wp2
    go_ret
    exact ⟨ret_bool (by rw [Hres.out, Hf.out]; rfl), Hb0.out⟩
  · have Hf := Lib.hid (show decide (1 ≤ s ∧ s ≤ 12) = false from decide_eq_false (by omega))
    go_wp2
    go_ret
    exact ⟨ret_bool (by rw [Hres.out, Hf.out]; rfl), Hb0.out⟩

/-- What 'before' answers: the last batch ahead of a digest. -/
def BefP (ns : List (Nat × Bt)) (d : Int) (w : World) (e : Ending) (w' : World) : Prop := ∃ (k q : Nat) (b0 : Bt), e = .returned (ptV q) ∧ ns[k]? = some (q, b0) ∧ loS (bsL ns) d = (bsL ns).take k ∧ hiS (bsL ns) d = (bsL ns).drop k ∧ Drawn w w'
theorem BefP.mk {ns : List (Nat × Bt)} {d : Int} {w w' : World} {e : Ending} (k q : Nat) (b0 : Bt) (h : e = .returned (ptV q)) (h1 : ns[k]? = some (q, b0)) (h2 : loS (bsL ns) d = (bsL ns).take k) (h3 : hiS (bsL ns) d = (bsL ns).drop k) (h4 : Drawn w w') : BefP ns d w e w' := ⟨k, q, b0, h, h1, h2, h3, h4⟩
theorem impl_before (lo hi P : Nat) (f : Int) (ns : List (Nat × Bt)) (d : Int) (w : World) (h : LS w lo hi P f ns) :
    Calls Try.prog 53 #[ptV P, .int .i64 d] w (BefP ns d w) := by
  obtain ⟨z0, z1, _, _⟩ := h.cell
  obtain ⟨q0, b0, h0⟩ := h.head
  rw [nxV_at h0] at z1
  have Hend := Lib.hid (fun k (hk : k ≤ (bsL ns).length) => lo_at (l := bsL ns) (d := d) hk)
  have Hl := Lib.hid (bsL_len ns)
  have Hne := Lib.hid h.ne
  have H := Lib.hid h; clear h
  unfold ptV
  unfold ptV at z1
  go_enter Try.func53, Try.ntmps53
  go_wp2
  go_loopw [5] (fun at_ wr => ∃ (k q : Nat) (b : Bt), at_ = .pointer (some ⟨q, 0, none⟩) ∧ ns[k]? = some (q, b) ∧ Hid (∀ j (hj : j < (bsL ns).length), j < k → (bsL ns)[j].d < d) ∧ Drawn w wr) (fun at_ _ => ns.length - ixA ns at_)
  case atStart => exact ⟨0, q0, b0, rfl, h0, Lib.hid (fun j _ h => by omega), Drawn.refl _⟩
  case round =>
    obtain ⟨k, q, b, rfl, hk, Hup, hwr⟩ := hrel
    have Hw := Lib.hid (H.out.under (hwr.below _))
    have Hwr := Lib.hid hwr; clear hwr z0 z1
    have Hix := Lib.hid (H.out.ix hk)
    obtain ⟨c0, c1, c2, c3, c4, _⟩ := Hw.out.node hk
    have Hk := Lib.hid hk; clear hk
    cases hn : ns[k + 1]? with
    | none =>
      rw [nxV_end hn] at c4
      have Hn := Lib.hid hn; clear hn
      go_wp2
      go_ret
      have hl2 : ns.length ≤ k + 1 := List.getElem?_eq_none_iff.1 Hn.out
      have hl3 := (List.getElem?_eq_some_iff.1 Hk.out).1
      have := Hl.out
      obtain ⟨e1, e2⟩ := Hend.out k (by omega) Hup.out (fun h => by omega)
      exact BefP.mk k q b rfl Hk.out e1 e2 Hwr.out
    | some x =>
      obtain ⟨q2, b2⟩ := x
      rw [nxV_at hn] at c4
      unfold ptV at c4
      obtain ⟨d0, _⟩ := Hw.out.node hn
      have Hn := Lib.hid hn; clear hn
      have hl2 := (List.getElem?_eq_some_iff.1 Hn.out).1
      have hb2 : ∀ h : k < (bsL ns).length, (bsL ns)[k] = b2 := fun h => by
        have e := bsL_at ns k
        rw [Hn.out, List.getElem?_eq_getElem h] at e
        exact Option.some.inj e
      have Hb2 := Lib.hid hb2; clear hb2
      by_cases hlt : b2.d < d
      · have Hup2 := Lib.hid (show ∀ j (hj : j < (bsL ns).length), j < k + 1 → (bsL ns)[j].d < d from fun j hj h2 => by
          by_cases e : j = k
          · subst e; rw [Hb2.out hj]; exact hlt
          · exact Hup.out j hj (by omega))
        have Hix2 := Lib.hid (H.out.ix Hn.out)
        go_wp2
        go_roundw
        case rel => exact ⟨k + 1, q2, b2, rfl, Hn.out, Hup2, Hwr.out⟩
        case measure => rw [Hix.out, Hix2.out]; omega
      · have Hlt := Lib.hid hlt
        go_wp2
        go_ret
        have := Hl.out
        obtain ⟨e1, e2⟩ := Hend.out k (by omega) Hup.out (fun h => by rw [Hb2.out h]; exact Hlt.out)
        exact BefP.mk k q b rfl Hk.out e1 e2 Hwr.out

end Go.Proofs.Ythojbcecbeapgab

/- How impl finds a batch by its digest, by a walk of its text; condition: the list lies as it should and is sorted. -/
namespace Go.Proofs.Ythojbcecbeapgab
open Go.RowKit

/-- What 'find' answers. -/
def FndP (ns : List (Nat × Bt)) (o : Option Bt) (w : World) (e : Ending) (w' : World) : Prop := (match o with | none => e = .returned (.pointer none) | some b => ∃ (k q : Nat), e = .returned (ptV q) ∧ ns[k]? = some (q, b)) ∧ Drawn w w'
theorem FndP.no {ns : List (Nat × Bt)} {w w' : World} {e : Ending} (h : e = .returned (.pointer none)) (hd : Drawn w w') : FndP ns none w e w' := ⟨h, hd⟩
theorem FndP.yes {ns : List (Nat × Bt)} {w w' : World} {e : Ending} {b : Bt} (k q : Nat) (h : e = .returned (ptV q)) (hk : ns[k]? = some (q, b)) (hd : Drawn w w') : FndP ns (some b) w e w' := ⟨⟨k, q, h, hk⟩, hd⟩
set_option maxRecDepth 8000 in
theorem impl_find (lo hi P : Nat) (f : Int) (ns : List (Nat × Bt)) (d : Int) (w : World) (h : LS w lo hi P f ns) (hs : (bsL ns).Pairwise fun x y => x.d < y.d) :
    Calls Try.prog 41 #[ptV P, .int .i64 d] w (FndP ns (geF (bsL ns) d) w) := by
  have HB := Lib.hid (impl_before lo hi P f ns d w h)
  have H := Lib.hid h; clear h
  have HS := Lib.hid hs; clear hs
  obtain ⟨G, hG⟩ : ∃ G, G = geF (bsL ns) d := ⟨_, rfl⟩
  rw [← hG]
  have HG := Lib.hid hG; clear hG
  unfold ptV
  go_enter Try.func41, Try.ntmps41
  go_wp2_with fail
  refine HB.out.mono ?_
  rintro e w1 ⟨k, q, b0, rfl, hk, h1, h2, hd⟩
  have Hd := Lib.hid hd
  have Hw := Lib.hid (H.out.under (hd.below _))
  have c4 := (Hw.out.node hk).2.2.2.2.1
  have hsp := ge_split HS.out h1 h2
  rw [← HG.out, bsL_at] at hsp
  clear hd h1 h2 hk
  unfold ptV
  cases hn : ns[k + 1]? with
  | none =>
    rw [nxV_end hn] at c4
    rw [hn] at hsp
    have hs2 : G = none := hsp
    clear hsp
    subst hs2
    clear hn
    go_wp2
    go_ret
    exact FndP.no rfl Hd.out
  | some x =>
    obtain ⟨q2, b2⟩ := x
    rw [nxV_at hn] at c4
    unfold ptV at c4
    rw [hn] at hsp
    have hs2 : G = if b2.d = d then some b2 else none := hsp
    clear hsp
    have d0 := (Hw.out.node hn).1
    have Hn := Lib.hid hn; clear hn
    by_cases he : b2.d = d
    · rw [if_pos he] at hs2
      subst hs2
      have he' : (b2.d == d) = true := by rw [beq_iff_eq]; exact he
      have he2 : (b2.d != d) = false := by rw [bne, he']; rfl
      clear he
      go_wp2
      go_ret
      exact FndP.yes (k + 1) q2 rfl Hn.out Hd.out
    · rw [if_neg he] at hs2
      subst hs2
      have he' : (b2.d == d) = false := by rw [beq_eq_false_iff_ne]; exact he
      have he2 : (b2.d != d) = true := by rw [bne, he']; rfl
      clear he
      go_wp2
      go_ret
      exact FndP.no rfl Hd.out

end Go.Proofs.Ythojbcecbeapgab

/- Appending one number as an operation of a region, and where the new slice lies; nothing here speaks of the program. -/
namespace Go.Proofs.Ythojbcecbeapgab
open Go.RowKit

/-- 'append(s, z)' as an operation of a region, and where the new slice lies. -/
theorem op_push_at {P : Program} {T E : TypeId} (hT : IntT P T E) (w : World) {o : Oper} {a : Act} {K : Act → World → Prop} {Q : Exit → Act → World → Prop} (s x : Operand)
    (ho : o.op = .call { callee := .builtin .append, args := #[s, x], argTypes := #[T, T] }) (B : Nat) (v : Value) (xs : List Int) (z : Int) (hs : a.eval s = v) (hown : Own E w B v xs)
    (hlen : xs.length ≤ 1099511627776) (hx : a.eval x = .slice (some ⟨w.heap.size, 0, none⟩) 1 1) (hB : B ≤ w.heap.size)
    (h : ∀ v' w', Own E w' B v' (xs ++ [z]) → w.grownBy w' v.ownBlock → (v'.ownBlock = v.ownBlock ∨ ∃ g, v'.ownBlock = some g ∧ w.heap.size ≤ g) → K (a.put o.dst v') w') : Oper.wp P o a (w.alloc (.cells #[.int .i64 z] E)) K Q := by
  obtain ⟨i, hi, hz, hsz, hby⟩ := info_parts hT.info
  obtain ⟨v', w', hr, h1, h2, _, h4⟩ := run_append_own_at (P := P) (w.alloc (.cells #[.int .i64 z] E)) B T o.type E i (.int .i64 0) 1 8 hT.sl hi hz hsz hby rfl (by decide) v xs.length _ (World.ownsRow.alloc hown _) ⟨w.heap.size, 0, none⟩ 1 1 [.int .i64 z] rfl (cells_one _ _ _) (by intro u hu; simp at hu; subst hu; rfl) (by unfold maxLen; omega) (by omega) (by simp; omega)
  unfold Oper.wp execOp
  simp only [ho, resolve, invoke, builtin, Sem.run_bind, Sem.run_pure, Result.andThen_ok, List.map_toArray, List.map_cons, List.map_nil, hs, hx, hr]
  refine h v' w' ?_ (grownBy_trans (World.grownBy_alloc _ _ _) h2) ?_
  · unfold Own; simpa using h1
  · rcases h4 with h4 | h4
    · exact .inl h4
    · exact .inr ⟨_, h4, by simp⟩

end Go.Proofs.Ythojbcecbeapgab

/- A loop over a function at the wide fence, opened by one law: whoever walks the iterator gets a round for every call of yield, and owes that the loop's own two blocks lie as they lay; no conditions of our own. -/
namespace Go.Proofs.Ythojbcecbeapgab
open Go.RowKit Go.Shelf

/-- How a round ends: the loop's block is busy still; off its end (yield says yes) or by a return (yield says no). -/
def RoundEnd (L : Nat) (rec : LoopState → Option Code → Obj) (R : Ending → World → Prop) : Exit → Act → World → Prop := fun e _ W =>
  W.heap[L]? = some (rec .busy none) ∧
  ((e = .normal ∧ R (.returned (.bool true)) (W.putObj L (rec .ready none))) ∨ (e = .ret ∧ R (.returned (.bool false)) (W.putObj L (rec .done (some .ret)))))

/-- A round, for whoever calls yield. -/
def Rounds (P : Program) (m : Nat) (a : Act) (ps : Array Tmp) (assign body : Code) (L : Nat) (rec : LoopState → Option Code → Obj) : Prop :=
  ∀ (args : Array Value) (W : World) (R : Ending → World → Prop), args.size = ps.size → W.heap[L]? = some (rec .ready none) →
    assign.wpIn (Fence.wide.inRound L) m P (Exit.then (fun a₁ W₁ => W₁.heap[L]? = some (rec .ready none) ∧ body.wpIn (Fence.wide.inRound L) m P (RoundEnd L rec R) a₁ (W₁.putObj L (rec .busy none))) (fun _ _ _ => False))
      { tmps := (ps.zip args).foldl (fun t (p, v) => t.setIfInBounds p v) a.tmps, defers := [] } W →
    YieldAt Fence.wide m P L args W R

theorem wpIn_over {P : Program} {n : Nat} {g : Operand} {ps : Array Tmp} {assign body : Code} {Q : Exit → Act → World → Prop} {a : Act} {w : World} {gf : Nat} {lb : Array Value}
    (hg : a.eval g = .func (.func gf) #[] lb) (eg : ∀ args w, (callFunc gf args).run P w = .ok (.enter gf args) w)
    (h : ∀ rec : LoopState → Option Code → Obj, (∀ st pe, (rec st pe).isCells = false) → Rounds P (n - 1 - 1) a ps assign body (w.heap.size + 1) rec →
      CallsIn Fence.wide (n - 1) P gf (#[.func (.yield (w.heap.size + 1)) #[] #[]] ++ lb) ((w.alloc (.deferred (some []))).alloc (rec .ready none)) fun e W => (∃ v, e = .returned v) ∧
        ((W.heap[w.heap.size + 1]? = some (rec .ready none) ∧ Q .normal { a with defers := { target := .collected w.heap.size, args := #[] } :: a.defers } (W.putObj (w.heap.size + 1) (rec .exhausted none))) ∨
         (W.heap[w.heap.size + 1]? = some (rec .done (some .ret)) ∧ Code.ret.wpIn Fence.wide n P Q { a with defers := { target := .collected w.heap.size, args := #[] } :: a.defers } (W.putObj (w.heap.size + 1) (rec .exhausted (some .ret)))))) :
    (Code.rangeFunc g ps assign body).wpIn Fence.wide n P Q a w := by
  refine wpIn_rangeFunc fun fn hfn => ?_
  obtain ⟨lp, hlp⟩ : ∃ lp : LoopState → Option Code → Loop, ∀ st pe, lp st pe = { state := st, pending := pe, fn := fn, tmps := a.tmps, params := ps, assign := assign, body := body, defers := w.heap.size } := ⟨fun _ _ => _, fun _ _ => rfl⟩
  have hb1 : ∀ {W : World}, W.heap[w.heap.size + 1]? = some (.loop (lp .ready none)) → (Instr.beginRound (w.heap.size + 1)).run P W = .ok () (W.putObj (w.heap.size + 1) (.loop (lp .busy none))) := fun hl => by
    have := run_beginRound (P := P) hl (by rw [hlp])
    rw [this]; simp only [hlp]
  have hb2 : ∀ {W : World} (j : Option Code), W.heap[w.heap.size + 1]? = some (.loop (lp .busy none)) → (Instr.endRound (w.heap.size + 1) j).run P W = .ok (.bool j.isNone) (W.putObj (w.heap.size + 1) (.loop (lp (if j.isNone then .ready else .done) j))) := fun j hl => by
    have := run_endRound (P := P) j hl
    rw [this]; simp only [hlp]
  have hb3 : ∀ {W : World} {st : LoopState} {j : Option Code}, st ≠ .busy → W.heap[w.heap.size + 1]? = some (.loop (lp st j)) → (Instr.endLoop (w.heap.size + 1)).run P W = .ok j (W.putObj (w.heap.size + 1) (.loop (lp .exhausted j))) := fun hs hl => by
    have := run_endLoop (P := P) hl (by rw [hlp]; exact hs)
    rw [this]; simp only [hlp]
  have hc := h (fun st pe => .loop (lp st pe)) (fun _ _ => rfl) (fun args W R hsz hl hw => by
    refine ⟨fn, _, assign, body, ?_, roundIn_of_wpIn hfn (wpIn_mono hw ?_)⟩
    · have := run_yield (P := P) (args := args) hl (by rw [hlp]; exact hsz)
      rw [this]; simp only [hlp]
    · rintro e a₁ W₁ he
      cases e with
      | normal =>
        obtain ⟨hl₁, hb⟩ := he
        refine ⟨_, hb1 hl₁, wpIn_mono hb ?_⟩
        rintro e a₂ W₂ ⟨hl₂, ⟨rfl, hR⟩ | ⟨rfl, hR⟩⟩
        · exact ⟨_, _, hb2 none hl₂, hR⟩
        · exact ⟨_, _, hb2 (some .ret) hl₂, hR⟩
      | _ => exact he.elim)
  have he : (Instr.enterLoop fn a.tmps ps assign body Fence.wide.round).run P w = .ok (w.heap.size + 1, [{ target := .collected w.heap.size, args := #[] }]) ((w.alloc (.deferred (some []))).alloc (.loop (lp .ready none))) := by
    rw [show Fence.wide.round = none from rfl, run_enterLoop_outer]; simp only [hlp]
  clear hb1 hb2 h
  generalize (w.alloc (.deferred (some []))).alloc (.loop (lp .ready none)) = W1 at hc he
  obtain ⟨ag, hag⟩ : ∃ ag : Array Value, ag = #[.func (.yield (w.heap.size + 1)) #[] #[]] := ⟨_, rfl⟩
  have hres : (resolve a.eval (rangeCall g (w.heap.size + 1)) 0).run P W1 = .ok { target := .fn (.func gf) lb, args := ag } W1 := by
    simp only [resolve, hg, hag]
    simp [go_sem]
  have hinv : (invoke (.fn (.func gf) lb) ag).run P W1 = .ok (.enter gf (ag ++ lb)) W1 := by
    simp [invoke, go_sem, eg]
  rw [← hag] at hc
  have hc2 := hc.mono (R' := rangePost Fence.wide n P (w.heap.size + 1) Q { a with defers := [{ target := .collected w.heap.size, args := #[] }] ++ a.defers }) (by
    rintro e W ⟨⟨v, rfl⟩, ⟨hl, hq⟩ | ⟨hl, hq⟩⟩
    · exact ⟨none, _, hb3 (by simp) hl, hq⟩
    · exact ⟨some .ret, _, hb3 (by simp) hl, hq⟩)
  exact ⟨_, _, _, _, _, _, _, _, he, hres, fun _ _ => trivial, hinv, fun h => by simp [Fence.wide] at h, hc2⟩

/-! a region that draws its order, in a round -/
theorem op_round {P : Program} {L n : Nat} {o : Oper} {a : Act} {w : World} {K : Act → World → Prop} {Q : Exit → Act → World → Prop} (hd : ∀ c, o.op ≠ .defer c) (h : o.wp P a w K Q) : o.wpIn (Fence.wide.inRound L) n P a w K Q := by
  refine ⟨fun _ _ => trivial, ?_⟩
  unfold Oper.wp at h
  rw [Fence.inRound_round, Oper.semAt_some L _ o hd]
  generalize (execOp a.eval o).run P w = r at *
  have hn : (Fence.wide.inRound L).depth.isSome = true → 1 ≤ n := fun h => by simp [Fence.wide] at h
  cases r with
  | ok x w' =>
    cases x <;> simp only [Oper.upon, Oper.uponIn] at h ⊢ <;>
      first
        | exact h
        | exact ⟨hn, CallsIn.inRound L (callsIn_wide.2 h)⟩
        | exact ⟨hn, fun c cs _ => let ⟨v, w', r, s⟩ := h c cs; ⟨v, w', r, stepsIn_wide.2 s⟩⟩
        | exact h.elim
  | halt x w' => cases x <;> simp only [Oper.upon, Oper.uponIn] at h ⊢ <;> exact h
/-- No operation of the region is a deferring. -/
def noDefer (ops : Array Oper) : Bool := ops.toList.all fun o => match o.op with | .defer _ => false | _ => true
theorem noDefer_at {ops : Array Oper} (h : noDefer ops = true) {i : Nat} {o : Oper} (hi : ops[i]? = some o) : ∀ c, o.op ≠ .defer c := by
  intro c e
  unfold noDefer at h
  rw [List.all_eq_true] at h
  have := h o (by rw [← Array.mem_def]; exact Array.mem_of_getElem? hi)
  rw [e] at this
  cases this
theorem any_round {P : Program} {L n : Nat} {md : Region.Mode} {ops : Array Oper} {Q : Exit → Act → World → Prop} (hd : noDefer ops = true) (hQ : ¬ LetsOut Q) :
    ∀ (fuel : Nat) (listed : Array Bool) (a : Act) (w : World), wpAny P md ops Q fuel listed a w → wpAnyIn (Fence.wide.inRound L) n P md ops Q fuel listed a w
  | 0, _, _, _, h => h
  | fuel + 1, listed, a, w, h => ⟨h.1, fun i hi => by
      have := h.2 i hi
      unfold wpOp at this
      unfold wpOpIn
      split
      · rename_i e
        simp only [e] at this
        exact any_round hd hQ fuel _ _ _ this
      · rename_i o e
        simp only [e] at this
        split
        · rename_i hw
          simp only [hw, if_true] at this
          rcases this with this | this
          · exact Oper.wpIn_mono (fun a w h => any_round hd hQ fuel _ a w h) (op_round (noDefer_at hd e) this)
          · exact absurd this.2 hQ
        · rename_i hw
          simp only [hw] at this
          exact ⟨fun _ _ => trivial, any_round hd hQ fuel _ _ _ this⟩⟩
/-- The region's end alone is let through. -/
def JustNormal (Q : Exit → Act → World → Prop) : Exit → Act → World → Prop
  | .normal, a, w => Q .normal a w
  | _, _, _ => False
theorem JustNormal.intro {Q : Exit → Act → World → Prop} {a : Act} {w : World} (h : Q .normal a w) : JustNormal Q .normal a w := h
theorem region_round {P : Program} {L n : Nat} {id : Nat} {ops : Array Oper} {Q : Exit → Act → World → Prop} {a : Act} {w : World} (S : World → Prop) (hm : P.follows .mixedOrders = true) (hd : noDefer ops = true) (hS : S w.drew)
    (h : S w.drew → wpAnyH P .any ops (JustNormal Q) S ops.size (Array.replicate ops.size false) a w.drew) : (Code.region id ops true).wpIn (Fence.wide.inRound L) n P Q a w :=
  Code.wpIn_mono (Q := JustNormal Q) (fun e a w q => by cases e <;> first | exact q | exact (q : False).elim)
    (wpIn_region_any hm (any_round hd (by rintro ⟨a, w, h⟩; exact h) _ _ _ _ (wpAny_of_held _ _ _ _ (h hS))))

end Go.Proofs.Ythojbcecbeapgab
