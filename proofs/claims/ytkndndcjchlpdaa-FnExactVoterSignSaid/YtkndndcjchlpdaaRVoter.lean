/- The exact laws' functions on voters: sameness, copies, sizes, marks, each by a walk of its text; conditions: the lists are no longer than the laws' bound. -/
import Derived.Test.YtkndndcjchlpdaaRows
import Derived.Test.YtkndndcjchlpdaaRVote
import Derived.Test.YtkndndcjchlpdaaEx
import Derived.Deep.QuietTactic
import Derived.BigQuiet
namespace Go.Proofs.Ytkndndcjchlpdaa
open Go.RowKit

theorem ownR_set {E Ei : TypeId} {sz : Nat} {w : World} {B hi : Nat} {v : Value} {es : List (List Fd)} (h : OwnR E Ei sz w B hi v es) {g' : Nat} (hs : hi ≤ w.heap.size) (hg : g' < B) (j : Nat) (u : Value) : OwnR E Ei sz (w.setCell ⟨g', j, none⟩ u) B hi v es :=
  h.same fun g h1 h2 => (grownBy_set w g' j u).block g (by omega) (by simp; omega)

set_option maxRecDepth 8000 in
/-- A Voter that came in by value. -/
theorem open_Voter {H : Type} {enc : TypeId × Value → H} {W : World} {base : Nat} {v : Value} {d : DataW H} {p : List MemPlace} (hv : Value.okWide Try.prog W .any base 41 v) (h : DataW.Trod enc Try.prog W 0 (fun _ => true) true 41 v d p) :
    ∃ x0 v1 es1 fp1, v = .agg #[.int .i64 x0, v1] ∧ (-9223372036854775808 ≤ x0 ∧ x0 ≤ 9223372036854775807) ∧ Rd W (rowsD es1) v1 fp1 ∧ es1.length ≤ maxLen ∧ ∀ e ∈ es1, voteP e ∧ fitE e := by
  obtain ⟨cs, rfl, hl, hf⟩ := open_struct (Gs := [IntG, RowsG [IntG, IntG, IntG]]) Try.underlying41 (by kernel_rfl) rfl (fun j h h' => by
    match j, h, h' with
    | 0, _, _ => exact ⟨rfl, opens_int Try.underlying3 (by kernel_rfl)⟩
    | 1, _, _ => exact ⟨rfl, opens_slice_struct (Gs := [IntG, IntG, IntG]) Try.underlying39 (by kernel_rfl) Try.underlying42 (by kernel_rfl) (Nat.zero_lt_succ _) rfl (fun j h h' => by
      match j, h, h' with
      | 0, _, _ => exact ⟨rfl, opens_int Try.underlying3 (by kernel_rfl)⟩
      | 1, _, _ => exact ⟨rfl, opens_int Try.underlying3 (by kernel_rfl)⟩
      | 2, _, _ => exact ⟨rfl, opens_int Try.underlying3 (by kernel_rfl)⟩)⟩) hv h
  match cs, hl with
  | [u0, u1], _ =>
    obtain ⟨d0, f0, r0, x0, rfl, b0⟩ := hf 0 (by simp) (by simp)
    obtain ⟨rfl, _⟩ := Rd.int (show Rd W (.i x0) u0 f0 from r0)
    obtain ⟨d1, f1, r1, g1⟩ := hf 1 (by simp) (by simp)
    obtain ⟨es, rfl, hl, hp⟩ := rows_of g1 (P := fun e => voteP e ∧ fitE e) (fun e he hf => by
      match e, he with
      | [d0, d1, d2], _ =>
        obtain ⟨x0, rfl, b0⟩ := hf 0 (by simp) (by simp)
        obtain ⟨x1, rfl, b1⟩ := hf 1 (by simp) (by simp)
        obtain ⟨x2, rfl, b2⟩ := hf 2 (by simp) (by simp)
        exact ⟨[.i x0, .i x1, .i x2], rfl, ⟨x0, x1, x2, rfl⟩, fun _ hx => by
          simp at hx
          rcases hx with rfl | rfl | rfl
          · exact b0
          · exact b1
          · exact b2, fun _ hx => by simp at hx⟩)
    exact ⟨x0, u1, es, f1, rfl, b0, r1, hl, hp⟩

theorem laws_eqVoterR (x0 : Int) (es : List (List Fd)) (v v' : Value) (fp fp' : List Nat) (w : World) (hbig : es.length ≤ 1099511627776) (hp : ∀ e ∈ es, voteP e) (hl : ∀ e ∈ es, lnE e ≤ 1099511627776) (hr : Rd w (rowsD es) v fp) (hr' : Rd w (rowsD es) v' fp') :
    Calls Try.prog 22 #[.agg #[.int .i64 x0, v], .agg #[.int .i64 x0, v']] w fun e w' => e = .returned (.bool true) ∧ Below w.heap.size w w' := by
  obtain ⟨a, cap, rfl⟩ := Rd.slice hr
  obtain ⟨a', cap', rfl⟩ := Rd.slice hr'
  rw [List.length_map] at *
  generalize hv : Value.slice a es.length cap = v at *
  generalize hv' : Value.slice a' es.length cap' = v' at *
  have hb : Below w.heap.size w ((w.alloc (.cells #[.int .i64 x0, v] 25)).alloc (.cells #[.int .i64 x0, v'] 25)) := ((Below.refl _ w).alloc (Nat.le_refl _) _).alloc (by simp) _
  have s0 := (Str.new w 25 #[.int .i64 x0, v]).alloc (.cells #[.int .i64 x0, v'] 25)
  have s1 := Str.new (w.alloc (.cells #[.int .i64 x0, v] 25)) 25 #[.int .i64 x0, v']
  simp only [World.size_alloc] at s1
  have k0 := s0.cell 0 (v := .int .i64 x0) rfl
  have k1 := s0.cell 1 (v := v) rfl
  have j0 := s1.cell 0 (v := .int .i64 x0) rfl
  have j1 := s1.cell 1 (v := v') rfl
  have H := Lib.hid (laws_eqVoteSR es v v' fp fp' ((w.alloc (.cells #[.int .i64 x0, v] 25)).alloc (.cells #[.int .i64 x0, v'] 25)) hbig hp hl (hr.under hb) (hr'.under hb))
  have Hb := Lib.hid hb; clear hb s0 s1 hr hr' hp hl
  have hc : v.oneCell' = true := by rw [← hv]; rfl
  have hc' : v'.oneCell' = true := by rw [← hv']; rfl
  subst hv hv'
  go_enter Try.func22, Try.ntmps22
  go_wp2_with fail
  refine H.out.mono ?_
  rintro e w1 ⟨rfl, hb1⟩
  have Hb1 := Lib.hid (below_step Hb.out Hb.out.size hb1)
  go_wp2
  go_ret
  exact ⟨rfl, Hb1.out⟩

theorem laws_szVoterR (x0 : Int) (es : List (List Fd)) (v : Value) (fp : List Nat) (left : Nat) (w : World) (hl : left ≤ 1048576) (hbig : es.length ≤ 9223372036854775807) (hp : ∀ e ∈ es, voteP e) (hr : Rd w (rowsD es) v fp) :
    Calls Try.prog 19 #[.agg #[.int .i64 x0, v], .int .i64 (left : Int)] w fun e w' => e = .returned (.int .i64 (if es.length + lnTo es es.length ≤ left then ((left - es.length - lnTo es es.length : Nat) : Int) else -1)) ∧ Below w.heap.size w w' := by
  obtain ⟨a, cap, rfl⟩ := Rd.slice hr
  rw [List.length_map] at *
  generalize hv : Value.slice a es.length cap = v at *
  have hb : Below w.heap.size w (w.alloc (.cells #[.int .i64 x0, v] 41)) := (Below.refl _ w).alloc (Nat.le_refl _) _
  have s0 := Str.new w 41 #[.int .i64 x0, v]
  have k0 := s0.cell 0 (v := .int .i64 x0) rfl
  have k1 := s0.cell 1 (v := v) rfl
  have H := Lib.hid (laws_szVoteSR es v fp left _ hl hbig hp (hr.under hb))
  have Hb := Lib.hid hb; clear hb s0 hr hp
  subst hv
  by_cases h : es.length + lnTo es es.length ≤ left
  · rw [if_pos h] at H ⊢
    generalize left - es.length - lnTo es es.length = q at *
    have g9 : decide ((q : Int) < 0) = false := decide_eq_false (by omega)
    go_enter Try.func19, Try.ntmps19
    go_wp2_with fail
    refine H.out.mono ?_
    rintro e w1 ⟨rfl, hb1⟩
    have Hb1 := Lib.hid (below_step Hb.out Hb.out.size hb1)
    go_wp2
    go_ret
    exact ⟨rfl, Hb1.out⟩
  · rw [if_neg h] at H ⊢
    go_enter Try.func19, Try.ntmps19
    go_wp2_with fail
    refine H.out.mono ?_
    rintro e w1 ⟨rfl, hb1⟩
    have Hb1 := Lib.hid (below_step Hb.out Hb.out.size hb1)
    go_wp2
    go_ret
    exact ⟨rfl, Hb1.out⟩

set_option maxHeartbeats 1000000 in
theorem laws_toVoterR (x0 : Int) (es : List (List Fd)) (v : Value) (fp : List Nat) (w : World) (hbig : es.length ≤ 1048576) (hp : ∀ e ∈ es, voteP e) (hl : ∀ e ∈ es, lnE e ≤ 1048576) (hr : Rd w (rowsD es) v fp) :
    Calls Try.prog 20 #[.agg #[.int .i64 x0, v]] w fun e w' => ∃ u, e = .returned (.agg #[.int .i64 x0, u]) ∧ OwnR 27 3 3 w' w.heap.size w'.heap.size u es ∧ Below w.heap.size w w' := by
  obtain ⟨a, cap, rfl⟩ := Rd.slice hr
  rw [List.length_map] at *
  generalize hv : Value.slice a es.length cap = v at *
  have hbW : Below w.heap.size w (((w.alloc (.cells #[.int .i64 x0, v] 41)).alloc (.cells #[.int .i64 0, .slice none 0 0] 25)).alloc (.cells #[.int .i64 x0, .slice none 0 0] 25)) := (((Below.refl _ w).alloc (Nat.le_refl _) _).alloc (by simp) _).alloc (by simp; omega) _
  have s0 := ((Str.new w 41 #[.int .i64 x0, v]).alloc (.cells #[.int .i64 0, .slice none 0 0] 25)).alloc (.cells #[.int .i64 x0, .slice none 0 0] 25)
  have s1 := (Str.new (w.alloc (.cells #[.int .i64 x0, v] 41)) 25 #[.int .i64 0, .slice none 0 0]).alloc (.cells #[.int .i64 x0, .slice none 0 0] 25)
  have s2 := Str.new ((w.alloc (.cells #[.int .i64 x0, v] 41)).alloc (.cells #[.int .i64 0, .slice none 0 0] 25)) 25 #[.int .i64 x0, .slice none 0 0]
  have hzW : (((w.alloc (.cells #[.int .i64 x0, v] 41)).alloc (.cells #[.int .i64 0, .slice none 0 0] 25)).alloc (.cells #[.int .i64 x0, .slice none 0 0] 25)).heap.size = w.heap.size + 3 := by simp
  simp only [World.size_alloc] at s1 s2
  have k0 := s0.cell 0 (v := .int .i64 x0) rfl
  have k1 := s0.cell 1 (v := v) rfl
  have H := Lib.hid (laws_toVoteSR es v fp (((w.alloc (.cells #[.int .i64 x0, v] 41)).alloc (.cells #[.int .i64 0, .slice none 0 0] 25)).alloc (.cells #[.int .i64 x0, .slice none 0 0] 25)) hbig hp hl (hr.under hbW))
  have Hb := Lib.hid hbW
  have S1 := Lib.hid s1
  have S2 := Lib.hid s2
  clear s0 s1 s2 hbW hr hp hl
  subst hv
  go_enter Try.func20, Try.ntmps20
  go_wp2_with fail
  generalize (((w.alloc (.cells #[.int .i64 x0, .slice a es.length cap] 41)).alloc (.cells #[.int .i64 0, .slice none 0 0] 25)).alloc (.cells #[.int .i64 x0, .slice none 0 0] 25)) = W0 at *
  refine H.out.mono ?_
  rintro e w6 ⟨u, rfl, hown, hb6⟩
  have hs6 := hb6.size
  have t1 : Str w6 (w.heap.size + 1) 25 #[.int .i64 0, .slice none 0 0] := (hb6.block _ (by omega)).trans S1.out
  have t2 : Str w6 (w.heap.size + 1 + 1) 25 #[.int .i64 x0, .slice none 0 0] := (hb6.block _ (by omega)).trans S2.out
  have HbF := Lib.hid (below_step Hb.out Hb.out.size hb6)
  obtain ⟨a6, c6, rfl, hml6⟩ := hown.slice
  have Hown := Lib.hid hown
  clear hown hb6 S1 S2 k0 k1 H
  have k0 := t1.cell 0 (v := .int .i64 0) rfl
  have k1 := t1.cell 1 (v := .slice none 0 0) rfl
  have f0 := t1.frozen 0
  have f1 := t1.frozen 1
  have j0 := t2.cell 0 (v := .int .i64 x0) rfl
  have j1 := t2.cell 1 (v := .slice none 0 0) rfl
  have g1 := t2.frozen 1
  have hne : w.heap.size + 1 ≠ w.heap.size + 1 + 1 := by omega
  have u := ((t1.other hne 1 (.slice a6 es.length c6)).set 0 (.int .i64 x0)).set 1 (.slice a6 es.length c6)
  have e0 := u.cell 0 (v := .int .i64 x0) rfl
  have e1 := u.cell 1 (v := .slice a6 es.length c6) rfl
  clear u t1 t2
  go_wp2
  refine bodyPost_ret (v := .agg #[.int .i64 x0, .slice a6 es.length c6]) (by simp [results, Try.f20, go_sem, e0, e1]) rfl ?_
  exact ⟨_, rfl, OwnR.from (OwnR.mono (ownR_set (ownR_set (ownR_set Hown.out (Nat.le_refl _) (by omega) 1 _) (by simp) (by omega) 0 _) (by simp) (by omega) 1 _) (by simp)) (by omega), ((HbF.out.setCell (p := ⟨w.heap.size + 1 + 1, 1, none⟩) (by simp only; omega) _).setCell (p := ⟨w.heap.size + 1, 0, none⟩) (by simp only; omega) _).setCell (p := ⟨w.heap.size + 1, 1, none⟩) (by simp only; omega) _⟩

theorem laws_markVoterR (x0 : Int) (es : List (List Fd)) (v : Value) (k B hi : Nat) (w : World) (hk : kTo es k es.length ≤ 1099511627776) (hp : ∀ e ∈ es, voteP e) (hs : hi ≤ w.heap.size) (hown : OwnR 27 3 3 w B hi v es) :
    Calls Try.prog 23 #[.agg #[.int .i64 x0, v], .int .i64 k] w fun e w' => e = .returned (.int .i64 ((kTo es k es.length : Nat) : Int)) ∧ OwnR 27 3 3 w' B hi v (mkTo es k es.length) ∧ Btw B hi w w' := by
  have H := Lib.hid (laws_markVoteSR es v k B hi _ hk hp (hown.below ((Below.refl _ w).alloc (Nat.le_refl _) (.cells #[.int .i64 x0, v] 25)) hs))
  obtain ⟨a, cap, rfl, hml⟩ := hown.slice
  have Ha := Lib.hid (Btw.alloc (lo := B) (hi := hi) w (.cells #[.int .i64 x0, .slice a es.length cap] 25))
  clear hown
  go_enter Try.func23, Try.ntmps23
  go_wp2_with fail
  refine H.out.mono ?_
  rintro e w1 ⟨rfl, ho, hg⟩
  have Hg := Lib.hid (Ha.out.trans hg)
  have Ho := Lib.hid ho
  clear ho hg
  go_wp2
  go_ret
  exact ⟨rfl, Ho.out, Hg.out⟩

theorem laws_heldVoterR (x0 : Int) (es : List (List Fd)) (v : Value) (k B hi : Nat) (w : World) (hk : kTo es k es.length ≤ 1099511627776) (hp : ∀ e ∈ es, voteP e) (hs : hi ≤ w.heap.size) (hown : OwnR 27 3 3 w B hi v (mkTo es k es.length)) :
    Calls Try.prog 24 #[.agg #[.int .i64 x0, v], .int .i64 k] w fun e w' => e = .returned (.int .i64 ((kTo es k es.length : Nat) : Int)) ∧ Below w.heap.size w w' := by
  have hb : Below w.heap.size w (w.alloc (.cells #[.int .i64 x0, v] 25)) := (Below.refl _ w).alloc (Nat.le_refl _) _
  have H := Lib.hid (laws_heldVoteSR es v k B hi _ hk hp (hown.below hb hs))
  obtain ⟨a, cap, rfl, hml⟩ := hown.slice
  rw [mkTo_len] at *
  have Hb := Lib.hid hb; clear hb hown
  generalize kTo es k es.length = m at *
  have hneg : decide ((m : Int) < 0) = false := decide_eq_false (by omega)
  go_enter Try.func24, Try.ntmps24
  go_wp2_with fail
  refine H.out.mono ?_
  rintro e w1 ⟨rfl, hd⟩
  have Hb1 := Lib.hid (Hb.out.trans (hd.below _))
  go_wp2
  go_ret
  exact ⟨rfl, Hb1.out⟩

end Go.Proofs.Ytkndndcjchlpdaa
