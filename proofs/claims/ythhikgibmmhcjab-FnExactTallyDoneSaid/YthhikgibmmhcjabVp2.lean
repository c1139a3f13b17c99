/- The members that two tallies have in common, and a tally's quorum, as impl answers them, by walks of its text; conditions: lists are shorter than 2^40. -/
import Derived.Test.YthhikgibmmhcjabRows
import Derived.Test.YthhikgibmmhcjabVp1
import Derived.Test.YthhikgibmmhcjabVt4
import Derived.Test.YthhikgibmmhcjabM1
import Derived.Deep.QuietTactic
import Derived.BigQuiet
namespace Go.Proofs.Ythhikgibmmhcjab
open Go.RowKit

theorem asc_ext : ∀ (a b : List Int), a.Pairwise (· < ·) → b.Pairwise (· < ·) → (∀ x, x ∈ a ↔ x ∈ b) → a = b
  | [], [], _, _, _ => rfl
  | [], y :: ys, _, _, h => absurd ((h y).2 List.mem_cons_self) (by simp)
  | x :: xs, [], _, _, h => absurd ((h x).1 List.mem_cons_self) (by simp)
  | x :: xs, y :: ys, ha, hb, h => by
    obtain ⟨ha1, ha2⟩ := List.pairwise_cons.1 ha
    obtain ⟨hb1, hb2⟩ := List.pairwise_cons.1 hb
    have hxy : x = y := by
      rcases List.mem_cons.1 ((h x).1 List.mem_cons_self) with e | hx
      · exact e
      · rcases List.mem_cons.1 ((h y).2 List.mem_cons_self) with e | hy
        · exact e.symm
        · exact absurd (Int.lt_trans (ha1 y hy) (hb1 x hx)) (Int.lt_irrefl _)
    subst hxy
    have ht : xs = ys := asc_ext xs ys ha2 hb2 fun z => by
      refine ⟨fun hz => ?_, fun hz => ?_⟩
      · rcases List.mem_cons.1 ((h z).1 (List.mem_cons_of_mem _ hz)) with e | hz'
        · subst e; exact absurd (ha1 _ hz) (Int.lt_irrefl _)
        · exact hz'
      · rcases List.mem_cons.1 ((h z).2 (List.mem_cons_of_mem _ hz)) with e | hz'
        · subst e; exact absurd (hb1 _ hz) (Int.lt_irrefl _)
        · exact hz'
    rw [ht]
theorem common_comm {n : Nat} {a b : List Int} (ha : AscP n a) (hb : AscP n b) : commonZ a b = commonZ b a := by
  refine asc_ext _ _ (ascP_common ha).1 (ascP_common hb).1 fun x => ?_
  simp only [commonZ_eq, List.mem_filter, hasB, decide_eq_true_eq]
  exact and_comm
def filtTo (p : Int → Bool) (l : List Int) (k : Nat) : List Int := (l.take k).filter p
theorem filtTo_yes {p : Int → Bool} {a : List Int} {k : Nat} (hk : k < a.length) (h : p a[k] = true) : filtTo p a (k + 1) = filtTo p a k ++ [a[k]] := by
  unfold filtTo; rw [List.take_succ_eq_append_getElem hk, List.filter_append]; simp [h]
theorem filtTo_no {p : Int → Bool} {a : List Int} {k : Nat} (hk : k < a.length) (h : p a[k] = false) : filtTo p a (k + 1) = filtTo p a k := by
  unfold filtTo; rw [List.take_succ_eq_append_getElem hk, List.filter_append]; simp [h]
theorem filtTo_len (p : Int → Bool) (a : List Int) (k : Nat) : (filtTo p a k).length ≤ k := Nat.le_trans (List.length_filter_le _ _) (List.length_take_le _ _)
/-- The two votes contradict each other. -/
def confB (v u : Vt) : Bool := decide (v.r = u.r) && (decide (v.a = u.a) && decide (v.d ≠ u.d))
theorem guilty_no {c : List Int} {v u : Vt} {xs ys : List Int} (h : (tallyB c v xs && tallyB c u ys) = false) : guiltyZ c v u xs ys = [] := by
  unfold guiltyZ twoB
  rw [if_neg]
  intro h2
  simp only [Bool.and_eq_true] at h2
  rw [h2.1, h2.2.1] at h
  cases h
theorem guilty_yes {c : List Int} {v u : Vt} {xs ys : List Int} (h : tallyB c v xs = true) (h' : tallyB c u ys = true) : filtTo (fun m => confB v u && hasB xs m) ys ys.length = guiltyZ c v u xs ys := by
  have hx : AscP c.length xs := ascP_of (by unfold tallyB at h; simp only [Bool.and_eq_true] at h; exact h.2.2)
  have hy : AscP c.length ys := ascP_of (by unfold tallyB at h'; simp only [Bool.and_eq_true] at h'; exact h'.2.2)
  unfold guiltyZ twoB
  rw [h, h', Bool.true_and, Bool.true_and, show (decide (v.r = u.r) && (decide (v.a = u.a) && decide (v.d ≠ u.d))) = confB v u from rfl]
  cases hc : confB v u with
  | false => simp [filtTo]
  | true => simp only [Bool.true_and, if_true]; rw [common_comm hx hy, commonZ_eq]; unfold filtTo; rw [List.take_length]

set_option maxHeartbeats 2000000 in
theorem impl_TallyGuilty (ac : Option Addr) (capc : Nat) (c : List Int) (ra aa da rb ab db : Int) (pa pb : Option Addr) (ca cb : Nat) (xs ys : List Int) (w : World) (hn : c.length ≤ 1099511627776) (hbx : xs.length ≤ 1048576) (hby : ys.length ≤ 1099511627776) (hc : IntsAt w ac c) (hx : IntsAt w pa xs) (hy : IntsAt w pb ys) :
    Calls Try.prog 9 #[.slice ac c.length capc, .agg #[.int .i64 ra, .int .i64 aa, .int .i64 da, .slice pa xs.length ca], .agg #[.int .i64 rb, .int .i64 ab, .int .i64 db, .slice pb ys.length cb]] w fun e w' => ∃ v, e = .returned v ∧ Own 3 w' w.heap.size v (guiltyZ c ⟨ra, aa, da⟩ ⟨rb, ab, db⟩ xs ys) ∧ Below w.heap.size w w' := by
  have hb0 : Below w.heap.size w (((w.alloc (.cells #[.int .i64 ra, .int .i64 aa, .int .i64 da, .slice pa xs.length ca] 27)).alloc (.cells #[.int .i64 rb, .int .i64 ab, .int .i64 db, .slice pb ys.length cb] 27)).alloc (.cells #[] 3)) := (((Below.refl _ _).alloc (Nat.le_refl _) _).alloc (by simp) _).alloc (by simp; omega) _
  have s0 := ((Str.new w 27 #[.int .i64 ra, .int .i64 aa, .int .i64 da, .slice pa xs.length ca]).alloc (.cells #[.int .i64 rb, .int .i64 ab, .int .i64 db, .slice pb ys.length cb] 27)).alloc (.cells #[] 3)
  have s1 := (Str.new (w.alloc (.cells #[.int .i64 ra, .int .i64 aa, .int .i64 da, .slice pa xs.length ca] 27)) 27 #[.int .i64 rb, .int .i64 ab, .int .i64 db, .slice pb ys.length cb]).alloc (.cells #[] 3)
  have hsz0 : (((w.alloc (.cells #[.int .i64 ra, .int .i64 aa, .int .i64 da, .slice pa xs.length ca] 27)).alloc (.cells #[.int .i64 rb, .int .i64 ab, .int .i64 db, .slice pb ys.length cb] 27)).alloc (.cells #[] 3)).heap.size = w.heap.size + 3 := by simp
  have hemp : ∀ W, Below (((w.alloc (.cells #[.int .i64 ra, .int .i64 aa, .int .i64 da, .slice pa xs.length ca] 27)).alloc (.cells #[.int .i64 rb, .int .i64 ab, .int .i64 db, .slice pb ys.length cb] 27)).alloc (.cells #[] 3)).heap.size (((w.alloc (.cells #[.int .i64 ra, .int .i64 aa, .int .i64 da, .slice pa xs.length ca] 27)).alloc (.cells #[.int .i64 rb, .int .i64 ab, .int .i64 db, .slice pb ys.length cb] 27)).alloc (.cells #[] 3)) W → Own 3 W (w.heap.size + 2) (.slice (some ⟨w.heap.size + 2, 0, none⟩) 0 0) [] := fun W hW => by
    have h := own_empty 3 (B := w.heap.size + 2) ((w.alloc (.cells #[.int .i64 ra, .int .i64 aa, .int .i64 da, .slice pa xs.length ca] 27)).alloc (.cells #[.int .i64 rb, .int .i64 ab, .int .i64 db, .slice pb ys.length cb] 27)) (by simp)
    simp only [World.size_alloc] at h
    exact h.below hW
  simp only [World.size_alloc] at s1
  have k0 := s0.cell 0 (v := .int .i64 ra) rfl
  have k1 := s0.cell 1 (v := .int .i64 aa) rfl
  have k2 := s0.cell 2 (v := .int .i64 da) rfl
  have k3 := s0.cell 3 (v := .slice pa xs.length ca) rfl
  have Hs0 := Lib.hid s0
  have Hs1 := Lib.hid s1
  have HC := Lib.hid (hc.below hb0)
  have HX := Lib.hid (hx.below hb0)
  have HY := Lib.hid (hy.below hb0)
  have Hem := Lib.hid hemp
  have Hb0 := Lib.hid hb0; clear hb0 s0 s1 hemp
  have HX0 := Lib.hid hx
  have HY0 := Lib.hid hy; clear hc hx hy
  have H1 := Lib.hid (fun W (h : IntsAt W ac c) (h' : IntsAt W pa xs) => tally_fits ac capc c ra aa da pa ca xs W hn (by omega) h h')
  have H2 := Lib.hid (fun W (h : IntsAt W ac c) (h' : IntsAt W pb ys) => tally_fits ac capc c rb ab db pb cb ys W hn hby h h')
  have H3 := Lib.hid (fun W => contradiction pa ca ⟨ra, aa, da⟩ ⟨rb, ab, db⟩ xs W)
  have H4 := Lib.hid (fun B C x W (h : World.cell? W ⟨B, 0, none⟩ = _) (h' : World.cell? W ⟨C, 3, none⟩ = some (.slice pa xs.length ca)) (h'' : IntsAt W pa xs) => contradiction1 B C (confB ⟨ra, aa, da⟩ ⟨rb, ab, db⟩) pa ca xs x W (by omega) h h' h'')
  have Hno := Lib.hid (@guilty_no c ⟨ra, aa, da⟩ ⟨rb, ab, db⟩ xs ys)
  have Hyes := Lib.hid (@guilty_yes c ⟨ra, aa, da⟩ ⟨rb, ab, db⟩ xs ys)
  go_enter Try.func9, Try.ntmps9
  go_wp2_with fail
  generalize ((w.alloc (.cells #[.int .i64 ra, .int .i64 aa, .int .i64 da, .slice pa xs.length ca] 27)).alloc (.cells #[.int .i64 rb, .int .i64 ab, .int .i64 db, .slice pb ys.length cb] 27)).alloc (.cells #[] 3) = W0 at *
  refine (H1.out W0 HC.out HX.out).mono ?_
  rintro e w1 ⟨rfl, hb1⟩
  have Hbw := Lib.hid hb1
  have Hc1 := Lib.hid (HC.out.below hb1)
  have Hy1 := Lib.hid (HY.out.below hb1)
  have s1 : Str w1 (w.heap.size + 1) 27 #[.int .i64 rb, .int .i64 ab, .int .i64 db, .slice pb ys.length cb] := (hb1.block _ Hs1.out.lt).trans Hs1.out
  clear hb1 k0 k1 k2 k3
  cases h1 : tallyB c ⟨ra, aa, da⟩ xs with
  | false =>
    have hz := Hno.out (by rw [h1]; rfl)
    clear s1
    go_wp2
    go_ret
    exact ⟨_, rfl, by rw [hz]; exact (Hem.out _ Hbw.out).mono (by omega), below_step Hb0.out Hb0.out.size Hbw.out⟩
  | true =>
  have j0 := s1.cell 0 (v := .int .i64 rb) rfl
  have j1 := s1.cell 1 (v := .int .i64 ab) rfl
  have j2 := s1.cell 2 (v := .int .i64 db) rfl
  have j3 := s1.cell 3 (v := .slice pb ys.length cb) rfl
  go_wp2_with fail
  refine (H2.out w1 Hc1.out Hy1.out).mono ?_
  rintro e w2 ⟨rfl, hb2⟩
  have Hbw2 := Lib.hid (below_step Hbw.out Hbw.out.size hb2)
  clear s1 hb2 j0 j1 j2 j3 Hbw Hc1 Hy1
  have s0 : Str w2 w.heap.size 27 #[.int .i64 ra, .int .i64 aa, .int .i64 da, .slice pa xs.length ca] := (Hbw2.out.block _ Hs0.out.lt).trans Hs0.out
  have s1 : Str w2 (w.heap.size + 1) 27 #[.int .i64 rb, .int .i64 ab, .int .i64 db, .slice pb ys.length cb] := (Hbw2.out.block _ Hs1.out.lt).trans Hs1.out
  have k0 := s0.cell 0 (v := .int .i64 ra) rfl
  have k1 := s0.cell 1 (v := .int .i64 aa) rfl
  have k2 := s0.cell 2 (v := .int .i64 da) rfl
  have k3 := s0.cell 3 (v := .slice pa xs.length ca) rfl
  have j0 := s1.cell 0 (v := .int .i64 rb) rfl
  have j1 := s1.cell 1 (v := .int .i64 ab) rfl
  have j2 := s1.cell 2 (v := .int .i64 db) rfl
  clear s0 s1
  cases h2 : tallyB c ⟨rb, ab, db⟩ ys with
  | false =>
    have hz := Hno.out (by rw [h1, h2]; rfl)
    go_wp2
    go_ret
    exact ⟨_, rfl, by rw [hz]; exact (Hem.out _ Hbw2.out).mono (by omega), below_step Hb0.out Hb0.out.size Hbw2.out⟩
  | true =>
  have Hz := Lib.hid (Hyes.out h1 h2)
  go_wp2_with fail
  refine (H3.out w2).mono ?_
  rintro e w3 ⟨B, rfl, hB1, hB2, hC2, hB, hC, hb3⟩
  have Hbw3 := Lib.hid (below_step Hbw2.out Hbw2.out.size hb3)
  have Hb23 := Lib.hid hb3
  have s1 : Str w3 (w.heap.size + 1) 27 #[.int .i64 rb, .int .i64 ab, .int .i64 db, .slice pb ys.length cb] := (Hbw3.out.block _ Hs1.out.lt).trans Hs1.out
  have j3 := s1.cell 3 (v := .slice pb ys.length cb) rfl
  have Hem3 := Lib.hid (Hem.out _ Hbw3.out)
  have hs2 := Hbw2.out.size
  have hs3 := Hbw3.out.size
  clear s1 k0 k1 k2 k3 j0 j1 j2 hb3 Hno Hyes H1 H2 H3 Hs0 Hs1 h1 h2
  have HB := Lib.hid (show w3.cell? ⟨B, 0, none⟩ = some (.bool (confB ⟨ra, aa, da⟩ ⟨rb, ab, db⟩)) from hB)
  have HC' := Lib.hid hC
  have HX3 := Lib.hid (HX.out.below Hbw3.out)
  have HY3 := Lib.hid (HY.out.below Hbw3.out)
  have Hb3w := Lib.hid (below_step Hb0.out Hb0.out.size Hbw3.out)
  clear hB hC
  go_wp2
  generalize hcf : confB ⟨ra, aa, da⟩ ⟨rb, ab, db⟩ = cf at *
  clear hcf
  go_loopw [7, 30] (fun v i wr => ∃ k : Nat, k ≤ ys.length ∧ i = .int .i64 k ∧ Own 3 wr (w.heap.size + 2) v (filtTo (fun m => cf && hasB xs m) ys k) ∧ Below (w.heap.size + 2) w3 wr ∧ w3.heap.size ≤ wr.heap.size ∧ wr.cell? ⟨B, 0, none⟩ = some (.bool cf) ∧ wr.cell? ⟨w2.heap.size, 3, none⟩ = some (.slice pa xs.length ca) ∧ ∀ g, v.ownBlock = some g → g = w.heap.size + 2 ∨ w3.heap.size ≤ g) (fun _ i _ => ys.length - (intOf i).toNat)
  case atStart => exact ⟨0, by omega, rfl, Hem3.out, Below.refl _ _, Nat.le_refl _, HB.out, HC'.out, fun g e => by simp [Value.ownBlock] at e; omega⟩
  case round =>
    obtain ⟨k, hk, rfl, hown, hbel, hsz, hB, hC, hpl⟩ := hrel
    have hlen := filtTo_len (fun m => cf && hasB xs m) ys k
    have hbe0 := Hb3w.out.trans (hbel.mono (by omega))
    have Hbe0 := Lib.hid hbe0
    by_cases hlt : k < ys.length
    · obtain ⟨b, off, rfl, hb, hat⟩ := (HY0.out.below hbe0).cell (by omega)
      have e0 := hat k hlt
      have HX1 := Lib.hid (HX0.out.below hbe0)
      have hcy := fun (e : (cf && hasB xs ys[k]) = true) => filtTo_yes (p := fun m => cf && hasB xs m) hlt e
      have hcn := fun (e : (cf && hasB xs ys[k]) = false) => filtTo_no (p := fun m => cf && hasB xs m) hlt e
      generalize ys[k] = x at *
      have Hcy := Lib.hid hcy; have Hcn := Lib.hid hcn
      have Hown := Lib.hid hown
      have Hpl := Lib.hid hpl
      have Hbel := Lib.hid hbel
      have HB' := Lib.hid hB
      have HC'' := Lib.hid hC
      clear hcy hcn hown hpl hbel hbe0 hat hB hC
      go_wp2_with fail
      refine (H4.out B w2.heap.size x wr HB'.out HC''.out HX1.out).mono ?_
      rintro e w4 ⟨rfl, rfl⟩
      cases e : (cf && hasB xs x) with
      | false =>
        go_wp2
        go_roundw
        case rel => exact ⟨k + 1, by omega, by go_num, by rw [Hcn.out e]; exact Hown.out, Hbel.out, hsz, HB'.out, HC''.out, Hpl.out⟩
        case measure => simp [intOf]; omega
      | true =>
        go_wp2_with (at_builtin; refine wpList_push_at TI2 rfl (.tmp 37) (.tmp 39) rfl (w.heap.size + 2) _ (filtTo (fun m => cf && hasB xs m) ys k) _ rfl Hown.out (by omega) rfl (by omega) ?_; intro v' w5 hown5 hg5 hpl5)
        have hne : ∀ g, u7.ownBlock = some g → g ≠ B ∧ g ≠ w2.heap.size := fun g e => by have := Hpl.out g e; omega
        go_roundw
        case rel => exact ⟨k + 1, by omega, by go_num, by rw [Hcy.out e]; exact hown5, Hbel.out.grown hg5 (by omega) (fun g e => by have := (Hown.out.lt g e).1; omega), (Hbel.out.grown hg5 (by omega) (fun g e => by have := (Hown.out.lt g e).1; omega)).size, hg5.cell HB'.out (fun e => (hne _ e.symm).1 rfl), hg5.cell HC''.out (fun e => (hne _ e.symm).2 rfl), fun g e => by
            rcases hpl5 with h | ⟨g', h, hg'⟩
            · exact Hpl.out g (h ▸ e)
            · rw [h] at e; cases e; exact .inr (by omega)⟩
        case measure => simp [intOf]; omega
    · have hkn : k = ys.length := by omega
      have Hk := Lib.hid hkn; clear hkn
      go_wp2
      go_ret
      exact ⟨_, rfl, by rw [← Hz.out, ← Hk.out]; exact hown.mono (by omega), Hbe0.out⟩

end Go.Proofs.Ythhikgibmmhcjab
