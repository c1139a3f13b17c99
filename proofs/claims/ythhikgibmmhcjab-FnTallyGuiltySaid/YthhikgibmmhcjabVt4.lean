/- The members that two tallies have in common, as the reference finds them, by a walk of its text; conditions: lists are shorter than 2^40. -/
import Derived.Test.YthhikgibmmhcjabRows
import Derived.Test.YthhikgibmmhcjabVt3
import Derived.Test.YthhikgibmmhcjabL1
import Derived.Test.YthhikgibmmhcjabHeld
import Derived.Deep.QuietTactic
import Derived.BigQuiet
namespace Go.Proofs.Ythhikgibmmhcjab
open Go.RowKit

theorem spec_l1Has (a : Option Addr) (cap : Nat) (l : List Int) (n : Int) (w : World) (hbig : l.length ≤ 1099511627776) (hc : IntsAt w a l) :
    Calls Try.prog 35 #[.slice a l.length cap, .int .i64 n] w fun e w' => e = .returned (.bool (hasB l n)) ∧ w = w' := by
  rcases hc.len with h0 | ⟨b, off, rfl, hb, hc⟩
  all_goals
    go_enter Try.func35, Try.ntmps35
    go_wp2
    go_loop [5] (fun i => ∃ k : Nat, k ≤ l.length ∧ i = .int .i64 k ∧ Pre (fun x => x != n) l k) (fun i => l.length - (intOf i).toNat)
    case atStart => exact ⟨0, by omega, rfl, pre_zero _ _⟩
    case round =>
      obtain ⟨k, hk, rfl, hg⟩ := hrel
      by_cases hlt : k < l.length
      · first
        | (exfalso; omega)
        | (have hcell := hc k hlt
           have Hc := Lib.hid hc; clear hc
           by_cases e : l[k] = n
           · have e1 : (l[k] == n) = true := by rw [beq_iff_eq]; exact e
             have hf := hasB_yes hlt
             rw [e] at hf
             have Hf := Lib.hid hf; clear hf e
             go_wp2
             go_ret
             exact ⟨ret_bool Hf.out.symm, rfl⟩
           · have e1 : (l[k] == n) = false := by rw [beq_eq_false_iff_ne]; exact e
             have Hs := Lib.hid (pre_step hg hlt (by simpa using e)); clear hg e
             go_wp2
             go_round
             case rel => exact ⟨k + 1, by omega, by go_num, Hs.out⟩
             case measure => simp [intOf]; omega)
      · have Hf := Lib.hid (hasB_no hg (by omega)); clear hg
        go_wp2
        go_ret
        exact ⟨ret_bool Hf.out.symm, rfl⟩

/-- Who is guilty: the members of both tallies, where these are valid, for one author and round and for two digests. -/
def twoB (c : List Int) (v u : Vt) (xs ys : List Int) : Bool := tallyB c v xs && (tallyB c u ys && (decide (v.r = u.r) && (decide (v.a = u.a) && decide (v.d ≠ u.d))))
def guiltyZ (c : List Int) (v u : Vt) (xs ys : List Int) : List Int := if twoB c v u xs ys then commonZ xs ys else []

set_option maxHeartbeats 2000000 in
theorem spec_TallyGuilty (ac : Option Addr) (capc : Nat) (c : List Int) (ra aa da rb ab db : Int) (pa pb : Option Addr) (ca cb : Nat) (xs ys : List Int) (w : World) (hn : c.length ≤ 1099511627776) (hbx : xs.length ≤ 1048576) (hby : ys.length ≤ 1099511627776) (hc : IntsAt w ac c) (hx : IntsAt w pa xs) (hy : IntsAt w pb ys) :
    Calls Try.prog 10 #[.slice ac c.length capc, .agg #[.int .i64 ra, .int .i64 aa, .int .i64 da, .slice pa xs.length ca], .agg #[.int .i64 rb, .int .i64 ab, .int .i64 db, .slice pb ys.length cb]] w fun e w' => ∃ v, e = .returned v ∧ Own 3 w' w.heap.size v (guiltyZ c ⟨ra, aa, da⟩ ⟨rb, ab, db⟩ xs ys) ∧ Below w.heap.size w w' := by
  have hb0 : Below w.heap.size w (((w.alloc (.cells #[.int .i64 ra, .int .i64 aa, .int .i64 da, .slice pa xs.length ca] 27)).alloc (.cells #[.int .i64 rb, .int .i64 ab, .int .i64 db, .slice pb ys.length cb] 27)).alloc (.cells #[] 3)) := (((Below.refl _ _).alloc (Nat.le_refl _) _).alloc (by simp) _).alloc (by simp; omega) _
  have s0 := ((Str.new w 27 #[.int .i64 ra, .int .i64 aa, .int .i64 da, .slice pa xs.length ca]).alloc (.cells #[.int .i64 rb, .int .i64 ab, .int .i64 db, .slice pb ys.length cb] 27)).alloc (.cells #[] 3)
  have s1 := (Str.new (w.alloc (.cells #[.int .i64 ra, .int .i64 aa, .int .i64 da, .slice pa xs.length ca] 27)) 27 #[.int .i64 rb, .int .i64 ab, .int .i64 db, .slice pb ys.length cb]).alloc (.cells #[] 3)
  have hsz0 : (((w.alloc (.cells #[.int .i64 ra, .int .i64 aa, .int .i64 da, .slice pa xs.length ca] 27)).alloc (.cells #[.int .i64 rb, .int .i64 ab, .int .i64 db, .slice pb ys.length cb] 27)).alloc (.cells #[] 3)).heap.size = w.heap.size + 3 := by simp
  have hemp : ∀ W, Below (((w.alloc (.cells #[.int .i64 ra, .int .i64 aa, .int .i64 da, .slice pa xs.length ca] 27)).alloc (.cells #[.int .i64 rb, .int .i64 ab, .int .i64 db, .slice pb ys.length cb] 27)).alloc (.cells #[] 3)).heap.size (((w.alloc (.cells #[.int .i64 ra, .int .i64 aa, .int .i64 da, .slice pa xs.length ca] 27)).alloc (.cells #[.int .i64 rb, .int .i64 ab, .int .i64 db, .slice pb ys.length cb] 27)).alloc (.cells #[] 3)) W → Own 3 W (w.heap.size + 2) (.slice (some ⟨w.heap.size + 2, 0, none⟩) 0 0) [] := fun W hW => by
    have h := own_empty 3 (B := w.heap.size + 2) ((w.alloc (.cells #[.int .i64 ra, .int .i64 aa, .int .i64 da, .slice pa xs.length ca] 27)).alloc (.cells #[.int .i64 rb, .int .i64 ab, .int .i64 db, .slice pb ys.length cb] 27)) (by simp)
    simp only [World.size_alloc] at h
    exact h.below hW
  simp only [World.size_alloc] at s1
  have k0 := s0.cell 0 (v := .int .i64 ra) rfl
  have k1 := s0.cell 1 (v := .int .i64 aa) rfl
  have k2 := s0.cell 2 (v := .int .i64 da) rfl
  have k3 := s0.cell 3 (v := .slice pa xs.length ca) rfl
  have j0 := s1.cell 0 (v := .int .i64 rb) rfl
  have j1 := s1.cell 1 (v := .int .i64 ab) rfl
  have j2 := s1.cell 2 (v := .int .i64 db) rfl
  have j3 := s1.cell 3 (v := .slice pb ys.length cb) rfl
  have HC := Lib.hid (hc.below hb0)
  have HX := Lib.hid (hx.below hb0)
  have HY := Lib.hid (hy.below hb0)
  have HX0 := Lib.hid hx
  have HY0 := Lib.hid hy
  have Hem := Lib.hid hemp
  have Hb0 := Lib.hid hb0; clear hb0 s0 s1 hc hx hy hemp
  have H1 := Lib.hid (fun W (h : IntsAt W ac c) (h' : IntsAt W pa xs) => spec_l12Tally ac capc c ra aa da pa ca xs W hn (by omega) h h')
  have H2 := Lib.hid (fun W (h : IntsAt W ac c) (h' : IntsAt W pb ys) => spec_l12Tally ac capc c rb ab db pb cb ys W hn hby h h')
  have HH := Lib.hid (fun x W (h : IntsAt W pb ys) => spec_l1Has pb cb ys x W hby h)
  have Hno := Lib.hid (fun (h : twoB c ⟨ra, aa, da⟩ ⟨rb, ab, db⟩ xs ys = false) => show guiltyZ c ⟨ra, aa, da⟩ ⟨rb, ab, db⟩ xs ys = [] by unfold guiltyZ; rw [h]; rfl)
  have Hyes := Lib.hid (fun (h : twoB c ⟨ra, aa, da⟩ ⟨rb, ab, db⟩ xs ys = true) => show guiltyZ c ⟨ra, aa, da⟩ ⟨rb, ab, db⟩ xs ys = commonZ xs ys by unfold guiltyZ; rw [h]; rfl)
  have Htwo := Lib.hid (show twoB c ⟨ra, aa, da⟩ ⟨rb, ab, db⟩ xs ys = (tallyB c ⟨ra, aa, da⟩ xs && (tallyB c ⟨rb, ab, db⟩ ys && (decide (ra = rb) && (decide (aa = ab) && decide (da ≠ db))))) from rfl)
  go_enter Try.func10, Try.ntmps10
  go_wp2_with fail
  generalize ((w.alloc (.cells #[.int .i64 ra, .int .i64 aa, .int .i64 da, .slice pa xs.length ca] 27)).alloc (.cells #[.int .i64 rb, .int .i64 ab, .int .i64 db, .slice pb ys.length cb] 27)).alloc (.cells #[] 3) = W0 at *
  have K3 := Lib.hid k3
  have J3 := Lib.hid j3
  refine (H1.out W0 HC.out HX.out).mono ?_
  rintro e w1 ⟨rfl, hb1⟩
  have hs1 := hb1.size
  have l0 : w.heap.size < W0.heap.size := by omega
  have l1 : w.heap.size + 1 < W0.heap.size := by omega
  have k0 := (hb1.cell (p := ⟨w.heap.size, 0, none⟩) l0).trans k0
  have k1 := (hb1.cell (p := ⟨w.heap.size, 1, none⟩) l0).trans k1
  have k2 := (hb1.cell (p := ⟨w.heap.size, 2, none⟩) l0).trans k2
  have k3 := (hb1.cell (p := ⟨w.heap.size, 3, none⟩) l0).trans k3
  have j0 := (hb1.cell (p := ⟨w.heap.size + 1, 0, none⟩) l1).trans j0
  have j1 := (hb1.cell (p := ⟨w.heap.size + 1, 1, none⟩) l1).trans j1
  have j2 := (hb1.cell (p := ⟨w.heap.size + 1, 2, none⟩) l1).trans j2
  have j3 := (hb1.cell (p := ⟨w.heap.size + 1, 3, none⟩) l1).trans j3
  have Hc1 := Lib.hid (HC.out.below hb1)
  have Hy1 := Lib.hid (HY.out.below hb1)
  have Hbw := Lib.hid hb1
  clear hb1
  cases h1 : tallyB c ⟨ra, aa, da⟩ xs with
  | false =>
    have hz := Hno.out (by rw [Htwo.out, h1]; rfl)
    go_wp2
    go_ret
    exact ⟨_, rfl, by rw [hz]; exact (Hem.out _ Hbw.out).mono (by omega), below_step Hb0.out Hb0.out.size Hbw.out⟩
  | true =>
  go_wp2_with fail
  refine (H2.out w1 Hc1.out Hy1.out).mono ?_
  rintro e w2 ⟨rfl, hb2⟩
  have l0 : w.heap.size < w1.heap.size := by omega
  have l1 : w.heap.size + 1 < w1.heap.size := by omega
  have k0 := (hb2.cell (p := ⟨w.heap.size, 0, none⟩) l0).trans k0
  have k1 := (hb2.cell (p := ⟨w.heap.size, 1, none⟩) l0).trans k1
  have k2 := (hb2.cell (p := ⟨w.heap.size, 2, none⟩) l0).trans k2
  have k3 := (hb2.cell (p := ⟨w.heap.size, 3, none⟩) l0).trans k3
  have j0 := (hb2.cell (p := ⟨w.heap.size + 1, 0, none⟩) l1).trans j0
  have j1 := (hb2.cell (p := ⟨w.heap.size + 1, 1, none⟩) l1).trans j1
  have j2 := (hb2.cell (p := ⟨w.heap.size + 1, 2, none⟩) l1).trans j2
  have j3 := (hb2.cell (p := ⟨w.heap.size + 1, 3, none⟩) l1).trans j3
  have Hbw := Lib.hid (below_step Hbw.out Hbw.out.size hb2)
  clear hb2 l0 l1 hs1
  cases h2 : tallyB c ⟨rb, ab, db⟩ ys with
  | false =>
    have hz := Hno.out (by rw [Htwo.out, h1, h2]; rfl)
    go_wp2
    go_ret
    exact ⟨_, rfl, by rw [hz]; exact (Hem.out _ Hbw.out).mono (by omega), below_step Hb0.out Hb0.out.size Hbw.out⟩
  | true =>
  by_cases hr : ra = rb
  case neg =>
    have hz := Hno.out (by rw [Htwo.out, h1, h2, decide_eq_false hr]; rfl)
    have hr' : (ra == rb) = false := by simpa using hr
    go_wp2
    go_ret
    exact ⟨_, rfl, by rw [hz]; exact (Hem.out _ Hbw.out).mono (by omega), below_step Hb0.out Hb0.out.size Hbw.out⟩
  have hr' : (ra == rb) = true := by simpa using hr
  by_cases ha : aa = ab
  case neg =>
    have hz := Hno.out (by rw [Htwo.out, h1, h2, decide_eq_true hr, decide_eq_false ha]; rfl)
    have ha' : (aa == ab) = false := by simpa using ha
    go_wp2
    go_ret
    exact ⟨_, rfl, by rw [hz]; exact (Hem.out _ Hbw.out).mono (by omega), below_step Hb0.out Hb0.out.size Hbw.out⟩
  have ha' : (aa == ab) = true := by simpa using ha
  by_cases hd : da = db
  case pos =>
    have hz := Hno.out (by rw [Htwo.out, h1, h2, decide_eq_true hr, decide_eq_true ha]; simp [hd])
    have hd' : (da == db) = true := by simpa using hd
    go_wp2
    go_ret
    exact ⟨_, rfl, by rw [hz]; exact (Hem.out _ Hbw.out).mono (by omega), below_step Hb0.out Hb0.out.size Hbw.out⟩
  have hz := Hyes.out (by rw [Htwo.out, h1, h2, decide_eq_true hr, decide_eq_true ha]; simp [hd])
  have hd' : (da == db) = false := by simpa using hd
  have Hz := Lib.hid hz
  have hx := HX.out.below Hbw.out
  have hem := Hem.out _ Hbw.out
  have hsz1 : w.heap.size + 3 ≤ w2.heap.size := by have := Hbw.out.size; omega
  clear hz h1 h2 Hno Hyes Htwo H1 H2 hx
  go_wp2
  go_loopw [7, 8] (fun v i wr => ∃ k : Nat, k ≤ xs.length ∧ i = .int .i64 k ∧ Own 3 wr (w.heap.size + 2) v (commonTo xs ys k) ∧ Below (w.heap.size + 2) W0 wr) (fun _ i _ => xs.length - (intOf i).toNat)
  case atStart => exact ⟨0, by omega, rfl, hem, Hbw.out.mono (by omega)⟩
  case round =>
    obtain ⟨k, hk, rfl, hown, hbel⟩ := hrel
    have hlen := commonTo_len xs ys k
    have hB := hbel.size
    have hp1 : w.heap.size < w.heap.size + 2 := by omega
    have hp2 : w.heap.size + 1 < w.heap.size + 2 := by omega
    have hbe0 := Hb0.out.trans (hbel.mono (Nat.le_add_right _ 2))
    have z0 := (hbel.cell (p := ⟨w.heap.size, 3, none⟩) hp1).trans K3.out
    have z1 := (hbel.cell (p := ⟨w.heap.size + 1, 3, none⟩) hp2).trans J3.out
    by_cases hlt : k < xs.length
    · obtain ⟨b, off, rfl, hb, hat⟩ := (HX0.out.below hbe0).cell (by omega)
      have e0 := hat k hlt
      have Hy1 := Lib.hid (HY0.out.below hbe0)
      have Hbel := Lib.hid hbel; clear hbel hat hbe0
      have hcy := fun (e : hasB ys xs[k] = true) => commonTo_yes hlt e
      have hcn := fun (e : hasB ys xs[k] = false) => commonTo_no hlt e
      generalize xs[k] = x at *
      have Hcy := Lib.hid hcy; have Hcn := Lib.hid hcn
      have Hown := Lib.hid hown
      have hb1 : Below wr.heap.size wr wr.drew := (Below.refl _ _).drew
      clear hcy hcn hown
      cases e : hasB ys x with
      | false =>
        have H3 := Lib.hid (fun W h => HH.out x W h)
        rw [e] at H3
        go_wp2_with fail
        refine wp_region_held_drew (S := fun w' => Below wr.heap.size wr w' ∧ w'.cell? ⟨w.heap.size, 3, none⟩ = some (.slice (some ⟨b, off, none⟩) xs.length ca) ∧ w'.cell? ⟨w.heap.size + 1, 3, none⟩ = some (.slice pb ys.length cb) ∧ w'.cell? ⟨b, off + k, none⟩ = some (.int .i64 x)) (by kernel_rfl) ⟨hb1, z0, z1, e0⟩ (fun hH => ?_)
        refine takeH 0 (v := ?vra0) rfl (by kernel_rfl) (by kernel_rfl) (by kernel_rfl) (fun _ _ _ h => h) hH rfl ?yra0 ?rra0
        case yra0 => intro W hSw; go_simp; try with_reducible rfl
        try simp only [Act.put, List.setIfInBounds_toArray, List.set_cons_zero, List.set_cons_succ]
        refine takeH 1 (v := ?vra1) rfl (by kernel_rfl) (by kernel_rfl) (by kernel_rfl) (fun _ _ _ h => h) hH rfl ?yra1 ?rra1
        case yra1 => intro W hSw; go_simp; try with_reducible rfl
        try simp only [Act.put, List.setIfInBounds_toArray, List.set_cons_zero, List.set_cons_succ]
        refine takeH 2 (v := ?vra2) rfl (by kernel_rfl) (by kernel_rfl) (by kernel_rfl) (fun _ _ _ h => h) hH rfl ?yra2 ?rra2
        case yra2 => intro W hSw; go_simp; try with_reducible rfl
        try simp only [Act.put, List.setIfInBounds_toArray, List.set_cons_zero, List.set_cons_succ]
        refine takeH 3 (v := ?vra3) rfl (by kernel_rfl) (by kernel_rfl) (by kernel_rfl) (fun _ _ _ h => h) hH rfl ?yra3 ?rra3
        case yra3 => intro W hSw; go_simp; try with_reducible rfl
        try simp only [Act.put, List.setIfInBounds_toArray, List.set_cons_zero, List.set_cons_succ]
        refine takeH 4 (v := ?vra4) rfl (by kernel_rfl) (by kernel_rfl) (by kernel_rfl) (fun _ _ _ h => h) hH rfl ?yra4 ?rra4
        case yra4 => intro W hSw; go_simp; try with_reducible rfl
        try simp only [Act.put, List.setIfInBounds_toArray, List.set_cons_zero, List.set_cons_succ]
        refine takeH 5 (v := ?vra5) rfl (by kernel_rfl) (by kernel_rfl) (by kernel_rfl) (fun _ _ _ h => h) hH rfl ?yra5 ?rra5
        case yra5 => intro W hSw; go_simp; try with_reducible rfl
        try simp only [Act.put, List.setIfInBounds_toArray, List.set_cons_zero, List.set_cons_succ]
        refine takeH 6 (v := ?vra6) rfl (by kernel_rfl) (by kernel_rfl) (by kernel_rfl) (fun _ _ _ h => h) hH rfl ?yra6 ?rra6
        case yra6 => intro W hSw; go_simp; try with_reducible rfl
        try simp only [Act.put, List.setIfInBounds_toArray, List.set_cons_zero, List.set_cons_succ]
        refine callH 7 rfl (by kernel_rfl) rfl (fun K hK => ?_)
        go_simp
        go_at_call 35
        refine (H3.out _ (Hy1.out.below hH.1)).mono ?_
        rintro e wx ⟨rfl, rfl⟩
        refine hK.out _ _ hH (fun hH => ?_)
        clear hK K
        try simp only [Act.put, List.setIfInBounds_toArray, List.set_cons_zero, List.set_cons_succ]
        refine wpAnyH_done (by kernel_rfl) ?_ _
        try simp only [Act.put]
        obtain ⟨hbw, _⟩ := hH
        go_wp2
        go_roundw
        case rel => exact ⟨k + 1, by omega, by go_num, by rw [Hcn.out e]; exact Hown.out.below hbw, below_step Hbel.out (by omega) hbw⟩
        case measure => simp [intOf]; omega
      | true =>
        have H3 := Lib.hid (fun W h => HH.out x W h)
        rw [e] at H3
        go_wp2_with fail
        refine wp_region_held_drew (S := fun w' => Below wr.heap.size wr w' ∧ w'.cell? ⟨w.heap.size, 3, none⟩ = some (.slice (some ⟨b, off, none⟩) xs.length ca) ∧ w'.cell? ⟨w.heap.size + 1, 3, none⟩ = some (.slice pb ys.length cb) ∧ w'.cell? ⟨b, off + k, none⟩ = some (.int .i64 x)) (by kernel_rfl) ⟨hb1, z0, z1, e0⟩ (fun hH => ?_)
        refine takeH 0 (v := ?vrb0) rfl (by kernel_rfl) (by kernel_rfl) (by kernel_rfl) (fun _ _ _ h => h) hH rfl ?yrb0 ?rrb0
        case yrb0 => intro W hSw; go_simp; try with_reducible rfl
        try simp only [Act.put, List.setIfInBounds_toArray, List.set_cons_zero, List.set_cons_succ]
        refine takeH 1 (v := ?vrb1) rfl (by kernel_rfl) (by kernel_rfl) (by kernel_rfl) (fun _ _ _ h => h) hH rfl ?yrb1 ?rrb1
        case yrb1 => intro W hSw; go_simp; try with_reducible rfl
        try simp only [Act.put, List.setIfInBounds_toArray, List.set_cons_zero, List.set_cons_succ]
        refine takeH 2 (v := ?vrb2) rfl (by kernel_rfl) (by kernel_rfl) (by kernel_rfl) (fun _ _ _ h => h) hH rfl ?yrb2 ?rrb2
        case yrb2 => intro W hSw; go_simp; try with_reducible rfl
        try simp only [Act.put, List.setIfInBounds_toArray, List.set_cons_zero, List.set_cons_succ]
        refine takeH 3 (v := ?vrb3) rfl (by kernel_rfl) (by kernel_rfl) (by kernel_rfl) (fun _ _ _ h => h) hH rfl ?yrb3 ?rrb3
        case yrb3 => intro W hSw; go_simp; try with_reducible rfl
        try simp only [Act.put, List.setIfInBounds_toArray, List.set_cons_zero, List.set_cons_succ]
        refine takeH 4 (v := ?vrb4) rfl (by kernel_rfl) (by kernel_rfl) (by kernel_rfl) (fun _ _ _ h => h) hH rfl ?yrb4 ?rrb4
        case yrb4 => intro W hSw; go_simp; try with_reducible rfl
        try simp only [Act.put, List.setIfInBounds_toArray, List.set_cons_zero, List.set_cons_succ]
        refine takeH 5 (v := ?vrb5) rfl (by kernel_rfl) (by kernel_rfl) (by kernel_rfl) (fun _ _ _ h => h) hH rfl ?yrb5 ?rrb5
        case yrb5 => intro W hSw; go_simp; try with_reducible rfl
        try simp only [Act.put, List.setIfInBounds_toArray, List.set_cons_zero, List.set_cons_succ]
        refine takeH 6 (v := ?vrb6) rfl (by kernel_rfl) (by kernel_rfl) (by kernel_rfl) (fun _ _ _ h => h) hH rfl ?yrb6 ?rrb6
        case yrb6 => intro W hSw; go_simp; try with_reducible rfl
        try simp only [Act.put, List.setIfInBounds_toArray, List.set_cons_zero, List.set_cons_succ]
        refine callH 7 rfl (by kernel_rfl) rfl (fun K hK => ?_)
        go_simp
        go_at_call 35
        refine (H3.out _ (Hy1.out.below hH.1)).mono ?_
        rintro e wx ⟨rfl, rfl⟩
        refine hK.out _ _ hH (fun hH => ?_)
        clear hK K
        try simp only [Act.put, List.setIfInBounds_toArray, List.set_cons_zero, List.set_cons_succ]
        refine wpAnyH_done (by kernel_rfl) ?_ _
        try simp only [Act.put]
        generalize wr.drew = wd at *
        obtain ⟨hbw, z0, z1, e0⟩ := hH
        have hsw := hbw.size
        have hown := Hown.out.below hbw
        have Hbw := Lib.hid (below_step Hbel.out (by omega) hbw)
        clear hbw hb1
        go_wp2_with (at_builtin; refine wpList_push TI2 rfl (.tmp 63) (.tmp 69) rfl (w.heap.size + 2) _ (commonTo xs ys k) _ rfl hown (by omega) rfl (by omega) ?_; intro v' w5 hown5 hg5)
        go_roundw
        case rel => exact ⟨k + 1, by omega, by go_num, by rw [Hcy.out e]; exact hown5, Hbw.out.grown hg5 (by omega) (fun g e => by have := (hown.lt g e).1; omega)⟩
        case measure => simp [intOf]; omega
    · have hkn : k = xs.length := by omega
      have Hk := Lib.hid hkn; clear hkn
      go_wp2
      go_ret
      exact ⟨_, rfl, by rw [Hz.out]; unfold commonZ; rw [← Hk.out]; exact hown.mono (by omega), Hb0.out.trans (hbel.mono (by omega))⟩

end Go.Proofs.Ythhikgibmmhcjab
