/- Texts that the laws of this folder share, one behind another; no conditions. -/
import Derived.Test.YtgpbogalknmcmaaRows
import Derived.Test.YtgpbogalknmcmaaBu1
import Derived.Test.YtgpbogalknmcmaaBu0
import Derived.Deep.QuietTactic
import Derived.BigQuiet
import Derived.Maps.AppendAt

/- impl's test of voters, by a walk of its text; conditions: lists are shorter than 2^40. -/
namespace Go.Proofs.Ytgpbogalknmcmaa
open Go.RowKit

theorem vbef_cmp (x y : Vt) : vbefB x y = decide (vcmpZ x y < 0) := by
  unfold vbefB vcmpZ cmpZ
  rw [Bool.eq_iff_iff, decide_eq_true_iff, decide_eq_true_iff]
  by_cases h1 : x.r < y.r
  · simp [h1]
  · by_cases h2 : y.r < x.r
    · simp [h1, h2]; omega
    · by_cases h3 : x.a < y.a
      · simp [h1, h2, h3]; omega
      · by_cases h4 : y.a < x.a
        · simp [h1, h2, h3, h4]
        · simp [h1, h2, h3, h4]

theorem vote_compareB (x y : Vt) (w : World) :
    Calls Try.prog 40 #[.agg #[.int .i64 x.r, .int .i64 x.a, .int .i64 x.d], .agg #[.int .i64 y.r, .int .i64 y.a, .int .i64 y.d]] w fun e w' => e = .returned (.int .i64 (vcmpZ x y)) ∧ Below w.heap.size w w' := by
  refine (vote_compare x y w).mono ?_
  rintro e w' ⟨rfl, rfl⟩
  exact ⟨rfl, ((((Below.refl _ _).alloc (Nat.le_refl _) _).alloc (by simp) _).drew).alloc (by simp only [World.size_drew, World.size_alloc]; omega) _⟩

set_option maxHeartbeats 4000000 in
theorem impl_VoterValid (f : Int) (g : List Vt) (v : Value) (fp : List Nat) (w : World) (hbig : g.length ≤ 1099511627776) (hg : Vts w g v fp) :
    Calls Try.prog 17 #[.agg #[.int .i64 f, v]] w fun e w' => e = .returned (.bool (voterB f g)) ∧ Below w.heap.size w w' := by
  obtain ⟨va, vc, rfl⟩ := hg.slice
  have hb0 : Below w.heap.size w (w.alloc (.cells #[.int .i64 f, .slice va g.length vc] 25)) := (Below.refl _ _).alloc (Nat.le_refl _) _
  have s0 := Str.new w 25 #[.int .i64 f, .slice va g.length vc]
  have hsz0 : (w.alloc (.cells #[.int .i64 f, .slice va g.length vc] 25)).heap.size = w.heap.size + 1 := by simp
  have Hres := Lib.hid (show voterB f g = (allB (okVt f g) g.length && (decide (0 ≤ f ∧ f ≤ 31) && decide (g.length ≤ 40))) from rfl)
  have Hg := Lib.hid (hg.under hb0); clear hg
  have Hb0 := Lib.hid hb0; clear hb0
  have z0 := Str.cell s0 0 (v := .int .i64 f) rfl
  have z1 := Str.cell s0 1 (v := .slice va g.length vc) rfl
  have Hs0 := Lib.hid s0; clear s0
  have HF := Lib.hid (fun W => vt_isFloor f W)
  by_cases hf : 0 ≤ f ∧ f ≤ 31
  case neg =>
    have hz : voterB f g = false := by rw [Hres.out, decide_eq_false hf]; simp
    rw [decide_eq_false hf] at HF
    have Hz := Lib.hid hz; clear hz
    go_enter Try.func17, Try.ntmps17
    go_wp2_with fail
    refine (HF.out _).mono ?_
    rintro e w1 ⟨rfl, rfl⟩
    go_wp2
    go_ret
    exact ⟨ret_bool Hz.out.symm, Hb0.out⟩
  rw [decide_eq_true hf] at HF
  by_cases hgl : 40 < g.length
  · have hz : voterB f g = false := by rw [Hres.out, decide_eq_false (show ¬ g.length ≤ 40 by omega)]; simp
    have Hz := Lib.hid hz; clear hz
    have hgl' : (40 : Int) < g.length := by omega
    go_enter Try.func17, Try.ntmps17
    go_wp2_with fail
    refine (HF.out _).mono ?_
    rintro e w1 ⟨rfl, rfl⟩
    go_wp2
    go_ret
    exact ⟨ret_bool Hz.out.symm, Hb0.out⟩
  have hgl' : ¬ (40 : Int) < g.length := by omega
  have Hres := Lib.hid (show voterB f g = allB (okVt f g) g.length by rw [Hres.out, decide_eq_true (show 0 ≤ f ∧ f ≤ 31 by omega), decide_eq_true (show g.length ≤ 40 by omega)]; simp)
  go_enter Try.func17, Try.ntmps17
  go_wp2_with fail
  refine (HF.out _).mono ?_
  rintro e w1 ⟨rfl, rfl⟩
  go_wp2
  generalize w.alloc (.cells #[.int .i64 f, .slice va g.length vc] 25) = W0 at *
  clear z0 z1
  go_loopw [18] (fun i wr => ∃ k : Nat, k ≤ g.length ∧ i = .int .i64 k ∧ Upto (okVt f g) k ∧ Below W0.heap.size W0 wr) (fun i _ => g.length - (intOf i).toNat)
  case atStart => exact ⟨0, by omega, rfl, upto_zero _, Below.refl _ _⟩
  case round =>
    obtain ⟨k, hk, rfl, hup, hbel⟩ := hrel
    by_cases hlt : k < g.length
    · have Hg1 := Lib.hid (Hg.out.under hbel)
      obtain ⟨b, off, rfl, hb, hat⟩ := Hg1.out.at (by omega)
      obtain ⟨c0, c1, c2⟩ := hat k hlt
      have hgk := getVt hlt
      have hok : okVt f g k = (voteB g[k] && (decide (f ≤ g[k].r) && (k == 0 || vbefB (g.getD (k - 1) vt0) g[k]))) := by unfold okVt; rw [hgk]
      have Hat := Lib.hid hat; clear hat hgk
      have hwl : w.heap.size < wr.heap.size := by have := hbel.size; omega
      have Hz := Lib.hid (show Str wr w.heap.size 25 #[.int .i64 f, .slice (some ⟨b, off, none⟩) g.length vc] from (hbel.block _ Hs0.out.lt).trans Hs0.out)
      have Hbel := Lib.hid hbel; clear hbel
      have Hup := Lib.hid hup; clear hup
      have HV := Lib.hid (fun W => vote_valid g[k].r g[k].a g[k].d W)
      have HB := Lib.hid (fun (x : Vt) W => vote_compareB x g[k] W)
      have Hok := Lib.hid hok; clear hok
      generalize hx : g[k] = x at *
      obtain ⟨xr, xa, xd⟩ := x
      dsimp only at *
      clear hx
      have hal : Below wr.heap.size wr (wr.alloc (.cells #[.int .i64 xr, .int .i64 xa, .int .i64 xd] 27)) := (Below.refl _ _).alloc (Nat.le_refl _) _
      have sX := Str.new wr 27 #[.int .i64 xr, .int .i64 xa, .int .i64 xd]
      have hzx : (wr.alloc (.cells #[.int .i64 xr, .int .i64 xa, .int .i64 xd] 27)).heap.size = wr.heap.size + 1 := by simp
      have sV := Hz.out.alloc (.cells #[.int .i64 xr, .int .i64 xa, .int .i64 xd] 27)
      have Hbel := Lib.hid (below_step Hbel.out Hbel.out.size hal)
      have Hat := Lib.hid (fun j hj => (⟨below_cell hal (Hat.out j hj).1, below_cell hal (Hat.out j hj).2.1, below_cell hal (Hat.out j hj).2.2⟩ : _ ∧ _ ∧ _))
      have x0 := sX.cell 0 (v := .int .i64 xr) rfl
      have x1 := sX.cell 1 (v := .int .i64 xa) rfl
      have x2 := sX.cell 2 (v := .int .i64 xd) rfl
      have z0 := sV.cell 0 (v := .int .i64 f) rfl
      have z1 := sV.cell 1 (v := .slice (some ⟨b, off, none⟩) g.length vc) rfl
      have hb0 : Below (wr.alloc (.cells #[.int .i64 xr, .int .i64 xa, .int .i64 xd] 27)).heap.size (wr.alloc (.cells #[.int .i64 xr, .int .i64 xa, .int .i64 xd] 27)) (wr.alloc (.cells #[.int .i64 xr, .int .i64 xa, .int .i64 xd] 27)).drew := (Below.refl _ _).drew
      have Hbs := Lib.hid (fun w' (h : Below (wr.alloc (.cells #[.int .i64 xr, .int .i64 xa, .int .i64 xd] 27)).heap.size (wr.alloc (.cells #[.int .i64 xr, .int .i64 xa, .int .i64 xd] 27)) w') => Nat.lt_of_lt_of_le (Nat.lt_trans hb (Nat.lt_succ_self _)) (hzx ▸ h.size))
      have Hws := Lib.hid (fun w' (h : Below (wr.alloc (.cells #[.int .i64 xr, .int .i64 xa, .int .i64 xd] 27)).heap.size (wr.alloc (.cells #[.int .i64 xr, .int .i64 xa, .int .i64 xd] 27)) w') => Nat.lt_of_lt_of_le (Nat.lt_trans hwl (Nat.lt_succ_self _)) (hzx ▸ h.size))
      have Hxs := Lib.hid (fun w' (h : Below (wr.alloc (.cells #[.int .i64 xr, .int .i64 xa, .int .i64 xd] 27)).heap.size (wr.alloc (.cells #[.int .i64 xr, .int .i64 xa, .int .i64 xd] 27)) w') => Nat.lt_of_lt_of_le (Nat.lt_succ_self wr.heap.size) (hzx ▸ h.size))
      clear sX sV hal hwl Hz
      cases h1 : voteB ⟨xr, xa, xd⟩ with
      | false =>
        rw [h1] at HV
        go_wp2_with fail
        generalize wr.alloc (.cells #[.int .i64 xr, .int .i64 xa, .int .i64 xd] 27) = w1 at *
        refine wp_region_held_drew (S := fun w' => Below w1.heap.size w1 w' ∧ w'.cell? ⟨w.heap.size, 0, none⟩ = some (.int .i64 f) ∧ w'.cell? ⟨w.heap.size, 1, none⟩ = some (.slice (some ⟨b, off, none⟩) g.length vc) ∧ w'.cell? ⟨wr.heap.size, 0, none⟩ = some (.int .i64 xr) ∧ w'.cell? ⟨wr.heap.size, 1, none⟩ = some (.int .i64 xa) ∧ w'.cell? ⟨wr.heap.size, 2, none⟩ = some (.int .i64 xd)) (by kernel_rfl) ⟨hb0, z0, z1, x0, x1, x2⟩ (fun hH => ?_)
        refine takeH 0 (v := ?va0) rfl (by kernel_rfl) (by kernel_rfl) (by kernel_rfl) (fun _ _ _ h => h) hH rfl ?ya0 ?ra0
        case ya0 => intro W hSw; go_simp; try with_reducible rfl
        try simp only [Act.put, List.setIfInBounds_toArray, List.set_cons_zero, List.set_cons_succ]
        refine callH 1 rfl (by kernel_rfl) rfl (fun K hK => ?_)
        go_simp
        go_at_call 32
        refine (HV.out _).mono ?_
        rintro e wx ⟨rfl, hbx⟩
        refine hK.out _ _ ⟨hH.1.trans (hbx.mono hH.1.size), (hbx.cell (p := ⟨w.heap.size, 0, none⟩) (Hws.out _ hH.1)).trans hH.2.1, (hbx.cell (p := ⟨w.heap.size, 1, none⟩) (Hws.out _ hH.1)).trans hH.2.2.1, (hbx.cell (p := ⟨wr.heap.size, 0, none⟩) (Hxs.out _ hH.1)).trans hH.2.2.2.1, (hbx.cell (p := ⟨wr.heap.size, 1, none⟩) (Hxs.out _ hH.1)).trans hH.2.2.2.2.1, (hbx.cell (p := ⟨wr.heap.size, 2, none⟩) (Hxs.out _ hH.1)).trans hH.2.2.2.2.2⟩ (fun hH => ?_)
        clear hK K
        try simp only [Act.put, List.setIfInBounds_toArray, List.set_cons_zero, List.set_cons_succ]
        refine takeH 2 (v := ?va2) rfl (by kernel_rfl) (by kernel_rfl) (by kernel_rfl) (fun _ _ _ h => h) hH rfl ?ya2 ?ra2
        case ya2 => intro W hSw; go_simp; try with_reducible rfl
        try simp only [Act.put, List.setIfInBounds_toArray, List.set_cons_zero, List.set_cons_succ]
        refine takeH 3 (v := ?va3) rfl (by kernel_rfl) (by kernel_rfl) (by kernel_rfl) (fun _ _ _ h => h) hH rfl ?ya3 ?ra3
        case ya3 => intro W hSw; go_simp; try with_reducible rfl
        try simp only [Act.put, List.setIfInBounds_toArray, List.set_cons_zero, List.set_cons_succ]
        refine skipH 4 rfl (by kernel_rfl) (by kernel_rfl) (by kernel_rfl) (fun _ _ _ h => h) hH rfl ?_
        try simp only [Act.put, List.setIfInBounds_toArray, List.set_cons_zero, List.set_cons_succ]
        refine skipH 5 rfl (by kernel_rfl) (by kernel_rfl) (by kernel_rfl) (fun _ _ _ h => h) hH rfl ?_
        try simp only [Act.put, List.setIfInBounds_toArray, List.set_cons_zero, List.set_cons_succ]
        refine skipH 6 rfl (by kernel_rfl) (by kernel_rfl) (by kernel_rfl) (fun _ _ _ h => h) hH rfl ?_
        try simp only [Act.put, List.setIfInBounds_toArray, List.set_cons_zero, List.set_cons_succ]
        refine skipH 7 rfl (by kernel_rfl) (by kernel_rfl) (by kernel_rfl) (fun _ _ _ h => h) hH rfl ?_
        try simp only [Act.put, List.setIfInBounds_toArray, List.set_cons_zero, List.set_cons_succ]
        refine skipH 8 rfl (by kernel_rfl) (by kernel_rfl) (by kernel_rfl) (fun _ _ _ h => h) hH rfl ?_
        try simp only [Act.put, List.setIfInBounds_toArray, List.set_cons_zero, List.set_cons_succ]
        refine takeH 9 (v := ?va9) rfl (by kernel_rfl) (by kernel_rfl) (by kernel_rfl) (fun _ _ _ h => h) hH rfl ?ya9 ?ra9
        case ya9 => intro W hSw; go_simp; try with_reducible rfl
        try simp only [Act.put, List.setIfInBounds_toArray, List.set_cons_zero, List.set_cons_succ]
        refine takeH 10 (v := ?va10) rfl (by kernel_rfl) (by kernel_rfl) (by kernel_rfl) (fun _ _ _ h => h) hH rfl ?ya10 ?ra10
        case ya10 => intro W hSw; go_simp; try with_reducible rfl
        try simp only [Act.put, List.setIfInBounds_toArray, List.set_cons_zero, List.set_cons_succ]
        refine skipH 11 rfl (by kernel_rfl) (by kernel_rfl) (by kernel_rfl) (fun _ _ _ h => h) hH rfl ?_
        try simp only [Act.put, List.setIfInBounds_toArray, List.set_cons_zero, List.set_cons_succ]
        refine skipH 12 rfl (by kernel_rfl) (by kernel_rfl) (by kernel_rfl) (fun _ _ _ h => h) hH rfl ?_
        try simp only [Act.put, List.setIfInBounds_toArray, List.set_cons_zero, List.set_cons_succ]
        refine skipH 13 rfl (by kernel_rfl) (by kernel_rfl) (by kernel_rfl) (fun _ _ _ h => h) hH rfl ?_
        try simp only [Act.put, List.setIfInBounds_toArray, List.set_cons_zero, List.set_cons_succ]
        refine skipH 14 rfl (by kernel_rfl) (by kernel_rfl) (by kernel_rfl) (fun _ _ _ h => h) hH rfl ?_
        try simp only [Act.put, List.setIfInBounds_toArray, List.set_cons_zero, List.set_cons_succ]
        refine skipH 15 rfl (by kernel_rfl) (by kernel_rfl) (by kernel_rfl) (fun _ _ _ h => h) hH rfl ?_
        try simp only [Act.put, List.setIfInBounds_toArray, List.set_cons_zero, List.set_cons_succ]
        refine skipH 16 rfl (by kernel_rfl) (by kernel_rfl) (by kernel_rfl) (fun _ _ _ h => h) hH rfl ?_
        try simp only [Act.put, List.setIfInBounds_toArray, List.set_cons_zero, List.set_cons_succ]
        refine skipH 17 rfl (by kernel_rfl) (by kernel_rfl) (by kernel_rfl) (fun _ _ _ h => h) hH rfl ?_
        try simp only [Act.put, List.setIfInBounds_toArray, List.set_cons_zero, List.set_cons_succ]
        refine skipH 18 rfl (by kernel_rfl) (by kernel_rfl) (by kernel_rfl) (fun _ _ _ h => h) hH rfl ?_
        try simp only [Act.put, List.setIfInBounds_toArray, List.set_cons_zero, List.set_cons_succ]
        refine skipH 19 rfl (by kernel_rfl) (by kernel_rfl) (by kernel_rfl) (fun _ _ _ h => h) hH rfl ?_
        try simp only [Act.put, List.setIfInBounds_toArray, List.set_cons_zero, List.set_cons_succ]
        refine skipH 20 rfl (by kernel_rfl) (by kernel_rfl) (by kernel_rfl) (fun _ _ _ h => h) hH rfl ?_
        try simp only [Act.put, List.setIfInBounds_toArray, List.set_cons_zero, List.set_cons_succ]
        refine skipH 21 rfl (by kernel_rfl) (by kernel_rfl) (by kernel_rfl) (fun _ _ _ h => h) hH rfl ?_
        try simp only [Act.put, List.setIfInBounds_toArray, List.set_cons_zero, List.set_cons_succ]
        refine skipH 22 rfl (by kernel_rfl) (by kernel_rfl) (by kernel_rfl) (fun _ _ _ h => h) hH rfl ?_
        try simp only [Act.put, List.setIfInBounds_toArray, List.set_cons_zero, List.set_cons_succ]
        refine skipH 23 rfl (by kernel_rfl) (by kernel_rfl) (by kernel_rfl) (fun _ _ _ h => h) hH rfl ?_
        try simp only [Act.put, List.setIfInBounds_toArray, List.set_cons_zero, List.set_cons_succ]
        refine takeH 24 (v := ?va24) rfl (by kernel_rfl) (by kernel_rfl) (by kernel_rfl) (fun _ _ _ h => h) hH rfl ?ya24 ?ra24
        case ya24 => intro W hSw; go_simp; try with_reducible rfl
        try simp only [Act.put, List.setIfInBounds_toArray, List.set_cons_zero, List.set_cons_succ]
        refine wpAnyH_done (by kernel_rfl) ?_ _
        try simp only [Act.put]
        have hz := allB_no hlt (show okVt f g k = false by rw [Hok.out, h1]; rfl)
        go_wp2
        go_ret
        exact ⟨ret_bool (by rw [Hres.out, hz]), Hb0.out.trans ((below_step Hbel.out Hbel.out.size hH.1).mono (by omega))⟩
      | true =>
      rw [h1] at HV
      by_cases h2 : xr < f
      · have hlo : decide (xr < f) = true := decide_eq_true h2
        go_wp2_with fail
        generalize wr.alloc (.cells #[.int .i64 xr, .int .i64 xa, .int .i64 xd] 27) = w1 at *
        refine wp_region_held_drew (S := fun w' => Below w1.heap.size w1 w' ∧ w'.cell? ⟨w.heap.size, 0, none⟩ = some (.int .i64 f) ∧ w'.cell? ⟨w.heap.size, 1, none⟩ = some (.slice (some ⟨b, off, none⟩) g.length vc) ∧ w'.cell? ⟨wr.heap.size, 0, none⟩ = some (.int .i64 xr) ∧ w'.cell? ⟨wr.heap.size, 1, none⟩ = some (.int .i64 xa) ∧ w'.cell? ⟨wr.heap.size, 2, none⟩ = some (.int .i64 xd)) (by kernel_rfl) ⟨hb0, z0, z1, x0, x1, x2⟩ (fun hH => ?_)
        refine takeH 0 (v := ?vb0) rfl (by kernel_rfl) (by kernel_rfl) (by kernel_rfl) (fun _ _ _ h => h) hH rfl ?yb0 ?rb0
        case yb0 => intro W hSw; go_simp; try with_reducible rfl
        try simp only [Act.put, List.setIfInBounds_toArray, List.set_cons_zero, List.set_cons_succ]
        refine callH 1 rfl (by kernel_rfl) rfl (fun K hK => ?_)
        go_simp
        go_at_call 32
        refine (HV.out _).mono ?_
        rintro e wx ⟨rfl, hbx⟩
        refine hK.out _ _ ⟨hH.1.trans (hbx.mono hH.1.size), (hbx.cell (p := ⟨w.heap.size, 0, none⟩) (Hws.out _ hH.1)).trans hH.2.1, (hbx.cell (p := ⟨w.heap.size, 1, none⟩) (Hws.out _ hH.1)).trans hH.2.2.1, (hbx.cell (p := ⟨wr.heap.size, 0, none⟩) (Hxs.out _ hH.1)).trans hH.2.2.2.1, (hbx.cell (p := ⟨wr.heap.size, 1, none⟩) (Hxs.out _ hH.1)).trans hH.2.2.2.2.1, (hbx.cell (p := ⟨wr.heap.size, 2, none⟩) (Hxs.out _ hH.1)).trans hH.2.2.2.2.2⟩ (fun hH => ?_)
        clear hK K
        try simp only [Act.put, List.setIfInBounds_toArray, List.set_cons_zero, List.set_cons_succ]
        refine takeH 2 (v := ?vb2) rfl (by kernel_rfl) (by kernel_rfl) (by kernel_rfl) (fun _ _ _ h => h) hH rfl ?yb2 ?rb2
        case yb2 => intro W hSw; go_simp; try with_reducible rfl
        try simp only [Act.put, List.setIfInBounds_toArray, List.set_cons_zero, List.set_cons_succ]
        refine takeH 3 (v := ?vb3) rfl (by kernel_rfl) (by kernel_rfl) (by kernel_rfl) (fun _ _ _ h => h) hH rfl ?yb3 ?rb3
        case yb3 => intro W hSw; go_simp; try with_reducible rfl
        try simp only [Act.put, List.setIfInBounds_toArray, List.set_cons_zero, List.set_cons_succ]
        refine takeH 4 (v := ?vb4) rfl (by kernel_rfl) (by kernel_rfl) (by kernel_rfl) (fun _ _ _ h => h) hH rfl ?yb4 ?rb4
        case yb4 => intro W hSw; go_simp; try with_reducible rfl
        try simp only [Act.put, List.setIfInBounds_toArray, List.set_cons_zero, List.set_cons_succ]
        refine takeH 5 (v := ?vb5) rfl (by kernel_rfl) (by kernel_rfl) (by kernel_rfl) (fun _ _ _ h => h) hH rfl ?yb5 ?rb5
        case yb5 => intro W hSw; go_simp; try with_reducible rfl
        try simp only [Act.put, List.setIfInBounds_toArray, List.set_cons_zero, List.set_cons_succ]
        refine takeH 6 (v := ?vb6) rfl (by kernel_rfl) (by kernel_rfl) (by kernel_rfl) (fun _ _ _ h => h) hH rfl ?yb6 ?rb6
        case yb6 => intro W hSw; go_simp; try with_reducible rfl
        try simp only [Act.put, List.setIfInBounds_toArray, List.set_cons_zero, List.set_cons_succ]
        refine takeH 7 (v := ?vb7) rfl (by kernel_rfl) (by kernel_rfl) (by kernel_rfl) (fun _ _ _ h => h) hH rfl ?yb7 ?rb7
        case yb7 => intro W hSw; go_simp; try with_reducible rfl
        try simp only [Act.put, List.setIfInBounds_toArray, List.set_cons_zero, List.set_cons_succ]
        refine takeH 8 (v := .bool true) rfl (by kernel_rfl) (by kernel_rfl) (by kernel_rfl) (fun _ _ _ h => h) hH rfl ?yb8 ?rb8
        case yb8 => intro W hSw; go_simp; first | done | simp only [hlo] | omega | (simp; omega)
        try simp only [Act.put, List.setIfInBounds_toArray, List.set_cons_zero, List.set_cons_succ]
        refine takeH 9 (v := ?vb9) rfl (by kernel_rfl) (by kernel_rfl) (by kernel_rfl) (fun _ _ _ h => h) hH rfl ?yb9 ?rb9
        case yb9 => intro W hSw; go_simp; try with_reducible rfl
        try simp only [Act.put, List.setIfInBounds_toArray, List.set_cons_zero, List.set_cons_succ]
        refine takeH 10 (v := ?vb10) rfl (by kernel_rfl) (by kernel_rfl) (by kernel_rfl) (fun _ _ _ h => h) hH rfl ?yb10 ?rb10
        case yb10 => intro W hSw; go_simp; try with_reducible rfl
        try simp only [Act.put, List.setIfInBounds_toArray, List.set_cons_zero, List.set_cons_succ]
        refine skipH 11 rfl (by kernel_rfl) (by kernel_rfl) (by kernel_rfl) (fun _ _ _ h => h) hH rfl ?_
        try simp only [Act.put, List.setIfInBounds_toArray, List.set_cons_zero, List.set_cons_succ]
        refine skipH 12 rfl (by kernel_rfl) (by kernel_rfl) (by kernel_rfl) (fun _ _ _ h => h) hH rfl ?_
        try simp only [Act.put, List.setIfInBounds_toArray, List.set_cons_zero, List.set_cons_succ]
        refine skipH 13 rfl (by kernel_rfl) (by kernel_rfl) (by kernel_rfl) (fun _ _ _ h => h) hH rfl ?_
        try simp only [Act.put, List.setIfInBounds_toArray, List.set_cons_zero, List.set_cons_succ]
        refine skipH 14 rfl (by kernel_rfl) (by kernel_rfl) (by kernel_rfl) (fun _ _ _ h => h) hH rfl ?_
        try simp only [Act.put, List.setIfInBounds_toArray, List.set_cons_zero, List.set_cons_succ]
        refine skipH 15 rfl (by kernel_rfl) (by kernel_rfl) (by kernel_rfl) (fun _ _ _ h => h) hH rfl ?_
        try simp only [Act.put, List.setIfInBounds_toArray, List.set_cons_zero, List.set_cons_succ]
        refine skipH 16 rfl (by kernel_rfl) (by kernel_rfl) (by kernel_rfl) (fun _ _ _ h => h) hH rfl ?_
        try simp only [Act.put, List.setIfInBounds_toArray, List.set_cons_zero, List.set_cons_succ]
        refine skipH 17 rfl (by kernel_rfl) (by kernel_rfl) (by kernel_rfl) (fun _ _ _ h => h) hH rfl ?_
        try simp only [Act.put, List.setIfInBounds_toArray, List.set_cons_zero, List.set_cons_succ]
        refine skipH 18 rfl (by kernel_rfl) (by kernel_rfl) (by kernel_rfl) (fun _ _ _ h => h) hH rfl ?_
        try simp only [Act.put, List.setIfInBounds_toArray, List.set_cons_zero, List.set_cons_succ]
        refine skipH 19 rfl (by kernel_rfl) (by kernel_rfl) (by kernel_rfl) (fun _ _ _ h => h) hH rfl ?_
        try simp only [Act.put, List.setIfInBounds_toArray, List.set_cons_zero, List.set_cons_succ]
        refine skipH 20 rfl (by kernel_rfl) (by kernel_rfl) (by kernel_rfl) (fun _ _ _ h => h) hH rfl ?_
        try simp only [Act.put, List.setIfInBounds_toArray, List.set_cons_zero, List.set_cons_succ]
        refine skipH 21 rfl (by kernel_rfl) (by kernel_rfl) (by kernel_rfl) (fun _ _ _ h => h) hH rfl ?_
        try simp only [Act.put, List.setIfInBounds_toArray, List.set_cons_zero, List.set_cons_succ]
        refine skipH 22 rfl (by kernel_rfl) (by kernel_rfl) (by kernel_rfl) (fun _ _ _ h => h) hH rfl ?_
        try simp only [Act.put, List.setIfInBounds_toArray, List.set_cons_zero, List.set_cons_succ]
        refine skipH 23 rfl (by kernel_rfl) (by kernel_rfl) (by kernel_rfl) (fun _ _ _ h => h) hH rfl ?_
        try simp only [Act.put, List.setIfInBounds_toArray, List.set_cons_zero, List.set_cons_succ]
        refine takeH 24 (v := ?vb24) rfl (by kernel_rfl) (by kernel_rfl) (by kernel_rfl) (fun _ _ _ h => h) hH rfl ?yb24 ?rb24
        case yb24 => intro W hSw; go_simp; try with_reducible rfl
        try simp only [Act.put, List.setIfInBounds_toArray, List.set_cons_zero, List.set_cons_succ]
        refine wpAnyH_done (by kernel_rfl) ?_ _
        try simp only [Act.put]
        have hz := allB_no hlt (show okVt f g k = false by rw [Hok.out, h1, decide_eq_false (show ¬ f ≤ xr by omega)]; rfl)
        go_wp2
        go_ret
        exact ⟨ret_bool (by rw [Hres.out, hz]), Hb0.out.trans ((below_step Hbel.out Hbel.out.size hH.1).mono (by omega))⟩
      have hlo : decide (xr < f) = false := decide_eq_false h2
      have hw1 : IntKind.i64.wrap ((k : Int) - 1) = k - 1 := IntWalk.i64_in _ (by omega)
      by_cases h0 : k = 0
      · have hgt : decide ((0 : Int) < (k : Int)) = false := decide_eq_false (by omega)
        have hgt' : ¬ (0 : Int) < (k : Int) := by omega
        have hok : okVt f g k = true := by rw [Hok.out, h1, h0, decide_eq_true (show f ≤ xr by omega)]; rfl
        have Hok := Lib.hid hok; clear hok hw1
        have H0 := Lib.hid h0; clear h0
        go_wp2_with fail
        generalize wr.alloc (.cells #[.int .i64 xr, .int .i64 xa, .int .i64 xd] 27) = w1 at *
        refine wp_region_held_drew (S := fun w' => Below w1.heap.size w1 w' ∧ w'.cell? ⟨w.heap.size, 0, none⟩ = some (.int .i64 f) ∧ w'.cell? ⟨w.heap.size, 1, none⟩ = some (.slice (some ⟨b, off, none⟩) g.length vc) ∧ w'.cell? ⟨wr.heap.size, 0, none⟩ = some (.int .i64 xr) ∧ w'.cell? ⟨wr.heap.size, 1, none⟩ = some (.int .i64 xa) ∧ w'.cell? ⟨wr.heap.size, 2, none⟩ = some (.int .i64 xd)) (by kernel_rfl) ⟨hb0, z0, z1, x0, x1, x2⟩ (fun hH => ?_)
        refine takeH 0 (v := ?vc0) rfl (by kernel_rfl) (by kernel_rfl) (by kernel_rfl) (fun _ _ _ h => h) hH rfl ?yc0 ?rc0
        case yc0 => intro W hSw; go_simp; try with_reducible rfl
        try simp only [Act.put, List.setIfInBounds_toArray, List.set_cons_zero, List.set_cons_succ]
        refine callH 1 rfl (by kernel_rfl) rfl (fun K hK => ?_)
        go_simp
        go_at_call 32
        refine (HV.out _).mono ?_
        rintro e wx ⟨rfl, hbx⟩
        refine hK.out _ _ ⟨hH.1.trans (hbx.mono hH.1.size), (hbx.cell (p := ⟨w.heap.size, 0, none⟩) (Hws.out _ hH.1)).trans hH.2.1, (hbx.cell (p := ⟨w.heap.size, 1, none⟩) (Hws.out _ hH.1)).trans hH.2.2.1, (hbx.cell (p := ⟨wr.heap.size, 0, none⟩) (Hxs.out _ hH.1)).trans hH.2.2.2.1, (hbx.cell (p := ⟨wr.heap.size, 1, none⟩) (Hxs.out _ hH.1)).trans hH.2.2.2.2.1, (hbx.cell (p := ⟨wr.heap.size, 2, none⟩) (Hxs.out _ hH.1)).trans hH.2.2.2.2.2⟩ (fun hH => ?_)
        clear hK K
        try simp only [Act.put, List.setIfInBounds_toArray, List.set_cons_zero, List.set_cons_succ]
        refine takeH 2 (v := ?vc2) rfl (by kernel_rfl) (by kernel_rfl) (by kernel_rfl) (fun _ _ _ h => h) hH rfl ?yc2 ?rc2
        case yc2 => intro W hSw; go_simp; try with_reducible rfl
        try simp only [Act.put, List.setIfInBounds_toArray, List.set_cons_zero, List.set_cons_succ]
        refine takeH 3 (v := ?vc3) rfl (by kernel_rfl) (by kernel_rfl) (by kernel_rfl) (fun _ _ _ h => h) hH rfl ?yc3 ?rc3
        case yc3 => intro W hSw; go_simp; try with_reducible rfl
        try simp only [Act.put, List.setIfInBounds_toArray, List.set_cons_zero, List.set_cons_succ]
        refine takeH 4 (v := ?vc4) rfl (by kernel_rfl) (by kernel_rfl) (by kernel_rfl) (fun _ _ _ h => h) hH rfl ?yc4 ?rc4
        case yc4 => intro W hSw; go_simp; try with_reducible rfl
        try simp only [Act.put, List.setIfInBounds_toArray, List.set_cons_zero, List.set_cons_succ]
        refine takeH 5 (v := ?vc5) rfl (by kernel_rfl) (by kernel_rfl) (by kernel_rfl) (fun _ _ _ h => h) hH rfl ?yc5 ?rc5
        case yc5 => intro W hSw; go_simp; try with_reducible rfl
        try simp only [Act.put, List.setIfInBounds_toArray, List.set_cons_zero, List.set_cons_succ]
        refine takeH 6 (v := ?vc6) rfl (by kernel_rfl) (by kernel_rfl) (by kernel_rfl) (fun _ _ _ h => h) hH rfl ?yc6 ?rc6
        case yc6 => intro W hSw; go_simp; try with_reducible rfl
        try simp only [Act.put, List.setIfInBounds_toArray, List.set_cons_zero, List.set_cons_succ]
        refine takeH 7 (v := ?vc7) rfl (by kernel_rfl) (by kernel_rfl) (by kernel_rfl) (fun _ _ _ h => h) hH rfl ?yc7 ?rc7
        case yc7 => intro W hSw; go_simp; try with_reducible rfl
        try simp only [Act.put, List.setIfInBounds_toArray, List.set_cons_zero, List.set_cons_succ]
        refine takeH 8 (v := .bool false) rfl (by kernel_rfl) (by kernel_rfl) (by kernel_rfl) (fun _ _ _ h => h) hH rfl ?yc8 ?rc8
        case yc8 => intro W hSw; go_simp; first | done | simp only [hlo] | omega | (simp; omega)
        try simp only [Act.put, List.setIfInBounds_toArray, List.set_cons_zero, List.set_cons_succ]
        refine takeH 9 (v := ?vc9) rfl (by kernel_rfl) (by kernel_rfl) (by kernel_rfl) (fun _ _ _ h => h) hH rfl ?yc9 ?rc9
        case yc9 => intro W hSw; go_simp; try with_reducible rfl
        try simp only [Act.put, List.setIfInBounds_toArray, List.set_cons_zero, List.set_cons_succ]
        refine takeH 10 (v := ?vc10) rfl (by kernel_rfl) (by kernel_rfl) (by kernel_rfl) (fun _ _ _ h => h) hH rfl ?yc10 ?rc10
        case yc10 => intro W hSw; go_simp; try with_reducible rfl
        try simp only [Act.put, List.setIfInBounds_toArray, List.set_cons_zero, List.set_cons_succ]
        refine takeH 11 (v := ?vc11) rfl (by kernel_rfl) (by kernel_rfl) (by kernel_rfl) (fun _ _ _ h => h) hH rfl ?yc11 ?rc11
        case yc11 => intro W hSw; go_simp; try with_reducible rfl
        try simp only [Act.put, List.setIfInBounds_toArray, List.set_cons_zero, List.set_cons_succ]
        refine takeH 12 (v := .bool false) rfl (by kernel_rfl) (by kernel_rfl) (by kernel_rfl) (fun _ _ _ h => h) hH rfl ?yc12 ?rc12
        case yc12 => intro W hSw; go_simp; first | done | simp only [hgt] | omega | (simp; omega)
        try simp only [Act.put, List.setIfInBounds_toArray, List.set_cons_zero, List.set_cons_succ]
        refine takeH 13 (v := ?vc13) rfl (by kernel_rfl) (by kernel_rfl) (by kernel_rfl) (fun _ _ _ h => h) hH rfl ?yc13 ?rc13
        case yc13 => intro W hSw; go_simp; try with_reducible rfl
        try simp only [Act.put, List.setIfInBounds_toArray, List.set_cons_zero, List.set_cons_succ]
        refine skipH 14 rfl (by kernel_rfl) (by kernel_rfl) (by kernel_rfl) (fun _ _ _ h => h) hH rfl ?_
        try simp only [Act.put, List.setIfInBounds_toArray, List.set_cons_zero, List.set_cons_succ]
        refine skipH 15 rfl (by kernel_rfl) (by kernel_rfl) (by kernel_rfl) (fun _ _ _ h => h) hH rfl ?_
        try simp only [Act.put, List.setIfInBounds_toArray, List.set_cons_zero, List.set_cons_succ]
        refine skipH 16 rfl (by kernel_rfl) (by kernel_rfl) (by kernel_rfl) (fun _ _ _ h => h) hH rfl ?_
        try simp only [Act.put, List.setIfInBounds_toArray, List.set_cons_zero, List.set_cons_succ]
        refine skipH 17 rfl (by kernel_rfl) (by kernel_rfl) (by kernel_rfl) (fun _ _ _ h => h) hH rfl ?_
        try simp only [Act.put, List.setIfInBounds_toArray, List.set_cons_zero, List.set_cons_succ]
        refine skipH 18 rfl (by kernel_rfl) (by kernel_rfl) (by kernel_rfl) (fun _ _ _ h => h) hH rfl ?_
        try simp only [Act.put, List.setIfInBounds_toArray, List.set_cons_zero, List.set_cons_succ]
        refine skipH 19 rfl (by kernel_rfl) (by kernel_rfl) (by kernel_rfl) (fun _ _ _ h => h) hH rfl ?_
        try simp only [Act.put, List.setIfInBounds_toArray, List.set_cons_zero, List.set_cons_succ]
        refine skipH 20 rfl (by kernel_rfl) (by kernel_rfl) (by kernel_rfl) (fun _ _ _ h => h) hH rfl ?_
        try simp only [Act.put, List.setIfInBounds_toArray, List.set_cons_zero, List.set_cons_succ]
        refine skipH 21 rfl (by kernel_rfl) (by kernel_rfl) (by kernel_rfl) (fun _ _ _ h => h) hH rfl ?_
        try simp only [Act.put, List.setIfInBounds_toArray, List.set_cons_zero, List.set_cons_succ]
        refine skipH 22 rfl (by kernel_rfl) (by kernel_rfl) (by kernel_rfl) (fun _ _ _ h => h) hH rfl ?_
        try simp only [Act.put, List.setIfInBounds_toArray, List.set_cons_zero, List.set_cons_succ]
        refine takeH 23 (v := ?vc23) rfl (by kernel_rfl) (by kernel_rfl) (by kernel_rfl) (fun _ _ _ h => h) hH rfl ?yc23 ?rc23
        case yc23 => intro W hSw; go_simp; try with_reducible rfl
        try simp only [Act.put, List.setIfInBounds_toArray, List.set_cons_zero, List.set_cons_succ]
        refine takeH 24 (v := ?vc24) rfl (by kernel_rfl) (by kernel_rfl) (by kernel_rfl) (fun _ _ _ h => h) hH rfl ?yc24 ?rc24
        case yc24 => intro W hSw; go_simp; try with_reducible rfl
        try simp only [Act.put, List.setIfInBounds_toArray, List.set_cons_zero, List.set_cons_succ]
        refine wpAnyH_done (by kernel_rfl) ?_ _
        try simp only [Act.put]
        go_wp2
        go_roundw
        case rel => exact ⟨k + 1, by omega, by go_num, upto_step Hup.out Hok.out, below_step Hbel.out Hbel.out.size hH.1⟩
        case measure => simp [intOf]; omega
      · have hgt : decide ((0 : Int) < (k : Int)) = true := decide_eq_true (by omega)
        have hgt' : (0 : Int) < (k : Int) := by omega
        obtain ⟨d0, d1, d2⟩ := Hat.out (k - 1) (by omega)
        have hgy := getVt (show k - 1 < g.length by omega)
        have hok : okVt f g k = vbefB g[k - 1] ⟨xr, xa, xd⟩ := by rw [Hok.out, h1, hgy, show (k == 0) = false by simpa using h0, decide_eq_true (show f ≤ xr by omega)]; rfl
        rw [vbef_cmp] at hok
        have Hok := Lib.hid hok; clear hok hgy
        have HB := Lib.hid (HB.out g[k - 1])
        generalize hy : g[k - 1] = y at *
        obtain ⟨yr, ya, yd⟩ := y
        dsimp only at *
        clear hy
        have e3 : ((k : Int) - 1).toNat = k - 1 := by omega
        have e4 : 0 ≤ (k : Int) - 1 := by omega
        have e5 : 1 ≤ (k : Int) := by omega
        have e6 : (k : Int) - 1 < g.length := by omega
        generalize vcmpZ ⟨yr, ya, yd⟩ ⟨xr, xa, xd⟩ = cz at *
        by_cases h3 : 0 ≤ cz
        · have hge : decide (0 ≤ cz) = true := decide_eq_true h3
          go_wp2_with fail
          generalize wr.alloc (.cells #[.int .i64 xr, .int .i64 xa, .int .i64 xd] 27) = w1 at *
          refine wp_region_held_drew (S := fun w' => Below w1.heap.size w1 w' ∧ w'.cell? ⟨w.heap.size, 0, none⟩ = some (.int .i64 f) ∧ w'.cell? ⟨w.heap.size, 1, none⟩ = some (.slice (some ⟨b, off, none⟩) g.length vc) ∧ w'.cell? ⟨wr.heap.size, 0, none⟩ = some (.int .i64 xr) ∧ w'.cell? ⟨wr.heap.size, 1, none⟩ = some (.int .i64 xa) ∧ w'.cell? ⟨wr.heap.size, 2, none⟩ = some (.int .i64 xd) ∧ w'.cell? ⟨b, off + (k - 1) * 3, none⟩ = some (.int .i64 yr) ∧ w'.cell? ⟨b, off + (k - 1) * 3 + 1, none⟩ = some (.int .i64 ya) ∧ w'.cell? ⟨b, off + (k - 1) * 3 + 2, none⟩ = some (.int .i64 yd)) (by kernel_rfl) ⟨hb0, z0, z1, x0, x1, x2, d0, d1, d2⟩ (fun hH => ?_)
          refine takeH 0 (v := ?vd0) rfl (by kernel_rfl) (by kernel_rfl) (by kernel_rfl) (fun _ _ _ h => h) hH rfl ?yd0 ?rd0
          case yd0 => intro W hSw; go_simp; try with_reducible rfl
          try simp only [Act.put, List.setIfInBounds_toArray, List.set_cons_zero, List.set_cons_succ]
          refine callH 1 rfl (by kernel_rfl) rfl (fun K hK => ?_)
          go_simp
          go_at_call 32
          refine (HV.out _).mono ?_
          rintro e wx ⟨rfl, hbx⟩
          refine hK.out _ _ ⟨hH.1.trans (hbx.mono hH.1.size), (hbx.cell (p := ⟨w.heap.size, 0, none⟩) (Hws.out _ hH.1)).trans hH.2.1, (hbx.cell (p := ⟨w.heap.size, 1, none⟩) (Hws.out _ hH.1)).trans hH.2.2.1, (hbx.cell (p := ⟨wr.heap.size, 0, none⟩) (Hxs.out _ hH.1)).trans hH.2.2.2.1, (hbx.cell (p := ⟨wr.heap.size, 1, none⟩) (Hxs.out _ hH.1)).trans hH.2.2.2.2.1, (hbx.cell (p := ⟨wr.heap.size, 2, none⟩) (Hxs.out _ hH.1)).trans hH.2.2.2.2.2.1, (hbx.cell (p := ⟨b, off + (k - 1) * 3, none⟩) (Hbs.out _ hH.1)).trans hH.2.2.2.2.2.2.1, (hbx.cell (p := ⟨b, off + (k - 1) * 3 + 1, none⟩) (Hbs.out _ hH.1)).trans hH.2.2.2.2.2.2.2.1, (hbx.cell (p := ⟨b, off + (k - 1) * 3 + 2, none⟩) (Hbs.out _ hH.1)).trans hH.2.2.2.2.2.2.2.2⟩ (fun hH => ?_)
          clear hK K
          try simp only [Act.put, List.setIfInBounds_toArray, List.set_cons_zero, List.set_cons_succ]
          refine takeH 2 (v := ?vd2) rfl (by kernel_rfl) (by kernel_rfl) (by kernel_rfl) (fun _ _ _ h => h) hH rfl ?yd2 ?rd2
          case yd2 => intro W hSw; go_simp; try with_reducible rfl
          try simp only [Act.put, List.setIfInBounds_toArray, List.set_cons_zero, List.set_cons_succ]
          refine takeH 3 (v := ?vd3) rfl (by kernel_rfl) (by kernel_rfl) (by kernel_rfl) (fun _ _ _ h => h) hH rfl ?yd3 ?rd3
          case yd3 => intro W hSw; go_simp; try with_reducible rfl
          try simp only [Act.put, List.setIfInBounds_toArray, List.set_cons_zero, List.set_cons_succ]
          refine takeH 4 (v := ?vd4) rfl (by kernel_rfl) (by kernel_rfl) (by kernel_rfl) (fun _ _ _ h => h) hH rfl ?yd4 ?rd4
          case yd4 => intro W hSw; go_simp; try with_reducible rfl
          try simp only [Act.put, List.setIfInBounds_toArray, List.set_cons_zero, List.set_cons_succ]
          refine takeH 5 (v := ?vd5) rfl (by kernel_rfl) (by kernel_rfl) (by kernel_rfl) (fun _ _ _ h => h) hH rfl ?yd5 ?rd5
          case yd5 => intro W hSw; go_simp; try with_reducible rfl
          try simp only [Act.put, List.setIfInBounds_toArray, List.set_cons_zero, List.set_cons_succ]
          refine takeH 6 (v := ?vd6) rfl (by kernel_rfl) (by kernel_rfl) (by kernel_rfl) (fun _ _ _ h => h) hH rfl ?yd6 ?rd6
          case yd6 => intro W hSw; go_simp; try with_reducible rfl
          try simp only [Act.put, List.setIfInBounds_toArray, List.set_cons_zero, List.set_cons_succ]
          refine takeH 7 (v := ?vd7) rfl (by kernel_rfl) (by kernel_rfl) (by kernel_rfl) (fun _ _ _ h => h) hH rfl ?yd7 ?rd7
          case yd7 => intro W hSw; go_simp; try with_reducible rfl
          try simp only [Act.put, List.setIfInBounds_toArray, List.set_cons_zero, List.set_cons_succ]
          refine takeH 8 (v := .bool false) rfl (by kernel_rfl) (by kernel_rfl) (by kernel_rfl) (fun _ _ _ h => h) hH rfl ?yd8 ?rd8
          case yd8 => intro W hSw; go_simp; first | done | simp only [hlo] | omega | (simp; omega)
          try simp only [Act.put, List.setIfInBounds_toArray, List.set_cons_zero, List.set_cons_succ]
          refine takeH 9 (v := ?vd9) rfl (by kernel_rfl) (by kernel_rfl) (by kernel_rfl) (fun _ _ _ h => h) hH rfl ?yd9 ?rd9
          case yd9 => intro W hSw; go_simp; try with_reducible rfl
          try simp only [Act.put, List.setIfInBounds_toArray, List.set_cons_zero, List.set_cons_succ]
          refine takeH 10 (v := ?vd10) rfl (by kernel_rfl) (by kernel_rfl) (by kernel_rfl) (fun _ _ _ h => h) hH rfl ?yd10 ?rd10
          case yd10 => intro W hSw; go_simp; try with_reducible rfl
          try simp only [Act.put, List.setIfInBounds_toArray, List.set_cons_zero, List.set_cons_succ]
          refine takeH 11 (v := ?vd11) rfl (by kernel_rfl) (by kernel_rfl) (by kernel_rfl) (fun _ _ _ h => h) hH rfl ?yd11 ?rd11
          case yd11 => intro W hSw; go_simp; try with_reducible rfl
          try simp only [Act.put, List.setIfInBounds_toArray, List.set_cons_zero, List.set_cons_succ]
          refine takeH 12 (v := .bool true) rfl (by kernel_rfl) (by kernel_rfl) (by kernel_rfl) (fun _ _ _ h => h) hH rfl ?yd12 ?rd12
          case yd12 => intro W hSw; go_simp; first | done | simp only [hgt] | omega | (simp; omega)
          try simp only [Act.put, List.setIfInBounds_toArray, List.set_cons_zero, List.set_cons_succ]
          refine takeH 13 (v := ?vd13) rfl (by kernel_rfl) (by kernel_rfl) (by kernel_rfl) (fun _ _ _ h => h) hH rfl ?yd13 ?rd13
          case yd13 => intro W hSw; go_simp; try with_reducible rfl
          try simp only [Act.put, List.setIfInBounds_toArray, List.set_cons_zero, List.set_cons_succ]
          refine takeH 14 (v := ?vd14) rfl (by kernel_rfl) (by kernel_rfl) (by kernel_rfl) (fun _ _ _ h => h) hH rfl ?yd14 ?rd14
          case yd14 => intro W hSw; go_simp; try with_reducible rfl
          try simp only [Act.put, List.setIfInBounds_toArray, List.set_cons_zero, List.set_cons_succ]
          refine takeH 15 (v := ?vd15) rfl (by kernel_rfl) (by kernel_rfl) (by kernel_rfl) (fun _ _ _ h => h) hH rfl ?yd15 ?rd15
          case yd15 => intro W hSw; go_simp; try with_reducible rfl
          try simp only [Act.put, List.setIfInBounds_toArray, List.set_cons_zero, List.set_cons_succ]
          refine takeH 16 (v := ?vd16) rfl (by kernel_rfl) (by kernel_rfl) (by kernel_rfl) (fun _ _ _ h => h) hH rfl ?yd16 ?rd16
          case yd16 => intro W hSw; go_simp; try with_reducible rfl
          try simp only [Act.put, List.setIfInBounds_toArray, List.set_cons_zero, List.set_cons_succ]
          refine takeH 17 (v := ?vd17) rfl (by kernel_rfl) (by kernel_rfl) (by kernel_rfl) (fun _ _ _ h => h) hH rfl ?yd17 ?rd17
          case yd17 => intro W hSw; go_simp; try with_reducible rfl
          try simp only [Act.put, List.setIfInBounds_toArray, List.set_cons_zero, List.set_cons_succ]
          refine takeH 18 (v := ?vd18) rfl (by kernel_rfl) (by kernel_rfl) (by kernel_rfl) (fun _ _ _ h => h) hH rfl ?yd18 ?rd18
          case yd18 => intro W hSw; go_simp; try with_reducible rfl
          try simp only [Act.put, List.setIfInBounds_toArray, List.set_cons_zero, List.set_cons_succ]
          refine takeH 19 (v := ?vd19) rfl (by kernel_rfl) (by kernel_rfl) (by kernel_rfl) (fun _ _ _ h => h) hH rfl ?yd19 ?rd19
          case yd19 => intro W hSw; go_simp; try with_reducible rfl
          try simp only [Act.put, List.setIfInBounds_toArray, List.set_cons_zero, List.set_cons_succ]
          refine takeH 20 (v := ?vd20) rfl (by kernel_rfl) (by kernel_rfl) (by kernel_rfl) (fun _ _ _ h => h) hH rfl ?yd20 ?rd20
          case yd20 => intro W hSw; go_simp; try with_reducible rfl
          try simp only [Act.put, List.setIfInBounds_toArray, List.set_cons_zero, List.set_cons_succ]
          refine callH 21 rfl (by kernel_rfl) rfl (fun K hK => ?_)
          go_simp
          go_at_call 40
          refine (HB.out _).mono ?_
          rintro e wx ⟨rfl, hbx⟩
          refine hK.out _ _ ⟨hH.1.trans (hbx.mono hH.1.size), (hbx.cell (p := ⟨w.heap.size, 0, none⟩) (Hws.out _ hH.1)).trans hH.2.1, (hbx.cell (p := ⟨w.heap.size, 1, none⟩) (Hws.out _ hH.1)).trans hH.2.2.1, (hbx.cell (p := ⟨wr.heap.size, 0, none⟩) (Hxs.out _ hH.1)).trans hH.2.2.2.1, (hbx.cell (p := ⟨wr.heap.size, 1, none⟩) (Hxs.out _ hH.1)).trans hH.2.2.2.2.1, (hbx.cell (p := ⟨wr.heap.size, 2, none⟩) (Hxs.out _ hH.1)).trans hH.2.2.2.2.2.1, (hbx.cell (p := ⟨b, off + (k - 1) * 3, none⟩) (Hbs.out _ hH.1)).trans hH.2.2.2.2.2.2.1, (hbx.cell (p := ⟨b, off + (k - 1) * 3 + 1, none⟩) (Hbs.out _ hH.1)).trans hH.2.2.2.2.2.2.2.1, (hbx.cell (p := ⟨b, off + (k - 1) * 3 + 2, none⟩) (Hbs.out _ hH.1)).trans hH.2.2.2.2.2.2.2.2⟩ (fun hH => ?_)
          clear hK K
          try simp only [Act.put, List.setIfInBounds_toArray, List.set_cons_zero, List.set_cons_succ]
          refine takeH 22 (v := .bool true) rfl (by kernel_rfl) (by kernel_rfl) (by kernel_rfl) (fun _ _ _ h => h) hH rfl ?yd22 ?rd22
          case yd22 => intro W hSw; go_simp; first | done | simp only [hge] | omega | (simp; omega)
          try simp only [Act.put, List.setIfInBounds_toArray, List.set_cons_zero, List.set_cons_succ]
          refine takeH 23 (v := ?vd23) rfl (by kernel_rfl) (by kernel_rfl) (by kernel_rfl) (fun _ _ _ h => h) hH rfl ?yd23 ?rd23
          case yd23 => intro W hSw; go_simp; try with_reducible rfl
          try simp only [Act.put, List.setIfInBounds_toArray, List.set_cons_zero, List.set_cons_succ]
          refine takeH 24 (v := ?vd24) rfl (by kernel_rfl) (by kernel_rfl) (by kernel_rfl) (fun _ _ _ h => h) hH rfl ?yd24 ?rd24
          case yd24 => intro W hSw; go_simp; try with_reducible rfl
          try simp only [Act.put, List.setIfInBounds_toArray, List.set_cons_zero, List.set_cons_succ]
          refine wpAnyH_done (by kernel_rfl) ?_ _
          try simp only [Act.put]
          have hz := allB_no hlt (show okVt f g k = false by rw [Hok.out]; exact decide_eq_false (by omega))
          go_wp2
          go_ret
          exact ⟨ret_bool (by rw [Hres.out, hz]), Hb0.out.trans ((below_step Hbel.out Hbel.out.size hH.1).mono (by omega))⟩
        · have hge : decide (0 ≤ cz) = false := decide_eq_false h3
          go_wp2_with fail
          generalize wr.alloc (.cells #[.int .i64 xr, .int .i64 xa, .int .i64 xd] 27) = w1 at *
          refine wp_region_held_drew (S := fun w' => Below w1.heap.size w1 w' ∧ w'.cell? ⟨w.heap.size, 0, none⟩ = some (.int .i64 f) ∧ w'.cell? ⟨w.heap.size, 1, none⟩ = some (.slice (some ⟨b, off, none⟩) g.length vc) ∧ w'.cell? ⟨wr.heap.size, 0, none⟩ = some (.int .i64 xr) ∧ w'.cell? ⟨wr.heap.size, 1, none⟩ = some (.int .i64 xa) ∧ w'.cell? ⟨wr.heap.size, 2, none⟩ = some (.int .i64 xd) ∧ w'.cell? ⟨b, off + (k - 1) * 3, none⟩ = some (.int .i64 yr) ∧ w'.cell? ⟨b, off + (k - 1) * 3 + 1, none⟩ = some (.int .i64 ya) ∧ w'.cell? ⟨b, off + (k - 1) * 3 + 2, none⟩ = some (.int .i64 yd)) (by kernel_rfl) ⟨hb0, z0, z1, x0, x1, x2, d0, d1, d2⟩ (fun hH => ?_)
          refine takeH 0 (v := ?ve0) rfl (by kernel_rfl) (by kernel_rfl) (by kernel_rfl) (fun _ _ _ h => h) hH rfl ?ye0 ?re0
          case ye0 => intro W hSw; go_simp; try with_reducible rfl
          try simp only [Act.put, List.setIfInBounds_toArray, List.set_cons_zero, List.set_cons_succ]
          refine callH 1 rfl (by kernel_rfl) rfl (fun K hK => ?_)
          go_simp
          go_at_call 32
          refine (HV.out _).mono ?_
          rintro e wx ⟨rfl, hbx⟩
          refine hK.out _ _ ⟨hH.1.trans (hbx.mono hH.1.size), (hbx.cell (p := ⟨w.heap.size, 0, none⟩) (Hws.out _ hH.1)).trans hH.2.1, (hbx.cell (p := ⟨w.heap.size, 1, none⟩) (Hws.out _ hH.1)).trans hH.2.2.1, (hbx.cell (p := ⟨wr.heap.size, 0, none⟩) (Hxs.out _ hH.1)).trans hH.2.2.2.1, (hbx.cell (p := ⟨wr.heap.size, 1, none⟩) (Hxs.out _ hH.1)).trans hH.2.2.2.2.1, (hbx.cell (p := ⟨wr.heap.size, 2, none⟩) (Hxs.out _ hH.1)).trans hH.2.2.2.2.2.1, (hbx.cell (p := ⟨b, off + (k - 1) * 3, none⟩) (Hbs.out _ hH.1)).trans hH.2.2.2.2.2.2.1, (hbx.cell (p := ⟨b, off + (k - 1) * 3 + 1, none⟩) (Hbs.out _ hH.1)).trans hH.2.2.2.2.2.2.2.1, (hbx.cell (p := ⟨b, off + (k - 1) * 3 + 2, none⟩) (Hbs.out _ hH.1)).trans hH.2.2.2.2.2.2.2.2⟩ (fun hH => ?_)
          clear hK K
          try simp only [Act.put, List.setIfInBounds_toArray, List.set_cons_zero, List.set_cons_succ]
          refine takeH 2 (v := ?ve2) rfl (by kernel_rfl) (by kernel_rfl) (by kernel_rfl) (fun _ _ _ h => h) hH rfl ?ye2 ?re2
          case ye2 => intro W hSw; go_simp; try with_reducible rfl
          try simp only [Act.put, List.setIfInBounds_toArray, List.set_cons_zero, List.set_cons_succ]
          refine takeH 3 (v := ?ve3) rfl (by kernel_rfl) (by kernel_rfl) (by kernel_rfl) (fun _ _ _ h => h) hH rfl ?ye3 ?re3
          case ye3 => intro W hSw; go_simp; try with_reducible rfl
          try simp only [Act.put, List.setIfInBounds_toArray, List.set_cons_zero, List.set_cons_succ]
          refine takeH 4 (v := ?ve4) rfl (by kernel_rfl) (by kernel_rfl) (by kernel_rfl) (fun _ _ _ h => h) hH rfl ?ye4 ?re4
          case ye4 => intro W hSw; go_simp; try with_reducible rfl
          try simp only [Act.put, List.setIfInBounds_toArray, List.set_cons_zero, List.set_cons_succ]
          refine takeH 5 (v := ?ve5) rfl (by kernel_rfl) (by kernel_rfl) (by kernel_rfl) (fun _ _ _ h => h) hH rfl ?ye5 ?re5
          case ye5 => intro W hSw; go_simp; try with_reducible rfl
          try simp only [Act.put, List.setIfInBounds_toArray, List.set_cons_zero, List.set_cons_succ]
          refine takeH 6 (v := ?ve6) rfl (by kernel_rfl) (by kernel_rfl) (by kernel_rfl) (fun _ _ _ h => h) hH rfl ?ye6 ?re6
          case ye6 => intro W hSw; go_simp; try with_reducible rfl
          try simp only [Act.put, List.setIfInBounds_toArray, List.set_cons_zero, List.set_cons_succ]
          refine takeH 7 (v := ?ve7) rfl (by kernel_rfl) (by kernel_rfl) (by kernel_rfl) (fun _ _ _ h => h) hH rfl ?ye7 ?re7
          case ye7 => intro W hSw; go_simp; try with_reducible rfl
          try simp only [Act.put, List.setIfInBounds_toArray, List.set_cons_zero, List.set_cons_succ]
          refine takeH 8 (v := .bool false) rfl (by kernel_rfl) (by kernel_rfl) (by kernel_rfl) (fun _ _ _ h => h) hH rfl ?ye8 ?re8
          case ye8 => intro W hSw; go_simp; first | done | simp only [hlo] | omega | (simp; omega)
          try simp only [Act.put, List.setIfInBounds_toArray, List.set_cons_zero, List.set_cons_succ]
          refine takeH 9 (v := ?ve9) rfl (by kernel_rfl) (by kernel_rfl) (by kernel_rfl) (fun _ _ _ h => h) hH rfl ?ye9 ?re9
          case ye9 => intro W hSw; go_simp; try with_reducible rfl
          try simp only [Act.put, List.setIfInBounds_toArray, List.set_cons_zero, List.set_cons_succ]
          refine takeH 10 (v := ?ve10) rfl (by kernel_rfl) (by kernel_rfl) (by kernel_rfl) (fun _ _ _ h => h) hH rfl ?ye10 ?re10
          case ye10 => intro W hSw; go_simp; try with_reducible rfl
          try simp only [Act.put, List.setIfInBounds_toArray, List.set_cons_zero, List.set_cons_succ]
          refine takeH 11 (v := ?ve11) rfl (by kernel_rfl) (by kernel_rfl) (by kernel_rfl) (fun _ _ _ h => h) hH rfl ?ye11 ?re11
          case ye11 => intro W hSw; go_simp; try with_reducible rfl
          try simp only [Act.put, List.setIfInBounds_toArray, List.set_cons_zero, List.set_cons_succ]
          refine takeH 12 (v := .bool true) rfl (by kernel_rfl) (by kernel_rfl) (by kernel_rfl) (fun _ _ _ h => h) hH rfl ?ye12 ?re12
          case ye12 => intro W hSw; go_simp; first | done | simp only [hgt] | omega | (simp; omega)
          try simp only [Act.put, List.setIfInBounds_toArray, List.set_cons_zero, List.set_cons_succ]
          refine takeH 13 (v := ?ve13) rfl (by kernel_rfl) (by kernel_rfl) (by kernel_rfl) (fun _ _ _ h => h) hH rfl ?ye13 ?re13
          case ye13 => intro W hSw; go_simp; try with_reducible rfl
          try simp only [Act.put, List.setIfInBounds_toArray, List.set_cons_zero, List.set_cons_succ]
          refine takeH 14 (v := ?ve14) rfl (by kernel_rfl) (by kernel_rfl) (by kernel_rfl) (fun _ _ _ h => h) hH rfl ?ye14 ?re14
          case ye14 => intro W hSw; go_simp; try with_reducible rfl
          try simp only [Act.put, List.setIfInBounds_toArray, List.set_cons_zero, List.set_cons_succ]
          refine takeH 15 (v := ?ve15) rfl (by kernel_rfl) (by kernel_rfl) (by kernel_rfl) (fun _ _ _ h => h) hH rfl ?ye15 ?re15
          case ye15 => intro W hSw; go_simp; try with_reducible rfl
          try simp only [Act.put, List.setIfInBounds_toArray, List.set_cons_zero, List.set_cons_succ]
          refine takeH 16 (v := ?ve16) rfl (by kernel_rfl) (by kernel_rfl) (by kernel_rfl) (fun _ _ _ h => h) hH rfl ?ye16 ?re16
          case ye16 => intro W hSw; go_simp; try with_reducible rfl
          try simp only [Act.put, List.setIfInBounds_toArray, List.set_cons_zero, List.set_cons_succ]
          refine takeH 17 (v := ?ve17) rfl (by kernel_rfl) (by kernel_rfl) (by kernel_rfl) (fun _ _ _ h => h) hH rfl ?ye17 ?re17
          case ye17 => intro W hSw; go_simp; try with_reducible rfl
          try simp only [Act.put, List.setIfInBounds_toArray, List.set_cons_zero, List.set_cons_succ]
          refine takeH 18 (v := ?ve18) rfl (by kernel_rfl) (by kernel_rfl) (by kernel_rfl) (fun _ _ _ h => h) hH rfl ?ye18 ?re18
          case ye18 => intro W hSw; go_simp; try with_reducible rfl
          try simp only [Act.put, List.setIfInBounds_toArray, List.set_cons_zero, List.set_cons_succ]
          refine takeH 19 (v := ?ve19) rfl (by kernel_rfl) (by kernel_rfl) (by kernel_rfl) (fun _ _ _ h => h) hH rfl ?ye19 ?re19
          case ye19 => intro W hSw; go_simp; try with_reducible rfl
          try simp only [Act.put, List.setIfInBounds_toArray, List.set_cons_zero, List.set_cons_succ]
          refine takeH 20 (v := ?ve20) rfl (by kernel_rfl) (by kernel_rfl) (by kernel_rfl) (fun _ _ _ h => h) hH rfl ?ye20 ?re20
          case ye20 => intro W hSw; go_simp; try with_reducible rfl
          try simp only [Act.put, List.setIfInBounds_toArray, List.set_cons_zero, List.set_cons_succ]
          refine callH 21 rfl (by kernel_rfl) rfl (fun K hK => ?_)
          go_simp
          go_at_call 40
          refine (HB.out _).mono ?_
          rintro e wx ⟨rfl, hbx⟩
          refine hK.out _ _ ⟨hH.1.trans (hbx.mono hH.1.size), (hbx.cell (p := ⟨w.heap.size, 0, none⟩) (Hws.out _ hH.1)).trans hH.2.1, (hbx.cell (p := ⟨w.heap.size, 1, none⟩) (Hws.out _ hH.1)).trans hH.2.2.1, (hbx.cell (p := ⟨wr.heap.size, 0, none⟩) (Hxs.out _ hH.1)).trans hH.2.2.2.1, (hbx.cell (p := ⟨wr.heap.size, 1, none⟩) (Hxs.out _ hH.1)).trans hH.2.2.2.2.1, (hbx.cell (p := ⟨wr.heap.size, 2, none⟩) (Hxs.out _ hH.1)).trans hH.2.2.2.2.2.1, (hbx.cell (p := ⟨b, off + (k - 1) * 3, none⟩) (Hbs.out _ hH.1)).trans hH.2.2.2.2.2.2.1, (hbx.cell (p := ⟨b, off + (k - 1) * 3 + 1, none⟩) (Hbs.out _ hH.1)).trans hH.2.2.2.2.2.2.2.1, (hbx.cell (p := ⟨b, off + (k - 1) * 3 + 2, none⟩) (Hbs.out _ hH.1)).trans hH.2.2.2.2.2.2.2.2⟩ (fun hH => ?_)
          clear hK K
          try simp only [Act.put, List.setIfInBounds_toArray, List.set_cons_zero, List.set_cons_succ]
          refine takeH 22 (v := .bool false) rfl (by kernel_rfl) (by kernel_rfl) (by kernel_rfl) (fun _ _ _ h => h) hH rfl ?ye22 ?re22
          case ye22 => intro W hSw; go_simp; first | done | simp only [hge] | omega | (simp; omega)
          try simp only [Act.put, List.setIfInBounds_toArray, List.set_cons_zero, List.set_cons_succ]
          refine takeH 23 (v := ?ve23) rfl (by kernel_rfl) (by kernel_rfl) (by kernel_rfl) (fun _ _ _ h => h) hH rfl ?ye23 ?re23
          case ye23 => intro W hSw; go_simp; try with_reducible rfl
          try simp only [Act.put, List.setIfInBounds_toArray, List.set_cons_zero, List.set_cons_succ]
          refine takeH 24 (v := ?ve24) rfl (by kernel_rfl) (by kernel_rfl) (by kernel_rfl) (fun _ _ _ h => h) hH rfl ?ye24 ?re24
          case ye24 => intro W hSw; go_simp; try with_reducible rfl
          try simp only [Act.put, List.setIfInBounds_toArray, List.set_cons_zero, List.set_cons_succ]
          refine wpAnyH_done (by kernel_rfl) ?_ _
          try simp only [Act.put]
          go_wp2
          go_roundw
          case rel => exact ⟨k + 1, by omega, by go_num, upto_step Hup.out (by rw [Hok.out]; exact decide_eq_true (by omega)), below_step Hbel.out Hbel.out.size hH.1⟩
          case measure => simp [intOf]; omega
    · have hz := allB_yes hup (n := g.length) (by omega)
      have Hbel := Lib.hid hbel; clear hbel
      have Hz := Lib.hid hz; clear hz hup
      go_wp2
      go_ret
      exact ⟨ret_bool (by rw [Hres.out, Hz.out]), Hb0.out.trans (Hbel.out.mono (by omega))⟩

end Go.Proofs.Ytgpbogalknmcmaa

/- slices.SortFunc at votes by their order: the list is sorted in place; what lies elsewhere stays. No conditions but the list's length. -/
namespace Go.Proofs.Ytgpbogalknmcmaa
open Go.RowKit Go.Shelf Go.Sort

instance : Inhabited Vt := ⟨vt0⟩
def encV (v : Vt) : List Value := [.int .i64 v.r, .int .i64 v.a, .int .i64 v.d]
theorem ltV (x y : Vt) : ltOf vcmpZ x y = vbefB x y := (vbef_cmp x y).symm
theorem swoV : SWO (ltOf vcmpZ) where
  irrefl x := by rw [ltV]; exact vbef_irr x
  trans x y z h1 h2 := by rw [ltV] at *; exact vbef_trans h1 h2
  ntrans x y z h1 h2 := by
    rw [ltV] at *
    unfold vbefB at *
    simp only [decide_eq_false_iff_not] at *
    omega

theorem cmpV (blk off size : Nat) (w : World) : CmpLays Try.prog 40 #[] encV 3 vcmpZ blk off size w := by
  intro m os dk _ x y
  refine (vote_compare x y _).mono ?_
  rintro e w' ⟨rfl, rfl⟩
  exact ⟨rfl, 1, #[.cells #[.int .i64 x.r, .int .i64 x.a, .int .i64 x.d] 27, .cells #[.int .i64 y.r, .int .i64 y.a, .int .i64 y.d] 27, .cells #[.int .i64 (cmpZ x.r y.r), .int .i64 (cmpZ x.a y.a)] 3], by
    rw [alloc_eq_grow, alloc_eq_grow, alloc_eq_grow, grow_grow]
    exact grow_grow (sortWorldK encV 3 w blk off m dk os).drew _ _⟩

theorem holdsV {E Ei : TypeId} {w : World} {B hi g n cap : Nat} {cs : List Vt} (h : OwnR E Ei 3 w B hi (.slice (some ⟨g, 0, none⟩) n cap) (cs.map Vt.fd)) : HoldsK encV 3 w g 0 cs.toArray := by
  intro t ht
  rw [size_flatK] at ht
  have htl : t < cs.length * 3 := by simpa using ht
  have hk : t / 3 < cs.length := by omega
  rw [get_flatK _ _ _ _ ht]
  have hk' : t / 3 < (cs.map Vt.fd).length := by simpa using hk
  have he : (cs.map Vt.fd)[t / 3] = cs[t / 3].fd := by simp
  have hd : cs.toArray[t / 3]! = cs[t / 3] := by rw [getElem!_pos _ _ (by simpa using hk)]; simp
  rw [hd]
  have h3 : t % 3 < 3 := Nat.mod_lt _ (by omega)
  have hadr : (⟨g, 0 + t, none⟩ : Addr) = ⟨g, t / 3 * 3 + t % 3, none⟩ := by congr 1; omega
  rw [hadr]
  match hm : t % 3, h3 with
  | 0, _ => exact h.fieldI hk' (j := 0) (by rw [he]; simp [Vt.fd]) (x := cs[t / 3].r) (by simp only [he]; rfl)
  | 1, _ => exact h.fieldI hk' (j := 1) (by rw [he]; simp [Vt.fd]) (x := cs[t / 3].a) (by simp only [he]; rfl)
  | 2, _ => exact h.fieldI hk' (j := 2) (by rw [he]; simp [Vt.fd]) (x := cs[t / 3].d) (by simp only [he]; rfl)
theorem heap_sortedV {w : World} {g n : Nat} {os : Array Obj} {cur : Array Value} {e : TypeId} {fr : Nat × Nat} (d : Array Vt) (hb : w.heap[g]? = some (.cells cur e fr)) :
    (sortWorldK encV 3 w g 0 n d os).heap[g]? = some (.cells (putCells id 0 (flatK encV 3 d) cur) e fr) := by
  have hg : g < w.heap.size := (Array.getElem?_eq_some_iff.1 hb).1
  unfold sortWorldK putRowK
  rw [heap_grow_old _ _ (by simpa using hg)]
  simp [putRow, mapBlock, Sort.ahead, Array.getElem?_modify, hb, onCells]
theorem grownBy_sortedV {w : World} {g n : Nat} {os : Array Obj} (d : Array Vt) : w.grownBy (sortWorldK encV 3 w g 0 n d os) (some g) := by
  unfold sortWorldK putRowK
  refine ⟨rfl, rfl, rfl, by simp, fun k hk hne => ?_⟩
  rw [heap_grow_old _ _ (by simpa using hk)]
  have : g ≠ k := fun e => hne (by rw [e])
  simp [putRow, mapBlock, Sort.ahead, Array.getElem?_modify, this]
theorem ownR_sortedV {E Ei : TypeId} {w : World} {B hi g n cap m : Nat} {os : Array Obj} {cs G : List Vt} (h : OwnR E Ei 3 w B hi (.slice (some ⟨g, 0, none⟩) n cap) (cs.map Vt.fd)) (hl : G.length = cs.length) :
    OwnR E Ei 3 (sortWorldK encV 3 w g 0 m G.toArray os) B hi (.slice (some ⟨g, 0, none⟩) n cap) (G.map Vt.fd) := by
  obtain ⟨_, csv, hrow, _, _, _, _, hv⟩ := h
  obtain ⟨hlen, hr⟩ := hrow
  rcases hr with ⟨e, _⟩ | ⟨g', cap', cur, e, hB, hb, hn, hcap, hcs, _⟩
  · cases e
  cases e
  rw [List.length_map] at *
  have hcell : ∀ t, t < cs.length * 3 → (putCells id 0 (flatK encV 3 G.toArray) cur).toList[t]? = some ((encV (G.toArray[t / 3]!))[t % 3]!) := by
    intro t ht
    have h1 : t < cur.size := by rw [hcs]; exact Nat.lt_of_lt_of_le ht (Nat.mul_le_mul_right 3 hn)
    rw [Array.getElem?_toList]
    unfold putCells
    rw [Array.getElem?_mapIdx, Array.getElem?_eq_getElem h1]
    simp only [Option.map_some, size_flatK, List.size_toArray, Nat.zero_le, Nat.zero_add, true_and, Nat.sub_zero, id]
    rw [if_pos (by rw [hl]; exact ht), get_flatK _ _ _ _ (by simp only [List.size_toArray]; rw [hl]; exact ht)]
  have hget : ∀ k j, k < G.length → j < 3 → (((putCells id 0 (flatK encV 3 G.toArray) cur).toList).take (cs.length * 3))[k * 3 + j]? = some ((encV (G.toArray[k]!))[j]!) := by
    intro k j hk hj
    have ht : k * 3 + j < cs.length * 3 := by omega
    rw [List.getElem?_take_of_lt ht, hcell _ ht, show (k * 3 + j) / 3 = k by omega, show (k * 3 + j) % 3 = j by omega]
  have hnone : ∀ (p : Nat) c, (((putCells id 0 (flatK encV 3 G.toArray) cur).toList).take (cs.length * 3))[p]? = some c → c.ownBlock = none := by
    intro p c hc
    have hp : p < cs.length * 3 := by
      have := (List.getElem?_eq_some_iff.1 hc).1
      rw [List.length_take] at this
      omega
    rw [List.getElem?_take_of_lt hp, hcell p hp] at hc
    cases hc
    have h3 : p % 3 < 3 := Nat.mod_lt _ (by omega)
    match p % 3, h3 with
    | 0, _ => rfl
    | 1, _ => rfl
    | 2, _ => rfl
  have hpc : (putCells id 0 (flatK encV 3 G.toArray) cur).size = cap * 3 := by unfold putCells; rw [Array.size_mapIdx, hcs]
  refine ⟨fun e he => by obtain ⟨x, _, rfl⟩ := List.mem_map.1 he; rfl, _, ⟨?_, .inr ⟨g, cap, _, ?_, hB, heap_sortedV _ hb, ?_, hcap, ?_, rfl⟩⟩, ?_, ?_, ?_, ?_, hv⟩
  · simp only [List.length_take, Array.length_toList, List.length_map, hl, hpc]; exact Nat.min_eq_left (Nat.mul_le_mul_right 3 hn)
  · rw [List.length_map, hl]
  · rw [List.length_map, hl]; exact hn
  · exact hpc
  · intro k j hk hj
    have hk' : k < G.length := by simpa using hk
    have he : (G.map Vt.fd)[k] = G[k].fd := by simp
    have hj' : j < 3 := by rw [he] at hj; simpa [Vt.fd] using hj
    refine ⟨_, by rw [show (G.map Vt.fd).length = cs.length by simp [hl]]; exact hget k j hk' hj', ?_⟩
    have hd : G.toArray[k]! = G[k] := by rw [getElem!_pos _ _ (by simpa using hk')]; simp
    simp only [hd, he]
    match j, hj' with
    | 0, _ => rfl
    | 1, _ => rfl
    | 2, _ => rfl
  · intro p q c d hc hd hne b' hb1
    rw [hnone p c (by simpa [hl] using hc)] at hb1; cases hb1
  · intro p c hc b' hb1
    rw [hnone p c (by simpa [hl] using hc)] at hb1; cases hb1
  · intro p c b' hc hb1
    rw [hnone p c (by simpa [hl] using hc)] at hb1; cases hb1

theorem sorted_of {cs G : List Vt} (hap : ApartV cs) (hp : G.Perm cs) (hs : ∀ i j (hi : i < G.length) (hj : j < G.length), i < j → vbefB G[j] G[i] = false) : G.Pairwise fun x y => vbefB x y = true := by
  have hapG : ApartV G := (hp.pairwise_iff (fun {a b} (h : ¬ SamePl a b) => fun e => h ⟨e.1.symm, e.2.symm⟩)).2 hap
  refine List.pairwise_iff_getElem.2 fun i j hi hj hij => ?_
  have h1 := hs i j hi hj hij
  have h2 := List.pairwise_iff_getElem.1 hapG i j hi hj hij
  unfold vbefB at *
  unfold SamePl at h2
  simp only [decide_eq_false_iff_not, decide_eq_true_eq] at *
  omega

theorem sort_votes (cs : List Vt) (B hi : Nat) (v : Value) (w : World) (hlen : cs.length ≤ 1048576) (hap : ApartV cs) (hown : OwnR 27 3 3 w B hi v (cs.map Vt.fd)) :
    Calls Try.prog 54 #[v, .func (.func 40) #[] #[]] w fun e w' => e = .returned (.tuple #[]) ∧ ∃ G : List Vt, (G.Pairwise fun x y => vbefB x y = true) ∧ (∀ x, x ∈ G ↔ x ∈ cs) ∧ G.length = cs.length ∧ OwnR 27 3 3 w' B hi v (G.map Vt.fd) ∧ w.grownBy w' v.ownBlock := by
  obtain ⟨a, cap, rfl, _⟩ := hown.slice
  rw [List.length_map] at *
  by_cases h0 : cs.length = 0
  · have hn := AnyF.slices_SortFunc_none sortV a cap (.func (.func 40) #[] #[]) w
    change Calls Try.prog 54 _ _ _ at hn
    rw [h0]
    refine hn.mono ?_
    rintro e w' ⟨rfl, rfl⟩
    have hcs : cs = [] := List.eq_nil_of_length_eq_zero h0
    subst hcs
    exact ⟨rfl, [], List.Pairwise.nil, by simp, rfl, hown, World.grownBy.refl _ _⟩
  · obtain ⟨g, cap', he, hB, hg, hgs⟩ := hown.head (by simp; omega)
    simp only [Value.slice.injEq] at he
    obtain ⟨rfl, _, rfl⟩ := he
    have hsz : cs.toArray.size = cs.length := by simp
    have hcon := AnyQ.slices_SortFunc sortV 3 Try.isAgg27 Try.sizeOf27 encV (fun _ => rfl) (fun x v hv => by simp [encV] at hv; rcases hv with rfl | rfl | rfl <;> rfl) vcmpZ swoV 40 #[] g 0 cap cs.toArray w
      (enters_of Try.func40 (by kernel_rfl) rfl) (cmpV g 0 cs.toArray.size w) (holdsV hown) hgs (by rw [hsz]; omega)
    change Calls Try.prog 54 _ _ _ at hcon
    rw [hsz] at hcon
    refine hcon.mono ?_
    rintro e w' ⟨rfl, d', n, os, hp, hs, rfl⟩
    obtain ⟨hd1, _, hd2⟩ := hp
    have hperm : d'.toList.Perm cs := by
      rw [show cs.length = cs.toArray.size by simp, Array.extract_size] at hd2
      rw [show cs.toArray.size = d'.size from hd1.symm, Array.extract_size] at hd2
      simpa using hd2
    have hGl : d'.toList.length = cs.length := hperm.length_eq
    have hsort : ∀ i j (hi : i < d'.toList.length) (hj : j < d'.toList.length), i < j → vbefB d'.toList[j] d'.toList[i] = false := by
      intro i j hi hj hij
      have h := hs i j (Nat.zero_le _) hij (by omega)
      rw [ltV] at h
      rw [getElem!_pos d' j (by simpa using hj), getElem!_pos d' i (by simpa using hi)] at h
      simpa using h
    refine ⟨rfl, d'.toList, sorted_of hap hperm hsort, fun x => hperm.mem_iff, hGl, ?_, grownBy_sortedV d'⟩
    have := ownR_sortedV (m := n) (os := os) hown hGl
    simpa using this

end Go.Proofs.Ytgpbogalknmcmaa

/- The exact laws' functions on voters: sameness, copies, sizes, marks, each by a walk of its text; conditions: the lists are no longer than the laws' bound. -/
namespace Go.Proofs.Ytgpbogalknmcmaa
open Go.RowKit

theorem ownR_set {E Ei : TypeId} {sz : Nat} {w : World} {B hi : Nat} {v : Value} {es : List (List Fd)} (h : OwnR E Ei sz w B hi v es) {g' : Nat} (hs : hi ≤ w.heap.size) (hg : g' < B) (j : Nat) (u : Value) : OwnR E Ei sz (w.setCell ⟨g', j, none⟩ u) B hi v es :=
  h.same fun g h1 h2 => (grownBy_set w g' j u).block g (by omega) (by simp; omega)

set_option maxRecDepth 8000 in
/-- A Voter that came in by value. -/
theorem open_Voter {H : Type} {enc : TypeId × Value → H} {W : World} {base : Nat} {v : Value} {d : DataW H} {p : List MemPlace} (hv : Value.okWide Try.prog W .any base 41 v) (h : DataW.Trod enc Try.prog W 0 (fun _ => true) true 41 v d p) :
    ∃ x0 v1 es1 fp1, v = .agg #[.int .i64 x0, v1] ∧ (-9223372036854775808 ≤ x0 ∧ x0 ≤ 9223372036854775807) ∧ Rd W (rowsD es1) v1 fp1 ∧ es1.length ≤ maxLen ∧ ∀ e ∈ es1, voteP e ∧ fitE e := by
  obtain ⟨cs, rfl, hl, hf⟩ := open_struct (Gs := [IntG, RowsG [IntG, IntG, IntG]]) Try.underlying41 (by kernel_rfl) rfl (fun j h h' => by
    match j, h, h' with
    | 0, _, _ => exact ⟨rfl, opens_int Try.underlying3 (by kernel_rfl)⟩
    | 1, _, _ => exact ⟨rfl, opens_slice_struct (Gs := [IntG, IntG, IntG]) Try.underlying39 (by kernel_rfl) Try.underlying45 (by kernel_rfl) (Nat.zero_lt_succ _) rfl (fun j h h' => by
      match j, h, h' with
      | 0, _, _ => exact ⟨rfl, opens_int Try.underlying3 (by kernel_rfl)⟩
      | 1, _, _ => exact ⟨rfl, opens_int Try.underlying3 (by kernel_rfl)⟩
      | 2, _, _ => exact ⟨rfl, opens_int Try.underlying3 (by kernel_rfl)⟩)⟩) hv h
  match cs, hl with
  | [u0, u1], _ =>
    obtain ⟨d0, f0, r0, x0, rfl, b0⟩ := hf 0 (by simp) (by simp)
    obtain ⟨rfl, _⟩ := Rd.int (show Rd W (.i x0) u0 f0 from r0)
    obtain ⟨d1, f1, r1, g1⟩ := hf 1 (by simp) (by simp)
    obtain ⟨es, rfl, hl, hp⟩ := rows_of g1 (P := fun e => voteP e ∧ fitE e) (fun e he hf => by
      match e, he with
      | [d0, d1, d2], _ =>
        obtain ⟨x0, rfl, b0⟩ := hf 0 (by simp) (by simp)
        obtain ⟨x1, rfl, b1⟩ := hf 1 (by simp) (by simp)
        obtain ⟨x2, rfl, b2⟩ := hf 2 (by simp) (by simp)
        exact ⟨[.i x0, .i x1, .i x2], rfl, ⟨x0, x1, x2, rfl⟩, fun _ hx => by
          simp at hx
          rcases hx with rfl | rfl | rfl
          · exact b0
          · exact b1
          · exact b2, fun _ hx => by simp at hx⟩)
    exact ⟨x0, u1, es, f1, rfl, b0, r1, hl, hp⟩

theorem laws_eqVoterR (x0 : Int) (es : List (List Fd)) (v v' : Value) (fp fp' : List Nat) (w : World) (hbig : es.length ≤ 1099511627776) (hp : ∀ e ∈ es, voteP e) (hl : ∀ e ∈ es, lnE e ≤ 1099511627776) (hr : Rd w (rowsD es) v fp) (hr' : Rd w (rowsD es) v' fp') :
    Calls Try.prog 24 #[.agg #[.int .i64 x0, v], .agg #[.int .i64 x0, v']] w fun e w' => e = .returned (.bool true) ∧ Below w.heap.size w w' := by
  obtain ⟨a, cap, rfl⟩ := Rd.slice hr
  obtain ⟨a', cap', rfl⟩ := Rd.slice hr'
  rw [List.length_map] at *
  generalize hv : Value.slice a es.length cap = v at *
  generalize hv' : Value.slice a' es.length cap' = v' at *
  have hb : Below w.heap.size w ((w.alloc (.cells #[.int .i64 x0, v] 25)).alloc (.cells #[.int .i64 x0, v'] 25)) := ((Below.refl _ w).alloc (Nat.le_refl _) _).alloc (by simp) _
  have s0 := (Str.new w 25 #[.int .i64 x0, v]).alloc (.cells #[.int .i64 x0, v'] 25)
  have s1 := Str.new (w.alloc (.cells #[.int .i64 x0, v] 25)) 25 #[.int .i64 x0, v']
  simp only [World.size_alloc] at s1
  have k0 := s0.cell 0 (v := .int .i64 x0) rfl
  have k1 := s0.cell 1 (v := v) rfl
  have j0 := s1.cell 0 (v := .int .i64 x0) rfl
  have j1 := s1.cell 1 (v := v') rfl
  have H := Lib.hid (laws_eqVoteSR es v v' fp fp' ((w.alloc (.cells #[.int .i64 x0, v] 25)).alloc (.cells #[.int .i64 x0, v'] 25)) hbig hp hl (hr.under hb) (hr'.under hb))
  have Hb := Lib.hid hb; clear hb s0 s1 hr hr' hp hl
  have hc : v.oneCell' = true := by rw [← hv]; rfl
  have hc' : v'.oneCell' = true := by rw [← hv']; rfl
  subst hv hv'
  go_enter Try.func24, Try.ntmps24
  go_wp2_with fail
  refine H.out.mono ?_
  rintro e w1 ⟨rfl, hb1⟩
  have Hb1 := Lib.hid (below_step Hb.out Hb.out.size hb1)
  go_wp2
  go_ret
  exact ⟨rfl, Hb1.out⟩

theorem laws_szVoterR (x0 : Int) (es : List (List Fd)) (v : Value) (fp : List Nat) (left : Nat) (w : World) (hl : left ≤ 1048576) (hbig : es.length ≤ 9223372036854775807) (hp : ∀ e ∈ es, voteP e) (hr : Rd w (rowsD es) v fp) :
    Calls Try.prog 22 #[.agg #[.int .i64 x0, v], .int .i64 (left : Int)] w fun e w' => e = .returned (.int .i64 (if es.length + lnTo es es.length ≤ left then ((left - es.length - lnTo es es.length : Nat) : Int) else -1)) ∧ Below w.heap.size w w' := by
  obtain ⟨a, cap, rfl⟩ := Rd.slice hr
  rw [List.length_map] at *
  generalize hv : Value.slice a es.length cap = v at *
  have hb : Below w.heap.size w (w.alloc (.cells #[.int .i64 x0, v] 41)) := (Below.refl _ w).alloc (Nat.le_refl _) _
  have s0 := Str.new w 41 #[.int .i64 x0, v]
  have k0 := s0.cell 0 (v := .int .i64 x0) rfl
  have k1 := s0.cell 1 (v := v) rfl
  have H := Lib.hid (laws_szVoteSR es v fp left _ hl hbig hp (hr.under hb))
  have Hb := Lib.hid hb; clear hb s0 hr hp
  subst hv
  by_cases h : es.length + lnTo es es.length ≤ left
  · rw [if_pos h] at H ⊢
    generalize left - es.length - lnTo es es.length = q at *
    have g9 : decide ((q : Int) < 0) = false := decide_eq_false (by omega)
    go_enter Try.func22, Try.ntmps22
    go_wp2_with fail
    refine H.out.mono ?_
    rintro e w1 ⟨rfl, hb1⟩
    have Hb1 := Lib.hid (below_step Hb.out Hb.out.size hb1)
    go_wp2
    go_ret
    exact ⟨rfl, Hb1.out⟩
  · rw [if_neg h] at H ⊢
    go_enter Try.func22, Try.ntmps22
    go_wp2_with fail
    refine H.out.mono ?_
    rintro e w1 ⟨rfl, hb1⟩
    have Hb1 := Lib.hid (below_step Hb.out Hb.out.size hb1)
    go_wp2
    go_ret
    exact ⟨rfl, Hb1.out⟩

set_option maxHeartbeats 1000000 in
theorem laws_toVoterR (x0 : Int) (es : List (List Fd)) (v : Value) (fp : List Nat) (w : World) (hbig : es.length ≤ 1048576) (hp : ∀ e ∈ es, voteP e) (hl : ∀ e ∈ es, lnE e ≤ 1048576) (hr : Rd w (rowsD es) v fp) :
    Calls Try.prog 23 #[.agg #[.int .i64 x0, v]] w fun e w' => ∃ u, e = .returned (.agg #[.int .i64 x0, u]) ∧ OwnR 27 3 3 w' w.heap.size w'.heap.size u es ∧ Below w.heap.size w w' := by
  obtain ⟨a, cap, rfl⟩ := Rd.slice hr
  rw [List.length_map] at *
  generalize hv : Value.slice a es.length cap = v at *
  have hbW : Below w.heap.size w (((w.alloc (.cells #[.int .i64 x0, v] 41)).alloc (.cells #[.int .i64 0, .slice none 0 0] 25)).alloc (.cells #[.int .i64 x0, .slice none 0 0] 25)) := (((Below.refl _ w).alloc (Nat.le_refl _) _).alloc (by simp) _).alloc (by simp; omega) _
  have s0 := ((Str.new w 41 #[.int .i64 x0, v]).alloc (.cells #[.int .i64 0, .slice none 0 0] 25)).alloc (.cells #[.int .i64 x0, .slice none 0 0] 25)
  have s1 := (Str.new (w.alloc (.cells #[.int .i64 x0, v] 41)) 25 #[.int .i64 0, .slice none 0 0]).alloc (.cells #[.int .i64 x0, .slice none 0 0] 25)
  have s2 := Str.new ((w.alloc (.cells #[.int .i64 x0, v] 41)).alloc (.cells #[.int .i64 0, .slice none 0 0] 25)) 25 #[.int .i64 x0, .slice none 0 0]
  have hzW : (((w.alloc (.cells #[.int .i64 x0, v] 41)).alloc (.cells #[.int .i64 0, .slice none 0 0] 25)).alloc (.cells #[.int .i64 x0, .slice none 0 0] 25)).heap.size = w.heap.size + 3 := by simp
  simp only [World.size_alloc] at s1 s2
  have k0 := s0.cell 0 (v := .int .i64 x0) rfl
  have k1 := s0.cell 1 (v := v) rfl
  have H := Lib.hid (laws_toVoteSR es v fp (((w.alloc (.cells #[.int .i64 x0, v] 41)).alloc (.cells #[.int .i64 0, .slice none 0 0] 25)).alloc (.cells #[.int .i64 x0, .slice none 0 0] 25)) hbig hp hl (hr.under hbW))
  have Hb := Lib.hid hbW
  have S1 := Lib.hid s1
  have S2 := Lib.hid s2
  clear s0 s1 s2 hbW hr hp hl
  subst hv
  go_enter Try.func23, Try.ntmps23
  go_wp2_with fail
  generalize (((w.alloc (.cells #[.int .i64 x0, .slice a es.length cap] 41)).alloc (.cells #[.int .i64 0, .slice none 0 0] 25)).alloc (.cells #[.int .i64 x0, .slice none 0 0] 25)) = W0 at *
  refine H.out.mono ?_
  rintro e w6 ⟨u, rfl, hown, hb6⟩
  have hs6 := hb6.size
  have t1 : Str w6 (w.heap.size + 1) 25 #[.int .i64 0, .slice none 0 0] := (hb6.block _ (by omega)).trans S1.out
  have t2 : Str w6 (w.heap.size + 1 + 1) 25 #[.int .i64 x0, .slice none 0 0] := (hb6.block _ (by omega)).trans S2.out
  have HbF := Lib.hid (below_step Hb.out Hb.out.size hb6)
  obtain ⟨a6, c6, rfl, hml6⟩ := hown.slice
  have Hown := Lib.hid hown
  clear hown hb6 S1 S2 k0 k1 H
  have k0 := t1.cell 0 (v := .int .i64 0) rfl
  have k1 := t1.cell 1 (v := .slice none 0 0) rfl
  have f0 := t1.frozen 0
  have f1 := t1.frozen 1
  have j0 := t2.cell 0 (v := .int .i64 x0) rfl
  have j1 := t2.cell 1 (v := .slice none 0 0) rfl
  have g1 := t2.frozen 1
  have hne : w.heap.size + 1 ≠ w.heap.size + 1 + 1 := by omega
  have u := ((t1.other hne 1 (.slice a6 es.length c6)).set 0 (.int .i64 x0)).set 1 (.slice a6 es.length c6)
  have e0 := u.cell 0 (v := .int .i64 x0) rfl
  have e1 := u.cell 1 (v := .slice a6 es.length c6) rfl
  clear u t1 t2
  go_wp2
  refine bodyPost_ret (v := .agg #[.int .i64 x0, .slice a6 es.length c6]) (by simp [results, Try.f23, go_sem, e0, e1]) rfl ?_
  exact ⟨_, rfl, OwnR.from (OwnR.mono (ownR_set (ownR_set (ownR_set Hown.out (Nat.le_refl _) (by omega) 1 _) (by simp) (by omega) 0 _) (by simp) (by omega) 1 _) (by simp)) (by omega), ((HbF.out.setCell (p := ⟨w.heap.size + 1 + 1, 1, none⟩) (by simp only; omega) _).setCell (p := ⟨w.heap.size + 1, 0, none⟩) (by simp only; omega) _).setCell (p := ⟨w.heap.size + 1, 1, none⟩) (by simp only; omega) _⟩

theorem laws_markVoterR (x0 : Int) (es : List (List Fd)) (v : Value) (k B hi : Nat) (w : World) (hk : kTo es k es.length ≤ 1099511627776) (hp : ∀ e ∈ es, voteP e) (hs : hi ≤ w.heap.size) (hown : OwnR 27 3 3 w B hi v es) :
    Calls Try.prog 26 #[.agg #[.int .i64 x0, v], .int .i64 k] w fun e w' => e = .returned (.int .i64 ((kTo es k es.length : Nat) : Int)) ∧ OwnR 27 3 3 w' B hi v (mkTo es k es.length) ∧ Btw B hi w w' := by
  have H := Lib.hid (laws_markVoteSR es v k B hi _ hk hp (hown.below ((Below.refl _ w).alloc (Nat.le_refl _) (.cells #[.int .i64 x0, v] 25)) hs))
  obtain ⟨a, cap, rfl, hml⟩ := hown.slice
  have Ha := Lib.hid (Btw.alloc (lo := B) (hi := hi) w (.cells #[.int .i64 x0, .slice a es.length cap] 25))
  clear hown
  go_enter Try.func26, Try.ntmps26
  go_wp2_with fail
  refine H.out.mono ?_
  rintro e w1 ⟨rfl, ho, hg⟩
  have Hg := Lib.hid (Ha.out.trans hg)
  have Ho := Lib.hid ho
  clear ho hg
  go_wp2
  go_ret
  exact ⟨rfl, Ho.out, Hg.out⟩

theorem laws_heldVoterR (x0 : Int) (es : List (List Fd)) (v : Value) (k B hi : Nat) (w : World) (hk : kTo es k es.length ≤ 1099511627776) (hp : ∀ e ∈ es, voteP e) (hs : hi ≤ w.heap.size) (hown : OwnR 27 3 3 w B hi v (mkTo es k es.length)) :
    Calls Try.prog 27 #[.agg #[.int .i64 x0, v], .int .i64 k] w fun e w' => e = .returned (.int .i64 ((kTo es k es.length : Nat) : Int)) ∧ Below w.heap.size w w' := by
  have hb : Below w.heap.size w (w.alloc (.cells #[.int .i64 x0, v] 25)) := (Below.refl _ w).alloc (Nat.le_refl _) _
  have H := Lib.hid (laws_heldVoteSR es v k B hi _ hk hp (hown.below hb hs))
  obtain ⟨a, cap, rfl, hml⟩ := hown.slice
  rw [mkTo_len] at *
  have Hb := Lib.hid hb; clear hb hown
  generalize kTo es k es.length = m at *
  have hneg : decide ((m : Int) < 0) = false := decide_eq_false (by omega)
  go_enter Try.func27, Try.ntmps27
  go_wp2_with fail
  refine H.out.mono ?_
  rintro e w1 ⟨rfl, hd⟩
  have Hb1 := Lib.hid (Hb.out.trans (hd.below _))
  go_wp2
  go_ret
  exact ⟨rfl, Hb1.out⟩

end Go.Proofs.Ytgpbogalknmcmaa

/- The sorted list that impl makes of a map of votes, by a walk of its text; condition: at most 2^20 votes. -/
namespace Go.Proofs.Ytgpbogalknmcmaa
open Go.RowKit

theorem vote_cells {Ei : TypeId} {W : World} {B : Nat} (v : Vt) : ∀ j (hj : j < v.fd.length), ∃ c, [Value.int .i64 v.r, .int .i64 v.a, .int .i64 v.d][j]? = some c ∧ FdOk Ei W B c v.fd[j] := by
  intro j hj
  match j, hj with
  | 0, _ => exact ⟨_, rfl, rfl⟩
  | 1, _ => exact ⟨_, rfl, rfl⟩
  | 2, _ => exact ⟨_, rfl, rfl⟩
theorem vote_none {v : Vt} {p : Nat} {c : Value} (h : [Value.int .i64 v.r, .int .i64 v.a, .int .i64 v.d][p]? = some c) : c.ownBlock = none := by
  match p, h with
  | 0, h => cases h; rfl
  | 1, h => cases h; rfl
  | 2, h => cases h; rfl
  | p + 3, h => simp at h
theorem ownR_empty (E Ei : TypeId) (w : World) : OwnR E Ei 3 (w.alloc (.cells #[] E)) w.heap.size (w.heap.size + 1) (.slice (some ⟨w.heap.size, 0, none⟩) 0 0) [] :=
  OwnR.nil ⟨rfl, .inr ⟨w.heap.size, 0, #[], rfl, Nat.le_refl _, Str.new w E #[], Nat.le_refl _, Nat.zero_le _, rfl, rfl⟩⟩ (fun g e => by simp [Value.ownBlock] at e; omega)

theorem fd_int {cs : List Vt} {k j : Nat} (hk : k < (cs.map Vt.fd).length) (hj : j < ((cs.map Vt.fd)[k]).length) : ∃ x, ((cs.map Vt.fd)[k])[j] = .i x := by
  have hk' : k < cs.length := by simpa using hk
  have he : (cs.map Vt.fd)[k] = cs[k].fd := by simp
  have hj' : j < 3 := by rw [he] at hj; simpa [Vt.fd] using hj
  match j, hj' with
  | 0, _ => exact ⟨cs[k].r, by simp only [he]; rfl⟩
  | 1, _ => exact ⟨cs[k].a, by simp only [he]; rfl⟩
  | 2, _ => exact ⟨cs[k].d, by simp only [he]; rfl⟩
theorem ownR_keptV {E Ei : TypeId} {w w' : World} {B hi : Nat} {v : Value} {cs : List Vt} (h : OwnR E Ei 3 w B hi v (cs.map Vt.fd)) (hb : ∀ g, v.ownBlock = some g → w'.heap[g]? = w.heap[g]?) : OwnR E Ei 3 w' B hi v (cs.map Vt.fd) := by
  obtain ⟨h1, csv, h2, h3, h4, h5, h6, h7⟩ := h
  refine ⟨h1, csv, row_same h2 hb, fun k j hk hj => ?_, h4, h5, h6, h7⟩
  obtain ⟨c, hc, hf⟩ := h3 k j hk hj
  obtain ⟨x, hx⟩ := fd_int hk hj
  rw [hx] at hf ⊢
  exact ⟨c, hc, hf⟩

set_option maxHeartbeats 4000000 in
set_option maxRecDepth 8000 in
theorem votes_list (b : Nat) (gm : List Vt) (w : World) (hlen : gm.length ≤ 1048576) (hm : MapV w b gm) :
    Calls Try.prog 35 #[.map (some b)] w fun e w' => ∃ v G, e = .returned v ∧ (List.Pairwise (fun x y => vbefB x y = true) G) ∧ (∀ x, x ∈ G ↔ x ∈ gm) ∧ OwnR 27 3 3 w' w.heap.size w'.heap.size v (G.map Vt.fd) ∧ Below w.heap.size w w' := by
  have hap := hm.2.1
  have hbl := hm.lt
  have hb1 : Below w.heap.size w (w.alloc (.cells #[] 27)) := (Below.refl _ _).alloc (Nat.le_refl _) _
  have hz1 : (w.alloc (.cells #[] 27)).heap.size = w.heap.size + 1 := by simp
  have ho1 := ownR_empty 27 3 w
  have hm1 := hm.kept (below_grown hb1) (by simp)
  obtain ⟨w2, hrun, hR2, hg2, hs2⟩ := hm1.range
  rw [hz1] at hrun hR2 hs2
  have Ho2 := Lib.hid ((ho1.below (w' := w2) ⟨hg2.os, hg2.tape, hg2.output, hg2.size, fun k hk => hg2.block k hk (by simp)⟩ (by omega)).mono (show w.heap.size + 1 ≤ w2.heap.size by omega))
  have HR2 := Lib.hid hR2
  have Hb2 := Lib.hid (hb1.grown hg2 (by omega) (fun q e => by cases e))
  have Hap := Lib.hid hap
  clear ho1 hm1 hR2 hg2 hb1 hm hap
  go_enter Try.func35, Try.ntmps35
  go_wp2_with fail
  go_loopw [3] (fun v wr => ∃ cnt cs, RangeV wr b (w.heap.size + 1) gm cnt cs ∧ OwnR 27 3 3 wr w.heap.size wr.heap.size v (cs.map Vt.fd) ∧ (∀ q, v.ownBlock = some q → q ≠ w.heap.size + 1) ∧ Below w.heap.size w wr) (fun _ wr => wr.rangeLeft b (w.heap.size + 1))
  case atStart => exact ⟨_, [], HR2.out, Ho2.out, fun q e => by simp [Value.ownBlock] at e; omega, Hb2.out⟩
  case round =>
    obtain ⟨cnt, cs, hR, hown, hnr, hbel⟩ := hrel
    have hle := hR.le
    have hlt0 := hR.lt
    have hsb := hbel.size
    have hapc := hR.apart
    have Hown := Lib.hid hown
    have Hbel := Lib.hid hbel
    clear hown hbel HR2 Ho2 Hb2
    go_wp2_with (first
      | (at_next; refine wpList_nextV rfl _ rfl rfl hR ?_ ?_)
      | go_in)
    · intro hall
      have Hs := Lib.hid (sort_votes cs w.heap.size wr.heap.size u3 wr (by omega) hapc Hown.out)
      clear hR hrun
      go_wp2_with fail
      refine Hs.out.mono ?_
      rintro e w5 ⟨rfl, G, hG1, hG2, hGl, hoG, hgG⟩
      have Hgo := Lib.hid (hoG.mono hgG.size)
      have HbG := Lib.hid (Hbel.out.grown hgG hsb (fun q e => (Hown.out.lt q e).1))
      clear hoG hgG
      go_wp2
      go_ret
      exact ⟨_, G, rfl, hG1, fun x => (hG2 x).trans (hall x), Hgo.out, HbG.out⟩
    · intro u w3 cnt3 hu hnu hR3 hlt hg3 hs3 hen
      have hal : Below w3.heap.size w3 (w3.alloc (.cells #[.int .i64 u.r, .int .i64 u.a] 61)) := (Below.refl _ _).alloc (Nat.le_refl _) _
      have sP := Str.new w3 61 #[.int .i64 u.r, .int .i64 u.a]
      have p0 := sP.cell 0 (v := .int .i64 u.r) rfl
      have p1 := sP.cell 1 (v := .int .i64 u.a) rfl
      have hz4 : (w3.alloc (.cells #[.int .i64 u.r, .int .i64 u.a] 61)).heap.size = w3.heap.size + 1 := by simp
      have hlt3 := hR3.lt
      have ho3 : OwnR 27 3 3 w3 w.heap.size wr.heap.size u3 (cs.map Vt.fd) := ownR_keptV Hown.out (fun g e => hg3.block g (Hown.out.lt g e).2 (fun e' => hnr g e (Option.some.inj e')))
      have ho4 := ho3.below hal (by omega)
      have hR4 := hR3.kept (below_grown hal) (by simp) (by simp)
      have Hb3 := Lib.hid (Hbel.out.grown hg3 hsb (fun q e => by cases e; omega))
      have Hb4 := Lib.hid (below_step Hb3.out Hb3.out.size hal)
      have Hown4 := Lib.hid ho4
      have HR4 := Lib.hid hR4
      have hleft : wr.rangeLeft b (w.heap.size + 1) = cnt := hR.left_eq
      clear sP ho3 ho4 hR4 hR3 hR hal hg3 hrun
      have Hs3 := Lib.hid hs3
      have hh0 : wr.heap.size ≤ (w3.alloc (.cells #[.int .i64 u.r, .int .i64 u.a] 61)).heap.size := by omega
      have hB0 : w.heap.size ≤ (w3.alloc (.cells #[.int .i64 u.r, .int .i64 u.a] 61)).heap.size := by omega
      have Hh0 := Lib.hid hh0
      have HB0 := Lib.hid hB0
      have hcl : (cs.map Vt.fd).length ≤ 1048576 := by rw [List.length_map]; omega
      have Hcl := Lib.hid hcl
      clear hs3 hh0 hB0 hcl hz4
      go_wp2_with (first
        | (at_builtin; refine wpList_push_own (Ei := 3) Try.underlying23 vote_inf rfl (by decide) (by decide) rfl (.tmp 14) (.tmp 21) rfl w.heap.size u3 (cs.map Vt.fd) u.fd [.int .i64 u.r, .int .i64 u.a, .int .i64 u.d] _ rfl rfl (by intro x hx; simp at hx; rcases hx with rfl | rfl | rfl <;> rfl) rfl rfl (vote_cells u) (fun p q c d hp hq hne g hc hd => by rw [vote_none hp] at hc; cases hc) wr.heap.size Hown4.out Hh0.out (fun c hc g hg => by obtain ⟨p, hp⟩ := List.getElem?_of_mem hc; rw [vote_none hp] at hg; cases hg) Hcl.out (by simp only [World.size_alloc]; rfl) HB0.out ?_; intro v8 w8 ho8 hg8 hat8)
        | go_in)
      have hR8 := HR4.out.kept hg8 (fun e => by have := (Hown4.out.lt b e.symm).1; omega) (fun e => hnr _ e.symm rfl)
      go_roundw
      case rel => exact ⟨cnt3, cs ++ [u], hR8, by rw [List.map_append]; exact ho8, fun q e => by
          rcases hat8 q e with h | h
          · exact hnr q h
          · have := Hs3.out; simp only [World.size_alloc] at h; omega, Hb4.out.grown hg8 HB0.out (fun q e => (Hown4.out.lt q e).1)⟩
      case measure => rw [hR8.left_eq, hleft]; exact hlt

end Go.Proofs.Ytgpbogalknmcmaa

/- A list of votes in memory of its own, cell by cell; an append to it at an operation; general steps, nothing here speaks of the program but the type of votes. -/
namespace Go.Proofs.Ytgpbogalknmcmaa
open Go.RowKit

def flV (es : List Vt) : List Value := es.flatMap encV
theorem flV_len (es : List Vt) : (flV es).length = es.length * 3 := by
  unfold flV
  induction es with
  | nil => rfl
  | cons x es ih => rw [List.flatMap_cons, List.length_append, ih]; simp [encV]; omega
theorem flV_app (es es2 : List Vt) : flV (es ++ es2) = flV es ++ flV es2 := by unfold flV; rw [List.flatMap_append]
theorem flV_at : ∀ (es : List Vt) (k j : Nat) (hk : k < es.length) (_ : j < 3), (flV es)[k * 3 + j]? = (encV es[k])[j]?
  | x :: es, 0, j, _, hj => by
    unfold flV
    rw [List.flatMap_cons, List.getElem?_append_left (by simp [encV]; omega)]
    simp
  | x :: es, k + 1, j, hk, hj => by
    have hk' : k < es.length := by simpa using hk
    have ih := flV_at es k j hk' hj
    unfold flV at *
    rw [List.flatMap_cons, List.getElem?_append_right (by simp [encV]; omega)]
    rw [show (k + 1) * 3 + j - (encV x).length = k * 3 + j by simp [encV]; omega, ih]
    simp
theorem flV_one {es : List Vt} {p : Nat} {c : Value} (h : (flV es)[p]? = some c) : ∃ x, c = .int .i64 x := by
  have hp : p < es.length * 3 := by rw [← flV_len]; exact (List.getElem?_eq_some_iff.1 h).1
  have hk : p / 3 < es.length := by omega
  rw [show p = p / 3 * 3 + p % 3 by omega, flV_at es (p / 3) (p % 3) hk (by omega)] at h
  have h3 : p % 3 < 3 := by omega
  match hm : p % 3, h3 with
  | 0, _ => rw [hm] at h; exact ⟨_, by simpa [encV] using h.symm⟩
  | 1, _ => rw [hm] at h; exact ⟨_, by simpa [encV] using h.symm⟩
  | 2, _ => rw [hm] at h; exact ⟨_, by simpa [encV] using h.symm⟩
/-- v owns the votes es, in a block from B on. -/
def OwnV (E : TypeId) (w : World) (B : Nat) (v : Value) (es : List Vt) : Prop := w.ownsRow B E 3 v es.length (flV es)
theorem OwnV.lt {E : TypeId} {w : World} {B : Nat} {v : Value} {es : List Vt} (h : OwnV E w B v es) : ∀ g, v.ownBlock = some g → B ≤ g ∧ g < w.heap.size := World.ownsRow.lt h
theorem OwnV.slice {E : TypeId} {w : World} {B : Nat} {v : Value} {es : List Vt} (h : OwnV E w B v es) : ∃ a c, v = .slice a es.length c := by
  rcases h.2 with ⟨rfl, h0⟩ | ⟨g, cap, cur, rfl, _⟩
  · exact ⟨none, 0, by rw [h0]⟩
  · exact ⟨_, _, rfl⟩
theorem OwnV.kept {E : TypeId} {w w' : World} {B : Nat} {v : Value} {es : List Vt} (h : OwnV E w B v es) (hb : ∀ g, v.ownBlock = some g → w'.heap[g]? = w.heap[g]?) : OwnV E w' B v es := row_same h hb
theorem OwnV.below {E : TypeId} {w w' : World} {B : Nat} {v : Value} {es : List Vt} (h : OwnV E w B v es) (hb : Below w.heap.size w w') : OwnV E w' B v es := h.kept fun g e => hb.block g (h.lt g e).2
theorem OwnV.empty (E : TypeId) (w : World) : OwnV E (w.alloc (.cells #[] E)) w.heap.size (.slice (some ⟨w.heap.size, 0, none⟩) 0 0) [] :=
  ⟨rfl, .inr ⟨w.heap.size, 0, #[], rfl, Nat.le_refl _, Str.new w E #[], Nat.le_refl _, Nat.zero_le _, rfl, rfl⟩⟩
theorem OwnV.ownR {E Ei : TypeId} {w : World} {B hi : Nat} {v : Value} {es : List Vt} (h : OwnV E w B v es) (hh : w.heap.size ≤ hi) : OwnR E Ei 3 w B hi v (es.map Vt.fd) := by
  have hn : ∀ (p : Nat) c, (flV es)[p]? = some c → c.ownBlock = none := fun p c hc => by obtain ⟨x, rfl⟩ := flV_one hc; rfl
  refine ⟨fun e he => by obtain ⟨x, _, rfl⟩ := List.mem_map.1 he; rfl, flV es, by rw [List.length_map]; exact h, fun k j hk hj => ?_, ?_, ?_, ?_, fun g e => Nat.lt_of_lt_of_le (h.lt g e).2 hh⟩
  · have hk' : k < es.length := by simpa using hk
    have he : (es.map Vt.fd)[k] = es[k].fd := by simp
    have hj' : j < 3 := by rw [he] at hj; simpa [Vt.fd] using hj
    rw [flV_at es k j hk' hj']
    match j, hj' with
    | 0, _ => exact ⟨_, rfl, by simp only [he]; rfl⟩
    | 1, _ => exact ⟨_, rfl, by simp only [he]; rfl⟩
    | 2, _ => exact ⟨_, rfl, by simp only [he]; rfl⟩
  · intro p q c d hc _ _ g e; rw [hn p c hc] at e; cases e
  · intro p c hc g e; rw [hn p c hc] at e; cases e
  · intro p c g hc e; rw [hn p c hc] at e; cases e
/-- The votes' cells from this place on. -/
def SrcV (w : World) (ad : Addr) (es : List Vt) : Prop := ∀ (j : Nat) u, (flV es)[j]? = some u → w.cell? (ad.add j) = some u
theorem SrcV.below {w w' : World} {ad : Addr} {es : List Vt} (h : SrcV w ad es) (hb : Below w.heap.size w w') : SrcV w' ad es := fun j u hj => below_cell hb (h j u hj)
theorem SrcV.of {w : World} {b off : Nat} {es : List Vt} (h : ∀ k (hk : k < es.length), w.cell? ⟨b, off + k * 3, none⟩ = some (.int .i64 es[k].r) ∧ w.cell? ⟨b, off + k * 3 + 1, none⟩ = some (.int .i64 es[k].a) ∧ w.cell? ⟨b, off + k * 3 + 2, none⟩ = some (.int .i64 es[k].d)) : SrcV w ⟨b, off, none⟩ es := by
  intro p u hp
  have hpl : p < es.length * 3 := by rw [← flV_len]; exact (List.getElem?_eq_some_iff.1 hp).1
  have hk : p / 3 < es.length := by omega
  have e1 : p = p / 3 * 3 + p % 3 := by omega
  rw [e1, flV_at es (p / 3) (p % 3) hk (by omega)] at hp
  rw [addr_add']
  simp only [show (⟨b, off + p, none⟩ : Addr) = ⟨b, off + p / 3 * 3 + p % 3, none⟩ by congr 1; omega]
  obtain ⟨h0, h1, h2⟩ := h (p / 3) hk
  have h3 : p % 3 < 3 := by omega
  match hm : p % 3, h3 with
  | 0, _ => rw [hm] at hp; rw [show off + p / 3 * 3 + 0 = off + p / 3 * 3 from rfl, h0]; simpa [encV] using hp
  | 1, _ => rw [hm] at hp; rw [h1]; simpa [encV] using hp
  | 2, _ => rw [hm] at hp; rw [h2]; simpa [encV] using hp
theorem SrcV.drop {w : World} {b off : Nat} {es : List Vt} (h : SrcV w ⟨b, off, none⟩ es) (k : Nat) : SrcV w ⟨b, off + k * 3, none⟩ (es.drop k) := by
  intro p u hp
  have hd : flV (es.drop k) = (flV es).drop (k * 3) := by
    by_cases hk : k ≤ es.length
    · have h1 := flV_app (es.take k) (es.drop k)
      rw [List.take_append_drop] at h1
      rw [h1, List.drop_append_of_le_length (by rw [flV_len, List.length_take]; omega), show (flV (es.take k)).drop (k * 3) = [] from List.drop_of_length_le (by rw [flV_len, List.length_take]; omega)]
      rfl
    · rw [List.drop_of_length_le (by omega), List.drop_of_length_le (by rw [flV_len]; omega)]; rfl
  rw [hd, List.getElem?_drop] at hp
  have := h _ _ hp
  rw [addr_add'] at this ⊢
  rw [← this]
  congr 2
  omega
theorem SrcV.take {w : World} {ad : Addr} {es : List Vt} (h : SrcV w ad es) (k : Nat) : SrcV w ad (es.take k) := by
  intro p u hp
  have h1 := flV_app (es.take k) (es.drop k)
  rw [List.take_append_drop] at h1
  refine h p u ?_
  rw [h1, List.getElem?_append_left (List.getElem?_eq_some_iff.1 hp).1]
  exact hp

/-- 'append(s, t...)' at an operation: s is the call's own, the votes of t lie at ad. -/
theorem op_app_V {w : World} {o : Oper} {a : Act} {K : Act → World → Prop} {Q : Exit → Act → World → Prop} (s x : Operand) (ho : o.op = .call { callee := .builtin .append, args := #[s, x], argTypes := #[23, 23] }) (B : Nat) (v : Value) (es es2 : List Vt) (ad : Option Addr) (c : Nat)
    (hs : a.eval s = v) (hb : OwnV 27 w B v es) (hx : a.eval x = .slice ad es2.length c) (hsrc : (ad = none ∧ es2 = [] ∧ c = 0) ∨ ∃ q, ad = some q ∧ SrcV w q es2) (hlen : es.length + es2.length ≤ 1048576) (hB : B ≤ w.heap.size)
    (h : ∀ v' w', OwnV 27 w' B v' (es ++ es2) → w.grownBy w' v.ownBlock → (∀ g, v'.ownBlock = some g → v.ownBlock = some g ∨ w.heap.size ≤ g) → K (a.put o.dst v') w') : Oper.wp Try.prog o a w K Q := by
  obtain ⟨i, hi, hz, hsz, hbb⟩ := info_parts vote_inf
  have run : ∃ v' w', (Builtin.append_ #[23, 23] o.type #[v, .slice ad es2.length c]).run Try.prog w = .ok v' w' ∧ OwnV 27 w' B v' (es ++ es2) ∧ w.grownBy w' v.ownBlock ∧ (v'.ownBlock = v.ownBlock ∨ v'.ownBlock = some w.heap.size) := by
    rcases hsrc with ⟨rfl, rfl, rfl⟩ | ⟨q, rfl, hq⟩
    · exact ⟨v, w, run_append_owned_none (P := Try.prog) (w := w) B 23 o.type 27 i 3 Try.underlying23 hi v es.length _ hb, by simpa using hb, World.grownBy.refl _ _, .inl rfl⟩
    · obtain ⟨v', w', h1, h2, h3, _, h4⟩ := run_append_own_at (P := Try.prog) w B 23 o.type 27 i _ 3 24 Try.underlying23 hi hz hsz hbb rfl (by decide) v es.length _ hb q es2.length c (flV es2) (flV_len es2) hq (fun u hu => by obtain ⟨p, hp⟩ := List.getElem?_of_mem hu; obtain ⟨x, rfl⟩ := flV_one hp; rfl) (by unfold maxLen; omega) (by omega) hB
      exact ⟨v', w', h1, by unfold OwnV; rw [List.length_append, flV_app]; exact h2, h3, h4⟩
  obtain ⟨v', w', hrun, h1, hg, h4⟩ := run
  unfold Oper.wp execOp
  simp only [ho, resolve, invoke, builtin, Sem.run_bind, Sem.run_pure, Result.andThen_ok, List.map_toArray, List.map_cons, List.map_nil, hs, hx, hrun]
  exact h v' w' h1 hg fun g e => by
    rcases h4 with h4 | h4
    · exact .inl (by rw [← h4]; exact e)
    · rw [h4] at e; cases e; exact .inr (Nat.le_refl _)

end Go.Proofs.Ytgpbogalknmcmaa

/- A region that draws its order and keeps a condition up to its last operation: either of two operations may come up next. A general step; nothing here speaks of the program. -/
namespace Go.Proofs.Ytgpbogalknmcmaa
open Go.RowKit
section
variable {P : Program} {md : Region.Mode} {l : List Oper} {Q : Exit → Act → World → Prop} {S : World → Prop} {oi oj : Oper} {rest rest' : List Oper} {fuel m : Nat} {listed : Array Bool} {a : Act} {w : World}
/-- Number i or number j may come up, neither is the last. -/
theorem twoL (i j : Nat) (hi : l.drop i = oi :: rest) (hj : l.drop j = oj :: rest') (hr : Region.ready md l.toArray listed = [i, j]) (hw : Region.wanted oi (yielded l.toArray a.tmps) = true) (hw' : Region.wanted oj (yielded l.toArray a.tmps) = true)
    (h : ∀ K' : Act → World → Prop, Shut (∀ a w, S w → (S w → wpAnyL P md l.toArray Q m S fuel (listed.setIfInBounds i true) a w) → K' a w) → Oper.wp P oi a w K' Q)
    (h' : ∀ K' : Act → World → Prop, Shut (∀ a w, S w → (S w → wpAnyL P md l.toArray Q m S fuel (listed.setIfInBounds j true) a w) → K' a w) → Oper.wp P oj a w K' Q) : wpAnyL P md l.toArray Q m S (fuel + 1) listed a w := by
  refine ⟨fun h0 => absurd (hr ▸ h0) (by simp), fun k hk => ?_⟩
  rw [hr] at hk
  have hk' : k = i ∨ k = j := by simpa using hk
  rcases hk' with e | e
  · subst e
    exact wpOp_step (drop_at hi) fun K' hK => by rw [if_pos hw]; exact h K' fun a w hS hW => hK a w ⟨fun _ => hS, hW hS⟩
  · subst e
    exact wpOp_step (drop_at hj) fun K' hK => by rw [if_pos hw']; exact h' K' fun a w hS hW => hK a w ⟨fun _ => hS, hW hS⟩
end
end Go.Proofs.Ytgpbogalknmcmaa

/- The reference's signing of a vote, by walks of its text; condition: the voter and the vote are valid where the text asks it. -/
namespace Go.Proofs.Ytgpbogalknmcmaa
open Go.RowKit

theorem upto_take {g : List Vt} {k : Nat} {p : Vt → Prop} (hk : k < g.length) (h : ∀ x ∈ g.take k, p x) (h' : p g[k]) : ∀ x ∈ g.take (k + 1), p x := by
  intro x hx
  rw [List.take_succ_eq_append_getElem hk, List.mem_append] at hx
  rcases hx with hx | hx
  · exact h x hx
  · rw [List.mem_singleton] at hx; rw [hx]; exact h'
theorem low_at {g : List Vt} {v : Vt} {k : Nat} (h : ∀ x ∈ g.take k, vbefB x v = true) (h' : ∀ hk : k < g.length, vbefB g[k] v = false) : lowV g v = g.take k ∧ upV g v = g.drop k := by
  have h2 : (g.drop k).takeWhile (fun u => vbefB u v) = [] ∧ (g.drop k).dropWhile (fun u => vbefB u v) = g.drop k := by
    by_cases hk : k < g.length
    · rw [List.drop_eq_getElem_cons hk]
      exact ⟨List.takeWhile_cons_of_neg (by rw [h' hk]; simp), List.dropWhile_cons_of_neg (by rw [h' hk]; simp)⟩
    · rw [List.drop_of_length_le (by omega)]; exact ⟨rfl, rfl⟩
  have e := List.take_append_drop k g
  unfold lowV upV
  constructor
  · rw [show g.takeWhile (fun u => vbefB u v) = (g.take k ++ g.drop k).takeWhile (fun u => vbefB u v) by rw [e], List.takeWhile_append_of_pos h, h2.1, List.append_nil]
  · rw [show g.dropWhile (fun u => vbefB u v) = (g.take k ++ g.drop k).dropWhile (fun u => vbefB u v) by rw [e], List.dropWhile_append_of_pos h, h2.2]
theorem sign_at_hit (f : Int) {g : List Vt} {v : Vt} {k : Nat} (hk : k < g.length) (h : ∀ x ∈ g.take k, vbefB x v = true) (h1 : vbefB g[k] v = false) (h2 : vbefB v g[k] = false) : signG f g v = g ∧ signB f g v = decide (g[k].d = v.d) := by
  have hu := (low_at h fun _ => h1).2
  have hh : hitV g v = some g[k] := by unfold hitV; rw [hu, List.drop_eq_getElem_cons hk]; simp [h2]
  exact ⟨by unfold signG; rw [hh], by unfold signB; rw [hh]⟩
theorem sign_at_no (f : Int) {g : List Vt} {v : Vt} {k : Nat} (_ : k ≤ g.length) (h : ∀ x ∈ g.take k, vbefB x v = true) (h' : ∀ hk : k < g.length, vbefB g[k] v = false ∧ vbefB v g[k] = true) :
    signG f g v = (if v.r < f ∨ 40 ≤ g.length then g else g.take k ++ v :: g.drop k) ∧ signB f g v = !(decide (v.r < f) || decide (40 ≤ g.length)) := by
  obtain ⟨hl, hu⟩ := low_at h fun hk => (h' hk).1
  have hh : hitV g v = none := by
    unfold hitV
    by_cases hk : k < g.length
    · rw [hu, List.drop_eq_getElem_cons hk]; simp [(h' hk).2]
    · rw [hu, List.drop_of_length_le (by omega)]
  exact ⟨by unfold signG; rw [hh, hl, hu], by unfold signB; rw [hh]⟩
theorem set1 {w : World} {B j : Nat} {v : Value} {q : Nat} (hq : q < w.heap.size) (hne : q ≠ B) : (w.setCell ⟨B, j, none⟩ v).heap[q]? = w.heap[q]? := (grownBy_set _ B j v).block q hq (by simpa using hne)
theorem set2 {w : World} {B j j' : Nat} {v v' : Value} {q : Nat} (hq : q < w.heap.size) (hne : q ≠ B) : ((w.setCell ⟨B, j, none⟩ v).setCell ⟨B, j', none⟩ v').heap[q]? = w.heap[q]? :=
  ((grownBy_set _ B j' v').block q (by simpa using hq) (by simpa using hne)).trans ((grownBy_set _ B j v).block q hq (by simpa using hne))
theorem vts_cap {w : World} {g : List Vt} {va : Option Addr} {vc : Nat} {fp : List Nat} (h : Vts w g (.slice va g.length vc) fp) : g.length ≤ vc := by
  have h' : Rd w (rowsD (g.map Vt.fd)) (.slice va g.length vc) fp := h
  rcases Rd.list h' with ⟨a, cap, ⟨e, hc⟩ | ⟨e, _⟩⟩
  · injection e with _ _ e3; rw [e3]; simpa using hc
  · have : g = [] := by simpa using e
    subst this; exact Nat.zero_le _
/-- A list of votes as the source of an append. -/
def VSrc (w : World) (va : Option Addr) (vc : Nat) (g : List Vt) : Prop := (va = none ∧ g = [] ∧ vc = 0) ∨ ∃ q, va = some q ∧ SrcV w q g
theorem VSrc.below {w w' : World} {va : Option Addr} {vc : Nat} {g : List Vt} (h : VSrc w va vc g) (hb : Below w.heap.size w w') : VSrc w' va vc g := h.imp id fun ⟨q, e, hq⟩ => ⟨q, e, hq.below hb⟩
theorem vsrc_of {w : World} {va : Option Addr} {vc : Nat} {g : List Vt} {fp : List Nat} (h : Vts w g (.slice va g.length vc) fp) : VSrc w va vc g := by
  by_cases h0 : g = []
  · subst h0
    cases va with
    | some q => exact .inr ⟨q, rfl, fun j u hj => by simp [flV] at hj⟩
    | none =>
      refine .inl ⟨rfl, rfl, ?_⟩
      have h' : Rd w (rowsD []) (.slice none 0 vc) fp := h
      cases h' with
      | nil a cap hn => exact hn rfl
  · obtain ⟨b, off, rfl, _, hat⟩ := h.at (List.length_pos_iff.2 h0)
    exact .inr ⟨_, rfl, SrcV.of hat⟩
theorem SrcV.dropA {w : World} {q : Addr} {es : List Vt} (h : SrcV w q es) (k : Nat) : SrcV w (q.add (k * 3)) (es.drop k) := by
  intro p u hp
  by_cases hk : k ≤ es.length
  · have h1 := flV_app (es.take k) (es.drop k)
    rw [List.take_append_drop] at h1
    have hd : flV (es.drop k) = (flV es).drop (k * 3) := by
      rw [h1, List.drop_append_of_le_length (by rw [flV_len, List.length_take]; omega), show (flV (es.take k)).drop (k * 3) = [] from List.drop_of_length_le (by rw [flV_len, List.length_take]; omega)]
      rfl
    rw [hd, List.getElem?_drop] at hp
    have := h _ _ hp
    rw [← this]
    simp only [Addr.add]
    by_cases e1 : k * 3 = 0 <;> by_cases e2 : p = 0 <;> simp [e1, e2, Nat.add_assoc]
  · rw [List.drop_of_length_le (by omega)] at hp; simp [flV] at hp
theorem SrcV.nil {w : World} {q : Addr} : SrcV w q [] := fun j u hj => by simp [flV] at hj
theorem vsrc_parts {w : World} {va : Option Addr} {vc : Nat} {g : List Vt} (h : VSrc w va vc g) (hc : g.length ≤ vc) {k : Nat} (hk : k ≤ g.length) :
    VSrc w va vc (g.take k) ∧ VSrc w (if vc = k then va else va.map (·.add (k * 3))) (vc - k) (g.drop k) := by
  rcases h with ⟨rfl, rfl, rfl⟩ | ⟨q, rfl, hq⟩
  · exact ⟨.inl ⟨rfl, by simp, rfl⟩, .inl ⟨by split <;> rfl, by simp, by simp⟩⟩
  · refine ⟨.inr ⟨q, rfl, hq.take k⟩, ?_⟩
    by_cases e : vc = k
    · rw [if_pos e, List.drop_of_length_le (by omega)]; exact .inr ⟨q, rfl, SrcV.nil⟩
    · rw [if_neg e]; exact .inr ⟨_, rfl, hq.dropA k⟩
theorem srcV_one {w : World} {B : Nat} {E : TypeId} {r a d : Int} (h : Str w B E #[.int .i64 r, .int .i64 a, .int .i64 d]) : SrcV w ⟨B, 0, none⟩ [(⟨r, a, d⟩ : Vt)] := by
  intro p u hp
  rw [addr_add']
  simp only [Nat.zero_add]
  match p with
  | 0 | 1 | 2 => exact h.cell _ (by simpa [flV, encV] using hp)
  | n + 3 => simp [flV, encV] at hp
theorem VSrc.parts {w : World} {va : Option Addr} {vc : Nat} {g : List Vt} (h : VSrc w va vc g) (hc : g.length ≤ vc) {k : Nat} (hk : k ≤ g.length) :
    (∀ W, (Instr.slice 23 (.slice va g.length vc) none (some (.int .i64 k)) none).run Try.prog W = .ok (.slice va (g.take k).length vc) W) ∧ VSrc w va vc (g.take k) ∧
    ∃ ad ac, (∀ W, (Instr.slice 23 (.slice va g.length vc) (some (.int .i64 k)) none none).run Try.prog W = .ok (.slice ad (g.drop k).length ac) W) ∧ VSrc w ad ac (g.drop k) := by
  obtain ⟨h1, h2⟩ := vsrc_parts h hc hk
  have ht : Try.prog.underlying 23 = some (.slice (Try.prog.elem 23)) := by kernel_rfl
  have hs : ∀ W, (sizeOf (Try.prog.elem 23)).run Try.prog W = .ok 3 W := fun W => by kernel_rfl
  refine ⟨fun W => ?_, h1, _, _, fun W => ?_, h2⟩
  · rw [run_slice_h (ht := ht) (h0 := by omega) (h2 := by omega), hs]
    simp only [Result.andThen, sliced, Int.toNat_natCast, List.length_take, Nat.min_eq_left hk, Nat.sub_zero]
    have e : (if vc = 0 then va else va.map (·.add (0 * 3))) = va := by
      split
      · rfl
      · cases va <;> simp [Addr.add]
    rw [e]
  · rw [run_slice_l (ht := ht) (h0 := by omega) (h1 := by omega), hs]
    simp only [Result.andThen, sliced, Int.toNat_natCast, List.length_drop]

end Go.Proofs.Ytgpbogalknmcmaa
