/- The map that impl makes of a list of votes, and whether it has a vote, by walks of its text; conditions: the votes are for different places. -/
import Derived.Test.YtkndndcjchlpdaaRows
import Derived.Test.YtkndndcjchlpdaaVm1
import Derived.Test.YtkndndcjchlpdaaVc1
import Derived.Test.YtkndndcjchlpdaaTwo
import Derived.Deep.QuietTactic
import Derived.BigQuiet
namespace Go.Proofs.Ytkndndcjchlpdaa
open Go.RowKit

set_option maxHeartbeats 2000000 in
theorem impl_votesOf (g : List Vt) (v : Value) (fp : List Nat) (w : World) (hbig : g.length ≤ 1099511627776) (hi : ∀ u ∈ g, VtI u) (hap : ApartV g) (hg : Vts w g v fp) :
    Calls Try.prog 41 #[v] w fun e w' => ∃ b, e = .returned (.map (some b)) ∧ w.heap.size ≤ b ∧ MapV w' b g.reverse ∧ Below w.heap.size w w' := by
  obtain ⟨va, vc, rfl⟩ := hg.slice
  have hmm := @run_makeMap Try.prog
  have hM := MapV.new w
  have hb0 : Below w.heap.size w (w.alloc (.map #[] 0)) := (Below.refl _ _).alloc (Nat.le_refl _) _
  have Hg := Lib.hid hg; clear hg
  have HM := Lib.hid hM
  have Hb0 := Lib.hid hb0
  clear hM hb0
  go_enter Try.func41, Try.ntmps41
  go_wp2_with fail
  go_loopw [9] (fun i wr => ∃ k : Nat, k ≤ g.length ∧ i = .int .i64 k ∧ MapV wr w.heap.size (g.take k).reverse ∧ Below w.heap.size w wr) (fun i _ => g.length - (intOf i).toNat)
  case atStart => exact ⟨0, by omega, rfl, by simpa using HM.out, Hb0.out⟩
  case round =>
    obtain ⟨k, hk, rfl, hmv, hbel⟩ := hrel
    clear HM Hb0 hmm
    by_cases hlt : k < g.length
    · have Hg1 := Lib.hid (Hg.out.under hbel)
      obtain ⟨b, off, rfl, hb, hat⟩ := Hg1.out.at (by omega)
      obtain ⟨c0, c1, c2⟩ := hat k hlt
      have htk : (g.take (k + 1)).reverse = g[k] :: (g.take k).reverse := by rw [List.take_succ_eq_append_getElem hlt]; simp
      have hvi := hi _ (List.getElem_mem hlt)
      have hfr : ∀ u ∈ (g.take k).reverse, ¬ SamePl u g[k] := by
        intro u hu
        rw [List.mem_reverse, List.mem_take_iff_getElem] at hu
        obtain ⟨j, hj, rfl⟩ := hu
        exact (List.pairwise_iff_getElem.1 hap) j k (by omega) hlt (by omega)
      have hln : (g.take k).reverse.length ≤ 1099511627776 := by rw [List.length_reverse, List.length_take]; omega
      have Htk := Lib.hid htk; clear htk hat
      have Hbel := Lib.hid hbel; clear hbel
      have Hmv := Lib.hid hmv; clear hmv
      generalize hx : g[k] = x at *
      generalize (g.take k).reverse = gk at *
      obtain ⟨xr, xa, xd⟩ := x
      dsimp only at *
      clear hx
      have HP := Lib.hid (fun W => vote_place xr xa xd W)
      have hal : Below wr.heap.size wr (wr.alloc (.cells #[.int .i64 xr, .int .i64 xa, .int .i64 xd] 27)) := (Below.refl _ _).alloc (Nat.le_refl _) _
      have sX := Str.new wr 27 #[.int .i64 xr, .int .i64 xa, .int .i64 xd]
      have hzx : (wr.alloc (.cells #[.int .i64 xr, .int .i64 xa, .int .i64 xd] 27)).heap.size = wr.heap.size + 1 := by simp
      have x0 := sX.cell 0 (v := .int .i64 xr) rfl
      have x1 := sX.cell 1 (v := .int .i64 xa) rfl
      have x2 := sX.cell 2 (v := .int .i64 xd) rfl
      have Hmv := Lib.hid (Hmv.out.kept (below_grown hal) (by simp))
      have Hbel := Lib.hid (below_step Hbel.out Hbel.out.size hal)
      clear sX hal
      have hmt := Hmv.out.lt
      go_wp2_with fail
      generalize wr.alloc (.cells #[.int .i64 xr, .int .i64 xa, .int .i64 xd] 27) = w1 at *
      have hx1 : wr.heap.size < w1.heap.size := by omega
      refine wp_region_L 5 (fun w' => w'.cell? ⟨wr.heap.size, 0, none⟩ = some (.int .i64 xr) ∧ w'.cell? ⟨wr.heap.size, 1, none⟩ = some (.int .i64 xa) ∧ w'.cell? ⟨wr.heap.size, 2, none⟩ = some (.int .i64 xd)) (by kernel_rfl) ⟨x0, x1, x2⟩ (fun hH => ?_)
      have Hmv := Lib.hid Hmv.out.drew
      have Hbel := Lib.hid Hbel.out.drew
      have hzd : w1.drew.heap.size = w1.heap.size := rfl
      generalize w1.drew = w2 at *
      clear x0 x1 x2 c0 c1 c2
      refine takeL 0 (v := ?va0) rfl (by kernel_rfl) (by kernel_rfl) (by kernel_rfl) (by kernel_rfl) (by kernel_rfl) (fun _ _ _ h => h) hH rfl ?ya0 ?ra0
      case ya0 => intro W hSw; go_simp; try with_reducible rfl
      try simp only [Act.put, List.setIfInBounds_toArray, List.set_cons_zero, List.set_cons_succ]
      refine takeL 1 (v := ?va1) rfl (by kernel_rfl) (by kernel_rfl) (by kernel_rfl) (by kernel_rfl) (by kernel_rfl) (fun _ _ _ h => h) hH rfl ?ya1 ?ra1
      case ya1 => intro W hSw; go_simp; try with_reducible rfl
      try simp only [Act.put, List.setIfInBounds_toArray, List.set_cons_zero, List.set_cons_succ]
      refine takeL 3 (v := ?va3) rfl (by kernel_rfl) (by kernel_rfl) (by kernel_rfl) (by kernel_rfl) (by kernel_rfl) (fun _ _ _ h => h) hH rfl ?ya3 ?ra3
      case ya3 => intro W hSw; go_simp; try with_reducible rfl
      try simp only [Act.put, List.setIfInBounds_toArray, List.set_cons_zero, List.set_cons_succ]
      refine takeL 4 (v := ?va4) rfl (by kernel_rfl) (by kernel_rfl) (by kernel_rfl) (by kernel_rfl) (by kernel_rfl) (fun _ _ _ h => h) hH rfl ?ya4 ?ra4
      case ya4 => intro W hSw; go_simp; try with_reducible rfl
      try simp only [Act.put, List.setIfInBounds_toArray, List.set_cons_zero, List.set_cons_succ]
      refine callL 2 rfl (by kernel_rfl) rfl (fun K hK => ?_)
      go_simp
      go_at_call 42
      refine (HP.out _).mono ?_
      rintro e w3 ⟨rfl, hb3⟩
      have Hmv := Lib.hid (Hmv.out.kept (below_grown hb3) (by simp))
      have Hbel := Lib.hid (below_step Hbel.out Hbel.out.size hb3)
      refine hK.out _ _ ⟨(hb3.cell (p := ⟨wr.heap.size, 0, none⟩) (by simp only; omega)).trans hH.1, (hb3.cell (p := ⟨wr.heap.size, 1, none⟩) (by simp only; omega)).trans hH.2.1, (hb3.cell (p := ⟨wr.heap.size, 2, none⟩) (by simp only; omega)).trans hH.2.2⟩ (fun hH => ?_)
      clear hK K hb3
      try simp only [Act.put, List.setIfInBounds_toArray, List.set_cons_zero, List.set_cons_succ]
      obtain ⟨w4, hrun, hm4, hg4⟩ := Hmv.out.store (v := ⟨xr, xa, xd⟩) hvi hfr hln
      dsimp only at hrun
      refine lastL rfl (by kernel_rfl) (by kernel_rfl) (by kernel_rfl) rfl (fun K hK => ?_)
      go_simp
      refine hK.out _ _ ?_
      clear hK K
      try simp only [Act.put]
      have Hb4 := Lib.hid (Hbel.out.grown hg4 Hbel.out.size (fun q e => by cases e; exact Nat.le_refl _))
      have Hm4 := Lib.hid hm4
      clear hH hrun hm4 hg4
      go_wp2
      go_roundw
      case rel => exact ⟨k + 1, by omega, by go_num, by rw [Htk.out]; exact Hm4.out, Hb4.out⟩
      case measure => simp [intOf]; omega
    · have hkn : k = g.length := by omega
      subst hkn
      rw [List.take_length] at hmv
      have Hmv := Lib.hid hmv; clear hmv
      have Hbel := Lib.hid hbel; clear hbel
      go_wp2
      go_ret
      exact ⟨_, rfl, Nat.le_refl _, Hmv.out, Hbel.out⟩

set_option maxHeartbeats 1000000 in
theorem votes_has (b : Nat) (gm : List Vt) (r a d : Int) (w : World) (hr : inI r) (ha : inI a) (hm : MapV w b gm) :
    Calls Try.prog 44 #[.map (some b), .agg #[.int .i64 r, .int .i64 a, .int .i64 d]] w fun e w' => e = .returned (.bool (decide (⟨r, a, d⟩ ∈ gm))) ∧ Below w.heap.size w w' := by
  have hb0 : Below w.heap.size w (w.alloc (.cells #[.int .i64 r, .int .i64 a, .int .i64 d] 27)) := (Below.refl _ _).alloc (Nat.le_refl _) _
  have s0 := Str.new w 27 #[.int .i64 r, .int .i64 a, .int .i64 d]
  have hz0 : (w.alloc (.cells #[.int .i64 r, .int .i64 a, .int .i64 d] 27)).heap.size = w.heap.size + 1 := by simp
  have k0 := s0.cell 0 (v := .int .i64 r) rfl
  have k1 := s0.cell 1 (v := .int .i64 a) rfl
  have k2 := s0.cell 2 (v := .int .i64 d) rfl
  have HM := Lib.hid (hm.kept (below_grown hb0) (by simp))
  have Hb0 := Lib.hid hb0; clear hb0 s0 hm
  have H1 := Lib.hid (fun W => vote_place r a d W)
  go_enter Try.func44, Try.ntmps44
  go_wp2_with fail
  generalize w.alloc (.cells #[.int .i64 r, .int .i64 a, .int .i64 d] 27) = W0 at *
  refine (H1.out W0).mono ?_
  rintro e w1 ⟨rfl, hb1⟩
  have k2 := (hb1.cell (p := ⟨w.heap.size, 2, none⟩) (by simp only; omega)).trans k2
  have hm1 := HM.out.kept (below_grown hb1) (by simp)
  have Hb1 := Lib.hid (below_step Hb0.out Hb0.out.size hb1)
  obtain ⟨dd, ok, hrun, hok, hd⟩ := hm1.look hr ha
  have hmem : decide ((⟨r, a, d⟩ : Vt) ∈ gm) = (ok && decide (dd = d)) := by
    rw [Bool.eq_iff_iff, decide_eq_true_iff, Bool.and_eq_true, hok, decide_eq_true_iff]
    constructor
    · intro hin
      exact ⟨⟨_, hin, rfl, rfl⟩, hd _ hin rfl rfl⟩
    · rintro ⟨⟨u, hu, e1, e2⟩, e3⟩
      have e4 := hd u hu e1 e2
      have : u = ⟨r, a, d⟩ := by cases u; simp only at *; rw [e1, e2, ← e4, e3]
      rw [← this]; exact hu
  have Hmem := Lib.hid hmem
  clear hmem hok hd hm1 hb1 k0 k1 HM H1
  cases ok with
  | false =>
    go_wp2
    go_ret
    exact ⟨ret_bool (by rw [Hmem.out]; rfl), Hb1.out⟩
  | true =>
    go_wp2
    go_ret
    exact ⟨ret_bool (by rw [Hmem.out]; by_cases h : dd = d <;> simp [h]), Hb1.out⟩

end Go.Proofs.Ytkndndcjchlpdaa
