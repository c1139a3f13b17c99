/- The exact law of CertCheck holds at every argument; no conditions of our own. -/
import Derived.Test.YteglefchkecfjaaRows
import Derived.Test.YteglefchkecfjaaBu0
import Derived.Test.YteglefchkecfjaaBu1
import Derived.Test.YteglefchkecfjaaBu2
namespace Go.Proofs.Yteglefchkecfjaa
open Go.ChangeShapes Go.WideShapes Go.ChangeAt Go.RowKit

set_option maxHeartbeats 2000000 in
theorem fnExactCertCheck_walk (ac : Option Addr) (capc : Nat) (xc : List Int) (ak : Option Addr) (capk : Nat) (xk : List Int) (d : Int) (aS : Option Addr) (caps : Nat) (xs : List Int) (s : Int) (w : World) (_hkc : xc.length ≤ capc) (hmc : xc.length ≤ maxLen) (hic : IntsAt w ac xc) (_hwc : ∀ z ∈ xc, (Lit.int .i64 z).wf = true) (_hkk : xk.length ≤ capk) (hmk : xk.length ≤ maxLen) (hik : IntsAt w ak xk) (_hwk : ∀ z ∈ xk, (Lit.int .i64 z).wf = true)
    (_hd : -9223372036854775808 ≤ d ∧ d ≤ 9223372036854775807) (_hs : -9223372036854775808 ≤ s ∧ s ≤ 9223372036854775807) (hms : xs.length ≤ maxLen) (his : IntsAt w aS xs) :
    Calls Try.prog 10 #[.slice ac xc.length capc, .slice ak xk.length capk, .agg #[.int .i64 d, .slice aS xs.length caps, .int .i64 s]] w fun e w' => e = .returned (.bool true) ∧ Below w.heap.size w w' := by
  unfold maxLen at hmc hmk hms
  have hb0 : Below w.heap.size w (w.alloc (.cells #[.int .i64 d, .slice aS xs.length caps, .int .i64 s] 52)) := (Below.refl _ w).alloc (Nat.le_refl _) _
  by_cases hlc : xc.length ≤ 1048576
  case neg =>
    go_enter Try.func10, Try.ntmps10
    go_wp2
    go_ret
    exact ⟨rfl, hb0⟩
  by_cases hlk : xk.length ≤ 1048576
  case neg =>
    go_enter Try.func10, Try.ntmps10
    go_wp2
    go_ret
    exact ⟨rfl, hb0⟩
  have Hsz := Lib.hid (fun w => laws_szCert d s aS caps xs 1048576 w (by omega) (by omega))
  have s0 := Str.new w 52 #[.int .i64 d, .slice aS xs.length caps, .int .i64 s]
  have k0 := s0.cell 0 (v := .int .i64 d) rfl
  have k1 := s0.cell 1 (v := .slice aS xs.length caps) rfl
  have k2 := s0.cell 2 (v := .int .i64 s) rfl
  have hz0 : (w.alloc (.cells #[.int .i64 d, .slice aS xs.length caps, .int .i64 s] 52)).heap.size = w.heap.size + 1 := by simp
  have Hs0 := Lib.hid s0; clear s0
  have Hic := Lib.hid hic; clear hic
  have Hik := Lib.hid hik; clear hik
  have His := Lib.hid his; clear his
  have Hb0 := Lib.hid hb0; clear hb0
  go_enter Try.func10, Try.ntmps10
  go_wp2_with fail
  generalize w.alloc (.cells #[.int .i64 d, .slice aS xs.length caps, .int .i64 s] 52) = W0 at *
  refine (Hsz.out W0).mono ?_
  rintro e w1 ⟨rfl, hb1⟩
  have Hb1 := Lib.hid (below_step Hb0.out Hb0.out.size hb1)
  have hz1 := hb1.size
  have Hs1 := Lib.hid (show Str w1 w.heap.size 52 #[.int .i64 d, .slice aS xs.length caps, .int .i64 s] from (hb1.block _ (by omega)).trans Hs0.out)
  clear hb1 k0 k1 k2
  by_cases hl1 : xs.length ≤ 1048576
  case neg =>
    rw [if_neg hl1]
    go_wp2
    go_ret
    exact ⟨rfl, Hb1.out⟩
  rw [if_pos hl1]
  have hneg : decide (((1048576 : Nat) : Int) - (xs.length : Int) < 0) = false := decide_eq_false (by omega)
  have hneg2 : ¬ (1048576 : Int) - (xs.length : Int) < 0 := by omega
  have j0 := Hs1.out.cell 0 (v := .int .i64 d) rfl
  have j1 := Hs1.out.cell 1 (v := .slice aS xs.length caps) rfl
  have j2 := Hs1.out.cell 2 (v := .int .i64 s) rfl
  have Hspec := Lib.hid (fun a cc b ck v cv w h1 h2 h3 => spec_CertCheck a cc xc b ck xk d v cv xs s w (by omega) (by omega) (by omega) h1 h2 h3)
  have Himpl := Lib.hid (fun a cc b ck v cv w h1 h2 h3 => impl_CertCheck a cc xc b ck xk d v cv xs s w (by omega) (by omega) (by omega) h1 h2 h3)
  generalize ccB xc xk d xs s = ok at *
  go_wp2_with fail
  refine wp_region_held_drew (S := fun w' => w'.cell? ⟨w.heap.size, 0, none⟩ = some (.int .i64 d) ∧ w'.cell? ⟨w.heap.size, 1, none⟩ = some (.slice aS xs.length caps) ∧ w'.cell? ⟨w.heap.size, 2, none⟩ = some (.int .i64 s)) (by kernel_rfl) ⟨j0, j1, j2⟩ (fun hH => ?_)
  refine takeH 0 (v := ?vp0) rfl (by kernel_rfl) (by kernel_rfl) (by kernel_rfl) (fun _ _ _ h => h) hH rfl ?yp0 ?rp0
  case yp0 => intro W hSw; go_simp; try with_reducible rfl
  try simp only [Act.put, List.setIfInBounds_toArray, List.set_cons_zero, List.set_cons_succ]
  refine takeH 2 (v := ?vp1) rfl (by kernel_rfl) (by kernel_rfl) (by kernel_rfl) (fun _ _ _ h => h) hH rfl ?yp1 ?rp1
  case yp1 => intro W hSw; go_simp; try with_reducible rfl
  try simp only [Act.put, List.setIfInBounds_toArray, List.set_cons_zero, List.set_cons_succ]
  refine takeH 4 (v := ?vp2) rfl (by kernel_rfl) (by kernel_rfl) (by kernel_rfl) (fun _ _ _ h => h) hH rfl ?yp2 ?rp2
  case yp2 => intro W hSw; go_simp; try with_reducible rfl
  try simp only [Act.put, List.setIfInBounds_toArray, List.set_cons_zero, List.set_cons_succ]
  refine callH 1 rfl (by kernel_rfl) rfl (fun K hK => ?_)
  go_simp
  refine (laws_toIntS ac capc xc w1.drew (by omega) (Hic.out.below Hb1.out.drew)).mono ?_
  rintro e w2 ⟨vd, rfl, hod, hb2⟩
  dsimp only
  have hwd : w1.drew.heap.size = w1.heap.size := rfl
  have hz2 := hb2.size
  have Hb2 := Lib.hid (below_step Hb1.out.drew Hb1.out.size hb2)
  have Hd2 := Lib.hid hod; clear hod
  obtain ⟨ad, cd, rfl, _, _⟩ := Hd2.out.ints
  refine hK.out _ _ ⟨(hb2.cell (p := ⟨w.heap.size, 0, none⟩) (by simp only; omega)).trans hH.1, (hb2.cell (p := ⟨w.heap.size, 1, none⟩) (by simp only; omega)).trans hH.2.1, (hb2.cell (p := ⟨w.heap.size, 2, none⟩) (by simp only; omega)).trans hH.2.2⟩ (fun hH => ?_)
  clear hK K
  try simp only [Act.put, List.setIfInBounds_toArray, List.set_cons_zero, List.set_cons_succ]
  refine callH 3 rfl (by kernel_rfl) rfl (fun K hK => ?_)
  go_simp
  refine (laws_toIntS ak capk xk w2 (by omega) (Hik.out.below Hb2.out)).mono ?_
  rintro e w3 ⟨ve, rfl, hoe, hb3⟩
  dsimp only
  have hz3 := hb3.size
  have Hb3 := Lib.hid (below_step Hb2.out Hb2.out.size hb3)
  have Hd3 := Lib.hid (Hd2.out.below hb3)
  have He3 := Lib.hid hoe; clear hoe
  obtain ⟨ae, ce, rfl, _, _⟩ := He3.out.ints
  refine hK.out _ _ ⟨(hb3.cell (p := ⟨w.heap.size, 0, none⟩) (by simp only; omega)).trans hH.1, (hb3.cell (p := ⟨w.heap.size, 1, none⟩) (by simp only; omega)).trans hH.2.1, (hb3.cell (p := ⟨w.heap.size, 2, none⟩) (by simp only; omega)).trans hH.2.2⟩ (fun hH => ?_)
  clear hK K
  try simp only [Act.put, List.setIfInBounds_toArray, List.set_cons_zero, List.set_cons_succ]
  refine callH 5 rfl (by kernel_rfl) rfl (fun K hK => ?_)
  go_simp
  refine (laws_toCert d s aS caps xs w3 (by omega) (His.out.below Hb3.out)).mono ?_
  rintro e w4 ⟨vf, rfl, hof, hb4⟩
  dsimp only
  have hz4 := hb4.size
  have Hb4 := Lib.hid (below_step Hb3.out Hb3.out.size hb4)
  have Hd4 := Lib.hid (Hd3.out.below hb4)
  have He4 := Lib.hid (He3.out.below hb4)
  have Hf4 := Lib.hid hof; clear hof
  obtain ⟨af, cf, rfl, _, _⟩ := Hf4.out.ints
  refine hK.out _ _ ⟨(hb4.cell (p := ⟨w.heap.size, 0, none⟩) (by simp only; omega)).trans hH.1, (hb4.cell (p := ⟨w.heap.size, 1, none⟩) (by simp only; omega)).trans hH.2.1, (hb4.cell (p := ⟨w.heap.size, 2, none⟩) (by simp only; omega)).trans hH.2.2⟩ (fun hH => ?_)
  clear hK K
  try simp only [Act.put, List.setIfInBounds_toArray, List.set_cons_zero, List.set_cons_succ]
  refine callH 6 rfl (by kernel_rfl) rfl (fun K hK => ?_)
  go_simp
  refine (Hspec.out ad cd ae ce af cf w4 Hd4.out.at He4.out.at Hf4.out.at).mono ?_
  rintro e w5 ⟨rfl, hb5⟩
  dsimp only
  have hz5 := hb5.size
  have Hb5 := Lib.hid (below_step Hb4.out Hb4.out.size hb5)
  refine hK.out _ _ ⟨(hb5.cell (p := ⟨w.heap.size, 0, none⟩) (by simp only; omega)).trans hH.1, (hb5.cell (p := ⟨w.heap.size, 1, none⟩) (by simp only; omega)).trans hH.2.1, (hb5.cell (p := ⟨w.heap.size, 2, none⟩) (by simp only; omega)).trans hH.2.2⟩ (fun hH => ?_)
  clear hK K
  try simp only [Act.put, List.setIfInBounds_toArray, List.set_cons_zero, List.set_cons_succ]
  refine takeH 7 (v := ?vp7) rfl (by kernel_rfl) (by kernel_rfl) (by kernel_rfl) (fun _ _ _ h => h) hH rfl ?yp7 ?rp7
  case yp7 => intro W hSw; go_simp; try with_reducible rfl
  try simp only [Act.put, List.setIfInBounds_toArray, List.set_cons_zero, List.set_cons_succ]
  refine wpAnyH_done (by kernel_rfl) ?_ _
  try simp only [Act.put]
  obtain ⟨i0, i1, i2⟩ := hH
  clear j0 j1 j2 hb2 hb3 hb4 hb5 Hd2 Hd3 Hd4 He3 He4 Hf4 Hs1
  go_wp2_with fail
  refine (laws_toIntS ac capc xc w5 (by omega) (Hic.out.below Hb5.out)).mono ?_
  rintro e w6 ⟨vx, rfl, hox, hb6⟩
  have hz6 := hb6.size
  have Hb6 := Lib.hid (below_step Hb5.out Hb5.out.size hb6)
  have Hx6 := Lib.hid hox; clear hox
  obtain ⟨ax, cx, rfl, _, _⟩ := Hx6.out.ints
  have p0 := (hb6.cell (p := ⟨w.heap.size, 0, none⟩) (by simp only; omega)).trans i0
  have p1 := (hb6.cell (p := ⟨w.heap.size, 1, none⟩) (by simp only; omega)).trans i1
  have p2 := (hb6.cell (p := ⟨w.heap.size, 2, none⟩) (by simp only; omega)).trans i2
  clear hb6 i0 i1 i2
  go_wp2_with fail
  refine (laws_toIntS ak capk xk w6 (by omega) (Hik.out.below Hb6.out)).mono ?_
  rintro e w7 ⟨vy, rfl, hoy, hb7⟩
  have hz7 := hb7.size
  have Hb7 := Lib.hid (below_step Hb6.out Hb6.out.size hb7)
  have Hx7 := Lib.hid (Hx6.out.below hb7)
  have Hy7 := Lib.hid hoy; clear hoy
  obtain ⟨ay, cy, rfl, _, _⟩ := Hy7.out.ints
  have p0 := (hb7.cell (p := ⟨w.heap.size, 0, none⟩) (by simp only; omega)).trans p0
  have p1 := (hb7.cell (p := ⟨w.heap.size, 1, none⟩) (by simp only; omega)).trans p1
  have p2 := (hb7.cell (p := ⟨w.heap.size, 2, none⟩) (by simp only; omega)).trans p2
  clear hb7
  go_wp2_with fail
  refine (laws_toCert d s aS caps xs w7 (by omega) (His.out.below Hb7.out)).mono ?_
  rintro e w8 ⟨vz, rfl, hoz, hb8⟩
  have hz8 := hb8.size
  have Hb8 := Lib.hid (below_step Hb7.out Hb7.out.size hb8)
  have Hx8 := Lib.hid (Hx7.out.below hb8)
  have Hy8 := Lib.hid (Hy7.out.below hb8)
  have Hz8 := Lib.hid hoz; clear hoz
  obtain ⟨az, cz, rfl, _, _⟩ := Hz8.out.ints
  have p0 := (hb8.cell (p := ⟨w.heap.size, 0, none⟩) (by simp only; omega)).trans p0
  have p1 := (hb8.cell (p := ⟨w.heap.size, 1, none⟩) (by simp only; omega)).trans p1
  have p2 := (hb8.cell (p := ⟨w.heap.size, 2, none⟩) (by simp only; omega)).trans p2
  clear hb8
  have hb9 : Below w8.heap.size w8 (w8.alloc (.cells #[.int .i64 d, .slice az xs.length cz, .int .i64 s] 37)) := (Below.refl _ w8).alloc (Nat.le_refl _) _
  have s9 := Str.new w8 37 #[.int .i64 d, .slice az xs.length cz, .int .i64 s]
  have hz9 : (w8.alloc (.cells #[.int .i64 d, .slice az xs.length cz, .int .i64 s] 37)).heap.size = w8.heap.size + 1 := by simp
  have Hb9 := Lib.hid (below_step Hb8.out Hb8.out.size hb9)
  have Hx9 := Lib.hid (Hx8.out.below hb9)
  have Hy9 := Lib.hid (Hy8.out.below hb9)
  have Hz9 := Lib.hid (Hz8.out.below hb9)
  have p0 := (hb9.cell (p := ⟨w.heap.size, 0, none⟩) (by simp only; omega)).trans p0
  have p1 := (hb9.cell (p := ⟨w.heap.size, 1, none⟩) (by simp only; omega)).trans p1
  have p2 := (hb9.cell (p := ⟨w.heap.size, 2, none⟩) (by simp only; omega)).trans p2
  have q0 := s9.cell 0 (v := .int .i64 d) rfl
  have q1 := s9.cell 1 (v := .slice az xs.length cz) rfl
  have q2 := s9.cell 2 (v := .int .i64 s) rfl
  clear hb9 s9 Hx6 Hx7 Hx8 Hy7 Hy8 Hz8
  go_wp2_with fail
  generalize w8.alloc (.cells #[.int .i64 d, .slice az xs.length cz, .int .i64 s] 37) = w9 at *
  refine (Himpl.out ax cx ay cy az cz w9 Hx9.out.at Hy9.out.at Hz9.out.at).mono ?_
  rintro e w10 ⟨rfl, hb10⟩
  have hz10 := hb10.size
  have Hb10 := Lib.hid (below_step Hb9.out Hb9.out.size hb10)
  have Hx10 := Lib.hid (Hx9.out.below hb10)
  have Hy10 := Lib.hid (Hy9.out.below hb10)
  have Hz10 := Lib.hid (Hz9.out.below hb10)
  have p0 := (hb10.cell (p := ⟨w.heap.size, 0, none⟩) (by simp only; omega)).trans p0
  have p1 := (hb10.cell (p := ⟨w.heap.size, 1, none⟩) (by simp only; omega)).trans p1
  have p2 := (hb10.cell (p := ⟨w.heap.size, 2, none⟩) (by simp only; omega)).trans p2
  have q0 := (hb10.cell (p := ⟨w8.heap.size, 0, none⟩) (by simp only; omega)).trans q0
  have q1 := (hb10.cell (p := ⟨w8.heap.size, 1, none⟩) (by simp only; omega)).trans q1
  have q2 := (hb10.cell (p := ⟨w8.heap.size, 2, none⟩) (by simp only; omega)).trans q2
  clear hb10 Hx9 Hy9 Hz9
  go_wp2_with fail
  refine (laws_toIntS ac capc xc w10 (by omega) (Hic.out.below Hb10.out)).mono ?_
  rintro e w11 ⟨vt, rfl, hot, hb11⟩
  have hz11 := hb11.size
  have Hb11 := Lib.hid (below_step Hb10.out Hb10.out.size hb11)
  have Hx11 := Lib.hid (Hx10.out.below hb11)
  have Hy11 := Lib.hid (Hy10.out.below hb11)
  have Hz11 := Lib.hid (Hz10.out.below hb11)
  have p0 := (hb11.cell (p := ⟨w.heap.size, 0, none⟩) (by simp only; omega)).trans p0
  have p1 := (hb11.cell (p := ⟨w.heap.size, 1, none⟩) (by simp only; omega)).trans p1
  have p2 := (hb11.cell (p := ⟨w.heap.size, 2, none⟩) (by simp only; omega)).trans p2
  have q0 := (hb11.cell (p := ⟨w8.heap.size, 0, none⟩) (by simp only; omega)).trans q0
  have q1 := (hb11.cell (p := ⟨w8.heap.size, 1, none⟩) (by simp only; omega)).trans q1
  have q2 := (hb11.cell (p := ⟨w8.heap.size, 2, none⟩) (by simp only; omega)).trans q2
  have Ht := Lib.hid hot; clear hot
  obtain ⟨aT, ct, rfl, _, _⟩ := Ht.out.ints
  clear hb11 Hx10 Hy10 Hz10
  go_wp2_with fail
  refine (laws_eqIntS' ax aT cx ct xc w11 (by omega) Hx11.out.at Ht.out.at).mono ?_
  rintro e w12 ⟨rfl, hb12⟩
  have hb12 := hb12.below w11.heap.size
  have hz12 := hb12.size
  have Hb12 := Lib.hid (below_step Hb11.out Hb11.out.size hb12)
  have Hx12 := Lib.hid (Hx11.out.below hb12)
  have Hy12 := Lib.hid (Hy11.out.below hb12)
  have Hz12 := Lib.hid (Hz11.out.below hb12)
  have p0 := (hb12.cell (p := ⟨w.heap.size, 0, none⟩) (by simp only; omega)).trans p0
  have p1 := (hb12.cell (p := ⟨w.heap.size, 1, none⟩) (by simp only; omega)).trans p1
  have p2 := (hb12.cell (p := ⟨w.heap.size, 2, none⟩) (by simp only; omega)).trans p2
  have q0 := (hb12.cell (p := ⟨w8.heap.size, 0, none⟩) (by simp only; omega)).trans q0
  have q1 := (hb12.cell (p := ⟨w8.heap.size, 1, none⟩) (by simp only; omega)).trans q1
  have q2 := (hb12.cell (p := ⟨w8.heap.size, 2, none⟩) (by simp only; omega)).trans q2
  clear hb12 Hx11 Hy11 Hz11
  clear Ht
  go_wp2_with fail
  refine (laws_toIntS ak capk xk w12 (by omega) (Hik.out.below Hb12.out)).mono ?_
  rintro e w13 ⟨vu, rfl, hou, hb13⟩
  have hz13 := hb13.size
  have Hb13 := Lib.hid (below_step Hb12.out Hb12.out.size hb13)
  have Hx13 := Lib.hid (Hx12.out.below hb13)
  have Hy13 := Lib.hid (Hy12.out.below hb13)
  have Hz13 := Lib.hid (Hz12.out.below hb13)
  have p0 := (hb13.cell (p := ⟨w.heap.size, 0, none⟩) (by simp only; omega)).trans p0
  have p1 := (hb13.cell (p := ⟨w.heap.size, 1, none⟩) (by simp only; omega)).trans p1
  have p2 := (hb13.cell (p := ⟨w.heap.size, 2, none⟩) (by simp only; omega)).trans p2
  have q0 := (hb13.cell (p := ⟨w8.heap.size, 0, none⟩) (by simp only; omega)).trans q0
  have q1 := (hb13.cell (p := ⟨w8.heap.size, 1, none⟩) (by simp only; omega)).trans q1
  have q2 := (hb13.cell (p := ⟨w8.heap.size, 2, none⟩) (by simp only; omega)).trans q2
  have Ht := Lib.hid hou; clear hou
  obtain ⟨aT, ct, rfl, _, _⟩ := Ht.out.ints
  clear hb13 Hx12 Hy12 Hz12
  go_wp2_with fail
  refine (laws_eqIntS' ay aT cy ct xk w13 (by omega) Hy13.out.at Ht.out.at).mono ?_
  rintro e w14 ⟨rfl, hb14⟩
  have hb14 := hb14.below w13.heap.size
  have hz14 := hb14.size
  have Hb14 := Lib.hid (below_step Hb13.out Hb13.out.size hb14)
  have Hx14 := Lib.hid (Hx13.out.below hb14)
  have Hy14 := Lib.hid (Hy13.out.below hb14)
  have Hz14 := Lib.hid (Hz13.out.below hb14)
  have p0 := (hb14.cell (p := ⟨w.heap.size, 0, none⟩) (by simp only; omega)).trans p0
  have p1 := (hb14.cell (p := ⟨w.heap.size, 1, none⟩) (by simp only; omega)).trans p1
  have p2 := (hb14.cell (p := ⟨w.heap.size, 2, none⟩) (by simp only; omega)).trans p2
  have q0 := (hb14.cell (p := ⟨w8.heap.size, 0, none⟩) (by simp only; omega)).trans q0
  have q1 := (hb14.cell (p := ⟨w8.heap.size, 1, none⟩) (by simp only; omega)).trans q1
  have q2 := (hb14.cell (p := ⟨w8.heap.size, 2, none⟩) (by simp only; omega)).trans q2
  clear hb14 Hx13 Hy13 Hz13
  clear Ht
  go_wp2_with fail
  refine wp_region_held_drew (S := fun w' => w'.cell? ⟨w.heap.size, 0, none⟩ = some (.int .i64 d) ∧ w'.cell? ⟨w.heap.size, 1, none⟩ = some (.slice aS xs.length caps) ∧ w'.cell? ⟨w.heap.size, 2, none⟩ = some (.int .i64 s) ∧ w'.cell? ⟨w8.heap.size, 0, none⟩ = some (.int .i64 d) ∧ w'.cell? ⟨w8.heap.size, 1, none⟩ = some (.slice az xs.length cz) ∧ w'.cell? ⟨w8.heap.size, 2, none⟩ = some (.int .i64 s)) (by kernel_rfl) ⟨p0, p1, p2, q0, q1, q2⟩ (fun hH => ?_)
  refine takeH 0 (v := ?vq0) rfl (by kernel_rfl) (by kernel_rfl) (by kernel_rfl) (fun _ _ _ h => h) hH rfl ?yq0 ?rq0
  case yq0 => intro W hSw; go_simp; try with_reducible rfl
  try simp only [Act.put, List.setIfInBounds_toArray, List.set_cons_zero, List.set_cons_succ]
  refine takeH 1 (v := ?vq1) rfl (by kernel_rfl) (by kernel_rfl) (by kernel_rfl) (fun _ _ _ h => h) hH rfl ?yq1 ?rq1
  case yq1 => intro W hSw; go_simp; try with_reducible rfl
  try simp only [Act.put, List.setIfInBounds_toArray, List.set_cons_zero, List.set_cons_succ]
  refine callH 2 rfl (by kernel_rfl) rfl (fun K hK => ?_)
  go_simp
  refine (laws_toCert d s aS caps xs w14.drew (by omega) (His.out.below Hb14.out.drew)).mono ?_
  rintro e w15 ⟨vg, rfl, hog, hb15⟩
  dsimp only
  have hwd14 : w14.drew.heap.size = w14.heap.size := rfl
  have hz15 := hb15.size
  have Hb15 := Lib.hid (below_step Hb14.out.drew Hb14.out.size hb15)
  have Hz15 := Lib.hid (Own.below (w := w14.drew) Hz14.out hb15)
  have Hg15 := Lib.hid hog; clear hog
  obtain ⟨ag, cg, rfl, _, _⟩ := Hg15.out.ints
  refine hK.out _ _ ⟨(hb15.cell (p := ⟨w.heap.size, 0, none⟩) (by simp only; omega)).trans hH.1, (hb15.cell (p := ⟨w.heap.size, 1, none⟩) (by simp only; omega)).trans hH.2.1, (hb15.cell (p := ⟨w.heap.size, 2, none⟩) (by simp only; omega)).trans hH.2.2.1, (hb15.cell (p := ⟨w8.heap.size, 0, none⟩) (by simp only; omega)).trans hH.2.2.2.1, (hb15.cell (p := ⟨w8.heap.size, 1, none⟩) (by simp only; omega)).trans hH.2.2.2.2.1, (hb15.cell (p := ⟨w8.heap.size, 2, none⟩) (by simp only; omega)).trans hH.2.2.2.2.2⟩ (fun hH => ?_)
  clear hK K
  try simp only [Act.put, List.setIfInBounds_toArray, List.set_cons_zero, List.set_cons_succ]
  refine callH 3 rfl (by kernel_rfl) rfl (fun K hK => ?_)
  go_simp
  refine (laws_eqCert' d s az ag cz cg xs w15 (by omega) Hz15.out.at Hg15.out.at).mono ?_
  rintro e w16 ⟨rfl, hb16⟩
  dsimp only
  have hz16 := hb16.size
  have Hb16 := Lib.hid (below_step Hb15.out Hb15.out.size hb16)
  refine hK.out _ _ ⟨(hb16.cell (p := ⟨w.heap.size, 0, none⟩) (by simp only; omega)).trans hH.1, (hb16.cell (p := ⟨w.heap.size, 1, none⟩) (by simp only; omega)).trans hH.2.1, (hb16.cell (p := ⟨w.heap.size, 2, none⟩) (by simp only; omega)).trans hH.2.2.1, (hb16.cell (p := ⟨w8.heap.size, 0, none⟩) (by simp only; omega)).trans hH.2.2.2.1, (hb16.cell (p := ⟨w8.heap.size, 1, none⟩) (by simp only; omega)).trans hH.2.2.2.2.1, (hb16.cell (p := ⟨w8.heap.size, 2, none⟩) (by simp only; omega)).trans hH.2.2.2.2.2⟩ (fun hH => ?_)
  clear hK K
  try simp only [Act.put, List.setIfInBounds_toArray, List.set_cons_zero, List.set_cons_succ]
  refine takeH 4 (v := ?vq4) rfl (by kernel_rfl) (by kernel_rfl) (by kernel_rfl) (fun _ _ _ h => h) hH rfl ?yq4 ?rq4
  case yq4 => intro W hSw; go_simp; try with_reducible rfl
  try simp only [Act.put, List.setIfInBounds_toArray, List.set_cons_zero, List.set_cons_succ]
  refine wpAnyH_done (by kernel_rfl) ?_ _
  try simp only [Act.put]
  go_wp2
  go_ret
  exact ⟨rfl, Hb16.out⟩

theorem fnExactCertCheck_own : ownKnob Try.prog.godebug = none := by kernel_rfl
theorem fnExactCertCheck_laidOut : laidOutB Try.prog = true := by kernel_rfl

set_option maxRecDepth 8000 in
theorem fnExactCertCheck_lifted (os : Os) (started : os.Started) (H : Type) (enc : TypeId × Value → H) :
    ReturnsInHanded {} Try.checked os 10 .any (Rows.fnExactCertCheckSpec.pre6 enc Try.prog Try.f10 Rows.fnExactCertCheckRow.domain false) (Rows.fnExactCertCheckSpec.post enc Try.prog Try.f10 false true false false) := by
  refine law_lifted (C := Try.checked) (tb := 4) fnExactCertCheck_own fnExactCertCheck_laidOut started (by kernel_rfl) Try.func10 rfl Try.underlying4 rfl (by rw [Try.params10]; exact of_decide_eq_true (by kernel_rfl)) ?_
    (ChangeSpec.witness6 (enc := enc) (C := Try.checked) false ⟨#[], #[.slice none 0 0, .slice none 0 0, .agg #[.int .i64 0, .slice none 0 0, .int .i64 0]], []⟩ 8 (by kernel_rfl) (by kernel_rfl) (by kernel_rfl) (by kernel_rfl)) ?_
  · intro ds hds
    rw [Try.params10] at hds
    match ds, hds with
    | [d0, d1, d2], _ => rfl
  · intro W base args ds p hval0 hA0
    have hval : ∀ (j : Nat) t v, Try.f10.params[j]? = some t → args[j]? = some v → Value.okWide Try.prog W .any base t v := hval0
    have hA : DataW.TrodAll enc Try.prog W 0 (fun _ => true) true Try.f10.params.toList args.toList ds p := hA0
    rw [Try.params10] at hA hval
    obtain ⟨v0, vs0, d0, ds0, p0, q0, hargs0, rfl, rfl, h0, r0⟩ := trodAll_cons hA
    obtain ⟨v1, vs1, d1, ds1, p1, q1, hargs1, rfl, rfl, h1, r1⟩ := trodAll_cons r0
    obtain ⟨v2, vs2, d2, ds2, p2, q2, hargs2, rfl, rfl, h2, r2⟩ := trodAll_cons r1
    obtain ⟨hnil, rfl, rfl⟩ := trodAll_nil r2
    subst hnil
    subst hargs2
    subst hargs1
    obtain rfl : args = #[v0, v1, v2] := by cases args; simp_all
    obtain ⟨a0, cap0, zs0, rfl, hk0, hm0, hi0, hw0⟩ := open_slice_ints Try.underlying26 Try.underlying3 (by kernel_rfl) (hval 0 26 v0 rfl rfl) h0
    obtain ⟨a1, cap1, zs1, rfl, hk1, hm1, hi1, hw1⟩ := open_slice_ints Try.underlying26 Try.underlying3 (by kernel_rfl) (hval 1 26 v1 rfl rfl) h1
    obtain ⟨n2, a2, cap2, zs2, s2, rfl, hn2, hs2, hm2, hi2⟩ := open_cert (hval 2 52 v2 rfl rfl) h2
    exact fnExactCertCheck_walk a0 cap0 zs0 a1 cap1 zs1 n2 a2 cap2 zs2 s2 W hk0 hm0 hi0 hw0 hk1 hm1 hi1 hw1 hn2 hs2 hm2 hi2

set_option maxRecDepth 8000 in
theorem fnExactCertCheck_holds : Rows.FnExactCertCheckSaid :=
  OpenClaim.holds_of_wide 10 Try.f10 rfl rfl rfl rfl rfl rfl rfl ⟨rfl, rfl, rfl, rfl, rfl⟩ rfl rfl rfl rfl rfl (by kernel_rfl) Try.func10 (by kernel_rfl)
    (of_decide_eq_true (by kernel_rfl)) (by unfold Func.isWrapper; first | (rw [if_pos (by decide +kernel)]; kernel_rfl) | (rw [if_neg (by decide +kernel)]; exact ⟨rfl, rfl⟩))
    (fun os started H enc _ => fnExactCertCheck_lifted os started H enc)

end Go.Proofs.Yteglefchkecfjaa
