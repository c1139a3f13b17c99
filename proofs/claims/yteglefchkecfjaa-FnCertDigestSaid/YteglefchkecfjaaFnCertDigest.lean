/- Law FnCertDigest holds for every input; no conditions of our own. -/
import Derived.Test.YteglefchkecfjaaRows
import Derived.Test.YteglefchkecfjaaBu0
import Derived.Test.YteglefchkecfjaaBu1
namespace Go.Proofs.Yteglefchkecfjaa
open Go.ChangeShapes Go.WideShapes Go.ChangeAt Go.RowKit

set_option maxHeartbeats 1000000 in
theorem fnCertDigest_walk (a : Option Addr) (cap : Nat) (zs : List Int) (a' : Option Addr) (cap' : Nat) (ms : List Int) (w : World) (hk : zs.length ≤ cap) (_hm : zs.length ≤ maxLen) (hi : zs = [] ∨ ∃ b off, a = some ⟨b, off, none⟩ ∧ b < w.heap.size ∧ ∀ j (h : j < zs.length), w.cell? ⟨b, off + j, none⟩ = some (.int .u8 zs[j])) (hw : ∀ z ∈ zs, (Lit.int .u8 z).wf = true)
    (_hk' : ms.length ≤ cap') (hm' : ms.length ≤ maxLen) (_hi' : ms = [] ∨ ∃ b off, a' = some ⟨b, off, none⟩ ∧ b < w.heap.size ∧ ∀ j (h : j < ms.length), w.cell? ⟨b, off + j, none⟩ = some (.int .u8 ms[j])) (_hw' : ∀ z ∈ ms, (Lit.int .u8 z).wf = true) :
    Calls Try.prog 6 #[.slice a zs.length cap, .slice a' ms.length cap'] w fun e w' => e = .returned (.bool true) ∧ Below w.heap.size w w' := by
  unfold maxLen at hm'
  by_cases hl : 1048576 < zs.length
  · go_enter Try.func6, Try.ntmps6
    go_wp2
    go_ret
    exact ⟨rfl, Below.refl _ _⟩
  by_cases hl' : 1048576 < ms.length
  · go_enter Try.func6, Try.ntmps6
    go_wp2
    go_ret
    exact ⟨rfl, Below.refl _ _⟩
  have hcode := codeAt_of hk (by omega) hi hw
  have Hcode := Lib.hid hcode; clear hcode hi hw
  go_enter Try.func6, Try.ntmps6
  go_wp2_with fail
  refine (spec_DrawCertCheck a cap zs _ Hcode.out).mono ?_
  rintro e w1 ⟨vc, c, vk, keys, d, vs, xs, s, rfl, hoc, hcl, hok, hkl, hos, hsl, hb1⟩
  obtain ⟨ac, cc, rfl, hc, _⟩ := hoc.ints
  obtain ⟨ak, ck, rfl, hk, _⟩ := hok.ints
  obtain ⟨av, cv, rfl, hv, _⟩ := hos.ints
  have hs1 := hb1.size
  have hba : Below w1.heap.size w1 (w1.alloc (.cells #[.int .i64 d, .slice av xs.length cv, .int .i64 s] 37)) := (Below.refl _ _).alloc (Nat.le_refl _) _
  have HX := Lib.hid (Str.new w1 37 #[.int .i64 d, .slice av xs.length cv, .int .i64 s])
  have hI := fun e t W (h : Below w1.heap.size w1 W) => impl_CertCheck ac cc c ak ck keys e av cv xs t W (by omega) (by omega) (by omega) (hc.below h) (hk.below h) (hv.below h)
  have hS := fun W (h : Below w1.heap.size w1 W) => spec_CertCheck ac cc c ak ck keys d av cv xs s W (by omega) (by omega) (by omega) (hc.below h) (hk.below h) (hv.below h)
  have Hk := Lib.hid hk; clear hk hok
  have Hv := Lib.hid hv; clear hv hos
  have Hba := Lib.hid hba; clear hba
  have hz1' : (w1.alloc (.cells #[.int .i64 d, .slice av xs.length cv, .int .i64 s] 37)).heap.size = w1.heap.size + 1 := by simp
  have k0 := HX.out.cell 0 (v := .int .i64 d) rfl
  have k1 := HX.out.cell 1 (v := .slice av xs.length cv) rfl
  have k2 := HX.out.cell 2 (v := .int .i64 s) rfl
  clear hc hoc
  have Hkl := Lib.hid hkl; clear hkl
  cases hq : ccB c keys d xs s with
  | false =>
    have hI' := hI d s
    rw [hq] at hI' hS
    have HI := Lib.hid hI'; clear hI' hI
    have HS := Lib.hid hS; clear hS hq
    go_wp2_with fail
    generalize w1.alloc (.cells #[.int .i64 d, .slice av xs.length cv, .int .i64 s] 37) = W1 at *
    refine (HI.out _ Hba.out).mono ?_
    rintro e w2 ⟨rfl, hb2⟩
    have Hb2 := Lib.hid (below_step Hba.out (by omega) hb2)
    have j0 := (hb2.cell (p := ⟨w1.heap.size, 0, none⟩) HX.out.lt).trans k0
    have j1 := (hb2.cell (p := ⟨w1.heap.size, 1, none⟩) HX.out.lt).trans k1
    have j2 := (hb2.cell (p := ⟨w1.heap.size, 2, none⟩) HX.out.lt).trans k2
    have hz2 := hb2.size
    clear k0 k1 k2 hb2
    go_wp2_with fail
    refine (HS.out _ Hb2.out).mono ?_
    rintro e w3 ⟨rfl, hb3⟩
    have Hb3 := Lib.hid (below_step Hb2.out (by omega) hb3)
    go_wp2
    go_ret
    exact ⟨rfl, below_step hb1 hs1 Hb3.out⟩
  | true =>
    obtain ⟨hlk, hdg, hmb, hsk, _⟩ := cc_iff hq
    obtain ⟨hd0, hd1⟩ := digB_bd hdg
    obtain ⟨hs0, hs9⟩ := (of_decide_eq_true hsk : 0 ≤ s ∧ s ≤ 996)
    obtain ⟨m, hm, hm0, hm1, hmd⟩ : ∃ m : Int, (d + 1 + (ms.length : Int) % 989) % 991 = m ∧ 0 ≤ m ∧ m ≤ 990 ∧ m ≠ d := ⟨_, rfl, by omega, by omega, by omega⟩
    obtain ⟨n, hn, hn0, hn1, hnd⟩ : ∃ n : Int, (s + 1 + (ms.length : Int) % 995) % 997 = n ∧ 0 ≤ n ∧ n ≤ 996 ∧ n ≠ s := ⟨_, rfl, by omega, by omega, by omega⟩
    have hIb := hI d n
    rw [cc_sum hq hn0 hn1 hnd] at hIb
    have HIb := Lib.hid hIb; clear hIb hnd
    have hIa := hI m s
    have Hdg := Lib.hid (fun h => cc_digest (e := m) hq h hm0 hm1 hmd); clear hmd
    have HIa := Lib.hid hIa; clear hIa
    have HKS := Lib.hid (fun W (h : Below w1.heap.size w1 W) => laws_keySum c ak ck keys av cv xs W hlk hmb (Hk.out.below h) (Hv.out.below h))
    have hI' := hI d s
    rw [hq] at hI' hS
    have HI := Lib.hid hI'; clear hI' hI
    have HS := Lib.hid hS; clear hS hq hlk hmb hsk hdg
    go_wp2_with fail
    generalize w1.alloc (.cells #[.int .i64 d, .slice av xs.length cv, .int .i64 s] 37) = W1 at *
    refine (HI.out _ Hba.out).mono ?_
    rintro e w2 ⟨rfl, hb2⟩
    have Hb2 := Lib.hid (below_step Hba.out (by omega) hb2)
    have HX2 := Lib.hid (show Str w2 w1.heap.size 37 #[.int .i64 d, .slice av xs.length cv, .int .i64 s] from (hb2.block _ HX.out.lt).trans HX.out)
    have j0 := HX2.out.cell 0 (v := .int .i64 d) rfl
    have j1 := HX2.out.cell 1 (v := .slice av xs.length cv) rfl
    have j2 := HX2.out.cell 2 (v := .int .i64 s) rfl
    have hz2 := hb2.size
    clear k0 k1 k2 hb2
    go_wp2_with fail
    refine (HS.out _ Hb2.out).mono ?_
    rintro e w3 ⟨rfl, hb3⟩
    have Hb3 := Lib.hid (below_step Hb2.out (by omega) hb3)
    have HX3 := Lib.hid (show Str w3 w1.heap.size 37 #[.int .i64 d, .slice av xs.length cv, .int .i64 s] from (hb3.block _ HX2.out.lt).trans HX2.out)
    have i0 := HX3.out.cell 0 (v := .int .i64 d) rfl
    have i1 := HX3.out.cell 1 (v := .slice av xs.length cv) rfl
    have i2 := HX3.out.cell 2 (v := .int .i64 s) rfl
    have hz3 := hb3.size
    have hl3 := HX3.out.lt
    have hl3n : w1.heap.size ≠ w3.heap.size := by omega
    clear j0 j1 j2 hb3
    have Hb4 := Lib.hid (show Below w1.heap.size w1 ((w3.alloc (.cells #[.int .i64 m, .slice av xs.length cv, .int .i64 s] 37)).alloc (.cells #[.int .i64 d, .slice av xs.length cv, .int .i64 n] 37)) from (Hb3.out.alloc (by have := Hb3.out.size; omega) _).alloc (by have := Hb3.out.size; simp; omega) _)
    have HX4 := Lib.hid (show Str ((w3.alloc (.cells #[.int .i64 m, .slice av xs.length cv, .int .i64 s] 37)).alloc (.cells #[.int .i64 d, .slice av xs.length cv, .int .i64 n] 37)) w1.heap.size 37 #[.int .i64 d, .slice av xs.length cv, .int .i64 s] from (HX3.out.alloc _).alloc _)
    have HA4 := Lib.hid ((Str.new w3 37 #[.int .i64 m, .slice av xs.length cv, .int .i64 s]).alloc (.cells #[.int .i64 d, .slice av xs.length cv, .int .i64 n] 37))
    go_wp2_with fail
    generalize (w3.alloc (.cells #[.int .i64 m, .slice av xs.length cv, .int .i64 s] 37)).alloc (.cells #[.int .i64 d, .slice av xs.length cv, .int .i64 n] 37) = w4 at *
    refine (HIb.out _ Hb4.out).mono ?_
    rintro e w5 ⟨rfl, hb5⟩
    have Hb5 := Lib.hid (below_step Hb4.out Hb4.out.size hb5)
    have x1 : w5.cell? ⟨w1.heap.size, 1, none⟩ = some (.slice av xs.length cv) := (hb5.cell (p := ⟨w1.heap.size, 1, none⟩) HX4.out.lt).trans (HX4.out.cell 1 rfl)
    have y0 : w5.cell? ⟨w3.heap.size, 0, none⟩ = some (.int .i64 m) := (hb5.cell (p := ⟨w3.heap.size, 0, none⟩) HA4.out.lt).trans (HA4.out.cell 0 rfl)
    have y1 : w5.cell? ⟨w3.heap.size, 1, none⟩ = some (.slice av xs.length cv) := (hb5.cell (p := ⟨w3.heap.size, 1, none⟩) HA4.out.lt).trans (HA4.out.cell 1 rfl)
    have y2 : w5.cell? ⟨w3.heap.size, 2, none⟩ = some (.int .i64 s) := (hb5.cell (p := ⟨w3.heap.size, 2, none⟩) HA4.out.lt).trans (HA4.out.cell 2 rfl)
    clear i0 i1 i2 hb5 hm hn
    by_cases h0 : weightZ keys xs % 997 = 0
    · have hks := HKS.out w5 Hb5.out
      rw [h0] at hks
      have Hks := Lib.hid hks; clear hks h0
      go_wp2_with fail
      refine Hks.out.mono ?_
      rintro e w6 ⟨rfl, hd6⟩
      have Hb6 := Lib.hid (Hb5.out.trans (hd6.below _))
      go_wp2
      go_ret
      exact ⟨rfl, below_step hb1 hs1 Hb6.out⟩
    · have h0' : (weightZ keys xs % 997 == 0) = false := by rw [beq_eq_false_iff_ne]; exact h0
      have hno := Hdg.out h0
      have hia := HIa.out
      rw [hno] at hia
      have HIA := Lib.hid hia; clear hia hno h0
      go_wp2_with fail
      refine (HKS.out w5 Hb5.out).mono ?_
      rintro e w6 ⟨rfl, hd6⟩
      have Hb6 := Lib.hid (Hb5.out.trans (hd6.below _))
      have z0 := (hd6.cell _).trans y0
      have z1 := (hd6.cell _).trans y1
      have z2 := (hd6.cell _).trans y2
      clear x1 y0 y1 y2 hd6
      go_wp2_with fail
      refine (HIA.out _ Hb6.out).mono ?_
      rintro e w7 ⟨rfl, hb7⟩
      have Hb7 := Lib.hid (below_step Hb6.out Hb6.out.size hb7)
      go_wp2
      go_ret
      exact ⟨rfl, below_step hb1 hs1 Hb7.out⟩

theorem fnCertDigest_own : ownKnob Try.prog.godebug = none := by kernel_rfl
theorem fnCertDigest_laidOut : laidOutB Try.prog = true := by kernel_rfl

set_option maxRecDepth 8000 in
theorem fnCertDigest_lifted (os : Os) (started : os.Started) (H : Type) (enc : TypeId × Value → H) :
    ReturnsInHanded {} Try.checked os 6 .any (Rows.fnCertDigestSpec.pre6 enc Try.prog Try.f6 Rows.fnCertDigestRow.domain false) (Rows.fnCertDigestSpec.post enc Try.prog Try.f6 false true false false) := by
  refine law_lifted (C := Try.checked) (tb := 4) fnCertDigest_own fnCertDigest_laidOut started (by kernel_rfl) Try.func6 rfl Try.underlying4 rfl (by rw [Try.params6]; exact of_decide_eq_true (by kernel_rfl)) ?_
    (ChangeSpec.witness6 (enc := enc) (C := Try.checked) false ⟨#[], #[.slice none 0 0, .slice none 0 0], []⟩ 8 (by kernel_rfl) (by kernel_rfl) (by kernel_rfl) (by kernel_rfl)) ?_
  · intro ds hds
    rw [Try.params6] at hds
    match ds, hds with
    | [d0, d1], _ => rfl
  · intro W base args ds p hval0 hA0
    have hval : ∀ (j : Nat) t v, Try.f6.params[j]? = some t → args[j]? = some v → Value.okWide Try.prog W .any base t v := hval0
    have hA : DataW.TrodAll enc Try.prog W 0 (fun _ => true) true Try.f6.params.toList args.toList ds p := hA0
    rw [Try.params6] at hA hval
    obtain ⟨v0, vs0, d0, ds0, p0, q0, hargs0, rfl, rfl, h0, r0⟩ := trodAll_cons hA
    obtain ⟨v1, vs1, d1, ds1, p1, q1, hargs1, rfl, rfl, h1, r1⟩ := trodAll_cons r0
    obtain ⟨hnil, rfl, rfl⟩ := trodAll_nil r1
    subst hnil
    subst hargs1
    obtain rfl : args = #[v0, v1] := by cases args; simp_all
    obtain ⟨a0, cap0, zs0, rfl, hk0, hm0, hi0, hw0⟩ := open_slice_ints Try.underlying22 Try.underlying5 (by kernel_rfl) (hval 0 22 v0 rfl rfl) h0
    obtain ⟨a1, cap1, zs1, rfl, hk1, hm1, hi1, hw1⟩ := open_slice_ints Try.underlying22 Try.underlying5 (by kernel_rfl) (hval 1 22 v1 rfl rfl) h1
    exact fnCertDigest_walk a0 cap0 zs0 a1 cap1 zs1 W hk0 hm0 hi0 hw0 hk1 hm1 hi1 hw1

set_option maxRecDepth 8000 in
theorem fnCertDigest_holds : Rows.FnCertDigestSaid :=
  OpenClaim.holds_of_wide 6 Try.f6 rfl rfl rfl rfl rfl rfl rfl ⟨rfl, rfl, rfl, rfl, rfl⟩ rfl rfl rfl rfl rfl (by kernel_rfl) Try.func6 (by kernel_rfl)
    (of_decide_eq_true (by kernel_rfl)) (by unfold Func.isWrapper; first | (rw [if_pos (by decide +kernel)]; kernel_rfl) | (rw [if_neg (by decide +kernel)]; exact ⟨rfl, rfl⟩))
    (fun os started H enc _ => fnCertDigest_lifted os started H enc)

end Go.Proofs.Yteglefchkecfjaa
