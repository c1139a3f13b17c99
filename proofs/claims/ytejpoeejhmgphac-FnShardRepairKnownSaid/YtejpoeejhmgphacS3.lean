/- Whether shards have different numbers and the right lengths, as spec reckons it, by a walk of its text; conditions: the lists are short. -/
import Derived.Test.YtejpoeejhmgphacE3
import Derived.Test.YtejpoeejhmgphacC3
namespace Go.Proofs.Ytejpoeejhmgphac
open Go.RowKit

theorem ok_no1 {size need : Int} {L : List Sh} (h : ¬ (1 ≤ size ∧ size ≤ 12)) : joinOk size need L = false := by unfold joinOk; rw [decide_eq_false h]; rfl
theorem ok_no2 {size need : Int} {L : List Sh} (h : ¬ (1 ≤ need ∧ need ≤ 8)) : joinOk size need L = false := by unfold joinOk; rw [decide_eq_false h, Bool.and_false]; rfl
theorem ok_no3 {size need : Int} {L : List Sh} (h : ¬ (need ≤ L.length ∧ L.length ≤ 8)) : joinOk size need L = false := by unfold joinOk lenB; rw [decide_eq_false h, Bool.false_and, Bool.and_false]
theorem ok_eq {size need : Nat} {L : List Sh} (h1 : 1 ≤ (size : Int) ∧ (size : Int) ≤ 12) (h2 : 1 ≤ (need : Int) ∧ (need : Int) ≤ 8) (h3 : (need : Int) ≤ L.length ∧ L.length ≤ 8) : joinOk size need L = shsB ((size + need - 1) / need) L := by
  unfold joinOk lenB; rw [decide_eq_true h1, decide_eq_true h2, decide_eq_true h3]; simp
def neAt (L : List Sh) (k : Nat) : Nat → Bool := fun j => decide (xsOf L j ≠ xsOf L k)
def syAt (vs : List Int) : Nat → Bool := fun j => symB (vs.getD j 0)
theorem shAt_new {cols : Nat} {L : List Sh} {k j : Nat} (hj : j < k) (h : xsOf L j = xsOf L k) : shAt cols L k = false := by
  unfold shAt newAt; rw [allB_no hj (by simp [h]), Bool.and_false]
theorem shAt_yes2 {cols : Nat} {L : List Sh} {k : Nat} (hk : k < L.length) (h1 : 1 ≤ L[k].1 ∧ L[k].1 ≤ 8) (h : Upto (neAt L k) k) (hl : L[k].2.length = cols) (hs : L[k].2.all symB = true) : shAt cols L k = true := by
  unfold shAt okS newAt; rw [getS hk, decide_eq_true h1, decide_eq_true hl, hs, allB_yes (p := fun j => decide (xsOf L j ≠ xsOf L k)) h (Nat.le_refl _)]; rfl
theorem sy_all {vs : List Int} (h : Upto (syAt vs) vs.length) : vs.all symB = true := by
  rw [List.all_eq_true]
  intro y hy
  obtain ⟨j, hj, rfl⟩ := List.mem_iff_getElem.1 hy
  have := h j hj
  unfold syAt at this
  rwa [getD_get hj] at this
theorem sy_no {vs : List Int} {j : Nat} (hj : j < vs.length) (h : ¬ (0 ≤ vs[j] ∧ vs[j] ≤ 250)) : vs.all symB = false := by
  rw [List.all_eq_false]; exact ⟨vs[j], List.getElem_mem hj, by simp [symB_no h]⟩

set_option maxRecDepth 8000 in
set_option maxHeartbeats 1000000 in
theorem spec_l3List (size need : Int) (L : List Sh) (v : Value) (fp : List Nat) (w : World) (hbig : L.length ≤ 1048576) (hin : ∀ s ∈ L, s.2.length ≤ 1048576) (hr : Rd w (.l (L.map shardD)) v fp) :
    Calls Try.prog 11 #[.int .i64 size, .int .i64 need, v] w fun e w' => e = .returned (.bool (joinOk size need L)) ∧ Drawn w w' := by
  obtain ⟨a, cap, rfl⟩ := hr.slice
  rw [List.length_map] at *
  by_cases hS : 1 ≤ size ∧ size ≤ 12
  case neg =>
    have Hf := Lib.hid (ok_no1 (need := need) (L := L) hS)
    go_enter Try.func11, Try.ntmps11
    go_wp2_with fail
    refine (spec_l6In_no hS _).mono ?_
    rintro e w' ⟨rfl, rfl⟩
    go_wp2
    go_ret
    exact ⟨ret_bool Hf.out.symm, Drawn.refl _⟩
  by_cases hN : 1 ≤ need ∧ need ≤ 8
  case neg =>
    have Hf := Lib.hid (ok_no2 (size := size) (L := L) hN)
    go_enter Try.func11, Try.ntmps11
    go_wp2_with fail
    refine (spec_l6In_yes hS _).mono ?_
    rintro e w' ⟨rfl, rfl⟩
    go_wp2_with fail
    refine (spec_l6In_no hN _).mono ?_
    rintro e w' ⟨rfl, rfl⟩
    go_wp2
    go_ret
    exact ⟨ret_bool Hf.out.symm, Drawn.refl _⟩
  obtain ⟨size, rfl⟩ := Int.eq_ofNat_of_zero_le (show 0 ≤ size by omega)
  obtain ⟨need, rfl⟩ := Int.eq_ofNat_of_zero_le (show 0 ≤ need by omega)
  by_cases hl1 : L.length < need
  · have Hf := Lib.hid (ok_no3 (size := size) (need := need) (L := L) (by omega))
    have Hc := Lib.hid hN
    go_enter Try.func11, Try.ntmps11
    go_wp2_with fail
    refine (spec_l6In_yes hS _).mono ?_
    rintro e w' ⟨rfl, rfl⟩
    go_wp2_with fail
    refine (spec_l6In_yes hN _).mono ?_
    rintro e w' ⟨rfl, rfl⟩
    go_wp2
    go_ret
    exact ⟨ret_bool Hf.out.symm, Drawn.refl _⟩
  by_cases hl2 : 8 < (L.length : Int)
  · have Hf := Lib.hid (ok_no3 (size := size) (need := need) (L := L) (by omega))
    have hl1d : decide (L.length < need) = false := decide_eq_false hl1
    have hl1' : need ≤ L.length := by omega
    go_enter Try.func11, Try.ntmps11
    go_wp2_with fail
    refine (spec_l6In_yes hS _).mono ?_
    rintro e w' ⟨rfl, rfl⟩
    go_wp2_with fail
    refine (spec_l6In_yes hN _).mono ?_
    rintro e w' ⟨rfl, rfl⟩
    go_wp2
    go_ret
    exact ⟨ret_bool Hf.out.symm, Drawn.refl _⟩
  have Hf := Lib.hid (ok_eq hS hN (show (need : Int) ≤ L.length ∧ L.length ≤ 8 by omega))
  have hl1d : decide (L.length < need) = false := decide_eq_false hl1
  have hl2d : decide (8 < (L.length : Int)) = false := decide_eq_false hl2
  have hl1' : need ≤ L.length := by omega
  obtain ⟨g, off, rfl, hg, hat⟩ := shards_at hr (by omega)
  have Hat := Lib.hid hat; clear hat hr
  have Hcast := Lib.hid (show (((size + need - 1) / need : Nat) : Int) = ((size : Int) + (need : Int) - 1) / (need : Int) by rw [Int.natCast_ediv]; congr 1; omega)
  have Hin := Lib.hid hin; clear hin
  have hadd : IntKind.i64.wrap ((size : Int) + need) = size + need := IntWalk.i64_in _ (by omega)
  have hsub : IntKind.i64.wrap ((size : Int) + need - 1) = size + need - 1 := IntWalk.i64_in _ (by omega)
  go_enter Try.func11, Try.ntmps11
  go_wp2_with fail
  refine (spec_l6In_yes hS _).mono ?_
  rintro e w' ⟨rfl, rfl⟩
  go_wp2_with fail
  refine (spec_l6In_yes hN _).mono ?_
  rintro e w' ⟨rfl, rfl⟩
  go_wp2
  go_loopw [7] (fun i wr => ∃ k : Nat, k ≤ L.length ∧ i = .int .i64 k ∧ Upto (shAt ((size + need - 1) / need) L) k ∧ Drawn w wr) (fun i _ => L.length - (intOf i).toNat)
  case atStart => exact ⟨0, by omega, rfl, upto_zero _, Drawn.refl _⟩
  case round =>
    obtain ⟨k, hk, rfl, hup, hdr⟩ := hrel
    by_cases hlt : k < L.length
    · obtain ⟨av, cv, C0, C1, I1⟩ := Hat.out k hlt
      have hxs := Hin.out _ (List.getElem_mem hlt)
      have Hup := Lib.hid hup; clear hup
      have Hxk := Lib.hid (show xsOf L k = L[k].1 by unfold xsOf; rw [getS hlt])
      have c0 := (hdr.cell _).trans C0
      have c1 := (hdr.cell _).trans C1
      have HC0 := Lib.hid C0; clear C0
      have HC1 := Lib.hid C1; clear C1
      have HI1 := Lib.hid I1; clear I1
      by_cases hv : 1 ≤ L[k].1 ∧ L[k].1 ≤ 8
      · have Hv := Lib.hid hv
        by_cases hcl : L[k].2.length = (size + need - 1) / need
        · have hq : ((L[k].2.length : Int) != ((size : Int) + need - 1) / need) = false := by rw [← Hcast.out, hcl]; simp
          have Hok := Lib.hid (fun h h' => shAt_yes2 (cols := (size + need - 1) / need) hlt hv h hcl h')
          have Hbs := Lib.hid (fun h => shAt_sym (cols := (size + need - 1) / need) hlt h)
          clear hcl
          generalize L[k].1 = x at *
          generalize L[k].2 = vs at *
          go_wp2_with fail
          go_quiet ((go_at_call 23; exact Calls.quiet_of_same (turned (spec_l6In_yes hv _))))
          have hdr2 := hdr.drewN nq
          generalize wr.drewN nq = W1 at *
          go_wp2
          clear c0 c1 hdr hq hv
          go_loopw [8] (fun i wi => ∃ m : Nat, m ≤ k ∧ i = .int .i64 m ∧ Upto (neAt L k) m ∧ Drawn w wi) (fun i _ => k - (intOf i).toNat)
          case atStart => exact ⟨0, by omega, rfl, upto_zero _, hdr2⟩
          case round =>
            clear hdr2
            obtain ⟨m, hm, rfl, hnu, hdr⟩ := hrel
            have Hnu := Lib.hid hnu; clear hnu
            have c0 := (hdr.cell _).trans HC0.out
            have c1 := (hdr.cell _).trans HC1.out
            by_cases hmk : m < k
            · obtain ⟨am, cm, D0, _, _⟩ := Hat.out m (by omega)
              have d0 := (hdr.cell _).trans D0
              have Hxm := Lib.hid (show xsOf L m = L[m].1 by unfold xsOf; rw [getS (by omega)])
              clear D0
              generalize L[m].1 = y at *
              by_cases hyx : y = x
              · have Hbad := Lib.hid (shAt_new (cols := (size + need - 1) / need) hmk (by rw [Hxm.out, Hxk.out, hyx]))
                have hdd : (y == x) = true := by simpa using hyx
                clear hyx
                go_wp2_with fail
                go_quiet (fail)
                go_wp2
                go_ret
                exact ⟨ret_bool (by rw [Hf.out]; exact (allB_no hlt Hbad.out).symm), hdr.drewN _⟩
              · have Hstep := Lib.hid (upto_step Hnu.out (show neAt L k m = true by unfold neAt; rw [Hxm.out, Hxk.out]; exact decide_eq_true hyx))
                have hdd : (y == x) = false := by simpa using hyx
                go_wp2_with fail
                go_quiet (fail)
                go_wp2
                go_roundw
                case rel => exact ⟨m + 1, by omega, by go_num, Hstep.out, hdr.drewN _⟩
                case measure => simp [intOf]; omega
            · have Hnk := Lib.hid (show Upto (neAt L k) k from fun j hj => Hnu.out j (by omega))
              clear c0 c1
              go_wp2
              go_loopw [9] (fun i wi => ∃ j : Nat, j ≤ vs.length ∧ i = .int .i64 j ∧ Upto (syAt vs) j ∧ Drawn w wi) (fun i _ => vs.length - (intOf i).toNat)
              case atStart => exact ⟨0, by omega, rfl, upto_zero _, hdr⟩
              case round =>
                clear hdr
                obtain ⟨j, hj, rfl, hsu, hdr⟩ := hrel
                have Hsu := Lib.hid hsu; clear hsu
                have c1 := (hdr.cell _).trans HC1.out
                by_cases hjv : j < vs.length
                · obtain ⟨g2, off2, rfl, hg2, hcs⟩ := HI1.out.cell (by omega)
                  have e1 := (hdr.cell _).trans (hcs j hjv)
                  by_cases hz : 0 ≤ vs[j] ∧ vs[j] ≤ 250
                  · have Hs := Lib.hid (upto_step Hsu.out (show syAt vs j = true by unfold syAt; rw [getD_get hjv]; exact symB_yes hz))
                    generalize vs[j] = z at *
                    clear hcs
                    go_wp2_with fail
                    refine (spec_l6In_yes hz _).mono ?_
                    rintro e w' ⟨rfl, rfl⟩
                    go_wp2
                    go_roundw
                    case rel => exact ⟨j + 1, by omega, by go_num, Hs.out, hdr⟩
                    case measure => simp [intOf]; omega
                  · have Hbad := Lib.hid (Hbs.out (sy_no hjv hz))
                    generalize vs[j] = z at *
                    clear hcs
                    go_wp2_with fail
                    refine (spec_l6In_no hz _).mono ?_
                    rintro e w' ⟨rfl, rfl⟩
                    go_wp2
                    go_ret
                    exact ⟨ret_bool (by rw [Hf.out]; exact (allB_no hlt Hbad.out).symm), hdr⟩
                · have Hs := Lib.hid (upto_step Hup.out (Hok.out Hnk.out (sy_all (fun i hi => Hsu.out i (by omega)))))
                  have hjd : decide ((j : Int) < (vs.length : Int)) = false := decide_eq_false (by omega)
                  have hjd' : decide (j < vs.length) = false := decide_eq_false hjv
                  have hk1 : IntKind.i64.wrap ((k : Int) + 1) = (k : Int) + 1 := IntWalk.i64_in _ (by omega)
                  clear hmk hm hxs hjv hj hS hN hl1 hl1d hl2d hl1' hl2 hadd hsub hbig
                  go_wp2
                  go_roundw
                  case rel => exact ⟨k + 1, by omega, by go_num, Hs.out, hdr⟩
                  case measure => simp [intOf]; omega
        · have Hbad := Lib.hid (shAt_len (cols := (size + need - 1) / need) hlt hcl)
          have hq : ((L[k].2.length : Int) != ((size : Int) + need - 1) / need) = true := by rw [← Hcast.out]; simp; omega
          clear hcl
          generalize L[k].1 = x at *
          generalize L[k].2 = vs at *
          go_wp2_with fail
          go_quiet ((go_at_call 23; exact Calls.quiet_of_same (turned (spec_l6In_yes hv _))))
          go_wp2
          go_ret
          exact ⟨ret_bool (by rw [Hf.out]; exact (allB_no hlt Hbad.out).symm), hdr.drewN _⟩
      · have Hbad := Lib.hid (shAt_num (cols := (size + need - 1) / need) hlt hv)
        generalize L[k].1 = x at *
        generalize L[k].2 = vs at *
        go_wp2_with fail
        go_quiet ((go_at_call 23; exact Calls.quiet_of_same (turned (spec_l6In_no hv _))))
        go_wp2
        go_ret
        exact ⟨ret_bool (by rw [Hf.out]; exact (allB_no hlt Hbad.out).symm), hdr.drewN _⟩
    · have Hs := Lib.hid (show shsB ((size + need - 1) / need) L = true from allB_yes hup (by omega))
      go_wp2
      go_ret
      exact ⟨ret_bool (by rw [Hf.out]; exact Hs.out.symm), hdr⟩

end Go.Proofs.Ytejpoeejhmgphac
