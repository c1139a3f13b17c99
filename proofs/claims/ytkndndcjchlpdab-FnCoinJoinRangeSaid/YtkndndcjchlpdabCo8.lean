/- The reference's test of parts of the coin and its join of them, each by a walk of its text; condition: the list is no longer than 2^20. -/
import Derived.Test.YtkndndcjchlpdabRows
import Derived.Test.YtkndndcjchlpdabCo2
import Derived.Test.YtkndndcjchlpdabCo7
import Derived.Test.YtkndndcjchlpdabBe
import Derived.Test.YtkndndcjchlpdabQ3
import Derived.Test.YtkndndcjchlpdabRow
import Derived.Test.YtkndndcjchlpdabHeld
import Derived.Deep.QuietTactic
import Derived.BigQuiet
namespace Go.Proofs.Ytkndndcjchlpdab
open Go.RowKit

/-- A list of parts in memory. -/
def Cps (w : World) (l : List Cp) (v : Value) (fp : List Nat) : Prop := Rd w (rowsD (l.map cpF)) v fp
theorem Cps.under {w w' : World} {l : List Cp} {v : Value} {fp : List Nat} (h : Cps w l v fp) (hb : Below w.heap.size w w') : Cps w' l v fp := Rd.under h hb
theorem Cps.slice {w : World} {l : List Cp} {v : Value} {fp : List Nat} (h : Cps w l v fp) : ∃ a cap, v = .slice a l.length cap := by
  obtain ⟨a, cap, rfl⟩ := Rd.slice h
  exact ⟨a, cap, by simp⟩
theorem Cps.at {w : World} {l : List Cp} {a : Option Addr} {n cap : Nat} {fp : List Nat} (h : Cps w l (.slice a n cap) fp) (hne : 0 < l.length) : ∃ b off, a = some ⟨b, off, none⟩ ∧ b < w.heap.size ∧ ∀ k (hk : k < l.length),
    w.cell? ⟨b, off + k * 2, none⟩ = some (.int .i64 l[k].1) ∧ w.cell? ⟨b, off + k * 2 + 1, none⟩ = some (.int .i64 l[k].2) := by
  obtain ⟨b, off, rfl, hb, hc⟩ := rows_at (es := l.map cpF) (m := 2) h (by simpa using hne) (fun e he => by obtain ⟨x, _, rfl⟩ := List.mem_map.1 he; rfl)
  refine ⟨b, off, rfl, hb, fun k hk => ?_⟩
  have hk' : k < (l.map cpF).length := by simpa using hk
  have he : (l.map cpF)[k] = cpF l[k] := by simp
  obtain ⟨c0, _, h0, r0⟩ := hc k hk' 0 (by rw [he]; simp [cpF])
  obtain ⟨c1, _, h1, r1⟩ := hc k hk' 1 (by rw [he]; simp [cpF])
  obtain rfl := rd_i r0 (x := l[k].1) (by simp only [he]; rfl)
  obtain rfl := rd_i r1 (x := l[k].2) (by simp only [he]; rfl)
  exact ⟨h0, h1⟩

/-- Parts, up to k. -/
def okCp (l : List Cp) (k : Nat) : Bool := okAt 7 (cpM l) k && symB ((cpV l).getD k 0)
theorem parts_upto (l : List Cp) : allB (okCp l) l.length = partsB l := by
  rw [Bool.eq_iff_iff]
  constructor
  · intro h
    have hu := allB_upto h
    unfold partsB membersB
    rw [Bool.and_eq_true, cpM_len, List.all_eq_true]
    refine ⟨allB_yes (k := l.length) (fun j hj => ?_) (Nat.le_refl _), fun x hx => ?_⟩
    · have := hu j hj; unfold okCp at this; rw [Bool.and_eq_true] at this; exact this.1
    · obtain ⟨j, hj, rfl⟩ := List.mem_iff_getElem.1 hx
      have hj' : j < l.length := by rw [cpV_len] at hj; exact hj
      have := hu j hj'; unfold okCp at this; rw [Bool.and_eq_true, getD_get hj] at this; exact this.2
  · intro h
    unfold partsB membersB at h
    rw [Bool.and_eq_true, cpM_len, List.all_eq_true] at h
    refine allB_yes (k := l.length) (fun j hj => ?_) (Nat.le_refl _)
    unfold okCp
    rw [Bool.and_eq_true, getD_get (by rw [cpV_len]; exact hj)]
    exact ⟨allB_upto h.1 j hj, h.2 _ (List.getElem_mem _)⟩
theorem cpM_getD {l : List Cp} {k : Nat} (h : k < l.length) : (cpM l).getD k 0 = l[k].1 := by rw [getD_get (by rw [cpM_len]; exact h), cpM_get]
theorem cpV_getD {l : List Cp} {k : Nat} (h : k < l.length) : (cpV l).getD k 0 = l[k].2 := by rw [getD_get (by rw [cpV_len]; exact h), cpV_get]
theorem okCp_at {l : List Cp} {k : Nat} (hk : k < l.length) : okCp l k = decide ((0 ≤ l[k].1 ∧ l[k].1 ≤ 6) ∧ (0 ≤ l[k].2 ∧ l[k].2 ≤ 250) ∧ (k = 0 ∨ (cpM l).getD (k - 1) 0 < l[k].1)) := by
  unfold okCp okAt
  rw [cpM_getD hk, cpV_getD hk, symB_dec, ← Bool.decide_and, decide_eq_decide]
  constructor
  · rintro ⟨⟨h0, h1, h2⟩, h3⟩; exact ⟨⟨h0, by omega⟩, h3, h2⟩
  · rintro ⟨⟨h0, h1⟩, h3, h2⟩; exact ⟨⟨h0, by omega, h2⟩, h3⟩

set_option maxHeartbeats 2000000 in
theorem spec_l13Parts (need : Int) (l : List Cp) (v : Value) (fp : List Nat) (w : World) (hbig : l.length ≤ 1099511627776) (hr : Cps w l v fp) :
    Calls Try.prog 37 #[.int .i64 need, v] w fun e w' => e = .returned (.bool (cjOk need l && decide (need ≤ l.length))) ∧ Drawn w w' := by
  obtain ⟨va, vc, rfl⟩ := hr.slice
  have Hr := Lib.hid hr; clear hr
  have HI := Lib.hid (fun W => spec_l6In need 1 7 W)
  have Hres := Lib.hid (show cjOk need l = (decide (1 ≤ need ∧ need ≤ 7) && allB (okCp l) l.length) by rw [parts_upto]; rfl)
  go_enter Try.func37, Try.ntmps37
  go_wp2
  go_loopw [5] (fun i wr => ∃ k : Nat, k ≤ l.length ∧ i = .int .i64 k ∧ Upto (okCp l) k ∧ Drawn w wr) (fun i _ => l.length - (intOf i).toNat)
  case atStart => exact ⟨0, by omega, rfl, upto_zero _, Drawn.refl _⟩
  case round =>
    obtain ⟨k, hk, rfl, hup, hwr⟩ := hrel
    have Hup := Lib.hid hup; clear hup
    by_cases hlt : k < l.length
    · have hr2 : Cps wr l (.slice va l.length vc) fp := Hr.out.under (hwr.below _)
      obtain ⟨b, off, rfl, hb, hat⟩ := hr2.at (by omega)
      clear hr2
      obtain ⟨c0, c1⟩ := hat k hlt
      have Hok := Lib.hid (okCp_at hlt)
      have Hwr := Lib.hid hwr; clear hwr
      have hprev : ∀ h : 0 < k, ∃ q, (cpM l).getD (k - 1) 0 = q ∧ wr.cell? ⟨b, off + (k - 1) * 2, none⟩ = some (.int .i64 q) := fun h =>
        ⟨l[k - 1].1, by rw [getD_get (by rw [cpM_len]; omega), cpM_get], (hat (k - 1) (by omega)).1⟩
      clear hat
      generalize hx : l[k] = x at *
      obtain ⟨xm, xv⟩ := x
      dsimp only at *
      clear hx
      by_cases h1 : 0 ≤ xm ∧ xm ≤ 6
      · by_cases h2 : 0 ≤ xv ∧ xv ≤ 250
        · by_cases h0 : 0 < k
          · obtain ⟨q, hq, c2⟩ := hprev h0
            have Hq := Lib.hid hq; clear hq hprev
            have hd : decide ((0 : Int) < (k : Int)) = true := by simpa using h0
            have e2 : IntKind.i64.wrap ((k : Int) - 1) = k - 1 := IntWalk.i64_in _ (by omega)
            have e3 : ((k : Int) - 1).toNat = k - 1 := by omega
            have e4 : 0 ≤ (k : Int) - 1 := by omega
            have e5 : 1 ≤ (k : Int) := by omega
            have e6 : (k : Int) - 1 < l.length := by omega
            by_cases h3 : q < xm
            · have hd2 : decide (xm ≤ q) = false := by simpa using h3
              have Hs := Lib.hid (show okCp l k = true by rw [Hok.out, Hq.out]; exact decide_eq_true ⟨h1, h2, .inr h3⟩)
              go_wp2_with fail
              go_quiet (first | (go_at_call 45; exact Calls.quiet_of_same (turned (spec_l6In_yes (by omega) _))))
              clear e2 e3
              go_wp2
              go_roundw
              case rel => exact ⟨k + 1, by omega, by go_num, upto_step Hup.out Hs.out, Hwr.out.drewN _⟩
              case measure => simp [intOf]; omega
            · have hd2 : decide (xm ≤ q) = true := by simpa using h3
              have Hs := Lib.hid (show okCp l k = false by rw [Hok.out, Hq.out]; exact decide_eq_false (by omega))
              have Hz := Lib.hid (allB_no hlt Hs.out)
              go_wp2_with fail
              go_quiet (first | (go_at_call 45; exact Calls.quiet_of_same (turned (spec_l6In_yes (by omega) _))))
              clear e2 e3
              go_wp2
              go_ret
              exact ⟨ret_bool (by rw [Hres.out, Hz.out, Bool.and_false, Bool.false_and]), Hwr.out.drewN _⟩
          · have hd : decide ((0 : Int) < (k : Int)) = false := by simpa using h0
            have Hs := Lib.hid (show okCp l k = true by rw [Hok.out]; exact decide_eq_true ⟨h1, h2, .inl (by omega)⟩)
            clear hprev
            go_wp2_with fail
            go_quiet (first | (go_at_call 45; exact Calls.quiet_of_same (turned (spec_l6In_yes (by omega) _))))
            go_wp2
            go_roundw
            case rel => exact ⟨k + 1, by omega, by go_num, upto_step Hup.out Hs.out, Hwr.out.drewN _⟩
            case measure => simp [intOf]; omega
        · have Hs := Lib.hid (show okCp l k = false by rw [Hok.out]; exact decide_eq_false (fun h => h2 h.2.1))
          have Hz := Lib.hid (allB_no hlt Hs.out)
          clear hprev
          go_wp2_with fail
          go_quiet (first | (go_at_call 45; exact Calls.quiet_of_same (turned (spec_l6In_yes (by omega) _))) | (go_at_call 45; exact Calls.quiet_of_same (turned (spec_l6In_no (by omega) _))))
          go_wp2
          go_ret
          exact ⟨ret_bool (by rw [Hres.out, Hz.out, Bool.and_false, Bool.false_and]), Hwr.out.drewN _⟩
      · have Hs := Lib.hid (show okCp l k = false by rw [Hok.out]; exact decide_eq_false (fun h => h1 h.1))
        have Hz := Lib.hid (allB_no hlt Hs.out)
        clear hprev
        go_wp2_with fail
        go_quiet ((go_at_call 45; exact Calls.quiet_of_same (turned (spec_l6In_no (by omega) _))))
        go_wp2
        go_ret
        exact ⟨ret_bool (by rw [Hres.out, Hz.out, Bool.and_false, Bool.false_and]), Hwr.out.drewN _⟩
    · have Hz := Lib.hid (allB_yes Hup.out (show l.length ≤ k by omega))
      have Hwr := Lib.hid hwr; clear hwr
      have hI := HI.out wr
      by_cases hn : 1 ≤ need ∧ need ≤ 7
      · rw [decide_eq_true hn] at hI
        have HI2 := Lib.hid hI; clear hI
        have Hn := Lib.hid (decide_eq_true hn)
        go_wp2_with fail
        refine HI2.out.mono ?_
        rintro e w' ⟨rfl, rfl⟩
        go_wp2
        go_ret
        exact ⟨ret_bool (by rw [Hres.out, Hz.out, Hn.out]; simp), Hwr.out⟩
      · rw [decide_eq_false hn] at hI
        have HI2 := Lib.hid hI; clear hI
        have Hn := Lib.hid (decide_eq_false hn)
        clear hn
        go_wp2_with fail
        refine HI2.out.mono ?_
        rintro e w' ⟨rfl, rfl⟩
        go_wp2
        go_ret
        exact ⟨ret_bool (by rw [Hres.out, Hn.out]; simp), Hwr.out⟩

theorem shL_succ {l : List Cp} {k : Nat} (h : k < l.length) : (shL l).take (k + 1) = (shL l).take k ++ [(l[k].1 + 1, [l[k].2])] := by
  rw [List.take_succ_eq_append_getElem (by rw [shL_len]; exact h)]
  simp [shL]
theorem one_cells {w : World} {B : Nat} {blk : Option Nat} {g : Nat} {m z : Int} (hg : B ≤ g) (hb : blk ≠ some g) (hgl : g < w.heap.size) (hc : w.cell? ⟨g, 0, none⟩ = some (.int .i64 z)) :
    CellsRd w B blk [.int .i64 m, .slice (some ⟨g, 0, none⟩) 1 1] (shardD (m, [z])) := by
  intro j hj
  have hj2 : j < 2 := by simpa [shardD] using hj
  match j, hj2 with
  | 0, _ => exact ⟨_, [], rfl, .i _, fun r hr => by simp at hr⟩
  | 1, _ =>
    have h := Rd.of_ints (w := w) (xs := [z]) (g := g) (off := 0) (cap := 1) (by simp) (by simp) hgl (fun j hj => by
      have : j = 0 := by simpa using hj
      subst this; exact hc)
    exact ⟨_, _, rfl, h, fun r hr => by simp at hr; subst hr; exact ⟨hg, hb⟩⟩

set_option maxHeartbeats 1000000 in
set_option maxRecDepth 8000 in
theorem spec_CoinJoin (need : Int) (l : List Cp) (v : Value) (fp : List Nat) (w : World) (hbig : l.length ≤ 1048576) (hr : Cps w l v fp) :
    Calls Try.prog 12 #[.int .i64 need, v] w fun e w' => e = .returned (.tuple #[.int .i64 (cjV need l), .bool (cjB need l)]) ∧ Below w.heap.size w w' := by
  have HP := Lib.hid (spec_l13Parts need l v fp w (by omega) hr)
  obtain ⟨va, vc, rfl⟩ := hr.slice
  have Hr := Lib.hid hr; clear hr
  cases h1 : (cjOk need l && decide (need ≤ l.length)) with
  | false =>
    rw [h1] at HP
    have hz : cjB need l = false := by
      cases h2 : cjOk need l with
      | false => exact cjB_no h2
      | true => rw [h2, Bool.true_and, decide_eq_false_iff_not] at h1; exact parts_few h2 h1
    have Hz := Lib.hid hz; have Hy := Lib.hid (cj_no hz); clear hz h1
    go_enter Try.func12, Try.ntmps12
    go_wp2_with fail
    refine HP.out.mono ?_
    rintro e w1 ⟨rfl, hd⟩
    go_wp2
    go_ret2
    exact ⟨by rw [Hz.out, Hy.out]; rfl, hd.below _⟩
  | true =>
  rw [h1] at HP
  rw [Bool.and_eq_true, decide_eq_true_eq] at h1
  obtain ⟨hok, hnl⟩ := h1
  have hpb : partsB l = true := by unfold cjOk at hok; rw [Bool.and_eq_true] at hok; exact hok.2
  have hn17 : 1 ≤ need ∧ need ≤ 7 := by unfold cjOk at hok; rw [Bool.and_eq_true, decide_eq_true_eq] at hok; exact hok.1
  have Hmem := Lib.hid (fun (p : Cp) (hp : p ∈ l) => parts_mem hpb hp)
  have hl7 := parts_len hpb
  obtain ⟨n, rfl⟩ := Int.eq_ofNat_of_zero_le (show 0 ≤ need by omega)
  have HB := Lib.hid (cjB_ok hok)
  have Hjk := Lib.hid (show joinOk (n : Int) (n : Int) (shL l) = true by rw [parts_ok hok]; exact decide_eq_true hnl)
  have Hno := Lib.hid (fun h => cj_no (need := (n : Int)) (l := l) h)
  have Hyes := Lib.hid (fun h => cj_yes (need := (n : Int)) (l := l) h)
  have Hjl := Lib.hid (fun h => join_len (need := (n : Int)) (L := shL l) h)
  clear hok hpb
  go_enter Try.func12, Try.ntmps12
  go_wp2_with fail
  refine HP.out.mono ?_
  rintro e w1 ⟨rfl, hd⟩
  have Hb1 := Lib.hid (hd.below w.heap.size); have hz1 : w.heap.size ≤ w1.heap.size := (hd.below w.heap.size).size
  have Hr1 := Lib.hid (Hr.out.under (hd.below _)); clear hd
  have hal : Below w1.heap.size w1 (w1.alloc (.cells #[] 55)) := (Below.refl _ _).alloc (Nat.le_refl _) _
  have Hal := Lib.hid hal; clear hal
  have HO := Lib.hid (show Bld 55 2 (w1.alloc (.cells #[] 55)) w1.heap.size (.slice (some ⟨w1.heap.size, 0, none⟩) 0 0) [] from Bld.nil (World.ownsRow_made w1 #[] 0 (Nat.le_refl _) (by simp) (by simp)))
  go_wp2
  go_loopw [6, 7] (fun u i wr => ∃ k : Nat, k ≤ l.length ∧ i = .int .i64 k ∧ Bld 55 2 wr w1.heap.size u (((shL l).take k).map shardD) ∧ Below w1.heap.size w1 wr) (fun _ i _ => l.length - (intOf i).toNat)
  case atStart => exact ⟨0, by omega, rfl, HO.out, Hal.out⟩
  case round =>
    obtain ⟨k, hk, rfl, hbl, hbel⟩ := hrel
    clear HO Hal
    have hB := hbel.size
    by_cases hlt : k < l.length
    · obtain ⟨b, off, rfl, hb1, hat⟩ := Hr1.out.at (by omega)
      obtain ⟨d0, d1⟩ := hat k hlt
      have c0 := (hbel.cell (p := ⟨b, off + k * 2, none⟩) hb1).trans d0
      have c1 := (hbel.cell (p := ⟨b, off + k * 2 + 1, none⟩) hb1).trans d1
      have hb : b < wr.heap.size := by omega
      clear hat d0 d1
      have hs := shL_succ hlt
      obtain ⟨⟨hm0, hm1⟩, hv0, hv1⟩ := Hmem.out _ (List.getElem_mem hlt)
      have hln : (((shL l).take k).map shardD).length ≤ 7 := by rw [List.length_map, List.length_take]; omega
      have Hsu := Lib.hid (show ((shL l).take (k + 1)).map shardD = ((shL l).take k).map shardD ++ [shardD (l[k].1 + 1, [l[k].2])] by rw [hs, List.map_append]; rfl)
      clear hs
      generalize ((shL l).take k).map shardD = es at *
      generalize hx : l[k] = x at *
      obtain ⟨xm, xv⟩ := x
      dsimp only at *
      clear hx
      obtain ⟨ua, uc, rfl, _⟩ := hbl.slice
      have Hbl := Lib.hid hbl; clear hbl
      have Hbel := Lib.hid hbel; clear hbel
      have Hln := Lib.hid hln; clear hln
      have e1 : IntKind.i64.wrap (xm + 1) = xm + 1 := IntWalk.i64_in _ (by omega)
      go_wp2_with fail
      refine wp_region_held_drew (S := fun w' => w'.cell? ⟨b, off + k * 2, none⟩ = some (.int .i64 xm) ∧ w'.cell? ⟨b, off + k * 2 + 1, none⟩ = some (.int .i64 xv)) (by kernel_rfl) ⟨c0, c1⟩ (fun hH => ?_)
      refine takeH 0 (v := ?vva1) rfl (by kernel_rfl) (by kernel_rfl) (by kernel_rfl) (fun _ _ _ h => h) hH rfl ?yva1 ?rva1
      case yva1 => intro W hSw; go_simp; try with_reducible rfl
      try simp only [Act.put, List.setIfInBounds_toArray, List.set_cons_zero, List.set_cons_succ]
      refine takeH 1 (v := ?vva2) rfl (by kernel_rfl) (by kernel_rfl) (by kernel_rfl) (fun _ _ _ h => h) hH rfl ?yva2 ?rva2
      case yva2 => intro W hSw; go_simp; try with_reducible rfl
      try simp only [Act.put, List.setIfInBounds_toArray, List.set_cons_zero, List.set_cons_succ]
      refine takeH 2 (v := ?vva3) rfl (by kernel_rfl) (by kernel_rfl) (by kernel_rfl) (fun _ _ _ h => h) hH rfl ?yva3 ?rva3
      case yva3 => intro W hSw; go_simp; try with_reducible rfl
      try simp only [Act.put, List.setIfInBounds_toArray, List.set_cons_zero, List.set_cons_succ]
      refine takeH 3 (v := ?vva4) rfl (by kernel_rfl) (by kernel_rfl) (by kernel_rfl) (fun _ _ _ h => h) hH rfl ?yva4 ?rva4
      case yva4 => intro W hSw; go_simp; try with_reducible rfl
      try simp only [Act.put, List.setIfInBounds_toArray, List.set_cons_zero, List.set_cons_succ]
      refine takeH 4 (v := ?vva5) rfl (by kernel_rfl) (by kernel_rfl) (by kernel_rfl) (fun _ _ _ h => h) hH rfl ?yva5 ?rva5
      case yva5 => intro W hSw; go_simp; try with_reducible rfl
      try simp only [Act.put, List.setIfInBounds_toArray, List.set_cons_zero, List.set_cons_succ]
      refine takeH 5 (v := ?vva6) rfl (by kernel_rfl) (by kernel_rfl) (by kernel_rfl) (fun _ _ _ h => h) hH rfl ?yva6 ?rva6
      case yva6 => intro W hSw; go_simp; try with_reducible rfl
      try simp only [Act.put, List.setIfInBounds_toArray, List.set_cons_zero, List.set_cons_succ]
      refine takeH 6 (v := ?vva7) rfl (by kernel_rfl) (by kernel_rfl) (by kernel_rfl) (fun _ _ _ h => h) hH rfl ?yva7 ?rva7
      case yva7 => intro W hSw; go_simp; try with_reducible rfl
      try simp only [Act.put, List.setIfInBounds_toArray, List.set_cons_zero, List.set_cons_succ]
      refine takeH 7 (v := ?vva8) rfl (by kernel_rfl) (by kernel_rfl) (by kernel_rfl) (fun _ _ _ h => h) hH rfl ?yva8 ?rva8
      case yva8 => intro W hSw; go_simp; try with_reducible rfl
      try simp only [Act.put, List.setIfInBounds_toArray, List.set_cons_zero, List.set_cons_succ]
      refine takeH 8 (v := ?vva9) rfl (by kernel_rfl) (by kernel_rfl) (by kernel_rfl) (fun _ _ _ h => h) hH rfl ?yva9 ?rva9
      case yva9 => intro W hSw; go_simp; try with_reducible rfl
      try simp only [Act.put, List.setIfInBounds_toArray, List.set_cons_zero, List.set_cons_succ]
      refine takeH 9 (v := ?vva10) rfl (by kernel_rfl) (by kernel_rfl) (by kernel_rfl) (fun _ _ _ h => h) hH rfl ?yva10 ?rva10
      case yva10 => intro W hSw; go_simp; try with_reducible rfl
      try simp only [Act.put, List.setIfInBounds_toArray, List.set_cons_zero, List.set_cons_succ]
      refine takeH 10 (v := ?vva11) rfl (by kernel_rfl) (by kernel_rfl) (by kernel_rfl) (fun _ _ _ h => h) hH rfl ?yva11 ?rva11
      case yva11 => intro W hSw; go_simp; try with_reducible rfl
      try simp only [Act.put, List.setIfInBounds_toArray, List.set_cons_zero, List.set_cons_succ]
      refine takeH 11 (v := ?vva12) rfl (by kernel_rfl) (by kernel_rfl) (by kernel_rfl) (fun _ _ _ h => h) hH rfl ?yva12 ?rva12
      case yva12 => intro W hSw; go_simp; try with_reducible rfl
      try simp only [Act.put, List.setIfInBounds_toArray, List.set_cons_zero, List.set_cons_succ]
      have Hbl := Lib.hid (show Bld 55 2 wr.drew w1.heap.size _ es from Hbl.out.under ((Below.refl _ _).drew))
      have Hbel := Lib.hid (Hbel.out.drew)
      have hB2 : w1.heap.size ≤ wr.drew.heap.size := hB
      have hb2 : b < wr.drew.heap.size := hb
      clear hB hb c0 c1
      generalize wr.drew = wd at *
      refine callH 12 rfl (by kernel_rfl) rfl (fun K hK => ?_)
      go_simp
      refine hK.out _ _ ⟨(World.grownBy_alloc wd _ none).cell hH.1 (by simp), (World.grownBy_alloc wd _ none).cell hH.2 (by simp)⟩ (fun hH => ?_)
      clear hK K
      try simp only [Act.put, List.setIfInBounds_toArray, List.set_cons_zero, List.set_cons_succ]
      have Hbl0 := Hbl
      have Hbl := Lib.hid (Hbl.out.under ((Below.refl wd.heap.size wd).alloc (Nat.le_refl _) (.cells #[.int .i64 xv] 3)))
      have Hbel := Lib.hid (Hbel.out.alloc hB2 (.cells #[.int .i64 xv] 3))
      have hcz : (wd.alloc (.cells #[.int .i64 xv] 3)).cell? ⟨wd.heap.size, 0, none⟩ = some (.int .i64 xv) := (Str.new wd 3 #[.int .i64 xv]).cell 0 rfl
      have hzz : wd.heap.size < (wd.alloc (.cells #[.int .i64 xv] 3)).heap.size := by simp
      have Hbk := Lib.hid (show (Value.slice ua es.length uc).ownBlock ≠ some wd.heap.size from fun e => by have := (Hbl0.out.lt _ e).2; omega)
      generalize hwe : wd.alloc (.cells #[.int .i64 xv] 3) = we at *
      have hB3 : w1.heap.size ≤ we.heap.size := by omega
      have hHe := hH
      have Hcz := Lib.hid hcz; clear hcz hwe
      refine takeH 13 (v := ?vvb1) rfl (by kernel_rfl) (by kernel_rfl) (by kernel_rfl) (fun _ _ _ h => h) hH rfl ?yvb1 ?rvb1
      case yvb1 => intro W hSw; go_simp; try with_reducible rfl
      try simp only [Act.put, List.setIfInBounds_toArray, List.set_cons_zero, List.set_cons_succ]
      refine callH 14 rfl (by kernel_rfl) rfl (fun K hK => ?_)
      go_simp
      refine hK.out _ _ ⟨(World.grownBy_alloc we _ none).cell hH.1 (by simp), (World.grownBy_alloc we _ none).cell hH.2 (by simp)⟩ (fun hH => ?_)
      clear hK K
      try simp only [Act.put, List.setIfInBounds_toArray, List.set_cons_zero, List.set_cons_succ]
      refine callH 15 rfl (by kernel_rfl) rfl (fun K hK => ?_)
      refine op_push_row Try.underlying53 sh_info rfl (by decide) (by decide) we (.tmp 21) (.tmp 35) rfl w1.heap.size _ es (shardD (xm + 1, [xv])) [.int .i64 (xm + 1), .slice (some ⟨wd.heap.size, 0, none⟩) 1 1] _ rfl rfl (by intro u hu; simp at hu; rcases hu with rfl | rfl <;> rfl) rfl Hbl.out rfl (one_cells hB2 Hbk.out hzz Hcz.out) (by have := Hln.out; omega) rfl hB3 ?_
      intro v8 w8 hbl8 hg8 hat8
      have hbb : ∀ r, (Value.slice ua es.length uc).ownBlock = some r → w1.heap.size ≤ r := fun r e => (Hbl.out.lt r e).1
      have hne : ∀ e, (Value.slice ua es.length uc).ownBlock = some e → b ≠ e := fun e h => by have := hbb e h; omega
      refine hK.out _ _ ⟨hg8.cell hHe.1 (fun e => hne _ e.symm rfl), hg8.cell hHe.2 (fun e => hne _ e.symm rfl)⟩ (fun hH => ?_)
      clear hK K
      try simp only [Act.put, List.setIfInBounds_toArray, List.set_cons_zero, List.set_cons_succ]
      have Hbl8 := Lib.hid hbl8; clear hbl8
      have Hb8 := Lib.hid (Hbel.out.grown hg8 hB3 hbb)
      clear hg8 hat8 hne hbb e1
      refine takeH 16 (v := ?vvb2) rfl (by kernel_rfl) (by kernel_rfl) (by kernel_rfl) (fun _ _ _ h => h) hH rfl ?yvb2 ?rvb2
      case yvb2 => intro W hSw; go_simp; try with_reducible rfl
      try simp only [Act.put, List.setIfInBounds_toArray, List.set_cons_zero, List.set_cons_succ]
      refine wpAnyH_done (by kernel_rfl) ?_ _
      try simp only [Act.put]
      go_wp2
      go_roundw
      case rel => exact ⟨k + 1, by omega, by go_num, by rw [Hsu.out]; exact Hbl8.out, Hb8.out⟩
      case measure => simp [intOf]; omega
    · have hkl : k = l.length := by omega
      have htk : (shL l).take k = shL l := List.take_of_length_le (by rw [shL_len]; omega)
      rw [htk] at hbl
      clear htk
      obtain ⟨fq, hrd, _⟩ := hbl.rd
      obtain ⟨ua, uc, rfl, _⟩ := hbl.slice
      have HJ := Lib.hid (spec_l3Join n n (shL l) _ fq wr Hjk.out hrd)
      clear hbl hrd hkl
      have Hbel := Lib.hid hbel; clear hbel
      generalize hLm : (List.map shardD (shL l)).length = mm at *
      clear hLm
      go_wp2_with fail
      (with_reducible refine HJ.out.mono ?_)
      rintro e w5 ⟨z, rfl, hown, hb5⟩
      have Hb5 := Lib.hid (below_step Hb1.out hz1 (below_step Hbel.out hB hb5)); clear hb5
      obtain ⟨az, cz, rfl, hiz, _⟩ := hown.ints
      clear hown
      cases hj : joinB (n : Int) (n : Int) (shL l) with
      | false =>
        have Hj := Lib.hid (HB.out.trans hj); clear hj hiz
        go_wp2
        go_ret2
        exact ⟨by rw [Hj.out, Hno.out Hj.out]; rfl, Hb5.out⟩
      | true =>
        have hjl := Hjl.out hj
        have Hj := Lib.hid (HB.out.trans hj); clear hj
        have hv := Hyes.out Hj.out
        rw [getD_get (by omega)] at hv
        obtain ⟨bz, oz, rfl, hbz, hcz⟩ := hiz.cell (by omega)
        have hc0 := hcz 0 (by omega)
        clear hcz hiz
        rw [← hv, Nat.add_zero] at hc0
        clear hv Hyes Hjl
        generalize hD : (joinD (n : Int) (n : Int) (shL l)).length = dl at *
        clear hD
        have hl0 : (0 : Int) < dl := by omega
        have hl1 : 0 < dl := by omega
        go_wp2
        go_ret2
        exact ⟨by rw [Hj.out]; rfl, Hb5.out⟩
end Go.Proofs.Ytkndndcjchlpdab
