/- Whether shards have different numbers and the right lengths, as impl reckons it, by a walk of its text; conditions: the lists are short. -/
import Derived.Test.YtkndndcjchlpdabB3
import Derived.Test.YtkndndcjchlpdabL3
namespace Go.Proofs.Ytkndndcjchlpdab
open Go.RowKit

def seenB (L : List Sh) (k : Nat) (n : Nat) : Bool := (List.range k).any fun j => decide (xsOf L j = (n : Int))
def seenC (L : List Sh) (k : Nat) : Array Value := arrC 9 fun n => .bool (seenB L k n)
theorem seen0 (L : List Sh) : seenC L 0 = #[.bool false, .bool false, .bool false, .bool false, .bool false, .bool false, .bool false, .bool false, .bool false] := rfl
theorem seenB_succ (L : List Sh) (k n : Nat) : seenB L (k + 1) n = (seenB L k n || decide (xsOf L k = (n : Int))) := by
  unfold seenB; rw [List.range_succ, List.any_append]; simp
theorem seenC_set {L : List Sh} {k n : Nat} (h : xsOf L k = (n : Int)) : (seenC L k).setIfInBounds n (.bool true) = seenC L (k + 1) := by
  unfold seenC
  rw [arrC_set]
  congr 1
  funext i
  rw [seenB_succ, h]
  by_cases e : i = n
  · subst e; simp
  · have e' : ¬ (n : Int) = (i : Int) := by omega
    simp [e, e']
theorem newAt_seen {L : List Sh} {k n : Nat} (h : xsOf L k = (n : Int)) : newAt L k = !seenB L k n := by
  unfold newAt seenB allB
  rw [h, List.not_any_eq_all_not]
  congr 1
  funext j
  by_cases e : xsOf L j = (n : Int) <;> simp [e]
theorem shAt_num {cols : Nat} {L : List Sh} {k : Nat} (hk : k < L.length) (h : ¬ (1 ≤ L[k].1 ∧ L[k].1 ≤ 8)) : shAt cols L k = false := by
  unfold shAt okS; rw [getS hk, decide_eq_false h]; simp
theorem shAt_seen {cols : Nat} {L : List Sh} {k n : Nat} (hk : k < L.length) (hn : L[k].1 = (n : Int)) (h : seenB L k n = true) : shAt cols L k = false := by
  unfold shAt; rw [newAt_seen (n := n) (by unfold xsOf; rw [getS hk]; exact hn), h]; simp
theorem shAt_len {cols : Nat} {L : List Sh} {k : Nat} (hk : k < L.length) (h : ¬ L[k].2.length = cols) : shAt cols L k = false := by
  unfold shAt okS; rw [getS hk, decide_eq_false h]; simp
theorem shAt_sym {cols : Nat} {L : List Sh} {k : Nat} (hk : k < L.length) (h : L[k].2.all symB = false) : shAt cols L k = false := by
  unfold shAt okS; rw [getS hk, h]; simp
theorem shAt_yes {cols : Nat} {L : List Sh} {k n : Nat} (hk : k < L.length) (hn : L[k].1 = (n : Int)) (h1 : 1 ≤ L[k].1 ∧ L[k].1 ≤ 8) (h : seenB L k n = false) (hl : L[k].2.length = cols) (hs : L[k].2.all symB = true) : shAt cols L k = true := by
  unfold shAt okS; rw [newAt_seen (n := n) (by unfold xsOf; rw [getS hk]; exact hn), h, getS hk, decide_eq_true h1, decide_eq_true hl, hs]; rfl

set_option maxHeartbeats 1000000 in
theorem impl_areShards (size need : Nat) (L : List Sh) (v : Value) (fp : List Nat) (w : World) (hs1 : 1 ≤ size) (hs2 : size ≤ 12) (hn1 : 1 ≤ need) (hn2 : need ≤ 8) (hbig : L.length ≤ 1048576) (hin : ∀ s ∈ L, s.2.length ≤ 1048576) (hr : Rd w (.l (L.map shardD)) v fp) :
    Calls Try.prog 58 #[.int .i64 (size : Int), .int .i64 (need : Int), v] w fun e w' => e = .returned (.bool (lenB need L && shsB ((size + need - 1) / need) L)) ∧ Below w.heap.size w w' := by
  obtain ⟨a, cap, rfl⟩ := hr.slice
  rw [List.length_map] at *
  have Hr := Lib.hid hr; clear hr
  have Hin := Lib.hid hin; clear hin
  have Hcols := Lib.hid (fun w => impl_columnsOf size need w hs1 hs2 hn1 hn2)
  obtain ⟨cols, hcols⟩ : ∃ cols, (size + need - 1) / need = cols := ⟨_, rfl⟩
  rw [hcols] at Hcols ⊢
  clear hcols
  by_cases hl1 : L.length < need
  · have Hf := Lib.hid (show (lenB need L && shsB cols L) = false by unfold lenB; rw [decide_eq_false (by omega)]; rfl)
    go_enter Try.func58, Try.ntmps58
    go_wp2
    go_ret
    exact ⟨ret_bool Hf.out.symm, Below.refl _ _⟩
  by_cases hl2 : 8 < (L.length : Int)
  · have Hf := Lib.hid (show (lenB need L && shsB cols L) = false by unfold lenB; rw [decide_eq_false (by omega)]; rfl)
    have hl1' : need ≤ L.length := by omega
    go_enter Try.func58, Try.ntmps58
    go_wp2
    go_ret
    exact ⟨ret_bool Hf.out.symm, Below.refl _ _⟩
  have Hf := Lib.hid (show (lenB need L && shsB cols L) = shsB cols L by unfold lenB; rw [decide_eq_true (by omega)]; rfl)
  have hl1' : need ≤ L.length := by omega
  have hl1d : decide (L.length < need) = false := decide_eq_false hl1
  have hl2d : decide (8 < (L.length : Int)) = false := decide_eq_false hl2
  go_enter Try.func58, Try.ntmps58
  go_wp2
  rw [← seen0 L]
  go_loopw [21] (fun i wr => ∃ k : Nat, k ≤ L.length ∧ i = .int .i64 k ∧ Str wr w.heap.size 84 (seenC L k) ∧ Upto (shAt cols L) k ∧ Below w.heap.size w wr) (fun i _ => L.length - (intOf i).toNat)
  case atStart => exact ⟨0, by omega, rfl, Str.new w 84 (seenC L 0), upto_zero _, (Below.refl _ w).alloc (Nat.le_refl _) _⟩
  case round =>
    obtain ⟨k, hk, rfl, s0, hup, hbel⟩ := hrel
    by_cases hlt : k < L.length
    · obtain ⟨g, off, rfl, hg, hat⟩ := shards_at (Hr.out.underB hbel (fun r hr => Hr.out.lt r hr)) (by omega)
      obtain ⟨av, cv, C0, C1, I1⟩ := hat k hlt
      have hxs := Hin.out _ (List.getElem_mem hlt)
      clear hat
      have hsz := s0.lt
      have Hbel := Lib.hid hbel; clear hbel
      have Hup := Lib.hid hup; clear hup
      have Hs0 := Lib.hid s0; clear s0
      have hnm := fun w => impl_isShardNumber L[k].1 w
      by_cases hv : 1 ≤ L[k].1 ∧ L[k].1 ≤ 8
      · rw [decide_eq_true hv] at hnm
        have Hnm := Lib.hid hnm; clear hnm
        obtain ⟨n, hn⟩ : ∃ n : Nat, L[k].1 = (n : Int) := ⟨L[k].1.toNat, by omega⟩
        have hn9 : n < 9 := by omega
        have Hv := Lib.hid hv; clear hv
        have Hn := Lib.hid hn
        rw [hn] at C0 Hnm
        clear hn
        have hxa := fun w' => run_indexAt_arr (P := Try.prog) (B := w.heap.size) (o := 0) Try.underlying84 (s := 1) (by kernel_rfl) hn9 w'
        simp only [Nat.zero_add, Nat.mul_one] at hxa
        have hne1 : w.heap.size ≠ wr.heap.size := by omega
        have hne2 : wr.heap.size ≠ w.heap.size := by omega
        have hcell := Hs0.out.cell n (v := .bool (seenB L k n)) (arrC_get hn9)
        have hfr := Hs0.out.frozen n
        by_cases hse : seenB L k n = true
        · rw [hse] at hcell
          have Hbad := Lib.hid (shAt_seen (cols := cols) hlt Hn.out hse)
          clear hse
          go_wp2_with fail
          refine (Hnm.out _).mono ?_
          rintro e w' ⟨rfl, rfl⟩
          go_wp2
          go_ret
          exact ⟨ret_bool (by rw [Hf.out]; exact (allB_no hlt Hbad.out).symm), Hbel.out.alloc Hbel.out.size _⟩
        · rw [Bool.not_eq_true] at hse
          rw [hse] at hcell
          have Hse := Lib.hid hse; clear hse
          go_wp2_with fail
          refine (Hnm.out _).mono ?_
          rintro e w' ⟨rfl, rfl⟩
          go_wp2_with fail
          have Hvs : ∃ vs, L[k].2 = vs := ⟨_, rfl⟩
          obtain ⟨vs, hvs⟩ := Hvs
          rw [hvs] at C1 I1 hxs
          have Has := Lib.hid (fun W h => impl_areSymbols av cv vs W (by omega) h)
          have hia : IntsAt (wr.alloc (.cells #[.int .i64 (n : Int), .slice av vs.length cv] 55)) av vs := I1.below ((Below.refl _ wr).alloc (Nat.le_refl _) _)
          have Hia := Lib.hid hia; clear hia I1
          have Hbel2 := Lib.hid (Hbel.out.alloc Hbel.out.size (.cells #[.int .i64 (n : Int), .slice av vs.length cv] 55))
          have Hs2 := Lib.hid (Hs0.out.alloc (.cells #[.int .i64 (n : Int), .slice av vs.length cv] 55))
          have hc0 := (Str.new wr 55 #[.int .i64 (n : Int), .slice av vs.length cv]).cell 0 (v := .int .i64 (n : Int)) rfl
          have hc1 := (Str.new wr 55 #[.int .i64 (n : Int), .slice av vs.length cv]).cell 1 (v := .slice av vs.length cv) rfl
          have Hvs := Lib.hid hvs
          rw [hvs]
          clear hvs
          by_cases hcl : vs.length = cols
          · have hq : ((vs.length : Int) != (cols : Int)) = false := by rw [hcl]; simp
            have Hcl := Lib.hid hcl
            by_cases hsy : vs.all symB = true
            · have hay := fun W h => Has.out W h
              rw [hsy] at hay
              have Hay := Lib.hid hay; clear hay
              have Hok := Lib.hid (shAt_yes (cols := cols) hlt Hn.out Hv.out Hse.out (by rw [Hvs.out]; exact hcl) (by rw [Hvs.out]; exact hsy))
              clear hcl hsy hcell hfr
              go_quiet ((first | (go_at_call 68; exact Calls.quiet_of_same (turned (Hcols.out _))) | (go_at_call 66; exact Calls.quiet_of_same (turned (Hay.out _ Hia.out)))))
              have Hb5 := Lib.hid (below_drewN Hbel2.out nq)
              have hs5 : Str ((wr.alloc (.cells #[.int .i64 (n : Int), .slice av vs.length cv] 55)).drewN nq) w.heap.size 84 (seenC L k) := Hs2.out
              have hc5 : ((wr.alloc (.cells #[.int .i64 (n : Int), .slice av vs.length cv] 55)).drewN nq).cell? ⟨wr.heap.size, 0, none⟩ = some (.int .i64 (n : Int)) := hc0
              clear hc0 hc1 C0 C1
              generalize (wr.alloc (.cells #[.int .i64 (n : Int), .slice av vs.length cv] 55)).drewN nq = W5 at *
              have hcell := hs5.cell n (v := .bool (seenB L k n)) (arrC_get hn9)
              have hfr := hs5.frozen n
              have Hs5 := Lib.hid hs5; clear hs5
              go_wp2
              go_roundw
              case rel =>
                refine ⟨k + 1, by omega, by go_num, ?_, upto_step Hup.out Hok.out, Hb5.out.setCell (p := ⟨w.heap.size, n, none⟩) (Nat.le_refl _) _⟩
                have := Hs5.out.set n (.bool true)
                rwa [seenC_set (show xsOf L k = (n : Int) by unfold xsOf; rw [getS hlt]; exact Hn.out)] at this
              case measure => simp [intOf]; omega
            · rw [Bool.not_eq_true] at hsy
              have hay := fun W h => Has.out W h
              rw [hsy] at hay
              have Hay := Lib.hid hay; clear hay
              have Hbad := Lib.hid (shAt_sym (cols := cols) hlt (by rw [Hvs.out]; exact hsy))
              clear hcl hsy hcell hfr
              go_quiet ((first | (go_at_call 68; exact Calls.quiet_of_same (turned (Hcols.out _))) | (go_at_call 66; exact Calls.quiet_of_same (turned (Hay.out _ Hia.out)))))
              go_wp2
              go_ret
              exact ⟨ret_bool (by rw [Hf.out]; exact (allB_no hlt Hbad.out).symm), below_drewN Hbel2.out _⟩
          · have hq : ((vs.length : Int) != (cols : Int)) = true := by simp; omega
            have Hbad := Lib.hid (shAt_len (cols := cols) hlt (by rw [Hvs.out]; exact hcl))
            clear hcl hcell hfr
            go_quiet ((go_at_call 68; exact Calls.quiet_of_same (turned (Hcols.out _))))
            go_wp2
            go_ret
            exact ⟨ret_bool (by rw [Hf.out]; exact (allB_no hlt Hbad.out).symm), below_drewN Hbel2.out _⟩
      · rw [decide_eq_false hv] at hnm
        have Hnm := Lib.hid hnm; clear hnm
        have Hbad := Lib.hid (shAt_num (cols := cols) hlt hv)
        clear hv
        go_wp2_with fail
        refine (Hnm.out _).mono ?_
        rintro e w' ⟨rfl, rfl⟩
        go_wp2
        go_ret
        exact ⟨ret_bool (by rw [Hf.out]; exact (allB_no hlt Hbad.out).symm), Hbel.out.alloc Hbel.out.size _⟩
    · have Hs := Lib.hid (show shsB cols L = true from allB_yes hup (by omega))
      go_wp2
      go_ret
      exact ⟨ret_bool (by rw [Hf.out]; exact Hs.out.symm), hbel⟩

end Go.Proofs.Ytkndndcjchlpdab
