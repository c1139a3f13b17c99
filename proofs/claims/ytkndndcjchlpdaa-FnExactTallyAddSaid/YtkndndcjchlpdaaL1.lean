/- What the helpers of the laws answer (copies, comparisons, subsets of numbers), each by a walk of its text; conditions: a list that is read has fewer than 2^40 elements. -/
import Derived.Test.YtkndndcjchlpdaaRows
import Derived.Test.YtkndndcjchlpdaaBase
import Derived.Deep.QuietTactic
import Derived.BigQuiet
namespace Go.Proofs.Ytkndndcjchlpdaa
open Go.RowKit

theorem TI : IntT Try.prog 49 3 := ⟨Try.underlying49, by kernel_rfl⟩

theorem laws_toIntS (a : Option Addr) (cap : Nat) (xs : List Int) (w : World) (hbig : xs.length ≤ 1099511627776) (hc : IntsAt w a xs) :
    Calls Try.prog 27 #[.slice a xs.length cap] w fun e w' => ∃ v, e = .returned v ∧ Own 3 w' w.heap.size v xs ∧ Below w.heap.size w w' := by
  have hmk : ∀ w, (Instr.makeSlice 49 (.int .i64 (xs.length : Int)) (.int .i64 (xs.length : Int))).run Try.prog w = .ok (.slice (some ⟨w.heap.size, 0, none⟩) xs.length xs.length) (w.alloc (.cells (madeCells #[.int .i64 0] xs.length) 3)) :=
    fun w => run_make_row' 49 3 (.int .i64 0) 8 TI.sl TI.info rfl .i64 .i64 xs.length (by omega) (by omega) w
  rcases hc.len with h0 | ⟨b, off, rfl, hb, hc⟩
  all_goals
    go_enter Try.func27, Try.ntmps27
    go_wp2
    go_loopw [4] (fun i wr => ∃ k : Nat, k ≤ xs.length ∧ i = .int .i64 k ∧ wr.rowIs w.heap.size 3 xs.length (filled xs k) ∧ Below w.heap.size w wr) (fun i _ => xs.length - (intOf i).toNat)
    case atStart => exact ⟨0, by omega, rfl, filled_zero _ _ _, (Below.refl _ _).alloc (Nat.le_refl _) _⟩
    case round =>
      obtain ⟨k, hk, rfl, hrow, hbel⟩ := hrel
      have Hmk := Lib.hid hmk; clear hmk
      by_cases hlt : k < xs.length
      · first
        | (exfalso; omega)
        | (have hcell := (hbel.cell (p := ⟨b, off + k, none⟩) hb).trans (hc k hlt)
           have hold := hrow.cell hlt
           have hfr := hrow.frozen k
           have Hc := Lib.hid hc; clear hc
           go_wp2
           go_roundw
           case rel => exact ⟨k + 1, by omega, by go_num, filled_step hrow hlt, hbel.setCell (Nat.le_refl _) _⟩
           case measure => simp [intOf]; omega)
      · go_wp2
        go_ret
        exact ⟨_, rfl, filled_own hrow (by omega) (Nat.le_refl _) hbig, hbel⟩

def eqUpto (xs ys : List Int) (k : Nat) : Prop := ∀ j, j < k → xs.getD j 0 = ys.getD j 0
theorem eqUpto_zero (xs ys : List Int) : eqUpto xs ys 0 := fun _ h => by omega
theorem eqUpto_step {xs ys : List Int} {k : Nat} (h : eqUpto xs ys k) (h1 : k < xs.length) (h2 : k < ys.length) (e : xs[k] = ys[k]) : eqUpto xs ys (k + 1) := by
  intro j hj
  by_cases ej : j = k
  · subst ej; rw [getD_get h1, getD_get h2, e]
  · exact h j (by omega)
def eqB (xs ys : List Int) : Bool := decide (xs = ys)
theorem eqB_yes {xs ys : List Int} {k : Nat} (h : eqUpto xs ys k) (hl : xs.length = ys.length) (hk : xs.length ≤ k) : eqB xs ys = true := by
  refine decide_eq_true (List.ext_getElem hl fun j h1 h2 => ?_)
  have := h j (by omega)
  rwa [getD_get h1, getD_get h2] at this
theorem eqB_no {xs ys : List Int} {k : Nat} (h1 : k < xs.length) (h2 : k < ys.length) (e : ¬ xs[k] = ys[k]) : eqB xs ys = false := by
  refine decide_eq_false fun h => e ?_
  subst h; rfl
theorem eqB_len {xs ys : List Int} (hl : ¬ xs.length = ys.length) : eqB xs ys = false := decide_eq_false fun h => hl (by rw [h])

theorem laws_eqIntS (a a' : Option Addr) (cap cap' : Nat) (xs ys : List Int) (w : World) (hbig : xs.length ≤ 1099511627776) (_hbig' : ys.length ≤ 1099511627776) (hc : IntsAt w a xs) (hc' : IntsAt w a' ys) :
    Calls Try.prog 31 #[.slice a xs.length cap, .slice a' ys.length cap'] w fun e w' => e = .returned (.bool (eqB xs ys)) ∧ Drawn w w' := by
  by_cases hl : xs.length = ys.length
  · have hn1 : ((xs.length : Int) == (ys.length : Int)) = true := by rw [beq_iff_eq]; omega
    have hn2 : ((xs.length : Int) != (ys.length : Int)) = false := by rw [bne_eq_false_iff_eq]; omega
    have hle : ys.length ≤ xs.length := by omega
    have hge : xs.length ≤ ys.length := by omega
    have Hl := Lib.hid hl; clear hl
    rcases hc.len with h0 | ⟨b, off, rfl, hb, hc⟩ <;> rcases hc'.len with h0' | ⟨b', off', rfl, hb', hc'⟩
    all_goals
      go_enter Try.func31, Try.ntmps31
      go_wp2
      go_loopw [5] (fun i wr => ∃ k : Nat, k ≤ xs.length ∧ i = .int .i64 k ∧ eqUpto xs ys k ∧ Drawn w wr) (fun i _ => xs.length - (intOf i).toNat)
      case atStart => exact ⟨0, by omega, rfl, eqUpto_zero _ _, Drawn.refl _⟩
      case round =>
        obtain ⟨k, hk, rfl, hg, hwr⟩ := hrel
        by_cases hlt : k < xs.length
        · first
          | (exfalso; omega)
          | (have hlt' : k < ys.length := by omega
             have hcell := (hwr.cell ⟨b, off + k, none⟩).trans (hc k hlt)
             have hcell' := (hwr.cell ⟨b', off' + k, none⟩).trans (hc' k hlt')
             have Hc := Lib.hid hc; clear hc
             have Hc' := Lib.hid hc'; clear hc'
             by_cases e : xs[k] = ys[k]
             · have e1 : (xs[k] == ys[k]) = true := by rw [beq_iff_eq]; exact e
               have e2 : (xs[k] != ys[k]) = false := by rw [bne_eq_false_iff_eq]; exact e
               have He := Lib.hid e; clear e
               go_wp2
               go_quiet (fail)
               go_wp2
               go_roundw
               case rel => exact ⟨k + 1, by omega, by go_num, eqUpto_step hg hlt hlt' He.out, hwr.drewN _⟩
               case measure => simp [intOf]; omega
             · have e1 : (xs[k] == ys[k]) = false := by rw [beq_eq_false_iff_ne]; exact e
               have e2 : (xs[k] != ys[k]) = true := by rw [bne_iff_ne]; exact e
               have He := Lib.hid e; clear e
               go_wp2
               go_quiet (fail)
               go_wp2
               go_ret
               exact ⟨ret_bool (eqB_no hlt hlt' He.out).symm, hwr.drewN _⟩)
        · go_wp2
          go_ret
          exact ⟨ret_bool (eqB_yes hg Hl.out (by omega)).symm, hwr⟩
  · have hn1 : ((xs.length : Int) == (ys.length : Int)) = false := by rw [beq_eq_false_iff_ne]; omega
    have hn2 : ((xs.length : Int) != (ys.length : Int)) = true := by rw [bne_iff_ne]; omega
    go_enter Try.func31, Try.ntmps31
    go_wp2
    go_ret
    exact ⟨ret_bool (eqB_len hl).symm, Drawn.refl _⟩

theorem laws_eqIntS' (a a' : Option Addr) (cap cap' : Nat) (xs : List Int) (w : World) (hbig : xs.length ≤ 1099511627776) (hc : IntsAt w a xs) (hc' : IntsAt w a' xs) :
    Calls Try.prog 31 #[.slice a xs.length cap, .slice a' xs.length cap'] w fun e w' => e = .returned (.bool true) ∧ Drawn w w' := by
  have h := laws_eqIntS a a' cap cap' xs xs w hbig hbig hc hc'
  rw [show eqB xs xs = true from decide_eq_true rfl] at h
  exact h

def hasB (l : List Int) (n : Int) : Bool := decide (n ∈ l)
theorem hasB_yes {l : List Int} {k : Nat} (hk : k < l.length) : hasB l l[k] = true := decide_eq_true (List.getElem_mem hk)
theorem hasB_no {l : List Int} {n : Int} {k : Nat} (h : Pre (fun x => x != n) l k) (hk : l.length ≤ k) : hasB l n = false := by
  refine decide_eq_false fun hm => ?_
  obtain ⟨j, hj, e⟩ := List.mem_iff_getElem.1 hm
  have := h j hj (by omega)
  rw [e] at this; simp at this

def rangeF (p : Nat → Bool) (n : Nat) : List Int := ((List.range n).filter p).map (fun (i : Nat) => (i : Int))
theorem rangeF_zero (p : Nat → Bool) : rangeF p 0 = [] := rfl
theorem rangeF_yes {p : Nat → Bool} {n : Nat} (h : p n = true) : rangeF p (n + 1) = rangeF p n ++ [(n : Int)] := by simp [rangeF, List.range_succ, List.filter_append, h]
theorem rangeF_no {p : Nat → Bool} {n : Nat} (h : p n = false) : rangeF p (n + 1) = rangeF p n := by simp [rangeF, List.range_succ, List.filter_append, h]
theorem rangeF_len (p : Nat → Bool) (n : Nat) : (rangeF p n).length ≤ n := by
  unfold rangeF; rw [List.length_map]; exact Nat.le_trans (List.length_filter_le _ _) (by simp)
def bitB (b : Nat) (i : Nat) : Bool := b / 2 ^ i % 2 == 1
def halved (b k : Nat) : Nat := b / 2 ^ k
theorem halved_zero (b : Nat) : halved b 0 = b := by unfold halved; rw [Nat.pow_zero, Nat.div_one]
theorem halved_succ (b k : Nat) : halved b (k + 1) = halved b k / 2 := by unfold halved; rw [Nat.pow_succ, Nat.div_div_eq_div_mul]
theorem halved_le (b k : Nat) : halved b k ≤ b := Nat.div_le_self _ _

def commonTo (a b : List Int) (k : Nat) : List Int := (a.take k).filter (hasB b)
theorem commonTo_yes {a b : List Int} {k : Nat} (hk : k < a.length) (h : hasB b a[k] = true) : commonTo a b (k + 1) = commonTo a b k ++ [a[k]] := by
  unfold commonTo; rw [List.take_succ_eq_append_getElem hk, List.filter_append]; simp [h]
theorem commonTo_no {a b : List Int} {k : Nat} (hk : k < a.length) (h : hasB b a[k] = false) : commonTo a b (k + 1) = commonTo a b k := by
  unfold commonTo; rw [List.take_succ_eq_append_getElem hk, List.filter_append]; simp [h]
theorem commonTo_len (a b : List Int) (k : Nat) : (commonTo a b k).length ≤ k := Nat.le_trans (List.length_filter_le _ _) (List.length_take_le _ _)
def commonZ (a b : List Int) : List Int := commonTo a b a.length
theorem commonZ_eq (a b : List Int) : commonZ a b = a.filter (hasB b) := by unfold commonZ commonTo; rw [List.take_length]

