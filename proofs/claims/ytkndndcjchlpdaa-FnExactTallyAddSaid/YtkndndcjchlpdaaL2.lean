/- What the laws' helpers that mark a list of integers and look the marks up answer, each by a walk of its text; condition: a list has at most 2^40 elements. -/
import Derived.Test.YtkndndcjchlpdaaRows
import Derived.Test.YtkndndcjchlpdaaBase
import Derived.Deep.QuietTactic
import Derived.BigQuiet
namespace Go.Proofs.Ytkndndcjchlpdaa
open Go.RowKit

/-- The marks k, k+1, .. -/
def markL (k n : Nat) : List Int := (List.range n).map (fun j => ((k + j : Nat) : Int))
theorem markL_len (k n : Nat) : (markL k n).length = n := by simp [markL]
theorem markL_get (k n j : Nat) (h : j < (markL k n).length) : (markL k n)[j] = ((k + j : Nat) : Int) := by simp [markL]
theorem markL_snoc (k n : Nat) : markL k (n + 1) = markL k n ++ [((k + n : Nat) : Int)] := by simp [markL, List.range_succ]
/-- i elements are marked. -/
def markU (xs : List Int) (k i : Nat) : List Int := markL k i ++ xs.drop i
theorem markU_len {xs : List Int} {k i : Nat} (h : i ≤ xs.length) : (markU xs k i).length = xs.length := by simp [markU, markL_len]; omega
theorem markU_zero (xs : List Int) (k : Nat) : markU xs k 0 = xs := by simp [markU, markL]
theorem markU_all (xs : List Int) (k : Nat) : markU xs k xs.length = markL k xs.length := by simp [markU]
theorem markU_step {xs : List Int} {k i : Nat} (h : i < xs.length) : (markU xs k i).set i ((k : Int) + (i : Int)) = markU xs k (i + 1) := by
  unfold markU
  rw [← Int.natCast_add, List.set_append, if_neg (by rw [markL_len]; omega), markL_len, Nat.sub_self, markL_snoc, List.append_assoc, List.drop_eq_getElem_cons h]
  rfl

/-- What is made later lies apart. -/
theorem own_apart {E E' : TypeId} {w w' : World} {B B' : Nat} {v v' : Value} {xs ys : List Int} (h : Own E w B v xs) (h' : Own E' w' B' v' ys) (hB : w.heap.size ≤ B') : (v.ownBlock = none ∨ v.ownBlock ≠ v'.ownBlock) ∧ (v'.ownBlock = none ∨ v'.ownBlock ≠ v.ownBlock) := by
  cases e : v.ownBlock with
  | none => exact ⟨.inl rfl, by cases e' : v'.ownBlock <;> simp⟩
  | some g =>
    have h1 := (h.lt g e).2
    cases e' : v'.ownBlock with
    | none => exact ⟨.inr (by simp), .inl rfl⟩
    | some g' =>
      have h2 := (h'.lt g' e').1
      exact ⟨.inr (by simp; omega), .inr (by simp; omega)⟩
theorem Own.at {E : TypeId} {w : World} {B n c : Nat} {a : Option Addr} {xs : List Int} (h : Own E w B (.slice a n c) xs) : IntsAt w a xs := by
  obtain ⟨a', c', e, hi, _⟩ := h.ints
  simp only [Value.slice.injEq] at e
  obtain ⟨rfl, _, _⟩ := e
  exact hi
theorem Own.cap {E : TypeId} {w : World} {B n c : Nat} {a : Option Addr} {xs : List Int} (h : Own E w B (.slice a n c) xs) : xs.length ≤ c := by
  rcases Nat.eq_zero_or_pos xs.length with h0 | h0
  · omega
  · obtain ⟨g, cap, e, _, _, hc, _⟩ := h.row h0
    simp only [Value.slice.injEq] at e
    omega
theorem below_row {a w w' : World} {B B' : Nat} {E : TypeId} {v : Value} {xs : List Int} (h : Below B a w) (hB : B ≤ w.heap.size) (hg : w.grownBy w' v.ownBlock) (ho : Own E w B' v xs) (hB' : B ≤ B') : Below B a w' :=
  h.grown hg hB (fun g e => Nat.le_trans hB' (ho.lt g e).1)
theorem ret_num {a b : Int} (h : a = b) : Value.int .i64 a = .int .i64 b := by rw [h]

theorem laws_markIntS (v : Value) (xs : List Int) (k B : Nat) (w : World) (hlen : xs.length ≤ 1099511627776) (hk : k ≤ 1099511627776) (hown : Own 3 w B v xs) :
    Calls Try.prog 32 #[v, .int .i64 k] w fun e w' => e = .returned (.int .i64 ((k + xs.length : Nat) : Int)) ∧ Own 3 w' B v (markL k xs.length) ∧ w.grownBy w' v.ownBlock := by
  obtain ⟨a, cap, rfl, _, _⟩ := hown.ints
  have Hown := Lib.hid hown; clear hown
  go_enter Try.func32, Try.ntmps32
  go_wp2
  go_loopw [1, 5] (fun vk vi wr => ∃ i : Nat, i ≤ xs.length ∧ vk = .int .i64 ((k + i : Nat) : Int) ∧ vi = .int .i64 i ∧ Own 3 wr B (.slice a xs.length cap) (markU xs k i) ∧ w.grownBy wr (Value.slice a xs.length cap).ownBlock) (fun _ vi _ => xs.length - (intOf vi).toNat)
  case atStart => exact ⟨0, by omega, rfl, rfl, by rw [markU_zero]; exact Hown.out, World.grownBy.refl _ _⟩
  case round =>
    obtain ⟨i, hi, rfl, rfl, how, hgr⟩ := hrel
    have hul := markU_len (k := k) hi
    by_cases hlt : (i : Int) < xs.length
    · obtain ⟨g, cap', hv', hgB, hgs, hcap, hcells, hfz⟩ := how.row (by omega)
      simp only [Value.slice.injEq] at hv'
      obtain ⟨rfl, hl', rfl⟩ := hv'
      have hix : i < xs.length := by omega
      have hold := hcells i (by omega)
      have hfr := hfz i
      have hst := Lib.hid (how.store (by omega) i ((k : Int) + (i : Int)))
      have Hgr := Lib.hid hgr; clear hgr hcells hfz how hl'
      go_wp2
      go_roundw
      case rel =>
        obtain ⟨hs1, hs2⟩ := hst.out
        rw [markU_step hix] at hs1
        exact ⟨i + 1, by omega, ret_num (by omega), ret_num (by omega), hs1, grownBy_trans Hgr.out hs2⟩
      case measure => simp [intOf]; omega
    · have hxi : i = xs.length := by omega
      subst hxi
      have How := Lib.hid how; clear how
      have Hgr := Lib.hid hgr; clear hgr
      go_wp2
      go_ret
      exact ⟨rfl, by rw [← markU_all]; exact How.out, Hgr.out⟩

theorem laws_heldIntS (a : Option Addr) (cap k n : Nat) (w : World) (hlen : n ≤ 1099511627776) (hk : k ≤ 1099511627776) (hc : IntsAt w a (markL k n)) :
    Calls Try.prog 65 #[.slice a n cap, .int .i64 k] w fun e w' => e = .returned (.int .i64 ((k + n : Nat) : Int)) ∧ Drawn w w' := by
  have hl := markL_len k n
  have hg := markL_get k n
  generalize markL k n = xs at hc hl hg
  subst hl
  rcases hc.len with h0 | ⟨b, off, rfl, hb, hc⟩
  all_goals
    go_enter Try.func65, Try.ntmps65
    go_wp2
    go_loopw [1, 5] (fun vk vi wr => ∃ i : Nat, i ≤ xs.length ∧ vk = .int .i64 ((k + i : Nat) : Int) ∧ vi = .int .i64 i ∧ Drawn w wr) (fun _ vi _ => xs.length - (intOf vi).toNat)
    case atStart => exact ⟨0, by omega, rfl, rfl, Drawn.refl _⟩
    case round =>
      obtain ⟨i, hi, rfl, rfl, hwr⟩ := hrel
      by_cases hlt : i < xs.length
      · first
        | (exfalso; omega)
        | (have hcell := (hwr.cell ⟨b, off + i, none⟩).trans (hc i hlt)
           rw [hg i hlt] at hcell
           have Hc := Lib.hid hc; clear hc
           have Hg := Lib.hid hg; clear hg
           have e2 : (((k + i : Nat) : Int) != ((k + i : Nat) : Int)) = false := by rw [bne_eq_false_iff_eq]
           go_wp2
           go_roundw
           case rel => exact ⟨i + 1, by omega, ret_num (by omega), ret_num (by omega), hwr⟩
           case measure => simp [intOf]; omega)
      · go_wp2
        go_ret
        exact ⟨ret_int (by omega), hwr⟩

end Go.Proofs.Ytkndndcjchlpdaa
