/- The library's test whether two lists of ints are the same, and its copy of a list of ints, by walks of their texts; conditions: the lists have fewer than 2^40 elements. -/
import Derived.Test.YtejpoeejhmgphaaRows
import Derived.Test.YtejpoeejhmgphaaBase
import Derived.Test.YtejpoeejhmgphaaApp
import Derived.Deep.QuietTactic
import Derived.BigQuiet
import Derived.WalkSpells
namespace Go.Proofs.Ytejpoeejhmgphaa
open Go.RowKit

def EqTo (xs ys : List Int) (k : Nat) : Prop := ∀ j (h : j < xs.length) (h' : j < ys.length), j < k → xs[j] = ys[j]
theorem eqTo_step {xs ys : List Int} {k : Nat} (h : EqTo xs ys k) (hk : k < xs.length) (hk' : k < ys.length) (e : xs[k] = ys[k]) : EqTo xs ys (k + 1) := by
  intro j hj hj' hjk
  by_cases ej : j = k
  · subst ej; exact e
  · exact h j hj hj' (by omega)
theorem eqTo_all {xs ys : List Int} {k : Nat} (h : EqTo xs ys k) (hk : xs.length ≤ k) (hl : xs.length = ys.length) : xs = ys :=
  List.ext_getElem hl fun j h1 h2 => h j h1 h2 (by omega)

theorem lib_Equal (a a' : Option Addr) (c c' : Nat) (xs ys : List Int) (w : World) (hbig : xs.length ≤ 1099511627776) (hbig' : ys.length ≤ 1099511627776) (hc : IntsAt w a xs) (hc' : IntsAt w a' ys) :
    Calls Try.prog 75 #[.slice a xs.length c, .slice a' ys.length c'] w fun e w' => e = .returned (.bool (decide (xs = ys))) ∧ Drawn w w' := by
  by_cases hl : xs.length = ys.length
  · rcases hc.len with h0 | ⟨b, off, rfl, hb, hc⟩
    · have Hf := Lib.hid (show decide (xs = ys) = true from decide_eq_true (List.ext_getElem hl fun j h1 h2 => by omega))
      have hl0 : xs.length = 0 := by omega
      rw [← hl, hl0]
      go_enter Try.func75, Try.ntmps75
      go_wp2
      go_loopw [13] (fun i wr => i = .int .i64 0 ∧ Drawn w wr) (fun _ _ => 0)
      case atStart => exact ⟨rfl, Drawn.refl _⟩
      case round =>
        obtain ⟨rfl, hdr⟩ := hrel
        go_wp2
        go_ret
        exact ⟨ret_bool Hf.out.symm, hdr⟩
    · rcases hc'.len with h0 | ⟨b', off', rfl, hb', hc'⟩
      · have Hf := Lib.hid (show decide (xs = ys) = true from decide_eq_true (List.ext_getElem hl fun j h1 h2 => by omega))
        have hl0 : xs.length = 0 := by omega
        rw [← hl, hl0]
        go_enter Try.func75, Try.ntmps75
        go_wp2
        go_loopw [13] (fun i wr => i = .int .i64 0 ∧ Drawn w wr) (fun _ _ => 0)
        case atStart => exact ⟨rfl, Drawn.refl _⟩
        case round =>
          obtain ⟨rfl, hdr⟩ := hrel
          go_wp2
          go_ret
          exact ⟨ret_bool Hf.out.symm, hdr⟩
      have Hl := Lib.hid hl
      rw [← hl]
      clear hl
      have Hc := Lib.hid hc; clear hc
      have Hc' := Lib.hid hc'; clear hc'
      go_enter Try.func75, Try.ntmps75
      go_wp2
      go_loopw [13] (fun i wr => ∃ k : Nat, k ≤ xs.length ∧ i = .int .i64 k ∧ EqTo xs ys k ∧ Drawn w wr) (fun i _ => xs.length - (intOf i).toNat)
      case atStart => exact ⟨0, by omega, rfl, fun j _ _ h => by omega, Drawn.refl _⟩
      case round =>
        obtain ⟨k, hk, rfl, heq, hdr⟩ := hrel
        have Heq := Lib.hid heq; clear heq
        by_cases hlt : k < xs.length
        · have hlt' : k < ys.length := by have := Hl.out; omega
          have c1 := (hdr.cell _).trans (Hc.out k hlt)
          have c2 := (hdr.cell _).trans (Hc'.out k hlt')
          by_cases he : xs[k] = ys[k]
          · have Hs := Lib.hid (eqTo_step Heq.out hlt hlt' he)
            rw [← he] at c2
            clear he
            generalize xs[k] = x at *
            go_wp2_with fail
            go_quiet (fail)
            go_wp2
            go_roundw
            case rel => exact ⟨k + 1, by omega, by go_num, Hs.out, hdr.drewN _⟩
            case measure => simp [intOf]; omega
          · have Hf := Lib.hid (show decide (xs = ys) = false from decide_eq_false fun e => he (by subst e; rfl))
            have hq : (xs[k] != ys[k]) = true := by simpa using he
            clear he
            generalize xs[k] = x at *
            generalize ys[k] = y at *
            go_wp2_with fail
            go_quiet (fail)
            go_wp2
            go_ret
            exact ⟨ret_bool Hf.out.symm, hdr.drewN _⟩
        · have Hf := Lib.hid (show decide (xs = ys) = true from decide_eq_true (eqTo_all Heq.out (by omega) Hl.out))
          go_wp2
          go_ret
          exact ⟨ret_bool Hf.out.symm, hdr⟩
  · have Hf := Lib.hid (show decide (xs = ys) = false from decide_eq_false fun e => hl (by rw [e]))
    have hq : ((xs.length : Int) != (ys.length : Int)) = true := by simp; omega
    clear hc hc'
    go_enter Try.func75, Try.ntmps75
    go_wp2
    go_ret
    exact ⟨ret_bool Hf.out.symm, Drawn.refl _⟩

theorem lib_Clone (hT : IntT Try.prog 23 3) (pa : Option Addr) (pc : Nat) (ps : List Int) (w : World) (hbp : ps.length ≤ 1099511627776) (hs : SrcAt w pa pc ps) (hi : IntsAt w pa ps) :
    Calls Try.prog 76 #[.slice pa ps.length pc] w fun e w' => ∃ v, e = .returned v ∧ Own 3 w' w.heap.size v ps ∧ Below w.heap.size w w' := by
  have hq : ∀ (w : World) (a : Option Addr) (n c n' c' : Nat), (binOp .eql 23 (.slice a n c) (.slice none n' c')).run Try.prog w = .ok (.bool a.isNone) w := fun w a n c n' c' => Lib.run_eql_slice_nil w _ _ a n c n' c' Try.underlying23
  cases pa with
  | none =>
    have hp0 : ps = [] := by
      rcases hi with h | ⟨b, off, e, _⟩
      · exact h
      · cases e
    subst hp0
    clear hs hi
    go_enter Try.func76, Try.ntmps76
    go_wp2
    go_ret
    exact ⟨_, rfl, Own.nil _ _ _, Below.refl _ _⟩
  | some ad =>
    have hb2 : Below w.heap.size w (w.alloc (.cells #[] 3)) := (Below.refl _ _).alloc (Nat.le_refl _) _
    have ho := own_empty 3 w (Nat.le_refl _)
    have hsrc : SrcAt (w.alloc (.cells #[] 3)) (some ad) pc ps := by
      rcases hs with h | ⟨ad', e, hc⟩
      · exact .inl h
      · cases e
        refine .inr ⟨ad, rfl, fun j hj => ?_⟩
        obtain ⟨b, off, e, hb, _⟩ := hi.cell (by omega)
        cases e
        have := hc j hj
        rw [addr_add'] at this ⊢
        exact (hb2.cell (p := ⟨b, off + j, none⟩) hb).trans this
    have hzs : (w.alloc (.cells #[] 3)).heap.size = w.heap.size + 1 := by simp
    have Ho := Lib.hid ho; clear ho
    have Hsrc := Lib.hid hsrc; clear hsrc
    have Hb2 := Lib.hid hb2; clear hb2 hs hi
    go_enter Try.func76, Try.ntmps76
    go_wp2_with (at_builtin; refine wpList_appI hT rfl _ _ rfl w.heap.size (.slice (some ⟨w.heap.size, 0, none⟩) 0 0) [] ps _ _ rfl Ho.out rfl Hsrc.out (by simp; omega) (by rw [hzs]; omega) ?_; intro v5 w5 hown hg5; (rw [List.nil_append] at hown))
    go_ret
    exact ⟨_, rfl, hown, Hb2.out.grown hg5 (by omega) (fun g e => by cases e; exact Nat.le_refl _)⟩

end Go.Proofs.Ytejpoeejhmgphaa
